import Derived.Test.YtngcdlodcdgcaaaGreatZk31
namespace Go.Proofs.YtngcdlodcdgcaaaGreat.Cod.Ker
open Go.RowKit
def Rd (w : World) (ao : Option Addr) (n : Nat) (f : Nat -> Nat) : Prop :=
  (∀ i, f i < 256) /\ (0 < n -> ∃ b off, ao = some ⟨b, off, none⟩ /\ ∀ i, i < n -> w.cell? ⟨b, off + i, none⟩ = some (.int .u8 (f i : Int)))
def Own (w : World) (g n : Nat) (f : Nat -> Nat) : Prop := (∀ i, f i < 256) /\ w.rowIs g 5 n (fun i => .int .u8 (f i : Int))
def Off (ao : Option Addr) (g : Nat) : Prop := ∀ a, ao = some a -> a.block ≠ g
structure Only (g : Nat) (w w' : World) : Prop where
  os : w'.os = w.os
  tape : w'.tape = w.tape
  output : w'.output = w.output
  size : w.heap.size <= w'.heap.size
  block : ∀ k, k < w.heap.size -> k ≠ g -> w'.heap[k]? = w.heap[k]?
theorem Only.refl (g : Nat) (w : World) : Only g w w := ⟨rfl, rfl, rfl, Nat.le_refl _, fun _ _ _ => rfl⟩
theorem Only.trans {g : Nat} {a b c : World} (h : Only g a b) (k : Only g b c) : Only g a c :=
  ⟨k.os.trans h.os, k.tape.trans h.tape, k.output.trans h.output, Nat.le_trans h.size k.size, fun i hi hg => (k.block i (Nat.lt_of_lt_of_le hi h.size) hg).trans (h.block i hi hg)⟩
theorem Only.drew {g : Nat} {a w : World} (h : Only g a w) : Only g a w.drew := ⟨h.os, h.tape, h.output, h.size, h.block⟩
theorem Only.alloc {g : Nat} {a w : World} (h : Only g a w) (o : Obj) : Only g a (w.alloc o) :=
  h.trans ⟨rfl, rfl, rfl, by simp, fun k hk _ => Below.heap_alloc _ _ _ hk⟩
theorem Only.setCell {g : Nat} {a w : World} (h : Only g a w) (i : Nat) (u : Value) : Only g a (w.setCell ⟨g, i, none⟩ u) :=
  h.trans ⟨rfl, rfl, rfl, by simp [World.setCell], fun k _ hg => Below.heap_setCell _ _ _ _ (by simpa using hg)⟩
theorem Only.below {B g : Nat} {w w' : World} (h : Only g w w') (hB : B <= w.heap.size) (hg : B <= g) : Below B w w' :=
  ⟨h.os, h.tape, h.output, h.size, fun k hk => h.block k (by omega) (by omega)⟩
theorem Only.cell {g : Nat} {w w' : World} (h : Only g w w') {a : Addr} {v : Value} (hc : w.cell? a = some v) (ha : a.block ≠ g) : w'.cell? a = some v :=
  (World.cell?_of_block (h.block a.block (World.block_lt_of_cell? w a hc) ha)).trans hc
theorem below_step {B : Nat} {a b c : World} (h : Below B a b) (k : Below b.heap.size b c) (hB : B <= b.heap.size) : Below B a c := h.trans (k.mono hB)
theorem Rd.only {g : Nat} {w w' : World} {ao : Option Addr} {n : Nat} {f : Nat -> Nat} (h : Rd w ao n f) (ho : Only g w w') (hg : 0 < n -> Off ao g) : Rd w' ao n f := by
  refine ⟨h.1, fun hn => ?_⟩
  obtain ⟨b, off, rfl, hc⟩ := h.2 hn
  exact ⟨b, off, rfl, fun i hi => ho.cell (hc i hi) (hg hn ⟨b, off, none⟩ rfl)⟩
theorem Rd.lt {w : World} {ao : Option Addr} {n : Nat} {f : Nat -> Nat} (h : Rd w ao n f) (hn : 0 < n) : ∀ a, ao = some a -> a.block < w.heap.size := by
  obtain ⟨b, off, rfl, hc⟩ := h.2 hn
  rintro a ⟨⟩
  exact World.block_lt_of_cell? w _ (hc 0 hn)
theorem Rd.off {w : World} {ao : Option Addr} {n g : Nat} {f : Nat -> Nat} (h : Rd w ao n f) (hg : w.heap.size <= g) (hn : 0 < n) : Off ao g := fun a ha => by have := h.lt hn a ha; omega
theorem Own.lt {w : World} {g n : Nat} {f : Nat -> Nat} (h : Own w g n f) : g < w.heap.size := h.2.lt
theorem Own.congr {w : World} {g n : Nat} {f h : Nat -> Nat} (r : Own w g n f) (hb : ∀ i, h i < 256) (e : ∀ i, i < n -> f i = h i) : Own w g n h :=
  ⟨hb, r.2.congr fun i hi => by rw [e i hi]⟩
def upto (k : Nat) (f h : Nat -> Nat) (i : Nat) : Nat := if i < k then f i else h i
theorem upto_zero (f h : Nat -> Nat) : upto 0 f h = h := by funext i; simp [upto]
theorem upto_at (k : Nat) (f h : Nat -> Nat) : upto k f h k = h k := by simp [upto]
theorem upto_succ (k : Nat) (f h : Nat -> Nat) (i : Nat) : upto (k + 1) f h i = if i = k then f k else upto k f h i := by
  unfold upto
  by_cases h1 : i = k
  · subst h1; simp
  · rw [if_neg h1]
    by_cases h2 : i < k
    · rw [if_pos (by omega), if_pos h2]
    · rw [if_neg (by omega), if_neg h2]
theorem Own.store {w : World} {g n k : Nat} {f h : Nat -> Nat} (hf : ∀ i, f i < 256) (r : Own w g n (upto k f h)) : Own (w.setCell ⟨g, k, none⟩ (.int .u8 (f k : Int))) g n (upto (k + 1) f h) := by
  refine ⟨fun i => ?_, (r.2.set k _).congr fun i hi => ?_⟩
  · rw [upto_succ]; split; exact hf k; exact r.1 i
  · rw [upto_succ]; split <;> rfl
theorem Own.all {w : World} {g n : Nat} {f h : Nat -> Nat} (hf : ∀ i, f i < 256) (r : Own w g n (upto n f h)) : Own w g n f := r.congr hf fun i hi => by simp [upto, hi]
def plus (f : Nat -> Nat) (c : Nat) (h : Nat -> Nat) (i : Nat) : Nat := Gf.add (f i) (Gf.mul c (h i))
theorem plus_lt (f : Nat -> Nat) (c : Nat) (h : Nat -> Nat) (hf : ∀ i, f i < 256) (hc : c < 256) (i : Nat) : plus f c h i < 256 := Gf.add_lt _ _ (hf i) (Gf.mul_lt _ _ hc)
def tot (F : Nat -> Nat) (H : Nat -> Nat -> Nat) : Nat -> Nat -> Nat
  | 0 => fun _ => 0
  | k + 1 => plus (tot F H k) (F k) (H k)
theorem tot_lt (F : Nat -> Nat) (H : Nat -> Nat -> Nat) (hF : ∀ i, F i < 256) (k i : Nat) : tot F H k i < 256 := by
  induction k generalizing i with
  | zero => show 0 < 256; decide
  | succ k ih => exact plus_lt _ _ _ ih (hF k) i
theorem exists_first {p : Nat -> Prop} (j : Nat) (h : ¬ p j) : ∃ k, k <= j /\ ¬ p k /\ ∀ i, i < k -> p i := by
  induction j using Nat.strongRecOn with
  | _ j ih =>
    by_cases g : ∀ i, i < j -> p i
    · exact ⟨j, Nat.le_refl _, h, g⟩
    · obtain ⟨i, hi⟩ := Classical.not_forall.1 g
      obtain ⟨hij, hpi⟩ := Classical.not_imp.1 hi
      obtain ⟨k, hk, h1, h2⟩ := ih i hij hpi
      exact ⟨k, by omega, h1, h2⟩
end Go.Proofs.YtngcdlodcdgcaaaGreat.Cod.Ker
namespace Go.Proofs.YtngcdlodcdgcaaaGreat.Cod.Ker
open Go.RowKit
theorem box_set {w : World} {B g : Nat} {o : Obj} (h : w.heap[B]? = some o) (hB : ¬ B = g) (v : Value) (j : Nat) : (w.setCell ⟨g, j, none⟩ v).drew.heap[B]? = some o := by
  rw [<- h]; exact Below.heap_setCell w ⟨g, j, none⟩ v B hB
set_option maxHeartbeats 400000 in
set_option maxRecDepth 100000 in
theorem gather_any (w : World) (g n : Nat) (f h : Nat -> Nat) (c : Nat) (ao : Option Addr) (cp : Nat) (hn : n <= 65536) (hc : c < 256) (ho : Own w g n f) (hr : Rd w ao n h) (hg : 0 < n -> Off ao g) :
    Calls Tryz.prog 198 #[.slice (some ⟨g, 0, none⟩) n n, .agg #[.int .u8 (c : Int), .slice ao n cp]] w fun e w' => e = .returned (.tuple #[]) /\ Own w' g n (plus f c h) /\ Only g w w' := by
  have HO : Hid (Own w g n f) := ho
  have HR : Hid (Rd w ao n h) := hr
  have HG : Hid (0 < n -> Off ao g) := hg
  have hgw : g < w.heap.size := ho.lt
  clear ho hr hg
  go_enter Tryz.func198, Tryz.ntmps198
  go_wp2
  go_loopw [7] (fun i wr => ∃ k : Nat, k <= n /\ i = .int .i64 k /\ Hid (Own wr g n (upto k (plus f c h) f)) /\ Hid (wr.heap[w.heap.size]? = some (.cells #[.int .u8 (c : Int), .slice ao n cp] 269 (0, 0))) /\ Hid (Only g w wr)) (fun i _ => n - (intOf i).toNat)
  case atStart => exact ⟨0, Nat.zero_le _, rfl, by rw [upto_zero]; exact ⟨HO.out.1, HO.out.2.alloc _⟩, heap_alloc_new w _, (Only.refl g w).alloc _⟩
  case round =>
    obtain ⟨k, hk, rfl, hown, hbox, honly⟩ := hrel
    by_cases hlt : k < n
    · obtain ⟨b, off, rfl, hcell⟩ := HR.out.2 (by omega)
      have hbg : ¬ b = g := HG.out (by omega) ⟨b, off, none⟩ rfl
      have hgb : ¬ g = b := fun e => hbg e.symm
      have hwg : ¬ w.heap.size = g := by omega
      have hgs : ¬ g = w.heap.size := by omega
      have hfk : f k < 256 := HO.out.1 k
      have hhk : h k < 256 := HR.out.1 k
      have c1 : wr.cell? ⟨g, k, none⟩ = some (.int .u8 (f k : Int)) := by have := hown.out.2.cell hlt; rwa [upto_at] at this
      have z1 : wr.frozen? ⟨g, k, none⟩ = false := hown.out.2.frozen k
      have c2 : wr.cell? ⟨w.heap.size, 0, none⟩ = some (.int .u8 (c : Int)) := by simp [World.cell?, hbox.out]
      have c3 : wr.cell? ⟨w.heap.size, 1, none⟩ = some (.slice (some ⟨b, off, none⟩) n cp) := by simp [World.cell?, hbox.out]
      have c4 : wr.cell? ⟨b, off + k, none⟩ = some (.int .u8 (h k : Int)) := honly.out.cell (hcell k hlt) hbg
      clear hcell
      have i1 : (0 : Int) <= (k : Int) := by omega
      have i2 : (k : Int) < (n : Int) := by omega
      go_wp2
      refine wp_region_still_tail 16 (by kernel_rfl) (by kernel_rfl) ?_
      simp only [List.take_succ_cons, List.take_zero, List.drop_succ_cons, List.drop_zero]
      repeat still_step
      still_call (mul_n _ _ _ (by omega) (by omega))
      still_call (add_n _ _ _ (by omega) (Gf.mul_lt _ _ (by omega)))
      repeat still_step
      refine wpStill_nil ?_
      go_wp2
      go_roundw
      case rel => exact ⟨k + 1, by omega, by go_num, (hown.out.store (plus_lt f c h HO.out.1 hc) : Own (wr.setCell ⟨g, k, none⟩ (.int .u8 ((plus f c h k : Nat) : Int))) g n (upto (k + 1) (plus f c h) f)), box_set hbox.out hwg _ _, (honly.out.setCell k _).drew⟩
      case measure => simp [intOf]; omega
    · obtain rfl : k = n := by omega
      go_wp2
      go_end0
      exact ⟨rfl, hown.out.all (plus_lt f c h HO.out.1 hc), honly.out⟩
end Go.Proofs.YtngcdlodcdgcaaaGreat.Cod.Ker
namespace Go.Proofs.YtngcdlodcdgcaaaGreat.Cod.Ker
open Go.RowKit
structure Terms (w : World) (B m : Nat) (F : Nat -> Nat) (A : Nat -> Option Addr) (C L : Nat -> Nat) (H : Nat -> Nat -> Nat) : Prop where
  lt : B < w.heap.size
  num : ∀ i, F i < 256
  rd : ∀ i, i < m -> Rd w (A i) (L i) (H i)
  factor : ∀ i, i < m -> w.cell? ⟨B, i * 2, none⟩ = some (.int .u8 (F i : Int))
  bytes : ∀ i, i < m -> w.cell? ⟨B, i * 2 + 1, none⟩ = some (.slice (A i) (L i) (C i))
set_option maxHeartbeats 400000 in
set_option maxRecDepth 100000 in
theorem size_ok (w : World) (B m cp n : Nat) (F : Nat -> Nat) (A : Nat -> Option Addr) (C L : Nat -> Nat) (H : Nat -> Nat -> Nat) (t : Terms w B m F A C L H)
    (hm : m <= 100) (hn : n <= 65536) (hL : ∀ i, i < m -> L i = n) (h0 : m = 0 -> n = 0) :
    Calls Tryz.prog 197 #[.slice (some ⟨B, 0, none⟩) m cp] w fun e w' => e = .returned (.tuple #[.int .i64 (n : Int), .int .i64 0]) /\ w' = w := by
  by_cases hz : m = 0
  · obtain rfl := hz
    obtain rfl := h0 rfl
    go_enter Tryz.func197, Tryz.ntmps197
    go_wp2
    go_ret2
    exact ⟨rfl, rfl⟩
  · have c0 : w.cell? ⟨B, 1, none⟩ = some (.slice (A 0) n (C 0)) := by have := t.bytes 0 (by omega); rwa [hL 0 (by omega)] at this
    have HT : Hid (∀ i, i < m -> w.cell? ⟨B, i * 2 + 1, none⟩ = some (.slice (A i) n (C i))) := fun i hi => by have := t.bytes i hi; rwa [hL i hi] at this
    have hmz : ((m : Int) == 0) = false := by simpa using hz
    clear t hL h0
    go_enter Tryz.func197, Tryz.ntmps197
    go_wp2
    go_loop [18] (fun i => ∃ k : Nat, k <= m /\ i = .int .i64 k) (fun i => m - (intOf i).toNat)
    case atStart => exact ⟨0, Nat.zero_le _, rfl⟩
    case round =>
      obtain ⟨k, hk, rfl⟩ := hrel
      by_cases hlt : k < m
      · have ck := HT.out k hlt
        go_wp2
        go_round
        case rel => exact ⟨k + 1, by omega, by go_num⟩
        case measure => simp [intOf]; omega
      · go_wp2
        go_ret2
        exact ⟨rfl, rfl⟩
set_option maxHeartbeats 400000 in
set_option maxRecDepth 100000 in
theorem size_bad (w : World) (B m cp : Nat) (F : Nat -> Nat) (A : Nat -> Option Addr) (C L : Nat -> Nat) (H : Nat -> Nat -> Nat) (t : Terms w B m F A C L H)
    (hm : m <= 100) (h0 : 0 < m) (hL : 65536 < L 0 \/ ∃ j, j < m /\ L j ≠ L 0) :
    Calls Tryz.prog 197 #[.slice (some ⟨B, 0, none⟩) m cp] w fun e w' => e = .returned (.tuple #[.int .i64 0, .int .i64 20]) /\ w' = w := by
  have c0 : w.cell? ⟨B, 1, none⟩ = some (.slice (A 0) (L 0) (C 0)) := by have := t.bytes 0 (by omega); exact this
  have hmz : ((m : Int) == 0) = false := by simp; omega
  by_cases hz : 65536 < L 0
  · clear t hL
    go_enter Tryz.func197, Tryz.ntmps197
    go_wp2
    go_ret2
    exact ⟨rfl, rfl⟩
  · obtain ⟨j, hj, hne, heq⟩ : ∃ j, j < m /\ ¬ L j = L 0 /\ ∀ i, i < j -> L i = L 0 := by
      rcases hL with h | ⟨j, hj, hne⟩
      · exact absurd h hz
      · obtain ⟨k, hk, h1, h2⟩ := exists_first (p := fun i => L i = L 0) j hne
        exact ⟨k, by omega, h1, h2⟩
    have HT : Hid (∀ i, i < m -> w.cell? ⟨B, i * 2 + 1, none⟩ = some (.slice (A i) (L i) (C i))) := t.bytes
    have HE : Hid (∀ i, i < j -> L i = L 0) := heq
    have HN : Hid (¬ L j = L 0) := hne
    clear t hL heq hne
    go_enter Tryz.func197, Tryz.ntmps197
    go_wp2
    go_loop [18] (fun i => ∃ k : Nat, k <= j /\ i = .int .i64 k) (fun i => m - (intOf i).toNat)
    case atStart => exact ⟨0, Nat.zero_le _, rfl⟩
    case round =>
      obtain ⟨k, hk, rfl⟩ := hrel
      have ck := HT.out k (by omega)
      by_cases hlt : k < j
      · rw [HE.out k hlt] at ck
        go_wp2
        go_round
        case rel => exact ⟨k + 1, by omega, by go_num⟩
        case measure => simp [intOf]; omega
      · obtain rfl : k = j := by omega
        have hb : (((L k : Nat) : Int) == ((L 0 : Nat) : Int)) = false := by
          have := HN.out
          simp; omega
        go_wp2
        go_ret2
        exact ⟨rfl, rfl⟩
set_option maxHeartbeats 400000 in
set_option maxRecDepth 100000 in
theorem sum_bad (w : World) (B m cp : Nat) (F : Nat -> Nat) (A : Nat -> Option Addr) (C L : Nat -> Nat) (H : Nat -> Nat -> Nat) (t : Terms w B m F A C L H)
    (hm : m <= 100) (h0 : 0 < m) (hL : 65536 < L 0 \/ ∃ j, j < m /\ L j ≠ L 0) :
    Calls Tryz.prog 188 #[.slice (some ⟨B, 0, none⟩) m cp] w fun e w' => e = .returned (.tuple #[.slice none 0 0, .int .i64 20]) /\ w' = w := by
  have HS := size_bad w B m cp F A C L H t hm h0 hL
  clear t hL
  go_enter Tryz.func188, Tryz.ntmps188
  go_wp2_with (go_at_call 197; refine HS.mono ?_; rintro e w' ⟨rfl, rfl⟩)
  go_ret2
  exact ⟨rfl, rfl⟩
theorem info5 : (Tryz.prog.info? 5).map (fun i => (i.zero, i.size, i.bytes)) = some (some (.int .u8 0), 1, 1) := by kernel_rfl
set_option maxHeartbeats 400000 in
set_option maxRecDepth 100000 in
theorem sum_ok (w : World) (B m cp n : Nat) (F : Nat -> Nat) (A : Nat -> Option Addr) (C L : Nat -> Nat) (H : Nat -> Nat -> Nat) (t : Terms w B m F A C L H)
    (hm : m <= 100) (hn : n <= 65536) (hL : ∀ i, i < m -> L i = n) (h0 : m = 0 -> n = 0) :
    Calls Tryz.prog 188 #[.slice (some ⟨B, 0, none⟩) m cp] w fun e w' => e = .returned (.tuple #[.slice (some ⟨w.heap.size, 0, none⟩) n n, .int .i64 0]) /\ Own w' w.heap.size n (tot F H m) /\ Below w.heap.size w w' := by
  have HS := size_ok w B m cp n F A C L H t hm hn hL h0
  have HT : Hid (Terms w B m F A C L H) := t
  have HL : Hid (∀ i, i < m -> L i = n) := hL
  have hmk := run_make_row' (P := Tryz.prog) 74 5 (.int .u8 0) 1 Tryz.underlying74 info5 rfl .i64 .i64 n (by omega) (by omega)
  clear t hL
  go_enter Tryz.func188, Tryz.ntmps188
  go_wp2_with (go_at_call 197; refine HS.mono ?_; rintro e w' ⟨rfl, hw'⟩; obtain rfl := hw'.symm)
  go_loopw [20] (fun i wr => ∃ k : Nat, k <= m /\ i = .int .i64 k /\ Hid (Own wr w.heap.size n (tot F H k)) /\ Hid (Only w.heap.size w wr)) (fun i _ => m - (intOf i).toNat)
  case atStart => exact ⟨0, Nat.zero_le _, rfl, ⟨fun _ => by show 0 < 256; decide, World.rowIs_made w (.int .u8 0) n 5⟩, (Only.refl _ w).alloc _⟩
  case round =>
    obtain ⟨k, hk, rfl, hown, honly⟩ := hrel
    by_cases hlt : k < m
    · have c1 : wr.cell? ⟨B, k * 2, none⟩ = some (.int .u8 (F k : Int)) := honly.out.cell (HT.out.factor k hlt) (by have := HT.out.lt; simp; omega)
      have c2 : wr.cell? ⟨B, k * 2 + 1, none⟩ = some (.slice (A k) n (C k)) := by
        have := honly.out.cell (HT.out.bytes k hlt) (by have := HT.out.lt; simp; omega)
        rwa [HL.out k hlt] at this
      have HR : Hid (Rd w (A k) n (H k)) := by have := HT.out.rd k hlt; rwa [HL.out k hlt] at this
      have HO : Hid (0 < n -> Off (A k) w.heap.size) := fun h => HR.out.off (Nat.le_refl _) h
      go_wp2_with (go_at_call 198; refine (gather_any wr w.heap.size n (tot F H k) (H k) (F k) (A k) (C k) hn (HT.out.num k) hown.out (HR.out.only honly.out HO.out) HO.out).mono ?_; rintro e w' ⟨rfl, hown', honly'⟩)
      go_roundw
      case rel => exact ⟨k + 1, by omega, by go_num, hown', honly.out.trans honly'⟩
      case measure => simp [intOf]; omega
    · obtain rfl : k = m := by omega
      go_wp2
      go_ret2
      exact ⟨rfl, hown.out, honly.out.below (Nat.le_refl _) (Nat.le_refl _)⟩
end Go.Proofs.YtngcdlodcdgcaaaGreat.Cod.Ker
namespace Go.Proofs.YtngcdlodcdgcaaaGreat.Cod.Ker
open Go.RowKit
def Ans (w w' : World) (ro : Option Addr) (n : Nat) (f : Nat -> Nat) : Prop :=
  (ro = none /\ n = 0 /\ ∀ i, f i < 256) \/ ∃ g, ro = some ⟨g, 0, none⟩ /\ w.heap.size <= g /\ Own w' g n f
def lenB (b : Bool) (n : Nat) : Nat := if b then n else 0
def errB (b : Bool) : Int := if b then 0 else 20
def Made (w : World) (b : Bool) (n : Nat) (f : Nat -> Nat) (e : Ending) (w' : World) : Prop :=
  ∃ ro, e = .returned (.tuple #[.slice ro (lenB b n) (lenB b n), .int .i64 (errB b)]) /\ Ans w w' ro (lenB b n) f /\ Below w.heap.size w w'
end Go.Proofs.YtngcdlodcdgcaaaGreat.Cod.Ker
namespace Go.Proofs.YtngcdlodcdgcaaaGreat.Cod.Ker
open Go.RowKit
end Go.Proofs.YtngcdlodcdgcaaaGreat.Cod.Ker
namespace Go.Proofs.YtngcdlodcdgcaaaGreat.Cod.Ker
open Go.RowKit
structure Lst (w : World) (lo : Option Addr) (ll : Nat) (A : Nat -> Option Addr) (C L : Nat -> Nat) (H : Nat -> Nat -> Nat) : Prop where
  rd : ∀ i, i < ll -> Rd w (A i) (L i) (H i)
  at_ : 0 < ll -> ∃ b off, lo = some ⟨b, off, none⟩ /\ ∀ i, i < ll -> w.cell? ⟨b, off + i, none⟩ = some (.slice (A i) (L i) (C i))
def okL (lc ll : Nat) (L : Nat -> Nat) : Bool := decide (lc <= 16 /\ ll = lc /\ ∀ i, i < ll -> L i <= 65536 /\ L i = L 0)
def n0 (ll : Nat) (L : Nat -> Nat) : Nat := if ll = 0 then 0 else L 0
theorem okL_true {lc ll : Nat} {L : Nat -> Nat} (h : okL lc ll L = true) : lc <= 16 /\ ll = lc /\ ∀ i, i < ll -> L i <= 65536 /\ L i = L 0 := of_decide_eq_true h
theorem okL_false {lc ll : Nat} {L : Nat -> Nat} (h : okL lc ll L = false) (h1 : lc <= 16) (h2 : ll = lc) : 0 < ll /\ (65536 < L 0 \/ ∃ j, j < ll /\ L j ≠ L 0) := by
  have h3 := of_decide_eq_false h
  have h4 : ¬ ∀ i, i < ll -> L i <= 65536 /\ L i = L 0 := fun g => h3 ⟨h1, h2, g⟩
  obtain ⟨i, hi⟩ := Classical.not_forall.1 h4
  obtain ⟨h5, h6⟩ := Classical.not_imp.1 hi
  refine ⟨by omega, ?_⟩
  by_cases h7 : L i = L 0
  · left
    by_cases h8 : L i <= 65536
    · exact absurd ⟨h8, h7⟩ h6
    · omega
  · exact .inr ⟨i, h5, h7⟩
def tc (F : Nat -> Nat) (A : Nat -> Option Addr) (C L : Nat -> Nat) (k j : Nat) : Value :=
  if j / 2 < k then (if j % 2 = 0 then .int .u8 (F (j / 2) : Int) else .slice (A (j / 2)) (L (j / 2)) (C (j / 2))) else (if j % 2 = 0 then .int .u8 0 else .slice none 0 0)
theorem tc_set {F : Nat -> Nat} {A : Nat -> Option Addr} {C L : Nat -> Nat} {k j : Nat} :
    (if j = k * 2 + 1 then Value.slice (A k) (L k) (C k) else if j = k * 2 then .int .u8 (F k : Int) else tc F A C L k j) = tc F A C L (k + 1) j := by
  by_cases h1 : j = k * 2 + 1
  · subst h1
    have e1 : (k * 2 + 1) / 2 = k := by omega
    have e2 : ¬ (k * 2 + 1) % 2 = 0 := by omega
    rw [if_pos rfl, tc, e1, if_pos (by omega), if_neg e2]
  · rw [if_neg h1]
    by_cases h2 : j = k * 2
    · subst h2
      have e1 : k * 2 / 2 = k := by omega
      have e2 : k * 2 % 2 = 0 := by omega
      rw [if_pos rfl, tc, e1, if_pos (by omega), if_pos e2]
    · rw [if_neg h2]
      by_cases h3 : j / 2 < k
      · have h4 : j / 2 < k + 1 := by omega
        simp only [tc, h3, h4, if_true]
      · have h4 : ¬ j / 2 < k + 1 := by omega
        simp only [tc, h3, h4, if_false]
theorem tc_row {w : World} {B n k : Nat} {F : Nat -> Nat} {A : Nat -> Option Addr} {C L : Nat -> Nat} (h : w.rowIs B 269 n (tc F A C L k)) :
    ((w.setCell ⟨B, k * 2, none⟩ (.int .u8 (F k : Int))).setCell ⟨B, k * 2 + 1, none⟩ (.slice (A k) (L k) (C k))).rowIs B 269 n (tc F A C L (k + 1)) :=
  ((h.set (k * 2) _).set (k * 2 + 1) _).congr fun _ _ => tc_set
theorem tc_made (w : World) (F : Nat -> Nat) (A : Nat -> Option Addr) (C L : Nat -> Nat) (m : Nat) :
    (w.alloc (.cells (madeCells #[.int .u8 0, .slice none 0 0] (m * 2)) 269)).rowIs w.heap.size 269 (m * 2) (tc F A C L 0) := by
  refine ⟨_, heap_alloc_new w _, size_madeCells _ _, fun i hi => ?_⟩
  rw [tc, if_neg (by omega)]
  rcases Nat.mod_two_eq_zero_or_one i with h | h
  · simp [madeCells, hi, h]
  · simp [madeCells, hi, h]
theorem info45 : (Tryz.prog.info? 269).map (fun i => (i.zero, i.size, i.bytes)) = some (some (.agg #[.int .u8 0, .slice none 0 0]), 2, 32) := by kernel_rfl
theorem make_terms (n : Nat) (hn : n <= 1000) (w : World) :
    (Instr.makeSlice 267 (.int .i64 (n : Int)) (.int .i64 (n : Int))).run Tryz.prog w = .ok (.slice (some ⟨w.heap.size, 0, none⟩) n n) (w.alloc (.cells (madeCells #[.int .u8 0, .slice none 0 0] (n * 2)) 269)) := by
  obtain ⟨i, hi, hz0, hz1, hz2⟩ := info_parts info45
  have := run_make (P := Tryz.prog) w 267 269 i _ Tryz.underlying267 hi hz0 .i64 .i64 (n : Int) (n : Int) (by omega) (Int.le_refl _) (by rw [hz2]; omega) (by omega)
  rw [hz1, Int.toNat_natCast] at this
  exact this
theorem terms_of {w wr : World} {m : Nat} {F : Nat -> Nat} {A : Nat -> Option Addr} {C L : Nat -> Nat} {H : Nat -> Nat -> Nat} {lo : Option Addr}
    (hrow : wr.rowIs w.heap.size 269 (m * 2) (tc F A C L m)) (ho : Only w.heap.size w wr) (hF : ∀ i, F i < 256) (hl : Lst w lo m A C L H) : Terms wr w.heap.size m F A C L H := by
  refine ⟨hrow.lt, hF, fun i hi => (hl.rd i hi).only ho fun hp => (hl.rd i hi).off (Nat.le_refl _) hp, fun i hi => ?_, fun i hi => ?_⟩
  · rw [hrow.cell (by omega)]
    have e1 : i * 2 / 2 = i := by omega
    have e2 : i * 2 % 2 = 0 := by omega
    rw [tc, e1, if_pos hi, if_pos e2]
  · rw [hrow.cell (by omega)]
    have e1 : (i * 2 + 1) / 2 = i := by omega
    have e2 : ¬ (i * 2 + 1) % 2 = 0 := by omega
    rw [tc, e1, if_pos hi, if_neg e2]
theorem sum_made (w wr : World) (m : Nat) (F : Nat -> Nat) (A : Nat -> Option Addr) (C L : Nat -> Nat) (H : Nat -> Nat -> Nat) (ok : Bool) (N : Nat) (hm : m <= 16) (t : Terms wr w.heap.size m F A C L H)
    (ho : Only w.heap.size w wr) (hok : okL m m L = ok) (hN : N = n0 m L) :
    Calls Tryz.prog 188 #[.slice (some ⟨w.heap.size, 0, none⟩) m m] wr (Made w ok N (tot F H m)) := by
  subst hN
  have hbel : Below w.heap.size w wr := ho.below (Nat.le_refl _) (Nat.le_refl _)
  cases ok
  · obtain ⟨h0, hb⟩ := okL_false hok hm rfl
    refine (sum_bad _ _ _ m _ _ _ _ _ t (by omega) h0 hb).mono ?_
    rintro e w' ⟨rfl, rfl⟩
    exact ⟨none, rfl, .inl ⟨rfl, rfl, tot_lt F H t.num m⟩, hbel⟩
  · obtain ⟨_, _, hL⟩ := okL_true hok
    have hn : n0 m L <= 65536 := by
      unfold n0; split
      · decide
      · exact (hL 0 (by omega)).1
    refine (sum_ok _ _ _ m (n0 m L) _ _ _ _ _ t (by omega) hn (fun i hi => by rw [n0, if_neg (by omega)]; exact (hL i hi).2) (fun h => by rw [n0, if_pos h])).mono ?_
    rintro e w' ⟨rfl, ho', hb'⟩
    exact ⟨_, rfl, .inr ⟨_, rfl, hbel.size, ho'⟩, below_step hbel hb' hbel.size⟩
set_option maxHeartbeats 1000000 in
set_option maxRecDepth 100000 in
theorem dot_any (w : World) (co lo : Option Addr) (lc cc ll cl : Nat) (F : Nat -> Nat) (A : Nat -> Option Addr) (C L : Nat -> Nat) (H : Nat -> Nat -> Nat)
    (hlc : lc <= 1000000) (hll : ll <= 1000000) (hc : Rd w co lc F) (hl : Lst w lo ll A C L H) :
    Calls Tryz.prog 170 #[.slice co lc cc, .slice lo ll cl] w (Made w (okL lc ll L) (n0 ll L) (tot F H ll)) := by
  have HC : Hid (Rd w co lc F) := hc
  have HL : Hid (Lst w lo ll A C L H) := hl
  clear hc hl
  by_cases h1 : lc <= 16
  · by_cases h2 : ll = lc
    · subst h2
      obtain ⟨ok, hok⟩ : ∃ ok, ok = okL ll ll L := ⟨_, rfl⟩
      have HK : Hid (okL ll ll L = ok) := hok.symm
      rw [<- hok]
      clear hok
      obtain ⟨N, hN⟩ : ∃ N, N = n0 ll L := ⟨_, rfl⟩
      have HN : Hid (N = n0 ll L) := hN
      rw [<- hN]
      clear hN
      have hmk := make_terms ll (by omega)
      have hbq : ((ll : Int) == (ll : Int)) = true := by simp
      go_enter Tryz.func170, Tryz.ntmps170
      go_wp2
      go_loopw [23] (fun i wr => ∃ k : Nat, k <= ll /\ i = .int .i64 k /\ Hid (wr.rowIs w.heap.size 269 (ll * 2) (tc F A C L k)) /\ Hid (Only w.heap.size w wr)) (fun i _ => ll - (intOf i).toNat)
      case atStart => exact ⟨0, Nat.zero_le _, rfl, tc_made w F A C L ll, (Only.refl _ w).alloc _⟩
      case round =>
        obtain ⟨k, hk, rfl, hrow, honly⟩ := hrel
        by_cases hlt : k < ll
        · obtain ⟨b, off, rfl, hcc⟩ := HC.out.2 (by omega)
          obtain ⟨b', off', rfl, hcl⟩ := HL.out.at_ (by omega)
          have hb1 := World.block_lt_of_cell? w _ (hcc k hlt)
          have hb2 := World.block_lt_of_cell? w _ (hcl k hlt)
          have c1 : wr.cell? ⟨b, off + k, none⟩ = some (.int .u8 (F k : Int)) := honly.out.cell (hcc k hlt) (by simp at hb1 ⊢; omega)
          have c2 : wr.cell? ⟨b', off' + k, none⟩ = some (.slice (A k) (L k) (C k)) := honly.out.cell (hcl k hlt) (by simp at hb2 ⊢; omega)
          have c3 := hrow.out.cell (i := k * 2) (by omega)
          have c4 := hrow.out.cell (i := k * 2 + 1) (by omega)
          have z3 := hrow.out.frozen (k * 2)
          have z4 := hrow.out.frozen (k * 2 + 1)
          clear hcc hcl
          have i1 : (0 : Int) <= (k : Int) := by omega
          have i2 : (k : Int) < (ll : Int) := by omega
          go_wp2
          refine wp_region_still_tail 12 (by kernel_rfl) (by kernel_rfl) ?_
          simp only [List.take_succ_cons, List.take_zero, List.drop_succ_cons, List.drop_zero]
          repeat still_step
          refine wpStill_nil ?_
          go_wp2
          go_roundw
          case rel => exact ⟨k + 1, by omega, by go_num, tc_row hrow.out, ((honly.out.setCell (k * 2) _).setCell (k * 2 + 1) _).drew⟩
          case measure => simp [intOf]; omega
        · obtain rfl : k = ll := by omega
          have t : Terms wr w.heap.size k F A C L H := terms_of hrow.out honly.out HC.out.1 HL.out
          have HS := sum_made w wr k F A C L H ok N (by omega) t honly.out HK.out HN.out
          clear t
          go_wp2_with (go_at_call 188; refine HS.mono ?_; rintro e w' ⟨ro, rfl, hans, hbel⟩)
          go_ret2
          exact ⟨ro, rfl, hans, hbel⟩
    · have hbq : ((ll : Int) != (lc : Int)) = true := by simp; omega
      have hok : okL lc ll L = false := decide_eq_false fun h => h2 h.2.1
      rw [hok]
      go_enter Tryz.func170, Tryz.ntmps170
      go_wp2
      go_ret2
      exact ⟨none, rfl, .inl ⟨rfl, rfl, tot_lt F H HC.out.1 ll⟩, Below.refl _ _⟩
  · have hok : okL lc ll L = false := decide_eq_false fun h => h1 h.1
    rw [hok]
    go_enter Tryz.func170, Tryz.ntmps170
    go_wp2
    go_ret2
    exact ⟨none, rfl, .inl ⟨rfl, rfl, tot_lt F H HC.out.1 ll⟩, Below.refl _ _⟩
end Go.Proofs.YtngcdlodcdgcaaaGreat.Cod.Ker
namespace Go.Proofs.YtngcdlodcdgcaaaGreat.Cod.Ker
open Go.RowKit
end Go.Proofs.YtngcdlodcdgcaaaGreat.Cod.Ker
namespace Go.Proofs.YtngcdlodcdgcaaaGreat.Cod.Ker
open Go.RowKit
end Go.Proofs.YtngcdlodcdgcaaaGreat.Cod.Ker
