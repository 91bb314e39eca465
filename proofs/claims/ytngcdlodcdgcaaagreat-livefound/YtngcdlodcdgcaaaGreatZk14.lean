import Derived.Test.YtngcdlodcdgcaaaGreatZk12
import Derived.Test.YtngcdlodcdgcaaaGreatZk13
namespace Go.Proofs.YtngcdlodcdgcaaaGreat
open Go.RowKit
theorem Par.sum {k r c q : Int} {N W : Nat} (h : Par k r c q N W 0) : (N : Int) = k + r := by
  rcases h with ⟨_, _, h0, _⟩ | ⟨_, _, _, h1⟩
  · exact h0
  · cases h1
end Go.Proofs.YtngcdlodcdgcaaaGreat
namespace Go.Proofs.YtngcdlodcdgcaaaGreat.De
theorem nm_move (F : Nat -> UInt8) (a o k : Nat) : nm (fun j => F (a + j)) o k = nm F (a + o) k := nm_congr fun i _ => by rw [Nat.add_assoc]
def okR (q a v : Int) : Bool := decide (0 <= a /\ a < q /\ 1 <= v /\ v <= 1073741824)
def okL (q : Int) (n : Nat) (R V : Nat -> Int) : Bool := decide (∀ i, i < n -> okR q (R i) (V i) = true)
theorem okL_any (q : Int) (n : Nat) (R V : Nat -> Int) : anyB n (fun i => !okR q (R i) (V i)) = !okL q n R V := by
  unfold anyB okL
  congr 1
  apply decide_eq_decide.2
  constructor
  · intro h i hi
    have h2 : (!okR q (R i) (V i)) = false := h i hi
    simpa using h2
  · intro h i hi
    show (!okR q (R i) (V i)) = false
    rw [h i hi]; rfl
def cntD (W s : Nat) : Nat := if lvs W s = 0 then s else lvs W s
def dpt (W s : Nat) : Nat := min (lvs W s) 1
def okD (W : Nat) (q len dep : Int) (n : Nat) (R V : Nat -> Int) : Bool :=
  decide (0 <= len /\ len <= (mst W : Int) /\ dep = ((dpt W (up len.toNat W) : Nat) : Int) /\ n = cntD W (up len.toNat W) /\ okL q n R V = true)
theorem okD_true {W : Nat} {q len dep : Int} {n : Nat} {R V : Nat -> Int} (h : okD W q len dep n R V = true) : 0 <= len /\ len <= (mst W : Int) /\ dep = ((dpt W (up len.toNat W) : Nat) : Int) /\ n = cntD W (up len.toNat W) /\ okL q n R V = true := of_decide_eq_true h
theorem cntD_few {W len : Nat} (h : 32 <= W) (hl : len <= mst W) : cntD W (up len W) <= dir W := by
  unfold cntD
  split
  · rename_i h0
    have := (lvs_pos (s := up len W) h)
    omega
  · exact Nat.le_trans (lvs_mono (up_mono hl)) (lvs_top h)
theorem dir_room {W : Nat} (h : 32 <= W) : 7 + 6 * dir W <= W := by unfold dir; omega
theorem lea_room (W : Nat) : 6 * lea W <= W := by unfold lea; omega
theorem okD_few {W : Nat} {q len dep : Int} {n : Nat} {R V : Nat -> Int} (hW : 32 <= W) (h : okD W q len dep n R V = true) : n <= dir W /\ len.toNat <= 32768 /\ 0 <= len /\ (dep = 0 \/ dep = 1) /\ okL q n R V = true := by
  obtain ⟨h1, h2, h3, h4, h5⟩ := okD_true h
  have hm := mst_le W
  refine ⟨by rw [h4]; exact cntD_few hW (by omega), by omega, h1, ?_, h5⟩
  rw [h3]
  unfold dpt
  omega
def rdR (F : Nat -> UInt8) (o i : Nat) : Int := ((nm F (o + 6 * i) 2 : Nat) : Int)
def rdV (F : Nat -> UInt8) (o i : Nat) : Int := ((nm F (o + 6 * i + 2) 4 : Nat) : Int)
def isL (W : Nat) (q : Int) (n : Nat) (F : Nat -> UInt8) : Bool := decide (okL q n (rdR F 0) (rdV F 0) = true /\ ∀ j, j < W -> 6 * n <= j -> F j = 0)
def isD (W : Nat) (q : Int) (F : Nat -> UInt8) : Bool := decide (okD W q ((nm F 0 4 : Nat) : Int) ((nm F 4 1 : Nat) : Int) (nm F 5 2) (rdR F 7) (rdV F 7) = true /\ ∀ j, j < W -> 7 + 6 * nm F 5 2 <= j -> F j = 0)
theorem isD_true {W : Nat} {q : Int} {F : Nat -> UInt8} (h : isD W q F = true) : okD W q ((nm F 0 4 : Nat) : Int) ((nm F 4 1 : Nat) : Int) (nm F 5 2) (rdR F 7) (rdV F 7) = true /\ ∀ j, j < W -> 7 + 6 * nm F 5 2 <= j -> F j = 0 := of_decide_eq_true h
def erB (y : Int) (W : Nat) (q : Int) (m : Nat) (F : Nat -> UInt8) : Int := if y = 0 then (if m = W then (if isD W q F = true then 0 else 150) else 20) else y
def erR (y : Int) (W : Nat) (q : Int) (m : Nat) (n : Int) (F : Nat -> UInt8) : Int := if y = 0 then (if m = W then (if n < 1 \/ (lea W : Int) < n then 20 else if isL W q n.toNat F = true then 0 else 150) else 20) else y
end Go.Proofs.YtngcdlodcdgcaaaGreat.De
namespace Go.Proofs.YtngcdlodcdgcaaaGreat.De
open Go.RowKit
def RdR (w : World) (ao : Option Addr) (n : Nat) (R V : Nat -> Int) : Prop :=
  0 < n -> ∃ b off, ao = some ⟨b, off, none⟩ /\ ∀ i, i < n -> w.cell? ⟨b, off + i * 2, none⟩ = some (.int .i64 (R i)) /\ w.cell? ⟨b, off + i * 2 + 1, none⟩ = some (.int .i64 (V i))
theorem RdR.below {w w' : World} {ao : Option Addr} {n : Nat} {R V : Nat -> Int} (h : RdR w ao n R V) (ho : Below w.heap.size w w') : RdR w' ao n R V := by
  intro hn
  obtain ⟨b, off, rfl, hc⟩ := h hn
  exact ⟨b, off, rfl, fun i hi => ⟨held (hc i hi).1 ho, held (hc i hi).2 ho⟩⟩
structure Rec (w : World) (ao : Option Addr) (n cap : Nat) (R V : Nat -> Int) : Prop where
  rd : RdR w ao n R V
  nil : ao = none -> n = 0 /\ cap = 0
  room : n <= cap
theorem Rec.below {w w' : World} {ao : Option Addr} {n cap : Nat} {R V : Nat -> Int} (h : Rec w ao n cap R V) (ho : Below w.heap.size w w') : Rec w' ao n cap R V := ⟨h.rd.below ho, h.nil, h.room⟩
theorem rec_nil (w : World) (R V : Nat -> Int) : Rec w none 0 0 R V := ⟨fun h => absurd h (Nat.lt_irrefl 0), fun _ => ⟨rfl, rfl⟩, Nat.le_refl _⟩
def rvl (R V : Nat -> Int) : Nat -> List Value
  | 0 => []
  | n + 1 => rvl R V n ++ [.int .i64 (R n), .int .i64 (V n)]
theorem rvl_length (R V : Nat -> Int) (n : Nat) : (rvl R V n).length = n * 2 := by
  induction n with
  | zero => rfl
  | succ n ih => rw [rvl, List.length_append, ih, Nat.succ_mul]; rfl
theorem rvl_get (R V : Nat -> Int) (n i : Nat) (hi : i < n) : (rvl R V n)[i * 2]? = some (.int .i64 (R i)) /\ (rvl R V n)[i * 2 + 1]? = some (.int .i64 (V i)) := by
  induction n with
  | zero => omega
  | succ n ih =>
    have hl := rvl_length R V n
    rw [rvl]
    by_cases h : i < n
    · rw [List.getElem?_append_left (by omega), List.getElem?_append_left (by omega)]; exact ih h
    · obtain rfl : i = n := by omega
      rw [List.getElem?_append_right (by omega), List.getElem?_append_right (by omega), hl, Nat.sub_self, show i * 2 + 1 - i * 2 = 1 by omega]
      exact ⟨rfl, rfl⟩
theorem rvl_one (R V : Nat -> Int) (n : Nat) : ∀ v ∈ rvl R V n, v.oneCell' = true := by
  induction n with
  | zero => intro v hv; cases hv
  | succ n ih =>
    intro v hv
    rw [rvl, List.mem_append] at hv
    rcases hv with hv | hv
    · exact ih v hv
    · simp at hv; rcases hv with rfl | rfl <;> rfl
theorem rvl_congr {R V R' V' : Nat -> Int} {n : Nat} (h : ∀ i, i < n -> R i = R' i /\ V i = V' i) : rvl R V n = rvl R' V' n := by
  induction n with
  | zero => rfl
  | succ n ih => rw [rvl, rvl, ih (fun i hi => h i (by omega)), (h n (by omega)).1, (h n (by omega)).2]
theorem rvl_ext {R V : Nat -> Int} {n : Nat} {l : List Value} (hl : l.length = n * 2) (h : ∀ i, i < n -> l[i * 2]? = some (.int .i64 (R i)) /\ l[i * 2 + 1]? = some (.int .i64 (V i))) : l = rvl R V n := by
  apply List.ext_getElem?
  intro j
  by_cases hj : j < n * 2
  · obtain ⟨i, hi⟩ : ∃ i, i = j / 2 := ⟨_, rfl⟩
    rcases (show j = i * 2 \/ j = i * 2 + 1 by omega) with e | e
    · rw [e, (h i (by omega)).1, (rvl_get R V n i (by omega)).1]
    · rw [e, (h i (by omega)).2, (rvl_get R V n i (by omega)).2]
  · rw [List.getElem?_eq_none (by omega), List.getElem?_eq_none (by rw [rvl_length]; omega)]
def OwR (B : Nat) (w : World) (ao : Option Addr) (n cap : Nat) (R V : Nat -> Int) : Prop := w.ownsRow B 67 2 (.slice ao n cap) n (rvl R V n)
theorem owr_nil (B : Nat) (w : World) (R V : Nat -> Int) : OwR B w none 0 0 R V := World.ownsRow_nil _ _ _ _
theorem OwR.congr {B : Nat} {w : World} {ao : Option Addr} {n cap : Nat} {R V R' V' : Nat -> Int} (h : OwR B w ao n cap R V) (e : ∀ i, i < n -> R i = R' i /\ V i = V' i) : OwR B w ao n cap R' V' := by
  unfold OwR at *; rw [<- rvl_congr e]; exact h
theorem OwR.rec {B : Nat} {w : World} {ao : Option Addr} {n cap : Nat} {R V : Nat -> Int} (h : OwR B w ao n cap R V) : Rec w ao n cap R V := by
  have h0 := h
  rcases h.2 with ⟨h1, h2⟩ | ⟨g, cap', cur, h1, _, _, h4, _⟩
  · cases h1; exact rec_nil _ _ _
  · cases h1
    refine ⟨fun hp => ⟨g, 0, rfl, fun i hi => ?_⟩, (fun e => by cases e), h4⟩
    have c0 := World.ownsRow.cells h0 (g := g) rfl (i * 2) _ (rvl_get R V n i hi).1
    have c1 := World.ownsRow.cells h0 (g := g) rfl (i * 2 + 1) _ (rvl_get R V n i hi).2
    rw [Addr.add_lit] at c0 c1
    exact ⟨c0, c1⟩
theorem OwR.stay {B : Nat} {w w' : World} {ao : Option Addr} {n cap : Nat} {R V : Nat -> Int} (h : OwR B w ao n cap R V) (hb : ∀ g, B <= g -> g < w.heap.size -> w'.heap[g]? = w.heap[g]?) : OwR B w' ao n cap R V := by
  refine ⟨h.1, ?_⟩
  rcases h.2 with h1 | ⟨g, cap', cur, h1, h2, h3, h4⟩
  · exact .inl h1
  · exact .inr ⟨g, cap', cur, h1, h2, by rw [hb g h2 (Array.getElem?_eq_some_iff.1 h3).1]; exact h3, h4⟩
theorem OwR.below {B : Nat} {w w' : World} {ao : Option Addr} {n cap : Nat} {R V : Nat -> Int} (h : OwR B w ao n cap R V) (hb : Below w.heap.size w w') : OwR B w' ao n cap R V := h.stay fun g _ hg => hb.block g hg
theorem OwR.mono {B B' : Nat} {w : World} {ao : Option Addr} {n cap : Nat} {R V : Nat -> Int} (h : OwR B w ao n cap R V) (hb : B' <= B) : OwR B' w ao n cap R V := by
  refine ⟨h.1, ?_⟩
  rcases h.2 with h1 | ⟨g, cap', cur, h1, h2, h3⟩
  · exact .inl h1
  · exact .inr ⟨g, cap', cur, h1, by omega, h3⟩
theorem OwR.at_ {B : Nat} {w : World} {ao : Option Addr} {n cap : Nat} {R V : Nat -> Int} (h : OwR B w ao n cap R V) (hn : 0 < n) : ∃ g, ao = some ⟨g, 0, none⟩ /\ B <= g /\ g < w.heap.size := by
  rcases h.2 with ⟨_, h2⟩ | ⟨g, cap', cur, h1, h2, h3, h4⟩
  · omega
  · cases h1; exact ⟨g, rfl, h2, (Array.getElem?_eq_some_iff.1 h3).1⟩
theorem OwR.cell {B : Nat} {w : World} {g n cap : Nat} {R V : Nat -> Int} (h : OwR B w (some ⟨g, 0, none⟩) n cap R V) {i : Nat} (hi : i < n) : w.cell? ⟨g, i * 2, none⟩ = some (.int .i64 (R i)) /\ w.cell? ⟨g, i * 2 + 1, none⟩ = some (.int .i64 (V i)) := by
  rw [World.ownsRow.cellAt h (i * 2) (by omega), World.ownsRow.cellAt h (i * 2 + 1) (by omega)]; exact rvl_get _ _ _ _ hi
theorem info27 : (Tryz.prog.info? 67).map (fun i => (i.zero, i.size, i.bytes)) = some (some (.agg #[.int .i64 0, .int .i64 0]), 2, 16) := by kernel_rfl
end Go.Proofs.YtngcdlodcdgcaaaGreat.De
namespace Go.Proofs.YtngcdlodcdgcaaaGreat.De
open Go.RowKit
theorem bec_behind {w : World} {b off n cp k : Nat} {F : Nat -> UInt8} (h : Bec w (some ⟨b, off, none⟩) n cp F) (hk : k <= n) : Bec w (some ⟨b, off + k, none⟩) (n - k) (cp - k) (fun j => F (k + j)) := by
  refine ⟨fun hn => ?_, (fun e => by cases e), by have := h.room; omega⟩
  obtain ⟨b', off', e, hc⟩ := h.rd (by omega)
  cases e
  exact ⟨b, off + k, rfl, fun j hj => by rw [Nat.add_assoc]; exact hc (k + j) (by omega)⟩
set_option maxHeartbeats 2000000 in
set_option maxRecDepth 100000 in
theorem takeNumber_any (w : World) (ao : Option Addr) (n cp k : Nat) (F : Nat -> UInt8) (h : Bec w ao n cp F) (hk : k <= n) (hk1 : 1 <= k) (hk4 : k <= 4) :
    Calls Tryz.prog 117 #[.slice ao n cp, .int .i64 (k : Int)] w fun e w' => ∃ bo, e = .returned (.tuple #[.int .i64 ((nm F 0 k : Nat) : Int), .slice bo (n - k) (cp - k)]) /\ (∀ u, Bec u ao n cp F -> Bec u bo (n - k) (cp - k) (fun j => F (k + j))) /\ Below w.heap.size w w' := by
  obtain ⟨b, off, rfl, hr⟩ := h.rd (by omega)
  have HR : Hid (∀ j, j < n -> w.cell? ⟨b, off + j, none⟩ = some (.int .u8 (((F j).toNat : Nat) : Int))) := hr
  have HB : Hid (∀ j, j <= k -> nm F 0 j < 4294967296) := fun j hj => Nat.lt_of_lt_of_le (nm_lt F 0 j) (by
    rcases (show j = 0 \/ j = 1 \/ j = 2 \/ j = 3 \/ j = 4 by omega) with rfl | rfl | rfl | rfl | rfl <;> decide)
  have HS : Hid (∀ j, nm F 0 (j + 1) = nm F 0 j * 256 + (F j).toNat) := fun j => by show _ = _; rw [nm, Nat.zero_add]
  have HL : Hid (∀ j, (F j).toNat < 256) := fun j => (F j).toNat_lt
  have HX : Hid (Bec w (some ⟨b, off, none⟩) n cp F) := h
  have hroom := h.room
  clear hr h
  have k0 : (0 : Int) <= (k : Int) := by omega
  have k1 : (k : Int) <= (cp : Int) := by omega
  have k2 : (k : Int) <= (n : Int) := by omega
  by_cases hcap : cp = k
  · obtain rfl : n = k := by omega
    subst hcap
    go_enter Tryz.func117, Tryz.ntmps117
    go_wp2
    go_loop [6, 13] (fun y x => ∃ i : Nat, i <= cp /\ x = .int .i64 (i : Int) /\ ∃ z : Nat, y = .int .i64 (z : Int) /\ Hid (z = nm F 0 i)) (fun _ x => cp - (intOf x).toNat)
    case atStart => exact ⟨0, Nat.zero_le _, rfl, 0, rfl, rfl⟩
    case round =>
      obtain ⟨i, hi, rfl, z, rfl, hz⟩ := hrel
      by_cases hlt : i < cp
      · have ck := HR.out i (by omega)
        have hb := HB.out i (by omega)
        have hs := HS.out i
        have hl := HL.out i
        rw [<- hz.out] at hb hs
        obtain ⟨u, hu⟩ : ∃ u : Nat, (F i).toNat = u := ⟨_, rfl⟩
        rw [hu] at ck hs hl
        have HN : Hid (nm F 0 (i + 1) = z * 256 + u) := hs
        have hor : bits .or .i64 ((z : Int) * 256) (u : Int) = ((z * 256 + u : Nat) : Int) := by
          rw [show (z : Int) * 256 = ((z * 256 : Nat) : Int) by omega, i64_or_nat _ _ (by omega) (by omega), or_mul _ _ hl]
        have i1 : (0 : Int) <= (i : Int) := by omega
        have i2 : (i : Int) < (cp : Int) := by omega
        clear hs hu hz
        go_wp2
        go_round
        case rel => exact ⟨i + 1, by omega, by go_num, z * 256 + u, by go_num, HN.out.symm⟩
        case measure => simp [intOf]; omega
      · obtain rfl : i = cp := by omega
        go_wp2_with fail
        go_quiet (fail)
        go_wp2
        go_ret2
        refine ⟨some ⟨b, off, none⟩, ?_, ?_, below_drewN _ _ _⟩
        · rw [hz.out, Nat.sub_self]; rfl
        · intro u _; rw [Nat.sub_self]; exact ⟨fun h => absurd h (Nat.lt_irrefl 0), (fun e => by cases e), Nat.le_refl _⟩
  · have hcap2 : ¬ (k : Int) = (cp : Int) := by omega
    go_enter Tryz.func117, Tryz.ntmps117
    go_wp2
    go_loop [6, 13] (fun y x => ∃ i : Nat, i <= k /\ x = .int .i64 (i : Int) /\ ∃ z : Nat, y = .int .i64 (z : Int) /\ Hid (z = nm F 0 i)) (fun _ x => k - (intOf x).toNat)
    case atStart => exact ⟨0, Nat.zero_le _, rfl, 0, rfl, rfl⟩
    case round =>
      obtain ⟨i, hi, rfl, z, rfl, hz⟩ := hrel
      by_cases hlt : i < k
      · have ck := HR.out i (by omega)
        have hb := HB.out i (by omega)
        have hs := HS.out i
        have hl := HL.out i
        rw [<- hz.out] at hb hs
        obtain ⟨u, hu⟩ : ∃ u : Nat, (F i).toNat = u := ⟨_, rfl⟩
        rw [hu] at ck hs hl
        have HN : Hid (nm F 0 (i + 1) = z * 256 + u) := hs
        have hor : bits .or .i64 ((z : Int) * 256) (u : Int) = ((z * 256 + u : Nat) : Int) := by
          rw [show (z : Int) * 256 = ((z * 256 : Nat) : Int) by omega, i64_or_nat _ _ (by omega) (by omega), or_mul _ _ hl]
        have i1 : (0 : Int) <= (i : Int) := by omega
        have i2 : (i : Int) < (k : Int) := by omega
        clear hs hu hz
        go_wp2
        go_round
        case rel => exact ⟨i + 1, by omega, by go_num, z * 256 + u, by go_num, HN.out.symm⟩
        case measure => simp [intOf]; omega
      · obtain rfl : i = k := by omega
        go_wp2_with fail
        go_quiet (fail)
        go_wp2
        go_ret2
        exact ⟨some ⟨b, off + i, none⟩, by rw [hz.out]; rfl, fun u hu => bec_behind hu hk, below_drewN _ _ _⟩
end Go.Proofs.YtngcdlodcdgcaaaGreat.De
namespace Go.Proofs.YtngcdlodcdgcaaaGreat.De
open Go.RowKit
set_option maxHeartbeats 2000000 in
set_option maxRecDepth 100000 in
theorem readRef_any (w : World) (ao : Option Addr) (n cp : Nat) (F : Nat -> UInt8) (h : Bec w ao n cp F) (hn : 6 <= n) :
    Calls Tryz.prog 124 #[.slice ao n cp] w fun e w' => e = .returned (.agg #[.int .i64 ((nm F 0 2 : Nat) : Int), .int .i64 ((nm F 2 4 : Nat) : Int)]) /\ Below w.heap.size w w' := by
  have HX : Hid (Bec w ao n cp F) := h
  have HM : Hid (nm (fun j => F (2 + j)) 0 4 = nm F 2 4) := nm_move F 2 0 4
  clear h
  obtain ⟨w0, hw0⟩ : ∃ w0, w0 = w.alloc (.cells #[.int .i64 0, .int .i64 0] 67) := ⟨_, rfl⟩
  have b0 : Below w.heap.size w w0 := by rw [hw0]; exact below_alloc _ _
  go_enter Tryz.func124, Tryz.ntmps124
  go_wp2_with fail
  rw [<- hw0]
  refine (takeNumber_any _ ao n cp 2 F (HX.out.below b0) (by omega) (by omega) (by omega)).mono ?_
  rintro e wa ⟨bo, rfl, hbo, ha⟩
  go_wp2_with fail
  refine (takeNumber_any _ bo (n - 2) (cp - 2) 4 _ (hbo _ (HX.out.below (below_then b0 ha))) (by omega) (by omega) (by omega)).mono ?_
  rintro e wb ⟨co, rfl, hco, hb⟩
  have hB := below_then ha hb
  have m0 := blk_held hw0 hB 0 rfl
  have m1 := blk_held hw0 hB 1 rfl
  have f := blk_free hw0 hB
  clear hw0 hco hbo
  rw [HM.out]
  go_wp2_with fail
  refine bodyPost_ret (v := .agg #[.int .i64 ((nm F 0 2 : Nat) : Int), .int .i64 ((nm F 2 4 : Nat) : Int)]) (by simp [results, Tryz.results124, go_sem, m0, m1]) rfl ⟨rfl, ?_⟩
  exact ((below_then b0 hB).setCell (Nat.le_refl _) _).setCell (Nat.le_refl _) _
def apI (k : Nat) (R R' : Nat -> Int) : Nat -> Int := fun i => if i < k then R i else R' (i - k)
theorem rvl_app (R V R' V' : Nat -> Int) (k n : Nat) : rvl R V k ++ rvl R' V' n = rvl (apI k R R') (apI k V V') (k + n) := by
  have h1 := rvl_length R V k
  have h2 := rvl_length R' V' n
  refine rvl_ext (by rw [List.length_append, h1, h2]; omega) fun i hi => ?_
  unfold apI
  by_cases h : i < k
  · rw [List.getElem?_append_left (by omega), List.getElem?_append_left (by omega), if_pos h, if_pos h]
    exact rvl_get R V k i h
  · rw [List.getElem?_append_right (by omega), List.getElem?_append_right (by omega), h1, if_neg h, if_neg h, show i * 2 - k * 2 = (i - k) * 2 by omega, show i * 2 + 1 - k * 2 = (i - k) * 2 + 1 by omega]
    exact rvl_get R' V' n (i - k) (by omega)
theorem rec_news {w : World} {ad : Addr} {n cap : Nat} {R V : Nat -> Int} (h : Rec w (some ad) n cap R V) : ∀ j u, (rvl R V n)[j]? = some u -> w.cell? (ad.add j) = some u := by
  intro j u hu
  have hl := rvl_length R V n
  have hj : j < n * 2 := list_lt hl hu
  obtain ⟨b, off, e, hc⟩ := h.rd (by omega)
  cases e
  rw [Addr.add_lit]
  obtain ⟨i, hi⟩ : ∃ i, i = j / 2 := ⟨_, rfl⟩
  rcases (show j = i * 2 \/ j = i * 2 + 1 by omega) with e | e
  · rw [e] at hu ⊢
    rw [(rvl_get R V n i (by omega)).1] at hu
    rw [(hc i (by omega)).1]; exact hu
  · rw [e] at hu ⊢
    rw [(rvl_get R V n i (by omega)).2] at hu
    rw [<- Nat.add_assoc, (hc i (by omega)).2]; exact hu
theorem wpList_append_refs {w : World} {ops : Array Oper} {rest : List Oper} {o : Oper} {a : Act} {Q : Exit -> Act -> World -> Prop} (hgd : o.guard = none) (s x : Operand)
    (ho : o.op = .call { callee := .builtin .append, args := #[s, x], argTypes := #[60, 60] }) (B k n ca cb : Nat) (ao bo : Option Addr) (R V R' V' : Nat -> Int)
    (hs : a.eval s = .slice ao k ca) (hx : a.eval x = .slice bo n cb) (h : OwR B w ao k ca R V) (hv : Rec w bo n cb R' V') (hk : k + n <= 100000) (hB : B <= w.heap.size)
    (cont : ∀ ao' c' w', OwR B w' ao' (k + n) c' (apI k R R') (apI k V V') -> w.grownBy w' (Value.slice ao k ca).ownBlock -> wpList Tryz.prog ops Q rest (a.put o.dst (.slice ao' (k + n) c')) w') : wpList Tryz.prog ops Q (o :: rest) a w := by
  obtain ⟨j0, hj, hj0, hj1, hj2⟩ := info_parts info27
  cases bo with
  | none =>
    obtain ⟨rfl, rfl⟩ := hv.nil rfl
    have := cont ao ca w (by refine OwR.congr h fun i hi => ?_; have hi2 : i < k := hi; unfold apI; rw [if_pos hi2, if_pos hi2]; exact ⟨rfl, rfl⟩) ⟨rfl, rfl, rfl, Nat.le_refl _, fun _ _ _ => rfl⟩
    exact wpList_append_own_none hgd s x 60 ho B 67 j0 2 Tryz.underlying60 hj (.slice ao k ca) k (rvl R V k) hs h hx this
  | some ad =>
    refine wpList_append_own w hgd s x 60 ho B 67 j0 (.agg #[.int .i64 0, .int .i64 0]) 2 16 Tryz.underlying60 hj hj0 hj1 hj2 rfl (by decide) (.slice ao k ca) k (rvl R V k) hs h ad n cb (rvl R' V' n) hx (rvl_length _ _ _) (rec_news hv) (rvl_one _ _ _) (by unfold maxLen; omega) (by omega) hB ?_
    intro v' w' h1 h2 _
    obtain ⟨ao', c', rfl⟩ : ∃ ao' c', v' = .slice ao' (k + n) c' := by
      rcases h1.2 with ⟨rfl, e⟩ | ⟨g, cap, cur, rfl, _⟩
      · rw [e]; exact ⟨none, 0, rfl⟩
      · exact ⟨_, cap, rfl⟩
    rw [rvl_app] at h1
    exact cont ao' c' w' h1 h2
theorem ownr_ge {B : Nat} {w : World} {ao : Option Addr} {n cap : Nat} {R V : Nat -> Int} (h : OwR B w ao n cap R V) : ∀ g, (Value.slice ao n cap).ownBlock = some g -> B <= g := fun g hg => (World.ownsRow.lt h g hg).1
theorem rec_one (w : World) (a v : Int) : Rec (w.alloc (.cells #[.int .i64 a, .int .i64 v] 67)) (some ⟨w.heap.size, 0, none⟩) 1 1 (fun _ => a) (fun _ => v) := by
  refine ⟨fun _ => ⟨_, _, rfl, fun j hj => ?_⟩, (fun e => by cases e), Nat.le_refl _⟩
  obtain rfl : j = 0 := by omega
  rw [cell_of_row _ _ _ _ _ _ (heap_alloc_new w _), cell_of_row _ _ _ _ _ _ (heap_alloc_new w _)]
  exact ⟨rfl, rfl⟩
theorem apI_one {k : Nat} {R : Nat -> Int} {a : Int} (h : R k = a) {i : Nat} (hi : i < k + 1) : apI k R (fun _ => a) i = R i := by
  unfold apI
  by_cases h2 : i < k
  · rw [if_pos h2]
  · rw [if_neg h2, <- h, show i = k by omega]
set_option maxHeartbeats 4000000 in
set_option maxRecDepth 100000 in
theorem readLeaf_any (w : World) (ao : Option Addr) (n cp m : Nat) (F : Nat -> UInt8) (h : Bec w ao n cp F) (hm : 6 * m <= n) (hm2 : m <= 1000) :
    Calls Tryz.prog 109 #[.slice ao n cp, .int .i64 (m : Int)] w fun e w' => ∃ uo uc bo, e = .returned (.agg #[.int .i64 0, .int .i64 0, .int .i64 0, .slice uo m uc, .slice bo (n - 6 * m) (cp - 6 * m)]) /\ OwR w.heap.size w' uo m uc (rdR F 0) (rdV F 0) /\ (∀ u, Bec u ao n cp F -> Bec u bo (n - 6 * m) (cp - 6 * m) (fun j => F (6 * m + j))) /\ Below w.heap.size w w' := by
  have HX : Hid (Bec w ao n cp F) := h
  have hroom := h.room
  have HM : Hid (∀ i, nm (fun j => F (6 * i + j)) 0 2 = nm F (6 * i) 2 /\ nm (fun j => F (6 * i + j)) 2 4 = nm F (6 * i + 2) 4) := fun i => ⟨nm_move F (6 * i) 0 2, nm_move F (6 * i) 2 4⟩
  have HRV : Hid (∀ i, rdR F 0 i = ((nm F (6 * i) 2 : Nat) : Int) /\ rdV F 0 i = ((nm F (6 * i + 2) 4 : Nat) : Int)) := fun i => by unfold rdR rdV; rw [Nat.zero_add]; exact ⟨rfl, rfl⟩
  clear h
  obtain ⟨w0, hw0⟩ : ∃ w0, w0 = w.alloc (.cells #[.int .i64 0, .int .i64 0, .int .i64 0, .slice none 0 0, .slice none 0 0] 171) := ⟨_, rfl⟩
  have b0 : Below w.heap.size w w0 := by rw [hw0]; exact below_alloc _ _
  have z0 : w0.heap.size = w.heap.size + 1 := by rw [hw0]; simp
  have HB0 : Hid (Below w.heap.size w w0) := b0
  have HC0 : Hid (∀ v, Below w0.heap.size w0 v -> (v.cell? ⟨w.heap.size, 0, none⟩ = some (.int .i64 0) /\ v.cell? ⟨w.heap.size, 1, none⟩ = some (.int .i64 0) /\ v.cell? ⟨w.heap.size, 2, none⟩ = some (.int .i64 0) /\ v.cell? ⟨w.heap.size, 3, none⟩ = some (.slice none 0 0) /\ v.cell? ⟨w.heap.size, 4, none⟩ = some (.slice none 0 0)) /\ ∀ i, v.frozen? ⟨w.heap.size, i, none⟩ = false) := fun v hv => ⟨mea_held hw0 hv, blk_free hw0 hv⟩
  have HS0 : Hid (w0.heap.size = w.heap.size + 1) := z0
  go_enter Tryz.func109, Tryz.ntmps109
  go_wp2_with fail
  rw [<- hw0]
  clear hw0 b0 z0
  go_loopw [0, 5, 7] (fun y z x wr => ∃ i l c : Nat, i <= m /\ l + 6 * i = n /\ c + 6 * i = cp /\ x = .int .i64 (i : Int) /\ (∃ bo, y = .slice bo l c /\ Hid (∀ u, Bec u ao n cp F -> Bec u bo l c (fun j => F (6 * i + j)))) /\ (∃ uo uc, z = .slice uo i uc /\ Hid (OwR w0.heap.size wr uo i uc (rdR F 0) (rdV F 0))) /\ Hid (Below w0.heap.size w0 wr)) (fun _ _ x _ => m - (intOf x).toNat)
  case atStart => exact ⟨0, n, cp, Nat.zero_le _, rfl, rfl, rfl, ⟨ao, rfl, fun u hu => hu.congr fun j _ => by rw [Nat.mul_zero, Nat.zero_add]⟩, ⟨none, 0, rfl, owr_nil _ _ _ _⟩, Below.refl _ _⟩
  case round =>
    obtain ⟨i, l, c, hi, hl, hc, rfl, ⟨bo, rfl, hbo⟩, ⟨uo, uc, rfl, hown⟩, hbel⟩ := hrel
    by_cases hlt : i < m
    · have hl6 : 6 <= l := by omega
      have hlc : l <= c := (hbo.out _ HX.out).room
      have HRR := fun w h => readRef_any w bo l c (fun j => F (6 * i + j)) h hl6
      rw [(HM.out i).1, (HM.out i).2, <- (HRV.out i).1, <- (HRV.out i).2] at HRR
      obtain ⟨ri, hri⟩ : ∃ ri, ri = rdR F 0 i := ⟨_, rfl⟩
      obtain ⟨vi, hvi⟩ : ∃ vi, vi = rdV F 0 i := ⟨_, rfl⟩
      have HF : Hid (rdR F 0 i = ri /\ rdV F 0 i = vi) := ⟨hri.symm, hvi.symm⟩
      rw [<- hri, <- hvi] at HRR
      clear hri hvi
      have c6 : (6 : Int) <= (l : Int) := by omega
      have d6 : (6 : Int) <= (c : Int) := by omega
      have i2 : (i : Int) < (m : Int) := by omega
      obtain ⟨b, off, rfl, _⟩ := (hbo.out _ HX.out).rd (by omega)
      have HBO : Hid (∀ u, Bec u ao n cp F -> Bec u (some ⟨b, off + 6, none⟩) (l - 6) (c - 6) (fun j => F (6 * (i + 1) + j))) := fun u hu => (bec_behind (hbo.out u hu) hl6).congr fun j _ => by show F (6 * i + (6 + j)) = _; rw [show 6 * i + (6 + j) = 6 * (i + 1) + j by omega]
      have hw8 : IntKind.i64.wrap ((i : Int) + 1) = (i : Int) + 1 := by rw [IntKind.wrap_i64]; omega
      by_cases hcap : c = 6
      · obtain rfl : l = 6 := by omega
        subst hcap
        go_wp2_with fail
        refine (HRR _ (hbo.out _ (HX.out.below (below_step HB0.out hbel.out HB0.out.size)))).mono ?_
        rintro e wa ⟨rfl, ha⟩
        have HO1 : Hid (OwR w0.heap.size wa uo i uc (rdR F 0) (rdV F 0)) := hown.out.below ha
        have HB1 : Hid (Below w0.heap.size w0 wa) := below_step hbel.out ha hbel.out.size
        have hs1 : w0.heap.size <= wa.heap.size := HB1.out.size
        clear ha
        go_wp2_with (at_builtin; refine wpList_append_refs (by rfl) (.tmp 9) (.tmp 12) (by rfl) w0.heap.size i 1 uc 1 uo (some ⟨wa.heap.size, 0, none⟩) (rdR F 0) (rdV F 0) (fun _ => ri) (fun _ => vi) (by rfl) (by rfl) (HO1.out.below (below_alloc _ _)) (rec_one wa ri vi) (by omega) (by simp; omega) ?_; intro u2 c2 wb h2 g2; have HO2 : Hid (OwR w0.heap.size wb u2 (i + 1) c2 (rdR F 0) (rdV F 0)) := h2.congr (fun t ht => ⟨apI_one HF.out.1 ht, apI_one HF.out.2 ht⟩); have HB2 : Hid (Below w0.heap.size w0 wb) := (HB1.out.alloc hs1 _).grown g2 (by simp; omega) (ownr_ge HO1.out); clear h2 g2)
        refine ⟨⟨i + 1, 0, 0, by omega, by omega, by omega, by go_num, ⟨_, rfl, ?_⟩, ⟨_, _, rfl, HO2⟩, HB2⟩, by simp [intOf]; omega⟩
        exact fun u _ => ⟨fun h => absurd h (Nat.lt_irrefl 0), (fun e => by cases e), Nat.le_refl _⟩
      · have hcap2 : ¬ (c : Int) = 6 := by omega
        go_wp2_with fail
        refine (HRR _ (hbo.out _ (HX.out.below (below_step HB0.out hbel.out HB0.out.size)))).mono ?_
        rintro e wa ⟨rfl, ha⟩
        have HO1 : Hid (OwR w0.heap.size wa uo i uc (rdR F 0) (rdV F 0)) := hown.out.below ha
        have HB1 : Hid (Below w0.heap.size w0 wa) := below_step hbel.out ha hbel.out.size
        have hs1 : w0.heap.size <= wa.heap.size := HB1.out.size
        clear ha
        go_wp2_with (at_builtin; refine wpList_append_refs (by rfl) (.tmp 9) (.tmp 12) (by rfl) w0.heap.size i 1 uc 1 uo (some ⟨wa.heap.size, 0, none⟩) (rdR F 0) (rdV F 0) (fun _ => ri) (fun _ => vi) (by rfl) (by rfl) (HO1.out.below (below_alloc _ _)) (rec_one wa ri vi) (by omega) (by simp; omega) ?_; intro u2 c2 wb h2 g2; have HO2 : Hid (OwR w0.heap.size wb u2 (i + 1) c2 (rdR F 0) (rdV F 0)) := h2.congr (fun t ht => ⟨apI_one HF.out.1 ht, apI_one HF.out.2 ht⟩); have HB2 : Hid (Below w0.heap.size w0 wb) := (HB1.out.alloc hs1 _).grown g2 (by simp; omega) (ownr_ge HO1.out); clear h2 g2)
        exact ⟨⟨i + 1, l - 6, c - 6, by omega, by omega, by omega, by go_num, ⟨_, rfl, HBO⟩, ⟨_, _, rfl, HO2⟩, HB2⟩, by simp [intOf]; omega⟩
    · obtain rfl : i = m := by omega
      obtain ⟨⟨m0, m1, m2, m3, m4⟩, f⟩ := HC0.out _ hbel.out
      obtain rfl : l = n - 6 * i := by omega
      obtain rfl : c = cp - 6 * i := by omega
      generalize hl' : n - 6 * i = l at *
      generalize hc' : cp - 6 * i = c at *
      have HL : Hid (n - 6 * i = l /\ cp - 6 * i = c) := ⟨hl', hc'⟩
      clear hl' hc' hl hc
      go_wp2_with fail
      refine bodyPost_ret (v := .agg #[.int .i64 0, .int .i64 0, .int .i64 0, .slice uo i uc, .slice bo l c]) (by simp [results, Tryz.results109, go_sem, m0, m1, m2, m3, m4]) rfl ⟨uo, uc, bo, by rw [HL.out.1, HL.out.2], ?_, ?_, ?_⟩
      all_goals have hW := (((((below_step HB0.out hbel.out HB0.out.size).setCell (p := ⟨w.heap.size, 0, none⟩) (Nat.le_refl _) (.int .i64 0)).setCell (p := ⟨w.heap.size, 1, none⟩) (Nat.le_refl _) (.int .i64 0)).setCell (p := ⟨w.heap.size, 2, none⟩) (Nat.le_refl _) (.int .i64 0)).setCell (p := ⟨w.heap.size, 3, none⟩) (Nat.le_refl _) (.slice uo i uc)).setCell (p := ⟨w.heap.size, 4, none⟩) (Nat.le_refl _) (.slice bo l c)
      · refine (hown.out.stay fun g hg hg2 => ?_).mono HB0.out.size
        have hne : g ≠ w.heap.size := by rw [HS0.out] at hg; omega
        rw [heap_setCell_other _ _ _ _ hne, heap_setCell_other _ _ _ _ hne, heap_setCell_other _ _ _ _ hne, heap_setCell_other _ _ _ _ hne, heap_setCell_other _ _ _ _ hne]
      · rw [HL.out.1, HL.out.2]; exact hbo.out
      · exact hW
end Go.Proofs.YtngcdlodcdgcaaaGreat.De
