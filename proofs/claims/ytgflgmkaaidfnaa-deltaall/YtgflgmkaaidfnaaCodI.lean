/- The data cells of which the chosen cells are made. -/
import Derived.Test.YtgflgmkaaidfnaaCodF
namespace Go.Proofs.Ytgflgmkaaidfnaa
open Go.RowKit

/-- The rows of the first t chosen cells, and these cells, in two lists. -/
structure Picked (w : World) (B k m t : Nat) (v u : Value) (G U : Nat → Nat) (A : Nat → Option Addr) (C R : Nat → Nat) : Prop where
  rows : w.ownsRow B 23 1 v t (rowsOf t (fun s => some ⟨G s, 0, none⟩) (fun _ => k) U)
  cells : w.ownsRow B 23 1 u t (rowsOf t (fun s => A (R s)) (fun _ => m) (fun s => C (R s)))
  row : ∀ s, s < t → Own w (G s) k (U s) (gen k (R s))
  apart : ∀ g, v.ownBlock = some g → u.ownBlock ≠ some g
theorem Picked.stay {w w' : World} {B k m t : Nat} {v u : Value} {G U : Nat → Nat} {A : Nat → Option Addr} {C R : Nat → Nat} (h : Picked w B k m t v u G U A C R) (hs : Stay w w') : Picked w' B k m t v u G U A C R :=
  ⟨owns_stay h.rows hs, owns_stay h.cells hs, fun s hs' => (h.row s hs').stay hs, h.apart⟩
theorem Picked.start (w : World) (B k m : Nat) (A : Nat → Option Addr) (C R : Nat → Nat) : Picked w B k m 0 (.slice none 0 0) (.slice none 0 0) (fun _ => 0) (fun _ => 0) A C R :=
  ⟨World.ownsRow_nil _ _ _ _, World.ownsRow_nil _ _ _ _, fun s hs => absurd hs (Nat.not_lt_zero s), fun g h => by cases h⟩
theorem apart_or {v u : Value} (h : ∀ g, v.ownBlock = some g → u.ownBlock ≠ some g) : u.ownBlock = none ∨ u.ownBlock ≠ v.ownBlock := by
  cases e : u.ownBlock with
  | none => exact .inl rfl
  | some g =>
    right
    intro e'
    exact h g e'.symm e
theorem Own.grown {w w' : World} {g n u base m : Nat} {f : Nat → K} {v : Value} {xs : List Value} (h : Own w g n u f) (ho : w.ownsRow base 23 1 v m xs) (hg : w.grownBy w' v.ownBlock) : Own w' g n u f :=
  h.of_block (hg.block g h.lt fun e => own_ne ho h e.symm)
theorem Own.alloc {w : World} {g n u : Nat} {f : Nat → K} (h : Own w g n u f) (o : Obj) : Own (w.alloc o) g n u f := h.below ((Below.refl _ _).alloc (Nat.le_refl _) _)
/-- Both lists get one more. -/
theorem Picked.step {w1 w2 w3 : World} {B k m t g1 g2 c1 c2 gr ur : Nat} {v u : Value} {G U : Nat → Nat} {A : Nat → Option Addr} {C R : Nat → Nat} {o o' : Obj} (h : Picked w1 B k m t v u G U A C R) (hr : Own w1 gr k ur (gen k (R t)))
    (hg1 : (w1.alloc o).grownBy w2 v.ownBlock) (h1 : w2.ownsRow B 23 1 (.slice (some ⟨g1, 0, none⟩) (t + 1) c1) (t + 1) (rowsOf t (fun s => some ⟨G s, 0, none⟩) (fun _ => k) U ++ [.slice (some ⟨gr, 0, none⟩) k ur])) (hw1 : v.ownBlock = some g1 ∨ g1 = w1.heap.size + 1)
    (hg2 : (w2.alloc o').grownBy w3 u.ownBlock) (h2 : w3.ownsRow B 23 1 (.slice (some ⟨g2, 0, none⟩) (t + 1) c2) (t + 1) (rowsOf t (fun s => A (R s)) (fun _ => m) (fun s => C (R s)) ++ [.slice (A (R t)) m (C (R t))])) (hw2 : u.ownBlock = some g2 ∨ g2 = w2.heap.size + 1) :
    Picked w3 B k m (t + 1) (.slice (some ⟨g1, 0, none⟩) (t + 1) c1) (.slice (some ⟨g2, 0, none⟩) (t + 1) c2) (put t gr G) (put t ur U) A C R := by
  have hu : ∀ x, u.ownBlock = some x → x < w1.heap.size := fun x hx => (h.cells.lt x hx).2
  have hg1w := (h1.lt g1 rfl).2
  have hne : ∀ x, u.ownBlock = some x → g1 ≠ x := fun x hx e => by
    rcases hw1 with e1 | e1
    · exact h.apart g1 e1 (by rw [hx, e])
    · have := hu x hx; omega
  have cu : w2.ownsRow B 23 1 u t (rowsOf t (fun s => A (R s)) (fun _ => m) (fun s => C (R s))) := (h.cells.alloc o).kept hg1 (apart_or h.apart)
  refine ⟨?_, ?_, fun s hs => ?_, fun g hg => ?_⟩
  · have := (h1.alloc o').kept hg2 (.inr (fun e => hne g1 e.symm rfl))
    refine (congrArg (w3.ownsRow B 23 1 (.slice (some ⟨g1, 0, none⟩) (t + 1) c1) (t + 1)) ?_).mp this
    have := rowsOf_put t (fun s => some ⟨G s, 0, none⟩) (fun _ => k) U (some ⟨gr, 0, none⟩) k ur
    rw [← this]
    refine List.map_congr_left fun i _ => ?_
    by_cases e : i = t
    · subst e; simp only [put_at]
    · simp only [put_ne _ _ e]
  · refine (congrArg (w3.ownsRow B 23 1 (.slice (some ⟨g2, 0, none⟩) (t + 1) c2) (t + 1)) ?_).mp h2
    simp [rowsOf, List.range_succ]
  · have old : ∀ g u' f, Own w1 g k u' f → Own w3 g k u' f := fun g u' f ho => (((ho.alloc o).grown (h.rows.alloc o) hg1).alloc o').grown (cu.alloc o') hg2
    by_cases e : s = t
    · subst e; rw [put_at, put_at]; exact old _ _ _ hr
    · rw [put_ne _ _ e, put_ne _ _ e]; exact old _ _ _ (h.row s (by omega))
  · cases hg
    intro e
    have e2 : g2 = g1 := Option.some.inj e
    rcases hw2 with e3 | e3
    · exact hne g2 e3 e2.symm
    · omega
theorem Picked.lst1 {w : World} {B k m t c1 : Nat} {a1 : Option Addr} {u : Value} {G U : Nat → Nat} {A : Nat → Option Addr} {C R : Nat → Nat} (h : Picked w B k m t (.slice a1 t c1) u G U A C R) : Lst w a1 t (fun s => some ⟨G s, 0, none⟩) U (fun _ => k) (rowsR k R) :=
  ⟨fun s hs => (h.row s hs).rd, fun hp => by
    rcases h.rows.2 with ⟨_, h1⟩ | ⟨g, cap', cur, h1, _⟩
    · omega
    · cases h1
      refine ⟨g, 0, rfl, fun i hi => ?_⟩
      have := h.rows.cells (g := g) rfl i _ (rowsOf_get t _ _ _ i hi)
      rwa [Addr.add_lit] at this⟩
theorem Picked.lst2 {w : World} {B k m t c2 : Nat} {a2 : Option Addr} {v : Value} {G U : Nat → Nat} {A : Nat → Option Addr} {C R : Nat → Nat} {H : M} (h : Picked w B k m t v (.slice a2 t c2) G U A C R) (hr : ∀ s, s < t → Rd w (A (R s)) m (H (R s))) : Lst w a2 t (fun s => A (R s)) (fun s => C (R s)) (fun _ => m) (fun s => H (R s)) :=
  ⟨hr, fun hp => by
    rcases h.cells.2 with ⟨_, h1⟩ | ⟨g, cap', cur, h1, _⟩
    · omega
    · cases h1
      refine ⟨g, 0, rfl, fun i hi => ?_⟩
      have := h.cells.cells (g := g) rfl i _ (rowsOf_get t _ _ _ i hi)
      rwa [Addr.add_lit] at this⟩
theorem Copied.base {w : World} {B B' k : Nat} {v : Value} {T : Nat → Option Addr} {L U : Nat → Nat} {H : M} (h : Copied w B k v T L U H) (hb : B' ≤ B) : Copied w B' k v T L U H :=
  ⟨owns_base h.out hb, fun i hi => owns_base (h.row i hi) hb, h.apart⟩
theorem owns_old_ne {w : World} {base e n g : Nat} {v : Value} {xs : List Value} (h : w.ownsRow base e 1 v n xs) (hg : g < base) : v.ownBlock ≠ some g := fun e => by have := (h.lt g e).1; omega
end Go.Proofs.Ytgflgmkaaidfnaa

/- What the program's way back to the data cells answers. -/
namespace Go.Proofs.Ytgflgmkaaidfnaa
open Go.RowKit

end Go.Proofs.Ytgflgmkaaidfnaa

/- What Row and Encode of the program answer. -/
namespace Go.Proofs.Ytgflgmkaaidfnaa
open Go.RowKit

/-- An answer of bytes: none, or a row of its own between B and T. -/
def RowSol (w : World) (B T : Nat) (ao : Option Addr) (n cap : Nat) (f : Nat → K) : Prop := (ao = none ∧ n = 0 ∧ cap = 0) ∨ ∃ g, ao = some ⟨g, 0, none⟩ ∧ B ≤ g ∧ g < T ∧ Own w g n cap f
def OneAns (w : World) (ok : Bool) (err : Int) (n : Nat) (f : Nat → K) (e : Ending) (w' : World) : Prop :=
  ∃ ao cap, e = .returned (.tuple #[.slice ao (lenB ok n) cap, .int .i64 (errB ok err)]) ∧ RowSol w' w.heap.size w'.heap.size ao (lenB ok n) cap f ∧ Below w.heap.size w w'
def okRow (k r c : Int) : Bool := mayB k r && decide (0 ≤ c ∧ c < k + r)
theorem Kept.made (w : World) (k r : Nat) : Kept (w.alloc (.map #[] 0)) w.heap.size w.heap.size k r 0 0 0 :=
  ⟨.map [], World.ownsMap_made w Try.prog 64 elem, (fun c _ h => by cases h), fun c _ h => absurd h (Nat.not_lt_zero c)⟩
theorem below_map {w w' : World} (h : Keeps w.heap.size (w.heap.size + 1) (w.alloc (.map #[] 0)) w') : Below w.heap.size w w' :=
  ((Below.refl _ _).alloc (Nat.le_refl _) _).trans (h.below (by simp) (Nat.le_refl _))

set_option maxHeartbeats 400000 in
set_option maxRecDepth 100000 in
theorem Row_any (w : World) (k r c : Int) : Calls Try.prog 23 #[.int .i64 k, .int .i64 r, .int .i64 c] w (OneAns w (okRow k r c) 2 k.toNat (gen k.toNat c.toNat)) := by
  have HM := may_any w k r
  have bad : OneAns w false 2 k.toNat (gen k.toNat c.toNat) (.returned (.tuple #[.slice none 0 0, .int .i64 2])) w := ⟨none, 0, rfl, .inl ⟨rfl, rfl, rfl⟩, Below.refl _ _⟩
  cases hmay : mayB k r
  · rw [show okRow k r c = false by unfold okRow; rw [hmay]; rfl]
    rw [hmay] at HM
    clear hmay
    go_enter Try.func23, Try.ntmps23
    go_wp2_with (go_at_call 31; refine HM.mono ?_; rintro e w' ⟨rfl, rfl⟩)
    go_ret2
    exact bad
  · obtain ⟨h1, h2, h3, h4⟩ := mayB_true hmay
    rw [hmay] at HM
    by_cases h5 : 0 ≤ c
    · by_cases h6 : c < k + r
      · rw [show okRow k r c = true by unfold okRow; rw [hmay]; simp [h5, h6]]
        clear hmay bad
        obtain ⟨k, rfl⟩ := Int.eq_ofNat_of_zero_le (show 0 ≤ k by omega)
        obtain ⟨r, rfl⟩ := Int.eq_ofNat_of_zero_le (show 0 ≤ r by omega)
        obtain ⟨c, rfl⟩ := Int.eq_ofNat_of_zero_le h5
        rw [Int.toNat_natCast, Int.toNat_natCast]
        have hmm := @run_makeMap Try.prog
        have HR := row_any (w.alloc (.map #[] 0)) w.heap.size w.heap.size k r 0 c (by omega) (by omega) (by omega) (by omega) (by omega) (by simp) (Kept.made w k r)
        unfold key at HR
        have HRR : Hid (Calls Try.prog 35 #[.map (some w.heap.size), .agg #[.int .i64 (k : Int), .int .i64 (r : Int), .int .i64 (c : Int)]] (w.alloc (.map #[] 0)) (RowOf (w.alloc (.map #[] 0)) w.heap.size w.heap.size k r 0 c)) := HR
        clear HR
        go_enter Try.func23, Try.ntmps23
        go_wp2_with (first | (go_at_call 31; refine HM.mono ?_; rintro e w' ⟨rfl, rfl⟩) | (go_at_call 35; refine HRR.out.mono ?_; rintro e w' ⟨g, u, rfl, hg, ho, _, hke⟩))
        go_ret2
        exact ⟨_, _, rfl, .inr ⟨g, rfl, hg, ho.lt, ho⟩, below_map hke⟩
      · rw [show okRow k r c = false by unfold okRow; simp [h6]]
        clear hmay
        go_enter Try.func23, Try.ntmps23
        go_wp2_with (go_at_call 31; refine HM.mono ?_; rintro e w' ⟨rfl, rfl⟩)
        go_ret2
        exact bad
    · rw [show okRow k r c = false by unfold okRow; simp [h5]]
      clear hmay
      go_enter Try.func23, Try.ntmps23
      go_wp2_with (go_at_call 31; refine HM.mono ?_; rintro e w' ⟨rfl, rfl⟩)
      go_ret2
      exact bad

/-- An answer of cells: as many as n of m bytes each, every one in a row of its own, or none. -/
def Out (w : World) (ok : Bool) (err : Int) (n m : Nat) (H : M) (e : Ending) (w' : World) : Prop :=
  ∃ ao cap T U, e = .returned (.tuple #[.slice ao (lenB ok n) cap, .int .i64 err]) ∧ Copied w' w.heap.size (lenB ok n) (.slice ao (lenB ok n) cap) T (fun _ => m) U H ∧ Below w.heap.size w w'
theorem Out.no {w w' : World} {err : Int} {n m : Nat} {H : M} (hb : Below w.heap.size w w') : Out w false err n m H (.returned (.tuple #[.slice none 0 0, .int .i64 err])) w' :=
  ⟨none, 0, fun _ => none, fun _ => 0, rfl, Copied.start _ _ _ _ _ _, hb⟩
def okEnc (ll : Nat) (L : Nat → Nat) (k r : Int) : Bool := mayB k r && (okC ll L k && decide (k ≤ (cnt L ll : Int)))
def errE (may ok : Bool) : Int := if may then (if ok then 0 else 40) else 2
theorem okC_true {ll : Nat} {L : Nat → Nat} {many : Int} (h : okC ll L many = true) : (ll : Int) = many ∧ okT L ll = true := by
  unfold okC at h
  rw [Bool.and_eq_true, decide_eq_true_eq] at h
  exact h
theorem alike_of {ll : Nat} {L : Nat → Nat} (h : okT L ll = true) (hc : 1 ≤ cnt L ll) : 1 ≤ len0 L ll ∧ len0 L ll ≤ 65536 ∧ ∀ i, i < ll → L i = 0 ∨ L i = len0 L ll := by
  rcases len0_sel L ll with ⟨h1, _⟩ | ⟨h1, h2, h3⟩
  · omega
  · have hs := (sel_is L ll).lt 0 h1
    refine ⟨by omega, ?_, fun i hi => ?_⟩
    · rcases okT_all h _ hs with g | g
      · exact absurd g ((sel_is L ll).there 0 h1)
      · rw [h2]; exact g.1
    · rcases okT_all h i hi with g | g
      · exact .inl g
      · exact .inr g.2
theorem all_there {L : Nat → Nat} {n : Nat} (h : n ≤ cnt L n) (i : Nat) (hi : i < n) : L i ≠ 0 := fun e => by have := cnt_lt hi e; omega

set_option maxHeartbeats 1000000 in
set_option maxRecDepth 100000 in
theorem Encode_any (w : World) (k r : Int) (lo : Option Addr) (ll cl : Nat) (A : Nat → Option Addr) (C L : Nat → Nat) (H : M) (hl : Lst w lo ll A C L H) :
    Calls Try.prog 20 #[.int .i64 k, .int .i64 r, .slice lo ll cl] w (Out w (okEnc ll L k r) (errE (mayB k r) (okEnc ll L k r)) r.toNat (len0 L ll) (par k.toNat H)) := by
  have HM := may_any w k r
  cases hmay : mayB k r
  · rw [show okEnc ll L k r = false by unfold okEnc; rw [hmay]; rfl]
    rw [hmay] at HM
    clear hmay
    go_enter Try.func20, Try.ntmps20
    go_wp2_with (go_at_call 31; refine HM.mono ?_; rintro e w' ⟨rfl, rfl⟩)
    go_ret2
    exact Out.no (Below.refl _ _)
  · obtain ⟨h1, h2, h3, h4⟩ := mayB_true hmay
    rw [hmay] at HM
    have HT := there_any w lo ll cl A C L H k (by omega) hl
    cases hoc : okC ll L k
    · have HOK : Hid (okEnc ll L k r = false) := by show _ = _; unfold okEnc; rw [hoc, Bool.false_and, Bool.and_false]
      unfold There at HT
      rw [hoc] at HT
      have e1 : errB false 40 = 40 := rfl
      clear hmay hoc hl
      go_enter Try.func20, Try.ntmps20
      go_wp2_with (first | (go_at_call 31; refine HM.mono ?_; rintro e w' ⟨rfl, rfl⟩) | (go_at_call 32; refine HT.mono ?_; rintro e w1 ⟨ao, cap, rfl, _, _, _, hb⟩))
      go_ret2
      rw [HOK.out]
      exact Out.no hb
    · obtain ⟨hll, hokT⟩ := okC_true hoc
      subst hll
      have hcl := cnt_le L ll
      unfold There at HT
      rw [hoc] at HT
      have e1 : errB true 40 = 0 := rfl
      have e2 : lenB true (cnt L ll) = cnt L ll := rfl
      by_cases hcn : cnt L ll < ll
      · have HOK : Hid (okEnc ll L ll r = false) := by show _ = _; unfold okEnc; rw [show decide ((ll : Int) ≤ (cnt L ll : Int)) = false from decide_eq_false (by omega), Bool.and_false, Bool.and_false]
        have hci : (cnt L ll : Int) < (ll : Int) := by omega
        clear hmay hoc hl hokT
        go_enter Try.func20, Try.ntmps20
        go_wp2_with (first | (go_at_call 31; refine HM.mono ?_; rintro e w' ⟨rfl, rfl⟩) | (go_at_call 32; refine HT.mono ?_; rintro e w1 ⟨ao, cap, rfl, _, _, _, hb⟩))
        go_ret2
        rw [HOK.out]
        exact Out.no hb
      · have hce : cnt L ll = ll := by omega
        have HOK : Hid (okEnc ll L ll r = true) := by show _ = _; unfold okEnc; rw [hmay, hoc, show decide ((ll : Int) ≤ (cnt L ll : Int)) = true from decide_eq_true (by omega)]; rfl
        obtain ⟨m1, m2, m3⟩ := alike_of hokT (by omega)
        have HLm : Hid (∀ i, i < ll → L i = len0 L ll) := fun i hi => by
          rcases m3 i hi with g | g
          · exact absurd g (all_there (by omega) i hi)
          · exact g
        rw [hce] at HT
        have e3 : lenB true ll = ll := rfl
        have hci : ¬ ((ll : Int) < (ll : Int)) := by omega
        obtain ⟨r, rfl⟩ := Int.eq_ofNat_of_zero_le h3
        rw [Int.toNat_natCast, Int.toNat_natCast]
        have hmm := @run_makeMap Try.prog
        have HL : Hid (Lst w lo ll A C L H) := hl
        clear hmay hoc hl hokT m3 hce hcn hcl
        go_enter Try.func20, Try.ntmps20
        go_wp2_with (first
          | (go_at_call 31; refine HM.mono ?_; rintro e w' ⟨rfl, rfl⟩)
          | (go_at_call 32; refine HT.mono ?_; rintro e w1 ⟨ao, cap, rfl, _, _, _, hb⟩
             have HP := parity_any (w1.alloc (.map #[] 0)) w1.heap.size w1.heap.size ll r 0 (len0 L ll) lo cl A C L H (by omega) (by omega) (by omega) m1 m2 (by omega) (by simp) (Kept.made w1 ll r) ((HL.out.below hb).below ((Below.refl _ _).alloc (Nat.le_refl _) _)) HLm.out)
          | (go_at_call 33; refine HP.mono ?_; rintro e w2 ⟨ao2, cap2, T, U, rfl, hcop, _, hke⟩))
        go_ret2
        rw [HOK.out]
        exact ⟨ao2, cap2, T, U, rfl, hcop.base (by have := hb.size; simp; omega), below_step hb (below_map hke) hb.size⟩
end Go.Proofs.Ytgflgmkaaidfnaa


