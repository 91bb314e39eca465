/- Rows that were made are kept in a map: what keeping does. -/
import Derived.Test.YthkikocacbbhkaaCodA
namespace Go.Proofs.Ythkikocacbbhkaa
open Go.RowKit
open Go.Maps (Keyed)

/-- Block b is a map of at most n rows of a code; each of them lies in a row of its own from block B on; those from c0 to c1 are there. -/
def Kept (w : World) (b B k r n c0 c1 : Nat) : Prop :=
  ∃ D, w.ownsMap Try.prog 54 elem b n D ∧ (∀ c, c < k + r → Maps.has D (keyLit k r c) = true → ∃ g u, D.atKey (keyLit k r c) (.agg []) = told g k u ∧ B ≤ g ∧ Own w g k u (gen k c)) ∧ ∀ c, c0 ≤ c → c < c1 → Maps.has D (keyLit k r c) = true
theorem Kept.lt {w : World} {b B k r n c0 c1 : Nat} (h : Kept w b B k r n c0 c1) : b < w.heap.size := by obtain ⟨D, h1, _⟩ := h; exact h1.lt
theorem Kept.ne {w : World} {b B k r n c0 c1 g e m : Nat} {f : Nat → Value} (h : Kept w b B k r n c0 c1) (hr : w.rowIs g e m f) : g ≠ b := by
  rintro rfl
  obtain ⟨D, ⟨es, clock, hb, _⟩, _⟩ := h
  obtain ⟨c, hc, _⟩ := hr
  rw [hb] at hc
  cases hc
theorem ownsMap_block {w w' : World} {b n : Nat} {D : DataW Unit} (h : w.ownsMap Try.prog 54 elem b n D) (hb : w'.heap[b]? = w.heap[b]?) : w'.ownsMap Try.prog 54 elem b n D := by
  obtain ⟨es, clock, h1, h2⟩ := h
  exact ⟨es, clock, hb.trans h1, h2⟩
/-- The map stays, and so do all rows of bytes. -/
theorem Kept.blocks {w w' : World} {b B k r n c0 c1 : Nat} (h : Kept w b B k r n c0 c1) (hb : w'.heap[b]? = w.heap[b]?) (hg : ∀ g m f, w.rowIs g 5 m f → w'.heap[g]? = w.heap[g]?) : Kept w' b B k r n c0 c1 := by
  obtain ⟨D, h1, h2, h3⟩ := h
  refine ⟨D, ownsMap_block h1 hb, fun c hc hh => ?_, h3⟩
  obtain ⟨g, u, e1, e2, e3⟩ := h2 c hc hh
  refine ⟨g, u, e1, e2, e3.of_block ?_⟩
  obtain ⟨_, _, f, hr, _⟩ := e3
  exact hg g _ _ hr
theorem Kept.below {w w' : World} {b B k r n c0 c1 : Nat} (h : Kept w b B k r n c0 c1) (hb : Below w.heap.size w w') : Kept w' b B k r n c0 c1 :=
  h.blocks (hb.block b h.lt) fun g _ _ hr => hb.block g hr.lt
theorem Kept.any {w : World} {b B k r n c0 c1 : Nat} (h : Kept w b B k r n c0 c1) (c : Nat) : Kept w b B k r n c c := by
  obtain ⟨D, h1, h2, _⟩ := h
  exact ⟨D, h1, h2, fun x h3 h4 => absurd h4 (by omega)⟩
theorem Kept.mono {w : World} {b B k r n c0 c1 n' : Nat} (h : Kept w b B k r n c0 c1) (hn : n ≤ n') : Kept w b B k r n' c0 c1 := by
  obtain ⟨D, h1, h2, h3⟩ := h
  exact ⟨D, h1.mono hn, h2, h3⟩
/-- One row more is put down. -/
theorem Kept.put {w w' : World} {b B k r n c0 c1 g u : Nat} {D : DataW Unit} (hown : w.ownsMap Try.prog 54 elem b n D) (hgood : ∀ c, c < k + r → Maps.has D (keyLit k r c) = true → ∃ g u, D.atKey (keyLit k r c) (.agg []) = told g k u ∧ B ≤ g ∧ Own w g k u (gen k c)) (hall : ∀ c, c0 ≤ c → c < c1 → Maps.has D (keyLit k r c) = true)
    (hown' : w'.ownsMap Try.prog 54 elem b (n + 1) (D.put (keyLit k r c1) (told g k u))) (hgr : w.grownBy w' (some b)) (hk : k ≤ 500) (hr : r ≤ 500) (hc : c1 < k + r) (hB : B ≤ g) (ho : Own w g k u (gen k c1)) : Kept w' b B k r (n + 1) c0 (c1 + 1) := by
  have old : ∀ g u f, Own w g k u f → Own w' g k u f := fun g u f h => h.of_block (hgr.block g h.lt fun e => by
    obtain ⟨_, _, f, hrow, _⟩ := h
    exact (Kept.ne (k := k) (r := r) (B := 0) (c0 := 0) (c1 := 0) ⟨D, hown, fun c hc hh => by
      obtain ⟨g, u, e1, e2, e3⟩ := hgood c hc hh
      exact ⟨g, u, e1, Nat.zero_le _, e3⟩, fun c _ h => absurd h (Nat.not_lt_zero c)⟩ hrow) (Option.some.inj e))
  have key1 := keyLit_is k r c1 (by omega) (by omega) (by omega)
  refine ⟨_, hown', fun c hcl hh => ?_, fun c h1 h2 => ?_⟩
  · by_cases e : c = c1
    · subst e
      exact ⟨g, u, Maps.atKey_put_same hown.isMap key1 _ _, hB, old g u _ ho⟩
    · have hne : keyLit k r c ≠ keyLit k r c1 := fun e' => e (keyLit_inj (by omega) (by omega) (by omega) (by omega) e')
      rw [Maps.has_put_other hne] at hh
      obtain ⟨g', u', e1, e2, e3⟩ := hgood c hcl hh
      exact ⟨g', u', by rw [Maps.atKey_put_other hne]; exact e1, e2, old _ _ _ e3⟩
  · by_cases e : c = c1
    · subst e; exact Maps.has_put_same hown.isMap key1 _
    · have hne : keyLit k r c ≠ keyLit k r c1 := fun e' => e (keyLit_inj (by omega) (by omega) (by omega) (by omega) e')
      rw [Maps.has_put_other hne]
      exact hall c h1 (by omega)

theorem Keeps.map {w w' : World} {b : Nat} (hg : w.grownBy w' (some b)) : Keeps b (b + 1) w w' := ⟨hg.os, hg.tape, hg.output, hg.size, fun k hk hb => hg.block k hk fun e => by have := Option.some.inj e; omega⟩
theorem Keeps.fresh {B T g : Nat} {a w : World} (h : Keeps B T a w) (hg : a.heap.size ≤ g) (i : Nat) (u : Value) : Keeps B T a (w.setCell ⟨g, i, none⟩ u) :=
  ⟨h.os, h.tape, h.output, by simp only [World.setCell, Array.size_modify]; exact h.size, fun k hk hb => by rw [Below.heap_setCell _ _ _ _ (by simp; omega)]; exact h.block k hk hb⟩
theorem box_put {w : World} {g : Nat} {x y z v : Value} (h : w.heap[g]? = some (.cells #[x, y, z] 54 (0, 0))) : (w.setCell ⟨g, 2, none⟩ v).heap[g]? = some (.cells #[x, y, v] 54 (0, 0)) := by
  unfold World.setCell
  simp [Array.getElem?_modify, h]
set_option maxHeartbeats 1000000 in
set_option maxRecDepth 100000 in
theorem keep_any (w : World) (b B k r n c0 l cl m T : Nat) (G U : Nat → Nat) (H : M) (hk : k ≤ 12) (hr : r ≤ 4) (hm : c0 + m ≤ k + r) (hn : n ≤ 1000000) (hkept : Kept w b B k r n c0 c0) (hmat : Mat w B T l cl m k G U H) (hH : ∀ i j, i < m → j < k → H i j = gen k (c0 + i) j) :
    Calls Try.prog 41 #[.map (some b), key k r c0, .slice (some ⟨l, 0, none⟩) m cl] w fun e w' => e = .returned (.tuple #[]) ∧ Kept w' b B k r (n + m) c0 (c0 + m) ∧ Keeps b (b + 1) w w' := by
  have HK : Hid (Kept w b B k r n c0 c0) := hkept
  have HM : Hid (Mat w B T l cl m k G U H) := hmat
  have HH : Hid (∀ i j, i < m → j < k → H i j = gen k (c0 + i) j) := hH
  have hlb : l ≠ b := by obtain ⟨f, hrow, _⟩ := hmat.lst; exact hkept.ne hrow
  have hlw : l < w.heap.size := hmat.lt_l
  have hbw : b < w.heap.size := hkept.lt
  clear hkept hmat hH
  unfold key
  go_enter Try.func41, Try.ntmps41
  go_wp2
  go_loopw [10] (fun i wr => ∃ j : Nat, j ≤ m ∧ i = .int .i64 j ∧ Hid (Kept wr b B k r (n + j) c0 (c0 + j)) ∧ Hid (wr.heap[w.heap.size]? = some (.cells #[.int .i64 (k : Int), .int .i64 (r : Int), .int .i64 ((c0 + j : Nat) : Int)] 54 (0, 0))) ∧ Hid (Keeps b (b + 1) w wr)) (fun i _ => m - (intOf i).toNat)
  case atStart => exact ⟨0, Nat.zero_le _, rfl, HK.out.below ((Below.refl _ _).alloc (Nat.le_refl _) _), heap_alloc_new w _, (Keeps.refl _ _ _).alloc _⟩
  case round =>
    obtain ⟨j, hj, rfl, hkept, hbox, hkeep⟩ := hrel
    by_cases hlt : j < m
    · obtain ⟨D, hown, hgood, hall⟩ := hkept.out
      have HGOOD : Hid (∀ c, c < k + r → Maps.has D (keyLit k r c) = true → ∃ g u, D.atKey (keyLit k r c) (.agg []) = told g k u ∧ B ≤ g ∧ Own wr g k u (gen k c)) := hgood
      have HALL : Hid (∀ c, c0 ≤ c → c < c0 + j → Maps.has D (keyLit k r c) = true) := hall
      have HOWN : Hid (wr.ownsMap Try.prog 54 elem b (n + j) D) := hown
      have HB : Hid (wr.heap[w.heap.size]? = some (.cells #[.int .i64 (k : Int), .int .i64 (r : Int), .int .i64 ((c0 + j : Nat) : Int)] 54 (0, 0))) := hbox.out
      obtain ⟨c, hc⟩ : ∃ c, c = c0 + j := ⟨_, rfl⟩
      have d0 : wr.cell? ⟨w.heap.size, 0, none⟩ = some (.int .i64 (k : Int)) := by simp [World.cell?, hbox.out]
      have d1 : wr.cell? ⟨w.heap.size, 1, none⟩ = some (.int .i64 (r : Int)) := by simp [World.cell?, hbox.out]
      have d2 : wr.cell? ⟨w.heap.size, 2, none⟩ = some (.int .i64 (c : Int)) := by simp [World.cell?, hbox.out, hc]
      have c1 : wr.cell? ⟨l, j, none⟩ = some (.slice (some ⟨G j, 0, none⟩) k (U j)) := hkeep.out.cell (HM.out.cell_l hlt) (by simp only; omega)
      have hkey := keyOf_key k r c (by omega) (by omega) (by omega)
      unfold key at hkey
      have HC : Hid (c = c0 + j) := hc
      have hcb : (c : Int) ≤ 100 := by omega
      clear hown hgood hall hbox hc
      have i1 : (0 : Int) ≤ (j : Int) := by omega
      have i2 : (j : Int) < (m : Int) := by omega
      go_wp2_with (at_mapUpdate; refine wpList_mapUpdate_own _ rfl _ _ _ 47 rfl 54 23 keyed Try.underlying47 elem b (n + j) D rfl HOWN.out (by unfold maxLen; omega) _ _ (keyLit k r c) rfl rfl hkey (told (G j) k (U j)) [] (elem_mk _ _ _) ?_; intro w1 hown1 hgrow1
                   have hg1 := hgrow1.block w.heap.size (World.block_lt_of_cell? wr _ d0) (by simp; omega)
                   have d3 : w1.cell? ⟨w.heap.size, 2, none⟩ = some (.int .i64 (c : Int)) := (World.cell?_of_block hg1).trans d2
                   have z3 : w1.frozen? ⟨w.heap.size, 2, none⟩ = false := by simp [World.frozen?, hg1, HB.out]
                   have HB1 : Hid (w1.heap[w.heap.size]? = some (.cells #[.int .i64 (k : Int), .int .i64 (r : Int), .int .i64 ((c0 + j : Nat) : Int)] 54 (0, 0))) := hg1.trans HB.out
                   have HG1 : Hid (wr.grownBy w1 (some b)) := hgrow1
                   have HO1 : Hid (w1.ownsMap Try.prog 54 elem b (n + j + 1) (D.put (keyLit k r c) (told (G j) k (U j)))) := hown1
                   clear hgrow1 hown1 hg1)
      have HW : Hid (Kept (w1.setCell ⟨w.heap.size, 2, none⟩ (.int .i64 ((c : Int) + 1))) b B k r (n + (j + 1)) c0 (c0 + (j + 1))) := by
        have hcc := HC.out
        have ho : Own wr (G j) k (U j) (gen k c) := ((HM.out.row j hlt).keeps hkeep.out (by have := HM.out.row j hlt; obtain ⟨_, _, f, hrow, _⟩ := this; have := HK.out.ne hrow; omega)).congr fun i hi => by rw [HH.out j i hlt hi, hcc]
        have hp : Kept w1 b B k r (n + j + 1) c0 (c + 1) := Kept.put HOWN.out HGOOD.out (by rw [hcc]; exact HALL.out) HO1.out HG1.out (by omega) (by omega) (by omega) (HM.out.los j hlt) ho
        rw [show c0 + (j + 1) = c + 1 by omega]
        refine hp.blocks (Below.heap_setCell _ _ _ _ (by simp; omega)) fun g m' f hrow => Below.heap_setCell _ _ _ _ ?_
        rintro rfl
        obtain ⟨cs, hcs, _⟩ := hrow
        rw [HB1.out] at hcs
        cases hcs
      have HX : Hid ((w1.setCell ⟨w.heap.size, 2, none⟩ (.int .i64 ((c : Int) + 1))).heap[w.heap.size]? = some (.cells #[.int .i64 (k : Int), .int .i64 (r : Int), .int .i64 ((c0 + (j + 1) : Nat) : Int)] 54 (0, 0))) := by
        rw [show ((c0 + (j + 1) : Nat) : Int) = (c : Int) + 1 by have := HC.out; omega]
        exact box_put HB1.out
      have HY : Hid (Keeps b (b + 1) w (w1.setCell ⟨w.heap.size, 2, none⟩ (.int .i64 ((c : Int) + 1)))) := (hkeep.out.trans (Keeps.map HG1.out)).fresh (Nat.le_refl _) 2 _
      go_roundw
      case rel => exact ⟨j + 1, by omega, by go_num, HW.out, HX.out, HY.out⟩
      case measure => simp [intOf]; omega
    · obtain rfl : j = m := by omega
      go_wp2
      go_end0
      exact ⟨rfl, hkept.out, hkeep.out⟩
end Go.Proofs.Ythkikocacbbhkaa
