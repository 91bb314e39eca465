/- The answers that the document fixes: the program gives them. -/
import Derived.Test.YtgkabcefohfmmaaKerF
namespace Go.Proofs.Ytgkabcefohfmmaa
open Go.RowKit

def lit (l : List Nat) (i : Nat) : Nat := l.getD i 0
theorem lit_lt (l : List Nat) (h : l.all (fun x => decide (x < 256)) = true) (i : Nat) : lit l i < 256 := by
  unfold lit
  rw [List.getD_eq_getElem?_getD]
  by_cases hi : i < l.length
  · rw [List.getElem?_eq_getElem hi]
    exact of_decide_eq_true (List.all_eq_true.1 h _ (List.getElem_mem hi))
  · rw [List.getElem?_eq_none (by omega)]; show 0 < 256; decide
theorem rd_lit {w : World} {g : Nat} (hg : w.heap.size = g) (l : List Nat) (cs : Array Value) (hcs : cs = (cellsOf l.length (lit l)).toArray) (hl : l.all (fun x => decide (x < 256)) = true) :
    Rd (w.alloc (.cells cs 5)) (some ⟨g, 0, none⟩) l.length (lit l) := by
  subst hg; subst hcs
  refine ⟨lit_lt l hl, fun _ => ⟨_, _, rfl, fun i hi => ?_⟩⟩
  rw [Nat.zero_add, cell_of_row _ _ _ _ _ _ (heap_alloc_new w _), List.getElem?_toArray, cellsOf_get _ _ _ hi]
theorem Rd.alloc {w : World} {ao : Option Addr} {n : Nat} {f : Nat → Nat} (h : Rd w ao n f) (o : Obj) : Rd (w.alloc o) ao n f := h.below ((Below.refl _ w).alloc (Nat.le_refl _) o)
theorem below_alloc (w : World) (o : Obj) : Below w.heap.size w (w.alloc o) := (Below.refl _ w).alloc (Nat.le_refl _) o
theorem below_alloc2 (w : World) (o o' : Obj) : Below w.heap.size w ((w.alloc o).alloc o') := (below_alloc w o).alloc (by simp) o'

/-- A call that makes n bytes f, and may. -/
def Good (w : World) (n : Nat) (f : Nat → Nat) (e : Ending) (w' : World) : Prop :=
  ∃ g, e = .returned (.tuple #[.slice (some ⟨g, 0, none⟩) n n, .int .i64 0]) ∧ w.heap.size ≤ g ∧ Own w' g n f ∧ Below w.heap.size w w'
theorem good_of {w : World} {n : Nat} {f : Nat → Nat} {e : Ending} {w' : World} (hn : 0 < n) (h : Made w true n f e w') : Good w n f e w' := by
  obtain ⟨ro, rfl, hans, hbel⟩ := h
  rcases hans with ⟨_, h0, _⟩ | ⟨g, rfl, hg, ho⟩
  · exact absurd (show n = 0 from h0) (by omega)
  · exact ⟨g, rfl, hg, ho, hbel⟩

theorem lst2 {w : World} {g : Nat} (hg : w.heap.size = g) (ao bo : Option Addr) (la ca lb cb : Nat) (f h : Nat → Nat) (ha : Rd w ao la f) (hb : Rd w bo lb h) :
    Lst (w.alloc (.cells #[.slice ao la ca, .slice bo lb cb] 23)) (some ⟨g, 0, none⟩) 2 (two ao bo) (two ca cb) (two la lb) (two f h) := by
  subst hg
  refine ⟨fun i hi => ?_, fun _ => ⟨_, _, rfl, fun i hi => ?_⟩⟩
  all_goals (obtain rfl | rfl : i = 0 ∨ i = 1 := by omega)
  · exact ha.alloc _
  · exact hb.alloc _
  all_goals (rw [cell_of_row _ _ _ _ _ _ (heap_alloc_new w _)]; rfl)
theorem own_cell {w : World} {g n : Nat} {f : Nat → Nat} (h : Own w g n f) (i : Nat) (hi : i < n) (v : Nat) (hv : f i = v) : w.cell? ⟨g, i, none⟩ = some (.int .u8 (v : Int)) := by rw [← hv]; exact h.2.cell hi
theorem below_alloc4 (w : World) (o p q r : Obj) : Below w.heap.size w ((((w.alloc o).alloc p).alloc q).alloc r) := ((below_alloc2 w o p).alloc (by simp; omega) q).alloc (by simp; omega) r

set_option maxHeartbeats 2000000 in
set_option maxRecDepth 100000 in
theorem alive_any (w : World) : Calls Try.prog 8 #[] w fun e w' => e = .returned (.bool true) ∧ Below w.heap.size w w' := by
  go_enter Try.func8, Try.ntmps8
  go_wp2_with fail
  refine (xor_any _ _ _ 3 3 3 3 _ _ ((rd_lit rfl [1, 2, 3] _ rfl rfl).alloc _) (rd_lit (by simp) [3, 2, 1] _ rfl rfl)).mono ?_
  intro e w1 h1
  obtain ⟨g1, rfl, hg1, o1, b1⟩ := good_of (by decide) h1
  replace b1 : Below w.heap.size w w1 := below_step (below_alloc2 w _ _) b1 (by simp; omega)
  clear h1 hg1
  go_wp2_with fail
  refine (plus_any _ 2 _ _ 2 2 2 2 _ _ (by decide) ((rd_lit rfl [1, 0] _ rfl rfl).alloc _) (rd_lit (by simp) [128, 1] _ rfl rfl)).mono ?_
  intro e w2 h2
  obtain ⟨g2, rfl, hg2, o2, b2⟩ := good_of (by decide) h2
  replace b2 : Below w1.heap.size w1 w2 := below_step (below_alloc2 w1 _ _) b2 (by simp; omega)
  replace o1 := o1.below b2
  replace b1 := below_step b1 b2 b1.size
  clear h2 hg2 b2
  go_wp2_with fail
  refine (scale_any _ 2 _ 2 2 _ (by decide) (rd_lit rfl [128, 1] _ rfl rfl)).mono ?_
  intro e w3 h3
  obtain ⟨g3, rfl, hg3, o3, b3⟩ := good_of (by decide) h3
  replace b3 : Below w2.heap.size w2 w3 := below_step (below_alloc w2 _) b3 (by simp)
  replace o1 := o1.below b3
  replace o2 := o2.below b3
  replace b1 := below_step b1 b3 b1.size
  clear h3 hg3 b3
  go_wp2_with fail
  refine (dot_any _ _ _ 2 2 2 2 _ _ _ _ _ (by decide) (by decide) ((((rd_lit rfl [1, 2] _ rfl rfl).alloc _).alloc _).alloc _) (lst2 (by simp) _ _ 2 2 2 2 _ _ ((rd_lit (by simp) [1, 1] _ rfl rfl).alloc _) (rd_lit (by simp) [128, 0] _ rfl rfl))).mono ?_
  intro e w4 h4
  rw [show okL 2 2 (two 2 2) = true by decide] at h4
  obtain ⟨g4, rfl, hg4, o4, b4⟩ := good_of (by decide) h4
  replace b4 : Below w3.heap.size w3 w4 := below_step (below_alloc4 w3 _ _ _ _) b4 (by simp; omega)
  replace o1 := o1.below b4
  replace o2 := o2.below b4
  replace o3 := o3.below b4
  replace b1 := below_step b1 b4 b1.size
  clear h4 hg4 b4
  go_wp2_with fail
  refine (pad_any _ _ 2 2 4 _ (by decide) (rd_lit rfl [1, 2] _ rfl rfl)).mono ?_
  intro e w5 h5
  obtain ⟨g5, rfl, hg5, o5, b5⟩ := good_of (by decide) h5
  replace b5 : Below w4.heap.size w4 w5 := below_step (below_alloc w4 _) b5 (by simp)
  replace o1 := o1.below b5
  replace o2 := o2.below b5
  replace o3 := o3.below b5
  replace o4 := o4.below b5
  replace b1 := below_step b1 b5 b1.size
  clear h5 hg5 b5
  go_wp2_with fail
  refine (xor_any _ _ _ 1 1 2 2 _ _ ((rd_lit rfl [1] _ rfl rfl).alloc _) (rd_lit (by simp) [1, 2] _ rfl rfl)).mono ?_
  intro e w6 h6
  obtain ⟨ro, rfl, _, b6⟩ := h6
  replace b6 : Below w5.heap.size w5 w6 := below_step (below_alloc2 w5 _ _) b6 (by simp; omega)
  replace o1 := o1.below b6
  replace o2 := o2.below b6
  replace o3 := o3.below b6
  replace o4 := o4.below b6
  replace o5 := o5.below b6
  replace b1 := below_step b1 b6 b1.size
  clear b6
  rw [show okP 1 2 = false by decide]
  have s0 := own_cell o1 0 (by decide) 2 (by decide +kernel)
  have s1 := own_cell o1 1 (by decide) 0 (by decide +kernel)
  have p0 := own_cell o2 0 (by decide) 28 (by decide +kernel)
  have p1 := own_cell o2 1 (by decide) 2 (by decide +kernel)
  have m0 := own_cell o3 0 (by decide) 29 (by decide +kernel)
  have d0 := own_cell o4 0 (by decide) 28 (by decide +kernel)
  have d1 := own_cell o4 1 (by decide) 1 (by decide +kernel)
  have a1 := own_cell o5 1 (by decide) 2 (by decide +kernel)
  have a3 := own_cell o5 3 (by decide) 0 (by decide +kernel)
  have HZ : Hid (Rd w6 (some ⟨g1, 0, none⟩) 3 (plus (lit [1, 2, 3]) 1 (lit [3, 2, 1]))) := o1.rd
  have he : errB false = 20 := rfl
  clear o1 o2 o3 o4 o5
  go_wp2_with fail
  refine (zero_any w6 none 0 0 (fun _ => 0) (by decide) (Rd.nil _ _ _ (fun _ => by decide))).mono ?_
  rintro e w' ⟨rfl, hw'⟩
  obtain rfl := hw'.symm
  rw [show zeroB 0 (fun _ => 0) = true by decide]
  go_wp2_with fail
  refine (zero_any w6 _ 3 3 _ (by decide) HZ.out).mono ?_
  rintro e w' ⟨rfl, hw'⟩
  obtain rfl := hw'.symm
  rw [show zeroB 3 (plus (lit [1, 2, 3]) 1 (lit [3, 2, 1])) = false by decide +kernel]
  go_wp2_with fail
  go_ret
  exact ⟨rfl, b1⟩
end Go.Proofs.Ytgkabcefohfmmaa
