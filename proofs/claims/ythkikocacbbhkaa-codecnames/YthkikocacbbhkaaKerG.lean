/- The answers that the document fixes: the program gives them. -/
import Derived.Test.YthkikocacbbhkaaKerF
namespace Go.Proofs.Ythkikocacbbhkaa.Ker
open Go.RowKit

def lit (l : List Nat) (i : Nat) : Nat := l.getD i 0
theorem lit_lt (l : List Nat) (h : l.all (fun x => decide (x < 256)) = true) (i : Nat) : lit l i < 256 := by
  unfold lit
  rw [List.getD_eq_getElem?_getD]
  by_cases hi : i < l.length
  · rw [List.getElem?_eq_getElem hi]
    exact of_decide_eq_true (List.all_eq_true.1 h _ (List.getElem_mem hi))
  · rw [List.getElem?_eq_none (by omega)]; show 0 < 256; decide
theorem rd_lit {w : World} {g : Nat} (hg : w.heap.size = g) (l : List Nat) (cs : Array Value) (hcs : cs = (cellsOf l.length (lit l)).toArray) (hl : l.all (fun x => decide (x < 256)) = true) :
    Rd (w.alloc (.cells cs 5)) (some ⟨g, 0, none⟩) l.length (lit l) := by
  subst hg; subst hcs
  refine ⟨lit_lt l hl, fun _ => ⟨_, _, rfl, fun i hi => ?_⟩⟩
  rw [Nat.zero_add, cell_of_row _ _ _ _ _ _ (heap_alloc_new w _), List.getElem?_toArray, cellsOf_get _ _ _ hi]
theorem Rd.alloc {w : World} {ao : Option Addr} {n : Nat} {f : Nat → Nat} (h : Rd w ao n f) (o : Obj) : Rd (w.alloc o) ao n f := h.below ((Below.refl _ w).alloc (Nat.le_refl _) o)
theorem below_alloc (w : World) (o : Obj) : Below w.heap.size w (w.alloc o) := (Below.refl _ w).alloc (Nat.le_refl _) o
theorem below_alloc2 (w : World) (o o' : Obj) : Below w.heap.size w ((w.alloc o).alloc o') := (below_alloc w o).alloc (by simp) o'

/-- A call that makes n bytes f, and may. -/
def Good (w : World) (n : Nat) (f : Nat → Nat) (e : Ending) (w' : World) : Prop :=
  ∃ g, e = .returned (.tuple #[.slice (some ⟨g, 0, none⟩) n n, .int .i64 0]) ∧ w.heap.size ≤ g ∧ Own w' g n f ∧ Below w.heap.size w w'
theorem good_of {w : World} {n : Nat} {f : Nat → Nat} {e : Ending} {w' : World} (hn : 0 < n) (h : Made w true n f e w') : Good w n f e w' := by
  obtain ⟨ro, rfl, hans, hbel⟩ := h
  rcases hans with ⟨_, h0, _⟩ | ⟨g, rfl, hg, ho⟩
  · exact absurd (show n = 0 from h0) (by omega)
  · exact ⟨g, rfl, hg, ho, hbel⟩

theorem lst2 {w : World} {g : Nat} (hg : w.heap.size = g) (ao bo : Option Addr) (la ca lb cb : Nat) (f h : Nat → Nat) (ha : Rd w ao la f) (hb : Rd w bo lb h) :
    Lst (w.alloc (.cells #[.slice ao la ca, .slice bo lb cb] 23)) (some ⟨g, 0, none⟩) 2 (two ao bo) (two ca cb) (two la lb) (two f h) := by
  subst hg
  refine ⟨fun i hi => ?_, fun _ => ⟨_, _, rfl, fun i hi => ?_⟩⟩
  all_goals (obtain rfl | rfl : i = 0 ∨ i = 1 := by omega)
  · exact ha.alloc _
  · exact hb.alloc _
  all_goals (rw [cell_of_row _ _ _ _ _ _ (heap_alloc_new w _)]; rfl)
theorem own_cell {w : World} {g n : Nat} {f : Nat → Nat} (h : Own w g n f) (i : Nat) (hi : i < n) (v : Nat) (hv : f i = v) : w.cell? ⟨g, i, none⟩ = some (.int .u8 (v : Int)) := by rw [← hv]; exact h.2.cell hi
theorem below_alloc4 (w : World) (o p q r : Obj) : Below w.heap.size w ((((w.alloc o).alloc p).alloc q).alloc r) := ((below_alloc2 w o p).alloc (by simp; omega) q).alloc (by simp; omega) r

end Go.Proofs.Ythkikocacbbhkaa.Ker
