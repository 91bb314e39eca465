/- What the document's own product comes to; a matrix in new memory. -/
import Derived.Test.YthkikocacbbhkaaMatR
namespace Go.Proofs.Ythkikocacbbhkaa
open Go.RowKit

/-- .. and x in the place that is being reckoned. -/
def part (F : M) (k l : Nat) (x : K) : M := fun i j => if i = k ∧ j = l then x else fill F k l i j
theorem part_zero (F : M) (k l i j : Nat) : fill F k l i j = part F k l 0 i j := by
  unfold part
  by_cases e : i = k ∧ j = l
  · rw [if_pos e, e.1, e.2, fill_at]
  · rw [if_neg e]
theorem part_store (F : M) (k l : Nat) (x y : K) (i j : Nat) : (if i = k ∧ j = l then y else part F k l x i j) = part F k l y i j := by
  unfold part
  by_cases e : i = k ∧ j = l
  · rw [if_pos e, if_pos e]
  · rw [if_neg e, if_neg e, if_neg e]
theorem part_at (F : M) (k l : Nat) (x : K) : part F k l x k l = x := if_pos ⟨rfl, rfl⟩

end Go.Proofs.Ythkikocacbbhkaa
