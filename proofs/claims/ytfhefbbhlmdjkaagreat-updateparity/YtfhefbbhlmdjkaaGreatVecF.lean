/- What All and Last of the program answer; Repeat. -/
import Derived.Test.YtfhefbbhlmdjkaaGreatSlA
import Derived.Laws.CopyOwn
namespace Go.Proofs.YtfhefbbhlmdjkaaGreat
open Go.RowKit

def Ans (w : World) (E : Int) (n : Nat) (F : Nat → Int) (e : Ending) (w' : World) : Prop :=
  ∃ ao cap, e = .returned (.tuple #[.slice ao (lenE E n) cap, .int .i64 E]) ∧ Own w.heap.size w' ao (lenE E n) cap F ∧ Below w.heap.size w w'

theorem upto16 {n : Nat} (h : n ≤ 16) : n = 0 ∨ n = 1 ∨ n = 2 ∨ n = 3 ∨ n = 4 ∨ n = 5 ∨ n = 6 ∨ n = 7 ∨ n = 8 ∨ n = 9 ∨ n = 10 ∨ n = 11 ∨ n = 12 ∨ n = 13 ∨ n = 14 ∨ n = 15 ∨ n = 16 := by omega
/-- A row of N cells, the first j of them v. -/
def fil (v : Int) (N j : Nat) : List Value := List.replicate j (.int .i64 v) ++ List.replicate (N - j) (.int .i64 0)
theorem fil_length {v : Int} {N j : Nat} (h : j ≤ N) : (fil v N j).length = N := by unfold fil; simp; omega
theorem fil_get {v : Int} {N j i : Nat} (h : i < j) : (fil v N j)[i]? = some (.int .i64 v) := by
  unfold fil; rw [List.getElem?_append_left (by simpa using h), List.getElem?_replicate, if_pos h]
theorem fil_splice {v : Int} {N j c : Nat} (h : j + c ≤ N) : splice (fil v N j) j (List.replicate c (.int .i64 v)) = fil v N (j + c) := by
  unfold splice
  apply List.ext_getElem?
  intro i
  have e1 : ((fil v N j).take j).length = j := by rw [List.length_take, fil_length (by omega)]; omega
  by_cases h1 : i < j
  · rw [List.getElem?_append_left (by omega), List.getElem?_take_of_lt h1, fil_get h1, fil_get (by omega)]
  · rw [List.getElem?_append_right (by omega), e1]
    by_cases h2 : i < j + c
    · rw [List.getElem?_append_left (by simp; omega), List.getElem?_replicate, if_pos (by omega), fil_get h2]
    · rw [List.getElem?_append_right (by simp; omega), List.getElem?_drop, List.length_replicate]
      have : j + c + (i - j - c) = i := by omega
      rw [this]
      unfold fil
      rw [List.getElem?_append_right (by simp; omega), List.getElem?_append_right (by simp; omega), List.length_replicate, List.length_replicate, List.getElem?_replicate, List.getElem?_replicate]
      by_cases h3 : i < N
      · rw [if_pos (by omega), if_pos (by omega)]
      · rw [if_neg (by omega), if_neg (by omega)]
theorem fil_made (v : Int) (N : Nat) : madeCells #[.int .i64 0] N = (fil v N 0).toArray := by
  apply Array.ext'
  rw [toList_madeCells_one]
  simp [fil]
theorem own_fil {w : World} {B g N : Nat} {v : Int} (h : w.heap[g]? = some (.cells (fil v N N).toArray 3 (0, 0))) (hB : B ≤ g) (hN : N ≤ 16) : Own B w (some ⟨g, 0, none⟩) N N (fun _ => v) := by
  refine own_row (f := fun _ => .int .i64 v) ⟨_, h, by simp [fil], fun i hi => ?_⟩ hB (by omega) (fun _ _ => rfl)
  have := fil_get (v := v) (N := N) hi
  simpa using this
end Go.Proofs.YtfhefbbhlmdjkaaGreat
