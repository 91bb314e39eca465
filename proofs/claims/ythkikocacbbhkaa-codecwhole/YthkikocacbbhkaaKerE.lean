/- What Zero and Pad of the program answer, whatever slice and length. -/
import Derived.Test.YthkikocacbbhkaaKerD
namespace Go.Proofs.Ythkikocacbbhkaa.Ker
open Go.RowKit

def zeroB (n : Nat) (f : Nat → Nat) : Bool := decide (∀ i, i < n → f i = 0)

/-- The bytes, and zeros behind them. -/
def padF (la : Nat) (f : Nat → Nat) (i : Nat) : Nat := if i < la then f i else 0
theorem padF_lt {la : Nat} {f : Nat → Nat} (hf : ∀ i, f i < 256) (i : Nat) : padF la f i < 256 := by unfold padF; split; exact hf i; decide
def okD (la : Nat) (n : Int) : Bool := decide ((la : Int) ≤ n) && decide (n ≤ 65536)
theorem okD_true {la : Nat} {n : Int} (h : okD la n = true) : (la : Int) ≤ n ∧ n ≤ 65536 := by simpa [okD] using h
theorem okD_false {la : Nat} {n : Int} (h : okD la n = false) : n < la ∨ ((la : Int) ≤ n ∧ 65536 < n) := by
  by_cases h1 : (la : Int) ≤ n
  · simp [okD, h1] at h; exact .inr ⟨h1, h⟩
  · exact .inl (by omega)

/-- The cells of n bytes. -/
def cellsOf (n : Nat) (f : Nat → Nat) : List Value := (List.range n).map fun i => .int .u8 (f i : Int)
theorem cellsOf_length (n : Nat) (f : Nat → Nat) : (cellsOf n f).length = n := by simp [cellsOf]
theorem cellsOf_get (n : Nat) (f : Nat → Nat) (i : Nat) (h : i < n) : (cellsOf n f)[i]? = some (.int .u8 (f i : Int)) := by simp [cellsOf, h]
theorem cellsOf_one (n : Nat) (f : Nat → Nat) : ∀ v ∈ cellsOf n f, v.oneCell' = true := by
  intro v hv
  simp only [cellsOf, List.mem_map] at hv
  obtain ⟨i, _, rfl⟩ := hv
  rfl
theorem made_zero (n : Nat) : madeCells #[.int .u8 0] n = (cellsOf n fun _ => 0).toArray := by
  apply Array.ext_getElem?
  intro i
  by_cases h : i < n
  · rw [show (cellsOf n fun _ => 0).toArray[i]? = (cellsOf n fun _ => 0)[i]? from by simp, cellsOf_get _ _ _ h]; simp [madeCells, h, Nat.mod_one]
  · rw [Array.getElem?_eq_none (by rw [size_madeCells]; omega), Array.getElem?_eq_none (by simp [cellsOf_length]; omega)]
theorem splice_row {w : World} {g n la : Nat} {f : Nat → Nat} (hf : ∀ i, f i < 256) (hla : la ≤ n) (h : w.heap[g]? = some (.cells (splice (cellsOf n fun _ => 0) 0 (cellsOf la f)).toArray 5 (0, 0))) : Own w g n (padF la f) := by
  refine ⟨padF_lt hf, _, h, ?_, fun i hi => ?_⟩
  · simp [splice, cellsOf_length]; omega
  · rw [List.getElem?_toArray]
    simp only [splice, List.take_zero, List.nil_append, Nat.zero_add]
    by_cases h1 : i < la
    · rw [List.getElem?_append_left (by rw [cellsOf_length]; exact h1), cellsOf_get _ _ _ h1, padF, if_pos h1]
    · rw [List.getElem?_append_right (by rw [cellsOf_length]; omega), cellsOf_length, List.getElem?_drop, show la + (i - la) = i by omega, cellsOf_get _ _ _ hi, padF, if_neg h1]
theorem rd_cells {w : World} {ao : Option Addr} {n : Nat} {f : Nat → Nat} (h : Rd w ao n f) (hp : 0 < (cellsOf n f).length) : ∃ ad, ao = some ad ∧ ∀ j v, (cellsOf n f)[j]? = some v → w.cell? (ad.add j) = some v := by
  rw [cellsOf_length] at hp
  obtain ⟨b, off, rfl, hc⟩ := h.2 hp
  refine ⟨_, rfl, fun j v hv => ?_⟩
  have hj : j < n := by
    rcases Nat.lt_or_ge j n with h | h
    · exact h
    · rw [List.getElem?_eq_none (by rw [cellsOf_length]; exact h)] at hv; cases hv
  rw [cellsOf_get _ _ _ hj] at hv
  rw [Addr.add_lit, hc j hj]; exact hv

end Go.Proofs.Ythkikocacbbhkaa.Ker
