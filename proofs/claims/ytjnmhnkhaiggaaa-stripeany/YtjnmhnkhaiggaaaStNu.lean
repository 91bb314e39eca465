/- What parameters that may be come to, and what an error of 0 says. -/
import Derived.Test.YtjnmhnkhaiggaaaStX
namespace Go.Proofs.Ytjnmhnkhaiggaaa
open Go.RowKit

theorem erD_zero {E : Int} {n W : Nat} (h : erD E n W = 0) : E = 0 ∧ n = W := by
  unfold erD at h
  by_cases e : E = 0
  · rw [if_pos e] at h
    by_cases g : n = W
    · exact ⟨e, g⟩
    · rw [if_neg g] at h; exact absurd h (by decide)
  · rw [if_neg e] at h; exact absurd h e
/-- What parameters that may be come to. -/
theorem Par.nums {k r c q : Int} {N W : Nat} (h : Par k r c q N W 0) : ∃ K m : Nat, k = (K : Int) ∧ c = (m : Int) ∧ 1 ≤ K ∧ K ≤ 12 ∧ K ≤ N ∧ N ≤ 16 ∧ 8 ≤ m ∧ m ≤ 64 ∧ W = K * m := by
  have hle := h.le
  rcases h with ⟨hm, hW, hN, _⟩ | ⟨_, _, _, h0⟩
  · obtain ⟨h1, h2, h3, h4, h5, h6, h7, h8, h9⟩ := may_true hm
    obtain ⟨K, rfl⟩ := Int.eq_ofNat_of_zero_le (show 0 ≤ k by omega)
    obtain ⟨m, rfl⟩ := Int.eq_ofNat_of_zero_le (show 0 ≤ c by omega)
    refine ⟨K, m, rfl, rfl, by omega, by omega, by omega, hle, by omega, by omega, ?_⟩
    rw [← Int.natCast_mul] at hW; omega
  · exact absurd h0 (by decide)
theorem lenE_z {E : Int} {n m : Nat} {b : Nat} (h : b < lenE E n) (hm : n = m) : E = 0 ∧ b < m := by
  unfold lenE at h
  by_cases e : E = 0
  · rw [if_pos e] at h; exact ⟨e, by omega⟩
  · rw [if_neg e] at h; omega
end Go.Proofs.Ytjnmhnkhaiggaaa
