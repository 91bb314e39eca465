/- The stand that a call writes into. -/
import Derived.Test.YtfhefbbhlmdjkaaGreatStC
namespace Go.Proofs.YtfhefbbhlmdjkaaGreat
open Go.RowKit

theorem erR_zero {x : Int} {N : Nat} {c : Int} {rn : Nat} {L : Nat → Nat} (h : erR x N c rn L = 0) : x = 0 ∧ rn = N ∧ ∀ j, j < 2 * rn → L j = 0 ∨ L j = sz N c := by
  unfold erR at h
  by_cases e : x = 0
  · rw [if_pos e] at h
    by_cases g : rn = N ∧ ∀ j, j < 2 * rn → L j = 0 ∨ L j = sz N c
    · exact ⟨e, g⟩
    · rw [if_neg g] at h; exact absurd h (by decide)
  · rw [if_neg e] at h; exact absurd h e
theorem erK_zero {x : Int} {N : Nat} {c : Int} {rn : Nat} {L : Nat → Nat} {kd : UInt8} {v : Int} (h : erK x N c rn L kd v = 0) : erR x N c rn L = 0 ∧ (kd = 1 ∨ kd = 2) ∧ 1 ≤ v ∧ v ≤ 1073741824 := by
  unfold erK at h
  by_cases e : erR x N c rn L = 0
  · rw [if_pos e] at h
    by_cases g : (kd = 1 ∨ kd = 2) ∧ 1 ≤ v ∧ v ≤ 1073741824
    · exact ⟨e, g⟩
    · rw [if_neg g] at h; exact absurd h (by decide)
  · rw [if_neg e] at h; exact absurd h e
theorem erW_zero {E q nu ke : Int} (h : erW E q nu ke = 0) : E = 0 ∧ (0 ≤ nu ∧ nu ≤ q - 1) ∧ 0 ≤ ke ∧ ke ≤ 1073741824 := by
  unfold erW at h
  by_cases e : E = 0
  · rw [if_pos e] at h
    by_cases g : (0 ≤ nu ∧ nu ≤ q - 1) ∧ 0 ≤ ke ∧ ke ≤ 1073741824
    · exact ⟨e, g⟩
    · rw [if_neg g] at h; exact absurd h (by decide)
  · rw [if_neg e] at h; exact absurd h e
theorem Par.rows {k r c q : Int} {N W : Nat} (h : Par k r c q N W 0) : 8 ≤ q ∧ q ≤ 256 := by
  rcases h with ⟨h, _⟩ | ⟨_, _, _, h⟩
  · obtain ⟨h1, h2, h3, h4, h5, h6, h7, h8, h9⟩ := may_true h; exact ⟨h8, h9⟩
  · exact absurd h (by decide)

end Go.Proofs.YtfhefbbhlmdjkaaGreat
