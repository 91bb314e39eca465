/- The document's own numbers: N, Size, the greatest version, whether a slot may be; bytes of numbers. -/
import Derived.Test.YtfhefbbhlmdjkaaGreatSlB
import Derived.Test.YtfhefbbhlmdjkaaGreatSlC
namespace Go.Proofs.YtfhefbbhlmdjkaaGreat
open Go.RowKit

theorem of_drew {w v : World} (h : Below w.drew.heap.size w.drew v) : Below w.heap.size w v := below_then (below_drew _ _) h
theorem Par.sum {k r c q : Int} {N W : Nat} (h : Par k r c q N W 0) : (N : Int) = k + r := by
  rcases h with ⟨_, _, h0, _⟩ | ⟨_, _, _, h1⟩
  · exact h0
  · cases h1
theorem Par.may {k r c q : Int} {N W : Nat} {e : Int} (h : Par k r c q N W e) : may k r c q = decide (e = 0) := by
  rcases h with ⟨h, _, _, rfl⟩ | ⟨h, _, _, rfl⟩
  · rw [h]; rfl
  · rw [h]; rfl
/-- Four bytes of a number behind others. -/
theorem dg4 (m : Nat) : ((dg m 3).toNat = m / 16777216 % 256 ∧ (dg m 2).toNat = m / 65536 % 256) ∧ (dg m 1).toNat = m / 256 % 256 ∧ (dg m 0).toNat = m % 256 := by
  rw [dg_toNat, dg_toNat, dg_toNat, dg_toNat]; simp
end Go.Proofs.YtfhefbbhlmdjkaaGreat
