/- SlR: what is needed of them. -/
import Derived.Test.YtdmpiipllmjloaaGreatFj4
import Derived.Test.YtdmpiipllmjloaaGreatFj7
namespace Go.Proofs.YtdmpiipllmjloaaGreat
open Go.RowKit
theorem Par.sum {k r c q : Int} {N W : Nat} (h : Par k r c q N W 0) : (N : Int) = k + r := by
  rcases h with ⟨_, _, h0, _⟩ | ⟨_, _, _, h1⟩
  · exact h0
  · cases h1
end Go.Proofs.YtdmpiipllmjloaaGreat
