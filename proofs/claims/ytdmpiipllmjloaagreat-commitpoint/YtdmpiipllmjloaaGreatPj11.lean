import Derived.Test.YtdmpiipllmjloaaGreatPj4
import Derived.Test.YtdmpiipllmjloaaGreatPj6
namespace Go.Proofs.YtdmpiipllmjloaaGreat
open Go.RowKit
theorem of_drew {w v : World} (h : Below w.drew.heap.size w.drew v) : Below w.heap.size w v := below_then (below_drew _ _) h
theorem Par.sum {k r c q : Int} {N W : Nat} (h : Par k r c q N W 0) : (N : Int) = k + r := by
  rcases h with ⟨_, _, h0, _⟩ | ⟨_, _, _, h1⟩
  · exact h0
  · cases h1
end Go.Proofs.YtdmpiipllmjloaaGreat
