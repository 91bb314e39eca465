/- LayoutNumbers: the program's numbers beside the document's. -/
import Derived.Test.YtmekefgokahjpaaLayC
namespace Go.Proofs.Ytmekefgokahjpaa
open Go.RowKit

theorem par_awake : Par 4 2 16 32 6 64 0 := .inl ⟨by decide, by decide, by decide, rfl⟩
end Go.Proofs.Ytmekefgokahjpaa
