/- What the document's own calls over parameters answer. -/
import Derived.Test.YtmekefgokahjpaaLayB
namespace Go.Proofs.Ytmekefgokahjpaa
open Go.RowKit

end Go.Proofs.Ytmekefgokahjpaa
