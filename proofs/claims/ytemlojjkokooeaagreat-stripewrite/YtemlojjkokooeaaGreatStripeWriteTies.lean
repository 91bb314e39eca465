/- The closed facts of StripeWrite's row, alone in their text. -/
import Derived.Test.YtemlojjkokooeaaGreatRows
import Derived.ProofKit
namespace Go.Proofs.YtemlojjkokooeaaGreat
theorem stripeWrite_closed : joinedFacts Tryz.pinned.checked.prog 4 Tryz.f4 Rows.stripeWriteSpec Rows.stripeWriteRow = true := by kernel_rfl
end Go.Proofs.YtemlojjkokooeaaGreat
