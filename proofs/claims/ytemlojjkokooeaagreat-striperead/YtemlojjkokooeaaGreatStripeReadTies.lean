/- The closed facts of StripeRead's row, alone in their text. -/
import Derived.Test.YtemlojjkokooeaaGreatRows
import Derived.ProofKit
namespace Go.Proofs.YtemlojjkokooeaaGreat
theorem stripeRead_closed : joinedFacts Tryz.pinned.checked.prog 3 Tryz.f3 Rows.stripeReadSpec Rows.stripeReadRow = true := by kernel_rfl
end Go.Proofs.YtemlojjkokooeaaGreat
