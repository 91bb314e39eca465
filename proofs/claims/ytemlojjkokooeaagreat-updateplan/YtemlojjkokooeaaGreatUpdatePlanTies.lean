/- The closed facts of UpdatePlan's row, alone in their text. -/
import Derived.Test.YtemlojjkokooeaaGreatRows
import Derived.ProofKit
namespace Go.Proofs.YtemlojjkokooeaaGreat
theorem updatePlan_closed : joinedFacts Tryz.pinned.checked.prog 5 Tryz.f5 Rows.updatePlanSpec Rows.updatePlanRow = true := by kernel_rfl
end Go.Proofs.YtemlojjkokooeaaGreat
