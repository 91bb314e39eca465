/- The closed facts of CommitRow's row, alone in their text. -/
import Derived.Test.YtemlojjkokooeaaGreatRows
import Derived.ProofKit
namespace Go.Proofs.YtemlojjkokooeaaGreat
theorem commitRow_closed : joinedFacts Tryz.pinned.checked.prog 6 Tryz.f6 Rows.commitRowSpec Rows.commitRowRow = true := by kernel_rfl
end Go.Proofs.YtemlojjkokooeaaGreat
