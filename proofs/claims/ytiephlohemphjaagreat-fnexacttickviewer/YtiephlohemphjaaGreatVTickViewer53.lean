/- Texts. -/
import Derived.JoinedOf
import Derived.Test.YtiephlohemphjaaGreatVTickViewer1
set_option linter.unusedSimpArgs false
set_option linter.unusedVariables false
set_option maxRecDepth 100000
set_option maxHeartbeats 32000000
namespace Go.Proofs.YtiephlohemphjaaGreat
open Go.RowKit
end Go.Proofs.YtiephlohemphjaaGreat
namespace Go.Proofs.YtiephlohemphjaaGreat.fnExactTickViewer
open Go.RowKit
theorem closed : joinedFacts Tryz.prog 3 Tryz.f3 Rows.fnExactTickViewerSpec Rows.fnExactTickViewerRow = true := by kernel_rfl
end Go.Proofs.YtiephlohemphjaaGreat.fnExactTickViewer
namespace Go.Proofs.YtiephlohemphjaaGreat
open Go.RowKit
end Go.Proofs.YtiephlohemphjaaGreat
