/- Texts. -/
import Derived.JoinedOf
import Derived.Test.YtkjbafcalamgnaaGreatVPanViewer1
set_option linter.unusedSimpArgs false
set_option linter.unusedVariables false
set_option maxRecDepth 100000
set_option maxHeartbeats 32000000
namespace Go.Proofs.YtkjbafcalamgnaaGreat
open Go.RowKit
end Go.Proofs.YtkjbafcalamgnaaGreat
namespace Go.Proofs.YtkjbafcalamgnaaGreat.fnExactPanViewer
open Go.RowKit
theorem closed:joinedFacts Tryz.prog 3 Tryz.f3 Rows.fnExactPanViewerSpec Rows.fnExactPanViewerRow=true:=by kernel_rfl
end Go.Proofs.YtkjbafcalamgnaaGreat.fnExactPanViewer
namespace Go.Proofs.YtkjbafcalamgnaaGreat
open Go.RowKit
end Go.Proofs.YtkjbafcalamgnaaGreat
