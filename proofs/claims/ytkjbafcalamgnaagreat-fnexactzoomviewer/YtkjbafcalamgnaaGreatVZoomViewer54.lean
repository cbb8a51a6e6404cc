/- Texts. -/
import Derived.JoinedOf
import Derived.Test.YtkjbafcalamgnaaGreatVZoomViewer1
set_option linter.unusedSimpArgs false
set_option linter.unusedVariables false
set_option maxRecDepth 100000
set_option maxHeartbeats 32000000
namespace Go.Proofs.YtkjbafcalamgnaaGreat
open Go.RowKit
end Go.Proofs.YtkjbafcalamgnaaGreat
namespace Go.Proofs.YtkjbafcalamgnaaGreat.fnExactZoomViewer
open Go.RowKit
theorem closed:joinedFacts Tryz.prog 4 Tryz.f4 Rows.fnExactZoomViewerSpec Rows.fnExactZoomViewerRow=true:=by kernel_rfl
end Go.Proofs.YtkjbafcalamgnaaGreat.fnExactZoomViewer
namespace Go.Proofs.YtkjbafcalamgnaaGreat
open Go.RowKit
end Go.Proofs.YtkjbafcalamgnaaGreat
