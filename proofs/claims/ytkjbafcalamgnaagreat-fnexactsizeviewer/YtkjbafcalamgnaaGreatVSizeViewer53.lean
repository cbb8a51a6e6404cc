/- Texts. -/
import Derived.JoinedOf
import Derived.Test.YtkjbafcalamgnaaGreatVSizeViewer1
set_option linter.unusedSimpArgs false
set_option linter.unusedVariables false
set_option maxRecDepth 100000
set_option maxHeartbeats 32000000
namespace Go.Proofs.YtkjbafcalamgnaaGreat
open Go.RowKit
end Go.Proofs.YtkjbafcalamgnaaGreat
namespace Go.Proofs.YtkjbafcalamgnaaGreat.fnExactSizeViewer
open Go.RowKit
theorem closed:joinedFacts Tryz.prog 5 Tryz.f5 Rows.fnExactSizeViewerSpec Rows.fnExactSizeViewerRow=true:=by kernel_rfl
end Go.Proofs.YtkjbafcalamgnaaGreat.fnExactSizeViewer
namespace Go.Proofs.YtkjbafcalamgnaaGreat
open Go.RowKit
end Go.Proofs.YtkjbafcalamgnaaGreat
