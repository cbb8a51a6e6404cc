/- Texts. -/
import Derived.JoinedOf
import Derived.Test.YtkjbafcalamgnaaGreatVMapFault1
set_option linter.unusedSimpArgs false
set_option linter.unusedVariables false
set_option maxRecDepth 100000
set_option maxHeartbeats 32000000
namespace Go.Proofs.YtkjbafcalamgnaaGreat
open Go.RowKit
end Go.Proofs.YtkjbafcalamgnaaGreat
namespace Go.Proofs.YtkjbafcalamgnaaGreat.fnExactMapFault
open Go.RowKit
theorem closed:joinedFacts Tryz.prog 6 Tryz.f6 Rows.fnExactMapFaultSpec Rows.fnExactMapFaultRow=true:=by kernel_rfl
end Go.Proofs.YtkjbafcalamgnaaGreat.fnExactMapFault
namespace Go.Proofs.YtkjbafcalamgnaaGreat
open Go.RowKit
end Go.Proofs.YtkjbafcalamgnaaGreat
