/- Texts. -/
import Derived.Test.YtkjbafcalamgnaaGreatVSizeViewer45
set_option linter.unusedSimpArgs false
set_option linter.unusedVariables false
set_option maxRecDepth 100000
set_option maxHeartbeats 32000000
namespace Go.Proofs.YtkjbafcalamgnaaGreat
open Go.RowKit
theorem kC_m0 {A:Nat→Kp}{n:Nat}(h:∀ j,j<n→kC A j=0):∀ i,i<n→0<(A i).m:=fun i hi=>by rw [kC_m (h i hi)];omega
end Go.Proofs.YtkjbafcalamgnaaGreat
