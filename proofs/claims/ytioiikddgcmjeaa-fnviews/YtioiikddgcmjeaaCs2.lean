/- A camera of the model, held in the world. -/
import Derived.Test.YtioiikddgcmjeaaCs1
import Derived.Deep.DeepCutAuto
namespace Go.Proofs.Ytioiikddgcmjeaa
open Go.RowKit
set_option linter.unusedSimpArgs false
set_option linter.unusedVariables false
set_option maxRecDepth 100000

end Go.Proofs.Ytioiikddgcmjeaa
