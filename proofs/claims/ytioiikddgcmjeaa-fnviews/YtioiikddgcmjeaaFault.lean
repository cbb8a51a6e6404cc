/- PointFault answers the fault of a point. -/
import Derived.Test.YtioiikddgcmjeaaLeaf0
namespace Go.Proofs.Ytioiikddgcmjeaa
open Go.RowKit
set_option linter.unusedSimpArgs false
set_option linter.unusedVariables false

end Go.Proofs.Ytioiikddgcmjeaa
