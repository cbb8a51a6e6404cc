/- PointFault answers the fault of a point. -/
import Derived.Test.YtjkmjkfakolpfaaLeaf0
namespace Go.Proofs.Ytjkmjkfakolpfaa
open Go.RowKit
set_option linter.unusedSimpArgs false
set_option linter.unusedVariables false

end Go.Proofs.Ytjkmjkfakolpfaa
