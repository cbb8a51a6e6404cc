/- PointFault answers the fault of a point. -/
import Derived.Test.YtnbhpicdghgniaaDoorLeaf0
namespace Go.Proofs.YtnbhpicdghgniaaDoor
open Go.RowKit
set_option linter.unusedSimpArgs false
set_option linter.unusedVariables false

end Go.Proofs.YtnbhpicdghgniaaDoor
