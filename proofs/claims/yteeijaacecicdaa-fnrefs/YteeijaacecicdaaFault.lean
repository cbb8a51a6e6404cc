/- PointFault answers the fault of a point. -/
import Derived.Test.YteeijaacecicdaaLeaf0
namespace Go.Proofs.Yteeijaacecicdaa
open Go.RowKit
set_option linter.unusedSimpArgs false
set_option linter.unusedVariables false

end Go.Proofs.Yteeijaacecicdaa
