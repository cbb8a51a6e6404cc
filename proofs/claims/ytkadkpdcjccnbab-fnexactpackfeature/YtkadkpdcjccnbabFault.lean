/- PointFault answers the fault of a point. -/
import Derived.Test.YtkadkpdcjccnbabLeaf0
namespace Go.Proofs.Ytkadkpdcjccnbab
open Go.RowKit
set_option linter.unusedSimpArgs false
set_option linter.unusedVariables false

end Go.Proofs.Ytkadkpdcjccnbab
