/- PointFault answers the fault of a point. -/
import Derived.Test.YtkejjfdfofojoaaLeaf0
namespace Go.Proofs.Ytkejjfdfofojoaa
open Go.RowKit
set_option linter.unusedSimpArgs false
set_option linter.unusedVariables false

end Go.Proofs.Ytkejjfdfofojoaa
