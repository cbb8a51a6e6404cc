/- PointFault answers the fault of a point. -/
import Derived.Test.YtfcbbfhfjojoeaaLeaf0
namespace Go.Proofs.Ytfcbbfhfjojoeaa
open Go.RowKit
set_option linter.unusedSimpArgs false
set_option linter.unusedVariables false

end Go.Proofs.Ytfcbbfhfjojoeaa
