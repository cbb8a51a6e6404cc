/- PointFault answers the fault of a point. -/
import Derived.Test.YtabjjmfjbhnkdaaLeaf0
namespace Go.Proofs.Ytabjjmfjbhnkdaa
open Go.RowKit
set_option linter.unusedSimpArgs false
set_option linter.unusedVariables false

end Go.Proofs.Ytabjjmfjbhnkdaa
