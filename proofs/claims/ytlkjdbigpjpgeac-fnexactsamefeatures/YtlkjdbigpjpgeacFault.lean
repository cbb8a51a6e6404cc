/- PointFault answers the fault of a point. -/
import Derived.Test.YtlkjdbigpjpgeacLeaf0
namespace Go.Proofs.Ytlkjdbigpjpgeac
open Go.RowKit
set_option linter.unusedSimpArgs false
set_option linter.unusedVariables false

end Go.Proofs.Ytlkjdbigpjpgeac
