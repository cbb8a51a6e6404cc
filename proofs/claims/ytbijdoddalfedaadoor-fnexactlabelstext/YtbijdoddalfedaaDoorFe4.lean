/- FeatureFault of the program answers the fault of a feature. -/
import Derived.Test.YtbijdoddalfedaaDoorFe3
import Derived.Test.YtbijdoddalfedaaDoorTake
namespace Go.Proofs.YtbijdoddalfedaaDoor
open Go.RowKit
set_option linter.unusedSimpArgs false
set_option linter.unusedVariables false
set_option maxRecDepth 100000
end Go.Proofs.YtbijdoddalfedaaDoor
