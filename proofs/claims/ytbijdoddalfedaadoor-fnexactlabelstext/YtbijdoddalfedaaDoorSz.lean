/- szPointS counts the points. -/
import Derived.Test.YtbijdoddalfedaaDoorLeaf0
namespace Go.Proofs.YtbijdoddalfedaaDoor
open Go.RowKit
set_option linter.unusedSimpArgs false
set_option linter.unusedVariables false
end Go.Proofs.YtbijdoddalfedaaDoor
