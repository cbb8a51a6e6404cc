/- What the smallest functions of features answer. -/
import Derived.Test.YtbijdoddalfedaaDoorCopy
import Derived.Test.YtbijdoddalfedaaDoorWith
namespace Go.Proofs.YtbijdoddalfedaaDoor
open Go.RowKit
set_option linter.unusedSimpArgs false
set_option linter.unusedVariables false

/-- A letter a to z. -/
def letB (c : Int) : Bool := decide (97 ≤ c) && decide (c ≤ 122)
/-- The points that a kind may have. -/
def sizeB (ki : Int) (n : Int) : Bool := if ki = 1 then decide (n = 1) else if ki = 2 then inB n 2 12 else inB n 3 12
end Go.Proofs.YtbijdoddalfedaaDoor
