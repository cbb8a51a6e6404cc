/- What the small functions of points answer, and that they write nothing that was there. -/
import Derived.Test.YtbijdoddalfedaaDoorLeaf0
namespace Go.Proofs.YtbijdoddalfedaaDoor
open Go.RowKit
set_option linter.unusedSimpArgs false
set_option linter.unusedVariables false

/-- Both within 5120, either way. -/
def Df (x y : Int) : Prop := (-5120 ≤ x ∧ x ≤ 5120) ∧ (-5120 ≤ y ∧ y ≤ 5120)

/-- Whether a is above b neither in X nor in Y. -/
def upB (ax ay bx by' : Int) : Bool := decide (ax ≤ bx) && decide (ay ≤ by')
end Go.Proofs.YtbijdoddalfedaaDoor
