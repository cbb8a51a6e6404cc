/- What the small functions of points answer, and that they write nothing that was there. -/
import Derived.Test.YtijledhbchjpnaaLeaf0
namespace Go.Proofs.Ytijledhbchjpnaa
open Go.RowKit
set_option linter.unusedSimpArgs false
set_option linter.unusedVariables false

/-- Both within 5120, either way. -/
def Df (x y : Int) : Prop := (-5120 ≤ x ∧ x ≤ 5120) ∧ (-5120 ≤ y ∧ y ≤ 5120)

/-- Whether a is above b neither in X nor in Y. -/
def upB (ax ay bx by' : Int) : Bool := decide (ax ≤ bx) && decide (ay ≤ by')
theorem eqIntResult_any (c v : Int) (w : World) :
    Calls Try.prog 12 #[.agg #[.int .i64 c, .int .i64 v], .agg #[.int .i64 c, .int .i64 v]] w fun e w' => e = .returned (.bool true) ∧ Below w.heap.size w w' := by
  go_enter Try.func12, Try.ntmps12
  go_wp2
  go_ret
  exact ⟨rfl, by (repeat (first | exact Below.refl _ _ | assumption | refine Below.drew ?_ | refine bl_alloc ?_ _ | refine bl_then ?_ (by assumption) | refine Below.setCell ?_ (by first | omega | (simp; done) | (simp; omega)) _ | refine bl_store ?_ ?_ _ _))⟩

end Go.Proofs.Ytijledhbchjpnaa
