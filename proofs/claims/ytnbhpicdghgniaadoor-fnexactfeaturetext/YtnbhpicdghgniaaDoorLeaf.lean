/- What the small functions of points answer, and that they write nothing that was there. -/
import Derived.Test.YtnbhpicdghgniaaDoorLeaf0
namespace Go.Proofs.YtnbhpicdghgniaaDoor
open Go.RowKit
set_option linter.unusedSimpArgs false
set_option linter.unusedVariables false

/-- Both within 5120, either way. -/
def Df (x y : Int) : Prop := (-5120 ≤ x ∧ x ≤ 5120) ∧ (-5120 ≤ y ∧ y ≤ 5120)

/-- Whether a is above b neither in X nor in Y. -/
def upB (ax ay bx by' : Int) : Bool := decide (ax ≤ bx) && decide (ay ≤ by')
theorem eqPoint_any (ax ay : Int) (w : World) :
    Calls Tryd.prog 46 #[.agg #[.int .i64 ax, .int .i64 ay], .agg #[.int .i64 ax, .int .i64 ay]] w fun e w' => e = .returned (.bool true) ∧ Below w.heap.size w w' := by
  go_enter Tryd.func46, Tryd.ntmps46
  go_wp2
  go_ret
  exact ⟨rfl, by (repeat (first | exact Below.refl _ _ | assumption | refine Below.drew ?_ | refine bl_alloc ?_ _ | refine bl_then ?_ (by assumption) | refine Below.setCell ?_ (by first | omega | (simp; done) | (simp; omega)) _ | refine bl_store ?_ ?_ _ _))⟩

end Go.Proofs.YtnbhpicdghgniaaDoor
