/- What the small functions of points answer, and that they write nothing that was there. -/
import Derived.Test.YtkadkpdcjccnbaaLeaf0
namespace Go.Proofs.Ytkadkpdcjccnbaa
open Go.RowKit
set_option linter.unusedSimpArgs false
set_option linter.unusedVariables false

/-- Both within 5120, either way. -/
def Df (x y : Int) : Prop := (-5120 ≤ x ∧ x ≤ 5120) ∧ (-5120 ≤ y ∧ y ≤ 5120)

/-- Whether a is above b neither in X nor in Y. -/
def upB (ax ay bx by' : Int) : Bool := decide (ax ≤ bx) && decide (ay ≤ by')
theorem isUpTo_any (ax ay bx by' : Int) (w : World) :
    Calls Try.prog 144 #[.agg #[.int .i64 ax, .int .i64 ay], .agg #[.int .i64 bx, .int .i64 by']] w fun e w' => e = .returned (.bool (upB ax ay bx by')) ∧ Below w.heap.size w w' := by
  unfold upB
  by_cases h1 : ax ≤ bx
  · go_enter Try.func144, Try.ntmps144
    go_wp2
    all_goals (go_ret; exact ⟨ret_bool (by simp [h1]), by (repeat (first | exact Below.refl _ _ | assumption | refine Below.drew ?_ | refine bl_alloc ?_ _ | refine bl_then ?_ (by assumption) | refine Below.setCell ?_ (by first | omega | (simp; done) | (simp; omega)) _ | refine bl_store ?_ ?_ _ _))⟩)
  · have h2 : decide (ax ≤ bx) = false := by simpa using h1
    go_enter Try.func144, Try.ntmps144
    go_wp2
    all_goals (go_ret; exact ⟨ret_bool (by simp [h1]), by (repeat (first | exact Below.refl _ _ | assumption | refine Below.drew ?_ | refine bl_alloc ?_ _ | refine bl_then ?_ (by assumption) | refine Below.setCell ?_ (by first | omega | (simp; done) | (simp; omega)) _ | refine bl_store ?_ ?_ _ _))⟩)

theorem eqPoint_any (ax ay : Int) (w : World) :
    Calls Try.prog 146 #[.agg #[.int .i64 ax, .int .i64 ay], .agg #[.int .i64 ax, .int .i64 ay]] w fun e w' => e = .returned (.bool true) ∧ Below w.heap.size w w' := by
  go_enter Try.func146, Try.ntmps146
  go_wp2
  go_ret
  exact ⟨rfl, by (repeat (first | exact Below.refl _ _ | assumption | refine Below.drew ?_ | refine bl_alloc ?_ _ | refine bl_then ?_ (by assumption) | refine Below.setCell ?_ (by first | omega | (simp; done) | (simp; omega)) _ | refine bl_store ?_ ?_ _ _))⟩

end Go.Proofs.Ytkadkpdcjccnbaa
