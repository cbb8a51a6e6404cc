/- Whether a number is within bounds, whether a point is in the world. -/
import Derived.Test.YtnbhpicdghgniaaDoorLeaf0
namespace Go.Proofs.YtnbhpicdghgniaaDoor
open Go.RowKit
set_option linter.unusedSimpArgs false
set_option linter.unusedVariables false

theorem isWithin_any (v lo hi : Int) (w : World) : Calls Tryd.prog 37 #[.int .i64 v, .int .i64 lo, .int .i64 hi] w fun e w' => e = .returned (.bool (inB v lo hi)) ∧ w' = w := by
  unfold inB
  go_enter Tryd.func37, Tryd.ntmps37
  by_cases h1 : lo ≤ v
  · go_wp2
    all_goals (go_ret; exact ⟨ret_bool (by simp [h1]), rfl⟩)
  · have h2 : decide (lo ≤ v) = false := by simpa using h1
    go_wp2
    all_goals (go_ret; exact ⟨ret_bool (by simp [h1]), rfl⟩)

/-- A point that a feature may have. -/
def inW (x y : Int) : Bool := inB x 0 1024 && inB y 0 1024
theorem isInWorld_any (x y : Int) (w : World) : Calls Tryd.prog 39 #[.agg #[.int .i64 x, .int .i64 y]] w fun e w' => e = .returned (.bool (inW x y)) ∧ Below w.heap.size w w' := by
  unfold inW
  cases h1 : inB x 0 1024 <;> cases h2 : inB y 0 1024
  all_goals
    go_enter Tryd.func39, Tryd.ntmps39
    go_wp2_with (go_at_call 37; refine (isWithin_any _ _ _ _).mono ?_; rintro e w' ⟨rfl, rfl⟩)
    all_goals (go_ret; exact ⟨ret_bool (by simp [h1, h2]), by (repeat (first | exact Below.refl _ _ | assumption | refine Below.drew ?_ | refine bl_alloc ?_ _ | refine bl_then ?_ (by assumption) | refine Below.setCell ?_ (by first | omega | (simp; done) | (simp; omega)) _ | refine bl_store ?_ ?_ _ _))⟩)
end Go.Proofs.YtnbhpicdghgniaaDoor
