/- Several texts in one. -/
import Derived.Test.YtkadkpdcjccnbabVPackList1
import Derived.Test.YtkadkpdcjccnbabVPackList3

/- Whether a number is within bounds, whether a point is in the world. -/

namespace Go.Proofs.Ytkadkpdcjccnbab
open Go.RowKit
set_option linter.unusedSimpArgs false
set_option linter.unusedVariables false

theorem isWithin_any (v lo hi : Int) (w : World) : Calls Try.prog 41 #[.int .i64 v, .int .i64 lo, .int .i64 hi] w fun e w' => e = .returned (.bool (inB v lo hi)) ∧ w' = w := by
  unfold inB
  go_enter Try.func41, Try.ntmps41
  by_cases h1 : lo ≤ v
  · go_wp2
    all_goals (go_ret; exact ⟨ret_bool (by simp [h1]), rfl⟩)
  · have h2 : decide (lo ≤ v) = false := by simpa using h1
    go_wp2
    all_goals (go_ret; exact ⟨ret_bool (by simp [h1]), rfl⟩)

/-- A point that a feature may have. -/
def inW (x y : Int) : Bool := inB x 0 1024 && inB y 0 1024
theorem isInWorld_any (x y : Int) (w : World) : Calls Try.prog 75 #[.agg #[.int .i64 x, .int .i64 y]] w fun e w' => e = .returned (.bool (inW x y)) ∧ Below w.heap.size w w' := by
  unfold inW
  cases h1 : inB x 0 1024 <;> cases h2 : inB y 0 1024
  all_goals
    go_enter Try.func75, Try.ntmps75
    go_wp2_with (go_at_call 41; refine (isWithin_any _ _ _ _).mono ?_; rintro e w' ⟨rfl, rfl⟩)
    all_goals (go_ret; exact ⟨ret_bool (by simp [h1, h2]), by (repeat (first | exact Below.refl _ _ | assumption | refine Below.drew ?_ | refine bl_alloc ?_ _ | refine bl_then ?_ (by assumption) | refine Below.setCell ?_ (by first | omega | (simp; done) | (simp; omega)) _ | refine bl_store ?_ ?_ _ _))⟩)
end Go.Proofs.Ytkadkpdcjccnbab
/- What the smallest functions of features answer. -/

namespace Go.Proofs.Ytkadkpdcjccnbab
open Go.RowKit
set_option linter.unusedSimpArgs false
set_option linter.unusedVariables false

/-- A letter a to z. -/
def letB (c : Int) : Bool := decide (97 ≤ c) && decide (c ≤ 122)
theorem isLetter_any (c : Int) (w : World) : Calls Try.prog 91 #[.int .u8 c] w fun e w' => e = .returned (.bool (letB c)) ∧ w' = w := by
  unfold letB
  go_enter Try.func91, Try.ntmps91
  by_cases h1 : 97 ≤ c
  · go_wp2
    all_goals (go_ret; exact ⟨ret_bool (by simp [h1]), rfl⟩)
  · have h2 : decide (97 ≤ c) = false := by simpa using h1
    go_wp2
    all_goals (go_ret; exact ⟨ret_bool (by simp [h1]), rfl⟩)

/-- The points that a kind may have. -/
def sizeB (ki : Int) (n : Int) : Bool := if ki = 1 then decide (n = 1) else if ki = 2 then inB n 2 12 else inB n 3 12
theorem l2Size_any (ki n : Int) (w : World) : Calls Try.prog 68 #[.int .i64 ki, .int .i64 n] w fun e w' => e = .returned (.bool (sizeB ki n)) ∧ w' = w := by
  unfold sizeB
  by_cases h1 : ki = 1
  · subst h1
    go_enter Try.func68, Try.ntmps68
    go_wp2
    go_ret
    exact ⟨ret_bool rfl, rfl⟩
  · by_cases h2 : ki = 2
    · subst h2
      go_enter Try.func68, Try.ntmps68
      go_wp2_with (go_at_call 39; refine (l1In_any _ _ _ _).mono ?_; rintro e w' ⟨rfl, rfl⟩)
      go_ret
      exact ⟨ret_bool (by simp), rfl⟩
    · have k1 : (ki == 1) = false := by simpa using h1
      have k2 : (ki == 2) = false := by simpa using h2
      go_enter Try.func68, Try.ntmps68
      go_wp2_with (go_at_call 39; refine (l1In_any _ _ _ _).mono ?_; rintro e w' ⟨rfl, rfl⟩)
      go_ret
      exact ⟨ret_bool (by simp [h1, h2]), rfl⟩
end Go.Proofs.Ytkadkpdcjccnbab
