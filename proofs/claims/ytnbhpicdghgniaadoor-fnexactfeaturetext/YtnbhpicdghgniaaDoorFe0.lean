/- What the smallest functions of features answer. -/
import Derived.Test.YtnbhpicdghgniaaDoorCopy
import Derived.Test.YtnbhpicdghgniaaDoorWith
namespace Go.Proofs.YtnbhpicdghgniaaDoor
open Go.RowKit
set_option linter.unusedSimpArgs false
set_option linter.unusedVariables false

/-- A letter a to z. -/
def letB (c : Int) : Bool := decide (97 ≤ c) && decide (c ≤ 122)
theorem isLetter_any (c : Int) (w : World) : Calls Tryd.prog 53 #[.int .u8 c] w fun e w' => e = .returned (.bool (letB c)) ∧ w' = w := by
  unfold letB
  go_enter Tryd.func53, Tryd.ntmps53
  by_cases h1 : 97 ≤ c
  · go_wp2
    all_goals (go_ret; exact ⟨ret_bool (by simp [h1]), rfl⟩)
  · have h2 : decide (97 ≤ c) = false := by simpa using h1
    go_wp2
    all_goals (go_ret; exact ⟨ret_bool (by simp [h1]), rfl⟩)

/-- The points that a kind may have. -/
def sizeB (ki : Int) (n : Int) : Bool := if ki = 1 then decide (n = 1) else if ki = 2 then inB n 2 12 else inB n 3 12
theorem l2Size_any (ki n : Int) (w : World) : Calls Tryd.prog 33 #[.int .i64 ki, .int .i64 n] w fun e w' => e = .returned (.bool (sizeB ki n)) ∧ w' = w := by
  unfold sizeB
  by_cases h1 : ki = 1
  · subst h1
    go_enter Tryd.func33, Tryd.ntmps33
    go_wp2
    go_ret
    exact ⟨ret_bool rfl, rfl⟩
  · by_cases h2 : ki = 2
    · subst h2
      go_enter Tryd.func33, Tryd.ntmps33
      go_wp2_with (go_at_call 32; refine (l1In_any _ _ _ _).mono ?_; rintro e w' ⟨rfl, rfl⟩)
      go_ret
      exact ⟨ret_bool (by simp), rfl⟩
    · have k1 : (ki == 1) = false := by simpa using h1
      have k2 : (ki == 2) = false := by simpa using h2
      go_enter Tryd.func33, Tryd.ntmps33
      go_wp2_with (go_at_call 32; refine (l1In_any _ _ _ _).mono ?_; rintro e w' ⟨rfl, rfl⟩)
      go_ret
      exact ⟨ret_bool (by simp [h1, h2]), rfl⟩
end Go.Proofs.YtnbhpicdghgniaaDoor
