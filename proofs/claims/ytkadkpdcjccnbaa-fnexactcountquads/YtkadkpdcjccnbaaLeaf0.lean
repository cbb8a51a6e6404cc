/- What the smallest functions of points answer, and that they write nothing that was there. -/
import Derived.Test.YtkadkpdcjccnbaaRows
import Derived.Test.YtkadkpdcjccnbaaPlain
import Derived.WalkKit
import Derived.WalkSpells
import Derived.WalkLawsBesides
import Derived.Outline
namespace Go.Proofs.Ytkadkpdcjccnbaa
open Go.RowKit
set_option linter.unusedSimpArgs false
set_option linter.unusedVariables false

theorem l1In_any (v lo hi : Int) (w : World) : Calls Try.prog 59 #[.int .i64 v, .int .i64 lo, .int .i64 hi] w fun e w' => e = .returned (.bool (inB v lo hi)) ∧ w' = w := by
  unfold inB
  go_enter Try.func59, Try.ntmps59
  by_cases h1 : lo ≤ v
  · go_wp2
    all_goals (go_ret; exact ⟨ret_bool (by simp [h1]), rfl⟩)
  · have h2 : decide (lo ≤ v) = false := by simpa using h1
    go_wp2
    all_goals (go_ret; exact ⟨ret_bool (by simp [h1]), rfl⟩)

/-- The world behind toPoint. -/
abbrev toPointW (x y : Int) (w : World) : World := ((w.alloc (.cells #[.int .i64 x, .int .i64 y] 99)).alloc (.cells #[.int .i64 x, .int .i64 y] 105)).alloc (.cells #[.int .i64 x, .int .i64 y] 105)
theorem toPoint_ex (x y : Int) (w : World) : Calls Try.prog 141 #[.agg #[.int .i64 x, .int .i64 y]] w fun e w' => e = .returned (.agg #[.int .i64 x, .int .i64 y]) ∧ toPointW x y w = w' := by
  go_enter Try.func141, Try.ntmps141
  go_wp2
  exact bodyPost_ret (v := .agg #[.int .i64 x, .int .i64 y]) (by simp [results, Try.results141, go_sem]) rfl ⟨rfl, rfl⟩
theorem toPoint_any (x y : Int) (w : World) : Calls Try.prog 141 #[.agg #[.int .i64 x, .int .i64 y]] w fun e w' => e = .returned (.agg #[.int .i64 x, .int .i64 y]) ∧ Below w.heap.size w w' :=
  (toPoint_ex x y w).mono fun e w' ⟨he, hw⟩ => ⟨he, by subst hw; (repeat (first | exact Below.refl _ _ | assumption | refine Below.drew ?_ | refine bl_alloc ?_ _ | refine bl_then ?_ (by assumption) | refine Below.setCell ?_ (by first | omega | (simp; done) | (simp; omega)) _ | refine bl_store ?_ ?_ _ _))⟩

abbrev pairOfW (x y : Int) (w : World) : World := (w.alloc (.cells #[.int .i64 x, .int .i64 y] 105)).alloc (.cells #[.int .i64 x, .int .i64 y] 201)
theorem pairOf_ex (x y : Int) (w : World) : Calls Try.prog 155 #[.agg #[.int .i64 x, .int .i64 y]] w fun e w' => e = .returned (.agg #[.int .i64 x, .int .i64 y]) ∧ pairOfW x y w = w' := by
  go_enter Try.func155, Try.ntmps155
  go_wp2
  exact bodyPost_ret (v := .agg #[.int .i64 x, .int .i64 y]) (by simp [results, Try.results155, go_sem]) rfl ⟨rfl, rfl⟩
theorem pairOf_any (x y : Int) (w : World) : Calls Try.prog 155 #[.agg #[.int .i64 x, .int .i64 y]] w fun e w' => e = .returned (.agg #[.int .i64 x, .int .i64 y]) ∧ Below w.heap.size w w' :=
  (pairOf_ex x y w).mono fun e w' ⟨he, hw⟩ => ⟨he, by subst hw; (repeat (first | exact Below.refl _ _ | assumption | refine Below.drew ?_ | refine bl_alloc ?_ _ | refine bl_then ?_ (by assumption) | refine Below.setCell ?_ (by first | omega | (simp; done) | (simp; omega)) _ | refine bl_store ?_ ?_ _ _))⟩

theorem l1Fault_any (x y : Int) (w : World) : Calls Try.prog 152 #[.agg #[.int .i64 x, .int .i64 y]] w fun e w' => e = .returned (.int .i64 (codeP x y)) ∧ Below w.heap.size w w' := by
  cases h1 : inB x (-1024) 4096 <;> cases h2 : inB y (-1024) 4096
  all_goals
    have hk : Hid (codeP x y = if (inB x (-1024) 4096 && inB y (-1024) 4096) = true then 0 else 3) := rfl
    go_enter Try.func152, Try.ntmps152
    go_wp2_with (go_at_call 59; refine (l1In_any _ _ _ _).mono ?_; rintro e w' ⟨rfl, rfl⟩)
    go_ret
    exact ⟨ret_int (by rw [hk.out]; simp [h1, h2]), by (repeat (first | exact Below.refl _ _ | assumption | refine Below.drew ?_ | refine bl_alloc ?_ _ | refine bl_then ?_ (by assumption) | refine Below.setCell ?_ (by first | omega | (simp; done) | (simp; omega)) _ | refine bl_store ?_ ?_ _ _))⟩

end Go.Proofs.Ytkadkpdcjccnbaa
