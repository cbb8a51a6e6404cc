/- Several texts in one. -/
import Derived.Test.YtijegoheilmmpaaRows
import Derived.Test.YtijegoheilmmpaaVSorts1
import Derived.WalkKit
import Derived.WalkSpells
import Derived.WalkLawsBesides
import Derived.Outline

/- What the smallest functions of points answer, and that they write nothing that was there. -/

namespace Go.Proofs.Ytijegoheilmmpaa
open Go.RowKit
set_option linter.unusedSimpArgs false
set_option linter.unusedVariables false

theorem l1In_any (v lo hi : Int) (w : World) : Calls Try.prog 84 #[.int .i64 v, .int .i64 lo, .int .i64 hi] w fun e w' => e = .returned (.bool (inB v lo hi)) ∧ w' = w := by
  unfold inB
  go_enter Try.func84, Try.ntmps84
  by_cases h1 : lo ≤ v
  · go_wp2
    all_goals (go_ret; exact ⟨ret_bool (by simp [h1]), rfl⟩)
  · have h2 : decide (lo ≤ v) = false := by simpa using h1
    go_wp2
    all_goals (go_ret; exact ⟨ret_bool (by simp [h1]), rfl⟩)

abbrev pairOfW (x y : Int) (w : World) : World := (w.alloc (.cells #[.int .i64 x, .int .i64 y] 36)).alloc (.cells #[.int .i64 x, .int .i64 y] 180)
theorem pairOf_ex (x y : Int) (w : World) : Calls Try.prog 142 #[.agg #[.int .i64 x, .int .i64 y]] w fun e w' => e = .returned (.agg #[.int .i64 x, .int .i64 y]) ∧ pairOfW x y w = w' := by
  go_enter Try.func142, Try.ntmps142
  go_wp2
  exact bodyPost_ret (v := .agg #[.int .i64 x, .int .i64 y]) (by simp [results, Try.results142, go_sem]) rfl ⟨rfl, rfl⟩
theorem pairOf_any (x y : Int) (w : World) : Calls Try.prog 142 #[.agg #[.int .i64 x, .int .i64 y]] w fun e w' => e = .returned (.agg #[.int .i64 x, .int .i64 y]) ∧ Below w.heap.size w w' :=
  (pairOf_ex x y w).mono fun e w' ⟨he, hw⟩ => ⟨he, by subst hw; (repeat (first | exact Below.refl _ _ | assumption | refine Below.drew ?_ | refine bl_alloc ?_ _ | refine bl_then ?_ (by assumption) | refine Below.setCell ?_ (by first | omega | (simp; done) | (simp; omega)) _ | refine bl_store ?_ ?_ _ _))⟩

theorem l1Fault_any (x y : Int) (w : World) : Calls Try.prog 85 #[.agg #[.int .i64 x, .int .i64 y]] w fun e w' => e = .returned (.int .i64 (codeP x y)) ∧ Below w.heap.size w w' := by
  cases h1 : inB x (-1024) 4096 <;> cases h2 : inB y (-1024) 4096
  all_goals
    have hk : Hid (codeP x y = if (inB x (-1024) 4096 && inB y (-1024) 4096) = true then 0 else 3) := rfl
    go_enter Try.func85, Try.ntmps85
    go_wp2_with (go_at_call 84; refine (l1In_any _ _ _ _).mono ?_; rintro e w' ⟨rfl, rfl⟩)
    go_ret
    exact ⟨ret_int (by rw [hk.out]; simp [h1, h2]), by (repeat (first | exact Below.refl _ _ | assumption | refine Below.drew ?_ | refine bl_alloc ?_ _ | refine bl_then ?_ (by assumption) | refine Below.setCell ?_ (by first | omega | (simp; done) | (simp; omega)) _ | refine bl_store ?_ ?_ _ _))⟩

end Go.Proofs.Ytijegoheilmmpaa
/- PointFault answers the fault of a point. -/

namespace Go.Proofs.Ytijegoheilmmpaa
open Go.RowKit
set_option linter.unusedSimpArgs false
set_option linter.unusedVariables false

theorem PointFault_any (x y : Int) (w : World) : Calls Try.prog 114 #[.agg #[.int .i64 x, .int .i64 y]] w fun e w' => e = .returned (.int .i64 (codeP x y)) ∧ Below w.heap.size w w' := by
  have i0 : ∀ w, (Instr.index 180 (.agg #[.int .i64 x, .int .i64 y]) (.int .i64 0)).run Try.prog w = .ok (.int .i64 x) w := fun _ => by kernel_rfl
  have i1 : ∀ w, (Instr.index 180 (.agg #[.int .i64 x, .int .i64 y]) (.int .i64 1)).run Try.prog w = .ok (.int .i64 y) w := fun _ => by kernel_rfl
  have hk : Hid (codeP x y = if (-1024 ≤ x ∧ x ≤ 4096) ∧ (-1024 ≤ y ∧ y ≤ 4096) then 0 else 3) := by
    show _ = _
    unfold codeP
    simp only [okP_iff]
  go_enter Try.func114, Try.ntmps114
  go_wp2_with (go_at_call 142; refine (pairOf_any _ _ _).mono ?_; rintro e w' ⟨rfl, hb1⟩)
  have hB : Hid (Below w.heap.size w w') := by
    show Below _ _ _
    (repeat (first | exact Below.refl _ _ | assumption | refine Below.drew ?_ | refine bl_alloc ?_ _ | refine bl_then ?_ (by assumption) | refine Below.setCell ?_ (by first | omega | (simp; done) | (simp; omega)) _ | refine bl_store ?_ ?_ _ _))
  clear hb1
  go_loop [7] (fun i => ∃ k : Nat, k ≤ 2 ∧ i = .int .i64 k ∧ (1 ≤ k → -1024 ≤ x ∧ x ≤ 4096) ∧ (2 ≤ k → -1024 ≤ y ∧ y ≤ 4096)) (fun i => 2 - (intOf i).toNat)
  case atStart => exact ⟨0, by omega, rfl, by omega, by omega⟩
  case round =>
    obtain ⟨k, hk2, rfl, hx, hy⟩ := hrel
    have hcase : k = 0 ∨ k = 1 ∨ k = 2 := by omega
    rcases hcase with rfl | rfl | rfl
    · clear hx hy
      by_cases h1 : x < -1024
      · go_wp2
        go_ret
        exact ⟨ret_int (by rw [hk.out]; simp; omega), hB.out⟩
      · have h1' : decide (x < -1024) = false := by simpa using h1
        go_wp2
        · go_ret
          exact ⟨ret_int (by rw [hk.out]; simp; omega), hB.out⟩
        · go_round
          case rel => exact ⟨1, by omega, rfl, by omega, by omega⟩
          case measure => simp [intOf]
    · have hx' := hx (by omega)
      clear hx hy
      by_cases h1 : y < -1024
      · go_wp2
        go_ret
        exact ⟨ret_int (by rw [hk.out]; simp; omega), hB.out⟩
      · have h1' : decide (y < -1024) = false := by simpa using h1
        go_wp2
        · go_ret
          exact ⟨ret_int (by rw [hk.out]; simp; omega), hB.out⟩
        · go_round
          case rel => exact ⟨2, by omega, rfl, by omega, by omega⟩
          case measure => simp [intOf]
    · have hx' := hx (by omega)
      have hy' := hy (by omega)
      clear hx hy
      go_wp2
      go_ret
      exact ⟨ret_int (by rw [hk.out, if_pos ⟨hx', hy'⟩]), hB.out⟩
end Go.Proofs.Ytijegoheilmmpaa
