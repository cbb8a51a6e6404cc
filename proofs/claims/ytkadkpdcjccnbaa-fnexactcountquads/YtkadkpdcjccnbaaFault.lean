/- PointFault answers the fault of a point. -/
import Derived.Test.YtkadkpdcjccnbaaLeaf0
namespace Go.Proofs.Ytkadkpdcjccnbaa
open Go.RowKit
set_option linter.unusedSimpArgs false
set_option linter.unusedVariables false

theorem PointFault_any (x y : Int) (w : World) : Calls Try.prog 154 #[.agg #[.int .i64 x, .int .i64 y]] w fun e w' => e = .returned (.int .i64 (codeP x y)) ∧ Below w.heap.size w w' := by
  have i0 : ∀ w, (Instr.index 201 (.agg #[.int .i64 x, .int .i64 y]) (.int .i64 0)).run Try.prog w = .ok (.int .i64 x) w := fun _ => by kernel_rfl
  have i1 : ∀ w, (Instr.index 201 (.agg #[.int .i64 x, .int .i64 y]) (.int .i64 1)).run Try.prog w = .ok (.int .i64 y) w := fun _ => by kernel_rfl
  have hk : Hid (codeP x y = if (-1024 ≤ x ∧ x ≤ 4096) ∧ (-1024 ≤ y ∧ y ≤ 4096) then 0 else 3) := by
    show _ = _
    unfold codeP
    simp only [okP_iff]
  go_enter Try.func154, Try.ntmps154
  go_wp2_with (go_at_call 155; refine (pairOf_any _ _ _).mono ?_; rintro e w' ⟨rfl, hb1⟩)
  have hB : Hid (Below w.heap.size w w') := by
    show Below _ _ _
    (repeat (first | exact Below.refl _ _ | assumption | refine Below.drew ?_ | refine bl_alloc ?_ _ | refine bl_then ?_ (by assumption) | refine Below.setCell ?_ (by first | omega | (simp; done) | (simp; omega)) _ | refine bl_store ?_ ?_ _ _))
  clear hb1
  go_loop [7] (fun i => ∃ k : Nat, k ≤ 2 ∧ i = .int .i64 k ∧ (1 ≤ k → -1024 ≤ x ∧ x ≤ 4096) ∧ (2 ≤ k → -1024 ≤ y ∧ y ≤ 4096)) (fun i => 2 - (intOf i).toNat)
  case atStart => exact ⟨0, by omega, rfl, by omega, by omega⟩
  case round =>
    obtain ⟨k, hk2, rfl, hx, hy⟩ := hrel
    have hcase : k = 0 ∨ k = 1 ∨ k = 2 := by omega
    rcases hcase with rfl | rfl | rfl
    · clear hx hy
      by_cases h1 : x < -1024
      · go_wp2
        go_ret
        exact ⟨ret_int (by rw [hk.out]; simp; omega), hB.out⟩
      · have h1' : decide (x < -1024) = false := by simpa using h1
        go_wp2
        · go_ret
          exact ⟨ret_int (by rw [hk.out]; simp; omega), hB.out⟩
        · go_round
          case rel => exact ⟨1, by omega, rfl, by omega, by omega⟩
          case measure => simp [intOf]
    · have hx' := hx (by omega)
      clear hx hy
      by_cases h1 : y < -1024
      · go_wp2
        go_ret
        exact ⟨ret_int (by rw [hk.out]; simp; omega), hB.out⟩
      · have h1' : decide (y < -1024) = false := by simpa using h1
        go_wp2
        · go_ret
          exact ⟨ret_int (by rw [hk.out]; simp; omega), hB.out⟩
        · go_round
          case rel => exact ⟨2, by omega, rfl, by omega, by omega⟩
          case measure => simp [intOf]
    · have hx' := hx (by omega)
      have hy' := hy (by omega)
      clear hx hy
      go_wp2
      go_ret
      exact ⟨ret_int (by rw [hk.out, if_pos ⟨hx', hy'⟩]), hB.out⟩
end Go.Proofs.Ytkadkpdcjccnbaa
