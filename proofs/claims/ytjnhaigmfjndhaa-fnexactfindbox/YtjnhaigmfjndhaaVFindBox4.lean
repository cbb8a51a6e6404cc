/- Several texts in one. -/
import Derived.Test.YtjnhaigmfjndhaaVFindBox3
import Derived.Test.YtjnhaigmfjndhaaVFindBox2

/- Boxes as answers are compared. -/

namespace Go.Proofs.Ytjnhaigmfjndhaa
open Go.RowKit
set_option linter.unusedSimpArgs false
set_option linter.unusedVariables false
set_option maxRecDepth 100000

set_option maxHeartbeats 1000000 in
theorem eqBox_any (a b c d : Int) (w : World) : Calls Try.prog 58 #[.agg #[.int .i64 a, .int .i64 b, .int .i64 c, .int .i64 d], .agg #[.int .i64 a, .int .i64 b, .int .i64 c, .int .i64 d]] w fun e w' => e = .returned (.bool true) ∧ Below w.heap.size w w' := by
  go_enter Try.func58, Try.ntmps58
  go_wp2_with fail
  generalize hW : ((w.alloc _).alloc _ : World) = W
  have hB0 : Below w.heap.size w W := by subst hW; (repeat (first | exact Below.refl _ _ | assumption | refine Below.drew ?_ | refine bl_alloc ?_ _ | refine bl_then ?_ (by assumption) | refine Below.setCell ?_ (by first | omega | (simp; done) | (simp; omega)) _ | refine bl_store ?_ ?_ _ _))
  have c00 : ∀ W', Below W.heap.size W W' → W'.cell? ⟨w.heap.size, 0, none⟩ = some (.int .i64 a) := fun W' h => by
    rw [h.cell (by subst hW; simp <;> omega)]; subst hW; simp [go_sem]
  have c01 : ∀ W', Below W.heap.size W W' → W'.cell? ⟨w.heap.size, 1, none⟩ = some (.int .i64 b) := fun W' h => by
    rw [h.cell (by subst hW; simp <;> omega)]; subst hW; simp [go_sem]
  have c02 : ∀ W', Below W.heap.size W W' → W'.cell? ⟨w.heap.size, 2, none⟩ = some (.int .i64 c) := fun W' h => by
    rw [h.cell (by subst hW; simp <;> omega)]; subst hW; simp [go_sem]
  have c03 : ∀ W', Below W.heap.size W W' → W'.cell? ⟨w.heap.size, 3, none⟩ = some (.int .i64 d) := fun W' h => by
    rw [h.cell (by subst hW; simp <;> omega)]; subst hW; simp [go_sem]
  have c10 : ∀ W', Below W.heap.size W W' → W'.cell? ⟨w.heap.size + 1, 0, none⟩ = some (.int .i64 a) := fun W' h => by
    rw [h.cell (by subst hW; simp <;> omega)]; subst hW; simp [go_sem]
  have c11 : ∀ W', Below W.heap.size W W' → W'.cell? ⟨w.heap.size + 1, 1, none⟩ = some (.int .i64 b) := fun W' h => by
    rw [h.cell (by subst hW; simp <;> omega)]; subst hW; simp [go_sem]
  have c12 : ∀ W', Below W.heap.size W W' → W'.cell? ⟨w.heap.size + 1, 2, none⟩ = some (.int .i64 c) := fun W' h => by
    rw [h.cell (by subst hW; simp <;> omega)]; subst hW; simp [go_sem]
  have c13 : ∀ W', Below W.heap.size W W' → W'.cell? ⟨w.heap.size + 1, 3, none⟩ = some (.int .i64 d) := fun W' h => by
    rw [h.cell (by subst hW; simp <;> omega)]; subst hW; simp [go_sem]
  clear hW
  have HB0 : Hid (Below w.heap.size w W) := hB0
  clear hB0
  have hr : Below W.heap.size W W := Below.refl _ _
  go_wp2_with (go_at_call 81; refine (eqPoint_any _ _ _).mono ?_; rintro e w' ⟨rfl, hb⟩; have hbn : Below W.heap.size W w' := (by (repeat (first | exact Below.refl _ _ | assumption | refine Below.drew ?_ | refine bl_alloc ?_ _ | refine bl_then ?_ (by assumption) | refine Below.setCell ?_ (by first | omega | (simp; done) | (simp; omega)) _ | refine bl_store ?_ ?_ _ _))))
  go_ret
  exact ⟨rfl, by have HB1 := HB0.out; (repeat (first | exact Below.refl _ _ | assumption | refine Below.drew ?_ | refine bl_alloc ?_ _ | refine bl_then ?_ (by assumption) | refine Below.setCell ?_ (by first | omega | (simp; done) | (simp; omega)) _ | refine bl_store ?_ ?_ _ _))⟩
end Go.Proofs.Ytjnhaigmfjndhaa
/- PointFault answers the fault of a point. -/

namespace Go.Proofs.Ytjnhaigmfjndhaa
open Go.RowKit
set_option linter.unusedSimpArgs false
set_option linter.unusedVariables false

theorem PointFault_any (x y : Int) (w : World) : Calls Try.prog 69 #[.agg #[.int .i64 x, .int .i64 y]] w fun e w' => e = .returned (.int .i64 (codeP x y)) ∧ Below w.heap.size w w' := by
  have i0 : ∀ w, (Instr.index 126 (.agg #[.int .i64 x, .int .i64 y]) (.int .i64 0)).run Try.prog w = .ok (.int .i64 x) w := fun _ => by kernel_rfl
  have i1 : ∀ w, (Instr.index 126 (.agg #[.int .i64 x, .int .i64 y]) (.int .i64 1)).run Try.prog w = .ok (.int .i64 y) w := fun _ => by kernel_rfl
  have hk : Hid (codeP x y = if (-1024 ≤ x ∧ x ≤ 4096) ∧ (-1024 ≤ y ∧ y ≤ 4096) then 0 else 3) := by
    show _ = _
    unfold codeP
    simp only [okP_iff]
  go_enter Try.func69, Try.ntmps69
  go_wp2_with (go_at_call 93; refine (pairOf_any _ _ _).mono ?_; rintro e w' ⟨rfl, hb1⟩)
  have hB : Hid (Below w.heap.size w w') := by
    show Below _ _ _
    (repeat (first | exact Below.refl _ _ | assumption | refine Below.drew ?_ | refine bl_alloc ?_ _ | refine bl_then ?_ (by assumption) | refine Below.setCell ?_ (by first | omega | (simp; done) | (simp; omega)) _ | refine bl_store ?_ ?_ _ _))
  clear hb1
  go_loop [7] (fun i => ∃ k : Nat, k ≤ 2 ∧ i = .int .i64 k ∧ (1 ≤ k → -1024 ≤ x ∧ x ≤ 4096) ∧ (2 ≤ k → -1024 ≤ y ∧ y ≤ 4096)) (fun i => 2 - (intOf i).toNat)
  case atStart => exact ⟨0, by omega, rfl, by omega, by omega⟩
  case round =>
    obtain ⟨k, hk2, rfl, hx, hy⟩ := hrel
    have hcase : k = 0 ∨ k = 1 ∨ k = 2 := by omega
    rcases hcase with rfl | rfl | rfl
    · clear hx hy
      by_cases h1 : x < -1024
      · go_wp2
        go_ret
        exact ⟨ret_int (by rw [hk.out]; simp; omega), hB.out⟩
      · have h1' : decide (x < -1024) = false := by simpa using h1
        go_wp2
        · go_ret
          exact ⟨ret_int (by rw [hk.out]; simp; omega), hB.out⟩
        · go_round
          case rel => exact ⟨1, by omega, rfl, by omega, by omega⟩
          case measure => simp [intOf]
    · have hx' := hx (by omega)
      clear hx hy
      by_cases h1 : y < -1024
      · go_wp2
        go_ret
        exact ⟨ret_int (by rw [hk.out]; simp; omega), hB.out⟩
      · have h1' : decide (y < -1024) = false := by simpa using h1
        go_wp2
        · go_ret
          exact ⟨ret_int (by rw [hk.out]; simp; omega), hB.out⟩
        · go_round
          case rel => exact ⟨2, by omega, rfl, by omega, by omega⟩
          case measure => simp [intOf]
    · have hx' := hx (by omega)
      have hy' := hy (by omega)
      clear hx hy
      go_wp2
      go_ret
      exact ⟨ret_int (by rw [hk.out, if_pos ⟨hx', hy'⟩]), hB.out⟩
end Go.Proofs.Ytjnhaigmfjndhaa
