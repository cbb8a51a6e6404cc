/- The law of IsNear returns true at every argument. -/
import Derived.Test.YtlkjdbigpjpgeabNearImpl
import Derived.Deep.RegionHeld3
namespace Go.Proofs.Ytlkjdbigpjpgeab
open Go.RowKit
set_option linter.unusedSimpArgs false
set_option linter.unusedVariables false

set_option maxHeartbeats 2000000 in
theorem FnExactIsNear_walk (px py ax ay bx by' r : Int) (w : World) : Calls Try.prog 5 #[.agg #[.int .i64 px, .int .i64 py], .agg #[.int .i64 ax, .int .i64 ay], .agg #[.int .i64 bx, .int .i64 by'], .int .i64 r] w fun e w' => e = .returned (.bool true) ∧ Below w.heap.size w w' := by
  go_enter Try.func5, Try.ntmps5
  go_wp2
  generalize hW : (((w.alloc _).alloc _).alloc _ : World) = W
  have hB0 : Below w.heap.size w W := by subst hW; (repeat (first | exact Below.refl _ _ | assumption | refine Below.drew ?_ | refine bl_alloc ?_ _ | refine bl_then ?_ (by assumption) | refine Below.setCell ?_ (by first | omega | (simp; done) | (simp; omega)) _ | refine bl_store ?_ ?_ _ _))
  have c00 : ∀ W', Below W.heap.size W W' → W'.cell? ⟨w.heap.size, 0, none⟩ = some (.int .i64 px) := fun W' h => by
    rw [h.cell (by subst hW; simp <;> omega)]; subst hW; simp [go_sem]
  have c01 : ∀ W', Below W.heap.size W W' → W'.cell? ⟨w.heap.size, 1, none⟩ = some (.int .i64 py) := fun W' h => by
    rw [h.cell (by subst hW; simp <;> omega)]; subst hW; simp [go_sem]
  have c10 : ∀ W', Below W.heap.size W W' → W'.cell? ⟨w.heap.size + 1, 0, none⟩ = some (.int .i64 ax) := fun W' h => by
    rw [h.cell (by subst hW; simp <;> omega)]; subst hW; simp [go_sem]
  have c11 : ∀ W', Below W.heap.size W W' → W'.cell? ⟨w.heap.size + 1, 1, none⟩ = some (.int .i64 ay) := fun W' h => by
    rw [h.cell (by subst hW; simp <;> omega)]; subst hW; simp [go_sem]
  have c20 : ∀ W', Below W.heap.size W W' → W'.cell? ⟨w.heap.size + 1 + 1, 0, none⟩ = some (.int .i64 bx) := fun W' h => by
    rw [h.cell (by subst hW; simp <;> omega)]; subst hW; simp [go_sem]
  have c21 : ∀ W', Below W.heap.size W W' → W'.cell? ⟨w.heap.size + 1 + 1, 1, none⟩ = some (.int .i64 by') := fun W' h => by
    rw [h.cell (by subst hW; simp <;> omega)]; subst hW; simp [go_sem]
  clear hW
  have HB0 : Hid (Below w.heap.size w W) := hB0
  clear hB0
  go_region_held3 (fun W' => Below W.heap.size W W') ((repeat (first | exact Below.refl _ _ | assumption | refine Below.drew ?_ | refine bl_alloc ?_ _ | refine bl_then ?_ (by assumption) | refine Below.setCell ?_ (by first | omega | (simp; done) | (simp; omega)) _ | refine bl_store ?_ ?_ _ _)))
    (first
      | (go_at_call 10; refine (toPoint_any _ _ _).mono ?_; rintro e w' ⟨rfl, hb⟩)
      | (go_at_call 15; refine (spec_IsNear_any _ _ _ _ _ _ _ _).mono ?_; rintro e w' ⟨rfl, hb⟩))
  go_wp2
  go_region_held3 (fun W' => Below W.heap.size W W') ((repeat (first | exact Below.refl _ _ | assumption | refine Below.drew ?_ | refine bl_alloc ?_ _ | refine bl_then ?_ (by assumption) | refine Below.setCell ?_ (by first | omega | (simp; done) | (simp; omega)) _ | refine bl_store ?_ ?_ _ _)))
    (first
      | (go_at_call 10; refine (toPoint_any _ _ _).mono ?_; rintro e w' ⟨rfl, hb⟩)
      | (go_at_call 16; refine (impl_IsNear_any _ _ _ _ _ _ _ _).mono ?_; rintro e w' ⟨rfl, hb⟩))
  go_wp2
  go_ret
  exact ⟨rfl, bl_then HB0.out (by assumption)⟩
end Go.Proofs.Ytlkjdbigpjpgeab
