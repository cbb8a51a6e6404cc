/- l1Side of the model and isCrossed of the program: whether a side is crossed. -/
import Derived.Test.YtiheemnjfihhfaaGreatVRasterTile12
import Derived.Test.YtiheemnjfihhfaaGreatVRasterTile9
namespace Go.Proofs.YtiheemnjfihhfaaGreat
open Go.RowKit
set_option linter.unusedSimpArgs false
set_option linter.unusedVariables false

set_option maxHeartbeats 1000000 in
theorem l1Side_a (px py ax ay bx by' : Int) (w : World) (hp : okP px py = true) (ha : okP ax ay = true) (hb : okP bx by' = true) (h1 : py < ay) (h2 : py < by') :
    Calls Tryz.prog 91 #[.agg #[.int .i64 px, .int .i64 py], .agg #[.int .i64 ax, .int .i64 ay], .agg #[.int .i64 bx, .int .i64 by']] w fun e w' => e = .returned (.bool (sideB px py ax ay bx by')) ∧ Below w.heap.size w w' := by
  have HP : Hid (okP px py = true) := hp
  have HA : Hid (okP ax ay = true) := ha
  have HB : Hid (okP bx by' = true) := hb
  clear hp ha hb
  have HE : Hid (sideB px py ax ay bx by' = false) := by
    show _ = _
    simp [sideB, h1, h2]
  go_enter Tryz.func91, Tryz.ntmps91
  go_wp2
  go_ret
  exact ⟨ret_bool HE.out.symm, by (repeat (first | exact Below.refl _ _ | assumption | refine Below.drew ?_ | refine bl_alloc ?_ _ | refine bl_then ?_ (by assumption) | refine Below.setCell ?_ (by first | omega | (simp; done) | (simp; omega)) _ | refine bl_store ?_ ?_ _ _))⟩

set_option maxHeartbeats 1000000 in
theorem l1Side_b (px py ax ay bx by' : Int) (w : World) (hp : okP px py = true) (ha : okP ax ay = true) (hb : okP bx by' = true) (h1 : ¬ py < ay) (h2 : ¬ py < by') :
    Calls Tryz.prog 91 #[.agg #[.int .i64 px, .int .i64 py], .agg #[.int .i64 ax, .int .i64 ay], .agg #[.int .i64 bx, .int .i64 by']] w fun e w' => e = .returned (.bool (sideB px py ax ay bx by')) ∧ Below w.heap.size w w' := by
  have HP : Hid (okP px py = true) := hp
  have HA : Hid (okP ax ay = true) := ha
  have HB : Hid (okP bx by' = true) := hb
  clear hp ha hb
  have HE : Hid (sideB px py ax ay bx by' = false) := by
    show _ = _
    simp [sideB, h1, h2]
  go_enter Tryz.func91, Tryz.ntmps91
  go_wp2
  go_ret
  exact ⟨ret_bool HE.out.symm, by (repeat (first | exact Below.refl _ _ | assumption | refine Below.drew ?_ | refine bl_alloc ?_ _ | refine bl_then ?_ (by assumption) | refine Below.setCell ?_ (by first | omega | (simp; done) | (simp; omega)) _ | refine bl_store ?_ ?_ _ _))⟩

set_option maxHeartbeats 1000000 in
theorem l1Side_c (px py ax ay bx by' : Int) (w : World) (hp : okP px py = true) (ha : okP ax ay = true) (hb : okP bx by' = true) (h1 : ¬ py < ay) (h2 : py < by') :
    Calls Tryz.prog 91 #[.agg #[.int .i64 px, .int .i64 py], .agg #[.int .i64 ax, .int .i64 ay], .agg #[.int .i64 bx, .int .i64 by']] w fun e w' => e = .returned (.bool (sideB px py ax ay bx by')) ∧ Below w.heap.size w w' := by
  have HP : Hid (okP px py = true) := hp
  have HA : Hid (okP ax ay = true) := ha
  have HB : Hid (okP bx by' = true) := hb
  clear hp ha hb
  have h3 : ay < by' := by omega
  have HE : Hid (sideB px py ax ay bx by' = decide (0 < crossI ax ay bx by' px py)) := by
    show _ = _
    simp [sideB, h1, h2, h3]
  go_enter Tryz.func91, Tryz.ntmps91
  go_wp2_with fail
  generalize hW : (((w.alloc _).alloc _).alloc _ : World) = W
  have hB0 : Below w.heap.size w W := by subst hW; (repeat (first | exact Below.refl _ _ | assumption | refine Below.drew ?_ | refine bl_alloc ?_ _ | refine bl_then ?_ (by assumption) | refine Below.setCell ?_ (by first | omega | (simp; done) | (simp; omega)) _ | refine bl_store ?_ ?_ _ _))
  have c00 : ∀ W', Below W.heap.size W W' → W'.cell? ⟨w.heap.size, 0, none⟩ = some (.int .i64 px) := fun W' h => by
    rw [h.cell (by subst hW; simp <;> omega)]; subst hW; simp [go_sem]
  have c01 : ∀ W', Below W.heap.size W W' → W'.cell? ⟨w.heap.size, 1, none⟩ = some (.int .i64 py) := fun W' h => by
    rw [h.cell (by subst hW; simp <;> omega)]; subst hW; simp [go_sem]
  have c10 : ∀ W', Below W.heap.size W W' → W'.cell? ⟨w.heap.size + 1, 0, none⟩ = some (.int .i64 ax) := fun W' h => by
    rw [h.cell (by subst hW; simp <;> omega)]; subst hW; simp [go_sem]
  have c11 : ∀ W', Below W.heap.size W W' → W'.cell? ⟨w.heap.size + 1, 1, none⟩ = some (.int .i64 ay) := fun W' h => by
    rw [h.cell (by subst hW; simp <;> omega)]; subst hW; simp [go_sem]
  have c20 : ∀ W', Below W.heap.size W W' → W'.cell? ⟨w.heap.size + 1 + 1, 0, none⟩ = some (.int .i64 bx) := fun W' h => by
    rw [h.cell (by subst hW; simp <;> omega)]; subst hW; simp [go_sem]
  have c21 : ∀ W', Below W.heap.size W W' → W'.cell? ⟨w.heap.size + 1 + 1, 1, none⟩ = some (.int .i64 by') := fun W' h => by
    rw [h.cell (by subst hW; simp <;> omega)]; subst hW; simp [go_sem]
  clear hW
  have HB0 : Hid (Below w.heap.size w W) := hB0
  clear hB0
  have hr : Below W.heap.size W W := Below.refl _ _
  go_wp2_with (go_at_call 93; refine (l1Cross_any _ _ _ _ _ _ _ HA.out HB.out HP.out).mono ?_; rintro e w' ⟨rfl, hb⟩; have hbn : Below W.heap.size W w' := (by (repeat (first | exact Below.refl _ _ | assumption | refine Below.drew ?_ | refine bl_alloc ?_ _ | refine bl_then ?_ (by assumption) | refine Below.setCell ?_ (by first | omega | (simp; done) | (simp; omega)) _ | refine bl_store ?_ ?_ _ _))))
  go_ret
  exact ⟨ret_bool HE.out.symm, by have HB1 := HB0.out; (repeat (first | exact Below.refl _ _ | assumption | refine Below.drew ?_ | refine bl_alloc ?_ _ | refine bl_then ?_ (by assumption) | refine Below.setCell ?_ (by first | omega | (simp; done) | (simp; omega)) _ | refine bl_store ?_ ?_ _ _))⟩

set_option maxHeartbeats 1000000 in
theorem l1Side_d (px py ax ay bx by' : Int) (w : World) (hp : okP px py = true) (ha : okP ax ay = true) (hb : okP bx by' = true) (h1 : py < ay) (h2 : ¬ py < by') :
    Calls Tryz.prog 91 #[.agg #[.int .i64 px, .int .i64 py], .agg #[.int .i64 ax, .int .i64 ay], .agg #[.int .i64 bx, .int .i64 by']] w fun e w' => e = .returned (.bool (sideB px py ax ay bx by')) ∧ Below w.heap.size w w' := by
  have HP : Hid (okP px py = true) := hp
  have HA : Hid (okP ax ay = true) := ha
  have HB : Hid (okP bx by' = true) := hb
  clear hp ha hb
  have h3 : ¬ ay < by' := by omega
  have HE : Hid (sideB px py ax ay bx by' = decide (crossI ax ay bx by' px py < 0)) := by
    show _ = _
    simp [sideB, h1, h2, h3]
  go_enter Tryz.func91, Tryz.ntmps91
  go_wp2_with fail
  generalize hW : (((w.alloc _).alloc _).alloc _ : World) = W
  have hB0 : Below w.heap.size w W := by subst hW; (repeat (first | exact Below.refl _ _ | assumption | refine Below.drew ?_ | refine bl_alloc ?_ _ | refine bl_then ?_ (by assumption) | refine Below.setCell ?_ (by first | omega | (simp; done) | (simp; omega)) _ | refine bl_store ?_ ?_ _ _))
  have c00 : ∀ W', Below W.heap.size W W' → W'.cell? ⟨w.heap.size, 0, none⟩ = some (.int .i64 px) := fun W' h => by
    rw [h.cell (by subst hW; simp <;> omega)]; subst hW; simp [go_sem]
  have c01 : ∀ W', Below W.heap.size W W' → W'.cell? ⟨w.heap.size, 1, none⟩ = some (.int .i64 py) := fun W' h => by
    rw [h.cell (by subst hW; simp <;> omega)]; subst hW; simp [go_sem]
  have c10 : ∀ W', Below W.heap.size W W' → W'.cell? ⟨w.heap.size + 1, 0, none⟩ = some (.int .i64 ax) := fun W' h => by
    rw [h.cell (by subst hW; simp <;> omega)]; subst hW; simp [go_sem]
  have c11 : ∀ W', Below W.heap.size W W' → W'.cell? ⟨w.heap.size + 1, 1, none⟩ = some (.int .i64 ay) := fun W' h => by
    rw [h.cell (by subst hW; simp <;> omega)]; subst hW; simp [go_sem]
  have c20 : ∀ W', Below W.heap.size W W' → W'.cell? ⟨w.heap.size + 1 + 1, 0, none⟩ = some (.int .i64 bx) := fun W' h => by
    rw [h.cell (by subst hW; simp <;> omega)]; subst hW; simp [go_sem]
  have c21 : ∀ W', Below W.heap.size W W' → W'.cell? ⟨w.heap.size + 1 + 1, 1, none⟩ = some (.int .i64 by') := fun W' h => by
    rw [h.cell (by subst hW; simp <;> omega)]; subst hW; simp [go_sem]
  clear hW
  have HB0 : Hid (Below w.heap.size w W) := hB0
  clear hB0
  have hr : Below W.heap.size W W := Below.refl _ _
  go_wp2_with (go_at_call 93; refine (l1Cross_any _ _ _ _ _ _ _ HA.out HB.out HP.out).mono ?_; rintro e w' ⟨rfl, hb⟩; have hbn : Below W.heap.size W w' := (by (repeat (first | exact Below.refl _ _ | assumption | refine Below.drew ?_ | refine bl_alloc ?_ _ | refine bl_then ?_ (by assumption) | refine Below.setCell ?_ (by first | omega | (simp; done) | (simp; omega)) _ | refine bl_store ?_ ?_ _ _))))
  go_ret
  exact ⟨ret_bool HE.out.symm, by have HB1 := HB0.out; (repeat (first | exact Below.refl _ _ | assumption | refine Below.drew ?_ | refine bl_alloc ?_ _ | refine bl_then ?_ (by assumption) | refine Below.setCell ?_ (by first | omega | (simp; done) | (simp; omega)) _ | refine bl_store ?_ ?_ _ _))⟩

theorem l1Side_any (px py ax ay bx by' : Int) (w : World) (hp : okP px py = true) (ha : okP ax ay = true) (hb : okP bx by' = true) :
    Calls Tryz.prog 91 #[.agg #[.int .i64 px, .int .i64 py], .agg #[.int .i64 ax, .int .i64 ay], .agg #[.int .i64 bx, .int .i64 by']] w fun e w' => e = .returned (.bool (sideB px py ax ay bx by')) ∧ Below w.heap.size w w' := by
  by_cases h1 : py < ay <;> by_cases h2 : py < by'
  · exact l1Side_a _ _ _ _ _ _ _ hp ha hb h1 h2
  · exact l1Side_d _ _ _ _ _ _ _ hp ha hb h1 h2
  · exact l1Side_c _ _ _ _ _ _ _ hp ha hb h1 h2
  · exact l1Side_b _ _ _ _ _ _ _ hp ha hb h1 h2
end Go.Proofs.YtiheemnjfihhfaaGreat
