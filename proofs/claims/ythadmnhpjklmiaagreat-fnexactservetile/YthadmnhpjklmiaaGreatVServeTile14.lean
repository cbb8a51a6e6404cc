/- Several texts in one. -/
import Derived.Test.YthadmnhpjklmiaaGreatVServeTile13

/- gapOf answers the square of the distance of a point and a segment, as a fraction. -/

namespace Go.Proofs.YthadmnhpjklmiaaGreat
open Go.RowKit
set_option linter.unusedSimpArgs false
set_option linter.unusedVariables false

theorem dist_comm (ax ay bx by' : Int) : distI ax ay bx by' = distI bx by' ax ay := by
  unfold distI
  rw [← Int.neg_sub bx ax, ← Int.neg_sub by' ay, Int.neg_mul_neg, Int.neg_mul_neg]
theorem along_comm (px py ax ay bx by' : Int) : alongI px py ax ay bx by' = (bx - ax) * (px - ax) + (by' - ay) * (py - ay) := by
  unfold alongI
  rw [Int.mul_comm (px - ax), Int.mul_comm (py - ay)]
theorem along_same (px py ax ay : Int) : alongI px py ax ay ax ay = 0 := by simp [alongI]
/-- The value of a sum of squares is the distance. -/
theorem dist_def (ax ay bx by' : Int) : (bx - ax) * (bx - ax) + (by' - ay) * (by' - ay) = distI ax ay bx by' := rfl
theorem ret_two {a b c d : Int} (h : a = b) (k : c = d) : Ending.returned (.tuple #[.int .i64 a, .int .i64 c]) = .returned (.tuple #[.int .i64 b, .int .i64 d]) := by rw [h, k]

set_option maxHeartbeats 2000000 in
theorem gapOf_same (px py ax ay bx by' : Int) (w : World) (hp : okP px py = true) (ha : okP ax ay = true) (hb : okP bx by' = true) (heq : ∀ w, (Op.equalIn 10000 188 (.agg #[.int .i64 ax, .int .i64 ay]) (.agg #[.int .i64 bx, .int .i64 by'])).run Tryz.prog w = .ok true w) :
    Calls Tryz.prog 161 #[.agg #[.int .i64 px, .int .i64 py], .agg #[.int .i64 ax, .int .i64 ay], .agg #[.int .i64 bx, .int .i64 by']] w fun e w' => e = .returned (.tuple #[.int .i64 ((px - ax) * (px - ax) + (py - ay) * (py - ay)), .int .i64 (1)]) ∧ Below w.heap.size w w' := by
  have HP : Hid _ := hp
  have HA : Hid _ := ha
  have HB : Hid _ := hb
  clear hp ha hb
  go_enter Tryz.func161, Tryz.ntmps161
  go_wp2_with fail
  generalize hW : (((w.alloc _).alloc _).alloc _ : World) = W
  have hB0 : Below w.heap.size w W := by subst hW; (repeat (first | exact Below.refl _ _ | assumption | refine Below.drew ?_ | refine bl_alloc ?_ _ | refine bl_then ?_ (by assumption) | refine Below.setCell ?_ (by first | omega | (simp; done) | (simp; omega)) _ | refine bl_store ?_ ?_ _ _))
  have c00 : ∀ W', Below W.heap.size W W' → W'.cell? ⟨w.heap.size, 0, none⟩ = some (.int .i64 px) := fun W' h => by
    rw [h.cell (by subst hW; simp <;> omega)]; subst hW; simp [go_sem]
  have c01 : ∀ W', Below W.heap.size W W' → W'.cell? ⟨w.heap.size, 1, none⟩ = some (.int .i64 py) := fun W' h => by
    rw [h.cell (by subst hW; simp <;> omega)]; subst hW; simp [go_sem]
  have c10 : ∀ W', Below W.heap.size W W' → W'.cell? ⟨w.heap.size + 1, 0, none⟩ = some (.int .i64 ax) := fun W' h => by
    rw [h.cell (by subst hW; simp <;> omega)]; subst hW; simp [go_sem]
  have c11 : ∀ W', Below W.heap.size W W' → W'.cell? ⟨w.heap.size + 1, 1, none⟩ = some (.int .i64 ay) := fun W' h => by
    rw [h.cell (by subst hW; simp <;> omega)]; subst hW; simp [go_sem]
  have c20 : ∀ W', Below W.heap.size W W' → W'.cell? ⟨w.heap.size + 1 + 1, 0, none⟩ = some (.int .i64 bx) := fun W' h => by
    rw [h.cell (by subst hW; simp <;> omega)]; subst hW; simp [go_sem]
  have c21 : ∀ W', Below W.heap.size W W' → W'.cell? ⟨w.heap.size + 1 + 1, 1, none⟩ = some (.int .i64 by') := fun W' h => by
    rw [h.cell (by subst hW; simp <;> omega)]; subst hW; simp [go_sem]
  clear hW
  have HB0 : Hid (Below w.heap.size w W) := hB0
  clear hB0
  have hr : Below W.heap.size W W := Below.refl _ _
  go_wp2_with (first
    | (go_at_call 168; refine (wayOf_any _ _ _ _ _ (by first | exact HA.out | exact HB.out) (by first | exact HP.out | exact HB.out)).mono ?_; rintro e w' ⟨rfl, hb⟩; have hbn : Below W.heap.size W w' := (by (repeat (first | exact Below.refl _ _ | assumption | refine Below.drew ?_ | refine bl_alloc ?_ _ | refine bl_then ?_ (by assumption) | refine Below.setCell ?_ (by first | omega | (simp; done) | (simp; omega)) _ | refine bl_store ?_ ?_ _ _))))
    | (go_at_call 167; refine (squareOf_any _ _ _ (by first | exact way_df HA.out HP.out | exact way_df HB.out HP.out | exact way_df HA.out HB.out)).mono ?_; rintro e w' ⟨rfl, hb⟩; have hbn : Below W.heap.size W w' := (by (repeat (first | exact Below.refl _ _ | assumption | refine Below.drew ?_ | refine bl_alloc ?_ _ | refine bl_then ?_ (by assumption) | refine Below.setCell ?_ (by first | omega | (simp; done) | (simp; omega)) _ | refine bl_store ?_ ?_ _ _)))))
  go_ret2
  exact ⟨rfl, by have HB1 := HB0.out; (repeat (first | exact Below.refl _ _ | assumption | refine Below.drew ?_ | refine bl_alloc ?_ _ | refine bl_then ?_ (by assumption) | refine Below.setCell ?_ (by first | omega | (simp; done) | (simp; omega)) _ | refine bl_store ?_ ?_ _ _))⟩

set_option maxHeartbeats 2000000 in
theorem gapOf_low (px py ax ay bx by' : Int) (w : World) (hp : okP px py = true) (ha : okP ax ay = true) (hb : okP bx by' = true) (heq : ∀ w, (Op.equalIn 10000 188 (.agg #[.int .i64 ax, .int .i64 ay]) (.agg #[.int .i64 bx, .int .i64 by'])).run Tryz.prog w = .ok false w) (c1 : (bx - ax) * (px - ax) + (by' - ay) * (py - ay) ≤ 0) :
    Calls Tryz.prog 161 #[.agg #[.int .i64 px, .int .i64 py], .agg #[.int .i64 ax, .int .i64 ay], .agg #[.int .i64 bx, .int .i64 by']] w fun e w' => e = .returned (.tuple #[.int .i64 ((px - ax) * (px - ax) + (py - ay) * (py - ay)), .int .i64 (1)]) ∧ Below w.heap.size w w' := by
  have HP : Hid _ := hp
  have HA : Hid _ := ha
  have HB : Hid _ := hb
  clear hp ha hb
  go_enter Tryz.func161, Tryz.ntmps161
  go_wp2_with fail
  generalize hW : (((w.alloc _).alloc _).alloc _ : World) = W
  have hB0 : Below w.heap.size w W := by subst hW; (repeat (first | exact Below.refl _ _ | assumption | refine Below.drew ?_ | refine bl_alloc ?_ _ | refine bl_then ?_ (by assumption) | refine Below.setCell ?_ (by first | omega | (simp; done) | (simp; omega)) _ | refine bl_store ?_ ?_ _ _))
  have c00 : ∀ W', Below W.heap.size W W' → W'.cell? ⟨w.heap.size, 0, none⟩ = some (.int .i64 px) := fun W' h => by
    rw [h.cell (by subst hW; simp <;> omega)]; subst hW; simp [go_sem]
  have c01 : ∀ W', Below W.heap.size W W' → W'.cell? ⟨w.heap.size, 1, none⟩ = some (.int .i64 py) := fun W' h => by
    rw [h.cell (by subst hW; simp <;> omega)]; subst hW; simp [go_sem]
  have c10 : ∀ W', Below W.heap.size W W' → W'.cell? ⟨w.heap.size + 1, 0, none⟩ = some (.int .i64 ax) := fun W' h => by
    rw [h.cell (by subst hW; simp <;> omega)]; subst hW; simp [go_sem]
  have c11 : ∀ W', Below W.heap.size W W' → W'.cell? ⟨w.heap.size + 1, 1, none⟩ = some (.int .i64 ay) := fun W' h => by
    rw [h.cell (by subst hW; simp <;> omega)]; subst hW; simp [go_sem]
  have c20 : ∀ W', Below W.heap.size W W' → W'.cell? ⟨w.heap.size + 1 + 1, 0, none⟩ = some (.int .i64 bx) := fun W' h => by
    rw [h.cell (by subst hW; simp <;> omega)]; subst hW; simp [go_sem]
  have c21 : ∀ W', Below W.heap.size W W' → W'.cell? ⟨w.heap.size + 1 + 1, 1, none⟩ = some (.int .i64 by') := fun W' h => by
    rw [h.cell (by subst hW; simp <;> omega)]; subst hW; simp [go_sem]
  clear hW
  have HB0 : Hid (Below w.heap.size w W) := hB0
  clear hB0
  have hr : Below W.heap.size W W := Below.refl _ _
  go_wp2_with (first
    | (go_at_call 168; refine (wayOf_any _ _ _ _ _ (by first | exact HA.out | exact HB.out) (by first | exact HP.out | exact HB.out)).mono ?_; rintro e w' ⟨rfl, hb⟩; have hbn : Below W.heap.size W w' := (by (repeat (first | exact Below.refl _ _ | assumption | refine Below.drew ?_ | refine bl_alloc ?_ _ | refine bl_then ?_ (by assumption) | refine Below.setCell ?_ (by first | omega | (simp; done) | (simp; omega)) _ | refine bl_store ?_ ?_ _ _)))))
  have hl : w'.heap.size < w'.heap.size + 1 := by omega
  generalize hV : (w'.alloc _ : World) = V
  have hWV : Below W.heap.size W V := by subst hV; (repeat (first | exact Below.refl _ _ | assumption | refine Below.drew ?_ | refine bl_alloc ?_ _ | refine bl_then ?_ (by assumption) | refine Below.setCell ?_ (by first | omega | (simp; done) | (simp; omega)) _ | refine bl_store ?_ ?_ _ _))
  have g0 : ∀ W', Below V.heap.size V W' → W'.cell? ⟨w'.heap.size, 0, none⟩ = some (.int .i64 (bx - ax)) := fun W' h => by
    rw [h.cell (by subst hV; simp)]; subst hV; simp [go_sem]
  have g1 : ∀ W', Below V.heap.size V W' → W'.cell? ⟨w'.heap.size, 1, none⟩ = some (.int .i64 (by' - ay)) := fun W' h => by
    rw [h.cell (by subst hV; simp)]; subst hV; simp [go_sem]
  clear hV hl
  have HVW : Hid (∀ W', Below V.heap.size V W' → Below W.heap.size W W') := fun W' h => bl_then hWV h
  replace c00 := fun W' h => c00 W' (HVW.out W' h)
  replace c01 := fun W' h => c01 W' (HVW.out W' h)
  replace c10 := fun W' h => c10 W' (HVW.out W' h)
  replace c11 := fun W' h => c11 W' (HVW.out W' h)
  replace c20 := fun W' h => c20 W' (HVW.out W' h)
  replace c21 := fun W' h => c21 W' (HVW.out W' h)
  have HBV : Hid (Below w.heap.size w V) := bl_then HB0.out hWV
  clear hr hb hbn hWV
  go_region_held3 (fun W' => Below V.heap.size V W') ((repeat (first | exact Below.refl _ _ | assumption | refine Below.drew ?_ | refine bl_alloc ?_ _ | refine bl_then ?_ (by assumption) | refine Below.setCell ?_ (by first | omega | (simp; done) | (simp; omega)) _ | refine bl_store ?_ ?_ _ _)))
    (first
      | (go_at_call 168; refine (wayOf_any _ _ _ _ _ HA.out HP.out).mono ?_; rintro e w1 ⟨rfl, hb⟩)
      | (go_at_call 169; refine (dotOf_any _ _ _ _ _ (way_df HA.out HB.out) (way_df HA.out HP.out)).mono ?_; rintro e w1 ⟨rfl, hb⟩)
      | (go_at_call 167; refine (squareOf_any _ _ _ (way_df HA.out HB.out)).mono ?_; rintro e w1 ⟨rfl, hb⟩))
  go_wp2_with (first
    | (go_at_call 168; refine (wayOf_any _ _ _ _ _ (by first | exact HA.out | exact HB.out) (by exact HP.out)).mono ?_; rintro e w2 ⟨rfl, hbz⟩; have hbn : Below V.heap.size V w2 := (by (repeat (first | exact Below.refl _ _ | assumption | refine Below.drew ?_ | refine bl_alloc ?_ _ | refine bl_then ?_ (by assumption) | refine Below.setCell ?_ (by first | omega | (simp; done) | (simp; omega)) _ | refine bl_store ?_ ?_ _ _))))
    | (go_at_call 167; refine (squareOf_any _ _ _ (by first | exact way_df HA.out HP.out | exact way_df HB.out HP.out)).mono ?_; rintro e w2 ⟨rfl, hbz⟩; have hbn : Below V.heap.size V w2 := (by (repeat (first | exact Below.refl _ _ | assumption | refine Below.drew ?_ | refine bl_alloc ?_ _ | refine bl_then ?_ (by assumption) | refine Below.setCell ?_ (by first | omega | (simp; done) | (simp; omega)) _ | refine bl_store ?_ ?_ _ _)))))
  go_ret2
  exact ⟨rfl, by have HB1 := HBV.out; (repeat (first | exact Below.refl _ _ | assumption | refine Below.drew ?_ | refine bl_alloc ?_ _ | refine bl_then ?_ (by assumption) | refine Below.setCell ?_ (by first | omega | (simp; done) | (simp; omega)) _ | refine bl_store ?_ ?_ _ _))⟩

set_option maxHeartbeats 2000000 in
theorem gapOf_high (px py ax ay bx by' : Int) (w : World) (hp : okP px py = true) (ha : okP ax ay = true) (hb : okP bx by' = true) (heq : ∀ w, (Op.equalIn 10000 188 (.agg #[.int .i64 ax, .int .i64 ay]) (.agg #[.int .i64 bx, .int .i64 by'])).run Tryz.prog w = .ok false w) (c1 : ¬ (bx - ax) * (px - ax) + (by' - ay) * (py - ay) ≤ 0) (c2 : (bx - ax) * (bx - ax) + (by' - ay) * (by' - ay) ≤ (bx - ax) * (px - ax) + (by' - ay) * (py - ay)) :
    Calls Tryz.prog 161 #[.agg #[.int .i64 px, .int .i64 py], .agg #[.int .i64 ax, .int .i64 ay], .agg #[.int .i64 bx, .int .i64 by']] w fun e w' => e = .returned (.tuple #[.int .i64 ((px - bx) * (px - bx) + (py - by') * (py - by')), .int .i64 (1)]) ∧ Below w.heap.size w w' := by
  have HP : Hid _ := hp
  have HA : Hid _ := ha
  have HB : Hid _ := hb
  clear hp ha hb
  go_enter Tryz.func161, Tryz.ntmps161
  go_wp2_with fail
  generalize hW : (((w.alloc _).alloc _).alloc _ : World) = W
  have hB0 : Below w.heap.size w W := by subst hW; (repeat (first | exact Below.refl _ _ | assumption | refine Below.drew ?_ | refine bl_alloc ?_ _ | refine bl_then ?_ (by assumption) | refine Below.setCell ?_ (by first | omega | (simp; done) | (simp; omega)) _ | refine bl_store ?_ ?_ _ _))
  have c00 : ∀ W', Below W.heap.size W W' → W'.cell? ⟨w.heap.size, 0, none⟩ = some (.int .i64 px) := fun W' h => by
    rw [h.cell (by subst hW; simp <;> omega)]; subst hW; simp [go_sem]
  have c01 : ∀ W', Below W.heap.size W W' → W'.cell? ⟨w.heap.size, 1, none⟩ = some (.int .i64 py) := fun W' h => by
    rw [h.cell (by subst hW; simp <;> omega)]; subst hW; simp [go_sem]
  have c10 : ∀ W', Below W.heap.size W W' → W'.cell? ⟨w.heap.size + 1, 0, none⟩ = some (.int .i64 ax) := fun W' h => by
    rw [h.cell (by subst hW; simp <;> omega)]; subst hW; simp [go_sem]
  have c11 : ∀ W', Below W.heap.size W W' → W'.cell? ⟨w.heap.size + 1, 1, none⟩ = some (.int .i64 ay) := fun W' h => by
    rw [h.cell (by subst hW; simp <;> omega)]; subst hW; simp [go_sem]
  have c20 : ∀ W', Below W.heap.size W W' → W'.cell? ⟨w.heap.size + 1 + 1, 0, none⟩ = some (.int .i64 bx) := fun W' h => by
    rw [h.cell (by subst hW; simp <;> omega)]; subst hW; simp [go_sem]
  have c21 : ∀ W', Below W.heap.size W W' → W'.cell? ⟨w.heap.size + 1 + 1, 1, none⟩ = some (.int .i64 by') := fun W' h => by
    rw [h.cell (by subst hW; simp <;> omega)]; subst hW; simp [go_sem]
  clear hW
  have HB0 : Hid (Below w.heap.size w W) := hB0
  clear hB0
  have hr : Below W.heap.size W W := Below.refl _ _
  go_wp2_with (first
    | (go_at_call 168; refine (wayOf_any _ _ _ _ _ (by first | exact HA.out | exact HB.out) (by first | exact HP.out | exact HB.out)).mono ?_; rintro e w' ⟨rfl, hb⟩; have hbn : Below W.heap.size W w' := (by (repeat (first | exact Below.refl _ _ | assumption | refine Below.drew ?_ | refine bl_alloc ?_ _ | refine bl_then ?_ (by assumption) | refine Below.setCell ?_ (by first | omega | (simp; done) | (simp; omega)) _ | refine bl_store ?_ ?_ _ _)))))
  have hl : w'.heap.size < w'.heap.size + 1 := by omega
  generalize hV : (w'.alloc _ : World) = V
  have hWV : Below W.heap.size W V := by subst hV; (repeat (first | exact Below.refl _ _ | assumption | refine Below.drew ?_ | refine bl_alloc ?_ _ | refine bl_then ?_ (by assumption) | refine Below.setCell ?_ (by first | omega | (simp; done) | (simp; omega)) _ | refine bl_store ?_ ?_ _ _))
  have g0 : ∀ W', Below V.heap.size V W' → W'.cell? ⟨w'.heap.size, 0, none⟩ = some (.int .i64 (bx - ax)) := fun W' h => by
    rw [h.cell (by subst hV; simp)]; subst hV; simp [go_sem]
  have g1 : ∀ W', Below V.heap.size V W' → W'.cell? ⟨w'.heap.size, 1, none⟩ = some (.int .i64 (by' - ay)) := fun W' h => by
    rw [h.cell (by subst hV; simp)]; subst hV; simp [go_sem]
  clear hV hl
  have HVW : Hid (∀ W', Below V.heap.size V W' → Below W.heap.size W W') := fun W' h => bl_then hWV h
  replace c00 := fun W' h => c00 W' (HVW.out W' h)
  replace c01 := fun W' h => c01 W' (HVW.out W' h)
  replace c10 := fun W' h => c10 W' (HVW.out W' h)
  replace c11 := fun W' h => c11 W' (HVW.out W' h)
  replace c20 := fun W' h => c20 W' (HVW.out W' h)
  replace c21 := fun W' h => c21 W' (HVW.out W' h)
  have HBV : Hid (Below w.heap.size w V) := bl_then HB0.out hWV
  clear hr hb hbn hWV
  go_region_held3 (fun W' => Below V.heap.size V W') ((repeat (first | exact Below.refl _ _ | assumption | refine Below.drew ?_ | refine bl_alloc ?_ _ | refine bl_then ?_ (by assumption) | refine Below.setCell ?_ (by first | omega | (simp; done) | (simp; omega)) _ | refine bl_store ?_ ?_ _ _)))
    (first
      | (go_at_call 168; refine (wayOf_any _ _ _ _ _ HA.out HP.out).mono ?_; rintro e w1 ⟨rfl, hb⟩)
      | (go_at_call 169; refine (dotOf_any _ _ _ _ _ (way_df HA.out HB.out) (way_df HA.out HP.out)).mono ?_; rintro e w1 ⟨rfl, hb⟩)
      | (go_at_call 167; refine (squareOf_any _ _ _ (way_df HA.out HB.out)).mono ?_; rintro e w1 ⟨rfl, hb⟩))
  go_wp2_with (first
    | (go_at_call 168; refine (wayOf_any _ _ _ _ _ (by first | exact HA.out | exact HB.out) (by exact HP.out)).mono ?_; rintro e w2 ⟨rfl, hbz⟩; have hbn : Below V.heap.size V w2 := (by (repeat (first | exact Below.refl _ _ | assumption | refine Below.drew ?_ | refine bl_alloc ?_ _ | refine bl_then ?_ (by assumption) | refine Below.setCell ?_ (by first | omega | (simp; done) | (simp; omega)) _ | refine bl_store ?_ ?_ _ _))))
    | (go_at_call 167; refine (squareOf_any _ _ _ (by first | exact way_df HA.out HP.out | exact way_df HB.out HP.out)).mono ?_; rintro e w2 ⟨rfl, hbz⟩; have hbn : Below V.heap.size V w2 := (by (repeat (first | exact Below.refl _ _ | assumption | refine Below.drew ?_ | refine bl_alloc ?_ _ | refine bl_then ?_ (by assumption) | refine Below.setCell ?_ (by first | omega | (simp; done) | (simp; omega)) _ | refine bl_store ?_ ?_ _ _)))))
  go_ret2
  exact ⟨rfl, by have HB1 := HBV.out; (repeat (first | exact Below.refl _ _ | assumption | refine Below.drew ?_ | refine bl_alloc ?_ _ | refine bl_then ?_ (by assumption) | refine Below.setCell ?_ (by first | omega | (simp; done) | (simp; omega)) _ | refine bl_store ?_ ?_ _ _))⟩

set_option maxHeartbeats 2000000 in
theorem gapOf_mid (px py ax ay bx by' : Int) (w : World) (hp : okP px py = true) (ha : okP ax ay = true) (hb : okP bx by' = true) (heq : ∀ w, (Op.equalIn 10000 188 (.agg #[.int .i64 ax, .int .i64 ay]) (.agg #[.int .i64 bx, .int .i64 by'])).run Tryz.prog w = .ok false w) (c1 : ¬ (bx - ax) * (px - ax) + (by' - ay) * (py - ay) ≤ 0) (c2 : ¬ (bx - ax) * (bx - ax) + (by' - ay) * (by' - ay) ≤ (bx - ax) * (px - ax) + (by' - ay) * (py - ay)) :
    Calls Tryz.prog 161 #[.agg #[.int .i64 px, .int .i64 py], .agg #[.int .i64 ax, .int .i64 ay], .agg #[.int .i64 bx, .int .i64 by']] w fun e w' => e = .returned (.tuple #[.int .i64 (crossI ax ay bx by' px py * crossI ax ay bx by' px py), .int .i64 ((bx - ax) * (bx - ax) + (by' - ay) * (by' - ay))]) ∧ Below w.heap.size w w' := by
  obtain ⟨x1, x2⟩ := cross_bd ha hb hp
  obtain ⟨x3, x4⟩ := mul_bd (a := crossI ax ay bx by' px py) (b := crossI ax ay bx by' px py) (B := 52428800) (C := 52428800) (by omega) (by omega) (by omega) (by omega) (by omega)
  have HP : Hid _ := hp
  have HA : Hid _ := ha
  have HB : Hid _ := hb
  clear hp ha hb
  go_enter Tryz.func161, Tryz.ntmps161
  go_wp2_with fail
  generalize hW : (((w.alloc _).alloc _).alloc _ : World) = W
  have hB0 : Below w.heap.size w W := by subst hW; (repeat (first | exact Below.refl _ _ | assumption | refine Below.drew ?_ | refine bl_alloc ?_ _ | refine bl_then ?_ (by assumption) | refine Below.setCell ?_ (by first | omega | (simp; done) | (simp; omega)) _ | refine bl_store ?_ ?_ _ _))
  have c00 : ∀ W', Below W.heap.size W W' → W'.cell? ⟨w.heap.size, 0, none⟩ = some (.int .i64 px) := fun W' h => by
    rw [h.cell (by subst hW; simp <;> omega)]; subst hW; simp [go_sem]
  have c01 : ∀ W', Below W.heap.size W W' → W'.cell? ⟨w.heap.size, 1, none⟩ = some (.int .i64 py) := fun W' h => by
    rw [h.cell (by subst hW; simp <;> omega)]; subst hW; simp [go_sem]
  have c10 : ∀ W', Below W.heap.size W W' → W'.cell? ⟨w.heap.size + 1, 0, none⟩ = some (.int .i64 ax) := fun W' h => by
    rw [h.cell (by subst hW; simp <;> omega)]; subst hW; simp [go_sem]
  have c11 : ∀ W', Below W.heap.size W W' → W'.cell? ⟨w.heap.size + 1, 1, none⟩ = some (.int .i64 ay) := fun W' h => by
    rw [h.cell (by subst hW; simp <;> omega)]; subst hW; simp [go_sem]
  have c20 : ∀ W', Below W.heap.size W W' → W'.cell? ⟨w.heap.size + 1 + 1, 0, none⟩ = some (.int .i64 bx) := fun W' h => by
    rw [h.cell (by subst hW; simp <;> omega)]; subst hW; simp [go_sem]
  have c21 : ∀ W', Below W.heap.size W W' → W'.cell? ⟨w.heap.size + 1 + 1, 1, none⟩ = some (.int .i64 by') := fun W' h => by
    rw [h.cell (by subst hW; simp <;> omega)]; subst hW; simp [go_sem]
  clear hW
  have HB0 : Hid (Below w.heap.size w W) := hB0
  clear hB0
  have hr : Below W.heap.size W W := Below.refl _ _
  go_wp2_with (first
    | (go_at_call 168; refine (wayOf_any _ _ _ _ _ (by first | exact HA.out | exact HB.out) (by first | exact HP.out | exact HB.out)).mono ?_; rintro e w' ⟨rfl, hb⟩; have hbn : Below W.heap.size W w' := (by (repeat (first | exact Below.refl _ _ | assumption | refine Below.drew ?_ | refine bl_alloc ?_ _ | refine bl_then ?_ (by assumption) | refine Below.setCell ?_ (by first | omega | (simp; done) | (simp; omega)) _ | refine bl_store ?_ ?_ _ _)))))
  have hl : w'.heap.size < w'.heap.size + 1 := by omega
  generalize hV : (w'.alloc _ : World) = V
  have hWV : Below W.heap.size W V := by subst hV; (repeat (first | exact Below.refl _ _ | assumption | refine Below.drew ?_ | refine bl_alloc ?_ _ | refine bl_then ?_ (by assumption) | refine Below.setCell ?_ (by first | omega | (simp; done) | (simp; omega)) _ | refine bl_store ?_ ?_ _ _))
  have g0 : ∀ W', Below V.heap.size V W' → W'.cell? ⟨w'.heap.size, 0, none⟩ = some (.int .i64 (bx - ax)) := fun W' h => by
    rw [h.cell (by subst hV; simp)]; subst hV; simp [go_sem]
  have g1 : ∀ W', Below V.heap.size V W' → W'.cell? ⟨w'.heap.size, 1, none⟩ = some (.int .i64 (by' - ay)) := fun W' h => by
    rw [h.cell (by subst hV; simp)]; subst hV; simp [go_sem]
  clear hV hl
  have HVW : Hid (∀ W', Below V.heap.size V W' → Below W.heap.size W W') := fun W' h => bl_then hWV h
  replace c00 := fun W' h => c00 W' (HVW.out W' h)
  replace c01 := fun W' h => c01 W' (HVW.out W' h)
  replace c10 := fun W' h => c10 W' (HVW.out W' h)
  replace c11 := fun W' h => c11 W' (HVW.out W' h)
  replace c20 := fun W' h => c20 W' (HVW.out W' h)
  replace c21 := fun W' h => c21 W' (HVW.out W' h)
  have HBV : Hid (Below w.heap.size w V) := bl_then HB0.out hWV
  clear hr hb hbn hWV
  go_region_held3 (fun W' => Below V.heap.size V W') ((repeat (first | exact Below.refl _ _ | assumption | refine Below.drew ?_ | refine bl_alloc ?_ _ | refine bl_then ?_ (by assumption) | refine Below.setCell ?_ (by first | omega | (simp; done) | (simp; omega)) _ | refine bl_store ?_ ?_ _ _)))
    (first
      | (go_at_call 168; refine (wayOf_any _ _ _ _ _ HA.out HP.out).mono ?_; rintro e w1 ⟨rfl, hb⟩)
      | (go_at_call 169; refine (dotOf_any _ _ _ _ _ (way_df HA.out HB.out) (way_df HA.out HP.out)).mono ?_; rintro e w1 ⟨rfl, hb⟩)
      | (go_at_call 167; refine (squareOf_any _ _ _ (way_df HA.out HB.out)).mono ?_; rintro e w1 ⟨rfl, hb⟩))
  go_wp2_with (first
    | (go_at_call 170; refine (turnOf_any _ _ _ _ _ _ _ HA.out HB.out HP.out).mono ?_; rintro e w2 ⟨rfl, hbz⟩; have hbn : Below V.heap.size V w2 := (by (repeat (first | exact Below.refl _ _ | assumption | refine Below.drew ?_ | refine bl_alloc ?_ _ | refine bl_then ?_ (by assumption) | refine Below.setCell ?_ (by first | omega | (simp; done) | (simp; omega)) _ | refine bl_store ?_ ?_ _ _)))))
  go_ret2
  exact ⟨rfl, by have HB1 := HBV.out; (repeat (first | exact Below.refl _ _ | assumption | refine Below.drew ?_ | refine bl_alloc ?_ _ | refine bl_then ?_ (by assumption) | refine Below.setCell ?_ (by first | omega | (simp; done) | (simp; omega)) _ | refine bl_store ?_ ?_ _ _))⟩

theorem gapOf_any (px py ax ay bx by' : Int) (w : World) (hp : okP px py = true) (ha : okP ax ay = true) (hb : okP bx by' = true) :
    Calls Tryz.prog 161 #[.agg #[.int .i64 px, .int .i64 py], .agg #[.int .i64 ax, .int .i64 ay], .agg #[.int .i64 bx, .int .i64 by']] w fun e w' => e = .returned (.tuple #[.int .i64 (overI px py ax ay bx by'), .int .i64 (underI px py ax ay bx by')]) ∧ Below w.heap.size w w' := by
  have heq := fun (w : World) => equalIn_pair 9998 ax ay bx by' w
  by_cases e1 : ax = bx ∧ ay = by'
  · obtain ⟨rfl, rfl⟩ := e1
    refine (gapOf_same px py ax ay ax ay w hp ha hb (fun w => by rw [heq w]; simp)).mono ?_
    rintro e w' ⟨rfl, h⟩
    exact ⟨ret_two (by rw [overI, along_same, if_pos (Int.le_refl 0), dist_comm]; rfl) (by rw [underI, along_same, if_pos (Int.le_refl 0)]), h⟩
  · have hf : ((ax == bx) && (ay == by')) = false := by
      by_cases q : ax = bx
      · have : ¬ ay = by' := fun h => e1 ⟨q, h⟩
        simp [q, this]
      · simp [q]
    by_cases c1 : (bx - ax) * (px - ax) + (by' - ay) * (py - ay) ≤ 0
    · refine (gapOf_low px py ax ay bx by' w hp ha hb (fun w => by rw [heq w, hf]) c1).mono ?_
      rintro e w' ⟨rfl, h⟩
      exact ⟨ret_two (by rw [overI, along_comm, if_pos c1, dist_comm]; rfl) (by rw [underI, along_comm, if_pos c1]), h⟩
    · by_cases c2 : (bx - ax) * (bx - ax) + (by' - ay) * (by' - ay) ≤ (bx - ax) * (px - ax) + (by' - ay) * (py - ay)
      · refine (gapOf_high px py ax ay bx by' w hp ha hb (fun w => by rw [heq w, hf]) c1 c2).mono ?_
        rintro e w' ⟨rfl, h⟩
        exact ⟨ret_two (by rw [overI, along_comm, if_neg c1, if_pos (by rw [← dist_def]; exact c2), dist_comm]; rfl) (by rw [underI, along_comm, if_neg c1, if_pos (by rw [← dist_def]; exact c2)]), h⟩
      · refine (gapOf_mid px py ax ay bx by' w hp ha hb (fun w => by rw [heq w, hf]) c1 c2).mono ?_
        rintro e w' ⟨rfl, h⟩
        exact ⟨ret_two (by rw [overI, along_comm, if_neg c1, if_neg (by rw [← dist_def]; exact c2)]) (by rw [underI, along_comm, if_neg c1, if_neg (by rw [← dist_def]; exact c2)]; rfl), h⟩
end Go.Proofs.YthadmnhpjklmiaaGreat
/- A segment is near its ends, the same both ways, and what is near is so of what is farther: plain facts. -/

namespace Go.Proofs.YthadmnhpjklmiaaGreat
open Go.RowKit

theorem dist_via (px py ax ay bx by' : Int) : distI px py bx by' = distI px py ax ay - 2 * alongI px py ax ay bx by' + distI ax ay bx by' := by
  unfold distI alongI; grind
theorem along_other (px py ax ay bx by' : Int) : alongI px py bx by' ax ay = distI ax ay bx by' - alongI px py ax ay bx by' := by
  unfold distI alongI; grind
theorem cross_other (px py ax ay bx by' : Int) : crossI bx by' ax ay px py * crossI bx by' ax ay px py = crossI ax ay bx by' px py * crossI ax ay bx by' px py := by
  unfold crossI; grind
theorem lagrange (px py ax ay bx by' : Int) : crossI ax ay bx by' px py * crossI ax ay bx by' px py + alongI px py ax ay bx by' * alongI px py ax ay bx by' = distI ax ay bx by' * distI px py ax ay := by
  unfold crossI alongI distI; grind
theorem dist_nonneg (ax ay bx by' : Int) : 0 ≤ distI ax ay bx by' := by
  have s1 := sq_nonneg (bx - ax)
  have s2 := sq_nonneg (by' - ay)
  unfold distI; omega
theorem dist_eq_zero {ax ay bx by' : Int} (h : distI ax ay bx by' = 0) : ax = bx ∧ ay = by' := by
  have s1 := sq_nonneg (bx - ax)
  have s2 := sq_nonneg (by' - ay)
  unfold distI at h
  have h1 : (bx - ax) * (bx - ax) = 0 := by omega
  have h2 : (by' - ay) * (by' - ay) = 0 := by omega
  have := Int.mul_eq_zero.1 h1
  have := Int.mul_eq_zero.1 h2
  omega
theorem under_nonneg (px py ax ay bx by' : Int) : 0 ≤ underI px py ax ay bx by' := by
  have := dist_nonneg ax ay bx by'
  unfold underI
  split
  · omega
  · split <;> omega

theorem near_swap (px py ax ay bx by' r : Int) : nearB px py bx by' ax ay r = nearB px py ax ay bx by' r := by
  have hs := dist_nonneg ax ay bx by'
  have ha := along_other px py ax ay bx by'
  have hd := dist_comm bx by' ax ay
  have hc := cross_other px py ax ay bx by'
  unfold nearB overI underI
  by_cases c1 : alongI px py ax ay bx by' ≤ 0
  · by_cases c2 : distI ax ay bx by' ≤ alongI px py ax ay bx by'
    · obtain ⟨rfl, rfl⟩ := dist_eq_zero (show distI ax ay bx by' = 0 by omega)
      rfl
    · have k1 : ¬ alongI px py bx by' ax ay ≤ 0 := by omega
      have k2 : distI bx by' ax ay ≤ alongI px py bx by' ax ay := by omega
      simp only [c1, k1, k2, if_true, if_false]
  · by_cases c2 : distI ax ay bx by' ≤ alongI px py ax ay bx by'
    · have k1 : alongI px py bx by' ax ay ≤ 0 := by omega
      simp only [c1, c2, k1, if_true, if_false]
    · have k1 : ¬ alongI px py bx by' ax ay ≤ 0 := by omega
      have k2 : ¬ distI bx by' ax ay ≤ alongI px py bx by' ax ay := by omega
      simp only [c1, c2, k1, k2, if_false]
      rw [hc, hd]
theorem isNear_swap (px py ax ay bx by' r : Int) : isNearB px py bx by' ax ay r = isNearB px py ax ay bx by' r := by
  unfold isNearB
  rw [near_swap]
  cases okP px py <;> cases okP ax ay <;> cases okP bx by' <;> rfl

theorem near_first (ax ay bx by' r : Int) : nearB ax ay ax ay bx by' r = true := by
  have h1 : alongI ax ay ax ay bx by' = 0 := by unfold alongI; simp
  have h2 : distI ax ay ax ay = 0 := by unfold distI; simp
  have := sq_nonneg r
  simp [nearB, overI, underI, h1, h2, this]
theorem near_last (ax ay bx by' r : Int) : nearB bx by' ax ay bx by' r = true := by
  rw [← near_swap]; exact near_first bx by' ax ay r
theorem near_more {px py ax ay bx by' r : Int} (h0 : 0 ≤ r) (h : nearB px py ax ay bx by' r = true) : nearB px py ax ay bx by' (r + 1) = true := by
  have hu := under_nonneg px py ax ay bx by'
  have h1 := of_decide_eq_true h
  apply decide_eq_true
  have h2 : r * r ≤ (r + 1) * (r + 1) := by
    have : (r + 1) * (r + 1) = r * r + 2 * r + 1 := by grind
    omega
  exact Int.le_trans h1 (Int.mul_le_mul_of_nonneg_right h2 hu)
theorem near_dist {px py ax ay bx by' r : Int} (h : distI px py ax ay ≤ r * r) : nearB px py ax ay bx by' r = true := by
  have hs := dist_nonneg ax ay bx by'
  have hv := dist_via px py ax ay bx by'
  have hl := lagrange px py ax ay bx by'
  have hq := sq_nonneg (alongI px py ax ay bx by')
  apply decide_eq_true
  unfold overI underI
  by_cases c1 : alongI px py ax ay bx by' ≤ 0
  · simp only [c1, if_true]; omega
  · by_cases c2 : distI ax ay bx by' ≤ alongI px py ax ay bx by'
    · simp only [c1, c2, if_true, if_false]; omega
    · simp only [c1, c2, if_false]
      have h3 : distI ax ay bx by' * distI px py ax ay ≤ distI ax ay bx by' * (r * r) := Int.mul_le_mul_of_nonneg_left h hs
      rw [Int.mul_comm (r * r)]
      omega
end Go.Proofs.YthadmnhpjklmiaaGreat
