/- gapOf answers the square of the distance of a point and a segment, as a fraction. -/
import Derived.Test.YtdohlnnbibnnbaaGreatVPlaceLabels16
namespace Go.Proofs.YtdohlnnbibnnbaaGreat
open Go.RowKit
set_option linter.unusedSimpArgs false
set_option linter.unusedVariables false

theorem dist_comm (ax ay bx by' : Int) : distI ax ay bx by' = distI bx by' ax ay := by
  unfold distI
  rw [← Int.neg_sub bx ax, ← Int.neg_sub by' ay, Int.neg_mul_neg, Int.neg_mul_neg]
theorem along_comm (px py ax ay bx by' : Int) : alongI px py ax ay bx by' = (bx - ax) * (px - ax) + (by' - ay) * (py - ay) := by
  unfold alongI
  rw [Int.mul_comm (px - ax), Int.mul_comm (py - ay)]
theorem along_same (px py ax ay : Int) : alongI px py ax ay ax ay = 0 := by simp [alongI]
/-- The value of a sum of squares is the distance. -/
theorem dist_def (ax ay bx by' : Int) : (bx - ax) * (bx - ax) + (by' - ay) * (by' - ay) = distI ax ay bx by' := rfl
theorem ret_two {a b c d : Int} (h : a = b) (k : c = d) : Ending.returned (.tuple #[.int .i64 a, .int .i64 c]) = .returned (.tuple #[.int .i64 b, .int .i64 d]) := by rw [h, k]

set_option maxHeartbeats 2000000 in
theorem gapOf_same (px py ax ay bx by' : Int) (w : World) (hp : okP px py = true) (ha : okP ax ay = true) (hb : okP bx by' = true) (heq : ∀ w, (Op.equalIn 10000 188 (.agg #[.int .i64 ax, .int .i64 ay]) (.agg #[.int .i64 bx, .int .i64 by'])).run Tryz.prog w = .ok true w) :
    Calls Tryz.prog 151 #[.agg #[.int .i64 px, .int .i64 py], .agg #[.int .i64 ax, .int .i64 ay], .agg #[.int .i64 bx, .int .i64 by']] w fun e w' => e = .returned (.tuple #[.int .i64 ((px - ax) * (px - ax) + (py - ay) * (py - ay)), .int .i64 (1)]) ∧ Below w.heap.size w w' := by
  have HP : Hid _ := hp
  have HA : Hid _ := ha
  have HB : Hid _ := hb
  clear hp ha hb
  go_enter Tryz.func151, Tryz.ntmps151
  go_wp2_with fail
  generalize hW : (((w.alloc _).alloc _).alloc _ : World) = W
  have hB0 : Below w.heap.size w W := by subst hW; (repeat (first | exact Below.refl _ _ | assumption | refine Below.drew ?_ | refine bl_alloc ?_ _ | refine bl_then ?_ (by assumption) | refine Below.setCell ?_ (by first | omega | (simp; done) | (simp; omega)) _ | refine bl_store ?_ ?_ _ _))
  have c00 : ∀ W', Below W.heap.size W W' → W'.cell? ⟨w.heap.size, 0, none⟩ = some (.int .i64 px) := fun W' h => by
    rw [h.cell (by subst hW; simp <;> omega)]; subst hW; simp [go_sem]
  have c01 : ∀ W', Below W.heap.size W W' → W'.cell? ⟨w.heap.size, 1, none⟩ = some (.int .i64 py) := fun W' h => by
    rw [h.cell (by subst hW; simp <;> omega)]; subst hW; simp [go_sem]
  have c10 : ∀ W', Below W.heap.size W W' → W'.cell? ⟨w.heap.size + 1, 0, none⟩ = some (.int .i64 ax) := fun W' h => by
    rw [h.cell (by subst hW; simp <;> omega)]; subst hW; simp [go_sem]
  have c11 : ∀ W', Below W.heap.size W W' → W'.cell? ⟨w.heap.size + 1, 1, none⟩ = some (.int .i64 ay) := fun W' h => by
    rw [h.cell (by subst hW; simp <;> omega)]; subst hW; simp [go_sem]
  have c20 : ∀ W', Below W.heap.size W W' → W'.cell? ⟨w.heap.size + 1 + 1, 0, none⟩ = some (.int .i64 bx) := fun W' h => by
    rw [h.cell (by subst hW; simp <;> omega)]; subst hW; simp [go_sem]
  have c21 : ∀ W', Below W.heap.size W W' → W'.cell? ⟨w.heap.size + 1 + 1, 1, none⟩ = some (.int .i64 by') := fun W' h => by
    rw [h.cell (by subst hW; simp <;> omega)]; subst hW; simp [go_sem]
  clear hW
  have HB0 : Hid (Below w.heap.size w W) := hB0
  clear hB0
  have hr : Below W.heap.size W W := Below.refl _ _
  go_wp2_with (first
    | (go_at_call 162; refine (wayOf_any _ _ _ _ _ (by first | exact HA.out | exact HB.out) (by first | exact HP.out | exact HB.out)).mono ?_; rintro e w' ⟨rfl, hb⟩; have hbn : Below W.heap.size W w' := (by (repeat (first | exact Below.refl _ _ | assumption | refine Below.drew ?_ | refine bl_alloc ?_ _ | refine bl_then ?_ (by assumption) | refine Below.setCell ?_ (by first | omega | (simp; done) | (simp; omega)) _ | refine bl_store ?_ ?_ _ _))))
    | (go_at_call 161; refine (squareOf_any _ _ _ (by first | exact way_df HA.out HP.out | exact way_df HB.out HP.out | exact way_df HA.out HB.out)).mono ?_; rintro e w' ⟨rfl, hb⟩; have hbn : Below W.heap.size W w' := (by (repeat (first | exact Below.refl _ _ | assumption | refine Below.drew ?_ | refine bl_alloc ?_ _ | refine bl_then ?_ (by assumption) | refine Below.setCell ?_ (by first | omega | (simp; done) | (simp; omega)) _ | refine bl_store ?_ ?_ _ _)))))
  go_ret2
  exact ⟨rfl, by have HB1 := HB0.out; (repeat (first | exact Below.refl _ _ | assumption | refine Below.drew ?_ | refine bl_alloc ?_ _ | refine bl_then ?_ (by assumption) | refine Below.setCell ?_ (by first | omega | (simp; done) | (simp; omega)) _ | refine bl_store ?_ ?_ _ _))⟩

set_option maxHeartbeats 2000000 in
theorem gapOf_low (px py ax ay bx by' : Int) (w : World) (hp : okP px py = true) (ha : okP ax ay = true) (hb : okP bx by' = true) (heq : ∀ w, (Op.equalIn 10000 188 (.agg #[.int .i64 ax, .int .i64 ay]) (.agg #[.int .i64 bx, .int .i64 by'])).run Tryz.prog w = .ok false w) (c1 : (bx - ax) * (px - ax) + (by' - ay) * (py - ay) ≤ 0) :
    Calls Tryz.prog 151 #[.agg #[.int .i64 px, .int .i64 py], .agg #[.int .i64 ax, .int .i64 ay], .agg #[.int .i64 bx, .int .i64 by']] w fun e w' => e = .returned (.tuple #[.int .i64 ((px - ax) * (px - ax) + (py - ay) * (py - ay)), .int .i64 (1)]) ∧ Below w.heap.size w w' := by
  have HP : Hid _ := hp
  have HA : Hid _ := ha
  have HB : Hid _ := hb
  clear hp ha hb
  go_enter Tryz.func151, Tryz.ntmps151
  go_wp2_with fail
  generalize hW : (((w.alloc _).alloc _).alloc _ : World) = W
  have hB0 : Below w.heap.size w W := by subst hW; (repeat (first | exact Below.refl _ _ | assumption | refine Below.drew ?_ | refine bl_alloc ?_ _ | refine bl_then ?_ (by assumption) | refine Below.setCell ?_ (by first | omega | (simp; done) | (simp; omega)) _ | refine bl_store ?_ ?_ _ _))
  have c00 : ∀ W', Below W.heap.size W W' → W'.cell? ⟨w.heap.size, 0, none⟩ = some (.int .i64 px) := fun W' h => by
    rw [h.cell (by subst hW; simp <;> omega)]; subst hW; simp [go_sem]
  have c01 : ∀ W', Below W.heap.size W W' → W'.cell? ⟨w.heap.size, 1, none⟩ = some (.int .i64 py) := fun W' h => by
    rw [h.cell (by subst hW; simp <;> omega)]; subst hW; simp [go_sem]
  have c10 : ∀ W', Below W.heap.size W W' → W'.cell? ⟨w.heap.size + 1, 0, none⟩ = some (.int .i64 ax) := fun W' h => by
    rw [h.cell (by subst hW; simp <;> omega)]; subst hW; simp [go_sem]
  have c11 : ∀ W', Below W.heap.size W W' → W'.cell? ⟨w.heap.size + 1, 1, none⟩ = some (.int .i64 ay) := fun W' h => by
    rw [h.cell (by subst hW; simp <;> omega)]; subst hW; simp [go_sem]
  have c20 : ∀ W', Below W.heap.size W W' → W'.cell? ⟨w.heap.size + 1 + 1, 0, none⟩ = some (.int .i64 bx) := fun W' h => by
    rw [h.cell (by subst hW; simp <;> omega)]; subst hW; simp [go_sem]
  have c21 : ∀ W', Below W.heap.size W W' → W'.cell? ⟨w.heap.size + 1 + 1, 1, none⟩ = some (.int .i64 by') := fun W' h => by
    rw [h.cell (by subst hW; simp <;> omega)]; subst hW; simp [go_sem]
  clear hW
  have HB0 : Hid (Below w.heap.size w W) := hB0
  clear hB0
  have hr : Below W.heap.size W W := Below.refl _ _
  go_wp2_with (first
    | (go_at_call 162; refine (wayOf_any _ _ _ _ _ (by first | exact HA.out | exact HB.out) (by first | exact HP.out | exact HB.out)).mono ?_; rintro e w' ⟨rfl, hb⟩; have hbn : Below W.heap.size W w' := (by (repeat (first | exact Below.refl _ _ | assumption | refine Below.drew ?_ | refine bl_alloc ?_ _ | refine bl_then ?_ (by assumption) | refine Below.setCell ?_ (by first | omega | (simp; done) | (simp; omega)) _ | refine bl_store ?_ ?_ _ _)))))
  have hl : w'.heap.size < w'.heap.size + 1 := by omega
  generalize hV : (w'.alloc _ : World) = V
  have hWV : Below W.heap.size W V := by subst hV; (repeat (first | exact Below.refl _ _ | assumption | refine Below.drew ?_ | refine bl_alloc ?_ _ | refine bl_then ?_ (by assumption) | refine Below.setCell ?_ (by first | omega | (simp; done) | (simp; omega)) _ | refine bl_store ?_ ?_ _ _))
  have g0 : ∀ W', Below V.heap.size V W' → W'.cell? ⟨w'.heap.size, 0, none⟩ = some (.int .i64 (bx - ax)) := fun W' h => by
    rw [h.cell (by subst hV; simp)]; subst hV; simp [go_sem]
  have g1 : ∀ W', Below V.heap.size V W' → W'.cell? ⟨w'.heap.size, 1, none⟩ = some (.int .i64 (by' - ay)) := fun W' h => by
    rw [h.cell (by subst hV; simp)]; subst hV; simp [go_sem]
  clear hV hl
  have HVW : Hid (∀ W', Below V.heap.size V W' → Below W.heap.size W W') := fun W' h => bl_then hWV h
  replace c00 := fun W' h => c00 W' (HVW.out W' h)
  replace c01 := fun W' h => c01 W' (HVW.out W' h)
  replace c10 := fun W' h => c10 W' (HVW.out W' h)
  replace c11 := fun W' h => c11 W' (HVW.out W' h)
  replace c20 := fun W' h => c20 W' (HVW.out W' h)
  replace c21 := fun W' h => c21 W' (HVW.out W' h)
  have HBV : Hid (Below w.heap.size w V) := bl_then HB0.out hWV
  clear hr hb hbn hWV
  go_region_held3 (fun W' => Below V.heap.size V W') ((repeat (first | exact Below.refl _ _ | assumption | refine Below.drew ?_ | refine bl_alloc ?_ _ | refine bl_then ?_ (by assumption) | refine Below.setCell ?_ (by first | omega | (simp; done) | (simp; omega)) _ | refine bl_store ?_ ?_ _ _)))
    (first
      | (go_at_call 162; refine (wayOf_any _ _ _ _ _ HA.out HP.out).mono ?_; rintro e w1 ⟨rfl, hb⟩)
      | (go_at_call 163; refine (dotOf_any _ _ _ _ _ (way_df HA.out HB.out) (way_df HA.out HP.out)).mono ?_; rintro e w1 ⟨rfl, hb⟩)
      | (go_at_call 161; refine (squareOf_any _ _ _ (way_df HA.out HB.out)).mono ?_; rintro e w1 ⟨rfl, hb⟩))
  go_wp2_with (first
    | (go_at_call 162; refine (wayOf_any _ _ _ _ _ (by first | exact HA.out | exact HB.out) (by exact HP.out)).mono ?_; rintro e w2 ⟨rfl, hbz⟩; have hbn : Below V.heap.size V w2 := (by (repeat (first | exact Below.refl _ _ | assumption | refine Below.drew ?_ | refine bl_alloc ?_ _ | refine bl_then ?_ (by assumption) | refine Below.setCell ?_ (by first | omega | (simp; done) | (simp; omega)) _ | refine bl_store ?_ ?_ _ _))))
    | (go_at_call 161; refine (squareOf_any _ _ _ (by first | exact way_df HA.out HP.out | exact way_df HB.out HP.out)).mono ?_; rintro e w2 ⟨rfl, hbz⟩; have hbn : Below V.heap.size V w2 := (by (repeat (first | exact Below.refl _ _ | assumption | refine Below.drew ?_ | refine bl_alloc ?_ _ | refine bl_then ?_ (by assumption) | refine Below.setCell ?_ (by first | omega | (simp; done) | (simp; omega)) _ | refine bl_store ?_ ?_ _ _)))))
  go_ret2
  exact ⟨rfl, by have HB1 := HBV.out; (repeat (first | exact Below.refl _ _ | assumption | refine Below.drew ?_ | refine bl_alloc ?_ _ | refine bl_then ?_ (by assumption) | refine Below.setCell ?_ (by first | omega | (simp; done) | (simp; omega)) _ | refine bl_store ?_ ?_ _ _))⟩

set_option maxHeartbeats 2000000 in
theorem gapOf_high (px py ax ay bx by' : Int) (w : World) (hp : okP px py = true) (ha : okP ax ay = true) (hb : okP bx by' = true) (heq : ∀ w, (Op.equalIn 10000 188 (.agg #[.int .i64 ax, .int .i64 ay]) (.agg #[.int .i64 bx, .int .i64 by'])).run Tryz.prog w = .ok false w) (c1 : ¬ (bx - ax) * (px - ax) + (by' - ay) * (py - ay) ≤ 0) (c2 : (bx - ax) * (bx - ax) + (by' - ay) * (by' - ay) ≤ (bx - ax) * (px - ax) + (by' - ay) * (py - ay)) :
    Calls Tryz.prog 151 #[.agg #[.int .i64 px, .int .i64 py], .agg #[.int .i64 ax, .int .i64 ay], .agg #[.int .i64 bx, .int .i64 by']] w fun e w' => e = .returned (.tuple #[.int .i64 ((px - bx) * (px - bx) + (py - by') * (py - by')), .int .i64 (1)]) ∧ Below w.heap.size w w' := by
  have HP : Hid _ := hp
  have HA : Hid _ := ha
  have HB : Hid _ := hb
  clear hp ha hb
  go_enter Tryz.func151, Tryz.ntmps151
  go_wp2_with fail
  generalize hW : (((w.alloc _).alloc _).alloc _ : World) = W
  have hB0 : Below w.heap.size w W := by subst hW; (repeat (first | exact Below.refl _ _ | assumption | refine Below.drew ?_ | refine bl_alloc ?_ _ | refine bl_then ?_ (by assumption) | refine Below.setCell ?_ (by first | omega | (simp; done) | (simp; omega)) _ | refine bl_store ?_ ?_ _ _))
  have c00 : ∀ W', Below W.heap.size W W' → W'.cell? ⟨w.heap.size, 0, none⟩ = some (.int .i64 px) := fun W' h => by
    rw [h.cell (by subst hW; simp <;> omega)]; subst hW; simp [go_sem]
  have c01 : ∀ W', Below W.heap.size W W' → W'.cell? ⟨w.heap.size, 1, none⟩ = some (.int .i64 py) := fun W' h => by
    rw [h.cell (by subst hW; simp <;> omega)]; subst hW; simp [go_sem]
  have c10 : ∀ W', Below W.heap.size W W' → W'.cell? ⟨w.heap.size + 1, 0, none⟩ = some (.int .i64 ax) := fun W' h => by
    rw [h.cell (by subst hW; simp <;> omega)]; subst hW; simp [go_sem]
  have c11 : ∀ W', Below W.heap.size W W' → W'.cell? ⟨w.heap.size + 1, 1, none⟩ = some (.int .i64 ay) := fun W' h => by
    rw [h.cell (by subst hW; simp <;> omega)]; subst hW; simp [go_sem]
  have c20 : ∀ W', Below W.heap.size W W' → W'.cell? ⟨w.heap.size + 1 + 1, 0, none⟩ = some (.int .i64 bx) := fun W' h => by
    rw [h.cell (by subst hW; simp <;> omega)]; subst hW; simp [go_sem]
  have c21 : ∀ W', Below W.heap.size W W' → W'.cell? ⟨w.heap.size + 1 + 1, 1, none⟩ = some (.int .i64 by') := fun W' h => by
    rw [h.cell (by subst hW; simp <;> omega)]; subst hW; simp [go_sem]
  clear hW
  have HB0 : Hid (Below w.heap.size w W) := hB0
  clear hB0
  have hr : Below W.heap.size W W := Below.refl _ _
  go_wp2_with (first
    | (go_at_call 162; refine (wayOf_any _ _ _ _ _ (by first | exact HA.out | exact HB.out) (by first | exact HP.out | exact HB.out)).mono ?_; rintro e w' ⟨rfl, hb⟩; have hbn : Below W.heap.size W w' := (by (repeat (first | exact Below.refl _ _ | assumption | refine Below.drew ?_ | refine bl_alloc ?_ _ | refine bl_then ?_ (by assumption) | refine Below.setCell ?_ (by first | omega | (simp; done) | (simp; omega)) _ | refine bl_store ?_ ?_ _ _)))))
  have hl : w'.heap.size < w'.heap.size + 1 := by omega
  generalize hV : (w'.alloc _ : World) = V
  have hWV : Below W.heap.size W V := by subst hV; (repeat (first | exact Below.refl _ _ | assumption | refine Below.drew ?_ | refine bl_alloc ?_ _ | refine bl_then ?_ (by assumption) | refine Below.setCell ?_ (by first | omega | (simp; done) | (simp; omega)) _ | refine bl_store ?_ ?_ _ _))
  have g0 : ∀ W', Below V.heap.size V W' → W'.cell? ⟨w'.heap.size, 0, none⟩ = some (.int .i64 (bx - ax)) := fun W' h => by
    rw [h.cell (by subst hV; simp)]; subst hV; simp [go_sem]
  have g1 : ∀ W', Below V.heap.size V W' → W'.cell? ⟨w'.heap.size, 1, none⟩ = some (.int .i64 (by' - ay)) := fun W' h => by
    rw [h.cell (by subst hV; simp)]; subst hV; simp [go_sem]
  clear hV hl
  have HVW : Hid (∀ W', Below V.heap.size V W' → Below W.heap.size W W') := fun W' h => bl_then hWV h
  replace c00 := fun W' h => c00 W' (HVW.out W' h)
  replace c01 := fun W' h => c01 W' (HVW.out W' h)
  replace c10 := fun W' h => c10 W' (HVW.out W' h)
  replace c11 := fun W' h => c11 W' (HVW.out W' h)
  replace c20 := fun W' h => c20 W' (HVW.out W' h)
  replace c21 := fun W' h => c21 W' (HVW.out W' h)
  have HBV : Hid (Below w.heap.size w V) := bl_then HB0.out hWV
  clear hr hb hbn hWV
  go_region_held3 (fun W' => Below V.heap.size V W') ((repeat (first | exact Below.refl _ _ | assumption | refine Below.drew ?_ | refine bl_alloc ?_ _ | refine bl_then ?_ (by assumption) | refine Below.setCell ?_ (by first | omega | (simp; done) | (simp; omega)) _ | refine bl_store ?_ ?_ _ _)))
    (first
      | (go_at_call 162; refine (wayOf_any _ _ _ _ _ HA.out HP.out).mono ?_; rintro e w1 ⟨rfl, hb⟩)
      | (go_at_call 163; refine (dotOf_any _ _ _ _ _ (way_df HA.out HB.out) (way_df HA.out HP.out)).mono ?_; rintro e w1 ⟨rfl, hb⟩)
      | (go_at_call 161; refine (squareOf_any _ _ _ (way_df HA.out HB.out)).mono ?_; rintro e w1 ⟨rfl, hb⟩))
  go_wp2_with (first
    | (go_at_call 162; refine (wayOf_any _ _ _ _ _ (by first | exact HA.out | exact HB.out) (by exact HP.out)).mono ?_; rintro e w2 ⟨rfl, hbz⟩; have hbn : Below V.heap.size V w2 := (by (repeat (first | exact Below.refl _ _ | assumption | refine Below.drew ?_ | refine bl_alloc ?_ _ | refine bl_then ?_ (by assumption) | refine Below.setCell ?_ (by first | omega | (simp; done) | (simp; omega)) _ | refine bl_store ?_ ?_ _ _))))
    | (go_at_call 161; refine (squareOf_any _ _ _ (by first | exact way_df HA.out HP.out | exact way_df HB.out HP.out)).mono ?_; rintro e w2 ⟨rfl, hbz⟩; have hbn : Below V.heap.size V w2 := (by (repeat (first | exact Below.refl _ _ | assumption | refine Below.drew ?_ | refine bl_alloc ?_ _ | refine bl_then ?_ (by assumption) | refine Below.setCell ?_ (by first | omega | (simp; done) | (simp; omega)) _ | refine bl_store ?_ ?_ _ _)))))
  go_ret2
  exact ⟨rfl, by have HB1 := HBV.out; (repeat (first | exact Below.refl _ _ | assumption | refine Below.drew ?_ | refine bl_alloc ?_ _ | refine bl_then ?_ (by assumption) | refine Below.setCell ?_ (by first | omega | (simp; done) | (simp; omega)) _ | refine bl_store ?_ ?_ _ _))⟩

set_option maxHeartbeats 2000000 in
theorem gapOf_mid (px py ax ay bx by' : Int) (w : World) (hp : okP px py = true) (ha : okP ax ay = true) (hb : okP bx by' = true) (heq : ∀ w, (Op.equalIn 10000 188 (.agg #[.int .i64 ax, .int .i64 ay]) (.agg #[.int .i64 bx, .int .i64 by'])).run Tryz.prog w = .ok false w) (c1 : ¬ (bx - ax) * (px - ax) + (by' - ay) * (py - ay) ≤ 0) (c2 : ¬ (bx - ax) * (bx - ax) + (by' - ay) * (by' - ay) ≤ (bx - ax) * (px - ax) + (by' - ay) * (py - ay)) :
    Calls Tryz.prog 151 #[.agg #[.int .i64 px, .int .i64 py], .agg #[.int .i64 ax, .int .i64 ay], .agg #[.int .i64 bx, .int .i64 by']] w fun e w' => e = .returned (.tuple #[.int .i64 (crossI ax ay bx by' px py * crossI ax ay bx by' px py), .int .i64 ((bx - ax) * (bx - ax) + (by' - ay) * (by' - ay))]) ∧ Below w.heap.size w w' := by
  obtain ⟨x1, x2⟩ := cross_bd ha hb hp
  obtain ⟨x3, x4⟩ := mul_bd (a := crossI ax ay bx by' px py) (b := crossI ax ay bx by' px py) (B := 52428800) (C := 52428800) (by omega) (by omega) (by omega) (by omega) (by omega)
  have HP : Hid _ := hp
  have HA : Hid _ := ha
  have HB : Hid _ := hb
  clear hp ha hb
  go_enter Tryz.func151, Tryz.ntmps151
  go_wp2_with fail
  generalize hW : (((w.alloc _).alloc _).alloc _ : World) = W
  have hB0 : Below w.heap.size w W := by subst hW; (repeat (first | exact Below.refl _ _ | assumption | refine Below.drew ?_ | refine bl_alloc ?_ _ | refine bl_then ?_ (by assumption) | refine Below.setCell ?_ (by first | omega | (simp; done) | (simp; omega)) _ | refine bl_store ?_ ?_ _ _))
  have c00 : ∀ W', Below W.heap.size W W' → W'.cell? ⟨w.heap.size, 0, none⟩ = some (.int .i64 px) := fun W' h => by
    rw [h.cell (by subst hW; simp <;> omega)]; subst hW; simp [go_sem]
  have c01 : ∀ W', Below W.heap.size W W' → W'.cell? ⟨w.heap.size, 1, none⟩ = some (.int .i64 py) := fun W' h => by
    rw [h.cell (by subst hW; simp <;> omega)]; subst hW; simp [go_sem]
  have c10 : ∀ W', Below W.heap.size W W' → W'.cell? ⟨w.heap.size + 1, 0, none⟩ = some (.int .i64 ax) := fun W' h => by
    rw [h.cell (by subst hW; simp <;> omega)]; subst hW; simp [go_sem]
  have c11 : ∀ W', Below W.heap.size W W' → W'.cell? ⟨w.heap.size + 1, 1, none⟩ = some (.int .i64 ay) := fun W' h => by
    rw [h.cell (by subst hW; simp <;> omega)]; subst hW; simp [go_sem]
  have c20 : ∀ W', Below W.heap.size W W' → W'.cell? ⟨w.heap.size + 1 + 1, 0, none⟩ = some (.int .i64 bx) := fun W' h => by
    rw [h.cell (by subst hW; simp <;> omega)]; subst hW; simp [go_sem]
  have c21 : ∀ W', Below W.heap.size W W' → W'.cell? ⟨w.heap.size + 1 + 1, 1, none⟩ = some (.int .i64 by') := fun W' h => by
    rw [h.cell (by subst hW; simp <;> omega)]; subst hW; simp [go_sem]
  clear hW
  have HB0 : Hid (Below w.heap.size w W) := hB0
  clear hB0
  have hr : Below W.heap.size W W := Below.refl _ _
  go_wp2_with (first
    | (go_at_call 162; refine (wayOf_any _ _ _ _ _ (by first | exact HA.out | exact HB.out) (by first | exact HP.out | exact HB.out)).mono ?_; rintro e w' ⟨rfl, hb⟩; have hbn : Below W.heap.size W w' := (by (repeat (first | exact Below.refl _ _ | assumption | refine Below.drew ?_ | refine bl_alloc ?_ _ | refine bl_then ?_ (by assumption) | refine Below.setCell ?_ (by first | omega | (simp; done) | (simp; omega)) _ | refine bl_store ?_ ?_ _ _)))))
  have hl : w'.heap.size < w'.heap.size + 1 := by omega
  generalize hV : (w'.alloc _ : World) = V
  have hWV : Below W.heap.size W V := by subst hV; (repeat (first | exact Below.refl _ _ | assumption | refine Below.drew ?_ | refine bl_alloc ?_ _ | refine bl_then ?_ (by assumption) | refine Below.setCell ?_ (by first | omega | (simp; done) | (simp; omega)) _ | refine bl_store ?_ ?_ _ _))
  have g0 : ∀ W', Below V.heap.size V W' → W'.cell? ⟨w'.heap.size, 0, none⟩ = some (.int .i64 (bx - ax)) := fun W' h => by
    rw [h.cell (by subst hV; simp)]; subst hV; simp [go_sem]
  have g1 : ∀ W', Below V.heap.size V W' → W'.cell? ⟨w'.heap.size, 1, none⟩ = some (.int .i64 (by' - ay)) := fun W' h => by
    rw [h.cell (by subst hV; simp)]; subst hV; simp [go_sem]
  clear hV hl
  have HVW : Hid (∀ W', Below V.heap.size V W' → Below W.heap.size W W') := fun W' h => bl_then hWV h
  replace c00 := fun W' h => c00 W' (HVW.out W' h)
  replace c01 := fun W' h => c01 W' (HVW.out W' h)
  replace c10 := fun W' h => c10 W' (HVW.out W' h)
  replace c11 := fun W' h => c11 W' (HVW.out W' h)
  replace c20 := fun W' h => c20 W' (HVW.out W' h)
  replace c21 := fun W' h => c21 W' (HVW.out W' h)
  have HBV : Hid (Below w.heap.size w V) := bl_then HB0.out hWV
  clear hr hb hbn hWV
  go_region_held3 (fun W' => Below V.heap.size V W') ((repeat (first | exact Below.refl _ _ | assumption | refine Below.drew ?_ | refine bl_alloc ?_ _ | refine bl_then ?_ (by assumption) | refine Below.setCell ?_ (by first | omega | (simp; done) | (simp; omega)) _ | refine bl_store ?_ ?_ _ _)))
    (first
      | (go_at_call 162; refine (wayOf_any _ _ _ _ _ HA.out HP.out).mono ?_; rintro e w1 ⟨rfl, hb⟩)
      | (go_at_call 163; refine (dotOf_any _ _ _ _ _ (way_df HA.out HB.out) (way_df HA.out HP.out)).mono ?_; rintro e w1 ⟨rfl, hb⟩)
      | (go_at_call 161; refine (squareOf_any _ _ _ (way_df HA.out HB.out)).mono ?_; rintro e w1 ⟨rfl, hb⟩))
  go_wp2_with (first
    | (go_at_call 164; refine (turnOf_any _ _ _ _ _ _ _ HA.out HB.out HP.out).mono ?_; rintro e w2 ⟨rfl, hbz⟩; have hbn : Below V.heap.size V w2 := (by (repeat (first | exact Below.refl _ _ | assumption | refine Below.drew ?_ | refine bl_alloc ?_ _ | refine bl_then ?_ (by assumption) | refine Below.setCell ?_ (by first | omega | (simp; done) | (simp; omega)) _ | refine bl_store ?_ ?_ _ _)))))
  go_ret2
  exact ⟨rfl, by have HB1 := HBV.out; (repeat (first | exact Below.refl _ _ | assumption | refine Below.drew ?_ | refine bl_alloc ?_ _ | refine bl_then ?_ (by assumption) | refine Below.setCell ?_ (by first | omega | (simp; done) | (simp; omega)) _ | refine bl_store ?_ ?_ _ _))⟩

theorem gapOf_any (px py ax ay bx by' : Int) (w : World) (hp : okP px py = true) (ha : okP ax ay = true) (hb : okP bx by' = true) :
    Calls Tryz.prog 151 #[.agg #[.int .i64 px, .int .i64 py], .agg #[.int .i64 ax, .int .i64 ay], .agg #[.int .i64 bx, .int .i64 by']] w fun e w' => e = .returned (.tuple #[.int .i64 (overI px py ax ay bx by'), .int .i64 (underI px py ax ay bx by')]) ∧ Below w.heap.size w w' := by
  have heq := fun (w : World) => equalIn_pair 9998 ax ay bx by' w
  by_cases e1 : ax = bx ∧ ay = by'
  · obtain ⟨rfl, rfl⟩ := e1
    refine (gapOf_same px py ax ay ax ay w hp ha hb (fun w => by rw [heq w]; simp)).mono ?_
    rintro e w' ⟨rfl, h⟩
    exact ⟨ret_two (by rw [overI, along_same, if_pos (Int.le_refl 0), dist_comm]; rfl) (by rw [underI, along_same, if_pos (Int.le_refl 0)]), h⟩
  · have hf : ((ax == bx) && (ay == by')) = false := by
      by_cases q : ax = bx
      · have : ¬ ay = by' := fun h => e1 ⟨q, h⟩
        simp [q, this]
      · simp [q]
    by_cases c1 : (bx - ax) * (px - ax) + (by' - ay) * (py - ay) ≤ 0
    · refine (gapOf_low px py ax ay bx by' w hp ha hb (fun w => by rw [heq w, hf]) c1).mono ?_
      rintro e w' ⟨rfl, h⟩
      exact ⟨ret_two (by rw [overI, along_comm, if_pos c1, dist_comm]; rfl) (by rw [underI, along_comm, if_pos c1]), h⟩
    · by_cases c2 : (bx - ax) * (bx - ax) + (by' - ay) * (by' - ay) ≤ (bx - ax) * (px - ax) + (by' - ay) * (py - ay)
      · refine (gapOf_high px py ax ay bx by' w hp ha hb (fun w => by rw [heq w, hf]) c1 c2).mono ?_
        rintro e w' ⟨rfl, h⟩
        exact ⟨ret_two (by rw [overI, along_comm, if_neg c1, if_pos (by rw [← dist_def]; exact c2), dist_comm]; rfl) (by rw [underI, along_comm, if_neg c1, if_pos (by rw [← dist_def]; exact c2)]), h⟩
      · refine (gapOf_mid px py ax ay bx by' w hp ha hb (fun w => by rw [heq w, hf]) c1 c2).mono ?_
        rintro e w' ⟨rfl, h⟩
        exact ⟨ret_two (by rw [overI, along_comm, if_neg c1, if_neg (by rw [← dist_def]; exact c2)]) (by rw [underI, along_comm, if_neg c1, if_neg (by rw [← dist_def]; exact c2)]; rfl), h⟩
end Go.Proofs.YtdohlnnbibnnbaaGreat
