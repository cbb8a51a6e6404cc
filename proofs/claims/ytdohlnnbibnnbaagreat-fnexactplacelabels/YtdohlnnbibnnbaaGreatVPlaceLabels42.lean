/- Several texts in one. -/
import Derived.Test.YtdohlnnbibnnbaaGreatVPlaceLabels41
import Derived.Deep.RegionHeld3
import Derived.Test.YtdohlnnbibnnbaaGreatVPlaceLabels23
import Derived.BigQuiet

/- Cameras of the program: their first and last pixel, their size, what is wrong of one. -/

namespace Go.Proofs.YtdohlnnbibnnbaaGreat
open Go.RowKit
set_option linter.unusedSimpArgs false
set_option linter.unusedVariables false
set_option maxRecDepth 100000

/-- A camera as a value. -/
abbrev camV (z x y wd ht : Int) : Value := .agg #[.int .i64 z, .int .i64 x, .int .i64 y, .int .i64 wd, .int .i64 ht]
/-- A camera without a fault. -/
def camB (z x y wd ht : Int) : Bool := (zoomB z && (inB wd 1 8 && inB ht 1 8)) && (inB x 0 (pixI z - wd) && inB y 0 (pixI z - ht))
def camC (z x y wd ht : Int) : Int := if camB z x y wd ht = true then 0 else 3
theorem camB_zoom {z x y wd ht : Int} (h : camB z x y wd ht = true) : zoomB z = true := by simp [camB] at h; exact h.1.1
theorem camB_in {z x y wd ht : Int} (h : camB z x y wd ht = true) : ((1 ≤ wd ∧ wd ≤ 8) ∧ (1 ≤ ht ∧ ht ≤ 8)) ∧ ((0 ≤ x ∧ x ≤ pixI z - wd) ∧ (0 ≤ y ∧ y ≤ pixI z - ht)) := by
  simp [camB, inB] at h
  omega
theorem camC_cases (z x y wd ht : Int) : (camC z x y wd ht = 0 ∧ camB z x y wd ht = true) ∨ (camC z x y wd ht = 3 ∧ camB z x y wd ht = false) := by
  unfold camC
  cases h : camB z x y wd ht <;> simp

theorem isView_any (n : Int) (w : World) : Calls Tryz.prog 52 #[.int .i64 n] w fun e w' => e = .returned (.bool (inB n 1 8)) ∧ w = w' := by
  go_enter Tryz.func52, Tryz.ntmps52
  go_wp2_with (go_at_call 92; refine (isWithin_any _ _ _ _).mono ?_; rintro e w' ⟨rfl, rfl⟩)
  go_ret
  exact ⟨rfl, rfl⟩
theorem camFirst_any (z x y wd ht : Int) (w : World) : Calls Tryz.prog 94 #[camV z x y wd ht] w fun e w' => e = .returned (pxV x y) ∧ Below w.heap.size w w' := by
  go_enter Tryz.func94, Tryz.ntmps94
  go_wp2_with (go_at_call 124; refine (pixelAt_any _ _ _).mono ?_; rintro e w' ⟨rfl, rfl⟩)
  go_ret
  exact ⟨rfl, by (repeat (first | exact Below.refl _ _ | assumption | refine Below.drew ?_ | refine bl_alloc ?_ _ | refine bl_then ?_ (by assumption) | refine Below.setCell ?_ (by first | omega | (simp; done) | (simp; omega)) _ | refine bl_store ?_ ?_ _ _))⟩
theorem camSize_any (z x y wd ht : Int) (w : World) : Calls Tryz.prog 95 #[camV z x y wd ht] w fun e w' => e = .returned (pxV wd ht) ∧ Below w.heap.size w w' := by
  go_enter Tryz.func95, Tryz.ntmps95
  go_wp2_with (go_at_call 124; refine (pixelAt_any _ _ _).mono ?_; rintro e w' ⟨rfl, rfl⟩)
  go_ret
  exact ⟨rfl, by (repeat (first | exact Below.refl _ _ | assumption | refine Below.drew ?_ | refine bl_alloc ?_ _ | refine bl_then ?_ (by assumption) | refine Below.setCell ?_ (by first | omega | (simp; done) | (simp; omega)) _ | refine bl_store ?_ ?_ _ _))⟩
set_option maxHeartbeats 4000000 in
theorem camLast_any (z x y wd ht : Int) (w : World) (hx : 0 ≤ x ∧ x ≤ 64) (hy : 0 ≤ y ∧ y ≤ 64) (hw : 1 ≤ wd ∧ wd ≤ 8) (hh : 1 ≤ ht ∧ ht ≤ 8) : Calls Tryz.prog 54 #[camV z x y wd ht] w fun e w' => e = .returned (pxV (x + wd - 1) (y + ht - 1)) ∧ Below w.heap.size w w' := by
  have s1 := fun t w => run_px_add t (a := x) (b := y) (c := wd) (d := ht) w (by omega) (by omega)
  have s2 : ∀ t w, (binOp .sub t (pxV (x + wd) (y + ht)) (.complex .f64 4607182418800017408 4607182418800017408)).run Tryz.prog w = .ok (pxV (x + wd - 1) (y + ht - 1)) w := fun t w => by
    rw [← flo_1]
    exact run_px_sub t (a := x + wd) (b := y + ht) (c := 1) (d := 1) w (by omega) (by omega)
  clear hx hy hw hh
  go_enter Tryz.func54, Tryz.ntmps54
  go_wp2_with fail
  generalize hW : (w.alloc _ : World) = W
  have HB0 : Hid (Below w.heap.size w W) := by show Below _ _ _; subst hW; (repeat (first | exact Below.refl _ _ | assumption | refine Below.drew ?_ | refine bl_alloc ?_ _ | refine bl_then ?_ (by assumption) | refine Below.setCell ?_ (by first | omega | (simp; done) | (simp; omega)) _ | refine bl_store ?_ ?_ _ _))
  have c00 : ∀ W', Below W.heap.size W W' → W'.cell? ⟨w.heap.size, 0, none⟩ = some (.int .i64 z) := fun W' h => by
    rw [h.cell (by subst hW; simp <;> omega)]; subst hW; simp [go_sem]
  have c01 : ∀ W', Below W.heap.size W W' → W'.cell? ⟨w.heap.size, 1, none⟩ = some (.int .i64 x) := fun W' h => by
    rw [h.cell (by subst hW; simp <;> omega)]; subst hW; simp [go_sem]
  have c02 : ∀ W', Below W.heap.size W W' → W'.cell? ⟨w.heap.size, 2, none⟩ = some (.int .i64 y) := fun W' h => by
    rw [h.cell (by subst hW; simp <;> omega)]; subst hW; simp [go_sem]
  have c03 : ∀ W', Below W.heap.size W W' → W'.cell? ⟨w.heap.size, 3, none⟩ = some (.int .i64 wd) := fun W' h => by
    rw [h.cell (by subst hW; simp <;> omega)]; subst hW; simp [go_sem]
  have c04 : ∀ W', Below W.heap.size W W' → W'.cell? ⟨w.heap.size, 4, none⟩ = some (.int .i64 ht) := fun W' h => by
    rw [h.cell (by subst hW; simp <;> omega)]; subst hW; simp [go_sem]
  clear hW
  have hr : Below W.heap.size W W := Below.refl _ _
  go_region_held3 (fun W' => Below W.heap.size W W') ((repeat (first | exact Below.refl _ _ | assumption | refine Below.drew ?_ | refine bl_alloc ?_ _ | refine bl_then ?_ (by assumption) | refine Below.setCell ?_ (by first | omega | (simp; done) | (simp; omega)) _ | refine bl_store ?_ ?_ _ _)))
    (first
      | (go_at_call 94; refine (camFirst_any _ _ _ _ _ _).mono ?_; rintro e w1 ⟨rfl, hb⟩)
      | (go_at_call 95; refine (camSize_any _ _ _ _ _ _).mono ?_; rintro e w1 ⟨rfl, hb⟩)
      | fail)
  go_wp2
  go_ret
  exact ⟨rfl, bl_then HB0.out (by assumption)⟩
set_option maxHeartbeats 4000000 in
theorem camFault_any (z x y wd ht : Int) (w : World) : Calls Tryz.prog 26 #[camV z x y wd ht] w fun e w' => e = .returned (.int .i64 (camC z x y wd ht)) ∧ Below w.heap.size w w' := by
  cases hv : (inB wd 1 8 && inB ht 1 8 && pixB z x y)
  · have hk : Hid (camC z x y wd ht = 3) := by
      show _ = _
      unfold camC
      rw [if_neg]
      intro hc
      have h1 := camB_zoom hc
      have h2 := camB_in hc
      have h3 := pixI_bd h1
      have : (inB wd 1 8 && inB ht 1 8 && pixB z x y) = true := by
        simp [pixB, inB, h1]
        omega
      rw [this] at hv
      cases hv
    cases h1 : inB wd 1 8 <;> cases h2 : inB ht 1 8 <;> cases h3 : pixB z x y
    all_goals first | (rw [h1, h2, h3] at hv; cases hv; done) | skip
    all_goals
      clear hv
      go_enter Tryz.func26, Tryz.ntmps26
      go_wp2_with (first
        | (go_at_call 52; refine (isView_any _ _).mono ?_; rintro e w' ⟨rfl, rfl⟩)
        | (go_at_call 53; refine (isPixel_any _ _ _ _).mono ?_; rintro e w' ⟨rfl, hb⟩))
      all_goals (go_ret; exact ⟨ret_int hk.out.symm, by (repeat (first | exact Below.refl _ _ | assumption | refine Below.drew ?_ | refine bl_alloc ?_ _ | refine bl_then ?_ (by assumption) | refine Below.setCell ?_ (by first | omega | (simp; done) | (simp; omega)) _ | refine bl_store ?_ ?_ _ _))⟩)
  · simp only [Bool.and_eq_true] at hv
    obtain ⟨⟨h1, h2⟩, h3⟩ := hv
    have hz := pixB_zoom h3
    have hp := pixB_in h3
    have hn := pixI_bd hz
    have hw : 1 ≤ wd ∧ wd ≤ 8 := by simpa [inB] using h1
    have hh : 1 ≤ ht ∧ ht ≤ 8 := by simpa [inB] using h2
    have hk : Hid (camC z x y wd ht = if pixB z (x + wd - 1) (y + ht - 1) = true then 0 else 3) := by
      show _ = _
      unfold camC
      have : camB z x y wd ht = pixB z (x + wd - 1) (y + ht - 1) := by
        rw [Bool.eq_iff_iff]
        simp [camB, pixB, inB, hz]
        omega
      rw [this]
    have sL := fun w => camLast_any z x y wd ht w (by omega) (by omega) hw hh
    have sX := fun w => pxX_any (x + wd - 1) (y + ht - 1) w (by omega) (by omega)
    have sY := fun w => pxY_any (x + wd - 1) (y + ht - 1) w (by omega) (by omega)
    have sP := fun w => isPixel_any z (x + wd - 1) (y + ht - 1) w
    clear hp hn hw hh hz
    generalize x + wd - 1 = lx at *
    generalize y + ht - 1 = ly at *
    go_enter Tryz.func26, Tryz.ntmps26
    go_wp2_with fail
    generalize hW : (w.alloc _ : World) = W
    have HB0 : Hid (Below w.heap.size w W) := by show Below _ _ _; subst hW; (repeat (first | exact Below.refl _ _ | assumption | refine Below.drew ?_ | refine bl_alloc ?_ _ | refine bl_then ?_ (by assumption) | refine Below.setCell ?_ (by first | omega | (simp; done) | (simp; omega)) _ | refine bl_store ?_ ?_ _ _))
    have c00 : ∀ W', Below W.heap.size W W' → W'.cell? ⟨w.heap.size, 0, none⟩ = some (.int .i64 z) := fun W' h => by
      rw [h.cell (by subst hW; simp <;> omega)]; subst hW; simp [go_sem]
    have c01 : ∀ W', Below W.heap.size W W' → W'.cell? ⟨w.heap.size, 1, none⟩ = some (.int .i64 x) := fun W' h => by
      rw [h.cell (by subst hW; simp <;> omega)]; subst hW; simp [go_sem]
    have c02 : ∀ W', Below W.heap.size W W' → W'.cell? ⟨w.heap.size, 2, none⟩ = some (.int .i64 y) := fun W' h => by
      rw [h.cell (by subst hW; simp <;> omega)]; subst hW; simp [go_sem]
    have c03 : ∀ W', Below W.heap.size W W' → W'.cell? ⟨w.heap.size, 3, none⟩ = some (.int .i64 wd) := fun W' h => by
      rw [h.cell (by subst hW; simp <;> omega)]; subst hW; simp [go_sem]
    have c04 : ∀ W', Below W.heap.size W W' → W'.cell? ⟨w.heap.size, 4, none⟩ = some (.int .i64 ht) := fun W' h => by
      rw [h.cell (by subst hW; simp <;> omega)]; subst hW; simp [go_sem]
    clear hW
    have hr : Below W.heap.size W W := Below.refl _ _
    go_wp2_with (first
      | (go_at_call 52; refine (isView_any _ _).mono ?_; rintro e w' ⟨rfl, rfl⟩)
      | fail)
    refine (isPixel_any z x y _).mono ?_
    rintro e w1 ⟨rfl, hb1⟩
    go_wp2_with fail
    refine (sL _).mono ?_
    rintro e w2 ⟨rfl, hb2⟩
    have hB2 : Below W.heap.size W w2 := bl_then hb1 hb2
    clear hb1 hb2
    go_wp2_with fail
    cases hq : pixB z lx ly
    all_goals
      rw [hq] at sP hk
      go_region_held3 (fun W' => Below W.heap.size W W') ((repeat (first | exact Below.refl _ _ | assumption | refine Below.drew ?_ | refine bl_alloc ?_ _ | refine bl_then ?_ (by assumption) | refine Below.setCell ?_ (by first | omega | (simp; done) | (simp; omega)) _ | refine bl_store ?_ ?_ _ _)))
        (first
          | (go_at_call 55; refine (sX _).mono ?_; rintro e w3 ⟨rfl, rfl⟩)
          | (go_at_call 56; refine (sY _).mono ?_; rintro e w3 ⟨rfl, rfl⟩)
          | (go_at_call 53; refine (sP _).mono ?_; rintro e w3 ⟨rfl, hb⟩)
          | fail)
      go_wp2
      go_ret
      exact ⟨ret_int (by rw [hk.out]; rfl), bl_then HB0.out (by assumption)⟩
end Go.Proofs.YtdohlnnbibnnbaaGreat
/- Cameras of the program: held in the world, moved, of another size. -/

namespace Go.Proofs.YtdohlnnbibnnbaaGreat
open Go.RowKit
set_option linter.unusedSimpArgs false
set_option linter.unusedVariables false
set_option maxRecDepth 100000

end Go.Proofs.YtdohlnnbibnnbaaGreat
/- Cameras of the model: what is wrong of one, and one held in the world. -/

namespace Go.Proofs.YtdohlnnbibnnbaaGreat
open Go.RowKit
set_option linter.unusedSimpArgs false
set_option linter.unusedVariables false
set_option maxRecDepth 100000

/-- A camera in memory. -/
def CamAt (w : World) (b : Nat) (z x y wd ht : Int) : Prop := w.cell? ⟨b, 0, none⟩ = some (.int .i64 z) ∧ w.cell? ⟨b, 1, none⟩ = some (.int .i64 x) ∧ w.cell? ⟨b, 2, none⟩ = some (.int .i64 y) ∧ w.cell? ⟨b, 3, none⟩ = some (.int .i64 wd) ∧ w.cell? ⟨b, 4, none⟩ = some (.int .i64 ht)
theorem l1In_q (v lo hi : Int) (w : World) : Calls Tryz.prog 73 #[.int .i64 v, .int .i64 lo, .int .i64 hi] w fun e w' => e = .returned (.bool (inB v lo hi)) ∧ ∃ n, w' = w.drewN n :=
  (l1In_any v lo hi w).mono fun e w' ⟨h1, h2⟩ => ⟨h1, 0, h2⟩
set_option maxHeartbeats 4000000 in
theorem l9Fault_any (b : Nat) (z x y wd ht : Int) (w : World) (h : CamAt w b z x y wd ht) : Calls Tryz.prog 30 #[.pointer (some ⟨b, 0, none⟩)] w fun e w' => e = .returned (.int .i64 (camC z x y wd ht)) ∧ Below w.heap.size w w' := by
  obtain ⟨e0, e1, e2, e3, e4⟩ := h
  have hk : Hid (camC z x y wd ht = if camB z x y wd ht = true then 0 else 3) := rfl
  have hb : Hid (camB z x y wd ht = ((zoomB z && (inB wd 1 8 && inB ht 1 8)) && (inB x 0 (pixI z - wd) && inB y 0 (pixI z - ht)))) := rfl
  cases h1 : zoomB z <;> cases h2 : inB wd 1 8 <;> cases h3 : inB ht 1 8
  case true.true.true =>
    rw [h1, h2, h3] at hb
    have sN := fun w => l4Count_any z w h1
    have hn := pixI_bd h1
    have hw : 1 ≤ wd ∧ wd ≤ 8 := by simpa [inB] using h2
    have hh : 1 ≤ ht ∧ ht ≤ 8 := by simpa [inB] using h3
    generalize pixI z = u at *
    cases h4 : inB x 0 (u - wd) <;> cases h5 : inB y 0 (u - ht)
    all_goals
      rw [h4, h5] at hb
      rw [hb.out] at hk
      go_enter Tryz.func30, Tryz.ntmps30
      go_wp2_with (first
        | (go_at_call 72; refine (l3Zoom_any _ _).mono ?_; rintro e w1 ⟨rfl, rfl⟩)
        | (go_at_call 74; refine (sN _).mono ?_; rintro e w1 ⟨rfl, rfl⟩)
        | (go_at_call 73; refine (l1In_any _ _ _ _).mono ?_; rintro e w1 ⟨rfl, rfl⟩))
      go_quiet (first | (go_at_call 73; exact Calls.quiet_of (l1In_q _ _ _ _)))
      go_wp2
      go_ret
      exact ⟨ret_int (by rw [hk.out]; rfl), below_drewN (Below.refl _ _) _⟩
  all_goals
    rw [h1, h2, h3] at hb
    rw [hb.out] at hk
    go_enter Tryz.func30, Tryz.ntmps30
    go_wp2_with (first
      | (go_at_call 72; refine (l3Zoom_any _ _).mono ?_; rintro e w1 ⟨rfl, rfl⟩)
      | (go_at_call 73; refine (l1In_any _ _ _ _).mono ?_; rintro e w1 ⟨rfl, rfl⟩))
    go_ret
    exact ⟨ret_int (by rw [hk.out]; rfl), by (repeat (first | exact Below.refl _ _ | assumption | refine Below.drew ?_ | refine bl_alloc ?_ _ | refine bl_then ?_ (by assumption) | refine Below.setCell ?_ (by first | omega | (simp; done) | (simp; omega)) _ | refine bl_store ?_ ?_ _ _))⟩
end Go.Proofs.YtdohlnnbibnnbaaGreat
