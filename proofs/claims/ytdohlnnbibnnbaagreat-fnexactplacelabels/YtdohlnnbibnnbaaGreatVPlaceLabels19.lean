/- IsNear of the program: what it answers; and its law. -/
import Derived.Test.YtdohlnnbibnnbaaGreatVPlaceLabels16
import Derived.Test.YtdohlnnbibnnbaaGreatVPlaceLabels17
namespace Go.Proofs.YtdohlnnbibnnbaaGreat
open Go.RowKit
set_option linter.unusedSimpArgs false
set_option linter.unusedVariables false

theorem under_bd {px py ax ay bx by' : Int} (ha : okP ax ay = true) (hb : okP bx by' = true) : 0 ≤ underI px py ax ay bx by' ∧ underI px py ax ay bx by' ≤ 52428800 := by
  obtain ⟨d1, d2⟩ := dist_bd ha hb
  unfold underI
  split
  · omega
  · split <;> omega
theorem isNearB_no {px py ax ay bx by' r : Int} (h : r < 0 ∨ 4096 < r) : isNearB px py ax ay bx by' r = false := by
  have hr : inB r 0 4096 = false := by
    rcases h with h | h <;> simp [inB] <;> omega
  simp [isNearB, hr]

theorem impl_IsNear_neg (px py ax ay bx by' r : Int) (w : World) (h : r < 0) :
    Calls Tryz.prog 131 #[.agg #[.int .i64 px, .int .i64 py], .agg #[.int .i64 ax, .int .i64 ay], .agg #[.int .i64 bx, .int .i64 by'], .int .i64 r] w fun e w' => e = .returned (.bool (isNearB px py ax ay bx by' r)) ∧ Below w.heap.size w w' := by
  have HE : Hid _ := isNearB_no (px := px) (py := py) (ax := ax) (ay := ay) (bx := bx) (by' := by') (.inl h)
  go_enter Tryz.func131, Tryz.ntmps131
  go_wp2
  go_ret
  exact ⟨ret_bool HE.out.symm, by (repeat (first | exact Below.refl _ _ | assumption | refine Below.drew ?_ | refine bl_alloc ?_ _ | refine bl_then ?_ (by assumption) | refine Below.setCell ?_ (by first | omega | (simp; done) | (simp; omega)) _ | refine bl_store ?_ ?_ _ _))⟩

theorem impl_IsNear_far (px py ax ay bx by' r : Int) (w : World) (h : 4096 < r) :
    Calls Tryz.prog 131 #[.agg #[.int .i64 px, .int .i64 py], .agg #[.int .i64 ax, .int .i64 ay], .agg #[.int .i64 bx, .int .i64 by'], .int .i64 r] w fun e w' => e = .returned (.bool (isNearB px py ax ay bx by' r)) ∧ Below w.heap.size w w' := by
  have HE : Hid _ := isNearB_no (px := px) (py := py) (ax := ax) (ay := ay) (bx := bx) (by' := by') (.inr h)
  have h2 : decide (r < 0) = false := by simp; omega
  go_enter Tryz.func131, Tryz.ntmps131
  go_wp2
  go_ret
  exact ⟨ret_bool HE.out.symm, by (repeat (first | exact Below.refl _ _ | assumption | refine Below.drew ?_ | refine bl_alloc ?_ _ | refine bl_then ?_ (by assumption) | refine Below.setCell ?_ (by first | omega | (simp; done) | (simp; omega)) _ | refine bl_store ?_ ?_ _ _))⟩

set_option maxHeartbeats 1000000 in
theorem impl_IsNear_0 (px py ax ay bx by' r : Int) (w : World) (hr0 : 0 ≤ r) (hr1 : r ≤ 4096) (h : okP px py = false) :
    Calls Tryz.prog 131 #[.agg #[.int .i64 px, .int .i64 py], .agg #[.int .i64 ax, .int .i64 ay], .agg #[.int .i64 bx, .int .i64 by'], .int .i64 r] w fun e w' => e = .returned (.bool (isNearB px py ax ay bx by' r)) ∧ Below w.heap.size w w' := by
  have HN : Hid _ := codeN3_0 px py ax ay bx by' h
  have HE : Hid (isNearB px py ax ay bx by' r = false) := by
    show _ = _
    simp [isNearB, h]
  clear h
  go_enter Tryz.func131, Tryz.ntmps131
  go_wp2_with fail
  generalize hV : ((((w.alloc _).alloc _).alloc _).alloc _ : World) = V
  have hB0 : Below w.heap.size w V := by subst hV; (repeat (first | exact Below.refl _ _ | assumption | refine Below.drew ?_ | refine bl_alloc ?_ _ | refine bl_then ?_ (by assumption) | refine Below.setCell ?_ (by first | omega | (simp; done) | (simp; omega)) _ | refine bl_store ?_ ?_ _ _))
  have g0 : V.cell? ⟨w.heap.size + 1 + 1 + 1, 0, none⟩ = some (.int .i64 px) := by subst hV; simp [go_sem]
  have g1 : V.cell? ⟨w.heap.size + 1 + 1 + 1, 1, none⟩ = some (.int .i64 py) := by subst hV; simp [go_sem]
  have g2 : V.cell? ⟨w.heap.size + 1 + 1 + 1, 2, none⟩ = some (.int .i64 ax) := by subst hV; simp [go_sem]
  have g3 : V.cell? ⟨w.heap.size + 1 + 1 + 1, 3, none⟩ = some (.int .i64 ay) := by subst hV; simp [go_sem]
  have g4 : V.cell? ⟨w.heap.size + 1 + 1 + 1, 4, none⟩ = some (.int .i64 bx) := by subst hV; simp [go_sem]
  have g5 : V.cell? ⟨w.heap.size + 1 + 1 + 1, 5, none⟩ = some (.int .i64 by') := by subst hV; simp [go_sem]
  clear hV
  have HB0 : Hid (Below w.heap.size w V) := hB0
  clear hB0
  refine (faultIn3 _ _ px py ax ay bx by' _ _ g0 g1 g2 g3 g4 g5 (by omega) HN.out).mono ?_
  rintro e W ⟨rfl, hbW⟩
  clear g0 g1 g2 g3 g4 g5
  go_wp2
  go_ret
  exact ⟨ret_bool HE.out.symm, bl_then HB0.out hbW⟩

set_option maxHeartbeats 1000000 in
theorem impl_IsNear_1 (px py ax ay bx by' r : Int) (w : World) (hr0 : 0 ≤ r) (hr1 : r ≤ 4096) (h : okP ax ay = false) :
    Calls Tryz.prog 131 #[.agg #[.int .i64 px, .int .i64 py], .agg #[.int .i64 ax, .int .i64 ay], .agg #[.int .i64 bx, .int .i64 by'], .int .i64 r] w fun e w' => e = .returned (.bool (isNearB px py ax ay bx by' r)) ∧ Below w.heap.size w w' := by
  have HN : Hid _ := codeN3_1 px py ax ay bx by' h
  have HE : Hid (isNearB px py ax ay bx by' r = false) := by
    show _ = _
    simp [isNearB, h]
  clear h
  go_enter Tryz.func131, Tryz.ntmps131
  go_wp2_with fail
  generalize hV : ((((w.alloc _).alloc _).alloc _).alloc _ : World) = V
  have hB0 : Below w.heap.size w V := by subst hV; (repeat (first | exact Below.refl _ _ | assumption | refine Below.drew ?_ | refine bl_alloc ?_ _ | refine bl_then ?_ (by assumption) | refine Below.setCell ?_ (by first | omega | (simp; done) | (simp; omega)) _ | refine bl_store ?_ ?_ _ _))
  have g0 : V.cell? ⟨w.heap.size + 1 + 1 + 1, 0, none⟩ = some (.int .i64 px) := by subst hV; simp [go_sem]
  have g1 : V.cell? ⟨w.heap.size + 1 + 1 + 1, 1, none⟩ = some (.int .i64 py) := by subst hV; simp [go_sem]
  have g2 : V.cell? ⟨w.heap.size + 1 + 1 + 1, 2, none⟩ = some (.int .i64 ax) := by subst hV; simp [go_sem]
  have g3 : V.cell? ⟨w.heap.size + 1 + 1 + 1, 3, none⟩ = some (.int .i64 ay) := by subst hV; simp [go_sem]
  have g4 : V.cell? ⟨w.heap.size + 1 + 1 + 1, 4, none⟩ = some (.int .i64 bx) := by subst hV; simp [go_sem]
  have g5 : V.cell? ⟨w.heap.size + 1 + 1 + 1, 5, none⟩ = some (.int .i64 by') := by subst hV; simp [go_sem]
  clear hV
  have HB0 : Hid (Below w.heap.size w V) := hB0
  clear hB0
  refine (faultIn3 _ _ px py ax ay bx by' _ _ g0 g1 g2 g3 g4 g5 (by omega) HN.out).mono ?_
  rintro e W ⟨rfl, hbW⟩
  clear g0 g1 g2 g3 g4 g5
  go_wp2
  go_ret
  exact ⟨ret_bool HE.out.symm, bl_then HB0.out hbW⟩

set_option maxHeartbeats 1000000 in
theorem impl_IsNear_2 (px py ax ay bx by' r : Int) (w : World) (hr0 : 0 ≤ r) (hr1 : r ≤ 4096) (h : okP bx by' = false) :
    Calls Tryz.prog 131 #[.agg #[.int .i64 px, .int .i64 py], .agg #[.int .i64 ax, .int .i64 ay], .agg #[.int .i64 bx, .int .i64 by'], .int .i64 r] w fun e w' => e = .returned (.bool (isNearB px py ax ay bx by' r)) ∧ Below w.heap.size w w' := by
  have HN : Hid _ := codeN3_2 px py ax ay bx by' h
  have HE : Hid (isNearB px py ax ay bx by' r = false) := by
    show _ = _
    simp [isNearB, h]
  clear h
  go_enter Tryz.func131, Tryz.ntmps131
  go_wp2_with fail
  generalize hV : ((((w.alloc _).alloc _).alloc _).alloc _ : World) = V
  have hB0 : Below w.heap.size w V := by subst hV; (repeat (first | exact Below.refl _ _ | assumption | refine Below.drew ?_ | refine bl_alloc ?_ _ | refine bl_then ?_ (by assumption) | refine Below.setCell ?_ (by first | omega | (simp; done) | (simp; omega)) _ | refine bl_store ?_ ?_ _ _))
  have g0 : V.cell? ⟨w.heap.size + 1 + 1 + 1, 0, none⟩ = some (.int .i64 px) := by subst hV; simp [go_sem]
  have g1 : V.cell? ⟨w.heap.size + 1 + 1 + 1, 1, none⟩ = some (.int .i64 py) := by subst hV; simp [go_sem]
  have g2 : V.cell? ⟨w.heap.size + 1 + 1 + 1, 2, none⟩ = some (.int .i64 ax) := by subst hV; simp [go_sem]
  have g3 : V.cell? ⟨w.heap.size + 1 + 1 + 1, 3, none⟩ = some (.int .i64 ay) := by subst hV; simp [go_sem]
  have g4 : V.cell? ⟨w.heap.size + 1 + 1 + 1, 4, none⟩ = some (.int .i64 bx) := by subst hV; simp [go_sem]
  have g5 : V.cell? ⟨w.heap.size + 1 + 1 + 1, 5, none⟩ = some (.int .i64 by') := by subst hV; simp [go_sem]
  clear hV
  have HB0 : Hid (Below w.heap.size w V) := hB0
  clear hB0
  refine (faultIn3 _ _ px py ax ay bx by' _ _ g0 g1 g2 g3 g4 g5 (by omega) HN.out).mono ?_
  rintro e W ⟨rfl, hbW⟩
  clear g0 g1 g2 g3 g4 g5
  go_wp2
  go_ret
  exact ⟨ret_bool HE.out.symm, bl_then HB0.out hbW⟩

set_option maxHeartbeats 2000000 in
theorem impl_IsNear_ok (px py ax ay bx by' r : Int) (w : World) (hr0 : 0 ≤ r) (hr1 : r ≤ 4096) (hp : okP px py = true) (ha : okP ax ay = true) (hb : okP bx by' = true) :
    Calls Tryz.prog 131 #[.agg #[.int .i64 px, .int .i64 py], .agg #[.int .i64 ax, .int .i64 ay], .agg #[.int .i64 bx, .int .i64 by'], .int .i64 r] w fun e w' => e = .returned (.bool (isNearB px py ax ay bx by' r)) ∧ Below w.heap.size w w' := by
  have HN : Hid _ := codeN3_ok px py ax ay bx by' hp ha hb
  have HE : Hid (isNearB px py ax ay bx by' r = decide (overI px py ax ay bx by' ≤ r * r * underI px py ax ay bx by')) := by
    show _ = _
    have hr : inB r 0 4096 = true := by simp [inB]; omega
    simp [isNearB, hp, ha, hb, hr, nearB]
  obtain ⟨s1, s2⟩ := sq_bd hr0 hr1
  obtain ⟨d1, d2⟩ := under_bd (px := px) (py := py) ha hb
  obtain ⟨x5, x6⟩ := mul_bd (a := r * r) (b := underI px py ax ay bx by') (B := 16777216) (C := 52428800) (by omega) (by omega) (by omega) (by omega) (by omega)
  have HP : Hid _ := hp
  have HA : Hid _ := ha
  have HB : Hid _ := hb
  clear hp ha hb
  go_enter Tryz.func131, Tryz.ntmps131
  go_wp2_with fail
  generalize hV : ((((w.alloc _).alloc _).alloc _).alloc _ : World) = V
  have hB0 : Below w.heap.size w V := by subst hV; (repeat (first | exact Below.refl _ _ | assumption | refine Below.drew ?_ | refine bl_alloc ?_ _ | refine bl_then ?_ (by assumption) | refine Below.setCell ?_ (by first | omega | (simp; done) | (simp; omega)) _ | refine bl_store ?_ ?_ _ _))
  have g0 : V.cell? ⟨w.heap.size + 1 + 1 + 1, 0, none⟩ = some (.int .i64 px) := by subst hV; simp [go_sem]
  have g1 : V.cell? ⟨w.heap.size + 1 + 1 + 1, 1, none⟩ = some (.int .i64 py) := by subst hV; simp [go_sem]
  have g2 : V.cell? ⟨w.heap.size + 1 + 1 + 1, 2, none⟩ = some (.int .i64 ax) := by subst hV; simp [go_sem]
  have g3 : V.cell? ⟨w.heap.size + 1 + 1 + 1, 3, none⟩ = some (.int .i64 ay) := by subst hV; simp [go_sem]
  have g4 : V.cell? ⟨w.heap.size + 1 + 1 + 1, 4, none⟩ = some (.int .i64 bx) := by subst hV; simp [go_sem]
  have g5 : V.cell? ⟨w.heap.size + 1 + 1 + 1, 5, none⟩ = some (.int .i64 by') := by subst hV; simp [go_sem]
  have c00 : ∀ W', Below V.heap.size V W' → W'.cell? ⟨w.heap.size, 0, none⟩ = some (.int .i64 px) := fun W' h => by
    rw [h.cell (by subst hV; simp <;> omega)]; subst hV; simp [go_sem]
  have c01 : ∀ W', Below V.heap.size V W' → W'.cell? ⟨w.heap.size, 1, none⟩ = some (.int .i64 py) := fun W' h => by
    rw [h.cell (by subst hV; simp <;> omega)]; subst hV; simp [go_sem]
  have c10 : ∀ W', Below V.heap.size V W' → W'.cell? ⟨w.heap.size + 1, 0, none⟩ = some (.int .i64 ax) := fun W' h => by
    rw [h.cell (by subst hV; simp <;> omega)]; subst hV; simp [go_sem]
  have c11 : ∀ W', Below V.heap.size V W' → W'.cell? ⟨w.heap.size + 1, 1, none⟩ = some (.int .i64 ay) := fun W' h => by
    rw [h.cell (by subst hV; simp <;> omega)]; subst hV; simp [go_sem]
  have c20 : ∀ W', Below V.heap.size V W' → W'.cell? ⟨w.heap.size + 1 + 1, 0, none⟩ = some (.int .i64 bx) := fun W' h => by
    rw [h.cell (by subst hV; simp <;> omega)]; subst hV; simp [go_sem]
  have c21 : ∀ W', Below V.heap.size V W' → W'.cell? ⟨w.heap.size + 1 + 1, 1, none⟩ = some (.int .i64 by') := fun W' h => by
    rw [h.cell (by subst hV; simp <;> omega)]; subst hV; simp [go_sem]
  clear hV
  have HB0 : Hid (Below w.heap.size w V) := hB0
  clear hB0
  refine (faultIn3 _ _ px py ax ay bx by' _ _ g0 g1 g2 g3 g4 g5 (by omega) HN.out).mono ?_
  rintro e W ⟨rfl, hbW⟩
  clear g0 g1 g2 g3 g4 g5
  replace HB0 : Hid (Below w.heap.size w W) := bl_then HB0.out hbW
  have HVW : Hid (∀ W', Below W.heap.size W W' → Below V.heap.size V W') := fun W' h => bl_then hbW h
  replace c00 := fun W' h => c00 W' (HVW.out W' h)
  replace c01 := fun W' h => c01 W' (HVW.out W' h)
  replace c10 := fun W' h => c10 W' (HVW.out W' h)
  replace c11 := fun W' h => c11 W' (HVW.out W' h)
  replace c20 := fun W' h => c20 W' (HVW.out W' h)
  replace c21 := fun W' h => c21 W' (HVW.out W' h)
  clear hbW
  go_wp2
  go_region_held3 (fun W' => Below W.heap.size W W') ((repeat (first | exact Below.refl _ _ | assumption | refine Below.drew ?_ | refine bl_alloc ?_ _ | refine bl_then ?_ (by assumption) | refine Below.setCell ?_ (by first | omega | (simp; done) | (simp; omega)) _ | refine bl_store ?_ ?_ _ _)))
    (first
      | (go_at_call 150; refine (pairOf_any _ _ _).mono ?_; rintro e w1 ⟨rfl, hb⟩)
      | (go_at_call 151; refine (gapOf_any _ _ _ _ _ _ _ HP.out HA.out HB.out).mono ?_; rintro e w1 ⟨rfl, hb⟩))
  go_wp2
  go_ret
  exact ⟨ret_bool HE.out.symm, bl_then HB0.out (by assumption)⟩

theorem impl_IsNear_any (px py ax ay bx by' r : Int) (w : World) : Calls Tryz.prog 131 #[.agg #[.int .i64 px, .int .i64 py], .agg #[.int .i64 ax, .int .i64 ay], .agg #[.int .i64 bx, .int .i64 by'], .int .i64 r] w fun e w' => e = .returned (.bool (isNearB px py ax ay bx by' r)) ∧ Below w.heap.size w w' := by
  by_cases h0 : r < 0
  · exact impl_IsNear_neg _ _ _ _ _ _ _ _ h0
  by_cases h1 : 4096 < r
  · exact impl_IsNear_far _ _ _ _ _ _ _ _ h1
  have hr0 : 0 ≤ r := by omega
  have hr1 : r ≤ 4096 := by omega
  cases hp : okP px py
  · exact impl_IsNear_0 _ _ _ _ _ _ _ _ hr0 hr1 hp
  cases ha : okP ax ay
  · exact impl_IsNear_1 _ _ _ _ _ _ _ _ hr0 hr1 ha
  cases hb : okP bx by'
  · exact impl_IsNear_2 _ _ _ _ _ _ _ _ hr0 hr1 hb
  exact impl_IsNear_ok _ _ _ _ _ _ _ _ hr0 hr1 hp ha hb
end Go.Proofs.YtdohlnnbibnnbaaGreat
