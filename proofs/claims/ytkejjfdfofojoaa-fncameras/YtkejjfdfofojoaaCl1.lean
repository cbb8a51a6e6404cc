/- The laws of CameraFault, PanCamera, SizeCamera and ZoomCamera: their steps. -/
import Derived.Test.YtkejjfdfofojoaaCd1
import Derived.Test.YtkejjfdfofojoaaCs3
namespace Go.Proofs.Ytkejjfdfofojoaa
open Go.RowKit
set_option linter.unusedSimpArgs false
set_option linter.unusedVariables false
set_option maxRecDepth 100000

theorem toCamera_any (z x y wd ht : Int) (w : World) : Calls Try.prog 20 #[camV z x y wd ht] w fun e w' => e = .returned (camV z x y wd ht) ∧ Below w.heap.size w w' := by
  go_enter Try.func20, Try.ntmps20
  go_wp2
  exact bodyPost_ret (v := camV z x y wd ht) (by simp [results, Try.results20, go_sem]) rfl ⟨rfl, by (repeat (first | exact Below.refl _ _ | assumption | refine Below.drew ?_ | refine bl_alloc ?_ _ | refine bl_then ?_ (by assumption) | refine Below.setCell ?_ (by first | omega | (simp; done) | (simp; omega)) _ | refine bl_store ?_ ?_ _ _))⟩
theorem eqCamera_any (z x y wd ht : Int) (w : World) : Calls Try.prog 42 #[camV z x y wd ht, camV z x y wd ht] w fun e w' => e = .returned (.bool true) ∧ Below w.heap.size w w' := by
  go_enter Try.func42, Try.ntmps42
  go_wp2
  go_ret
  exact ⟨rfl, by (repeat (first | exact Below.refl _ _ | assumption | refine Below.drew ?_ | refine bl_alloc ?_ _ | refine bl_then ?_ (by assumption) | refine Below.setCell ?_ (by first | omega | (simp; done) | (simp; omega)) _ | refine bl_store ?_ ?_ _ _))⟩
theorem eqCameraResult_any (c z x y wd ht : Int) (w : World) : Calls Try.prog 21 #[crV c z x y wd ht, crV c z x y wd ht] w fun e w' => e = .returned (.bool true) ∧ Below w.heap.size w w' := by
  go_enter Try.func21, Try.ntmps21
  go_wp2_with (go_at_call 42; refine (eqCamera_any _ _ _ _ _ _).mono ?_; rintro e w' ⟨rfl, hb⟩)
  go_ret
  exact ⟨rfl, by (repeat (first | exact Below.refl _ _ | assumption | refine Below.drew ?_ | refine bl_alloc ?_ _ | refine bl_then ?_ (by assumption) | refine Below.setCell ?_ (by first | omega | (simp; done) | (simp; omega)) _ | refine bl_store ?_ ?_ _ _))⟩
theorem FnExactCameraFault_walk (z x y wd ht : Int) (w : World) : Calls Try.prog 4 #[camV z x y wd ht] w fun e w' => e = .returned (.bool true) ∧ Below w.heap.size w w' := by
  go_enter Try.func4, Try.ntmps4
  go_wp2_with fail
  generalize hW : (w.alloc _ : World) = W
  have hB0 : Below w.heap.size w W := by subst hW; (repeat (first | exact Below.refl _ _ | assumption | refine Below.drew ?_ | refine bl_alloc ?_ _ | refine bl_then ?_ (by assumption) | refine Below.setCell ?_ (by first | omega | (simp; done) | (simp; omega)) _ | refine bl_store ?_ ?_ _ _))
  have c00 : ∀ W', Below W.heap.size W W' → W'.cell? ⟨w.heap.size, 0, none⟩ = some (.int .i64 z) := fun W' h => by
    rw [h.cell (by subst hW; simp <;> omega)]; subst hW; simp [go_sem]
  have c01 : ∀ W', Below W.heap.size W W' → W'.cell? ⟨w.heap.size, 1, none⟩ = some (.int .i64 x) := fun W' h => by
    rw [h.cell (by subst hW; simp <;> omega)]; subst hW; simp [go_sem]
  have c02 : ∀ W', Below W.heap.size W W' → W'.cell? ⟨w.heap.size, 2, none⟩ = some (.int .i64 y) := fun W' h => by
    rw [h.cell (by subst hW; simp <;> omega)]; subst hW; simp [go_sem]
  have c03 : ∀ W', Below W.heap.size W W' → W'.cell? ⟨w.heap.size, 3, none⟩ = some (.int .i64 wd) := fun W' h => by
    rw [h.cell (by subst hW; simp <;> omega)]; subst hW; simp [go_sem]
  have c04 : ∀ W', Below W.heap.size W W' → W'.cell? ⟨w.heap.size, 4, none⟩ = some (.int .i64 ht) := fun W' h => by
    rw [h.cell (by subst hW; simp <;> omega)]; subst hW; simp [go_sem]
  clear hW
  have HB0 : Hid (Below w.heap.size w W) := hB0
  clear hB0
  have hr : Below W.heap.size W W := Below.refl _ _
  go_wp2_with (first
    | (go_at_call 20; refine (toCamera_any _ _ _ _ _ _).mono ?_; rintro e w' ⟨rfl, hb⟩; have hbn : Below W.heap.size W w' := (by (repeat (first | exact Below.refl _ _ | assumption | refine Below.drew ?_ | refine bl_alloc ?_ _ | refine bl_then ?_ (by assumption) | refine Below.setCell ?_ (by first | omega | (simp; done) | (simp; omega)) _ | refine bl_store ?_ ?_ _ _))))
    | (go_at_call 19; refine (spec_CameraFault_any _ _ _ _ _ _).mono ?_; rintro e w' ⟨rfl, hb⟩; have hbn : Below W.heap.size W w' := (by (repeat (first | exact Below.refl _ _ | assumption | refine Below.drew ?_ | refine bl_alloc ?_ _ | refine bl_then ?_ (by assumption) | refine Below.setCell ?_ (by first | omega | (simp; done) | (simp; omega)) _ | refine bl_store ?_ ?_ _ _))))
    | (go_at_call 18; refine (impl_CameraFault_any _ _ _ _ _ _).mono ?_; rintro e w' ⟨rfl, hb⟩; have hbn : Below W.heap.size W w' := (by (repeat (first | exact Below.refl _ _ | assumption | refine Below.drew ?_ | refine bl_alloc ?_ _ | refine bl_then ?_ (by assumption) | refine Below.setCell ?_ (by first | omega | (simp; done) | (simp; omega)) _ | refine bl_store ?_ ?_ _ _)))))
  go_ret
  exact ⟨rfl, by have HB1 := HB0.out; (repeat (first | exact Below.refl _ _ | assumption | refine Below.drew ?_ | refine bl_alloc ?_ _ | refine bl_then ?_ (by assumption) | refine Below.setCell ?_ (by first | omega | (simp; done) | (simp; omega)) _ | refine bl_store ?_ ?_ _ _))⟩
theorem crV_if {c : Prop} [Decidable c] {A B : Value} (hA : ∃ c z x y wd ht : Int, A = crV c z x y wd ht) (hB : ∃ c z x y wd ht : Int, B = crV c z x y wd ht) : ∃ c' z x y wd ht : Int, (if c then A else B) = crV c' z x y wd ht := by
  split
  · exact hA
  · exact hB
set_option maxHeartbeats 4000000 in
theorem FnExactPanCamera_walk (z x y wd ht a b : Int) (w : World) : Calls Try.prog 5 #[camV z x y wd ht, .int .i64 a, .int .i64 b] w fun e w' => e = .returned (.bool true) ∧ Below w.heap.size w w' := by
  obtain ⟨k0, k1, k2, k3, k4, k5, hv⟩ : ∃ c z' x' y' wd' ht' : Int, panV z x y wd ht a b = crV c z' x' y' wd' ht' := by
    unfold panV
    exact crV_if (crV_if ⟨_, _, _, _, _, _, rfl⟩ ⟨_, _, _, _, _, _, rfl⟩) ⟨_, _, _, _, _, _, rfl⟩
  have s1 := fun w => spec_PanCamera_any z x y wd ht a b w
  have s2 := fun w => impl_PanCamera_any z x y wd ht a b w
  simp only [hv] at s1 s2
  clear hv
  go_enter Try.func5, Try.ntmps5
  go_wp2_with fail
  generalize hW : (w.alloc _ : World) = W
  have hB0 : Below w.heap.size w W := by subst hW; (repeat (first | exact Below.refl _ _ | assumption | refine Below.drew ?_ | refine bl_alloc ?_ _ | refine bl_then ?_ (by assumption) | refine Below.setCell ?_ (by first | omega | (simp; done) | (simp; omega)) _ | refine bl_store ?_ ?_ _ _))
  have c00 : ∀ W', Below W.heap.size W W' → W'.cell? ⟨w.heap.size, 0, none⟩ = some (.int .i64 z) := fun W' h => by
    rw [h.cell (by subst hW; simp <;> omega)]; subst hW; simp [go_sem]
  have c01 : ∀ W', Below W.heap.size W W' → W'.cell? ⟨w.heap.size, 1, none⟩ = some (.int .i64 x) := fun W' h => by
    rw [h.cell (by subst hW; simp <;> omega)]; subst hW; simp [go_sem]
  have c02 : ∀ W', Below W.heap.size W W' → W'.cell? ⟨w.heap.size, 2, none⟩ = some (.int .i64 y) := fun W' h => by
    rw [h.cell (by subst hW; simp <;> omega)]; subst hW; simp [go_sem]
  have c03 : ∀ W', Below W.heap.size W W' → W'.cell? ⟨w.heap.size, 3, none⟩ = some (.int .i64 wd) := fun W' h => by
    rw [h.cell (by subst hW; simp <;> omega)]; subst hW; simp [go_sem]
  have c04 : ∀ W', Below W.heap.size W W' → W'.cell? ⟨w.heap.size, 4, none⟩ = some (.int .i64 ht) := fun W' h => by
    rw [h.cell (by subst hW; simp <;> omega)]; subst hW; simp [go_sem]
  have HL : Hid (w.heap.size < W.heap.size) := by show _ < _; subst hW; simp
  clear hW
  have HB0 : Hid (Below w.heap.size w W) := hB0
  clear hB0
  refine (toCamera_any z x y wd ht _).mono ?_
  rintro e w1 ⟨rfl, hb1⟩
  go_wp2_with fail
  refine (s1 _).mono ?_
  rintro e w2 ⟨rfl, hb2⟩
  have hB2 : Below W.heap.size W w2 := bl_then hb1 hb2
  have hl2 : w.heap.size < w2.heap.size := Nat.lt_of_lt_of_le HL.out hB2.size
  have p0 := c00 w2 hB2
  have p1 := c01 w2 hB2
  have p2 := c02 w2 hB2
  have p3 := c03 w2 hB2
  have p4 := c04 w2 hB2
  clear hb1 hb2
  go_wp2_with fail
  generalize hV : (w2.alloc _ : World) = V
  have hBV : Below W.heap.size W V := by subst hV; exact bl_alloc hB2 _
  have HLV : Hid (w2.heap.size < V.heap.size) := by show _ < _; subst hV; simp
  have v0 : ∀ W', Below V.heap.size V W' → W'.cell? ⟨w2.heap.size, 0, none⟩ = some (.int .i64 k0) := fun W' h => by rw [h.cell (by subst hV; simp)]; subst hV; simp [go_sem]
  have v1 : ∀ W', Below V.heap.size V W' → W'.cell? ⟨w2.heap.size, 1, none⟩ = some (.int .i64 k1) := fun W' h => by rw [h.cell (by subst hV; simp)]; subst hV; simp [go_sem]
  have v2 : ∀ W', Below V.heap.size V W' → W'.cell? ⟨w2.heap.size, 2, none⟩ = some (.int .i64 k2) := fun W' h => by rw [h.cell (by subst hV; simp)]; subst hV; simp [go_sem]
  have v3 : ∀ W', Below V.heap.size V W' → W'.cell? ⟨w2.heap.size, 3, none⟩ = some (.int .i64 k3) := fun W' h => by rw [h.cell (by subst hV; simp)]; subst hV; simp [go_sem]
  have v4 : ∀ W', Below V.heap.size V W' → W'.cell? ⟨w2.heap.size, 4, none⟩ = some (.int .i64 k4) := fun W' h => by rw [h.cell (by subst hV; simp)]; subst hV; simp [go_sem]
  have v5 : ∀ W', Below V.heap.size V W' → W'.cell? ⟨w2.heap.size, 5, none⟩ = some (.int .i64 k5) := fun W' h => by rw [h.cell (by subst hV; simp)]; subst hV; simp [go_sem]
  clear hV hB2 p0 p1 p2 p3 p4
  refine (toCamera_any z x y wd ht _).mono ?_
  rintro e w3 ⟨rfl, hb3⟩
  go_wp2_with fail
  refine (s2 _).mono ?_
  rintro e w4 ⟨rfl, hb4⟩
  have hB4 : Below V.heap.size V w4 := bl_then hb3 hb4
  have HB4 : Hid (Below V.heap.size V w4) := hB4
  have r0 := v0 w4 hB4
  have r1 := v1 w4 hB4
  have r2 := v2 w4 hB4
  have r3 := v3 w4 hB4
  have r4 := v4 w4 hB4
  have r5 := v5 w4 hB4
  have hl4 : w2.heap.size < w4.heap.size := Nat.lt_of_lt_of_le HLV.out hB4.size
  clear hb3 hb4 v0 v1 v2 v3 v4 v5 c00 c01 c02 c03 c04 hB4
  go_wp2_with fail
  refine (eqCameraResult_any _ _ _ _ _ _ _).mono ?_
  rintro e w5 ⟨rfl, hb5⟩
  go_wp2
  go_ret
  refine ⟨rfl, ?_⟩
  have h1 := bl_then HB0.out hBV
  have h2 := bl_then h1 HB4.out
  exact bl_then (bl_alloc h2 _) hb5
set_option maxHeartbeats 4000000 in
theorem FnExactSizeCamera_walk (z x y wd ht a b : Int) (w : World) : Calls Try.prog 7 #[camV z x y wd ht, .int .i64 a, .int .i64 b] w fun e w' => e = .returned (.bool true) ∧ Below w.heap.size w w' := by
  obtain ⟨k0, k1, k2, k3, k4, k5, hv⟩ : ∃ c z' x' y' wd' ht' : Int, sizV z x y wd ht a b = crV c z' x' y' wd' ht' := by
    unfold sizV
    exact crV_if (crV_if ⟨_, _, _, _, _, _, rfl⟩ ⟨_, _, _, _, _, _, rfl⟩) ⟨_, _, _, _, _, _, rfl⟩
  have s1 := fun w => spec_SizeCamera_any z x y wd ht a b w
  have s2 := fun w => impl_SizeCamera_any z x y wd ht a b w
  simp only [hv] at s1 s2
  clear hv
  go_enter Try.func7, Try.ntmps7
  go_wp2_with fail
  generalize hW : (w.alloc _ : World) = W
  have hB0 : Below w.heap.size w W := by subst hW; (repeat (first | exact Below.refl _ _ | assumption | refine Below.drew ?_ | refine bl_alloc ?_ _ | refine bl_then ?_ (by assumption) | refine Below.setCell ?_ (by first | omega | (simp; done) | (simp; omega)) _ | refine bl_store ?_ ?_ _ _))
  have c00 : ∀ W', Below W.heap.size W W' → W'.cell? ⟨w.heap.size, 0, none⟩ = some (.int .i64 z) := fun W' h => by
    rw [h.cell (by subst hW; simp <;> omega)]; subst hW; simp [go_sem]
  have c01 : ∀ W', Below W.heap.size W W' → W'.cell? ⟨w.heap.size, 1, none⟩ = some (.int .i64 x) := fun W' h => by
    rw [h.cell (by subst hW; simp <;> omega)]; subst hW; simp [go_sem]
  have c02 : ∀ W', Below W.heap.size W W' → W'.cell? ⟨w.heap.size, 2, none⟩ = some (.int .i64 y) := fun W' h => by
    rw [h.cell (by subst hW; simp <;> omega)]; subst hW; simp [go_sem]
  have c03 : ∀ W', Below W.heap.size W W' → W'.cell? ⟨w.heap.size, 3, none⟩ = some (.int .i64 wd) := fun W' h => by
    rw [h.cell (by subst hW; simp <;> omega)]; subst hW; simp [go_sem]
  have c04 : ∀ W', Below W.heap.size W W' → W'.cell? ⟨w.heap.size, 4, none⟩ = some (.int .i64 ht) := fun W' h => by
    rw [h.cell (by subst hW; simp <;> omega)]; subst hW; simp [go_sem]
  have HL : Hid (w.heap.size < W.heap.size) := by show _ < _; subst hW; simp
  clear hW
  have HB0 : Hid (Below w.heap.size w W) := hB0
  clear hB0
  refine (toCamera_any z x y wd ht _).mono ?_
  rintro e w1 ⟨rfl, hb1⟩
  go_wp2_with fail
  refine (s1 _).mono ?_
  rintro e w2 ⟨rfl, hb2⟩
  have hB2 : Below W.heap.size W w2 := bl_then hb1 hb2
  have hl2 : w.heap.size < w2.heap.size := Nat.lt_of_lt_of_le HL.out hB2.size
  have p0 := c00 w2 hB2
  have p1 := c01 w2 hB2
  have p2 := c02 w2 hB2
  have p3 := c03 w2 hB2
  have p4 := c04 w2 hB2
  clear hb1 hb2
  go_wp2_with fail
  generalize hV : (w2.alloc _ : World) = V
  have hBV : Below W.heap.size W V := by subst hV; exact bl_alloc hB2 _
  have HLV : Hid (w2.heap.size < V.heap.size) := by show _ < _; subst hV; simp
  have v0 : ∀ W', Below V.heap.size V W' → W'.cell? ⟨w2.heap.size, 0, none⟩ = some (.int .i64 k0) := fun W' h => by rw [h.cell (by subst hV; simp)]; subst hV; simp [go_sem]
  have v1 : ∀ W', Below V.heap.size V W' → W'.cell? ⟨w2.heap.size, 1, none⟩ = some (.int .i64 k1) := fun W' h => by rw [h.cell (by subst hV; simp)]; subst hV; simp [go_sem]
  have v2 : ∀ W', Below V.heap.size V W' → W'.cell? ⟨w2.heap.size, 2, none⟩ = some (.int .i64 k2) := fun W' h => by rw [h.cell (by subst hV; simp)]; subst hV; simp [go_sem]
  have v3 : ∀ W', Below V.heap.size V W' → W'.cell? ⟨w2.heap.size, 3, none⟩ = some (.int .i64 k3) := fun W' h => by rw [h.cell (by subst hV; simp)]; subst hV; simp [go_sem]
  have v4 : ∀ W', Below V.heap.size V W' → W'.cell? ⟨w2.heap.size, 4, none⟩ = some (.int .i64 k4) := fun W' h => by rw [h.cell (by subst hV; simp)]; subst hV; simp [go_sem]
  have v5 : ∀ W', Below V.heap.size V W' → W'.cell? ⟨w2.heap.size, 5, none⟩ = some (.int .i64 k5) := fun W' h => by rw [h.cell (by subst hV; simp)]; subst hV; simp [go_sem]
  clear hV hB2 p0 p1 p2 p3 p4
  refine (toCamera_any z x y wd ht _).mono ?_
  rintro e w3 ⟨rfl, hb3⟩
  go_wp2_with fail
  refine (s2 _).mono ?_
  rintro e w4 ⟨rfl, hb4⟩
  have hB4 : Below V.heap.size V w4 := bl_then hb3 hb4
  have HB4 : Hid (Below V.heap.size V w4) := hB4
  have r0 := v0 w4 hB4
  have r1 := v1 w4 hB4
  have r2 := v2 w4 hB4
  have r3 := v3 w4 hB4
  have r4 := v4 w4 hB4
  have r5 := v5 w4 hB4
  have hl4 : w2.heap.size < w4.heap.size := Nat.lt_of_lt_of_le HLV.out hB4.size
  clear hb3 hb4 v0 v1 v2 v3 v4 v5 c00 c01 c02 c03 c04 hB4
  go_wp2_with fail
  refine (eqCameraResult_any _ _ _ _ _ _ _).mono ?_
  rintro e w5 ⟨rfl, hb5⟩
  go_wp2
  go_ret
  refine ⟨rfl, ?_⟩
  have h1 := bl_then HB0.out hBV
  have h2 := bl_then h1 HB4.out
  exact bl_then (bl_alloc h2 _) hb5
end Go.Proofs.Ytkejjfdfofojoaa
