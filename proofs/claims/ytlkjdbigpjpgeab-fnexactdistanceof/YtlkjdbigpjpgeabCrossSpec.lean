/- CrossOf and DistanceOf of the model: what they answer. -/
import Derived.Test.YtlkjdbigpjpgeabLeaf
import Derived.Test.YtlkjdbigpjpgeabReg
namespace Go.Proofs.Ytlkjdbigpjpgeab
open Go.RowKit
set_option linter.unusedSimpArgs false
set_option linter.unusedVariables false

set_option maxHeartbeats 1000000 in
theorem spec_CrossOf_0 (mx my nx ny ox oy : Int) (w : World) (h0 : okP mx my = false) :
    Calls Try.prog 9 #[.agg #[.int .i64 mx, .int .i64 my], .agg #[.int .i64 nx, .int .i64 ny], .agg #[.int .i64 ox, .int .i64 oy]] w fun e w' => e = .returned (.agg #[.int .i64 3, .int .i64 0]) ∧ Below w.heap.size w w' := by
  have H0 : Hid _ := h0
  have k0 := codeP_no h0
  clear h0
  go_enter Try.func9, Try.ntmps9
  go_wp2_with fail
  generalize hW : (((((w.alloc _).alloc _).alloc _).alloc _) : World) = W
  have hB0 : Below w.heap.size w W := by subst hW; (repeat (first | exact Below.refl _ _ | assumption | refine Below.drew ?_ | refine bl_alloc ?_ _ | refine bl_then ?_ (by assumption) | refine Below.setCell ?_ (by first | omega | (simp; done) | (simp; omega)) _ | refine bl_store ?_ ?_ _ _))
  have c00 : ∀ W', Below W.heap.size W W' → W'.cell? ⟨w.heap.size, 0, none⟩ = some (.int .i64 mx) := fun W' h => by
    rw [h.cell (by subst hW; simp <;> omega)]; subst hW; simp [go_sem]
  have c01 : ∀ W', Below W.heap.size W W' → W'.cell? ⟨w.heap.size, 1, none⟩ = some (.int .i64 my) := fun W' h => by
    rw [h.cell (by subst hW; simp <;> omega)]; subst hW; simp [go_sem]
  have c10 : ∀ W', Below W.heap.size W W' → W'.cell? ⟨w.heap.size + 1, 0, none⟩ = some (.int .i64 nx) := fun W' h => by
    rw [h.cell (by subst hW; simp <;> omega)]; subst hW; simp [go_sem]
  have c11 : ∀ W', Below W.heap.size W W' → W'.cell? ⟨w.heap.size + 1, 1, none⟩ = some (.int .i64 ny) := fun W' h => by
    rw [h.cell (by subst hW; simp <;> omega)]; subst hW; simp [go_sem]
  have c20 : ∀ W', Below W.heap.size W W' → W'.cell? ⟨w.heap.size + 1 + 1, 0, none⟩ = some (.int .i64 ox) := fun W' h => by
    rw [h.cell (by subst hW; simp <;> omega)]; subst hW; simp [go_sem]
  have c21 : ∀ W', Below W.heap.size W W' → W'.cell? ⟨w.heap.size + 1 + 1, 1, none⟩ = some (.int .i64 oy) := fun W' h => by
    rw [h.cell (by subst hW; simp <;> omega)]; subst hW; simp [go_sem]
  have c30 : ∀ W', Below W.heap.size W W' → W'.cell? ⟨w.heap.size + 1 + 1 + 1, 0, none⟩ = some (.int .i64 0) := fun W' h => by
    rw [h.cell (by subst hW; simp <;> omega)]; subst hW; simp [go_sem]
  have c31 : ∀ W', Below W.heap.size W W' → W'.cell? ⟨w.heap.size + 1 + 1 + 1, 1, none⟩ = some (.int .i64 0) := fun W' h => by
    rw [h.cell (by subst hW; simp <;> omega)]; subst hW; simp [go_sem]
  have z30 : ∀ W', Below W.heap.size W W' → W'.frozen? ⟨w.heap.size + 1 + 1 + 1, 0, none⟩ = false := fun W' h => by
    rw [h.frozen (by subst hW; simp <;> omega)]; subst hW; simp [go_sem]
  have z31 : ∀ W', Below W.heap.size W W' → W'.frozen? ⟨w.heap.size + 1 + 1 + 1, 1, none⟩ = false := fun W' h => by
    rw [h.frozen (by subst hW; simp <;> omega)]; subst hW; simp [go_sem]
  clear hW
  have HB0 : Hid (Below w.heap.size w W) := hB0
  clear hB0
  have hr : Below W.heap.size W W := Below.refl _ _
  go_wp2_with (go_at_call 28; refine (l1Fault_any _ _ _).mono ?_; rintro e w' ⟨rfl, hb⟩; have hbn : Below W.heap.size W w' := (by (repeat (first | exact Below.refl _ _ | assumption | refine Below.drew ?_ | refine bl_alloc ?_ _ | refine bl_then ?_ (by assumption) | refine Below.setCell ?_ (by first | omega | (simp; done) | (simp; omega)) _ | refine bl_store ?_ ?_ _ _))))
  refine bodyPost_ret (v := .agg #[.int .i64 3, .int .i64 0]) (by simp [results, Try.results9, go_sem, set2_0, set2_1, *]) rfl ⟨rfl, ?_⟩
  have HB1 := HB0.out
  (repeat (first | exact Below.refl _ _ | assumption | refine Below.drew ?_ | refine bl_alloc ?_ _ | refine bl_then ?_ (by assumption) | refine Below.setCell ?_ (by first | omega | (simp; done) | (simp; omega)) _ | refine bl_store ?_ ?_ _ _))

set_option maxHeartbeats 1000000 in
theorem spec_CrossOf_1 (mx my nx ny ox oy : Int) (w : World) (h0 : okP mx my = true) (h1 : okP nx ny = false) :
    Calls Try.prog 9 #[.agg #[.int .i64 mx, .int .i64 my], .agg #[.int .i64 nx, .int .i64 ny], .agg #[.int .i64 ox, .int .i64 oy]] w fun e w' => e = .returned (.agg #[.int .i64 3, .int .i64 0]) ∧ Below w.heap.size w w' := by
  have H0 : Hid _ := h0
  have k0 := codeP_ok h0
  clear h0
  have H1 : Hid _ := h1
  have k1 := codeP_no h1
  clear h1
  go_enter Try.func9, Try.ntmps9
  go_wp2_with fail
  generalize hW : (((((w.alloc _).alloc _).alloc _).alloc _) : World) = W
  have hB0 : Below w.heap.size w W := by subst hW; (repeat (first | exact Below.refl _ _ | assumption | refine Below.drew ?_ | refine bl_alloc ?_ _ | refine bl_then ?_ (by assumption) | refine Below.setCell ?_ (by first | omega | (simp; done) | (simp; omega)) _ | refine bl_store ?_ ?_ _ _))
  have c00 : ∀ W', Below W.heap.size W W' → W'.cell? ⟨w.heap.size, 0, none⟩ = some (.int .i64 mx) := fun W' h => by
    rw [h.cell (by subst hW; simp <;> omega)]; subst hW; simp [go_sem]
  have c01 : ∀ W', Below W.heap.size W W' → W'.cell? ⟨w.heap.size, 1, none⟩ = some (.int .i64 my) := fun W' h => by
    rw [h.cell (by subst hW; simp <;> omega)]; subst hW; simp [go_sem]
  have c10 : ∀ W', Below W.heap.size W W' → W'.cell? ⟨w.heap.size + 1, 0, none⟩ = some (.int .i64 nx) := fun W' h => by
    rw [h.cell (by subst hW; simp <;> omega)]; subst hW; simp [go_sem]
  have c11 : ∀ W', Below W.heap.size W W' → W'.cell? ⟨w.heap.size + 1, 1, none⟩ = some (.int .i64 ny) := fun W' h => by
    rw [h.cell (by subst hW; simp <;> omega)]; subst hW; simp [go_sem]
  have c20 : ∀ W', Below W.heap.size W W' → W'.cell? ⟨w.heap.size + 1 + 1, 0, none⟩ = some (.int .i64 ox) := fun W' h => by
    rw [h.cell (by subst hW; simp <;> omega)]; subst hW; simp [go_sem]
  have c21 : ∀ W', Below W.heap.size W W' → W'.cell? ⟨w.heap.size + 1 + 1, 1, none⟩ = some (.int .i64 oy) := fun W' h => by
    rw [h.cell (by subst hW; simp <;> omega)]; subst hW; simp [go_sem]
  have c30 : ∀ W', Below W.heap.size W W' → W'.cell? ⟨w.heap.size + 1 + 1 + 1, 0, none⟩ = some (.int .i64 0) := fun W' h => by
    rw [h.cell (by subst hW; simp <;> omega)]; subst hW; simp [go_sem]
  have c31 : ∀ W', Below W.heap.size W W' → W'.cell? ⟨w.heap.size + 1 + 1 + 1, 1, none⟩ = some (.int .i64 0) := fun W' h => by
    rw [h.cell (by subst hW; simp <;> omega)]; subst hW; simp [go_sem]
  have z30 : ∀ W', Below W.heap.size W W' → W'.frozen? ⟨w.heap.size + 1 + 1 + 1, 0, none⟩ = false := fun W' h => by
    rw [h.frozen (by subst hW; simp <;> omega)]; subst hW; simp [go_sem]
  have z31 : ∀ W', Below W.heap.size W W' → W'.frozen? ⟨w.heap.size + 1 + 1 + 1, 1, none⟩ = false := fun W' h => by
    rw [h.frozen (by subst hW; simp <;> omega)]; subst hW; simp [go_sem]
  clear hW
  have HB0 : Hid (Below w.heap.size w W) := hB0
  clear hB0
  have hr : Below W.heap.size W W := Below.refl _ _
  go_wp2_with (go_at_call 28; refine (l1Fault_any _ _ _).mono ?_; rintro e w' ⟨rfl, hb⟩; have hbn : Below W.heap.size W w' := (by (repeat (first | exact Below.refl _ _ | assumption | refine Below.drew ?_ | refine bl_alloc ?_ _ | refine bl_then ?_ (by assumption) | refine Below.setCell ?_ (by first | omega | (simp; done) | (simp; omega)) _ | refine bl_store ?_ ?_ _ _))))
  refine bodyPost_ret (v := .agg #[.int .i64 3, .int .i64 0]) (by simp [results, Try.results9, go_sem, set2_0, set2_1, *]) rfl ⟨rfl, ?_⟩
  have HB1 := HB0.out
  (repeat (first | exact Below.refl _ _ | assumption | refine Below.drew ?_ | refine bl_alloc ?_ _ | refine bl_then ?_ (by assumption) | refine Below.setCell ?_ (by first | omega | (simp; done) | (simp; omega)) _ | refine bl_store ?_ ?_ _ _))

set_option maxHeartbeats 1000000 in
theorem spec_CrossOf_2 (mx my nx ny ox oy : Int) (w : World) (h0 : okP mx my = true) (h1 : okP nx ny = true) (h2 : okP ox oy = false) :
    Calls Try.prog 9 #[.agg #[.int .i64 mx, .int .i64 my], .agg #[.int .i64 nx, .int .i64 ny], .agg #[.int .i64 ox, .int .i64 oy]] w fun e w' => e = .returned (.agg #[.int .i64 3, .int .i64 0]) ∧ Below w.heap.size w w' := by
  have H0 : Hid _ := h0
  have k0 := codeP_ok h0
  clear h0
  have H1 : Hid _ := h1
  have k1 := codeP_ok h1
  clear h1
  have H2 : Hid _ := h2
  have k2 := codeP_no h2
  clear h2
  go_enter Try.func9, Try.ntmps9
  go_wp2_with fail
  generalize hW : (((((w.alloc _).alloc _).alloc _).alloc _) : World) = W
  have hB0 : Below w.heap.size w W := by subst hW; (repeat (first | exact Below.refl _ _ | assumption | refine Below.drew ?_ | refine bl_alloc ?_ _ | refine bl_then ?_ (by assumption) | refine Below.setCell ?_ (by first | omega | (simp; done) | (simp; omega)) _ | refine bl_store ?_ ?_ _ _))
  have c00 : ∀ W', Below W.heap.size W W' → W'.cell? ⟨w.heap.size, 0, none⟩ = some (.int .i64 mx) := fun W' h => by
    rw [h.cell (by subst hW; simp <;> omega)]; subst hW; simp [go_sem]
  have c01 : ∀ W', Below W.heap.size W W' → W'.cell? ⟨w.heap.size, 1, none⟩ = some (.int .i64 my) := fun W' h => by
    rw [h.cell (by subst hW; simp <;> omega)]; subst hW; simp [go_sem]
  have c10 : ∀ W', Below W.heap.size W W' → W'.cell? ⟨w.heap.size + 1, 0, none⟩ = some (.int .i64 nx) := fun W' h => by
    rw [h.cell (by subst hW; simp <;> omega)]; subst hW; simp [go_sem]
  have c11 : ∀ W', Below W.heap.size W W' → W'.cell? ⟨w.heap.size + 1, 1, none⟩ = some (.int .i64 ny) := fun W' h => by
    rw [h.cell (by subst hW; simp <;> omega)]; subst hW; simp [go_sem]
  have c20 : ∀ W', Below W.heap.size W W' → W'.cell? ⟨w.heap.size + 1 + 1, 0, none⟩ = some (.int .i64 ox) := fun W' h => by
    rw [h.cell (by subst hW; simp <;> omega)]; subst hW; simp [go_sem]
  have c21 : ∀ W', Below W.heap.size W W' → W'.cell? ⟨w.heap.size + 1 + 1, 1, none⟩ = some (.int .i64 oy) := fun W' h => by
    rw [h.cell (by subst hW; simp <;> omega)]; subst hW; simp [go_sem]
  have c30 : ∀ W', Below W.heap.size W W' → W'.cell? ⟨w.heap.size + 1 + 1 + 1, 0, none⟩ = some (.int .i64 0) := fun W' h => by
    rw [h.cell (by subst hW; simp <;> omega)]; subst hW; simp [go_sem]
  have c31 : ∀ W', Below W.heap.size W W' → W'.cell? ⟨w.heap.size + 1 + 1 + 1, 1, none⟩ = some (.int .i64 0) := fun W' h => by
    rw [h.cell (by subst hW; simp <;> omega)]; subst hW; simp [go_sem]
  have z30 : ∀ W', Below W.heap.size W W' → W'.frozen? ⟨w.heap.size + 1 + 1 + 1, 0, none⟩ = false := fun W' h => by
    rw [h.frozen (by subst hW; simp <;> omega)]; subst hW; simp [go_sem]
  have z31 : ∀ W', Below W.heap.size W W' → W'.frozen? ⟨w.heap.size + 1 + 1 + 1, 1, none⟩ = false := fun W' h => by
    rw [h.frozen (by subst hW; simp <;> omega)]; subst hW; simp [go_sem]
  clear hW
  have HB0 : Hid (Below w.heap.size w W) := hB0
  clear hB0
  have hr : Below W.heap.size W W := Below.refl _ _
  go_wp2_with (go_at_call 28; refine (l1Fault_any _ _ _).mono ?_; rintro e w' ⟨rfl, hb⟩; have hbn : Below W.heap.size W w' := (by (repeat (first | exact Below.refl _ _ | assumption | refine Below.drew ?_ | refine bl_alloc ?_ _ | refine bl_then ?_ (by assumption) | refine Below.setCell ?_ (by first | omega | (simp; done) | (simp; omega)) _ | refine bl_store ?_ ?_ _ _))))
  refine bodyPost_ret (v := .agg #[.int .i64 3, .int .i64 0]) (by simp [results, Try.results9, go_sem, set2_0, set2_1, *]) rfl ⟨rfl, ?_⟩
  have HB1 := HB0.out
  (repeat (first | exact Below.refl _ _ | assumption | refine Below.drew ?_ | refine bl_alloc ?_ _ | refine bl_then ?_ (by assumption) | refine Below.setCell ?_ (by first | omega | (simp; done) | (simp; omega)) _ | refine bl_store ?_ ?_ _ _))

set_option maxHeartbeats 1000000 in
theorem spec_CrossOf_3 (mx my nx ny ox oy : Int) (w : World) (h0 : okP mx my = true) (h1 : okP nx ny = true) (h2 : okP ox oy = true) :
    Calls Try.prog 9 #[.agg #[.int .i64 mx, .int .i64 my], .agg #[.int .i64 nx, .int .i64 ny], .agg #[.int .i64 ox, .int .i64 oy]] w fun e w' => e = .returned (.agg #[.int .i64 0, .int .i64 (crossI mx my nx ny ox oy)]) ∧ Below w.heap.size w w' := by
  have H0 : Hid _ := h0
  have k0 := codeP_ok h0
  clear h0
  have H1 : Hid _ := h1
  have k1 := codeP_ok h1
  clear h1
  have H2 : Hid _ := h2
  have k2 := codeP_ok h2
  clear h2
  go_enter Try.func9, Try.ntmps9
  go_wp2_with fail
  generalize hW : (((((w.alloc _).alloc _).alloc _).alloc _) : World) = W
  have hB0 : Below w.heap.size w W := by subst hW; (repeat (first | exact Below.refl _ _ | assumption | refine Below.drew ?_ | refine bl_alloc ?_ _ | refine bl_then ?_ (by assumption) | refine Below.setCell ?_ (by first | omega | (simp; done) | (simp; omega)) _ | refine bl_store ?_ ?_ _ _))
  have c00 : ∀ W', Below W.heap.size W W' → W'.cell? ⟨w.heap.size, 0, none⟩ = some (.int .i64 mx) := fun W' h => by
    rw [h.cell (by subst hW; simp <;> omega)]; subst hW; simp [go_sem]
  have c01 : ∀ W', Below W.heap.size W W' → W'.cell? ⟨w.heap.size, 1, none⟩ = some (.int .i64 my) := fun W' h => by
    rw [h.cell (by subst hW; simp <;> omega)]; subst hW; simp [go_sem]
  have c10 : ∀ W', Below W.heap.size W W' → W'.cell? ⟨w.heap.size + 1, 0, none⟩ = some (.int .i64 nx) := fun W' h => by
    rw [h.cell (by subst hW; simp <;> omega)]; subst hW; simp [go_sem]
  have c11 : ∀ W', Below W.heap.size W W' → W'.cell? ⟨w.heap.size + 1, 1, none⟩ = some (.int .i64 ny) := fun W' h => by
    rw [h.cell (by subst hW; simp <;> omega)]; subst hW; simp [go_sem]
  have c20 : ∀ W', Below W.heap.size W W' → W'.cell? ⟨w.heap.size + 1 + 1, 0, none⟩ = some (.int .i64 ox) := fun W' h => by
    rw [h.cell (by subst hW; simp <;> omega)]; subst hW; simp [go_sem]
  have c21 : ∀ W', Below W.heap.size W W' → W'.cell? ⟨w.heap.size + 1 + 1, 1, none⟩ = some (.int .i64 oy) := fun W' h => by
    rw [h.cell (by subst hW; simp <;> omega)]; subst hW; simp [go_sem]
  have c30 : ∀ W', Below W.heap.size W W' → W'.cell? ⟨w.heap.size + 1 + 1 + 1, 0, none⟩ = some (.int .i64 0) := fun W' h => by
    rw [h.cell (by subst hW; simp <;> omega)]; subst hW; simp [go_sem]
  have c31 : ∀ W', Below W.heap.size W W' → W'.cell? ⟨w.heap.size + 1 + 1 + 1, 1, none⟩ = some (.int .i64 0) := fun W' h => by
    rw [h.cell (by subst hW; simp <;> omega)]; subst hW; simp [go_sem]
  have z30 : ∀ W', Below W.heap.size W W' → W'.frozen? ⟨w.heap.size + 1 + 1 + 1, 0, none⟩ = false := fun W' h => by
    rw [h.frozen (by subst hW; simp <;> omega)]; subst hW; simp [go_sem]
  have z31 : ∀ W', Below W.heap.size W W' → W'.frozen? ⟨w.heap.size + 1 + 1 + 1, 1, none⟩ = false := fun W' h => by
    rw [h.frozen (by subst hW; simp <;> omega)]; subst hW; simp [go_sem]
  clear hW
  have HB0 : Hid (Below w.heap.size w W) := hB0
  clear hB0
  have hr : Below W.heap.size W W := Below.refl _ _
  go_wp2_with (first
    | (go_at_call 28; refine (l1Fault_any _ _ _).mono ?_; rintro e w' ⟨rfl, hb⟩; have hbn : Below W.heap.size W w' := (by (repeat (first | exact Below.refl _ _ | assumption | refine Below.drew ?_ | refine bl_alloc ?_ _ | refine bl_then ?_ (by assumption) | refine Below.setCell ?_ (by first | omega | (simp; done) | (simp; omega)) _ | refine bl_store ?_ ?_ _ _))))
    | (go_at_call 29; refine (l1Cross_any _ _ _ _ _ _ _ H0.out H1.out H2.out).mono ?_; rintro e w' ⟨rfl, hb⟩; have hbn : Below W.heap.size W w' := (by (repeat (first | exact Below.refl _ _ | assumption | refine Below.drew ?_ | refine bl_alloc ?_ _ | refine bl_then ?_ (by assumption) | refine Below.setCell ?_ (by first | omega | (simp; done) | (simp; omega)) _ | refine bl_store ?_ ?_ _ _)))))
  refine bodyPost_ret (v := .agg #[.int .i64 0, .int .i64 (crossI mx my nx ny ox oy)]) (by simp [results, Try.results9, go_sem, set2_0, set2_1, *]) rfl ⟨rfl, ?_⟩
  have HB1 := HB0.out
  (repeat (first | exact Below.refl _ _ | assumption | refine Below.drew ?_ | refine bl_alloc ?_ _ | refine bl_then ?_ (by assumption) | refine Below.setCell ?_ (by first | omega | (simp; done) | (simp; omega)) _ | refine bl_store ?_ ?_ _ _))

set_option maxHeartbeats 1000000 in
theorem spec_DistanceOf_0 (mx my nx ny : Int) (w : World) (h0 : okP mx my = false) :
    Calls Try.prog 13 #[.agg #[.int .i64 mx, .int .i64 my], .agg #[.int .i64 nx, .int .i64 ny]] w fun e w' => e = .returned (.agg #[.int .i64 3, .int .i64 0]) ∧ Below w.heap.size w w' := by
  have H0 : Hid _ := h0
  have k0 := codeP_no h0
  clear h0
  go_enter Try.func13, Try.ntmps13
  go_wp2_with fail
  generalize hW : ((((w.alloc _).alloc _).alloc _) : World) = W
  have hB0 : Below w.heap.size w W := by subst hW; (repeat (first | exact Below.refl _ _ | assumption | refine Below.drew ?_ | refine bl_alloc ?_ _ | refine bl_then ?_ (by assumption) | refine Below.setCell ?_ (by first | omega | (simp; done) | (simp; omega)) _ | refine bl_store ?_ ?_ _ _))
  have c00 : ∀ W', Below W.heap.size W W' → W'.cell? ⟨w.heap.size, 0, none⟩ = some (.int .i64 mx) := fun W' h => by
    rw [h.cell (by subst hW; simp <;> omega)]; subst hW; simp [go_sem]
  have c01 : ∀ W', Below W.heap.size W W' → W'.cell? ⟨w.heap.size, 1, none⟩ = some (.int .i64 my) := fun W' h => by
    rw [h.cell (by subst hW; simp <;> omega)]; subst hW; simp [go_sem]
  have c10 : ∀ W', Below W.heap.size W W' → W'.cell? ⟨w.heap.size + 1, 0, none⟩ = some (.int .i64 nx) := fun W' h => by
    rw [h.cell (by subst hW; simp <;> omega)]; subst hW; simp [go_sem]
  have c11 : ∀ W', Below W.heap.size W W' → W'.cell? ⟨w.heap.size + 1, 1, none⟩ = some (.int .i64 ny) := fun W' h => by
    rw [h.cell (by subst hW; simp <;> omega)]; subst hW; simp [go_sem]
  have c20 : ∀ W', Below W.heap.size W W' → W'.cell? ⟨w.heap.size + 1 + 1, 0, none⟩ = some (.int .i64 0) := fun W' h => by
    rw [h.cell (by subst hW; simp <;> omega)]; subst hW; simp [go_sem]
  have c21 : ∀ W', Below W.heap.size W W' → W'.cell? ⟨w.heap.size + 1 + 1, 1, none⟩ = some (.int .i64 0) := fun W' h => by
    rw [h.cell (by subst hW; simp <;> omega)]; subst hW; simp [go_sem]
  have z20 : ∀ W', Below W.heap.size W W' → W'.frozen? ⟨w.heap.size + 1 + 1, 0, none⟩ = false := fun W' h => by
    rw [h.frozen (by subst hW; simp <;> omega)]; subst hW; simp [go_sem]
  have z21 : ∀ W', Below W.heap.size W W' → W'.frozen? ⟨w.heap.size + 1 + 1, 1, none⟩ = false := fun W' h => by
    rw [h.frozen (by subst hW; simp <;> omega)]; subst hW; simp [go_sem]
  clear hW
  have HB0 : Hid (Below w.heap.size w W) := hB0
  clear hB0
  have hr : Below W.heap.size W W := Below.refl _ _
  go_wp2_with (go_at_call 28; refine (l1Fault_any _ _ _).mono ?_; rintro e w' ⟨rfl, hb⟩; have hbn : Below W.heap.size W w' := (by (repeat (first | exact Below.refl _ _ | assumption | refine Below.drew ?_ | refine bl_alloc ?_ _ | refine bl_then ?_ (by assumption) | refine Below.setCell ?_ (by first | omega | (simp; done) | (simp; omega)) _ | refine bl_store ?_ ?_ _ _))))
  refine bodyPost_ret (v := .agg #[.int .i64 3, .int .i64 0]) (by simp [results, Try.results13, go_sem, set2_0, set2_1, *]) rfl ⟨rfl, ?_⟩
  have HB1 := HB0.out
  (repeat (first | exact Below.refl _ _ | assumption | refine Below.drew ?_ | refine bl_alloc ?_ _ | refine bl_then ?_ (by assumption) | refine Below.setCell ?_ (by first | omega | (simp; done) | (simp; omega)) _ | refine bl_store ?_ ?_ _ _))

set_option maxHeartbeats 1000000 in
theorem spec_DistanceOf_1 (mx my nx ny : Int) (w : World) (h0 : okP mx my = true) (h1 : okP nx ny = false) :
    Calls Try.prog 13 #[.agg #[.int .i64 mx, .int .i64 my], .agg #[.int .i64 nx, .int .i64 ny]] w fun e w' => e = .returned (.agg #[.int .i64 3, .int .i64 0]) ∧ Below w.heap.size w w' := by
  have H0 : Hid _ := h0
  have k0 := codeP_ok h0
  clear h0
  have H1 : Hid _ := h1
  have k1 := codeP_no h1
  clear h1
  go_enter Try.func13, Try.ntmps13
  go_wp2_with fail
  generalize hW : ((((w.alloc _).alloc _).alloc _) : World) = W
  have hB0 : Below w.heap.size w W := by subst hW; (repeat (first | exact Below.refl _ _ | assumption | refine Below.drew ?_ | refine bl_alloc ?_ _ | refine bl_then ?_ (by assumption) | refine Below.setCell ?_ (by first | omega | (simp; done) | (simp; omega)) _ | refine bl_store ?_ ?_ _ _))
  have c00 : ∀ W', Below W.heap.size W W' → W'.cell? ⟨w.heap.size, 0, none⟩ = some (.int .i64 mx) := fun W' h => by
    rw [h.cell (by subst hW; simp <;> omega)]; subst hW; simp [go_sem]
  have c01 : ∀ W', Below W.heap.size W W' → W'.cell? ⟨w.heap.size, 1, none⟩ = some (.int .i64 my) := fun W' h => by
    rw [h.cell (by subst hW; simp <;> omega)]; subst hW; simp [go_sem]
  have c10 : ∀ W', Below W.heap.size W W' → W'.cell? ⟨w.heap.size + 1, 0, none⟩ = some (.int .i64 nx) := fun W' h => by
    rw [h.cell (by subst hW; simp <;> omega)]; subst hW; simp [go_sem]
  have c11 : ∀ W', Below W.heap.size W W' → W'.cell? ⟨w.heap.size + 1, 1, none⟩ = some (.int .i64 ny) := fun W' h => by
    rw [h.cell (by subst hW; simp <;> omega)]; subst hW; simp [go_sem]
  have c20 : ∀ W', Below W.heap.size W W' → W'.cell? ⟨w.heap.size + 1 + 1, 0, none⟩ = some (.int .i64 0) := fun W' h => by
    rw [h.cell (by subst hW; simp <;> omega)]; subst hW; simp [go_sem]
  have c21 : ∀ W', Below W.heap.size W W' → W'.cell? ⟨w.heap.size + 1 + 1, 1, none⟩ = some (.int .i64 0) := fun W' h => by
    rw [h.cell (by subst hW; simp <;> omega)]; subst hW; simp [go_sem]
  have z20 : ∀ W', Below W.heap.size W W' → W'.frozen? ⟨w.heap.size + 1 + 1, 0, none⟩ = false := fun W' h => by
    rw [h.frozen (by subst hW; simp <;> omega)]; subst hW; simp [go_sem]
  have z21 : ∀ W', Below W.heap.size W W' → W'.frozen? ⟨w.heap.size + 1 + 1, 1, none⟩ = false := fun W' h => by
    rw [h.frozen (by subst hW; simp <;> omega)]; subst hW; simp [go_sem]
  clear hW
  have HB0 : Hid (Below w.heap.size w W) := hB0
  clear hB0
  have hr : Below W.heap.size W W := Below.refl _ _
  go_wp2_with (go_at_call 28; refine (l1Fault_any _ _ _).mono ?_; rintro e w' ⟨rfl, hb⟩; have hbn : Below W.heap.size W w' := (by (repeat (first | exact Below.refl _ _ | assumption | refine Below.drew ?_ | refine bl_alloc ?_ _ | refine bl_then ?_ (by assumption) | refine Below.setCell ?_ (by first | omega | (simp; done) | (simp; omega)) _ | refine bl_store ?_ ?_ _ _))))
  refine bodyPost_ret (v := .agg #[.int .i64 3, .int .i64 0]) (by simp [results, Try.results13, go_sem, set2_0, set2_1, *]) rfl ⟨rfl, ?_⟩
  have HB1 := HB0.out
  (repeat (first | exact Below.refl _ _ | assumption | refine Below.drew ?_ | refine bl_alloc ?_ _ | refine bl_then ?_ (by assumption) | refine Below.setCell ?_ (by first | omega | (simp; done) | (simp; omega)) _ | refine bl_store ?_ ?_ _ _))

set_option maxHeartbeats 1000000 in
theorem spec_DistanceOf_2 (mx my nx ny : Int) (w : World) (h0 : okP mx my = true) (h1 : okP nx ny = true) :
    Calls Try.prog 13 #[.agg #[.int .i64 mx, .int .i64 my], .agg #[.int .i64 nx, .int .i64 ny]] w fun e w' => e = .returned (.agg #[.int .i64 0, .int .i64 (distI mx my nx ny)]) ∧ Below w.heap.size w w' := by
  have H0 : Hid _ := h0
  have k0 := codeP_ok h0
  clear h0
  have H1 : Hid _ := h1
  have k1 := codeP_ok h1
  clear h1
  go_enter Try.func13, Try.ntmps13
  go_wp2_with fail
  generalize hW : ((((w.alloc _).alloc _).alloc _) : World) = W
  have hB0 : Below w.heap.size w W := by subst hW; (repeat (first | exact Below.refl _ _ | assumption | refine Below.drew ?_ | refine bl_alloc ?_ _ | refine bl_then ?_ (by assumption) | refine Below.setCell ?_ (by first | omega | (simp; done) | (simp; omega)) _ | refine bl_store ?_ ?_ _ _))
  have c00 : ∀ W', Below W.heap.size W W' → W'.cell? ⟨w.heap.size, 0, none⟩ = some (.int .i64 mx) := fun W' h => by
    rw [h.cell (by subst hW; simp <;> omega)]; subst hW; simp [go_sem]
  have c01 : ∀ W', Below W.heap.size W W' → W'.cell? ⟨w.heap.size, 1, none⟩ = some (.int .i64 my) := fun W' h => by
    rw [h.cell (by subst hW; simp <;> omega)]; subst hW; simp [go_sem]
  have c10 : ∀ W', Below W.heap.size W W' → W'.cell? ⟨w.heap.size + 1, 0, none⟩ = some (.int .i64 nx) := fun W' h => by
    rw [h.cell (by subst hW; simp <;> omega)]; subst hW; simp [go_sem]
  have c11 : ∀ W', Below W.heap.size W W' → W'.cell? ⟨w.heap.size + 1, 1, none⟩ = some (.int .i64 ny) := fun W' h => by
    rw [h.cell (by subst hW; simp <;> omega)]; subst hW; simp [go_sem]
  have c20 : ∀ W', Below W.heap.size W W' → W'.cell? ⟨w.heap.size + 1 + 1, 0, none⟩ = some (.int .i64 0) := fun W' h => by
    rw [h.cell (by subst hW; simp <;> omega)]; subst hW; simp [go_sem]
  have c21 : ∀ W', Below W.heap.size W W' → W'.cell? ⟨w.heap.size + 1 + 1, 1, none⟩ = some (.int .i64 0) := fun W' h => by
    rw [h.cell (by subst hW; simp <;> omega)]; subst hW; simp [go_sem]
  have z20 : ∀ W', Below W.heap.size W W' → W'.frozen? ⟨w.heap.size + 1 + 1, 0, none⟩ = false := fun W' h => by
    rw [h.frozen (by subst hW; simp <;> omega)]; subst hW; simp [go_sem]
  have z21 : ∀ W', Below W.heap.size W W' → W'.frozen? ⟨w.heap.size + 1 + 1, 1, none⟩ = false := fun W' h => by
    rw [h.frozen (by subst hW; simp <;> omega)]; subst hW; simp [go_sem]
  clear hW
  have HB0 : Hid (Below w.heap.size w W) := hB0
  clear hB0
  have hr : Below W.heap.size W W := Below.refl _ _
  go_wp2_with (first
    | (go_at_call 28; refine (l1Fault_any _ _ _).mono ?_; rintro e w' ⟨rfl, hb⟩; have hbn : Below W.heap.size W w' := (by (repeat (first | exact Below.refl _ _ | assumption | refine Below.drew ?_ | refine bl_alloc ?_ _ | refine bl_then ?_ (by assumption) | refine Below.setCell ?_ (by first | omega | (simp; done) | (simp; omega)) _ | refine bl_store ?_ ?_ _ _))))
    | (go_at_call 33; refine (l1Distance_any _ _ _ _ _ H0.out H1.out).mono ?_; rintro e w' ⟨rfl, hb⟩; have hbn : Below W.heap.size W w' := (by (repeat (first | exact Below.refl _ _ | assumption | refine Below.drew ?_ | refine bl_alloc ?_ _ | refine bl_then ?_ (by assumption) | refine Below.setCell ?_ (by first | omega | (simp; done) | (simp; omega)) _ | refine bl_store ?_ ?_ _ _)))))
  refine bodyPost_ret (v := .agg #[.int .i64 0, .int .i64 (distI mx my nx ny)]) (by simp [results, Try.results13, go_sem, set2_0, set2_1, *]) rfl ⟨rfl, ?_⟩
  have HB1 := HB0.out
  (repeat (first | exact Below.refl _ _ | assumption | refine Below.drew ?_ | refine bl_alloc ?_ _ | refine bl_then ?_ (by assumption) | refine Below.setCell ?_ (by first | omega | (simp; done) | (simp; omega)) _ | refine bl_store ?_ ?_ _ _))
end Go.Proofs.Ytlkjdbigpjpgeab
