/- CrossOf and DistanceOf of the program: what they answer. -/
import Derived.Test.YtlkjdbigpjpgeabTurn
import Derived.Test.YtlkjdbigpjpgeabFault3
namespace Go.Proofs.Ytlkjdbigpjpgeab
open Go.RowKit
set_option linter.unusedSimpArgs false
set_option linter.unusedVariables false

set_option maxHeartbeats 2000000 in
theorem impl_CrossOf_0 (mx my nx ny ox oy : Int) (w : World) (h0 : okP mx my = false) :
    Calls Try.prog 11 #[.agg #[.int .i64 mx, .int .i64 my], .agg #[.int .i64 nx, .int .i64 ny], .agg #[.int .i64 ox, .int .i64 oy]] w fun e w' => e = .returned (.agg #[.int .i64 3, .int .i64 0]) ∧ Below w.heap.size w w' := by
  have HN : Hid _ := codeN3_0 mx my nx ny ox oy h0
  clear h0
  go_enter Try.func11, Try.ntmps11
  go_wp2_with fail
  generalize hV : ((((((w.alloc _).alloc _).alloc _).alloc _).alloc _) : World) = V
  have hB0 : Below w.heap.size w V := by subst hV; (repeat (first | exact Below.refl _ _ | assumption | refine Below.drew ?_ | refine bl_alloc ?_ _ | refine bl_then ?_ (by assumption) | refine Below.setCell ?_ (by first | omega | (simp; done) | (simp; omega)) _ | refine bl_store ?_ ?_ _ _))
  have g0 : V.cell? ⟨w.heap.size + 1 + 1 + 1 + 1, 0, none⟩ = some (.int .i64 mx) := by subst hV; simp [go_sem]
  have g1 : V.cell? ⟨w.heap.size + 1 + 1 + 1 + 1, 1, none⟩ = some (.int .i64 my) := by subst hV; simp [go_sem]
  have g2 : V.cell? ⟨w.heap.size + 1 + 1 + 1 + 1, 2, none⟩ = some (.int .i64 nx) := by subst hV; simp [go_sem]
  have g3 : V.cell? ⟨w.heap.size + 1 + 1 + 1 + 1, 3, none⟩ = some (.int .i64 ny) := by subst hV; simp [go_sem]
  have g4 : V.cell? ⟨w.heap.size + 1 + 1 + 1 + 1, 4, none⟩ = some (.int .i64 ox) := by subst hV; simp [go_sem]
  have g5 : V.cell? ⟨w.heap.size + 1 + 1 + 1 + 1, 5, none⟩ = some (.int .i64 oy) := by subst hV; simp [go_sem]
  have c00 : ∀ W', Below V.heap.size V W' → W'.cell? ⟨w.heap.size, 0, none⟩ = some (.int .i64 mx) := fun W' h => by
    rw [h.cell (by subst hV; simp <;> omega)]; subst hV; simp [go_sem]
  have c01 : ∀ W', Below V.heap.size V W' → W'.cell? ⟨w.heap.size, 1, none⟩ = some (.int .i64 my) := fun W' h => by
    rw [h.cell (by subst hV; simp <;> omega)]; subst hV; simp [go_sem]
  have c10 : ∀ W', Below V.heap.size V W' → W'.cell? ⟨w.heap.size + 1, 0, none⟩ = some (.int .i64 nx) := fun W' h => by
    rw [h.cell (by subst hV; simp <;> omega)]; subst hV; simp [go_sem]
  have c11 : ∀ W', Below V.heap.size V W' → W'.cell? ⟨w.heap.size + 1, 1, none⟩ = some (.int .i64 ny) := fun W' h => by
    rw [h.cell (by subst hV; simp <;> omega)]; subst hV; simp [go_sem]
  have c20 : ∀ W', Below V.heap.size V W' → W'.cell? ⟨w.heap.size + 1 + 1, 0, none⟩ = some (.int .i64 ox) := fun W' h => by
    rw [h.cell (by subst hV; simp <;> omega)]; subst hV; simp [go_sem]
  have c21 : ∀ W', Below V.heap.size V W' → W'.cell? ⟨w.heap.size + 1 + 1, 1, none⟩ = some (.int .i64 oy) := fun W' h => by
    rw [h.cell (by subst hV; simp <;> omega)]; subst hV; simp [go_sem]
  have r0 : ∀ W', Below V.heap.size V W' → W'.cell? ⟨w.heap.size + 1 + 1 + 1, 0, none⟩ = some (.int .i64 0) := fun W' h => by
    rw [h.cell (by subst hV; simp <;> omega)]; subst hV; simp [go_sem]
  have z0 : ∀ W', Below V.heap.size V W' → W'.frozen? ⟨w.heap.size + 1 + 1 + 1, 0, none⟩ = false := fun W' h => by
    rw [h.frozen (by subst hV; simp <;> omega)]; subst hV; simp [go_sem]
  have r1 : ∀ W', Below V.heap.size V W' → W'.cell? ⟨w.heap.size + 1 + 1 + 1, 1, none⟩ = some (.int .i64 0) := fun W' h => by
    rw [h.cell (by subst hV; simp <;> omega)]; subst hV; simp [go_sem]
  have z1 : ∀ W', Below V.heap.size V W' → W'.frozen? ⟨w.heap.size + 1 + 1 + 1, 1, none⟩ = false := fun W' h => by
    rw [h.frozen (by subst hV; simp <;> omega)]; subst hV; simp [go_sem]
  have hsz : w.heap.size + 1 + 1 + 1 ≤ V.heap.size := by subst hV; simp <;> omega
  clear hV
  have HB0 : Hid (Below w.heap.size w V) := hB0
  clear hB0
  refine (faultIn3 _ _ mx my nx ny ox oy _ _ g0 g1 g2 g3 g4 g5 (by omega) HN.out).mono ?_
  rintro e W ⟨rfl, hbW⟩
  have hr : Below V.heap.size V W := hbW
  clear g0 g1 g2 g3 g4 g5
  clear hbW
  go_wp2
  refine bodyPost_ret (v := .agg #[.int .i64 3, .int .i64 0]) (by simp [results, Try.results11, go_sem, set2_0, set2_1, *]) rfl ⟨rfl, ?_⟩
  have HB1 := HB0.out
  (repeat (first | exact Below.refl _ _ | assumption | refine Below.drew ?_ | refine bl_alloc ?_ _ | refine bl_then ?_ (by assumption) | refine Below.setCell ?_ (by first | omega | (simp; done) | (simp; omega)) _ | refine bl_store ?_ ?_ _ _))

set_option maxHeartbeats 2000000 in
theorem impl_CrossOf_1 (mx my nx ny ox oy : Int) (w : World) (h1 : okP nx ny = false) :
    Calls Try.prog 11 #[.agg #[.int .i64 mx, .int .i64 my], .agg #[.int .i64 nx, .int .i64 ny], .agg #[.int .i64 ox, .int .i64 oy]] w fun e w' => e = .returned (.agg #[.int .i64 3, .int .i64 0]) ∧ Below w.heap.size w w' := by
  have HN : Hid _ := codeN3_1 mx my nx ny ox oy h1
  clear h1
  go_enter Try.func11, Try.ntmps11
  go_wp2_with fail
  generalize hV : ((((((w.alloc _).alloc _).alloc _).alloc _).alloc _) : World) = V
  have hB0 : Below w.heap.size w V := by subst hV; (repeat (first | exact Below.refl _ _ | assumption | refine Below.drew ?_ | refine bl_alloc ?_ _ | refine bl_then ?_ (by assumption) | refine Below.setCell ?_ (by first | omega | (simp; done) | (simp; omega)) _ | refine bl_store ?_ ?_ _ _))
  have g0 : V.cell? ⟨w.heap.size + 1 + 1 + 1 + 1, 0, none⟩ = some (.int .i64 mx) := by subst hV; simp [go_sem]
  have g1 : V.cell? ⟨w.heap.size + 1 + 1 + 1 + 1, 1, none⟩ = some (.int .i64 my) := by subst hV; simp [go_sem]
  have g2 : V.cell? ⟨w.heap.size + 1 + 1 + 1 + 1, 2, none⟩ = some (.int .i64 nx) := by subst hV; simp [go_sem]
  have g3 : V.cell? ⟨w.heap.size + 1 + 1 + 1 + 1, 3, none⟩ = some (.int .i64 ny) := by subst hV; simp [go_sem]
  have g4 : V.cell? ⟨w.heap.size + 1 + 1 + 1 + 1, 4, none⟩ = some (.int .i64 ox) := by subst hV; simp [go_sem]
  have g5 : V.cell? ⟨w.heap.size + 1 + 1 + 1 + 1, 5, none⟩ = some (.int .i64 oy) := by subst hV; simp [go_sem]
  have c00 : ∀ W', Below V.heap.size V W' → W'.cell? ⟨w.heap.size, 0, none⟩ = some (.int .i64 mx) := fun W' h => by
    rw [h.cell (by subst hV; simp <;> omega)]; subst hV; simp [go_sem]
  have c01 : ∀ W', Below V.heap.size V W' → W'.cell? ⟨w.heap.size, 1, none⟩ = some (.int .i64 my) := fun W' h => by
    rw [h.cell (by subst hV; simp <;> omega)]; subst hV; simp [go_sem]
  have c10 : ∀ W', Below V.heap.size V W' → W'.cell? ⟨w.heap.size + 1, 0, none⟩ = some (.int .i64 nx) := fun W' h => by
    rw [h.cell (by subst hV; simp <;> omega)]; subst hV; simp [go_sem]
  have c11 : ∀ W', Below V.heap.size V W' → W'.cell? ⟨w.heap.size + 1, 1, none⟩ = some (.int .i64 ny) := fun W' h => by
    rw [h.cell (by subst hV; simp <;> omega)]; subst hV; simp [go_sem]
  have c20 : ∀ W', Below V.heap.size V W' → W'.cell? ⟨w.heap.size + 1 + 1, 0, none⟩ = some (.int .i64 ox) := fun W' h => by
    rw [h.cell (by subst hV; simp <;> omega)]; subst hV; simp [go_sem]
  have c21 : ∀ W', Below V.heap.size V W' → W'.cell? ⟨w.heap.size + 1 + 1, 1, none⟩ = some (.int .i64 oy) := fun W' h => by
    rw [h.cell (by subst hV; simp <;> omega)]; subst hV; simp [go_sem]
  have r0 : ∀ W', Below V.heap.size V W' → W'.cell? ⟨w.heap.size + 1 + 1 + 1, 0, none⟩ = some (.int .i64 0) := fun W' h => by
    rw [h.cell (by subst hV; simp <;> omega)]; subst hV; simp [go_sem]
  have z0 : ∀ W', Below V.heap.size V W' → W'.frozen? ⟨w.heap.size + 1 + 1 + 1, 0, none⟩ = false := fun W' h => by
    rw [h.frozen (by subst hV; simp <;> omega)]; subst hV; simp [go_sem]
  have r1 : ∀ W', Below V.heap.size V W' → W'.cell? ⟨w.heap.size + 1 + 1 + 1, 1, none⟩ = some (.int .i64 0) := fun W' h => by
    rw [h.cell (by subst hV; simp <;> omega)]; subst hV; simp [go_sem]
  have z1 : ∀ W', Below V.heap.size V W' → W'.frozen? ⟨w.heap.size + 1 + 1 + 1, 1, none⟩ = false := fun W' h => by
    rw [h.frozen (by subst hV; simp <;> omega)]; subst hV; simp [go_sem]
  have hsz : w.heap.size + 1 + 1 + 1 ≤ V.heap.size := by subst hV; simp <;> omega
  clear hV
  have HB0 : Hid (Below w.heap.size w V) := hB0
  clear hB0
  refine (faultIn3 _ _ mx my nx ny ox oy _ _ g0 g1 g2 g3 g4 g5 (by omega) HN.out).mono ?_
  rintro e W ⟨rfl, hbW⟩
  have hr : Below V.heap.size V W := hbW
  clear g0 g1 g2 g3 g4 g5
  clear hbW
  go_wp2
  refine bodyPost_ret (v := .agg #[.int .i64 3, .int .i64 0]) (by simp [results, Try.results11, go_sem, set2_0, set2_1, *]) rfl ⟨rfl, ?_⟩
  have HB1 := HB0.out
  (repeat (first | exact Below.refl _ _ | assumption | refine Below.drew ?_ | refine bl_alloc ?_ _ | refine bl_then ?_ (by assumption) | refine Below.setCell ?_ (by first | omega | (simp; done) | (simp; omega)) _ | refine bl_store ?_ ?_ _ _))

set_option maxHeartbeats 2000000 in
theorem impl_CrossOf_2 (mx my nx ny ox oy : Int) (w : World) (h2 : okP ox oy = false) :
    Calls Try.prog 11 #[.agg #[.int .i64 mx, .int .i64 my], .agg #[.int .i64 nx, .int .i64 ny], .agg #[.int .i64 ox, .int .i64 oy]] w fun e w' => e = .returned (.agg #[.int .i64 3, .int .i64 0]) ∧ Below w.heap.size w w' := by
  have HN : Hid _ := codeN3_2 mx my nx ny ox oy h2
  clear h2
  go_enter Try.func11, Try.ntmps11
  go_wp2_with fail
  generalize hV : ((((((w.alloc _).alloc _).alloc _).alloc _).alloc _) : World) = V
  have hB0 : Below w.heap.size w V := by subst hV; (repeat (first | exact Below.refl _ _ | assumption | refine Below.drew ?_ | refine bl_alloc ?_ _ | refine bl_then ?_ (by assumption) | refine Below.setCell ?_ (by first | omega | (simp; done) | (simp; omega)) _ | refine bl_store ?_ ?_ _ _))
  have g0 : V.cell? ⟨w.heap.size + 1 + 1 + 1 + 1, 0, none⟩ = some (.int .i64 mx) := by subst hV; simp [go_sem]
  have g1 : V.cell? ⟨w.heap.size + 1 + 1 + 1 + 1, 1, none⟩ = some (.int .i64 my) := by subst hV; simp [go_sem]
  have g2 : V.cell? ⟨w.heap.size + 1 + 1 + 1 + 1, 2, none⟩ = some (.int .i64 nx) := by subst hV; simp [go_sem]
  have g3 : V.cell? ⟨w.heap.size + 1 + 1 + 1 + 1, 3, none⟩ = some (.int .i64 ny) := by subst hV; simp [go_sem]
  have g4 : V.cell? ⟨w.heap.size + 1 + 1 + 1 + 1, 4, none⟩ = some (.int .i64 ox) := by subst hV; simp [go_sem]
  have g5 : V.cell? ⟨w.heap.size + 1 + 1 + 1 + 1, 5, none⟩ = some (.int .i64 oy) := by subst hV; simp [go_sem]
  have c00 : ∀ W', Below V.heap.size V W' → W'.cell? ⟨w.heap.size, 0, none⟩ = some (.int .i64 mx) := fun W' h => by
    rw [h.cell (by subst hV; simp <;> omega)]; subst hV; simp [go_sem]
  have c01 : ∀ W', Below V.heap.size V W' → W'.cell? ⟨w.heap.size, 1, none⟩ = some (.int .i64 my) := fun W' h => by
    rw [h.cell (by subst hV; simp <;> omega)]; subst hV; simp [go_sem]
  have c10 : ∀ W', Below V.heap.size V W' → W'.cell? ⟨w.heap.size + 1, 0, none⟩ = some (.int .i64 nx) := fun W' h => by
    rw [h.cell (by subst hV; simp <;> omega)]; subst hV; simp [go_sem]
  have c11 : ∀ W', Below V.heap.size V W' → W'.cell? ⟨w.heap.size + 1, 1, none⟩ = some (.int .i64 ny) := fun W' h => by
    rw [h.cell (by subst hV; simp <;> omega)]; subst hV; simp [go_sem]
  have c20 : ∀ W', Below V.heap.size V W' → W'.cell? ⟨w.heap.size + 1 + 1, 0, none⟩ = some (.int .i64 ox) := fun W' h => by
    rw [h.cell (by subst hV; simp <;> omega)]; subst hV; simp [go_sem]
  have c21 : ∀ W', Below V.heap.size V W' → W'.cell? ⟨w.heap.size + 1 + 1, 1, none⟩ = some (.int .i64 oy) := fun W' h => by
    rw [h.cell (by subst hV; simp <;> omega)]; subst hV; simp [go_sem]
  have r0 : ∀ W', Below V.heap.size V W' → W'.cell? ⟨w.heap.size + 1 + 1 + 1, 0, none⟩ = some (.int .i64 0) := fun W' h => by
    rw [h.cell (by subst hV; simp <;> omega)]; subst hV; simp [go_sem]
  have z0 : ∀ W', Below V.heap.size V W' → W'.frozen? ⟨w.heap.size + 1 + 1 + 1, 0, none⟩ = false := fun W' h => by
    rw [h.frozen (by subst hV; simp <;> omega)]; subst hV; simp [go_sem]
  have r1 : ∀ W', Below V.heap.size V W' → W'.cell? ⟨w.heap.size + 1 + 1 + 1, 1, none⟩ = some (.int .i64 0) := fun W' h => by
    rw [h.cell (by subst hV; simp <;> omega)]; subst hV; simp [go_sem]
  have z1 : ∀ W', Below V.heap.size V W' → W'.frozen? ⟨w.heap.size + 1 + 1 + 1, 1, none⟩ = false := fun W' h => by
    rw [h.frozen (by subst hV; simp <;> omega)]; subst hV; simp [go_sem]
  have hsz : w.heap.size + 1 + 1 + 1 ≤ V.heap.size := by subst hV; simp <;> omega
  clear hV
  have HB0 : Hid (Below w.heap.size w V) := hB0
  clear hB0
  refine (faultIn3 _ _ mx my nx ny ox oy _ _ g0 g1 g2 g3 g4 g5 (by omega) HN.out).mono ?_
  rintro e W ⟨rfl, hbW⟩
  have hr : Below V.heap.size V W := hbW
  clear g0 g1 g2 g3 g4 g5
  clear hbW
  go_wp2
  refine bodyPost_ret (v := .agg #[.int .i64 3, .int .i64 0]) (by simp [results, Try.results11, go_sem, set2_0, set2_1, *]) rfl ⟨rfl, ?_⟩
  have HB1 := HB0.out
  (repeat (first | exact Below.refl _ _ | assumption | refine Below.drew ?_ | refine bl_alloc ?_ _ | refine bl_then ?_ (by assumption) | refine Below.setCell ?_ (by first | omega | (simp; done) | (simp; omega)) _ | refine bl_store ?_ ?_ _ _))

set_option maxHeartbeats 2000000 in
theorem impl_CrossOf_3 (mx my nx ny ox oy : Int) (w : World) (h0 : okP mx my = true) (h1 : okP nx ny = true) (h2 : okP ox oy = true) :
    Calls Try.prog 11 #[.agg #[.int .i64 mx, .int .i64 my], .agg #[.int .i64 nx, .int .i64 ny], .agg #[.int .i64 ox, .int .i64 oy]] w fun e w' => e = .returned (.agg #[.int .i64 0, .int .i64 (crossI mx my nx ny ox oy)]) ∧ Below w.heap.size w w' := by
  have H0 : Hid _ := h0
  have H1 : Hid _ := h1
  have H2 : Hid _ := h2
  have HN : Hid _ := codeN3_ok mx my nx ny ox oy h0 h1 h2
  clear h0 h1 h2
  go_enter Try.func11, Try.ntmps11
  go_wp2_with fail
  generalize hV : ((((((w.alloc _).alloc _).alloc _).alloc _).alloc _) : World) = V
  have hB0 : Below w.heap.size w V := by subst hV; (repeat (first | exact Below.refl _ _ | assumption | refine Below.drew ?_ | refine bl_alloc ?_ _ | refine bl_then ?_ (by assumption) | refine Below.setCell ?_ (by first | omega | (simp; done) | (simp; omega)) _ | refine bl_store ?_ ?_ _ _))
  have g0 : V.cell? ⟨w.heap.size + 1 + 1 + 1 + 1, 0, none⟩ = some (.int .i64 mx) := by subst hV; simp [go_sem]
  have g1 : V.cell? ⟨w.heap.size + 1 + 1 + 1 + 1, 1, none⟩ = some (.int .i64 my) := by subst hV; simp [go_sem]
  have g2 : V.cell? ⟨w.heap.size + 1 + 1 + 1 + 1, 2, none⟩ = some (.int .i64 nx) := by subst hV; simp [go_sem]
  have g3 : V.cell? ⟨w.heap.size + 1 + 1 + 1 + 1, 3, none⟩ = some (.int .i64 ny) := by subst hV; simp [go_sem]
  have g4 : V.cell? ⟨w.heap.size + 1 + 1 + 1 + 1, 4, none⟩ = some (.int .i64 ox) := by subst hV; simp [go_sem]
  have g5 : V.cell? ⟨w.heap.size + 1 + 1 + 1 + 1, 5, none⟩ = some (.int .i64 oy) := by subst hV; simp [go_sem]
  have c00 : ∀ W', Below V.heap.size V W' → W'.cell? ⟨w.heap.size, 0, none⟩ = some (.int .i64 mx) := fun W' h => by
    rw [h.cell (by subst hV; simp <;> omega)]; subst hV; simp [go_sem]
  have c01 : ∀ W', Below V.heap.size V W' → W'.cell? ⟨w.heap.size, 1, none⟩ = some (.int .i64 my) := fun W' h => by
    rw [h.cell (by subst hV; simp <;> omega)]; subst hV; simp [go_sem]
  have c10 : ∀ W', Below V.heap.size V W' → W'.cell? ⟨w.heap.size + 1, 0, none⟩ = some (.int .i64 nx) := fun W' h => by
    rw [h.cell (by subst hV; simp <;> omega)]; subst hV; simp [go_sem]
  have c11 : ∀ W', Below V.heap.size V W' → W'.cell? ⟨w.heap.size + 1, 1, none⟩ = some (.int .i64 ny) := fun W' h => by
    rw [h.cell (by subst hV; simp <;> omega)]; subst hV; simp [go_sem]
  have c20 : ∀ W', Below V.heap.size V W' → W'.cell? ⟨w.heap.size + 1 + 1, 0, none⟩ = some (.int .i64 ox) := fun W' h => by
    rw [h.cell (by subst hV; simp <;> omega)]; subst hV; simp [go_sem]
  have c21 : ∀ W', Below V.heap.size V W' → W'.cell? ⟨w.heap.size + 1 + 1, 1, none⟩ = some (.int .i64 oy) := fun W' h => by
    rw [h.cell (by subst hV; simp <;> omega)]; subst hV; simp [go_sem]
  have r0 : ∀ W', Below V.heap.size V W' → W'.cell? ⟨w.heap.size + 1 + 1 + 1, 0, none⟩ = some (.int .i64 0) := fun W' h => by
    rw [h.cell (by subst hV; simp <;> omega)]; subst hV; simp [go_sem]
  have z0 : ∀ W', Below V.heap.size V W' → W'.frozen? ⟨w.heap.size + 1 + 1 + 1, 0, none⟩ = false := fun W' h => by
    rw [h.frozen (by subst hV; simp <;> omega)]; subst hV; simp [go_sem]
  have r1 : ∀ W', Below V.heap.size V W' → W'.cell? ⟨w.heap.size + 1 + 1 + 1, 1, none⟩ = some (.int .i64 0) := fun W' h => by
    rw [h.cell (by subst hV; simp <;> omega)]; subst hV; simp [go_sem]
  have z1 : ∀ W', Below V.heap.size V W' → W'.frozen? ⟨w.heap.size + 1 + 1 + 1, 1, none⟩ = false := fun W' h => by
    rw [h.frozen (by subst hV; simp <;> omega)]; subst hV; simp [go_sem]
  have hsz : w.heap.size + 1 + 1 + 1 ≤ V.heap.size := by subst hV; simp <;> omega
  clear hV
  have HB0 : Hid (Below w.heap.size w V) := hB0
  clear hB0
  refine (faultIn3 _ _ mx my nx ny ox oy _ _ g0 g1 g2 g3 g4 g5 (by omega) HN.out).mono ?_
  rintro e W ⟨rfl, hbW⟩
  have hr : Below V.heap.size V W := hbW
  clear g0 g1 g2 g3 g4 g5
  clear hbW
  replace HB0 : Hid (Below w.heap.size w W) := bl_then HB0.out hr
  have hreg : Reg (w.heap.size + 1 + 1 + 1) W (w.heap.size + 1 + 1 + 1) 2 W := Reg.start (Nat.le_trans hsz hr.size) (fun o ho => by
    have hcase : o = 0 ∨ o = 1 := by omega
    rcases hcase with rfl | rfl
    · exact ⟨⟨_, r0 W hr⟩, z0 W hr⟩
    · exact ⟨⟨_, r1 W hr⟩, z1 W hr⟩)
  have q00 : ∀ W', Reg (w.heap.size + 1 + 1 + 1) W (w.heap.size + 1 + 1 + 1) 2 W' → W'.cell? ⟨w.heap.size, 0, none⟩ = some (.int .i64 mx) := fun W' h => (h.bel.cell (p := ⟨w.heap.size, 0, none⟩) (by simp <;> omega)).trans (c00 W hr)
  have q01 : ∀ W', Reg (w.heap.size + 1 + 1 + 1) W (w.heap.size + 1 + 1 + 1) 2 W' → W'.cell? ⟨w.heap.size, 1, none⟩ = some (.int .i64 my) := fun W' h => (h.bel.cell (p := ⟨w.heap.size, 1, none⟩) (by simp <;> omega)).trans (c01 W hr)
  have q10 : ∀ W', Reg (w.heap.size + 1 + 1 + 1) W (w.heap.size + 1 + 1 + 1) 2 W' → W'.cell? ⟨w.heap.size + 1, 0, none⟩ = some (.int .i64 nx) := fun W' h => (h.bel.cell (p := ⟨w.heap.size + 1, 0, none⟩) (by simp <;> omega)).trans (c10 W hr)
  have q11 : ∀ W', Reg (w.heap.size + 1 + 1 + 1) W (w.heap.size + 1 + 1 + 1) 2 W' → W'.cell? ⟨w.heap.size + 1, 1, none⟩ = some (.int .i64 ny) := fun W' h => (h.bel.cell (p := ⟨w.heap.size + 1, 1, none⟩) (by simp <;> omega)).trans (c11 W hr)
  have q20 : ∀ W', Reg (w.heap.size + 1 + 1 + 1) W (w.heap.size + 1 + 1 + 1) 2 W' → W'.cell? ⟨w.heap.size + 1 + 1, 0, none⟩ = some (.int .i64 ox) := fun W' h => (h.bel.cell (p := ⟨w.heap.size + 1 + 1, 0, none⟩) (by simp <;> omega)).trans (c20 W hr)
  have q21 : ∀ W', Reg (w.heap.size + 1 + 1 + 1) W (w.heap.size + 1 + 1 + 1) 2 W' → W'.cell? ⟨w.heap.size + 1 + 1, 1, none⟩ = some (.int .i64 oy) := fun W' h => (h.bel.cell (p := ⟨w.heap.size + 1 + 1, 1, none⟩) (by simp <;> omega)).trans (c21 W hr)
  have t0 : ∀ W', Reg (w.heap.size + 1 + 1 + 1) W (w.heap.size + 1 + 1 + 1) 2 W' → W'.cell? ⟨w.heap.size + 1 + 1 + 1, 0, none⟩ = some (cellOr W' (w.heap.size + 1 + 1 + 1) 0) := fun W' h => h.there.cell 0 (by omega)
  have s0 : ∀ W', Reg (w.heap.size + 1 + 1 + 1) W (w.heap.size + 1 + 1 + 1) 2 W' → W'.frozen? ⟨w.heap.size + 1 + 1 + 1, 0, none⟩ = false := fun W' h => (h.there 0 (by omega)).2
  have t1 : ∀ W', Reg (w.heap.size + 1 + 1 + 1) W (w.heap.size + 1 + 1 + 1) 2 W' → W'.cell? ⟨w.heap.size + 1 + 1 + 1, 1, none⟩ = some (cellOr W' (w.heap.size + 1 + 1 + 1) 1) := fun W' h => h.there.cell 1 (by omega)
  have s1 : ∀ W', Reg (w.heap.size + 1 + 1 + 1) W (w.heap.size + 1 + 1 + 1) 2 W' → W'.frozen? ⟨w.heap.size + 1 + 1 + 1, 1, none⟩ = false := fun W' h => (h.there 1 (by omega)).2
  clear hr r0 r1 z0 z1 c00 c01 c10 c11 c20 c21
  go_wp2
  go_region_held3 (Reg (w.heap.size + 1 + 1 + 1) W (w.heap.size + 1 + 1 + 1) 2) (first | exact Reg.drew hreg | exact Reg.call (by assumption) (by assumption) | exact Reg.store (Reg.store (by assumption) (Nat.le_refl _) _ _) (Nat.le_refl _) _ _ | assumption)
    (first
      | (go_at_call 32; refine (pairOf_any _ _ _).mono ?_; rintro e w' ⟨rfl, hb⟩)
      | (go_at_call 31; refine (turnOf_any _ _ _ _ _ _ _ H0.out H1.out H2.out).mono ?_; rintro e w' ⟨rfl, hb⟩; have hk : Reg (w.heap.size + 1 + 1 + 1) W (w.heap.size + 1 + 1 + 1) 2 w' := Reg.call (by assumption) hb))
  go_wp2
  rename_i hfin
  refine bodyPost_ret (v := .agg #[.int .i64 0, .int .i64 (crossI mx my nx ny ox oy)]) (by simp [results, Try.results11, go_sem, set2_0 (Option.isSome_iff_exists.2 ⟨_, t0 _ hk⟩), set2_1 (Option.isSome_iff_exists.2 ⟨_, t1 _ hk⟩)]) rfl ⟨rfl, ?_⟩
  exact HB0.out.trans (hfin.bel.mono (by omega))

set_option maxHeartbeats 2000000 in
theorem impl_DistanceOf_0 (mx my nx ny : Int) (w : World) (h0 : okP mx my = false) :
    Calls Try.prog 14 #[.agg #[.int .i64 mx, .int .i64 my], .agg #[.int .i64 nx, .int .i64 ny]] w fun e w' => e = .returned (.agg #[.int .i64 3, .int .i64 0]) ∧ Below w.heap.size w w' := by
  have HN : Hid _ := codeN2_0 mx my nx ny h0
  clear h0
  go_enter Try.func14, Try.ntmps14
  go_wp2_with fail
  generalize hV : (((((w.alloc _).alloc _).alloc _).alloc _) : World) = V
  have hB0 : Below w.heap.size w V := by subst hV; (repeat (first | exact Below.refl _ _ | assumption | refine Below.drew ?_ | refine bl_alloc ?_ _ | refine bl_then ?_ (by assumption) | refine Below.setCell ?_ (by first | omega | (simp; done) | (simp; omega)) _ | refine bl_store ?_ ?_ _ _))
  have g0 : V.cell? ⟨w.heap.size + 1 + 1 + 1, 0, none⟩ = some (.int .i64 mx) := by subst hV; simp [go_sem]
  have g1 : V.cell? ⟨w.heap.size + 1 + 1 + 1, 1, none⟩ = some (.int .i64 my) := by subst hV; simp [go_sem]
  have g2 : V.cell? ⟨w.heap.size + 1 + 1 + 1, 2, none⟩ = some (.int .i64 nx) := by subst hV; simp [go_sem]
  have g3 : V.cell? ⟨w.heap.size + 1 + 1 + 1, 3, none⟩ = some (.int .i64 ny) := by subst hV; simp [go_sem]
  have c00 : ∀ W', Below V.heap.size V W' → W'.cell? ⟨w.heap.size, 0, none⟩ = some (.int .i64 mx) := fun W' h => by
    rw [h.cell (by subst hV; simp <;> omega)]; subst hV; simp [go_sem]
  have c01 : ∀ W', Below V.heap.size V W' → W'.cell? ⟨w.heap.size, 1, none⟩ = some (.int .i64 my) := fun W' h => by
    rw [h.cell (by subst hV; simp <;> omega)]; subst hV; simp [go_sem]
  have c10 : ∀ W', Below V.heap.size V W' → W'.cell? ⟨w.heap.size + 1, 0, none⟩ = some (.int .i64 nx) := fun W' h => by
    rw [h.cell (by subst hV; simp <;> omega)]; subst hV; simp [go_sem]
  have c11 : ∀ W', Below V.heap.size V W' → W'.cell? ⟨w.heap.size + 1, 1, none⟩ = some (.int .i64 ny) := fun W' h => by
    rw [h.cell (by subst hV; simp <;> omega)]; subst hV; simp [go_sem]
  have r0 : ∀ W', Below V.heap.size V W' → W'.cell? ⟨w.heap.size + 1 + 1, 0, none⟩ = some (.int .i64 0) := fun W' h => by
    rw [h.cell (by subst hV; simp <;> omega)]; subst hV; simp [go_sem]
  have z0 : ∀ W', Below V.heap.size V W' → W'.frozen? ⟨w.heap.size + 1 + 1, 0, none⟩ = false := fun W' h => by
    rw [h.frozen (by subst hV; simp <;> omega)]; subst hV; simp [go_sem]
  have r1 : ∀ W', Below V.heap.size V W' → W'.cell? ⟨w.heap.size + 1 + 1, 1, none⟩ = some (.int .i64 0) := fun W' h => by
    rw [h.cell (by subst hV; simp <;> omega)]; subst hV; simp [go_sem]
  have z1 : ∀ W', Below V.heap.size V W' → W'.frozen? ⟨w.heap.size + 1 + 1, 1, none⟩ = false := fun W' h => by
    rw [h.frozen (by subst hV; simp <;> omega)]; subst hV; simp [go_sem]
  have hsz : w.heap.size + 1 + 1 ≤ V.heap.size := by subst hV; simp <;> omega
  clear hV
  have HB0 : Hid (Below w.heap.size w V) := hB0
  clear hB0
  refine (faultIn2 _ _ mx my nx ny _ _ g0 g1 g2 g3 (by omega) HN.out).mono ?_
  rintro e W ⟨rfl, hbW⟩
  have hr : Below V.heap.size V W := hbW
  clear g0 g1 g2 g3
  clear hbW
  go_wp2
  refine bodyPost_ret (v := .agg #[.int .i64 3, .int .i64 0]) (by simp [results, Try.results14, go_sem, set2_0, set2_1, *]) rfl ⟨rfl, ?_⟩
  have HB1 := HB0.out
  (repeat (first | exact Below.refl _ _ | assumption | refine Below.drew ?_ | refine bl_alloc ?_ _ | refine bl_then ?_ (by assumption) | refine Below.setCell ?_ (by first | omega | (simp; done) | (simp; omega)) _ | refine bl_store ?_ ?_ _ _))

set_option maxHeartbeats 2000000 in
theorem impl_DistanceOf_1 (mx my nx ny : Int) (w : World) (h1 : okP nx ny = false) :
    Calls Try.prog 14 #[.agg #[.int .i64 mx, .int .i64 my], .agg #[.int .i64 nx, .int .i64 ny]] w fun e w' => e = .returned (.agg #[.int .i64 3, .int .i64 0]) ∧ Below w.heap.size w w' := by
  have HN : Hid _ := codeN2_1 mx my nx ny h1
  clear h1
  go_enter Try.func14, Try.ntmps14
  go_wp2_with fail
  generalize hV : (((((w.alloc _).alloc _).alloc _).alloc _) : World) = V
  have hB0 : Below w.heap.size w V := by subst hV; (repeat (first | exact Below.refl _ _ | assumption | refine Below.drew ?_ | refine bl_alloc ?_ _ | refine bl_then ?_ (by assumption) | refine Below.setCell ?_ (by first | omega | (simp; done) | (simp; omega)) _ | refine bl_store ?_ ?_ _ _))
  have g0 : V.cell? ⟨w.heap.size + 1 + 1 + 1, 0, none⟩ = some (.int .i64 mx) := by subst hV; simp [go_sem]
  have g1 : V.cell? ⟨w.heap.size + 1 + 1 + 1, 1, none⟩ = some (.int .i64 my) := by subst hV; simp [go_sem]
  have g2 : V.cell? ⟨w.heap.size + 1 + 1 + 1, 2, none⟩ = some (.int .i64 nx) := by subst hV; simp [go_sem]
  have g3 : V.cell? ⟨w.heap.size + 1 + 1 + 1, 3, none⟩ = some (.int .i64 ny) := by subst hV; simp [go_sem]
  have c00 : ∀ W', Below V.heap.size V W' → W'.cell? ⟨w.heap.size, 0, none⟩ = some (.int .i64 mx) := fun W' h => by
    rw [h.cell (by subst hV; simp <;> omega)]; subst hV; simp [go_sem]
  have c01 : ∀ W', Below V.heap.size V W' → W'.cell? ⟨w.heap.size, 1, none⟩ = some (.int .i64 my) := fun W' h => by
    rw [h.cell (by subst hV; simp <;> omega)]; subst hV; simp [go_sem]
  have c10 : ∀ W', Below V.heap.size V W' → W'.cell? ⟨w.heap.size + 1, 0, none⟩ = some (.int .i64 nx) := fun W' h => by
    rw [h.cell (by subst hV; simp <;> omega)]; subst hV; simp [go_sem]
  have c11 : ∀ W', Below V.heap.size V W' → W'.cell? ⟨w.heap.size + 1, 1, none⟩ = some (.int .i64 ny) := fun W' h => by
    rw [h.cell (by subst hV; simp <;> omega)]; subst hV; simp [go_sem]
  have r0 : ∀ W', Below V.heap.size V W' → W'.cell? ⟨w.heap.size + 1 + 1, 0, none⟩ = some (.int .i64 0) := fun W' h => by
    rw [h.cell (by subst hV; simp <;> omega)]; subst hV; simp [go_sem]
  have z0 : ∀ W', Below V.heap.size V W' → W'.frozen? ⟨w.heap.size + 1 + 1, 0, none⟩ = false := fun W' h => by
    rw [h.frozen (by subst hV; simp <;> omega)]; subst hV; simp [go_sem]
  have r1 : ∀ W', Below V.heap.size V W' → W'.cell? ⟨w.heap.size + 1 + 1, 1, none⟩ = some (.int .i64 0) := fun W' h => by
    rw [h.cell (by subst hV; simp <;> omega)]; subst hV; simp [go_sem]
  have z1 : ∀ W', Below V.heap.size V W' → W'.frozen? ⟨w.heap.size + 1 + 1, 1, none⟩ = false := fun W' h => by
    rw [h.frozen (by subst hV; simp <;> omega)]; subst hV; simp [go_sem]
  have hsz : w.heap.size + 1 + 1 ≤ V.heap.size := by subst hV; simp <;> omega
  clear hV
  have HB0 : Hid (Below w.heap.size w V) := hB0
  clear hB0
  refine (faultIn2 _ _ mx my nx ny _ _ g0 g1 g2 g3 (by omega) HN.out).mono ?_
  rintro e W ⟨rfl, hbW⟩
  have hr : Below V.heap.size V W := hbW
  clear g0 g1 g2 g3
  clear hbW
  go_wp2
  refine bodyPost_ret (v := .agg #[.int .i64 3, .int .i64 0]) (by simp [results, Try.results14, go_sem, set2_0, set2_1, *]) rfl ⟨rfl, ?_⟩
  have HB1 := HB0.out
  (repeat (first | exact Below.refl _ _ | assumption | refine Below.drew ?_ | refine bl_alloc ?_ _ | refine bl_then ?_ (by assumption) | refine Below.setCell ?_ (by first | omega | (simp; done) | (simp; omega)) _ | refine bl_store ?_ ?_ _ _))

set_option maxHeartbeats 2000000 in
theorem impl_DistanceOf_2 (mx my nx ny : Int) (w : World) (h0 : okP mx my = true) (h1 : okP nx ny = true) :
    Calls Try.prog 14 #[.agg #[.int .i64 mx, .int .i64 my], .agg #[.int .i64 nx, .int .i64 ny]] w fun e w' => e = .returned (.agg #[.int .i64 0, .int .i64 (distI mx my nx ny)]) ∧ Below w.heap.size w w' := by
  have H0 : Hid _ := h0
  have H1 : Hid _ := h1
  have HN : Hid _ := codeN2_ok mx my nx ny h0 h1
  clear h0 h1
  go_enter Try.func14, Try.ntmps14
  go_wp2_with fail
  generalize hV : (((((w.alloc _).alloc _).alloc _).alloc _) : World) = V
  have hB0 : Below w.heap.size w V := by subst hV; (repeat (first | exact Below.refl _ _ | assumption | refine Below.drew ?_ | refine bl_alloc ?_ _ | refine bl_then ?_ (by assumption) | refine Below.setCell ?_ (by first | omega | (simp; done) | (simp; omega)) _ | refine bl_store ?_ ?_ _ _))
  have g0 : V.cell? ⟨w.heap.size + 1 + 1 + 1, 0, none⟩ = some (.int .i64 mx) := by subst hV; simp [go_sem]
  have g1 : V.cell? ⟨w.heap.size + 1 + 1 + 1, 1, none⟩ = some (.int .i64 my) := by subst hV; simp [go_sem]
  have g2 : V.cell? ⟨w.heap.size + 1 + 1 + 1, 2, none⟩ = some (.int .i64 nx) := by subst hV; simp [go_sem]
  have g3 : V.cell? ⟨w.heap.size + 1 + 1 + 1, 3, none⟩ = some (.int .i64 ny) := by subst hV; simp [go_sem]
  have c00 : ∀ W', Below V.heap.size V W' → W'.cell? ⟨w.heap.size, 0, none⟩ = some (.int .i64 mx) := fun W' h => by
    rw [h.cell (by subst hV; simp <;> omega)]; subst hV; simp [go_sem]
  have c01 : ∀ W', Below V.heap.size V W' → W'.cell? ⟨w.heap.size, 1, none⟩ = some (.int .i64 my) := fun W' h => by
    rw [h.cell (by subst hV; simp <;> omega)]; subst hV; simp [go_sem]
  have c10 : ∀ W', Below V.heap.size V W' → W'.cell? ⟨w.heap.size + 1, 0, none⟩ = some (.int .i64 nx) := fun W' h => by
    rw [h.cell (by subst hV; simp <;> omega)]; subst hV; simp [go_sem]
  have c11 : ∀ W', Below V.heap.size V W' → W'.cell? ⟨w.heap.size + 1, 1, none⟩ = some (.int .i64 ny) := fun W' h => by
    rw [h.cell (by subst hV; simp <;> omega)]; subst hV; simp [go_sem]
  have r0 : ∀ W', Below V.heap.size V W' → W'.cell? ⟨w.heap.size + 1 + 1, 0, none⟩ = some (.int .i64 0) := fun W' h => by
    rw [h.cell (by subst hV; simp <;> omega)]; subst hV; simp [go_sem]
  have z0 : ∀ W', Below V.heap.size V W' → W'.frozen? ⟨w.heap.size + 1 + 1, 0, none⟩ = false := fun W' h => by
    rw [h.frozen (by subst hV; simp <;> omega)]; subst hV; simp [go_sem]
  have r1 : ∀ W', Below V.heap.size V W' → W'.cell? ⟨w.heap.size + 1 + 1, 1, none⟩ = some (.int .i64 0) := fun W' h => by
    rw [h.cell (by subst hV; simp <;> omega)]; subst hV; simp [go_sem]
  have z1 : ∀ W', Below V.heap.size V W' → W'.frozen? ⟨w.heap.size + 1 + 1, 1, none⟩ = false := fun W' h => by
    rw [h.frozen (by subst hV; simp <;> omega)]; subst hV; simp [go_sem]
  have hsz : w.heap.size + 1 + 1 ≤ V.heap.size := by subst hV; simp <;> omega
  clear hV
  have HB0 : Hid (Below w.heap.size w V) := hB0
  clear hB0
  refine (faultIn2 _ _ mx my nx ny _ _ g0 g1 g2 g3 (by omega) HN.out).mono ?_
  rintro e W ⟨rfl, hbW⟩
  have hr : Below V.heap.size V W := hbW
  clear g0 g1 g2 g3
  clear hbW
  replace HB0 : Hid (Below w.heap.size w W) := bl_then HB0.out hr
  have hreg : Reg (w.heap.size + 1 + 1) W (w.heap.size + 1 + 1) 2 W := Reg.start (Nat.le_trans hsz hr.size) (fun o ho => by
    have hcase : o = 0 ∨ o = 1 := by omega
    rcases hcase with rfl | rfl
    · exact ⟨⟨_, r0 W hr⟩, z0 W hr⟩
    · exact ⟨⟨_, r1 W hr⟩, z1 W hr⟩)
  have q00 : ∀ W', Reg (w.heap.size + 1 + 1) W (w.heap.size + 1 + 1) 2 W' → W'.cell? ⟨w.heap.size, 0, none⟩ = some (.int .i64 mx) := fun W' h => (h.bel.cell (p := ⟨w.heap.size, 0, none⟩) (by simp <;> omega)).trans (c00 W hr)
  have q01 : ∀ W', Reg (w.heap.size + 1 + 1) W (w.heap.size + 1 + 1) 2 W' → W'.cell? ⟨w.heap.size, 1, none⟩ = some (.int .i64 my) := fun W' h => (h.bel.cell (p := ⟨w.heap.size, 1, none⟩) (by simp <;> omega)).trans (c01 W hr)
  have q10 : ∀ W', Reg (w.heap.size + 1 + 1) W (w.heap.size + 1 + 1) 2 W' → W'.cell? ⟨w.heap.size + 1, 0, none⟩ = some (.int .i64 nx) := fun W' h => (h.bel.cell (p := ⟨w.heap.size + 1, 0, none⟩) (by simp <;> omega)).trans (c10 W hr)
  have q11 : ∀ W', Reg (w.heap.size + 1 + 1) W (w.heap.size + 1 + 1) 2 W' → W'.cell? ⟨w.heap.size + 1, 1, none⟩ = some (.int .i64 ny) := fun W' h => (h.bel.cell (p := ⟨w.heap.size + 1, 1, none⟩) (by simp <;> omega)).trans (c11 W hr)
  have t0 : ∀ W', Reg (w.heap.size + 1 + 1) W (w.heap.size + 1 + 1) 2 W' → W'.cell? ⟨w.heap.size + 1 + 1, 0, none⟩ = some (cellOr W' (w.heap.size + 1 + 1) 0) := fun W' h => h.there.cell 0 (by omega)
  have s0 : ∀ W', Reg (w.heap.size + 1 + 1) W (w.heap.size + 1 + 1) 2 W' → W'.frozen? ⟨w.heap.size + 1 + 1, 0, none⟩ = false := fun W' h => (h.there 0 (by omega)).2
  have t1 : ∀ W', Reg (w.heap.size + 1 + 1) W (w.heap.size + 1 + 1) 2 W' → W'.cell? ⟨w.heap.size + 1 + 1, 1, none⟩ = some (cellOr W' (w.heap.size + 1 + 1) 1) := fun W' h => h.there.cell 1 (by omega)
  have s1 : ∀ W', Reg (w.heap.size + 1 + 1) W (w.heap.size + 1 + 1) 2 W' → W'.frozen? ⟨w.heap.size + 1 + 1, 1, none⟩ = false := fun W' h => (h.there 1 (by omega)).2
  clear hr r0 r1 z0 z1 c00 c01 c10 c11
  go_wp2
  go_region_held3 (Reg (w.heap.size + 1 + 1) W (w.heap.size + 1 + 1) 2) (first | exact Reg.drew hreg | exact Reg.call (by assumption) (by assumption) | exact Reg.store (Reg.store (by assumption) (Nat.le_refl _) _ _) (Nat.le_refl _) _ _ | assumption)
    (first
      | (go_at_call 32; refine (pairOf_any _ _ _).mono ?_; rintro e w' ⟨rfl, hb⟩)
      | (go_at_call 35; refine (wayOf_any _ _ _ _ _ H0.out H1.out).mono ?_; rintro e w' ⟨rfl, hb⟩)
      | (go_at_call 34; refine (squareOf_any _ _ _ (way_df H0.out H1.out)).mono ?_; rintro e w' ⟨rfl, hb⟩; have hk : Reg (w.heap.size + 1 + 1) W (w.heap.size + 1 + 1) 2 w' := Reg.call (by assumption) hb))
  go_wp2
  rename_i hfin
  refine bodyPost_ret (v := .agg #[.int .i64 0, .int .i64 ((nx - mx) * (nx - mx) + (ny - my) * (ny - my))]) (by simp [results, Try.results14, go_sem, set2_0 (Option.isSome_iff_exists.2 ⟨_, t0 _ hk⟩), set2_1 (Option.isSome_iff_exists.2 ⟨_, t1 _ hk⟩)]) rfl ⟨rfl, ?_⟩
  exact HB0.out.trans (hfin.bel.mono (by omega))
end Go.Proofs.Ytlkjdbigpjpgeab
