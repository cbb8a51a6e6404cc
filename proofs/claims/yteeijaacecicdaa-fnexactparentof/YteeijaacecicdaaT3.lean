/- The law of ParentOf returns true at every ref. -/
import Derived.Test.YteeijaacecicdaaT2
namespace Go.Proofs.Yteeijaacecicdaa
open Go.RowKit
set_option linter.unusedSimpArgs false
set_option linter.unusedVariables false
set_option maxRecDepth 100000

theorem FnExactParentOf_walk (z x y : Int) (w : World) :
    Calls Try.prog 5 #[refV z x y] w fun e w' => e = .returned (.bool true) ∧ Below w.heap.size w w' := by
  obtain ⟨c, u, v, t, hv⟩ : ∃ c u v t : Int, parV z x y = rrV c u v t := by
    unfold parV
    split
    · split
      · exact ⟨_, _, _, _, rfl⟩
      · exact ⟨_, _, _, _, rfl⟩
    · exact ⟨_, _, _, _, rfl⟩
  have s1 := fun w => spec_ParentOf_any z x y w
  have s2 := fun w => impl_ParentOf_any z x y w
  simp only [hv] at s1 s2
  go_enter Try.func5, Try.ntmps5
  go_wp2_with fail
  generalize hW : (w.alloc _ : World) = W
  have hB0 : Below w.heap.size w W := by subst hW; (repeat (first | exact Below.refl _ _ | assumption | refine Below.drew ?_ | refine bl_alloc ?_ _ | refine bl_then ?_ (by assumption) | refine Below.setCell ?_ (by first | omega | (simp; done) | (simp; omega)) _ | refine bl_store ?_ ?_ _ _))
  have c00 : ∀ W', Below W.heap.size W W' → W'.cell? ⟨w.heap.size, 0, none⟩ = some (.int .i64 z) := fun W' h => by
    rw [h.cell (by subst hW; simp <;> omega)]; subst hW; simp [go_sem]
  have c01 : ∀ W', Below W.heap.size W W' → W'.cell? ⟨w.heap.size, 1, none⟩ = some (.int .i64 x) := fun W' h => by
    rw [h.cell (by subst hW; simp <;> omega)]; subst hW; simp [go_sem]
  have c02 : ∀ W', Below W.heap.size W W' → W'.cell? ⟨w.heap.size, 2, none⟩ = some (.int .i64 y) := fun W' h => by
    rw [h.cell (by subst hW; simp <;> omega)]; subst hW; simp [go_sem]
  clear hW
  have HB0 : Hid (Below w.heap.size w W) := hB0
  clear hB0
  have hlt : w.heap.size < W.heap.size := World.block_lt_of_cell? _ _ (c00 W (Below.refl _ _))
  have k0 := c00 W (Below.refl _ _)
  have k1 := c01 W (Below.refl _ _)
  have k2 := c02 W (Below.refl _ _)
  refine (toRef_any _ _ _ _).mono ?_
  rintro e wa ⟨rfl, hba⟩
  go_wp2_with fail
  refine (s1 _).mono ?_
  rintro e w1 ⟨rfl, hb1⟩
  have hB1 : Below W.heap.size W w1 := bl_then hba hb1
  clear hba hb1 k0 k1 k2
  have hlt1 : w.heap.size < w1.heap.size := Nat.lt_of_lt_of_le hlt hB1.size
  have k0 := c00 w1 hB1
  have k1 := c01 w1 hB1
  have k2 := c02 w1 hB1
  go_wp2_with fail
  generalize hW2 : (w1.alloc _ : World) = W2
  have hb2 : Below w1.heap.size w1 W2 := by subst hW2; (repeat (first | exact Below.refl _ _ | assumption | refine Below.drew ?_ | refine bl_alloc ?_ _ | refine bl_then ?_ (by assumption) | refine Below.setCell ?_ (by first | omega | (simp; done) | (simp; omega)) _ | refine bl_store ?_ ?_ _ _))
  have d0 : ∀ W', Below W2.heap.size W2 W' → W'.cell? ⟨w1.heap.size, 0, none⟩ = some (.int .i64 c) := fun W' h => by
    rw [h.cell (by subst hW2; simp)]; subst hW2; simp [go_sem]
  have d1 : ∀ W', Below W2.heap.size W2 W' → W'.cell? ⟨w1.heap.size, 1, none⟩ = some (.int .i64 u) := fun W' h => by
    rw [h.cell (by subst hW2; simp)]; subst hW2; simp [go_sem]
  have d2 : ∀ W', Below W2.heap.size W2 W' → W'.cell? ⟨w1.heap.size, 2, none⟩ = some (.int .i64 v) := fun W' h => by
    rw [h.cell (by subst hW2; simp)]; subst hW2; simp [go_sem]
  have d3 : ∀ W', Below W2.heap.size W2 W' → W'.cell? ⟨w1.heap.size, 3, none⟩ = some (.int .i64 t) := fun W' h => by
    rw [h.cell (by subst hW2; simp)]; subst hW2; simp [go_sem]
  clear hW2
  have hB2 : Below W.heap.size W W2 := bl_then hB1 hb2
  clear hB1 hb2
  refine (toRef_any _ _ _ _).mono ?_
  rintro e wb ⟨rfl, hbb⟩
  go_wp2_with fail
  refine (s2 _).mono ?_
  rintro e w3 ⟨rfl, hb3⟩
  have hB3 : Below W2.heap.size W2 w3 := bl_then hbb hb3
  have q0 := d0 w3 hB3
  have q1 := d1 w3 hB3
  have q2 := d2 w3 hB3
  have q3 := d3 w3 hB3
  have hl3 := World.block_lt_of_cell? _ _ q0
  clear hbb hb3 k0 k1 k2 d0 d1 d2 d3
  go_wp2_with fail
  refine (eqRefResult_any _ _ _ _ _).mono ?_
  rintro e w4 ⟨rfl, hb4⟩
  go_wp2_with fail
  go_ret
  exact ⟨rfl, by have HB1 := HB0.out; (repeat (first | exact Below.refl _ _ | assumption | refine Below.drew ?_ | refine bl_alloc ?_ _ | refine bl_then ?_ (by assumption) | refine Below.setCell ?_ (by first | omega | (simp; done) | (simp; omega)) _ | refine bl_store ?_ ?_ _ _))⟩
end Go.Proofs.Yteeijaacecicdaa
