/- The law of SnapPoint returns true at every point and number. -/
import Derived.Test.YtdmlgfifiicmpabSn
namespace Go.Proofs.Ytdmlgfifiicmpab
open Go.RowKit
set_option linter.unusedSimpArgs false
set_option linter.unusedVariables false

theorem eqPointResult_any (c x y : Int) (w : World) : Calls Try.prog 10 #[.agg #[.int .i64 c, .int .i64 x, .int .i64 y], .agg #[.int .i64 c, .int .i64 x, .int .i64 y]] w fun e w' => e = .returned (.bool true) ∧ Below w.heap.size w w' := by
  go_enter Try.func10, Try.ntmps10
  go_wp2_with (go_at_call 39; refine (eqPoint_any _ _ _).mono ?_; rintro e w' ⟨rfl, hb⟩)
  go_ret
  exact ⟨rfl, by (repeat (first | exact Below.refl _ _ | assumption | refine Below.drew ?_ | refine bl_alloc ?_ _ | refine bl_then ?_ (by assumption) | refine Below.setCell ?_ (by first | omega | (simp; done) | (simp; omega)) _ | refine bl_store ?_ ?_ _ _))⟩

theorem FnExactSnapPoint_walk (x y z : Int) (w : World) :
    Calls Try.prog 3 #[.agg #[.int .i64 x, .int .i64 y], .int .i64 z] w fun e w' => e = .returned (.bool true) ∧ Below w.heap.size w w' := by
  obtain ⟨c, u, v, hv⟩ : ∃ c u v : Int, snapV x y z = .agg #[.int .i64 c, .int .i64 u, .int .i64 v] := by
    unfold snapV
    split
    · exact ⟨_, _, _, rfl⟩
    · exact ⟨_, _, _, rfl⟩
  have s1 := fun w => spec_SnapPoint_any x y z w
  have s2 := fun w => impl_SnapPoint_any x y z w
  simp only [hv] at s1 s2
  have Hs1 := (show Hid _ from s1)
  have Hs2 := (show Hid _ from s2)
  clear s1 s2 hv
  go_enter Try.func3, Try.ntmps3
  go_wp2_with fail
  generalize hW : (w.alloc _ : World) = W
  have HB0 : Hid (Below w.heap.size w W) := by show Below _ _ _; subst hW; (repeat (first | exact Below.refl _ _ | assumption | refine Below.drew ?_ | refine bl_alloc ?_ _ | refine bl_then ?_ (by assumption) | refine Below.setCell ?_ (by first | omega | (simp; done) | (simp; omega)) _ | refine bl_store ?_ ?_ _ _))
  have c00 : ∀ W', Below W.heap.size W W' → W'.cell? ⟨w.heap.size, 0, none⟩ = some (.int .i64 x) := fun W' h => by
    rw [h.cell (by subst hW; simp <;> omega)]; subst hW; simp [go_sem]
  have c01 : ∀ W', Below W.heap.size W W' → W'.cell? ⟨w.heap.size, 1, none⟩ = some (.int .i64 y) := fun W' h => by
    rw [h.cell (by subst hW; simp <;> omega)]; subst hW; simp [go_sem]
  clear hW
  refine (toPoint_any _ _ _).mono ?_
  rintro e w1 ⟨rfl, hb1⟩
  go_wp2_with fail
  refine (Hs1.out _).mono ?_
  rintro e w2 ⟨rfl, hb2⟩
  have hB2 := bl_then hb1 hb2
  clear hb1 hb2
  have e0 := c00 _ hB2
  have e1 := c01 _ hB2
  have hl2 : w.heap.size < w2.heap.size := World.block_lt_of_cell? _ _ e0
  go_wp2_with fail
  generalize hW3 : (w2.alloc _ : World) = w3
  have hB3 : Below W.heap.size W w3 := by subst hW3; (repeat (first | exact Below.refl _ _ | assumption | refine Below.drew ?_ | refine bl_alloc ?_ _ | refine bl_then ?_ (by assumption) | refine Below.setCell ?_ (by first | omega | (simp; done) | (simp; omega)) _ | refine bl_store ?_ ?_ _ _))
  have d0 : ∀ W', Below w3.heap.size w3 W' → W'.cell? ⟨w2.heap.size, 0, none⟩ = some (.int .i64 c) := fun W' h => by
    rw [h.cell (by subst hW3; simp)]; subst hW3; simp [go_sem]
  have d1 : ∀ W', Below w3.heap.size w3 W' → W'.cell? ⟨w2.heap.size, 1, none⟩ = some (.int .i64 u) := fun W' h => by
    rw [h.cell (by subst hW3; simp)]; subst hW3; simp [go_sem]
  have d2 : ∀ W', Below w3.heap.size w3 W' → W'.cell? ⟨w2.heap.size, 2, none⟩ = some (.int .i64 v) := fun W' h => by
    rw [h.cell (by subst hW3; simp)]; subst hW3; simp [go_sem]
  clear hW3 hB2
  refine (toPoint_any _ _ _).mono ?_
  rintro e w4 ⟨rfl, hb4⟩
  go_wp2_with fail
  refine (Hs2.out _).mono ?_
  rintro e w5 ⟨rfl, hb5⟩
  have hB5 : Below w3.heap.size w3 w5 := bl_then hb4 hb5
  have k0 := d0 w5 hB5
  have k1 := d1 w5 hB5
  have k2 := d2 w5 hB5
  have hlw : w2.heap.size < w5.heap.size := World.block_lt_of_cell? _ _ k0
  clear d0 d1 d2 c00 c01
  go_wp2_with fail
  refine (eqPointResult_any _ _ _ _).mono ?_
  rintro e w7 ⟨rfl, hb7⟩
  go_wp2
  go_ret
  refine ⟨rfl, ?_⟩
  have hB6 := bl_then HB0.out (bl_then hB3 hB5)
  (repeat (first | exact Below.refl _ _ | assumption | refine Below.drew ?_ | refine bl_alloc ?_ _ | refine bl_then ?_ (by assumption) | refine Below.setCell ?_ (by first | omega | (simp; done) | (simp; omega)) _ | refine bl_store ?_ ?_ _ _))
end Go.Proofs.Ytdmlgfifiicmpab
