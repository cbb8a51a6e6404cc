/- isCrossed of the program: whether a side is crossed. -/
import Derived.Test.YtciidkmonfmipaaGreatVTakeTile12
import Derived.Test.YtciidkmonfmipaaGreatVTakeTile10
import Derived.Test.YtciidkmonfmipaaGreatVTakeTile13
namespace Go.Proofs.YtciidkmonfmipaaGreat
open Go.RowKit
set_option linter.unusedSimpArgs false
set_option linter.unusedVariables false

set_option maxHeartbeats 2000000 in
theorem isCrossed_dn (px py ax ay bx by' : Int) (w : World) (hp : okP px py = true) (ha : okP ax ay = true) (hb : okP bx by' = true) (h : by' < ay) (h1 : by' ≤ py) (h2 : py < ay) :
    Calls Tryz.prog 156 #[.agg #[.int .i64 px, .int .i64 py], .agg #[.int .i64 ax, .int .i64 ay], .agg #[.int .i64 bx, .int .i64 by']] w fun e w' => e = .returned (.bool (sideB px py ax ay bx by')) ∧ Below w.heap.size w w' := by
  have HP : Hid (okP px py = true) := hp
  have HA : Hid (okP ax ay = true) := ha
  have HB : Hid (okP bx by' = true) := hb
  clear hp ha hb
  have HE : Hid (sideB px py ax ay bx by' = decide (0 < crossI bx by' ax ay px py)) := by
    show _ = _
    rw [side_down h]
    simp [h1, h2]
  go_enter Tryz.func156, Tryz.ntmps156
  go_wp2
  generalize hW : (((w.alloc _).alloc _).alloc _ : World) = W
  have hB0 : Below w.heap.size w W := by subst hW; (repeat (first | exact Below.refl _ _ | assumption | refine Below.drew ?_ | refine bl_alloc ?_ _ | refine bl_then ?_ (by assumption) | refine Below.setCell ?_ (by first | omega | (simp; done) | (simp; omega)) _ | refine bl_store ?_ ?_ _ _))
  have c00 : ∀ W', Below W.heap.size W W' → W'.cell? ⟨w.heap.size, 0, none⟩ = some (.int .i64 px) := fun W' h => by
    rw [h.cell (by subst hW; simp <;> omega)]; subst hW; simp [go_sem]
  have c01 : ∀ W', Below W.heap.size W W' → W'.cell? ⟨w.heap.size, 1, none⟩ = some (.int .i64 py) := fun W' h => by
    rw [h.cell (by subst hW; simp <;> omega)]; subst hW; simp [go_sem]
  have c10 : ∀ W', Below W.heap.size W W' → W'.cell? ⟨w.heap.size + 1, 0, none⟩ = some (.int .i64 ax) := fun W' h => by
    rw [h.cell (by subst hW; simp <;> omega)]; subst hW; simp [go_sem]
  have c11 : ∀ W', Below W.heap.size W W' → W'.cell? ⟨w.heap.size + 1, 1, none⟩ = some (.int .i64 ay) := fun W' h => by
    rw [h.cell (by subst hW; simp <;> omega)]; subst hW; simp [go_sem]
  have c20 : ∀ W', Below W.heap.size W W' → W'.cell? ⟨w.heap.size + 1 + 1, 0, none⟩ = some (.int .i64 bx) := fun W' h => by
    rw [h.cell (by subst hW; simp <;> omega)]; subst hW; simp [go_sem]
  have c21 : ∀ W', Below W.heap.size W W' → W'.cell? ⟨w.heap.size + 1 + 1, 1, none⟩ = some (.int .i64 by') := fun W' h => by
    rw [h.cell (by subst hW; simp <;> omega)]; subst hW; simp [go_sem]
  have q0 := c00
  clear hW
  have HB0 : Hid (Below w.heap.size w W) := hB0
  clear hB0
  go_cut [7, 8] (fun t s wc => ∃ b d : Nat, t = .pointer (some ⟨b, 0, none⟩) ∧ s = .pointer (some ⟨d, 0, none⟩) ∧ b ≠ d ∧ Below W.heap.size W wc ∧ W.heap.size ≤ b ∧ W.heap.size ≤ d ∧ wc.cell? ⟨b, 0, none⟩ = some (.int .i64 ax) ∧ wc.cell? ⟨b, 1, none⟩ = some (.int .i64 ay) ∧ wc.cell? ⟨d, 0, none⟩ = some (.int .i64 bx) ∧ wc.cell? ⟨d, 1, none⟩ = some (.int .i64 by') ∧ wc.frozen? ⟨b, 0, none⟩ = false ∧ wc.frozen? ⟨b, 1, none⟩ = false ∧ wc.frozen? ⟨d, 0, none⟩ = false ∧ wc.frozen? ⟨d, 1, none⟩ = false)
  case first =>
    go_region_held3 (fun W' => Below W.heap.size W W') ((repeat (first | exact Below.refl _ _ | assumption | refine Below.drew ?_ | refine bl_alloc ?_ _ | refine bl_then ?_ (by assumption) | refine Below.setCell ?_ (by first | omega | (simp; done) | (simp; omega)) _ | refine bl_store ?_ ?_ _ _))) (fail)
    all_goals
      go_wp2_with fail
      go_meet
      case rel =>
        refine ⟨_, _, rfl, rfl, by first | omega | (simp; done) | (simp; omega), by assumption, by first | omega | (simp; done) | (simp; omega), by first | omega | (simp; done) | (simp; omega), ?_, ?_, ?_, ?_, ?_, ?_, ?_, ?_⟩ <;> (go_simp; done)
  case rest =>
    obtain ⟨b1, d1, rfl, rfl, hne, hB1, hb1, hd1, x1, x2, x3, x4, f1, f2, f3, f4⟩ := hcut
    have hne' : d1 ≠ b1 := fun h => hne h.symm
    have hw0 := World.block_lt_of_cell? _ _ (c00 W (Below.refl _ _))
    have n1 : b1 ≠ w.heap.size := by have : w.heap.size < W.heap.size := hw0; omega
    have n2 : d1 ≠ w.heap.size := by have : w.heap.size < W.heap.size := hw0; omega
    have p1 := c01 wc hB1
    clear hw0 c00 c01 c10 c11 c20 c21
    have p0 := q0 wc hB1
    clear q0
    go_wp2_with (go_at_call 169; refine (turnOf_any _ _ _ _ _ _ _ HB.out HA.out HP.out).mono ?_; rintro e w' ⟨rfl, hbz⟩)
    go_ret
    exact ⟨ret_bool HE.out.symm, bl_then HB0.out (by (repeat (first | exact Below.refl _ _ | assumption | refine Below.drew ?_ | refine bl_alloc ?_ _ | refine bl_then ?_ (by assumption) | refine Below.setCell ?_ (by first | omega | (simp; done) | (simp; omega)) _ | refine bl_store ?_ ?_ _ _)))⟩

set_option maxHeartbeats 2000000 in
theorem isCrossed_dn1 (px py ax ay bx by' : Int) (w : World) (hp : okP px py = true) (ha : okP ax ay = true) (hb : okP bx by' = true) (h : by' < ay) (h1 : ¬ by' ≤ py) :
    Calls Tryz.prog 156 #[.agg #[.int .i64 px, .int .i64 py], .agg #[.int .i64 ax, .int .i64 ay], .agg #[.int .i64 bx, .int .i64 by']] w fun e w' => e = .returned (.bool (sideB px py ax ay bx by')) ∧ Below w.heap.size w w' := by
  have HP : Hid (okP px py = true) := hp
  have HA : Hid (okP ax ay = true) := ha
  have HB : Hid (okP bx by' = true) := hb
  clear hp ha hb
  have HE : Hid (sideB px py ax ay bx by' = false) := by
    show _ = _
    rw [side_down h]
    simp [h1]
  have h1' : decide (by' ≤ py) = false := by simpa using h1
  go_enter Tryz.func156, Tryz.ntmps156
  go_wp2
  generalize hW : (((w.alloc _).alloc _).alloc _ : World) = W
  have hB0 : Below w.heap.size w W := by subst hW; (repeat (first | exact Below.refl _ _ | assumption | refine Below.drew ?_ | refine bl_alloc ?_ _ | refine bl_then ?_ (by assumption) | refine Below.setCell ?_ (by first | omega | (simp; done) | (simp; omega)) _ | refine bl_store ?_ ?_ _ _))
  have c00 : ∀ W', Below W.heap.size W W' → W'.cell? ⟨w.heap.size, 0, none⟩ = some (.int .i64 px) := fun W' h => by
    rw [h.cell (by subst hW; simp <;> omega)]; subst hW; simp [go_sem]
  have c01 : ∀ W', Below W.heap.size W W' → W'.cell? ⟨w.heap.size, 1, none⟩ = some (.int .i64 py) := fun W' h => by
    rw [h.cell (by subst hW; simp <;> omega)]; subst hW; simp [go_sem]
  have c10 : ∀ W', Below W.heap.size W W' → W'.cell? ⟨w.heap.size + 1, 0, none⟩ = some (.int .i64 ax) := fun W' h => by
    rw [h.cell (by subst hW; simp <;> omega)]; subst hW; simp [go_sem]
  have c11 : ∀ W', Below W.heap.size W W' → W'.cell? ⟨w.heap.size + 1, 1, none⟩ = some (.int .i64 ay) := fun W' h => by
    rw [h.cell (by subst hW; simp <;> omega)]; subst hW; simp [go_sem]
  have c20 : ∀ W', Below W.heap.size W W' → W'.cell? ⟨w.heap.size + 1 + 1, 0, none⟩ = some (.int .i64 bx) := fun W' h => by
    rw [h.cell (by subst hW; simp <;> omega)]; subst hW; simp [go_sem]
  have c21 : ∀ W', Below W.heap.size W W' → W'.cell? ⟨w.heap.size + 1 + 1, 1, none⟩ = some (.int .i64 by') := fun W' h => by
    rw [h.cell (by subst hW; simp <;> omega)]; subst hW; simp [go_sem]
  have q0 := c00
  clear hW
  have HB0 : Hid (Below w.heap.size w W) := hB0
  clear hB0
  go_cut [7, 8] (fun t s wc => ∃ b d : Nat, t = .pointer (some ⟨b, 0, none⟩) ∧ s = .pointer (some ⟨d, 0, none⟩) ∧ b ≠ d ∧ Below W.heap.size W wc ∧ W.heap.size ≤ b ∧ W.heap.size ≤ d ∧ wc.cell? ⟨b, 0, none⟩ = some (.int .i64 ax) ∧ wc.cell? ⟨b, 1, none⟩ = some (.int .i64 ay) ∧ wc.cell? ⟨d, 0, none⟩ = some (.int .i64 bx) ∧ wc.cell? ⟨d, 1, none⟩ = some (.int .i64 by') ∧ wc.frozen? ⟨b, 0, none⟩ = false ∧ wc.frozen? ⟨b, 1, none⟩ = false ∧ wc.frozen? ⟨d, 0, none⟩ = false ∧ wc.frozen? ⟨d, 1, none⟩ = false)
  case first =>
    go_region_held3 (fun W' => Below W.heap.size W W') ((repeat (first | exact Below.refl _ _ | assumption | refine Below.drew ?_ | refine bl_alloc ?_ _ | refine bl_then ?_ (by assumption) | refine Below.setCell ?_ (by first | omega | (simp; done) | (simp; omega)) _ | refine bl_store ?_ ?_ _ _))) (fail)
    all_goals
      go_wp2_with fail
      go_meet
      case rel =>
        refine ⟨_, _, rfl, rfl, by first | omega | (simp; done) | (simp; omega), by assumption, by first | omega | (simp; done) | (simp; omega), by first | omega | (simp; done) | (simp; omega), ?_, ?_, ?_, ?_, ?_, ?_, ?_, ?_⟩ <;> (go_simp; done)
  case rest =>
    obtain ⟨b1, d1, rfl, rfl, hne, hB1, hb1, hd1, x1, x2, x3, x4, f1, f2, f3, f4⟩ := hcut
    have hne' : d1 ≠ b1 := fun h => hne h.symm
    have hw0 := World.block_lt_of_cell? _ _ (c00 W (Below.refl _ _))
    have n1 : b1 ≠ w.heap.size := by have : w.heap.size < W.heap.size := hw0; omega
    have n2 : d1 ≠ w.heap.size := by have : w.heap.size < W.heap.size := hw0; omega
    have p1 := c01 wc hB1
    clear hw0 c00 c01 c10 c11 c20 c21
    have p0 := q0 wc hB1
    clear q0
    go_wp2
    go_ret
    exact ⟨ret_bool HE.out.symm, bl_then HB0.out (by (repeat (first | exact Below.refl _ _ | assumption | refine Below.drew ?_ | refine bl_alloc ?_ _ | refine bl_then ?_ (by assumption) | refine Below.setCell ?_ (by first | omega | (simp; done) | (simp; omega)) _ | refine bl_store ?_ ?_ _ _)))⟩

set_option maxHeartbeats 2000000 in
theorem isCrossed_dn2 (px py ax ay bx by' : Int) (w : World) (hp : okP px py = true) (ha : okP ax ay = true) (hb : okP bx by' = true) (h : by' < ay) (h1 : by' ≤ py) (h2 : ¬ py < ay) :
    Calls Tryz.prog 156 #[.agg #[.int .i64 px, .int .i64 py], .agg #[.int .i64 ax, .int .i64 ay], .agg #[.int .i64 bx, .int .i64 by']] w fun e w' => e = .returned (.bool (sideB px py ax ay bx by')) ∧ Below w.heap.size w w' := by
  have HP : Hid (okP px py = true) := hp
  have HA : Hid (okP ax ay = true) := ha
  have HB : Hid (okP bx by' = true) := hb
  clear hp ha hb
  have HE : Hid (sideB px py ax ay bx by' = false) := by
    show _ = _
    rw [side_down h]
    simp [h1, h2]
  have h2' : decide (py < ay) = false := by simpa using h2
  go_enter Tryz.func156, Tryz.ntmps156
  go_wp2
  generalize hW : (((w.alloc _).alloc _).alloc _ : World) = W
  have hB0 : Below w.heap.size w W := by subst hW; (repeat (first | exact Below.refl _ _ | assumption | refine Below.drew ?_ | refine bl_alloc ?_ _ | refine bl_then ?_ (by assumption) | refine Below.setCell ?_ (by first | omega | (simp; done) | (simp; omega)) _ | refine bl_store ?_ ?_ _ _))
  have c00 : ∀ W', Below W.heap.size W W' → W'.cell? ⟨w.heap.size, 0, none⟩ = some (.int .i64 px) := fun W' h => by
    rw [h.cell (by subst hW; simp <;> omega)]; subst hW; simp [go_sem]
  have c01 : ∀ W', Below W.heap.size W W' → W'.cell? ⟨w.heap.size, 1, none⟩ = some (.int .i64 py) := fun W' h => by
    rw [h.cell (by subst hW; simp <;> omega)]; subst hW; simp [go_sem]
  have c10 : ∀ W', Below W.heap.size W W' → W'.cell? ⟨w.heap.size + 1, 0, none⟩ = some (.int .i64 ax) := fun W' h => by
    rw [h.cell (by subst hW; simp <;> omega)]; subst hW; simp [go_sem]
  have c11 : ∀ W', Below W.heap.size W W' → W'.cell? ⟨w.heap.size + 1, 1, none⟩ = some (.int .i64 ay) := fun W' h => by
    rw [h.cell (by subst hW; simp <;> omega)]; subst hW; simp [go_sem]
  have c20 : ∀ W', Below W.heap.size W W' → W'.cell? ⟨w.heap.size + 1 + 1, 0, none⟩ = some (.int .i64 bx) := fun W' h => by
    rw [h.cell (by subst hW; simp <;> omega)]; subst hW; simp [go_sem]
  have c21 : ∀ W', Below W.heap.size W W' → W'.cell? ⟨w.heap.size + 1 + 1, 1, none⟩ = some (.int .i64 by') := fun W' h => by
    rw [h.cell (by subst hW; simp <;> omega)]; subst hW; simp [go_sem]
  have q0 := c00
  clear hW
  have HB0 : Hid (Below w.heap.size w W) := hB0
  clear hB0
  go_cut [7, 8] (fun t s wc => ∃ b d : Nat, t = .pointer (some ⟨b, 0, none⟩) ∧ s = .pointer (some ⟨d, 0, none⟩) ∧ b ≠ d ∧ Below W.heap.size W wc ∧ W.heap.size ≤ b ∧ W.heap.size ≤ d ∧ wc.cell? ⟨b, 0, none⟩ = some (.int .i64 ax) ∧ wc.cell? ⟨b, 1, none⟩ = some (.int .i64 ay) ∧ wc.cell? ⟨d, 0, none⟩ = some (.int .i64 bx) ∧ wc.cell? ⟨d, 1, none⟩ = some (.int .i64 by') ∧ wc.frozen? ⟨b, 0, none⟩ = false ∧ wc.frozen? ⟨b, 1, none⟩ = false ∧ wc.frozen? ⟨d, 0, none⟩ = false ∧ wc.frozen? ⟨d, 1, none⟩ = false)
  case first =>
    go_region_held3 (fun W' => Below W.heap.size W W') ((repeat (first | exact Below.refl _ _ | assumption | refine Below.drew ?_ | refine bl_alloc ?_ _ | refine bl_then ?_ (by assumption) | refine Below.setCell ?_ (by first | omega | (simp; done) | (simp; omega)) _ | refine bl_store ?_ ?_ _ _))) (fail)
    all_goals
      go_wp2_with fail
      go_meet
      case rel =>
        refine ⟨_, _, rfl, rfl, by first | omega | (simp; done) | (simp; omega), by assumption, by first | omega | (simp; done) | (simp; omega), by first | omega | (simp; done) | (simp; omega), ?_, ?_, ?_, ?_, ?_, ?_, ?_, ?_⟩ <;> (go_simp; done)
  case rest =>
    obtain ⟨b1, d1, rfl, rfl, hne, hB1, hb1, hd1, x1, x2, x3, x4, f1, f2, f3, f4⟩ := hcut
    have hne' : d1 ≠ b1 := fun h => hne h.symm
    have hw0 := World.block_lt_of_cell? _ _ (c00 W (Below.refl _ _))
    have n1 : b1 ≠ w.heap.size := by have : w.heap.size < W.heap.size := hw0; omega
    have n2 : d1 ≠ w.heap.size := by have : w.heap.size < W.heap.size := hw0; omega
    have p1 := c01 wc hB1
    clear hw0 c00 c01 c10 c11 c20 c21
    have p0 := q0 wc hB1
    clear q0
    go_wp2
    go_ret
    exact ⟨ret_bool HE.out.symm, bl_then HB0.out (by (repeat (first | exact Below.refl _ _ | assumption | refine Below.drew ?_ | refine bl_alloc ?_ _ | refine bl_then ?_ (by assumption) | refine Below.setCell ?_ (by first | omega | (simp; done) | (simp; omega)) _ | refine bl_store ?_ ?_ _ _)))⟩

theorem isCrossed_any (px py ax ay bx by' : Int) (w : World) (hp : okP px py = true) (ha : okP ax ay = true) (hb : okP bx by' = true) :
    Calls Tryz.prog 156 #[.agg #[.int .i64 px, .int .i64 py], .agg #[.int .i64 ax, .int .i64 ay], .agg #[.int .i64 bx, .int .i64 by']] w fun e w' => e = .returned (.bool (sideB px py ax ay bx by')) ∧ Below w.heap.size w w' := by
  by_cases h : by' < ay
  · by_cases h1 : by' ≤ py
    · by_cases h2 : py < ay
      · exact isCrossed_dn _ _ _ _ _ _ _ hp ha hb h h1 h2
      · exact isCrossed_dn2 _ _ _ _ _ _ _ hp ha hb h h1 h2
    · exact isCrossed_dn1 _ _ _ _ _ _ _ hp ha hb h h1
  · by_cases h1 : ay ≤ py
    · by_cases h2 : py < by'
      · exact isCrossed_up _ _ _ _ _ _ _ hp ha hb (by omega) h1 h2
      · exact isCrossed_up2 _ _ _ _ _ _ _ hp ha hb (by omega) h1 h2
    · exact isCrossed_up1 _ _ _ _ _ _ _ hp ha hb (by omega) h1
end Go.Proofs.YtciidkmonfmipaaGreat
