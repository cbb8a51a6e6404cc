/- Several texts in one. -/
import Derived.Test.YtciidkmonfmipaaGreatVPutTile10
import Derived.Test.YtciidkmonfmipaaGreatVPutTile8
import Derived.Test.YtciidkmonfmipaaGreatVPutTile11

/- isCrossed of the program: whether a side is crossed. -/

namespace Go.Proofs.YtciidkmonfmipaaGreat
open Go.RowKit
set_option linter.unusedSimpArgs false
set_option linter.unusedVariables false

set_option maxHeartbeats 2000000 in
theorem isCrossed_dn (px py ax ay bx by' : Int) (w : World) (hp : okP px py = true) (ha : okP ax ay = true) (hb : okP bx by' = true) (h : by' < ay) (h1 : by' ≤ py) (h2 : py < ay) :
    Calls Tryz.prog 156 #[.agg #[.int .i64 px, .int .i64 py], .agg #[.int .i64 ax, .int .i64 ay], .agg #[.int .i64 bx, .int .i64 by']] w fun e w' => e = .returned (.bool (sideB px py ax ay bx by')) ∧ Below w.heap.size w w' := by
  have HP : Hid (okP px py = true) := hp
  have HA : Hid (okP ax ay = true) := ha
  have HB : Hid (okP bx by' = true) := hb
  clear hp ha hb
  have HE : Hid (sideB px py ax ay bx by' = decide (0 < crossI bx by' ax ay px py)) := by
    show _ = _
    rw [side_down h]
    simp [h1, h2]
  go_enter Tryz.func156, Tryz.ntmps156
  go_wp2
  generalize hW : (((w.alloc _).alloc _).alloc _ : World) = W
  have hB0 : Below w.heap.size w W := by subst hW; (repeat (first | exact Below.refl _ _ | assumption | refine Below.drew ?_ | refine bl_alloc ?_ _ | refine bl_then ?_ (by assumption) | refine Below.setCell ?_ (by first | omega | (simp; done) | (simp; omega)) _ | refine bl_store ?_ ?_ _ _))
  have c00 : ∀ W', Below W.heap.size W W' → W'.cell? ⟨w.heap.size, 0, none⟩ = some (.int .i64 px) := fun W' h => by
    rw [h.cell (by subst hW; simp <;> omega)]; subst hW; simp [go_sem]
  have c01 : ∀ W', Below W.heap.size W W' → W'.cell? ⟨w.heap.size, 1, none⟩ = some (.int .i64 py) := fun W' h => by
    rw [h.cell (by subst hW; simp <;> omega)]; subst hW; simp [go_sem]
  have c10 : ∀ W', Below W.heap.size W W' → W'.cell? ⟨w.heap.size + 1, 0, none⟩ = some (.int .i64 ax) := fun W' h => by
    rw [h.cell (by subst hW; simp <;> omega)]; subst hW; simp [go_sem]
  have c11 : ∀ W', Below W.heap.size W W' → W'.cell? ⟨w.heap.size + 1, 1, none⟩ = some (.int .i64 ay) := fun W' h => by
    rw [h.cell (by subst hW; simp <;> omega)]; subst hW; simp [go_sem]
  have c20 : ∀ W', Below W.heap.size W W' → W'.cell? ⟨w.heap.size + 1 + 1, 0, none⟩ = some (.int .i64 bx) := fun W' h => by
    rw [h.cell (by subst hW; simp <;> omega)]; subst hW; simp [go_sem]
  have c21 : ∀ W', Below W.heap.size W W' → W'.cell? ⟨w.heap.size + 1 + 1, 1, none⟩ = some (.int .i64 by') := fun W' h => by
    rw [h.cell (by subst hW; simp <;> omega)]; subst hW; simp [go_sem]
  have q0 := c00
  clear hW
  have HB0 : Hid (Below w.heap.size w W) := hB0
  clear hB0
  go_cut [7, 8] (fun t s wc => ∃ b d : Nat, t = .pointer (some ⟨b, 0, none⟩) ∧ s = .pointer (some ⟨d, 0, none⟩) ∧ b ≠ d ∧ Below W.heap.size W wc ∧ W.heap.size ≤ b ∧ W.heap.size ≤ d ∧ wc.cell? ⟨b, 0, none⟩ = some (.int .i64 ax) ∧ wc.cell? ⟨b, 1, none⟩ = some (.int .i64 ay) ∧ wc.cell? ⟨d, 0, none⟩ = some (.int .i64 bx) ∧ wc.cell? ⟨d, 1, none⟩ = some (.int .i64 by') ∧ wc.frozen? ⟨b, 0, none⟩ = false ∧ wc.frozen? ⟨b, 1, none⟩ = false ∧ wc.frozen? ⟨d, 0, none⟩ = false ∧ wc.frozen? ⟨d, 1, none⟩ = false)
  case first =>
    go_region_held3 (fun W' => Below W.heap.size W W') ((repeat (first | exact Below.refl _ _ | assumption | refine Below.drew ?_ | refine bl_alloc ?_ _ | refine bl_then ?_ (by assumption) | refine Below.setCell ?_ (by first | omega | (simp; done) | (simp; omega)) _ | refine bl_store ?_ ?_ _ _))) (fail)
    all_goals
      go_wp2_with fail
      go_meet
      case rel =>
        refine ⟨_, _, rfl, rfl, by first | omega | (simp; done) | (simp; omega), by assumption, by first | omega | (simp; done) | (simp; omega), by first | omega | (simp; done) | (simp; omega), ?_, ?_, ?_, ?_, ?_, ?_, ?_, ?_⟩ <;> (go_simp; done)
  case rest =>
    obtain ⟨b1, d1, rfl, rfl, hne, hB1, hb1, hd1, x1, x2, x3, x4, f1, f2, f3, f4⟩ := hcut
    have hne' : d1 ≠ b1 := fun h => hne h.symm
    have hw0 := World.block_lt_of_cell? _ _ (c00 W (Below.refl _ _))
    have n1 : b1 ≠ w.heap.size := by have : w.heap.size < W.heap.size := hw0; omega
    have n2 : d1 ≠ w.heap.size := by have : w.heap.size < W.heap.size := hw0; omega
    have p1 := c01 wc hB1
    clear hw0 c00 c01 c10 c11 c20 c21
    have p0 := q0 wc hB1
    clear q0
    go_wp2_with (go_at_call 169; refine (turnOf_any _ _ _ _ _ _ _ HB.out HA.out HP.out).mono ?_; rintro e w' ⟨rfl, hbz⟩)
    go_ret
    exact ⟨ret_bool HE.out.symm, bl_then HB0.out (by (repeat (first | exact Below.refl _ _ | assumption | refine Below.drew ?_ | refine bl_alloc ?_ _ | refine bl_then ?_ (by assumption) | refine Below.setCell ?_ (by first | omega | (simp; done) | (simp; omega)) _ | refine bl_store ?_ ?_ _ _)))⟩

set_option maxHeartbeats 2000000 in
theorem isCrossed_dn1 (px py ax ay bx by' : Int) (w : World) (hp : okP px py = true) (ha : okP ax ay = true) (hb : okP bx by' = true) (h : by' < ay) (h1 : ¬ by' ≤ py) :
    Calls Tryz.prog 156 #[.agg #[.int .i64 px, .int .i64 py], .agg #[.int .i64 ax, .int .i64 ay], .agg #[.int .i64 bx, .int .i64 by']] w fun e w' => e = .returned (.bool (sideB px py ax ay bx by')) ∧ Below w.heap.size w w' := by
  have HP : Hid (okP px py = true) := hp
  have HA : Hid (okP ax ay = true) := ha
  have HB : Hid (okP bx by' = true) := hb
  clear hp ha hb
  have HE : Hid (sideB px py ax ay bx by' = false) := by
    show _ = _
    rw [side_down h]
    simp [h1]
  have h1' : decide (by' ≤ py) = false := by simpa using h1
  go_enter Tryz.func156, Tryz.ntmps156
  go_wp2
  generalize hW : (((w.alloc _).alloc _).alloc _ : World) = W
  have hB0 : Below w.heap.size w W := by subst hW; (repeat (first | exact Below.refl _ _ | assumption | refine Below.drew ?_ | refine bl_alloc ?_ _ | refine bl_then ?_ (by assumption) | refine Below.setCell ?_ (by first | omega | (simp; done) | (simp; omega)) _ | refine bl_store ?_ ?_ _ _))
  have c00 : ∀ W', Below W.heap.size W W' → W'.cell? ⟨w.heap.size, 0, none⟩ = some (.int .i64 px) := fun W' h => by
    rw [h.cell (by subst hW; simp <;> omega)]; subst hW; simp [go_sem]
  have c01 : ∀ W', Below W.heap.size W W' → W'.cell? ⟨w.heap.size, 1, none⟩ = some (.int .i64 py) := fun W' h => by
    rw [h.cell (by subst hW; simp <;> omega)]; subst hW; simp [go_sem]
  have c10 : ∀ W', Below W.heap.size W W' → W'.cell? ⟨w.heap.size + 1, 0, none⟩ = some (.int .i64 ax) := fun W' h => by
    rw [h.cell (by subst hW; simp <;> omega)]; subst hW; simp [go_sem]
  have c11 : ∀ W', Below W.heap.size W W' → W'.cell? ⟨w.heap.size + 1, 1, none⟩ = some (.int .i64 ay) := fun W' h => by
    rw [h.cell (by subst hW; simp <;> omega)]; subst hW; simp [go_sem]
  have c20 : ∀ W', Below W.heap.size W W' → W'.cell? ⟨w.heap.size + 1 + 1, 0, none⟩ = some (.int .i64 bx) := fun W' h => by
    rw [h.cell (by subst hW; simp <;> omega)]; subst hW; simp [go_sem]
  have c21 : ∀ W', Below W.heap.size W W' → W'.cell? ⟨w.heap.size + 1 + 1, 1, none⟩ = some (.int .i64 by') := fun W' h => by
    rw [h.cell (by subst hW; simp <;> omega)]; subst hW; simp [go_sem]
  have q0 := c00
  clear hW
  have HB0 : Hid (Below w.heap.size w W) := hB0
  clear hB0
  go_cut [7, 8] (fun t s wc => ∃ b d : Nat, t = .pointer (some ⟨b, 0, none⟩) ∧ s = .pointer (some ⟨d, 0, none⟩) ∧ b ≠ d ∧ Below W.heap.size W wc ∧ W.heap.size ≤ b ∧ W.heap.size ≤ d ∧ wc.cell? ⟨b, 0, none⟩ = some (.int .i64 ax) ∧ wc.cell? ⟨b, 1, none⟩ = some (.int .i64 ay) ∧ wc.cell? ⟨d, 0, none⟩ = some (.int .i64 bx) ∧ wc.cell? ⟨d, 1, none⟩ = some (.int .i64 by') ∧ wc.frozen? ⟨b, 0, none⟩ = false ∧ wc.frozen? ⟨b, 1, none⟩ = false ∧ wc.frozen? ⟨d, 0, none⟩ = false ∧ wc.frozen? ⟨d, 1, none⟩ = false)
  case first =>
    go_region_held3 (fun W' => Below W.heap.size W W') ((repeat (first | exact Below.refl _ _ | assumption | refine Below.drew ?_ | refine bl_alloc ?_ _ | refine bl_then ?_ (by assumption) | refine Below.setCell ?_ (by first | omega | (simp; done) | (simp; omega)) _ | refine bl_store ?_ ?_ _ _))) (fail)
    all_goals
      go_wp2_with fail
      go_meet
      case rel =>
        refine ⟨_, _, rfl, rfl, by first | omega | (simp; done) | (simp; omega), by assumption, by first | omega | (simp; done) | (simp; omega), by first | omega | (simp; done) | (simp; omega), ?_, ?_, ?_, ?_, ?_, ?_, ?_, ?_⟩ <;> (go_simp; done)
  case rest =>
    obtain ⟨b1, d1, rfl, rfl, hne, hB1, hb1, hd1, x1, x2, x3, x4, f1, f2, f3, f4⟩ := hcut
    have hne' : d1 ≠ b1 := fun h => hne h.symm
    have hw0 := World.block_lt_of_cell? _ _ (c00 W (Below.refl _ _))
    have n1 : b1 ≠ w.heap.size := by have : w.heap.size < W.heap.size := hw0; omega
    have n2 : d1 ≠ w.heap.size := by have : w.heap.size < W.heap.size := hw0; omega
    have p1 := c01 wc hB1
    clear hw0 c00 c01 c10 c11 c20 c21
    have p0 := q0 wc hB1
    clear q0
    go_wp2
    go_ret
    exact ⟨ret_bool HE.out.symm, bl_then HB0.out (by (repeat (first | exact Below.refl _ _ | assumption | refine Below.drew ?_ | refine bl_alloc ?_ _ | refine bl_then ?_ (by assumption) | refine Below.setCell ?_ (by first | omega | (simp; done) | (simp; omega)) _ | refine bl_store ?_ ?_ _ _)))⟩

set_option maxHeartbeats 2000000 in
theorem isCrossed_dn2 (px py ax ay bx by' : Int) (w : World) (hp : okP px py = true) (ha : okP ax ay = true) (hb : okP bx by' = true) (h : by' < ay) (h1 : by' ≤ py) (h2 : ¬ py < ay) :
    Calls Tryz.prog 156 #[.agg #[.int .i64 px, .int .i64 py], .agg #[.int .i64 ax, .int .i64 ay], .agg #[.int .i64 bx, .int .i64 by']] w fun e w' => e = .returned (.bool (sideB px py ax ay bx by')) ∧ Below w.heap.size w w' := by
  have HP : Hid (okP px py = true) := hp
  have HA : Hid (okP ax ay = true) := ha
  have HB : Hid (okP bx by' = true) := hb
  clear hp ha hb
  have HE : Hid (sideB px py ax ay bx by' = false) := by
    show _ = _
    rw [side_down h]
    simp [h1, h2]
  have h2' : decide (py < ay) = false := by simpa using h2
  go_enter Tryz.func156, Tryz.ntmps156
  go_wp2
  generalize hW : (((w.alloc _).alloc _).alloc _ : World) = W
  have hB0 : Below w.heap.size w W := by subst hW; (repeat (first | exact Below.refl _ _ | assumption | refine Below.drew ?_ | refine bl_alloc ?_ _ | refine bl_then ?_ (by assumption) | refine Below.setCell ?_ (by first | omega | (simp; done) | (simp; omega)) _ | refine bl_store ?_ ?_ _ _))
  have c00 : ∀ W', Below W.heap.size W W' → W'.cell? ⟨w.heap.size, 0, none⟩ = some (.int .i64 px) := fun W' h => by
    rw [h.cell (by subst hW; simp <;> omega)]; subst hW; simp [go_sem]
  have c01 : ∀ W', Below W.heap.size W W' → W'.cell? ⟨w.heap.size, 1, none⟩ = some (.int .i64 py) := fun W' h => by
    rw [h.cell (by subst hW; simp <;> omega)]; subst hW; simp [go_sem]
  have c10 : ∀ W', Below W.heap.size W W' → W'.cell? ⟨w.heap.size + 1, 0, none⟩ = some (.int .i64 ax) := fun W' h => by
    rw [h.cell (by subst hW; simp <;> omega)]; subst hW; simp [go_sem]
  have c11 : ∀ W', Below W.heap.size W W' → W'.cell? ⟨w.heap.size + 1, 1, none⟩ = some (.int .i64 ay) := fun W' h => by
    rw [h.cell (by subst hW; simp <;> omega)]; subst hW; simp [go_sem]
  have c20 : ∀ W', Below W.heap.size W W' → W'.cell? ⟨w.heap.size + 1 + 1, 0, none⟩ = some (.int .i64 bx) := fun W' h => by
    rw [h.cell (by subst hW; simp <;> omega)]; subst hW; simp [go_sem]
  have c21 : ∀ W', Below W.heap.size W W' → W'.cell? ⟨w.heap.size + 1 + 1, 1, none⟩ = some (.int .i64 by') := fun W' h => by
    rw [h.cell (by subst hW; simp <;> omega)]; subst hW; simp [go_sem]
  have q0 := c00
  clear hW
  have HB0 : Hid (Below w.heap.size w W) := hB0
  clear hB0
  go_cut [7, 8] (fun t s wc => ∃ b d : Nat, t = .pointer (some ⟨b, 0, none⟩) ∧ s = .pointer (some ⟨d, 0, none⟩) ∧ b ≠ d ∧ Below W.heap.size W wc ∧ W.heap.size ≤ b ∧ W.heap.size ≤ d ∧ wc.cell? ⟨b, 0, none⟩ = some (.int .i64 ax) ∧ wc.cell? ⟨b, 1, none⟩ = some (.int .i64 ay) ∧ wc.cell? ⟨d, 0, none⟩ = some (.int .i64 bx) ∧ wc.cell? ⟨d, 1, none⟩ = some (.int .i64 by') ∧ wc.frozen? ⟨b, 0, none⟩ = false ∧ wc.frozen? ⟨b, 1, none⟩ = false ∧ wc.frozen? ⟨d, 0, none⟩ = false ∧ wc.frozen? ⟨d, 1, none⟩ = false)
  case first =>
    go_region_held3 (fun W' => Below W.heap.size W W') ((repeat (first | exact Below.refl _ _ | assumption | refine Below.drew ?_ | refine bl_alloc ?_ _ | refine bl_then ?_ (by assumption) | refine Below.setCell ?_ (by first | omega | (simp; done) | (simp; omega)) _ | refine bl_store ?_ ?_ _ _))) (fail)
    all_goals
      go_wp2_with fail
      go_meet
      case rel =>
        refine ⟨_, _, rfl, rfl, by first | omega | (simp; done) | (simp; omega), by assumption, by first | omega | (simp; done) | (simp; omega), by first | omega | (simp; done) | (simp; omega), ?_, ?_, ?_, ?_, ?_, ?_, ?_, ?_⟩ <;> (go_simp; done)
  case rest =>
    obtain ⟨b1, d1, rfl, rfl, hne, hB1, hb1, hd1, x1, x2, x3, x4, f1, f2, f3, f4⟩ := hcut
    have hne' : d1 ≠ b1 := fun h => hne h.symm
    have hw0 := World.block_lt_of_cell? _ _ (c00 W (Below.refl _ _))
    have n1 : b1 ≠ w.heap.size := by have : w.heap.size < W.heap.size := hw0; omega
    have n2 : d1 ≠ w.heap.size := by have : w.heap.size < W.heap.size := hw0; omega
    have p1 := c01 wc hB1
    clear hw0 c00 c01 c10 c11 c20 c21
    have p0 := q0 wc hB1
    clear q0
    go_wp2
    go_ret
    exact ⟨ret_bool HE.out.symm, bl_then HB0.out (by (repeat (first | exact Below.refl _ _ | assumption | refine Below.drew ?_ | refine bl_alloc ?_ _ | refine bl_then ?_ (by assumption) | refine Below.setCell ?_ (by first | omega | (simp; done) | (simp; omega)) _ | refine bl_store ?_ ?_ _ _)))⟩

theorem isCrossed_any (px py ax ay bx by' : Int) (w : World) (hp : okP px py = true) (ha : okP ax ay = true) (hb : okP bx by' = true) :
    Calls Tryz.prog 156 #[.agg #[.int .i64 px, .int .i64 py], .agg #[.int .i64 ax, .int .i64 ay], .agg #[.int .i64 bx, .int .i64 by']] w fun e w' => e = .returned (.bool (sideB px py ax ay bx by')) ∧ Below w.heap.size w w' := by
  by_cases h : by' < ay
  · by_cases h1 : by' ≤ py
    · by_cases h2 : py < ay
      · exact isCrossed_dn _ _ _ _ _ _ _ hp ha hb h h1 h2
      · exact isCrossed_dn2 _ _ _ _ _ _ _ hp ha hb h h1 h2
    · exact isCrossed_dn1 _ _ _ _ _ _ _ hp ha hb h h1
  · by_cases h1 : ay ≤ py
    · by_cases h2 : py < by'
      · exact isCrossed_up _ _ _ _ _ _ _ hp ha hb (by omega) h1 h2
      · exact isCrossed_up2 _ _ _ _ _ _ _ hp ha hb (by omega) h1 h2
    · exact isCrossed_up1 _ _ _ _ _ _ _ hp ha hb (by omega) h1
end Go.Proofs.YtciidkmonfmipaaGreat
/- IsInside of the program: what it answers at every list. -/

namespace Go.Proofs.YtciidkmonfmipaaGreat
open Go.RowKit
set_option linter.unusedSimpArgs false
set_option linter.unusedVariables false

/-- The place ahead, around the ring. -/
def prevI (n k : Nat) : Nat := if k = 0 then n - 1 else k - 1
/-- Whether the side that ends at place i is crossed. -/
def sideTo (px py : Int) (n : Nat) (X Y : Nat → Int) (i : Nat) : Bool := sideB px py (X (prevI n i)) (Y (prevI n i)) (X i) (Y i)
theorem odd_same (px py : Int) (n : Nat) (X Y : Nat → Int) (hn : 0 < n) : oddTo (sideTo px py n X Y) n = oddTo (sideAt px py n X Y) n := by
  refine oddTo_turn _ _ n ?_ (fun i hi => ?_) hn
  · have e : n - 1 + 1 = n := by omega
    simp [sideTo, sideAt, prevI, e, Nat.mod_self]
  · simp [sideTo, sideAt, prevI, Nat.mod_eq_of_lt hi]

set_option maxHeartbeats 2000000 in
theorem impl_IsInside_few (px py : Int) (a : Option Addr) (n cap : Nat) (X Y : Nat → Int) (w : World) (hn : n < 3) :
    Calls Tryz.prog 142 #[.agg #[.int .i64 px, .int .i64 py], .slice a n cap] w fun e w' => e = .returned (.bool (insideB px py n X Y)) ∧ Below w.heap.size w w' := by
  have HE : Hid (insideB px py n X Y = false) := by
    show _ = _
    have : ¬ 3 ≤ n := by omega
    simp [insideB, this]
  have hni : (n : Int) < 3 := by omega
  go_enter Tryz.func142, Tryz.ntmps142
  go_wp2
  go_ret
  exact ⟨ret_bool HE.out.symm, by (repeat (first | exact Below.refl _ _ | assumption | refine Below.drew ?_ | refine bl_alloc ?_ _ | refine bl_then ?_ (by assumption) | refine Below.setCell ?_ (by first | omega | (simp; done) | (simp; omega)) _ | refine bl_store ?_ ?_ _ _))⟩

set_option maxHeartbeats 2000000 in
theorem impl_IsInside_many (px py : Int) (a : Option Addr) (n cap : Nat) (X Y : Nat → Int) (w : World) (hn : 40 < n) (hmax : n ≤ 1048576) :
    Calls Tryz.prog 142 #[.agg #[.int .i64 px, .int .i64 py], .slice a n cap] w fun e w' => e = .returned (.bool (insideB px py n X Y)) ∧ Below w.heap.size w w' := by
  have HE : Hid (insideB px py n X Y = false) := by
    show _ = _
    have : ¬ n ≤ 40 := by omega
    simp [insideB, this]
  have hni : (40 : Int) < (n : Int) := by omega
  have hn3 : decide ((n : Int) < 3) = false := by simp; omega
  go_enter Tryz.func142, Tryz.ntmps142
  go_wp2
  go_ret
  exact ⟨ret_bool HE.out.symm, by (repeat (first | exact Below.refl _ _ | assumption | refine Below.drew ?_ | refine bl_alloc ?_ _ | refine bl_then ?_ (by assumption) | refine Below.setCell ?_ (by first | omega | (simp; done) | (simp; omega)) _ | refine bl_store ?_ ?_ _ _))⟩

set_option maxHeartbeats 2000000 in
theorem impl_IsInside_p (px py : Int) (b n cap : Nat) (X Y : Nat → Int) (w : World) (hp : okP px py = false) (h3 : 3 ≤ n) (h40 : n ≤ 40) :
    Calls Tryz.prog 142 #[.agg #[.int .i64 px, .int .i64 py], .slice (some ⟨b, 0, none⟩) n cap] w fun e w' => e = .returned (.bool (insideB px py n X Y)) ∧ Below w.heap.size w w' := by
  have HE : Hid (insideB px py n X Y = false) := by show _ = _; simp [insideB, hp]
  have k1 := codeP_no hp
  have hn3 : decide ((n : Int) < 3) = false := by simp; omega
  have hn40 : decide ((40 : Int) < (n : Int)) = false := by simp; omega
  clear hp
  go_enter Tryz.func142, Tryz.ntmps142
  go_wp2_with (go_at_call 153; refine (PointFault_any _ _ _).mono ?_; rintro e w' ⟨rfl, hb⟩)
  go_ret
  exact ⟨ret_bool HE.out.symm, by (repeat (first | exact Below.refl _ _ | assumption | refine Below.drew ?_ | refine bl_alloc ?_ _ | refine bl_then ?_ (by assumption) | refine Below.setCell ?_ (by first | omega | (simp; done) | (simp; omega)) _ | refine bl_store ?_ ?_ _ _))⟩

set_option maxHeartbeats 2000000 in
theorem impl_IsInside_bad (px py : Int) (b n cap : Nat) (X Y : Nat → Int) (w : World) (hp : okP px py = true) (hpt : PtsAt w b 0 n X Y) (hbl : b < w.heap.size) (hcap : n ≤ cap) (h3 : 3 ≤ n) (h40 : n ≤ 40) (hall : allOk n X Y = false) :
    Calls Tryz.prog 142 #[.agg #[.int .i64 px, .int .i64 py], .slice (some ⟨b, 0, none⟩) n cap] w fun e w' => e = .returned (.bool (insideB px py n X Y)) ∧ Below w.heap.size w w' := by
  have HE : Hid (insideB px py n X Y = false) := by show _ = _; simp [insideB, hall]
  have hN : codeN n X Y = 3 := by simp [codeN, hall]
  have HQ : Hid (PtsAt w b 0 n X Y) := hpt
  have k1 := codeP_ok hp
  have hn3 : decide ((n : Int) < 3) = false := by simp; omega
  have hn40 : decide ((40 : Int) < (n : Int)) = false := by simp; omega
  clear hp hpt hall
  go_enter Tryz.func142, Tryz.ntmps142
  go_wp2_with fail
  refine (PointFault_any _ _ _).mono ?_
  rintro e w1 ⟨rfl, hb1⟩
  have hB1 : Below w.heap.size w w1 := by (repeat (first | exact Below.refl _ _ | assumption | refine Below.drew ?_ | refine bl_alloc ?_ _ | refine bl_then ?_ (by assumption) | refine Below.setCell ?_ (by first | omega | (simp; done) | (simp; omega)) _ | refine bl_store ?_ ?_ _ _))
  have HQ1 : Hid (PtsAt w1 b 0 n X Y) := HQ.out.below hB1 hbl
  have hbl1 : b < w1.heap.size := Nat.lt_of_lt_of_le hbl hB1.size
  have HB1 : Hid (Below w.heap.size w w1) := hB1
  clear hB1 hb1
  go_wp2_with (go_at_call 154; refine (faultIn_any _ _ _ _ X Y _ HQ1.out hbl1 hcap (by omega)).mono ?_; rintro e w2 ⟨rfl, hb2⟩)
  go_ret
  exact ⟨ret_bool HE.out.symm, bl_then HB1.out hb2⟩

set_option maxHeartbeats 4000000 in
theorem impl_IsInside_ring (px py : Int) (b n cap : Nat) (X Y : Nat → Int) (w : World) (hp : okP px py = true) (hpt : PtsAt w b 0 n X Y) (hbl : b < w.heap.size) (hcap : n ≤ cap) (h3 : 3 ≤ n) (h40 : n ≤ 40) (hall : allOk n X Y = true) :
    Calls Tryz.prog 142 #[.agg #[.int .i64 px, .int .i64 py], .slice (some ⟨b, 0, none⟩) n cap] w fun e w' => e = .returned (.bool (insideB px py n X Y)) ∧ Below w.heap.size w w' := by
  have HE : Hid (insideB px py n X Y = oddTo (sideTo px py n X Y) n) := by
    show _ = _
    rw [odd_same px py n X Y (by omega)]
    simp [insideB, hall, hp, h3, h40]
  have hN : codeN n X Y = 0 := by simp [codeN, hall]
  have HP : Hid (okP px py = true) := hp
  have HQ : Hid (PtsAt w b 0 n X Y) := hpt
  have HO : Hid (∀ i, i < n → okP (X i) (Y i) = true) := by
    show ∀ i, i < n → okP (X i) (Y i) = true
    exact of_decide_eq_true hall
  have k1 := codeP_ok hp
  have hn3 : decide ((n : Int) < 3) = false := by simp; omega
  have hn40 : decide ((40 : Int) < (n : Int)) = false := by simp; omega
  clear hp hpt hall
  go_enter Tryz.func142, Tryz.ntmps142
  go_wp2_with fail
  generalize hW : (w.alloc _ : World) = W
  have hB0 : Below w.heap.size w W := by subst hW; (repeat (first | exact Below.refl _ _ | assumption | refine Below.drew ?_ | refine bl_alloc ?_ _ | refine bl_then ?_ (by assumption) | refine Below.setCell ?_ (by first | omega | (simp; done) | (simp; omega)) _ | refine bl_store ?_ ?_ _ _))
  have c00 : ∀ W', Below W.heap.size W W' → W'.cell? ⟨w.heap.size, 0, none⟩ = some (.int .i64 px) := fun W' h => by
    rw [h.cell (by subst hW; simp <;> omega)]; subst hW; simp [go_sem]
  have c01 : ∀ W', Below W.heap.size W W' → W'.cell? ⟨w.heap.size, 1, none⟩ = some (.int .i64 py) := fun W' h => by
    rw [h.cell (by subst hW; simp <;> omega)]; subst hW; simp [go_sem]
  clear hW
  have HB0 : Hid (Below w.heap.size w W) := hB0
  have HQ1 : Hid (PtsAt W b 0 n X Y) := HQ.out.below hB0 hbl
  have hblW : b < W.heap.size := Nat.lt_of_lt_of_le hbl hB0.size
  clear hB0 HQ hbl
  refine (PointFault_any _ _ _).mono ?_
  rintro e w1 ⟨rfl, hb1⟩
  have HQ2 : Hid (PtsAt w1 b 0 n X Y) := HQ1.out.below hb1 hblW
  have hbl1 : b < w1.heap.size := Nat.lt_of_lt_of_le hblW hb1.size
  go_wp2_with fail
  refine (faultIn_any _ _ _ _ X Y _ HQ2.out hbl1 hcap (by omega)).mono ?_
  rintro e w2 ⟨rfl, hb2⟩
  have hB2 : Below W.heap.size W w2 := bl_then hb1 hb2
  have hwr : IntKind.i64.wrap ((n : Int) - 1) = (n : Int) - 1 := IntWalk.i64_in _ (by omega)
  have hi1 : (0 : Int) ≤ (n : Int) - 1 := by omega
  have hi2 : (n : Int) - 1 < (n : Int) := by omega
  have hti : ((n : Int) - 1).toNat = n - 1 := by omega
  obtain ⟨hx, hy⟩ := (HQ1.out.below hB2 hblW) (n - 1) (by omega)
  simp only [Nat.zero_add] at hx hy
  clear hb1 hb2 HQ2
  go_wp2_with fail
  refine (pairOf_any _ _ _).mono ?_
  rintro e w3 ⟨rfl, hb3⟩
  have hB3 : Below W.heap.size W w3 := bl_then hB2 hb3
  clear hx hy hB2 hb3
  have HQ3 : Hid (PtsAt w3 b 0 n X Y) := HQ1.out.below hB3 hblW
  have hbl3 : b < w3.heap.size := Nat.lt_of_lt_of_le hblW hB3.size
  replace c00 := fun W' (h : Below w3.heap.size w3 W') => c00 W' (bl_then hB3 h)
  replace c01 := fun W' (h : Below w3.heap.size w3 W') => c01 W' (bl_then hB3 h)
  have HB3 : Hid (Below w.heap.size w w3) := bl_then HB0.out hB3
  clear hB3 HB0 HQ1 hblW hbl1 hwr hi1 hi2 hti hN k1
  go_wp2
  go_loopw [5, 35] (fun q i wr => ∃ k : Nat, k ≤ n ∧ i = .int .i64 k ∧ q = .bool (oddTo (sideTo px py n X Y) k) ∧ Below w3.heap.size w3 wr ∧ wr.cell? ⟨w3.heap.size, 0, none⟩ = some (.int .i64 (X (prevI n k))) ∧ wr.cell? ⟨w3.heap.size, 1, none⟩ = some (.int .i64 (Y (prevI n k))) ∧ wr.frozen? ⟨w3.heap.size, 0, none⟩ = false ∧ wr.frozen? ⟨w3.heap.size, 1, none⟩ = false) (fun _ i _ => n - (intOf i).toNat)
  case atStart => exact ⟨0, by omega, rfl, rfl, by (repeat (first | exact Below.refl _ _ | assumption | refine Below.drew ?_ | refine bl_alloc ?_ _ | refine bl_then ?_ (by assumption) | refine Below.setCell ?_ (by first | omega | (simp; done) | (simp; omega)) _ | refine bl_store ?_ ?_ _ _)), by simp [go_sem, prevI], by simp [go_sem, prevI], by simp [go_sem], by simp [go_sem]⟩
  case round =>
    obtain ⟨k, hk, rfl, rfl, hB, f0, f1, z0, z1⟩ := hrel
    by_cases hlt : k < n
    · obtain ⟨hx, hy⟩ := (HQ3.out.below hB hbl3) k hlt
      simp only [Nat.zero_add] at hx hy
      have hFl : w3.heap.size < wr.heap.size := World.block_lt_of_cell? _ _ f0
      have HK1 : Hid (okP (X (prevI n k)) (Y (prevI n k)) = true) := HO.out _ (by unfold prevI; split <;> omega)
      have HK2 : Hid (okP (X k) (Y k) = true) := HO.out k hlt
      have hodd : Hid (oddTo (sideTo px py n X Y) (k + 1) = if sideTo px py n X Y k = true then !(oddTo (sideTo px py n X Y) k) else oddTo (sideTo px py n X Y) k) := rfl
      have HS : Hid (sideTo px py n X Y k = sideB px py (X (prevI n k)) (Y (prevI n k)) (X k) (Y k)) := rfl
      have hprev : prevI n (k + 1) = k := by simp [prevI]
      have HV : Hid (prevI n (k + 1) = k) := hprev
      clear hprev
      have hi : (k : Int) < (n : Int) := by omega
      generalize hXp : X (prevI n k) = xp at *
      generalize hYp : Y (prevI n k) = yp at *
      clear hXp hYp
      have F0 : Hid (wr.cell? ⟨w3.heap.size, 0, none⟩ = some (.int .i64 xp)) := f0
      have F1 : Hid (wr.cell? ⟨w3.heap.size, 1, none⟩ = some (.int .i64 yp)) := f1
      have Z0 : Hid (wr.frozen? ⟨w3.heap.size, 0, none⟩ = false) := z0
      have Z1 : Hid (wr.frozen? ⟨w3.heap.size, 1, none⟩ = false) := z1
      have HB : Hid (Below w3.heap.size w3 wr) := hB
      clear f0 f1 z0 z1 hB
      go_wp2_with fail
      refine (pairOf_any _ _ _).mono ?_
      rintro e w4 ⟨rfl, hb4⟩
      have hB4 : Below wr.heap.size wr w4 := by (repeat (first | exact Below.refl _ _ | assumption | refine Below.drew ?_ | refine bl_alloc ?_ _ | refine bl_then ?_ (by assumption) | refine Below.setCell ?_ (by first | omega | (simp; done) | (simp; omega)) _ | refine bl_store ?_ ?_ _ _))
      clear hb4 hx hy
      go_wp2
      generalize hV : (w4.alloc _ : World) = V
      have hBV : Below wr.heap.size wr V := by subst hV; (repeat (first | exact Below.refl _ _ | assumption | refine Below.drew ?_ | refine bl_alloc ?_ _ | refine bl_then ?_ (by assumption) | refine Below.setCell ?_ (by first | omega | (simp; done) | (simp; omega)) _ | refine bl_store ?_ ?_ _ _))
      have t0 : ∀ W', Below V.heap.size V W' → W'.cell? ⟨w4.heap.size, 0, none⟩ = some (.int .i64 (X k)) := fun W' h => by
        rw [h.cell (by subst hV; simp)]; subst hV; simp [go_sem]
      have t1 : ∀ W', Below V.heap.size V W' → W'.cell? ⟨w4.heap.size, 1, none⟩ = some (.int .i64 (Y k)) := fun W' h => by
        rw [h.cell (by subst hV; simp)]; subst hV; simp [go_sem]
      have f0 : ∀ W', Below V.heap.size V W' → W'.cell? ⟨w3.heap.size, 0, none⟩ = some (.int .i64 xp) := fun W' h => ((bl_then hBV h).cell (p := ⟨w3.heap.size, 0, none⟩) hFl).trans F0.out
      have f1 : ∀ W', Below V.heap.size V W' → W'.cell? ⟨w3.heap.size, 1, none⟩ = some (.int .i64 yp) := fun W' h => ((bl_then hBV h).cell (p := ⟨w3.heap.size, 1, none⟩) hFl).trans F1.out
      have z0 : ∀ W', Below V.heap.size V W' → W'.frozen? ⟨w3.heap.size, 0, none⟩ = false := fun W' h => ((bl_then hBV h).frozen (p := ⟨w3.heap.size, 0, none⟩) hFl).trans Z0.out
      have z1 : ∀ W', Below V.heap.size V W' → W'.frozen? ⟨w3.heap.size, 1, none⟩ = false := fun W' h => ((bl_then hBV h).frozen (p := ⟨w3.heap.size, 1, none⟩) hFl).trans Z1.out
      have hBV3 : Below w3.heap.size w3 V := bl_then HB.out hBV
      replace c00 := fun W' (h : Below V.heap.size V W') => c00 W' (bl_then hBV3 h)
      replace c01 := fun W' (h : Below V.heap.size V W') => c01 W' (bl_then hBV3 h)
      have HBV3 : Hid (Below w3.heap.size w3 V) := hBV3
      clear hV hBV hBV3 hB4
      cases hsv : sideB px py xp yp (X k) (Y k)
      all_goals
        go_region_held3 (fun W' => Below V.heap.size V W') ((repeat (first | exact Below.refl _ _ | assumption | refine Below.drew ?_ | refine bl_alloc ?_ _ | refine bl_then ?_ (by assumption) | refine Below.setCell ?_ (by first | omega | (simp; done) | (simp; omega)) _ | refine bl_store ?_ ?_ _ _)))
          (first
            | (go_at_call 155; refine (pairOf_any _ _ _).mono ?_; rintro e w' ⟨rfl, hb⟩)
            | (go_at_call 156; refine (isCrossed_any _ _ _ _ _ _ _ HP.out HK1.out HK2.out).mono ?_; rintro e w' ⟨rfl, hb⟩))
        rename_i hfin
        go_wp2
        go_roundw
        case rel =>
          refine ⟨k + 1, by omega, by go_num, congrArg Value.bool (by rw [hodd.out, HS.out, hsv]; rfl), ?_, ?_, ?_, ?_, ?_⟩
          · have hG := bl_then HBV3.out hfin
            exact (hG.setCell (Nat.le_refl _) _).setCell (Nat.le_refl _) _
          · rw [HV.out]
            exact set2_0 (Option.isSome_iff_exists.2 ⟨_, f0 _ hfin⟩)
          · rw [HV.out]
            exact set2_1 (Option.isSome_iff_exists.2 ⟨_, f1 _ hfin⟩)
          · simp [World.frozen?_setCell, z0 _ hfin]
          · simp [World.frozen?_setCell, z1 _ hfin]
        case measure => simp [intOf]; omega
    · go_wp2
      go_ret
      have hkn : k = n := by omega
      subst hkn
      exact ⟨ret_bool HE.out.symm, bl_then HB3.out hB⟩

theorem impl_IsInside_any (px py : Int) (b n cap : Nat) (X Y : Nat → Int) (w : World) (hpt : PtsAt w b 0 n X Y) (hbl : b < w.heap.size) (hcap : n ≤ cap) (hmax : n ≤ 1048576) :
    Calls Tryz.prog 142 #[.agg #[.int .i64 px, .int .i64 py], .slice (some ⟨b, 0, none⟩) n cap] w fun e w' => e = .returned (.bool (insideB px py n X Y)) ∧ Below w.heap.size w w' := by
  by_cases h3 : n < 3
  · exact impl_IsInside_few _ _ _ _ _ _ _ _ h3
  by_cases h40 : 40 < n
  · exact impl_IsInside_many _ _ _ _ _ _ _ _ h40 hmax
  cases hp : okP px py
  · exact impl_IsInside_p _ _ _ _ _ _ _ _ hp (by omega) (by omega)
  cases ha : allOk n X Y
  · exact impl_IsInside_bad _ _ _ _ _ _ _ _ hp hpt hbl hcap (by omega) (by omega) ha
  · exact impl_IsInside_ring _ _ _ _ _ _ _ _ hp hpt hbl hcap (by omega) (by omega) ha
end Go.Proofs.YtciidkmonfmipaaGreat
