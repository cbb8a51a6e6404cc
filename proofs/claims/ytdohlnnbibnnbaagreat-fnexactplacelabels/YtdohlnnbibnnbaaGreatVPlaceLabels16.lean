/- Several texts in one. -/
import Derived.Test.YtdohlnnbibnnbaaGreatVPlaceLabels1
import Derived.Deep.RegionHeld3
import Derived.Deep.DeepCutAuto
import Derived.Laws.StructEq

/- IsNear of the model: what it answers. -/

namespace Go.Proofs.YtdohlnnbibnnbaaGreat
open Go.RowKit
set_option linter.unusedSimpArgs false
set_option linter.unusedVariables false

/-- How far p lies along the way from a to b. -/
def alongI (px py ax ay bx by' : Int) : Int := (px - ax) * (bx - ax) + (py - ay) * (by' - ay)
/-- The square of the distance of p and the segment, as a fraction: over. -/
def overI (px py ax ay bx by' : Int) : Int :=
  if alongI px py ax ay bx by' ≤ 0 then distI px py ax ay
  else if distI ax ay bx by' ≤ alongI px py ax ay bx by' then distI px py bx by'
  else crossI ax ay bx by' px py * crossI ax ay bx by' px py
/-- The square of the distance of p and the segment, as a fraction: under. -/
def underI (px py ax ay bx by' : Int) : Int :=
  if alongI px py ax ay bx by' ≤ 0 then 1
  else if distI ax ay bx by' ≤ alongI px py ax ay bx by' then 1
  else distI ax ay bx by'
def nearB (px py ax ay bx by' r : Int) : Bool := decide (overI px py ax ay bx by' ≤ r * r * underI px py ax ay bx by')

theorem sq_nonneg (a : Int) : 0 ≤ a * a := by
  rw [← Int.natAbs_mul_self]
  exact Int.natCast_nonneg _

theorem dist_bd {ax ay bx by' : Int} (ha : okP ax ay = true) (hb : okP bx by' = true) : 0 ≤ distI ax ay bx by' ∧ distI ax ay bx by' ≤ 52428800 := by
  obtain ⟨⟨a1, a2⟩, a3, a4⟩ := okP_bd ha
  obtain ⟨⟨b1, b2⟩, b3, b4⟩ := okP_bd hb
  obtain ⟨p1, p2⟩ := mul_bd (a := bx - ax) (b := bx - ax) (B := 5120) (C := 5120) (by omega) (by omega) (by omega) (by omega) (by omega)
  obtain ⟨q1, q2⟩ := mul_bd (a := by' - ay) (b := by' - ay) (B := 5120) (C := 5120) (by omega) (by omega) (by omega) (by omega) (by omega)
  have s1 : 0 ≤ (bx - ax) * (bx - ax) := sq_nonneg _
  have s2 : 0 ≤ (by' - ay) * (by' - ay) := sq_nonneg _
  unfold distI
  omega
theorem cross_bd {ax ay bx by' cx cy : Int} (ha : okP ax ay = true) (hb : okP bx by' = true) (hc : okP cx cy = true) : -52428800 ≤ crossI ax ay bx by' cx cy ∧ crossI ax ay bx by' cx cy ≤ 52428800 := by
  obtain ⟨⟨a1, a2⟩, a3, a4⟩ := okP_bd ha
  obtain ⟨⟨b1, b2⟩, b3, b4⟩ := okP_bd hb
  obtain ⟨⟨c1, c2⟩, c3, c4⟩ := okP_bd hc
  obtain ⟨p1, p2⟩ := mul_bd (a := bx - ax) (b := cy - ay) (B := 5120) (C := 5120) (by omega) (by omega) (by omega) (by omega) (by omega)
  obtain ⟨q1, q2⟩ := mul_bd (a := by' - ay) (b := cx - ax) (B := 5120) (C := 5120) (by omega) (by omega) (by omega) (by omega) (by omega)
  unfold crossI
  omega
/-- The square of a number from 0 to 4096. -/
theorem sq_bd {r : Int} (h0 : 0 ≤ r) (h1 : r ≤ 4096) : 0 ≤ r * r ∧ r * r ≤ 16777216 := by
  obtain ⟨p1, p2⟩ := mul_bd (a := r) (b := r) (B := 4096) (C := 4096) (by omega) (by omega) (by omega) (by omega) (by omega)
  exact ⟨sq_nonneg _, by omega⟩

set_option maxHeartbeats 1000000 in
theorem l1Near_any (px py ax ay bx by' r : Int) (w : World) (hp : okP px py = true) (ha : okP ax ay = true) (hb : okP bx by' = true) (h0 : 0 ≤ r) (h1 : r ≤ 4096) :
    Calls Tryz.prog 159 #[.agg #[.int .i64 px, .int .i64 py], .agg #[.int .i64 ax, .int .i64 ay], .agg #[.int .i64 bx, .int .i64 by'], .int .i64 r] w fun e w' => e = .returned (.bool (nearB px py ax ay bx by' r)) ∧ Below w.heap.size w w' := by
  obtain ⟨⟨p1, p2⟩, p3, p4⟩ := okP_bd hp
  obtain ⟨⟨a1, a2⟩, a3, a4⟩ := okP_bd ha
  obtain ⟨⟨b1, b2⟩, b3, b4⟩ := okP_bd hb
  obtain ⟨m1, m2⟩ := mul_bd (a := px - ax) (b := bx - ax) (B := 5120) (C := 5120) (by omega) (by omega) (by omega) (by omega) (by omega)
  obtain ⟨m3, m4⟩ := mul_bd (a := py - ay) (b := by' - ay) (B := 5120) (C := 5120) (by omega) (by omega) (by omega) (by omega) (by omega)
  obtain ⟨s1, s2⟩ := sq_bd h0 h1
  obtain ⟨d1, d2⟩ := dist_bd ha hb
  obtain ⟨x1, x2⟩ := cross_bd ha hb hp
  obtain ⟨x3, x4⟩ := mul_bd (a := crossI ax ay bx by' px py) (b := crossI ax ay bx by' px py) (B := 52428800) (C := 52428800) (by omega) (by omega) (by omega) (by omega) (by omega)
  obtain ⟨x5, x6⟩ := mul_bd (a := r * r) (b := distI ax ay bx by') (B := 16777216) (C := 52428800) (by omega) (by omega) (by omega) (by omega) (by omega)
  have HP : Hid _ := hp
  have HA : Hid _ := ha
  have HB : Hid _ := hb
  clear hp ha hb
  have HO : Hid (nearB px py ax ay bx by' r = decide (overI px py ax ay bx by' ≤ r * r * underI px py ax ay bx by')) := rfl
  by_cases c1 : (px - ax) * (bx - ax) + (py - ay) * (by' - ay) ≤ 0
  · have HE : Hid (nearB px py ax ay bx by' r = decide (distI px py ax ay ≤ r * r)) := by
      show _ = _
      simp [nearB, overI, underI, alongI, c1]
    go_enter Tryz.func159, Tryz.ntmps159
    go_wp2_with fail
    generalize hW : (((w.alloc _).alloc _).alloc _ : World) = W
    have hB0 : Below w.heap.size w W := by subst hW; (repeat (first | exact Below.refl _ _ | assumption | refine Below.drew ?_ | refine bl_alloc ?_ _ | refine bl_then ?_ (by assumption) | refine Below.setCell ?_ (by first | omega | (simp; done) | (simp; omega)) _ | refine bl_store ?_ ?_ _ _))
    have c00 : ∀ W', Below W.heap.size W W' → W'.cell? ⟨w.heap.size, 0, none⟩ = some (.int .i64 px) := fun W' h => by
      rw [h.cell (by subst hW; simp <;> omega)]; subst hW; simp [go_sem]
    have c01 : ∀ W', Below W.heap.size W W' → W'.cell? ⟨w.heap.size, 1, none⟩ = some (.int .i64 py) := fun W' h => by
      rw [h.cell (by subst hW; simp <;> omega)]; subst hW; simp [go_sem]
    have c10 : ∀ W', Below W.heap.size W W' → W'.cell? ⟨w.heap.size + 1, 0, none⟩ = some (.int .i64 ax) := fun W' h => by
      rw [h.cell (by subst hW; simp <;> omega)]; subst hW; simp [go_sem]
    have c11 : ∀ W', Below W.heap.size W W' → W'.cell? ⟨w.heap.size + 1, 1, none⟩ = some (.int .i64 ay) := fun W' h => by
      rw [h.cell (by subst hW; simp <;> omega)]; subst hW; simp [go_sem]
    have c20 : ∀ W', Below W.heap.size W W' → W'.cell? ⟨w.heap.size + 1 + 1, 0, none⟩ = some (.int .i64 bx) := fun W' h => by
      rw [h.cell (by subst hW; simp <;> omega)]; subst hW; simp [go_sem]
    have c21 : ∀ W', Below W.heap.size W W' → W'.cell? ⟨w.heap.size + 1 + 1, 1, none⟩ = some (.int .i64 by') := fun W' h => by
      rw [h.cell (by subst hW; simp <;> omega)]; subst hW; simp [go_sem]
    clear hW
    have HB0 : Hid (Below w.heap.size w W) := hB0
    clear hB0
    have hr : Below W.heap.size W W := Below.refl _ _
    go_wp2_with (first
      | (go_at_call 167; refine (l1Distance_any _ _ _ _ _ (by first | exact HP.out | exact HA.out) (by first | exact HA.out | exact HB.out)).mono ?_; rintro e w' ⟨rfl, hb⟩; have hbn : Below W.heap.size W w' := (by (repeat (first | exact Below.refl _ _ | assumption | refine Below.drew ?_ | refine bl_alloc ?_ _ | refine bl_then ?_ (by assumption) | refine Below.setCell ?_ (by first | omega | (simp; done) | (simp; omega)) _ | refine bl_store ?_ ?_ _ _)))))
    go_ret
    exact ⟨ret_bool HE.out.symm, by have HB1 := HB0.out; (repeat (first | exact Below.refl _ _ | assumption | refine Below.drew ?_ | refine bl_alloc ?_ _ | refine bl_then ?_ (by assumption) | refine Below.setCell ?_ (by first | omega | (simp; done) | (simp; omega)) _ | refine bl_store ?_ ?_ _ _))⟩
  · by_cases c2 : distI ax ay bx by' ≤ (px - ax) * (bx - ax) + (py - ay) * (by' - ay)
    · have HE : Hid (nearB px py ax ay bx by' r = decide (distI px py bx by' ≤ r * r)) := by
        show _ = _
        simp [nearB, overI, underI, alongI, c1, c2]
      go_enter Tryz.func159, Tryz.ntmps159
      go_wp2_with fail
      generalize hW : (((w.alloc _).alloc _).alloc _ : World) = W
      have hB0 : Below w.heap.size w W := by subst hW; (repeat (first | exact Below.refl _ _ | assumption | refine Below.drew ?_ | refine bl_alloc ?_ _ | refine bl_then ?_ (by assumption) | refine Below.setCell ?_ (by first | omega | (simp; done) | (simp; omega)) _ | refine bl_store ?_ ?_ _ _))
      have c00 : ∀ W', Below W.heap.size W W' → W'.cell? ⟨w.heap.size, 0, none⟩ = some (.int .i64 px) := fun W' h => by
        rw [h.cell (by subst hW; simp <;> omega)]; subst hW; simp [go_sem]
      have c01 : ∀ W', Below W.heap.size W W' → W'.cell? ⟨w.heap.size, 1, none⟩ = some (.int .i64 py) := fun W' h => by
        rw [h.cell (by subst hW; simp <;> omega)]; subst hW; simp [go_sem]
      have c10 : ∀ W', Below W.heap.size W W' → W'.cell? ⟨w.heap.size + 1, 0, none⟩ = some (.int .i64 ax) := fun W' h => by
        rw [h.cell (by subst hW; simp <;> omega)]; subst hW; simp [go_sem]
      have c11 : ∀ W', Below W.heap.size W W' → W'.cell? ⟨w.heap.size + 1, 1, none⟩ = some (.int .i64 ay) := fun W' h => by
        rw [h.cell (by subst hW; simp <;> omega)]; subst hW; simp [go_sem]
      have c20 : ∀ W', Below W.heap.size W W' → W'.cell? ⟨w.heap.size + 1 + 1, 0, none⟩ = some (.int .i64 bx) := fun W' h => by
        rw [h.cell (by subst hW; simp <;> omega)]; subst hW; simp [go_sem]
      have c21 : ∀ W', Below W.heap.size W W' → W'.cell? ⟨w.heap.size + 1 + 1, 1, none⟩ = some (.int .i64 by') := fun W' h => by
        rw [h.cell (by subst hW; simp <;> omega)]; subst hW; simp [go_sem]
      clear hW
      have HB0 : Hid (Below w.heap.size w W) := hB0
      clear hB0
      have hr : Below W.heap.size W W := Below.refl _ _
      go_wp2_with (first
        | (go_at_call 167; refine (l1Distance_any _ _ _ _ _ (by first | exact HP.out | exact HA.out) (by first | exact HA.out | exact HB.out)).mono ?_; rintro e w' ⟨rfl, hb⟩; have hbn : Below W.heap.size W w' := (by (repeat (first | exact Below.refl _ _ | assumption | refine Below.drew ?_ | refine bl_alloc ?_ _ | refine bl_then ?_ (by assumption) | refine Below.setCell ?_ (by first | omega | (simp; done) | (simp; omega)) _ | refine bl_store ?_ ?_ _ _)))))
      go_ret
      exact ⟨ret_bool HE.out.symm, by have HB1 := HB0.out; (repeat (first | exact Below.refl _ _ | assumption | refine Below.drew ?_ | refine bl_alloc ?_ _ | refine bl_then ?_ (by assumption) | refine Below.setCell ?_ (by first | omega | (simp; done) | (simp; omega)) _ | refine bl_store ?_ ?_ _ _))⟩
    · have HE : Hid (nearB px py ax ay bx by' r = decide (crossI ax ay bx by' px py * crossI ax ay bx by' px py ≤ r * r * distI ax ay bx by')) := by
        show _ = _
        simp [nearB, overI, underI, alongI, c1, c2]
      go_enter Tryz.func159, Tryz.ntmps159
      go_wp2_with fail
      generalize hW : (((w.alloc _).alloc _).alloc _ : World) = W
      have hB0 : Below w.heap.size w W := by subst hW; (repeat (first | exact Below.refl _ _ | assumption | refine Below.drew ?_ | refine bl_alloc ?_ _ | refine bl_then ?_ (by assumption) | refine Below.setCell ?_ (by first | omega | (simp; done) | (simp; omega)) _ | refine bl_store ?_ ?_ _ _))
      have c00 : ∀ W', Below W.heap.size W W' → W'.cell? ⟨w.heap.size, 0, none⟩ = some (.int .i64 px) := fun W' h => by
        rw [h.cell (by subst hW; simp <;> omega)]; subst hW; simp [go_sem]
      have c01 : ∀ W', Below W.heap.size W W' → W'.cell? ⟨w.heap.size, 1, none⟩ = some (.int .i64 py) := fun W' h => by
        rw [h.cell (by subst hW; simp <;> omega)]; subst hW; simp [go_sem]
      have c10 : ∀ W', Below W.heap.size W W' → W'.cell? ⟨w.heap.size + 1, 0, none⟩ = some (.int .i64 ax) := fun W' h => by
        rw [h.cell (by subst hW; simp <;> omega)]; subst hW; simp [go_sem]
      have c11 : ∀ W', Below W.heap.size W W' → W'.cell? ⟨w.heap.size + 1, 1, none⟩ = some (.int .i64 ay) := fun W' h => by
        rw [h.cell (by subst hW; simp <;> omega)]; subst hW; simp [go_sem]
      have c20 : ∀ W', Below W.heap.size W W' → W'.cell? ⟨w.heap.size + 1 + 1, 0, none⟩ = some (.int .i64 bx) := fun W' h => by
        rw [h.cell (by subst hW; simp <;> omega)]; subst hW; simp [go_sem]
      have c21 : ∀ W', Below W.heap.size W W' → W'.cell? ⟨w.heap.size + 1 + 1, 1, none⟩ = some (.int .i64 by') := fun W' h => by
        rw [h.cell (by subst hW; simp <;> omega)]; subst hW; simp [go_sem]
      clear hW
      have HB0 : Hid (Below w.heap.size w W) := hB0
      clear hB0
      have hr : Below W.heap.size W W := Below.refl _ _
      go_wp2_with (first
        | (go_at_call 167; refine (l1Distance_any _ _ _ _ _ (by first | exact HP.out | exact HA.out) (by first | exact HA.out | exact HB.out)).mono ?_; rintro e w' ⟨rfl, hb⟩; have hbn : Below W.heap.size W w' := (by (repeat (first | exact Below.refl _ _ | assumption | refine Below.drew ?_ | refine bl_alloc ?_ _ | refine bl_then ?_ (by assumption) | refine Below.setCell ?_ (by first | omega | (simp; done) | (simp; omega)) _ | refine bl_store ?_ ?_ _ _))))
        | (go_at_call 168; refine (l1Cross_any _ _ _ _ _ _ _ (by exact HA.out) (by exact HB.out) (by exact HP.out)).mono ?_; rintro e w' ⟨rfl, hb⟩; have hbn : Below W.heap.size W w' := (by (repeat (first | exact Below.refl _ _ | assumption | refine Below.drew ?_ | refine bl_alloc ?_ _ | refine bl_then ?_ (by assumption) | refine Below.setCell ?_ (by first | omega | (simp; done) | (simp; omega)) _ | refine bl_store ?_ ?_ _ _)))))
      go_ret
      exact ⟨ret_bool HE.out.symm, by have HB1 := HB0.out; (repeat (first | exact Below.refl _ _ | assumption | refine Below.drew ?_ | refine bl_alloc ?_ _ | refine bl_then ?_ (by assumption) | refine Below.setCell ?_ (by first | omega | (simp; done) | (simp; omega)) _ | refine bl_store ?_ ?_ _ _))⟩
end Go.Proofs.YtdohlnnbibnnbaaGreat
/- IsNear of the model: what it answers at every argument. -/

namespace Go.Proofs.YtdohlnnbibnnbaaGreat
open Go.RowKit
set_option linter.unusedSimpArgs false
set_option linter.unusedVariables false

/-- Whether p is near the segment. -/
def isNearB (px py ax ay bx by' r : Int) : Bool := okP px py && (okP ax ay && (okP bx by' && (inB r 0 4096 && nearB px py ax ay bx by' r)))

end Go.Proofs.YtdohlnnbibnnbaaGreat
/- turnOf answers twice the area. -/

namespace Go.Proofs.YtdohlnnbibnnbaaGreat
open Go.RowKit
set_option linter.unusedSimpArgs false
set_option linter.unusedVariables false

abbrev wayOfW (ax ay bx by' : Int) (w : World) : World := ((w.alloc (.cells #[.int .i64 ax, .int .i64 ay] 188)).alloc (.cells #[.int .i64 bx, .int .i64 by'] 188)).alloc (.cells #[.int .i64 (bx - ax), .int .i64 (by' - ay)] 188)
theorem wayOf_ex (ax ay bx by' : Int) (w : World) (ha : okP ax ay = true) (hb : okP bx by' = true) :
    Calls Tryz.prog 162 #[.agg #[.int .i64 ax, .int .i64 ay], .agg #[.int .i64 bx, .int .i64 by']] w fun e w' => e = .returned (.agg #[.int .i64 (bx - ax), .int .i64 (by' - ay)]) ∧ wayOfW ax ay bx by' w = w' := by
  obtain ⟨⟨a1, a2⟩, a3, a4⟩ := okP_bd ha
  obtain ⟨⟨b1, b2⟩, b3, b4⟩ := okP_bd hb
  clear ha hb
  go_enter Tryz.func162, Tryz.ntmps162
  go_wp2
  exact bodyPost_ret (v := .agg #[.int .i64 (bx - ax), .int .i64 (by' - ay)]) (by simp [results, Tryz.results162, go_sem]) rfl ⟨rfl, rfl⟩

set_option maxHeartbeats 4000000 in
theorem turnOf_any (ax ay bx by' cx cy : Int) (w : World) (ha : okP ax ay = true) (hb : okP bx by' = true) (hc : okP cx cy = true) :
    Calls Tryz.prog 164 #[.agg #[.int .i64 ax, .int .i64 ay], .agg #[.int .i64 bx, .int .i64 by'], .agg #[.int .i64 cx, .int .i64 cy]] w fun e w' => e = .returned (.int .i64 (crossI ax ay bx by' cx cy)) ∧ Below w.heap.size w w' := by
  obtain ⟨⟨a1, a2⟩, a3, a4⟩ := okP_bd ha
  obtain ⟨⟨b1, b2⟩, b3, b4⟩ := okP_bd hb
  obtain ⟨⟨c1, c2⟩, c3, c4⟩ := okP_bd hc
  have HA : Hid _ := ha
  have HB : Hid _ := hb
  have HC : Hid _ := hc
  clear ha hb hc
  unfold crossI
  obtain ⟨p1, p2⟩ := mul_bd (a := bx - ax) (b := cy - ay) (B := 5120) (C := 5120) (by omega) (by omega) (by omega) (by omega) (by omega)
  obtain ⟨q1, q2⟩ := mul_bd (a := by' - ay) (b := cx - ax) (B := 5120) (C := 5120) (by omega) (by omega) (by omega) (by omega) (by omega)
  go_enter Tryz.func164, Tryz.ntmps164
  go_wp2
  generalize hW : (((w.alloc _).alloc _).alloc _ : World) = W
  have hB0 : Below w.heap.size w W := by subst hW; (repeat (first | exact Below.refl _ _ | assumption | refine Below.drew ?_ | refine bl_alloc ?_ _ | refine bl_then ?_ (by assumption) | refine Below.setCell ?_ (by first | omega | (simp; done) | (simp; omega)) _ | refine bl_store ?_ ?_ _ _))
  have c00 : ∀ W', Below W.heap.size W W' → W'.cell? ⟨w.heap.size, 0, none⟩ = some (.int .i64 ax) := fun W' h => by
    rw [h.cell (by subst hW; simp <;> omega)]; subst hW; simp [go_sem]
  have c01 : ∀ W', Below W.heap.size W W' → W'.cell? ⟨w.heap.size, 1, none⟩ = some (.int .i64 ay) := fun W' h => by
    rw [h.cell (by subst hW; simp <;> omega)]; subst hW; simp [go_sem]
  have c10 : ∀ W', Below W.heap.size W W' → W'.cell? ⟨w.heap.size + 1, 0, none⟩ = some (.int .i64 bx) := fun W' h => by
    rw [h.cell (by subst hW; simp <;> omega)]; subst hW; simp [go_sem]
  have c11 : ∀ W', Below W.heap.size W W' → W'.cell? ⟨w.heap.size + 1, 1, none⟩ = some (.int .i64 by') := fun W' h => by
    rw [h.cell (by subst hW; simp <;> omega)]; subst hW; simp [go_sem]
  have c20 : ∀ W', Below W.heap.size W W' → W'.cell? ⟨w.heap.size + 1 + 1, 0, none⟩ = some (.int .i64 cx) := fun W' h => by
    rw [h.cell (by subst hW; simp <;> omega)]; subst hW; simp [go_sem]
  have c21 : ∀ W', Below W.heap.size W W' → W'.cell? ⟨w.heap.size + 1 + 1, 1, none⟩ = some (.int .i64 cy) := fun W' h => by
    rw [h.cell (by subst hW; simp <;> omega)]; subst hW; simp [go_sem]
  clear hW
  have HB0 : Hid (Below w.heap.size w W) := hB0
  clear hB0
  go_cut [7, 8] (fun t s wc => ∃ b d : Nat, t = .pointer (some ⟨b, 0, none⟩) ∧ s = .pointer (some ⟨d, 0, none⟩) ∧ Below W.heap.size W wc ∧ wc.cell? ⟨b, 0, none⟩ = some (.int .i64 (bx - ax)) ∧ wc.cell? ⟨b, 1, none⟩ = some (.int .i64 (by' - ay)) ∧ wc.cell? ⟨d, 0, none⟩ = some (.int .i64 (cx - ax)) ∧ wc.cell? ⟨d, 1, none⟩ = some (.int .i64 (cy - ay)))
  case first =>
    go_region_held3 (fun W' => Below W.heap.size W W') ((repeat (first | exact Below.refl _ _ | assumption | refine Below.drew ?_ | refine bl_alloc ?_ _ | refine bl_then ?_ (by assumption) | refine Below.setCell ?_ (by first | omega | (simp; done) | (simp; omega)) _ | refine bl_store ?_ ?_ _ _)))
      (first | (go_at_call 162; refine (wayOf_ex _ _ _ _ _ (by exact HA.out) (by first | exact HB.out | exact HC.out)).mono ?_; rintro e w' ⟨rfl, rfl⟩))
    all_goals
      go_wp2_with fail
      go_meet
      case rel =>
        refine ⟨_, _, rfl, rfl, by assumption, ?_, ?_, ?_, ?_⟩ <;> (go_simp; done)
  case rest =>
    obtain ⟨b1, d1, rfl, rfl, hB1, x1, x2, x3, x4⟩ := hcut
    clear c00 c01 c10 c11 c20 c21
    go_wp2
    go_ret
    exact ⟨rfl, bl_then HB0.out hB1⟩
end Go.Proofs.YtdohlnnbibnnbaaGreat
/- faultIn at two and at three points. -/

namespace Go.Proofs.YtdohlnnbibnnbaaGreat
open Go.RowKit
set_option linter.unusedSimpArgs false
set_option linter.unusedVariables false

theorem faultIn3 (b cap : Nat) (mx my nx ny ox oy c : Int) (w : World) (g0 : w.cell? ⟨b, 0, none⟩ = some (.int .i64 mx)) (g1 : w.cell? ⟨b, 1, none⟩ = some (.int .i64 my)) (g2 : w.cell? ⟨b, 2, none⟩ = some (.int .i64 nx)) (g3 : w.cell? ⟨b, 3, none⟩ = some (.int .i64 ny)) (g4 : w.cell? ⟨b, 4, none⟩ = some (.int .i64 ox)) (g5 : w.cell? ⟨b, 5, none⟩ = some (.int .i64 oy)) (hcap : 3 ≤ cap) (hc : codeN 3 (fun i => if i = 0 then mx else if i = 1 then nx else ox) (fun i => if i = 0 then my else if i = 1 then ny else oy) = c) :
    Calls Tryz.prog 100 #[.slice (some ⟨b, 0, none⟩) 3 cap] w fun e w' => e = .returned (.int .i64 c) ∧ Below w.heap.size w w' := by
  rw [← hc]
  refine faultIn_any b 0 3 cap (fun i => if i = 0 then mx else if i = 1 then nx else ox) (fun i => if i = 0 then my else if i = 1 then ny else oy) w (fun i hi => ?_) (World.block_lt_of_cell? w ⟨b, 0, none⟩ g0) hcap (by omega)
  have hcase : i = 0 ∨ i = 1 ∨ i = 2 := by omega
  rcases hcase with rfl | rfl | rfl <;> simp [*]
theorem codeN3_ok (mx my nx ny ox oy : Int) (h0 : okP mx my = true) (h1 : okP nx ny = true) (h2 : okP ox oy = true) : codeN 3 (fun i => if i = 0 then mx else if i = 1 then nx else ox) (fun i => if i = 0 then my else if i = 1 then ny else oy) = 0 := codeN_ok fun i hi => by
  have hcase : i = 0 ∨ i = 1 ∨ i = 2 := by omega
  rcases hcase with rfl | rfl | rfl <;> simp [*]
theorem codeN3_0 (mx my nx ny ox oy : Int) (h : okP mx my = false) : codeN 3 (fun i => if i = 0 then mx else if i = 1 then nx else ox) (fun i => if i = 0 then my else if i = 1 then ny else oy) = 3 := codeN_no 0 (by omega) (by simp [h])
theorem codeN3_1 (mx my nx ny ox oy : Int) (h : okP nx ny = false) : codeN 3 (fun i => if i = 0 then mx else if i = 1 then nx else ox) (fun i => if i = 0 then my else if i = 1 then ny else oy) = 3 := codeN_no 1 (by omega) (by simp [h])
theorem codeN3_2 (mx my nx ny ox oy : Int) (h : okP ox oy = false) : codeN 3 (fun i => if i = 0 then mx else if i = 1 then nx else ox) (fun i => if i = 0 then my else if i = 1 then ny else oy) = 3 := codeN_no 2 (by omega) (by simp [h])

theorem way_df {ax ay bx by' : Int} (ha : okP ax ay = true) (hb : okP bx by' = true) : Df (bx - ax) (by' - ay) := by
  obtain ⟨⟨a1, a2⟩, a3, a4⟩ := okP_bd ha
  obtain ⟨⟨b1, b2⟩, b3, b4⟩ := okP_bd hb
  exact ⟨⟨by omega, by omega⟩, by omega, by omega⟩
end Go.Proofs.YtdohlnnbibnnbaaGreat
/- Two pairs are the same just where both numbers are. -/

namespace Go.Proofs.YtdohlnnbibnnbaaGreat
open Go.RowKit
theorem equalIn_pair (n : Nat) (a b c d : Int) (w : World) : (Op.equalIn (n + 2) 188 (.agg #[.int .i64 a, .int .i64 b]) (.agg #[.int .i64 c, .int .i64 d])).run Tryz.prog w = .ok ((a == c) && (b == d)) w := by
  have hp0 : ∀ (x y : Int) (w : World), (part 2 #[.int .i64 x, .int .i64 y] 0).run Tryz.prog w = .ok (.int .i64 x) w := fun _ _ _ => by kernel_rfl
  have hp1 : ∀ (x y : Int) (w : World), (part 2 #[.int .i64 x, .int .i64 y] 1).run Tryz.prog w = .ok (.int .i64 y) w := fun _ _ _ => by kernel_rfl
  have hs : ∀ (w : World), (sizeOf 2).run Tryz.prog w = .ok 1 w := fun _ => by kernel_rfl
  have hi := fun (a b : Int) (w : World) => run_equalIn_int (P := Tryz.prog) w n 2 .i64 .i64 a b Tryz.underlying2
  rw [Op.equalIn]
  simp only [Sem.run_bind, run_underlying Tryz.underlying188, Result.andThen_ok, hs]
  simp [List.range', hp0, hp1, hi]
  by_cases h1 : a = c <;> by_cases h2 : b = d <;> simp [h1, h2]
end Go.Proofs.YtdohlnnbibnnbaaGreat
