/- Several texts in one. -/
import Derived.Test.YtciidkmonfmipaaGreatVPutTile8
import Derived.Test.YtciidkmonfmipaaGreatVPutTile9
import Derived.Test.YtciidkmonfmipaaGreatVPutTile1

/- IsNear of the program: what it answers; and its law. -/

namespace Go.Proofs.YtciidkmonfmipaaGreat
open Go.RowKit
set_option linter.unusedSimpArgs false
set_option linter.unusedVariables false

theorem under_bd {px py ax ay bx by' : Int} (ha : okP ax ay = true) (hb : okP bx by' = true) : 0 ≤ underI px py ax ay bx by' ∧ underI px py ax ay bx by' ≤ 52428800 := by
  obtain ⟨d1, d2⟩ := dist_bd ha hb
  unfold underI
  split
  · omega
  · split <;> omega
theorem isNearB_no {px py ax ay bx by' r : Int} (h : r < 0 ∨ 4096 < r) : isNearB px py ax ay bx by' r = false := by
  have hr : inB r 0 4096 = false := by
    rcases h with h | h <;> simp [inB] <;> omega
  simp [isNearB, hr]

theorem impl_IsNear_neg (px py ax ay bx by' r : Int) (w : World) (h : r < 0) :
    Calls Tryz.prog 143 #[.agg #[.int .i64 px, .int .i64 py], .agg #[.int .i64 ax, .int .i64 ay], .agg #[.int .i64 bx, .int .i64 by'], .int .i64 r] w fun e w' => e = .returned (.bool (isNearB px py ax ay bx by' r)) ∧ Below w.heap.size w w' := by
  have HE : Hid _ := isNearB_no (px := px) (py := py) (ax := ax) (ay := ay) (bx := bx) (by' := by') (.inl h)
  go_enter Tryz.func143, Tryz.ntmps143
  go_wp2
  go_ret
  exact ⟨ret_bool HE.out.symm, by (repeat (first | exact Below.refl _ _ | assumption | refine Below.drew ?_ | refine bl_alloc ?_ _ | refine bl_then ?_ (by assumption) | refine Below.setCell ?_ (by first | omega | (simp; done) | (simp; omega)) _ | refine bl_store ?_ ?_ _ _))⟩

theorem impl_IsNear_far (px py ax ay bx by' r : Int) (w : World) (h : 4096 < r) :
    Calls Tryz.prog 143 #[.agg #[.int .i64 px, .int .i64 py], .agg #[.int .i64 ax, .int .i64 ay], .agg #[.int .i64 bx, .int .i64 by'], .int .i64 r] w fun e w' => e = .returned (.bool (isNearB px py ax ay bx by' r)) ∧ Below w.heap.size w w' := by
  have HE : Hid _ := isNearB_no (px := px) (py := py) (ax := ax) (ay := ay) (bx := bx) (by' := by') (.inr h)
  have h2 : decide (r < 0) = false := by simp; omega
  go_enter Tryz.func143, Tryz.ntmps143
  go_wp2
  go_ret
  exact ⟨ret_bool HE.out.symm, by (repeat (first | exact Below.refl _ _ | assumption | refine Below.drew ?_ | refine bl_alloc ?_ _ | refine bl_then ?_ (by assumption) | refine Below.setCell ?_ (by first | omega | (simp; done) | (simp; omega)) _ | refine bl_store ?_ ?_ _ _))⟩

set_option maxHeartbeats 1000000 in
theorem impl_IsNear_0 (px py ax ay bx by' r : Int) (w : World) (hr0 : 0 ≤ r) (hr1 : r ≤ 4096) (h : okP px py = false) :
    Calls Tryz.prog 143 #[.agg #[.int .i64 px, .int .i64 py], .agg #[.int .i64 ax, .int .i64 ay], .agg #[.int .i64 bx, .int .i64 by'], .int .i64 r] w fun e w' => e = .returned (.bool (isNearB px py ax ay bx by' r)) ∧ Below w.heap.size w w' := by
  have HN : Hid _ := codeN3_0 px py ax ay bx by' h
  have HE : Hid (isNearB px py ax ay bx by' r = false) := by
    show _ = _
    simp [isNearB, h]
  clear h
  go_enter Tryz.func143, Tryz.ntmps143
  go_wp2_with fail
  generalize hV : ((((w.alloc _).alloc _).alloc _).alloc _ : World) = V
  have hB0 : Below w.heap.size w V := by subst hV; (repeat (first | exact Below.refl _ _ | assumption | refine Below.drew ?_ | refine bl_alloc ?_ _ | refine bl_then ?_ (by assumption) | refine Below.setCell ?_ (by first | omega | (simp; done) | (simp; omega)) _ | refine bl_store ?_ ?_ _ _))
  have g0 : V.cell? ⟨w.heap.size + 1 + 1 + 1, 0, none⟩ = some (.int .i64 px) := by subst hV; simp [go_sem]
  have g1 : V.cell? ⟨w.heap.size + 1 + 1 + 1, 1, none⟩ = some (.int .i64 py) := by subst hV; simp [go_sem]
  have g2 : V.cell? ⟨w.heap.size + 1 + 1 + 1, 2, none⟩ = some (.int .i64 ax) := by subst hV; simp [go_sem]
  have g3 : V.cell? ⟨w.heap.size + 1 + 1 + 1, 3, none⟩ = some (.int .i64 ay) := by subst hV; simp [go_sem]
  have g4 : V.cell? ⟨w.heap.size + 1 + 1 + 1, 4, none⟩ = some (.int .i64 bx) := by subst hV; simp [go_sem]
  have g5 : V.cell? ⟨w.heap.size + 1 + 1 + 1, 5, none⟩ = some (.int .i64 by') := by subst hV; simp [go_sem]
  clear hV
  have HB0 : Hid (Below w.heap.size w V) := hB0
  clear hB0
  refine (faultIn3 _ _ px py ax ay bx by' _ _ g0 g1 g2 g3 g4 g5 (by omega) HN.out).mono ?_
  rintro e W ⟨rfl, hbW⟩
  clear g0 g1 g2 g3 g4 g5
  go_wp2
  go_ret
  exact ⟨ret_bool HE.out.symm, bl_then HB0.out hbW⟩

set_option maxHeartbeats 1000000 in
theorem impl_IsNear_1 (px py ax ay bx by' r : Int) (w : World) (hr0 : 0 ≤ r) (hr1 : r ≤ 4096) (h : okP ax ay = false) :
    Calls Tryz.prog 143 #[.agg #[.int .i64 px, .int .i64 py], .agg #[.int .i64 ax, .int .i64 ay], .agg #[.int .i64 bx, .int .i64 by'], .int .i64 r] w fun e w' => e = .returned (.bool (isNearB px py ax ay bx by' r)) ∧ Below w.heap.size w w' := by
  have HN : Hid _ := codeN3_1 px py ax ay bx by' h
  have HE : Hid (isNearB px py ax ay bx by' r = false) := by
    show _ = _
    simp [isNearB, h]
  clear h
  go_enter Tryz.func143, Tryz.ntmps143
  go_wp2_with fail
  generalize hV : ((((w.alloc _).alloc _).alloc _).alloc _ : World) = V
  have hB0 : Below w.heap.size w V := by subst hV; (repeat (first | exact Below.refl _ _ | assumption | refine Below.drew ?_ | refine bl_alloc ?_ _ | refine bl_then ?_ (by assumption) | refine Below.setCell ?_ (by first | omega | (simp; done) | (simp; omega)) _ | refine bl_store ?_ ?_ _ _))
  have g0 : V.cell? ⟨w.heap.size + 1 + 1 + 1, 0, none⟩ = some (.int .i64 px) := by subst hV; simp [go_sem]
  have g1 : V.cell? ⟨w.heap.size + 1 + 1 + 1, 1, none⟩ = some (.int .i64 py) := by subst hV; simp [go_sem]
  have g2 : V.cell? ⟨w.heap.size + 1 + 1 + 1, 2, none⟩ = some (.int .i64 ax) := by subst hV; simp [go_sem]
  have g3 : V.cell? ⟨w.heap.size + 1 + 1 + 1, 3, none⟩ = some (.int .i64 ay) := by subst hV; simp [go_sem]
  have g4 : V.cell? ⟨w.heap.size + 1 + 1 + 1, 4, none⟩ = some (.int .i64 bx) := by subst hV; simp [go_sem]
  have g5 : V.cell? ⟨w.heap.size + 1 + 1 + 1, 5, none⟩ = some (.int .i64 by') := by subst hV; simp [go_sem]
  clear hV
  have HB0 : Hid (Below w.heap.size w V) := hB0
  clear hB0
  refine (faultIn3 _ _ px py ax ay bx by' _ _ g0 g1 g2 g3 g4 g5 (by omega) HN.out).mono ?_
  rintro e W ⟨rfl, hbW⟩
  clear g0 g1 g2 g3 g4 g5
  go_wp2
  go_ret
  exact ⟨ret_bool HE.out.symm, bl_then HB0.out hbW⟩

set_option maxHeartbeats 1000000 in
theorem impl_IsNear_2 (px py ax ay bx by' r : Int) (w : World) (hr0 : 0 ≤ r) (hr1 : r ≤ 4096) (h : okP bx by' = false) :
    Calls Tryz.prog 143 #[.agg #[.int .i64 px, .int .i64 py], .agg #[.int .i64 ax, .int .i64 ay], .agg #[.int .i64 bx, .int .i64 by'], .int .i64 r] w fun e w' => e = .returned (.bool (isNearB px py ax ay bx by' r)) ∧ Below w.heap.size w w' := by
  have HN : Hid _ := codeN3_2 px py ax ay bx by' h
  have HE : Hid (isNearB px py ax ay bx by' r = false) := by
    show _ = _
    simp [isNearB, h]
  clear h
  go_enter Tryz.func143, Tryz.ntmps143
  go_wp2_with fail
  generalize hV : ((((w.alloc _).alloc _).alloc _).alloc _ : World) = V
  have hB0 : Below w.heap.size w V := by subst hV; (repeat (first | exact Below.refl _ _ | assumption | refine Below.drew ?_ | refine bl_alloc ?_ _ | refine bl_then ?_ (by assumption) | refine Below.setCell ?_ (by first | omega | (simp; done) | (simp; omega)) _ | refine bl_store ?_ ?_ _ _))
  have g0 : V.cell? ⟨w.heap.size + 1 + 1 + 1, 0, none⟩ = some (.int .i64 px) := by subst hV; simp [go_sem]
  have g1 : V.cell? ⟨w.heap.size + 1 + 1 + 1, 1, none⟩ = some (.int .i64 py) := by subst hV; simp [go_sem]
  have g2 : V.cell? ⟨w.heap.size + 1 + 1 + 1, 2, none⟩ = some (.int .i64 ax) := by subst hV; simp [go_sem]
  have g3 : V.cell? ⟨w.heap.size + 1 + 1 + 1, 3, none⟩ = some (.int .i64 ay) := by subst hV; simp [go_sem]
  have g4 : V.cell? ⟨w.heap.size + 1 + 1 + 1, 4, none⟩ = some (.int .i64 bx) := by subst hV; simp [go_sem]
  have g5 : V.cell? ⟨w.heap.size + 1 + 1 + 1, 5, none⟩ = some (.int .i64 by') := by subst hV; simp [go_sem]
  clear hV
  have HB0 : Hid (Below w.heap.size w V) := hB0
  clear hB0
  refine (faultIn3 _ _ px py ax ay bx by' _ _ g0 g1 g2 g3 g4 g5 (by omega) HN.out).mono ?_
  rintro e W ⟨rfl, hbW⟩
  clear g0 g1 g2 g3 g4 g5
  go_wp2
  go_ret
  exact ⟨ret_bool HE.out.symm, bl_then HB0.out hbW⟩

set_option maxHeartbeats 2000000 in
theorem impl_IsNear_ok (px py ax ay bx by' r : Int) (w : World) (hr0 : 0 ≤ r) (hr1 : r ≤ 4096) (hp : okP px py = true) (ha : okP ax ay = true) (hb : okP bx by' = true) :
    Calls Tryz.prog 143 #[.agg #[.int .i64 px, .int .i64 py], .agg #[.int .i64 ax, .int .i64 ay], .agg #[.int .i64 bx, .int .i64 by'], .int .i64 r] w fun e w' => e = .returned (.bool (isNearB px py ax ay bx by' r)) ∧ Below w.heap.size w w' := by
  have HN : Hid _ := codeN3_ok px py ax ay bx by' hp ha hb
  have HE : Hid (isNearB px py ax ay bx by' r = decide (overI px py ax ay bx by' ≤ r * r * underI px py ax ay bx by')) := by
    show _ = _
    have hr : inB r 0 4096 = true := by simp [inB]; omega
    simp [isNearB, hp, ha, hb, hr, nearB]
  obtain ⟨s1, s2⟩ := sq_bd hr0 hr1
  obtain ⟨d1, d2⟩ := under_bd (px := px) (py := py) ha hb
  obtain ⟨x5, x6⟩ := mul_bd (a := r * r) (b := underI px py ax ay bx by') (B := 16777216) (C := 52428800) (by omega) (by omega) (by omega) (by omega) (by omega)
  have HP : Hid _ := hp
  have HA : Hid _ := ha
  have HB : Hid _ := hb
  clear hp ha hb
  go_enter Tryz.func143, Tryz.ntmps143
  go_wp2_with fail
  generalize hV : ((((w.alloc _).alloc _).alloc _).alloc _ : World) = V
  have hB0 : Below w.heap.size w V := by subst hV; (repeat (first | exact Below.refl _ _ | assumption | refine Below.drew ?_ | refine bl_alloc ?_ _ | refine bl_then ?_ (by assumption) | refine Below.setCell ?_ (by first | omega | (simp; done) | (simp; omega)) _ | refine bl_store ?_ ?_ _ _))
  have g0 : V.cell? ⟨w.heap.size + 1 + 1 + 1, 0, none⟩ = some (.int .i64 px) := by subst hV; simp [go_sem]
  have g1 : V.cell? ⟨w.heap.size + 1 + 1 + 1, 1, none⟩ = some (.int .i64 py) := by subst hV; simp [go_sem]
  have g2 : V.cell? ⟨w.heap.size + 1 + 1 + 1, 2, none⟩ = some (.int .i64 ax) := by subst hV; simp [go_sem]
  have g3 : V.cell? ⟨w.heap.size + 1 + 1 + 1, 3, none⟩ = some (.int .i64 ay) := by subst hV; simp [go_sem]
  have g4 : V.cell? ⟨w.heap.size + 1 + 1 + 1, 4, none⟩ = some (.int .i64 bx) := by subst hV; simp [go_sem]
  have g5 : V.cell? ⟨w.heap.size + 1 + 1 + 1, 5, none⟩ = some (.int .i64 by') := by subst hV; simp [go_sem]
  have c00 : ∀ W', Below V.heap.size V W' → W'.cell? ⟨w.heap.size, 0, none⟩ = some (.int .i64 px) := fun W' h => by
    rw [h.cell (by subst hV; simp <;> omega)]; subst hV; simp [go_sem]
  have c01 : ∀ W', Below V.heap.size V W' → W'.cell? ⟨w.heap.size, 1, none⟩ = some (.int .i64 py) := fun W' h => by
    rw [h.cell (by subst hV; simp <;> omega)]; subst hV; simp [go_sem]
  have c10 : ∀ W', Below V.heap.size V W' → W'.cell? ⟨w.heap.size + 1, 0, none⟩ = some (.int .i64 ax) := fun W' h => by
    rw [h.cell (by subst hV; simp <;> omega)]; subst hV; simp [go_sem]
  have c11 : ∀ W', Below V.heap.size V W' → W'.cell? ⟨w.heap.size + 1, 1, none⟩ = some (.int .i64 ay) := fun W' h => by
    rw [h.cell (by subst hV; simp <;> omega)]; subst hV; simp [go_sem]
  have c20 : ∀ W', Below V.heap.size V W' → W'.cell? ⟨w.heap.size + 1 + 1, 0, none⟩ = some (.int .i64 bx) := fun W' h => by
    rw [h.cell (by subst hV; simp <;> omega)]; subst hV; simp [go_sem]
  have c21 : ∀ W', Below V.heap.size V W' → W'.cell? ⟨w.heap.size + 1 + 1, 1, none⟩ = some (.int .i64 by') := fun W' h => by
    rw [h.cell (by subst hV; simp <;> omega)]; subst hV; simp [go_sem]
  clear hV
  have HB0 : Hid (Below w.heap.size w V) := hB0
  clear hB0
  refine (faultIn3 _ _ px py ax ay bx by' _ _ g0 g1 g2 g3 g4 g5 (by omega) HN.out).mono ?_
  rintro e W ⟨rfl, hbW⟩
  clear g0 g1 g2 g3 g4 g5
  replace HB0 : Hid (Below w.heap.size w W) := bl_then HB0.out hbW
  have HVW : Hid (∀ W', Below W.heap.size W W' → Below V.heap.size V W') := fun W' h => bl_then hbW h
  replace c00 := fun W' h => c00 W' (HVW.out W' h)
  replace c01 := fun W' h => c01 W' (HVW.out W' h)
  replace c10 := fun W' h => c10 W' (HVW.out W' h)
  replace c11 := fun W' h => c11 W' (HVW.out W' h)
  replace c20 := fun W' h => c20 W' (HVW.out W' h)
  replace c21 := fun W' h => c21 W' (HVW.out W' h)
  clear hbW
  go_wp2
  go_region_held3 (fun W' => Below W.heap.size W W') ((repeat (first | exact Below.refl _ _ | assumption | refine Below.drew ?_ | refine bl_alloc ?_ _ | refine bl_then ?_ (by assumption) | refine Below.setCell ?_ (by first | omega | (simp; done) | (simp; omega)) _ | refine bl_store ?_ ?_ _ _)))
    (first
      | (go_at_call 155; refine (pairOf_any _ _ _).mono ?_; rintro e w1 ⟨rfl, hb⟩)
      | (go_at_call 157; refine (gapOf_any _ _ _ _ _ _ _ HP.out HA.out HB.out).mono ?_; rintro e w1 ⟨rfl, hb⟩))
  go_wp2
  go_ret
  exact ⟨ret_bool HE.out.symm, bl_then HB0.out (by assumption)⟩

theorem impl_IsNear_any (px py ax ay bx by' r : Int) (w : World) : Calls Tryz.prog 143 #[.agg #[.int .i64 px, .int .i64 py], .agg #[.int .i64 ax, .int .i64 ay], .agg #[.int .i64 bx, .int .i64 by'], .int .i64 r] w fun e w' => e = .returned (.bool (isNearB px py ax ay bx by' r)) ∧ Below w.heap.size w w' := by
  by_cases h0 : r < 0
  · exact impl_IsNear_neg _ _ _ _ _ _ _ _ h0
  by_cases h1 : 4096 < r
  · exact impl_IsNear_far _ _ _ _ _ _ _ _ h1
  have hr0 : 0 ≤ r := by omega
  have hr1 : r ≤ 4096 := by omega
  cases hp : okP px py
  · exact impl_IsNear_0 _ _ _ _ _ _ _ _ hr0 hr1 hp
  cases ha : okP ax ay
  · exact impl_IsNear_1 _ _ _ _ _ _ _ _ hr0 hr1 ha
  cases hb : okP bx by'
  · exact impl_IsNear_2 _ _ _ _ _ _ _ _ hr0 hr1 hb
  exact impl_IsNear_ok _ _ _ _ _ _ _ _ hr0 hr1 hp ha hb
end Go.Proofs.YtciidkmonfmipaaGreat
/- A segment is near its ends, the same both ways, and what is near is so of what is farther: plain facts. -/

namespace Go.Proofs.YtciidkmonfmipaaGreat
open Go.RowKit

theorem dist_via (px py ax ay bx by' : Int) : distI px py bx by' = distI px py ax ay - 2 * alongI px py ax ay bx by' + distI ax ay bx by' := by
  unfold distI alongI; grind
theorem lagrange (px py ax ay bx by' : Int) : crossI ax ay bx by' px py * crossI ax ay bx by' px py + alongI px py ax ay bx by' * alongI px py ax ay bx by' = distI ax ay bx by' * distI px py ax ay := by
  unfold crossI alongI distI; grind
theorem dist_nonneg (ax ay bx by' : Int) : 0 ≤ distI ax ay bx by' := by
  have s1 := sq_nonneg (bx - ax)
  have s2 := sq_nonneg (by' - ay)
  unfold distI; omega
theorem near_dist {px py ax ay bx by' r : Int} (h : distI px py ax ay ≤ r * r) : nearB px py ax ay bx by' r = true := by
  have hs := dist_nonneg ax ay bx by'
  have hv := dist_via px py ax ay bx by'
  have hl := lagrange px py ax ay bx by'
  have hq := sq_nonneg (alongI px py ax ay bx by')
  apply decide_eq_true
  unfold overI underI
  by_cases c1 : alongI px py ax ay bx by' ≤ 0
  · simp only [c1, if_true]; omega
  · by_cases c2 : distI ax ay bx by' ≤ alongI px py ax ay bx by'
    · simp only [c1, c2, if_true, if_false]; omega
    · simp only [c1, c2, if_false]
      have h3 : distI ax ay bx by' * distI px py ax ay ≤ distI ax ay bx by' * (r * r) := Int.mul_le_mul_of_nonneg_left h hs
      rw [Int.mul_comm (r * r)]
      omega
end Go.Proofs.YtciidkmonfmipaaGreat
/- Which sides of a ring are crossed: plain facts. -/

namespace Go.Proofs.YtciidkmonfmipaaGreat
open Go.RowKit

/-- Whether the side from a to b is crossed by the way from p to greater X. -/
def sideB (px py ax ay bx by' : Int) : Bool :=
  if decide (py < ay) == decide (py < by') then false
  else if ay < by' then decide (0 < crossI ax ay bx by' px py) else decide (crossI ax ay bx by' px py < 0)

theorem cross_swap (ax ay bx by' px py : Int) : crossI bx by' ax ay px py = - crossI ax ay bx by' px py := by
  simp only [crossI, Int.mul_sub, Int.sub_mul]
  have e1 := Int.mul_comm ax ay
  have e2 := Int.mul_comm bx by'
  have e3 := Int.mul_comm ax by'
  have e4 := Int.mul_comm bx ay
  have e5 := Int.mul_comm ay px
  have e6 := Int.mul_comm by' px
  omega

/-- The number of places below k at which f holds is odd. -/
def oddTo (f : Nat → Bool) : Nat → Bool
  | 0 => false
  | k + 1 => if f k = true then !(oddTo f k) else oddTo f k

theorem oddTo_turn (f g : Nat → Bool) (n : Nat) (h0 : g 0 = f (n - 1)) (hs : ∀ i, i + 1 < n → g (i + 1) = f i) (hn : 0 < n) : oddTo g n = oddTo f n := by
  have key : ∀ k, k + 1 ≤ n → oddTo g (k + 1) = if f (n - 1) = true then !(oddTo f k) else oddTo f k := by
    intro k
    induction k with
    | zero => intro _; simp [oddTo, h0]
    | succ k ih =>
      intro hk
      rw [oddTo, ih (by omega), hs k (by omega), oddTo]
      cases f k <;> cases f (n - 1) <;> simp
  obtain ⟨m, rfl⟩ : ∃ m, n = m + 1 := ⟨n - 1, by omega⟩
  rw [key m (by omega)]
  simp [oddTo]

/-- The side from low to high, low not above high. -/
theorem side_up {px py ax ay bx by' : Int} (h : ay ≤ by') : sideB px py ax ay bx by' = (decide (ay ≤ py) && decide (py < by') && decide (0 < crossI ax ay bx by' px py)) := by
  unfold sideB
  by_cases h1 : py < ay
  · have h2 : py < by' := by omega
    have h3 : ¬ ay ≤ py := by omega
    simp [h1, h2, h3]
  · have h3 : ay ≤ py := by omega
    by_cases h2 : py < by'
    · have h4 : ay < by' := by omega
      simp [h1, h2, h3, h4]
    · simp [h1, h2, h3]
theorem side_down {px py ax ay bx by' : Int} (h : by' < ay) : sideB px py ax ay bx by' = (decide (by' ≤ py) && decide (py < ay) && decide (0 < crossI bx by' ax ay px py)) := by
  unfold sideB
  rw [cross_swap ax ay bx by']
  have h4 : ¬ ay < by' := by omega
  by_cases h1 : py < ay
  · by_cases h2 : py < by'
    · have h3 : ¬ by' ≤ py := by omega
      simp [h1, h2, h3]
    · have h3 : by' ≤ py := by omega
      simp [h1, h2, h3, h4]
  · have h2 : ¬ py < by' := by omega
    simp [h1, h2]
end Go.Proofs.YtciidkmonfmipaaGreat
/- l1Side of the model and isCrossed of the program: whether a side is crossed. -/

namespace Go.Proofs.YtciidkmonfmipaaGreat
open Go.RowKit
set_option linter.unusedSimpArgs false
set_option linter.unusedVariables false

set_option maxHeartbeats 1000000 in
theorem l1Side_a (px py ax ay bx by' : Int) (w : World) (hp : okP px py = true) (ha : okP ax ay = true) (hb : okP bx by' = true) (h1 : py < ay) (h2 : py < by') :
    Calls Tryz.prog 150 #[.agg #[.int .i64 px, .int .i64 py], .agg #[.int .i64 ax, .int .i64 ay], .agg #[.int .i64 bx, .int .i64 by']] w fun e w' => e = .returned (.bool (sideB px py ax ay bx by')) ∧ Below w.heap.size w w' := by
  have HP : Hid (okP px py = true) := hp
  have HA : Hid (okP ax ay = true) := ha
  have HB : Hid (okP bx by' = true) := hb
  clear hp ha hb
  have HE : Hid (sideB px py ax ay bx by' = false) := by
    show _ = _
    simp [sideB, h1, h2]
  go_enter Tryz.func150, Tryz.ntmps150
  go_wp2
  go_ret
  exact ⟨ret_bool HE.out.symm, by (repeat (first | exact Below.refl _ _ | assumption | refine Below.drew ?_ | refine bl_alloc ?_ _ | refine bl_then ?_ (by assumption) | refine Below.setCell ?_ (by first | omega | (simp; done) | (simp; omega)) _ | refine bl_store ?_ ?_ _ _))⟩

set_option maxHeartbeats 1000000 in
theorem l1Side_b (px py ax ay bx by' : Int) (w : World) (hp : okP px py = true) (ha : okP ax ay = true) (hb : okP bx by' = true) (h1 : ¬ py < ay) (h2 : ¬ py < by') :
    Calls Tryz.prog 150 #[.agg #[.int .i64 px, .int .i64 py], .agg #[.int .i64 ax, .int .i64 ay], .agg #[.int .i64 bx, .int .i64 by']] w fun e w' => e = .returned (.bool (sideB px py ax ay bx by')) ∧ Below w.heap.size w w' := by
  have HP : Hid (okP px py = true) := hp
  have HA : Hid (okP ax ay = true) := ha
  have HB : Hid (okP bx by' = true) := hb
  clear hp ha hb
  have HE : Hid (sideB px py ax ay bx by' = false) := by
    show _ = _
    simp [sideB, h1, h2]
  go_enter Tryz.func150, Tryz.ntmps150
  go_wp2
  go_ret
  exact ⟨ret_bool HE.out.symm, by (repeat (first | exact Below.refl _ _ | assumption | refine Below.drew ?_ | refine bl_alloc ?_ _ | refine bl_then ?_ (by assumption) | refine Below.setCell ?_ (by first | omega | (simp; done) | (simp; omega)) _ | refine bl_store ?_ ?_ _ _))⟩

set_option maxHeartbeats 1000000 in
theorem l1Side_c (px py ax ay bx by' : Int) (w : World) (hp : okP px py = true) (ha : okP ax ay = true) (hb : okP bx by' = true) (h1 : ¬ py < ay) (h2 : py < by') :
    Calls Tryz.prog 150 #[.agg #[.int .i64 px, .int .i64 py], .agg #[.int .i64 ax, .int .i64 ay], .agg #[.int .i64 bx, .int .i64 by']] w fun e w' => e = .returned (.bool (sideB px py ax ay bx by')) ∧ Below w.heap.size w w' := by
  have HP : Hid (okP px py = true) := hp
  have HA : Hid (okP ax ay = true) := ha
  have HB : Hid (okP bx by' = true) := hb
  clear hp ha hb
  have h3 : ay < by' := by omega
  have HE : Hid (sideB px py ax ay bx by' = decide (0 < crossI ax ay bx by' px py)) := by
    show _ = _
    simp [sideB, h1, h2, h3]
  go_enter Tryz.func150, Tryz.ntmps150
  go_wp2_with fail
  generalize hW : (((w.alloc _).alloc _).alloc _ : World) = W
  have hB0 : Below w.heap.size w W := by subst hW; (repeat (first | exact Below.refl _ _ | assumption | refine Below.drew ?_ | refine bl_alloc ?_ _ | refine bl_then ?_ (by assumption) | refine Below.setCell ?_ (by first | omega | (simp; done) | (simp; omega)) _ | refine bl_store ?_ ?_ _ _))
  have c00 : ∀ W', Below W.heap.size W W' → W'.cell? ⟨w.heap.size, 0, none⟩ = some (.int .i64 px) := fun W' h => by
    rw [h.cell (by subst hW; simp <;> omega)]; subst hW; simp [go_sem]
  have c01 : ∀ W', Below W.heap.size W W' → W'.cell? ⟨w.heap.size, 1, none⟩ = some (.int .i64 py) := fun W' h => by
    rw [h.cell (by subst hW; simp <;> omega)]; subst hW; simp [go_sem]
  have c10 : ∀ W', Below W.heap.size W W' → W'.cell? ⟨w.heap.size + 1, 0, none⟩ = some (.int .i64 ax) := fun W' h => by
    rw [h.cell (by subst hW; simp <;> omega)]; subst hW; simp [go_sem]
  have c11 : ∀ W', Below W.heap.size W W' → W'.cell? ⟨w.heap.size + 1, 1, none⟩ = some (.int .i64 ay) := fun W' h => by
    rw [h.cell (by subst hW; simp <;> omega)]; subst hW; simp [go_sem]
  have c20 : ∀ W', Below W.heap.size W W' → W'.cell? ⟨w.heap.size + 1 + 1, 0, none⟩ = some (.int .i64 bx) := fun W' h => by
    rw [h.cell (by subst hW; simp <;> omega)]; subst hW; simp [go_sem]
  have c21 : ∀ W', Below W.heap.size W W' → W'.cell? ⟨w.heap.size + 1 + 1, 1, none⟩ = some (.int .i64 by') := fun W' h => by
    rw [h.cell (by subst hW; simp <;> omega)]; subst hW; simp [go_sem]
  clear hW
  have HB0 : Hid (Below w.heap.size w W) := hB0
  clear hB0
  have hr : Below W.heap.size W W := Below.refl _ _
  go_wp2_with (go_at_call 152; refine (l1Cross_any _ _ _ _ _ _ _ HA.out HB.out HP.out).mono ?_; rintro e w' ⟨rfl, hb⟩; have hbn : Below W.heap.size W w' := (by (repeat (first | exact Below.refl _ _ | assumption | refine Below.drew ?_ | refine bl_alloc ?_ _ | refine bl_then ?_ (by assumption) | refine Below.setCell ?_ (by first | omega | (simp; done) | (simp; omega)) _ | refine bl_store ?_ ?_ _ _))))
  go_ret
  exact ⟨ret_bool HE.out.symm, by have HB1 := HB0.out; (repeat (first | exact Below.refl _ _ | assumption | refine Below.drew ?_ | refine bl_alloc ?_ _ | refine bl_then ?_ (by assumption) | refine Below.setCell ?_ (by first | omega | (simp; done) | (simp; omega)) _ | refine bl_store ?_ ?_ _ _))⟩

set_option maxHeartbeats 1000000 in
theorem l1Side_d (px py ax ay bx by' : Int) (w : World) (hp : okP px py = true) (ha : okP ax ay = true) (hb : okP bx by' = true) (h1 : py < ay) (h2 : ¬ py < by') :
    Calls Tryz.prog 150 #[.agg #[.int .i64 px, .int .i64 py], .agg #[.int .i64 ax, .int .i64 ay], .agg #[.int .i64 bx, .int .i64 by']] w fun e w' => e = .returned (.bool (sideB px py ax ay bx by')) ∧ Below w.heap.size w w' := by
  have HP : Hid (okP px py = true) := hp
  have HA : Hid (okP ax ay = true) := ha
  have HB : Hid (okP bx by' = true) := hb
  clear hp ha hb
  have h3 : ¬ ay < by' := by omega
  have HE : Hid (sideB px py ax ay bx by' = decide (crossI ax ay bx by' px py < 0)) := by
    show _ = _
    simp [sideB, h1, h2, h3]
  go_enter Tryz.func150, Tryz.ntmps150
  go_wp2_with fail
  generalize hW : (((w.alloc _).alloc _).alloc _ : World) = W
  have hB0 : Below w.heap.size w W := by subst hW; (repeat (first | exact Below.refl _ _ | assumption | refine Below.drew ?_ | refine bl_alloc ?_ _ | refine bl_then ?_ (by assumption) | refine Below.setCell ?_ (by first | omega | (simp; done) | (simp; omega)) _ | refine bl_store ?_ ?_ _ _))
  have c00 : ∀ W', Below W.heap.size W W' → W'.cell? ⟨w.heap.size, 0, none⟩ = some (.int .i64 px) := fun W' h => by
    rw [h.cell (by subst hW; simp <;> omega)]; subst hW; simp [go_sem]
  have c01 : ∀ W', Below W.heap.size W W' → W'.cell? ⟨w.heap.size, 1, none⟩ = some (.int .i64 py) := fun W' h => by
    rw [h.cell (by subst hW; simp <;> omega)]; subst hW; simp [go_sem]
  have c10 : ∀ W', Below W.heap.size W W' → W'.cell? ⟨w.heap.size + 1, 0, none⟩ = some (.int .i64 ax) := fun W' h => by
    rw [h.cell (by subst hW; simp <;> omega)]; subst hW; simp [go_sem]
  have c11 : ∀ W', Below W.heap.size W W' → W'.cell? ⟨w.heap.size + 1, 1, none⟩ = some (.int .i64 ay) := fun W' h => by
    rw [h.cell (by subst hW; simp <;> omega)]; subst hW; simp [go_sem]
  have c20 : ∀ W', Below W.heap.size W W' → W'.cell? ⟨w.heap.size + 1 + 1, 0, none⟩ = some (.int .i64 bx) := fun W' h => by
    rw [h.cell (by subst hW; simp <;> omega)]; subst hW; simp [go_sem]
  have c21 : ∀ W', Below W.heap.size W W' → W'.cell? ⟨w.heap.size + 1 + 1, 1, none⟩ = some (.int .i64 by') := fun W' h => by
    rw [h.cell (by subst hW; simp <;> omega)]; subst hW; simp [go_sem]
  clear hW
  have HB0 : Hid (Below w.heap.size w W) := hB0
  clear hB0
  have hr : Below W.heap.size W W := Below.refl _ _
  go_wp2_with (go_at_call 152; refine (l1Cross_any _ _ _ _ _ _ _ HA.out HB.out HP.out).mono ?_; rintro e w' ⟨rfl, hb⟩; have hbn : Below W.heap.size W w' := (by (repeat (first | exact Below.refl _ _ | assumption | refine Below.drew ?_ | refine bl_alloc ?_ _ | refine bl_then ?_ (by assumption) | refine Below.setCell ?_ (by first | omega | (simp; done) | (simp; omega)) _ | refine bl_store ?_ ?_ _ _))))
  go_ret
  exact ⟨ret_bool HE.out.symm, by have HB1 := HB0.out; (repeat (first | exact Below.refl _ _ | assumption | refine Below.drew ?_ | refine bl_alloc ?_ _ | refine bl_then ?_ (by assumption) | refine Below.setCell ?_ (by first | omega | (simp; done) | (simp; omega)) _ | refine bl_store ?_ ?_ _ _))⟩

theorem l1Side_any (px py ax ay bx by' : Int) (w : World) (hp : okP px py = true) (ha : okP ax ay = true) (hb : okP bx by' = true) :
    Calls Tryz.prog 150 #[.agg #[.int .i64 px, .int .i64 py], .agg #[.int .i64 ax, .int .i64 ay], .agg #[.int .i64 bx, .int .i64 by']] w fun e w' => e = .returned (.bool (sideB px py ax ay bx by')) ∧ Below w.heap.size w w' := by
  by_cases h1 : py < ay <;> by_cases h2 : py < by'
  · exact l1Side_a _ _ _ _ _ _ _ hp ha hb h1 h2
  · exact l1Side_d _ _ _ _ _ _ _ hp ha hb h1 h2
  · exact l1Side_c _ _ _ _ _ _ _ hp ha hb h1 h2
  · exact l1Side_b _ _ _ _ _ _ _ hp ha hb h1 h2
end Go.Proofs.YtciidkmonfmipaaGreat
