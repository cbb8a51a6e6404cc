/- Several texts in one. -/
import Derived.Test.YtiheemnjfihhfaaGreatVRasterTile8
import Derived.Test.YtiheemnjfihhfaaGreatVRasterTile10
import Derived.Test.YtiheemnjfihhfaaGreatVRasterTile1

/- A segment is near its ends, the same both ways, and what is near is so of what is farther: plain facts. -/

namespace Go.Proofs.YtiheemnjfihhfaaGreat
open Go.RowKit

theorem dist_via (px py ax ay bx by' : Int) : distI px py bx by' = distI px py ax ay - 2 * alongI px py ax ay bx by' + distI ax ay bx by' := by
  unfold distI alongI; grind
theorem along_other (px py ax ay bx by' : Int) : alongI px py bx by' ax ay = distI ax ay bx by' - alongI px py ax ay bx by' := by
  unfold distI alongI; grind
theorem cross_other (px py ax ay bx by' : Int) : crossI bx by' ax ay px py * crossI bx by' ax ay px py = crossI ax ay bx by' px py * crossI ax ay bx by' px py := by
  unfold crossI; grind
theorem lagrange (px py ax ay bx by' : Int) : crossI ax ay bx by' px py * crossI ax ay bx by' px py + alongI px py ax ay bx by' * alongI px py ax ay bx by' = distI ax ay bx by' * distI px py ax ay := by
  unfold crossI alongI distI; grind
theorem dist_nonneg (ax ay bx by' : Int) : 0 ≤ distI ax ay bx by' := by
  have s1 := sq_nonneg (bx - ax)
  have s2 := sq_nonneg (by' - ay)
  unfold distI; omega
theorem dist_eq_zero {ax ay bx by' : Int} (h : distI ax ay bx by' = 0) : ax = bx ∧ ay = by' := by
  have s1 := sq_nonneg (bx - ax)
  have s2 := sq_nonneg (by' - ay)
  unfold distI at h
  have h1 : (bx - ax) * (bx - ax) = 0 := by omega
  have h2 : (by' - ay) * (by' - ay) = 0 := by omega
  have := Int.mul_eq_zero.1 h1
  have := Int.mul_eq_zero.1 h2
  omega
theorem under_nonneg (px py ax ay bx by' : Int) : 0 ≤ underI px py ax ay bx by' := by
  have := dist_nonneg ax ay bx by'
  unfold underI
  split
  · omega
  · split <;> omega

theorem near_swap (px py ax ay bx by' r : Int) : nearB px py bx by' ax ay r = nearB px py ax ay bx by' r := by
  have hs := dist_nonneg ax ay bx by'
  have ha := along_other px py ax ay bx by'
  have hd := dist_comm bx by' ax ay
  have hc := cross_other px py ax ay bx by'
  unfold nearB overI underI
  by_cases c1 : alongI px py ax ay bx by' ≤ 0
  · by_cases c2 : distI ax ay bx by' ≤ alongI px py ax ay bx by'
    · obtain ⟨rfl, rfl⟩ := dist_eq_zero (show distI ax ay bx by' = 0 by omega)
      rfl
    · have k1 : ¬ alongI px py bx by' ax ay ≤ 0 := by omega
      have k2 : distI bx by' ax ay ≤ alongI px py bx by' ax ay := by omega
      simp only [c1, k1, k2, if_true, if_false]
  · by_cases c2 : distI ax ay bx by' ≤ alongI px py ax ay bx by'
    · have k1 : alongI px py bx by' ax ay ≤ 0 := by omega
      simp only [c1, c2, k1, if_true, if_false]
    · have k1 : ¬ alongI px py bx by' ax ay ≤ 0 := by omega
      have k2 : ¬ distI bx by' ax ay ≤ alongI px py bx by' ax ay := by omega
      simp only [c1, c2, k1, k2, if_false]
      rw [hc, hd]
theorem isNear_swap (px py ax ay bx by' r : Int) : isNearB px py bx by' ax ay r = isNearB px py ax ay bx by' r := by
  unfold isNearB
  rw [near_swap]
  cases okP px py <;> cases okP ax ay <;> cases okP bx by' <;> rfl

theorem near_first (ax ay bx by' r : Int) : nearB ax ay ax ay bx by' r = true := by
  have h1 : alongI ax ay ax ay bx by' = 0 := by unfold alongI; simp
  have h2 : distI ax ay ax ay = 0 := by unfold distI; simp
  have := sq_nonneg r
  simp [nearB, overI, underI, h1, h2, this]
theorem near_last (ax ay bx by' r : Int) : nearB bx by' ax ay bx by' r = true := by
  rw [← near_swap]; exact near_first bx by' ax ay r
theorem near_more {px py ax ay bx by' r : Int} (h0 : 0 ≤ r) (h : nearB px py ax ay bx by' r = true) : nearB px py ax ay bx by' (r + 1) = true := by
  have hu := under_nonneg px py ax ay bx by'
  have h1 := of_decide_eq_true h
  apply decide_eq_true
  have h2 : r * r ≤ (r + 1) * (r + 1) := by
    have : (r + 1) * (r + 1) = r * r + 2 * r + 1 := by grind
    omega
  exact Int.le_trans h1 (Int.mul_le_mul_of_nonneg_right h2 hu)
theorem near_dist {px py ax ay bx by' r : Int} (h : distI px py ax ay ≤ r * r) : nearB px py ax ay bx by' r = true := by
  have hs := dist_nonneg ax ay bx by'
  have hv := dist_via px py ax ay bx by'
  have hl := lagrange px py ax ay bx by'
  have hq := sq_nonneg (alongI px py ax ay bx by')
  apply decide_eq_true
  unfold overI underI
  by_cases c1 : alongI px py ax ay bx by' ≤ 0
  · simp only [c1, if_true]; omega
  · by_cases c2 : distI ax ay bx by' ≤ alongI px py ax ay bx by'
    · simp only [c1, c2, if_true, if_false]; omega
    · simp only [c1, c2, if_false]
      have h3 : distI ax ay bx by' * distI px py ax ay ≤ distI ax ay bx by' * (r * r) := Int.mul_le_mul_of_nonneg_left h hs
      rw [Int.mul_comm (r * r)]
      omega
end Go.Proofs.YtiheemnjfihhfaaGreat
/- Which sides of a ring are crossed: plain facts. -/

namespace Go.Proofs.YtiheemnjfihhfaaGreat
open Go.RowKit

/-- Whether the side from a to b is crossed by the way from p to greater X. -/
def sideB (px py ax ay bx by' : Int) : Bool :=
  if decide (py < ay) == decide (py < by') then false
  else if ay < by' then decide (0 < crossI ax ay bx by' px py) else decide (crossI ax ay bx by' px py < 0)

theorem cross_swap (ax ay bx by' px py : Int) : crossI bx by' ax ay px py = - crossI ax ay bx by' px py := by
  simp only [crossI, Int.mul_sub, Int.sub_mul]
  have e1 := Int.mul_comm ax ay
  have e2 := Int.mul_comm bx by'
  have e3 := Int.mul_comm ax by'
  have e4 := Int.mul_comm bx ay
  have e5 := Int.mul_comm ay px
  have e6 := Int.mul_comm by' px
  omega

/-- The number of places below k at which f holds is odd. -/
def oddTo (f : Nat → Bool) : Nat → Bool
  | 0 => false
  | k + 1 => if f k = true then !(oddTo f k) else oddTo f k

theorem oddTo_turn (f g : Nat → Bool) (n : Nat) (h0 : g 0 = f (n - 1)) (hs : ∀ i, i + 1 < n → g (i + 1) = f i) (hn : 0 < n) : oddTo g n = oddTo f n := by
  have key : ∀ k, k + 1 ≤ n → oddTo g (k + 1) = if f (n - 1) = true then !(oddTo f k) else oddTo f k := by
    intro k
    induction k with
    | zero => intro _; simp [oddTo, h0]
    | succ k ih =>
      intro hk
      rw [oddTo, ih (by omega), hs k (by omega), oddTo]
      cases f k <;> cases f (n - 1) <;> simp
  obtain ⟨m, rfl⟩ : ∃ m, n = m + 1 := ⟨n - 1, by omega⟩
  rw [key m (by omega)]
  simp [oddTo]

/-- The side from low to high, low not above high. -/
theorem side_up {px py ax ay bx by' : Int} (h : ay ≤ by') : sideB px py ax ay bx by' = (decide (ay ≤ py) && decide (py < by') && decide (0 < crossI ax ay bx by' px py)) := by
  unfold sideB
  by_cases h1 : py < ay
  · have h2 : py < by' := by omega
    have h3 : ¬ ay ≤ py := by omega
    simp [h1, h2, h3]
  · have h3 : ay ≤ py := by omega
    by_cases h2 : py < by'
    · have h4 : ay < by' := by omega
      simp [h1, h2, h3, h4]
    · simp [h1, h2, h3]
theorem side_down {px py ax ay bx by' : Int} (h : by' < ay) : sideB px py ax ay bx by' = (decide (by' ≤ py) && decide (py < ay) && decide (0 < crossI bx by' ax ay px py)) := by
  unfold sideB
  rw [cross_swap ax ay bx by']
  have h4 : ¬ ay < by' := by omega
  by_cases h1 : py < ay
  · by_cases h2 : py < by'
    · have h3 : ¬ by' ≤ py := by omega
      simp [h1, h2, h3]
    · have h3 : by' ≤ py := by omega
      simp [h1, h2, h3, h4]
  · have h2 : ¬ py < by' := by omega
    simp [h1, h2]
end Go.Proofs.YtiheemnjfihhfaaGreat
