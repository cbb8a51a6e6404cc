/- Which sides of a ring are crossed: plain facts. -/
import Derived.Test.YtlkjdbigpjpgeabPlain
namespace Go.Proofs.Ytlkjdbigpjpgeab
open Go.RowKit

/-- Whether the side from a to b is crossed by the way from p to greater X. -/
def sideB (px py ax ay bx by' : Int) : Bool :=
  if decide (py < ay) == decide (py < by') then false
  else if ay < by' then decide (0 < crossI ax ay bx by' px py) else decide (crossI ax ay bx by' px py < 0)

theorem cross_swap (ax ay bx by' px py : Int) : crossI bx by' ax ay px py = - crossI ax ay bx by' px py := by
  simp only [crossI, Int.mul_sub, Int.sub_mul]
  have e1 := Int.mul_comm ax ay
  have e2 := Int.mul_comm bx by'
  have e3 := Int.mul_comm ax by'
  have e4 := Int.mul_comm bx ay
  have e5 := Int.mul_comm ay px
  have e6 := Int.mul_comm by' px
  omega

/-- The number of places below k at which f holds is odd. -/
def oddTo (f : Nat → Bool) : Nat → Bool
  | 0 => false
  | k + 1 => if f k = true then !(oddTo f k) else oddTo f k

theorem oddTo_turn (f g : Nat → Bool) (n : Nat) (h0 : g 0 = f (n - 1)) (hs : ∀ i, i + 1 < n → g (i + 1) = f i) (hn : 0 < n) : oddTo g n = oddTo f n := by
  have key : ∀ k, k + 1 ≤ n → oddTo g (k + 1) = if f (n - 1) = true then !(oddTo f k) else oddTo f k := by
    intro k
    induction k with
    | zero => intro _; simp [oddTo, h0]
    | succ k ih =>
      intro hk
      rw [oddTo, ih (by omega), hs k (by omega), oddTo]
      cases f k <;> cases f (n - 1) <;> simp
  obtain ⟨m, rfl⟩ : ∃ m, n = m + 1 := ⟨n - 1, by omega⟩
  rw [key m (by omega)]
  simp [oddTo]

/-- The side from low to high, low not above high. -/
theorem side_up {px py ax ay bx by' : Int} (h : ay ≤ by') : sideB px py ax ay bx by' = (decide (ay ≤ py) && decide (py < by') && decide (0 < crossI ax ay bx by' px py)) := by
  unfold sideB
  by_cases h1 : py < ay
  · have h2 : py < by' := by omega
    have h3 : ¬ ay ≤ py := by omega
    simp [h1, h2, h3]
  · have h3 : ay ≤ py := by omega
    by_cases h2 : py < by'
    · have h4 : ay < by' := by omega
      simp [h1, h2, h3, h4]
    · simp [h1, h2, h3]
theorem side_down {px py ax ay bx by' : Int} (h : by' < ay) : sideB px py ax ay bx by' = (decide (by' ≤ py) && decide (py < ay) && decide (0 < crossI bx by' ax ay px py)) := by
  unfold sideB
  rw [cross_swap ax ay bx by']
  have h4 : ¬ ay < by' := by omega
  by_cases h1 : py < ay
  · by_cases h2 : py < by'
    · have h3 : ¬ by' ≤ py := by omega
      simp [h1, h2, h3]
    · have h3 : by' ≤ py := by omega
      simp [h1, h2, h3, h4]
  · have h2 : ¬ py < by' := by omega
    simp [h1, h2]
end Go.Proofs.Ytlkjdbigpjpgeab
