/- What is inside a ring lies in the ring's box: plain facts. -/
import Derived.Test.YtlkjdbigpjpgeaaInMath
namespace Go.Proofs.Ytlkjdbigpjpgeaa
open Go.RowKit

theorem mnTo_le (X : Nat → Int) : ∀ n i, i < n → mnTo X n ≤ X i
  | 0, i, h => absurd h (by omega)
  | n + 1, i, h => by
    rw [mnTo]
    unfold mnI
    by_cases e : i = n
    · subst e; split <;> omega
    · have := mnTo_le X n i (by omega)
      split <;> omega
theorem le_mxTo (X : Nat → Int) : ∀ n i, i < n → X i ≤ mxTo X n
  | 0, i, h => absurd h (by omega)
  | n + 1, i, h => by
    rw [mxTo]
    unfold mxI
    by_cases e : i = n
    · subst e; split <;> omega
    · have := le_mxTo X n i (by omega)
      split <;> omega
/-- Left of both ends the cross is the side's sense. -/
theorem cross_left {px py ax ay bx by' : Int} (h1 : px < ax) (h2 : px < bx) (h3 : ay ≤ py) (h4 : py < by') : 0 < crossI ax ay bx by' px py := by
  rw [cross_as]
  have p1 : 0 ≤ (py - ay) * (bx - px) := Int.mul_nonneg (by omega) (by omega)
  have p2 : 0 < (by' - py) * (ax - px) := Int.mul_pos (by omega) (by omega)
  omega
theorem cross_right {px py ax ay bx by' : Int} (h1 : ax < px) (h2 : bx < px) (h3 : ay ≤ py) (h4 : py < by') : crossI ax ay bx by' px py < 0 := by
  rw [cross_as]
  have p1 : 0 ≤ (py - ay) * (px - bx) := Int.mul_nonneg (by omega) (by omega)
  have p2 : 0 < (by' - py) * (px - ax) := Int.mul_pos (by omega) (by omega)
  have e1 : (py - ay) * (bx - px) = -((py - ay) * (px - bx)) := by rw [← Int.mul_neg]; congr 1; omega
  have e2 : (by' - py) * (ax - px) = -((by' - py) * (px - ax)) := by rw [← Int.mul_neg]; congr 1; omega
  omega
theorem side_left {px py ax ay bx by' : Int} (h1 : px < ax) (h2 : px < bx) : sideB px py ax ay bx by' = (decide (py < ay) != decide (py < by')) := by
  rcases Int.lt_or_le by' ay with h | h
  · rw [side_down h]
    by_cases h3 : by' ≤ py
    · by_cases h4 : py < ay
      · have hc := cross_left h2 h1 h3 h4
        have h5 : ¬ py < by' := by omega
        simp [h3, h4, h5, hc]
      · have h5 : ¬ py < by' := by omega
        simp [h4, h5]
    · have h5 : py < by' := by omega
      have h6 : py < ay := by omega
      simp [h3, h5, h6]
  · rw [side_up h]
    by_cases h3 : ay ≤ py
    · by_cases h4 : py < by'
      · have hc := cross_left h1 h2 h3 h4
        have h5 : ¬ py < ay := by omega
        simp [h3, h4, h5, hc]
      · have h5 : ¬ py < ay := by omega
        simp [h4, h5]
    · have h5 : py < ay := by omega
      have h6 : py < by' := by omega
      simp [h3, h5, h6]
theorem side_right {px py ax ay bx by' : Int} (h1 : ax < px) (h2 : bx < px) : sideB px py ax ay bx by' = false := by
  rcases Int.lt_or_le by' ay with h | h
  · rw [side_down h]
    by_cases h3 : by' ≤ py
    · by_cases h4 : py < ay
      · have hc := cross_right h2 h1 h3 h4
        have h5 : ¬ 0 < crossI bx by' ax ay px py := by omega
        simp [h5]
      · simp [h4]
    · simp [h3]
  · rw [side_up h]
    by_cases h3 : ay ≤ py
    · by_cases h4 : py < by'
      · have hc := cross_right h1 h2 h3 h4
        have h5 : ¬ 0 < crossI ax ay bx by' px py := by omega
        simp [h5]
      · simp [h4]
    · simp [h3]
theorem side_apart {px py ax ay bx by' : Int} (h : decide (py < ay) = decide (py < by')) : sideB px py ax ay bx by' = false := by
  unfold sideB
  simp [h]
theorem inside_box {px py : Int} {n : Nat} {X Y : Nat → Int} (h : insideB px py n X Y = true) : mnTo X n ≤ px ∧ px ≤ mxTo X n ∧ mnTo Y n ≤ py ∧ py ≤ mxTo Y n := by
  unfold insideB at h
  simp only [Bool.and_eq_true, decide_eq_true_eq] at h
  obtain ⟨_, h3, _, _, ho⟩ := h
  have hn : 0 < n := by omega
  have hm : ∀ i, i < n → (i + 1) % n < n := fun i _ => Nat.mod_lt _ hn
  have no : ∀ f : Nat → Bool, (∀ i, i < n → sideAt px py n X Y i = f i) → oddTo f n = false → False := fun f hf h0 => by
    rw [oddTo_congr n hf, h0] at ho
    cases ho
  refine ⟨?_, ?_, ?_, ?_⟩
  · refine Int.not_lt.1 fun hc => no (fun i => decide (py < Y i) != decide (py < Y ((i + 1) % n))) (fun i hi => ?_) (oddTo_round (fun i => decide (py < Y i)) n hn)
    have a1 := mnTo_le X n i hi
    have a2 := mnTo_le X n _ (hm i hi)
    exact side_left (by omega) (by omega)
  · refine Int.not_lt.1 fun hc => no (fun _ => false) (fun i hi => ?_) (oddTo_none n fun _ _ => rfl)
    have a1 := le_mxTo X n i hi
    have a2 := le_mxTo X n _ (hm i hi)
    exact side_right (by omega) (by omega)
  · refine Int.not_lt.1 fun hc => no (fun _ => false) (fun i hi => ?_) (oddTo_none n fun _ _ => rfl)
    have a1 := mnTo_le Y n i hi
    have a2 := mnTo_le Y n _ (hm i hi)
    exact side_apart (by rw [decide_eq_true (show py < Y i by omega), decide_eq_true (show py < Y ((i + 1) % n) by omega)])
  · refine Int.not_lt.1 fun hc => no (fun _ => false) (fun i hi => ?_) (oddTo_none n fun _ _ => rfl)
    have a1 := le_mxTo Y n i hi
    have a2 := le_mxTo Y n _ (hm i hi)
    exact side_apart (by rw [decide_eq_false (show ¬ py < Y i by omega), decide_eq_false (show ¬ py < Y ((i + 1) % n) by omega)])
end Go.Proofs.Ytlkjdbigpjpgeaa
