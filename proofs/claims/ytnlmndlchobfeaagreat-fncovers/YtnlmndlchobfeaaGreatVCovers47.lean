/- Several texts in one. -/
import Derived.Test.YtnlmndlchobfeaaGreatVCovers22
import Derived.Test.YtnlmndlchobfeaaGreatVCovers15
import Derived.Test.YtnlmndlchobfeaaGreatVCovers35
import Derived.Test.YtnlmndlchobfeaaGreatVCovers3
import Derived.Deep.RegionHeld3
import Derived.Test.YtnlmndlchobfeaaGreatVCovers2

/- Rings: told the other way, told from the next point, and the box around: plain facts. -/

namespace Go.Proofs.YtnlmndlchobfeaaGreat
open Go.RowKit

theorem sideB_swap (px py ax ay bx by' : Int) : sideB px py bx by' ax ay = sideB px py ax ay bx by' := by
  rcases Int.lt_trichotomy ay by' with h | h | h
  · rw [side_down h, side_up (Int.le_of_lt h)]
  · subst h
    unfold sideB
    simp
  · rw [side_up (Int.le_of_lt h), side_down h]

theorem oddTo_congr {f g : Nat → Bool} : ∀ n, (∀ i, i < n → f i = g i) → oddTo f n = oddTo g n
  | 0, _ => rfl
  | n + 1, h => by rw [oddTo, oddTo, h n (by omega), oddTo_congr n (fun i hi => h i (by omega))]
theorem oddTo_shift (f : Nat → Bool) : ∀ n, oddTo f (n + 1) = if f 0 = true then !(oddTo (fun i => f (i + 1)) n) else oddTo (fun i => f (i + 1)) n
  | 0 => rfl
  | n + 1 => by
    rw [oddTo, oddTo_shift f n, oddTo]
    cases f 0 <;> cases f (n + 1) <;> simp
theorem oddTo_rev (f : Nat → Bool) : ∀ n, oddTo (fun i => f (n - 1 - i)) n = oddTo f n
  | 0 => rfl
  | n + 1 => by
    rw [oddTo_shift, oddTo]
    have h : oddTo (fun i => f (n + 1 - 1 - (i + 1))) n = oddTo f n := by
      rw [← oddTo_rev f n]
      exact oddTo_congr n (fun i hi => by congr 1; omega)
    rw [h]
    simp

theorem odd_back (px py : Int) (n : Nat) (X Y : Nat → Int) (hn : 0 < n) :
    oddTo (sideAt px py n (fun i => X (n - 1 - i)) (fun i => Y (n - 1 - i))) n = oddTo (sideAt px py n X Y) n := by
  obtain ⟨m, rfl⟩ : ∃ m, n = m + 1 := ⟨n - 1, by omega⟩
  rw [oddTo, oddTo]
  have hl : sideAt px py (m + 1) (fun i => X (m + 1 - 1 - i)) (fun i => Y (m + 1 - 1 - i)) m = sideAt px py (m + 1) X Y m := by
    unfold sideAt
    rw [Nat.mod_self]
    simp only [Nat.add_sub_cancel, Nat.sub_self, Nat.sub_zero]
    exact sideB_swap _ _ _ _ _ _
  have hr : oddTo (sideAt px py (m + 1) (fun i => X (m + 1 - 1 - i)) (fun i => Y (m + 1 - 1 - i))) m = oddTo (sideAt px py (m + 1) X Y) m := by
    rw [← oddTo_rev (sideAt px py (m + 1) X Y) m]
    refine oddTo_congr m (fun i hi => ?_)
    unfold sideAt
    have e1 : (i + 1) % (m + 1) = i + 1 := Nat.mod_eq_of_lt (by omega)
    have e2 : (m - 1 - i + 1) % (m + 1) = m - 1 - i + 1 := Nat.mod_eq_of_lt (by omega)
    have e3 : m - 1 - i + 1 = m + 1 - 1 - i := by omega
    have e4 : m + 1 - 1 - (i + 1) = m - 1 - i := by omega
    rw [e1, e2, e3]
    simp only [e4]
    exact sideB_swap _ _ _ _ _ _
  rw [hl, hr]

theorem allOk_iff {n : Nat} {X Y : Nat → Int} : allOk n X Y = true ↔ ∀ i, i < n → okP (X i) (Y i) = true := by unfold allOk; exact decide_eq_true_iff
theorem allOk_congr {n : Nat} {X Y X' Y' : Nat → Int} (h : (∀ i, i < n → okP (X i) (Y i) = true) ↔ ∀ i, i < n → okP (X' i) (Y' i) = true) : allOk n X Y = allOk n X' Y' := by
  unfold allOk
  exact decide_eq_decide.2 h
theorem allOk_back (n : Nat) (X Y : Nat → Int) : allOk n (fun i => X (n - 1 - i)) (fun i => Y (n - 1 - i)) = allOk n X Y := by
  refine allOk_congr ⟨fun h i hi => ?_, fun h i hi => h _ (by omega)⟩
  have := h (n - 1 - i) (by omega)
  simpa only [show n - 1 - (n - 1 - i) = i by omega] using this
theorem allOk_turn (n : Nat) (X Y : Nat → Int) : allOk n (fun i => X ((i + 1) % n)) (fun i => Y ((i + 1) % n)) = allOk n X Y := by
  refine allOk_congr ⟨fun h i hi => ?_, fun h i hi => h _ (Nat.mod_lt _ (by omega))⟩
  rcases Nat.eq_zero_or_pos i with rfl | hp
  · have := h (n - 1) (by omega)
    have e : (n - 1 + 1) % n = 0 := by rw [show n - 1 + 1 = n by omega]; exact Nat.mod_self n
    simpa only [e] using this
  · have := h (i - 1) (by omega)
    have e : (i - 1 + 1) % n = i := by rw [show i - 1 + 1 = i by omega]; exact Nat.mod_eq_of_lt hi
    simpa only [e] using this
theorem odd_turned (px py : Int) (n : Nat) (X Y : Nat → Int) (hn : 0 < n) :
    oddTo (sideAt px py n (fun i => X ((i + 1) % n)) (fun i => Y ((i + 1) % n))) n = oddTo (sideAt px py n X Y) n := by
  refine (oddTo_turn _ _ n ?_ (fun i hi => ?_) hn).symm
  · unfold sideAt
    have e : (n - 1 + 1) % n = 0 := by rw [show n - 1 + 1 = n by omega]; exact Nat.mod_self n
    simp only [e]
  · unfold sideAt
    have e : (i + 1) % n = i + 1 := Nat.mod_eq_of_lt hi
    simp only [e]
theorem inside_back (px py : Int) (n : Nat) (X Y : Nat → Int) (hn : 0 < n) : insideB px py n (fun i => X (n - 1 - i)) (fun i => Y (n - 1 - i)) = insideB px py n X Y := by
  unfold insideB
  rw [allOk_back, odd_back px py n X Y hn]
theorem inside_turned (px py : Int) (n : Nat) (X Y : Nat → Int) (hn : 0 < n) : insideB px py n (fun i => X ((i + 1) % n)) (fun i => Y ((i + 1) % n)) = insideB px py n X Y := by
  unfold insideB
  rw [allOk_turn, odd_turned px py n X Y hn]

theorem oddTo_none {f : Nat → Bool} : ∀ n, (∀ i, i < n → f i = false) → oddTo f n = false
  | 0, _ => rfl
  | n + 1, h => by rw [oddTo, h n (by omega), oddTo_none n (fun i hi => h i (by omega))]; rfl
/-- All around a ring a mark changes an even number of times. -/
theorem oddTo_round (u : Nat → Bool) (n : Nat) (hn : 0 < n) : oddTo (fun i => u i != u ((i + 1) % n)) n = false := by
  obtain ⟨m, rfl⟩ : ∃ m, n = m + 1 := ⟨n - 1, by omega⟩
  have key : ∀ k, k ≤ m → oddTo (fun i => u i != u ((i + 1) % (m + 1))) k = (u 0 != u k) := by
    intro k
    induction k with
    | zero => intro _; simp [oddTo]
    | succ k ih =>
      intro hk
      rw [oddTo, ih (by omega), Nat.mod_eq_of_lt (show k + 1 < m + 1 by omega)]
      cases u 0 <;> cases u k <;> cases u (k + 1) <;> rfl
  rw [oddTo, key m (Nat.le_refl _), Nat.mod_self]
  cases u 0 <;> cases u m <;> rfl

theorem cross_as (ax ay bx by' px py : Int) : crossI ax ay bx by' px py = (py - ay) * (bx - px) + (by' - py) * (ax - px) := by
  unfold crossI
  simp only [Int.mul_sub, Int.sub_mul]
  have e1 := Int.mul_comm ax ay
  have e2 := Int.mul_comm bx by'
  have e3 := Int.mul_comm ax by'
  have e4 := Int.mul_comm bx ay
  have e5 := Int.mul_comm ay px
  have e6 := Int.mul_comm by' px
  have e7 := Int.mul_comm py ax
  have e8 := Int.mul_comm py bx
  have e9 := Int.mul_comm py px
  have e10 := Int.mul_comm py ay
  have e11 := Int.mul_comm py by'
  omega
end Go.Proofs.YtnlmndlchobfeaaGreat
/- What is inside a ring lies in the ring's box: plain facts. -/

namespace Go.Proofs.YtnlmndlchobfeaaGreat
open Go.RowKit

theorem mnTo_le (X : Nat → Int) : ∀ n i, i < n → mnTo X n ≤ X i
  | 0, i, h => absurd h (by omega)
  | n + 1, i, h => by
    rw [mnTo]
    unfold mnI
    by_cases e : i = n
    · subst e; split <;> omega
    · have := mnTo_le X n i (by omega)
      split <;> omega
theorem le_mxTo (X : Nat → Int) : ∀ n i, i < n → X i ≤ mxTo X n
  | 0, i, h => absurd h (by omega)
  | n + 1, i, h => by
    rw [mxTo]
    unfold mxI
    by_cases e : i = n
    · subst e; split <;> omega
    · have := le_mxTo X n i (by omega)
      split <;> omega
/-- Left of both ends the cross is the side's sense. -/
theorem cross_left {px py ax ay bx by' : Int} (h1 : px < ax) (h2 : px < bx) (h3 : ay ≤ py) (h4 : py < by') : 0 < crossI ax ay bx by' px py := by
  rw [cross_as]
  have p1 : 0 ≤ (py - ay) * (bx - px) := Int.mul_nonneg (by omega) (by omega)
  have p2 : 0 < (by' - py) * (ax - px) := Int.mul_pos (by omega) (by omega)
  omega
theorem cross_right {px py ax ay bx by' : Int} (h1 : ax < px) (h2 : bx < px) (h3 : ay ≤ py) (h4 : py < by') : crossI ax ay bx by' px py < 0 := by
  rw [cross_as]
  have p1 : 0 ≤ (py - ay) * (px - bx) := Int.mul_nonneg (by omega) (by omega)
  have p2 : 0 < (by' - py) * (px - ax) := Int.mul_pos (by omega) (by omega)
  have e1 : (py - ay) * (bx - px) = -((py - ay) * (px - bx)) := by rw [← Int.mul_neg]; congr 1; omega
  have e2 : (by' - py) * (ax - px) = -((by' - py) * (px - ax)) := by rw [← Int.mul_neg]; congr 1; omega
  omega
theorem side_left {px py ax ay bx by' : Int} (h1 : px < ax) (h2 : px < bx) : sideB px py ax ay bx by' = (decide (py < ay) != decide (py < by')) := by
  rcases Int.lt_or_le by' ay with h | h
  · rw [side_down h]
    by_cases h3 : by' ≤ py
    · by_cases h4 : py < ay
      · have hc := cross_left h2 h1 h3 h4
        have h5 : ¬ py < by' := by omega
        simp [h3, h4, h5, hc]
      · have h5 : ¬ py < by' := by omega
        simp [h4, h5]
    · have h5 : py < by' := by omega
      have h6 : py < ay := by omega
      simp [h3, h5, h6]
  · rw [side_up h]
    by_cases h3 : ay ≤ py
    · by_cases h4 : py < by'
      · have hc := cross_left h1 h2 h3 h4
        have h5 : ¬ py < ay := by omega
        simp [h3, h4, h5, hc]
      · have h5 : ¬ py < ay := by omega
        simp [h4, h5]
    · have h5 : py < ay := by omega
      have h6 : py < by' := by omega
      simp [h3, h5, h6]
theorem side_right {px py ax ay bx by' : Int} (h1 : ax < px) (h2 : bx < px) : sideB px py ax ay bx by' = false := by
  rcases Int.lt_or_le by' ay with h | h
  · rw [side_down h]
    by_cases h3 : by' ≤ py
    · by_cases h4 : py < ay
      · have hc := cross_right h2 h1 h3 h4
        have h5 : ¬ 0 < crossI bx by' ax ay px py := by omega
        simp [h5]
      · simp [h4]
    · simp [h3]
  · rw [side_up h]
    by_cases h3 : ay ≤ py
    · by_cases h4 : py < by'
      · have hc := cross_right h1 h2 h3 h4
        have h5 : ¬ 0 < crossI ax ay bx by' px py := by omega
        simp [h5]
      · simp [h4]
    · simp [h3]
theorem side_apart {px py ax ay bx by' : Int} (h : decide (py < ay) = decide (py < by')) : sideB px py ax ay bx by' = false := by
  unfold sideB
  simp [h]
theorem inside_box {px py : Int} {n : Nat} {X Y : Nat → Int} (h : insideB px py n X Y = true) : mnTo X n ≤ px ∧ px ≤ mxTo X n ∧ mnTo Y n ≤ py ∧ py ≤ mxTo Y n := by
  unfold insideB at h
  simp only [Bool.and_eq_true, decide_eq_true_eq] at h
  obtain ⟨_, h3, _, _, ho⟩ := h
  have hn : 0 < n := by omega
  have hm : ∀ i, i < n → (i + 1) % n < n := fun i _ => Nat.mod_lt _ hn
  have no : ∀ f : Nat → Bool, (∀ i, i < n → sideAt px py n X Y i = f i) → oddTo f n = false → False := fun f hf h0 => by
    rw [oddTo_congr n hf, h0] at ho
    cases ho
  refine ⟨?_, ?_, ?_, ?_⟩
  · refine Int.not_lt.1 fun hc => no (fun i => decide (py < Y i) != decide (py < Y ((i + 1) % n))) (fun i hi => ?_) (oddTo_round (fun i => decide (py < Y i)) n hn)
    have a1 := mnTo_le X n i hi
    have a2 := mnTo_le X n _ (hm i hi)
    exact side_left (by omega) (by omega)
  · refine Int.not_lt.1 fun hc => no (fun _ => false) (fun i hi => ?_) (oddTo_none n fun _ _ => rfl)
    have a1 := le_mxTo X n i hi
    have a2 := le_mxTo X n _ (hm i hi)
    exact side_right (by omega) (by omega)
  · refine Int.not_lt.1 fun hc => no (fun _ => false) (fun i hi => ?_) (oddTo_none n fun _ _ => rfl)
    have a1 := mnTo_le Y n i hi
    have a2 := mnTo_le Y n _ (hm i hi)
    exact side_apart (by rw [decide_eq_true (show py < Y i by omega), decide_eq_true (show py < Y ((i + 1) % n) by omega)])
  · refine Int.not_lt.1 fun hc => no (fun _ => false) (fun i hi => ?_) (oddTo_none n fun _ _ => rfl)
    have a1 := le_mxTo Y n i hi
    have a2 := le_mxTo Y n _ (hm i hi)
    exact side_apart (by rw [decide_eq_false (show ¬ py < Y i by omega), decide_eq_false (show ¬ py < Y ((i + 1) % n) by omega)])
end Go.Proofs.YtnlmndlchobfeaaGreat
/- What is covered lies in the reach: plain facts. -/

namespace Go.Proofs.YtnlmndlchobfeaaGreat
open Go.RowKit
set_option linter.unusedVariables false

theorem le_of_sq {a b : Int} (hb : 0 ≤ b) (h : a * a ≤ b * b) : -b ≤ a ∧ a ≤ b := by
  have key : ∀ c : Int, b < c → ¬ c * c ≤ b * b := fun c hc hle => by
    have h1 : (b + 1) * (b + 1) ≤ c * c := Int.mul_le_mul (by omega) (by omega) (by omega) (by omega)
    have h2 : (b + 1) * (b + 1) = b * b + 2 * b + 1 := by grind
    omega
  refine ⟨?_, ?_⟩
  · rcases Int.lt_or_le a (-b) with h1 | h1
    · exact absurd (show (-a) * (-a) ≤ b * b by rw [Int.neg_mul_neg]; exact h) (key (-a) (by omega))
    · exact h1
  · rcases Int.lt_or_le b a with h1 | h1
    · exact absurd h (key a h1)
    · exact h1
theorem sq_part {x y k : Int} (h : x * x + y * y ≤ k) : x * x ≤ k ∧ y * y ≤ k := by
  have h1 := sq_nonneg x
  have h2 := sq_nonneg y
  omega
/-- A foot between the ends, told by its share t of D: the number lies within r of the ends. -/
theorem foot_in {d u v c t D r : Int} (hD : 0 < D) (ht0 : 0 ≤ t) (htD : t ≤ D) (he : d * D = t * u - c * v) (hv : v * v ≤ D) (hc : c * c ≤ r * r * D) (hr : 0 ≤ r) : mnI 0 u - r ≤ d ∧ d ≤ mxI 0 u + r := by
  have hcv : (c * v) * (c * v) ≤ (r * D) * (r * D) := by
    have e1 : (c * v) * (c * v) = (c * c) * (v * v) := by grind
    have e2 : (r * D) * (r * D) = (r * r * D) * D := by grind
    rw [e1, e2]
    exact Int.mul_le_mul hc hv (sq_nonneg v) (Int.mul_nonneg (sq_nonneg r) (by omega))
  obtain ⟨c1, c2⟩ := le_of_sq (Int.mul_nonneg hr (by omega)) hcv
  have tlo : mnI 0 u * D ≤ t * u := by
    unfold mnI
    split
    · rw [Int.zero_mul]; exact Int.mul_nonneg ht0 (by omega)
    · rename_i h
      have : t * (-u) ≤ D * (-u) := Int.mul_le_mul_of_nonneg_right htD (by omega)
      rw [Int.mul_neg, Int.mul_neg] at this
      rw [Int.mul_comm u D]
      omega
  have thi : t * u ≤ mxI 0 u * D := by
    unfold mxI
    split
    · rename_i h
      have : t * (-u) ≥ 0 := Int.mul_nonneg ht0 (by omega)
      rw [Int.mul_neg] at this
      rw [Int.zero_mul]
      omega
    · rename_i h
      have : t * u ≤ D * u := Int.mul_le_mul_of_nonneg_right htD (by omega)
      rw [Int.mul_comm u D]
      exact this
  refine ⟨?_, ?_⟩
  · apply Int.le_of_mul_le_mul_right _ hD
    rw [Int.sub_mul, he]
    omega
  · apply Int.le_of_mul_le_mul_right _ hD
    rw [Int.add_mul, he]
    omega
theorem mn_shift (a b : Int) : mnI a b = a + mnI 0 (b - a) := by unfold mnI; split <;> split <;> omega
theorem mx_shift (a b : Int) : mxI a b = a + mxI 0 (b - a) := by unfold mxI; split <;> split <;> omega
theorem near_box {px py ax ay bx by' r : Int} (hr : 0 ≤ r) (h : nearB px py ax ay bx by' r = true) : (mnI ax bx - r ≤ px ∧ px ≤ mxI ax bx + r) ∧ (mnI ay by' - r ≤ py ∧ py ≤ mxI ay by' + r) := by
  have hd := of_decide_eq_true h
  unfold overI underI at hd
  have en : ∀ u v : Int, mnI u v ≤ u ∧ mnI u v ≤ v ∧ u ≤ mxI u v ∧ v ≤ mxI u v := fun u v => by unfold mnI mxI; split <;> split <;> omega
  have x1 := en ax bx
  have y1 := en ay by'
  by_cases c1 : alongI px py ax ay bx by' ≤ 0
  · simp only [c1, if_true] at hd
    obtain ⟨s1, s2⟩ := sq_part (show (ax - px) * (ax - px) + (ay - py) * (ay - py) ≤ r * r by unfold distI at hd; omega)
    have p1 := le_of_sq hr s1
    have p2 := le_of_sq hr s2
    omega
  · by_cases c2 : distI ax ay bx by' ≤ alongI px py ax ay bx by'
    · simp only [c1, c2, if_true, if_false] at hd
      obtain ⟨s1, s2⟩ := sq_part (show (bx - px) * (bx - px) + (by' - py) * (by' - py) ≤ r * r by unfold distI at hd; omega)
      have p1 := le_of_sq hr s1
      have p2 := le_of_sq hr s2
      omega
    · simp only [c1, c2, if_false] at hd
      have hD : 0 < distI ax ay bx by' := by omega
      have hx : (px - ax) * distI ax ay bx by' = alongI px py ax ay bx by' * (bx - ax) - crossI ax ay bx by' px py * (by' - ay) := by unfold distI alongI crossI; grind
      have hy : (py - ay) * distI ax ay bx by' = alongI px py ax ay bx by' * (by' - ay) - (-crossI ax ay bx by' px py) * (bx - ax) := by unfold distI alongI crossI; grind
      obtain ⟨u1, u2⟩ := sq_part (show (bx - ax) * (bx - ax) + (by' - ay) * (by' - ay) ≤ distI ax ay bx by' from Int.le_refl _)
      have f1 := foot_in hD (by omega) (by omega) hx u2 hd hr
      have f2 := foot_in hD (by omega) (by omega) hy u1 (by rw [Int.neg_mul_neg]; exact hd) hr
      rw [mn_shift ax bx, mx_shift ax bx, mn_shift ay by', mx_shift ay by']
      omega
theorem isNear_box {px py ax ay bx by' r : Int} (h : isNearB px py ax ay bx by' r = true) : (mnI ax bx - r ≤ px ∧ px ≤ mxI ax bx + r) ∧ (mnI ay by' - r ≤ py ∧ py ≤ mxI ay by' + r) := by
  simp only [isNearB, Bool.and_eq_true] at h
  obtain ⟨_, _, _, h4, h5⟩ := h
  simp [inB] at h4
  exact near_box h4.1 h5
theorem byB_ex {cx cy r : Int} {X Y : Nat → Int} : ∀ n, byB cx cy r X Y n = true → ∃ i, i < n ∧ isNearB cx cy (X (i - 1)) (Y (i - 1)) (X i) (Y i) r = true
  | 0, h => by cases h
  | k + 1, h => by
    rw [byB, Bool.or_eq_true] at h
    rcases h with h | h
    · obtain ⟨i, hi, hn⟩ := byB_ex k h
      exact ⟨i, by omega, hn⟩
    · exact ⟨k, by omega, h⟩
/-- What is covered lies in the box that is wider by the reach. -/
theorem cover_box {ki wi z cx cy : Int} {D : List (Int × Int)} (hr : 0 ≤ reachI wi z) (h : coverB ki wi z cx cy D = true) :
    mnTo (px D) D.length - reachI wi z ≤ cx ∧ cx ≤ mxTo (px D) D.length + reachI wi z ∧ mnTo (py D) D.length - reachI wi z ≤ cy ∧ cy ≤ mxTo (py D) D.length + reachI wi z := by
  unfold coverB at h
  split at h
  · have := inside_box h
    omega
  · obtain ⟨i, hi, hn⟩ := byB_ex _ h
    obtain ⟨⟨b1, b2⟩, b3, b4⟩ := isNear_box hn
    have m1 := mnTo_le (px D) D.length i hi
    have m2 := mnTo_le (px D) D.length (i - 1) (by omega)
    have m3 := mnTo_le (py D) D.length i hi
    have m4 := mnTo_le (py D) D.length (i - 1) (by omega)
    have m5 := le_mxTo (px D) D.length i hi
    have m6 := le_mxTo (px D) D.length (i - 1) (by omega)
    have m7 := le_mxTo (py D) D.length i hi
    have m8 := le_mxTo (py D) D.length (i - 1) (by omega)
    unfold mnI at b1 b3
    unfold mxI at b2 b4
    split at b1 <;> split at b2 <;> split at b3 <;> split at b4 <;> omega
end Go.Proofs.YtnlmndlchobfeaaGreat
/- Whether two boxes meet: the model and the program answer the same. -/

namespace Go.Proofs.YtnlmndlchobfeaaGreat
open Go.RowKit
set_option linter.unusedSimpArgs false
set_option linter.unusedVariables false

/-- Whether two boxes meet. -/
def meetB (a0 a1 a2 a3 b0 b1 b2 b3 : Int) : Bool := ((decide (a0 ≤ b2) && decide (b0 ≤ a2)) && decide (a1 ≤ b3)) && decide (b1 ≤ a3)

theorem implDoMeet_any (a0 a1 a2 a3 b0 b1 b2 b3 : Int) (w : World) : Calls Tryz.prog 14 #[.agg #[.int .i64 a0, .int .i64 a1, .int .i64 a2, .int .i64 a3], .agg #[.int .i64 b0, .int .i64 b1, .int .i64 b2, .int .i64 b3]] w fun e w' => e = .returned (.bool (meetB a0 a1 a2 a3 b0 b1 b2 b3)) ∧ Below w.heap.size w w' := by
  have hm : meetB a0 a1 a2 a3 b0 b1 b2 b3 = (upB a0 a1 b2 b3 && upB b0 b1 a2 a3) := by
    unfold meetB upB
    cases decide (a0 ≤ b2) <;> cases decide (b0 ≤ a2) <;> cases decide (a1 ≤ b3) <;> cases decide (b1 ≤ a3) <;> rfl
  have HM := (show Hid _ from hm)
  clear hm
  cases h1 : upB a0 a1 b2 b3
  · go_enter Tryz.func14, Tryz.ntmps14
    go_wp2_with (go_at_call 39; refine (isUpTo_any _ _ _ _ _).mono ?_; rintro e w' ⟨rfl, hb1⟩)
    go_ret
    exact ⟨ret_bool (by rw [HM.out, h1]; rfl), by (repeat (first | exact Below.refl _ _ | assumption | refine Below.drew ?_ | refine bl_alloc ?_ _ | refine bl_then ?_ (by assumption) | refine Below.setCell ?_ (by first | omega | (simp; done) | (simp; omega)) _ | refine bl_store ?_ ?_ _ _))⟩
  · go_enter Tryz.func14, Tryz.ntmps14
    go_wp2_with fail
    refine (isUpTo_any _ _ _ _ _).mono ?_
    rintro e w1 ⟨rfl, hb1⟩
    obtain ⟨hc, hf⟩ := bcell hb1
    have hz : w.heap.size + 1 < w1.heap.size := by have := hb1.size; simp at this; omega
    have hz0 : w.heap.size < w1.heap.size := by omega
    go_wp2_with fail
    refine (isUpTo_any _ _ _ _ _).mono ?_
    rintro e w2 ⟨rfl, hb2⟩
    go_wp2
    go_ret
    exact ⟨ret_bool (by rw [HM.out, h1]; rfl), by (repeat (first | exact Below.refl _ _ | assumption | refine Below.drew ?_ | refine bl_alloc ?_ _ | refine bl_then ?_ (by assumption) | refine Below.setCell ?_ (by first | omega | (simp; done) | (simp; omega)) _ | refine bl_store ?_ ?_ _ _))⟩

end Go.Proofs.YtnlmndlchobfeaaGreat
/- lwBig tells whether a code is too long. -/

namespace Go.Proofs.YtnlmndlchobfeaaGreat
open Go.RowKit
set_option linter.unusedSimpArgs false
set_option linter.unusedVariables false

theorem lwBig_any (a : Option Addr) (n cap : Nat) (w : World) : Calls Tryz.prog 4 #[.slice a n cap] w fun e w' => e = .returned (.bool (decide (1048576 < (n : Int)))) ∧ w' = w := by
  go_enter Tryz.func4, Tryz.ntmps4
  go_wp2
  go_ret
  exact ⟨rfl, rfl⟩
end Go.Proofs.YtnlmndlchobfeaaGreat
