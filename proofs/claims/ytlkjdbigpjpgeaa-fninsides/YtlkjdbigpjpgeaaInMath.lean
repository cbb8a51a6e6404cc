/- Rings: told the other way, told from the next point, and the box around: plain facts. -/
import Derived.Test.YtlkjdbigpjpgeaaInSpec
import Derived.Test.YtlkjdbigpjpgeaaBox1
namespace Go.Proofs.Ytlkjdbigpjpgeaa
open Go.RowKit

theorem sideB_swap (px py ax ay bx by' : Int) : sideB px py bx by' ax ay = sideB px py ax ay bx by' := by
  rcases Int.lt_trichotomy ay by' with h | h | h
  · rw [side_down h, side_up (Int.le_of_lt h)]
  · subst h
    unfold sideB
    simp
  · rw [side_up (Int.le_of_lt h), side_down h]

theorem oddTo_congr {f g : Nat → Bool} : ∀ n, (∀ i, i < n → f i = g i) → oddTo f n = oddTo g n
  | 0, _ => rfl
  | n + 1, h => by rw [oddTo, oddTo, h n (by omega), oddTo_congr n (fun i hi => h i (by omega))]
theorem oddTo_shift (f : Nat → Bool) : ∀ n, oddTo f (n + 1) = if f 0 = true then !(oddTo (fun i => f (i + 1)) n) else oddTo (fun i => f (i + 1)) n
  | 0 => rfl
  | n + 1 => by
    rw [oddTo, oddTo_shift f n, oddTo]
    cases f 0 <;> cases f (n + 1) <;> simp
theorem oddTo_rev (f : Nat → Bool) : ∀ n, oddTo (fun i => f (n - 1 - i)) n = oddTo f n
  | 0 => rfl
  | n + 1 => by
    rw [oddTo_shift, oddTo]
    have h : oddTo (fun i => f (n + 1 - 1 - (i + 1))) n = oddTo f n := by
      rw [← oddTo_rev f n]
      exact oddTo_congr n (fun i hi => by congr 1; omega)
    rw [h]
    simp

theorem odd_back (px py : Int) (n : Nat) (X Y : Nat → Int) (hn : 0 < n) :
    oddTo (sideAt px py n (fun i => X (n - 1 - i)) (fun i => Y (n - 1 - i))) n = oddTo (sideAt px py n X Y) n := by
  obtain ⟨m, rfl⟩ : ∃ m, n = m + 1 := ⟨n - 1, by omega⟩
  rw [oddTo, oddTo]
  have hl : sideAt px py (m + 1) (fun i => X (m + 1 - 1 - i)) (fun i => Y (m + 1 - 1 - i)) m = sideAt px py (m + 1) X Y m := by
    unfold sideAt
    rw [Nat.mod_self]
    simp only [Nat.add_sub_cancel, Nat.sub_self, Nat.sub_zero]
    exact sideB_swap _ _ _ _ _ _
  have hr : oddTo (sideAt px py (m + 1) (fun i => X (m + 1 - 1 - i)) (fun i => Y (m + 1 - 1 - i))) m = oddTo (sideAt px py (m + 1) X Y) m := by
    rw [← oddTo_rev (sideAt px py (m + 1) X Y) m]
    refine oddTo_congr m (fun i hi => ?_)
    unfold sideAt
    have e1 : (i + 1) % (m + 1) = i + 1 := Nat.mod_eq_of_lt (by omega)
    have e2 : (m - 1 - i + 1) % (m + 1) = m - 1 - i + 1 := Nat.mod_eq_of_lt (by omega)
    have e3 : m - 1 - i + 1 = m + 1 - 1 - i := by omega
    have e4 : m + 1 - 1 - (i + 1) = m - 1 - i := by omega
    rw [e1, e2, e3]
    simp only [e4]
    exact sideB_swap _ _ _ _ _ _
  rw [hl, hr]

theorem allOk_iff {n : Nat} {X Y : Nat → Int} : allOk n X Y = true ↔ ∀ i, i < n → okP (X i) (Y i) = true := by unfold allOk; exact decide_eq_true_iff
theorem allOk_congr {n : Nat} {X Y X' Y' : Nat → Int} (h : (∀ i, i < n → okP (X i) (Y i) = true) ↔ ∀ i, i < n → okP (X' i) (Y' i) = true) : allOk n X Y = allOk n X' Y' := by
  unfold allOk
  exact decide_eq_decide.2 h
theorem allOk_back (n : Nat) (X Y : Nat → Int) : allOk n (fun i => X (n - 1 - i)) (fun i => Y (n - 1 - i)) = allOk n X Y := by
  refine allOk_congr ⟨fun h i hi => ?_, fun h i hi => h _ (by omega)⟩
  have := h (n - 1 - i) (by omega)
  simpa only [show n - 1 - (n - 1 - i) = i by omega] using this
theorem allOk_turn (n : Nat) (X Y : Nat → Int) : allOk n (fun i => X ((i + 1) % n)) (fun i => Y ((i + 1) % n)) = allOk n X Y := by
  refine allOk_congr ⟨fun h i hi => ?_, fun h i hi => h _ (Nat.mod_lt _ (by omega))⟩
  rcases Nat.eq_zero_or_pos i with rfl | hp
  · have := h (n - 1) (by omega)
    have e : (n - 1 + 1) % n = 0 := by rw [show n - 1 + 1 = n by omega]; exact Nat.mod_self n
    simpa only [e] using this
  · have := h (i - 1) (by omega)
    have e : (i - 1 + 1) % n = i := by rw [show i - 1 + 1 = i by omega]; exact Nat.mod_eq_of_lt hi
    simpa only [e] using this
theorem odd_turned (px py : Int) (n : Nat) (X Y : Nat → Int) (hn : 0 < n) :
    oddTo (sideAt px py n (fun i => X ((i + 1) % n)) (fun i => Y ((i + 1) % n))) n = oddTo (sideAt px py n X Y) n := by
  refine (oddTo_turn _ _ n ?_ (fun i hi => ?_) hn).symm
  · unfold sideAt
    have e : (n - 1 + 1) % n = 0 := by rw [show n - 1 + 1 = n by omega]; exact Nat.mod_self n
    simp only [e]
  · unfold sideAt
    have e : (i + 1) % n = i + 1 := Nat.mod_eq_of_lt hi
    simp only [e]
theorem inside_back (px py : Int) (n : Nat) (X Y : Nat → Int) (hn : 0 < n) : insideB px py n (fun i => X (n - 1 - i)) (fun i => Y (n - 1 - i)) = insideB px py n X Y := by
  unfold insideB
  rw [allOk_back, odd_back px py n X Y hn]
theorem inside_turned (px py : Int) (n : Nat) (X Y : Nat → Int) (hn : 0 < n) : insideB px py n (fun i => X ((i + 1) % n)) (fun i => Y ((i + 1) % n)) = insideB px py n X Y := by
  unfold insideB
  rw [allOk_turn, odd_turned px py n X Y hn]

theorem oddTo_none {f : Nat → Bool} : ∀ n, (∀ i, i < n → f i = false) → oddTo f n = false
  | 0, _ => rfl
  | n + 1, h => by rw [oddTo, h n (by omega), oddTo_none n (fun i hi => h i (by omega))]; rfl
/-- All around a ring a mark changes an even number of times. -/
theorem oddTo_round (u : Nat → Bool) (n : Nat) (hn : 0 < n) : oddTo (fun i => u i != u ((i + 1) % n)) n = false := by
  obtain ⟨m, rfl⟩ : ∃ m, n = m + 1 := ⟨n - 1, by omega⟩
  have key : ∀ k, k ≤ m → oddTo (fun i => u i != u ((i + 1) % (m + 1))) k = (u 0 != u k) := by
    intro k
    induction k with
    | zero => intro _; simp [oddTo]
    | succ k ih =>
      intro hk
      rw [oddTo, ih (by omega), Nat.mod_eq_of_lt (show k + 1 < m + 1 by omega)]
      cases u 0 <;> cases u k <;> cases u (k + 1) <;> rfl
  rw [oddTo, key m (Nat.le_refl _), Nat.mod_self]
  cases u 0 <;> cases u m <;> rfl

theorem cross_as (ax ay bx by' px py : Int) : crossI ax ay bx by' px py = (py - ay) * (bx - px) + (by' - py) * (ax - px) := by
  unfold crossI
  simp only [Int.mul_sub, Int.sub_mul]
  have e1 := Int.mul_comm ax ay
  have e2 := Int.mul_comm bx by'
  have e3 := Int.mul_comm ax by'
  have e4 := Int.mul_comm bx ay
  have e5 := Int.mul_comm ay px
  have e6 := Int.mul_comm by' px
  have e7 := Int.mul_comm py ax
  have e8 := Int.mul_comm py bx
  have e9 := Int.mul_comm py px
  have e10 := Int.mul_comm py ay
  have e11 := Int.mul_comm py by'
  omega
end Go.Proofs.Ytlkjdbigpjpgeaa
