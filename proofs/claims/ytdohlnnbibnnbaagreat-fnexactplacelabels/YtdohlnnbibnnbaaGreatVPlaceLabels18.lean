/- Several texts in one. -/
import Derived.Test.YtdohlnnbibnnbaaGreatVPlaceLabels16
import Derived.Test.YtdohlnnbibnnbaaGreatVPlaceLabels17

/- A segment is near its ends, the same both ways, and what is near is so of what is farther: plain facts. -/

namespace Go.Proofs.YtdohlnnbibnnbaaGreat
open Go.RowKit

theorem dist_nonneg (ax ay bx by' : Int) : 0 ≤ distI ax ay bx by' := by
  have s1 := sq_nonneg (bx - ax)
  have s2 := sq_nonneg (by' - ay)
  unfold distI; omega
theorem dist_eq_zero {ax ay bx by' : Int} (h : distI ax ay bx by' = 0) : ax = bx ∧ ay = by' := by
  have s1 := sq_nonneg (bx - ax)
  have s2 := sq_nonneg (by' - ay)
  unfold distI at h
  have h1 : (bx - ax) * (bx - ax) = 0 := by omega
  have h2 : (by' - ay) * (by' - ay) = 0 := by omega
  have := Int.mul_eq_zero.1 h1
  have := Int.mul_eq_zero.1 h2
  omega
end Go.Proofs.YtdohlnnbibnnbaaGreat
/- Which points of a line stay: the farthest one, and what is told by it. No program in sight. -/

namespace Go.Proofs.YtdohlnnbibnnbaaGreat
open Go.RowKit
set_option linter.unusedVariables false

/-- a / b is above c / d. -/
def aboveB (a b c d : Int) : Bool := decide (c * b < a * d)
theorem frac_le_lt {a b c d e f : Int} (hb : 0 < b) (hd : 0 < d) (hf : 0 < f) (h1 : a * d ≤ c * b) (h2 : c * f < e * d) : a * f < e * b := by
  have h3 : a * d * f ≤ c * b * f := Int.mul_le_mul_of_nonneg_right h1 (by omega)
  have h4 : c * f * b < e * d * b := Int.mul_lt_mul_of_pos_right h2 hb
  have h5 : a * f * d < e * b * d := by
    have e1 : a * f * d = a * d * f := by grind
    have e2 : c * b * f = c * f * b := by grind
    have e3 : e * b * d = e * d * b := by grind
    omega
  exact Int.lt_of_mul_lt_mul_right h5 (by omega)
theorem frac_lt_le {a b c d e f : Int} (hb : 0 < b) (hd : 0 < d) (hf : 0 < f) (h1 : a * d < c * b) (h2 : c * f ≤ e * d) : a * f < e * b := by
  have h3 : a * d * f < c * b * f := Int.mul_lt_mul_of_pos_right h1 hf
  have h4 : c * f * b ≤ e * d * b := Int.mul_le_mul_of_nonneg_right h2 (by omega)
  have h5 : a * f * d < e * b * d := by
    have e1 : a * f * d = a * d * f := by grind
    have e2 : c * b * f = c * f * b := by grind
    have e3 : e * b * d = e * d * b := by grind
    omega
  exact Int.lt_of_mul_lt_mul_right h5 (by omega)
theorem frac_le_le {a b c d e f : Int} (hb : 0 < b) (hd : 0 < d) (hf : 0 < f) (h1 : a * d ≤ c * b) (h2 : c * f ≤ e * d) : a * f ≤ e * b := by
  have h3 : a * d * f ≤ c * b * f := Int.mul_le_mul_of_nonneg_right h1 (by omega)
  have h4 : c * f * b ≤ e * d * b := Int.mul_le_mul_of_nonneg_right h2 (by omega)
  have h5 : a * f * d ≤ e * b * d := by
    have e1 : a * f * d = a * d * f := by grind
    have e2 : c * b * f = c * f * b := by grind
    have e3 : e * b * d = e * d * b := by grind
    omega
  exact Int.le_of_mul_le_mul_right h5 hd

section
variable (X Y : Nat → Int)
/-- The square of the distance of point i and the segment of points f and t: over, under. -/
def gO (f t i : Nat) : Int := overI (X i) (Y i) (X f) (Y f) (X t) (Y t)
def gU (f t i : Nat) : Int := underI (X i) (Y i) (X f) (Y f) (X t) (Y t)
theorem gU_pos (f t i : Nat) : 0 < gU X Y f t i := by
  unfold gU underI
  split
  · omega
  · split
    · omega
    · rename_i h1 h2; omega
theorem gO_first (f t : Nat) : gO X Y f t f = 0 ∧ gU X Y f t f = 1 := by
  have h : alongI (X f) (Y f) (X f) (Y f) (X t) (Y t) = 0 := by simp [alongI]
  have hd : distI (X f) (Y f) (X f) (Y f) = 0 := by simp [distI]
  unfold gO gU overI underI
  rw [h]
  simp [hd]
theorem gO_last (f t : Nat) : gO X Y f t t = 0 ∧ gU X Y f t t = 1 := by
  have h : alongI (X t) (Y t) (X f) (Y f) (X t) (Y t) = distI (X f) (Y f) (X t) (Y t) := by simp [alongI, distI]
  have hd : distI (X t) (Y t) (X t) (Y t) = 0 := by simp [distI]
  have hn := dist_nonneg (X f) (Y f) (X t) (Y t)
  unfold gO gU overI underI
  rw [h]
  by_cases h0 : distI (X f) (Y f) (X t) (Y t) ≤ 0
  · have e : distI (X f) (Y f) (X t) (Y t) = 0 := by omega
    obtain ⟨e1, e2⟩ := dist_eq_zero e
    rw [if_pos h0, if_pos h0, e1, e2]
    simp [hd]
  · rw [if_neg h0, if_neg h0, if_pos (Int.le_refl _), if_pos (Int.le_refl _)]
    exact ⟨hd, rfl⟩
theorem gO_nonneg (f t i : Nat) : 0 ≤ gO X Y f t i := by
  unfold gO overI
  split
  · exact dist_nonneg _ _ _ _
  · split
    · exact dist_nonneg _ _ _ _
    · exact sq_nonneg _
/-- Point i is above point j: farther. -/
def gA (f t i j : Nat) : Bool := aboveB (gO X Y f t i) (gU X Y f t i) (gO X Y f t j) (gU X Y f t j)
/-- Point i is the first one of those from lo on, less than hi, that are farthest. -/
structure Far (f t a b i : Nat) : Prop where
  lo : a ≤ i
  hi : i < b
  top : ∀ j, a ≤ j → j < b → gA X Y f t j i = false
  first : ∀ j, a ≤ j → j < i → gA X Y f t i j = true
theorem Far.one (f t i : Nat) : Far X Y f t i (i + 1) i := by
  refine ⟨Nat.le_refl _, by omega, fun j h1 h2 => ?_, fun j h1 h2 => by omega⟩
  have : j = i := by omega
  subst this
  simp [gA, aboveB]
theorem Far.step {f t lo hi i : Nat} (h : Far X Y f t lo hi i) : Far X Y f t lo (hi + 1) (if gA X Y f t hi i = true then hi else i) := by
  have p1 := gU_pos X Y f t hi
  have p2 := gU_pos X Y f t i
  by_cases hc : gA X Y f t hi i = true
  · rw [if_pos hc]
    have hc' : gO X Y f t i * gU X Y f t hi < gO X Y f t hi * gU X Y f t i := by simpa [gA, aboveB] using hc
    have hless : ∀ j, lo ≤ j → j < hi → gO X Y f t j * gU X Y f t hi < gO X Y f t hi * gU X Y f t j := fun j h1 h2 => by
      have h3 : gO X Y f t j * gU X Y f t i ≤ gO X Y f t i * gU X Y f t j := by
        have := h.top j h1 h2
        simp [gA, aboveB] at this
        exact this
      exact frac_le_lt (gU_pos X Y f t j) p2 p1 h3 hc'
    have hlo := h.lo
    have hhi := h.hi
    refine ⟨by omega, by omega, fun j h1 h2 => ?_, fun j h1 h2 => ?_⟩
    · by_cases e : j = hi
      · subst e; simp [gA, aboveB]
      · have := hless j h1 (by omega)
        simp [gA, aboveB]
        omega
    · have := hless j h1 h2
      simpa [gA, aboveB] using this
  · rw [if_neg hc]
    have hhi := h.hi
    refine ⟨h.lo, by omega, fun j h1 h2 => ?_, h.first⟩
    by_cases e : j = hi
    · subst e; simpa using hc
    · exact h.top j h1 (by omega)
theorem Far.uniq {f t lo hi i j : Nat} (h : Far X Y f t lo hi i) (k : Far X Y f t lo hi j) : i = j := by
  rcases Nat.lt_trichotomy i j with h1 | h1 | h1
  · have := k.first i h.lo h1
    rw [h.top j k.lo k.hi] at this
    cases this
  · exact h1
  · have := h.first j k.lo h1
    rw [k.top i h.lo h.hi] at this
    cases this
/-- Whether point i is near the segment of f and t. -/
def nearI (r : Int) (f t i : Nat) : Bool := nearB (X i) (Y i) (X f) (Y f) (X t) (Y t) r
theorem nearI_iff (r : Int) (f t i : Nat) : nearI X Y r f t i = true ↔ gO X Y f t i ≤ r * r * gU X Y f t i := by simp [nearI, nearB, gO, gU]
/-- Whether one of those between is not near. -/
def farB (r : Int) (f t : Nat) : Bool := decide (∃ i, i < t ∧ f < i ∧ nearI X Y r f t i = false)
theorem farB_iff (r : Int) (f t : Nat) : farB X Y r f t = true ↔ ∃ i, i < t ∧ f < i ∧ nearI X Y r f t i = false := by simp [farB]
/-- Farther than one that is not near is not near. -/
theorem not_near {r : Int} {f t i j : Nat} (hn : nearI X Y r f t i = false) (h : gA X Y f t i j = false) : nearI X Y r f t j = false := by
  have hn' : ¬ gO X Y f t i ≤ r * r * gU X Y f t i := fun hc => by rw [(nearI_iff X Y r f t i).2 hc] at hn; cases hn
  have h' : gO X Y f t i * gU X Y f t j ≤ gO X Y f t j * gU X Y f t i := by simp [gA, aboveB] at h; exact h
  have p1 := gU_pos X Y f t i
  have p2 := gU_pos X Y f t j
  cases hj : nearI X Y r f t j
  · rfl
  · have hj' := (nearI_iff X Y r f t j).1 hj
    have h3 : gO X Y f t j * 1 ≤ r * r * gU X Y f t j := by omega
    have := frac_le_le p1 p2 (by omega : (0 : Int) < 1) h' h3
    omega
/-- The farthest one of all is near just where none between is not. -/
theorem near_far {r : Int} {f t p : Nat} (h : Far X Y f t f (t + 1) p) : nearI X Y r f t p = !farB X Y r f t := by
  cases hn : nearI X Y r f t p
  · have hp : f < p ∧ p < t := by
      have h0 := sq_nonneg r
      have h1 := h.lo
      have h2 := h.hi
      refine ⟨?_, ?_⟩
      · rcases Nat.lt_or_ge f p with h3 | h3
        · exact h3
        · have e : p = f := by omega
          subst e
          have : nearI X Y r p t p = true := (nearI_iff X Y r p t p).2 (by rw [(gO_first X Y p t).1, (gO_first X Y p t).2]; omega)
          rw [this] at hn; cases hn
      · rcases Nat.lt_or_ge p t with h3 | h3
        · exact h3
        · have e : p = t := by omega
          subst e
          have : nearI X Y r f p p = true := (nearI_iff X Y r f p p).2 (by rw [(gO_last X Y f p).1, (gO_last X Y f p).2]; omega)
          rw [this] at hn; cases hn
    rw [(farB_iff X Y r f t).2 ⟨p, hp.2, hp.1, hn⟩]
    rfl
  · cases hf : farB X Y r f t
    · rfl
    · obtain ⟨i, h1, h2, h3⟩ := (farB_iff X Y r f t).1 hf
      rw [not_near X Y h3 (h.top i (by omega) (by omega))] at hn
      cases hn
/-- Where one between is not near, the farthest one of all lies between. -/
theorem far_mid {r : Int} {f t p : Nat} (h : Far X Y f t f (t + 1) p) (hf : farB X Y r f t = true) : Far X Y f t (f + 1) t p := by
  have hn : nearI X Y r f t p = false := by rw [near_far X Y h, hf]; rfl
  have h0 := sq_nonneg r
  have h1 := h.lo
  have h2 := h.hi
  have a1 : f < p := by
    rcases Nat.lt_or_ge f p with h3 | h3
    · exact h3
    · have e : p = f := by omega
      subst e
      have : nearI X Y r p t p = true := (nearI_iff X Y r p t p).2 (by rw [(gO_first X Y p t).1, (gO_first X Y p t).2]; omega)
      rw [this] at hn; cases hn
  have a2 : p < t := by
    rcases Nat.lt_or_ge p t with h3 | h3
    · exact h3
    · have e : p = t := by omega
      subst e
      have : nearI X Y r f p p = true := (nearI_iff X Y r f p p).2 (by rw [(gO_last X Y f p).1, (gO_last X Y f p).2]; omega)
      rw [this] at hn; cases hn
  exact ⟨by omega, a2, fun j k1 k2 => h.top j (by omega) (by omega), fun j k1 k2 => h.first j (by omega) k2⟩
/-- The places of a line that stay from f on up to t, but for t. -/
inductive Thin (r : Int) : Nat → Nat → List Nat → Prop
  | near (f t : Nat) : farB X Y r f t = false → Thin r f t [f]
  | split (f t m : Nat) (l1 l2 : List Nat) : farB X Y r f t = true → Far X Y f t (f + 1) t m → Thin r f m l1 → Thin r m t l2 → Thin r f t (l1 ++ l2)
theorem Thin.uniq {r : Int} {f t : Nat} {l : List Nat} (h : Thin X Y r f t l) : ∀ {l' : List Nat}, Thin X Y r f t l' → l = l' := by
  induction h with
  | near f t h0 =>
    intro l' h'
    cases h' with
    | near _ _ _ => rfl
    | split _ _ m l1 l2 h1 _ _ _ => rw [h0] at h1; cases h1
  | split f t m l1 l2 h1 hm t1 t2 i1 i2 =>
    intro l' h'
    cases h' with
    | near _ _ h0 => rw [h0] at h1; cases h1
    | split _ _ m' l1' l2' h1' hm' t1' t2' =>
      have e := hm.uniq X Y hm'
      subst e
      rw [i1 t1', i2 t2']
theorem far_exists (f t : Nat) : ∀ d lo, Far X Y f t lo (lo + 1) lo → ∃ i, Far X Y f t lo (lo + 1 + d) i
  | 0, lo, h => ⟨lo, h⟩
  | d + 1, lo, h => by
    obtain ⟨i, hi⟩ := far_exists f t d lo h
    exact ⟨_, hi.step X Y⟩
theorem Thin.exists (r : Int) : ∀ d f t, f < t → t - f ≤ d → ∃ l, Thin X Y r f t l
  | 0, f, t, h, hd => by omega
  | d + 1, f, t, h, hd => by
    cases hf : farB X Y r f t
    · exact ⟨[f], .near f t hf⟩
    · obtain ⟨i, k1, k2, _⟩ := (farB_iff X Y r f t).1 hf
      obtain ⟨m, hm⟩ := far_exists X Y f t (t - (f + 2)) (f + 1) (Far.one X Y f t (f + 1))
      have e : f + 1 + 1 + (t - (f + 2)) = t := by omega
      rw [e] at hm
      have h1 := hm.lo
      have h2 := hm.hi
      obtain ⟨l1, t1⟩ := Thin.exists r d f m (by omega) (by omega)
      obtain ⟨l2, t2⟩ := Thin.exists r d m t (by omega) (by omega)
      exact ⟨l1 ++ l2, .split f t m l1 l2 hf hm t1 t2⟩
theorem Thin.len {r : Int} {f t : Nat} {l : List Nat} (h : Thin X Y r f t l) : f < t → l.length + f ≤ t ∧ (∀ i ∈ l, f ≤ i ∧ i < t) ∧ l ≠ [] := by
  induction h with
  | near f t h0 => intro h; simp; omega
  | split f t m l1 l2 h1 hm t1 t2 i1 i2 =>
    intro h
    have a1 := hm.lo
    have a2 := hm.hi
    obtain ⟨b1, b2, b3⟩ := i1 (by omega)
    obtain ⟨c1, c2, c3⟩ := i2 (by omega)
    refine ⟨by simp; omega, fun i hi => ?_, by simp [b3]⟩
    rcases List.mem_append.1 hi with hi | hi
    · have := b2 i hi; omega
    · have := c2 i hi; omega
/-- What is still to come: from f on, the ends that are known one behind the other. -/
inductive Rest (r : Int) : Nat → List Nat → List Nat → Prop
  | done (f : Nat) : Rest r f [] [f]
  | seg (f t : Nat) (st l R : List Nat) : Thin X Y r f t l → Rest r t st R → Rest r f (t :: st) (l ++ R)
/-- The ends rise. -/
def Rise : Nat → List Nat → Nat → Prop
  | f, [], n => f < n
  | f, t :: st, n => f < t ∧ Rise t st n
theorem Rise.len : ∀ (st : List Nat) (f n : Nat), Rise f st n → st.length + f < n
  | [], f, n, h => by simpa [Rise] using h
  | t :: st, f, n, h => by
    have := Rise.len st t n h.2
    have := h.1
    simp
    omega
theorem Rise.lt : ∀ (st : List Nat) (f n : Nat), Rise f st n → f < n
  | [], f, n, h => by simpa [Rise] using h
  | t :: st, f, n, h => by
    have := Rise.lt st t n h.2
    have := h.1
    omega
end
end Go.Proofs.YtdohlnnbibnnbaaGreat
