/- The first place where something is so. -/
import Derived.WalkKit
namespace Go.Proofs.Ytfcbbfhfjojoeaa
/-- The first place below n where it is so; -1 where it is nowhere. -/
def firstI (G : Nat → Bool) : Nat → Int
  | 0 => -1
  | n + 1 => if 0 ≤ firstI G n then firstI G n else if G n = true then (n : Int) else -1
theorem firstI_no {G : Nat → Bool} : ∀ {n : Nat}, (∀ i, i < n → G i = false) → firstI G n = -1
  | 0, _ => rfl
  | n + 1, h => by rw [firstI, firstI_no (fun i hi => h i (by omega)), h n (by omega)]; rfl
theorem firstI_yes {G : Nat → Bool} : ∀ {n i : Nat}, i < n → G i = true → (∀ j, j < i → G j = false) → firstI G n = (i : Int)
  | n + 1, i, hi, h, hn => by
    rw [firstI]
    by_cases e : i = n
    · subst e; rw [firstI_no hn, h]; rfl
    · rw [firstI_yes (n := n) (by omega) h hn, if_pos (by omega)]
theorem firstI_or (G : Nat → Bool) (n : Nat) : (firstI G n = -1 ∧ ∀ i, i < n → G i = false) ∨ ∃ i, i < n ∧ G i = true ∧ firstI G n = (i : Int) ∧ ∀ j, j < i → G j = false := by
  induction n with
  | zero => exact .inl ⟨rfl, fun i hi => absurd hi (Nat.not_lt_zero _)⟩
  | succ n ih =>
    rcases ih with ⟨h1, h2⟩ | ⟨i, hi, hg, hf, hn⟩
    · cases hG : G n
      · refine .inl ⟨by rw [firstI, h1, hG]; rfl, fun i hi => ?_⟩
        by_cases e : i = n
        · rw [e]; exact hG
        · exact h2 i (by omega)
      · exact .inr ⟨n, by omega, hG, by rw [firstI, h1, hG]; rfl, h2⟩
    · exact .inr ⟨i, by omega, hg, by rw [firstI, hf, if_pos (by omega)], hn⟩
end Go.Proofs.Ytfcbbfhfjojoeaa
