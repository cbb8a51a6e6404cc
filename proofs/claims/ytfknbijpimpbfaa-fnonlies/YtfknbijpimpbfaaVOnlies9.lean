/- Several texts in one. -/
import Derived.Test.YtfknbijpimpbfaaRows
import Derived.WalkKit
import Derived.Below

/- Two refs compared as structs. -/

namespace Go.Proofs.Ytfknbijpimpbfaa
open Go.RowKit
set_option linter.unusedSimpArgs false
set_option linter.unusedVariables false
set_option maxRecDepth 100000

theorem equalIn_ref (n : Nat) (a b c a' b' c' : Int) (w : World) : (Op.equalIn (n + 2) 35 (.agg #[.int .i64 a, .int .i64 b, .int .i64 c]) (.agg #[.int .i64 a', .int .i64 b', .int .i64 c'])).run Try.prog w = .ok ((a == a') && ((b == b') && (c == c'))) w := by
  have hp0 : ∀ (x y z : Int) (w : World), (part 2 #[.int .i64 x, .int .i64 y, .int .i64 z] 0).run Try.prog w = .ok (.int .i64 x) w := fun _ _ _ _ => by kernel_rfl
  have hp1 : ∀ (x y z : Int) (w : World), (part 2 #[.int .i64 x, .int .i64 y, .int .i64 z] 1).run Try.prog w = .ok (.int .i64 y) w := fun _ _ _ _ => by kernel_rfl
  have hp2 : ∀ (x y z : Int) (w : World), (part 2 #[.int .i64 x, .int .i64 y, .int .i64 z] 2).run Try.prog w = .ok (.int .i64 z) w := fun _ _ _ _ => by kernel_rfl
  have hi := fun (a b : Int) (w : World) => run_equalIn_int (P := Try.prog) w n 2 .i64 .i64 a b Try.underlying2
  rw [run_equalIn_struct w (n + 1) 35 _ _ (by kernel_rfl) (by kernel_rfl)]
  simp [Op.eqFields, Program.fieldsOf, Try.underlying35, hp0, hp1, hp2, hi]
  by_cases h1 : a = a' <;> by_cases h2 : b = b' <;> by_cases h3 : c = c' <;> simp [h1, h2, h3]
theorem eql_ref (a b c a' b' c' : Int) (w : World) : (binOp .eql 35 (.agg #[.int .i64 a, .int .i64 b, .int .i64 c]) (.agg #[.int .i64 a', .int .i64 b', .int .i64 c'])).run Try.prog w = .ok (.bool ((a == a') && ((b == b') && (c == c')))) w := by
  rw [run_eql_struct, equalIn_ref 9998]
  rfl
theorem same_ref (a b c a' b' c' : Int) : ((a == a') && ((b == b') && (c == c'))) = ((a' == a) && ((b' == b) && (c' == c))) := by
  rw [Bool.eq_iff_iff]
  simp
  constructor <;> (rintro ⟨h1, h2, h3⟩; exact ⟨h1.symm, h2.symm, h3.symm⟩)
end Go.Proofs.Ytfknbijpimpbfaa
/- The first place where something is so. -/

namespace Go.Proofs.Ytfknbijpimpbfaa
/-- The first place below n where it is so; -1 where it is nowhere. -/
def firstI (G : Nat → Bool) : Nat → Int
  | 0 => -1
  | n + 1 => if 0 ≤ firstI G n then firstI G n else if G n = true then (n : Int) else -1
theorem firstI_no {G : Nat → Bool} : ∀ {n : Nat}, (∀ i, i < n → G i = false) → firstI G n = -1
  | 0, _ => rfl
  | n + 1, h => by rw [firstI, firstI_no (fun i hi => h i (by omega)), h n (by omega)]; rfl
theorem firstI_yes {G : Nat → Bool} : ∀ {n i : Nat}, i < n → G i = true → (∀ j, j < i → G j = false) → firstI G n = (i : Int)
  | n + 1, i, hi, h, hn => by
    rw [firstI]
    by_cases e : i = n
    · subst e; rw [firstI_no hn, h]; rfl
    · rw [firstI_yes (n := n) (by omega) h hn, if_pos (by omega)]
theorem firstI_or (G : Nat → Bool) (n : Nat) : (firstI G n = -1 ∧ ∀ i, i < n → G i = false) ∨ ∃ i, i < n ∧ G i = true ∧ firstI G n = (i : Int) ∧ ∀ j, j < i → G j = false := by
  induction n with
  | zero => exact .inl ⟨rfl, fun i hi => absurd hi (Nat.not_lt_zero _)⟩
  | succ n ih =>
    rcases ih with ⟨h1, h2⟩ | ⟨i, hi, hg, hf, hn⟩
    · cases hG : G n
      · refine .inl ⟨by rw [firstI, h1, hG]; rfl, fun i hi => ?_⟩
        by_cases e : i = n
        · rw [e]; exact hG
        · exact h2 i (by omega)
      · exact .inr ⟨n, by omega, hG, by rw [firstI, h1, hG]; rfl, h2⟩
    · exact .inr ⟨i, by omega, hg, by rw [firstI, hf, if_pos (by omega)], hn⟩
end Go.Proofs.Ytfknbijpimpbfaa
/- The first of a list of codes that is not 0. -/

namespace Go.Proofs.Ytfknbijpimpbfaa
/-- The first that is not 0. -/
def scanC (c : Nat → Int) : Nat → Nat → Int
  | _, 0 => 0
  | i, k + 1 => if c i ≠ 0 then c i else scanC c (i + 1) k
theorem scan_first (c : Nat → Int) : ∀ (m i k : Nat), (∀ j, i ≤ j → j < k → c j = 0) → i ≤ k → k < i + m → c k ≠ 0 → scanC c i m = c k
  | 0, i, k, _, h1, h2, _ => by omega
  | m + 1, i, k, h, h1, h2, hne => by
    rw [scanC]
    by_cases e : i = k
    · subst e; rw [if_pos hne]
    · rw [if_neg (by rw [h i (Nat.le_refl _) (by omega)]; simp)]
      exact scan_first c m (i + 1) k (fun j hj => h j (by omega)) (by omega) (by omega) hne
theorem scan_none (c : Nat → Int) : ∀ (m i : Nat), (∀ j, i ≤ j → j < i + m → c j = 0) → scanC c i m = 0
  | 0, _, _ => rfl
  | m + 1, i, h => by
    rw [scanC, if_neg (by rw [h i (Nat.le_refl _) (by omega)]; simp)]
    exact scan_none c m (i + 1) (fun j hj hj' => h j (by omega) (by omega))
theorem scan_congr (c d : Nat → Int) : ∀ (m i : Nat), (∀ j, i ≤ j → j < i + m → c j = d j) → scanC c i m = scanC d i m
  | 0, _, _ => rfl
  | m + 1, i, h => by
    rw [scanC, scanC, h i (Nat.le_refl _) (by omega), scan_congr c d m (i + 1) (fun j hj hj' => h j (by omega) (by omega))]
theorem scan_zero (c : Nat → Int) : ∀ (m i : Nat), scanC c i m = 0 → ∀ j, i ≤ j → j < i + m → c j = 0
  | 0, i, _, j, h1, h2 => by omega
  | m + 1, i, h, j, h1, h2 => by
    rw [scanC] at h
    by_cases hc : c i ≠ 0
    · rw [if_pos hc] at h; exact absurd h hc
    · rw [if_neg hc] at h
      by_cases e : j = i
      · subst e; simpa using hc
      · exact scan_zero c m (i + 1) h j (by omega) (by omega)
end Go.Proofs.Ytfknbijpimpbfaa
