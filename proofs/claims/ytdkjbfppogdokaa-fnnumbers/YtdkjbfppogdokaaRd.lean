/- What a number is that is read from bytes: no program in sight. -/
import Derived.Test.YtdkjbfppogdokaaPn
import Derived.Laws.Bits64b
namespace Go.Proofs.Ytdkjbfppogdokaa
open Go.RowKit
set_option linter.unusedVariables false

/-- A number read from place i on, a read so far. -/
def rdFrom (Z : Nat → Int) (n : Nat) : Nat → Nat → Nat → Option (Nat × Nat)
  | 0, _, _ => none
  | f + 1, i, a =>
    if i < n then
      if (Z i).toNat < 128 then
        if (0 < i ∧ (Z i).toNat = 0) ∨ 1099511627776 < a + (Z i).toNat % 128 * 128 ^ i then none else some (a + (Z i).toNat % 128 * 128 ^ i, i + 1)
      else rdFrom Z n f (i + 1) (a + (Z i).toNat % 128 * 128 ^ i)
    else none
/-- The number at the beginning of n bytes, and how many of them it has. -/
def rd (Z : Nat → Int) (n : Nat) : Option (Nat × Nat) := rdFrom Z n 6 0 0
theorem rdFrom_end (Z : Nat → Int) (n f i a : Nat) (h : ¬ i < n) : rdFrom Z n f i a = none := by
  cases f with
  | zero => rfl
  | succ f => unfold rdFrom; rw [if_neg h]
theorem rdFrom_more {Z : Nat → Int} {n f i a z p : Nat} (h : i < n) (hz : Z i = (z : Int)) (h8 : ¬ z < 128) (hp : z % 128 * 128 ^ i = p) : rdFrom Z n (f + 1) i a = rdFrom Z n f (i + 1) (a + p) := by
  subst hp
  rw [rdFrom, if_pos h, hz, Int.toNat_natCast, if_neg h8]
theorem rdFrom_last {Z : Nat → Int} {n f i a z p : Nat} (h : i < n) (hz : Z i = (z : Int)) (h8 : z < 128) (hp : z % 128 * 128 ^ i = p) : rdFrom Z n (f + 1) i a = if (0 < i ∧ z = 0) ∨ 1099511627776 < a + p then none else some (a + p, i + 1) := by
  subst hp
  rw [rdFrom, if_pos h, hz, Int.toNat_natCast, if_pos h8]
theorem rdFrom_bd {Z : Nat → Int} {n : Nat} : ∀ {f i a : Nat} {x : Nat × Nat}, rdFrom Z n f i a = some x → x.1 ≤ 1099511627776 ∧ i < x.2 ∧ x.2 ≤ n ∧ x.2 ≤ i + f
  | 0, i, a, x, h => by simp [rdFrom] at h
  | f + 1, i, a, x, h => by
    unfold rdFrom at h
    split at h
    · split at h
      · split at h
        · cases h
        · rename_i h1 h2 h3
          injection h with h
          subst h
          simp only [not_or, Nat.not_lt] at h3
          refine ⟨h3.2, ?_, ?_, ?_⟩ <;> simp only <;> omega
      · have := rdFrom_bd h
        omega
    · cases h
theorem rd_bd {Z : Nat → Int} {n : Nat} {x : Nat × Nat} (h : rd Z n = some x) : x.1 ≤ 1099511627776 ∧ 0 < x.2 ∧ x.2 ≤ n ∧ x.2 ≤ 6 := by
  have := rdFrom_bd h
  omega
/-- Of a power up to the fifth. -/
theorem pow_bd {k : Nat} (h : k ≤ 5) : 0 < 128 ^ k ∧ 128 ^ k ≤ 34359738368 := ⟨Nat.pow_pos (by omega), Nat.le_trans (Nat.pow_le_pow_right (by omega) h) (by decide)⟩
theorem part_bd {z U : Nat} (hU : U ≤ 34359738368) : z % 128 * U ≤ 127 * U ∧ z % 128 * U ≤ 4363686772736 := by
  have h1 : z % 128 * U ≤ 127 * U := Nat.mul_le_mul_right _ (by omega)
  omega
theorem pow7 (k : Nat) : (2 : Nat) ^ (k * 7) = 128 ^ k := by rw [Nat.mul_comm, Nat.pow_mul]
theorem or_part {a z k : Nat} (ha : a < 128 ^ k) (hk : k ≤ 5) : bits .or .u64 (a : Int) ((z % 128 * 128 ^ k : Nat) : Int) = ((a + z % 128 * 128 ^ k : Nat) : Int) := by
  obtain ⟨h1, h2⟩ := pow_bd hk
  obtain ⟨h3, h4⟩ := part_bd (z := z) h2
  rw [bits_or_u64_nat _ _ (by omega) (by omega)]
  congr 1
  have h := Nat.two_pow_add_eq_or_of_lt (i := k * 7) (b := a) (by rw [pow7]; exact ha) (z % 128)
  rw [pow7] at h
  rw [Nat.or_comm, Nat.mul_comm (z % 128), ← h, Nat.add_comm]
end Go.Proofs.Ytdkjbfppogdokaa
