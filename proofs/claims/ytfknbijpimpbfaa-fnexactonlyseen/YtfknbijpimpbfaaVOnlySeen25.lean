/- Whole numbers as floats, doubled, halved and told as numbers again: small ones, one by one. -/
import Derived.Test.YtfknbijpimpbfaaVOnlySeen24
set_option maxRecDepth 100000
namespace Go.Proofs.Ytfknbijpimpbfaa
open Go Ieee

private theorem all_nat {m : Nat} {p : Nat → Bool} (h : (List.range m).all p = true) {k : Nat} (hk : k < m) : p k = true := List.all_eq_true.1 h k (List.mem_range.2 hk)

private theorem two_tab : (List.range 300).all (fun a => FloatKind.f64.format.mul (flo a) (flo 2) == some (flo (2 * a)) && FloatKind.f64.format.mul (flo a) (flo 0) == some (flo 0)) = true := by decide +kernel
/-- A pixel doubled. -/
theorem flo_double {a b : Int} (h0 : 0 ≤ a) (h1 : a < 300) (h2 : 0 ≤ b) (h3 : b < 300) : cMulBits (flo a) (flo b) (flo 2) (flo 0) = some (flo (2 * a), flo (2 * b)) := by
  have h := all_nat two_tab (show a.toNat < 300 by omega)
  have g := all_nat two_tab (show b.toNat < 300 by omega)
  have e1 : ((a.toNat : Nat) : Int) = a := by omega
  have e2 : ((b.toNat : Nat) : Int) = b := by omega
  simp only [e1, e2, Bool.and_eq_true, beq_iff_eq] at h g
  have hs : floatBits .sub .f64 (flo (2 * a)) (flo 0) = some (flo (2 * a)) := by have := flo_sub (a := 2 * a) (b := 0) (by omega) (by omega) (by omega) (by omega); simpa using this
  have m1 : floatBits .mul .f64 (flo a) (flo 2) = some (flo (2 * a)) := h.1
  have m2 : floatBits .mul .f64 (flo b) (flo 0) = some (flo 0) := g.2
  have m3 : floatBits .mul .f64 (flo a) (flo 0) = some (flo 0) := h.2
  have m4 : floatBits .mul .f64 (flo b) (flo 2) = some (flo (2 * b)) := g.1
  have m5 : floatBits .add .f64 (flo 0) (flo (2 * b)) = some (flo (2 * b)) := by have := flo_add (a := 0) (b := 2 * b) (by omega) (by omega) (by omega) (by omega); simpa using this
  simp [cMulBits, m1, m2, m3, m4, m5, hs]

/-- A float, down to a whole number. -/
def flDown (x : Nat) : Nat := FloatKind.f64.encode ((FloatKind.f64.decode x).integral .down)
private theorem half_tab : (List.range 600).all (fun a => (match floatBits .quo .f64 (flo a) (flo 2) with | some r => (!(FloatKind.f64.decode r).isNaN) && flDown r == flo (a / 2) | none => false)) = true := by decide +kernel
theorem flo_half {a : Int} (h0 : 0 ≤ a) (h1 : a < 600) : ∃ r, floatBits .quo .f64 (flo a) (flo 2) = some r ∧ (FloatKind.f64.decode r).isNaN = false ∧ flDown r = flo (a / 2) := by
  have h := all_nat half_tab (show a.toNat < 600 by omega)
  have e1 : ((a.toNat : Nat) : Int) = a := by omega
  rw [e1] at h
  split at h
  · rename_i r hr
    simp only [Bool.and_eq_true, Bool.not_eq_true', beq_iff_eq] at h
    exact ⟨r, hr, h.1, h.2⟩
  · cases h

private theorem int_tab : (List.range 1000).all (fun a => floatToIntVal .f64 (flo (a - 200)) .i64 == some ((a : Int) - 200)) = true := by decide +kernel
theorem flo_int {a : Int} (h0 : -200 ≤ a) (h1 : a < 800) : floatToIntVal .f64 (flo a) .i64 = some a := by
  have h := all_nat int_tab (show (a + 200).toNat < 1000 by omega)
  have e1 : (((a + 200).toNat : Nat) : Int) - 200 = a := by omega
  rw [e1] at h
  exact eq_of_beq h
end Go.Proofs.Ytfknbijpimpbfaa
