/- Several texts in one. -/
import Derived.Test.YtfknbijpimpbfaaVOnlies23
import Derived.Test.YtfknbijpimpbfaaVOnlies3
import Derived.Test.YtfknbijpimpbfaaVOnlies2

/- Whole numbers as floats, doubled, halved and told as numbers again: small ones, one by one. -/

set_option maxRecDepth 100000
namespace Go.Proofs.Ytfknbijpimpbfaa
open Go Ieee

private theorem all_nat {m : Nat} {p : Nat → Bool} (h : (List.range m).all p = true) {k : Nat} (hk : k < m) : p k = true := List.all_eq_true.1 h k (List.mem_range.2 hk)

private theorem two_tab : (List.range 300).all (fun a => FloatKind.f64.format.mul (flo a) (flo 2) == some (flo (2 * a)) && FloatKind.f64.format.mul (flo a) (flo 0) == some (flo 0)) = true := by decide +kernel
/-- A pixel doubled. -/
theorem flo_double {a b : Int} (h0 : 0 ≤ a) (h1 : a < 300) (h2 : 0 ≤ b) (h3 : b < 300) : cMulBits (flo a) (flo b) (flo 2) (flo 0) = some (flo (2 * a), flo (2 * b)) := by
  have h := all_nat two_tab (show a.toNat < 300 by omega)
  have g := all_nat two_tab (show b.toNat < 300 by omega)
  have e1 : ((a.toNat : Nat) : Int) = a := by omega
  have e2 : ((b.toNat : Nat) : Int) = b := by omega
  simp only [e1, e2, Bool.and_eq_true, beq_iff_eq] at h g
  have hs : floatBits .sub .f64 (flo (2 * a)) (flo 0) = some (flo (2 * a)) := by have := flo_sub (a := 2 * a) (b := 0) (by omega) (by omega) (by omega) (by omega); simpa using this
  have m1 : floatBits .mul .f64 (flo a) (flo 2) = some (flo (2 * a)) := h.1
  have m2 : floatBits .mul .f64 (flo b) (flo 0) = some (flo 0) := g.2
  have m3 : floatBits .mul .f64 (flo a) (flo 0) = some (flo 0) := h.2
  have m4 : floatBits .mul .f64 (flo b) (flo 2) = some (flo (2 * b)) := g.1
  have m5 : floatBits .add .f64 (flo 0) (flo (2 * b)) = some (flo (2 * b)) := by have := flo_add (a := 0) (b := 2 * b) (by omega) (by omega) (by omega) (by omega); simpa using this
  simp [cMulBits, m1, m2, m3, m4, m5, hs]

/-- A float, down to a whole number. -/
def flDown (x : Nat) : Nat := FloatKind.f64.encode ((FloatKind.f64.decode x).integral .down)
private theorem half_tab : (List.range 600).all (fun a => (match floatBits .quo .f64 (flo a) (flo 2) with | some r => (!(FloatKind.f64.decode r).isNaN) && flDown r == flo (a / 2) | none => false)) = true := by decide +kernel
theorem flo_half {a : Int} (h0 : 0 ≤ a) (h1 : a < 600) : ∃ r, floatBits .quo .f64 (flo a) (flo 2) = some r ∧ (FloatKind.f64.decode r).isNaN = false ∧ flDown r = flo (a / 2) := by
  have h := all_nat half_tab (show a.toNat < 600 by omega)
  have e1 : ((a.toNat : Nat) : Int) = a := by omega
  rw [e1] at h
  split at h
  · rename_i r hr
    simp only [Bool.and_eq_true, Bool.not_eq_true', beq_iff_eq] at h
    exact ⟨r, hr, h.1, h.2⟩
  · cases h

private theorem int_tab : (List.range 1000).all (fun a => floatToIntVal .f64 (flo (a - 200)) .i64 == some ((a : Int) - 200)) = true := by decide +kernel
theorem flo_int {a : Int} (h0 : -200 ≤ a) (h1 : a < 800) : floatToIntVal .f64 (flo a) .i64 = some a := by
  have h := all_nat int_tab (show (a + 200).toNat < 1000 by omega)
  have e1 : (((a + 200).toNat : Nat) : Int) - 200 = a := by omega
  rw [e1] at h
  exact eq_of_beq h
end Go.Proofs.Ytfknbijpimpbfaa
/- Pixels as complex numbers: what the program makes of them. -/

namespace Go.Proofs.Ytfknbijpimpbfaa
open Go.RowKit
set_option linter.unusedSimpArgs false
set_option linter.unusedVariables false
set_option maxRecDepth 100000

/-- A pixel as one number. -/
abbrev pxV (a b : Int) : Value := .complex .f64 (flo a) (flo b)
theorem flo_0 : flo 0 = 0 := by decide +kernel
theorem flo_1 : flo 1 = 4607182418800017408 := by decide +kernel
theorem flo_2 : flo 2 = 4611686018427387904 := by decide +kernel
theorem c_add {a b c d : Int} (h : (-(2 ^ 52) < a ∧ a < 2 ^ 52) ∧ (-(2 ^ 52) < b ∧ b < 2 ^ 52)) (g : (-(2 ^ 52) < c ∧ c < 2 ^ 52) ∧ (-(2 ^ 52) < d ∧ d < 2 ^ 52)) : cSumBits .add .f64 (flo a) (flo b) (flo c) (flo d) = some (flo (a + c), flo (b + d)) := by
  simp [cSumBits, flo_add h.1.1 h.1.2 g.1.1 g.1.2, flo_add h.2.1 h.2.2 g.2.1 g.2.2]
theorem c_sub {a b c d : Int} (h : (-(2 ^ 52) < a ∧ a < 2 ^ 52) ∧ (-(2 ^ 52) < b ∧ b < 2 ^ 52)) (g : (-(2 ^ 52) < c ∧ c < 2 ^ 52) ∧ (-(2 ^ 52) < d ∧ d < 2 ^ 52)) : cSumBits .sub .f64 (flo a) (flo b) (flo c) (flo d) = some (flo (a - c), flo (b - d)) := by
  simp [cSumBits, flo_sub h.1.1 h.1.2 g.1.1 g.1.2, flo_sub h.2.1 h.2.2 g.2.1 g.2.2]
theorem run_px_add (t : TypeId) {a b c d : Int} (w : World) (h : (-(2 ^ 52) < a ∧ a < 2 ^ 52) ∧ (-(2 ^ 52) < b ∧ b < 2 ^ 52)) (g : (-(2 ^ 52) < c ∧ c < 2 ^ 52) ∧ (-(2 ^ 52) < d ∧ d < 2 ^ 52)) : (binOp .add t (pxV a b) (pxV c d)).run Try.prog w = .ok (pxV (a + c) (b + d)) w :=
  run_complex_sum w .add (.inl rfl) t .f64 _ _ _ _ _ _ (c_add h g)
theorem run_px_sub (t : TypeId) {a b c d : Int} (w : World) (h : (-(2 ^ 52) < a ∧ a < 2 ^ 52) ∧ (-(2 ^ 52) < b ∧ b < 2 ^ 52)) (g : (-(2 ^ 52) < c ∧ c < 2 ^ 52) ∧ (-(2 ^ 52) < d ∧ d < 2 ^ 52)) : (binOp .sub t (pxV a b) (pxV c d)).run Try.prog w = .ok (pxV (a - c) (b - d)) w :=
  run_complex_sum w .sub (.inr rfl) t .f64 _ _ _ _ _ _ (c_sub h g)

/-- A number held from 0 up to a last one. -/
def heldI (a l : Int) : Int := min (max a 0) l
theorem run_fmax (ts : Array TypeId) (t : TypeId) (a : Int) (w : World) (h0 : -(2 ^ 52) < a) (h1 : a < 2 ^ 52) : (Builtin.max_ ts t #[.float .f64 (flo a), .float .f64 0]).run Try.prog w = .ok (.float .f64 (flo (max a 0))) w := by
  have ho := flo_order h0 h1 (b := 0) (by omega) (by omega)
  have hn := flo_neg h0 h1
  rw [flo_0] at ho
  simp only [Builtin.max_, Builtin.max2, List.foldlM, ho, hn]
  rcases Int.lt_trichotomy a 0 with h | h | h
  · have e : compare a 0 = .lt := by simp [compare, compareOfLessAndEq, h]
    have e2 : max a 0 = 0 := by omega
    simp [e, e2, flo_0]
  · subst h
    have e : compare (0 : Int) 0 = .eq := by decide
    simp [e, flo_0]
  · have e : compare a 0 = .gt := by simp [compare, compareOfLessAndEq, show ¬ a < 0 by omega, show ¬ a = 0 by omega]
    have e2 : max a 0 = a := by omega
    simp [e, e2]
theorem run_fmin (ts : Array TypeId) (t : TypeId) (a b : Int) (w : World) (h0 : -(2 ^ 52) < a) (h1 : a < 2 ^ 52) (h2 : -(2 ^ 52) < b) (h3 : b < 2 ^ 52) : (Builtin.min_ ts t #[.float .f64 (flo a), .float .f64 (flo b)]).run Try.prog w = .ok (.float .f64 (flo (min a b))) w := by
  have ho := flo_order h0 h1 h2 h3
  simp only [Builtin.min_, Builtin.min2, List.foldlM, ho]
  rcases Int.lt_trichotomy a b with h | h | h
  · have e : compare a b = .lt := by simp [compare, compareOfLessAndEq, h]
    have e2 : min a b = a := by omega
    simp [e, e2]
  · subst h
    have e : compare a a = .eq := by simp [compare, compareOfLessAndEq]
    have e2 : min a a = a := by omega
    simp [e, e2]
  · have e : compare a b = .gt := by simp [compare, compareOfLessAndEq, show ¬ a < b by omega, show ¬ a = b by omega]
    have e2 : min a b = b := by omega
    simp [e, e2]

theorem pixelAt_any (x y : Int) (w : World) : Calls Try.prog 73 #[.int .i64 x, .int .i64 y] w fun e w' => e = .returned (pxV x y) ∧ w = w' := by
  go_enter Try.func73, Try.ntmps73
  go_wp2
  go_ret
  exact ⟨rfl, rfl⟩
theorem pxX_any (a b : Int) (w : World) (h0 : -200 ≤ a) (h1 : a < 800) : Calls Try.prog 50 #[pxV a b] w fun e w' => e = .returned (.int .i64 a) ∧ w = w' := by
  have hc : ∀ w, (convert 98 2 (.float .f64 (flo a))).run Try.prog w = .ok (.int .i64 a) w := fun w => run_convert_float_int w 98 2 .f64 .i64 _ a (by kernel_rfl) (by kernel_rfl) (flo_int h0 h1)
  go_enter Try.func50, Try.ntmps50
  go_wp2
  go_ret
  exact ⟨rfl, rfl⟩
theorem pxY_any (a b : Int) (w : World) (h0 : -200 ≤ b) (h1 : b < 800) : Calls Try.prog 51 #[pxV a b] w fun e w' => e = .returned (.int .i64 b) ∧ w = w' := by
  have hc : ∀ w, (convert 98 2 (.float .f64 (flo b))).run Try.prog w = .ok (.int .i64 b) w := fun w => run_convert_float_int w 98 2 .f64 .i64 _ b (by kernel_rfl) (by kernel_rfl) (flo_int h0 h1)
  go_enter Try.func51, Try.ntmps51
  go_wp2
  go_ret
  exact ⟨rfl, rfl⟩
end Go.Proofs.Ytfknbijpimpbfaa
