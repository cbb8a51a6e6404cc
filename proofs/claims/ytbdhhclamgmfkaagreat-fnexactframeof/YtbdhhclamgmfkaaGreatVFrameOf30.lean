/- Several texts in one. -/
import Derived.Laws.ComplexArith
import Derived.Test.YtbdhhclamgmfkaaGreatVFrameOf13
import Derived.Test.YtbdhhclamgmfkaaGreatVFrameOf5
import Derived.Deep.RegionHeld3
import Derived.Test.YtbdhhclamgmfkaaGreatVFrameOf22
import Derived.Test.YtbdhhclamgmfkaaGreatVFrameOf7

/- Whole numbers as floats: what is added, taken away, doubled, halved and compared of them is what it is of the numbers. -/

set_option maxRecDepth 100000
set_option linter.unusedVariables false
namespace Go.Proofs.YtbdhhclamgmfkaaGreat
open Go Ieee

/-- A whole number as a float. -/
def flo (n : Int) : Nat := floatOfInt .f64 n
theorem flo_eq (n : Int) : flo n = double.nearest (decide (n < 0)) n.natAbs 0 := rfl

theorem log2_scale {m : Nat} (k : Nat) (h : m ≠ 0) : (m * 2 ^ k).log2 = m.log2 + k := by
  have hp : 0 < 2 ^ k := Nat.two_pow_pos k
  have h2 : m * 2 ^ k ≠ 0 := Nat.mul_ne_zero h (by omega)
  rw [Nat.log2_eq_iff h2]
  have h3 := Nat.log2_self_le h
  have h4 := Nat.lt_log2_self (n := m)
  constructor
  · rw [Nat.pow_add]; exact Nat.mul_le_mul_right _ h3
  · rw [show m.log2 + k + 1 = (m.log2 + 1) + k by omega, Nat.pow_add]
    exact Nat.mul_lt_mul_of_pos_right h4 hp

theorem cut_zero (neg : Bool) (n : Nat) : Toward.even.cut neg n 0 = n := by
  simp [Toward.cut, Nat.mod_one]

theorem cut_exact (neg : Bool) (q d : Nat) (hq : q ≠ 0) : Toward.even.cut neg (q * 2 ^ d) d = q := by
  have hp : 0 < 2 ^ d := Nat.two_pow_pos d
  have hm : min d ((q * 2 ^ d).log2 + 2) = d := by rw [log2_scale d hq]; omega
  unfold Toward.cut
  simp only [hm, Nat.shiftLeft_eq, Nat.one_mul, Nat.mul_div_cancel _ hp, Nat.mul_mod_left]
  have h1 : ¬ (2 ^ d < 2 * 0) := by omega
  have h2 : ((2 ^ d : Nat) == 2 * 0) = false := by simp
  simp [h2]

/-- The word of a number that is told with more digits behind it is the number's word. -/
theorem near_scale (neg : Bool) (M k : Nat) (hM : M ≠ 0) (hM' : M < 2 ^ 53) (hk : k ≤ 1074) : double.nearest neg (M * 2 ^ k) (-(k : Int)) = double.nearest neg M 0 := by
  have hp : 0 < 2 ^ k := Nat.two_pow_pos k
  have h2 : M * 2 ^ k ≠ 0 := Nat.mul_ne_zero hM (by omega)
  have hL : M.log2 < 53 := (Nat.log2_lt hM).2 hM'
  have hl := log2_scale k hM
  unfold Format.nearest
  rw [if_neg h2, if_neg hM]
  have e0 : double.leastPlace = -1074 := by decide +kernel
  have e1 : double.fractionBits = 52 := rfl
  simp only [e0, e1, hl]
  have a1 : max (-(k : Int) + ((M.log2 + k : Nat) : Int) - ((52 : Nat) : Int)) (-1074) = (M.log2 : Int) - 52 := by omega
  have a2 : max ((0 : Int) + ((M.log2 : Nat) : Int) - ((52 : Nat) : Int)) (-1074) = (M.log2 : Int) - 52 := by omega
  rw [a1, a2]
  have kept2 : Toward.even.cut neg (M <<< ((0 : Int) - ((M.log2 : Int) - 52)).toNat) (((M.log2 : Int) - 52) - 0).toNat = M * 2 ^ (52 - M.log2) := by
    rw [show (((M.log2 : Int) - 52) - 0).toNat = 0 by omega, show ((0 : Int) - ((M.log2 : Int) - 52)).toNat = 52 - M.log2 by omega, cut_zero, Nat.shiftLeft_eq]
  have kept1 : Toward.even.cut neg ((M * 2 ^ k) <<< (-(k : Int) - ((M.log2 : Int) - 52)).toNat) (((M.log2 : Int) - 52) - -(k : Int)).toNat = M * 2 ^ (52 - M.log2) := by
    by_cases hc : k ≤ 52 - M.log2
    · rw [show (((M.log2 : Int) - 52) - -(k : Int)).toNat = 0 by omega, show (-(k : Int) - ((M.log2 : Int) - 52)).toNat = 52 - M.log2 - k by omega, cut_zero, Nat.shiftLeft_eq, Nat.mul_assoc, ← Nat.pow_add]
      congr 2; omega
    · rw [show (-(k : Int) - ((M.log2 : Int) - 52)).toNat = 0 by omega, show (((M.log2 : Int) - 52) - -(k : Int)).toNat = k - (52 - M.log2) by omega]
      have : (M * 2 ^ k) <<< 0 = M * 2 ^ (52 - M.log2) * 2 ^ (k - (52 - M.log2)) := by
        rw [Nat.shiftLeft_zero, Nat.mul_assoc, ← Nat.pow_add]; congr 2; omega
      rw [this]
      exact cut_exact _ _ _ (Nat.mul_ne_zero hM (by have := Nat.two_pow_pos (52 - M.log2); omega))
  rw [kept1, kept2]

/-- What a word of a whole number stands for. -/
theorem flo_read (n : Int) (h0 : -(2 ^ 53) < n) (h1 : n < 2 ^ 53) : ∃ m i, double.read (flo n) = .number (decide (n < 0)) m i ∧ -1074 ≤ i ∧ i ≤ 0 ∧ signed (decide (n < 0)) m (i + 1074).toNat = n * 2 ^ 1074 := by
  by_cases hz : n = 0
  · subst hz
    exact ⟨0, -1074, by decide +kernel, by omega, by omega, by decide +kernel⟩
  · generalize hM : n.natAbs = M
    have hM0 : M ≠ 0 := by omega
    have hM1 : M < 2 ^ 53 := by omega
    have hL : M.log2 < 53 := (Nat.log2_lt hM0).2 hM1
    have b1 := Nat.log2_self_le hM0
    have b2 := Nat.lt_log2_self (n := M)
    have hk1 : 2 ^ 52 ≤ M * 2 ^ (52 - M.log2) := by
      have := Nat.mul_le_mul_right (2 ^ (52 - M.log2)) b1
      rw [← Nat.pow_add, show M.log2 + (52 - M.log2) = 52 by omega] at this
      exact this
    have hk2 : M * 2 ^ (52 - M.log2) < 2 ^ 53 := by
      have := Nat.mul_lt_mul_of_pos_right b2 (Nat.two_pow_pos (52 - M.log2))
      rw [← Nat.pow_add, show M.log2 + 1 + (52 - M.log2) = 53 by omega] at this
      exact this
    obtain ⟨q, hq⟩ : ∃ q, M * 2 ^ (52 - M.log2) = q := ⟨_, rfl⟩
    rw [hq] at hk1 hk2
    have e5 : (2 : Nat) ^ 52 = 4503599627370496 := by decide
    have e6 : (2 : Nat) ^ 53 = 9007199254740992 := by decide
    rw [e5] at hk1
    rw [e6] at hk2
    have e0 : double.leastPlace = -1074 := by decide +kernel
    have e2 : double.binade = 4503599627370496 := by decide +kernel
    have e3 : double.infRung = 9218868437227405312 := by decide +kernel
    have e4 : double.signWeight = 9223372036854775808 := by decide +kernel
    have hw : flo n = double.word (decide (n < 0)) ((M.log2 + 1022) * 4503599627370496 + q) := by
      rw [flo_eq, hM]
      unfold Format.nearest
      rw [if_neg hM0]
      have e1 : double.fractionBits = 52 := rfl
      simp only [e0, e1, e2, e3]
      have a2 : max ((0 : Int) + ((M.log2 : Nat) : Int) - ((52 : Nat) : Int)) (-1074) = (M.log2 : Int) - 52 := by omega
      rw [a2, show (((M.log2 : Int) - 52) - 0).toNat = 0 by omega, show ((0 : Int) - ((M.log2 : Int) - 52)).toNat = 52 - M.log2 by omega, cut_zero, Nat.shiftLeft_eq, show ((M.log2 : Int) - 52 - -1074).toNat = M.log2 + 1022 by omega, hq]
      rw [Nat.min_eq_left (by clear hq hM hM1 b1 b2 e0 e2 e3 e4 e5 e6; omega)]
    refine ⟨q, (M.log2 : Int) - 52, ?_, by omega, by omega, ?_⟩
    · rw [hw]
      clear hw hq hM hM1 b1 b2 h0 h1 e5 e6
      generalize M.log2 = L at *
      unfold Format.read
      have r1 : (double.word (decide (n < 0)) ((L + 1022) * 4503599627370496 + q)) % 9223372036854775808 = (L + 1022) * 4503599627370496 + q := by
        unfold Format.word; rw [e4]; split <;> omega
      have r2 : ((double.word (decide (n < 0)) ((L + 1022) * 4503599627370496 + q)) / 9223372036854775808 % 2 == 1) = decide (n < 0) := by
        unfold Format.word; rw [e4]
        by_cases hn : n < 0
        · simp [hn]; omega
        · simp [hn]; omega
      simp only [e0, e2, e3, e4, r1, r2]
      rw [if_neg (by omega), if_pos (by omega)]
      congr 1
      · omega
      · omega
    · rw [show ((M.log2 : Int) - 52 + 1074).toNat = M.log2 + 1022 by omega]
      unfold signed
      rw [Nat.shiftLeft_eq, ← hq, Nat.mul_assoc, ← Nat.pow_add, show 52 - M.log2 + (M.log2 + 1022) = 1074 by omega]
      have two : (((2 : Nat)) : Int) = 2 := rfl
      generalize 1074 = K
      by_cases hn : n < 0
      · simp only [hn, decide_true, if_true]
        rw [Int.natCast_mul, Int.natCast_pow, ← Int.neg_mul, two, show -(M : Int) = n by omega]
      · simp only [hn, decide_false, Bool.false_eq_true, if_false]
        rw [Int.natCast_mul, Int.natCast_pow, two, show (M : Int) = n by omega]

theorem signed_shift (s : Bool) (m u v : Nat) : signed s m (u + v) = signed s m u * 2 ^ v := by
  unfold signed
  simp only [Nat.shiftLeft_eq, Nat.pow_add, ← Nat.mul_assoc]
  cases s <;> simp [Int.natCast_mul, Int.natCast_pow, Int.neg_mul]

private theorem two_pos (k : Nat) : (0 : Int) < 2 ^ k := by
  have := Nat.two_pow_pos k
  have h : ((2 ^ k : Nat) : Int) = 2 ^ k := by rw [Int.natCast_pow]; rfl
  omega

/-- Two that stand for whole numbers are told at one place. -/
theorem signed_at {s : Bool} {m : Nat} {i base A : Int} (h : signed s m (i + 1074).toNat = A * 2 ^ 1074) (h0 : -1074 ≤ base) (h1 : base ≤ i) (h2 : base ≤ 0) : signed s m (i - base).toNat = A * 2 ^ (-base).toNat := by
  have e1 : (i + 1074).toNat = (i - base).toNat + (base + 1074).toNat := by omega
  rw [e1, signed_shift] at h
  have e2 : (2 : Int) ^ 1074 = 2 ^ (-base).toNat * 2 ^ (base + 1074).toNat := by rw [← Int.pow_add]; congr 1; omega
  rw [e2, ← Int.mul_assoc] at h
  exact Int.eq_of_mul_eq_mul_right (by have := two_pos (base + 1074).toNat; omega) h

theorem sum_gen {s t : Bool} {m n : Nat} {i j A B : Int} (h : signed s m (i + 1074).toNat = A * 2 ^ 1074) (g : signed t n (j + 1074).toNat = B * 2 ^ 1074) (i0 : -1074 ≤ i) (i1 : i ≤ 0) (j0 : -1074 ≤ j) (j1 : j ≤ 0)
    (hs : A + B = 0 → (s && t) = false) (b0 : -(2 ^ 53) < A + B) (b1 : A + B < 2 ^ 53) : ((Datum.number s m i).sum (.number t n j)).map double.write = some (flo (A + B)) := by
  generalize hb : min i j = base
  have h0 : -1074 ≤ base := by omega
  have h1 := signed_at h h0 (by omega) (by omega)
  have g1 := signed_at g h0 (by omega) (by omega)
  unfold Datum.sum
  simp only [hb, h1, g1, Option.map_some, Format.write]
  congr 1
  rw [← Int.add_mul]
  generalize A + B = C at *
  have hp := two_pos (-base).toNat
  by_cases hC : C = 0
  · subst hC
    rw [Int.zero_mul, if_pos rfl, hs rfl]
    have : ∀ p : Int, double.nearest false (0 : Int).natAbs p = 0 := fun p => by simp [Format.nearest, Format.word]
    rw [this]
    decide +kernel
  · have hne : ¬ C * 2 ^ (-base).toNat = 0 := by
      intro h
      rcases Int.mul_eq_zero.1 h with h | h
      · exact hC h
      · omega
    rw [if_neg hne, flo_eq]
    have hab : (C * 2 ^ (-base).toNat).natAbs = C.natAbs * 2 ^ (-base).toNat := by
      rw [Int.natAbs_mul, Int.natAbs_pow]; rfl
    have hneg : decide (C * 2 ^ (-base).toNat < 0) = decide (C < 0) := by
      by_cases hc : C < 0
      · have : C * 2 ^ (-base).toNat < 0 := Int.mul_neg_of_neg_of_pos hc hp
        simp [hc, this]
      · have : ¬ C * 2 ^ (-base).toNat < 0 := by have := Int.mul_nonneg (show 0 ≤ C by omega) (Int.le_of_lt hp); omega
        simp [hc, this]
    rw [hab, hneg]
    have hbk : base = -(((-base).toNat : Nat) : Int) := by omega
    rw [hbk]
    have : ((-(-(((-base).toNat : Nat) : Int))).toNat) = (-base).toNat := by omega
    rw [this]
    exact near_scale _ _ _ (by omega) (by omega) (by omega)

theorem flo_add {a b : Int} (a0 : -(2 ^ 52) < a) (a1 : a < 2 ^ 52) (b0 : -(2 ^ 52) < b) (b1 : b < 2 ^ 52) : floatBits .add .f64 (flo a) (flo b) = some (flo (a + b)) := by
  obtain ⟨m, i, e1, i0, i1, h⟩ := flo_read a (by omega) (by omega)
  obtain ⟨n, j, e2, j0, j1, g⟩ := flo_read b (by omega) (by omega)
  show ((double.read (flo a)).sum (double.read (flo b))).map double.write = _
  rw [e1, e2]
  refine sum_gen h g i0 i1 j0 j1 ?_ (by omega) (by omega)
  intro hz
  simp; omega
theorem flo_sub {a b : Int} (a0 : -(2 ^ 52) < a) (a1 : a < 2 ^ 52) (b0 : -(2 ^ 52) < b) (b1 : b < 2 ^ 52) : floatBits .sub .f64 (flo a) (flo b) = some (flo (a - b)) := by
  obtain ⟨m, i, e1, i0, i1, h⟩ := flo_read a (by omega) (by omega)
  obtain ⟨n, j, e2, j0, j1, g⟩ := flo_read b (by omega) (by omega)
  show ((double.read (flo a)).sum (double.read (flo b)).opposite).map double.write = _
  rw [e1, e2, Int.sub_eq_add_neg]
  have g' : signed (!decide (b < 0)) n (j + 1074).toNat = -b * 2 ^ 1074 := by
    rw [Int.neg_mul, ← g]
    unfold signed
    cases decide (b < 0) <;> simp
  refine sum_gen h g' i0 i1 j0 j1 ?_ (by omega) (by omega)
  intro hz
  simp; omega
end Go.Proofs.YtbdhhclamgmfkaaGreat
/- Whole numbers as floats, doubled, halved and told as numbers again: small ones, one by one. -/

set_option maxRecDepth 100000
namespace Go.Proofs.YtbdhhclamgmfkaaGreat
open Go Ieee

private theorem all_nat {m : Nat} {p : Nat → Bool} (h : (List.range m).all p = true) {k : Nat} (hk : k < m) : p k = true := List.all_eq_true.1 h k (List.mem_range.2 hk)

private theorem int_tab : (List.range 1000).all (fun a => floatToIntVal .f64 (flo (a - 200)) .i64 == some ((a : Int) - 200)) = true := by decide +kernel
theorem flo_int {a : Int} (h0 : -200 ≤ a) (h1 : a < 800) : floatToIntVal .f64 (flo a) .i64 = some a := by
  have h := all_nat int_tab (show (a + 200).toNat < 1000 by omega)
  have e1 : (((a + 200).toNat : Nat) : Int) - 200 = a := by omega
  rw [e1] at h
  exact eq_of_beq h
end Go.Proofs.YtbdhhclamgmfkaaGreat
/- Pixels as complex numbers: what the program makes of them. -/

namespace Go.Proofs.YtbdhhclamgmfkaaGreat
open Go.RowKit
set_option linter.unusedSimpArgs false
set_option linter.unusedVariables false
set_option maxRecDepth 100000

/-- A pixel as one number. -/
abbrev pxV (a b : Int) : Value := .complex .f64 (flo a) (flo b)
theorem flo_1 : flo 1 = 4607182418800017408 := by decide +kernel
theorem c_add {a b c d : Int} (h : (-(2 ^ 52) < a ∧ a < 2 ^ 52) ∧ (-(2 ^ 52) < b ∧ b < 2 ^ 52)) (g : (-(2 ^ 52) < c ∧ c < 2 ^ 52) ∧ (-(2 ^ 52) < d ∧ d < 2 ^ 52)) : cSumBits .add .f64 (flo a) (flo b) (flo c) (flo d) = some (flo (a + c), flo (b + d)) := by
  simp [cSumBits, flo_add h.1.1 h.1.2 g.1.1 g.1.2, flo_add h.2.1 h.2.2 g.2.1 g.2.2]
theorem c_sub {a b c d : Int} (h : (-(2 ^ 52) < a ∧ a < 2 ^ 52) ∧ (-(2 ^ 52) < b ∧ b < 2 ^ 52)) (g : (-(2 ^ 52) < c ∧ c < 2 ^ 52) ∧ (-(2 ^ 52) < d ∧ d < 2 ^ 52)) : cSumBits .sub .f64 (flo a) (flo b) (flo c) (flo d) = some (flo (a - c), flo (b - d)) := by
  simp [cSumBits, flo_sub h.1.1 h.1.2 g.1.1 g.1.2, flo_sub h.2.1 h.2.2 g.2.1 g.2.2]
theorem run_px_add (t : TypeId) {a b c d : Int} (w : World) (h : (-(2 ^ 52) < a ∧ a < 2 ^ 52) ∧ (-(2 ^ 52) < b ∧ b < 2 ^ 52)) (g : (-(2 ^ 52) < c ∧ c < 2 ^ 52) ∧ (-(2 ^ 52) < d ∧ d < 2 ^ 52)) : (binOp .add t (pxV a b) (pxV c d)).run Tryz.prog w = .ok (pxV (a + c) (b + d)) w :=
  run_complex_sum w .add (.inl rfl) t .f64 _ _ _ _ _ _ (c_add h g)
theorem run_px_sub (t : TypeId) {a b c d : Int} (w : World) (h : (-(2 ^ 52) < a ∧ a < 2 ^ 52) ∧ (-(2 ^ 52) < b ∧ b < 2 ^ 52)) (g : (-(2 ^ 52) < c ∧ c < 2 ^ 52) ∧ (-(2 ^ 52) < d ∧ d < 2 ^ 52)) : (binOp .sub t (pxV a b) (pxV c d)).run Tryz.prog w = .ok (pxV (a - c) (b - d)) w :=
  run_complex_sum w .sub (.inr rfl) t .f64 _ _ _ _ _ _ (c_sub h g)

theorem pixelAt_any (x y : Int) (w : World) : Calls Tryz.prog 121 #[.int .i64 x, .int .i64 y] w fun e w' => e = .returned (pxV x y) ∧ w = w' := by
  go_enter Tryz.func121, Tryz.ntmps121
  go_wp2
  go_ret
  exact ⟨rfl, rfl⟩
theorem pxX_any (a b : Int) (w : World) (h0 : -200 ≤ a) (h1 : a < 800) : Calls Tryz.prog 85 #[pxV a b] w fun e w' => e = .returned (.int .i64 a) ∧ w = w' := by
  have hc : ∀ w, (convert 169 2 (.float .f64 (flo a))).run Tryz.prog w = .ok (.int .i64 a) w := fun w => run_convert_float_int w 169 2 .f64 .i64 _ a (by kernel_rfl) (by kernel_rfl) (flo_int h0 h1)
  go_enter Tryz.func85, Tryz.ntmps85
  go_wp2
  go_ret
  exact ⟨rfl, rfl⟩
theorem pxY_any (a b : Int) (w : World) (h0 : -200 ≤ b) (h1 : b < 800) : Calls Tryz.prog 86 #[pxV a b] w fun e w' => e = .returned (.int .i64 b) ∧ w = w' := by
  have hc : ∀ w, (convert 169 2 (.float .f64 (flo b))).run Tryz.prog w = .ok (.int .i64 b) w := fun w => run_convert_float_int w 169 2 .f64 .i64 _ b (by kernel_rfl) (by kernel_rfl) (flo_int h0 h1)
  go_enter Tryz.func86, Tryz.ntmps86
  go_wp2
  go_ret
  exact ⟨rfl, rfl⟩
end Go.Proofs.YtbdhhclamgmfkaaGreat
/- Cameras of the program: their first and last pixel, their size, what is wrong of one. -/

namespace Go.Proofs.YtbdhhclamgmfkaaGreat
open Go.RowKit
set_option linter.unusedSimpArgs false
set_option linter.unusedVariables false
set_option maxRecDepth 100000

/-- A camera as a value. -/
abbrev camV (z x y wd ht : Int) : Value := .agg #[.int .i64 z, .int .i64 x, .int .i64 y, .int .i64 wd, .int .i64 ht]
/-- A camera without a fault. -/
def camB (z x y wd ht : Int) : Bool := (zoomB z && (inB wd 1 8 && inB ht 1 8)) && (inB x 0 (pixI z - wd) && inB y 0 (pixI z - ht))
def camC (z x y wd ht : Int) : Int := if camB z x y wd ht = true then 0 else 3
theorem camB_zoom {z x y wd ht : Int} (h : camB z x y wd ht = true) : zoomB z = true := by simp [camB] at h; exact h.1.1
theorem camB_in {z x y wd ht : Int} (h : camB z x y wd ht = true) : ((1 ≤ wd ∧ wd ≤ 8) ∧ (1 ≤ ht ∧ ht ≤ 8)) ∧ ((0 ≤ x ∧ x ≤ pixI z - wd) ∧ (0 ≤ y ∧ y ≤ pixI z - ht)) := by
  simp [camB, inB] at h
  omega
theorem camC_cases (z x y wd ht : Int) : (camC z x y wd ht = 0 ∧ camB z x y wd ht = true) ∨ (camC z x y wd ht = 3 ∧ camB z x y wd ht = false) := by
  unfold camC
  cases h : camB z x y wd ht <;> simp

theorem isView_any (n : Int) (w : World) : Calls Tryz.prog 82 #[.int .i64 n] w fun e w' => e = .returned (.bool (inB n 1 8)) ∧ w = w' := by
  go_enter Tryz.func82, Tryz.ntmps82
  go_wp2_with (go_at_call 87; refine (isWithin_any _ _ _ _).mono ?_; rintro e w' ⟨rfl, rfl⟩)
  go_ret
  exact ⟨rfl, rfl⟩
theorem camFirst_any (z x y wd ht : Int) (w : World) : Calls Tryz.prog 96 #[camV z x y wd ht] w fun e w' => e = .returned (pxV x y) ∧ Below w.heap.size w w' := by
  go_enter Tryz.func96, Tryz.ntmps96
  go_wp2_with (go_at_call 121; refine (pixelAt_any _ _ _).mono ?_; rintro e w' ⟨rfl, rfl⟩)
  go_ret
  exact ⟨rfl, by (repeat (first | exact Below.refl _ _ | assumption | refine Below.drew ?_ | refine bl_alloc ?_ _ | refine bl_then ?_ (by assumption) | refine Below.setCell ?_ (by first | omega | (simp; done) | (simp; omega)) _ | refine bl_store ?_ ?_ _ _))⟩
theorem camSize_any (z x y wd ht : Int) (w : World) : Calls Tryz.prog 112 #[camV z x y wd ht] w fun e w' => e = .returned (pxV wd ht) ∧ Below w.heap.size w w' := by
  go_enter Tryz.func112, Tryz.ntmps112
  go_wp2_with (go_at_call 121; refine (pixelAt_any _ _ _).mono ?_; rintro e w' ⟨rfl, rfl⟩)
  go_ret
  exact ⟨rfl, by (repeat (first | exact Below.refl _ _ | assumption | refine Below.drew ?_ | refine bl_alloc ?_ _ | refine bl_then ?_ (by assumption) | refine Below.setCell ?_ (by first | omega | (simp; done) | (simp; omega)) _ | refine bl_store ?_ ?_ _ _))⟩
set_option maxHeartbeats 4000000 in
theorem camLast_any (z x y wd ht : Int) (w : World) (hx : 0 ≤ x ∧ x ≤ 64) (hy : 0 ≤ y ∧ y ≤ 64) (hw : 1 ≤ wd ∧ wd ≤ 8) (hh : 1 ≤ ht ∧ ht ≤ 8) : Calls Tryz.prog 84 #[camV z x y wd ht] w fun e w' => e = .returned (pxV (x + wd - 1) (y + ht - 1)) ∧ Below w.heap.size w w' := by
  have s1 := fun t w => run_px_add t (a := x) (b := y) (c := wd) (d := ht) w (by omega) (by omega)
  have s2 : ∀ t w, (binOp .sub t (pxV (x + wd) (y + ht)) (.complex .f64 4607182418800017408 4607182418800017408)).run Tryz.prog w = .ok (pxV (x + wd - 1) (y + ht - 1)) w := fun t w => by
    rw [← flo_1]
    exact run_px_sub t (a := x + wd) (b := y + ht) (c := 1) (d := 1) w (by omega) (by omega)
  clear hx hy hw hh
  go_enter Tryz.func84, Tryz.ntmps84
  go_wp2_with fail
  generalize hW : (w.alloc _ : World) = W
  have HB0 : Hid (Below w.heap.size w W) := by show Below _ _ _; subst hW; (repeat (first | exact Below.refl _ _ | assumption | refine Below.drew ?_ | refine bl_alloc ?_ _ | refine bl_then ?_ (by assumption) | refine Below.setCell ?_ (by first | omega | (simp; done) | (simp; omega)) _ | refine bl_store ?_ ?_ _ _))
  have c00 : ∀ W', Below W.heap.size W W' → W'.cell? ⟨w.heap.size, 0, none⟩ = some (.int .i64 z) := fun W' h => by
    rw [h.cell (by subst hW; simp <;> omega)]; subst hW; simp [go_sem]
  have c01 : ∀ W', Below W.heap.size W W' → W'.cell? ⟨w.heap.size, 1, none⟩ = some (.int .i64 x) := fun W' h => by
    rw [h.cell (by subst hW; simp <;> omega)]; subst hW; simp [go_sem]
  have c02 : ∀ W', Below W.heap.size W W' → W'.cell? ⟨w.heap.size, 2, none⟩ = some (.int .i64 y) := fun W' h => by
    rw [h.cell (by subst hW; simp <;> omega)]; subst hW; simp [go_sem]
  have c03 : ∀ W', Below W.heap.size W W' → W'.cell? ⟨w.heap.size, 3, none⟩ = some (.int .i64 wd) := fun W' h => by
    rw [h.cell (by subst hW; simp <;> omega)]; subst hW; simp [go_sem]
  have c04 : ∀ W', Below W.heap.size W W' → W'.cell? ⟨w.heap.size, 4, none⟩ = some (.int .i64 ht) := fun W' h => by
    rw [h.cell (by subst hW; simp <;> omega)]; subst hW; simp [go_sem]
  clear hW
  have hr : Below W.heap.size W W := Below.refl _ _
  go_region_held3 (fun W' => Below W.heap.size W W') ((repeat (first | exact Below.refl _ _ | assumption | refine Below.drew ?_ | refine bl_alloc ?_ _ | refine bl_then ?_ (by assumption) | refine Below.setCell ?_ (by first | omega | (simp; done) | (simp; omega)) _ | refine bl_store ?_ ?_ _ _)))
    (first
      | (go_at_call 96; refine (camFirst_any _ _ _ _ _ _).mono ?_; rintro e w1 ⟨rfl, hb⟩)
      | (go_at_call 112; refine (camSize_any _ _ _ _ _ _).mono ?_; rintro e w1 ⟨rfl, hb⟩)
      | fail)
  go_wp2
  go_ret
  exact ⟨rfl, bl_then HB0.out (by assumption)⟩
set_option maxHeartbeats 4000000 in
theorem camFault_any (z x y wd ht : Int) (w : World) : Calls Tryz.prog 55 #[camV z x y wd ht] w fun e w' => e = .returned (.int .i64 (camC z x y wd ht)) ∧ Below w.heap.size w w' := by
  cases hv : (inB wd 1 8 && inB ht 1 8 && pixB z x y)
  · have hk : Hid (camC z x y wd ht = 3) := by
      show _ = _
      unfold camC
      rw [if_neg]
      intro hc
      have h1 := camB_zoom hc
      have h2 := camB_in hc
      have h3 := pixI_bd h1
      have : (inB wd 1 8 && inB ht 1 8 && pixB z x y) = true := by
        simp [pixB, inB, h1]
        omega
      rw [this] at hv
      cases hv
    cases h1 : inB wd 1 8 <;> cases h2 : inB ht 1 8 <;> cases h3 : pixB z x y
    all_goals first | (rw [h1, h2, h3] at hv; cases hv; done) | skip
    all_goals
      clear hv
      go_enter Tryz.func55, Tryz.ntmps55
      go_wp2_with (first
        | (go_at_call 82; refine (isView_any _ _).mono ?_; rintro e w' ⟨rfl, rfl⟩)
        | (go_at_call 83; refine (isPixel_any _ _ _ _).mono ?_; rintro e w' ⟨rfl, hb⟩))
      all_goals (go_ret; exact ⟨ret_int hk.out.symm, by (repeat (first | exact Below.refl _ _ | assumption | refine Below.drew ?_ | refine bl_alloc ?_ _ | refine bl_then ?_ (by assumption) | refine Below.setCell ?_ (by first | omega | (simp; done) | (simp; omega)) _ | refine bl_store ?_ ?_ _ _))⟩)
  · simp only [Bool.and_eq_true] at hv
    obtain ⟨⟨h1, h2⟩, h3⟩ := hv
    have hz := pixB_zoom h3
    have hp := pixB_in h3
    have hn := pixI_bd hz
    have hw : 1 ≤ wd ∧ wd ≤ 8 := by simpa [inB] using h1
    have hh : 1 ≤ ht ∧ ht ≤ 8 := by simpa [inB] using h2
    have hk : Hid (camC z x y wd ht = if pixB z (x + wd - 1) (y + ht - 1) = true then 0 else 3) := by
      show _ = _
      unfold camC
      have : camB z x y wd ht = pixB z (x + wd - 1) (y + ht - 1) := by
        rw [Bool.eq_iff_iff]
        simp [camB, pixB, inB, hz]
        omega
      rw [this]
    have sL := fun w => camLast_any z x y wd ht w (by omega) (by omega) hw hh
    have sX := fun w => pxX_any (x + wd - 1) (y + ht - 1) w (by omega) (by omega)
    have sY := fun w => pxY_any (x + wd - 1) (y + ht - 1) w (by omega) (by omega)
    have sP := fun w => isPixel_any z (x + wd - 1) (y + ht - 1) w
    clear hp hn hw hh hz
    generalize x + wd - 1 = lx at *
    generalize y + ht - 1 = ly at *
    go_enter Tryz.func55, Tryz.ntmps55
    go_wp2_with fail
    generalize hW : (w.alloc _ : World) = W
    have HB0 : Hid (Below w.heap.size w W) := by show Below _ _ _; subst hW; (repeat (first | exact Below.refl _ _ | assumption | refine Below.drew ?_ | refine bl_alloc ?_ _ | refine bl_then ?_ (by assumption) | refine Below.setCell ?_ (by first | omega | (simp; done) | (simp; omega)) _ | refine bl_store ?_ ?_ _ _))
    have c00 : ∀ W', Below W.heap.size W W' → W'.cell? ⟨w.heap.size, 0, none⟩ = some (.int .i64 z) := fun W' h => by
      rw [h.cell (by subst hW; simp <;> omega)]; subst hW; simp [go_sem]
    have c01 : ∀ W', Below W.heap.size W W' → W'.cell? ⟨w.heap.size, 1, none⟩ = some (.int .i64 x) := fun W' h => by
      rw [h.cell (by subst hW; simp <;> omega)]; subst hW; simp [go_sem]
    have c02 : ∀ W', Below W.heap.size W W' → W'.cell? ⟨w.heap.size, 2, none⟩ = some (.int .i64 y) := fun W' h => by
      rw [h.cell (by subst hW; simp <;> omega)]; subst hW; simp [go_sem]
    have c03 : ∀ W', Below W.heap.size W W' → W'.cell? ⟨w.heap.size, 3, none⟩ = some (.int .i64 wd) := fun W' h => by
      rw [h.cell (by subst hW; simp <;> omega)]; subst hW; simp [go_sem]
    have c04 : ∀ W', Below W.heap.size W W' → W'.cell? ⟨w.heap.size, 4, none⟩ = some (.int .i64 ht) := fun W' h => by
      rw [h.cell (by subst hW; simp <;> omega)]; subst hW; simp [go_sem]
    clear hW
    have hr : Below W.heap.size W W := Below.refl _ _
    go_wp2_with (first
      | (go_at_call 82; refine (isView_any _ _).mono ?_; rintro e w' ⟨rfl, rfl⟩)
      | fail)
    refine (isPixel_any z x y _).mono ?_
    rintro e w1 ⟨rfl, hb1⟩
    go_wp2_with fail
    refine (sL _).mono ?_
    rintro e w2 ⟨rfl, hb2⟩
    have hB2 : Below W.heap.size W w2 := bl_then hb1 hb2
    clear hb1 hb2
    go_wp2_with fail
    cases hq : pixB z lx ly
    all_goals
      rw [hq] at sP hk
      go_region_held3 (fun W' => Below W.heap.size W W') ((repeat (first | exact Below.refl _ _ | assumption | refine Below.drew ?_ | refine bl_alloc ?_ _ | refine bl_then ?_ (by assumption) | refine Below.setCell ?_ (by first | omega | (simp; done) | (simp; omega)) _ | refine bl_store ?_ ?_ _ _)))
        (first
          | (go_at_call 85; refine (sX _).mono ?_; rintro e w3 ⟨rfl, rfl⟩)
          | (go_at_call 86; refine (sY _).mono ?_; rintro e w3 ⟨rfl, rfl⟩)
          | (go_at_call 83; refine (sP _).mono ?_; rintro e w3 ⟨rfl, hb⟩)
          | fail)
      go_wp2
      go_ret
      exact ⟨ret_int (by rw [hk.out]; rfl), bl_then HB0.out (by assumption)⟩
end Go.Proofs.YtbdhhclamgmfkaaGreat
/- The kids of a ref: the program and the model. -/

namespace Go.Proofs.YtbdhhclamgmfkaaGreat
open Go.RowKit
set_option linter.unusedSimpArgs false
set_option linter.unusedVariables false
set_option maxRecDepth 100000

theorem info_rf : (Tryz.prog.info? 87).map (fun i => (i.zero, i.size, i.bytes)) = some (some (.agg #[.int .i64 0, .int .i64 0, .int .i64 0]), 3, 24) := by kernel_rfl
def cellsR (R : Rfs) (n : Nat) : List Value := (List.range n).flatMap fun i => [.int .i64 (R.z i), .int .i64 (R.x i), .int .i64 (R.y i)]
theorem cellsR_add (R : Rfs) (n : Nat) : cellsR R (n + 1) = cellsR R n ++ [.int .i64 (R.z n), .int .i64 (R.x n), .int .i64 (R.y n)] := by simp [cellsR, List.range_succ]
theorem cellsR_len (R : Rfs) : ∀ n, (cellsR R n).length = n * 3
  | 0 => rfl
  | n + 1 => by rw [cellsR_add, List.length_append, cellsR_len R n]; simp; omega
theorem cellsR_at (R : Rfs) : ∀ (n i : Nat), i < n → (cellsR R n)[i * 3]? = some (.int .i64 (R.z i)) ∧ (cellsR R n)[i * 3 + 1]? = some (.int .i64 (R.x i)) ∧ (cellsR R n)[i * 3 + 2]? = some (.int .i64 (R.y i))
  | 0, i, h => absurd h (by omega)
  | n + 1, i, h => by
    rw [cellsR_add]
    by_cases e : i = n
    · subst e
      have hl := cellsR_len R i
      rw [List.getElem?_append_right (by omega), List.getElem?_append_right (by omega), List.getElem?_append_right (by omega), hl]
      have e1 : i * 3 + 1 - i * 3 = 1 := by omega
      have e2 : i * 3 + 2 - i * 3 = 2 := by omega
      rw [Nat.sub_self, e1, e2]
      exact ⟨rfl, rfl, rfl⟩
    · have hl := cellsR_len R n
      rw [List.getElem?_append_left (by omega), List.getElem?_append_left (by omega), List.getElem?_append_left (by omega)]
      exact cellsR_at R n i (by omega)
/-- v is a row of its own with n refs. -/
def RowT (base : Nat) (w : World) (v : Value) (n : Nat) (R : Rfs) : Prop := w.ownsRow base 87 3 v n (cellsR R n)
theorem RowT.no (base : Nat) (w : World) (R : Rfs) : RowT base w (.slice none 0 0) 0 R := World.ownsRow_nil _ _ _ _
theorem RowT.own {base : Nat} {w : World} {v : Value} {n : Nat} {R : Rfs} (h : RowT base w v n R) : OwnT w base v n R := by
  obtain ⟨h1, h2 | ⟨g, cp, cur, hv, hg, hh, hkc, hcm, hcs, htk⟩⟩ := h
  · obtain ⟨rfl, h0⟩ := h2
    rw [h0]
    exact ⟨none, 0, rfl, Nat.le_refl _, .inl rfl⟩
  · have hgl : g < w.heap.size := by
      rcases Nat.lt_or_ge g w.heap.size with h' | h'
      · exact h'
      · rw [Array.getElem?_eq_none h'] at hh; cases hh
    have hrow : w.ownsRow base 87 3 (.slice (some ⟨g, 0, none⟩) n cp) n (cellsR R n) := ⟨h1, .inr ⟨g, cp, cur, rfl, hg, hh, hkc, hcm, hcs, htk⟩⟩
    refine ⟨some ⟨g, 0, none⟩, cp, hv, hkc, .inr ⟨g, rfl, hg, hgl, fun i hi => ?_, fun o ho => ⟨?_, hrow.frozenAt o⟩⟩⟩
    · obtain ⟨e1, e2, e3⟩ := cellsR_at R n i hi
      simp only [Nat.zero_add]
      exact ⟨(hrow.cellAt _ (by omega)).trans e1, (hrow.cellAt _ (by omega)).trans e2, (hrow.cellAt _ (by omega)).trans e3⟩
    · rw [hrow.cellAt o ho]
      have hlt : o < (cellsR R n).length := by rw [cellsR_len]; exact ho
      exact ⟨(cellsR R n)[o], List.getElem?_eq_getElem hlt⟩
theorem there2r (V : World) (a b : Value) (t : TypeId) : There (V.alloc (.cells #[a, b] t)) V.heap.size 2 := fun o ho => by
  have : o = 0 ∨ o = 1 := by omega
  rcases this with rfl | rfl <;> exact ⟨⟨_, by simp [go_sem]; rfl⟩, by simp [go_sem]⟩
/-- A list stays where another block is written. -/
theorem OwnT.set {w : World} {base B r o : Nat} {v u : Value} {n : Nat} {R : Rfs} (h : OwnT w base v n R) (hr : r < base) (hB : B ≤ base) : OwnT (w.setCell ⟨r, o, none⟩ u) B v n R := by
  obtain ⟨a, cap, hv, hc, h0 | ⟨b, ha, hbb, hl, hp, ht⟩⟩ := h
  · exact ⟨a, cap, hv, hc, .inl h0⟩
  · have hne : ∀ i : Nat, (⟨r, o, none⟩ : Addr) ≠ ⟨b, i, none⟩ := fun i e => by injection e with e; omega
    refine ⟨a, cap, hv, hc, .inr ⟨b, ha, by omega, by simpa [World.setCell] using hl, fun i hi => ?_, fun o' ho' => ?_⟩⟩
    · obtain ⟨h0, h1, h2⟩ := hp i hi
      exact ⟨by rw [set1_other (hne _)]; exact h0, by rw [set1_other (hne _)]; exact h1, by rw [set1_other (hne _)]; exact h2⟩
    · obtain ⟨⟨x, hx⟩, hf⟩ := ht o' ho'
      exact ⟨⟨x, by rw [set1_other (hne _)]; exact hx⟩, by rw [World.frozen?_setCell]; exact hf⟩
end Go.Proofs.YtbdhhclamgmfkaaGreat
