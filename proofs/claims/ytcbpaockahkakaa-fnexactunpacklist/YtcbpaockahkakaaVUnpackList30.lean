/- The sum of bytes: the program's and the model's way. -/
import Derived.Test.YtcbpaockahkakaaVUnpackList2
namespace Go.Proofs.Ytcbpaockahkakaa
open Go.RowKit
set_option linter.unusedSimpArgs false
set_option linter.unusedVariables false
set_option maxRecDepth 100000

/-- The sum of the first n bytes. -/
def sumZ (Z : Nat → Int) : Nat → Int
  | 0 => 1
  | k + 1 => (sumZ Z k * 31 + Z k) % 65521
theorem sumZ_bd (Z : Nat → Int) : ∀ n, 0 ≤ sumZ Z n ∧ sumZ Z n < 65521
  | 0 => by simp [sumZ]
  | k + 1 => by unfold sumZ; omega

set_option maxHeartbeats 1000000 in
theorem sumOf_any (a : Option Addr) (n cap : Nat) (Z : Nat → Int) (w : World) (hp : IsBytes w a n Z) (hr : ∀ i, 0 ≤ Z i ∧ Z i ≤ 255) (hmax : n ≤ 1048576) :
    Calls Try.prog 41 #[.slice a n cap] w fun e w' => e = .returned (.int .u64 (sumZ Z n)) ∧ w = w' := by
  have HP : Hid (IsBytes w a n Z) := hp
  clear hp
  have HR : Hid (∀ i, 0 ≤ Z i ∧ Z i ≤ 255) := hr
  clear hr
  go_enter Try.func41, Try.ntmps41
  go_wp2
  go_loopw [3, 8] (fun u i wr => ∃ k : Nat, k ≤ n ∧ i = .int .i64 (k : Int) ∧ u = .int .u64 (sumZ Z k) ∧ w = wr) (fun _ i _ => n - (intOf i).toNat)
  case atStart => exact ⟨0, by omega, rfl, rfl, rfl⟩
  case round =>
    obtain ⟨k, hk, rfl, rfl, rfl⟩ := hrel
    by_cases hlt : k < n
    · rcases HP.out with h0 | ⟨b, off, rfl, hbl, hpt⟩
      · omega
      have hx := hpt k hlt
      obtain ⟨z1, z2⟩ := HR.out k
      have hs : Hid (sumZ Z (k + 1) = (sumZ Z k * 31 + Z k) % 65521) := rfl
      obtain ⟨s1, s2⟩ := sumZ_bd Z k
      generalize sumZ Z k = x at *
      generalize Z k = y at *
      clear hpt
      have hi : (k : Int) < (n : Int) := by omega
      have hi0 : (0 : Int) ≤ (k : Int) := by omega
      have e1 : IntKind.u64.wrap (x * 31) = x * 31 := by rw [IntKind.wrap_u64]; omega
      have e2 : IntKind.u64.wrap y = y := by rw [IntKind.wrap_u64]; omega
      have e3 : IntKind.u64.wrap (x * 31 + y) = x * 31 + y := by rw [IntKind.wrap_u64]; omega
      have e4 : (x * 31 + y).tmod 65521 = (x * 31 + y) % 65521 := Int.tmod_eq_emod_of_nonneg (by omega)
      have e5 : IntKind.u64.wrap ((x * 31 + y) % 65521) = (x * 31 + y) % 65521 := by rw [IntKind.wrap_u64]; omega
      go_wp2
      go_roundw
      case rel => exact ⟨k + 1, by omega, by go_num, by rw [hs.out], by first | rfl | trivial⟩
      case measure => simp [intOf]; omega
    · go_wp2
      go_ret
      have hkn : k = n := by omega
      subst hkn
      exact ⟨rfl, rfl⟩
set_option maxHeartbeats 1000000 in
theorem l6Sum_any (a : Option Addr) (n cap : Nat) (Z : Nat → Int) (w : World) (hp : IsBytes w a n Z) (hr : ∀ i, 0 ≤ Z i ∧ Z i ≤ 255) (hmax : n ≤ 1048576) :
    Calls Try.prog 59 #[.slice a n cap] w fun e w' => e = .returned (.int .i64 (sumZ Z n)) ∧ w = w' := by
  have HP : Hid (IsBytes w a n Z) := hp
  clear hp
  have HR : Hid (∀ i, 0 ≤ Z i ∧ Z i ≤ 255) := hr
  clear hr
  go_enter Try.func59, Try.ntmps59
  go_wp2
  go_loopw [3, 4] (fun u i wr => ∃ k : Nat, k ≤ n ∧ i = .int .i64 (k : Int) ∧ u = .int .i64 (sumZ Z k) ∧ w = wr) (fun _ i _ => n - (intOf i).toNat)
  case atStart => exact ⟨0, by omega, rfl, rfl, rfl⟩
  case round =>
    obtain ⟨k, hk, rfl, rfl, rfl⟩ := hrel
    by_cases hlt : k < n
    · rcases HP.out with h0 | ⟨b, off, rfl, hbl, hpt⟩
      · omega
      have hx := hpt k hlt
      obtain ⟨z1, z2⟩ := HR.out k
      have hs : Hid (sumZ Z (k + 1) = (sumZ Z k * 31 + Z k) % 65521) := rfl
      obtain ⟨s1, s2⟩ := sumZ_bd Z k
      generalize sumZ Z k = x at *
      generalize Z k = y at *
      clear hpt
      have hi : (k : Int) < (n : Int) := by omega
      have hi0 : (0 : Int) ≤ (k : Int) := by omega
      have e4 : (x * 31 + y).tmod 65521 = (x * 31 + y) % 65521 := Int.tmod_eq_emod_of_nonneg (by omega)
      go_wp2
      go_roundw
      case rel => exact ⟨k + 1, by omega, by go_num, by rw [hs.out], by first | rfl | trivial⟩
      case measure => simp [intOf]; omega
    · go_wp2
      go_ret
      have hkn : k = n := by omega
      subst hkn
      exact ⟨rfl, rfl⟩
/-- The answer of SumBytes. -/
def sumV (n : Nat) (Z : Nat → Int) : Value := if 900 < n then .agg #[.int .i64 2, .int .i64 0] else .agg #[.int .i64 0, .int .i64 (sumZ Z n)]
theorem impl_SumBytes_any (a : Option Addr) (n cap : Nat) (Z : Nat → Int) (w : World) (hp : IsBytes w a n Z) (hr : ∀ i, 0 ≤ Z i ∧ Z i ≤ 255) (hmax : n ≤ 1048576) :
    Calls Try.prog 14 #[.slice a n cap] w fun e w' => e = .returned (sumV n Z) ∧ Below w.heap.size w w' := by
  have HH : Hid (∀ W, Below w.heap.size w W → Calls Try.prog 41 #[.slice a n cap] W fun e w' => e = .returned (.int .u64 (sumZ Z n)) ∧ W = w') := fun W hb => sumOf_any a n cap Z W (hp.below hb) hr hmax
  obtain ⟨s1, s2⟩ := sumZ_bd Z n
  have e1 : IntKind.i64.wrap (sumZ Z n) = sumZ Z n := IntWalk.i64_in _ (by omega)
  clear hp hr
  by_cases h : 900 < n
  · have hV : Hid (sumV n Z = .agg #[.int .i64 2, .int .i64 0]) := by show _ = _; simp [sumV, h]
    have h' : (900 : Int) < (n : Int) := by omega
    go_enter Try.func14, Try.ntmps14
    go_wp2
    exact bodyPost_ret (v := .agg #[.int .i64 2, .int .i64 0]) (by simp [results, Try.results14, go_sem]) rfl ⟨by rw [hV.out], by (repeat (first | exact Below.refl _ _ | assumption | refine Below.drew ?_ | refine bl_alloc ?_ _ | refine bl_then ?_ (by assumption) | refine Below.setCell ?_ (by first | omega | (simp; done) | (simp; omega)) _ | refine bl_store ?_ ?_ _ _))⟩
  · have hV : Hid (sumV n Z = .agg #[.int .i64 0, .int .i64 (sumZ Z n)]) := by show _ = _; simp [sumV, h]
    have h' : ¬ (900 : Int) < (n : Int) := by omega
    generalize sumZ Z n = x at *
    go_enter Try.func14, Try.ntmps14
    go_wp2_with (go_at_call 41; refine (HH.out _ (by (repeat (first | exact Below.refl _ _ | assumption | refine Below.drew ?_ | refine bl_alloc ?_ _ | refine bl_then ?_ (by assumption) | refine Below.setCell ?_ (by first | omega | (simp; done) | (simp; omega)) _ | refine bl_store ?_ ?_ _ _)))).mono ?_; rintro e w' ⟨rfl, rfl⟩)
    exact bodyPost_ret (v := .agg #[.int .i64 0, .int .i64 x]) (by simp [results, Try.results14, go_sem, e1]) rfl ⟨by rw [hV.out], by (repeat (first | exact Below.refl _ _ | assumption | refine Below.drew ?_ | refine bl_alloc ?_ _ | refine bl_then ?_ (by assumption) | refine Below.setCell ?_ (by first | omega | (simp; done) | (simp; omega)) _ | refine bl_store ?_ ?_ _ _))⟩
end Go.Proofs.Ytcbpaockahkakaa
