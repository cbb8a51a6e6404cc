/- A number is read from bytes: the model's way. -/
import Derived.Test.YtdkjbfppogdokaaRd
namespace Go.Proofs.Ytdkjbfppogdokaa
open Go.RowKit
set_option linter.unusedSimpArgs false
set_option linter.unusedVariables false
set_option maxRecDepth 100000

/-- What l6Read tells. -/
def rdN (Z : Nat → Int) (n : Nat) : Nat × Nat := (rd Z n).getD (0, 0)
set_option maxHeartbeats 4000000 in
theorem l6Read_any (a : Option Addr) (n cap : Nat) (Z : Nat → Int) (w : World) (hp : IsBytes w a n Z) (hr : ∀ i, 0 ≤ Z i ∧ Z i ≤ 255) (hmax : n ≤ 1048576) :
    Calls Try.prog 39 #[.slice a n cap] w fun e w' => e = .returned (.tuple #[.int .i64 ((rdN Z n).1 : Int), .int .i64 ((rdN Z n).2 : Int)]) ∧ w = w' := by
  have HP : Hid (IsBytes w a n Z) := hp
  have HR : Hid (∀ i, 0 ≤ Z i ∧ Z i ≤ 255) := hr
  clear hp hr
  go_enter Try.func39, Try.ntmps39
  go_wp2
  go_loopw [4, 5, 6] (fun x u i wr => ∃ (k f A U : Nat), i = .int .i64 (k : Int) ∧ x = .int .i64 (A : Int) ∧ u = .int .i64 (U : Int) ∧ Hid (k + f = 6 ∧ 128 ^ k = U ∧ A < U ∧ rdFrom Z n f k A = rd Z n) ∧ w = wr) (fun _ _ i _ => 6 - (intOf i).toNat)
  case atStart => exact ⟨0, 6, 0, 1, rfl, rfl, rfl, ⟨rfl, rfl, by omega, rfl⟩, rfl⟩
  case round =>
    obtain ⟨k, f, A, U, rfl, rfl, rfl, HK, rfl⟩ := hrel
    by_cases hlt : k < n
    · by_cases hk6 : k < 6
      · obtain ⟨hkf, hU, hA, hrd⟩ := HK.out
        obtain ⟨f, rfl⟩ : ∃ g, f = g + 1 := ⟨f - 1, by omega⟩
        rcases HP.out with h0 | ⟨b, off, rfl, hbl, hpt⟩
        · omega
        have hx := hpt k hlt
        obtain ⟨z1, z2⟩ := HR.out k
        obtain ⟨z, hz⟩ : ∃ z : Nat, Z k = (z : Int) := ⟨(Z k).toNat, by omega⟩
        rw [hz] at hx z1 z2
        obtain ⟨u1, u2⟩ := pow_bd (k := k) (by omega)
        rw [hU] at u1 u2
        obtain ⟨p1, p2⟩ := part_bd (z := z) u2
        obtain ⟨P, hP⟩ : ∃ P, z % 128 * U = P := ⟨_, rfl⟩
        rw [hP] at p1 p2
        have hPU : Hid (z % 128 * 128 ^ k = P) := by show _ = _; rw [hU]; exact hP
        have e1 : IntKind.u8.wrap ((z : Int) % 128) = (z : Int) % 128 := by rw [IntKind.wrap_u8]; omega
        have e2 : (z : Int) % 128 * (U : Int) = (P : Int) := by rw [← hP]; simp
        have e3 : (z : Int).tmod 128 = (z : Int) % 128 := Int.tmod_eq_emod_of_nonneg (by omega)
        have HM : Hid (rdFrom Z n (f + 1) k A = rd Z n) := hrd
        have HZ : Hid (Z k = (z : Int)) := hz
        have HU : Hid (128 ^ (k + 1) = 128 * U) := by show _ = _; rw [Nat.pow_succ, hU, Nat.mul_comm]
        have hi : (k : Int) < (n : Int) := by omega
        have hi6 : (k : Int) < 6 := by omega
        have hi0 : (0 : Int) ≤ (k : Int) := by omega
        clear hpt hU hP hrd hz HK
        by_cases h8 : z < 128
        · have h8' : (z : Int) < 128 := by omega
          have HL : Hid (rd Z n = if (0 < k ∧ z = 0) ∨ 1099511627776 < A + P then none else some (A + P, k + 1)) := by show _ = _; rw [← HM.out, rdFrom_last hlt HZ.out h8 hPU.out]
          by_cases hkz : 0 < k ∧ z = 0
          · have HN : Hid (rdN Z n = (0, 0)) := by show _ = _; unfold rdN; rw [HL.out, if_pos (.inl hkz)]; rfl
            obtain ⟨hk0, rfl⟩ := hkz
            have hk0' : (0 : Int) < (k : Int) := by omega
            clear HL HM HZ HU hPU
            go_wp2
            exact bodyPost_ret (v := .tuple #[.int .i64 0, .int .i64 0]) (by simp [results, Try.results39, go_sem]) rfl ⟨by rw [HN.out]; rfl, rfl⟩
          · by_cases h40 : 1099511627776 < A + P
            · have HN : Hid (rdN Z n = (0, 0)) := by show _ = _; unfold rdN; rw [HL.out, if_pos (.inr h40)]; rfl
              have hk1 : 0 < k := by
                rcases Nat.eq_zero_or_pos k with h | h
                · subst h; have := hPU.out; simp at this; omega
                · exact h
              have hz0 : ¬ z = 0 := fun h => hkz ⟨hk1, h⟩
              have hz0' : ¬ (z : Int) = 0 := by omega
              have hk0' : (0 : Int) < (k : Int) := by omega
              have hin : inB ((A : Int) + (P : Int)) 0 1099511627776 = false := by simp [inB]; omega
              clear HL HM HZ HU hPU hkz
              go_wp2_with (go_at_call 45; refine (l6Top_any _ _).mono ?_; rintro e w' ⟨rfl, rfl⟩)
              exact bodyPost_ret (v := .tuple #[.int .i64 0, .int .i64 0]) (by simp [results, Try.results39, go_sem]) rfl ⟨by rw [HN.out]; rfl, rfl⟩
            · have HN : Hid (rdN Z n = (A + P, k + 1)) := by show _ = _; unfold rdN; rw [HL.out, if_neg (by omega)]; rfl
              have hin : inB ((A : Int) + (P : Int)) 0 1099511627776 = true := by simp [inB]; omega
              by_cases hk1 : 0 < k
              · have hz0 : ¬ z = 0 := fun h => hkz ⟨hk1, h⟩
                have hz0' : ¬ (z : Int) = 0 := by omega
                have hk0' : (0 : Int) < (k : Int) := by omega
                clear HL HM HZ HU hPU hkz
                go_wp2_with (go_at_call 45; refine (l6Top_any _ _).mono ?_; rintro e w' ⟨rfl, rfl⟩)
                exact bodyPost_ret (v := .tuple #[.int .i64 ((A : Int) + (P : Int)), .int .i64 ((k : Int) + 1)]) (by simp [results, Try.results39, go_sem]) rfl ⟨by rw [HN.out]; simp, rfl⟩
              · have hk0' : ¬ (0 : Int) < (k : Int) := by omega
                clear HL HM HZ HU hPU hkz
                go_wp2_with (go_at_call 45; refine (l6Top_any _ _).mono ?_; rintro e w' ⟨rfl, rfl⟩)
                exact bodyPost_ret (v := .tuple #[.int .i64 ((A : Int) + (P : Int)), .int .i64 ((k : Int) + 1)]) (by simp [results, Try.results39, go_sem]) rfl ⟨by rw [HN.out]; simp, rfl⟩
        · have h8' : ¬ (z : Int) < 128 := by omega
          go_wp2
          go_roundw
          case rel => exact ⟨k + 1, f, A + P, 128 * U, by go_num, by go_num, by go_num, ⟨by omega, HU.out, by omega, by rw [← HM.out, rdFrom_more hlt HZ.out h8 hPU.out]⟩, by first | rfl | trivial⟩
          case measure => simp [intOf]; omega
      · have hk6' : ¬ (k : Int) < 6 := by omega
        have hi : (k : Int) < (n : Int) := by omega
        have HN : Hid (rdN Z n = (0, 0)) := by
          show _ = _
          obtain ⟨hkf, hU, hA, hrd⟩ := HK.out
          obtain rfl : f = 0 := by omega
          unfold rdN
          rw [← hrd]
          rfl
        clear HK
        go_wp2
        exact bodyPost_ret (v := .tuple #[.int .i64 0, .int .i64 0]) (by simp [results, Try.results39, go_sem]) rfl ⟨by rw [HN.out]; rfl, rfl⟩
    · have hi : ¬ (k : Int) < (n : Int) := by omega
      have HN : Hid (rdN Z n = (0, 0)) := by
        show _ = _
        obtain ⟨hkf, hU, hA, hrd⟩ := HK.out
        unfold rdN
        rw [← hrd, rdFrom_end _ _ _ _ _ hlt]
        rfl
      clear HK
      go_wp2
      exact bodyPost_ret (v := .tuple #[.int .i64 0, .int .i64 0]) (by simp [results, Try.results39, go_sem]) rfl ⟨by rw [HN.out]; rfl, rfl⟩
/-- The answer of ReadNumber. -/
def rdV (Z : Nat → Int) (n : Nat) : Value := match rd Z n with
  | none => .agg #[.int .i64 5, .int .i64 0, .int .i64 0]
  | some x => .agg #[.int .i64 0, .int .i64 (x.1 : Int), .int .i64 (x.2 : Int)]
set_option maxHeartbeats 1000000 in
theorem spec_ReadNumber_any (a : Option Addr) (n cap : Nat) (Z : Nat → Int) (w : World) (hp : IsBytes w a n Z) (hr : ∀ i, 0 ≤ Z i ∧ Z i ≤ 255) (hmax : n ≤ 1048576) :
    Calls Try.prog 13 #[.slice a n cap] w fun e w' => e = .returned (rdV Z n) ∧ Below w.heap.size w w' := by
  have HH : Hid (∀ W, Below w.heap.size w W → Calls Try.prog 39 #[.slice a n cap] W fun e w' => e = .returned (.tuple #[.int .i64 ((rdN Z n).1 : Int), .int .i64 ((rdN Z n).2 : Int)]) ∧ W = w') := fun W hb => l6Read_any a n cap Z W (hp.below hb) hr hmax
  clear hp hr
  cases hrd : rd Z n with
  | none =>
    have hN : rdN Z n = (0, 0) := by unfold rdN; rw [hrd]; rfl
    have hV : Hid (rdV Z n = .agg #[.int .i64 5, .int .i64 0, .int .i64 0]) := by show _ = _; unfold rdV; rw [hrd]
    rw [hN] at HH
    go_enter Try.func13, Try.ntmps13
    go_wp2_with (go_at_call 39; refine (HH.out _ (by (repeat (first | exact Below.refl _ _ | assumption | refine Below.drew ?_ | refine bl_alloc ?_ _ | refine bl_then ?_ (by assumption) | refine Below.setCell ?_ (by first | omega | (simp; done) | (simp; omega)) _ | refine bl_store ?_ ?_ _ _)))).mono ?_; rintro e w' ⟨rfl, rfl⟩)
    exact bodyPost_ret (v := .agg #[.int .i64 5, .int .i64 0, .int .i64 0]) (by simp [results, Try.results13, go_sem]) rfl ⟨by rw [hV.out], by (repeat (first | exact Below.refl _ _ | assumption | refine Below.drew ?_ | refine bl_alloc ?_ _ | refine bl_then ?_ (by assumption) | refine Below.setCell ?_ (by first | omega | (simp; done) | (simp; omega)) _ | refine bl_store ?_ ?_ _ _))⟩
  | some x =>
    obtain ⟨x, y⟩ := x
    have hN : rdN Z n = (x, y) := by unfold rdN; rw [hrd]; rfl
    have hV : Hid (rdV Z n = .agg #[.int .i64 0, .int .i64 (x : Int), .int .i64 (y : Int)]) := by show _ = _; unfold rdV; rw [hrd]
    obtain ⟨_, h2, _, _⟩ := rd_bd hrd
    simp only at h2
    have h2' : ¬ (y : Int) = 0 := by omega
    rw [hN] at HH
    clear hrd
    go_enter Try.func13, Try.ntmps13
    go_wp2_with (go_at_call 39; refine (HH.out _ (by (repeat (first | exact Below.refl _ _ | assumption | refine Below.drew ?_ | refine bl_alloc ?_ _ | refine bl_then ?_ (by assumption) | refine Below.setCell ?_ (by first | omega | (simp; done) | (simp; omega)) _ | refine bl_store ?_ ?_ _ _)))).mono ?_; rintro e w' ⟨rfl, rfl⟩)
    exact bodyPost_ret (v := .agg #[.int .i64 0, .int .i64 (x : Int), .int .i64 (y : Int)]) (by simp [results, Try.results13, go_sem]) rfl ⟨by rw [hV.out], by (repeat (first | exact Below.refl _ _ | assumption | refine Below.drew ?_ | refine bl_alloc ?_ _ | refine bl_then ?_ (by assumption) | refine Below.setCell ?_ (by first | omega | (simp; done) | (simp; omega)) _ | refine bl_store ?_ ?_ _ _))⟩
end Go.Proofs.Ytdkjbfppogdokaa
