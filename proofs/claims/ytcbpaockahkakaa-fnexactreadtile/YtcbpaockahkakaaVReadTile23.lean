/- Several texts in one. -/
import Derived.Test.YtcbpaockahkakaaVReadTile1
import Derived.Test.YtcbpaockahkakaaVReadTile7
import Derived.Laws.Bits64b

/- The sum of bytes: the program's and the model's way. -/

namespace Go.Proofs.Ytcbpaockahkakaa
open Go.RowKit
set_option linter.unusedSimpArgs false
set_option linter.unusedVariables false
set_option maxRecDepth 100000

/-- The sum of the first n bytes. -/
def sumZ (Z : Nat → Int) : Nat → Int
  | 0 => 1
  | k + 1 => (sumZ Z k * 31 + Z k) % 65521
theorem sumZ_bd (Z : Nat → Int) : ∀ n, 0 ≤ sumZ Z n ∧ sumZ Z n < 65521
  | 0 => by simp [sumZ]
  | k + 1 => by unfold sumZ; omega

set_option maxHeartbeats 1000000 in
theorem sumOf_any (a : Option Addr) (n cap : Nat) (Z : Nat → Int) (w : World) (hp : IsBytes w a n Z) (hr : ∀ i, 0 ≤ Z i ∧ Z i ≤ 255) (hmax : n ≤ 1048576) :
    Calls Try.prog 41 #[.slice a n cap] w fun e w' => e = .returned (.int .u64 (sumZ Z n)) ∧ w = w' := by
  have HP : Hid (IsBytes w a n Z) := hp
  clear hp
  have HR : Hid (∀ i, 0 ≤ Z i ∧ Z i ≤ 255) := hr
  clear hr
  go_enter Try.func41, Try.ntmps41
  go_wp2
  go_loopw [3, 8] (fun u i wr => ∃ k : Nat, k ≤ n ∧ i = .int .i64 (k : Int) ∧ u = .int .u64 (sumZ Z k) ∧ w = wr) (fun _ i _ => n - (intOf i).toNat)
  case atStart => exact ⟨0, by omega, rfl, rfl, rfl⟩
  case round =>
    obtain ⟨k, hk, rfl, rfl, rfl⟩ := hrel
    by_cases hlt : k < n
    · rcases HP.out with h0 | ⟨b, off, rfl, hbl, hpt⟩
      · omega
      have hx := hpt k hlt
      obtain ⟨z1, z2⟩ := HR.out k
      have hs : Hid (sumZ Z (k + 1) = (sumZ Z k * 31 + Z k) % 65521) := rfl
      obtain ⟨s1, s2⟩ := sumZ_bd Z k
      generalize sumZ Z k = x at *
      generalize Z k = y at *
      clear hpt
      have hi : (k : Int) < (n : Int) := by omega
      have hi0 : (0 : Int) ≤ (k : Int) := by omega
      have e1 : IntKind.u64.wrap (x * 31) = x * 31 := by rw [IntKind.wrap_u64]; omega
      have e2 : IntKind.u64.wrap y = y := by rw [IntKind.wrap_u64]; omega
      have e3 : IntKind.u64.wrap (x * 31 + y) = x * 31 + y := by rw [IntKind.wrap_u64]; omega
      have e4 : (x * 31 + y).tmod 65521 = (x * 31 + y) % 65521 := Int.tmod_eq_emod_of_nonneg (by omega)
      have e5 : IntKind.u64.wrap ((x * 31 + y) % 65521) = (x * 31 + y) % 65521 := by rw [IntKind.wrap_u64]; omega
      go_wp2
      go_roundw
      case rel => exact ⟨k + 1, by omega, by go_num, by rw [hs.out], by first | rfl | trivial⟩
      case measure => simp [intOf]; omega
    · go_wp2
      go_ret
      have hkn : k = n := by omega
      subst hkn
      exact ⟨rfl, rfl⟩
set_option maxHeartbeats 1000000 in
theorem l6Sum_any (a : Option Addr) (n cap : Nat) (Z : Nat → Int) (w : World) (hp : IsBytes w a n Z) (hr : ∀ i, 0 ≤ Z i ∧ Z i ≤ 255) (hmax : n ≤ 1048576) :
    Calls Try.prog 59 #[.slice a n cap] w fun e w' => e = .returned (.int .i64 (sumZ Z n)) ∧ w = w' := by
  have HP : Hid (IsBytes w a n Z) := hp
  clear hp
  have HR : Hid (∀ i, 0 ≤ Z i ∧ Z i ≤ 255) := hr
  clear hr
  go_enter Try.func59, Try.ntmps59
  go_wp2
  go_loopw [3, 4] (fun u i wr => ∃ k : Nat, k ≤ n ∧ i = .int .i64 (k : Int) ∧ u = .int .i64 (sumZ Z k) ∧ w = wr) (fun _ i _ => n - (intOf i).toNat)
  case atStart => exact ⟨0, by omega, rfl, rfl, rfl⟩
  case round =>
    obtain ⟨k, hk, rfl, rfl, rfl⟩ := hrel
    by_cases hlt : k < n
    · rcases HP.out with h0 | ⟨b, off, rfl, hbl, hpt⟩
      · omega
      have hx := hpt k hlt
      obtain ⟨z1, z2⟩ := HR.out k
      have hs : Hid (sumZ Z (k + 1) = (sumZ Z k * 31 + Z k) % 65521) := rfl
      obtain ⟨s1, s2⟩ := sumZ_bd Z k
      generalize sumZ Z k = x at *
      generalize Z k = y at *
      clear hpt
      have hi : (k : Int) < (n : Int) := by omega
      have hi0 : (0 : Int) ≤ (k : Int) := by omega
      have e4 : (x * 31 + y).tmod 65521 = (x * 31 + y) % 65521 := Int.tmod_eq_emod_of_nonneg (by omega)
      go_wp2
      go_roundw
      case rel => exact ⟨k + 1, by omega, by go_num, by rw [hs.out], by first | rfl | trivial⟩
      case measure => simp [intOf]; omega
    · go_wp2
      go_ret
      have hkn : k = n := by omega
      subst hkn
      exact ⟨rfl, rfl⟩
/-- The answer of SumBytes. -/
def sumV (n : Nat) (Z : Nat → Int) : Value := if 900 < n then .agg #[.int .i64 2, .int .i64 0] else .agg #[.int .i64 0, .int .i64 (sumZ Z n)]
theorem impl_SumBytes_any (a : Option Addr) (n cap : Nat) (Z : Nat → Int) (w : World) (hp : IsBytes w a n Z) (hr : ∀ i, 0 ≤ Z i ∧ Z i ≤ 255) (hmax : n ≤ 1048576) :
    Calls Try.prog 14 #[.slice a n cap] w fun e w' => e = .returned (sumV n Z) ∧ Below w.heap.size w w' := by
  have HH : Hid (∀ W, Below w.heap.size w W → Calls Try.prog 41 #[.slice a n cap] W fun e w' => e = .returned (.int .u64 (sumZ Z n)) ∧ W = w') := fun W hb => sumOf_any a n cap Z W (hp.below hb) hr hmax
  obtain ⟨s1, s2⟩ := sumZ_bd Z n
  have e1 : IntKind.i64.wrap (sumZ Z n) = sumZ Z n := IntWalk.i64_in _ (by omega)
  clear hp hr
  by_cases h : 900 < n
  · have hV : Hid (sumV n Z = .agg #[.int .i64 2, .int .i64 0]) := by show _ = _; simp [sumV, h]
    have h' : (900 : Int) < (n : Int) := by omega
    go_enter Try.func14, Try.ntmps14
    go_wp2
    exact bodyPost_ret (v := .agg #[.int .i64 2, .int .i64 0]) (by simp [results, Try.results14, go_sem]) rfl ⟨by rw [hV.out], by (repeat (first | exact Below.refl _ _ | assumption | refine Below.drew ?_ | refine bl_alloc ?_ _ | refine bl_then ?_ (by assumption) | refine Below.setCell ?_ (by first | omega | (simp; done) | (simp; omega)) _ | refine bl_store ?_ ?_ _ _))⟩
  · have hV : Hid (sumV n Z = .agg #[.int .i64 0, .int .i64 (sumZ Z n)]) := by show _ = _; simp [sumV, h]
    have h' : ¬ (900 : Int) < (n : Int) := by omega
    generalize sumZ Z n = x at *
    go_enter Try.func14, Try.ntmps14
    go_wp2_with (go_at_call 41; refine (HH.out _ (by (repeat (first | exact Below.refl _ _ | assumption | refine Below.drew ?_ | refine bl_alloc ?_ _ | refine bl_then ?_ (by assumption) | refine Below.setCell ?_ (by first | omega | (simp; done) | (simp; omega)) _ | refine bl_store ?_ ?_ _ _)))).mono ?_; rintro e w' ⟨rfl, rfl⟩)
    exact bodyPost_ret (v := .agg #[.int .i64 0, .int .i64 x]) (by simp [results, Try.results14, go_sem, e1]) rfl ⟨by rw [hV.out], by (repeat (first | exact Below.refl _ _ | assumption | refine Below.drew ?_ | refine bl_alloc ?_ _ | refine bl_then ?_ (by assumption) | refine Below.setCell ?_ (by first | omega | (simp; done) | (simp; omega)) _ | refine bl_store ?_ ?_ _ _))⟩
end Go.Proofs.Ytcbpaockahkakaa
/- The sum at the end is taken off and asked for: the program's way. -/

namespace Go.Proofs.Ytcbpaockahkakaa
open Go.RowKit
set_option linter.unusedSimpArgs false
set_option linter.unusedVariables false
set_option maxRecDepth 100000

/-- The last two bytes tell the sum of those ahead of them. -/
def sumOk (Z : Nat → Int) (n : Nat) : Prop := 2 ≤ n ∧ Z (n - 2) * 256 + Z (n - 1) = sumZ Z (n - 2)
set_option maxHeartbeats 1000000 in
theorem checkSum_short (p B n : Nat) (Z : Nat → Int) (w : World) (h : UpAt w p B n Z) (hn : n < 2) :
    Calls Try.prog 34 #[.pointer (some ⟨p, 0, none⟩)] w fun e w' => Pan e ∧ Keeps p w w' := by
  obtain ⟨a, cap, h0, h1, h2, h3⟩ := h
  clear h3
  have hlt : (n : Int) - 2 < 0 := by omega
  have hw : IntKind.i64.wrap ((n : Int) - 2) = (n : Int) - 2 := IntWalk.i64_in _ (by omega)
  go_enter Try.func34, Try.ntmps34
  go_wp2
  exact ⟨rfl, ⟨_, _, rfl⟩, Keeps.refl _ _⟩
set_option maxHeartbeats 2000000 in
theorem checkSum_long (p B n : Nat) (Z : Nat → Int) (w : World) (h : UpAt w p B n Z) (hB : B ≤ p) (hp : p < w.heap.size) (hr : ∀ i, 0 ≤ Z i ∧ Z i ≤ 255) (hn : 2 ≤ n) (hmax : n ≤ 1048576) :
    Calls Try.prog 34 #[.pointer (some ⟨p, 0, none⟩)] w fun e w' => if Z (n - 2) * 256 + Z (n - 1) = sumZ Z (n - 2) then e = .returned (.tuple #[]) ∧ UpAt w' p B (n - 2) Z ∧ Keeps p w w' else Pan e ∧ Keeps p w w' := by
  obtain ⟨a, cap, h0, h1, h2, h3⟩ := h
  rcases h3 with h3 | ⟨b, off, rfl, hb, hz⟩
  · omega
  obtain ⟨E, hE⟩ : ∃ E : Nat, n = E + 2 := ⟨n - 2, by omega⟩
  subst hE
  have HZ : Hid (BsAt w b off (E + 2) Z) := hz
  have HR : Hid (∀ i, 0 ≤ Z i ∧ Z i ≤ 255) := hr
  clear hz hr
  have hw : IntKind.i64.wrap (((E + 2 : Nat) : Int) - 2) = (E : Int) := by rw [IntWalk.i64_in _ (by omega)]; omega
  have hE0 : ¬ (E : Int) < 0 := by omega
  have hE1 : (E : Int) ≤ (E : Int) + 2 := by omega
  have hE2 : (E : Int) ≤ (cap : Int) := by omega
  go_enter Try.func34, Try.ntmps34
  go_wp2_with fail
  generalize hW : (World.alloc _ _ : World) = W
  have hKW : Keeps p w W := by subst hW; exact ((Keeps.refl p w).set 0 _).trans (Keeps.of_below (bl_alloc (Below.refl _ _) _))
  have hsz : W.heap.size = w.heap.size + 1 := by subst hW; simp [World.setCell]
  have u0 : W.cell? ⟨w.heap.size, 0, none⟩ = some (.slice (some ⟨b, off + E, none⟩) 2 (cap - E)) := by
    subst hW
    have h := (MapKept.heap_alloc (w.setCell ⟨p, 0, none⟩ (.slice (some ⟨b, off, none⟩) E cap)) (.cells #[.slice (some ⟨b, off + E, none⟩) 2 (cap - E)] 61)).1
    have e : (w.setCell ⟨p, 0, none⟩ (.slice (some ⟨b, off, none⟩) E cap)).heap.size = w.heap.size := by simp [World.setCell]
    rw [e] at h
    simp only [World.cell?, h]
    rfl
  have u1 : W.frozen? ⟨w.heap.size, 0, none⟩ = false := by
    subst hW
    have h := (MapKept.heap_alloc (w.setCell ⟨p, 0, none⟩ (.slice (some ⟨b, off, none⟩) E cap)) (.cells #[.slice (some ⟨b, off + E, none⟩) 2 (cap - E)] 61)).1
    have e : (w.setCell ⟨p, 0, none⟩ (.slice (some ⟨b, off, none⟩) E cap)).heap.size = w.heap.size := by simp [World.setCell]
    rw [e] at h
    simp only [World.frozen?, h]
    rfl
  have k0 : W.cell? ⟨p, 0, none⟩ = some (.slice (some ⟨b, off, none⟩) E cap) := by
    subst hW
    rw [World.cell?_alloc_lt _ _ _ (by simpa [World.setCell] using hp)]
    exact World.cell?_setCell_same _ _ _ (by rw [h0])
  have k1 : W.frozen? ⟨p, 0, none⟩ = false := by
    subst hW
    rw [(bl_alloc (Below.refl _ _) _ : Below _ _ _).frozen (by simpa [World.setCell] using hp), World.frozen?_setCell]
    exact h1
  have HZW : Hid (BsAt W b off (E + 2) Z) := fun i hi => (hKW.cell (p := ⟨b, off + i, none⟩) (show b < _ by omega) (show b ≠ p by omega)).trans (HZ.out i hi)
  have HKW : Hid (Keeps p w W) := hKW
  clear hW hKW h0 h1 HZ
  have HUL : Hid (UpAt W w.heap.size B 2 (fun i => Z (i + E))) := ⟨_, _, u0, u1, by omega, .inr ⟨b, off + E, rfl, hb, fun i hi => by have := HZW.out (i + E) (by omega); rwa [show off + E + i = off + (i + E) by omega]⟩⟩
  clear u0 u1
  refine (take_some w.heap.size B 2 2 (fun i => Z (i + E)) W HUL.out (by omega) (by omega) (Nat.le_refl _) (by omega) (by omega)).mono ?_
  rintro e w1 ⟨g, rfl, hg1, hg2, hgb, _, hK1⟩
  have q0 : w1.cell? ⟨p, 0, none⟩ = some (.slice (some ⟨b, off, none⟩) E cap) := (hK1.cell (p := ⟨p, 0, none⟩) (show p < _ by omega) (show p ≠ _ by omega)).trans k0
  have q1 : w1.frozen? ⟨p, 0, none⟩ = false := (hK1.frozen (p := ⟨p, 0, none⟩) (show p < _ by omega) (show p ≠ _ by omega)).trans k1
  have HZ1 : Hid (BsAt w1 b off E Z) := fun i hi => (hK1.cell (p := ⟨b, off + i, none⟩) (show b < _ by omega) (show b ≠ _ by omega)).trans (HZW.out i (by omega))
  have hsz1 := hK1.size
  have HK : Hid (Keeps p w w1) := ⟨hK1.os.trans HKW.out.os, hK1.tape.trans HKW.out.tape, hK1.output.trans HKW.out.output, Nat.le_trans HKW.out.size hK1.size, fun j hj hjp => (hK1.block j (by omega) (by omega)).trans (HKW.out.block j hj hjp)⟩
  obtain ⟨A, hA⟩ : ∃ A : Nat, Z E = (A : Int) := ⟨(Z E).toNat, by have := (HR.out E).1; omega⟩
  obtain ⟨C, hC⟩ : ∃ C : Nat, Z (E + 1) = (C : Int) := ⟨(Z (E + 1)).toNat, by have := (HR.out (E + 1)).1; omega⟩
  have hA2 : A < 256 := by have := (HR.out E).2; omega
  have hC2 : C < 256 := by have := (HR.out (E + 1)).2; omega
  have g0 : w1.cell? ⟨g, 0, none⟩ = some (.int .u8 (A : Int)) := by
    have := hgb 0 (by omega)
    simp only [Nat.zero_add] at this
    rw [this, hA]
  have g1 : w1.cell? ⟨g, 1, none⟩ = some (.int .u8 (C : Int)) := by
    have := hgb 1 (by omega)
    simp only [Nat.zero_add, Nat.add_comm 1 E] at this
    rw [this, hC]
  have HP : Hid ((if Z (E + 2 - 2) * 256 + Z (E + 2 - 1) = sumZ Z (E + 2 - 2) then True else False) ↔ ((A : Int) * 256 + (C : Int) = sumZ Z E)) := by
    show _ ↔ _
    rw [show E + 2 - 2 = E by omega, show E + 2 - 1 = E + 1 by omega, hA, hC]
    simp
  have HSO : Hid (∀ W', Below w1.heap.size w1 W' → Calls Try.prog 41 #[.slice (some ⟨b, off, none⟩) E cap] W' fun e w' => e = .returned (.int .u64 (sumZ Z E)) ∧ Below W'.heap.size W' w') := fun W' hb' => (sumOf_any (some ⟨b, off, none⟩) E cap Z W' (.inr ⟨b, off, rfl, Nat.lt_of_lt_of_le (by omega) hb'.size, fun i hi => (hb'.cell (p := ⟨b, off + i, none⟩) (show b < _ by omega)).trans (HZ1.out i hi)⟩) HR.out (by omega)).mono fun e w' ⟨he, hw⟩ => ⟨he, hw ▸ Below.refl _ _⟩
  have x0 : ∀ W', Below w1.heap.size w1 W' → W'.cell? ⟨g, 0, none⟩ = some (.int .u8 (A : Int)) := fun W' h => (h.cell (p := ⟨g, 0, none⟩) hg2).trans g0
  have x1 : ∀ W', Below w1.heap.size w1 W' → W'.cell? ⟨g, 1, none⟩ = some (.int .u8 (C : Int)) := fun W' h => (h.cell (p := ⟨g, 1, none⟩) hg2).trans g1
  have x2 : ∀ W', Below w1.heap.size w1 W' → W'.cell? ⟨p, 0, none⟩ = some (.slice (some ⟨b, off, none⟩) E cap) := fun W' h => (h.cell (p := ⟨p, 0, none⟩) (show p < _ by omega)).trans q0
  obtain ⟨P, hP⟩ : ∃ P : Nat, P = A * 256 := ⟨_, rfl⟩
  have a1 : IntKind.u64.wrap (A : Int) = (A : Int) := by rw [IntKind.wrap_u64]; omega
  have a2 : IntKind.u64.wrap (C : Int) = (C : Int) := by rw [IntKind.wrap_u64]; omega
  have a3 : IntKind.u64.wrap ((A : Int) * 2 ^ min (Int.toNat 8) IntKind.u64.bits) = (P : Int) := by
    rw [show (2 : Int) ^ min (Int.toNat 8) IntKind.u64.bits = 256 from rfl, IntKind.wrap_u64]; omega
  have a4 : IntKind.u64.wrap ((A : Int) * 256) = (P : Int) := by rw [IntKind.wrap_u64]; omega
  have a5 : bits .or .u64 (P : Int) (C : Int) = (P : Int) + (C : Int) := by
    rw [bits_or_u64_nat P C (by omega) (by omega)]
    have : P ||| C = P + C := by
      have := Nat.shiftLeft_add_eq_or_of_lt (b := C) (i := 8) (by omega) A
      simp only [Nat.shiftLeft_eq, show (2 : Nat) ^ 8 = 256 from rfl] at this
      rw [hP]
      exact this.symm
    rw [this]
    simp
  have HPP : Hid ((P : Int) = (A : Int) * 256) := by show _ = _; omega
  clear hP g0 g1 hgb hA hC HZW HUL HKW k0 k1 hK1
  by_cases heq : (P : Int) + (C : Int) = sumZ Z E
  · have HT : Hid (Z (E + 2 - 2) * 256 + Z (E + 2 - 1) = sumZ Z (E + 2 - 2)) := by
      have := HP.out.2 (by have := HPP.out; omega)
      show _ = _
      by_cases h : Z (E + 2 - 2) * 256 + Z (E + 2 - 1) = sumZ Z (E + 2 - 2)
      · exact h
      · rw [if_neg h] at this; exact this.elim
    clear HP HPP
    generalize sumZ Z E = S at HSO heq
    go_wp2_with fail
    go_region_held3 (fun W' => Below w1.heap.size w1 W') ((repeat (first | exact Below.refl _ _ | assumption | refine Below.drew ?_ | refine bl_alloc ?_ _ | refine bl_then ?_ (by assumption) | refine Below.setCell ?_ (by first | omega | (simp; done) | (simp; omega)) _ | refine bl_store ?_ ?_ _ _)))
      (first
        | (go_at_call 41; refine (HSO.out _ (by (repeat (first | exact Below.refl _ _ | assumption | refine Below.drew ?_ | refine bl_alloc ?_ _ | refine bl_then ?_ (by assumption) | refine Below.setCell ?_ (by first | omega | (simp; done) | (simp; omega)) _ | refine bl_store ?_ ?_ _ _)))).mono ?_; rintro e w' ⟨rfl, hb'⟩)
        | fail)
    go_wp2_with fail
    have HF : Hid (∀ W', Below w1.heap.size w1 W' → UpAt W' p B (E + 2 - 2) Z ∧ Keeps p w W') := fun W' h => by
      refine ⟨⟨_, _, x2 W' h, (h.frozen (p := ⟨p, 0, none⟩) (show p < _ by omega)).trans q1, by omega, .inr ⟨b, off, rfl, hb, fun i hi => (h.cell (p := ⟨b, off + i, none⟩) (show b < _ by omega)).trans (HZ1.out i (by omega))⟩⟩, HK.out.trans (Keeps.of_below h)⟩
    first
      | exact bodyPost_end (v := .tuple #[]) (by simp [results, Try.results34, go_sem]) rfl ⟨rfl, HF.out _ (by assumption)⟩
      | exact bodyPost_end (v := .tuple #[]) (by simp [results, Try.results34, go_sem]) rfl (by rw [if_pos HT.out]; exact ⟨rfl, HF.out _ (by assumption)⟩)
  · have HT : Hid (¬ Z (E + 2 - 2) * 256 + Z (E + 2 - 1) = sumZ Z (E + 2 - 2)) := by
      show ¬ _
      intro h
      have := HP.out.1 (by rw [if_pos h]; trivial)
      have h2 := HPP.out
      omega
    clear HP HPP
    generalize sumZ Z E = S at HSO heq
    have hq1 : ((P : Int) + (C : Int) != S) = true := by simpa using heq
    have hq2 : ((P : Int) + (C : Int) == S) = false := by simpa using heq
    clear heq
    go_wp2_with fail
    go_region_held3 (fun W' => Below w1.heap.size w1 W') ((repeat (first | exact Below.refl _ _ | assumption | refine Below.drew ?_ | refine bl_alloc ?_ _ | refine bl_then ?_ (by assumption) | refine Below.setCell ?_ (by first | omega | (simp; done) | (simp; omega)) _ | refine bl_store ?_ ?_ _ _)))
      (first
        | (go_at_call 41; refine (HSO.out _ (by (repeat (first | exact Below.refl _ _ | assumption | refine Below.drew ?_ | refine bl_alloc ?_ _ | refine bl_then ?_ (by assumption) | refine Below.setCell ?_ (by first | omega | (simp; done) | (simp; omega)) _ | refine bl_store ?_ ?_ _ _)))).mono ?_; rintro e w' ⟨rfl, hb'⟩)
        | fail)
    go_wp2_with fail
    have HF : Hid (∀ W', Below w1.heap.size w1 W' → Keeps p w W') := fun W' h => HK.out.trans (Keeps.of_below h)
    first
      | exact ⟨rfl, ⟨_, _, rfl⟩, HF.out _ (by assumption)⟩
      | exact ⟨rfl, by rw [if_neg HT.out]; exact ⟨⟨_, _, rfl⟩, HF.out _ (by assumption)⟩⟩
end Go.Proofs.Ytcbpaockahkakaa
