/- The laws of RequestsFault and IsAsked return true at every list of requests. -/
import Derived.Test.YtfcbbfhfjojoeaaWq4
namespace Go.Proofs.Ytfcbbfhfjojoeaa
open Go.RowKit
set_option linter.unusedSimpArgs false
set_option linter.unusedVariables false
set_option maxRecDepth 100000

set_option maxHeartbeats 4000000 in
theorem FnExactRequestsFault_walk (a : Option Addr) (n cap : Nat) (E : Nat → Req) (w : World) (h : IsWs w a n E ∧ n ≤ cap ∧ cap ≤ maxLen) :
    Calls Try.prog 4 #[.slice a n cap] w fun e w' => e = .returned (.bool true) ∧ Below w.heap.size w w' := by
  obtain ⟨hf, hc, hm⟩ := h
  have HI : Hid (IsWs w a n E) := hf
  have HM : Hid (n ≤ maxLen) := Nat.le_trans hc hm
  clear hf hc hm
  by_cases hbig : 1048576 < n
  · go_enter Try.func4, Try.ntmps4
    go_wp2_with (go_at_call 17; refine (szRequestS_no a n cap 1048576 _ (by omega) hbig HM.out).mono ?_; rintro e w' ⟨rfl, hb⟩)
    go_ret
    exact ⟨rfl, by (repeat (first | exact Below.refl _ _ | assumption | refine Below.drew ?_ | refine bl_alloc ?_ _ | refine bl_then ?_ (by assumption) | refine Below.setCell ?_ (by first | omega | (simp; done) | (simp; omega)) _ | refine bl_store ?_ ?_ _ _))⟩
  have hn : n ≤ 1048576 := by omega
  have hneg : ¬ (1048576 : Int) - (n : Int) < 0 := by omega
  clear hbig
  go_enter Try.func4, Try.ntmps4
  go_wp2_with fail
  refine (szRequestS_ok a n cap 1048576 w (by omega) hn).mono ?_
  rintro e w1 ⟨rfl, hB1⟩
  go_wp2_with fail
  refine (toRequestS_any a n cap E _ (HI.out.below hB1) hn).mono ?_
  rintro e w2 ⟨b2, rfl, hle2, hlt2, hE2, _, hb2⟩
  have HE2 : Hid (WsAt w2 b2 0 n E) := hE2
  have hB2 : Below w.heap.size w w2 := bl_then hB1 hb2
  clear hE2 hb2 hB1
  go_wp2_with fail
  refine (spec_RequestsFault_any _ n n E _ (.inr ⟨b2, 0, rfl, hlt2, HE2.out⟩) hn).mono ?_
  rintro e w3 ⟨rfl, hb3⟩
  have hB3 : Below w.heap.size w w3 := bl_then hB2 hb3
  clear hb3 hB2 HE2
  go_wp2_with fail
  refine (toRequestS_any a n cap E _ (HI.out.below hB3) hn).mono ?_
  rintro e w4 ⟨b4, rfl, hle4, hlt4, hE4, _, hb4⟩
  have HE4 : Hid (WsAt w4 b4 0 n E) := hE4
  have hB4 : Below w.heap.size w w4 := bl_then hB3 hb4
  clear hE4 hb4 hB3
  go_wp2_with fail
  refine (impl_RequestsFault_any _ n n E _ (.inr ⟨b4, 0, rfl, hlt4, HE4.out⟩) hn (Nat.le_refl _)).mono ?_
  rintro e w5 ⟨rfl, hb5⟩
  have HE5 : Hid (WsAt w5 b4 0 n E) := HE4.out.below hb5 hlt4
  have hlt5 : b4 < w5.heap.size := Nat.lt_of_lt_of_le hlt4 hb5.size
  have hB5 : Below w.heap.size w w5 := bl_then hB4 hb5
  clear hb5 hB4 HE4
  go_wp2_with fail
  refine (toRequestS_any a n cap E _ (HI.out.below hB5) hn).mono ?_
  rintro e w6 ⟨b6, rfl, hle6, hlt6, hE6, _, hb6⟩
  have HE6 : Hid (WsAt w6 b6 0 n E) := hE6
  have HE7 : Hid (WsAt w6 b4 0 n E) := HE5.out.below hb6 hlt5
  have hlt7 : b4 < w6.heap.size := Nat.lt_of_lt_of_le hlt5 hb6.size
  have hB6 : Below w.heap.size w w6 := bl_then hB5 hb6
  clear hE6 hb6 hB5 HE5
  go_wp2_with fail
  refine (eqRequestS_any _ _ n _ _ E _ (.inr ⟨b4, 0, rfl, hlt7, HE7.out⟩) (.inr ⟨b6, 0, rfl, hlt6, HE6.out⟩) hn).mono ?_
  rintro e w7 ⟨rfl, hb7⟩
  have HB7 : Hid (Below w.heap.size w w7) := bl_then hB6 hb7
  clear hb7 hB6
  go_wp2
  go_ret
  exact ⟨rfl, HB7.out⟩
set_option maxHeartbeats 4000000 in
theorem FnExactIsAsked_walk (a : Option Addr) (n cap : Nat) (E : Nat → Req) (z x y : Int) (w : World) (h : IsWs w a n E ∧ n ≤ cap ∧ cap ≤ maxLen) :
    Calls Try.prog 8 #[.slice a n cap, refV z x y] w fun e w' => e = .returned (.bool true) ∧ Below w.heap.size w w' := by
  obtain ⟨hf, hc, hm⟩ := h
  have HI : Hid (IsWs w a n E) := hf
  have HM : Hid (n ≤ maxLen) := Nat.le_trans hc hm
  clear hf hc hm
  by_cases hbig : 1048576 < n
  · go_enter Try.func8, Try.ntmps8
    go_wp2_with (go_at_call 17; refine (szRequestS_no a n cap 1048576 _ (by omega) hbig HM.out).mono ?_; rintro e w' ⟨rfl, hb⟩)
    go_ret
    exact ⟨rfl, by (repeat (first | exact Below.refl _ _ | assumption | refine Below.drew ?_ | refine bl_alloc ?_ _ | refine bl_then ?_ (by assumption) | refine Below.setCell ?_ (by first | omega | (simp; done) | (simp; omega)) _ | refine bl_store ?_ ?_ _ _))⟩
  have hn : n ≤ 1048576 := by omega
  have hneg : ¬ (1048576 : Int) - (n : Int) < 0 := by omega
  clear hbig
  go_enter Try.func8, Try.ntmps8
  go_wp2_with fail
  generalize hW : (w.alloc _ : World) = W
  have HB0 : Below w.heap.size w W := by subst hW; (repeat (first | exact Below.refl _ _ | assumption | refine Below.drew ?_ | refine bl_alloc ?_ _ | refine bl_then ?_ (by assumption) | refine Below.setCell ?_ (by first | omega | (simp; done) | (simp; omega)) _ | refine bl_store ?_ ?_ _ _))
  have HR : R3At W w.heap.size z x y := by subst hW; exact ⟨by simp [go_sem], by simp [go_sem], by simp [go_sem]⟩
  clear hW
  refine (szRequestS_ok a n cap 1048576 W (by omega) hn).mono ?_
  rintro e w1 ⟨rfl, hb1⟩
  have hB1 : Below w.heap.size w w1 := bl_then HB0 hb1
  have HR1 : Hid (R3At w1 w.heap.size z x y) := HR.below hb1
  clear HR hb1 HB0
  have c0 : ∀ W', Below w1.heap.size w1 W' → W'.cell? ⟨w.heap.size, 0, none⟩ = some (.int .i64 z) := fun W' h => (HR1.out.below h).1
  have c1 : ∀ W', Below w1.heap.size w1 W' → W'.cell? ⟨w.heap.size, 1, none⟩ = some (.int .i64 x) := fun W' h => (HR1.out.below h).2.1
  have c2 : ∀ W', Below w1.heap.size w1 W' → W'.cell? ⟨w.heap.size, 2, none⟩ = some (.int .i64 y) := fun W' h => (HR1.out.below h).2.2
  have HT : Hid (∀ W', Below w1.heap.size w1 W' → Calls Try.prog 19 #[.slice a n cap] W' fun e w' => ∃ b, e = .returned (.slice (some ⟨b, 0, none⟩) n n) ∧ IsWs w' (some ⟨b, 0, none⟩) n E ∧ Below W'.heap.size W' w') := fun W' h =>
    (toRequestS_any a n cap E W' (HI.out.below (bl_then hB1 h)) hn).mono fun e w' ⟨b, he, _, hl, hE, _, hb⟩ => ⟨b, he, .inr ⟨b, 0, rfl, hl, hE⟩, hb⟩
  have hr1 : Below w1.heap.size w1 w1 := Below.refl _ _
  go_wp2_with fail
  go_region_held3 (fun W' => Below w1.heap.size w1 W') ((repeat (first | exact Below.refl _ _ | assumption | refine Below.drew ?_ | refine bl_alloc ?_ _ | refine bl_then ?_ (by assumption) | refine Below.setCell ?_ (by first | omega | (simp; done) | (simp; omega)) _ | refine bl_store ?_ ?_ _ _)))
    (first
      | (go_at_call 19; refine (HT.out _ (by assumption)).mono ?_; rintro e w' ⟨b2, rfl, hE2, hb⟩)
      | (go_at_call 21; refine (toRef_any _ _ _ _).mono ?_; rintro e w' ⟨rfl, hb⟩)
      | (go_at_call 28; refine (spec_IsAsked_any _ n n E _ _ _ _ (by first | assumption | exact IsWs.below (by assumption) (by assumption)) hn).mono ?_; rintro e w' ⟨rfl, hb⟩)
      | fail)
  go_wp2_with fail
  refine (HT.out _ (by assumption)).mono ?_
  rintro e w4 ⟨b4, rfl, hE4, hb4⟩
  have hB4 : Below w1.heap.size w1 w4 := bl_then (by assumption) hb4
  have HE4 : Hid (IsWs w4 (some ⟨b4, 0, none⟩) n E) := hE4
  have k0 := c0 w4 hB4
  have k1 := c1 w4 hB4
  have k2 := c2 w4 hB4
  clear hb4 hE4
  go_wp2_with fail
  refine (toRef_any _ _ _ _).mono ?_
  rintro e w5 ⟨rfl, hb5⟩
  have hB5 : Below w1.heap.size w1 w5 := bl_then hB4 hb5
  have HE5 : Hid (IsWs w5 (some ⟨b4, 0, none⟩) n E) := HE4.out.below hb5
  clear hb5 hB4 HE4 k0 k1 k2
  go_wp2_with fail
  refine (impl_IsAsked_any _ n n E _ _ _ _ HE5.out hn (Nat.le_refl _)).mono ?_
  rintro e w6 ⟨rfl, hb6⟩
  have hB6 : Below w1.heap.size w1 w6 := bl_then hB5 hb6
  have HE6 : Hid (IsWs w6 (some ⟨b4, 0, none⟩) n E) := HE5.out.below hb6
  clear hb6 hB5 HE5
  go_wp2_with fail
  refine (HT.out _ hB6).mono ?_
  rintro e w7 ⟨b7, rfl, hE7, hb7⟩
  have HE7 : Hid (IsWs w7 (some ⟨b7, 0, none⟩) n E) := hE7
  have HE8 : Hid (IsWs w7 (some ⟨b4, 0, none⟩) n E) := HE6.out.below hb7
  have HB7 : Hid (Below w.heap.size w w7) := bl_then hB1 (bl_then hB6 hb7)
  clear hE7 hb7 hB6 HE6
  go_wp2_with fail
  refine (eqRequestS_any _ _ n _ _ E _ HE8.out HE7.out hn).mono ?_
  rintro e w8 ⟨rfl, hb8⟩
  have HB8 : Hid (Below w.heap.size w w8) := bl_then HB7.out hb8
  clear hb8
  go_wp2
  go_ret
  exact ⟨rfl, HB8.out⟩
end Go.Proofs.Ytfcbbfhfjojoeaa
