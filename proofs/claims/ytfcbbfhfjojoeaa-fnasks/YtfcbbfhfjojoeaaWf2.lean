/- FnAsks returns true at every code: a tile is asked for once, and again when it is due, until it is dropped. -/
import Derived.Test.YtfcbbfhfjojoeaaWd2
import Derived.Test.YtfcbbfhfjojoeaaWf1
namespace Go.Proofs.Ytfcbbfhfjojoeaa
open Go.RowKit
set_option linter.unusedSimpArgs false
set_option linter.unusedVariables false
set_option maxRecDepth 100000

theorem neq_ref_self (a b c : Int) (w : World) : (binOp .neq 26 (.agg #[.int .i64 a, .int .i64 b, .int .i64 c]) (.agg #[.int .i64 a, .int .i64 b, .int .i64 c])).run Try.prog w = .ok (.bool false) w := by
  rw [run_neq_struct, equalIn_ref 9998]
  simp
theorem field0_rq (c : Int) (a1 : Option Addr) (m1 c1 : Nat) (a2 : Option Addr) (m2 c2 : Nat) (w : World) : (Instr.field 31 (rqV c (.slice a1 m1 c1) (.slice a2 m2 c2)) 0).run Try.prog w = .ok (.int .i64 c) w := by kernel_rfl
theorem field1_rq (c : Int) (a1 : Option Addr) (m1 c1 : Nat) (a2 : Option Addr) (m2 c2 : Nat) (w : World) : (Instr.field 31 (rqV c (.slice a1 m1 c1) (.slice a2 m2 c2)) 1).run Try.prog w = .ok (.slice a1 m1 c1) w := by kernel_rfl
/-- Three cells of an answer. -/
def A3 (w : World) (b : Nat) (c : Int) (v1 v2 : Value) : Prop := w.cell? ⟨b, 0, none⟩ = some (.int .i64 c) ∧ w.cell? ⟨b, 1, none⟩ = some v1 ∧ w.cell? ⟨b, 2, none⟩ = some v2
theorem A3.lt {w : World} {b : Nat} {c : Int} {v1 v2 : Value} (h : A3 w b c v1 v2) : b < w.heap.size := World.block_lt_of_cell? _ _ h.1
theorem A3.below {w w' : World} {b : Nat} {c : Int} {v1 v2 : Value} (h : A3 w b c v1 v2) (hb : Below w.heap.size w w') : A3 w' b c v1 v2 := ⟨bl_cellR hb h.1, bl_cellR hb h.2.1, bl_cellR hb h.2.2⟩
theorem OwnW.row {base : Nat} {w : World} {v : Value} {n : Nat} {E : Nat → Req} (h : OwnW w base v n E) : ∃ a c, v = .slice a n c ∧ n ≤ c ∧ IsWs w a n E := h.pts
set_option maxHeartbeats 2000000 in
theorem FnAsks_big (a : Option Addr) (n cap : Nat) (w : World) (hbig : 1048576 < n) :
    Calls Try.prog 3 #[.slice a n cap] w fun e w' => e = .returned (.bool true) ∧ Below w.heap.size w w' := by
  have hn : decide (1048576 < (n : Int)) = true := by simp; omega
  go_enter Try.func3, Try.ntmps3
  go_wp2_with fail
  refine (lwBig_any _ _ _ _).mono ?_
  rintro e w0 ⟨rfl, rfl⟩
  rw [hn]
  go_wp2
  go_ret
  exact ⟨rfl, Below.refl _ _⟩
set_option maxHeartbeats 16000000 in
theorem FnAsks_walk (a : Option Addr) (n cap : Nat) (Z : Nat → Int) (w : World) (h : IsBytes w a n Z ∧ (∀ i, 0 ≤ Z i ∧ Z i ≤ 255) ∧ n ≤ cap) :
    Calls Try.prog 3 #[.slice a n cap] w fun e w' => e = .returned (.bool true) ∧ Below w.heap.size w w' := by
  obtain ⟨hI, hR, hcap⟩ := h
  by_cases hbig : 1048576 < n
  · exact FnAsks_big a n cap w hbig
  have hn1 : n ≤ 1048576 := by omega
  have HI : Hid (IsBytes w a n Z) := hI
  have HR : Hid (∀ i, 0 ≤ Z i ∧ Z i ≤ 255) := hR
  have hn : decide (1048576 < (n : Int)) = false := by simp; omega
  clear hI hR hbig
  go_enter Try.func3, Try.ntmps3
  go_wp2_with fail
  refine (lwBig_any _ _ _ _).mono ?_
  rintro e w0 ⟨rfl, hw0⟩
  have hw0' := hw0.symm
  subst hw0'
  rw [hn]
  clear hw0
  go_wp2_with fail
  refine (DrawAskTile_any a n cap Z _ HI.out HR.out hn1 hcap).mono ?_
  rintro e w1 ⟨va, vc, l, z, x, y, now, rfl, hl9, hlc, hI1, hb1⟩
  have HB1 : Hid (Below w.heap.size w w1) := hb1
  have HI1 : Hid (IsWs w1 (some va) l.length (nw l)) := hI1
  clear HI HR hI1 hb1 hn hn1 hcap
  obtain ⟨N, hN⟩ : ∃ N, l.length = N := ⟨_, rfl⟩
  obtain ⟨E, hE⟩ : ∃ E, nw l = E := ⟨_, rfl⟩
  rw [hN, hE] at HI1
  rw [hN] at hl9 hlc ⊢
  clear hN hE
  go_wp2_with fail
  generalize hW2 : (w1.alloc _ : World) = w2
  have hb2 : Below w1.heap.size w1 w2 := by subst hW2; (repeat (first | exact Below.refl _ _ | assumption | refine Below.drew ?_ | refine bl_alloc ?_ _ | refine bl_then ?_ (by assumption) | refine Below.setCell ?_ (by first | omega | (simp; done) | (simp; omega)) _ | refine bl_store ?_ ?_ _ _))
  have HRA2 : Hid (R3At w2 w1.heap.size z x y) := by show R3At _ _ _ _ _; subst hW2; exact ⟨by simp [go_sem], by simp [go_sem], by simp [go_sem]⟩
  have HI2 : Hid (IsWs w2 (some va) N E) := HI1.out.below hb2
  have HB2 : Hid (Below w.heap.size w w2) := bl_then HB1.out hb2
  obtain ⟨r4, hr4⟩ : ∃ r, w1.heap.size = r := ⟨_, rfl⟩
  rw [hr4] at HRA2 ⊢
  clear hW2 hb2 HI1 HB1 hr4
  refine (impl_AskTile_any (some va) N vc E z x y now w2 HI2.out (by omega) hlc).mono ?_
  rintro e w3 ⟨v1, v2, rfl, hs3, hl3, hb3⟩
  obtain ⟨sa, sc, rfl⟩ := hs3.slice
  obtain ⟨ra, rc, rfl, hrc, hI3⟩ := hl3.own.pts
  have HIA3 : Hid (IsWs w3 ra (askL N E z x y now).length (nw (askL N E z x y now))) := hI3
  have HI3 : Hid (IsWs w3 (some va) N E) := HI2.out.below hb3
  have HRA3 : Hid (R3At w3 r4 z x y) := HRA2.out.below hb3
  have HB3 : Hid (Below w.heap.size w w3) := bl_then HB2.out hb3
  have hr43 : r4 < w3.heap.size := HRA3.out.lt
  obtain ⟨m0, m1, m2⟩ := HRA3.out
  clear hs3 hl3 hb3 hI3 HI2 HRA2 HB2
  by_cases hc0 : askC N E z x y now = 0
  · rw [hc0]
    obtain ⟨hok1, hok2, hok3⟩ := ask_ok hc0
    obtain ⟨hpr1, htm, hrf⟩ := preC_zero hok3
    have hsent := ask_sent hc0
    have hL9 : (askL N E z x y now).length ≤ 8 := reqsC_le hok1
    obtain ⟨hag1, hag2, hag3⟩ := ask_again (now := now) hok1 hok2 htm hrf
    obtain ⟨hdr1, hdr2⟩ := drop_ok hok1 hok2
    obtain ⟨hrt1, hrt2, hrt3, hrt4, hrt5⟩ := retry_ok hok1 htm
    have HAB : Hid ((askB N E z x y = true ∧ (askS N E z x y now).length ≠ 1) ∨ (askB N E z x y = false ∧ (askS N E z x y now).length = 1)) := by
      show _ ∨ _
      cases hB : askB N E z x y
      · rw [hB] at hsent
        exact .inr ⟨rfl, by simp at hsent; omega⟩
      · rw [hB] at hsent
        exact .inl ⟨rfl, by simp at hsent; omega⟩
    have hak : askB (askL N E z x y now).length (nw (askL N E z x y now)) z x y = true := by simp [askB, hok1, hok2]
    clear hsent hpr1 hok3 hc0
    generalize askL N E z x y now = L at *
    obtain ⟨M, hM⟩ : ∃ M, L.length = M := ⟨_, rfl⟩
    obtain ⟨F, hF⟩ : ∃ F, nw L = F := ⟨_, rfl⟩
    rw [hM, hF] at HIA3 hok1 hok2 hag1 hag2 hag3 hdr1 hdr2 hrt1 hrt2 hrt3 hrt4 hrt5 hak
    rw [hM] at hrc hL9 ⊢
    clear hM hF
    have HAK : Hid (askB M F z x y = true) := hak
    have HAG : Hid (askC M F z x y now = 0 ∧ (askS M F z x y now).length = 0 ∧ (askL M F z x y now).length = M) := ⟨hag1, hag2, hag3⟩
    have HDR : Hid (dropC M F z x y = 0 ∧ askB (dropL M F z x y).length (nw (dropL M F z x y)) z x y = false) := ⟨hdr1, hdr2⟩
    have HRT : Hid (retC M F now = 0 ∧ (rtL M F now).length = M ∧ (∀ i, i < M → nw (rtL M F now) i = retE now (F i)) ∧ reqsC (rtL M F now).length (nw (rtL M F now)) = 0 ∧ (rtS (rtL M F now).length (nw (rtL M F now)) now).length = 0) := ⟨hrt1, hrt2, hrt3, hrt4, hrt5⟩
    have hDL : (dropL M F z x y).length ≤ 8 := dropL_le8 M F z x y
    clear hak hag1 hag2 hag3 hdr1 hdr2 hrt1 hrt2 hrt3 hrt4 hrt5 hok1 hok2 htm hrf
    go_wp2_with fail
    generalize hW4 : (w3.alloc _ : World) = w4
    have hb4 : Below w3.heap.size w3 w4 := by subst hW4; (repeat (first | exact Below.refl _ _ | assumption | refine Below.drew ?_ | refine bl_alloc ?_ _ | refine bl_then ?_ (by assumption) | refine Below.setCell ?_ (by first | omega | (simp; done) | (simp; omega)) _ | refine bl_store ?_ ?_ _ _))
    have hA4 : A3 w4 w3.heap.size 0 (.slice sa (askS N E z x y now).length sc) (.slice ra M rc) := by subst hW4; exact ⟨by simp [go_sem], by simp [go_sem], by simp [go_sem]⟩
    obtain ⟨aB, haB⟩ : ∃ b, w3.heap.size = b := ⟨_, rfl⟩
    rw [haB] at hA4 ⊢
    have HA4 : Hid (A3 w4 aB 0 (.slice sa (askS N E z x y now).length sc) (.slice ra M rc)) := hA4
    have HIA4 : Hid (IsWs w4 ra M F) := HIA3.out.below hb4
    have HI4 : Hid (IsWs w4 (some va) N E) := HI3.out.below hb4
    have HRA4 : Hid (R3At w4 r4 z x y) := HRA3.out.below hb4
    have HB4 : Hid (Below w.heap.size w w4) := bl_then HB3.out hb4
    clear hW4 hb4 hA4 m0 m1 m2 HIA3 HI3 HRA3 HB3 haB hr43
    generalize (askS N E z x y now).length = SL at *
    refine (impl_AskTile_any ra M rc F z x y now w4 HIA4.out (by omega) hrc).mono ?_
    rintro e w5 ⟨v1, v2, rfl, hs5, hl5, hb5⟩
    obtain ⟨ba1, bc1, rfl⟩ := hs5.slice
    obtain ⟨ba2, bc2, rfl⟩ := hl5.slice
    rw [HAG.out.1, HAG.out.2.1, HAG.out.2.2]
    have HA5 : Hid (A3 w5 aB 0 (.slice sa SL sc) (.slice ra M rc)) := HA4.out.below hb5
    have HIA5 : Hid (IsWs w5 ra M F) := HIA4.out.below hb5
    have HI5 : Hid (IsWs w5 (some va) N E) := HI4.out.below hb5
    have HRA5 : Hid (R3At w5 r4 z x y) := HRA4.out.below hb5
    have HB5 : Hid (Below w.heap.size w w5) := bl_then HB4.out hb5
    obtain ⟨m0, m1, m2⟩ := HRA5.out
    obtain ⟨k0, k1, k2⟩ := HA5.out
    have hr45 : r4 < w5.heap.size := HRA5.out.lt
    have haB5 : aB < w5.heap.size := HA5.out.lt
    clear hs5 hl5 hb5 HA4 HIA4 HI4 HRA4 HB4
    go_wp2_with fail
    generalize hW6 : (w5.alloc _ : World) = w6
    have hb6 : Below w5.heap.size w5 w6 := by subst hW6; (repeat (first | exact Below.refl _ _ | assumption | refine Below.drew ?_ | refine bl_alloc ?_ _ | refine bl_then ?_ (by assumption) | refine Below.setCell ?_ (by first | omega | (simp; done) | (simp; omega)) _ | refine bl_store ?_ ?_ _ _))
    have HBB6 : Hid (A3 w6 w5.heap.size 0 (.slice ba1 0 bc1) (.slice ba2 M bc2)) := by show A3 _ _ _ _ _; subst hW6; exact ⟨by simp [go_sem], by simp [go_sem], by simp [go_sem]⟩
    obtain ⟨bB, hbB⟩ : ∃ b, w5.heap.size = b := ⟨_, rfl⟩
    rw [hbB] at HBB6 ⊢
    have HA6 : Hid (A3 w6 aB 0 (.slice sa SL sc) (.slice ra M rc)) := HA5.out.below hb6
    have HIA6 : Hid (IsWs w6 ra M F) := HIA5.out.below hb6
    have HI6 : Hid (IsWs w6 (some va) N E) := HI5.out.below hb6
    have HRA6 : Hid (R3At w6 r4 z x y) := HRA5.out.below hb6
    have HB6 : Hid (Below w.heap.size w w6) := bl_then HB5.out hb6
    clear hW6 hb6 m0 m1 m2 k0 k1 k2 HA5 HIA5 HI5 HRA5 HB5 hbB hr45 haB5
    refine (impl_DropRequest_any ra M rc F z x y w6 HIA6.out (by omega) hrc).mono ?_
    rintro e w7 ⟨v2, rfl, hl7, hb7⟩
    obtain ⟨da, dc, rfl, hdc, hI7⟩ := hl7.row
    rw [HDR.out.1]
    have HID7 : Hid (IsWs w7 da (dropL M F z x y).length (nw (dropL M F z x y))) := hI7
    have HBB7 : Hid (A3 w7 bB 0 (.slice ba1 0 bc1) (.slice ba2 M bc2)) := HBB6.out.below hb7
    have HA7 : Hid (A3 w7 aB 0 (.slice sa SL sc) (.slice ra M rc)) := HA6.out.below hb7
    have HIA7 : Hid (IsWs w7 ra M F) := HIA6.out.below hb7
    have HI7 : Hid (IsWs w7 (some va) N E) := HI6.out.below hb7
    have HRA7 : Hid (R3At w7 r4 z x y) := HRA6.out.below hb7
    have HB7 : Hid (Below w.heap.size w w7) := bl_then HB6.out hb7
    obtain ⟨k0, k1, k2⟩ := HA7.out
    have haB7 : aB < w7.heap.size := HA7.out.lt
    clear hl7 hb7 hI7 HBB6 HA6 HIA6 HI6 HRA6 HB6
    generalize hD : (dropL M F z x y) = DD at *
    clear hD
    obtain ⟨DL, hDL'⟩ : ∃ d, DD.length = d := ⟨_, rfl⟩
    rw [hDL'] at HID7 hdc hDL HDR ⊢
    clear hDL'
    go_wp2_with fail
    generalize hW8 : (w7.alloc _ : World) = w8
    have hb8 : Below w7.heap.size w7 w8 := by subst hW8; (repeat (first | exact Below.refl _ _ | assumption | refine Below.drew ?_ | refine bl_alloc ?_ _ | refine bl_then ?_ (by assumption) | refine Below.setCell ?_ (by first | omega | (simp; done) | (simp; omega)) _ | refine bl_store ?_ ?_ _ _))
    have HDB8 : Hid (A3 w8 w7.heap.size 0 (.slice none 0 0) (.slice da DL dc)) := by show A3 _ _ _ _ _; subst hW8; exact ⟨by simp [go_sem], by simp [go_sem], by simp [go_sem]⟩
    obtain ⟨dB, hdB⟩ : ∃ b, w7.heap.size = b := ⟨_, rfl⟩
    rw [hdB] at HDB8 ⊢
    have HID8 : Hid (IsWs w8 da DL (nw DD)) := HID7.out.below hb8
    have HBB8 : Hid (A3 w8 bB 0 (.slice ba1 0 bc1) (.slice ba2 M bc2)) := HBB7.out.below hb8
    have HA8 : Hid (A3 w8 aB 0 (.slice sa SL sc) (.slice ra M rc)) := HA7.out.below hb8
    have HIA8 : Hid (IsWs w8 ra M F) := HIA7.out.below hb8
    have HI8 : Hid (IsWs w8 (some va) N E) := HI7.out.below hb8
    have HRA8 : Hid (R3At w8 r4 z x y) := HRA7.out.below hb8
    have HB8 : Hid (Below w.heap.size w w8) := bl_then HB7.out hb8
    clear hW8 hb8 k0 k1 k2 HID7 HBB7 HA7 HIA7 HI7 HRA7 HB7 hdB haB7
    refine (impl_RetryAll_any ra M rc F now w8 HIA8.out (by omega) hrc).mono ?_
    rintro e w9 ⟨v1, v2, rfl, hs9, hl9', hb9⟩
    obtain ⟨ta1, tc1, rfl⟩ := hs9.slice
    obtain ⟨ta, tc, rfl, htc, hI9⟩ := hl9'.own.pts
    rw [HRT.out.1]
    have HIT9 : Hid (IsWs w9 ta (rtL M F now).length (nw (rtL M F now))) := hI9
    generalize hRL : rtL M F now = RL at *
    clear hRL
    obtain ⟨G, hG⟩ : ∃ G, nw RL = G := ⟨_, rfl⟩
    rw [hG, HRT.out.2.1] at HIT9
    rw [hG] at HRT
    rw [HRT.out.2.1] at htc ⊢
    have HRT2 : Hid ((∀ i, i < M → G i = retE now (F i)) ∧ reqsC M G = 0 ∧ (rtS M G now).length = 0) := by
      have h := HRT.out
      rw [h.2.1] at h
      exact ⟨h.2.2.1, h.2.2.2.1, h.2.2.2.2⟩
    clear HRT hG
    generalize (rtS M F now).length = TS at *
    have HID9 : Hid (IsWs w9 da DL (nw DD)) := HID8.out.below hb9
    have HDB9 : Hid (A3 w9 dB 0 (.slice none 0 0) (.slice da DL dc)) := HDB8.out.below hb9
    have HBB9 : Hid (A3 w9 bB 0 (.slice ba1 0 bc1) (.slice ba2 M bc2)) := HBB8.out.below hb9
    have HA9 : Hid (A3 w9 aB 0 (.slice sa SL sc) (.slice ra M rc)) := HA8.out.below hb9
    have HIA9 : Hid (IsWs w9 ra M F) := HIA8.out.below hb9
    have HI9 : Hid (IsWs w9 (some va) N E) := HI8.out.below hb9
    have HRA9 : Hid (R3At w9 r4 z x y) := HRA8.out.below hb9
    have HB9 : Hid (Below w.heap.size w w9) := bl_then HB8.out hb9
    clear hs9 hl9' hb9 hI9 HID8 HDB8 HBB8 HA8 HIA8 HI8 HRA8 HB8
    go_wp2_with fail
    generalize hW10 : (w9.alloc _ : World) = w10
    have hb10 : Below w9.heap.size w9 w10 := by subst hW10; (repeat (first | exact Below.refl _ _ | assumption | refine Below.drew ?_ | refine bl_alloc ?_ _ | refine bl_then ?_ (by assumption) | refine Below.setCell ?_ (by first | omega | (simp; done) | (simp; omega)) _ | refine bl_store ?_ ?_ _ _))
    have HTB : Hid (A3 w10 w9.heap.size 0 (.slice ta1 TS tc1) (.slice ta M tc)) := by show A3 _ _ _ _ _; subst hW10; exact ⟨by simp [go_sem], by simp [go_sem], by simp [go_sem]⟩
    obtain ⟨tB, htB⟩ : ∃ b, w9.heap.size = b := ⟨_, rfl⟩
    rw [htB] at HTB ⊢
    have HIT : Hid (IsWs w10 ta M G) := HIT9.out.below hb10
    have HID : Hid (IsWs w10 da DL (nw DD)) := HID9.out.below hb10
    have HDB : Hid (A3 w10 dB 0 (.slice none 0 0) (.slice da DL dc)) := HDB9.out.below hb10
    have HBB : Hid (A3 w10 bB 0 (.slice ba1 0 bc1) (.slice ba2 M bc2)) := HBB9.out.below hb10
    have HAA : Hid (A3 w10 aB 0 (.slice sa SL sc) (.slice ra M rc)) := HA9.out.below hb10
    have HIA : Hid (IsWs w10 ra M F) := HIA9.out.below hb10
    have HIL : Hid (IsWs w10 (some va) N E) := HI9.out.below hb10
    have HRA : Hid (R3At w10 r4 z x y) := HRA9.out.below hb10
    have HB10 : Hid (Below w.heap.size w w10) := bl_then HB9.out hb10
    clear hW10 hb10 HIT9 HID9 HDB9 HBB9 HA9 HIA9 HI9 HRA9 HB9 htB
    go_loopw [10] (fun i wr => ∃ k : Nat, k ≤ M ∧ i = .int .i64 (k : Int) ∧ Below w10.heap.size w10 wr) (fun i _ => M - (intOf i).toNat)
    case atStart => exact ⟨0, by omega, rfl, Below.refl _ _⟩
    case round =>
      obtain ⟨k, hk, rfl, hB⟩ := hrel
      have HBr : Hid (Below w10.heap.size w10 wr) := hB
      obtain ⟨g0, g1, g2⟩ := HTB.out.below hB
      obtain ⟨k0, k1, k2⟩ := HAA.out.below hB
      by_cases hlt : k < M
      · rcases HIT.out.below hB with h0 | ⟨tb, toff, rfl, _, htp⟩
        · omega
        rcases HIA.out.below hB with h0 | ⟨rb, roff, rfl, _, hrp⟩
        · omega
        obtain ⟨p0, p1, p2, p3, _⟩ := htp k hlt
        obtain ⟨q0, q1, q2, _, _⟩ := hrp k hlt
        have hGk := HRT2.out.1 k hlt
        obtain ⟨e1, e2, e3⟩ := retE_ref (F k) now
        have hdue := retE_due (F k) now
        rw [← hGk] at e1 e2 e3 hdue
        rw [e1] at p0
        rw [e2] at p1
        rw [e3] at p2
        have hdue' : decide ((G k).du ≤ now) = false := by simpa using hdue
        have HLT : Hid (k < M) := hlt
        have hi : (k : Int) < (M : Int) := by omega
        have hi0 : (0 : Int) ≤ (k : Int) := by omega
        have hneq := neq_ref_self
        clear e1 e2 e3 hGk hdue hB htp hrp
        generalize (F k).z = fz at *
        generalize (F k).x = fx at *
        generalize (F k).y = fy at *
        generalize (G k).du = gd at *
        go_upto_region 13 with fail
        go_quiet (fail)
        go_wp2_with fail
        go_roundw
        case rel => exact ⟨k + 1, by have := HLT.out; omega, by go_num, below_drewN HBr.out _⟩
        case measure => have := HLT.out; simp [intOf]; omega
      · obtain rfl : M = k := by omega
        have H1 : Hid (∀ W, Below wr.heap.size wr W → Calls Try.prog 15 #[.slice ra M rc, refV z x y] W fun e w' => e = .returned (.bool true) ∧ Below W.heap.size W w') := fun W h => by
          have := impl_IsAsked_any ra M rc F z x y W ((HIA.out.below HBr.out).below h) (by omega) hrc
          rw [HAK.out] at this
          exact this
        have H3 : Hid (∀ W, Below wr.heap.size wr W → Calls Try.prog 15 #[.slice da DL dc, refV z x y] W fun e w' => e = .returned (.bool false) ∧ Below W.heap.size W w') := fun W h => by
          have := impl_IsAsked_any da DL dc (nw DD) z x y W ((HID.out.below HBr.out).below h) (by omega) hdc
          rw [HDR.out.2] at this
          exact this
        have H4 : Hid (∀ W, Below wr.heap.size wr W → Calls Try.prog 14 #[.slice ta M tc, .int .i64 now] W fun e w' => (∃ c a1 c1 a2 n2 c2, e = .returned (rqV c (.slice a1 0 c1) (.slice a2 n2 c2))) ∧ Below W.heap.size W w') := fun W h => (impl_RetryAll_any ta M tc G now W ((HIT.out.below HBr.out).below h) (by omega) htc).mono fun e w' ⟨v1, v2, he, h1, h2, hb⟩ => by
          obtain ⟨a1, c1, e1⟩ := h1.slice
          obtain ⟨a2, c2, e2⟩ := h2.slice
          rw [HRT2.out.2.2] at e1
          exact ⟨⟨_, a1, c1, a2, _, c2, by rw [he, e1, e2]⟩, hb⟩
        have H5 : Hid (∀ W, Below wr.heap.size wr W → Calls Try.prog 16 #[.slice ta M tc] W fun e w' => e = .returned (.int .i64 0) ∧ Below W.heap.size W w') := fun W h => by
          have := impl_RequestsFault_any ta M tc G W ((HIT.out.below HBr.out).below h) (by omega) htc
          rw [HRT2.out.2.1] at this
          exact this
        have H2' : Hid (∀ W, Below wr.heap.size wr W → Calls Try.prog 15 #[.slice (some va) N vc, refV z x y] W fun e w' => e = .returned (.bool (askB N E z x y)) ∧ Below W.heap.size W w') := fun W h => impl_IsAsked_any (some va) N vc E z x y W ((HIL.out.below HBr.out).below h) (by omega) hlc
        have hra := HRA.out.below hB
        have hbb := HBB.out.below hB
        have hdd := HDB.out.below hB
        have haa := HAA.out.below hB
        have htt := HTB.out.below hB
        have c0 : ∀ W', Below wr.heap.size wr W' → W'.cell? ⟨r4, 0, none⟩ = some (.int .i64 z) := fun W' h => (hra.below h).1
        have c1 : ∀ W', Below wr.heap.size wr W' → W'.cell? ⟨r4, 1, none⟩ = some (.int .i64 x) := fun W' h => (hra.below h).2.1
        have c2 : ∀ W', Below wr.heap.size wr W' → W'.cell? ⟨r4, 2, none⟩ = some (.int .i64 y) := fun W' h => (hra.below h).2.2
        have a1 : ∀ W', Below wr.heap.size wr W' → W'.cell? ⟨aB, 1, none⟩ = some (.slice sa SL sc) := fun W' h => (haa.below h).2.1
        have a2 : ∀ W', Below wr.heap.size wr W' → W'.cell? ⟨aB, 2, none⟩ = some (.slice ra M rc) := fun W' h => (haa.below h).2.2
        have b1 : ∀ W', Below wr.heap.size wr W' → W'.cell? ⟨bB, 1, none⟩ = some (.slice ba1 0 bc1) := fun W' h => (hbb.below h).2.1
        have b2 : ∀ W', Below wr.heap.size wr W' → W'.cell? ⟨bB, 2, none⟩ = some (.slice ba2 M bc2) := fun W' h => (hbb.below h).2.2
        have d0 : ∀ W', Below wr.heap.size wr W' → W'.cell? ⟨dB, 0, none⟩ = some (.int .i64 0) := fun W' h => (hdd.below h).1
        have d2 : ∀ W', Below wr.heap.size wr W' → W'.cell? ⟨dB, 2, none⟩ = some (.slice da DL dc) := fun W' h => (hdd.below h).2.2
        have t0 : ∀ W', Below wr.heap.size wr W' → W'.cell? ⟨tB, 0, none⟩ = some (.int .i64 0) := fun W' h => (htt.below h).1
        have t2 : ∀ W', Below wr.heap.size wr W' → W'.cell? ⟨tB, 2, none⟩ = some (.slice ta M tc) := fun W' h => (htt.below h).2.2
        have hr : Below wr.heap.size wr wr := Below.refl _ _
        have hf1 := field1_rq
        have hnlt : ¬ (M : Int) < (M : Int) := by omega
        clear hB hra hbb hdd haa htt k0 k1 k2
        rcases HAB.out with ⟨hB1, hS1⟩ | ⟨hB1, hS1⟩
        · rw [hB1] at H2'
          have H2 : Hid (∀ W, Below wr.heap.size wr W → Calls Try.prog 15 #[.slice (some va) N vc, refV z x y] W fun e w' => e = .returned (.bool true) ∧ Below W.heap.size W w') := H2'.out
          have hS1' : ((SL : Int) == 1) = false := by simp; omega
          clear hB1 hS1 H2' HAB HAG
          go_wp2_with fail
          clear g0 g1 g2
          try simp only [List.append_eq, List.cons_append, List.nil_append]
          go_region_held3 (fun W' => Below wr.heap.size wr W') ((repeat (first | exact Below.refl _ _ | assumption | refine Below.drew ?_ | refine bl_alloc ?_ _ | refine bl_then ?_ (by assumption) | refine Below.setCell ?_ (by first | omega | (simp; done) | (simp; omega)) _ | refine bl_store ?_ ?_ _ _)))
            (first
              | (go_at_call 15; with_reducible refine (H1.out _ (by assumption)).mono ?_; rintro e w' ⟨rfl, hb⟩)
              | (go_at_call 15; with_reducible refine (H2.out _ (by assumption)).mono ?_; rintro e w' ⟨rfl, hb⟩)
              | (go_at_call 15; with_reducible refine (H3.out _ (by assumption)).mono ?_; rintro e w' ⟨rfl, hb⟩)
              | (go_at_call 14; with_reducible refine (H4.out _ (by assumption)).mono ?_; rintro e w' ⟨⟨c', a1', c1', a2', n2', c2', rfl⟩, hb⟩)
              | (go_at_call 16; with_reducible refine (H5.out _ (by assumption)).mono ?_; rintro e w' ⟨rfl, hb⟩)
              | fail)
          go_wp2_with fail
          go_ret
          exact ⟨by simp, bl_then HB10.out (bl_then HBr.out (by assumption))⟩
        · rw [hB1] at H2'
          have H2 : Hid (∀ W, Below wr.heap.size wr W → Calls Try.prog 15 #[.slice (some va) N vc, refV z x y] W fun e w' => e = .returned (.bool false) ∧ Below W.heap.size W w') := H2'.out
          subst hS1
          clear hB1 H2' HAB HAG
          go_wp2_with fail
          clear g0 g1 g2
          try simp only [List.append_eq, List.cons_append, List.nil_append]
          go_region_held3 (fun W' => Below wr.heap.size wr W') ((repeat (first | exact Below.refl _ _ | assumption | refine Below.drew ?_ | refine bl_alloc ?_ _ | refine bl_then ?_ (by assumption) | refine Below.setCell ?_ (by first | omega | (simp; done) | (simp; omega)) _ | refine bl_store ?_ ?_ _ _)))
            (first
              | (go_at_call 15; with_reducible refine (H1.out _ (by assumption)).mono ?_; rintro e w' ⟨rfl, hb⟩)
              | (go_at_call 15; with_reducible refine (H2.out _ (by assumption)).mono ?_; rintro e w' ⟨rfl, hb⟩)
              | (go_at_call 15; with_reducible refine (H3.out _ (by assumption)).mono ?_; rintro e w' ⟨rfl, hb⟩)
              | (go_at_call 14; with_reducible refine (H4.out _ (by assumption)).mono ?_; rintro e w' ⟨⟨c', a1', c1', a2', n2', c2', rfl⟩, hb⟩)
              | (go_at_call 16; with_reducible refine (H5.out _ (by assumption)).mono ?_; rintro e w' ⟨rfl, hb⟩)
              | fail)
          go_wp2_with fail
          go_ret
          exact ⟨by simp, bl_then HB10.out (bl_then HBr.out (by assumption))⟩
  · have hc0' : (askC N E z x y now == 0) = false := by simpa using hc0
    have HSP : Hid (∀ W, IsWs W (some va) N E → Calls Try.prog 12 #[.slice (some va) N vc, refV z x y, .int .i64 now] W fun e w' => (∃ a1 n1 c1 a2 n2 c2, e = .returned (rqV (askC N E z x y now) (.slice a1 n1 c1) (.slice a2 n2 c2))) ∧ Below W.heap.size W w') := fun W hW => (spec_AskTile_any va N vc E z x y now W hW (by omega)).mono fun e w' ⟨v1, v2, he, h1, h2, hb⟩ => by
      obtain ⟨a1, c1, e1⟩ := h1.slice
      obtain ⟨a2, c2, e2⟩ := h2.slice
      exact ⟨⟨a1, _, c1, a2, _, c2, by rw [he, e1, e2]⟩, hb⟩
    have hf0 := field0_rq
    generalize (askS N E z x y now).length = S1 at *
    generalize (askL N E z x y now).length = L1 at *
    generalize askC N E z x y now = kc at *
    clear hc0
    go_upto_region 6 with fail
    generalize hW4 : (w3.alloc _ : World) = w4
    have hb4 : Below w3.heap.size w3 w4 := by subst hW4; (repeat (first | exact Below.refl _ _ | assumption | refine Below.drew ?_ | refine bl_alloc ?_ _ | refine bl_then ?_ (by assumption) | refine Below.setCell ?_ (by first | omega | (simp; done) | (simp; omega)) _ | refine bl_store ?_ ?_ _ _))
    have hA4 : A3 w4 w3.heap.size kc (.slice sa S1 sc) (.slice ra L1 rc) := by subst hW4; exact ⟨by simp [go_sem], by simp [go_sem], by simp [go_sem]⟩
    have HI4 : Hid (IsWs w4 (some va) N E) := HI3.out.below hb4
    have HB4 : Hid (Below w.heap.size w w4) := bl_then HB3.out hb4
    have hRA4 := HRA3.out.below hb4
    have c0 : ∀ W', Below w4.heap.size w4 W' → W'.cell? ⟨r4, 0, none⟩ = some (.int .i64 z) := fun W' h => (hRA4.below h).1
    have c1 : ∀ W', Below w4.heap.size w4 W' → W'.cell? ⟨r4, 1, none⟩ = some (.int .i64 x) := fun W' h => (hRA4.below h).2.1
    have c2 : ∀ W', Below w4.heap.size w4 W' → W'.cell? ⟨r4, 2, none⟩ = some (.int .i64 y) := fun W' h => (hRA4.below h).2.2
    have d0 : ∀ W', Below w4.heap.size w4 W' → W'.cell? ⟨w3.heap.size, 0, none⟩ = some (.int .i64 kc) := fun W' h => (hA4.below h).1
    have hr : Below w4.heap.size w4 w4 := Below.refl _ _
    clear hW4 hb4 hA4 m0 m1 m2 hRA4
    go_region_held3 (fun W' => Below w4.heap.size w4 W') ((repeat (first | exact Below.refl _ _ | assumption | refine Below.drew ?_ | refine bl_alloc ?_ _ | refine bl_then ?_ (by assumption) | refine Below.setCell ?_ (by first | omega | (simp; done) | (simp; omega)) _ | refine bl_store ?_ ?_ _ _)))
      (first
        | (go_at_call 12; refine (HSP.out _ (HI4.out.below (by assumption))).mono ?_; rintro e w' ⟨⟨a1, n1, c1, a2, n2, c2, rfl⟩, hb⟩)
        | fail)
    go_wp2_with fail
    go_ret
    exact ⟨by simp, bl_then HB4.out (by assumption)⟩
end Go.Proofs.Ytfcbbfhfjojoeaa
