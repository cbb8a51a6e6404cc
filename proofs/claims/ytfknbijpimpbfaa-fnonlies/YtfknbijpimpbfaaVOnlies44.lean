/- FnOnlies returns true at every code: of requests those stay just that are seen. -/
import Derived.Test.YtfknbijpimpbfaaVOnlies34
import Derived.Test.YtfknbijpimpbfaaVOnlies41
import Derived.Test.YtfknbijpimpbfaaVOnlies43
namespace Go.Proofs.Ytfknbijpimpbfaa
open Go.RowKit
set_option linter.unusedSimpArgs false
set_option linter.unusedVariables false
set_option maxRecDepth 100000

theorem there5o (V : World) (a b c d e : Value) (t : TypeId) : There (V.alloc (.cells #[a, b, c, d, e] t)) V.heap.size 5 := there5q V a b c d e t
theorem camFault_q (z x y wd ht : Int) (w : World) : Calls Try.prog 12 #[camV z x y wd ht] w fun e w' => e = .returned (.int .i64 (camC z x y wd ht)) ∧ Below w.heap.size w w' := by
  go_enter Try.func12, Try.ntmps12
  go_wp2_with (go_at_call 25; refine (camFault_any _ _ _ _ _ _).mono ?_; rintro e w' ⟨rfl, hb⟩)
  go_ret
  exact ⟨rfl, by (repeat (first | exact Below.refl _ _ | assumption | refine Below.drew ?_ | refine bl_alloc ?_ _ | refine bl_then ?_ (by assumption) | refine Below.setCell ?_ (by first | omega | (simp; done) | (simp; omega)) _ | refine bl_store ?_ ?_ _ _))⟩
theorem resDrO {T : Array Value} {Wf : World} {r : Nat} {v : Value} {z x y wd ht : Int} (h2 : T[2]?.getD undef = v) (hT : T[3]?.getD undef = .pointer (some ⟨r, 0, none⟩)) (h : CamAt Wf r z x y wd ht) :
    (results Try.f6 T).run Try.prog Wf = .ok (.tuple #[v, camV z x y wd ht]) Wf := by
  obtain ⟨a0, a1, a2, a3, a4⟩ := h
  simp [results, Try.results6, go_sem, hT, h2, a0, a1, a2, a3, a4]
set_option maxHeartbeats 8000000 in
theorem DrawOnlySeen_any (a : Option Addr) (n cap : Nat) (Z : Nat → Int) (w : World) (h : IsBytes w a n Z) (hrng : ∀ i, 0 ≤ Z i ∧ Z i ≤ 255) (hn : n ≤ 1048576) (hcap : n ≤ cap) :
    Calls Try.prog 6 #[.slice a n cap] w fun e w' => ∃ (va : Addr) (vc : Nat) (l : List Req) (z x y wd ht : Int), e = .returned (.tuple #[.slice (some va) l.length vc, camV z x y wd ht]) ∧ l.length ≤ 9 ∧ l.length ≤ vc ∧ IsWs w' (some va) l.length (nw l) ∧ Below w.heap.size w w' := by
  go_enter Try.func6, Try.ntmps6
  go_wp2_with fail
  generalize hW : (w.alloc _ : World) = W
  have hB0 : Below w.heap.size w W := by subst hW; (repeat (first | exact Below.refl _ _ | assumption | refine Below.drew ?_ | refine bl_alloc ?_ _ | refine bl_then ?_ (by assumption) | refine Below.setCell ?_ (by first | omega | (simp; done) | (simp; omega)) _ | refine bl_store ?_ ?_ _ _))
  have HT0 : Hid (There W w.heap.size 5) := by show There _ _ _; subst hW; exact there5o w _ _ _ _ _ _
  have hsz : w.heap.size < W.heap.size := by subst hW; simp
  clear hW
  refine (l1Source_ex a n cap W).mono ?_
  rintro e w1 ⟨rfl, rfl⟩
  have hS1 : Src a n cap Z W.heap.size 0 (srcW a n cap W) := src_start a n cap Z W (IsBytes.below h hB0) hrng hn
  have hb1 : Below W.heap.size W (srcW a n cap W) := by unfold srcW; (repeat (first | exact Below.refl _ _ | assumption | refine Below.drew ?_ | refine bl_alloc ?_ _ | refine bl_then ?_ (by assumption) | refine Below.setCell ?_ (by first | omega | (simp; done) | (simp; omega)) _ | refine bl_store ?_ ?_ _ _))
  have HS1 : Hid (Src a n cap Z W.heap.size 0 (srcW a n cap W)) := hS1
  have HT1 : Hid (There (srcW a n cap W) w.heap.size 5) := HT0.out.below hb1
  have HB1 : Hid (Below w.heap.size w (srcW a n cap W)) := bl_then hB0 hb1
  have hsl1 : W.heap.size < (srcW a n cap W).heap.size := World.block_lt_of_cell? _ _ hS1.code
  obtain ⟨s, hs⟩ : ∃ s, W.heap.size = s := ⟨_, rfl⟩
  rw [hs] at HS1 hsl1 hsz ⊢
  generalize srcW a n cap W = w1 at *
  clear hS1 hb1 hB0 HT0 h hs
  go_wp2_with fail
  refine (l12Bent_any a n cap Z s 0 _ HS1.out hcap (by omega)).mono ?_
  rintro e w2 ⟨va, vc, l, t2, rfl, hl9, hR2, ht2, hS2, hK2⟩
  obtain ⟨_, hlc, g, rfl, hg1⟩ := hR2.some
  have HR2 : Hid (RowW w1.heap.size w2 (.slice (some ⟨g, 0, none⟩) l.length vc) l) := hR2
  have HT2 : Hid (There w2 w.heap.size 5) := HT1.out.keeps hK2 (by omega)
  have HK2 : Hid (Keeps s w1 w2) := hK2
  have HS2 : Hid (Src a n cap Z s t2 w2) := hS2
  have hs12 := hK2.size
  clear hR2 hK2 hS2 HS1 HT1
  go_wp2_with fail
  refine (l9Bent_any a n cap Z s t2 _ HS2.out hcap (by omega)).mono ?_
  rintro e w3 ⟨z, x, y, wd, ht, t3, rfl, ht3, hS3, hK3⟩
  have HR3 : Hid (RowW w1.heap.size w3 (.slice (some ⟨g, 0, none⟩) l.length vc) l) := ownsRow_keeps HR2.out hK3 hsl1
  have HT3 : Hid (There w3 w.heap.size 5) := HT2.out.keeps hK3 (by omega)
  have HK3 : Hid (Keeps s w1 w3) := HK2.out.trans hK3
  have hs13 := HK3.out.size
  have t0' := HT3.out.cell 0 (by omega)
  have t1' := HT3.out.cell 1 (by omega)
  have t2' := HT3.out.cell 2 (by omega)
  have t3' := HT3.out.cell 3 (by omega)
  have t4' := HT3.out.cell 4 (by omega)
  have f0 := (HT3.out 0 (by omega)).2
  have f1 := (HT3.out 1 (by omega)).2
  have f2 := (HT3.out 2 (by omega)).2
  have f3 := (HT3.out 3 (by omega)).2
  have f4 := (HT3.out 4 (by omega)).2
  clear hS3 hK3 HR2 HT2 HK2 HS2
  go_wp2_with fail
  have hat := lay5w_at (W := w3) (B := w.heap.size) (o := 0) (e := ⟨z, x, y, wd, ht⟩) HT3.out (by omega)
  have hbl := lay5w_below (B := w.heap.size) (o := 0) (e := ⟨z, x, y, wd, ht⟩) (HB1.out.trans (HK3.out.below (by omega) (by omega))) (Nat.le_refl _)
  have hrw : RowW w1.heap.size (lay5w w3 w.heap.size 0 ⟨z, x, y, wd, ht⟩) (.slice (some ⟨g, 0, none⟩) l.length vc) l := by
    unfold lay5w
    exact ownsRow_setW (ownsRow_setW (ownsRow_setW (ownsRow_setW (ownsRow_setW HR3.out (by omega)) (by omega)) (by omega)) (by omega)) (by omega)
  simp only [lay5w, Nat.zero_add] at hat hbl hrw
  obtain ⟨a0, a1, a2, a3, a4⟩ := hat
  exact bodyPost_ret (resDrO rfl rfl ⟨by simpa using a0, by simpa using a1, by simpa using a2, by simpa using a3, by simpa using a4⟩) rfl ⟨⟨g, 0, none⟩, vc, l, z, x, y, wd, ht, rfl, hl9, hlc, hrw.is, hbl⟩
theorem fieldo0 (c : Int) (a1 : Option Addr) (m1 c1 : Nat) (a2 : Option Addr) (m2 c2 : Nat) (w : World) : (Instr.field 31 (rqV c (.slice a1 m1 c1) (.slice a2 m2 c2)) 0).run Try.prog w = .ok (.int .i64 c) w := by kernel_rfl
theorem fieldo2 (c : Int) (a1 : Option Addr) (m1 c1 : Nat) (a2 : Option Addr) (m2 c2 : Nat) (w : World) : (Instr.field 31 (rqV c (.slice a1 m1 c1) (.slice a2 m2 c2)) 2).run Try.prog w = .ok (.slice a2 m2 c2) w := by kernel_rfl
/-- Three cells of an answer. -/
def B3 (w : World) (b : Nat) (c : Int) (v1 v2 : Value) : Prop := w.cell? ⟨b, 0, none⟩ = some (.int .i64 c) ∧ w.cell? ⟨b, 1, none⟩ = some v1 ∧ w.cell? ⟨b, 2, none⟩ = some v2
theorem B3.below {w w' : World} {b : Nat} {c : Int} {v1 v2 : Value} (h : B3 w b c v1 v2) (hb : Below w.heap.size w w') : B3 w' b c v1 v2 := ⟨bl_cellR hb h.1, bl_cellR hb h.2.1, bl_cellR hb h.2.2⟩
set_option maxHeartbeats 2000000 in
theorem FnOnlies_big (a : Option Addr) (n cap : Nat) (w : World) (hbig : 1048576 < n) :
    Calls Try.prog 3 #[.slice a n cap] w fun e w' => e = .returned (.bool true) ∧ Below w.heap.size w w' := by
  have hn : decide (1048576 < (n : Int)) = true := by simp; omega
  go_enter Try.func3, Try.ntmps3
  go_wp2_with fail
  refine (lwBig_any _ _ _ _).mono ?_
  rintro e w0 ⟨rfl, rfl⟩
  rw [hn]
  go_wp2
  go_ret
  exact ⟨rfl, Below.refl _ _⟩
set_option maxHeartbeats 16000000 in
theorem FnOnlies_walk (a : Option Addr) (n cap : Nat) (Z : Nat → Int) (w : World) (h : IsBytes w a n Z ∧ (∀ i, 0 ≤ Z i ∧ Z i ≤ 255) ∧ n ≤ cap) :
    Calls Try.prog 3 #[.slice a n cap] w fun e w' => e = .returned (.bool true) ∧ Below w.heap.size w w' := by
  obtain ⟨hI, hR, hcap⟩ := h
  by_cases hbig : 1048576 < n
  · exact FnOnlies_big a n cap w hbig
  have hn1 : n ≤ 1048576 := by omega
  have HI : Hid (IsBytes w a n Z) := hI
  have HR : Hid (∀ i, 0 ≤ Z i ∧ Z i ≤ 255) := hR
  have hn : decide (1048576 < (n : Int)) = false := by simp; omega
  clear hI hR hbig
  go_enter Try.func3, Try.ntmps3
  go_wp2_with fail
  refine (lwBig_any _ _ _ _).mono ?_
  rintro e w0 ⟨rfl, hw0⟩
  have hw0' := hw0.symm
  subst hw0'
  rw [hn]
  clear hw0
  go_wp2_with fail
  refine (DrawOnlySeen_any a n cap Z _ HI.out HR.out hn1 hcap).mono ?_
  rintro e w1 ⟨va, vc, l, z, x, y, wd, ht, rfl, hl9, hlc, hI1, hb1⟩
  have HB1 : Hid (Below w.heap.size w w1) := hb1
  have HI1 : Hid (IsWs w1 (some va) l.length (nw l)) := hI1
  clear HI HR hI1 hb1 hn hn1 hcap
  obtain ⟨N, hN⟩ : ∃ N, l.length = N := ⟨_, rfl⟩
  obtain ⟨E, hE⟩ : ∃ E, nw l = E := ⟨_, rfl⟩
  rw [hN, hE] at HI1
  rw [hN] at hl9 hlc ⊢
  clear hN hE
  go_wp2_with fail
  generalize hW2 : (w1.alloc _ : World) = w2
  have hb2 : Below w1.heap.size w1 w2 := by subst hW2; (repeat (first | exact Below.refl _ _ | assumption | refine Below.drew ?_ | refine bl_alloc ?_ _ | refine bl_then ?_ (by assumption) | refine Below.setCell ?_ (by first | omega | (simp; done) | (simp; omega)) _ | refine bl_store ?_ ?_ _ _))
  have HCA2 : Hid (CamAt w2 w1.heap.size z x y wd ht) := by show CamAt _ _ _ _ _ _ _; subst hW2; exact ⟨by simp [go_sem], by simp [go_sem], by simp [go_sem], by simp [go_sem], by simp [go_sem]⟩
  have HI2 : Hid (IsWs w2 (some va) N E) := HI1.out.below hb2
  have HB2 : Hid (Below w.heap.size w w2) := bl_then HB1.out hb2
  obtain ⟨r4, hr4⟩ : ∃ r, w1.heap.size = r := ⟨_, rfl⟩
  rw [hr4] at HCA2 ⊢
  clear hW2 hb2 HI1 HB1 hr4
  refine (impl_OnlySeen_any (some va) N vc E z x y wd ht w2 HI2.out (by omega) hlc).mono ?_
  rintro e w3 ⟨v2, rfl, hl3, hb3⟩
  obtain ⟨ra, rc, rfl, hrc, hI3⟩ := hl3.pts
  have HIA3 : Hid (IsWs w3 ra (onlyL N E z x y wd ht).length (nw (onlyL N E z x y wd ht))) := hI3
  have HI3 : Hid (IsWs w3 (some va) N E) := HI2.out.below hb3
  have HCA3 : Hid (CamAt w3 r4 z x y wd ht) := HCA2.out.up hb3
  have HB3 : Hid (Below w.heap.size w w3) := bl_then HB2.out hb3
  have HSP : Hid (∀ W, IsWs W (some va) N E → Calls Try.prog 8 #[.slice (some va) N vc, camV z x y wd ht] W fun e w' => (∃ a2 c2, e = .returned (rqV (onlyC N E z x y wd ht) (.slice none 0 0) (.slice a2 (onlyL N E z x y wd ht).length c2))) ∧ Below W.heap.size W w') := fun W hW => (spec_OnlySeen_any (some va) N vc E z x y wd ht W hW (by omega)).mono fun e w' ⟨v2, he, h2, hb⟩ => by
    obtain ⟨a2, c2, e2, _⟩ := h2
    exact ⟨⟨a2, c2, by rw [he, e2]⟩, hb⟩
  clear hl3 hb3 hI3 HI2 HCA2 HB2
  by_cases hc0 : onlyC N E z x y wd ht = 0
  · rw [hc0] at HSP ⊢
    obtain ⟨hq0, hcm⟩ := onlyC_zero hc0
    have hL : onlyL N E z x y wd ht = keptL (fun j => seenB z x y wd ht (E j).z (E j).x (E j).y) E N := by unfold onlyL; rw [if_pos hc0]
    have HAS : Hid (∀ k, k < N → askB (onlyL N E z x y wd ht).length (nw (onlyL N E z x y wd ht)) (E k).z (E k).x (E k).y = seenB z x y wd ht (E k).z (E k).x (E k).y) := fun k hk => by rw [hL]; exact only_asked (g := fun a b c => seenB z x y wd ht a b c) hq0 hk
    have HL0 : Hid (reqsC (onlyL N E z x y wd ht).length (nw (onlyL N E z x y wd ht)) = 0) := by show _ = _; rw [hL]; exact keptL_ok hq0
    have HLN : Hid ((onlyL N E z x y wd ht).length = (keptL (fun j => seenB z x y wd ht (E j).z (E j).x (E j).y) E N).length) := by show _ = _; rw [hL]
    have hL8 : (onlyL N E z x y wd ht).length ≤ 8 := reqsC_le HL0.out
    have HCM : Hid (camC z x y wd ht = 0) := hcm
    clear hL hq0 hcm hc0
    generalize onlyL N E z x y wd ht = L at *
    obtain ⟨M, hM⟩ : ∃ M, L.length = M := ⟨_, rfl⟩
    obtain ⟨F, hF⟩ : ∃ F, nw L = F := ⟨_, rfl⟩
    rw [hM, hF] at HIA3 HAS HL0
    rw [hM] at hrc hL8 HLN HSP ⊢
    clear hM hF
    go_wp2_with fail
    generalize hW4 : (w3.alloc _ : World) = w4
    have hb4 : Below w3.heap.size w3 w4 := by subst hW4; (repeat (first | exact Below.refl _ _ | assumption | refine Below.drew ?_ | refine bl_alloc ?_ _ | refine bl_then ?_ (by assumption) | refine Below.setCell ?_ (by first | omega | (simp; done) | (simp; omega)) _ | refine bl_store ?_ ?_ _ _))
    have HA4 : Hid (B3 w4 w3.heap.size 0 (.slice none 0 0) (.slice ra M rc)) := by show B3 _ _ _ _ _; subst hW4; exact ⟨by simp [go_sem], by simp [go_sem], by simp [go_sem]⟩
    obtain ⟨aB, haB⟩ : ∃ b, w3.heap.size = b := ⟨_, rfl⟩
    rw [haB] at HA4 ⊢
    have HIA4 : Hid (IsWs w4 ra M F) := HIA3.out.below hb4
    have HI4 : Hid (IsWs w4 (some va) N E) := HI3.out.below hb4
    have HCA4 : Hid (CamAt w4 r4 z x y wd ht) := HCA3.out.up hb4
    have HB4 : Hid (Below w.heap.size w w4) := bl_then HB3.out hb4
    clear hW4 hb4 HIA3 HI3 HCA3 HB3 haB
    have c0 : ∀ W', Below w4.heap.size w4 W' → W'.cell? ⟨r4, 0, none⟩ = some (.int .i64 z) := fun W' h => (HCA4.out.up h).1
    have c1 : ∀ W', Below w4.heap.size w4 W' → W'.cell? ⟨r4, 1, none⟩ = some (.int .i64 x) := fun W' h => (HCA4.out.up h).2.1
    have c2 : ∀ W', Below w4.heap.size w4 W' → W'.cell? ⟨r4, 2, none⟩ = some (.int .i64 y) := fun W' h => (HCA4.out.up h).2.2.1
    have c3 : ∀ W', Below w4.heap.size w4 W' → W'.cell? ⟨r4, 3, none⟩ = some (.int .i64 wd) := fun W' h => (HCA4.out.up h).2.2.2.1
    have c4 : ∀ W', Below w4.heap.size w4 W' → W'.cell? ⟨r4, 4, none⟩ = some (.int .i64 ht) := fun W' h => (HCA4.out.up h).2.2.2.2
    have a2 : ∀ W', Below w4.heap.size w4 W' → W'.cell? ⟨aB, 2, none⟩ = some (.slice ra M rc) := fun W' h => (HA4.out.below h).2.2
    go_loopw [6, 7] (fun cc i wr => ∃ k : Nat, k ≤ N ∧ i = .int .i64 (k : Int) ∧ cc = .int .i64 ((keptL (fun j => seenB z x y wd ht (E j).z (E j).x (E j).y) E k).length : Int) ∧ Below w4.heap.size w4 wr) (fun _ i _ => N - (intOf i).toNat)
    case atStart => exact ⟨0, by omega, rfl, rfl, Below.refl _ _⟩
    case round =>
      obtain ⟨k, hk, rfl, rfl, hB⟩ := hrel
      have HBr : Hid (Below w4.heap.size w4 wr) := hB
      have hle := keptL_le (fun j => seenB z x y wd ht (E j).z (E j).x (E j).y) E k
      by_cases hlt : k < N
      · rcases HI4.out with h0 | ⟨b, off, he, hbl, hpt⟩
        · omega
        injection he with he
        subst he
        have HPT : Hid (WsAt w4 b off N E) := hpt
        have HLT : Hid (k < N) := hlt
        have hi : (k : Int) < (N : Int) := by omega
        have hi0 : (0 : Int) ≤ (k : Int) := by omega
        have HAK : Hid (askB M F (E k).z (E k).x (E k).y = seenB z x y wd ht (E k).z (E k).x (E k).y) := HAS.out k hlt
        have e0 : ∀ W', Below w4.heap.size w4 W' → W'.cell? ⟨b, off + k * 5, none⟩ = some (.int .i64 (E k).z) := fun W' h => (HPT.out.below h hbl k HLT.out).1
        have e1 : ∀ W', Below w4.heap.size w4 W' → W'.cell? ⟨b, off + k * 5 + 1, none⟩ = some (.int .i64 (E k).x) := fun W' h => (HPT.out.below h hbl k HLT.out).2.1
        have e2 : ∀ W', Below w4.heap.size w4 W' → W'.cell? ⟨b, off + k * 5 + 2, none⟩ = some (.int .i64 (E k).y) := fun W' h => (HPT.out.below h hbl k HLT.out).2.2.1
        have S1 : Hid (∀ W, Calls Try.prog 9 #[camV z x y wd ht, refV (E k).z (E k).x (E k).y] W fun e w' => e = .returned (.bool (seenB z x y wd ht (E k).z (E k).x (E k).y)) ∧ Below W.heap.size W w') := fun W => impl_IsSeen_any z x y wd ht (E k).z (E k).x (E k).y W
        have S2 : Hid (∀ W, Below w4.heap.size w4 W → Calls Try.prog 10 #[.slice ra M rc, refV (E k).z (E k).x (E k).y] W fun e w' => e = .returned (.bool (seenB z x y wd ht (E k).z (E k).x (E k).y)) ∧ Below W.heap.size W w') := fun W h => by
          have := impl_IsAsked_any ra M rc F (E k).z (E k).x (E k).y W (HIA4.out.below h) (by omega) hrc
          rw [HAK.out] at this
          exact this
        clear hpt
        cases hS : seenB z x y wd ht (E k).z (E k).x (E k).y
        · have HK : Hid (keptL (fun j => seenB z x y wd ht (E j).z (E j).x (E j).y) E (k + 1) = keptL (fun j => seenB z x y wd ht (E j).z (E j).x (E j).y) E k) := keptL_no hS
          rw [hS] at S1 S2
          clear hS HAK
          generalize (E k).z = rz at *
          generalize (E k).x = rx at *
          generalize (E k).y = ry at *
          obtain ⟨KL, hKL⟩ : ∃ KL, (keptL (fun j => seenB z x y wd ht (E j).z (E j).x (E j).y) E k).length = KL := ⟨_, rfl⟩
          have HKL : Hid ((keptL (fun j => seenB z x y wd ht (E j).z (E j).x (E j).y) E k).length = KL) := hKL
          rw [hKL] at hle ⊢
          clear hKL
          go_upto_region 11 with fail
          go_region_held3 (fun W' => Below w4.heap.size w4 W') ((repeat (first | exact Below.refl _ _ | assumption | refine Below.drew ?_ | refine bl_alloc ?_ _ | refine bl_then ?_ (by assumption) | refine Below.setCell ?_ (by first | omega | (simp; done) | (simp; omega)) _ | refine bl_store ?_ ?_ _ _)))
            (first | (go_at_call 9; refine (S1.out _).mono ?_; rintro e w' ⟨rfl, hb⟩) | fail)
          go_upto_region 13 with fail
          go_region_held3 (fun W' => Below w4.heap.size w4 W') ((repeat (first | exact Below.refl _ _ | assumption | refine Below.drew ?_ | refine bl_alloc ?_ _ | refine bl_then ?_ (by assumption) | refine Below.setCell ?_ (by first | omega | (simp; done) | (simp; omega)) _ | refine bl_store ?_ ?_ _ _)))
            (first
              | (go_at_call 9; refine (S1.out _).mono ?_; rintro e w' ⟨rfl, hb⟩)
              | (go_at_call 10; refine (S2.out _ (by assumption)).mono ?_; rintro e w' ⟨rfl, hb⟩)
              | fail)
          go_wp2_with fail
          go_roundw
          case rel => exact ⟨k + 1, by have := HLT.out; omega, by go_num, by rw [HK.out, HKL.out], by assumption⟩
          case measure => have := HLT.out; simp [intOf]; omega
        · have HK : Hid (keptL (fun j => seenB z x y wd ht (E j).z (E j).x (E j).y) E (k + 1) = keptL (fun j => seenB z x y wd ht (E j).z (E j).x (E j).y) E k ++ [E k]) := keptL_yes hS
          rw [hS] at S1 S2
          clear hS HAK
          obtain ⟨KL, hKL⟩ : ∃ KL, (keptL (fun j => seenB z x y wd ht (E j).z (E j).x (E j).y) E k).length = KL := ⟨_, rfl⟩
          have HKL : Hid ((keptL (fun j => seenB z x y wd ht (E j).z (E j).x (E j).y) E k).length = KL) := hKL
          rw [hKL] at hle ⊢
          have HKS : Hid ((keptL (fun j => seenB z x y wd ht (E j).z (E j).x (E j).y) E (k + 1)).length = KL + 1) := by show _ = _; rw [HK.out, List.length_append, hKL]; rfl
          clear hKL HK
          generalize (E k).z = rz at *
          generalize (E k).x = rx at *
          generalize (E k).y = ry at *
          go_upto_region 11 with fail
          go_region_held3 (fun W' => Below w4.heap.size w4 W') ((repeat (first | exact Below.refl _ _ | assumption | refine Below.drew ?_ | refine bl_alloc ?_ _ | refine bl_then ?_ (by assumption) | refine Below.setCell ?_ (by first | omega | (simp; done) | (simp; omega)) _ | refine bl_store ?_ ?_ _ _)))
            (first | (go_at_call 9; refine (S1.out _).mono ?_; rintro e w' ⟨rfl, hb⟩) | fail)
          go_upto_region 13 with fail
          go_region_held3 (fun W' => Below w4.heap.size w4 W') ((repeat (first | exact Below.refl _ _ | assumption | refine Below.drew ?_ | refine bl_alloc ?_ _ | refine bl_then ?_ (by assumption) | refine Below.setCell ?_ (by first | omega | (simp; done) | (simp; omega)) _ | refine bl_store ?_ ?_ _ _)))
            (first
              | (go_at_call 9; refine (S1.out _).mono ?_; rintro e w' ⟨rfl, hb⟩)
              | (go_at_call 10; refine (S2.out _ (by assumption)).mono ?_; rintro e w' ⟨rfl, hb⟩)
              | fail)
          go_wp2_with fail
          go_roundw
          case rel => exact ⟨k + 1, by have := HLT.out; omega, by go_num, by rw [HKS.out]; go_num, by assumption⟩
          case measure => have := HLT.out; simp [intOf]; omega
      · obtain rfl : N = k := by omega
        rw [← HLN.out]
        have T1 : Hid (∀ W, Below w4.heap.size w4 W → Calls Try.prog 11 #[.slice ra M rc] W fun e w' => e = .returned (.int .i64 0) ∧ Below W.heap.size W w') := fun W h => by
          have := impl_RequestsFault_any ra M rc F W (HIA4.out.below h) (by omega) hrc
          rw [HL0.out] at this
          exact this
        have T2 : Hid (∀ W, Below w4.heap.size w4 W → Calls Try.prog 8 #[.slice (some va) N vc, camV z x y wd ht] W fun e w' => (∃ a2 c2, e = .returned (rqV 0 (.slice none 0 0) (.slice a2 M c2))) ∧ Below W.heap.size W w') := fun W h => HSP.out W (HI4.out.below h)
        have T3 : Hid (∀ W, Calls Try.prog 12 #[camV z x y wd ht] W fun e w' => e = .returned (.int .i64 0) ∧ Below W.heap.size W w') := fun W => by
          have := camFault_q z x y wd ht W
          rw [HCM.out] at this
          exact this
        have hf2 := fieldo2
        have hnlt : ¬ (N : Int) < (N : Int) := by omega
        clear hle
        go_wp2_with fail
        refine (T1.out _ hB).mono ?_
        rintro e w5 ⟨rfl, hb5⟩
        have hB5 : Below w4.heap.size w4 w5 := bl_then hB hb5
        clear hb5 hB
        go_wp2_with fail
        refine (T2.out _ hB5).mono ?_
        rintro e w6 ⟨⟨a2', c2', rfl⟩, hb6⟩
        have hB6 : Below w4.heap.size w4 w6 := bl_then hB5 hb6
        clear hb6 hB5
        go_wp2_with fail
        refine (T3.out _).mono ?_
        rintro e w7 ⟨rfl, hb7⟩
        have hB7 : Below w4.heap.size w4 w7 := bl_then hB6 hb7
        clear hb7 hB6
        go_wp2_with fail
        go_ret
        exact ⟨by simp, bl_then HB4.out hB7⟩
  · have hc0' : (onlyC N E z x y wd ht == 0) = false := by simpa using hc0
    have hf0 := fieldo0
    generalize (onlyL N E z x y wd ht).length = L1 at *
    generalize onlyC N E z x y wd ht = kc at *
    clear hc0
    go_upto_region 6 with fail
    generalize hW4 : (w3.alloc _ : World) = w4
    have hb4 : Below w3.heap.size w3 w4 := by subst hW4; (repeat (first | exact Below.refl _ _ | assumption | refine Below.drew ?_ | refine bl_alloc ?_ _ | refine bl_then ?_ (by assumption) | refine Below.setCell ?_ (by first | omega | (simp; done) | (simp; omega)) _ | refine bl_store ?_ ?_ _ _))
    have hA4 : B3 w4 w3.heap.size kc (.slice none 0 0) (.slice ra L1 rc) := by subst hW4; exact ⟨by simp [go_sem], by simp [go_sem], by simp [go_sem]⟩
    have HI4 : Hid (IsWs w4 (some va) N E) := HI3.out.below hb4
    have HB4 : Hid (Below w.heap.size w w4) := bl_then HB3.out hb4
    have hCA4 := HCA3.out.up hb4
    have c0 : ∀ W', Below w4.heap.size w4 W' → W'.cell? ⟨r4, 0, none⟩ = some (.int .i64 z) := fun W' h => (hCA4.up h).1
    have c1 : ∀ W', Below w4.heap.size w4 W' → W'.cell? ⟨r4, 1, none⟩ = some (.int .i64 x) := fun W' h => (hCA4.up h).2.1
    have c2 : ∀ W', Below w4.heap.size w4 W' → W'.cell? ⟨r4, 2, none⟩ = some (.int .i64 y) := fun W' h => (hCA4.up h).2.2.1
    have c3 : ∀ W', Below w4.heap.size w4 W' → W'.cell? ⟨r4, 3, none⟩ = some (.int .i64 wd) := fun W' h => (hCA4.up h).2.2.2.1
    have c4 : ∀ W', Below w4.heap.size w4 W' → W'.cell? ⟨r4, 4, none⟩ = some (.int .i64 ht) := fun W' h => (hCA4.up h).2.2.2.2
    have d0 : ∀ W', Below w4.heap.size w4 W' → W'.cell? ⟨w3.heap.size, 0, none⟩ = some (.int .i64 kc) := fun W' h => (hA4.below h).1
    have hr : Below w4.heap.size w4 w4 := Below.refl _ _
    clear hW4 hb4 hA4
    go_region_held3 (fun W' => Below w4.heap.size w4 W') ((repeat (first | exact Below.refl _ _ | assumption | refine Below.drew ?_ | refine bl_alloc ?_ _ | refine bl_then ?_ (by assumption) | refine Below.setCell ?_ (by first | omega | (simp; done) | (simp; omega)) _ | refine bl_store ?_ ?_ _ _)))
      (first
        | (go_at_call 8; refine (HSP.out _ (HI4.out.below (by assumption))).mono ?_; rintro e w' ⟨⟨a2, c2', rfl⟩, hb⟩)
        | fail)
    go_wp2_with fail
    go_ret
    exact ⟨by simp, bl_then HB4.out (by assumption)⟩
end Go.Proofs.Ytfknbijpimpbfaa
