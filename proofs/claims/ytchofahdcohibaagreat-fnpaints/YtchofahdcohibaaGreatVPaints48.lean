/- Several texts in one. -/
import Derived.Test.YtchofahdcohibaaGreatVPaints2
import Derived.Test.YtchofahdcohibaaGreatVPaints17
import Derived.Test.YtchofahdcohibaaGreatVPaints47
import Derived.Deep.DeepCutAuto
import Derived.Deep.RegionHeld3
import Derived.Test.YtchofahdcohibaaGreatRows
import Derived.WalkKit
import Derived.Below
import Derived.ProofKit
import Derived.OpenShut
import Derived.ChangeOld
import Derived.Deep.Slices

/- lwBig tells whether a code is too long. -/

namespace Go.Proofs.YtchofahdcohibaaGreat
open Go.RowKit
set_option linter.unusedSimpArgs false
set_option linter.unusedVariables false

theorem lwBig_any (a : Option Addr) (n cap : Nat) (w : World) : Calls Tryz.prog 4 #[.slice a n cap] w fun e w' => e = .returned (.bool (decide (1048576 < (n : Int)))) ∧ w' = w := by
  go_enter Tryz.func4, Tryz.ntmps4
  go_wp2
  go_ret
  exact ⟨rfl, rfl⟩
end Go.Proofs.YtchofahdcohibaaGreat
/- FnPaints: what is painted covers the pixel, and nothing in front of it does: the law's steps. -/

namespace Go.Proofs.YtchofahdcohibaaGreat
open Go.RowKit
set_option linter.unusedSimpArgs false
set_option linter.unusedVariables false
set_option maxRecDepth 100000

theorem paC_zero {z x y : Int} {n : Nat} {G : Nat → Feat} (hC : paC z x y n G = 0) : zoomB z = true ∧ featsC n G = 0 ∧ pixB z x y = true := by
  unfold paC at hC
  split at hC
  · rename_i hz
    split at hC
    · rename_i hf
      split at hC
      · rename_i hp
        exact ⟨hz, hf, hp⟩
      · omega
    · rename_i hf
      exact absurd hC hf
  · omega
theorem FnPaints_big (a : Option Addr) (n cap : Nat) (w : World) (hbig : 1048576 < n) : Calls Tryz.prog 3 #[.slice a n cap] w fun e w' => e = .returned (.bool true) ∧ Below w.heap.size w w' := by
  have hn : decide (1048576 < (n : Int)) = true := by simp; omega
  go_enter Tryz.func3, Tryz.ntmps3
  go_wp2_with (go_at_call 4; refine (lwBig_any _ _ _ _).mono ?_; rintro e w' ⟨rfl, rfl⟩)
  go_ret
  exact ⟨rfl, Below.refl _ _⟩
set_option maxHeartbeats 8000000 in
theorem FnPaints_walk (a : Option Addr) (n cap : Nat) (Z : Nat → Int) (w : World) (h : IsBytes w a n Z ∧ (∀ i, 0 ≤ Z i ∧ Z i ≤ 255) ∧ n ≤ cap) :
    Calls Tryz.prog 3 #[.slice a n cap] w fun e w' => e = .returned (.bool true) ∧ Below w.heap.size w w' := by
  obtain ⟨hI, hR, hcap⟩ := h
  by_cases hbig : 1048576 < n
  · exact FnPaints_big a n cap w hbig
  have hn1 : n ≤ 1048576 := by omega
  have HI : Hid (IsBytes w a n Z) := hI
  have HR : Hid (∀ i, 0 ≤ Z i ∧ Z i ≤ 255) := hR
  have hn : decide (1048576 < (n : Int)) = false := by simp; omega
  clear hI hR hbig
  go_enter Tryz.func3, Tryz.ntmps3
  go_wp2_with fail
  refine (lwBig_any _ _ _ _).mono ?_
  rintro e w0 ⟨rfl, hw0⟩
  have hw0' := hw0.symm
  subst hw0'
  clear hw0
  go_wp2_with fail
  refine (DrawPaintedAt_any a n cap Z _ HI.out HR.out hn1 hcap).mono ?_
  rintro e w1 ⟨g, m, c, G, z, x, y, rfl, ⟨hmc, hm13, hgl, hF1, hS1⟩, hb1⟩
  have HF1 : Hid (FsAt w1 g 0 m G) := hF1
  have HS1 : Hid (SmallFs m G) := hS1
  have HB1 : Hid (Below w.heap.size w w1) := hb1
  clear hF1 hS1 hb1 HI HR
  go_wp2_with fail
  refine (impl_PaintedAt_any z x y g m c G w1 HF1.out hgl HS1.out hmc).mono ?_
  rintro e w2 ⟨rfl, hb2⟩
  have HSP : Hid (∀ W, Below w1.heap.size w1 W → Calls Tryz.prog 7 #[.slice (some ⟨g, 0, none⟩) m c, .int .i64 z, .int .i64 x, .int .i64 y] W fun e w' => e = .returned (.agg #[.int .i64 (paC z x y m G), .int .i64 (paV z x y m G)]) ∧ Below W.heap.size W w') := fun W hW => spec_PaintedAt_any z x y g m c G W (HF1.out.below hW hgl) (Nat.lt_of_lt_of_le hgl hW.size) HS1.out
  have HB2 : Hid (Below w1.heap.size w1 w2) := hb2
  clear hb2
  by_cases hC : paC z x y m G = 0
  · obtain ⟨hz, hf, hpx⟩ := paC_zero hC
    obtain ⟨K2, hK2⟩ : ∃ K2 : Nat → Feat, K2 = fun i => G ((srtF m G).getD i 0) := ⟨_, rfl⟩
    have hV0 : paV z x y m G = paintI (fun i => covL z (centI z x) (centI z y) (K2 i)) (fun i => (K2 i).id) m := by rw [hK2]; exact if_pos hC
    obtain ⟨PI, hP0, hPS, hPM⟩ : ∃ PI : Nat → Int, PI 0 = 0 ∧ (∀ k, PI (k + 1) = if covL z (centI z x) (centI z y) (K2 k) = true then (K2 k).id else PI k) ∧ paV z x y m G = PI m := ⟨fun k => paintI (fun i => covL z (centI z x) (centI z y) (K2 i)) (fun i => (K2 i).id) k, rfl, fun _ => rfl, hV0⟩
    have HPS := (show Hid (∀ k, PI (k + 1) = if covL z (centI z x) (centI z y) (K2 k) = true then (K2 k).id else PI k) from hPS)
    have HV : Hid (paV z x y m G = PI m) := hPM
    have HP0 : Hid (PI 0 = 0) := hP0
    clear hV0 hPS hPM hP0
    have HOK : Hid (∀ i, i < m → okC (K2 i)) := by rw [hK2]; exact fun i hi => (featsC_ok hf).2.2 _ (srtF_lt m G i hi)
    have HSML : Hid (∀ i, i < m → (K2 i).n ≤ 1048576 ∧ (K2 i).lab.size ≤ 1048576) := by rw [hK2]; exact fun i hi => HS1.out.2 _ (srtF_lt m G i hi)
    have hM : srtM m G = m := if_pos hf
    have HSO : Hid (∀ W, Below w1.heap.size w1 W → Calls Tryz.prog 8 #[.slice (some ⟨g, 0, none⟩) m c] W fun e w' => ∃ a1 c1 T, e = .returned (.agg #[.int .i64 0, .slice a1 m c1]) ∧ IsFs w' a1 m T ∧ (∀ i, i < m → (T i).same (K2 i) ∧ (T i).n ≤ (T i).cap) ∧ Below W.heap.size W w') := fun W hW => (impl_SortFeatures_cap g m c G W (HF1.out.below hW hgl) (Nat.lt_of_lt_of_le hgl hW.size) HS1.out hmc).mono fun e w' ⟨a1, c1, T, h1, h2, h3, h4⟩ => by
      rw [hM] at h1 h3
      rw [hf] at h1
      refine ⟨a1, c1, T, h1, ?_, ?_, h4⟩
      · have := h3.1.1; rw [hM] at this; exact this
      · intro i hi; rw [hK2]; exact ⟨h3.1.2.1 i (by rw [hM]; exact hi), h3.2 i hi⟩
    rw [hC] at HSP
    rw [hC]
    generalize paV z x y m G = pv at *
    have HPX : Hid (pixB z x y = true) := hpx
    clear hC hf hM hpx hK2
    go_wp2_with fail
    generalize hV : (w2.alloc _ : World) = V
    have hbV : Below w2.heap.size w2 V := by subst hV; (repeat (first | exact Below.refl _ _ | assumption | refine Below.drew ?_ | refine bl_alloc ?_ _ | refine bl_then ?_ (by assumption) | refine Below.setCell ?_ (by first | omega | (simp; done) | (simp; omega)) _ | refine bl_store ?_ ?_ _ _))
    have c1V : ∀ W', Below V.heap.size V W' → W'.cell? ⟨w2.heap.size, 1, none⟩ = some (.int .i64 pv) := fun W' h => by rw [h.cell (by subst hV; simp)]; subst hV; simp [go_sem]
    have hl2 : w2.heap.size < V.heap.size := by subst hV; simp
    clear hV
    have HBV : Hid (Below w1.heap.size w1 V) := bl_then HB2.out hbV
    refine (HSO.out _ HBV.out).mono ?_
    rintro e w3 ⟨a1, c1, T, rfl, hI3, hT3, hb3⟩
    have HI3 : Hid (IsFs w3 a1 m T) := hI3
    have HT3 : Hid (∀ i, i < m → (T i).same (K2 i) ∧ (T i).n ≤ (T i).cap) := hT3
    have HB3 : Hid (Below V.heap.size V w3) := hb3
    have HC1 : Hid (∀ W', Below V.heap.size V W' → W'.cell? ⟨w2.heap.size, 1, none⟩ = some (.int .i64 pv)) := c1V
    have fldS : ∀ w, (Instr.field 31 (.agg #[.int .i64 0, .slice a1 m c1]) 1).run Tryz.prog w = .ok (.slice a1 m c1) w := fun _ => by kernel_rfl
    clear hI3 hT3 hb3 c1V hbV HSO
    go_wp2_with fail
    go_loopw [9, 10] (fun l i wr => ∃ k : Nat, k ≤ m ∧ i = .int .i64 (k : Int) ∧ l = .int .i64 (PI k) ∧ Below w3.heap.size w3 wr) (fun _ i _ => m - (intOf i).toNat)
    case atStart => exact ⟨0, by omega, rfl, by rw [HP0.out], Below.refl _ _⟩
    case round =>
      obtain ⟨k, hk, rfl, rfl, hB⟩ := hrel
      have HBr : Hid (Below w3.heap.size w3 wr) := hB
      have HIr : Hid (IsFs wr a1 m T) := HI3.out.below hB
      clear hB
      by_cases hlt : k < m
      · rcases HIr.out with h0 | ⟨b1, o1, rfl, hbl1, hFs⟩
        · omega
        obtain ⟨⟨e1, e2, e3, e4, e5, e6, e7, e8, e9⟩, hnc⟩ := HT3.out k hlt
        have hok := HOK.out k hlt
        have hokT : okC (T k) := by unfold okC; rw [e1, e2, e3, e4, e5, e6, e7, e8, e9]; exact hok
        have hsm := HSML.out k hlt
        rw [← e5, ← e8] at hsm
        have hsim : simL z (T k) = simL z (K2 k) := simL_same (HT3.out k hlt).1
        have h0 : 0 < (T k).n := (featC_zero hokT).2.1
        obtain ⟨q, o, ea, hql, hpt⟩ : ∃ q o, (T k).a = some ⟨q, o, none⟩ ∧ q < wr.heap.size ∧ PtsAt wr q o (T k).n (T k).X (T k).Y := by
          rcases (hFs k hlt).2 with h' | ⟨q, o, e, hl, hp⟩
          · omega
          · exact ⟨q, o, e, hl, hp⟩
        have hff := (hFs k hlt).1
        rw [ea] at hff
        have hcz : (0 : Int) = simpC z (featC (T k).id (T k).la (T k).ki (T k).wi (T k).n (T k).X (T k).Y (T k).lab (T k).pr) := by unfold simpC; rw [if_pos hz]; exact hokT.symm
        have HDC := (show Hid _ from impl_DoesCover_any (T k).id (T k).la (T k).ki (T k).wi z x y q (T k).n (T k).cap (T k).X (T k).Y (T k).lab (T k).pr (thinOf z (T k)) wr hpt hql hsm.1 hnc hsm.2 (thinOf_spec z (T k)) 0 hcz)
        have ecov : dcB 0 (T k).ki (T k).wi z x y (simpR 0 (T k).ki z (T k).n (T k).X (T k).Y (thinOf z (T k))) = covL z (centI z x) (centI z y) (K2 k) := by
          show dcB 0 (T k).ki (T k).wi z x y (simL z (T k)) = _
          unfold dcB covL
          rw [hsim, e3, e4, HPX.out]
          simp
        rw [ecov] at HDC
        have HID : Hid ((T k).id = (K2 k).id) := e1
        have HFF : Hid (∀ W', Below wr.heap.size wr W' → W'.cell? ⟨b1, o1 + k * 7, none⟩ = some (.int .i64 (T k).id)) := fun W' h => (h.cell (p := ⟨b1, o1 + k * 7, none⟩) hbl1).trans hff.1
        obtain ⟨d0, d1, d2, d3, d4, d5, d6⟩ := hff
        have hi1 : (k : Int) < (m : Int) := by omega
        have hi0 : (0 : Int) ≤ (k : Int) := by omega
        have hpn := HPS.out k
        have HPN := (show Hid _ from hpn)
        clear hok hokT hsm hsim hcz hpt hFs ecov e1 e2 e3 e4 e5 e6 e7 e8 e9 hpn hnc ea h0
        go_wp2_with fail
        refine Calls.mono HDC.out ?_
        rintro e w5 ⟨rfl, hb5⟩
        have e0 := HFF.out w5 hb5
        have hb15 : b1 < w5.heap.size := Nat.lt_of_lt_of_le hbl1 hb5.size
        have HB5 : Hid (Below w3.heap.size w3 w5) := bl_then HBr.out hb5
        clear d0 d1 d2 d3 d4 d5 d6 hb5 HDC
        cases hcv : covL z (centI z x) (centI z y) (K2 k)
        · rw [hcv, if_neg (by decide)] at HPN
          have hp2 := HPN.out
          clear hcv e0
          go_wp2_with fail
          go_roundw
          case rel => exact ⟨k + 1, by omega, by go_num, by rw [hp2], HB5.out⟩
          case measure => simp [intOf]; omega
        · rw [hcv, if_pos rfl] at HPN
          have hp2 := HPN.out
          clear hcv
          go_wp2_with fail
          go_roundw
          case rel => exact ⟨k + 1, by omega, by go_num, by rw [hp2, ← HID.out], HB5.out⟩
          case measure => simp [intOf]; omega
      · obtain rfl : k = m := by omega
        rw [← HV.out]
        have hBw : Below V.heap.size V wr := bl_then HB3.out HBr.out
        have c1 : ∀ W', Below wr.heap.size wr W' → W'.cell? ⟨w2.heap.size, 1, none⟩ = some (.int .i64 pv) := fun W' h => HC1.out W' (bl_then hBw h)
        have HSr : Hid (∀ W', Below wr.heap.size wr W' → Calls Tryz.prog 7 #[.slice (some ⟨g, 0, none⟩) k c, .int .i64 z, .int .i64 x, .int .i64 y] W' fun e w' => e = .returned (.agg #[.int .i64 0, .int .i64 pv]) ∧ Below W'.heap.size W' w') := fun W' h => HSP.out W' (bl_then HBV.out (bl_then hBw h))
        have HBe : Hid (Below w.heap.size w wr) := bl_then HB1.out (bl_then HBV.out hBw)
        have fld : ∀ w, (Instr.field 28 (.agg #[.int .i64 0, .int .i64 pv]) 1).run Tryz.prog w = .ok (.int .i64 pv) w := fun _ => by kernel_rfl
        clear hBw HB3 HBr HIr HI3 HT3 HSML HOK HSP HV hlt
        go_wp2_with fail
        go_region_held3 (fun W' => Below wr.heap.size wr W') ((repeat (first | exact Below.refl _ _ | assumption | refine Below.drew ?_ | refine bl_alloc ?_ _ | refine bl_then ?_ (by assumption) | refine Below.setCell ?_ (by first | omega | (simp; done) | (simp; omega)) _ | refine bl_store ?_ ?_ _ _)))
          (first
            | (go_at_call 7; refine Calls.mono (HSr.out _ (by assumption)) ?_; rintro e w7 ⟨rfl, hb7⟩))
        go_wp2
        go_ret
        exact ⟨rfl, bl_then HBe.out (by assumption)⟩
  · have hcb : (paC z x y m G == 0) = false := by simpa using hC
    generalize paC z x y m G = pc at *
    generalize paV z x y m G = pv at *
    have fld : ∀ w, (Instr.field 28 (.agg #[.int .i64 pc, .int .i64 pv]) 0).run Tryz.prog w = .ok (.int .i64 pc) w := fun _ => by kernel_rfl
    clear hC
    go_wp2_with fail
    generalize hV : (w2.alloc _ : World) = V
    have hbV : Below w2.heap.size w2 V := by subst hV; (repeat (first | exact Below.refl _ _ | assumption | refine Below.drew ?_ | refine bl_alloc ?_ _ | refine bl_then ?_ (by assumption) | refine Below.setCell ?_ (by first | omega | (simp; done) | (simp; omega)) _ | refine bl_store ?_ ?_ _ _))
    have c0V : ∀ W', Below V.heap.size V W' → W'.cell? ⟨w2.heap.size, 0, none⟩ = some (.int .i64 pc) := fun W' h => by rw [h.cell (by subst hV; simp)]; subst hV; simp [go_sem]
    have hl2 : w2.heap.size < V.heap.size := by subst hV; simp
    clear hV
    have HBV : Hid (Below w1.heap.size w1 V) := bl_then HB2.out hbV
    have HSV : Hid (∀ W', Below V.heap.size V W' → Calls Tryz.prog 7 #[.slice (some ⟨g, 0, none⟩) m c, .int .i64 z, .int .i64 x, .int .i64 y] W' fun e w' => e = .returned (.agg #[.int .i64 pc, .int .i64 pv]) ∧ Below W'.heap.size W' w') := fun W' h => HSP.out W' (bl_then HBV.out h)
    clear hbV
    go_region_held3 (fun W' => Below V.heap.size V W') ((repeat (first | exact Below.refl _ _ | assumption | refine Below.drew ?_ | refine bl_alloc ?_ _ | refine bl_then ?_ (by assumption) | refine Below.setCell ?_ (by first | omega | (simp; done) | (simp; omega)) _ | refine bl_store ?_ ?_ _ _)))
      (first
        | (go_at_call 7; refine Calls.mono (HSV.out _ (by assumption)) ?_; rintro e w7 ⟨rfl, hb7⟩))
    go_wp2
    go_ret
    exact ⟨rfl, bl_then HB1.out (bl_then HBV.out (by assumption))⟩
end Go.Proofs.YtchofahdcohibaaGreat
/- How a list of bytes that came in is read. -/

namespace Go.Proofs.YtchofahdcohibaaGreat
open Go.ChangeShapes Go.WideShapes Go.ChangeAt Go.RowKit
set_option linter.unusedVariables false

theorem own : ownKnob Tryz.prog.godebug = none := by kernel_rfl
theorem laidOut : laidOutB Tryz.prog = true := by kernel_rfl

set_option maxRecDepth 100000 in
theorem open_bytes {H : Type} {enc : TypeId × Value → H} {w : World} {base b0 : Nat} {held : Bool} {r : Reach} {v : Value} {d : DataW H} {p : List MemPlace}
    (hv : Value.okWide Tryz.prog w r b0 22 v) (h : DataW.Trod enc Tryz.prog w base (fun _ => true) held 22 v d p) :
    ∃ (a : Option Addr) (n cap : Nat) (Z : Nat → Int), v = .slice a n cap ∧ IsBytes w a n Z ∧ (∀ i, 0 ≤ Z i ∧ Z i ≤ 255) ∧ n ≤ cap := by
  obtain ⟨a, len, cap, rfl⟩ := okWide_slice Tryz.underlying22 hv
  obtain ⟨fuel, hf⟩ := h
  rcases open_ints Tryz.underlying22 Tryz.underlying5 (by kernel_rfl) hf with ⟨hcs, _⟩ | ⟨x, l, c, zs, hcs, _, hl, hm, hz, _, hcell, hwz⟩
  · simp [Value.cells] at hcs
    obtain ⟨rfl, rfl, rfl⟩ := hcs
    exact ⟨none, 0, 0, fun _ => 0, rfl, .inl rfl, fun _ => ⟨Int.le_refl _, by show (0 : Int) ≤ 255; omega⟩, Nat.le_refl _⟩
  · simp [Value.cells] at hcs
    obtain ⟨rfl, rfl, rfl⟩ := hcs
    have hz' : zs.length = cap := by simpa using hz
    refine ⟨some x, len, cap, fun i => zs.getD i 0, rfl, ?_, fun i => ?_, hl⟩
    · by_cases h0 : len = 0
      · exact .inl h0
      · right
        obtain ⟨b, off, spot⟩ := x
        have e0 := hcell 0 (by omega)
        have hspot : spot = none := by simpa [Addr.add] using World.cell?_spot e0
        subst hspot
        refine ⟨b, off, rfl, ?_, fun i hi => ?_⟩
        · have := World.block_lt_of_cell? _ _ e0
          simpa [Addr.add] using this
        · have := hcell i (by omega)
          have e : (⟨b, off, none⟩ : Addr).add i = ⟨b, off + i, none⟩ := by
            unfold Addr.add
            by_cases h : i = 0 <;> simp [h]
          rw [e] at this
          exact this
    · by_cases hi : i < zs.length
      · have hw := hwz zs[i] (List.getElem_mem hi)
        simp [Lit.wf, IntKind.min, IntKind.max, IntKind.signed, IntKind.bits] at hw
        simp [List.getD, hi]
        omega
      · simp [List.getD, hi]
end Go.Proofs.YtchofahdcohibaaGreat
