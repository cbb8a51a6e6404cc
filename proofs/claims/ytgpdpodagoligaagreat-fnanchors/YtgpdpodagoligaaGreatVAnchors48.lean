/- Several texts in one. -/
import Derived.Test.YtgpdpodagoligaaGreatVAnchors41
import Derived.Test.YtgpdpodagoligaaGreatVAnchors43
import Derived.Test.YtgpdpodagoligaaGreatVAnchors47
import Derived.Deep.RegionHeld3
import Derived.BigQuiet
import Derived.Test.YtgpdpodagoligaaGreatRows
import Derived.Test.YtgpdpodagoligaaGreatVAnchors38
import Derived.WalkKit
import Derived.Below
import Derived.ProofKit
import Derived.OpenShut
import Derived.ChangeOld
import Derived.Deep.Slices

/- FnAnchors: the tile in which the anchor of a feature is has it: the law's steps. -/

namespace Go.Proofs.YtgpdpodagoligaaGreat
open Go.RowKit
set_option linter.unusedSimpArgs false
set_option linter.unusedVariables false
set_option maxRecDepth 100000

theorem resDA (T : Array Value) (Wf : World) (r : Nat) (z : Int) (v0 v1 v2 v3 v4 v5 v6 : Value) (hT : T[2]?.getD undef = .pointer (some ⟨r, 0, none⟩)) (hz : T[3]?.getD undef = .int .i64 z) (h0 : Wf.cell? ⟨r, 0, none⟩ = some v0) (h1 : Wf.cell? ⟨r, 1, none⟩ = some v1) (h2 : Wf.cell? ⟨r, 2, none⟩ = some v2) (h3 : Wf.cell? ⟨r, 3, none⟩ = some v3) (h4 : Wf.cell? ⟨r, 4, none⟩ = some v4) (h5 : Wf.cell? ⟨r, 5, none⟩ = some v5) (h6 : Wf.cell? ⟨r, 6, none⟩ = some v6) :
    (results Tryz.f5 T).run Tryz.prog Wf = .ok (.tuple #[.agg #[v0, v1, v2, v3, v4, v5, v6], .int .i64 z]) Wf := by
  simp [results, Tryz.results5, go_sem, hT, hz, h0, h1, h2, h3, h4, h5, h6]
set_option maxHeartbeats 4000000 in
theorem DrawAnchorOf_any (a : Option Addr) (n cap : Nat) (Z : Nat → Int) (w : World) (h : IsBytes w a n Z) (hrng : ∀ i, 0 ≤ Z i ∧ Z i ≤ 255) (hn : n ≤ 1048576) (hcap : n ≤ cap) :
    Calls Tryz.prog 5 #[.slice a n cap] w fun e w' => ∃ (id la ki wi : Int) (b off m c : Nat) (X Y : Nat → Int) (lab : ByteArray) (pr z : Int), e = .returned (.tuple #[.agg #[.int .i64 id, .int .i64 la, .int .i64 ki, .int .i64 wi, .slice (some ⟨b, off, none⟩) m c, .string lab, .int .i64 pr], .int .i64 z]) ∧ m ≤ 6 ∧ m ≤ c ∧ b < w'.heap.size ∧ PtsAt w' b off m X Y ∧ lab.size ≤ 7 ∧ Below w.heap.size w w' := by
  have HI : Hid (IsBytes w a n Z) := h
  have HR : Hid (∀ i, 0 ≤ Z i ∧ Z i ≤ 255) := hrng
  clear h hrng
  go_enter Tryz.func5, Tryz.ntmps5
  go_wp2_with fail
  generalize hW : (w.alloc _ : World) = W
  have hB0 : Below w.heap.size w W := by subst hW; (repeat (first | exact Below.refl _ _ | assumption | refine Below.drew ?_ | refine bl_alloc ?_ _ | refine bl_then ?_ (by assumption) | refine Below.setCell ?_ (by first | omega | (simp; done) | (simp; omega)) _ | refine bl_store ?_ ?_ _ _))
  have hlt : w.heap.size < W.heap.size := by subst hW; simp
  have HT : Hid (There W w.heap.size 7) := by
    show There _ _ _
    subst hW
    exact there7 w (.int .i64 0) (.int .i64 0) (.int .i64 0) (.int .i64 0) (.slice none 0 0) (.string ⟨#[]⟩) (.int .i64 0) 26
  clear hW
  have HB0 : Hid (Below w.heap.size w W) := hB0
  have HI1 : Hid (IsBytes W a n Z) := HI.out.below hB0
  clear hB0 HI
  refine (DrawSimpleAt_any a n cap Z _ HI1.out HR.out hn hcap).mono ?_
  rintro e w1 ⟨V, id, la, ki, wi, b, off, m, c, X, Y, lab, pr, z, rfl, ⟨rfl, hm6, hmc, hgb, hbl, hP, hlab⟩, hb1⟩
  have HP : Hid (PtsAt w1 b off m X Y) := hP
  have hT1 := HT.out.below hb1
  have HT1 : Hid (There w1 w.heap.size 7) := hT1
  have HB1 : Hid (Below w.heap.size w w1) := bl_then HB0.out hb1
  have t0 := hT1.cell 0 (by omega)
  have t1 := hT1.cell 1 (by omega)
  have t2 := hT1.cell 2 (by omega)
  have t3 := hT1.cell 3 (by omega)
  have t4 := hT1.cell 4 (by omega)
  have t5 := hT1.cell 5 (by omega)
  have t6 := hT1.cell 6 (by omega)
  have z0 := (hT1 0 (by omega)).2
  have z1 := (hT1 1 (by omega)).2
  have z2 := (hT1 2 (by omega)).2
  have z3 := (hT1 3 (by omega)).2
  have z4 := (hT1 4 (by omega)).2
  have z5 := (hT1 5 (by omega)).2
  have z6 := (hT1 6 (by omega)).2
  clear hT1 hb1 hP
  go_wp2_with fail
  obtain ⟨y0, y1, y2, y3, y4, y5, y6⟩ := set7_at (v0 := .int .i64 id) (v1 := .int .i64 la) (v2 := .int .i64 ki) (v3 := .int .i64 wi) (v4 := .slice (some ⟨b, off, none⟩) m c) (v5 := .string lab) (v6 := .int .i64 pr) HT1.out
  exact bodyPost_ret (resDA _ _ w.heap.size z _ _ _ _ _ _ _ rfl rfl y0 y1 y2 y3 y4 y5 y6) rfl ⟨id, la, ki, wi, b, off, m, c, X, Y, lab, pr, z, rfl, hm6, hmc, by simp [World.setCell]; omega, HP.out.set7 (by omega), hlab, below7 HB1.out (Nat.le_refl _)⟩
theorem featsC_one (G : Nat → Feat) (h : okC (G 0)) : featsC 1 G = 0 := by
  unfold featsC
  rw [if_neg (by omega)]
  have h0 : codeAt G 0 = 0 := codeAt_ok h (by rintro ⟨j, hj, _⟩; omega)
  simp [scanC, h0]
theorem chs_one {z x y : Int} {G : Nat → Feat} (h : rchF z x y (G 0) = true) : chs z x y 1 G = [0] := by
  have hlen : (srtF 1 G).length = 1 := srtK_len _ _ _
  have h0 := srtF_lt 1 G 0 (by omega)
  have e : srtF 1 G = [0] := by
    match hs : srtF 1 G, hlen, h0 with
    | [a], _, h0 =>
      simp at h0
      rw [h0]
  unfold chs
  rw [e, List.filter_cons_of_pos (by exact h)]
  rfl
theorem bt_one {z x y : Int} {G : Nat → Feat} (hf : okC (G 0)) (hr : refB z x y = true) (h : rchF z x y (G 0) = true) : btC z x y 1 G = 0 ∧ btM z x y 1 G = 1 ∧ (btG z x y 1 G 0).id = (G 0).id ∧ ∀ v, btK z x y 1 G v = v := by
  have hc : btC z x y 1 G = 0 := by unfold btC; rw [if_pos hr]; exact featsC_one G hf
  refine ⟨hc, ?_, ?_, fun v => ?_⟩
  · unfold btM; rw [if_pos hc, chs_one h]; rfl
  · unfold btG; rw [chs_one h]; rfl
  · unfold btK; rw [if_pos hc]
theorem ref_of_pix {z x y : Int} (h : pixB z x y = true) : refB z (x / 8) (y / 8) = true := by
  have hz : zoomB z = true := by simp [pixB] at h; exact h.1
  rcases zoomB_cases hz with rfl | rfl | rfl | rfl <;> (simp [pixB, pixI, inB] at h; simp [refB, lastI, inB, hz]; omega)
theorem FnAnchors_big (a : Option Addr) (n cap : Nat) (w : World) (hbig : 1048576 < n) : Calls Tryz.prog 3 #[.slice a n cap] w fun e w' => e = .returned (.bool true) ∧ Below w.heap.size w w' := by
  have hn : decide (1048576 < (n : Int)) = true := by simp; omega
  go_enter Tryz.func3, Tryz.ntmps3
  go_wp2_with (go_at_call 4; refine (lwBig_any _ _ _ _).mono ?_; rintro e w' ⟨rfl, rfl⟩)
  go_ret
  exact ⟨rfl, Below.refl _ _⟩
/-- A feature in a block of its own, in every later world. -/
def FtF (w : World) (p : Nat) (id la ki wi : Int) (v : Value) (lab : ByteArray) (pr : Int) : Prop := p < w.heap.size ∧ FeatAt w p 0 id la ki wi v lab pr
theorem FtF.below {w w' : World} {p : Nat} {id la ki wi : Int} {v : Value} {lab : ByteArray} {pr : Int} (h : FtF w p id la ki wi v lab pr) (hb : Below w.heap.size w w') : FtF w' p id la ki wi v lab pr := ⟨Nat.lt_of_lt_of_le h.1 hb.size, h.2.below hb h.1⟩
theorem FtF.new (w : World) (id la ki wi : Int) (v : Value) (lab : ByteArray) (pr : Int) (t : TypeId) : FtF (w.alloc (.cells #[.int .i64 id, .int .i64 la, .int .i64 ki, .int .i64 wi, v, .string lab, .int .i64 pr] t)) w.heap.size id la ki wi v lab pr := ⟨by simp, by refine ⟨?_, ?_, ?_, ?_, ?_, ?_, ?_⟩ <;> simp [go_sem]⟩
/-- Cells in every later world. -/
theorem cell_later {w w' : World} {p : Addr} {v : Value} (hb : Below w.heap.size w w') (h : w.cell? p = some v) : w'.cell? p = some v := (hb.cell (World.block_lt_of_cell? _ _ h)).trans h
set_option maxHeartbeats 16000000 in
theorem FnAnchors_walk (a : Option Addr) (n cap : Nat) (Z : Nat → Int) (w : World) (h : IsBytes w a n Z ∧ (∀ i, 0 ≤ Z i ∧ Z i ≤ 255) ∧ n ≤ cap) :
    Calls Tryz.prog 3 #[.slice a n cap] w fun e w' => e = .returned (.bool true) ∧ Below w.heap.size w w' := by
  obtain ⟨hI, hR, hcap⟩ := h
  by_cases hbig : 1048576 < n
  · exact FnAnchors_big a n cap w hbig
  have hn1 : n ≤ 1048576 := by omega
  have HI : Hid (IsBytes w a n Z) := hI
  have HR : Hid (∀ i, 0 ≤ Z i ∧ Z i ≤ 255) := hR
  have hn : decide (1048576 < (n : Int)) = false := by simp; omega
  clear hI hR hbig
  go_enter Tryz.func3, Tryz.ntmps3
  go_wp2_with fail
  refine (lwBig_any _ _ _ _).mono ?_
  rintro e w0 ⟨rfl, hw0⟩
  have hw0' := hw0.symm
  subst hw0'
  clear hw0
  go_wp2_with fail
  refine (DrawAnchorOf_any a n cap Z _ HI.out HR.out hn1 hcap).mono ?_
  rintro e w1 ⟨id, la, ki, wi, b, off, m, c, X, Y, lab, pr, z, rfl, hm6, hmc, hbl, hP, hlab, hb1⟩
  have HP1 : Hid (PtsAt w1 b off m X Y) := hP
  have HB1 : Hid (Below w.heap.size w w1) := hb1
  clear hP hb1 HI HR
  obtain ⟨f, hf⟩ : ∃ f : Feat, f = ⟨id, la, ki, wi, some ⟨b, off, none⟩, m, c, X, Y, lab, pr⟩ := ⟨_, rfl⟩
  obtain ⟨C, hC⟩ : ∃ C, C = simpC z (featC id la ki wi m X Y lab pr) := ⟨_, rfl⟩
  have hTS := thinOf_spec z f
  have HL : Hid (3 ≤ (snapL X Y z m).length → Thin (px (snapL X Y z m)) (py (snapL X Y z m)) (gridI z) 0 ((snapL X Y z m).length - 1) (thinOf z f)) := by rw [hf] at hTS ⊢; exact hTS
  have HSI : Hid (∀ W, Below w1.heap.size w1 W → Calls Tryz.prog 6 #[.agg #[.int .i64 id, .int .i64 la, .int .i64 ki, .int .i64 wi, .slice (some ⟨b, off, none⟩) m c, .string lab, .int .i64 pr], .int .i64 z] W fun e w' => e = .returned (.agg #[.int .i64 C, .int .i64 (anC C z (px (simpR C ki z m X Y (thinOf z f)) 0)), .int .i64 (anC C z (py (simpR C ki z m X Y (thinOf z f)) 0))]) ∧ Below W.heap.size W w') := fun W hW => impl_AnchorOf_any id la ki wi z b m c X Y lab pr (thinOf z f) W (HP1.out.below hW hbl) (Nat.lt_of_lt_of_le hbl hW.size) (by omega) hmc (by omega) HL.out C hC
  have HSS : Hid (∀ W, Below w1.heap.size w1 W → Calls Tryz.prog 7 #[.agg #[.int .i64 id, .int .i64 la, .int .i64 ki, .int .i64 wi, .slice (some ⟨b, off, none⟩) m c, .string lab, .int .i64 pr], .int .i64 z] W fun e w' => e = .returned (.agg #[.int .i64 C, .int .i64 (anC C z (px (simpR C ki z m X Y (thinOf z f)) 0)), .int .i64 (anC C z (py (simpR C ki z m X Y (thinOf z f)) 0))]) ∧ Below W.heap.size W w') := fun W hW => spec_AnchorOf_any id la ki wi z b m c X Y lab pr (thinOf z f) W (HP1.out.below hW hbl) (Nat.lt_of_lt_of_le hbl hW.size) (by omega) (by omega) HL.out C hC
  have HLB : Hid (∀ W, Below w1.heap.size w1 W → Calls Tryz.prog 10 #[.agg #[.int .i64 id, .int .i64 la, .int .i64 ki, .int .i64 wi, .slice (some ⟨b, off, none⟩) m c, .string lab, .int .i64 pr], .int .i64 z] W fun e w' => ∃ v, e = .returned (.agg #[.int .i64 (lbC C lab), v]) ∧ OwnP w' W.heap.size v (lbN C lab) (fun _ => lbF id lab (ancI z (px (simpR C ki z m X Y (thinOf z f)) 0)) (ancI z (py (simpR C ki z m X Y (thinOf z f)) 0))) ∧ Below W.heap.size W w') := fun W hW => impl_LabelBox_any id la ki wi z b m c X Y lab pr (thinOf z f) W (HP1.out.below hW hbl) (Nat.lt_of_lt_of_le hbl hW.size) (by omega) hmc (by omega) HL.out C hC
  go_wp2_with fail
  generalize hV : (w1.alloc _ : World) = V1
  have hbV : Below w1.heap.size w1 V1 := by subst hV; (repeat (first | exact Below.refl _ _ | assumption | refine Below.drew ?_ | refine bl_alloc ?_ _ | refine bl_then ?_ (by assumption) | refine Below.setCell ?_ (by first | omega | (simp; done) | (simp; omega)) _ | refine bl_store ?_ ?_ _ _))
  have HF1 : Hid (FtF V1 w1.heap.size id la ki wi (.slice (some ⟨b, off, none⟩) m c) lab pr) := by show FtF _ _ _ _ _ _ _ _ _; subst hV; exact FtF.new _ _ _ _ _ _ _ _ _
  have HBV : Hid (Below w1.heap.size w1 V1) := hbV
  clear hV hbV
  refine (HSI.out _ HBV.out).mono ?_
  rintro e w2 ⟨rfl, hb2⟩
  have HB2 : Hid (Below w1.heap.size w1 w2) := bl_then HBV.out hb2
  have HF2 : Hid (FtF w2 w1.heap.size id la ki wi (.slice (some ⟨b, off, none⟩) m c) lab pr) := HF1.out.below hb2
  clear hb2 HF1 HBV HSI
  by_cases hC0 : C = 0
  · have hz : zoomB z = true := by
      rw [hC0] at hC
      unfold simpC at hC
      split at hC
      · assumption
      · omega
    have hfc : okC f := by
      rw [hC0] at hC
      unfold simpC at hC
      rw [if_pos hz] at hC
      rw [hf]
      exact hC.symm
    obtain ⟨hpix, hrch⟩ := anchor_reach hfc hz
    have eL : simpR C ki z m X Y (thinOf z f) = simL z f := by rw [hC0, hf]; rfl
    rw [eL] at HLB HSS ⊢
    have ean : ∀ v, anC C z v = ancI z v := fun v => if_pos hC0
    rw [ean, ean]
    rw [ean, ean] at HSS
    subst hC0
    have hrB := ref_of_pix hpix
    obtain ⟨bc, bm, bid, bk⟩ := bt_one (G := fun _ => f) hfc hrB hrch
    have HBT : Hid (∀ W B, W.heap.size > B → FsAt W B 0 1 (fun _ => f) → Calls Tryz.prog 9 #[.slice (some ⟨B, 0, none⟩) 1 1, .agg #[.int .i64 z, .int .i64 (ancI z (px (simL z f) 0) / 8), .int .i64 (ancI z (py (simL z f) 0) / 8)]] W fun e w' => ∃ a4 c4 T, e = .returned (trV 0 z (ancI z (px (simL z f) 0) / 8) (ancI z (py (simL z f) 0) / 8) (.slice a4 1 c4)) ∧ SrcB W.heap.size w'.heap.size w' a4 1 T ∧ (T 0).id = id ∧ Below W.heap.size W w') := fun W B hB hF => by
      have hh := impl_BuildTile_any z (ancI z (px (simL z f) 0) / 8) (ancI z (py (simL z f) 0) / 8) B 1 1 (fun _ => f) W hF hB ⟨by omega, fun i _ => by rw [hf]; exact ⟨by show m ≤ _; omega, by show lab.size ≤ _; omega⟩⟩ (Nat.le_refl _)
      rw [bc, bm, bk, bk, bk] at hh
      refine hh.mono ?_
      rintro e w' ⟨a4, c4, T, h1, h2, h3, _, _, h6⟩
      exact ⟨a4, c4, T, h1, h2, by rw [(h3 0 (by omega)).1, bid, hf], h6⟩
    have HPX : Hid (pixB z (ancI z (px (simL z f) 0)) (ancI z (py (simL z f) 0)) = true) := hpix
    have HFS : Hid (∀ W B, FtF W B id la ki wi (.slice (some ⟨b, off, none⟩) m c) lab pr → Below w1.heap.size w1 W → FsAt W B 0 1 (fun _ => f)) := fun W B hB hW i hi => by
      obtain rfl : i = 0 := by omega
      rw [hf]
      exact ⟨by simpa using hB.2, .inr ⟨b, off, rfl, Nat.lt_of_lt_of_le hbl hW.size, HP1.out.below hW hbl⟩⟩
    generalize ancI z (px (simL z f) 0) = ax at *
    generalize ancI z (py (simL z f) 0) = ay at *
    clear hf hC hTS HL HSS bc bm bid bk hrB hrch hpix hfc eL ean HP1
    go_wp2_with fail
    generalize hV : (w2.alloc _ : World) = V2
    have hbV : Below w2.heap.size w2 V2 := by subst hV; (repeat (first | exact Below.refl _ _ | assumption | refine Below.drew ?_ | refine bl_alloc ?_ _ | refine bl_then ?_ (by assumption) | refine Below.setCell ?_ (by first | omega | (simp; done) | (simp; omega)) _ | refine bl_store ?_ ?_ _ _))
    have HA2 : Hid (V2.cell? ⟨w2.heap.size, 1, none⟩ = some (.int .i64 ax)) := by show _ = _; subst hV; simp [go_sem]
    have HF3 : Hid (FtF V2 w1.heap.size id la ki wi (.slice (some ⟨b, off, none⟩) m c) lab pr) := HF2.out.below hbV
    have HB3 : Hid (Below w1.heap.size w1 V2) := bl_then HB2.out hbV
    clear hV hbV HB2 HF2
    refine (impl_RefAt_any z ax ay V2).mono ?_
    unfold atV
    rw [if_pos HPX.out]
    rintro e w3 ⟨rfl, hb3⟩
    have HA3 : Hid (w3.cell? ⟨w2.heap.size, 1, none⟩ = some (.int .i64 ax)) := cell_later hb3 HA2.out
    have HF4 : Hid (FtF w3 w1.heap.size id la ki wi (.slice (some ⟨b, off, none⟩) m c) lab pr) := HF3.out.below hb3
    have HB4 : Hid (Below w1.heap.size w1 w3) := bl_then HB3.out hb3
    obtain ⟨hFl, e0, e1, e2, e3, e4, e5, e6⟩ := HF4.out
    simp only [Nat.zero_add] at e1 e2 e3 e4 e5 e6
    clear hb3 HF3 HB3 HA2
    go_wp2_with fail
    generalize hV : ((w3.alloc _).alloc _ : World) = V3
    have hbV : Below w3.heap.size w3 V3 := by subst hV; (repeat (first | exact Below.refl _ _ | assumption | refine Below.drew ?_ | refine bl_alloc ?_ _ | refine bl_then ?_ (by assumption) | refine Below.setCell ?_ (by first | omega | (simp; done) | (simp; omega)) _ | refine bl_store ?_ ?_ _ _))
    have HR3 : Hid (V3.cell? ⟨w3.heap.size, 0, none⟩ = some (.int .i64 0)) := by show _ = _; subst hV; simp [go_sem]
    have hFB : FtF V3 (w3.heap.size + 1) id la ki wi (.slice (some ⟨b, off, none⟩) m c) lab pr := by
      subst hV
      have := FtF.new (w3.alloc (.cells #[.int .i64 0, .int .i64 z, .int .i64 (ax / 8), .int .i64 (ay / 8)] 37)) id la ki wi (.slice (some ⟨b, off, none⟩) m c) lab pr 26
      simpa using this
    have HA5 : Hid (V3.cell? ⟨w2.heap.size, 1, none⟩ = some (.int .i64 ax)) := cell_later hbV HA3.out
    have HF5 : Hid (FtF V3 w1.heap.size id la ki wi (.slice (some ⟨b, off, none⟩) m c) lab pr) := HF4.out.below hbV
    have HB5 : Hid (Below w1.heap.size w1 V3) := bl_then HB4.out hbV
    have hFS := HFS.out V3 _ hFB HB5.out
    clear hV hbV HF4 HB4 HA3 e0 e1 e2 e3 e4 e5 e6 hFl
    refine (HBT.out V3 _ hFB.1 hFS).mono ?_
    rintro e w4 ⟨a4, c4, T4, rfl, hS4, hid4, hb4⟩
    have HS4 : Hid (SrcB V3.heap.size w4.heap.size w4 a4 1 T4) := hS4
    have HR4 : Hid (w4.cell? ⟨w3.heap.size, 0, none⟩ = some (.int .i64 0)) := cell_later hb4 HR3.out
    have HA6 : Hid (w4.cell? ⟨w2.heap.size, 1, none⟩ = some (.int .i64 ax)) := cell_later hb4 HA5.out
    have HF6 : Hid (FtF w4 w1.heap.size id la ki wi (.slice (some ⟨b, off, none⟩) m c) lab pr) := HF5.out.below hb4
    have HB6 : Hid (Below w1.heap.size w1 w4) := bl_then HB5.out hb4
    obtain ⟨hFl, e0, e1, e2, e3, e4, e5, e6⟩ := HF6.out
    simp only [Nat.zero_add] at e1 e2 e3 e4 e5 e6
    clear hb4 hS4 HF5 HB5 HA5 HR3 hFB hFS HBT HFS
    go_wp2_with fail
    generalize hV : (w4.alloc _ : World) = V4
    have hbV : Below w4.heap.size w4 V4 := by subst hV; (repeat (first | exact Below.refl _ _ | assumption | refine Below.drew ?_ | refine bl_alloc ?_ _ | refine bl_then ?_ (by assumption) | refine Below.setCell ?_ (by first | omega | (simp; done) | (simp; omega)) _ | refine bl_store ?_ ?_ _ _))
    have HT5 : Hid (V4.cell? ⟨w4.heap.size, 0, none⟩ = some (.int .i64 0) ∧ V4.cell? ⟨w4.heap.size, 4, none⟩ = some (.slice a4 1 c4)) := by refine ⟨?_, ?_⟩ <;> (subst hV; simp [go_sem])
    have HS5 : Hid (SrcB V3.heap.size w4.heap.size V4 a4 1 T4) := HS4.out.up hbV (Nat.le_refl _)
    have HR5 : Hid (V4.cell? ⟨w3.heap.size, 0, none⟩ = some (.int .i64 0)) := cell_later hbV HR4.out
    have HA7 : Hid (V4.cell? ⟨w2.heap.size, 1, none⟩ = some (.int .i64 ax)) := cell_later hbV HA6.out
    have HF7 : Hid (FtF V4 w1.heap.size id la ki wi (.slice (some ⟨b, off, none⟩) m c) lab pr) := HF6.out.below hbV
    have HB7 : Hid (Below w1.heap.size w1 V4) := bl_then HB6.out hbV
    have hs4 : w4.heap.size ≤ V4.heap.size := hbV.size
    clear hV hbV HF6 HB6 HA6 HR4 HS4 e0 e1 e2 e3 e4 e5 e6 hFl
    refine (HLB.out V4 HB7.out).mono ?_
    rintro e w5 ⟨v5, rfl, hO5, hb5⟩
    obtain ⟨a5, c5, rfl, hc5, hO⟩ := hO5
    have HO : Hid (lbN 0 lab = 0 ∨ ∃ g, a5 = some ⟨g, 0, none⟩ ∧ w5.cell? ⟨g, 1, none⟩ = some (.int .i64 ax) ∧ w5.cell? ⟨g, 3, none⟩ = some (.int .i64 (2 * (lab.size : Int)))) := by
      rcases hO with h0 | ⟨g, e, _, _, hp, _⟩
      · exact .inl h0
      · by_cases hN : lbN 0 lab = 0
        · exact .inl hN
        · have := hp 0 (by omega)
          obtain ⟨_, p1, _, p3, _⟩ := this
          exact .inr ⟨g, e, by simpa using p1, by simpa using p3⟩
    have HT6 : Hid (w5.cell? ⟨w4.heap.size, 0, none⟩ = some (.int .i64 0) ∧ w5.cell? ⟨w4.heap.size, 4, none⟩ = some (.slice a4 1 c4)) := ⟨cell_later hb5 HT5.out.1, cell_later hb5 HT5.out.2⟩
    have HS6 : Hid (SrcB V3.heap.size w4.heap.size w5 a4 1 T4) := HS5.out.up (hb5.mono hs4) (Nat.le_refl _)
    have HR6 : Hid (w5.cell? ⟨w3.heap.size, 0, none⟩ = some (.int .i64 0)) := cell_later hb5 HR5.out
    have HA8 : Hid (w5.cell? ⟨w2.heap.size, 1, none⟩ = some (.int .i64 ax)) := cell_later hb5 HA7.out
    have HF8 : Hid (FtF w5 w1.heap.size id la ki wi (.slice (some ⟨b, off, none⟩) m c) lab pr) := HF7.out.below hb5
    have HB8 : Hid (Below w1.heap.size w1 w5) := bl_then HB7.out hb5
    clear hO hb5 HF7 HB7 HA7 HR5 HS5 HT5 HLB
    go_wp2_with fail
    generalize hV : (w5.alloc _ : World) = V5
    have hbV : Below w5.heap.size w5 V5 := by subst hV; (repeat (first | exact Below.refl _ _ | assumption | refine Below.drew ?_ | refine bl_alloc ?_ _ | refine bl_then ?_ (by assumption) | refine Below.setCell ?_ (by first | omega | (simp; done) | (simp; omega)) _ | refine bl_store ?_ ?_ _ _))
    have l0 : V5.cell? ⟨w5.heap.size, 0, none⟩ = some (.int .i64 (lbC 0 lab)) := by subst hV; simp [go_sem]
    have l1 : V5.cell? ⟨w5.heap.size, 1, none⟩ = some (.slice a5 (lbN 0 lab) c5) := by subst hV; simp [go_sem]
    have t0 := cell_later hbV HT6.out.1
    have t4 := cell_later hbV HT6.out.2
    have r0 := cell_later hbV HR6.out
    have x1 := cell_later hbV HA8.out
    obtain ⟨hFl, f0, _, _, _, _, f5, _⟩ := HF8.out.below hbV
    simp only [Nat.zero_add] at f5
    have HBE : Hid (Below w.heap.size w V5) := bl_then HB1.out (bl_then HB8.out hbV)
    rcases HS6.out with h0 | ⟨g4, rfl, _, hF4⟩
    · omega
    obtain ⟨⟨q0, _⟩, _⟩ := hF4 0 (by omega)
    rw [hid4, Nat.zero_mul] at q0
    have q0' := cell_later hbV q0
    have HO5 : Hid (lbN 0 lab = 0 ∨ ∃ g, a5 = some ⟨g, 0, none⟩ ∧ V5.cell? ⟨g, 1, none⟩ = some (.int .i64 ax) ∧ V5.cell? ⟨g, 3, none⟩ = some (.int .i64 (2 * (lab.size : Int)))) := HO.out.imp (fun h => h) (fun ⟨g, h1, h2, h3⟩ => ⟨g, h1, cell_later hbV h2, cell_later hbV h3⟩)
    clear hV hbV HF8 HB8 HA8 HR6 HS6 HT6 hF4 q0 HO hid4
    by_cases hlb : lab = ⟨#[]⟩
    · subst hlb
      have ec : lbC 0 ⟨#[]⟩ = 4 := by simp [lbC]
      have en : lbN 0 ⟨#[]⟩ = 0 := by simp [lbN]
      rw [ec] at l0
      rw [en] at l1
      clear HO5 ec en
      try simp only [List.append_eq, List.cons_append, List.nil_append]
      go_quiet (fail)
      go_wp2
      go_ret
      exact ⟨rfl, bl_then HBE.out ⟨rfl, rfl, rfl, Nat.le_refl _, fun _ _ => rfl⟩⟩
    · have ec : lbC 0 lab = 0 := by simp [lbC, hlb]
      have en : lbN 0 lab = 1 := by simp [lbN, hlb]
      rw [ec] at l0
      rw [en] at l1
      rcases HO5.out with h0 | ⟨g5, rfl, p1, p3⟩
      · rw [en] at h0; cases h0
      have hem : lab.toList.isEmpty = false := lab_ne hlb
      clear HO5 ec en hlb
      try simp only [List.append_eq, List.cons_append, List.nil_append]
      go_quiet (fail)
      go_wp2
      go_ret
      exact ⟨rfl, bl_then HBE.out ⟨rfl, rfl, rfl, Nat.le_refl _, fun _ _ => rfl⟩⟩
  · have hcb : (C == 0) = false := by simpa using hC0
    generalize anC C z (px (simpR C ki z m X Y (thinOf z f)) 0) = ax at *
    generalize anC C z (py (simpR C ki z m X Y (thinOf z f)) 0) = ay at *
    have fld : ∀ w, (Instr.field 32 (.agg #[.int .i64 C, .int .i64 ax, .int .i64 ay]) 0).run Tryz.prog w = .ok (.int .i64 C) w := fun _ => by kernel_rfl
    clear hC hC0 hf hTS HL HLB
    go_wp2_with fail
    generalize hV : (w2.alloc _ : World) = V2
    have hbV : Below w2.heap.size w2 V2 := by subst hV; (repeat (first | exact Below.refl _ _ | assumption | refine Below.drew ?_ | refine bl_alloc ?_ _ | refine bl_then ?_ (by assumption) | refine Below.setCell ?_ (by first | omega | (simp; done) | (simp; omega)) _ | refine bl_store ?_ ?_ _ _))
    have hl2 : w2.heap.size < V2.heap.size := by subst hV; simp
    have c0 : ∀ W', Below V2.heap.size V2 W' → W'.cell? ⟨w2.heap.size, 0, none⟩ = some (.int .i64 C) := fun W' h => by rw [h.cell (by subst hV; simp)]; subst hV; simp [go_sem]
    clear hV
    have HF3 : Hid (FtF V2 w1.heap.size id la ki wi (.slice (some ⟨b, off, none⟩) m c) lab pr) := HF2.out.below hbV
    have d0 : ∀ W', Below V2.heap.size V2 W' → W'.cell? ⟨w1.heap.size, 0, none⟩ = some (.int .i64 id) := fun W' h => (HF3.out.below h).2.1
    have d1 : ∀ W', Below V2.heap.size V2 W' → W'.cell? ⟨w1.heap.size, 1, none⟩ = some (.int .i64 la) := fun W' h => by have := (HF3.out.below h).2.2.1; simpa using this
    have d2 : ∀ W', Below V2.heap.size V2 W' → W'.cell? ⟨w1.heap.size, 2, none⟩ = some (.int .i64 ki) := fun W' h => by have := (HF3.out.below h).2.2.2.1; simpa using this
    have d3 : ∀ W', Below V2.heap.size V2 W' → W'.cell? ⟨w1.heap.size, 3, none⟩ = some (.int .i64 wi) := fun W' h => by have := (HF3.out.below h).2.2.2.2.1; simpa using this
    have d4 : ∀ W', Below V2.heap.size V2 W' → W'.cell? ⟨w1.heap.size, 4, none⟩ = some (.slice (some ⟨b, off, none⟩) m c) := fun W' h => by have := (HF3.out.below h).2.2.2.2.2.1; simpa using this
    have d5 : ∀ W', Below V2.heap.size V2 W' → W'.cell? ⟨w1.heap.size, 5, none⟩ = some (.string lab) := fun W' h => by have := (HF3.out.below h).2.2.2.2.2.2.1; simpa using this
    have d6 : ∀ W', Below V2.heap.size V2 W' → W'.cell? ⟨w1.heap.size, 6, none⟩ = some (.int .i64 pr) := fun W' h => by have := (HF3.out.below h).2.2.2.2.2.2.2; simpa using this
    have HBV2 : Hid (Below w1.heap.size w1 V2) := bl_then HB2.out hbV
    have HSV : Hid (∀ W', Below V2.heap.size V2 W' → Calls Tryz.prog 7 #[.agg #[.int .i64 id, .int .i64 la, .int .i64 ki, .int .i64 wi, .slice (some ⟨b, off, none⟩) m c, .string lab, .int .i64 pr], .int .i64 z] W' fun e w' => e = .returned (.agg #[.int .i64 C, .int .i64 ax, .int .i64 ay]) ∧ Below W'.heap.size W' w') := fun W' h => HSS.out W' (bl_then HBV2.out h)
    clear hbV HF2 HSS
    go_region_held3 (fun W' => Below V2.heap.size V2 W') ((repeat (first | exact Below.refl _ _ | assumption | refine Below.drew ?_ | refine bl_alloc ?_ _ | refine bl_then ?_ (by assumption) | refine Below.setCell ?_ (by first | omega | (simp; done) | (simp; omega)) _ | refine bl_store ?_ ?_ _ _)))
      (first
        | (go_at_call 7; refine Calls.mono (HSV.out _ (by assumption)) ?_; rintro e w7 ⟨rfl, hb7⟩))
    go_wp2
    go_ret
    exact ⟨rfl, bl_then HB1.out (bl_then HBV2.out (by assumption))⟩
end Go.Proofs.YtgpdpodagoligaaGreat
/- How a list of bytes that came in is read. -/

namespace Go.Proofs.YtgpdpodagoligaaGreat
open Go.ChangeShapes Go.WideShapes Go.ChangeAt Go.RowKit
set_option linter.unusedVariables false

theorem own : ownKnob Tryz.prog.godebug = none := by kernel_rfl
theorem laidOut : laidOutB Tryz.prog = true := by kernel_rfl

set_option maxRecDepth 100000 in
theorem open_bytes {H : Type} {enc : TypeId × Value → H} {w : World} {base b0 : Nat} {held : Bool} {r : Reach} {v : Value} {d : DataW H} {p : List MemPlace}
    (hv : Value.okWide Tryz.prog w r b0 22 v) (h : DataW.Trod enc Tryz.prog w base (fun _ => true) held 22 v d p) :
    ∃ (a : Option Addr) (n cap : Nat) (Z : Nat → Int), v = .slice a n cap ∧ IsBytes w a n Z ∧ (∀ i, 0 ≤ Z i ∧ Z i ≤ 255) ∧ n ≤ cap := by
  obtain ⟨a, len, cap, rfl⟩ := okWide_slice Tryz.underlying22 hv
  obtain ⟨fuel, hf⟩ := h
  rcases open_ints Tryz.underlying22 Tryz.underlying5 (by kernel_rfl) hf with ⟨hcs, _⟩ | ⟨x, l, c, zs, hcs, _, hl, hm, hz, _, hcell, hwz⟩
  · simp [Value.cells] at hcs
    obtain ⟨rfl, rfl, rfl⟩ := hcs
    exact ⟨none, 0, 0, fun _ => 0, rfl, .inl rfl, fun _ => ⟨Int.le_refl _, by show (0 : Int) ≤ 255; omega⟩, Nat.le_refl _⟩
  · simp [Value.cells] at hcs
    obtain ⟨rfl, rfl, rfl⟩ := hcs
    have hz' : zs.length = cap := by simpa using hz
    refine ⟨some x, len, cap, fun i => zs.getD i 0, rfl, ?_, fun i => ?_, hl⟩
    · by_cases h0 : len = 0
      · exact .inl h0
      · right
        obtain ⟨b, off, spot⟩ := x
        have e0 := hcell 0 (by omega)
        have hspot : spot = none := by simpa [Addr.add] using World.cell?_spot e0
        subst hspot
        refine ⟨b, off, rfl, ?_, fun i hi => ?_⟩
        · have := World.block_lt_of_cell? _ _ e0
          simpa [Addr.add] using this
        · have := hcell i (by omega)
          have e : (⟨b, off, none⟩ : Addr).add i = ⟨b, off + i, none⟩ := by
            unfold Addr.add
            by_cases h : i = 0 <;> simp [h]
          rw [e] at this
          exact this
    · by_cases hi : i < zs.length
      · have hw := hwz zs[i] (List.getElem_mem hi)
        simp [Lit.wf, IntKind.min, IntKind.max, IntKind.signed, IntKind.bits] at hw
        simp [List.getD, hi]
        omega
      · simp [List.getD, hi]
end Go.Proofs.YtgpdpodagoligaaGreat
