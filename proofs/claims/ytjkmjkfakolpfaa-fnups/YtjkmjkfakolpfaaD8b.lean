/- Drawn rasters and refs, for UpRaster: whatever they are, nothing that was there is written. -/
import Derived.Test.YtjkmjkfakolpfaaD8a
import Derived.Test.YtjkmjkfakolpfaaTake
import Derived.Deep.DeepCutAuto
namespace Go.Proofs.Ytjkmjkfakolpfaa
open Go.RowKit
set_option linter.unusedSimpArgs false
set_option linter.unusedVariables false
set_option maxRecDepth 100000

theorem l7Parent_ex (z x y : Int) (w : World) : Calls Try.prog 23 #[refV z x y] w fun e w' => ∃ z' x' y' : Int, e = .returned (refV z' x' y') ∧ Below w.heap.size w w' := by
  go_enter Try.func23, Try.ntmps23
  go_wp2
  exact bodyPost_ret (v := refV _ _ _) (by simp [results, Try.results23, go_sem]; exact ⟨rfl, rfl, rfl⟩) rfl ⟨_, _, _, rfl, by (repeat (first | exact Below.refl _ _ | assumption | refine Below.drew ?_ | refine bl_alloc ?_ _ | refine bl_then ?_ (by assumption) | refine Below.setCell ?_ (by first | omega | (simp; done) | (simp; omega)) _ | refine bl_store ?_ ?_ _ _))⟩
/-- A ref in memory. -/
def RefAt3 (w : World) (b : Nat) (z x y : Int) : Prop := w.cell? ⟨b, 0, none⟩ = some (.int .i64 z) ∧ w.cell? ⟨b, 1, none⟩ = some (.int .i64 x) ∧ w.cell? ⟨b, 2, none⟩ = some (.int .i64 y)
theorem RefAt3.below {w w' : World} {b B : Nat} {z x y : Int} (h : RefAt3 w b z x y) (hb : Below B w w') (hB : b < B) : RefAt3 w' b z x y :=
  ⟨(hb.cell (p := ⟨b, 0, none⟩) hB).trans h.1, (hb.cell (p := ⟨b, 1, none⟩) hB).trans h.2.1, (hb.cell (p := ⟨b, 2, none⟩) hB).trans h.2.2⟩
theorem RefAt3.keeps {w w' : World} {b s : Nat} {z x y : Int} (h : RefAt3 w b z x y) (hK : Keeps s w w') (hb : b < w.heap.size) (hs : b ≠ s) : RefAt3 w' b z x y :=
  ⟨(hK.cell (p := ⟨b, 0, none⟩) hb hs).trans h.1, (hK.cell (p := ⟨b, 1, none⟩) hb hs).trans h.2.1, (hK.cell (p := ⟨b, 2, none⟩) hb hs).trans h.2.2⟩
theorem RefAt3.apart {w : World} {b r : Nat} {o : Nat} {v : Value} {z x y : Int} (h : RefAt3 w b z x y) (hr : r ≠ b) : RefAt3 (w.setCell ⟨r, o, none⟩ v) b z x y :=
  ⟨(set1_other (fun e => hr (by injection e))).trans h.1, (set1_other (fun e => hr (by injection e))).trans h.2.1, (set1_other (fun e => hr (by injection e))).trans h.2.2⟩
theorem RefAt3.put {w : World} {b : Nat} {z x y : Int} (h : There w b 3) : RefAt3 (((w.setCell ⟨b, 0, none⟩ (.int .i64 z)).setCell ⟨b, 1, none⟩ (.int .i64 x)).setCell ⟨b, 2, none⟩ (.int .i64 y)) b z x y := set3_atr h
theorem There.belowB8 {W W' : World} {r n B : Nat} (h : There W r n) (hb : Below B W W') (hr : r < B) : There W' r n := fun o ho => by
  obtain ⟨u, hu⟩ := (h o ho).1
  exact ⟨⟨u, (hb.cell (p := ⟨r, o, none⟩) hr).trans hu⟩, (hb.frozen (p := ⟨r, o, none⟩) hr).trans (h o ho).2⟩
theorem There.put8 {W : World} {r n o r' : Nat} {v : Value} (h : There W r n) : There (W.setCell ⟨r', o, none⟩ v) r n := fun o' ho => by
  obtain ⟨⟨u, hu⟩, hf⟩ := h o' ho
  refine ⟨?_, by rw [World.frozen?_setCell]; exact hf⟩
  by_cases e : (⟨r', o, none⟩ : Addr) = ⟨r, o', none⟩
  · rw [e]; exact ⟨v, World.cell?_setCell_same _ _ _ (by rw [hu])⟩
  · exact ⟨u, by rw [set1_other e]; exact hu⟩
theorem NsAt.apart {w : World} {b off n r o : Nat} {v : Value} {Y : Nat → Int} (h : NsAt w b off n Y) (hr : r ≠ b) : NsAt (w.setCell ⟨r, o, none⟩ v) b off n Y := fun i hi => (set1_other (fun e => hr (by injection e))).trans (h i hi)
theorem there3a (V : World) (a b c : Value) (t : TypeId) : There (V.alloc (.cells #[a, b, c] t)) V.heap.size 3 := there3r V a b c t
set_option maxHeartbeats 8000000 in
theorem DrawUpRaster_any (a : Option Addr) (n cap : Nat) (Z : Nat → Int) (w : World) (h : IsBytes w a n Z) (hrng : ∀ i, 0 ≤ Z i ∧ Z i ≤ 255) (hn : n ≤ 1048576) (hcap : n ≤ cap) :
    Calls Try.prog 6 #[.slice a n cap] w fun e w' => ∃ (b off m c : Nat) (Y : Nat → Int) (fz fx fy tz tx ty : Int), e = .returned (.tuple #[.slice (some ⟨b, off, none⟩) m c, refV fz fx fy, refV tz tx ty]) ∧ m ≤ 64 ∧ b < w'.heap.size ∧ NsAt w' b off m Y ∧ Below w.heap.size w w' := by
  have HI : Hid (IsBytes w a n Z) := h
  have HR : Hid (∀ i, 0 ≤ Z i ∧ Z i ≤ 255) := hrng
  clear h hrng
  go_enter Try.func6, Try.ntmps6
  go_wp2_with fail
  generalize hW : ((w.alloc _).alloc _ : World) = W
  have hB0 : Below w.heap.size w W := by subst hW; (repeat (first | exact Below.refl _ _ | assumption | refine Below.drew ?_ | refine bl_alloc ?_ _ | refine bl_then ?_ (by assumption) | refine Below.setCell ?_ (by first | omega | (simp; done) | (simp; omega)) _ | refine bl_store ?_ ?_ _ _))
  have hlt : W.heap.size = w.heap.size + 2 := by subst hW; simp
  have HT3 : Hid (There W w.heap.size 3) := by
    show There _ _ _
    subst hW
    exact (there3r w (.int .i64 0) (.int .i64 0) (.int .i64 0) 26).below (by (repeat (first | exact Below.refl _ _ | assumption | refine Below.drew ?_ | refine bl_alloc ?_ _ | refine bl_then ?_ (by assumption) | refine Below.setCell ?_ (by first | omega | (simp; done) | (simp; omega)) _ | refine bl_store ?_ ?_ _ _)))
  have HT4 : Hid (There W (w.heap.size + 1) 3) := by
    show There _ _ _
    subst hW
    have := there3r (w.alloc (.cells #[.int .i64 0, .int .i64 0, .int .i64 0] 26)) (.int .i64 0) (.int .i64 0) (.int .i64 0) 26
    simpa using this
  clear hW
  have HB0 : Hid (Below w.heap.size w W) := hB0
  have HL : Hid (W.heap.size = w.heap.size + 2) := hlt
  have HI1 : Hid (IsBytes W a n Z) := HI.out.below hB0
  clear hB0 HI hlt
  refine (l1Source_ex _ _ _ _).mono ?_
  rintro e w1 ⟨rfl, hw1⟩
  have hS1 : Src a n cap Z W.heap.size 0 w1 := by rw [← hw1]; exact src_start a n cap Z W HI1.out HR.out hn
  have hb1 : Below W.heap.size W w1 := by rw [← hw1]; unfold srcW; (repeat (first | exact Below.refl _ _ | assumption | refine Below.drew ?_ | refine bl_alloc ?_ _ | refine bl_then ?_ (by assumption) | refine Below.setCell ?_ (by first | omega | (simp; done) | (simp; omega)) _ | refine bl_store ?_ ?_ _ _))
  have HS1 : Hid (Src a n cap Z W.heap.size 0 w1) := hS1
  have HK1 : Hid (Keeps W.heap.size W w1) := Keeps.of_below hb1
  clear hw1 hS1 hb1 HI1
  obtain ⟨s, hs⟩ : ∃ s, W.heap.size = s := ⟨_, rfl⟩
  rw [hs] at HS1 HK1
  rw [hs] at HL
  have HWS : Hid (W.heap.size = s) := hs
  simp only [hs]
  clear hs
  go_wp2_with fail
  refine (l8Draw_any a n cap Z s 0 _ HS1.out hcap (by omega)).mono ?_
  rintro e w2 ⟨b, off, m, c, t2, Y, rfl, hm, hmc, hb2, hbl2, hN2, ht2, hS2, hK2⟩
  have hw1s : s < w1.heap.size := World.block_lt_of_cell? _ _ HS1.out.code
  have hsb : s < b := by omega
  have HN2 : Hid (NsAt w2 b off m Y) := hN2
  have HS2 : Hid (Src a n cap Z s t2 w2) := hS2
  have HK2 : Hid (Keeps s W w2) := HK1.out.trans hK2
  clear hN2 hS2 hK2 HS1 HK1
  go_wp2_with fail
  refine (l7Bent_any a n cap Z s t2 _ HS2.out hcap (by omega)).mono ?_
  rintro e w3 ⟨tz, tx, ty, t3, rfl, ht3, hS3, hK3⟩
  have HN3 : Hid (NsAt w3 b off m Y) := HN2.out.keeps hK3 hbl2 (by omega)
  have hbl3 : b < w3.heap.size := Nat.lt_of_lt_of_le hbl2 hK3.size
  have HS3 : Hid (Src a n cap Z s t3 w3) := hS3
  have HK3 : Hid (Keeps s W w3) := HK2.out.trans hK3
  clear hS3 hK3 HS2 HK2 HN2 hbl2
  go_wp2_with fail
  generalize hW5 : ((w3.alloc _).alloc _ : World) = w5
  have hb5 : Below w3.heap.size w3 w5 := by subst hW5; (repeat (first | exact Below.refl _ _ | assumption | refine Below.drew ?_ | refine bl_alloc ?_ _ | refine bl_then ?_ (by assumption) | refine Below.setCell ?_ (by first | omega | (simp; done) | (simp; omega)) _ | refine bl_store ?_ ?_ _ _))
  have hl5 : w5.heap.size = w3.heap.size + 2 := by subst hW5; simp
  have HU7 : Hid (RefAt3 w5 w3.heap.size tz tx ty) := by
    show RefAt3 _ _ _ _ _
    subst hW5
    exact ⟨by simp [go_sem], by simp [go_sem], by simp [go_sem]⟩
  have hU8 : RefAt3 w5 (w3.heap.size + 1) tz tx ty := by
    subst hW5
    exact ⟨by simp [go_sem], by simp [go_sem], by simp [go_sem]⟩
  have hT8 : There w5 (w3.heap.size + 1) 3 := by
    subst hW5
    have := there3r (w3.alloc (.cells #[.int .i64 tz, .int .i64 tx, .int .i64 ty] 26)) (.int .i64 tz) (.int .i64 tx) (.int .i64 ty) 26
    simpa using this
  clear hW5
  have HL5 : Hid (w5.heap.size = w3.heap.size + 2) := hl5
  have HU8 : Hid (RefAt3 w5 (w3.heap.size + 1) tz tx ty) := hU8
  have HT8 : Hid (There w5 (w3.heap.size + 1) 3) := hT8
  have HN5 : Hid (NsAt w5 b off m Y) := HN3.out.below hb5 hbl3
  have HS5 : Hid (Src a n cap Z s t3 w5) := HS3.out.below hb5
  have HK5 : Hid (Keeps s W w5) := HK3.out.trans (Keeps.of_below hb5)
  clear hl5 hU8 hT8 hb5 HN3 HS3 HK3
  refine (l1Next_any a n cap Z s t3 3 _ HS5.out hcap (by omega) (by omega) (by omega)).mono ?_
  rintro e w6 ⟨k, rfl, hk, hS6, hK6⟩
  have hl6 := hK6.size
  have HN6 : Hid (NsAt w6 b off m Y) := HN5.out.keeps hK6 (by have := HL5.out; omega) (by omega)
  have HU76 : Hid (RefAt3 w6 w3.heap.size tz tx ty) := HU7.out.keeps hK6 (by have := HL5.out; omega) (by omega)
  have HU86 : Hid (RefAt3 w6 (w3.heap.size + 1) tz tx ty) := HU8.out.keeps hK6 (by have := HL5.out; omega) (by omega)
  have HT86 : Hid (There w6 (w3.heap.size + 1) 3) := HT8.out.keeps hK6 (by omega)
  have HS6 : Hid (Src a n cap Z s (t3 + 1) w6) := hS6
  have HK6 : Hid (Keeps s W w6) := HK5.out.trans hK6
  have hl6' : w3.heap.size + 2 ≤ w6.heap.size := by have := HL5.out; omega
  clear hS6 hK6 hl6 HN5 HU7 HU8 HT8 HS5 HK5 HL5
  go_wp2_with fail
  go_loopw [9] (fun kk wr => ∃ (j : Nat) (fz fx fy : Int), kk = .int .i64 (j : Int) ∧ j < 3 ∧ RefAt3 wr (w3.heap.size + 1) fz fx fy ∧ There wr (w3.heap.size + 1) 3 ∧ Below (w3.heap.size + 1) w6 wr) (fun kk _ => (intOf kk).toNat)
  case atStart => exact ⟨k, tz, tx, ty, rfl, hk, HU86.out, HT86.out, Below.refl _ _⟩
  case round =>
    obtain ⟨j, fz, fx, fy, rfl, hj3, hU, hT, hB⟩ := hrel
    have HT : Hid (There wr (w3.heap.size + 1) 3) := hT
    have HB : Hid (Below (w3.heap.size + 1) w6 wr) := hB
    have HU : Hid (RefAt3 wr (w3.heap.size + 1) fz fx fy) := hU
    obtain ⟨e0, e1, e2⟩ := hU
    have hlr : w3.heap.size + 1 < wr.heap.size := World.block_lt_of_cell? _ _ e0
    clear hT hB
    by_cases hgo : 0 < j ∧ 0 < fz
    · obtain ⟨hj0, hz0⟩ := hgo
      have hji : (0 : Int) < (j : Int) := by omega
      go_wp2_with fail
      refine (l7Parent_ex fz fx fy _).mono ?_
      rintro e w7 ⟨z', x', y', rfl, hb7⟩
      have hT7 := HT.out.below hb7
      have HT7 : Hid (There w7 (w3.heap.size + 1) 3) := hT7
      have t0' := hT7.cell 0 (by omega)
      have t1' := hT7.cell 1 (by omega)
      have t2' := hT7.cell 2 (by omega)
      have f0' := (hT7 0 (by omega)).2
      have f1' := (hT7 1 (by omega)).2
      have f2' := (hT7 2 (by omega)).2
      have HB7 : Hid (Below (w3.heap.size + 1) w6 w7) := HB.out.trans (hb7.mono (by omega))
      clear hT7 hb7 e0 e1 e2 HU HT HB
      go_wp2_with fail
      go_roundw
      case rel => exact ⟨j - 1, z', x', y', by go_num, by omega, RefAt3.put HT7.out, ((HT7.out.put8).put8).put8, ((HB7.out.setCell (Nat.le_refl _) _).setCell (Nat.le_refl _) _).setCell (Nat.le_refl _) _⟩
      case measure => simp [intOf]; omega
    · have HS7 : Hid (Src a n cap Z s (t3 + 1) wr) := HS6.out.belowB HB.out (by omega)
      have HK7 : Hid (Keeps s W wr) := HK6.out.thenB (HB.out.mono (by have := HWS.out; omega))
      have HN7 : Hid (NsAt wr b off m Y) := HN6.out.below HB.out (by omega)
      have HU77 : Hid (RefAt3 wr w3.heap.size tz tx ty) := HU76.out.below HB.out (by omega)
      have hlw : w6.heap.size ≤ wr.heap.size := HB.out.size
      clear HU86 HT86 HS6 HK6 HN6 HU76 HB
      by_cases hj0 : 0 < j
      · have hji : (0 : Int) < (j : Int) := by omega
        have hzf : ¬ (0 : Int) < fz := fun h => hgo ⟨hj0, h⟩
        go_wp2_with fail
        refine (l1Chance_any a n cap Z s (t3 + 1) 6 _ HS7.out hcap (by omega) (by omega) (by omega)).mono ?_
        rintro e w8 ⟨cc, rfl, hS8, hK8⟩
        have hl8 := hK8.size
        have HN8 : Hid (NsAt w8 b off m Y) := HN7.out.keeps hK8 (by omega) (by omega)
        have HF8 : Hid (RefAt3 w8 (w3.heap.size + 1) fz fx fy) := HU.out.keeps hK8 (by omega) (by omega)
        have HG8 : Hid (RefAt3 w8 w3.heap.size tz tx ty) := HU77.out.keeps hK8 (by omega) (by omega)
        have HS8 : Hid (Src a n cap Z s (t3 + 1 + 1) w8) := hS8
        have HK8 : Hid (Keeps s W w8) := HK7.out.trans hK8
        have HT8 : Hid (There w8 (w3.heap.size + 1) 3) := HT.out.keeps hK8 (by omega)
        clear hS8 hK8 e0 e1 e2 HS7 HK7 HN7 HU77 HU HT
        cases cc
        · have HBw : Hid (Below w.heap.size w w8) := HB0.out.trans (HK8.out.below (by have := HL.out; omega) (by have := HL.out; have := HWS.out; omega))
          obtain ⟨e0, e1, e2⟩ := HF8.out
          obtain ⟨d0, d1, d2⟩ := HG8.out
          have hT3' := HT3.out.keeps HK8.out (by have := HL.out; omega)
          have hT4' := HT4.out.keeps HK8.out (by have := HL.out; omega)
          have HTa : Hid (There w8 w.heap.size 3) := hT3'
          have HTb : Hid (There w8 (w.heap.size + 1) 3) := hT4'
          have hls : w.heap.size + 2 = s := HL.out.symm
          clear hT3' hT4'
          go_wp2_with fail
          go_cut [2] (fun t wc => t = .slice (some ⟨b, off, none⟩) m c ∧ RefAt3 wc w.heap.size fz fx fy ∧ RefAt3 wc (w.heap.size + 1) tz tx ty ∧ NsAt wc b off m Y ∧ b < wc.heap.size ∧ Below w.heap.size w wc)
          case first =>
            refine wp_region_noPanic ?_
            refine wp_region_held_drew (S := fun W' => RefAt3 W' (w3.heap.size + 1) fz fx fy ∧ RefAt3 W' w3.heap.size tz tx ty) (by kernel_rfl) ⟨⟨e0, e1, e2⟩, d0, d1, d2⟩ (fun hHeld => ?_)
            have hS0 : RefAt3 w8.drew (w3.heap.size + 1) fz fx fy ∧ RefAt3 w8.drew w3.heap.size tz tx ty := hHeld
            refine takeD (i := 0) (d := some 34) (v := ?vqa0) rfl rfl (by kernel_rfl) (by kernel_rfl) (by kernel_rfl) (fun _ _ _ h => h) (Or.inl ⟨by rfl, ?hyqa0⟩) (by assumption) ?_
            case hyqa0 => (intro w hSw; obtain ⟨⟨s0, s1, s2⟩, s3, s4, s5⟩ := hSw; go_simp <;> with_reducible rfl)
            try simp only [Act.put, List.setIfInBounds_toArray, List.set_cons_zero, List.set_cons_succ]
            refine takeD (i := 1) (d := some 35) (v := ?vqa1) rfl rfl (by kernel_rfl) (by kernel_rfl) (by kernel_rfl) (fun _ _ _ h => h) (Or.inl ⟨by rfl, ?hyqa1⟩) (by assumption) ?_
            case hyqa1 => (intro w hSw; obtain ⟨⟨s0, s1, s2⟩, s3, s4, s5⟩ := hSw; go_simp <;> with_reducible rfl)
            try simp only [Act.put, List.setIfInBounds_toArray, List.set_cons_zero, List.set_cons_succ]
            refine takeD (i := 2) (d := some 36) (v := ?vqa2) rfl rfl (by kernel_rfl) (by kernel_rfl) (by kernel_rfl) (fun _ _ _ h => h) (Or.inl ⟨by rfl, ?hyqa2⟩) (by assumption) ?_
            case hyqa2 => (intro w hSw; obtain ⟨⟨s0, s1, s2⟩, s3, s4, s5⟩ := hSw; go_simp <;> with_reducible rfl)
            try simp only [Act.put, List.setIfInBounds_toArray, List.set_cons_zero, List.set_cons_succ]
            refine takeD (i := 3) (d := some 2) (v := ?vqa3) rfl rfl (by kernel_rfl) (by kernel_rfl) (by kernel_rfl) (fun _ _ _ h => h) (Or.inl ⟨by rfl, ?hyqa3⟩) (by assumption) ?_
            case hyqa3 => (intro w hSw; obtain ⟨⟨s0, s1, s2⟩, s3, s4, s5⟩ := hSw; go_simp <;> with_reducible rfl)
            try simp only [Act.put, List.setIfInBounds_toArray, List.set_cons_zero, List.set_cons_succ]
            refine wpAnyH_ready (rs := [4]) (by kernel_rfl) (by simp) ?_
            refine (AllReadyH.cons rfl (fun K hK => ?_) AllReadyH.nil)
            have hTa := HTa.out
            have t0 := hTa.cell 0 (by omega)
            have t1 := hTa.cell 1 (by omega)
            have t2 := hTa.cell 2 (by omega)
            have f0 := (hTa 0 (by omega)).2
            have f1 := (hTa 1 (by omega)).2
            have f2 := (hTa 2 (by omega)).2
            go_simp
            have hSx := fun (u v x : Value) => (show RefAt3 (((w8.setCell ⟨w.heap.size, 0, none⟩ u).setCell ⟨w.heap.size, 1, none⟩ v).setCell ⟨w.heap.size, 2, none⟩ x).drew (w3.heap.size + 1) fz fx fy ∧ RefAt3 (((w8.setCell ⟨w.heap.size, 0, none⟩ u).setCell ⟨w.heap.size, 1, none⟩ v).setCell ⟨w.heap.size, 2, none⟩ x).drew w3.heap.size tz tx ty from ⟨((RefAt3.apart (w := w8) hS0.1 (by omega)).apart (by omega)).apart (by omega), ((RefAt3.apart (w := w8) hS0.2 (by omega)).apart (by omega)).apart (by omega)⟩)
            refine hK.out _ _ (hSx _ _ _) (fun hHeld => ?_)
            clear hK K t0 t1 t2 f0 f1 f2
            try simp only [Act.put, List.setIfInBounds_toArray, List.set_cons_zero, List.set_cons_succ]
            have hTb : There (((w8.setCell ⟨w.heap.size, 0, none⟩ (.int .i64 fz)).setCell ⟨w.heap.size, 1, none⟩ (.int .i64 fx)).setCell ⟨w.heap.size, 2, none⟩ (.int .i64 fy)).drew (w.heap.size + 1) 3 := ((There.put8 (W := w8) HTb.out).put8).put8
            have hRa : RefAt3 (((w8.setCell ⟨w.heap.size, 0, none⟩ (.int .i64 fz)).setCell ⟨w.heap.size, 1, none⟩ (.int .i64 fx)).setCell ⟨w.heap.size, 2, none⟩ (.int .i64 fy)).drew w.heap.size fz fx fy := RefAt3.put (w := w8) HTa.out
            have hNb : NsAt (((w8.setCell ⟨w.heap.size, 0, none⟩ (.int .i64 fz)).setCell ⟨w.heap.size, 1, none⟩ (.int .i64 fx)).setCell ⟨w.heap.size, 2, none⟩ (.int .i64 fy)).drew b off m Y := ((NsAt.apart (w := w8) HN8.out (by omega)).apart (by omega)).apart (by omega)
            have hBb : Below w.heap.size w (((w8.setCell ⟨w.heap.size, 0, none⟩ (.int .i64 fz)).setCell ⟨w.heap.size, 1, none⟩ (.int .i64 fx)).setCell ⟨w.heap.size, 2, none⟩ (.int .i64 fy)).drew := Below.drew ((((HBw.out).setCell (Nat.le_refl _) _).setCell (Nat.le_refl _) _).setCell (Nat.le_refl _) _)
            have hbb : b < (((w8.setCell ⟨w.heap.size, 0, none⟩ (.int .i64 fz)).setCell ⟨w.heap.size, 1, none⟩ (.int .i64 fx)).setCell ⟨w.heap.size, 2, none⟩ (.int .i64 fy)).drew.heap.size := by simpa [World.setCell] using (show b < w8.heap.size by omega)
            generalize (((w8.setCell ⟨w.heap.size, 0, none⟩ (.int .i64 fz)).setCell ⟨w.heap.size, 1, none⟩ (.int .i64 fx)).setCell ⟨w.heap.size, 2, none⟩ (.int .i64 fy)).drew = V at *
            refine wpAnyH_ready (rs := [5]) (by kernel_rfl) (by simp) ?_
            refine (AllReadyH.cons rfl (fun K hK => ?_) AllReadyH.nil)
            have t0 := hTb.cell 0 (by omega)
            have t1 := hTb.cell 1 (by omega)
            have t2 := hTb.cell 2 (by omega)
            have f0 := (hTb 0 (by omega)).2
            have f1 := (hTb 1 (by omega)).2
            have f2 := (hTb 2 (by omega)).2
            go_simp
            refine hK.out _ _ ⟨((hHeld.1.apart (r := w.heap.size + 1) (by omega)).apart (r := w.heap.size + 1) (by omega)).apart (r := w.heap.size + 1) (by omega), ((hHeld.2.apart (r := w.heap.size + 1) (by omega)).apart (r := w.heap.size + 1) (by omega)).apart (r := w.heap.size + 1) (by omega)⟩ (fun hHeld => ?_)
            clear hK K
            try simp only [Act.put, List.setIfInBounds_toArray, List.set_cons_zero, List.set_cons_succ]
            refine wpAnyH_done (by kernel_rfl) ?_ _
            refine NoPanic.normal ?_
            go_wp2_with fail
            go_meet
            case rel => exact ⟨rfl, ((hRa.apart (by omega)).apart (by omega)).apart (by omega), RefAt3.put hTb, ((hNb.apart (by omega)).apart (by omega)).apart (by omega), by simpa [World.setCell] using hbb, ((hBb.setCell (Nat.le_succ _) _).setCell (Nat.le_succ _) _).setCell (Nat.le_succ _) _⟩
          obtain ⟨rfl, ⟨g0, g1, g2⟩, ⟨h0, h1, h2⟩, hNf, hbf, hBf⟩ := hcut
          go_wp2_with fail
          refine bodyPost_ret (v := .tuple #[.slice (some ⟨b, off, none⟩) m c, refV fz fx fy, refV tz tx ty]) (by simp [results, Try.results6, go_sem, g0, g1, g2, h0, h1, h2]) rfl ⟨b, off, m, c, Y, fz, fx, fy, tz, tx, ty, rfl, hm, hbf, hNf, hBf⟩
        · go_wp2_with fail
          refine (l7Bent_any a n cap Z s (t3 + 1 + 1) _ HS8.out hcap (by omega)).mono ?_
          rintro e w9 ⟨nz', nx', ny', t9, rfl, ht9, hS9, hK9⟩
          have hl9 := hK9.size
          have HN9 : Hid (NsAt w9 b off m Y) := HN8.out.keeps hK9 (by omega) (by omega)
          have HG9 : Hid (RefAt3 w9 w3.heap.size tz tx ty) := HG8.out.keeps hK9 (by omega) (by omega)
          have hT9 : There w9 (w3.heap.size + 1) 3 := HT8.out.keeps hK9 (by omega)
          have HT9 : Hid (There w9 (w3.heap.size + 1) 3) := hT9
          have HK9 : Hid (Keeps s W w9) := HK8.out.trans hK9
          have t0' := hT9.cell 0 (by omega)
          have t1' := hT9.cell 1 (by omega)
          have t2' := hT9.cell 2 (by omega)
          have f0' := (hT9 0 (by omega)).2
          have f1' := (hT9 1 (by omega)).2
          have f2' := (hT9 2 (by omega)).2
          clear hS9 hK9 hT9 HS8 HK8 HN8 HG8 HF8 HT8
          go_wp2_with fail
          have HF10 : Hid (RefAt3 (((w9.setCell ⟨w3.heap.size + 1, 0, none⟩ (.int .i64 nz')).setCell ⟨w3.heap.size + 1, 1, none⟩ (.int .i64 nx')).setCell ⟨w3.heap.size + 1, 2, none⟩ (.int .i64 ny')) (w3.heap.size + 1) nz' nx' ny') := RefAt3.put HT9.out
          have HG10 : Hid (RefAt3 (((w9.setCell ⟨w3.heap.size + 1, 0, none⟩ (.int .i64 nz')).setCell ⟨w3.heap.size + 1, 1, none⟩ (.int .i64 nx')).setCell ⟨w3.heap.size + 1, 2, none⟩ (.int .i64 ny')) w3.heap.size tz tx ty) := ((HG9.out.apart (by omega)).apart (by omega)).apart (by omega)
          have HN10 : Hid (NsAt (((w9.setCell ⟨w3.heap.size + 1, 0, none⟩ (.int .i64 nz')).setCell ⟨w3.heap.size + 1, 1, none⟩ (.int .i64 nx')).setCell ⟨w3.heap.size + 1, 2, none⟩ (.int .i64 ny')) b off m Y) := ((HN9.out.apart (by omega)).apart (by omega)).apart (by omega)
          have HK10 : Hid (Keeps s W (((w9.setCell ⟨w3.heap.size + 1, 0, none⟩ (.int .i64 nz')).setCell ⟨w3.heap.size + 1, 1, none⟩ (.int .i64 nx')).setCell ⟨w3.heap.size + 1, 2, none⟩ (.int .i64 ny'))) := ((HK9.out.own1 (by have := HWS.out; omega) 0 _).own1 (by have := HWS.out; omega) 1 _).own1 (by have := HWS.out; omega) 2 _
          have hlA : b < (((w9.setCell ⟨w3.heap.size + 1, 0, none⟩ (.int .i64 nz')).setCell ⟨w3.heap.size + 1, 1, none⟩ (.int .i64 nx')).setCell ⟨w3.heap.size + 1, 2, none⟩ (.int .i64 ny')).heap.size := by have : b < w9.heap.size := (by omega); simpa [World.setCell] using this
          clear t0' t1' t2' f0' f1' f2' HN9 HG9 HK9 HT9
          generalize ((w9.setCell ⟨w3.heap.size + 1, 0, none⟩ (.int .i64 nz')).setCell ⟨w3.heap.size + 1, 1, none⟩ (.int .i64 nx')).setCell ⟨w3.heap.size + 1, 2, none⟩ (.int .i64 ny') = wA at *
          have HBw : Hid (Below w.heap.size w wA) := HB0.out.trans (HK10.out.below (by have := HL.out; omega) (by have := HL.out; have := HWS.out; omega))
          obtain ⟨e0, e1, e2⟩ := HF10.out
          obtain ⟨d0, d1, d2⟩ := HG10.out
          have hT3' := HT3.out.keeps HK10.out (by have := HL.out; omega)
          have hT4' := HT4.out.keeps HK10.out (by have := HL.out; omega)
          have HTa : Hid (There wA w.heap.size 3) := hT3'
          have HTb : Hid (There wA (w.heap.size + 1) 3) := hT4'
          have hls : w.heap.size + 2 = s := HL.out.symm
          clear hT3' hT4'
          go_wp2_with fail
          go_cut [2] (fun t wc => t = .slice (some ⟨b, off, none⟩) m c ∧ RefAt3 wc w.heap.size nz' nx' ny' ∧ RefAt3 wc (w.heap.size + 1) tz tx ty ∧ NsAt wc b off m Y ∧ b < wc.heap.size ∧ Below w.heap.size w wc)
          case first =>
            refine wp_region_noPanic ?_
            refine wp_region_held_drew (S := fun W' => RefAt3 W' (w3.heap.size + 1) nz' nx' ny' ∧ RefAt3 W' w3.heap.size tz tx ty) (by kernel_rfl) ⟨⟨e0, e1, e2⟩, d0, d1, d2⟩ (fun hHeld => ?_)
            have hS0 : RefAt3 wA.drew (w3.heap.size + 1) nz' nx' ny' ∧ RefAt3 wA.drew w3.heap.size tz tx ty := hHeld
            refine takeD (i := 0) (d := some 34) (v := ?vqb0) rfl rfl (by kernel_rfl) (by kernel_rfl) (by kernel_rfl) (fun _ _ _ h => h) (Or.inl ⟨by rfl, ?hyqb0⟩) (by assumption) ?_
            case hyqb0 => (intro w hSw; obtain ⟨⟨s0, s1, s2⟩, s3, s4, s5⟩ := hSw; go_simp <;> with_reducible rfl)
            try simp only [Act.put, List.setIfInBounds_toArray, List.set_cons_zero, List.set_cons_succ]
            refine takeD (i := 1) (d := some 35) (v := ?vqb1) rfl rfl (by kernel_rfl) (by kernel_rfl) (by kernel_rfl) (fun _ _ _ h => h) (Or.inl ⟨by rfl, ?hyqb1⟩) (by assumption) ?_
            case hyqb1 => (intro w hSw; obtain ⟨⟨s0, s1, s2⟩, s3, s4, s5⟩ := hSw; go_simp <;> with_reducible rfl)
            try simp only [Act.put, List.setIfInBounds_toArray, List.set_cons_zero, List.set_cons_succ]
            refine takeD (i := 2) (d := some 36) (v := ?vqb2) rfl rfl (by kernel_rfl) (by kernel_rfl) (by kernel_rfl) (fun _ _ _ h => h) (Or.inl ⟨by rfl, ?hyqb2⟩) (by assumption) ?_
            case hyqb2 => (intro w hSw; obtain ⟨⟨s0, s1, s2⟩, s3, s4, s5⟩ := hSw; go_simp <;> with_reducible rfl)
            try simp only [Act.put, List.setIfInBounds_toArray, List.set_cons_zero, List.set_cons_succ]
            refine takeD (i := 3) (d := some 2) (v := ?vqb3) rfl rfl (by kernel_rfl) (by kernel_rfl) (by kernel_rfl) (fun _ _ _ h => h) (Or.inl ⟨by rfl, ?hyqb3⟩) (by assumption) ?_
            case hyqb3 => (intro w hSw; obtain ⟨⟨s0, s1, s2⟩, s3, s4, s5⟩ := hSw; go_simp <;> with_reducible rfl)
            try simp only [Act.put, List.setIfInBounds_toArray, List.set_cons_zero, List.set_cons_succ]
            refine wpAnyH_ready (rs := [4]) (by kernel_rfl) (by simp) ?_
            refine (AllReadyH.cons rfl (fun K hK => ?_) AllReadyH.nil)
            have hTa := HTa.out
            have t0 := hTa.cell 0 (by omega)
            have t1 := hTa.cell 1 (by omega)
            have t2 := hTa.cell 2 (by omega)
            have f0 := (hTa 0 (by omega)).2
            have f1 := (hTa 1 (by omega)).2
            have f2 := (hTa 2 (by omega)).2
            go_simp
            have hSx := fun (u v x : Value) => (show RefAt3 (((wA.setCell ⟨w.heap.size, 0, none⟩ u).setCell ⟨w.heap.size, 1, none⟩ v).setCell ⟨w.heap.size, 2, none⟩ x).drew (w3.heap.size + 1) nz' nx' ny' ∧ RefAt3 (((wA.setCell ⟨w.heap.size, 0, none⟩ u).setCell ⟨w.heap.size, 1, none⟩ v).setCell ⟨w.heap.size, 2, none⟩ x).drew w3.heap.size tz tx ty from ⟨((RefAt3.apart (w := wA) hS0.1 (by omega)).apart (by omega)).apart (by omega), ((RefAt3.apart (w := wA) hS0.2 (by omega)).apart (by omega)).apart (by omega)⟩)
            refine hK.out _ _ (hSx _ _ _) (fun hHeld => ?_)
            clear hK K t0 t1 t2 f0 f1 f2
            try simp only [Act.put, List.setIfInBounds_toArray, List.set_cons_zero, List.set_cons_succ]
            have hTb : There (((wA.setCell ⟨w.heap.size, 0, none⟩ (.int .i64 nz')).setCell ⟨w.heap.size, 1, none⟩ (.int .i64 nx')).setCell ⟨w.heap.size, 2, none⟩ (.int .i64 ny')).drew (w.heap.size + 1) 3 := ((There.put8 (W := wA) HTb.out).put8).put8
            have hRa : RefAt3 (((wA.setCell ⟨w.heap.size, 0, none⟩ (.int .i64 nz')).setCell ⟨w.heap.size, 1, none⟩ (.int .i64 nx')).setCell ⟨w.heap.size, 2, none⟩ (.int .i64 ny')).drew w.heap.size nz' nx' ny' := RefAt3.put (w := wA) HTa.out
            have hNb : NsAt (((wA.setCell ⟨w.heap.size, 0, none⟩ (.int .i64 nz')).setCell ⟨w.heap.size, 1, none⟩ (.int .i64 nx')).setCell ⟨w.heap.size, 2, none⟩ (.int .i64 ny')).drew b off m Y := ((NsAt.apart (w := wA) HN10.out (by omega)).apart (by omega)).apart (by omega)
            have hBb : Below w.heap.size w (((wA.setCell ⟨w.heap.size, 0, none⟩ (.int .i64 nz')).setCell ⟨w.heap.size, 1, none⟩ (.int .i64 nx')).setCell ⟨w.heap.size, 2, none⟩ (.int .i64 ny')).drew := Below.drew ((((HBw.out).setCell (Nat.le_refl _) _).setCell (Nat.le_refl _) _).setCell (Nat.le_refl _) _)
            have hbb : b < (((wA.setCell ⟨w.heap.size, 0, none⟩ (.int .i64 nz')).setCell ⟨w.heap.size, 1, none⟩ (.int .i64 nx')).setCell ⟨w.heap.size, 2, none⟩ (.int .i64 ny')).drew.heap.size := by simpa [World.setCell] using hlA
            generalize (((wA.setCell ⟨w.heap.size, 0, none⟩ (.int .i64 nz')).setCell ⟨w.heap.size, 1, none⟩ (.int .i64 nx')).setCell ⟨w.heap.size, 2, none⟩ (.int .i64 ny')).drew = V at *
            refine wpAnyH_ready (rs := [5]) (by kernel_rfl) (by simp) ?_
            refine (AllReadyH.cons rfl (fun K hK => ?_) AllReadyH.nil)
            have t0 := hTb.cell 0 (by omega)
            have t1 := hTb.cell 1 (by omega)
            have t2 := hTb.cell 2 (by omega)
            have f0 := (hTb 0 (by omega)).2
            have f1 := (hTb 1 (by omega)).2
            have f2 := (hTb 2 (by omega)).2
            go_simp
            refine hK.out _ _ ⟨((hHeld.1.apart (r := w.heap.size + 1) (by omega)).apart (r := w.heap.size + 1) (by omega)).apart (r := w.heap.size + 1) (by omega), ((hHeld.2.apart (r := w.heap.size + 1) (by omega)).apart (r := w.heap.size + 1) (by omega)).apart (r := w.heap.size + 1) (by omega)⟩ (fun hHeld => ?_)
            clear hK K
            try simp only [Act.put, List.setIfInBounds_toArray, List.set_cons_zero, List.set_cons_succ]
            refine wpAnyH_done (by kernel_rfl) ?_ _
            refine NoPanic.normal ?_
            go_wp2_with fail
            go_meet
            case rel => exact ⟨rfl, ((hRa.apart (by omega)).apart (by omega)).apart (by omega), RefAt3.put hTb, ((hNb.apart (by omega)).apart (by omega)).apart (by omega), by simpa [World.setCell] using hbb, ((hBb.setCell (Nat.le_succ _) _).setCell (Nat.le_succ _) _).setCell (Nat.le_succ _) _⟩
          obtain ⟨rfl, ⟨g0, g1, g2⟩, ⟨h0, h1, h2⟩, hNf, hbf, hBf⟩ := hcut
          go_wp2_with fail
          refine bodyPost_ret (v := .tuple #[.slice (some ⟨b, off, none⟩) m c, refV nz' nx' ny', refV tz tx ty]) (by simp [results, Try.results6, go_sem, g0, g1, g2, h0, h1, h2]) rfl ⟨b, off, m, c, Y, nz', nx', ny', tz, tx, ty, rfl, hm, hbf, hNf, hBf⟩
      · have hji : ¬ (0 : Int) < (j : Int) := by omega
        go_wp2_with fail
        refine (l1Chance_any a n cap Z s (t3 + 1) 6 _ HS7.out hcap (by omega) (by omega) (by omega)).mono ?_
        rintro e w8 ⟨cc, rfl, hS8, hK8⟩
        have hl8 := hK8.size
        have HN8 : Hid (NsAt w8 b off m Y) := HN7.out.keeps hK8 (by omega) (by omega)
        have HF8 : Hid (RefAt3 w8 (w3.heap.size + 1) fz fx fy) := HU.out.keeps hK8 (by omega) (by omega)
        have HG8 : Hid (RefAt3 w8 w3.heap.size tz tx ty) := HU77.out.keeps hK8 (by omega) (by omega)
        have HS8 : Hid (Src a n cap Z s (t3 + 1 + 1) w8) := hS8
        have HK8 : Hid (Keeps s W w8) := HK7.out.trans hK8
        have HT8 : Hid (There w8 (w3.heap.size + 1) 3) := HT.out.keeps hK8 (by omega)
        clear hS8 hK8 e0 e1 e2 HS7 HK7 HN7 HU77 HU HT
        cases cc
        · have HBw : Hid (Below w.heap.size w w8) := HB0.out.trans (HK8.out.below (by have := HL.out; omega) (by have := HL.out; have := HWS.out; omega))
          obtain ⟨e0, e1, e2⟩ := HF8.out
          obtain ⟨d0, d1, d2⟩ := HG8.out
          have hT3' := HT3.out.keeps HK8.out (by have := HL.out; omega)
          have hT4' := HT4.out.keeps HK8.out (by have := HL.out; omega)
          have HTa : Hid (There w8 w.heap.size 3) := hT3'
          have HTb : Hid (There w8 (w.heap.size + 1) 3) := hT4'
          have hls : w.heap.size + 2 = s := HL.out.symm
          clear hT3' hT4'
          go_wp2_with fail
          go_cut [2] (fun t wc => t = .slice (some ⟨b, off, none⟩) m c ∧ RefAt3 wc w.heap.size fz fx fy ∧ RefAt3 wc (w.heap.size + 1) tz tx ty ∧ NsAt wc b off m Y ∧ b < wc.heap.size ∧ Below w.heap.size w wc)
          case first =>
            refine wp_region_noPanic ?_
            refine wp_region_held_drew (S := fun W' => RefAt3 W' (w3.heap.size + 1) fz fx fy ∧ RefAt3 W' w3.heap.size tz tx ty) (by kernel_rfl) ⟨⟨e0, e1, e2⟩, d0, d1, d2⟩ (fun hHeld => ?_)
            have hS0 : RefAt3 w8.drew (w3.heap.size + 1) fz fx fy ∧ RefAt3 w8.drew w3.heap.size tz tx ty := hHeld
            refine takeD (i := 0) (d := some 34) (v := ?vqc0) rfl rfl (by kernel_rfl) (by kernel_rfl) (by kernel_rfl) (fun _ _ _ h => h) (Or.inl ⟨by rfl, ?hyqc0⟩) (by assumption) ?_
            case hyqc0 => (intro w hSw; obtain ⟨⟨s0, s1, s2⟩, s3, s4, s5⟩ := hSw; go_simp <;> with_reducible rfl)
            try simp only [Act.put, List.setIfInBounds_toArray, List.set_cons_zero, List.set_cons_succ]
            refine takeD (i := 1) (d := some 35) (v := ?vqc1) rfl rfl (by kernel_rfl) (by kernel_rfl) (by kernel_rfl) (fun _ _ _ h => h) (Or.inl ⟨by rfl, ?hyqc1⟩) (by assumption) ?_
            case hyqc1 => (intro w hSw; obtain ⟨⟨s0, s1, s2⟩, s3, s4, s5⟩ := hSw; go_simp <;> with_reducible rfl)
            try simp only [Act.put, List.setIfInBounds_toArray, List.set_cons_zero, List.set_cons_succ]
            refine takeD (i := 2) (d := some 36) (v := ?vqc2) rfl rfl (by kernel_rfl) (by kernel_rfl) (by kernel_rfl) (fun _ _ _ h => h) (Or.inl ⟨by rfl, ?hyqc2⟩) (by assumption) ?_
            case hyqc2 => (intro w hSw; obtain ⟨⟨s0, s1, s2⟩, s3, s4, s5⟩ := hSw; go_simp <;> with_reducible rfl)
            try simp only [Act.put, List.setIfInBounds_toArray, List.set_cons_zero, List.set_cons_succ]
            refine takeD (i := 3) (d := some 2) (v := ?vqc3) rfl rfl (by kernel_rfl) (by kernel_rfl) (by kernel_rfl) (fun _ _ _ h => h) (Or.inl ⟨by rfl, ?hyqc3⟩) (by assumption) ?_
            case hyqc3 => (intro w hSw; obtain ⟨⟨s0, s1, s2⟩, s3, s4, s5⟩ := hSw; go_simp <;> with_reducible rfl)
            try simp only [Act.put, List.setIfInBounds_toArray, List.set_cons_zero, List.set_cons_succ]
            refine wpAnyH_ready (rs := [4]) (by kernel_rfl) (by simp) ?_
            refine (AllReadyH.cons rfl (fun K hK => ?_) AllReadyH.nil)
            have hTa := HTa.out
            have t0 := hTa.cell 0 (by omega)
            have t1 := hTa.cell 1 (by omega)
            have t2 := hTa.cell 2 (by omega)
            have f0 := (hTa 0 (by omega)).2
            have f1 := (hTa 1 (by omega)).2
            have f2 := (hTa 2 (by omega)).2
            go_simp
            have hSx := fun (u v x : Value) => (show RefAt3 (((w8.setCell ⟨w.heap.size, 0, none⟩ u).setCell ⟨w.heap.size, 1, none⟩ v).setCell ⟨w.heap.size, 2, none⟩ x).drew (w3.heap.size + 1) fz fx fy ∧ RefAt3 (((w8.setCell ⟨w.heap.size, 0, none⟩ u).setCell ⟨w.heap.size, 1, none⟩ v).setCell ⟨w.heap.size, 2, none⟩ x).drew w3.heap.size tz tx ty from ⟨((RefAt3.apart (w := w8) hS0.1 (by omega)).apart (by omega)).apart (by omega), ((RefAt3.apart (w := w8) hS0.2 (by omega)).apart (by omega)).apart (by omega)⟩)
            refine hK.out _ _ (hSx _ _ _) (fun hHeld => ?_)
            clear hK K t0 t1 t2 f0 f1 f2
            try simp only [Act.put, List.setIfInBounds_toArray, List.set_cons_zero, List.set_cons_succ]
            have hTb : There (((w8.setCell ⟨w.heap.size, 0, none⟩ (.int .i64 fz)).setCell ⟨w.heap.size, 1, none⟩ (.int .i64 fx)).setCell ⟨w.heap.size, 2, none⟩ (.int .i64 fy)).drew (w.heap.size + 1) 3 := ((There.put8 (W := w8) HTb.out).put8).put8
            have hRa : RefAt3 (((w8.setCell ⟨w.heap.size, 0, none⟩ (.int .i64 fz)).setCell ⟨w.heap.size, 1, none⟩ (.int .i64 fx)).setCell ⟨w.heap.size, 2, none⟩ (.int .i64 fy)).drew w.heap.size fz fx fy := RefAt3.put (w := w8) HTa.out
            have hNb : NsAt (((w8.setCell ⟨w.heap.size, 0, none⟩ (.int .i64 fz)).setCell ⟨w.heap.size, 1, none⟩ (.int .i64 fx)).setCell ⟨w.heap.size, 2, none⟩ (.int .i64 fy)).drew b off m Y := ((NsAt.apart (w := w8) HN8.out (by omega)).apart (by omega)).apart (by omega)
            have hBb : Below w.heap.size w (((w8.setCell ⟨w.heap.size, 0, none⟩ (.int .i64 fz)).setCell ⟨w.heap.size, 1, none⟩ (.int .i64 fx)).setCell ⟨w.heap.size, 2, none⟩ (.int .i64 fy)).drew := Below.drew ((((HBw.out).setCell (Nat.le_refl _) _).setCell (Nat.le_refl _) _).setCell (Nat.le_refl _) _)
            have hbb : b < (((w8.setCell ⟨w.heap.size, 0, none⟩ (.int .i64 fz)).setCell ⟨w.heap.size, 1, none⟩ (.int .i64 fx)).setCell ⟨w.heap.size, 2, none⟩ (.int .i64 fy)).drew.heap.size := by simpa [World.setCell] using (show b < w8.heap.size by omega)
            generalize (((w8.setCell ⟨w.heap.size, 0, none⟩ (.int .i64 fz)).setCell ⟨w.heap.size, 1, none⟩ (.int .i64 fx)).setCell ⟨w.heap.size, 2, none⟩ (.int .i64 fy)).drew = V at *
            refine wpAnyH_ready (rs := [5]) (by kernel_rfl) (by simp) ?_
            refine (AllReadyH.cons rfl (fun K hK => ?_) AllReadyH.nil)
            have t0 := hTb.cell 0 (by omega)
            have t1 := hTb.cell 1 (by omega)
            have t2 := hTb.cell 2 (by omega)
            have f0 := (hTb 0 (by omega)).2
            have f1 := (hTb 1 (by omega)).2
            have f2 := (hTb 2 (by omega)).2
            go_simp
            refine hK.out _ _ ⟨((hHeld.1.apart (r := w.heap.size + 1) (by omega)).apart (r := w.heap.size + 1) (by omega)).apart (r := w.heap.size + 1) (by omega), ((hHeld.2.apart (r := w.heap.size + 1) (by omega)).apart (r := w.heap.size + 1) (by omega)).apart (r := w.heap.size + 1) (by omega)⟩ (fun hHeld => ?_)
            clear hK K
            try simp only [Act.put, List.setIfInBounds_toArray, List.set_cons_zero, List.set_cons_succ]
            refine wpAnyH_done (by kernel_rfl) ?_ _
            refine NoPanic.normal ?_
            go_wp2_with fail
            go_meet
            case rel => exact ⟨rfl, ((hRa.apart (by omega)).apart (by omega)).apart (by omega), RefAt3.put hTb, ((hNb.apart (by omega)).apart (by omega)).apart (by omega), by simpa [World.setCell] using hbb, ((hBb.setCell (Nat.le_succ _) _).setCell (Nat.le_succ _) _).setCell (Nat.le_succ _) _⟩
          obtain ⟨rfl, ⟨g0, g1, g2⟩, ⟨h0, h1, h2⟩, hNf, hbf, hBf⟩ := hcut
          go_wp2_with fail
          refine bodyPost_ret (v := .tuple #[.slice (some ⟨b, off, none⟩) m c, refV fz fx fy, refV tz tx ty]) (by simp [results, Try.results6, go_sem, g0, g1, g2, h0, h1, h2]) rfl ⟨b, off, m, c, Y, fz, fx, fy, tz, tx, ty, rfl, hm, hbf, hNf, hBf⟩
        · go_wp2_with fail
          refine (l7Bent_any a n cap Z s (t3 + 1 + 1) _ HS8.out hcap (by omega)).mono ?_
          rintro e w9 ⟨nz', nx', ny', t9, rfl, ht9, hS9, hK9⟩
          have hl9 := hK9.size
          have HN9 : Hid (NsAt w9 b off m Y) := HN8.out.keeps hK9 (by omega) (by omega)
          have HG9 : Hid (RefAt3 w9 w3.heap.size tz tx ty) := HG8.out.keeps hK9 (by omega) (by omega)
          have hT9 : There w9 (w3.heap.size + 1) 3 := HT8.out.keeps hK9 (by omega)
          have HT9 : Hid (There w9 (w3.heap.size + 1) 3) := hT9
          have HK9 : Hid (Keeps s W w9) := HK8.out.trans hK9
          have t0' := hT9.cell 0 (by omega)
          have t1' := hT9.cell 1 (by omega)
          have t2' := hT9.cell 2 (by omega)
          have f0' := (hT9 0 (by omega)).2
          have f1' := (hT9 1 (by omega)).2
          have f2' := (hT9 2 (by omega)).2
          clear hS9 hK9 hT9 HS8 HK8 HN8 HG8 HF8 HT8
          go_wp2_with fail
          have HF10 : Hid (RefAt3 (((w9.setCell ⟨w3.heap.size + 1, 0, none⟩ (.int .i64 nz')).setCell ⟨w3.heap.size + 1, 1, none⟩ (.int .i64 nx')).setCell ⟨w3.heap.size + 1, 2, none⟩ (.int .i64 ny')) (w3.heap.size + 1) nz' nx' ny') := RefAt3.put HT9.out
          have HG10 : Hid (RefAt3 (((w9.setCell ⟨w3.heap.size + 1, 0, none⟩ (.int .i64 nz')).setCell ⟨w3.heap.size + 1, 1, none⟩ (.int .i64 nx')).setCell ⟨w3.heap.size + 1, 2, none⟩ (.int .i64 ny')) w3.heap.size tz tx ty) := ((HG9.out.apart (by omega)).apart (by omega)).apart (by omega)
          have HN10 : Hid (NsAt (((w9.setCell ⟨w3.heap.size + 1, 0, none⟩ (.int .i64 nz')).setCell ⟨w3.heap.size + 1, 1, none⟩ (.int .i64 nx')).setCell ⟨w3.heap.size + 1, 2, none⟩ (.int .i64 ny')) b off m Y) := ((HN9.out.apart (by omega)).apart (by omega)).apart (by omega)
          have HK10 : Hid (Keeps s W (((w9.setCell ⟨w3.heap.size + 1, 0, none⟩ (.int .i64 nz')).setCell ⟨w3.heap.size + 1, 1, none⟩ (.int .i64 nx')).setCell ⟨w3.heap.size + 1, 2, none⟩ (.int .i64 ny'))) := ((HK9.out.own1 (by have := HWS.out; omega) 0 _).own1 (by have := HWS.out; omega) 1 _).own1 (by have := HWS.out; omega) 2 _
          have hlA : b < (((w9.setCell ⟨w3.heap.size + 1, 0, none⟩ (.int .i64 nz')).setCell ⟨w3.heap.size + 1, 1, none⟩ (.int .i64 nx')).setCell ⟨w3.heap.size + 1, 2, none⟩ (.int .i64 ny')).heap.size := by have : b < w9.heap.size := (by omega); simpa [World.setCell] using this
          clear t0' t1' t2' f0' f1' f2' HN9 HG9 HK9 HT9
          generalize ((w9.setCell ⟨w3.heap.size + 1, 0, none⟩ (.int .i64 nz')).setCell ⟨w3.heap.size + 1, 1, none⟩ (.int .i64 nx')).setCell ⟨w3.heap.size + 1, 2, none⟩ (.int .i64 ny') = wA at *
          have HBw : Hid (Below w.heap.size w wA) := HB0.out.trans (HK10.out.below (by have := HL.out; omega) (by have := HL.out; have := HWS.out; omega))
          obtain ⟨e0, e1, e2⟩ := HF10.out
          obtain ⟨d0, d1, d2⟩ := HG10.out
          have hT3' := HT3.out.keeps HK10.out (by have := HL.out; omega)
          have hT4' := HT4.out.keeps HK10.out (by have := HL.out; omega)
          have HTa : Hid (There wA w.heap.size 3) := hT3'
          have HTb : Hid (There wA (w.heap.size + 1) 3) := hT4'
          have hls : w.heap.size + 2 = s := HL.out.symm
          clear hT3' hT4'
          go_wp2_with fail
          go_cut [2] (fun t wc => t = .slice (some ⟨b, off, none⟩) m c ∧ RefAt3 wc w.heap.size nz' nx' ny' ∧ RefAt3 wc (w.heap.size + 1) tz tx ty ∧ NsAt wc b off m Y ∧ b < wc.heap.size ∧ Below w.heap.size w wc)
          case first =>
            refine wp_region_noPanic ?_
            refine wp_region_held_drew (S := fun W' => RefAt3 W' (w3.heap.size + 1) nz' nx' ny' ∧ RefAt3 W' w3.heap.size tz tx ty) (by kernel_rfl) ⟨⟨e0, e1, e2⟩, d0, d1, d2⟩ (fun hHeld => ?_)
            have hS0 : RefAt3 wA.drew (w3.heap.size + 1) nz' nx' ny' ∧ RefAt3 wA.drew w3.heap.size tz tx ty := hHeld
            refine takeD (i := 0) (d := some 34) (v := ?vqd0) rfl rfl (by kernel_rfl) (by kernel_rfl) (by kernel_rfl) (fun _ _ _ h => h) (Or.inl ⟨by rfl, ?hyqd0⟩) (by assumption) ?_
            case hyqd0 => (intro w hSw; obtain ⟨⟨s0, s1, s2⟩, s3, s4, s5⟩ := hSw; go_simp <;> with_reducible rfl)
            try simp only [Act.put, List.setIfInBounds_toArray, List.set_cons_zero, List.set_cons_succ]
            refine takeD (i := 1) (d := some 35) (v := ?vqd1) rfl rfl (by kernel_rfl) (by kernel_rfl) (by kernel_rfl) (fun _ _ _ h => h) (Or.inl ⟨by rfl, ?hyqd1⟩) (by assumption) ?_
            case hyqd1 => (intro w hSw; obtain ⟨⟨s0, s1, s2⟩, s3, s4, s5⟩ := hSw; go_simp <;> with_reducible rfl)
            try simp only [Act.put, List.setIfInBounds_toArray, List.set_cons_zero, List.set_cons_succ]
            refine takeD (i := 2) (d := some 36) (v := ?vqd2) rfl rfl (by kernel_rfl) (by kernel_rfl) (by kernel_rfl) (fun _ _ _ h => h) (Or.inl ⟨by rfl, ?hyqd2⟩) (by assumption) ?_
            case hyqd2 => (intro w hSw; obtain ⟨⟨s0, s1, s2⟩, s3, s4, s5⟩ := hSw; go_simp <;> with_reducible rfl)
            try simp only [Act.put, List.setIfInBounds_toArray, List.set_cons_zero, List.set_cons_succ]
            refine takeD (i := 3) (d := some 2) (v := ?vqd3) rfl rfl (by kernel_rfl) (by kernel_rfl) (by kernel_rfl) (fun _ _ _ h => h) (Or.inl ⟨by rfl, ?hyqd3⟩) (by assumption) ?_
            case hyqd3 => (intro w hSw; obtain ⟨⟨s0, s1, s2⟩, s3, s4, s5⟩ := hSw; go_simp <;> with_reducible rfl)
            try simp only [Act.put, List.setIfInBounds_toArray, List.set_cons_zero, List.set_cons_succ]
            refine wpAnyH_ready (rs := [4]) (by kernel_rfl) (by simp) ?_
            refine (AllReadyH.cons rfl (fun K hK => ?_) AllReadyH.nil)
            have hTa := HTa.out
            have t0 := hTa.cell 0 (by omega)
            have t1 := hTa.cell 1 (by omega)
            have t2 := hTa.cell 2 (by omega)
            have f0 := (hTa 0 (by omega)).2
            have f1 := (hTa 1 (by omega)).2
            have f2 := (hTa 2 (by omega)).2
            go_simp
            have hSx := fun (u v x : Value) => (show RefAt3 (((wA.setCell ⟨w.heap.size, 0, none⟩ u).setCell ⟨w.heap.size, 1, none⟩ v).setCell ⟨w.heap.size, 2, none⟩ x).drew (w3.heap.size + 1) nz' nx' ny' ∧ RefAt3 (((wA.setCell ⟨w.heap.size, 0, none⟩ u).setCell ⟨w.heap.size, 1, none⟩ v).setCell ⟨w.heap.size, 2, none⟩ x).drew w3.heap.size tz tx ty from ⟨((RefAt3.apart (w := wA) hS0.1 (by omega)).apart (by omega)).apart (by omega), ((RefAt3.apart (w := wA) hS0.2 (by omega)).apart (by omega)).apart (by omega)⟩)
            refine hK.out _ _ (hSx _ _ _) (fun hHeld => ?_)
            clear hK K t0 t1 t2 f0 f1 f2
            try simp only [Act.put, List.setIfInBounds_toArray, List.set_cons_zero, List.set_cons_succ]
            have hTb : There (((wA.setCell ⟨w.heap.size, 0, none⟩ (.int .i64 nz')).setCell ⟨w.heap.size, 1, none⟩ (.int .i64 nx')).setCell ⟨w.heap.size, 2, none⟩ (.int .i64 ny')).drew (w.heap.size + 1) 3 := ((There.put8 (W := wA) HTb.out).put8).put8
            have hRa : RefAt3 (((wA.setCell ⟨w.heap.size, 0, none⟩ (.int .i64 nz')).setCell ⟨w.heap.size, 1, none⟩ (.int .i64 nx')).setCell ⟨w.heap.size, 2, none⟩ (.int .i64 ny')).drew w.heap.size nz' nx' ny' := RefAt3.put (w := wA) HTa.out
            have hNb : NsAt (((wA.setCell ⟨w.heap.size, 0, none⟩ (.int .i64 nz')).setCell ⟨w.heap.size, 1, none⟩ (.int .i64 nx')).setCell ⟨w.heap.size, 2, none⟩ (.int .i64 ny')).drew b off m Y := ((NsAt.apart (w := wA) HN10.out (by omega)).apart (by omega)).apart (by omega)
            have hBb : Below w.heap.size w (((wA.setCell ⟨w.heap.size, 0, none⟩ (.int .i64 nz')).setCell ⟨w.heap.size, 1, none⟩ (.int .i64 nx')).setCell ⟨w.heap.size, 2, none⟩ (.int .i64 ny')).drew := Below.drew ((((HBw.out).setCell (Nat.le_refl _) _).setCell (Nat.le_refl _) _).setCell (Nat.le_refl _) _)
            have hbb : b < (((wA.setCell ⟨w.heap.size, 0, none⟩ (.int .i64 nz')).setCell ⟨w.heap.size, 1, none⟩ (.int .i64 nx')).setCell ⟨w.heap.size, 2, none⟩ (.int .i64 ny')).drew.heap.size := by simpa [World.setCell] using hlA
            generalize (((wA.setCell ⟨w.heap.size, 0, none⟩ (.int .i64 nz')).setCell ⟨w.heap.size, 1, none⟩ (.int .i64 nx')).setCell ⟨w.heap.size, 2, none⟩ (.int .i64 ny')).drew = V at *
            refine wpAnyH_ready (rs := [5]) (by kernel_rfl) (by simp) ?_
            refine (AllReadyH.cons rfl (fun K hK => ?_) AllReadyH.nil)
            have t0 := hTb.cell 0 (by omega)
            have t1 := hTb.cell 1 (by omega)
            have t2 := hTb.cell 2 (by omega)
            have f0 := (hTb 0 (by omega)).2
            have f1 := (hTb 1 (by omega)).2
            have f2 := (hTb 2 (by omega)).2
            go_simp
            refine hK.out _ _ ⟨((hHeld.1.apart (r := w.heap.size + 1) (by omega)).apart (r := w.heap.size + 1) (by omega)).apart (r := w.heap.size + 1) (by omega), ((hHeld.2.apart (r := w.heap.size + 1) (by omega)).apart (r := w.heap.size + 1) (by omega)).apart (r := w.heap.size + 1) (by omega)⟩ (fun hHeld => ?_)
            clear hK K
            try simp only [Act.put, List.setIfInBounds_toArray, List.set_cons_zero, List.set_cons_succ]
            refine wpAnyH_done (by kernel_rfl) ?_ _
            refine NoPanic.normal ?_
            go_wp2_with fail
            go_meet
            case rel => exact ⟨rfl, ((hRa.apart (by omega)).apart (by omega)).apart (by omega), RefAt3.put hTb, ((hNb.apart (by omega)).apart (by omega)).apart (by omega), by simpa [World.setCell] using hbb, ((hBb.setCell (Nat.le_succ _) _).setCell (Nat.le_succ _) _).setCell (Nat.le_succ _) _⟩
          obtain ⟨rfl, ⟨g0, g1, g2⟩, ⟨h0, h1, h2⟩, hNf, hbf, hBf⟩ := hcut
          go_wp2_with fail
          refine bodyPost_ret (v := .tuple #[.slice (some ⟨b, off, none⟩) m c, refV nz' nx' ny', refV tz tx ty]) (by simp [results, Try.results6, go_sem, g0, g1, g2, h0, h1, h2]) rfl ⟨b, off, m, c, Y, nz', nx', ny', tz, tx, ty, rfl, hm, hbf, hNf, hBf⟩
end Go.Proofs.Ytjkmjkfakolpfaa
