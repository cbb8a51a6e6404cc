/- Drawn cameras, bent, and what is drawn beside them: nothing that was there is written. -/
import Derived.Test.YtfknbijpimpbfaaVOnlies42
import Derived.Test.YtfknbijpimpbfaaVOnlies38
namespace Go.Proofs.Ytfknbijpimpbfaa
open Go.RowKit
set_option linter.unusedSimpArgs false
set_option linter.unusedVariables false
set_option maxRecDepth 100000

set_option maxHeartbeats 8000000 in
theorem l9Bent_any (a : Option Addr) (n cap : Nat) (Z : Nat → Int) (s t : Nat) (w : World) (h : Src a n cap Z s t w) (hcap : n ≤ cap) (ht : t ≤ 700) :
    Calls Try.prog 23 #[.pointer (some ⟨s, 0, none⟩)] w fun e w' => ∃ (z x y wd hh : Int) (t' : Nat), e = .returned (camV z x y wd hh) ∧ t' ≤ t + 7 ∧ Src a n cap Z s t' w' ∧ Keeps s w w' := by
  have hsl : s < w.heap.size := World.block_lt_of_cell? _ _ h.code
  have HS0 : Hid (Src a n cap Z s t w) := h
  clear h
  go_enter Try.func23, Try.ntmps23
  go_wp2_with fail
  generalize hW : (w.alloc _ : World) = W
  have hB0 : Below w.heap.size w W := by subst hW; (repeat (first | exact Below.refl _ _ | assumption | refine Below.drew ?_ | refine bl_alloc ?_ _ | refine bl_then ?_ (by assumption) | refine Below.setCell ?_ (by first | omega | (simp; done) | (simp; omega)) _ | refine bl_store ?_ ?_ _ _))
  have hlt : w.heap.size < W.heap.size := by subst hW; simp
  have HT : Hid (There W w.heap.size 5) := by
    show There _ _ _
    subst hW
    exact there5c w (.int .i64 0) (.int .i64 0) (.int .i64 0) (.int .i64 0) (.int .i64 0) 26
  clear hW
  have HS : Hid (Src a n cap Z s t W) := HS0.out.below hB0
  have HK : Hid (Keeps s w W) := Keeps.of_below hB0
  clear hB0 HS0
  refine (l9Draw_any a n cap Z s t _ HS.out hcap (by omega)).mono ?_
  rintro e w1 ⟨z, x, y, wd, hh, rfl, hS1, hK1⟩
  have HT1 : Hid (There w1 w.heap.size 5) := HT.out.keeps hK1 (by omega)
  have HS1 : Hid (Src a n cap Z s (t + 5) w1) := hS1
  have HK1 : Hid (Keeps s w w1) := HK.out.trans hK1
  have hlt1 : w.heap.size < w1.heap.size := Nat.lt_of_lt_of_le hlt hK1.size
  clear hS1 hK1 HS HK HT hlt
  go_wp2_with fail
  generalize hW2 : (w1.alloc _ : World) = w2
  have hb2 : Below w1.heap.size w1 w2 := by subst hW2; (repeat (first | exact Below.refl _ _ | assumption | refine Below.drew ?_ | refine bl_alloc ?_ _ | refine bl_then ?_ (by assumption) | refine Below.setCell ?_ (by first | omega | (simp; done) | (simp; omega)) _ | refine bl_store ?_ ?_ _ _))
  obtain ⟨R0, hR0⟩ : ∃ R0, w1.heap.size = R0 := ⟨_, rfl⟩
  have HC2 : Hid (CamAt w2 R0 z x y wd hh) := by show CamAt _ _ _ _ _ _ _; subst hW2; rw [← hR0]; exact camAt_new _ _ _ _ _ _ _
  have HU2 : Hid (There w2 R0 5) := by show There _ _ _; subst hW2; rw [← hR0]; exact there5c _ _ _ _ _ _ _
  have HS2 : Hid (Src a n cap Z s (t + 5) w2) := HS1.out.below hb2
  have HT2 : Hid (There w2 w.heap.size 5) := HT1.out.below hb2
  have HK2 : Hid (Keeps s w w2) := HK1.out.trans (Keeps.of_below hb2)
  have hr1 : w.heap.size < R0 := by omega
  simp only [hR0]
  clear hW2 hb2 HS1 HT1 HK1 hlt1 hR0
  refine (l1Next_any a n cap Z s (t + 5) 12 _ HS2.out hcap (by omega) (by omega) (by omega)).mono ?_
  rintro e w3 ⟨k, rfl, hk, hS3, hK3⟩
  have HC3 : Hid (CamAt w3 R0 z x y wd hh) := HC2.out.keepsC hK3 (by omega)
  have HU3 : Hid (There w3 R0 5) := HU2.out.keeps hK3 (by omega)
  have HS3 : Hid (Src a n cap Z s (t + 5 + 1) w3) := hS3
  have HT3 : Hid (There w3 w.heap.size 5) := HT2.out.keeps hK3 (by omega)
  have HK3 : Hid (Keeps s w w3) := HK2.out.trans hK3
  clear hS3 hK3 HC2 HU2 HS2 HT2 HK2
  have HE : Hid (∀ (z x y wd hh : Int) (t' : Nat) (W : World), CamAt W R0 z x y wd hh → There W w.heap.size 5 → Src a n cap Z s t' W → Keeps s w W → t' ≤ t + 7 →
      (∃ (z' x' y' wd' hh' : Int) (t'' : Nat), Ending.returned (camV z x y wd hh) = .returned (camV z' x' y' wd' hh') ∧ t'' ≤ t + 7 ∧ Src a n cap Z s t'' (((((W.setCell ⟨w.heap.size, 0, none⟩ (.int .i64 z)).setCell ⟨w.heap.size, 1, none⟩ (.int .i64 x)).setCell ⟨w.heap.size, 2, none⟩ (.int .i64 y)).setCell ⟨w.heap.size, 3, none⟩ (.int .i64 wd)).setCell ⟨w.heap.size, 4, none⟩ (.int .i64 hh)) ∧ Keeps s w (((((W.setCell ⟨w.heap.size, 0, none⟩ (.int .i64 z)).setCell ⟨w.heap.size, 1, none⟩ (.int .i64 x)).setCell ⟨w.heap.size, 2, none⟩ (.int .i64 y)).setCell ⟨w.heap.size, 3, none⟩ (.int .i64 wd)).setCell ⟨w.heap.size, 4, none⟩ (.int .i64 hh)))) := fun z x y wd hh t' W _ _ hS hK ht' => by
    obtain ⟨h1, h2⟩ := src5 (v0 := .int .i64 z) (v1 := .int .i64 x) (v2 := .int .i64 y) (v3 := .int .i64 wd) (v4 := .int .i64 hh) hS hsl hK (Nat.le_refl _)
    exact ⟨_, _, _, _, _, _, rfl, ht', h1, h2⟩
  by_cases hk0 : k = 0
  · subst hk0
    go_wp2_with fail
    refine (pick3r a n cap Z s _ _ _ _ _ _ HS3.out hcap (by omega)).mono ?_
    rintro e w4 ⟨u, rfl, hS4, hK4⟩
    have hU4 := HU3.out.keeps hK4 (by omega)
    have fc := (hU4 0 (by omega)).2
    have hC4 := HC3.out.keepsC hK4 (by omega)
    have HC5 : Hid (CamAt (w4.setCell ⟨R0, 0, none⟩ (.int .i64 u)) R0 u x y wd hh) := hC4.at0
    obtain ⟨c0, c1, c2, c3, c4⟩ := hC4
    have hT5 := (HT3.out.keeps hK4 (by omega)).putC (r' := R0) (o := 0) (v := .int .i64 u)
    have HT5 : Hid (There (w4.setCell ⟨R0, 0, none⟩ (.int .i64 u)) w.heap.size 5) := hT5
    have HS5 : Hid (Src a n cap Z s (t + 5 + 1 + 1) (w4.setCell ⟨R0, 0, none⟩ (.int .i64 u))) := hS4.other 0 _ (by omega)
    have HK5 : Hid (Keeps s w (w4.setCell ⟨R0, 0, none⟩ (.int .i64 u))) := (HK3.out.trans hK4).own1 (by omega) 0 _
    obtain ⟨i0, i1, i2, i3, i4⟩ := HC5.out
    have t0 := hT5.cell 0 (by omega)
    have t1 := hT5.cell 1 (by omega)
    have t2 := hT5.cell 2 (by omega)
    have t3 := hT5.cell 3 (by omega)
    have t4 := hT5.cell 4 (by omega)
    have f0 := (hT5 0 (by omega)).2
    have f1 := (hT5 1 (by omega)).2
    have f2 := (hT5 2 (by omega)).2
    have f3 := (hT5 3 (by omega)).2
    have f4 := (hT5 4 (by omega)).2
    clear hT5 hU4 hS4 hK4 HC3 HU3 HS3 HT3 HK3
    go_wp2_with fail
    obtain ⟨q0, q1, q2, q3, q4⟩ := setc5_at (a := .int .i64 u) (b := .int .i64 x) (c := .int .i64 y) (d := .int .i64 wd) (e := .int .i64 hh) HT5.out
    exact bodyPost_ret (v := camV u x y wd hh) (by simp [results, Try.results23, go_sem, q0, q1, q2, q3, q4]) rfl (HE.out _ _ _ _ _ _ _ HC5.out HT5.out HS5.out HK5.out (by omega))
  · by_cases hk1 : k = 1
    · subst hk1
      go_wp2_with fail
      refine (pick2r a n cap Z s _ _ _ _ _ HS3.out hcap (by omega)).mono ?_
      rintro e w4 ⟨u, rfl, hS4, hK4⟩
      have hU4 := HU3.out.keeps hK4 (by omega)
      have fc := (hU4 1 (by omega)).2
      have hC4 := HC3.out.keepsC hK4 (by omega)
      have HC5 : Hid (CamAt (w4.setCell ⟨R0, 1, none⟩ (.int .i64 u)) R0 z u y wd hh) := hC4.at1
      obtain ⟨c0, c1, c2, c3, c4⟩ := hC4
      have hT5 := (HT3.out.keeps hK4 (by omega)).putC (r' := R0) (o := 1) (v := .int .i64 u)
      have HT5 : Hid (There (w4.setCell ⟨R0, 1, none⟩ (.int .i64 u)) w.heap.size 5) := hT5
      have HS5 : Hid (Src a n cap Z s (t + 5 + 1 + 1) (w4.setCell ⟨R0, 1, none⟩ (.int .i64 u))) := hS4.other 1 _ (by omega)
      have HK5 : Hid (Keeps s w (w4.setCell ⟨R0, 1, none⟩ (.int .i64 u))) := (HK3.out.trans hK4).own1 (by omega) 1 _
      obtain ⟨i0, i1, i2, i3, i4⟩ := HC5.out
      have t0 := hT5.cell 0 (by omega)
      have t1 := hT5.cell 1 (by omega)
      have t2 := hT5.cell 2 (by omega)
      have t3 := hT5.cell 3 (by omega)
      have t4 := hT5.cell 4 (by omega)
      have f0 := (hT5 0 (by omega)).2
      have f1 := (hT5 1 (by omega)).2
      have f2 := (hT5 2 (by omega)).2
      have f3 := (hT5 3 (by omega)).2
      have f4 := (hT5 4 (by omega)).2
      clear hT5 hU4 hS4 hK4 HC3 HU3 HS3 HT3 HK3
      go_wp2_with fail
      obtain ⟨q0, q1, q2, q3, q4⟩ := setc5_at (a := .int .i64 z) (b := .int .i64 u) (c := .int .i64 y) (d := .int .i64 wd) (e := .int .i64 hh) HT5.out
      exact bodyPost_ret (v := camV z u y wd hh) (by simp [results, Try.results23, go_sem, q0, q1, q2, q3, q4]) rfl (HE.out _ _ _ _ _ _ _ HC5.out HT5.out HS5.out HK5.out (by omega))
    · by_cases hk2 : k = 2
      · subst hk2
        go_wp2_with fail
        refine (pick2r a n cap Z s _ _ _ _ _ HS3.out hcap (by omega)).mono ?_
        rintro e w4 ⟨u, rfl, hS4, hK4⟩
        have hU4 := HU3.out.keeps hK4 (by omega)
        have fc := (hU4 3 (by omega)).2
        have hC4 := HC3.out.keepsC hK4 (by omega)
        have HC5 : Hid (CamAt (w4.setCell ⟨R0, 3, none⟩ (.int .i64 u)) R0 z x y u hh) := hC4.at3
        obtain ⟨c0, c1, c2, c3, c4⟩ := hC4
        have hT5 := (HT3.out.keeps hK4 (by omega)).putC (r' := R0) (o := 3) (v := .int .i64 u)
        have HT5 : Hid (There (w4.setCell ⟨R0, 3, none⟩ (.int .i64 u)) w.heap.size 5) := hT5
        have HS5 : Hid (Src a n cap Z s (t + 5 + 1 + 1) (w4.setCell ⟨R0, 3, none⟩ (.int .i64 u))) := hS4.other 3 _ (by omega)
        have HK5 : Hid (Keeps s w (w4.setCell ⟨R0, 3, none⟩ (.int .i64 u))) := (HK3.out.trans hK4).own1 (by omega) 3 _
        obtain ⟨i0, i1, i2, i3, i4⟩ := HC5.out
        have t0 := hT5.cell 0 (by omega)
        have t1 := hT5.cell 1 (by omega)
        have t2 := hT5.cell 2 (by omega)
        have t3 := hT5.cell 3 (by omega)
        have t4 := hT5.cell 4 (by omega)
        have f0 := (hT5 0 (by omega)).2
        have f1 := (hT5 1 (by omega)).2
        have f2 := (hT5 2 (by omega)).2
        have f3 := (hT5 3 (by omega)).2
        have f4 := (hT5 4 (by omega)).2
        clear hT5 hU4 hS4 hK4 HC3 HU3 HS3 HT3 HK3
        go_wp2_with fail
        obtain ⟨q0, q1, q2, q3, q4⟩ := setc5_at (a := .int .i64 z) (b := .int .i64 x) (c := .int .i64 y) (d := .int .i64 u) (e := .int .i64 hh) HT5.out
        exact bodyPost_ret (v := camV z x y u hh) (by simp [results, Try.results23, go_sem, q0, q1, q2, q3, q4]) rfl (HE.out _ _ _ _ _ _ _ HC5.out HT5.out HS5.out HK5.out (by omega))
      · have n0 : ((k : Int) == 0) = false := by simp; omega
        have n1 : ((k : Int) == 1) = false := by simp; omega
        have n2 : ((k : Int) == 2) = false := by simp; omega
        obtain ⟨i0, i1, i2, i3, i4⟩ := HC3.out
        have hT5 := HT3.out
        have t0 := hT5.cell 0 (by omega)
        have t1 := hT5.cell 1 (by omega)
        have t2 := hT5.cell 2 (by omega)
        have t3 := hT5.cell 3 (by omega)
        have t4 := hT5.cell 4 (by omega)
        have f0 := (hT5 0 (by omega)).2
        have f1 := (hT5 1 (by omega)).2
        have f2 := (hT5 2 (by omega)).2
        have f3 := (hT5 3 (by omega)).2
        have f4 := (hT5 4 (by omega)).2
        clear hT5
        go_wp2_with fail
        obtain ⟨q0, q1, q2, q3, q4⟩ := setc5_at (a := .int .i64 z) (b := .int .i64 x) (c := .int .i64 y) (d := .int .i64 wd) (e := .int .i64 hh) HT3.out
        exact bodyPost_ret (v := camV z x y wd hh) (by simp [results, Try.results23, go_sem, q0, q1, q2, q3, q4]) rfl (HE.out _ _ _ _ _ _ _ HC3.out HT3.out HS3.out HK3.out (by omega))
end Go.Proofs.Ytfknbijpimpbfaa
