/- What is drawn for PanCamera, SizeCamera and ZoomCamera. -/
import Derived.Test.YtkejjfdfofojoaaDk2
namespace Go.Proofs.Ytkejjfdfofojoaa
open Go.RowKit
set_option linter.unusedSimpArgs false
set_option linter.unusedVariables false
set_option maxRecDepth 100000

set_option maxHeartbeats 8000000 in
theorem DrawPanCamera_any (a : Option Addr) (n cap : Nat) (Z : Nat → Int) (w : World) (h : IsBytes w a n Z) (hrng : ∀ i, 0 ≤ Z i ∧ Z i ≤ 255) (hn : n ≤ 1048576) (hcap : n ≤ cap) :
    Calls Try.prog 9 #[.slice a n cap] w fun e w' => ∃ z x y wd hh p q : Int, e = .returned (.tuple #[camV z x y wd hh, .int .i64 p, .int .i64 q]) ∧ Below w.heap.size w w' := by
  have HI : Hid (IsBytes w a n Z) := h
  have HR : Hid (∀ i, 0 ≤ Z i ∧ Z i ≤ 255) := hrng
  clear h hrng
  go_enter Try.func9, Try.ntmps9
  go_wp2_with fail
  generalize hW : (w.alloc _ : World) = W
  have hB0 : Below w.heap.size w W := by subst hW; (repeat (first | exact Below.refl _ _ | assumption | refine Below.drew ?_ | refine bl_alloc ?_ _ | refine bl_then ?_ (by assumption) | refine Below.setCell ?_ (by first | omega | (simp; done) | (simp; omega)) _ | refine bl_store ?_ ?_ _ _))
  have hlt : w.heap.size < W.heap.size := by subst hW; simp
  have HT : Hid (There W w.heap.size 5) := by
    show There _ _ _
    subst hW
    exact there5c w (.int .i64 0) (.int .i64 0) (.int .i64 0) (.int .i64 0) (.int .i64 0) 25
  clear hW
  have HB0 : Hid (Below w.heap.size w W) := hB0
  have HI1 : Hid (IsBytes W a n Z) := HI.out.below hB0
  clear hB0 HI
  refine (l1Source_ex _ _ _ _).mono ?_
  rintro e w1 ⟨rfl, hw1⟩
  have hS1 : Src a n cap Z W.heap.size 0 w1 := by rw [← hw1]; exact src_start a n cap Z W HI1.out HR.out hn
  have hb1 : Below W.heap.size W w1 := by rw [← hw1]; unfold srcW; (repeat (first | exact Below.refl _ _ | assumption | refine Below.drew ?_ | refine bl_alloc ?_ _ | refine bl_then ?_ (by assumption) | refine Below.setCell ?_ (by first | omega | (simp; done) | (simp; omega)) _ | refine bl_store ?_ ?_ _ _))
  have HS1 : Hid (Src a n cap Z W.heap.size 0 w1) := hS1
  have HK1 : Hid (Keeps W.heap.size W w1) := Keeps.of_below hb1
  clear hw1 hS1 hb1 HI1
  go_wp2_with fail
  refine (l9Bent_any a n cap Z _ 0 _ HS1.out hcap (by omega)).mono ?_
  rintro e w2 ⟨z, x, y, wd, hh, t', rfl, ht', hS2, hK2⟩
  have HS2 : Hid (Src a n cap Z W.heap.size t' w2) := hS2
  have HK2 : Hid (Keeps W.heap.size W w2) := HK1.out.trans hK2
  clear hS2 hK2 HS1 HK1
  go_wp2_with fail
  refine (l1Next_any a n cap Z _ (t') 20 _ HS2.out hcap (by omega) (by omega) (by omega)).mono ?_
  rintro e w3 ⟨v3, rfl, hv3, hS3, hK3⟩
  have HS3 : Hid (Src a n cap Z W.heap.size (t' + 1) w3) := hS3
  have HK3 : Hid (Keeps W.heap.size W w3) := HK2.out.trans hK3
  clear hS3 hK3 HS2 HK2
  go_wp2_with fail
  refine (l1Next_any a n cap Z _ (t' + 1) 20 _ HS3.out hcap (by omega) (by omega) (by omega)).mono ?_
  rintro e w4 ⟨v4, rfl, hv4, hS4, hK4⟩
  have HS4 : Hid (Src a n cap Z W.heap.size (t' + 1 + 1) w4) := hS4
  have HK4 : Hid (Keeps W.heap.size W w4) := HK3.out.trans hK4
  clear hS4 hK4 HS3 HK3
  go_wp2_with fail
  refine (pick5r a n cap Z _ (t' + 1 + 1) _ _ _ _ _ _ _ HS4.out hcap (by omega)).mono ?_
  rintro e w5 ⟨p, rfl, hS5, hK5⟩
  have HS5 : Hid (Src a n cap Z W.heap.size (t' + 1 + 1 + 1) w5) := hS5
  have HK5 : Hid (Keeps W.heap.size W w5) := HK4.out.trans hK5
  clear hS5 hK5 HS4 HK4
  go_wp2_with fail
  refine (l1Next_any a n cap Z _ (t' + 1 + 1 + 1) 20 _ HS5.out hcap (by omega) (by omega) (by omega)).mono ?_
  rintro e w6 ⟨v6, rfl, hv6, hS6, hK6⟩
  have HS6 : Hid (Src a n cap Z W.heap.size (t' + 1 + 1 + 1 + 1) w6) := hS6
  have HK6 : Hid (Keeps W.heap.size W w6) := HK5.out.trans hK6
  clear hS6 hK6 HS5 HK5
  have hT := HT.out.keeps HK6.out (by omega)
  have HTf : Hid (There w6 w.heap.size 5) := hT
  have HBf : Hid (Below w.heap.size w w6) := HB0.out.trans (HK6.out.below (by omega) (by omega))
  have t0 := hT.cell 0 (by omega)
  have t1 := hT.cell 1 (by omega)
  have t2 := hT.cell 2 (by omega)
  have t3 := hT.cell 3 (by omega)
  have t4 := hT.cell 4 (by omega)
  have f0 := (hT 0 (by omega)).2
  have f1 := (hT 1 (by omega)).2
  have f2 := (hT 2 (by omega)).2
  have f3 := (hT 3 (by omega)).2
  have f4 := (hT 4 (by omega)).2
  clear hT
  go_wp2_with fail
  obtain ⟨q0, q1, q2, q3, q4⟩ := setc5_at (a := .int .i64 z) (b := .int .i64 x) (c := .int .i64 y) (d := .int .i64 wd) (e := .int .i64 hh) HTf.out
  refine bodyPost_ret (v := .tuple #[camV z x y wd hh, .int .i64 p, .int .i64 ((v6 : Int) - 10)]) (by simp [results, Try.results9, go_sem, q0, q1, q2, q3, q4]) rfl ⟨z, x, y, wd, hh, p, (v6 : Int) - 10, rfl, ?_⟩
  exact ((((HBf.out.setCell (Nat.le_refl _) _).setCell (Nat.le_refl _) _).setCell (Nat.le_refl _) _).setCell (Nat.le_refl _) _).setCell (Nat.le_refl _) _
set_option maxHeartbeats 8000000 in
theorem DrawSizeCamera_any (a : Option Addr) (n cap : Nat) (Z : Nat → Int) (w : World) (h : IsBytes w a n Z) (hrng : ∀ i, 0 ≤ Z i ∧ Z i ≤ 255) (hn : n ≤ 1048576) (hcap : n ≤ cap) :
    Calls Try.prog 12 #[.slice a n cap] w fun e w' => ∃ z x y wd hh p q : Int, e = .returned (.tuple #[camV z x y wd hh, .int .i64 p, .int .i64 q]) ∧ Below w.heap.size w w' := by
  have HI : Hid (IsBytes w a n Z) := h
  have HR : Hid (∀ i, 0 ≤ Z i ∧ Z i ≤ 255) := hrng
  clear h hrng
  go_enter Try.func12, Try.ntmps12
  go_wp2_with fail
  generalize hW : (w.alloc _ : World) = W
  have hB0 : Below w.heap.size w W := by subst hW; (repeat (first | exact Below.refl _ _ | assumption | refine Below.drew ?_ | refine bl_alloc ?_ _ | refine bl_then ?_ (by assumption) | refine Below.setCell ?_ (by first | omega | (simp; done) | (simp; omega)) _ | refine bl_store ?_ ?_ _ _))
  have hlt : w.heap.size < W.heap.size := by subst hW; simp
  have HT : Hid (There W w.heap.size 5) := by
    show There _ _ _
    subst hW
    exact there5c w (.int .i64 0) (.int .i64 0) (.int .i64 0) (.int .i64 0) (.int .i64 0) 25
  clear hW
  have HB0 : Hid (Below w.heap.size w W) := hB0
  have HI1 : Hid (IsBytes W a n Z) := HI.out.below hB0
  clear hB0 HI
  refine (l1Source_ex _ _ _ _).mono ?_
  rintro e w1 ⟨rfl, hw1⟩
  have hS1 : Src a n cap Z W.heap.size 0 w1 := by rw [← hw1]; exact src_start a n cap Z W HI1.out HR.out hn
  have hb1 : Below W.heap.size W w1 := by rw [← hw1]; unfold srcW; (repeat (first | exact Below.refl _ _ | assumption | refine Below.drew ?_ | refine bl_alloc ?_ _ | refine bl_then ?_ (by assumption) | refine Below.setCell ?_ (by first | omega | (simp; done) | (simp; omega)) _ | refine bl_store ?_ ?_ _ _))
  have HS1 : Hid (Src a n cap Z W.heap.size 0 w1) := hS1
  have HK1 : Hid (Keeps W.heap.size W w1) := Keeps.of_below hb1
  clear hw1 hS1 hb1 HI1
  go_wp2_with fail
  refine (l9Bent_any a n cap Z _ 0 _ HS1.out hcap (by omega)).mono ?_
  rintro e w2 ⟨z, x, y, wd, hh, t', rfl, ht', hS2, hK2⟩
  have HS2 : Hid (Src a n cap Z W.heap.size t' w2) := hS2
  have HK2 : Hid (Keeps W.heap.size W w2) := HK1.out.trans hK2
  clear hS2 hK2 HS1 HK1
  go_wp2_with fail
  refine (l1Next_any a n cap Z _ (t') 10 _ HS2.out hcap (by omega) (by omega) (by omega)).mono ?_
  rintro e w3 ⟨v3, rfl, hv3, hS3, hK3⟩
  have HS3 : Hid (Src a n cap Z W.heap.size (t' + 1) w3) := hS3
  have HK3 : Hid (Keeps W.heap.size W w3) := HK2.out.trans hK3
  clear hS3 hK3 HS2 HK2
  go_wp2_with fail
  refine (l1Next_any a n cap Z _ (t' + 1) 9 _ HS3.out hcap (by omega) (by omega) (by omega)).mono ?_
  rintro e w4 ⟨v4, rfl, hv4, hS4, hK4⟩
  have HS4 : Hid (Src a n cap Z W.heap.size (t' + 1 + 1) w4) := hS4
  have HK4 : Hid (Keeps W.heap.size W w4) := HK3.out.trans hK4
  clear hS4 hK4 HS3 HK3
  have hT := HT.out.keeps HK4.out (by omega)
  have HTf : Hid (There w4 w.heap.size 5) := hT
  have HBf : Hid (Below w.heap.size w w4) := HB0.out.trans (HK4.out.below (by omega) (by omega))
  have t0 := hT.cell 0 (by omega)
  have t1 := hT.cell 1 (by omega)
  have t2 := hT.cell 2 (by omega)
  have t3 := hT.cell 3 (by omega)
  have t4 := hT.cell 4 (by omega)
  have f0 := (hT 0 (by omega)).2
  have f1 := (hT 1 (by omega)).2
  have f2 := (hT 2 (by omega)).2
  have f3 := (hT 3 (by omega)).2
  have f4 := (hT 4 (by omega)).2
  clear hT
  go_wp2_with fail
  obtain ⟨q0, q1, q2, q3, q4⟩ := setc5_at (a := .int .i64 z) (b := .int .i64 x) (c := .int .i64 y) (d := .int .i64 wd) (e := .int .i64 hh) HTf.out
  refine bodyPost_ret (v := .tuple #[camV z x y wd hh, .int .i64 (v3 : Int), .int .i64 (1 + (v4 : Int))]) (by simp [results, Try.results12, go_sem, q0, q1, q2, q3, q4]) rfl ⟨z, x, y, wd, hh, (v3 : Int), 1 + (v4 : Int), rfl, ?_⟩
  exact ((((HBf.out.setCell (Nat.le_refl _) _).setCell (Nat.le_refl _) _).setCell (Nat.le_refl _) _).setCell (Nat.le_refl _) _).setCell (Nat.le_refl _) _
set_option maxHeartbeats 8000000 in
theorem DrawZoomCamera_any (a : Option Addr) (n cap : Nat) (Z : Nat → Int) (w : World) (h : IsBytes w a n Z) (hrng : ∀ i, 0 ≤ Z i ∧ Z i ≤ 255) (hn : n ≤ 1048576) (hcap : n ≤ cap) :
    Calls Try.prog 14 #[.slice a n cap] w fun e w' => ∃ z x y wd hh p : Int, e = .returned (.tuple #[camV z x y wd hh, .int .i64 p]) ∧ Below w.heap.size w w' := by
  have HI : Hid (IsBytes w a n Z) := h
  have HR : Hid (∀ i, 0 ≤ Z i ∧ Z i ≤ 255) := hrng
  clear h hrng
  go_enter Try.func14, Try.ntmps14
  go_wp2_with fail
  generalize hW : (w.alloc _ : World) = W
  have hB0 : Below w.heap.size w W := by subst hW; (repeat (first | exact Below.refl _ _ | assumption | refine Below.drew ?_ | refine bl_alloc ?_ _ | refine bl_then ?_ (by assumption) | refine Below.setCell ?_ (by first | omega | (simp; done) | (simp; omega)) _ | refine bl_store ?_ ?_ _ _))
  have hlt : w.heap.size < W.heap.size := by subst hW; simp
  have HT : Hid (There W w.heap.size 5) := by
    show There _ _ _
    subst hW
    exact there5c w (.int .i64 0) (.int .i64 0) (.int .i64 0) (.int .i64 0) (.int .i64 0) 25
  clear hW
  have HB0 : Hid (Below w.heap.size w W) := hB0
  have HI1 : Hid (IsBytes W a n Z) := HI.out.below hB0
  clear hB0 HI
  refine (l1Source_ex _ _ _ _).mono ?_
  rintro e w1 ⟨rfl, hw1⟩
  have hS1 : Src a n cap Z W.heap.size 0 w1 := by rw [← hw1]; exact src_start a n cap Z W HI1.out HR.out hn
  have hb1 : Below W.heap.size W w1 := by rw [← hw1]; unfold srcW; (repeat (first | exact Below.refl _ _ | assumption | refine Below.drew ?_ | refine bl_alloc ?_ _ | refine bl_then ?_ (by assumption) | refine Below.setCell ?_ (by first | omega | (simp; done) | (simp; omega)) _ | refine bl_store ?_ ?_ _ _))
  have HS1 : Hid (Src a n cap Z W.heap.size 0 w1) := hS1
  have HK1 : Hid (Keeps W.heap.size W w1) := Keeps.of_below hb1
  clear hw1 hS1 hb1 HI1
  go_wp2_with fail
  refine (l9Bent_any a n cap Z _ 0 _ HS1.out hcap (by omega)).mono ?_
  rintro e w2 ⟨z, x, y, wd, hh, t', rfl, ht', hS2, hK2⟩
  have HS2 : Hid (Src a n cap Z W.heap.size t' w2) := hS2
  have HK2 : Hid (Keeps W.heap.size W w2) := HK1.out.trans hK2
  clear hS2 hK2 HS1 HK1
  go_wp2_with fail
  refine (l3Draw_r a n cap Z _ t' _ HS2.out hcap (by omega)).mono ?_
  rintro e w3 ⟨p, rfl, hS3, hK3⟩
  have HS3 : Hid (Src a n cap Z W.heap.size (t' + 1) w3) := hS3
  have HK3 : Hid (Keeps W.heap.size W w3) := HK2.out.trans hK3
  clear hS3 hK3 HS2 HK2
  have hT := HT.out.keeps HK3.out (by omega)
  have HTf : Hid (There w3 w.heap.size 5) := hT
  have HBf : Hid (Below w.heap.size w w3) := HB0.out.trans (HK3.out.below (by omega) (by omega))
  have t0 := hT.cell 0 (by omega)
  have t1 := hT.cell 1 (by omega)
  have t2 := hT.cell 2 (by omega)
  have t3 := hT.cell 3 (by omega)
  have t4 := hT.cell 4 (by omega)
  have f0 := (hT 0 (by omega)).2
  have f1 := (hT 1 (by omega)).2
  have f2 := (hT 2 (by omega)).2
  have f3 := (hT 3 (by omega)).2
  have f4 := (hT 4 (by omega)).2
  clear hT
  go_wp2_with fail
  obtain ⟨q0, q1, q2, q3, q4⟩ := setc5_at (a := .int .i64 z) (b := .int .i64 x) (c := .int .i64 y) (d := .int .i64 wd) (e := .int .i64 hh) HTf.out
  refine bodyPost_ret (v := .tuple #[camV z x y wd hh, .int .i64 p]) (by simp [results, Try.results14, go_sem, q0, q1, q2, q3, q4]) rfl ⟨z, x, y, wd, hh, p, rfl, ?_⟩
  exact ((((HBf.out.setCell (Nat.le_refl _) _).setCell (Nat.le_refl _) _).setCell (Nat.le_refl _) _).setCell (Nat.le_refl _) _).setCell (Nat.le_refl _) _
end Go.Proofs.Ytkejjfdfofojoaa
