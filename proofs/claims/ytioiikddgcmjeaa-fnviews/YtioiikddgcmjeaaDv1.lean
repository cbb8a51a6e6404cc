/- What is drawn for VisibleRefs and IsSeen. -/
import Derived.Test.YtioiikddgcmjeaaDk2
import Derived.Test.YtioiikddgcmjeaaT9
import Derived.Test.YtioiikddgcmjeaaVr4
import Derived.Test.YtioiikddgcmjeaaTake
namespace Go.Proofs.Ytioiikddgcmjeaa
open Go.RowKit
set_option linter.unusedSimpArgs false
set_option linter.unusedVariables false
set_option maxRecDepth 100000

set_option maxHeartbeats 4000000 in
theorem DrawVisibleRefs_any (a : Option Addr) (n cap : Nat) (Z : Nat → Int) (w : World) (h : IsBytes w a n Z) (hrng : ∀ i, 0 ≤ Z i ∧ Z i ≤ 255) (hn : n ≤ 1048576) (hcap : n ≤ cap) :
    Calls Try.prog 7 #[.slice a n cap] w fun e w' => ∃ z x y wd hh : Int, e = .returned (camV z x y wd hh) ∧ Below w.heap.size w w' := by
  have HI : Hid (IsBytes w a n Z) := h
  have HR : Hid (∀ i, 0 ≤ Z i ∧ Z i ≤ 255) := hrng
  clear h hrng
  go_enter Try.func7, Try.ntmps7
  go_wp2_with fail
  generalize hW : (w.alloc _ : World) = W
  have hB0 : Below w.heap.size w W := by subst hW; (repeat (first | exact Below.refl _ _ | assumption | refine Below.drew ?_ | refine bl_alloc ?_ _ | refine bl_then ?_ (by assumption) | refine Below.setCell ?_ (by first | omega | (simp; done) | (simp; omega)) _ | refine bl_store ?_ ?_ _ _))
  have hlt : w.heap.size < W.heap.size := by subst hW; simp
  have HT : Hid (There W w.heap.size 5) := by
    show There _ _ _
    subst hW
    exact there5c w (.int .i64 0) (.int .i64 0) (.int .i64 0) (.int .i64 0) (.int .i64 0) 25
  clear hW
  have HB0 : Hid (Below w.heap.size w W) := hB0
  have HI1 : Hid (IsBytes W a n Z) := HI.out.below hB0
  clear hB0 HI
  refine (l1Source_ex _ _ _ _).mono ?_
  rintro e w1 ⟨rfl, hw1⟩
  have hS1 : Src a n cap Z W.heap.size 0 w1 := by rw [← hw1]; exact src_start a n cap Z W HI1.out HR.out hn
  have hb1 : Below W.heap.size W w1 := by rw [← hw1]; unfold srcW; (repeat (first | exact Below.refl _ _ | assumption | refine Below.drew ?_ | refine bl_alloc ?_ _ | refine bl_then ?_ (by assumption) | refine Below.setCell ?_ (by first | omega | (simp; done) | (simp; omega)) _ | refine bl_store ?_ ?_ _ _))
  have HS1 : Hid (Src a n cap Z W.heap.size 0 w1) := hS1
  have HK1 : Hid (Keeps W.heap.size W w1) := Keeps.of_below hb1
  clear hw1 hS1 hb1 HI1
  go_wp2_with fail
  refine (l9Bent_any a n cap Z _ 0 _ HS1.out hcap (by omega)).mono ?_
  rintro e w2 ⟨z, x, y, wd, hh, t', rfl, ht', hS2, hK2⟩
  have HK2 : Hid (Keeps W.heap.size W w2) := HK1.out.trans hK2
  clear hS2 hK2 HS1 HK1
  have hT := HT.out.keeps HK2.out (by omega)
  have HTf : Hid (There w2 w.heap.size 5) := hT
  have HBf : Hid (Below w.heap.size w w2) := HB0.out.trans (HK2.out.below (by omega) (by omega))
  have t0 := hT.cell 0 (by omega)
  have t1 := hT.cell 1 (by omega)
  have t2 := hT.cell 2 (by omega)
  have t3 := hT.cell 3 (by omega)
  have t4 := hT.cell 4 (by omega)
  have f0 := (hT 0 (by omega)).2
  have f1 := (hT 1 (by omega)).2
  have f2 := (hT 2 (by omega)).2
  have f3 := (hT 3 (by omega)).2
  have f4 := (hT 4 (by omega)).2
  clear hT
  go_wp2_with fail
  obtain ⟨q0, q1, q2, q3, q4⟩ := setc5_at (a := .int .i64 z) (b := .int .i64 x) (c := .int .i64 y) (d := .int .i64 wd) (e := .int .i64 hh) HTf.out
  refine bodyPost_ret (v := camV z x y wd hh) (by simp [results, Try.results7, go_sem, q0, q1, q2, q3, q4]) rfl ⟨z, x, y, wd, hh, rfl, ?_⟩
  exact ((((HBf.out.setCell (Nat.le_refl _) _).setCell (Nat.le_refl _) _).setCell (Nat.le_refl _) _).setCell (Nat.le_refl _) _).setCell (Nat.le_refl _) _
/-- A camera and a ref put where the answer lies. -/
theorem put8 {w W : World} {z x y wd hh rz rx ry : Int} (hT : There W w.heap.size 5) (hU : There W (w.heap.size + 1) 3) (hB : Below w.heap.size w W) :
    CamAt ((((((((W.setCell ⟨w.heap.size, 0, none⟩ (.int .i64 z)).setCell ⟨w.heap.size, 1, none⟩ (.int .i64 x)).setCell ⟨w.heap.size, 2, none⟩ (.int .i64 y)).setCell ⟨w.heap.size, 3, none⟩ (.int .i64 wd)).setCell ⟨w.heap.size, 4, none⟩ (.int .i64 hh)).setCell ⟨w.heap.size + 1, 0, none⟩ (.int .i64 rz)).setCell ⟨w.heap.size + 1, 1, none⟩ (.int .i64 rx)).setCell ⟨w.heap.size + 1, 2, none⟩ (.int .i64 ry)) w.heap.size z x y wd hh ∧
    RefA ((((((((W.setCell ⟨w.heap.size, 0, none⟩ (.int .i64 z)).setCell ⟨w.heap.size, 1, none⟩ (.int .i64 x)).setCell ⟨w.heap.size, 2, none⟩ (.int .i64 y)).setCell ⟨w.heap.size, 3, none⟩ (.int .i64 wd)).setCell ⟨w.heap.size, 4, none⟩ (.int .i64 hh)).setCell ⟨w.heap.size + 1, 0, none⟩ (.int .i64 rz)).setCell ⟨w.heap.size + 1, 1, none⟩ (.int .i64 rx)).setCell ⟨w.heap.size + 1, 2, none⟩ (.int .i64 ry)) (w.heap.size + 1) rz rx ry ∧
    Below w.heap.size w ((((((((W.setCell ⟨w.heap.size, 0, none⟩ (.int .i64 z)).setCell ⟨w.heap.size, 1, none⟩ (.int .i64 x)).setCell ⟨w.heap.size, 2, none⟩ (.int .i64 y)).setCell ⟨w.heap.size, 3, none⟩ (.int .i64 wd)).setCell ⟨w.heap.size, 4, none⟩ (.int .i64 hh)).setCell ⟨w.heap.size + 1, 0, none⟩ (.int .i64 rz)).setCell ⟨w.heap.size + 1, 1, none⟩ (.int .i64 rx)).setCell ⟨w.heap.size + 1, 2, none⟩ (.int .i64 ry)) := by
  have hc : CamAt _ w.heap.size z x y wd hh := setc5_at (a := .int .i64 z) (b := .int .i64 x) (c := .int .i64 y) (d := .int .i64 wd) (e := .int .i64 hh) hT
  refine ⟨((hc.apart (by omega)).apart (by omega)).apart (by omega), RefA.put (((((hU.putV).putV).putV).putV).putV), ?_⟩
  exact (((((((hB.setCell (Nat.le_refl _) _).setCell (Nat.le_refl _) _).setCell (Nat.le_refl _) _).setCell (Nat.le_refl _) _).setCell (Nat.le_refl _) _).setCell (Nat.le_succ _) _).setCell (Nat.le_succ _) _).setCell (Nat.le_succ _) _
set_option maxHeartbeats 2000000 in
theorem DrawIsSeen_any (a : Option Addr) (n cap : Nat) (Z : Nat → Int) (w : World) (h : IsBytes w a n Z) (hrng : ∀ i, 0 ≤ Z i ∧ Z i ≤ 255) (hn : n ≤ 1048576) (hcap : n ≤ cap) :
    Calls Try.prog 13 #[.slice a n cap] w fun e w' => ∃ z x y wd hh rz rx ry : Int, e = .returned (.tuple #[camV z x y wd hh, refV rz rx ry]) ∧ Below w.heap.size w w' := by
  have HI : Hid (IsBytes w a n Z) := h
  have HR : Hid (∀ i, 0 ≤ Z i ∧ Z i ≤ 255) := hrng
  clear h hrng
  go_enter Try.func13, Try.ntmps13
  go_wp2_with fail
  generalize hW : ((w.alloc _).alloc _ : World) = W
  have hB0 : Below w.heap.size w W := by subst hW; (repeat (first | exact Below.refl _ _ | assumption | refine Below.drew ?_ | refine bl_alloc ?_ _ | refine bl_then ?_ (by assumption) | refine Below.setCell ?_ (by first | omega | (simp; done) | (simp; omega)) _ | refine bl_store ?_ ?_ _ _))
  have hlt : w.heap.size + 1 < W.heap.size := by subst hW; simp
  have HT : Hid (There W w.heap.size 5) := by
    show There _ _ _
    subst hW
    exact (there5c w (.int .i64 0) (.int .i64 0) (.int .i64 0) (.int .i64 0) (.int .i64 0) 25).below (by (repeat (first | exact Below.refl _ _ | assumption | refine Below.drew ?_ | refine bl_alloc ?_ _ | refine bl_then ?_ (by assumption) | refine Below.setCell ?_ (by first | omega | (simp; done) | (simp; omega)) _ | refine bl_store ?_ ?_ _ _)))
  have HU : Hid (There W (w.heap.size + 1) 3) := by
    show There _ _ _
    subst hW
    have := there3r (w.alloc (.cells #[.int .i64 0, .int .i64 0, .int .i64 0, .int .i64 0, .int .i64 0] 25)) (.int .i64 0) (.int .i64 0) (.int .i64 0) 34
    simpa using this
  clear hW
  have HB0 : Hid (Below w.heap.size w W) := hB0
  have HI1 : Hid (IsBytes W a n Z) := HI.out.below hB0
  clear hB0 HI
  refine (l1Source_ex _ _ _ _).mono ?_
  rintro e w1 ⟨rfl, hw1⟩
  have hS1 : Src a n cap Z W.heap.size 0 w1 := by rw [← hw1]; exact src_start a n cap Z W HI1.out HR.out hn
  have hb1 : Below W.heap.size W w1 := by rw [← hw1]; unfold srcW; (repeat (first | exact Below.refl _ _ | assumption | refine Below.drew ?_ | refine bl_alloc ?_ _ | refine bl_then ?_ (by assumption) | refine Below.setCell ?_ (by first | omega | (simp; done) | (simp; omega)) _ | refine bl_store ?_ ?_ _ _))
  have HS1 : Hid (Src a n cap Z W.heap.size 0 w1) := hS1
  have HK1 : Hid (Keeps W.heap.size W w1) := Keeps.of_below hb1
  clear hw1 hS1 hb1 HI1
  obtain ⟨s, hs⟩ : ∃ s, W.heap.size = s := ⟨_, rfl⟩
  rw [hs] at HS1 HK1 hlt
  simp only [hs]
  have HWS : Hid (W.heap.size = s) := hs
  clear hs
  go_wp2_with fail
  refine (l9Bent_any a n cap Z _ 0 _ HS1.out hcap (by omega)).mono ?_
  rintro e w2 ⟨z, x, y, wd, hh, t', rfl, ht', hS2, hK2⟩
  have HS2 : Hid (Src a n cap Z s t' w2) := hS2
  have HK2 : Hid (Keeps s W w2) := HK1.out.trans hK2
  have hsl : s < w2.heap.size := World.block_lt_of_cell? _ _ hS2.code
  clear hS2 hK2 HS1 HK1
  go_wp2_with fail
  generalize hW3 : (w2.alloc _ : World) = w3
  have hb3 : Below w2.heap.size w2 w3 := by subst hW3; (repeat (first | exact Below.refl _ _ | assumption | refine Below.drew ?_ | refine bl_alloc ?_ _ | refine bl_then ?_ (by assumption) | refine Below.setCell ?_ (by first | omega | (simp; done) | (simp; omega)) _ | refine bl_store ?_ ?_ _ _))
  obtain ⟨R0, hR0⟩ : ∃ R0, w2.heap.size = R0 := ⟨_, rfl⟩
  have HC3 : Hid (CamAt w3 R0 z x y wd hh) := by show CamAt _ _ _ _ _ _ _; subst hW3; rw [← hR0]; exact camAt_new _ _ _ _ _ _ _
  have HS3 : Hid (Src a n cap Z s t' w3) := HS2.out.below hb3
  have HK3 : Hid (Keeps s W w3) := HK2.out.trans (Keeps.of_below hb3)
  have hr1 : s < R0 := by omega
  simp only [hR0]
  clear hW3 hb3 HS2 HK2 hR0 hsl
  refine (l9Fault_any R0 z x y wd hh _ HC3.out).mono ?_
  rintro e w4 ⟨rfl, hb4⟩
  have HC4 : Hid (CamAt w4 R0 z x y wd hh) := by
    have hB := World.block_lt_of_cell? _ _ HC3.out.1
    exact ⟨(hb4.cell (p := ⟨R0, 0, none⟩) hB).trans HC3.out.1, (hb4.cell (p := ⟨R0, 1, none⟩) hB).trans HC3.out.2.1, (hb4.cell (p := ⟨R0, 2, none⟩) hB).trans HC3.out.2.2.1, (hb4.cell (p := ⟨R0, 3, none⟩) hB).trans HC3.out.2.2.2.1, (hb4.cell (p := ⟨R0, 4, none⟩) hB).trans HC3.out.2.2.2.2⟩
  have HS4 : Hid (Src a n cap Z s t' w4) := HS3.out.below hb4
  have HK4 : Hid (Keeps s W w4) := HK3.out.trans (Keeps.of_below hb4)
  clear hb4 HC3 HS3 HK3
  have HEND : Hid (∀ (w5 : World), Keeps s W w5 → There w5 w.heap.size 5 ∧ There w5 (w.heap.size + 1) 3 ∧ Below w.heap.size w w5) := fun w5 hK => ⟨HT.out.keeps hK (by omega), HU.out.keeps hK (by omega), HB0.out.trans (hK.below (by have := HWS.out; omega) (by have := HWS.out; omega))⟩
  rcases camC_cases z x y wd hh with ⟨hc, hr⟩ | ⟨hc, hr⟩
  · simp only [hc]
    go_wp2_with fail
    refine (l1Chance_any a n cap Z s t' 2 _ HS4.out hcap (by omega) (by omega) (by omega)).mono ?_
    rintro e w5 ⟨c, rfl, hS5, hK5⟩
    have HC5 : Hid (CamAt w5 R0 z x y wd hh) := HC4.out.keepsC hK5 (by omega)
    have HS5 : Hid (Src a n cap Z s (t' + 1) w5) := hS5
    have HK5 : Hid (Keeps s W w5) := HK4.out.trans hK5
    clear hS5 hK5 HC4 HS4 HK4
    cases c
    · go_wp2_with fail
      refine wp_region_noPanic ?_
      refine wp_region_held_drew (S := fun W' => CamAt W' R0 z x y wd hh) (by kernel_rfl) HC5.out (fun hHeld => ?_)
      have hS0 : CamAt w5.drew R0 z x y wd hh := hHeld
      refine takeD (i := 0) (d := some 20) (v := ?va0) rfl rfl (by kernel_rfl) (by kernel_rfl) (by kernel_rfl) (fun _ _ _ h => h) (Or.inl ⟨by rfl, ?hya0⟩) (by assumption) ?_
      case hya0 => (intro w hSw; obtain ⟨s0, s1, s2, s3, s4⟩ := hSw; go_simp <;> with_reducible rfl)
      try simp only [Act.put, List.setIfInBounds_toArray, List.set_cons_zero, List.set_cons_succ]
      refine takeD (i := 1) (d := some 21) (v := ?va1) rfl rfl (by kernel_rfl) (by kernel_rfl) (by kernel_rfl) (fun _ _ _ h => h) (Or.inl ⟨by rfl, ?hya1⟩) (by assumption) ?_
      case hya1 => (intro w hSw; obtain ⟨s0, s1, s2, s3, s4⟩ := hSw; go_simp <;> with_reducible rfl)
      try simp only [Act.put, List.setIfInBounds_toArray, List.set_cons_zero, List.set_cons_succ]
      refine wpAnyH_ready (rs := [2]) (by kernel_rfl) (by simp) ?_
      refine (AllReadyH.cons rfl (fun K hK => ?_) AllReadyH.nil)
      rw [if_pos (by rfl)]
      go_simp
      refine Calls.mono (l7Bent_any a n cap Z s (t' + 1) _ (HS5.out.below (Below.drew (Below.refl _ _))) hcap (by omega)) ?_
      rintro e w6 ⟨rz, rx, ry, t6, rfl, ht6, hS6, hKd⟩
      have hC6 := hS0.keepsC hKd (by omega)
      have hK6' : Keeps s W w6 := HK5.out.trans ⟨hKd.os, hKd.tape, hKd.output, hKd.size, hKd.block⟩
      go_wp2_with fail
      refine hK.out _ _ hC6 (fun hHeld => ?_)
      clear hK K
      try simp only [Act.put, List.setIfInBounds_toArray, List.set_cons_zero, List.set_cons_succ]
      obtain ⟨hT6, hU6, hB6⟩ := HEND.out w6 hK6'
      have HT6 : Hid (There w6 w.heap.size 5) := hT6
      have HU6 : Hid (There w6 (w.heap.size + 1) 3) := hU6
      have t0 := hT6.cell 0 (by omega)
      have t1 := hT6.cell 1 (by omega)
      have t2 := hT6.cell 2 (by omega)
      have t3 := hT6.cell 3 (by omega)
      have t4 := hT6.cell 4 (by omega)
      have f0 := (hT6 0 (by omega)).2
      have f1 := (hT6 1 (by omega)).2
      have f2 := (hT6 2 (by omega)).2
      have f3 := (hT6 3 (by omega)).2
      have f4 := (hT6 4 (by omega)).2
      have ut0 := hU6.cell 0 (by omega)
      have ut1 := hU6.cell 1 (by omega)
      have ut2 := hU6.cell 2 (by omega)
      have uf0 := (hU6 0 (by omega)).2
      have uf1 := (hU6 1 (by omega)).2
      have uf2 := (hU6 2 (by omega)).2
      clear hT6 hU6
      refine wpAnyH_ready (rs := [3]) (by kernel_rfl) (by simp) ?_
      refine (AllReadyH.cons rfl (fun K hK => ?_) AllReadyH.nil)
      rw [if_pos (by rfl)]
      go_simp
      refine hK.out _ _ (((((hC6.apart (by omega)).apart (by omega)).apart (by omega)).apart (by omega)).apart (by omega)) (fun hHeld => ?_)
      clear hK K
      try simp only [Act.put, List.setIfInBounds_toArray, List.set_cons_zero, List.set_cons_succ]
      refine wpAnyH_ready (rs := [4]) (by kernel_rfl) (by simp) ?_
      refine (AllReadyH.cons rfl (fun K hK => ?_) AllReadyH.nil)
      rw [if_pos (by rfl)]
      go_simp
      refine hK.out _ _ ((((((((hC6.apart (by omega)).apart (by omega)).apart (by omega)).apart (by omega)).apart (by omega)).apart (by omega)).apart (by omega)).apart (by omega)) (fun hHeld => ?_)
      clear hK K
      try simp only [Act.put, List.setIfInBounds_toArray, List.set_cons_zero, List.set_cons_succ]
      refine wpAnyH_done (by kernel_rfl) ?_ _
      refine NoPanic.normal ?_
      go_wp2_with fail
      obtain ⟨⟨q0, q1, q2, q3, q4⟩, ⟨p0, p1, p2⟩, hBf⟩ := put8 (z := z) (x := x) (y := y) (wd := wd) (hh := hh) (rz := rz) (rx := rx) (ry := ry) HT6.out HU6.out hB6
      exact bodyPost_ret (v := .tuple #[camV z x y wd hh, refV rz rx ry]) (by simp [results, Try.results13, go_sem, q0, q1, q2, q3, q4, p0, p1, p2]) rfl ⟨z, x, y, wd, hh, rz, rx, ry, rfl, hBf⟩
    · go_wp2_with fail
      have HM : Hid (1 ≤ visM z x y wd hh ∧ visM z x y wd hh ≤ 4) := by
        have hin := camB_in hr
        have h1 := visN_bd (x := x) hin.1.1
        have h2 := visN_bd (x := y) hin.1.2
        refine ⟨?_, visM_le _ _ _ _ _⟩
        unfold visM
        rw [if_pos hr]
        exact Nat.mul_le_mul h2.1 h1.1
      have HLR : Hid (∀ W, CamAt W R0 z x y wd hh → Calls Try.prog 27 #[.pointer (some ⟨R0, 0, none⟩)] W fun e w' => ∃ v, e = .returned v ∧ RowT W.heap.size w' v (visM z x y wd hh) (visR z x y wd) ∧ Below W.heap.size W w') := fun W hA => l9Refs_any R0 W hA hr
      generalize visM z x y wd hh = M at *
      generalize visR z x y wd = R at *
      have hM1 : (0 : Int) < (M : Int) := by have := HM.out; omega
      refine wp_region_noPanic ?_
      refine wp_region_held_drew (S := fun W' => CamAt W' R0 z x y wd hh) (by kernel_rfl) HC5.out (fun hHeld => ?_)
      have hS0 : CamAt w5.drew R0 z x y wd hh := hHeld
      refine takeD (i := 0) (d := some 16) (v := ?vb0) rfl rfl (by kernel_rfl) (by kernel_rfl) (by kernel_rfl) (fun _ _ _ h => h) (Or.inl ⟨by rfl, ?hyb0⟩) (by assumption) ?_
      case hyb0 => (intro w hSw; obtain ⟨s0, s1, s2, s3, s4⟩ := hSw; go_simp <;> with_reducible rfl)
      try simp only [Act.put, List.setIfInBounds_toArray, List.set_cons_zero, List.set_cons_succ]
      refine wpAnyH_ready (rs := [1]) (by kernel_rfl) (by simp) ?_
      refine (AllReadyH.cons rfl (fun K hK => ?_) AllReadyH.nil)
      rw [if_pos (by rfl)]
      go_simp
      refine Calls.mono (HLR.out _ hS0) ?_
      rintro e w6 ⟨v6, rfl, hO6, hbd⟩
      have hb6 : Below w5.heap.size w5 w6 := ⟨hbd.os, hbd.tape, hbd.output, hbd.size, hbd.block⟩
      have hC6 : CamAt w6 R0 z x y wd hh := by
        have hB := World.block_lt_of_cell? _ _ HC5.out.1
        exact ⟨(hb6.cell (p := ⟨R0, 0, none⟩) hB).trans HC5.out.1, (hb6.cell (p := ⟨R0, 1, none⟩) hB).trans HC5.out.2.1, (hb6.cell (p := ⟨R0, 2, none⟩) hB).trans HC5.out.2.2.1, (hb6.cell (p := ⟨R0, 3, none⟩) hB).trans HC5.out.2.2.2.1, (hb6.cell (p := ⟨R0, 4, none⟩) hB).trans HC5.out.2.2.2.2⟩
      have hK6' : Keeps s W w6 := HK5.out.trans (Keeps.of_below hb6)
      obtain ⟨a6, cap6, hv6, _, hcase⟩ := hO6.own
      rcases hcase with h0 | ⟨g6, ha6, hgb, hg6, hR6, _⟩
      · exfalso; have := HM.out; omega
      subst hv6 ha6
      obtain ⟨x0, x1, x2⟩ := hR6 0 (by omega)
      simp only [Nat.zero_mul, Nat.add_zero, Nat.zero_add] at x0 x1 x2
      obtain ⟨rz, hrz⟩ : ∃ rz, R.z 0 = rz := ⟨_, rfl⟩
      obtain ⟨rx, hrx⟩ : ∃ rx, R.x 0 = rx := ⟨_, rfl⟩
      obtain ⟨ry, hry⟩ : ∃ ry, R.y 0 = ry := ⟨_, rfl⟩
      rw [hrz] at x0
      rw [hrx] at x1
      rw [hry] at x2
      clear hO6 hR6 hrz hrx hry
      go_wp2_with fail
      refine hK.out _ _ hC6 (fun hHeld => ?_)
      clear hK K
      try simp only [Act.put, List.setIfInBounds_toArray, List.set_cons_zero, List.set_cons_succ]
      obtain ⟨hT6, hU6, hB6⟩ := HEND.out w6 hK6'
      have HT6 : Hid (There w6 w.heap.size 5) := hT6
      have HU6 : Hid (There w6 (w.heap.size + 1) 3) := hU6
      have t0 := hT6.cell 0 (by omega)
      have t1 := hT6.cell 1 (by omega)
      have t2 := hT6.cell 2 (by omega)
      have t3 := hT6.cell 3 (by omega)
      have t4 := hT6.cell 4 (by omega)
      have f0 := (hT6 0 (by omega)).2
      have f1 := (hT6 1 (by omega)).2
      have f2 := (hT6 2 (by omega)).2
      have f3 := (hT6 3 (by omega)).2
      have f4 := (hT6 4 (by omega)).2
      have ut0 := hU6.cell 0 (by omega)
      have ut1 := hU6.cell 1 (by omega)
      have ut2 := hU6.cell 2 (by omega)
      have uf0 := (hU6 0 (by omega)).2
      have uf1 := (hU6 1 (by omega)).2
      have uf2 := (hU6 2 (by omega)).2
      clear hT6 hU6
      have hgl : w.heap.size + 1 < g6 := by
        have h1 := World.block_lt_of_cell? _ _ HC5.out.1
        have h2 : R0 < w5.heap.size := h1
        have h3 : w5.heap.size ≤ g6 := hgb
        omega
      have hne1 : ¬ (w.heap.size = g6) := by omega
      have hne2 : ¬ (g6 = w.heap.size) := by omega
      have hAX : RefA w6 g6 rz rx ry := ⟨x0, x1, x2⟩
      have hY : Hid (RefA (((((w6.setCell ⟨w.heap.size, 0, none⟩ (.int .i64 z)).setCell ⟨w.heap.size, 1, none⟩ (.int .i64 x)).setCell ⟨w.heap.size, 2, none⟩ (.int .i64 y)).setCell ⟨w.heap.size, 3, none⟩ (.int .i64 wd)).setCell ⟨w.heap.size, 4, none⟩ (.int .i64 hh)) g6 rz rx ry) := ((((hAX.apart hne1).apart hne1).apart hne1).apart hne1).apart hne1
      clear hAX
      refine wpAnyH_ready (rs := [2, 4]) (by kernel_rfl) (by simp) ?_
      refine (AllReadyH.cons rfl (fun K hK => ?_) (AllReadyH.cons rfl (fun K hK => ?_) AllReadyH.nil))
      ·   skip
          rw [if_pos (by rfl)]
          go_simp
          rw [if_pos (show 0 < M by omega)]
          go_simp
          refine hK.out _ _ hC6 (fun hHeld => ?_)
          clear hK K
          try simp only [Act.put, List.setIfInBounds_toArray, List.set_cons_zero, List.set_cons_succ]
          refine wpAnyH_ready (rs := [3, 4]) (by kernel_rfl) (by simp) ?_
          refine (AllReadyH.cons rfl (fun K hK => ?_) (AllReadyH.cons rfl (fun K hK => ?_) AllReadyH.nil))
          ·   skip
              rw [if_pos (by rfl)]
              go_simp
              refine hK.out _ _ hC6 (fun hHeld => ?_)
              clear hK K
              try simp only [Act.put, List.setIfInBounds_toArray, List.set_cons_zero, List.set_cons_succ]
              refine wpAnyH_ready (rs := [4]) (by kernel_rfl) (by simp) ?_
              refine (AllReadyH.cons rfl (fun K hK => ?_) AllReadyH.nil)
              rw [if_pos (by rfl)]
              go_simp
              refine hK.out _ _ (((((hC6.apart (by omega)).apart (by omega)).apart (by omega)).apart (by omega)).apart (by omega)) (fun hHeld => ?_)
              clear hK K
              try simp only [Act.put, List.setIfInBounds_toArray, List.set_cons_zero, List.set_cons_succ]
              refine wpAnyH_ready (rs := [5]) (by kernel_rfl) (by simp) ?_
              refine (AllReadyH.cons rfl (fun K hK => ?_) AllReadyH.nil)
              rw [if_pos (by rfl)]
              go_simp
              refine hK.out _ _ ((((((((hC6.apart (by omega)).apart (by omega)).apart (by omega)).apart (by omega)).apart (by omega)).apart (by omega)).apart (by omega)).apart (by omega)) (fun hHeld => ?_)
              clear hK K
              try simp only [Act.put, List.setIfInBounds_toArray, List.set_cons_zero, List.set_cons_succ]
              refine wpAnyH_done (by kernel_rfl) ?_ _
              refine NoPanic.normal ?_
              go_wp2_with fail
              obtain ⟨⟨q0, q1, q2, q3, q4⟩, ⟨p0, p1, p2⟩, hBf⟩ := put8 (z := z) (x := x) (y := y) (wd := wd) (hh := hh) (rz := rz) (rx := rx) (ry := ry) HT6.out HU6.out hB6
              exact bodyPost_ret (v := .tuple #[camV z x y wd hh, refV rz rx ry]) (by simp [results, Try.results13, go_sem, q0, q1, q2, q3, q4, p0, p1, p2]) rfl ⟨z, x, y, wd, hh, rz, rx, ry, rfl, hBf⟩
          ·   skip
              rw [if_pos (by rfl)]
              go_simp
              refine hK.out _ _ (((((hC6.apart (by omega)).apart (by omega)).apart (by omega)).apart (by omega)).apart (by omega)) (fun hHeld => ?_)
              clear hK K
              try simp only [Act.put, List.setIfInBounds_toArray, List.set_cons_zero, List.set_cons_succ]
              refine wpAnyH_ready (rs := [3]) (by kernel_rfl) (by simp) ?_
              refine (AllReadyH.cons rfl (fun K hK => ?_) AllReadyH.nil)
              have y0 := hY.out.1
              have y1 := hY.out.2.1
              have y2 := hY.out.2.2
              rw [if_pos (by rfl)]
              go_simp
              refine hK.out _ _ (((((hC6.apart (by omega)).apart (by omega)).apart (by omega)).apart (by omega)).apart (by omega)) (fun hHeld => ?_)
              clear hK K
              try simp only [Act.put, List.setIfInBounds_toArray, List.set_cons_zero, List.set_cons_succ]
              refine wpAnyH_ready (rs := [5]) (by kernel_rfl) (by simp) ?_
              refine (AllReadyH.cons rfl (fun K hK => ?_) AllReadyH.nil)
              rw [if_pos (by rfl)]
              go_simp
              refine hK.out _ _ ((((((((hC6.apart (by omega)).apart (by omega)).apart (by omega)).apart (by omega)).apart (by omega)).apart (by omega)).apart (by omega)).apart (by omega)) (fun hHeld => ?_)
              clear hK K
              try simp only [Act.put, List.setIfInBounds_toArray, List.set_cons_zero, List.set_cons_succ]
              refine wpAnyH_done (by kernel_rfl) ?_ _
              refine NoPanic.normal ?_
              go_wp2_with fail
              obtain ⟨⟨q0, q1, q2, q3, q4⟩, ⟨p0, p1, p2⟩, hBf⟩ := put8 (z := z) (x := x) (y := y) (wd := wd) (hh := hh) (rz := rz) (rx := rx) (ry := ry) HT6.out HU6.out hB6
              exact bodyPost_ret (v := .tuple #[camV z x y wd hh, refV rz rx ry]) (by simp [results, Try.results13, go_sem, q0, q1, q2, q3, q4, p0, p1, p2]) rfl ⟨z, x, y, wd, hh, rz, rx, ry, rfl, hBf⟩
      ·   skip
          rw [if_pos (by rfl)]
          go_simp
          refine hK.out _ _ (((((hC6.apart (by omega)).apart (by omega)).apart (by omega)).apart (by omega)).apart (by omega)) (fun hHeld => ?_)
          clear hK K
          try simp only [Act.put, List.setIfInBounds_toArray, List.set_cons_zero, List.set_cons_succ]
          refine wpAnyH_ready (rs := [2]) (by kernel_rfl) (by simp) ?_
          refine (AllReadyH.cons rfl (fun K hK => ?_) AllReadyH.nil)
          rw [if_pos (by rfl)]
          go_simp
          rw [if_pos (show 0 < M by omega)]
          go_simp
          refine hK.out _ _ (((((hC6.apart (by omega)).apart (by omega)).apart (by omega)).apart (by omega)).apart (by omega)) (fun hHeld => ?_)
          clear hK K
          try simp only [Act.put, List.setIfInBounds_toArray, List.set_cons_zero, List.set_cons_succ]
          refine wpAnyH_ready (rs := [3]) (by kernel_rfl) (by simp) ?_
          refine (AllReadyH.cons rfl (fun K hK => ?_) AllReadyH.nil)
          have y0 := hY.out.1
          have y1 := hY.out.2.1
          have y2 := hY.out.2.2
          rw [if_pos (by rfl)]
          go_simp
          refine hK.out _ _ (((((hC6.apart (by omega)).apart (by omega)).apart (by omega)).apart (by omega)).apart (by omega)) (fun hHeld => ?_)
          clear hK K
          try simp only [Act.put, List.setIfInBounds_toArray, List.set_cons_zero, List.set_cons_succ]
          refine wpAnyH_ready (rs := [5]) (by kernel_rfl) (by simp) ?_
          refine (AllReadyH.cons rfl (fun K hK => ?_) AllReadyH.nil)
          rw [if_pos (by rfl)]
          go_simp
          refine hK.out _ _ ((((((((hC6.apart (by omega)).apart (by omega)).apart (by omega)).apart (by omega)).apart (by omega)).apart (by omega)).apart (by omega)).apart (by omega)) (fun hHeld => ?_)
          clear hK K
          try simp only [Act.put, List.setIfInBounds_toArray, List.set_cons_zero, List.set_cons_succ]
          refine wpAnyH_done (by kernel_rfl) ?_ _
          refine NoPanic.normal ?_
          go_wp2_with fail
          obtain ⟨⟨q0, q1, q2, q3, q4⟩, ⟨p0, p1, p2⟩, hBf⟩ := put8 (z := z) (x := x) (y := y) (wd := wd) (hh := hh) (rz := rz) (rx := rx) (ry := ry) HT6.out HU6.out hB6
          exact bodyPost_ret (v := .tuple #[camV z x y wd hh, refV rz rx ry]) (by simp [results, Try.results13, go_sem, q0, q1, q2, q3, q4, p0, p1, p2]) rfl ⟨z, x, y, wd, hh, rz, rx, ry, rfl, hBf⟩
  · simp only [hc]
    go_wp2_with fail
    refine wp_region_noPanic ?_
    refine wp_region_held_drew (S := fun W' => CamAt W' R0 z x y wd hh) (by kernel_rfl) HC4.out (fun hHeld => ?_)
    have hS0 : CamAt w4.drew R0 z x y wd hh := hHeld
    refine takeD (i := 0) (d := some 20) (v := ?vc0) rfl rfl (by kernel_rfl) (by kernel_rfl) (by kernel_rfl) (fun _ _ _ h => h) (Or.inl ⟨by rfl, ?hyc0⟩) (by assumption) ?_
    case hyc0 => (intro w hSw; obtain ⟨s0, s1, s2, s3, s4⟩ := hSw; go_simp <;> with_reducible rfl)
    try simp only [Act.put, List.setIfInBounds_toArray, List.set_cons_zero, List.set_cons_succ]
    refine takeD (i := 1) (d := some 21) (v := ?vc1) rfl rfl (by kernel_rfl) (by kernel_rfl) (by kernel_rfl) (fun _ _ _ h => h) (Or.inl ⟨by rfl, ?hyc1⟩) (by assumption) ?_
    case hyc1 => (intro w hSw; obtain ⟨s0, s1, s2, s3, s4⟩ := hSw; go_simp <;> with_reducible rfl)
    try simp only [Act.put, List.setIfInBounds_toArray, List.set_cons_zero, List.set_cons_succ]
    refine wpAnyH_ready (rs := [2]) (by kernel_rfl) (by simp) ?_
    refine (AllReadyH.cons rfl (fun K hK => ?_) AllReadyH.nil)
    rw [if_pos (by rfl)]
    go_simp
    refine Calls.mono (l7Bent_any a n cap Z s t' _ (HS4.out.below (Below.drew (Below.refl _ _))) hcap (by omega)) ?_
    rintro e w6 ⟨rz, rx, ry, t6, rfl, ht6, hS6, hKd⟩
    have hC6 := hS0.keepsC hKd (by omega)
    have hK6' : Keeps s W w6 := HK4.out.trans ⟨hKd.os, hKd.tape, hKd.output, hKd.size, hKd.block⟩
    go_wp2_with fail
    refine hK.out _ _ hC6 (fun hHeld => ?_)
    clear hK K
    try simp only [Act.put, List.setIfInBounds_toArray, List.set_cons_zero, List.set_cons_succ]
    obtain ⟨hT6, hU6, hB6⟩ := HEND.out w6 hK6'
    have HT6 : Hid (There w6 w.heap.size 5) := hT6
    have HU6 : Hid (There w6 (w.heap.size + 1) 3) := hU6
    have t0 := hT6.cell 0 (by omega)
    have t1 := hT6.cell 1 (by omega)
    have t2 := hT6.cell 2 (by omega)
    have t3 := hT6.cell 3 (by omega)
    have t4 := hT6.cell 4 (by omega)
    have f0 := (hT6 0 (by omega)).2
    have f1 := (hT6 1 (by omega)).2
    have f2 := (hT6 2 (by omega)).2
    have f3 := (hT6 3 (by omega)).2
    have f4 := (hT6 4 (by omega)).2
    have ut0 := hU6.cell 0 (by omega)
    have ut1 := hU6.cell 1 (by omega)
    have ut2 := hU6.cell 2 (by omega)
    have uf0 := (hU6 0 (by omega)).2
    have uf1 := (hU6 1 (by omega)).2
    have uf2 := (hU6 2 (by omega)).2
    clear hT6 hU6
    refine wpAnyH_ready (rs := [3]) (by kernel_rfl) (by simp) ?_
    refine (AllReadyH.cons rfl (fun K hK => ?_) AllReadyH.nil)
    rw [if_pos (by rfl)]
    go_simp
    refine hK.out _ _ (((((hC6.apart (by omega)).apart (by omega)).apart (by omega)).apart (by omega)).apart (by omega)) (fun hHeld => ?_)
    clear hK K
    try simp only [Act.put, List.setIfInBounds_toArray, List.set_cons_zero, List.set_cons_succ]
    refine wpAnyH_ready (rs := [4]) (by kernel_rfl) (by simp) ?_
    refine (AllReadyH.cons rfl (fun K hK => ?_) AllReadyH.nil)
    rw [if_pos (by rfl)]
    go_simp
    refine hK.out _ _ ((((((((hC6.apart (by omega)).apart (by omega)).apart (by omega)).apart (by omega)).apart (by omega)).apart (by omega)).apart (by omega)).apart (by omega)) (fun hHeld => ?_)
    clear hK K
    try simp only [Act.put, List.setIfInBounds_toArray, List.set_cons_zero, List.set_cons_succ]
    refine wpAnyH_done (by kernel_rfl) ?_ _
    refine NoPanic.normal ?_
    go_wp2_with fail
    obtain ⟨⟨q0, q1, q2, q3, q4⟩, ⟨p0, p1, p2⟩, hBf⟩ := put8 (z := z) (x := x) (y := y) (wd := wd) (hh := hh) (rz := rz) (rx := rx) (ry := ry) HT6.out HU6.out hB6
    exact bodyPost_ret (v := .tuple #[camV z x y wd hh, refV rz rx ry]) (by simp [results, Try.results13, go_sem, q0, q1, q2, q3, q4, p0, p1, p2]) rfl ⟨z, x, y, wd, hh, rz, rx, ry, rfl, hBf⟩
end Go.Proofs.Ytioiikddgcmjeaa
