/- Cameras of the model: moved, of another size. -/
import Derived.Test.YtkejjfdfofojoaaCs2
namespace Go.Proofs.Ytkejjfdfofojoaa
open Go.RowKit
set_option linter.unusedSimpArgs false
set_option linter.unusedVariables false
set_option maxRecDepth 100000

theorem CamAt.belowA {w w' : World} {b : Nat} {z x y wd ht : Int} (h : CamAt w b z x y wd ht) (hb : Below w.heap.size w w') : CamAt w' b z x y wd ht := by
  have hB := World.block_lt_of_cell? _ _ h.1
  exact ⟨(hb.cell (p := ⟨b, 0, none⟩) hB).trans h.1, (hb.cell (p := ⟨b, 1, none⟩) hB).trans h.2.1, (hb.cell (p := ⟨b, 2, none⟩) hB).trans h.2.2.1, (hb.cell (p := ⟨b, 3, none⟩) hB).trans h.2.2.2.1, (hb.cell (p := ⟨b, 4, none⟩) hB).trans h.2.2.2.2⟩
theorem spec_CameraFault_any (z x y wd ht : Int) (w : World) : Calls Try.prog 19 #[camV z x y wd ht] w fun e w' => e = .returned (.int .i64 (camC z x y wd ht)) ∧ Below w.heap.size w w' := by
  go_enter Try.func19, Try.ntmps19
  go_wp2_with fail
  refine (l9Fault_any w.heap.size z x y wd ht _ ⟨by simp [go_sem], by simp [go_sem], by simp [go_sem], by simp [go_sem], by simp [go_sem]⟩).mono ?_
  rintro e w1 ⟨rfl, hb1⟩
  go_wp2
  go_ret
  exact ⟨rfl, by (repeat (first | exact Below.refl _ _ | assumption | refine Below.drew ?_ | refine bl_alloc ?_ _ | refine bl_then ?_ (by assumption) | refine Below.setCell ?_ (by first | omega | (simp; done) | (simp; omega)) _ | refine bl_store ?_ ?_ _ _))⟩
theorem impl_CameraFault_any (z x y wd ht : Int) (w : World) : Calls Try.prog 18 #[camV z x y wd ht] w fun e w' => e = .returned (.int .i64 (camC z x y wd ht)) ∧ Below w.heap.size w w' := by
  go_enter Try.func18, Try.ntmps18
  go_wp2_with (go_at_call 26; refine (camFault_any _ _ _ _ _ _).mono ?_; rintro e w1 ⟨rfl, hb1⟩)
  go_ret
  exact ⟨rfl, by (repeat (first | exact Below.refl _ _ | assumption | refine Below.drew ?_ | refine bl_alloc ?_ _ | refine bl_then ?_ (by assumption) | refine Below.setCell ?_ (by first | omega | (simp; done) | (simp; omega)) _ | refine bl_store ?_ ?_ _ _))⟩
set_option maxHeartbeats 8000000 in
theorem spec_PanCamera_any (z x y wd ht a b : Int) (w : World) : Calls Try.prog 11 #[camV z x y wd ht, .int .i64 a, .int .i64 b] w fun e w' => e = .returned (panV z x y wd ht a b) ∧ Below w.heap.size w w' := by
  have hp : Hid (panV z x y wd ht a b = if camB z x y wd ht = true then (if (inB a (-100) 100 && inB b (-100) 100) = true then crV 0 z (heldI (x + a) (pixI z - wd)) (heldI (y + b) (pixI z - ht)) wd ht else crV 3 0 0 0 0 0) else crV 3 0 0 0 0 0) := rfl
  go_enter Try.func11, Try.ntmps11
  go_wp2_with fail
  generalize hW : ((w.alloc _).alloc _ : World) = W
  have HB0 : Hid (Below w.heap.size w W) := by show Below _ _ _; subst hW; (repeat (first | exact Below.refl _ _ | assumption | refine Below.drew ?_ | refine bl_alloc ?_ _ | refine bl_then ?_ (by assumption) | refine Below.setCell ?_ (by first | omega | (simp; done) | (simp; omega)) _ | refine bl_store ?_ ?_ _ _))
  have HT : Hid (There W (w.heap.size + 1) 6) := by
    show There _ _ _
    subst hW
    have := there6c (w.alloc (.cells #[.int .i64 z, .int .i64 x, .int .i64 y, .int .i64 wd, .int .i64 ht] 25)) (.int .i64 0) (.int .i64 0) (.int .i64 0) (.int .i64 0) (.int .i64 0) (.int .i64 0) 29
    simpa using this
  have hC : There W w.heap.size 5 := by
    subst hW
    exact (there5c w (.int .i64 z) (.int .i64 x) (.int .i64 y) (.int .i64 wd) (.int .i64 ht) 25).below (by (repeat (first | exact Below.refl _ _ | assumption | refine Below.drew ?_ | refine bl_alloc ?_ _ | refine bl_then ?_ (by assumption) | refine Below.setCell ?_ (by first | omega | (simp; done) | (simp; omega)) _ | refine bl_store ?_ ?_ _ _)))
  have HC : Hid (There W w.heap.size 5) := hC
  have hc : CamAt W w.heap.size z x y wd ht := by subst hW; exact ⟨by simp [go_sem], by simp [go_sem], by simp [go_sem], by simp [go_sem], by simp [go_sem]⟩
  have HA : Hid (CamAt W w.heap.size z x y wd ht) := hc
  clear hW hC hc
  refine (l9Fault_any w.heap.size z x y wd ht _ HA.out).mono ?_
  rintro e w1 ⟨rfl, hb1⟩
  have HT1 : Hid (There w1 (w.heap.size + 1) 6) := HT.out.below hb1
  have HC1 : Hid (There w1 w.heap.size 5) := HC.out.below hb1
  have HB1 : Hid (Below w.heap.size w w1) := bl_then HB0.out hb1
  have hA1 : CamAt w1 w.heap.size z x y wd ht := HA.out.belowA hb1
  clear hb1 HT HB0 HC HA
  have hC1 := HC1.out
  have hT1 := HT1.out
  obtain ⟨e0, e1, e2, e3, e4⟩ := hA1
  have g0 := (hC1 0 (by omega)).2
  have g1 := (hC1 1 (by omega)).2
  have g2 := (hC1 2 (by omega)).2
  have g3 := (hC1 3 (by omega)).2
  have g4 := (hC1 4 (by omega)).2
  have t0 := hT1.cell 0 (by omega)
  have t1 := hT1.cell 1 (by omega)
  have t2 := hT1.cell 2 (by omega)
  have t3 := hT1.cell 3 (by omega)
  have t4 := hT1.cell 4 (by omega)
  have t5 := hT1.cell 5 (by omega)
  have f0 := (hT1 0 (by omega)).2
  have f1 := (hT1 1 (by omega)).2
  have f2 := (hT1 2 (by omega)).2
  have f3 := (hT1 3 (by omega)).2
  have f4 := (hT1 4 (by omega)).2
  have f5 := (hT1 5 (by omega)).2
  clear hC1 hT1
  rcases camC_cases z x y wd ht with ⟨hc, hr⟩ | ⟨hc, hr⟩
  · simp only [hc]
    cases hd : (inB a (-100) 100 && inB b (-100) 100)
    · have hq : Hid (panV z x y wd ht a b = crV 3 0 0 0 0 0) := by show _ = _; rw [hp.out, hd]; simp [hr]
      clear hr hc hp
      cases h1 : inB a (-100) 100 <;> cases h2 : inB b (-100) 100
      all_goals first | (rw [h1, h2] at hd; cases hd; done) | skip
      all_goals
        clear hd
        go_wp2_with (go_at_call 32; refine (l1In_any _ _ _ _).mono ?_; rintro e w1 ⟨rfl, rfl⟩)
        obtain ⟨q0, q1, q2, q3, q4, q5⟩ := setc6_at (a := .int .i64 3) (b := .int .i64 0) (c := .int .i64 0) (d := .int .i64 0) (e := .int .i64 0) (f := .int .i64 0) HT1.out
        exact bodyPost_ret (v := crV 3 0 0 0 0 0) (by simp [results, Try.results11, go_sem, q0, q1, q2, q3, q4, q5]) rfl ⟨by rw [hq.out], below6 HB1.out (Nat.le_succ _)⟩
    · have hq : Hid (panV z x y wd ht a b = crV 0 z (heldI (x + a) (pixI z - wd)) (heldI (y + b) (pixI z - ht)) wd ht) := by show _ = _; rw [hp.out, hd]; simp [hr]
      have hz := camB_zoom hr
      have hi := camB_in hr
      have hn := pixI_bd hz
      simp only [Bool.and_eq_true] at hd
      obtain ⟨h1, h2⟩ := hd
      have g1' : -100 ≤ a ∧ a ≤ 100 := by simpa [inB] using h1
      have g2' : -100 ≤ b ∧ b ≤ 100 := by simpa [inB] using h2
      have sA := fun w => l9Hold_any z (x + a) (y + b) wd ht w hz hi.1.1 hi.1.2
      generalize heldI (x + a) (pixI z - wd) = hx at *
      generalize heldI (y + b) (pixI z - ht) = hy at *
      clear hr hc hp hz
      go_wp2_with (go_at_call 32; refine (l1In_any _ _ _ _).mono ?_; rintro e w1 ⟨rfl, rfl⟩)
      have HB2 : Hid (Below w.heap.size w ((w1.setCell ⟨w.heap.size, 1, none⟩ (.int .i64 (x + a))).setCell ⟨w.heap.size, 2, none⟩ (.int .i64 (y + b)))) := (HB1.out.setCell (Nat.le_refl _) _).setCell (Nat.le_refl _) _
      have HT2 : Hid (There ((w1.setCell ⟨w.heap.size, 1, none⟩ (.int .i64 (x + a))).setCell ⟨w.heap.size, 2, none⟩ (.int .i64 (y + b))) (w.heap.size + 1) 6) := HT1.out.putC.putC
      refine (sA _).mono ?_
      rintro e w2 ⟨rfl, hb2⟩
      have hT2 := HT2.out.below hb2
      have HT3 : Hid (There w2 (w.heap.size + 1) 6) := hT2
      have HB3 : Hid (Below w.heap.size w w2) := bl_then HB2.out hb2
      clear hb2 HT2 HB2 t0 t1 t2 t3 t4 t5 f0 f1 f2 f3 f4 f5
      have t0 := hT2.cell 0 (by omega)
      have t1 := hT2.cell 1 (by omega)
      have t2 := hT2.cell 2 (by omega)
      have t3 := hT2.cell 3 (by omega)
      have t4 := hT2.cell 4 (by omega)
      have t5 := hT2.cell 5 (by omega)
      have f0 := (hT2 0 (by omega)).2
      have f1 := (hT2 1 (by omega)).2
      have f2 := (hT2 2 (by omega)).2
      have f3 := (hT2 3 (by omega)).2
      have f4 := (hT2 4 (by omega)).2
      have f5 := (hT2 5 (by omega)).2
      clear hT2
      go_wp2_with fail
      obtain ⟨q0, q1, q2, q3, q4, q5⟩ := setc6_at (a := .int .i64 0) (b := .int .i64 z) (c := .int .i64 hx) (d := .int .i64 hy) (e := .int .i64 wd) (f := .int .i64 ht) HT3.out
      exact bodyPost_ret (v := crV 0 z hx hy wd ht) (by simp [results, Try.results11, go_sem, q0, q1, q2, q3, q4, q5]) rfl ⟨by rw [hq.out], below6 HB3.out (Nat.le_succ _)⟩
  · simp only [hc]
    have hq : Hid (panV z x y wd ht a b = crV 3 0 0 0 0 0) := by show _ = _; rw [hp.out]; simp [hr]
    clear hr hc hp
    go_wp2_with fail
    obtain ⟨q0, q1, q2, q3, q4, q5⟩ := setc6_at (a := .int .i64 3) (b := .int .i64 0) (c := .int .i64 0) (d := .int .i64 0) (e := .int .i64 0) (f := .int .i64 0) HT1.out
    exact bodyPost_ret (v := crV 3 0 0 0 0 0) (by simp [results, Try.results11, go_sem, q0, q1, q2, q3, q4, q5]) rfl ⟨by rw [hq.out], below6 HB1.out (Nat.le_succ _)⟩
set_option maxHeartbeats 8000000 in
theorem spec_SizeCamera_any (z x y wd ht a b : Int) (w : World) : Calls Try.prog 16 #[camV z x y wd ht, .int .i64 a, .int .i64 b] w fun e w' => e = .returned (sizV z x y wd ht a b) ∧ Below w.heap.size w w' := by
  have hp : Hid (sizV z x y wd ht a b = if camB z x y wd ht = true then (if (inB a 1 8 && inB b 1 8) = true then crV 0 z (heldI x (pixI z - a)) (heldI y (pixI z - b)) a b else crV 3 0 0 0 0 0) else crV 3 0 0 0 0 0) := rfl
  go_enter Try.func16, Try.ntmps16
  go_wp2_with fail
  generalize hW : ((w.alloc _).alloc _ : World) = W
  have HB0 : Hid (Below w.heap.size w W) := by show Below _ _ _; subst hW; (repeat (first | exact Below.refl _ _ | assumption | refine Below.drew ?_ | refine bl_alloc ?_ _ | refine bl_then ?_ (by assumption) | refine Below.setCell ?_ (by first | omega | (simp; done) | (simp; omega)) _ | refine bl_store ?_ ?_ _ _))
  have HT : Hid (There W (w.heap.size + 1) 6) := by
    show There _ _ _
    subst hW
    have := there6c (w.alloc (.cells #[.int .i64 z, .int .i64 x, .int .i64 y, .int .i64 wd, .int .i64 ht] 25)) (.int .i64 0) (.int .i64 0) (.int .i64 0) (.int .i64 0) (.int .i64 0) (.int .i64 0) 29
    simpa using this
  have hC : There W w.heap.size 5 := by
    subst hW
    exact (there5c w (.int .i64 z) (.int .i64 x) (.int .i64 y) (.int .i64 wd) (.int .i64 ht) 25).below (by (repeat (first | exact Below.refl _ _ | assumption | refine Below.drew ?_ | refine bl_alloc ?_ _ | refine bl_then ?_ (by assumption) | refine Below.setCell ?_ (by first | omega | (simp; done) | (simp; omega)) _ | refine bl_store ?_ ?_ _ _)))
  have HC : Hid (There W w.heap.size 5) := hC
  have hc : CamAt W w.heap.size z x y wd ht := by subst hW; exact ⟨by simp [go_sem], by simp [go_sem], by simp [go_sem], by simp [go_sem], by simp [go_sem]⟩
  have HA : Hid (CamAt W w.heap.size z x y wd ht) := hc
  clear hW hC hc
  refine (l9Fault_any w.heap.size z x y wd ht _ HA.out).mono ?_
  rintro e w1 ⟨rfl, hb1⟩
  have HT1 : Hid (There w1 (w.heap.size + 1) 6) := HT.out.below hb1
  have HC1 : Hid (There w1 w.heap.size 5) := HC.out.below hb1
  have HB1 : Hid (Below w.heap.size w w1) := bl_then HB0.out hb1
  have hA1 : CamAt w1 w.heap.size z x y wd ht := HA.out.belowA hb1
  clear hb1 HT HB0 HC HA
  have hC1 := HC1.out
  have hT1 := HT1.out
  obtain ⟨e0, e1, e2, e3, e4⟩ := hA1
  have g0 := (hC1 0 (by omega)).2
  have g1 := (hC1 1 (by omega)).2
  have g2 := (hC1 2 (by omega)).2
  have g3 := (hC1 3 (by omega)).2
  have g4 := (hC1 4 (by omega)).2
  have t0 := hT1.cell 0 (by omega)
  have t1 := hT1.cell 1 (by omega)
  have t2 := hT1.cell 2 (by omega)
  have t3 := hT1.cell 3 (by omega)
  have t4 := hT1.cell 4 (by omega)
  have t5 := hT1.cell 5 (by omega)
  have f0 := (hT1 0 (by omega)).2
  have f1 := (hT1 1 (by omega)).2
  have f2 := (hT1 2 (by omega)).2
  have f3 := (hT1 3 (by omega)).2
  have f4 := (hT1 4 (by omega)).2
  have f5 := (hT1 5 (by omega)).2
  clear hC1 hT1
  rcases camC_cases z x y wd ht with ⟨hc, hr⟩ | ⟨hc, hr⟩
  · simp only [hc]
    cases hd : (inB a 1 8 && inB b 1 8)
    · have hq : Hid (sizV z x y wd ht a b = crV 3 0 0 0 0 0) := by show _ = _; rw [hp.out, hd]; simp [hr]
      clear hr hc hp
      cases h1 : inB a 1 8 <;> cases h2 : inB b 1 8
      all_goals first | (rw [h1, h2] at hd; cases hd; done) | skip
      all_goals
        clear hd
        go_wp2_with (go_at_call 32; refine (l1In_any _ _ _ _).mono ?_; rintro e w1 ⟨rfl, rfl⟩)
        obtain ⟨q0, q1, q2, q3, q4, q5⟩ := setc6_at (a := .int .i64 3) (b := .int .i64 0) (c := .int .i64 0) (d := .int .i64 0) (e := .int .i64 0) (f := .int .i64 0) HT1.out
        exact bodyPost_ret (v := crV 3 0 0 0 0 0) (by simp [results, Try.results16, go_sem, q0, q1, q2, q3, q4, q5]) rfl ⟨by rw [hq.out], below6 HB1.out (Nat.le_succ _)⟩
    · have hq : Hid (sizV z x y wd ht a b = crV 0 z (heldI x (pixI z - a)) (heldI y (pixI z - b)) a b) := by show _ = _; rw [hp.out, hd]; simp [hr]
      have hz := camB_zoom hr
      simp only [Bool.and_eq_true] at hd
      obtain ⟨h1, h2⟩ := hd
      have g1' : 1 ≤ a ∧ a ≤ 8 := by simpa [inB] using h1
      have g2' : 1 ≤ b ∧ b ≤ 8 := by simpa [inB] using h2
      have sA := fun w => l9Hold_any z x y a b w hz g1' g2'
      generalize heldI x (pixI z - a) = hx at *
      generalize heldI y (pixI z - b) = hy at *
      clear hr hc hp hz
      go_wp2_with (go_at_call 32; refine (l1In_any _ _ _ _).mono ?_; rintro e w1 ⟨rfl, rfl⟩)
      have HB2 : Hid (Below w.heap.size w ((w1.setCell ⟨w.heap.size, 3, none⟩ (.int .i64 a)).setCell ⟨w.heap.size, 4, none⟩ (.int .i64 b))) := (HB1.out.setCell (Nat.le_refl _) _).setCell (Nat.le_refl _) _
      have HT2 : Hid (There ((w1.setCell ⟨w.heap.size, 3, none⟩ (.int .i64 a)).setCell ⟨w.heap.size, 4, none⟩ (.int .i64 b)) (w.heap.size + 1) 6) := HT1.out.putC.putC
      refine (sA _).mono ?_
      rintro e w2 ⟨rfl, hb2⟩
      have hT2 := HT2.out.below hb2
      have HT3 : Hid (There w2 (w.heap.size + 1) 6) := hT2
      have HB3 : Hid (Below w.heap.size w w2) := bl_then HB2.out hb2
      clear hb2 HT2 HB2 t0 t1 t2 t3 t4 t5 f0 f1 f2 f3 f4 f5
      have t0 := hT2.cell 0 (by omega)
      have t1 := hT2.cell 1 (by omega)
      have t2 := hT2.cell 2 (by omega)
      have t3 := hT2.cell 3 (by omega)
      have t4 := hT2.cell 4 (by omega)
      have t5 := hT2.cell 5 (by omega)
      have f0 := (hT2 0 (by omega)).2
      have f1 := (hT2 1 (by omega)).2
      have f2 := (hT2 2 (by omega)).2
      have f3 := (hT2 3 (by omega)).2
      have f4 := (hT2 4 (by omega)).2
      have f5 := (hT2 5 (by omega)).2
      clear hT2
      go_wp2_with fail
      obtain ⟨q0, q1, q2, q3, q4, q5⟩ := setc6_at (a := .int .i64 0) (b := .int .i64 z) (c := .int .i64 hx) (d := .int .i64 hy) (e := .int .i64 a) (f := .int .i64 b) HT3.out
      exact bodyPost_ret (v := crV 0 z hx hy a b) (by simp [results, Try.results16, go_sem, q0, q1, q2, q3, q4, q5]) rfl ⟨by rw [hq.out], below6 HB3.out (Nat.le_succ _)⟩
  · simp only [hc]
    have hq : Hid (sizV z x y wd ht a b = crV 3 0 0 0 0 0) := by show _ = _; rw [hp.out]; simp [hr]
    clear hr hc hp
    go_wp2_with fail
    obtain ⟨q0, q1, q2, q3, q4, q5⟩ := setc6_at (a := .int .i64 3) (b := .int .i64 0) (c := .int .i64 0) (d := .int .i64 0) (e := .int .i64 0) (f := .int .i64 0) HT1.out
    exact bodyPost_ret (v := crV 3 0 0 0 0 0) (by simp [results, Try.results16, go_sem, q0, q1, q2, q3, q4, q5]) rfl ⟨by rw [hq.out], below6 HB1.out (Nat.le_succ _)⟩
end Go.Proofs.Ytkejjfdfofojoaa
