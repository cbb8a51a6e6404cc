/- Cameras at another zoom: the program. -/
import Derived.Test.YtkejjfdfofojoaaCz1
import Derived.Test.YtkejjfdfofojoaaCs3
import Derived.Deep.DeepCutAuto
namespace Go.Proofs.Ytkejjfdfofojoaa
open Go.RowKit
set_option linter.unusedSimpArgs false
set_option linter.unusedVariables false
set_option maxRecDepth 100000

/-- The answer of ZoomCamera. -/
def zooV (z x y wd ht t : Int) : Value := if camB z x y wd ht = true then (if zoomB t = true then crV 0 t (heldI (zoomI (x + wd / 2) z t - wd / 2) (pixI t - wd)) (heldI (zoomI (y + ht / 2) z t - ht / 2) (pixI t - ht)) wd ht else crV 3 0 0 0 0 0) else crV 3 0 0 0 0 0
set_option maxHeartbeats 8000000 in
theorem impl_ZoomCamera_any (z x y wd ht t : Int) (w : World) : Calls Try.prog 15 #[camV z x y wd ht, .int .i64 t] w fun e w' => e = .returned (zooV z x y wd ht t) ∧ Below w.heap.size w w' := by
  have hp : Hid (zooV z x y wd ht t = if camB z x y wd ht = true then (if zoomB t = true then crV 0 t (heldI (zoomI (x + wd / 2) z t - wd / 2) (pixI t - wd)) (heldI (zoomI (y + ht / 2) z t - ht / 2) (pixI t - ht)) wd ht else crV 3 0 0 0 0 0) else crV 3 0 0 0 0 0) := rfl
  go_enter Try.func15, Try.ntmps15
  go_wp2_with fail
  generalize hW : ((w.alloc _).alloc _ : World) = W
  have HB0 : Hid (Below w.heap.size w W) := by show Below _ _ _; subst hW; (repeat (first | exact Below.refl _ _ | assumption | refine Below.drew ?_ | refine bl_alloc ?_ _ | refine bl_then ?_ (by assumption) | refine Below.setCell ?_ (by first | omega | (simp; done) | (simp; omega)) _ | refine bl_store ?_ ?_ _ _))
  have HA : Hid (CamAt W w.heap.size z x y wd ht) := by show CamAt _ _ _ _ _ _ _; subst hW; exact ⟨by simp [go_sem], by simp [go_sem], by simp [go_sem], by simp [go_sem], by simp [go_sem]⟩
  have HT : Hid (There W (w.heap.size + 1) 6) := by
    show There _ _ _
    subst hW
    have := there6c (w.alloc (.cells #[.int .i64 z, .int .i64 x, .int .i64 y, .int .i64 wd, .int .i64 ht] 25)) (.int .i64 0) (.int .i64 0) (.int .i64 0) (.int .i64 0) (.int .i64 0) (.int .i64 0) 29
    simpa using this
  have HC : Hid (There W w.heap.size 5) := by
    show There _ _ _
    subst hW
    exact (there5c w (.int .i64 z) (.int .i64 x) (.int .i64 y) (.int .i64 wd) (.int .i64 ht) 25).below (by (repeat (first | exact Below.refl _ _ | assumption | refine Below.drew ?_ | refine bl_alloc ?_ _ | refine bl_then ?_ (by assumption) | refine Below.setCell ?_ (by first | omega | (simp; done) | (simp; omega)) _ | refine bl_store ?_ ?_ _ _)))
  clear hW
  refine (camFault_any z x y wd ht _).mono ?_
  rintro e w1 ⟨rfl, hb1⟩
  have HT1 : Hid (There w1 (w.heap.size + 1) 6) := HT.out.below hb1
  have HC1 : Hid (There w1 w.heap.size 5) := HC.out.below hb1
  have HB1 : Hid (Below w.heap.size w w1) := bl_then HB0.out hb1
  have HA1 : Hid (CamAt w1 w.heap.size z x y wd ht) := HA.out.belowA hb1
  clear hb1 HT HB0 HC HA
  have hC1 := HC1.out
  have hT1 := HT1.out
  obtain ⟨e0, e1, e2, e3, e4⟩ := HA1.out
  have hl1 : w.heap.size < w1.heap.size := World.block_lt_of_cell? _ _ e0
  have g0 := (hC1 0 (by omega)).2
  have g1 := (hC1 1 (by omega)).2
  have g2 := (hC1 2 (by omega)).2
  have g3 := (hC1 3 (by omega)).2
  have g4 := (hC1 4 (by omega)).2
  have t0 := hT1.cell 0 (by omega)
  have t1 := hT1.cell 1 (by omega)
  have t2 := hT1.cell 2 (by omega)
  have t3 := hT1.cell 3 (by omega)
  have t4 := hT1.cell 4 (by omega)
  have t5 := hT1.cell 5 (by omega)
  have f0 := (hT1 0 (by omega)).2
  have f1 := (hT1 1 (by omega)).2
  have f2 := (hT1 2 (by omega)).2
  have f3 := (hT1 3 (by omega)).2
  have f4 := (hT1 4 (by omega)).2
  have f5 := (hT1 5 (by omega)).2
  clear hC1 hT1
  rcases camC_cases z x y wd ht with ⟨hc, hr⟩ | ⟨hc, hr⟩
  · simp only [hc]
    cases hd : zoomB t
    · have hq : Hid (zooV z x y wd ht t = crV 3 0 0 0 0 0) := by show _ = _; rw [hp.out, hd]; simp [hr]
      clear hr hc hp
      go_wp2_with (go_at_call 36; refine (isZoom_any _ _).mono ?_; rintro e w1 ⟨rfl, rfl⟩)
      obtain ⟨q0, q1, q2, q3, q4, q5⟩ := setc6_at (a := .int .i64 3) (b := .int .i64 0) (c := .int .i64 0) (d := .int .i64 0) (e := .int .i64 0) (f := .int .i64 0) HT1.out
      exact bodyPost_ret (v := crV 3 0 0 0 0 0) (by simp [results, Try.results15, go_sem, q0, q1, q2, q3, q4, q5]) rfl ⟨by rw [hq.out], below6 HB1.out (Nat.le_succ _)⟩
    · have hq : Hid (zooV z x y wd ht t = crV 0 t (heldI (zoomI (x + wd / 2) z t - wd / 2) (pixI t - wd)) (heldI (zoomI (y + ht / 2) z t - ht / 2) (pixI t - ht)) wd ht) := by show _ = _; rw [hp.out, hd]; simp [hr]
      have hz := camB_zoom hr
      have hi := camB_in hr
      have hn := pixI_bd hz
      have hzb : 0 ≤ z ∧ z ≤ 3 := by rcases zoomB_cases hz with rfl | rfl | rfl | rfl <;> omega
      have htb : 0 ≤ t ∧ t ≤ 3 := by rcases zoomB_cases hd with rfl | rfl | rfl | rfl <;> omega
      have bx := zoomI_bd (a := x + wd / 2) hzb htb (by omega)
      have by' := zoomI_bd (a := y + ht / 2) hzb htb (by omega)
      have s1 := fun ty w => run_px_add ty (a := x) (b := y) (c := wd / 2) (d := ht / 2) w (by omega) (by omega)
      have s2 := fun ty w => run_px_sub ty (a := zoomI (x + wd / 2) z t) (b := zoomI (y + ht / 2) z t) (c := wd / 2) (d := ht / 2) w (by omega) (by omega)
      have sH := fun w => halved_any wd ht w (by omega) (by omega)
      have sZ := fun w => zoomed_any (x + wd / 2) (y + ht / 2) z t w hzb htb (by omega) (by omega)
      have sA := fun w => heldAt_any t x y wd ht (zoomI (x + wd / 2) z t - wd / 2) (zoomI (y + ht / 2) z t - ht / 2) w hd hi.1.1 hi.1.2 (by omega) (by omega)
      generalize heldI (zoomI (x + wd / 2) z t - wd / 2) (pixI t - wd) = hx at *
      generalize heldI (zoomI (y + ht / 2) z t - ht / 2) (pixI t - ht) = hy at *
      generalize zoomI (x + wd / 2) z t = zx at *
      generalize zoomI (y + ht / 2) z t = zy at *
      clear hr hc hp hi hn hz hzb htb bx by' t0 t1 t2 t3 t4 t5 f0 f1 f2 f3 f4 f5
      generalize wd / 2 = hwd at *
      generalize ht / 2 = hht at *
      generalize x + hwd = mx at *
      generalize y + hht = my at *
      go_wp2_with (first
        | (go_at_call 36; refine (isZoom_any _ _).mono ?_; rintro e w1 ⟨rfl, rfl⟩)
        | fail)
      refine (camSize_any z x y wd ht _).mono ?_
      rintro e w2 ⟨rfl, hb2⟩
      have r0 : ∀ W', Below w2.heap.size w2 W' → W'.cell? ⟨w.heap.size, 0, none⟩ = some (.int .i64 z) := fun W' h => (HA1.out.belowA (bl_then hb2 h)).1
      have r1 : ∀ W', Below w2.heap.size w2 W' → W'.cell? ⟨w.heap.size, 1, none⟩ = some (.int .i64 x) := fun W' h => (HA1.out.belowA (bl_then hb2 h)).2.1
      have r2 : ∀ W', Below w2.heap.size w2 W' → W'.cell? ⟨w.heap.size, 2, none⟩ = some (.int .i64 y) := fun W' h => (HA1.out.belowA (bl_then hb2 h)).2.2.1
      have r3 : ∀ W', Below w2.heap.size w2 W' → W'.cell? ⟨w.heap.size, 3, none⟩ = some (.int .i64 wd) := fun W' h => (HA1.out.belowA (bl_then hb2 h)).2.2.2.1
      have r4 : ∀ W', Below w2.heap.size w2 W' → W'.cell? ⟨w.heap.size, 4, none⟩ = some (.int .i64 ht) := fun W' h => (HA1.out.belowA (bl_then hb2 h)).2.2.2.2
      have z0 : ∀ W', Below w2.heap.size w2 W' → W'.frozen? ⟨w.heap.size, 0, none⟩ = false := fun W' h => (HC1.out.below (bl_then hb2 h) 0 (by omega)).2
      have HT2 : Hid (There w2 (w.heap.size + 1) 6) := HT1.out.below hb2
      have HB2 : Hid (Below w.heap.size w w2) := bl_then HB1.out hb2
      clear hb2 HT1 HB1 HA1 HC1 e0 e1 e2 e3 e4 g0 g1 g2 g3 g4 hl1
      have hr2 : Below w2.heap.size w2 w2 := Below.refl _ _
      go_wp2_with (go_at_call 38; refine (sH _).mono ?_; rintro e w2 ⟨rfl, rfl⟩)
      go_region_held3 (fun W' => Below w2.heap.size w2 W') ((repeat (first | exact Below.refl _ _ | assumption | refine Below.drew ?_ | refine bl_alloc ?_ _ | refine bl_then ?_ (by assumption) | refine Below.setCell ?_ (by first | omega | (simp; done) | (simp; omega)) _ | refine bl_store ?_ ?_ _ _)))
        (first
          | (go_at_call 29; refine (camFirst_any _ _ _ _ _ _).mono ?_; rintro e w3 ⟨rfl, hb⟩)
          | (go_at_call 39; refine (sZ _).mono ?_; rintro e w3 ⟨rfl, rfl⟩)
          | fail)
      rename_i hfin
      have HT3 := HT2.out.below hfin
      have HB3 := bl_then HB2.out hfin
      go_wp2_with fail
      have HT4 : Hid (There (w3.setCell ⟨w.heap.size, 0, none⟩ (.int .i64 t)) (w.heap.size + 1) 6) := HT3.putC
      have HB4 : Hid (Below w.heap.size w (w3.setCell ⟨w.heap.size, 0, none⟩ (.int .i64 t))) := HB3.setCell (Nat.le_refl _) _
      clear HT3 HB3
      refine (sA _).mono ?_
      rintro e w5 ⟨rfl, hb5⟩
      have hT5 := HT4.out.below hb5
      have HT5 : Hid (There w5 (w.heap.size + 1) 6) := hT5
      have HB5 : Hid (Below w.heap.size w w5) := bl_then HB4.out hb5
      have t0 := hT5.cell 0 (by omega)
      have t1 := hT5.cell 1 (by omega)
      have t2 := hT5.cell 2 (by omega)
      have t3 := hT5.cell 3 (by omega)
      have t4 := hT5.cell 4 (by omega)
      have t5 := hT5.cell 5 (by omega)
      have f0 := (hT5 0 (by omega)).2
      have f1 := (hT5 1 (by omega)).2
      have f2 := (hT5 2 (by omega)).2
      have f3 := (hT5 3 (by omega)).2
      have f4 := (hT5 4 (by omega)).2
      have f5 := (hT5 5 (by omega)).2
      clear hT5 hb5
      go_wp2_with fail
      obtain ⟨q0, q1, q2, q3, q4, q5⟩ := setc6_at (a := .int .i64 0) (b := .int .i64 t) (c := .int .i64 hx) (d := .int .i64 hy) (e := .int .i64 wd) (f := .int .i64 ht) HT5.out
      exact bodyPost_ret (v := crV 0 t hx hy wd ht) (by simp [results, Try.results15, go_sem, q0, q1, q2, q3, q4, q5]) rfl ⟨by rw [hq.out], below6 HB5.out (Nat.le_succ _)⟩
  · simp only [hc]
    have hq : Hid (zooV z x y wd ht t = crV 3 0 0 0 0 0) := by show _ = _; rw [hp.out]; simp [hr]
    clear hr hc hp
    go_wp2_with fail
    obtain ⟨q0, q1, q2, q3, q4, q5⟩ := setc6_at (a := .int .i64 3) (b := .int .i64 0) (c := .int .i64 0) (d := .int .i64 0) (e := .int .i64 0) (f := .int .i64 0) HT1.out
    exact bodyPost_ret (v := crV 3 0 0 0 0 0) (by simp [results, Try.results15, go_sem, q0, q1, q2, q3, q4, q5]) rfl ⟨by rw [hq.out], below6 HB1.out (Nat.le_succ _)⟩
end Go.Proofs.Ytkejjfdfofojoaa
