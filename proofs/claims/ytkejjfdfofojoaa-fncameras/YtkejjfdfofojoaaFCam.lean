/- The law of cameras returns true at every list of bytes. -/
import Derived.Test.YtkejjfdfofojoaaDk3
import Derived.Test.YtkejjfdfofojoaaCl1
import Derived.Test.YtkejjfdfofojoaaCz2
import Derived.Test.YtkejjfdfofojoaaCz3
import Derived.Test.YtkejjfdfofojoaaTake
namespace Go.Proofs.Ytkejjfdfofojoaa
open Go.RowKit
set_option linter.unusedSimpArgs false
set_option linter.unusedVariables false
set_option maxRecDepth 100000

/-- An answer with a camera in memory. -/
def CrAt (w : World) (b : Nat) (c z x y wd ht : Int) : Prop := w.cell? ⟨b, 0, none⟩ = some (.int .i64 c) ∧ w.cell? ⟨b, 1, none⟩ = some (.int .i64 z) ∧ w.cell? ⟨b, 2, none⟩ = some (.int .i64 x) ∧ w.cell? ⟨b, 3, none⟩ = some (.int .i64 y) ∧ w.cell? ⟨b, 4, none⟩ = some (.int .i64 wd) ∧ w.cell? ⟨b, 5, none⟩ = some (.int .i64 ht)
theorem CrAt.belowR {w w' : World} {b : Nat} {c z x y wd ht : Int} (h : CrAt w b c z x y wd ht) (hb : Below w.heap.size w w') : CrAt w' b c z x y wd ht := by
  have hB := World.block_lt_of_cell? _ _ h.1
  exact ⟨(hb.cell (p := ⟨b, 0, none⟩) hB).trans h.1, (hb.cell (p := ⟨b, 1, none⟩) hB).trans h.2.1, (hb.cell (p := ⟨b, 2, none⟩) hB).trans h.2.2.1, (hb.cell (p := ⟨b, 3, none⟩) hB).trans h.2.2.2.1, (hb.cell (p := ⟨b, 4, none⟩) hB).trans h.2.2.2.2.1, (hb.cell (p := ⟨b, 5, none⟩) hB).trans h.2.2.2.2.2⟩
theorem crAt_new (w : World) (c z x y wd ht : Int) (t : TypeId) : CrAt (w.alloc (.cells #[.int .i64 c, .int .i64 z, .int .i64 x, .int .i64 y, .int .i64 wd, .int .i64 ht] t)) w.heap.size c z x y wd ht := ⟨by simp [go_sem], by simp [go_sem], by simp [go_sem], by simp [go_sem], by simp [go_sem], by simp [go_sem]⟩
theorem heldI_in {a l : Int} (h : 0 ≤ l) : 0 ≤ heldI a l ∧ heldI a l ≤ l := by unfold heldI; omega
theorem camB_held {z wd ht a b : Int} (hz : zoomB z = true) (hw : 1 ≤ wd ∧ wd ≤ 8) (hh : 1 ≤ ht ∧ ht ≤ 8) : camB z (heldI a (pixI z - wd)) (heldI b (pixI z - ht)) wd ht = true := by
  have hn := pixI_bd hz
  have h1 := heldI_in (a := a) (l := pixI z - wd) (by omega)
  have h2 := heldI_in (a := b) (l := pixI z - ht) (by omega)
  simp [camB, inB, hz]
  omega
theorem pan_cases (z x y wd ht p q : Int) : panV z x y wd ht p q = crV 3 0 0 0 0 0 ∨ (camB z x y wd ht = true ∧ (inB p (-100) 100 && inB q (-100) 100) = true ∧ panV z x y wd ht p q = crV 0 z (heldI (x + p) (pixI z - wd)) (heldI (y + q) (pixI z - ht)) wd ht) := by
  unfold panV
  by_cases h1 : camB z x y wd ht = true
  · by_cases h2 : (inB p (-100) 100 && inB q (-100) 100) = true
    · right; rw [if_pos h1, if_pos h2]; exact ⟨h1, h2, rfl⟩
    · left; rw [if_pos h1, if_neg h2]
  · left; rw [if_neg h1]
theorem siz_cases (z x y wd ht p q : Int) : sizV z x y wd ht p q = crV 3 0 0 0 0 0 ∨ ∃ x' y' : Int, camB z x' y' p q = true ∧ sizV z x y wd ht p q = crV 0 z x' y' p q := by
  unfold sizV
  by_cases h1 : camB z x y wd ht = true
  · by_cases h2 : (inB p 1 8 && inB q 1 8) = true
    · right
      rw [if_pos h1, if_pos h2]
      simp only [Bool.and_eq_true] at h2
      exact ⟨_, _, camB_held (camB_zoom h1) (by simpa [inB] using h2.1) (by simpa [inB] using h2.2), rfl⟩
    · left; rw [if_pos h1, if_neg h2]
  · left; rw [if_neg h1]
theorem zoo_cases (z x y wd ht t : Int) : zooV z x y wd ht t = crV 3 0 0 0 0 0 ∨ ∃ x' y' : Int, camB t x' y' wd ht = true ∧ zooV z x y wd ht t = crV 0 t x' y' wd ht := by
  unfold zooV
  by_cases h1 : camB z x y wd ht = true
  · by_cases h2 : zoomB t = true
    · right
      rw [if_pos h1, if_pos h2]
      exact ⟨_, _, camB_held h2 (camB_in h1).1.1 (camB_in h1).1.2, rfl⟩
    · left; rw [if_pos h1, if_neg h2]
  · left; rw [if_neg h1]
theorem siz_k (z x y wd ht p q : Int) : ∃ k0 k1 k2 k3 k4 k5 : Int, sizV z x y wd ht p q = crV k0 k1 k2 k3 k4 k5 ∧ ((k0 = 3 ∧ True) ∨ (k0 = 0 ∧ camC k1 k2 k3 k4 k5 = 0 ∧ k4 = p)) := by
  rcases siz_cases z x y wd ht p q with h | ⟨x', y', h1, h2⟩
  · exact ⟨_, _, _, _, _, _, h, .inl ⟨rfl, trivial⟩⟩
  · exact ⟨_, _, _, _, _, _, h2, .inr ⟨rfl, by unfold camC; rw [if_pos h1], rfl⟩⟩
theorem zoo_k (z x y wd ht t : Int) : ∃ k0 k1 k2 k3 k4 k5 : Int, zooV z x y wd ht t = crV k0 k1 k2 k3 k4 k5 ∧ ((k0 = 3 ∧ True) ∨ (k0 = 0 ∧ camC k1 k2 k3 k4 k5 = 0 ∧ k1 = t)) := by
  rcases zoo_cases z x y wd ht t with h | ⟨x', y', h1, h2⟩
  · exact ⟨_, _, _, _, _, _, h, .inl ⟨rfl, trivial⟩⟩
  · exact ⟨_, _, _, _, _, _, h2, .inr ⟨rfl, by unfold camC; rw [if_pos h1], rfl⟩⟩
theorem equalIn_cam (n : Nat) (a b c d e a' b' c' d' e' : Int) (w : World) : (Op.equalIn (n + 2) 25 (camV a b c d e) (camV a' b' c' d' e')).run Try.prog w = .ok ((a == a') && ((b == b') && ((c == c') && ((d == d') && (e == e'))))) w := by
  have hp0 : ∀ (x y z u v : Int) (w : World), (part 2 #[.int .i64 x, .int .i64 y, .int .i64 z, .int .i64 u, .int .i64 v] 0).run Try.prog w = .ok (.int .i64 x) w := fun _ _ _ _ _ _ => by kernel_rfl
  have hp1 : ∀ (x y z u v : Int) (w : World), (part 2 #[.int .i64 x, .int .i64 y, .int .i64 z, .int .i64 u, .int .i64 v] 1).run Try.prog w = .ok (.int .i64 y) w := fun _ _ _ _ _ _ => by kernel_rfl
  have hp2 : ∀ (x y z u v : Int) (w : World), (part 2 #[.int .i64 x, .int .i64 y, .int .i64 z, .int .i64 u, .int .i64 v] 2).run Try.prog w = .ok (.int .i64 z) w := fun _ _ _ _ _ _ => by kernel_rfl
  have hp3 : ∀ (x y z u v : Int) (w : World), (part 2 #[.int .i64 x, .int .i64 y, .int .i64 z, .int .i64 u, .int .i64 v] 3).run Try.prog w = .ok (.int .i64 u) w := fun _ _ _ _ _ _ => by kernel_rfl
  have hp4 : ∀ (x y z u v : Int) (w : World), (part 2 #[.int .i64 x, .int .i64 y, .int .i64 z, .int .i64 u, .int .i64 v] 4).run Try.prog w = .ok (.int .i64 v) w := fun _ _ _ _ _ _ => by kernel_rfl
  have hi := fun (a b : Int) (w : World) => run_equalIn_int (P := Try.prog) w n 2 .i64 .i64 a b Try.underlying2
  rw [run_equalIn_struct w (n + 1) 25 _ _ (by kernel_rfl) (by kernel_rfl)]
  simp [Op.eqFields, Program.fieldsOf, Try.underlying25, hp0, hp1, hp2, hp3, hp4, hi]
  by_cases h1 : a = a' <;> by_cases h2 : b = b' <;> by_cases h3 : c = c' <;> by_cases h4 : d = d' <;> by_cases h5 : e = e' <;> simp [h1, h2, h3, h4, h5]
theorem eql_cam (a b c d e : Int) (w : World) : (binOp .eql 25 (camV a b c d e) (camV a b c d e)).run Try.prog w = .ok (.bool true) w := by
  rw [run_eql_struct, equalIn_cam 9998]
  simp [Result.andThen]
set_option maxHeartbeats 32000000 in
theorem FnCameras_walk (a : Option Addr) (n cap : Nat) (Z : Nat → Int) (w : World) (h : IsBytes w a n Z ∧ (∀ i, 0 ≤ Z i ∧ Z i ≤ 255) ∧ n ≤ cap) :
    Calls Try.prog 3 #[.slice a n cap] w fun e w' => e = .returned (.bool true) ∧ Below w.heap.size w w' := by
  obtain ⟨hI, hrng, hcap⟩ := h
  by_cases hbig : 1048576 < n
  · have hd : decide (1048576 < (n : Int)) = true := by simp; omega
    go_enter Try.func3, Try.ntmps3
    go_wp2_with (go_at_call 8; refine (lwBig_any _ _ _ _).mono ?_; rintro e w1 ⟨rfl, rfl⟩)
    all_goals first | omega | (go_ret; exact ⟨rfl, by (repeat (first | exact Below.refl _ _ | assumption | refine Below.drew ?_ | refine bl_alloc ?_ _ | refine bl_then ?_ (by assumption) | refine Below.setCell ?_ (by first | omega | (simp; done) | (simp; omega)) _ | refine bl_store ?_ ?_ _ _))⟩)
  have hn : n ≤ 1048576 := by omega
  have hd : decide (1048576 < (n : Int)) = false := by simp; omega
  clear hbig
  have HD1 : Hid (∀ W, Below w.heap.size w W → Calls Try.prog 9 #[.slice a n cap] W fun e w' => ∃ z x y wd hh p q : Int, e = .returned (.tuple #[camV z x y wd hh, .int .i64 p, .int .i64 q]) ∧ Below W.heap.size W w') := fun W hb => DrawPanCamera_any a n cap Z W (hI.below hb) hrng hn hcap
  have HD2 : Hid (∀ W, Below w.heap.size w W → Calls Try.prog 12 #[.slice a n cap] W fun e w' => ∃ z x y wd hh p q : Int, e = .returned (.tuple #[camV z x y wd hh, .int .i64 p, .int .i64 q]) ∧ Below W.heap.size W w') := fun W hb => DrawSizeCamera_any a n cap Z W (hI.below hb) hrng hn hcap
  have HD3 : Hid (∀ W, Below w.heap.size w W → Calls Try.prog 14 #[.slice a n cap] W fun e w' => ∃ z x y wd hh p : Int, e = .returned (.tuple #[camV z x y wd hh, .int .i64 p]) ∧ Below W.heap.size W w') := fun W hb => DrawZoomCamera_any a n cap Z W (hI.below hb) hrng hn hcap
  clear hI hrng hcap hn
  have iF : ∀ (c z x y wd ht : Int) w, (Instr.field 29 (crV c z x y wd ht) 0).run Try.prog w = .ok (.int .i64 c) w := fun _ _ _ _ _ _ _ => by kernel_rfl
  have iG : ∀ (c z x y wd ht : Int) w, (Instr.field 29 (crV c z x y wd ht) 1).run Try.prog w = .ok (camV z x y wd ht) w := fun _ _ _ _ _ _ _ => by kernel_rfl
  go_enter Try.func3, Try.ntmps3
  go_wp2_with (first | (go_at_call 8; refine (lwBig_any _ _ _ _).mono ?_; rintro e w ⟨rfl, rfl⟩; rw [hd]) | fail)
  refine (HD1.out _ (Below.refl _ _)).mono ?_
  rintro e w1 ⟨z, x, y, wd, ht, p, q, rfl, hb1⟩
  go_wp2_with fail
  generalize hW1 : (w1.alloc _ : World) = W1
  obtain ⟨B3, hB3⟩ : ∃ B3, w1.heap.size = B3 := ⟨_, rfl⟩
  have HC1 : Hid (CamAt W1 B3 z x y wd ht) := by show CamAt _ _ _ _ _ _ _; subst hW1; rw [← hB3]; exact camAt_new _ _ _ _ _ _ _
  have HBW1 : Hid (Below w.heap.size w W1) := by show Below _ _ _; subst hW1; exact bl_alloc hb1 _
  simp only [hB3]
  clear hW1 hB3 hb1
  have sI := fun w => impl_PanCamera_any z x y wd ht p q w
  have sP := fun w => spec_PanCamera_any z x y wd ht p q w
  rcases pan_cases z x y wd ht p q with hv | ⟨hcam, hpq, hv⟩
  · rw [hv] at sI sP
    clear hv
    refine (sI _).mono ?_
    rintro e w2 ⟨rfl, hb2⟩
    obtain ⟨c0, c1, c2, c3, c4⟩ := HC1.out.belowA hb2
    have hl3 := World.block_lt_of_cell? _ _ c0
    have HB2 : Hid (Below w.heap.size w w2) := bl_then HBW1.out hb2
    clear hb2
    go_wp2_with fail
    generalize hW2 : (w2.alloc _ : World) = W2
    obtain ⟨B6, hB6⟩ : ∃ B6, w2.heap.size = B6 := ⟨_, rfl⟩
    have hbW2 : Below w2.heap.size w2 W2 := by subst hW2; (repeat (first | exact Below.refl _ _ | assumption | refine Below.drew ?_ | refine bl_alloc ?_ _ | refine bl_then ?_ (by assumption) | refine Below.setCell ?_ (by first | omega | (simp; done) | (simp; omega)) _ | refine bl_store ?_ ?_ _ _))
    have HR2 : Hid (CrAt W2 B6 3 0 0 0 0 0) := by show CrAt _ _ _ _ _ _ _ _; subst hW2; rw [← hB6]; exact crAt_new _ _ _ _ _ _ _ _
    have HC2 : Hid (CamAt W2 B3 z x y wd ht) := CamAt.belowA ⟨c0, c1, c2, c3, c4⟩ hbW2
    have HBW2 : Hid (Below w.heap.size w W2) := bl_then HB2.out hbW2
    simp only [hB6]
    have e0 : ∀ W', Below W2.heap.size W2 W' → W'.cell? ⟨B3, 0, none⟩ = some (.int .i64 z) := fun W' h => (HC2.out.belowA h).1
    have e1 : ∀ W', Below W2.heap.size W2 W' → W'.cell? ⟨B3, 1, none⟩ = some (.int .i64 x) := fun W' h => (HC2.out.belowA h).2.1
    have e2 : ∀ W', Below W2.heap.size W2 W' → W'.cell? ⟨B3, 2, none⟩ = some (.int .i64 y) := fun W' h => (HC2.out.belowA h).2.2.1
    have e3 : ∀ W', Below W2.heap.size W2 W' → W'.cell? ⟨B3, 3, none⟩ = some (.int .i64 wd) := fun W' h => (HC2.out.belowA h).2.2.2.1
    have e4 : ∀ W', Below W2.heap.size W2 W' → W'.cell? ⟨B3, 4, none⟩ = some (.int .i64 ht) := fun W' h => (HC2.out.belowA h).2.2.2.2
    have r0 : ∀ W', Below W2.heap.size W2 W' → W'.cell? ⟨B6, 0, none⟩ = some (.int .i64 3) := fun W' h => (HR2.out.belowR h).1
    have hr : Below W2.heap.size W2 W2 := Below.refl _ _
    clear hW2 hB6 c0 c1 c2 c3 c4 hbW2 hl3
    go_wp2_with fail
    go_region_held3 (fun W' => Below W2.heap.size W2 W') ((repeat (first | exact Below.refl _ _ | assumption | refine Below.drew ?_ | refine bl_alloc ?_ _ | refine bl_then ?_ (by assumption) | refine Below.setCell ?_ (by first | omega | (simp; done) | (simp; omega)) _ | refine bl_store ?_ ?_ _ _)))
      (first
        | (go_at_call 11; refine (sP _).mono ?_; rintro e w3 ⟨rfl, hb⟩)
        | fail)
    go_wp2
    go_ret
    exact ⟨rfl, bl_then HBW2.out (by assumption)⟩
  · have hz := camB_zoom hcam
    have hin := camB_in hcam
    have hn8 := pixI_bd hz
    simp only [Bool.and_eq_true] at hpq
    have hp100 : -100 ≤ p ∧ p ≤ 100 := by simpa [inB] using hpq.1
    have hq100 : -100 ≤ q ∧ q ≤ 100 := by simpa [inB] using hpq.2
    have hcam2 : camB z (heldI (x + p) (pixI z - wd)) (heldI (y + q) (pixI z - ht)) wd ht = true := camB_held hz hin.1.1 hin.1.2
    have hv2 : panV z (heldI (x + p) (pixI z - wd)) (heldI (y + q) (pixI z - ht)) wd ht (-p) (-q) = crV 0 z (heldI (heldI (x + p) (pixI z - wd) + -p) (pixI z - wd)) (heldI (heldI (y + q) (pixI z - ht) + -q) (pixI z - ht)) wd ht := by
      unfold panV
      rw [if_pos hcam2, if_pos (by simp [inB]; omega)]
    have sB := fun w => impl_PanCamera_any z (heldI (x + p) (pixI z - wd)) (heldI (y + q) (pixI z - ht)) wd ht (-p) (-q) w
    have sF1 := fun w => impl_CameraFault_any z (heldI (x + p) (pixI z - wd)) (heldI (y + q) (pixI z - ht)) wd ht w
    have hc1 : camC z (heldI (x + p) (pixI z - wd)) (heldI (y + q) (pixI z - ht)) wd ht = 0 := by unfold camC; rw [if_pos hcam2]
    have HEX : Hid (heldI (x + p) (pixI z - wd) = x + p → heldI (heldI (x + p) (pixI z - wd) + -p) (pixI z - wd) = x) := fun e => by rw [e]; unfold heldI; omega
    have HEY : Hid (heldI (y + q) (pixI z - ht) = y + q → heldI (heldI (y + q) (pixI z - ht) + -q) (pixI z - ht) = y) := fun e => by rw [e]; unfold heldI; omega
    rw [hv] at sI sP
    rw [hv2] at sB
    rw [hc1] at sF1
    clear hv hv2 hc1 hcam2
    have hxb : 0 ≤ x ∧ x ≤ 64 := by omega
    have hyb : 0 ≤ y ∧ y ≤ 64 := by omega
    generalize heldI (heldI (x + p) (pixI z - wd) + -p) (pixI z - wd) = bx at *
    generalize heldI (heldI (y + q) (pixI z - ht) + -q) (pixI z - ht) = by' at *
    generalize heldI (x + p) (pixI z - wd) = hx at *
    generalize heldI (y + q) (pixI z - ht) = hy at *
    clear hz hin hn8 hpq hcam
    refine (sI _).mono ?_
    rintro e w2 ⟨rfl, hb2⟩
    obtain ⟨c0, c1, c2, c3, c4⟩ := HC1.out.belowA hb2
    have hl3 := World.block_lt_of_cell? _ _ c0
    have HB2 : Hid (Below w.heap.size w w2) := bl_then HBW1.out hb2
    clear hb2
    go_wp2_with fail
    generalize hW2 : (w2.alloc _ : World) = W2
    obtain ⟨B6, hB6⟩ : ∃ B6, w2.heap.size = B6 := ⟨_, rfl⟩
    have hbW2 : Below w2.heap.size w2 W2 := by subst hW2; (repeat (first | exact Below.refl _ _ | assumption | refine Below.drew ?_ | refine bl_alloc ?_ _ | refine bl_then ?_ (by assumption) | refine Below.setCell ?_ (by first | omega | (simp; done) | (simp; omega)) _ | refine bl_store ?_ ?_ _ _))
    have HRW2 : Hid (CrAt W2 B6 0 z hx hy wd ht) := by show CrAt _ _ _ _ _ _ _ _; subst hW2; rw [← hB6]; exact crAt_new _ _ _ _ _ _ _ _
    have HCW2 : Hid (CamAt W2 B3 z x y wd ht) := CamAt.belowA ⟨c0, c1, c2, c3, c4⟩ hbW2
    have HBW2 : Hid (Below w.heap.size w W2) := bl_then HB2.out hbW2
    simp only [hB6]
    clear hW2 hB6 hbW2 c0 c1 c2 c3 c4 hl3
    refine (sB _).mono ?_
    rintro e w3 ⟨rfl, hb3⟩
    have HCw3 : Hid (CamAt w3 B3 z x y wd ht) := HCW2.out.belowA hb3
    have HRw3 : Hid (CrAt w3 B6 0 z hx hy wd ht) := HRW2.out.belowR hb3
    have HBw3 : Hid (Below w.heap.size w w3) := bl_then HBW2.out hb3
    clear hb3 HRW2 HCW2 HBW2 HC1 HBW1 HB2
    go_upto_region 8 with fail
    generalize hW3 : (w3.alloc _ : World) = W3
    obtain ⟨B7, hB7⟩ : ∃ B7, w3.heap.size = B7 := ⟨_, rfl⟩
    have hbW3 : Below w3.heap.size w3 W3 := by subst hW3; (repeat (first | exact Below.refl _ _ | assumption | refine Below.drew ?_ | refine bl_alloc ?_ _ | refine bl_then ?_ (by assumption) | refine Below.setCell ?_ (by first | omega | (simp; done) | (simp; omega)) _ | refine bl_store ?_ ?_ _ _))
    have HQW3 : Hid (CrAt W3 B7 0 z bx by' wd ht) := by show CrAt _ _ _ _ _ _ _ _; subst hW3; rw [← hB7]; exact crAt_new _ _ _ _ _ _ _ _
    have HCW3 : Hid (CamAt W3 B3 z x y wd ht) := HCw3.out.belowA hbW3
    have HRW3 : Hid (CrAt W3 B6 0 z hx hy wd ht) := HRw3.out.belowR hbW3
    have HBW3 : Hid (Below w.heap.size w W3) := bl_then HBw3.out hbW3
    simp only [hB7]
    clear hW3 hB7 hbW3 HCw3 HRw3 HBw3
    go_cut [8] (fun t wc => ∃ H : Bool, t = .bool H ∧ (H = false → hx = x + p ∧ hy = y + q) ∧ wc = W3)
    case first =>
      obtain ⟨c0, c1, c2, c3, c4⟩ := HCW3.out
      obtain ⟨r0, r1, r2, r3, r4, r5⟩ := HRW3.out
      by_cases hX : hx = x + p
      · have h1 : (hx != x + p) = false := by simp [hX]
        by_cases hY : hy = y + q
        · have h2 : (hy != y + q) = false := by simp [hY]
          have HXY : Hid (hx = x + p ∧ hy = y + q) := ⟨hX, hY⟩
          clear hX hY
          go_wp2_with fail
          go_meet
          case rel => exact ⟨false, rfl, fun _ => HXY.out, rfl⟩
        · have h2 : (hy != y + q) = true := by simp [hY]
          clear hX hY
          go_wp2_with fail
          go_meet
          case rel => exact ⟨true, rfl, (fun h => by cases h), rfl⟩
      · have h1 : (hx != x + p) = true := by simp [hX]
        clear hX
        go_wp2_with fail
        go_meet
        case rel => exact ⟨true, rfl, (fun h => by cases h), rfl⟩
    case rest =>
      obtain ⟨H, rfl, hH, hwc⟩ := hcut
      subst hwc
      generalize wc = W3 at *
      have HEQ : Hid (H = false → ∀ w, (binOp .eql 25 (camV z bx by' wd ht) (camV z x y wd ht)).run Try.prog w = .ok (.bool true) w) := fun e w => by
        obtain ⟨e1, e2⟩ := hH e
        rw [HEX.out e1, HEY.out e2]
        exact eql_cam z x y wd ht w
      have hEr := fun w => eql_cam z hx hy wd ht w
      clear hH HEX HEY hp100 hq100 hxb hyb sI sB
      go_wp2_with fail
      refine (HD2.out _ HBW3.out).mono ?_
      rintro e w4 ⟨z2, x2, y2, wd2, ht2, p2, q2, rfl, hb⟩
      have HCw4 : Hid (CamAt w4 B3 z x y wd ht) := HCW3.out.belowA hb
      have HRw4 : Hid (CrAt w4 B6 0 z hx hy wd ht) := HRW3.out.belowR hb
      have HQw4 : Hid (CrAt w4 B7 0 z bx by' wd ht) := HQW3.out.belowR hb
      have HBw4 : Hid (Below w.heap.size w w4) := bl_then HBW3.out hb
      clear hb HCW3 HRW3 HQW3 HBW3
      go_wp2_with fail
      generalize hWn : (w4.alloc _ : World) = W4
      obtain ⟨B9, hBn⟩ : ∃ B, w4.heap.size = B := ⟨_, rfl⟩
      have hb : Below w4.heap.size w4 W4 := by subst hWn; (repeat (first | exact Below.refl _ _ | assumption | refine Below.drew ?_ | refine bl_alloc ?_ _ | refine bl_then ?_ (by assumption) | refine Below.setCell ?_ (by first | omega | (simp; done) | (simp; omega)) _ | refine bl_store ?_ ?_ _ _))
      have HDW4 : Hid (CamAt W4 B9 z2 x2 y2 wd2 ht2) := by show CamAt _ _ _ _ _ _ _; subst hWn; rw [← hBn]; exact camAt_new _ _ _ _ _ _ _
      have HCW4 : Hid (CamAt W4 B3 z x y wd ht) := HCw4.out.belowA hb
      have HRW4 : Hid (CrAt W4 B6 0 z hx hy wd ht) := HRw4.out.belowR hb
      have HQW4 : Hid (CrAt W4 B7 0 z bx by' wd ht) := HQw4.out.belowR hb
      have HBW4 : Hid (Below w.heap.size w W4) := bl_then HBw4.out hb
      simp only [hBn]
      clear hWn hBn hb HCw4 HRw4 HQw4 HBw4
      obtain ⟨k0, k1, k2, k3, k4, k5, hk, hkc⟩ := siz_k z2 x2 y2 wd2 ht2 p2 q2
      have sS1 := fun w => impl_SizeCamera_any z2 x2 y2 wd2 ht2 p2 q2 w
      have sS2 := fun w => spec_SizeCamera_any z2 x2 y2 wd2 ht2 p2 q2 w
      rw [hk] at sS1 sS2
      have HSZ : Hid ((k0 = 3 ∧ True) ∨ (k0 = 0 ∧ Hid (∀ w, Calls Try.prog 18 #[camV k1 k2 k3 k4 k5] w fun e w' => e = .returned (.int .i64 0) ∧ Below w.heap.size w w') ∧ k4 = p2)) := hkc.imp id (fun ⟨h1, h2, h3⟩ => ⟨h1, (fun w => h2 ▸ impl_CameraFault_any k1 k2 k3 k4 k5 w), h3⟩)
      clear hk hkc
      refine (sS1 _).mono ?_
      rintro e w5 ⟨rfl, hb⟩
      have HCw5 : Hid (CamAt w5 B3 z x y wd ht) := HCW4.out.belowA hb
      have HRw5 : Hid (CrAt w5 B6 0 z hx hy wd ht) := HRW4.out.belowR hb
      have HQw5 : Hid (CrAt w5 B7 0 z bx by' wd ht) := HQW4.out.belowR hb
      have HDw5 : Hid (CamAt w5 B9 z2 x2 y2 wd2 ht2) := HDW4.out.belowA hb
      have HBw5 : Hid (Below w.heap.size w w5) := bl_then HBW4.out hb
      clear hb HCW4 HRW4 HQW4 HDW4 HBW4
      obtain ⟨d0, d1, d2, d3, d4⟩ := HDw5.out
      have ld := World.block_lt_of_cell? _ _ d0
      go_wp2_with fail
      clear d0 d1 d2 d3 d4 ld
      generalize hWn : (w5.alloc _ : World) = W5
      obtain ⟨B12, hBn⟩ : ∃ B, w5.heap.size = B := ⟨_, rfl⟩
      have hb : Below w5.heap.size w5 W5 := by subst hWn; (repeat (first | exact Below.refl _ _ | assumption | refine Below.drew ?_ | refine bl_alloc ?_ _ | refine bl_then ?_ (by assumption) | refine Below.setCell ?_ (by first | omega | (simp; done) | (simp; omega)) _ | refine bl_store ?_ ?_ _ _))
      have HSW5 : Hid (CrAt W5 B12 k0 k1 k2 k3 k4 k5) := by show CrAt _ _ _ _ _ _ _ _; subst hWn; rw [← hBn]; exact crAt_new _ _ _ _ _ _ _ _
      have HCW5 : Hid (CamAt W5 B3 z x y wd ht) := HCw5.out.belowA hb
      have HRW5 : Hid (CrAt W5 B6 0 z hx hy wd ht) := HRw5.out.belowR hb
      have HQW5 : Hid (CrAt W5 B7 0 z bx by' wd ht) := HQw5.out.belowR hb
      have HDW5 : Hid (CamAt W5 B9 z2 x2 y2 wd2 ht2) := HDw5.out.belowA hb
      have HBW5 : Hid (Below w.heap.size w W5) := bl_then HBw5.out hb
      simp only [hBn]
      clear hWn hBn hb HCw5 HRw5 HQw5 HDw5 HBw5
      refine (HD3.out _ HBW5.out).mono ?_
      rintro e w6 ⟨z3, x3, y3, wd3, ht3, p3, rfl, hb⟩
      have HCw6 : Hid (CamAt w6 B3 z x y wd ht) := HCW5.out.belowA hb
      have HRw6 : Hid (CrAt w6 B6 0 z hx hy wd ht) := HRW5.out.belowR hb
      have HQw6 : Hid (CrAt w6 B7 0 z bx by' wd ht) := HQW5.out.belowR hb
      have HDw6 : Hid (CamAt w6 B9 z2 x2 y2 wd2 ht2) := HDW5.out.belowA hb
      have HSw6 : Hid (CrAt w6 B12 k0 k1 k2 k3 k4 k5) := HSW5.out.belowR hb
      have HBw6 : Hid (Below w.heap.size w w6) := bl_then HBW5.out hb
      clear hb HCW5 HRW5 HQW5 HDW5 HSW5 HBW5
      go_wp2_with fail
      generalize hWn : (w6.alloc _ : World) = W6
      obtain ⟨B13, hBn⟩ : ∃ B, w6.heap.size = B := ⟨_, rfl⟩
      have hb : Below w6.heap.size w6 W6 := by subst hWn; (repeat (first | exact Below.refl _ _ | assumption | refine Below.drew ?_ | refine bl_alloc ?_ _ | refine bl_then ?_ (by assumption) | refine Below.setCell ?_ (by first | omega | (simp; done) | (simp; omega)) _ | refine bl_store ?_ ?_ _ _))
      have HEW6 : Hid (CamAt W6 B13 z3 x3 y3 wd3 ht3) := by show CamAt _ _ _ _ _ _ _; subst hWn; rw [← hBn]; exact camAt_new _ _ _ _ _ _ _
      have HCW6 : Hid (CamAt W6 B3 z x y wd ht) := HCw6.out.belowA hb
      have HRW6 : Hid (CrAt W6 B6 0 z hx hy wd ht) := HRw6.out.belowR hb
      have HQW6 : Hid (CrAt W6 B7 0 z bx by' wd ht) := HQw6.out.belowR hb
      have HDW6 : Hid (CamAt W6 B9 z2 x2 y2 wd2 ht2) := HDw6.out.belowA hb
      have HSW6 : Hid (CrAt W6 B12 k0 k1 k2 k3 k4 k5) := HSw6.out.belowR hb
      have HBW6 : Hid (Below w.heap.size w W6) := bl_then HBw6.out hb
      simp only [hBn]
      clear hWn hBn hb HCw6 HRw6 HQw6 HDw6 HSw6 HBw6
      obtain ⟨l0, l1, l2, l3, l4, l5, hk, hkc⟩ := zoo_k z3 x3 y3 wd3 ht3 p3
      have sZ1 := fun w => impl_ZoomCamera_any z3 x3 y3 wd3 ht3 p3 w
      have sZ2 := fun w => spec_ZoomCamera_any z3 x3 y3 wd3 ht3 p3 w
      rw [hk] at sZ1 sZ2
      have HZM : Hid ((l0 = 3 ∧ True) ∨ (l0 = 0 ∧ Hid (∀ w, Calls Try.prog 18 #[camV l1 l2 l3 l4 l5] w fun e w' => e = .returned (.int .i64 0) ∧ Below w.heap.size w w') ∧ l1 = p3)) := hkc.imp id (fun ⟨h1, h2, h3⟩ => ⟨h1, (fun w => h2 ▸ impl_CameraFault_any l1 l2 l3 l4 l5 w), h3⟩)
      clear hk hkc
      refine (sZ1 _).mono ?_
      rintro e w7 ⟨rfl, hb⟩
      have HCw7 : Hid (CamAt w7 B3 z x y wd ht) := HCW6.out.belowA hb
      have HRw7 : Hid (CrAt w7 B6 0 z hx hy wd ht) := HRW6.out.belowR hb
      have HQw7 : Hid (CrAt w7 B7 0 z bx by' wd ht) := HQW6.out.belowR hb
      have HDw7 : Hid (CamAt w7 B9 z2 x2 y2 wd2 ht2) := HDW6.out.belowA hb
      have HSw7 : Hid (CrAt w7 B12 k0 k1 k2 k3 k4 k5) := HSW6.out.belowR hb
      have HEw7 : Hid (CamAt w7 B13 z3 x3 y3 wd3 ht3) := HEW6.out.belowA hb
      have HBw7 : Hid (Below w.heap.size w w7) := bl_then HBW6.out hb
      clear hb HCW6 HRW6 HQW6 HDW6 HSW6 HEW6 HBW6
      go_wp2_with fail
      generalize hWn : (w7.alloc _ : World) = W7
      obtain ⟨B15, hBn⟩ : ∃ B, w7.heap.size = B := ⟨_, rfl⟩
      have hb : Below w7.heap.size w7 W7 := by subst hWn; (repeat (first | exact Below.refl _ _ | assumption | refine Below.drew ?_ | refine bl_alloc ?_ _ | refine bl_then ?_ (by assumption) | refine Below.setCell ?_ (by first | omega | (simp; done) | (simp; omega)) _ | refine bl_store ?_ ?_ _ _))
      have HXW7 : Hid (CrAt W7 B15 l0 l1 l2 l3 l4 l5) := by show CrAt _ _ _ _ _ _ _ _; subst hWn; rw [← hBn]; exact crAt_new _ _ _ _ _ _ _ _
      have HCW7 : Hid (CamAt W7 B3 z x y wd ht) := HCw7.out.belowA hb
      have HRW7 : Hid (CrAt W7 B6 0 z hx hy wd ht) := HRw7.out.belowR hb
      have HQW7 : Hid (CrAt W7 B7 0 z bx by' wd ht) := HQw7.out.belowR hb
      have HDW7 : Hid (CamAt W7 B9 z2 x2 y2 wd2 ht2) := HDw7.out.belowA hb
      have HSW7 : Hid (CrAt W7 B12 k0 k1 k2 k3 k4 k5) := HSw7.out.belowR hb
      have HEW7 : Hid (CamAt W7 B13 z3 x3 y3 wd3 ht3) := HEw7.out.belowA hb
      have HBW7 : Hid (Below w.heap.size w W7) := bl_then HBw7.out hb
      simp only [hBn]
      clear hWn hBn hb HCw7 HRw7 HQw7 HDw7 HSw7 HEw7 HBw7
      have d0 : ∀ W', Below W7.heap.size W7 W' → W'.cell? ⟨B9, 0, none⟩ = some (.int .i64 z2) := fun W' h => (HDW7.out.belowA h).1
      have d1 : ∀ W', Below W7.heap.size W7 W' → W'.cell? ⟨B9, 1, none⟩ = some (.int .i64 x2) := fun W' h => (HDW7.out.belowA h).2.1
      have d2 : ∀ W', Below W7.heap.size W7 W' → W'.cell? ⟨B9, 2, none⟩ = some (.int .i64 y2) := fun W' h => (HDW7.out.belowA h).2.2.1
      have d3 : ∀ W', Below W7.heap.size W7 W' → W'.cell? ⟨B9, 3, none⟩ = some (.int .i64 wd2) := fun W' h => (HDW7.out.belowA h).2.2.2.1
      have d4 : ∀ W', Below W7.heap.size W7 W' → W'.cell? ⟨B9, 4, none⟩ = some (.int .i64 ht2) := fun W' h => (HDW7.out.belowA h).2.2.2.2
      have s0 : ∀ W', Below W7.heap.size W7 W' → W'.cell? ⟨B12, 0, none⟩ = some (.int .i64 k0) := fun W' h => (HSW7.out.belowR h).1
      have s1 : ∀ W', Below W7.heap.size W7 W' → W'.cell? ⟨B12, 1, none⟩ = some (.int .i64 k1) := fun W' h => (HSW7.out.belowR h).2.1
      have s2 : ∀ W', Below W7.heap.size W7 W' → W'.cell? ⟨B12, 2, none⟩ = some (.int .i64 k2) := fun W' h => (HSW7.out.belowR h).2.2.1
      have s3 : ∀ W', Below W7.heap.size W7 W' → W'.cell? ⟨B12, 3, none⟩ = some (.int .i64 k3) := fun W' h => (HSW7.out.belowR h).2.2.2.1
      have s4 : ∀ W', Below W7.heap.size W7 W' → W'.cell? ⟨B12, 4, none⟩ = some (.int .i64 k4) := fun W' h => (HSW7.out.belowR h).2.2.2.2.1
      have s5 : ∀ W', Below W7.heap.size W7 W' → W'.cell? ⟨B12, 5, none⟩ = some (.int .i64 k5) := fun W' h => (HSW7.out.belowR h).2.2.2.2.2
      have m0 : ∀ W', Below W7.heap.size W7 W' → W'.cell? ⟨B13, 0, none⟩ = some (.int .i64 z3) := fun W' h => (HEW7.out.belowA h).1
      have m1 : ∀ W', Below W7.heap.size W7 W' → W'.cell? ⟨B13, 1, none⟩ = some (.int .i64 x3) := fun W' h => (HEW7.out.belowA h).2.1
      have m2 : ∀ W', Below W7.heap.size W7 W' → W'.cell? ⟨B13, 2, none⟩ = some (.int .i64 y3) := fun W' h => (HEW7.out.belowA h).2.2.1
      have m3 : ∀ W', Below W7.heap.size W7 W' → W'.cell? ⟨B13, 3, none⟩ = some (.int .i64 wd3) := fun W' h => (HEW7.out.belowA h).2.2.2.1
      have m4 : ∀ W', Below W7.heap.size W7 W' → W'.cell? ⟨B13, 4, none⟩ = some (.int .i64 ht3) := fun W' h => (HEW7.out.belowA h).2.2.2.2
      have xx0 : ∀ W', Below W7.heap.size W7 W' → W'.cell? ⟨B15, 0, none⟩ = some (.int .i64 l0) := fun W' h => (HXW7.out.belowR h).1
      have xx1 : ∀ W', Below W7.heap.size W7 W' → W'.cell? ⟨B15, 1, none⟩ = some (.int .i64 l1) := fun W' h => (HXW7.out.belowR h).2.1
      have xx2 : ∀ W', Below W7.heap.size W7 W' → W'.cell? ⟨B15, 2, none⟩ = some (.int .i64 l2) := fun W' h => (HXW7.out.belowR h).2.2.1
      have xx3 : ∀ W', Below W7.heap.size W7 W' → W'.cell? ⟨B15, 3, none⟩ = some (.int .i64 l3) := fun W' h => (HXW7.out.belowR h).2.2.2.1
      have xx4 : ∀ W', Below W7.heap.size W7 W' → W'.cell? ⟨B15, 4, none⟩ = some (.int .i64 l4) := fun W' h => (HXW7.out.belowR h).2.2.2.2.1
      have xx5 : ∀ W', Below W7.heap.size W7 W' → W'.cell? ⟨B15, 5, none⟩ = some (.int .i64 l5) := fun W' h => (HXW7.out.belowR h).2.2.2.2.2
      have hrr : Below W7.heap.size W7 W7 := Below.refl _ _
      go_region_held3 (fun W' => Below W7.heap.size W7 W') ((repeat (first | exact Below.refl _ _ | assumption | refine Below.drew ?_ | refine bl_alloc ?_ _ | refine bl_then ?_ (by assumption) | refine Below.setCell ?_ (by first | omega | (simp; done) | (simp; omega)) _ | refine bl_store ?_ ?_ _ _)))
        (first
          | (go_at_call 16; refine (sS2 _).mono ?_; rintro e w8 ⟨rfl, hb⟩)
          | (go_at_call 17; refine (sZ2 _).mono ?_; rintro e w8 ⟨rfl, hb⟩)
          | fail)
      rename_i hfin
      generalize w8 = W at *
      have HBW : Hid (Below w.heap.size w W) := bl_then HBW7.out hfin
      have ye0 : ∀ W', Below W.heap.size W W' → W'.cell? ⟨B3, 0, none⟩ = some (.int .i64 z) := fun W' h => (HCW7.out.belowA (bl_then hfin h)).1
      have ye1 : ∀ W', Below W.heap.size W W' → W'.cell? ⟨B3, 1, none⟩ = some (.int .i64 x) := fun W' h => (HCW7.out.belowA (bl_then hfin h)).2.1
      have ye2 : ∀ W', Below W.heap.size W W' → W'.cell? ⟨B3, 2, none⟩ = some (.int .i64 y) := fun W' h => (HCW7.out.belowA (bl_then hfin h)).2.2.1
      have ye3 : ∀ W', Below W.heap.size W W' → W'.cell? ⟨B3, 3, none⟩ = some (.int .i64 wd) := fun W' h => (HCW7.out.belowA (bl_then hfin h)).2.2.2.1
      have ye4 : ∀ W', Below W.heap.size W W' → W'.cell? ⟨B3, 4, none⟩ = some (.int .i64 ht) := fun W' h => (HCW7.out.belowA (bl_then hfin h)).2.2.2.2
      have yr0 : ∀ W', Below W.heap.size W W' → W'.cell? ⟨B6, 0, none⟩ = some (.int .i64 0) := fun W' h => (HRW7.out.belowR (bl_then hfin h)).1
      have yr1 : ∀ W', Below W.heap.size W W' → W'.cell? ⟨B6, 1, none⟩ = some (.int .i64 z) := fun W' h => (HRW7.out.belowR (bl_then hfin h)).2.1
      have yr2 : ∀ W', Below W.heap.size W W' → W'.cell? ⟨B6, 2, none⟩ = some (.int .i64 hx) := fun W' h => (HRW7.out.belowR (bl_then hfin h)).2.2.1
      have yr3 : ∀ W', Below W.heap.size W W' → W'.cell? ⟨B6, 3, none⟩ = some (.int .i64 hy) := fun W' h => (HRW7.out.belowR (bl_then hfin h)).2.2.2.1
      have yr4 : ∀ W', Below W.heap.size W W' → W'.cell? ⟨B6, 4, none⟩ = some (.int .i64 wd) := fun W' h => (HRW7.out.belowR (bl_then hfin h)).2.2.2.2.1
      have yr5 : ∀ W', Below W.heap.size W W' → W'.cell? ⟨B6, 5, none⟩ = some (.int .i64 ht) := fun W' h => (HRW7.out.belowR (bl_then hfin h)).2.2.2.2.2
      have yq0 : ∀ W', Below W.heap.size W W' → W'.cell? ⟨B7, 0, none⟩ = some (.int .i64 0) := fun W' h => (HQW7.out.belowR (bl_then hfin h)).1
      have yq1 : ∀ W', Below W.heap.size W W' → W'.cell? ⟨B7, 1, none⟩ = some (.int .i64 z) := fun W' h => (HQW7.out.belowR (bl_then hfin h)).2.1
      have yq2 : ∀ W', Below W.heap.size W W' → W'.cell? ⟨B7, 2, none⟩ = some (.int .i64 bx) := fun W' h => (HQW7.out.belowR (bl_then hfin h)).2.2.1
      have yq3 : ∀ W', Below W.heap.size W W' → W'.cell? ⟨B7, 3, none⟩ = some (.int .i64 by') := fun W' h => (HQW7.out.belowR (bl_then hfin h)).2.2.2.1
      have yq4 : ∀ W', Below W.heap.size W W' → W'.cell? ⟨B7, 4, none⟩ = some (.int .i64 wd) := fun W' h => (HQW7.out.belowR (bl_then hfin h)).2.2.2.2.1
      have yq5 : ∀ W', Below W.heap.size W W' → W'.cell? ⟨B7, 5, none⟩ = some (.int .i64 ht) := fun W' h => (HQW7.out.belowR (bl_then hfin h)).2.2.2.2.2
      have yt0 : ∀ W', Below W.heap.size W W' → W'.cell? ⟨B12, 0, none⟩ = some (.int .i64 k0) := fun W' h => (HSW7.out.belowR (bl_then hfin h)).1
      have yt1 : ∀ W', Below W.heap.size W W' → W'.cell? ⟨B12, 1, none⟩ = some (.int .i64 k1) := fun W' h => (HSW7.out.belowR (bl_then hfin h)).2.1
      have yt2 : ∀ W', Below W.heap.size W W' → W'.cell? ⟨B12, 2, none⟩ = some (.int .i64 k2) := fun W' h => (HSW7.out.belowR (bl_then hfin h)).2.2.1
      have yt3 : ∀ W', Below W.heap.size W W' → W'.cell? ⟨B12, 3, none⟩ = some (.int .i64 k3) := fun W' h => (HSW7.out.belowR (bl_then hfin h)).2.2.2.1
      have yt4 : ∀ W', Below W.heap.size W W' → W'.cell? ⟨B12, 4, none⟩ = some (.int .i64 k4) := fun W' h => (HSW7.out.belowR (bl_then hfin h)).2.2.2.2.1
      have yt5 : ∀ W', Below W.heap.size W W' → W'.cell? ⟨B12, 5, none⟩ = some (.int .i64 k5) := fun W' h => (HSW7.out.belowR (bl_then hfin h)).2.2.2.2.2
      have yu0 : ∀ W', Below W.heap.size W W' → W'.cell? ⟨B15, 0, none⟩ = some (.int .i64 l0) := fun W' h => (HXW7.out.belowR (bl_then hfin h)).1
      have yu1 : ∀ W', Below W.heap.size W W' → W'.cell? ⟨B15, 1, none⟩ = some (.int .i64 l1) := fun W' h => (HXW7.out.belowR (bl_then hfin h)).2.1
      have yu2 : ∀ W', Below W.heap.size W W' → W'.cell? ⟨B15, 2, none⟩ = some (.int .i64 l2) := fun W' h => (HXW7.out.belowR (bl_then hfin h)).2.2.1
      have yu3 : ∀ W', Below W.heap.size W W' → W'.cell? ⟨B15, 3, none⟩ = some (.int .i64 l3) := fun W' h => (HXW7.out.belowR (bl_then hfin h)).2.2.2.1
      have yu4 : ∀ W', Below W.heap.size W W' → W'.cell? ⟨B15, 4, none⟩ = some (.int .i64 l4) := fun W' h => (HXW7.out.belowR (bl_then hfin h)).2.2.2.2.1
      have yu5 : ∀ W', Below W.heap.size W W' → W'.cell? ⟨B15, 5, none⟩ = some (.int .i64 l5) := fun W' h => (HXW7.out.belowR (bl_then hfin h)).2.2.2.2.2
      clear d0 d1 d2 d3 d4 s0 s1 s2 s3 s4 s5 m0 m1 m2 m3 m4 xx0 xx1 xx2 xx3 xx4 xx5 hfin hrr HBW7 HCW7 HRW7 HQW7 HDW7 HSW7 HEW7 HXW7 sS1 sS2 sZ1 sZ2 HD1 HD2 HD3
      have sP2 := sP
      go_wp2_with fail
      simp only [List.append_eq, List.cons_append, List.nil_append]
      have hrW : Below W.heap.size W W := Below.refl _ _
      refine wp_region_noPanic ?_
      refine wp_region_held_drew (S := fun W' => Below W.heap.size W W') (by kernel_rfl) (by (repeat (first | exact Below.refl _ _ | assumption | refine Below.drew ?_ | refine bl_alloc ?_ _ | refine bl_then ?_ (by assumption) | refine Below.setCell ?_ (by first | omega | (simp; done) | (simp; omega)) _ | refine bl_store ?_ ?_ _ _))) (fun hHeld => ?_)
      have hBd : Below W.heap.size W W.drew := hHeld
      refine takeD (i := 0) (d := some 99) (v := ?va0) rfl rfl (by kernel_rfl) (by kernel_rfl) (by kernel_rfl) (fun _ _ _ h => h) (Or.inl ⟨by rfl, ?hya0⟩) (by assumption) ?_
      case hya0 => (intro w hSw; (try dsimp only at hSw); go_simp <;> with_reducible rfl)
      try simp only [Act.put, List.setIfInBounds_toArray, List.set_cons_zero, List.set_cons_succ]
      refine takeD (i := 1) (d := some 100) (v := ?va1) rfl rfl (by kernel_rfl) (by kernel_rfl) (by kernel_rfl) (fun _ _ _ h => h) (Or.inl ⟨by rfl, ?hya1⟩) (by assumption) ?_
      case hya1 => (intro w hSw; (try dsimp only at hSw); go_simp <;> with_reducible rfl)
      try simp only [Act.put, List.setIfInBounds_toArray, List.set_cons_zero, List.set_cons_succ]
      refine wpAnyH_ready (rs := [2]) (by kernel_rfl) (by simp) ?_
      refine (AllReadyH.cons rfl (fun K hK => ?_) AllReadyH.nil)
      rw [if_pos (by rfl)]
      go_simp
      refine Calls.mono (sF1 _) ?_
      rintro e wq2 ⟨rfl, hq2⟩
      have hB2 : Below W.heap.size W wq2 := bl_then hBd hq2
      go_wp2_with fail
      refine hK.out _ _ hB2 (fun hHeld => ?_)
      clear hK K
      try simp only [Act.put, List.setIfInBounds_toArray, List.set_cons_zero, List.set_cons_succ]
      refine takeD (i := 3) (d := some 102) (v := ?va3) rfl rfl (by kernel_rfl) (by kernel_rfl) (by kernel_rfl) (fun _ _ _ h => h) (Or.inl ⟨by rfl, ?hya3⟩) (by assumption) ?_
      case hya3 => (intro w hSw; (try dsimp only at hSw); go_simp <;> with_reducible rfl)
      try simp only [Act.put, List.setIfInBounds_toArray, List.set_cons_zero, List.set_cons_succ]
      refine takeD (i := 4) (d := some 103) (v := ?va4) rfl rfl (by kernel_rfl) (by kernel_rfl) (by kernel_rfl) (fun _ _ _ h => h) (Or.inl ⟨by rfl, ?hya4⟩) (by assumption) ?_
      case hya4 => (intro w hSw; (try dsimp only at hSw); go_simp <;> with_reducible rfl)
      try simp only [Act.put, List.setIfInBounds_toArray, List.set_cons_zero, List.set_cons_succ]
      refine takeD (i := 5) (d := some 104) (v := ?va5) rfl rfl (by kernel_rfl) (by kernel_rfl) (by kernel_rfl) (fun _ _ _ h => h) (Or.inl ⟨by rfl, ?hya5⟩) (by assumption) ?_
      case hya5 => (intro w hSw; (try dsimp only at hSw); go_simp <;> with_reducible rfl)
      try simp only [Act.put, List.setIfInBounds_toArray, List.set_cons_zero, List.set_cons_succ]
      refine takeD (i := 6) (d := some 105) (v := ?va6) rfl rfl (by kernel_rfl) (by kernel_rfl) (by kernel_rfl) (fun _ _ _ h => h) (Or.inl ⟨by rfl, ?hya6⟩) (by assumption) ?_
      case hya6 => (intro w hSw; (try dsimp only at hSw); go_simp <;> with_reducible rfl)
      try simp only [Act.put, List.setIfInBounds_toArray, List.set_cons_zero, List.set_cons_succ]
      refine takeD (i := 7) (d := some 106) (v := ?va7) rfl rfl (by kernel_rfl) (by kernel_rfl) (by kernel_rfl) (fun _ _ _ h => h) (Or.inl ⟨by rfl, ?hya7⟩) (by assumption) ?_
      case hya7 => (intro w hSw; (try dsimp only at hSw); go_simp <;> with_reducible rfl)
      try simp only [Act.put, List.setIfInBounds_toArray, List.set_cons_zero, List.set_cons_succ]
      refine takeD (i := 8) (d := some 107) (v := ?va8) rfl rfl (by kernel_rfl) (by kernel_rfl) (by kernel_rfl) (fun _ _ _ h => h) (Or.inl ⟨by rfl, ?hya8⟩) (by assumption) ?_
      case hya8 => (intro w hSw; (try dsimp only at hSw); go_simp <;> with_reducible rfl)
      try simp only [Act.put, List.setIfInBounds_toArray, List.set_cons_zero, List.set_cons_succ]
      refine takeD (i := 9) (d := some 108) (v := ?va9) rfl rfl (by kernel_rfl) (by kernel_rfl) (by kernel_rfl) (fun _ _ _ h => h) (Or.inl ⟨by rfl, ?hya9⟩) (by assumption) ?_
      case hya9 => (intro w hSw; (try dsimp only at hSw); go_simp <;> with_reducible rfl)
      try simp only [Act.put, List.setIfInBounds_toArray, List.set_cons_zero, List.set_cons_succ]
      refine takeD (i := 10) (d := some 109) (v := ?va10) rfl rfl (by kernel_rfl) (by kernel_rfl) (by kernel_rfl) (fun _ _ _ h => h) (Or.inl ⟨by rfl, ?hya10⟩) (by assumption) ?_
      case hya10 => (intro w hSw; (try dsimp only at hSw); go_simp <;> with_reducible rfl)
      try simp only [Act.put, List.setIfInBounds_toArray, List.set_cons_zero, List.set_cons_succ]
      refine takeD (i := 11) (d := some 110) (v := ?va11) rfl rfl (by kernel_rfl) (by kernel_rfl) (by kernel_rfl) (fun _ _ _ h => h) (Or.inl ⟨by rfl, ?hya11⟩) (by assumption) ?_
      case hya11 => (intro w hSw; (try dsimp only at hSw); go_simp <;> with_reducible rfl)
      try simp only [Act.put, List.setIfInBounds_toArray, List.set_cons_zero, List.set_cons_succ]
      refine takeD (i := 12) (d := some 111) (v := ?va12) rfl rfl (by kernel_rfl) (by kernel_rfl) (by kernel_rfl) (fun _ _ _ h => h) (Or.inl ⟨by rfl, ?hya12⟩) (by assumption) ?_
      case hya12 => (intro w hSw; (try dsimp only at hSw); go_simp <;> with_reducible rfl)
      try simp only [Act.put, List.setIfInBounds_toArray, List.set_cons_zero, List.set_cons_succ]
      refine takeD (i := 13) (d := some 112) (v := ?va13) rfl rfl (by kernel_rfl) (by kernel_rfl) (by kernel_rfl) (fun _ _ _ h => h) (Or.inl ⟨by rfl, ?hya13⟩) (by assumption) ?_
      case hya13 => (intro w hSw; (try dsimp only at hSw); go_simp <;> with_reducible rfl)
      try simp only [Act.put, List.setIfInBounds_toArray, List.set_cons_zero, List.set_cons_succ]
      refine takeD (i := 14) (d := some 113) (v := ?va14) rfl rfl (by kernel_rfl) (by kernel_rfl) (by kernel_rfl) (fun _ _ _ h => h) (Or.inl ⟨by rfl, ?hya14⟩) (by assumption) ?_
      case hya14 => (intro w hSw; (try dsimp only at hSw); go_simp <;> with_reducible rfl)
      try simp only [Act.put, List.setIfInBounds_toArray, List.set_cons_zero, List.set_cons_succ]
      refine takeD (i := 15) (d := some 114) (v := ?va15) rfl rfl (by kernel_rfl) (by kernel_rfl) (by kernel_rfl) (fun _ _ _ h => h) (Or.inl ⟨by rfl, ?hya15⟩) (by assumption) ?_
      case hya15 => (intro w hSw; (try dsimp only at hSw); go_simp <;> with_reducible rfl)
      try simp only [Act.put, List.setIfInBounds_toArray, List.set_cons_zero, List.set_cons_succ]
      refine takeD (i := 16) (d := some 115) (v := ?va16) rfl rfl (by kernel_rfl) (by kernel_rfl) (by kernel_rfl) (fun _ _ _ h => h) (Or.inl ⟨by rfl, ?hya16⟩) (by assumption) ?_
      case hya16 => (intro w hSw; (try dsimp only at hSw); go_simp <;> with_reducible rfl)
      try simp only [Act.put, List.setIfInBounds_toArray, List.set_cons_zero, List.set_cons_succ]
      refine takeD (i := 17) (d := some 116) (v := ?va17) rfl rfl (by kernel_rfl) (by kernel_rfl) (by kernel_rfl) (fun _ _ _ h => h) (Or.inl ⟨by rfl, ?hya17⟩) (by assumption) ?_
      case hya17 => (intro w hSw; (try dsimp only at hSw); go_simp <;> with_reducible rfl)
      try simp only [Act.put, List.setIfInBounds_toArray, List.set_cons_zero, List.set_cons_succ]
      refine takeD (i := 18) (d := some 117) (v := ?va18) rfl rfl (by kernel_rfl) (by kernel_rfl) (by kernel_rfl) (fun _ _ _ h => h) (Or.inl ⟨by rfl, ?hya18⟩) (by assumption) ?_
      case hya18 => (intro w hSw; (try dsimp only at hSw); go_simp <;> with_reducible rfl)
      try simp only [Act.put, List.setIfInBounds_toArray, List.set_cons_zero, List.set_cons_succ]
      refine takeD (i := 19) (d := some 118) (v := ?va19) rfl rfl (by kernel_rfl) (by kernel_rfl) (by kernel_rfl) (fun _ _ _ h => h) (Or.inl ⟨by rfl, ?hya19⟩) (by assumption) ?_
      case hya19 => (intro w hSw; (try dsimp only at hSw); go_simp <;> with_reducible rfl)
      try simp only [Act.put, List.setIfInBounds_toArray, List.set_cons_zero, List.set_cons_succ]
      refine takeD (i := 20) (d := some 119) (v := ?va20) rfl rfl (by kernel_rfl) (by kernel_rfl) (by kernel_rfl) (fun _ _ _ h => h) (Or.inl ⟨by rfl, ?hya20⟩) (by assumption) ?_
      case hya20 => (intro w hSw; (try dsimp only at hSw); go_simp <;> with_reducible rfl)
      try simp only [Act.put, List.setIfInBounds_toArray, List.set_cons_zero, List.set_cons_succ]
      refine takeD (i := 21) (d := some 120) (v := ?va21) rfl rfl (by kernel_rfl) (by kernel_rfl) (by kernel_rfl) (fun _ _ _ h => h) (Or.inl ⟨by rfl, ?hya21⟩) (by assumption) ?_
      case hya21 => (intro w hSw; (try dsimp only at hSw); go_simp <;> with_reducible rfl)
      try simp only [Act.put, List.setIfInBounds_toArray, List.set_cons_zero, List.set_cons_succ]
      refine takeD (i := 22) (d := some 121) (v := ?va22) rfl rfl (by kernel_rfl) (by kernel_rfl) (by kernel_rfl) (fun _ _ _ h => h) (Or.inl ⟨by rfl, ?hya22⟩) (by assumption) ?_
      case hya22 => (intro w hSw; (try dsimp only at hSw); go_simp <;> with_reducible rfl)
      try simp only [Act.put, List.setIfInBounds_toArray, List.set_cons_zero, List.set_cons_succ]
      cases H
      · skip
        have hEq := HEQ.out rfl
        as_aux_lemma =>
          refine takeD (i := 23) (d := some 122) (v := ?vb023) rfl rfl (by kernel_rfl) (by kernel_rfl) (by kernel_rfl) (fun _ _ _ h => h) (Or.inl ⟨by rfl, ?hyb023⟩) (by assumption) ?_
          case hyb023 => (intro w hSw; (try dsimp only at hSw); go_simp <;> with_reducible rfl)
          try simp only [Act.put, List.setIfInBounds_toArray, List.set_cons_zero, List.set_cons_succ]
          refine takeD (i := 24) (d := some 123) (v := ?vb024) rfl rfl (by kernel_rfl) (by kernel_rfl) (by kernel_rfl) (fun _ _ _ h => h) (Or.inl ⟨by rfl, ?hyb024⟩) (by assumption) ?_
          case hyb024 => (intro w hSw; (try dsimp only at hSw); go_simp <;> with_reducible rfl)
          try simp only [Act.put, List.setIfInBounds_toArray, List.set_cons_zero, List.set_cons_succ]
          refine takeD (i := 25) (d := some 124) (v := ?vb025) rfl rfl (by kernel_rfl) (by kernel_rfl) (by kernel_rfl) (fun _ _ _ h => h) (Or.inl ⟨by rfl, ?hyb025⟩) (by assumption) ?_
          case hyb025 => (intro w hSw; (try dsimp only at hSw); go_simp <;> with_reducible rfl)
          try simp only [Act.put, List.setIfInBounds_toArray, List.set_cons_zero, List.set_cons_succ]
          refine takeD (i := 26) (d := some 125) (v := ?vb026) rfl rfl (by kernel_rfl) (by kernel_rfl) (by kernel_rfl) (fun _ _ _ h => h) (Or.inl ⟨by rfl, ?hyb026⟩) (by assumption) ?_
          case hyb026 => (intro w hSw; (try dsimp only at hSw); go_simp <;> with_reducible rfl)
          try simp only [Act.put, List.setIfInBounds_toArray, List.set_cons_zero, List.set_cons_succ]
          refine takeD (i := 27) (d := some 126) (v := ?vb027) rfl rfl (by kernel_rfl) (by kernel_rfl) (by kernel_rfl) (fun _ _ _ h => h) (Or.inl ⟨by rfl, ?hyb027⟩) (by assumption) ?_
          case hyb027 => (intro w hSw; (try dsimp only at hSw); go_simp <;> with_reducible rfl)
          try simp only [Act.put, List.setIfInBounds_toArray, List.set_cons_zero, List.set_cons_succ]
          refine takeD (i := 28) (d := some 127) (v := ?vb028) rfl rfl (by kernel_rfl) (by kernel_rfl) (by kernel_rfl) (fun _ _ _ h => h) (Or.inl ⟨by rfl, ?hyb028⟩) (by assumption) ?_
          case hyb028 => (intro w hSw; (try dsimp only at hSw); go_simp <;> with_reducible rfl)
          try simp only [Act.put, List.setIfInBounds_toArray, List.set_cons_zero, List.set_cons_succ]
          refine takeD (i := 29) (d := some 128) (v := ?vb029) rfl rfl (by kernel_rfl) (by kernel_rfl) (by kernel_rfl) (fun _ _ _ h => h) (Or.inl ⟨by rfl, ?hyb029⟩) (by assumption) ?_
          case hyb029 => (intro w hSw; (try dsimp only at hSw); go_simp <;> with_reducible rfl)
          try simp only [Act.put, List.setIfInBounds_toArray, List.set_cons_zero, List.set_cons_succ]
          rcases HSZ.out with ⟨e1, hs0⟩ | ⟨e1, e2, e3⟩
          · subst e1
            as_aux_lemma =>
              refine takeD (i := 30) (d := some 129) (v := ?vc0130) rfl rfl (by kernel_rfl) (by kernel_rfl) (by kernel_rfl) (fun _ _ _ h => h) (Or.inl ⟨by rfl, ?hyc0130⟩) (by assumption) ?_
              case hyc0130 => (intro w hSw; (try dsimp only at hSw); go_simp <;> with_reducible rfl)
              try simp only [Act.put, List.setIfInBounds_toArray, List.set_cons_zero, List.set_cons_succ]
              refine takeD (i := 31) (d := some 130) (v := ?vc0131) rfl rfl (by kernel_rfl) (by kernel_rfl) (by kernel_rfl) (fun _ _ _ h => h) (Or.inl ⟨by rfl, ?hyc0131⟩) (by assumption) ?_
              case hyc0131 => (intro w hSw; (try dsimp only at hSw); go_simp <;> with_reducible rfl)
              try simp only [Act.put, List.setIfInBounds_toArray, List.set_cons_zero, List.set_cons_succ]
              refine takeD (i := 32) (d := some 131) (v := ?vc0132) rfl rfl (by kernel_rfl) (by kernel_rfl) (by kernel_rfl) (fun _ _ _ h => h) (Or.inl ⟨by rfl, ?hyc0132⟩) (by assumption) ?_
              case hyc0132 => (intro w hSw; (try dsimp only at hSw); go_simp <;> with_reducible rfl)
              try simp only [Act.put, List.setIfInBounds_toArray, List.set_cons_zero, List.set_cons_succ]
              refine takeD (i := 33) (d := some 132) (v := ?vc0133) rfl rfl (by kernel_rfl) (by kernel_rfl) (by kernel_rfl) (fun _ _ _ h => h) (Or.inl ⟨by rfl, ?hyc0133⟩) (by assumption) ?_
              case hyc0133 => (intro w hSw; (try dsimp only at hSw); go_simp <;> with_reducible rfl)
              try simp only [Act.put, List.setIfInBounds_toArray, List.set_cons_zero, List.set_cons_succ]
              refine passD (i := 34) (d := some 133) rfl rfl (by kernel_rfl) (by kernel_rfl) (by kernel_rfl) (fun _ _ _ h => h) (by rfl) (by assumption) ?_
              try simp only [Act.put, List.setIfInBounds_toArray, List.set_cons_zero, List.set_cons_succ]
              refine passD (i := 35) (d := some 134) rfl rfl (by kernel_rfl) (by kernel_rfl) (by kernel_rfl) (fun _ _ _ h => h) (by rfl) (by assumption) ?_
              try simp only [Act.put, List.setIfInBounds_toArray, List.set_cons_zero, List.set_cons_succ]
              refine passD (i := 36) (d := some 135) rfl rfl (by kernel_rfl) (by kernel_rfl) (by kernel_rfl) (fun _ _ _ h => h) (by rfl) (by assumption) ?_
              try simp only [Act.put, List.setIfInBounds_toArray, List.set_cons_zero, List.set_cons_succ]
              refine passD (i := 37) (d := some 136) rfl rfl (by kernel_rfl) (by kernel_rfl) (by kernel_rfl) (fun _ _ _ h => h) (by rfl) (by assumption) ?_
              try simp only [Act.put, List.setIfInBounds_toArray, List.set_cons_zero, List.set_cons_succ]
              refine passD (i := 38) (d := some 137) rfl rfl (by kernel_rfl) (by kernel_rfl) (by kernel_rfl) (fun _ _ _ h => h) (by rfl) (by assumption) ?_
              try simp only [Act.put, List.setIfInBounds_toArray, List.set_cons_zero, List.set_cons_succ]
              refine passD (i := 39) (d := some 138) rfl rfl (by kernel_rfl) (by kernel_rfl) (by kernel_rfl) (fun _ _ _ h => h) (by rfl) (by assumption) ?_
              try simp only [Act.put, List.setIfInBounds_toArray, List.set_cons_zero, List.set_cons_succ]
              refine passD (i := 40) (d := some 139) rfl rfl (by kernel_rfl) (by kernel_rfl) (by kernel_rfl) (fun _ _ _ h => h) (by rfl) (by assumption) ?_
              try simp only [Act.put, List.setIfInBounds_toArray, List.set_cons_zero, List.set_cons_succ]
              refine passD (i := 41) (d := some 140) rfl rfl (by kernel_rfl) (by kernel_rfl) (by kernel_rfl) (fun _ _ _ h => h) (by rfl) (by assumption) ?_
              try simp only [Act.put, List.setIfInBounds_toArray, List.set_cons_zero, List.set_cons_succ]
              refine passD (i := 42) (d := some 141) rfl rfl (by kernel_rfl) (by kernel_rfl) (by kernel_rfl) (fun _ _ _ h => h) (by rfl) (by assumption) ?_
              try simp only [Act.put, List.setIfInBounds_toArray, List.set_cons_zero, List.set_cons_succ]
              refine passD (i := 43) (d := some 142) rfl rfl (by kernel_rfl) (by kernel_rfl) (by kernel_rfl) (fun _ _ _ h => h) (by rfl) (by assumption) ?_
              try simp only [Act.put, List.setIfInBounds_toArray, List.set_cons_zero, List.set_cons_succ]
              refine passD (i := 44) (d := some 143) rfl rfl (by kernel_rfl) (by kernel_rfl) (by kernel_rfl) (fun _ _ _ h => h) (by rfl) (by assumption) ?_
              try simp only [Act.put, List.setIfInBounds_toArray, List.set_cons_zero, List.set_cons_succ]
              refine takeD (i := 45) (d := some 144) (v := ?vc0145) rfl rfl (by kernel_rfl) (by kernel_rfl) (by kernel_rfl) (fun _ _ _ h => h) (Or.inl ⟨by rfl, ?hyc0145⟩) (by assumption) ?_
              case hyc0145 => (intro w hSw; (try dsimp only at hSw); go_simp <;> with_reducible rfl)
              try simp only [Act.put, List.setIfInBounds_toArray, List.set_cons_zero, List.set_cons_succ]
              refine takeD (i := 46) (d := some 145) (v := ?vc0146) rfl rfl (by kernel_rfl) (by kernel_rfl) (by kernel_rfl) (fun _ _ _ h => h) (Or.inl ⟨by rfl, ?hyc0146⟩) (by assumption) ?_
              case hyc0146 => (intro w hSw; (try dsimp only at hSw); go_simp <;> with_reducible rfl)
              try simp only [Act.put, List.setIfInBounds_toArray, List.set_cons_zero, List.set_cons_succ]
              refine takeD (i := 47) (d := some 146) (v := ?vc0147) rfl rfl (by kernel_rfl) (by kernel_rfl) (by kernel_rfl) (fun _ _ _ h => h) (Or.inl ⟨by rfl, ?hyc0147⟩) (by assumption) ?_
              case hyc0147 => (intro w hSw; (try dsimp only at hSw); go_simp <;> with_reducible rfl)
              try simp only [Act.put, List.setIfInBounds_toArray, List.set_cons_zero, List.set_cons_succ]
              rcases HZM.out with ⟨g1, gs0⟩ | ⟨g1, g2, g3⟩
              · subst g1
                as_aux_lemma =>
                  refine takeD (i := 48) (d := some 147) (v := ?vd01148) rfl rfl (by kernel_rfl) (by kernel_rfl) (by kernel_rfl) (fun _ _ _ h => h) (Or.inl ⟨by rfl, ?hyd01148⟩) (by assumption) ?_
                  case hyd01148 => (intro w hSw; (try dsimp only at hSw); go_simp <;> with_reducible rfl)
                  try simp only [Act.put, List.setIfInBounds_toArray, List.set_cons_zero, List.set_cons_succ]
                  refine takeD (i := 49) (d := some 148) (v := ?vd01149) rfl rfl (by kernel_rfl) (by kernel_rfl) (by kernel_rfl) (fun _ _ _ h => h) (Or.inl ⟨by rfl, ?hyd01149⟩) (by assumption) ?_
                  case hyd01149 => (intro w hSw; (try dsimp only at hSw); go_simp <;> with_reducible rfl)
                  try simp only [Act.put, List.setIfInBounds_toArray, List.set_cons_zero, List.set_cons_succ]
                  refine takeD (i := 50) (d := some 149) (v := ?vd01150) rfl rfl (by kernel_rfl) (by kernel_rfl) (by kernel_rfl) (fun _ _ _ h => h) (Or.inl ⟨by rfl, ?hyd01150⟩) (by assumption) ?_
                  case hyd01150 => (intro w hSw; (try dsimp only at hSw); go_simp <;> with_reducible rfl)
                  try simp only [Act.put, List.setIfInBounds_toArray, List.set_cons_zero, List.set_cons_succ]
                  refine takeD (i := 51) (d := some 150) (v := ?vd01151) rfl rfl (by kernel_rfl) (by kernel_rfl) (by kernel_rfl) (fun _ _ _ h => h) (Or.inl ⟨by rfl, ?hyd01151⟩) (by assumption) ?_
                  case hyd01151 => (intro w hSw; (try dsimp only at hSw); go_simp <;> with_reducible rfl)
                  try simp only [Act.put, List.setIfInBounds_toArray, List.set_cons_zero, List.set_cons_succ]
                  refine passD (i := 52) (d := some 151) rfl rfl (by kernel_rfl) (by kernel_rfl) (by kernel_rfl) (fun _ _ _ h => h) (by rfl) (by assumption) ?_
                  try simp only [Act.put, List.setIfInBounds_toArray, List.set_cons_zero, List.set_cons_succ]
                  refine passD (i := 53) (d := some 152) rfl rfl (by kernel_rfl) (by kernel_rfl) (by kernel_rfl) (fun _ _ _ h => h) (by rfl) (by assumption) ?_
                  try simp only [Act.put, List.setIfInBounds_toArray, List.set_cons_zero, List.set_cons_succ]
                  refine passD (i := 54) (d := some 153) rfl rfl (by kernel_rfl) (by kernel_rfl) (by kernel_rfl) (fun _ _ _ h => h) (by rfl) (by assumption) ?_
                  try simp only [Act.put, List.setIfInBounds_toArray, List.set_cons_zero, List.set_cons_succ]
                  refine passD (i := 55) (d := some 154) rfl rfl (by kernel_rfl) (by kernel_rfl) (by kernel_rfl) (fun _ _ _ h => h) (by rfl) (by assumption) ?_
                  try simp only [Act.put, List.setIfInBounds_toArray, List.set_cons_zero, List.set_cons_succ]
                  refine passD (i := 56) (d := some 155) rfl rfl (by kernel_rfl) (by kernel_rfl) (by kernel_rfl) (fun _ _ _ h => h) (by rfl) (by assumption) ?_
                  try simp only [Act.put, List.setIfInBounds_toArray, List.set_cons_zero, List.set_cons_succ]
                  refine passD (i := 57) (d := some 156) rfl rfl (by kernel_rfl) (by kernel_rfl) (by kernel_rfl) (fun _ _ _ h => h) (by rfl) (by assumption) ?_
                  try simp only [Act.put, List.setIfInBounds_toArray, List.set_cons_zero, List.set_cons_succ]
                  refine passD (i := 58) (d := some 157) rfl rfl (by kernel_rfl) (by kernel_rfl) (by kernel_rfl) (fun _ _ _ h => h) (by rfl) (by assumption) ?_
                  try simp only [Act.put, List.setIfInBounds_toArray, List.set_cons_zero, List.set_cons_succ]
                  refine passD (i := 59) (d := some 158) rfl rfl (by kernel_rfl) (by kernel_rfl) (by kernel_rfl) (fun _ _ _ h => h) (by rfl) (by assumption) ?_
                  try simp only [Act.put, List.setIfInBounds_toArray, List.set_cons_zero, List.set_cons_succ]
                  refine passD (i := 60) (d := some 159) rfl rfl (by kernel_rfl) (by kernel_rfl) (by kernel_rfl) (fun _ _ _ h => h) (by rfl) (by assumption) ?_
                  try simp only [Act.put, List.setIfInBounds_toArray, List.set_cons_zero, List.set_cons_succ]
                  refine passD (i := 61) (d := some 160) rfl rfl (by kernel_rfl) (by kernel_rfl) (by kernel_rfl) (fun _ _ _ h => h) (by rfl) (by assumption) ?_
                  try simp only [Act.put, List.setIfInBounds_toArray, List.set_cons_zero, List.set_cons_succ]
                  refine passD (i := 62) (d := some 161) rfl rfl (by kernel_rfl) (by kernel_rfl) (by kernel_rfl) (fun _ _ _ h => h) (by rfl) (by assumption) ?_
                  try simp only [Act.put, List.setIfInBounds_toArray, List.set_cons_zero, List.set_cons_succ]
                  refine takeD (i := 63) (d := some 162) (v := ?vd01163) rfl rfl (by kernel_rfl) (by kernel_rfl) (by kernel_rfl) (fun _ _ _ h => h) (Or.inl ⟨by rfl, ?hyd01163⟩) (by assumption) ?_
                  case hyd01163 => (intro w hSw; (try dsimp only at hSw); go_simp <;> with_reducible rfl)
                  try simp only [Act.put, List.setIfInBounds_toArray, List.set_cons_zero, List.set_cons_succ]
                  refine takeD (i := 64) (d := some 163) (v := ?vd01164) rfl rfl (by kernel_rfl) (by kernel_rfl) (by kernel_rfl) (fun _ _ _ h => h) (Or.inl ⟨by rfl, ?hyd01164⟩) (by assumption) ?_
                  case hyd01164 => (intro w hSw; (try dsimp only at hSw); go_simp <;> with_reducible rfl)
                  try simp only [Act.put, List.setIfInBounds_toArray, List.set_cons_zero, List.set_cons_succ]
                  refine takeD (i := 65) (d := some 164) (v := ?vd01165) rfl rfl (by kernel_rfl) (by kernel_rfl) (by kernel_rfl) (fun _ _ _ h => h) (Or.inl ⟨by rfl, ?hyd01165⟩) (by assumption) ?_
                  case hyd01165 => (intro w hSw; (try dsimp only at hSw); go_simp <;> with_reducible rfl)
                  try simp only [Act.put, List.setIfInBounds_toArray, List.set_cons_zero, List.set_cons_succ]
                  refine takeD (i := 66) (d := some 165) (v := ?vd01166) rfl rfl (by kernel_rfl) (by kernel_rfl) (by kernel_rfl) (fun _ _ _ h => h) (Or.inl ⟨by rfl, ?hyd01166⟩) (by assumption) ?_
                  case hyd01166 => (intro w hSw; (try dsimp only at hSw); go_simp <;> with_reducible rfl)
                  try simp only [Act.put, List.setIfInBounds_toArray, List.set_cons_zero, List.set_cons_succ]
                  refine takeD (i := 67) (d := some 166) (v := ?vd01167) rfl rfl (by kernel_rfl) (by kernel_rfl) (by kernel_rfl) (fun _ _ _ h => h) (Or.inl ⟨by rfl, ?hyd01167⟩) (by assumption) ?_
                  case hyd01167 => (intro w hSw; (try dsimp only at hSw); go_simp <;> with_reducible rfl)
                  try simp only [Act.put, List.setIfInBounds_toArray, List.set_cons_zero, List.set_cons_succ]
                  refine takeD (i := 68) (d := some 167) (v := ?vd01168) rfl rfl (by kernel_rfl) (by kernel_rfl) (by kernel_rfl) (fun _ _ _ h => h) (Or.inl ⟨by rfl, ?hyd01168⟩) (by assumption) ?_
                  case hyd01168 => (intro w hSw; (try dsimp only at hSw); go_simp <;> with_reducible rfl)
                  try simp only [Act.put, List.setIfInBounds_toArray, List.set_cons_zero, List.set_cons_succ]
                  refine takeD (i := 69) (d := some 168) (v := ?vd01169) rfl rfl (by kernel_rfl) (by kernel_rfl) (by kernel_rfl) (fun _ _ _ h => h) (Or.inl ⟨by rfl, ?hyd01169⟩) (by assumption) ?_
                  case hyd01169 => (intro w hSw; (try dsimp only at hSw); go_simp <;> with_reducible rfl)
                  try simp only [Act.put, List.setIfInBounds_toArray, List.set_cons_zero, List.set_cons_succ]
                  refine takeD (i := 70) (d := some 169) (v := ?vd01170) rfl rfl (by kernel_rfl) (by kernel_rfl) (by kernel_rfl) (fun _ _ _ h => h) (Or.inl ⟨by rfl, ?hyd01170⟩) (by assumption) ?_
                  case hyd01170 => (intro w hSw; (try dsimp only at hSw); go_simp <;> with_reducible rfl)
                  try simp only [Act.put, List.setIfInBounds_toArray, List.set_cons_zero, List.set_cons_succ]
                  refine wpAnyH_ready (rs := [71]) (by kernel_rfl) (by simp) ?_
                  refine (AllReadyH.cons rfl (fun K hK => ?_) AllReadyH.nil)
                  rw [if_pos (by rfl)]
                  go_simp
                  refine Calls.mono (sP2 _) ?_
                  rintro e wq71 ⟨rfl, hq71⟩
                  have hB71 : Below W.heap.size W wq71 := bl_then hB2 hq71
                  go_wp2_with fail
                  refine hK.out _ _ hB71 (fun hHeld => ?_)
                  clear hK K
                  try simp only [Act.put, List.setIfInBounds_toArray, List.set_cons_zero, List.set_cons_succ]
                  refine takeD (i := 72) (d := some 171) (v := ?vd01172) rfl rfl (by kernel_rfl) (by kernel_rfl) (by kernel_rfl) (fun _ _ _ h => h) (Or.inl ⟨by rfl, ?hyd01172⟩) (by assumption) ?_
                  case hyd01172 => (intro w hSw; (try dsimp only at hSw); go_simp <;> with_reducible rfl)
                  try simp only [Act.put, List.setIfInBounds_toArray, List.set_cons_zero, List.set_cons_succ]
                  refine takeD (i := 73) (d := some 172) (v := ?vd01173) rfl rfl (by kernel_rfl) (by kernel_rfl) (by kernel_rfl) (fun _ _ _ h => h) (Or.inl ⟨by rfl, ?hyd01173⟩) (by assumption) ?_
                  case hyd01173 => (intro w hSw; (try dsimp only at hSw); go_simp <;> with_reducible rfl)
                  try simp only [Act.put, List.setIfInBounds_toArray, List.set_cons_zero, List.set_cons_succ]
                  refine takeD (i := 74) (d := some 173) (v := ?vd01174) rfl rfl (by kernel_rfl) (by kernel_rfl) (by kernel_rfl) (fun _ _ _ h => h) (Or.inl ⟨by rfl, ?hyd01174⟩) (by assumption) ?_
                  case hyd01174 => (intro w hSw; (try dsimp only at hSw); go_simp <;> with_reducible rfl)
                  try simp only [Act.put, List.setIfInBounds_toArray, List.set_cons_zero, List.set_cons_succ]
                  refine takeD (i := 75) (d := some 2) (v := ?vd01175) rfl rfl (by kernel_rfl) (by kernel_rfl) (by kernel_rfl) (fun _ _ _ h => h) (Or.inl ⟨by rfl, ?hyd01175⟩) (by assumption) ?_
                  case hyd01175 => (intro w hSw; (try dsimp only at hSw); go_simp <;> with_reducible rfl)
                  try simp only [Act.put, List.setIfInBounds_toArray, List.set_cons_zero, List.set_cons_succ]
                  refine wpAnyH_done (by kernel_rfl) ?_ _
                  refine NoPanic.normal ?_
                  go_wp2_with fail
                  go_ret
                  exact ⟨rfl, bl_then HBW.out hB71⟩
              · subst g1
                subst g3
                have sF3 := g2.out
                as_aux_lemma =>
                  refine takeD (i := 48) (d := some 147) (v := ?vd01048) rfl rfl (by kernel_rfl) (by kernel_rfl) (by kernel_rfl) (fun _ _ _ h => h) (Or.inl ⟨by rfl, ?hyd01048⟩) (by assumption) ?_
                  case hyd01048 => (intro w hSw; (try dsimp only at hSw); go_simp <;> with_reducible rfl)
                  try simp only [Act.put, List.setIfInBounds_toArray, List.set_cons_zero, List.set_cons_succ]
                  refine takeD (i := 49) (d := some 148) (v := ?vd01049) rfl rfl (by kernel_rfl) (by kernel_rfl) (by kernel_rfl) (fun _ _ _ h => h) (Or.inl ⟨by rfl, ?hyd01049⟩) (by assumption) ?_
                  case hyd01049 => (intro w hSw; (try dsimp only at hSw); go_simp <;> with_reducible rfl)
                  try simp only [Act.put, List.setIfInBounds_toArray, List.set_cons_zero, List.set_cons_succ]
                  refine takeD (i := 50) (d := some 149) (v := ?vd01050) rfl rfl (by kernel_rfl) (by kernel_rfl) (by kernel_rfl) (fun _ _ _ h => h) (Or.inl ⟨by rfl, ?hyd01050⟩) (by assumption) ?_
                  case hyd01050 => (intro w hSw; (try dsimp only at hSw); go_simp <;> with_reducible rfl)
                  try simp only [Act.put, List.setIfInBounds_toArray, List.set_cons_zero, List.set_cons_succ]
                  refine takeD (i := 51) (d := some 150) (v := ?vd01051) rfl rfl (by kernel_rfl) (by kernel_rfl) (by kernel_rfl) (fun _ _ _ h => h) (Or.inl ⟨by rfl, ?hyd01051⟩) (by assumption) ?_
                  case hyd01051 => (intro w hSw; (try dsimp only at hSw); go_simp <;> with_reducible rfl)
                  try simp only [Act.put, List.setIfInBounds_toArray, List.set_cons_zero, List.set_cons_succ]
                  refine takeD (i := 52) (d := some 151) (v := ?vd01052) rfl rfl (by kernel_rfl) (by kernel_rfl) (by kernel_rfl) (fun _ _ _ h => h) (Or.inl ⟨by rfl, ?hyd01052⟩) (by assumption) ?_
                  case hyd01052 => (intro w hSw; (try dsimp only at hSw); go_simp <;> with_reducible rfl)
                  try simp only [Act.put, List.setIfInBounds_toArray, List.set_cons_zero, List.set_cons_succ]
                  refine takeD (i := 53) (d := some 152) (v := ?vd01053) rfl rfl (by kernel_rfl) (by kernel_rfl) (by kernel_rfl) (fun _ _ _ h => h) (Or.inl ⟨by rfl, ?hyd01053⟩) (by assumption) ?_
                  case hyd01053 => (intro w hSw; (try dsimp only at hSw); go_simp <;> with_reducible rfl)
                  try simp only [Act.put, List.setIfInBounds_toArray, List.set_cons_zero, List.set_cons_succ]
                  refine wpAnyH_ready (rs := [54]) (by kernel_rfl) (by simp) ?_
                  refine (AllReadyH.cons rfl (fun K hK => ?_) AllReadyH.nil)
                  rw [if_pos (by rfl)]
                  go_simp
                  refine Calls.mono (sF3 _) ?_
                  rintro e wq54 ⟨rfl, hq54⟩
                  have hB54 : Below W.heap.size W wq54 := bl_then hB2 hq54
                  go_wp2_with fail
                  refine hK.out _ _ hB54 (fun hHeld => ?_)
                  clear hK K
                  try simp only [Act.put, List.setIfInBounds_toArray, List.set_cons_zero, List.set_cons_succ]
                  refine takeD (i := 55) (d := some 154) (v := ?vd01055) rfl rfl (by kernel_rfl) (by kernel_rfl) (by kernel_rfl) (fun _ _ _ h => h) (Or.inl ⟨by rfl, ?hyd01055⟩) (by assumption) ?_
                  case hyd01055 => (intro w hSw; (try dsimp only at hSw); go_simp <;> with_reducible rfl)
                  try simp only [Act.put, List.setIfInBounds_toArray, List.set_cons_zero, List.set_cons_succ]
                  refine takeD (i := 56) (d := some 155) (v := ?vd01056) rfl rfl (by kernel_rfl) (by kernel_rfl) (by kernel_rfl) (fun _ _ _ h => h) (Or.inl ⟨by rfl, ?hyd01056⟩) (by assumption) ?_
                  case hyd01056 => (intro w hSw; (try dsimp only at hSw); go_simp <;> with_reducible rfl)
                  try simp only [Act.put, List.setIfInBounds_toArray, List.set_cons_zero, List.set_cons_succ]
                  refine takeD (i := 57) (d := some 156) (v := ?vd01057) rfl rfl (by kernel_rfl) (by kernel_rfl) (by kernel_rfl) (fun _ _ _ h => h) (Or.inl ⟨by rfl, ?hyd01057⟩) (by assumption) ?_
                  case hyd01057 => (intro w hSw; (try dsimp only at hSw); go_simp <;> with_reducible rfl)
                  try simp only [Act.put, List.setIfInBounds_toArray, List.set_cons_zero, List.set_cons_succ]
                  refine takeD (i := 58) (d := some 157) (v := ?vd01058) rfl rfl (by kernel_rfl) (by kernel_rfl) (by kernel_rfl) (fun _ _ _ h => h) (Or.inl ⟨by rfl, ?hyd01058⟩) (by assumption) ?_
                  case hyd01058 => (intro w hSw; (try dsimp only at hSw); go_simp <;> with_reducible rfl)
                  try simp only [Act.put, List.setIfInBounds_toArray, List.set_cons_zero, List.set_cons_succ]
                  refine takeD (i := 59) (d := some 158) (v := ?vd01059) rfl rfl (by kernel_rfl) (by kernel_rfl) (by kernel_rfl) (fun _ _ _ h => h) (Or.inl ⟨by rfl, ?hyd01059⟩) (by assumption) ?_
                  case hyd01059 => (intro w hSw; (try dsimp only at hSw); go_simp <;> with_reducible rfl)
                  try simp only [Act.put, List.setIfInBounds_toArray, List.set_cons_zero, List.set_cons_succ]
                  refine takeD (i := 60) (d := some 159) (v := ?vd01060) rfl rfl (by kernel_rfl) (by kernel_rfl) (by kernel_rfl) (fun _ _ _ h => h) (Or.inl ⟨by rfl, ?hyd01060⟩) (by assumption) ?_
                  case hyd01060 => (intro w hSw; (try dsimp only at hSw); go_simp <;> with_reducible rfl)
                  try simp only [Act.put, List.setIfInBounds_toArray, List.set_cons_zero, List.set_cons_succ]
                  refine takeD (i := 61) (d := some 160) (v := ?vd01061) rfl rfl (by kernel_rfl) (by kernel_rfl) (by kernel_rfl) (fun _ _ _ h => h) (Or.inl ⟨by rfl, ?hyd01061⟩) (by assumption) ?_
                  case hyd01061 => (intro w hSw; (try dsimp only at hSw); go_simp <;> with_reducible rfl)
                  try simp only [Act.put, List.setIfInBounds_toArray, List.set_cons_zero, List.set_cons_succ]
                  refine takeD (i := 62) (d := some 161) (v := ?vd01062) rfl rfl (by kernel_rfl) (by kernel_rfl) (by kernel_rfl) (fun _ _ _ h => h) (Or.inl ⟨by rfl, ?hyd01062⟩) (by assumption) ?_
                  case hyd01062 => (intro w hSw; (try dsimp only at hSw); go_simp <;> with_reducible rfl)
                  try simp only [Act.put, List.setIfInBounds_toArray, List.set_cons_zero, List.set_cons_succ]
                  refine takeD (i := 63) (d := some 162) (v := ?vd01063) rfl rfl (by kernel_rfl) (by kernel_rfl) (by kernel_rfl) (fun _ _ _ h => h) (Or.inl ⟨by rfl, ?hyd01063⟩) (by assumption) ?_
                  case hyd01063 => (intro w hSw; (try dsimp only at hSw); go_simp <;> with_reducible rfl)
                  try simp only [Act.put, List.setIfInBounds_toArray, List.set_cons_zero, List.set_cons_succ]
                  refine takeD (i := 64) (d := some 163) (v := ?vd01064) rfl rfl (by kernel_rfl) (by kernel_rfl) (by kernel_rfl) (fun _ _ _ h => h) (Or.inl ⟨by rfl, ?hyd01064⟩) (by assumption) ?_
                  case hyd01064 => (intro w hSw; (try dsimp only at hSw); go_simp <;> with_reducible rfl)
                  try simp only [Act.put, List.setIfInBounds_toArray, List.set_cons_zero, List.set_cons_succ]
                  refine takeD (i := 65) (d := some 164) (v := ?vd01065) rfl rfl (by kernel_rfl) (by kernel_rfl) (by kernel_rfl) (fun _ _ _ h => h) (Or.inl ⟨by rfl, ?hyd01065⟩) (by assumption) ?_
                  case hyd01065 => (intro w hSw; (try dsimp only at hSw); go_simp <;> with_reducible rfl)
                  try simp only [Act.put, List.setIfInBounds_toArray, List.set_cons_zero, List.set_cons_succ]
                  refine takeD (i := 66) (d := some 165) (v := ?vd01066) rfl rfl (by kernel_rfl) (by kernel_rfl) (by kernel_rfl) (fun _ _ _ h => h) (Or.inl ⟨by rfl, ?hyd01066⟩) (by assumption) ?_
                  case hyd01066 => (intro w hSw; (try dsimp only at hSw); go_simp <;> with_reducible rfl)
                  try simp only [Act.put, List.setIfInBounds_toArray, List.set_cons_zero, List.set_cons_succ]
                  refine takeD (i := 67) (d := some 166) (v := ?vd01067) rfl rfl (by kernel_rfl) (by kernel_rfl) (by kernel_rfl) (fun _ _ _ h => h) (Or.inl ⟨by rfl, ?hyd01067⟩) (by assumption) ?_
                  case hyd01067 => (intro w hSw; (try dsimp only at hSw); go_simp <;> with_reducible rfl)
                  try simp only [Act.put, List.setIfInBounds_toArray, List.set_cons_zero, List.set_cons_succ]
                  refine takeD (i := 68) (d := some 167) (v := ?vd01068) rfl rfl (by kernel_rfl) (by kernel_rfl) (by kernel_rfl) (fun _ _ _ h => h) (Or.inl ⟨by rfl, ?hyd01068⟩) (by assumption) ?_
                  case hyd01068 => (intro w hSw; (try dsimp only at hSw); go_simp <;> with_reducible rfl)
                  try simp only [Act.put, List.setIfInBounds_toArray, List.set_cons_zero, List.set_cons_succ]
                  refine takeD (i := 69) (d := some 168) (v := ?vd01069) rfl rfl (by kernel_rfl) (by kernel_rfl) (by kernel_rfl) (fun _ _ _ h => h) (Or.inl ⟨by rfl, ?hyd01069⟩) (by assumption) ?_
                  case hyd01069 => (intro w hSw; (try dsimp only at hSw); go_simp <;> with_reducible rfl)
                  try simp only [Act.put, List.setIfInBounds_toArray, List.set_cons_zero, List.set_cons_succ]
                  refine takeD (i := 70) (d := some 169) (v := ?vd01070) rfl rfl (by kernel_rfl) (by kernel_rfl) (by kernel_rfl) (fun _ _ _ h => h) (Or.inl ⟨by rfl, ?hyd01070⟩) (by assumption) ?_
                  case hyd01070 => (intro w hSw; (try dsimp only at hSw); go_simp <;> with_reducible rfl)
                  try simp only [Act.put, List.setIfInBounds_toArray, List.set_cons_zero, List.set_cons_succ]
                  refine wpAnyH_ready (rs := [71]) (by kernel_rfl) (by simp) ?_
                  refine (AllReadyH.cons rfl (fun K hK => ?_) AllReadyH.nil)
                  rw [if_pos (by rfl)]
                  go_simp
                  refine Calls.mono (sP2 _) ?_
                  rintro e wq71 ⟨rfl, hq71⟩
                  have hB71 : Below W.heap.size W wq71 := bl_then hB54 hq71
                  go_wp2_with fail
                  refine hK.out _ _ hB71 (fun hHeld => ?_)
                  clear hK K
                  try simp only [Act.put, List.setIfInBounds_toArray, List.set_cons_zero, List.set_cons_succ]
                  refine takeD (i := 72) (d := some 171) (v := ?vd01072) rfl rfl (by kernel_rfl) (by kernel_rfl) (by kernel_rfl) (fun _ _ _ h => h) (Or.inl ⟨by rfl, ?hyd01072⟩) (by assumption) ?_
                  case hyd01072 => (intro w hSw; (try dsimp only at hSw); go_simp <;> with_reducible rfl)
                  try simp only [Act.put, List.setIfInBounds_toArray, List.set_cons_zero, List.set_cons_succ]
                  refine takeD (i := 73) (d := some 172) (v := ?vd01073) rfl rfl (by kernel_rfl) (by kernel_rfl) (by kernel_rfl) (fun _ _ _ h => h) (Or.inl ⟨by rfl, ?hyd01073⟩) (by assumption) ?_
                  case hyd01073 => (intro w hSw; (try dsimp only at hSw); go_simp <;> with_reducible rfl)
                  try simp only [Act.put, List.setIfInBounds_toArray, List.set_cons_zero, List.set_cons_succ]
                  refine takeD (i := 74) (d := some 173) (v := ?vd01074) rfl rfl (by kernel_rfl) (by kernel_rfl) (by kernel_rfl) (fun _ _ _ h => h) (Or.inl ⟨by rfl, ?hyd01074⟩) (by assumption) ?_
                  case hyd01074 => (intro w hSw; (try dsimp only at hSw); go_simp <;> with_reducible rfl)
                  try simp only [Act.put, List.setIfInBounds_toArray, List.set_cons_zero, List.set_cons_succ]
                  refine takeD (i := 75) (d := some 2) (v := ?vd01075) rfl rfl (by kernel_rfl) (by kernel_rfl) (by kernel_rfl) (fun _ _ _ h => h) (Or.inl ⟨by rfl, ?hyd01075⟩) (by assumption) ?_
                  case hyd01075 => (intro w hSw; (try dsimp only at hSw); go_simp <;> with_reducible rfl)
                  try simp only [Act.put, List.setIfInBounds_toArray, List.set_cons_zero, List.set_cons_succ]
                  refine wpAnyH_done (by kernel_rfl) ?_ _
                  refine NoPanic.normal ?_
                  go_wp2_with fail
                  go_ret
                  exact ⟨rfl, bl_then HBW.out hB71⟩
          · subst e1
            subst e3
            have sF2 := e2.out
            as_aux_lemma =>
              refine takeD (i := 30) (d := some 129) (v := ?vc0030) rfl rfl (by kernel_rfl) (by kernel_rfl) (by kernel_rfl) (fun _ _ _ h => h) (Or.inl ⟨by rfl, ?hyc0030⟩) (by assumption) ?_
              case hyc0030 => (intro w hSw; (try dsimp only at hSw); go_simp <;> with_reducible rfl)
              try simp only [Act.put, List.setIfInBounds_toArray, List.set_cons_zero, List.set_cons_succ]
              refine takeD (i := 31) (d := some 130) (v := ?vc0031) rfl rfl (by kernel_rfl) (by kernel_rfl) (by kernel_rfl) (fun _ _ _ h => h) (Or.inl ⟨by rfl, ?hyc0031⟩) (by assumption) ?_
              case hyc0031 => (intro w hSw; (try dsimp only at hSw); go_simp <;> with_reducible rfl)
              try simp only [Act.put, List.setIfInBounds_toArray, List.set_cons_zero, List.set_cons_succ]
              refine takeD (i := 32) (d := some 131) (v := ?vc0032) rfl rfl (by kernel_rfl) (by kernel_rfl) (by kernel_rfl) (fun _ _ _ h => h) (Or.inl ⟨by rfl, ?hyc0032⟩) (by assumption) ?_
              case hyc0032 => (intro w hSw; (try dsimp only at hSw); go_simp <;> with_reducible rfl)
              try simp only [Act.put, List.setIfInBounds_toArray, List.set_cons_zero, List.set_cons_succ]
              refine takeD (i := 33) (d := some 132) (v := ?vc0033) rfl rfl (by kernel_rfl) (by kernel_rfl) (by kernel_rfl) (fun _ _ _ h => h) (Or.inl ⟨by rfl, ?hyc0033⟩) (by assumption) ?_
              case hyc0033 => (intro w hSw; (try dsimp only at hSw); go_simp <;> with_reducible rfl)
              try simp only [Act.put, List.setIfInBounds_toArray, List.set_cons_zero, List.set_cons_succ]
              refine takeD (i := 34) (d := some 133) (v := ?vc0034) rfl rfl (by kernel_rfl) (by kernel_rfl) (by kernel_rfl) (fun _ _ _ h => h) (Or.inl ⟨by rfl, ?hyc0034⟩) (by assumption) ?_
              case hyc0034 => (intro w hSw; (try dsimp only at hSw); go_simp <;> with_reducible rfl)
              try simp only [Act.put, List.setIfInBounds_toArray, List.set_cons_zero, List.set_cons_succ]
              refine takeD (i := 35) (d := some 134) (v := ?vc0035) rfl rfl (by kernel_rfl) (by kernel_rfl) (by kernel_rfl) (fun _ _ _ h => h) (Or.inl ⟨by rfl, ?hyc0035⟩) (by assumption) ?_
              case hyc0035 => (intro w hSw; (try dsimp only at hSw); go_simp <;> with_reducible rfl)
              try simp only [Act.put, List.setIfInBounds_toArray, List.set_cons_zero, List.set_cons_succ]
              refine wpAnyH_ready (rs := [36]) (by kernel_rfl) (by simp) ?_
              refine (AllReadyH.cons rfl (fun K hK => ?_) AllReadyH.nil)
              rw [if_pos (by rfl)]
              go_simp
              refine Calls.mono (sF2 _) ?_
              rintro e wq36 ⟨rfl, hq36⟩
              have hB36 : Below W.heap.size W wq36 := bl_then hB2 hq36
              go_wp2_with fail
              refine hK.out _ _ hB36 (fun hHeld => ?_)
              clear hK K
              try simp only [Act.put, List.setIfInBounds_toArray, List.set_cons_zero, List.set_cons_succ]
              refine takeD (i := 37) (d := some 136) (v := ?vc0037) rfl rfl (by kernel_rfl) (by kernel_rfl) (by kernel_rfl) (fun _ _ _ h => h) (Or.inl ⟨by rfl, ?hyc0037⟩) (by assumption) ?_
              case hyc0037 => (intro w hSw; (try dsimp only at hSw); go_simp <;> with_reducible rfl)
              try simp only [Act.put, List.setIfInBounds_toArray, List.set_cons_zero, List.set_cons_succ]
              refine takeD (i := 38) (d := some 137) (v := ?vc0038) rfl rfl (by kernel_rfl) (by kernel_rfl) (by kernel_rfl) (fun _ _ _ h => h) (Or.inl ⟨by rfl, ?hyc0038⟩) (by assumption) ?_
              case hyc0038 => (intro w hSw; (try dsimp only at hSw); go_simp <;> with_reducible rfl)
              try simp only [Act.put, List.setIfInBounds_toArray, List.set_cons_zero, List.set_cons_succ]
              refine takeD (i := 39) (d := some 138) (v := ?vc0039) rfl rfl (by kernel_rfl) (by kernel_rfl) (by kernel_rfl) (fun _ _ _ h => h) (Or.inl ⟨by rfl, ?hyc0039⟩) (by assumption) ?_
              case hyc0039 => (intro w hSw; (try dsimp only at hSw); go_simp <;> with_reducible rfl)
              try simp only [Act.put, List.setIfInBounds_toArray, List.set_cons_zero, List.set_cons_succ]
              refine takeD (i := 40) (d := some 139) (v := ?vc0040) rfl rfl (by kernel_rfl) (by kernel_rfl) (by kernel_rfl) (fun _ _ _ h => h) (Or.inl ⟨by rfl, ?hyc0040⟩) (by assumption) ?_
              case hyc0040 => (intro w hSw; (try dsimp only at hSw); go_simp <;> with_reducible rfl)
              try simp only [Act.put, List.setIfInBounds_toArray, List.set_cons_zero, List.set_cons_succ]
              refine takeD (i := 41) (d := some 140) (v := ?vc0041) rfl rfl (by kernel_rfl) (by kernel_rfl) (by kernel_rfl) (fun _ _ _ h => h) (Or.inl ⟨by rfl, ?hyc0041⟩) (by assumption) ?_
              case hyc0041 => (intro w hSw; (try dsimp only at hSw); go_simp <;> with_reducible rfl)
              try simp only [Act.put, List.setIfInBounds_toArray, List.set_cons_zero, List.set_cons_succ]
              refine takeD (i := 42) (d := some 141) (v := ?vc0042) rfl rfl (by kernel_rfl) (by kernel_rfl) (by kernel_rfl) (fun _ _ _ h => h) (Or.inl ⟨by rfl, ?hyc0042⟩) (by assumption) ?_
              case hyc0042 => (intro w hSw; (try dsimp only at hSw); go_simp <;> with_reducible rfl)
              try simp only [Act.put, List.setIfInBounds_toArray, List.set_cons_zero, List.set_cons_succ]
              refine takeD (i := 43) (d := some 142) (v := ?vc0043) rfl rfl (by kernel_rfl) (by kernel_rfl) (by kernel_rfl) (fun _ _ _ h => h) (Or.inl ⟨by rfl, ?hyc0043⟩) (by assumption) ?_
              case hyc0043 => (intro w hSw; (try dsimp only at hSw); go_simp <;> with_reducible rfl)
              try simp only [Act.put, List.setIfInBounds_toArray, List.set_cons_zero, List.set_cons_succ]
              refine takeD (i := 44) (d := some 143) (v := ?vc0044) rfl rfl (by kernel_rfl) (by kernel_rfl) (by kernel_rfl) (fun _ _ _ h => h) (Or.inl ⟨by rfl, ?hyc0044⟩) (by assumption) ?_
              case hyc0044 => (intro w hSw; (try dsimp only at hSw); go_simp <;> with_reducible rfl)
              try simp only [Act.put, List.setIfInBounds_toArray, List.set_cons_zero, List.set_cons_succ]
              refine takeD (i := 45) (d := some 144) (v := ?vc0045) rfl rfl (by kernel_rfl) (by kernel_rfl) (by kernel_rfl) (fun _ _ _ h => h) (Or.inl ⟨by rfl, ?hyc0045⟩) (by assumption) ?_
              case hyc0045 => (intro w hSw; (try dsimp only at hSw); go_simp <;> with_reducible rfl)
              try simp only [Act.put, List.setIfInBounds_toArray, List.set_cons_zero, List.set_cons_succ]
              refine takeD (i := 46) (d := some 145) (v := ?vc0046) rfl rfl (by kernel_rfl) (by kernel_rfl) (by kernel_rfl) (fun _ _ _ h => h) (Or.inl ⟨by rfl, ?hyc0046⟩) (by assumption) ?_
              case hyc0046 => (intro w hSw; (try dsimp only at hSw); go_simp <;> with_reducible rfl)
              try simp only [Act.put, List.setIfInBounds_toArray, List.set_cons_zero, List.set_cons_succ]
              refine takeD (i := 47) (d := some 146) (v := ?vc0047) rfl rfl (by kernel_rfl) (by kernel_rfl) (by kernel_rfl) (fun _ _ _ h => h) (Or.inl ⟨by rfl, ?hyc0047⟩) (by assumption) ?_
              case hyc0047 => (intro w hSw; (try dsimp only at hSw); go_simp <;> with_reducible rfl)
              try simp only [Act.put, List.setIfInBounds_toArray, List.set_cons_zero, List.set_cons_succ]
              rcases HZM.out with ⟨g1, gs0⟩ | ⟨g1, g2, g3⟩
              · subst g1
                as_aux_lemma =>
                  refine takeD (i := 48) (d := some 147) (v := ?vd00148) rfl rfl (by kernel_rfl) (by kernel_rfl) (by kernel_rfl) (fun _ _ _ h => h) (Or.inl ⟨by rfl, ?hyd00148⟩) (by assumption) ?_
                  case hyd00148 => (intro w hSw; (try dsimp only at hSw); go_simp <;> with_reducible rfl)
                  try simp only [Act.put, List.setIfInBounds_toArray, List.set_cons_zero, List.set_cons_succ]
                  refine takeD (i := 49) (d := some 148) (v := ?vd00149) rfl rfl (by kernel_rfl) (by kernel_rfl) (by kernel_rfl) (fun _ _ _ h => h) (Or.inl ⟨by rfl, ?hyd00149⟩) (by assumption) ?_
                  case hyd00149 => (intro w hSw; (try dsimp only at hSw); go_simp <;> with_reducible rfl)
                  try simp only [Act.put, List.setIfInBounds_toArray, List.set_cons_zero, List.set_cons_succ]
                  refine takeD (i := 50) (d := some 149) (v := ?vd00150) rfl rfl (by kernel_rfl) (by kernel_rfl) (by kernel_rfl) (fun _ _ _ h => h) (Or.inl ⟨by rfl, ?hyd00150⟩) (by assumption) ?_
                  case hyd00150 => (intro w hSw; (try dsimp only at hSw); go_simp <;> with_reducible rfl)
                  try simp only [Act.put, List.setIfInBounds_toArray, List.set_cons_zero, List.set_cons_succ]
                  refine takeD (i := 51) (d := some 150) (v := ?vd00151) rfl rfl (by kernel_rfl) (by kernel_rfl) (by kernel_rfl) (fun _ _ _ h => h) (Or.inl ⟨by rfl, ?hyd00151⟩) (by assumption) ?_
                  case hyd00151 => (intro w hSw; (try dsimp only at hSw); go_simp <;> with_reducible rfl)
                  try simp only [Act.put, List.setIfInBounds_toArray, List.set_cons_zero, List.set_cons_succ]
                  refine passD (i := 52) (d := some 151) rfl rfl (by kernel_rfl) (by kernel_rfl) (by kernel_rfl) (fun _ _ _ h => h) (by rfl) (by assumption) ?_
                  try simp only [Act.put, List.setIfInBounds_toArray, List.set_cons_zero, List.set_cons_succ]
                  refine passD (i := 53) (d := some 152) rfl rfl (by kernel_rfl) (by kernel_rfl) (by kernel_rfl) (fun _ _ _ h => h) (by rfl) (by assumption) ?_
                  try simp only [Act.put, List.setIfInBounds_toArray, List.set_cons_zero, List.set_cons_succ]
                  refine passD (i := 54) (d := some 153) rfl rfl (by kernel_rfl) (by kernel_rfl) (by kernel_rfl) (fun _ _ _ h => h) (by rfl) (by assumption) ?_
                  try simp only [Act.put, List.setIfInBounds_toArray, List.set_cons_zero, List.set_cons_succ]
                  refine passD (i := 55) (d := some 154) rfl rfl (by kernel_rfl) (by kernel_rfl) (by kernel_rfl) (fun _ _ _ h => h) (by rfl) (by assumption) ?_
                  try simp only [Act.put, List.setIfInBounds_toArray, List.set_cons_zero, List.set_cons_succ]
                  refine passD (i := 56) (d := some 155) rfl rfl (by kernel_rfl) (by kernel_rfl) (by kernel_rfl) (fun _ _ _ h => h) (by rfl) (by assumption) ?_
                  try simp only [Act.put, List.setIfInBounds_toArray, List.set_cons_zero, List.set_cons_succ]
                  refine passD (i := 57) (d := some 156) rfl rfl (by kernel_rfl) (by kernel_rfl) (by kernel_rfl) (fun _ _ _ h => h) (by rfl) (by assumption) ?_
                  try simp only [Act.put, List.setIfInBounds_toArray, List.set_cons_zero, List.set_cons_succ]
                  refine passD (i := 58) (d := some 157) rfl rfl (by kernel_rfl) (by kernel_rfl) (by kernel_rfl) (fun _ _ _ h => h) (by rfl) (by assumption) ?_
                  try simp only [Act.put, List.setIfInBounds_toArray, List.set_cons_zero, List.set_cons_succ]
                  refine passD (i := 59) (d := some 158) rfl rfl (by kernel_rfl) (by kernel_rfl) (by kernel_rfl) (fun _ _ _ h => h) (by rfl) (by assumption) ?_
                  try simp only [Act.put, List.setIfInBounds_toArray, List.set_cons_zero, List.set_cons_succ]
                  refine passD (i := 60) (d := some 159) rfl rfl (by kernel_rfl) (by kernel_rfl) (by kernel_rfl) (fun _ _ _ h => h) (by rfl) (by assumption) ?_
                  try simp only [Act.put, List.setIfInBounds_toArray, List.set_cons_zero, List.set_cons_succ]
                  refine passD (i := 61) (d := some 160) rfl rfl (by kernel_rfl) (by kernel_rfl) (by kernel_rfl) (fun _ _ _ h => h) (by rfl) (by assumption) ?_
                  try simp only [Act.put, List.setIfInBounds_toArray, List.set_cons_zero, List.set_cons_succ]
                  refine passD (i := 62) (d := some 161) rfl rfl (by kernel_rfl) (by kernel_rfl) (by kernel_rfl) (fun _ _ _ h => h) (by rfl) (by assumption) ?_
                  try simp only [Act.put, List.setIfInBounds_toArray, List.set_cons_zero, List.set_cons_succ]
                  refine takeD (i := 63) (d := some 162) (v := ?vd00163) rfl rfl (by kernel_rfl) (by kernel_rfl) (by kernel_rfl) (fun _ _ _ h => h) (Or.inl ⟨by rfl, ?hyd00163⟩) (by assumption) ?_
                  case hyd00163 => (intro w hSw; (try dsimp only at hSw); go_simp <;> with_reducible rfl)
                  try simp only [Act.put, List.setIfInBounds_toArray, List.set_cons_zero, List.set_cons_succ]
                  refine takeD (i := 64) (d := some 163) (v := ?vd00164) rfl rfl (by kernel_rfl) (by kernel_rfl) (by kernel_rfl) (fun _ _ _ h => h) (Or.inl ⟨by rfl, ?hyd00164⟩) (by assumption) ?_
                  case hyd00164 => (intro w hSw; (try dsimp only at hSw); go_simp <;> with_reducible rfl)
                  try simp only [Act.put, List.setIfInBounds_toArray, List.set_cons_zero, List.set_cons_succ]
                  refine takeD (i := 65) (d := some 164) (v := ?vd00165) rfl rfl (by kernel_rfl) (by kernel_rfl) (by kernel_rfl) (fun _ _ _ h => h) (Or.inl ⟨by rfl, ?hyd00165⟩) (by assumption) ?_
                  case hyd00165 => (intro w hSw; (try dsimp only at hSw); go_simp <;> with_reducible rfl)
                  try simp only [Act.put, List.setIfInBounds_toArray, List.set_cons_zero, List.set_cons_succ]
                  refine takeD (i := 66) (d := some 165) (v := ?vd00166) rfl rfl (by kernel_rfl) (by kernel_rfl) (by kernel_rfl) (fun _ _ _ h => h) (Or.inl ⟨by rfl, ?hyd00166⟩) (by assumption) ?_
                  case hyd00166 => (intro w hSw; (try dsimp only at hSw); go_simp <;> with_reducible rfl)
                  try simp only [Act.put, List.setIfInBounds_toArray, List.set_cons_zero, List.set_cons_succ]
                  refine takeD (i := 67) (d := some 166) (v := ?vd00167) rfl rfl (by kernel_rfl) (by kernel_rfl) (by kernel_rfl) (fun _ _ _ h => h) (Or.inl ⟨by rfl, ?hyd00167⟩) (by assumption) ?_
                  case hyd00167 => (intro w hSw; (try dsimp only at hSw); go_simp <;> with_reducible rfl)
                  try simp only [Act.put, List.setIfInBounds_toArray, List.set_cons_zero, List.set_cons_succ]
                  refine takeD (i := 68) (d := some 167) (v := ?vd00168) rfl rfl (by kernel_rfl) (by kernel_rfl) (by kernel_rfl) (fun _ _ _ h => h) (Or.inl ⟨by rfl, ?hyd00168⟩) (by assumption) ?_
                  case hyd00168 => (intro w hSw; (try dsimp only at hSw); go_simp <;> with_reducible rfl)
                  try simp only [Act.put, List.setIfInBounds_toArray, List.set_cons_zero, List.set_cons_succ]
                  refine takeD (i := 69) (d := some 168) (v := ?vd00169) rfl rfl (by kernel_rfl) (by kernel_rfl) (by kernel_rfl) (fun _ _ _ h => h) (Or.inl ⟨by rfl, ?hyd00169⟩) (by assumption) ?_
                  case hyd00169 => (intro w hSw; (try dsimp only at hSw); go_simp <;> with_reducible rfl)
                  try simp only [Act.put, List.setIfInBounds_toArray, List.set_cons_zero, List.set_cons_succ]
                  refine takeD (i := 70) (d := some 169) (v := ?vd00170) rfl rfl (by kernel_rfl) (by kernel_rfl) (by kernel_rfl) (fun _ _ _ h => h) (Or.inl ⟨by rfl, ?hyd00170⟩) (by assumption) ?_
                  case hyd00170 => (intro w hSw; (try dsimp only at hSw); go_simp <;> with_reducible rfl)
                  try simp only [Act.put, List.setIfInBounds_toArray, List.set_cons_zero, List.set_cons_succ]
                  refine wpAnyH_ready (rs := [71]) (by kernel_rfl) (by simp) ?_
                  refine (AllReadyH.cons rfl (fun K hK => ?_) AllReadyH.nil)
                  rw [if_pos (by rfl)]
                  go_simp
                  refine Calls.mono (sP2 _) ?_
                  rintro e wq71 ⟨rfl, hq71⟩
                  have hB71 : Below W.heap.size W wq71 := bl_then hB36 hq71
                  go_wp2_with fail
                  refine hK.out _ _ hB71 (fun hHeld => ?_)
                  clear hK K
                  try simp only [Act.put, List.setIfInBounds_toArray, List.set_cons_zero, List.set_cons_succ]
                  refine takeD (i := 72) (d := some 171) (v := ?vd00172) rfl rfl (by kernel_rfl) (by kernel_rfl) (by kernel_rfl) (fun _ _ _ h => h) (Or.inl ⟨by rfl, ?hyd00172⟩) (by assumption) ?_
                  case hyd00172 => (intro w hSw; (try dsimp only at hSw); go_simp <;> with_reducible rfl)
                  try simp only [Act.put, List.setIfInBounds_toArray, List.set_cons_zero, List.set_cons_succ]
                  refine takeD (i := 73) (d := some 172) (v := ?vd00173) rfl rfl (by kernel_rfl) (by kernel_rfl) (by kernel_rfl) (fun _ _ _ h => h) (Or.inl ⟨by rfl, ?hyd00173⟩) (by assumption) ?_
                  case hyd00173 => (intro w hSw; (try dsimp only at hSw); go_simp <;> with_reducible rfl)
                  try simp only [Act.put, List.setIfInBounds_toArray, List.set_cons_zero, List.set_cons_succ]
                  refine takeD (i := 74) (d := some 173) (v := ?vd00174) rfl rfl (by kernel_rfl) (by kernel_rfl) (by kernel_rfl) (fun _ _ _ h => h) (Or.inl ⟨by rfl, ?hyd00174⟩) (by assumption) ?_
                  case hyd00174 => (intro w hSw; (try dsimp only at hSw); go_simp <;> with_reducible rfl)
                  try simp only [Act.put, List.setIfInBounds_toArray, List.set_cons_zero, List.set_cons_succ]
                  refine takeD (i := 75) (d := some 2) (v := ?vd00175) rfl rfl (by kernel_rfl) (by kernel_rfl) (by kernel_rfl) (fun _ _ _ h => h) (Or.inl ⟨by rfl, ?hyd00175⟩) (by assumption) ?_
                  case hyd00175 => (intro w hSw; (try dsimp only at hSw); go_simp <;> with_reducible rfl)
                  try simp only [Act.put, List.setIfInBounds_toArray, List.set_cons_zero, List.set_cons_succ]
                  refine wpAnyH_done (by kernel_rfl) ?_ _
                  refine NoPanic.normal ?_
                  go_wp2_with fail
                  go_ret
                  exact ⟨rfl, bl_then HBW.out hB71⟩
              · subst g1
                subst g3
                have sF3 := g2.out
                as_aux_lemma =>
                  refine takeD (i := 48) (d := some 147) (v := ?vd00048) rfl rfl (by kernel_rfl) (by kernel_rfl) (by kernel_rfl) (fun _ _ _ h => h) (Or.inl ⟨by rfl, ?hyd00048⟩) (by assumption) ?_
                  case hyd00048 => (intro w hSw; (try dsimp only at hSw); go_simp <;> with_reducible rfl)
                  try simp only [Act.put, List.setIfInBounds_toArray, List.set_cons_zero, List.set_cons_succ]
                  refine takeD (i := 49) (d := some 148) (v := ?vd00049) rfl rfl (by kernel_rfl) (by kernel_rfl) (by kernel_rfl) (fun _ _ _ h => h) (Or.inl ⟨by rfl, ?hyd00049⟩) (by assumption) ?_
                  case hyd00049 => (intro w hSw; (try dsimp only at hSw); go_simp <;> with_reducible rfl)
                  try simp only [Act.put, List.setIfInBounds_toArray, List.set_cons_zero, List.set_cons_succ]
                  refine takeD (i := 50) (d := some 149) (v := ?vd00050) rfl rfl (by kernel_rfl) (by kernel_rfl) (by kernel_rfl) (fun _ _ _ h => h) (Or.inl ⟨by rfl, ?hyd00050⟩) (by assumption) ?_
                  case hyd00050 => (intro w hSw; (try dsimp only at hSw); go_simp <;> with_reducible rfl)
                  try simp only [Act.put, List.setIfInBounds_toArray, List.set_cons_zero, List.set_cons_succ]
                  refine takeD (i := 51) (d := some 150) (v := ?vd00051) rfl rfl (by kernel_rfl) (by kernel_rfl) (by kernel_rfl) (fun _ _ _ h => h) (Or.inl ⟨by rfl, ?hyd00051⟩) (by assumption) ?_
                  case hyd00051 => (intro w hSw; (try dsimp only at hSw); go_simp <;> with_reducible rfl)
                  try simp only [Act.put, List.setIfInBounds_toArray, List.set_cons_zero, List.set_cons_succ]
                  refine takeD (i := 52) (d := some 151) (v := ?vd00052) rfl rfl (by kernel_rfl) (by kernel_rfl) (by kernel_rfl) (fun _ _ _ h => h) (Or.inl ⟨by rfl, ?hyd00052⟩) (by assumption) ?_
                  case hyd00052 => (intro w hSw; (try dsimp only at hSw); go_simp <;> with_reducible rfl)
                  try simp only [Act.put, List.setIfInBounds_toArray, List.set_cons_zero, List.set_cons_succ]
                  refine takeD (i := 53) (d := some 152) (v := ?vd00053) rfl rfl (by kernel_rfl) (by kernel_rfl) (by kernel_rfl) (fun _ _ _ h => h) (Or.inl ⟨by rfl, ?hyd00053⟩) (by assumption) ?_
                  case hyd00053 => (intro w hSw; (try dsimp only at hSw); go_simp <;> with_reducible rfl)
                  try simp only [Act.put, List.setIfInBounds_toArray, List.set_cons_zero, List.set_cons_succ]
                  refine wpAnyH_ready (rs := [54]) (by kernel_rfl) (by simp) ?_
                  refine (AllReadyH.cons rfl (fun K hK => ?_) AllReadyH.nil)
                  rw [if_pos (by rfl)]
                  go_simp
                  refine Calls.mono (sF3 _) ?_
                  rintro e wq54 ⟨rfl, hq54⟩
                  have hB54 : Below W.heap.size W wq54 := bl_then hB36 hq54
                  go_wp2_with fail
                  refine hK.out _ _ hB54 (fun hHeld => ?_)
                  clear hK K
                  try simp only [Act.put, List.setIfInBounds_toArray, List.set_cons_zero, List.set_cons_succ]
                  refine takeD (i := 55) (d := some 154) (v := ?vd00055) rfl rfl (by kernel_rfl) (by kernel_rfl) (by kernel_rfl) (fun _ _ _ h => h) (Or.inl ⟨by rfl, ?hyd00055⟩) (by assumption) ?_
                  case hyd00055 => (intro w hSw; (try dsimp only at hSw); go_simp <;> with_reducible rfl)
                  try simp only [Act.put, List.setIfInBounds_toArray, List.set_cons_zero, List.set_cons_succ]
                  refine takeD (i := 56) (d := some 155) (v := ?vd00056) rfl rfl (by kernel_rfl) (by kernel_rfl) (by kernel_rfl) (fun _ _ _ h => h) (Or.inl ⟨by rfl, ?hyd00056⟩) (by assumption) ?_
                  case hyd00056 => (intro w hSw; (try dsimp only at hSw); go_simp <;> with_reducible rfl)
                  try simp only [Act.put, List.setIfInBounds_toArray, List.set_cons_zero, List.set_cons_succ]
                  refine takeD (i := 57) (d := some 156) (v := ?vd00057) rfl rfl (by kernel_rfl) (by kernel_rfl) (by kernel_rfl) (fun _ _ _ h => h) (Or.inl ⟨by rfl, ?hyd00057⟩) (by assumption) ?_
                  case hyd00057 => (intro w hSw; (try dsimp only at hSw); go_simp <;> with_reducible rfl)
                  try simp only [Act.put, List.setIfInBounds_toArray, List.set_cons_zero, List.set_cons_succ]
                  refine takeD (i := 58) (d := some 157) (v := ?vd00058) rfl rfl (by kernel_rfl) (by kernel_rfl) (by kernel_rfl) (fun _ _ _ h => h) (Or.inl ⟨by rfl, ?hyd00058⟩) (by assumption) ?_
                  case hyd00058 => (intro w hSw; (try dsimp only at hSw); go_simp <;> with_reducible rfl)
                  try simp only [Act.put, List.setIfInBounds_toArray, List.set_cons_zero, List.set_cons_succ]
                  refine takeD (i := 59) (d := some 158) (v := ?vd00059) rfl rfl (by kernel_rfl) (by kernel_rfl) (by kernel_rfl) (fun _ _ _ h => h) (Or.inl ⟨by rfl, ?hyd00059⟩) (by assumption) ?_
                  case hyd00059 => (intro w hSw; (try dsimp only at hSw); go_simp <;> with_reducible rfl)
                  try simp only [Act.put, List.setIfInBounds_toArray, List.set_cons_zero, List.set_cons_succ]
                  refine takeD (i := 60) (d := some 159) (v := ?vd00060) rfl rfl (by kernel_rfl) (by kernel_rfl) (by kernel_rfl) (fun _ _ _ h => h) (Or.inl ⟨by rfl, ?hyd00060⟩) (by assumption) ?_
                  case hyd00060 => (intro w hSw; (try dsimp only at hSw); go_simp <;> with_reducible rfl)
                  try simp only [Act.put, List.setIfInBounds_toArray, List.set_cons_zero, List.set_cons_succ]
                  refine takeD (i := 61) (d := some 160) (v := ?vd00061) rfl rfl (by kernel_rfl) (by kernel_rfl) (by kernel_rfl) (fun _ _ _ h => h) (Or.inl ⟨by rfl, ?hyd00061⟩) (by assumption) ?_
                  case hyd00061 => (intro w hSw; (try dsimp only at hSw); go_simp <;> with_reducible rfl)
                  try simp only [Act.put, List.setIfInBounds_toArray, List.set_cons_zero, List.set_cons_succ]
                  refine takeD (i := 62) (d := some 161) (v := ?vd00062) rfl rfl (by kernel_rfl) (by kernel_rfl) (by kernel_rfl) (fun _ _ _ h => h) (Or.inl ⟨by rfl, ?hyd00062⟩) (by assumption) ?_
                  case hyd00062 => (intro w hSw; (try dsimp only at hSw); go_simp <;> with_reducible rfl)
                  try simp only [Act.put, List.setIfInBounds_toArray, List.set_cons_zero, List.set_cons_succ]
                  refine takeD (i := 63) (d := some 162) (v := ?vd00063) rfl rfl (by kernel_rfl) (by kernel_rfl) (by kernel_rfl) (fun _ _ _ h => h) (Or.inl ⟨by rfl, ?hyd00063⟩) (by assumption) ?_
                  case hyd00063 => (intro w hSw; (try dsimp only at hSw); go_simp <;> with_reducible rfl)
                  try simp only [Act.put, List.setIfInBounds_toArray, List.set_cons_zero, List.set_cons_succ]
                  refine takeD (i := 64) (d := some 163) (v := ?vd00064) rfl rfl (by kernel_rfl) (by kernel_rfl) (by kernel_rfl) (fun _ _ _ h => h) (Or.inl ⟨by rfl, ?hyd00064⟩) (by assumption) ?_
                  case hyd00064 => (intro w hSw; (try dsimp only at hSw); go_simp <;> with_reducible rfl)
                  try simp only [Act.put, List.setIfInBounds_toArray, List.set_cons_zero, List.set_cons_succ]
                  refine takeD (i := 65) (d := some 164) (v := ?vd00065) rfl rfl (by kernel_rfl) (by kernel_rfl) (by kernel_rfl) (fun _ _ _ h => h) (Or.inl ⟨by rfl, ?hyd00065⟩) (by assumption) ?_
                  case hyd00065 => (intro w hSw; (try dsimp only at hSw); go_simp <;> with_reducible rfl)
                  try simp only [Act.put, List.setIfInBounds_toArray, List.set_cons_zero, List.set_cons_succ]
                  refine takeD (i := 66) (d := some 165) (v := ?vd00066) rfl rfl (by kernel_rfl) (by kernel_rfl) (by kernel_rfl) (fun _ _ _ h => h) (Or.inl ⟨by rfl, ?hyd00066⟩) (by assumption) ?_
                  case hyd00066 => (intro w hSw; (try dsimp only at hSw); go_simp <;> with_reducible rfl)
                  try simp only [Act.put, List.setIfInBounds_toArray, List.set_cons_zero, List.set_cons_succ]
                  refine takeD (i := 67) (d := some 166) (v := ?vd00067) rfl rfl (by kernel_rfl) (by kernel_rfl) (by kernel_rfl) (fun _ _ _ h => h) (Or.inl ⟨by rfl, ?hyd00067⟩) (by assumption) ?_
                  case hyd00067 => (intro w hSw; (try dsimp only at hSw); go_simp <;> with_reducible rfl)
                  try simp only [Act.put, List.setIfInBounds_toArray, List.set_cons_zero, List.set_cons_succ]
                  refine takeD (i := 68) (d := some 167) (v := ?vd00068) rfl rfl (by kernel_rfl) (by kernel_rfl) (by kernel_rfl) (fun _ _ _ h => h) (Or.inl ⟨by rfl, ?hyd00068⟩) (by assumption) ?_
                  case hyd00068 => (intro w hSw; (try dsimp only at hSw); go_simp <;> with_reducible rfl)
                  try simp only [Act.put, List.setIfInBounds_toArray, List.set_cons_zero, List.set_cons_succ]
                  refine takeD (i := 69) (d := some 168) (v := ?vd00069) rfl rfl (by kernel_rfl) (by kernel_rfl) (by kernel_rfl) (fun _ _ _ h => h) (Or.inl ⟨by rfl, ?hyd00069⟩) (by assumption) ?_
                  case hyd00069 => (intro w hSw; (try dsimp only at hSw); go_simp <;> with_reducible rfl)
                  try simp only [Act.put, List.setIfInBounds_toArray, List.set_cons_zero, List.set_cons_succ]
                  refine takeD (i := 70) (d := some 169) (v := ?vd00070) rfl rfl (by kernel_rfl) (by kernel_rfl) (by kernel_rfl) (fun _ _ _ h => h) (Or.inl ⟨by rfl, ?hyd00070⟩) (by assumption) ?_
                  case hyd00070 => (intro w hSw; (try dsimp only at hSw); go_simp <;> with_reducible rfl)
                  try simp only [Act.put, List.setIfInBounds_toArray, List.set_cons_zero, List.set_cons_succ]
                  refine wpAnyH_ready (rs := [71]) (by kernel_rfl) (by simp) ?_
                  refine (AllReadyH.cons rfl (fun K hK => ?_) AllReadyH.nil)
                  rw [if_pos (by rfl)]
                  go_simp
                  refine Calls.mono (sP2 _) ?_
                  rintro e wq71 ⟨rfl, hq71⟩
                  have hB71 : Below W.heap.size W wq71 := bl_then hB54 hq71
                  go_wp2_with fail
                  refine hK.out _ _ hB71 (fun hHeld => ?_)
                  clear hK K
                  try simp only [Act.put, List.setIfInBounds_toArray, List.set_cons_zero, List.set_cons_succ]
                  refine takeD (i := 72) (d := some 171) (v := ?vd00072) rfl rfl (by kernel_rfl) (by kernel_rfl) (by kernel_rfl) (fun _ _ _ h => h) (Or.inl ⟨by rfl, ?hyd00072⟩) (by assumption) ?_
                  case hyd00072 => (intro w hSw; (try dsimp only at hSw); go_simp <;> with_reducible rfl)
                  try simp only [Act.put, List.setIfInBounds_toArray, List.set_cons_zero, List.set_cons_succ]
                  refine takeD (i := 73) (d := some 172) (v := ?vd00073) rfl rfl (by kernel_rfl) (by kernel_rfl) (by kernel_rfl) (fun _ _ _ h => h) (Or.inl ⟨by rfl, ?hyd00073⟩) (by assumption) ?_
                  case hyd00073 => (intro w hSw; (try dsimp only at hSw); go_simp <;> with_reducible rfl)
                  try simp only [Act.put, List.setIfInBounds_toArray, List.set_cons_zero, List.set_cons_succ]
                  refine takeD (i := 74) (d := some 173) (v := ?vd00074) rfl rfl (by kernel_rfl) (by kernel_rfl) (by kernel_rfl) (fun _ _ _ h => h) (Or.inl ⟨by rfl, ?hyd00074⟩) (by assumption) ?_
                  case hyd00074 => (intro w hSw; (try dsimp only at hSw); go_simp <;> with_reducible rfl)
                  try simp only [Act.put, List.setIfInBounds_toArray, List.set_cons_zero, List.set_cons_succ]
                  refine takeD (i := 75) (d := some 2) (v := ?vd00075) rfl rfl (by kernel_rfl) (by kernel_rfl) (by kernel_rfl) (fun _ _ _ h => h) (Or.inl ⟨by rfl, ?hyd00075⟩) (by assumption) ?_
                  case hyd00075 => (intro w hSw; (try dsimp only at hSw); go_simp <;> with_reducible rfl)
                  try simp only [Act.put, List.setIfInBounds_toArray, List.set_cons_zero, List.set_cons_succ]
                  refine wpAnyH_done (by kernel_rfl) ?_ _
                  refine NoPanic.normal ?_
                  go_wp2_with fail
                  go_ret
                  exact ⟨rfl, bl_then HBW.out hB71⟩
      · skip
        as_aux_lemma =>
          refine passD (i := 23) (d := some 122) rfl rfl (by kernel_rfl) (by kernel_rfl) (by kernel_rfl) (fun _ _ _ h => h) (by rfl) (by assumption) ?_
          try simp only [Act.put, List.setIfInBounds_toArray, List.set_cons_zero, List.set_cons_succ]
          refine passD (i := 24) (d := some 123) rfl rfl (by kernel_rfl) (by kernel_rfl) (by kernel_rfl) (fun _ _ _ h => h) (by rfl) (by assumption) ?_
          try simp only [Act.put, List.setIfInBounds_toArray, List.set_cons_zero, List.set_cons_succ]
          refine passD (i := 25) (d := some 124) rfl rfl (by kernel_rfl) (by kernel_rfl) (by kernel_rfl) (fun _ _ _ h => h) (by rfl) (by assumption) ?_
          try simp only [Act.put, List.setIfInBounds_toArray, List.set_cons_zero, List.set_cons_succ]
          refine passD (i := 26) (d := some 125) rfl rfl (by kernel_rfl) (by kernel_rfl) (by kernel_rfl) (fun _ _ _ h => h) (by rfl) (by assumption) ?_
          try simp only [Act.put, List.setIfInBounds_toArray, List.set_cons_zero, List.set_cons_succ]
          refine takeD (i := 27) (d := some 126) (v := ?vb127) rfl rfl (by kernel_rfl) (by kernel_rfl) (by kernel_rfl) (fun _ _ _ h => h) (Or.inl ⟨by rfl, ?hyb127⟩) (by assumption) ?_
          case hyb127 => (intro w hSw; (try dsimp only at hSw); go_simp <;> with_reducible rfl)
          try simp only [Act.put, List.setIfInBounds_toArray, List.set_cons_zero, List.set_cons_succ]
          refine takeD (i := 28) (d := some 127) (v := ?vb128) rfl rfl (by kernel_rfl) (by kernel_rfl) (by kernel_rfl) (fun _ _ _ h => h) (Or.inl ⟨by rfl, ?hyb128⟩) (by assumption) ?_
          case hyb128 => (intro w hSw; (try dsimp only at hSw); go_simp <;> with_reducible rfl)
          try simp only [Act.put, List.setIfInBounds_toArray, List.set_cons_zero, List.set_cons_succ]
          refine takeD (i := 29) (d := some 128) (v := ?vb129) rfl rfl (by kernel_rfl) (by kernel_rfl) (by kernel_rfl) (fun _ _ _ h => h) (Or.inl ⟨by rfl, ?hyb129⟩) (by assumption) ?_
          case hyb129 => (intro w hSw; (try dsimp only at hSw); go_simp <;> with_reducible rfl)
          try simp only [Act.put, List.setIfInBounds_toArray, List.set_cons_zero, List.set_cons_succ]
          rcases HSZ.out with ⟨e1, hs0⟩ | ⟨e1, e2, e3⟩
          · subst e1
            as_aux_lemma =>
              refine takeD (i := 30) (d := some 129) (v := ?vc1130) rfl rfl (by kernel_rfl) (by kernel_rfl) (by kernel_rfl) (fun _ _ _ h => h) (Or.inl ⟨by rfl, ?hyc1130⟩) (by assumption) ?_
              case hyc1130 => (intro w hSw; (try dsimp only at hSw); go_simp <;> with_reducible rfl)
              try simp only [Act.put, List.setIfInBounds_toArray, List.set_cons_zero, List.set_cons_succ]
              refine takeD (i := 31) (d := some 130) (v := ?vc1131) rfl rfl (by kernel_rfl) (by kernel_rfl) (by kernel_rfl) (fun _ _ _ h => h) (Or.inl ⟨by rfl, ?hyc1131⟩) (by assumption) ?_
              case hyc1131 => (intro w hSw; (try dsimp only at hSw); go_simp <;> with_reducible rfl)
              try simp only [Act.put, List.setIfInBounds_toArray, List.set_cons_zero, List.set_cons_succ]
              refine takeD (i := 32) (d := some 131) (v := ?vc1132) rfl rfl (by kernel_rfl) (by kernel_rfl) (by kernel_rfl) (fun _ _ _ h => h) (Or.inl ⟨by rfl, ?hyc1132⟩) (by assumption) ?_
              case hyc1132 => (intro w hSw; (try dsimp only at hSw); go_simp <;> with_reducible rfl)
              try simp only [Act.put, List.setIfInBounds_toArray, List.set_cons_zero, List.set_cons_succ]
              refine takeD (i := 33) (d := some 132) (v := ?vc1133) rfl rfl (by kernel_rfl) (by kernel_rfl) (by kernel_rfl) (fun _ _ _ h => h) (Or.inl ⟨by rfl, ?hyc1133⟩) (by assumption) ?_
              case hyc1133 => (intro w hSw; (try dsimp only at hSw); go_simp <;> with_reducible rfl)
              try simp only [Act.put, List.setIfInBounds_toArray, List.set_cons_zero, List.set_cons_succ]
              refine passD (i := 34) (d := some 133) rfl rfl (by kernel_rfl) (by kernel_rfl) (by kernel_rfl) (fun _ _ _ h => h) (by rfl) (by assumption) ?_
              try simp only [Act.put, List.setIfInBounds_toArray, List.set_cons_zero, List.set_cons_succ]
              refine passD (i := 35) (d := some 134) rfl rfl (by kernel_rfl) (by kernel_rfl) (by kernel_rfl) (fun _ _ _ h => h) (by rfl) (by assumption) ?_
              try simp only [Act.put, List.setIfInBounds_toArray, List.set_cons_zero, List.set_cons_succ]
              refine passD (i := 36) (d := some 135) rfl rfl (by kernel_rfl) (by kernel_rfl) (by kernel_rfl) (fun _ _ _ h => h) (by rfl) (by assumption) ?_
              try simp only [Act.put, List.setIfInBounds_toArray, List.set_cons_zero, List.set_cons_succ]
              refine passD (i := 37) (d := some 136) rfl rfl (by kernel_rfl) (by kernel_rfl) (by kernel_rfl) (fun _ _ _ h => h) (by rfl) (by assumption) ?_
              try simp only [Act.put, List.setIfInBounds_toArray, List.set_cons_zero, List.set_cons_succ]
              refine passD (i := 38) (d := some 137) rfl rfl (by kernel_rfl) (by kernel_rfl) (by kernel_rfl) (fun _ _ _ h => h) (by rfl) (by assumption) ?_
              try simp only [Act.put, List.setIfInBounds_toArray, List.set_cons_zero, List.set_cons_succ]
              refine passD (i := 39) (d := some 138) rfl rfl (by kernel_rfl) (by kernel_rfl) (by kernel_rfl) (fun _ _ _ h => h) (by rfl) (by assumption) ?_
              try simp only [Act.put, List.setIfInBounds_toArray, List.set_cons_zero, List.set_cons_succ]
              refine passD (i := 40) (d := some 139) rfl rfl (by kernel_rfl) (by kernel_rfl) (by kernel_rfl) (fun _ _ _ h => h) (by rfl) (by assumption) ?_
              try simp only [Act.put, List.setIfInBounds_toArray, List.set_cons_zero, List.set_cons_succ]
              refine passD (i := 41) (d := some 140) rfl rfl (by kernel_rfl) (by kernel_rfl) (by kernel_rfl) (fun _ _ _ h => h) (by rfl) (by assumption) ?_
              try simp only [Act.put, List.setIfInBounds_toArray, List.set_cons_zero, List.set_cons_succ]
              refine passD (i := 42) (d := some 141) rfl rfl (by kernel_rfl) (by kernel_rfl) (by kernel_rfl) (fun _ _ _ h => h) (by rfl) (by assumption) ?_
              try simp only [Act.put, List.setIfInBounds_toArray, List.set_cons_zero, List.set_cons_succ]
              refine passD (i := 43) (d := some 142) rfl rfl (by kernel_rfl) (by kernel_rfl) (by kernel_rfl) (fun _ _ _ h => h) (by rfl) (by assumption) ?_
              try simp only [Act.put, List.setIfInBounds_toArray, List.set_cons_zero, List.set_cons_succ]
              refine passD (i := 44) (d := some 143) rfl rfl (by kernel_rfl) (by kernel_rfl) (by kernel_rfl) (fun _ _ _ h => h) (by rfl) (by assumption) ?_
              try simp only [Act.put, List.setIfInBounds_toArray, List.set_cons_zero, List.set_cons_succ]
              refine takeD (i := 45) (d := some 144) (v := ?vc1145) rfl rfl (by kernel_rfl) (by kernel_rfl) (by kernel_rfl) (fun _ _ _ h => h) (Or.inl ⟨by rfl, ?hyc1145⟩) (by assumption) ?_
              case hyc1145 => (intro w hSw; (try dsimp only at hSw); go_simp <;> with_reducible rfl)
              try simp only [Act.put, List.setIfInBounds_toArray, List.set_cons_zero, List.set_cons_succ]
              refine takeD (i := 46) (d := some 145) (v := ?vc1146) rfl rfl (by kernel_rfl) (by kernel_rfl) (by kernel_rfl) (fun _ _ _ h => h) (Or.inl ⟨by rfl, ?hyc1146⟩) (by assumption) ?_
              case hyc1146 => (intro w hSw; (try dsimp only at hSw); go_simp <;> with_reducible rfl)
              try simp only [Act.put, List.setIfInBounds_toArray, List.set_cons_zero, List.set_cons_succ]
              refine takeD (i := 47) (d := some 146) (v := ?vc1147) rfl rfl (by kernel_rfl) (by kernel_rfl) (by kernel_rfl) (fun _ _ _ h => h) (Or.inl ⟨by rfl, ?hyc1147⟩) (by assumption) ?_
              case hyc1147 => (intro w hSw; (try dsimp only at hSw); go_simp <;> with_reducible rfl)
              try simp only [Act.put, List.setIfInBounds_toArray, List.set_cons_zero, List.set_cons_succ]
              rcases HZM.out with ⟨g1, gs0⟩ | ⟨g1, g2, g3⟩
              · subst g1
                as_aux_lemma =>
                  refine takeD (i := 48) (d := some 147) (v := ?vd11148) rfl rfl (by kernel_rfl) (by kernel_rfl) (by kernel_rfl) (fun _ _ _ h => h) (Or.inl ⟨by rfl, ?hyd11148⟩) (by assumption) ?_
                  case hyd11148 => (intro w hSw; (try dsimp only at hSw); go_simp <;> with_reducible rfl)
                  try simp only [Act.put, List.setIfInBounds_toArray, List.set_cons_zero, List.set_cons_succ]
                  refine takeD (i := 49) (d := some 148) (v := ?vd11149) rfl rfl (by kernel_rfl) (by kernel_rfl) (by kernel_rfl) (fun _ _ _ h => h) (Or.inl ⟨by rfl, ?hyd11149⟩) (by assumption) ?_
                  case hyd11149 => (intro w hSw; (try dsimp only at hSw); go_simp <;> with_reducible rfl)
                  try simp only [Act.put, List.setIfInBounds_toArray, List.set_cons_zero, List.set_cons_succ]
                  refine takeD (i := 50) (d := some 149) (v := ?vd11150) rfl rfl (by kernel_rfl) (by kernel_rfl) (by kernel_rfl) (fun _ _ _ h => h) (Or.inl ⟨by rfl, ?hyd11150⟩) (by assumption) ?_
                  case hyd11150 => (intro w hSw; (try dsimp only at hSw); go_simp <;> with_reducible rfl)
                  try simp only [Act.put, List.setIfInBounds_toArray, List.set_cons_zero, List.set_cons_succ]
                  refine takeD (i := 51) (d := some 150) (v := ?vd11151) rfl rfl (by kernel_rfl) (by kernel_rfl) (by kernel_rfl) (fun _ _ _ h => h) (Or.inl ⟨by rfl, ?hyd11151⟩) (by assumption) ?_
                  case hyd11151 => (intro w hSw; (try dsimp only at hSw); go_simp <;> with_reducible rfl)
                  try simp only [Act.put, List.setIfInBounds_toArray, List.set_cons_zero, List.set_cons_succ]
                  refine passD (i := 52) (d := some 151) rfl rfl (by kernel_rfl) (by kernel_rfl) (by kernel_rfl) (fun _ _ _ h => h) (by rfl) (by assumption) ?_
                  try simp only [Act.put, List.setIfInBounds_toArray, List.set_cons_zero, List.set_cons_succ]
                  refine passD (i := 53) (d := some 152) rfl rfl (by kernel_rfl) (by kernel_rfl) (by kernel_rfl) (fun _ _ _ h => h) (by rfl) (by assumption) ?_
                  try simp only [Act.put, List.setIfInBounds_toArray, List.set_cons_zero, List.set_cons_succ]
                  refine passD (i := 54) (d := some 153) rfl rfl (by kernel_rfl) (by kernel_rfl) (by kernel_rfl) (fun _ _ _ h => h) (by rfl) (by assumption) ?_
                  try simp only [Act.put, List.setIfInBounds_toArray, List.set_cons_zero, List.set_cons_succ]
                  refine passD (i := 55) (d := some 154) rfl rfl (by kernel_rfl) (by kernel_rfl) (by kernel_rfl) (fun _ _ _ h => h) (by rfl) (by assumption) ?_
                  try simp only [Act.put, List.setIfInBounds_toArray, List.set_cons_zero, List.set_cons_succ]
                  refine passD (i := 56) (d := some 155) rfl rfl (by kernel_rfl) (by kernel_rfl) (by kernel_rfl) (fun _ _ _ h => h) (by rfl) (by assumption) ?_
                  try simp only [Act.put, List.setIfInBounds_toArray, List.set_cons_zero, List.set_cons_succ]
                  refine passD (i := 57) (d := some 156) rfl rfl (by kernel_rfl) (by kernel_rfl) (by kernel_rfl) (fun _ _ _ h => h) (by rfl) (by assumption) ?_
                  try simp only [Act.put, List.setIfInBounds_toArray, List.set_cons_zero, List.set_cons_succ]
                  refine passD (i := 58) (d := some 157) rfl rfl (by kernel_rfl) (by kernel_rfl) (by kernel_rfl) (fun _ _ _ h => h) (by rfl) (by assumption) ?_
                  try simp only [Act.put, List.setIfInBounds_toArray, List.set_cons_zero, List.set_cons_succ]
                  refine passD (i := 59) (d := some 158) rfl rfl (by kernel_rfl) (by kernel_rfl) (by kernel_rfl) (fun _ _ _ h => h) (by rfl) (by assumption) ?_
                  try simp only [Act.put, List.setIfInBounds_toArray, List.set_cons_zero, List.set_cons_succ]
                  refine passD (i := 60) (d := some 159) rfl rfl (by kernel_rfl) (by kernel_rfl) (by kernel_rfl) (fun _ _ _ h => h) (by rfl) (by assumption) ?_
                  try simp only [Act.put, List.setIfInBounds_toArray, List.set_cons_zero, List.set_cons_succ]
                  refine passD (i := 61) (d := some 160) rfl rfl (by kernel_rfl) (by kernel_rfl) (by kernel_rfl) (fun _ _ _ h => h) (by rfl) (by assumption) ?_
                  try simp only [Act.put, List.setIfInBounds_toArray, List.set_cons_zero, List.set_cons_succ]
                  refine passD (i := 62) (d := some 161) rfl rfl (by kernel_rfl) (by kernel_rfl) (by kernel_rfl) (fun _ _ _ h => h) (by rfl) (by assumption) ?_
                  try simp only [Act.put, List.setIfInBounds_toArray, List.set_cons_zero, List.set_cons_succ]
                  refine takeD (i := 63) (d := some 162) (v := ?vd11163) rfl rfl (by kernel_rfl) (by kernel_rfl) (by kernel_rfl) (fun _ _ _ h => h) (Or.inl ⟨by rfl, ?hyd11163⟩) (by assumption) ?_
                  case hyd11163 => (intro w hSw; (try dsimp only at hSw); go_simp <;> with_reducible rfl)
                  try simp only [Act.put, List.setIfInBounds_toArray, List.set_cons_zero, List.set_cons_succ]
                  refine takeD (i := 64) (d := some 163) (v := ?vd11164) rfl rfl (by kernel_rfl) (by kernel_rfl) (by kernel_rfl) (fun _ _ _ h => h) (Or.inl ⟨by rfl, ?hyd11164⟩) (by assumption) ?_
                  case hyd11164 => (intro w hSw; (try dsimp only at hSw); go_simp <;> with_reducible rfl)
                  try simp only [Act.put, List.setIfInBounds_toArray, List.set_cons_zero, List.set_cons_succ]
                  refine takeD (i := 65) (d := some 164) (v := ?vd11165) rfl rfl (by kernel_rfl) (by kernel_rfl) (by kernel_rfl) (fun _ _ _ h => h) (Or.inl ⟨by rfl, ?hyd11165⟩) (by assumption) ?_
                  case hyd11165 => (intro w hSw; (try dsimp only at hSw); go_simp <;> with_reducible rfl)
                  try simp only [Act.put, List.setIfInBounds_toArray, List.set_cons_zero, List.set_cons_succ]
                  refine takeD (i := 66) (d := some 165) (v := ?vd11166) rfl rfl (by kernel_rfl) (by kernel_rfl) (by kernel_rfl) (fun _ _ _ h => h) (Or.inl ⟨by rfl, ?hyd11166⟩) (by assumption) ?_
                  case hyd11166 => (intro w hSw; (try dsimp only at hSw); go_simp <;> with_reducible rfl)
                  try simp only [Act.put, List.setIfInBounds_toArray, List.set_cons_zero, List.set_cons_succ]
                  refine takeD (i := 67) (d := some 166) (v := ?vd11167) rfl rfl (by kernel_rfl) (by kernel_rfl) (by kernel_rfl) (fun _ _ _ h => h) (Or.inl ⟨by rfl, ?hyd11167⟩) (by assumption) ?_
                  case hyd11167 => (intro w hSw; (try dsimp only at hSw); go_simp <;> with_reducible rfl)
                  try simp only [Act.put, List.setIfInBounds_toArray, List.set_cons_zero, List.set_cons_succ]
                  refine takeD (i := 68) (d := some 167) (v := ?vd11168) rfl rfl (by kernel_rfl) (by kernel_rfl) (by kernel_rfl) (fun _ _ _ h => h) (Or.inl ⟨by rfl, ?hyd11168⟩) (by assumption) ?_
                  case hyd11168 => (intro w hSw; (try dsimp only at hSw); go_simp <;> with_reducible rfl)
                  try simp only [Act.put, List.setIfInBounds_toArray, List.set_cons_zero, List.set_cons_succ]
                  refine takeD (i := 69) (d := some 168) (v := ?vd11169) rfl rfl (by kernel_rfl) (by kernel_rfl) (by kernel_rfl) (fun _ _ _ h => h) (Or.inl ⟨by rfl, ?hyd11169⟩) (by assumption) ?_
                  case hyd11169 => (intro w hSw; (try dsimp only at hSw); go_simp <;> with_reducible rfl)
                  try simp only [Act.put, List.setIfInBounds_toArray, List.set_cons_zero, List.set_cons_succ]
                  refine takeD (i := 70) (d := some 169) (v := ?vd11170) rfl rfl (by kernel_rfl) (by kernel_rfl) (by kernel_rfl) (fun _ _ _ h => h) (Or.inl ⟨by rfl, ?hyd11170⟩) (by assumption) ?_
                  case hyd11170 => (intro w hSw; (try dsimp only at hSw); go_simp <;> with_reducible rfl)
                  try simp only [Act.put, List.setIfInBounds_toArray, List.set_cons_zero, List.set_cons_succ]
                  refine wpAnyH_ready (rs := [71]) (by kernel_rfl) (by simp) ?_
                  refine (AllReadyH.cons rfl (fun K hK => ?_) AllReadyH.nil)
                  rw [if_pos (by rfl)]
                  go_simp
                  refine Calls.mono (sP2 _) ?_
                  rintro e wq71 ⟨rfl, hq71⟩
                  have hB71 : Below W.heap.size W wq71 := bl_then hB2 hq71
                  go_wp2_with fail
                  refine hK.out _ _ hB71 (fun hHeld => ?_)
                  clear hK K
                  try simp only [Act.put, List.setIfInBounds_toArray, List.set_cons_zero, List.set_cons_succ]
                  refine takeD (i := 72) (d := some 171) (v := ?vd11172) rfl rfl (by kernel_rfl) (by kernel_rfl) (by kernel_rfl) (fun _ _ _ h => h) (Or.inl ⟨by rfl, ?hyd11172⟩) (by assumption) ?_
                  case hyd11172 => (intro w hSw; (try dsimp only at hSw); go_simp <;> with_reducible rfl)
                  try simp only [Act.put, List.setIfInBounds_toArray, List.set_cons_zero, List.set_cons_succ]
                  refine takeD (i := 73) (d := some 172) (v := ?vd11173) rfl rfl (by kernel_rfl) (by kernel_rfl) (by kernel_rfl) (fun _ _ _ h => h) (Or.inl ⟨by rfl, ?hyd11173⟩) (by assumption) ?_
                  case hyd11173 => (intro w hSw; (try dsimp only at hSw); go_simp <;> with_reducible rfl)
                  try simp only [Act.put, List.setIfInBounds_toArray, List.set_cons_zero, List.set_cons_succ]
                  refine takeD (i := 74) (d := some 173) (v := ?vd11174) rfl rfl (by kernel_rfl) (by kernel_rfl) (by kernel_rfl) (fun _ _ _ h => h) (Or.inl ⟨by rfl, ?hyd11174⟩) (by assumption) ?_
                  case hyd11174 => (intro w hSw; (try dsimp only at hSw); go_simp <;> with_reducible rfl)
                  try simp only [Act.put, List.setIfInBounds_toArray, List.set_cons_zero, List.set_cons_succ]
                  refine takeD (i := 75) (d := some 2) (v := ?vd11175) rfl rfl (by kernel_rfl) (by kernel_rfl) (by kernel_rfl) (fun _ _ _ h => h) (Or.inl ⟨by rfl, ?hyd11175⟩) (by assumption) ?_
                  case hyd11175 => (intro w hSw; (try dsimp only at hSw); go_simp <;> with_reducible rfl)
                  try simp only [Act.put, List.setIfInBounds_toArray, List.set_cons_zero, List.set_cons_succ]
                  refine wpAnyH_done (by kernel_rfl) ?_ _
                  refine NoPanic.normal ?_
                  go_wp2_with fail
                  go_ret
                  exact ⟨rfl, bl_then HBW.out hB71⟩
              · subst g1
                subst g3
                have sF3 := g2.out
                as_aux_lemma =>
                  refine takeD (i := 48) (d := some 147) (v := ?vd11048) rfl rfl (by kernel_rfl) (by kernel_rfl) (by kernel_rfl) (fun _ _ _ h => h) (Or.inl ⟨by rfl, ?hyd11048⟩) (by assumption) ?_
                  case hyd11048 => (intro w hSw; (try dsimp only at hSw); go_simp <;> with_reducible rfl)
                  try simp only [Act.put, List.setIfInBounds_toArray, List.set_cons_zero, List.set_cons_succ]
                  refine takeD (i := 49) (d := some 148) (v := ?vd11049) rfl rfl (by kernel_rfl) (by kernel_rfl) (by kernel_rfl) (fun _ _ _ h => h) (Or.inl ⟨by rfl, ?hyd11049⟩) (by assumption) ?_
                  case hyd11049 => (intro w hSw; (try dsimp only at hSw); go_simp <;> with_reducible rfl)
                  try simp only [Act.put, List.setIfInBounds_toArray, List.set_cons_zero, List.set_cons_succ]
                  refine takeD (i := 50) (d := some 149) (v := ?vd11050) rfl rfl (by kernel_rfl) (by kernel_rfl) (by kernel_rfl) (fun _ _ _ h => h) (Or.inl ⟨by rfl, ?hyd11050⟩) (by assumption) ?_
                  case hyd11050 => (intro w hSw; (try dsimp only at hSw); go_simp <;> with_reducible rfl)
                  try simp only [Act.put, List.setIfInBounds_toArray, List.set_cons_zero, List.set_cons_succ]
                  refine takeD (i := 51) (d := some 150) (v := ?vd11051) rfl rfl (by kernel_rfl) (by kernel_rfl) (by kernel_rfl) (fun _ _ _ h => h) (Or.inl ⟨by rfl, ?hyd11051⟩) (by assumption) ?_
                  case hyd11051 => (intro w hSw; (try dsimp only at hSw); go_simp <;> with_reducible rfl)
                  try simp only [Act.put, List.setIfInBounds_toArray, List.set_cons_zero, List.set_cons_succ]
                  refine takeD (i := 52) (d := some 151) (v := ?vd11052) rfl rfl (by kernel_rfl) (by kernel_rfl) (by kernel_rfl) (fun _ _ _ h => h) (Or.inl ⟨by rfl, ?hyd11052⟩) (by assumption) ?_
                  case hyd11052 => (intro w hSw; (try dsimp only at hSw); go_simp <;> with_reducible rfl)
                  try simp only [Act.put, List.setIfInBounds_toArray, List.set_cons_zero, List.set_cons_succ]
                  refine takeD (i := 53) (d := some 152) (v := ?vd11053) rfl rfl (by kernel_rfl) (by kernel_rfl) (by kernel_rfl) (fun _ _ _ h => h) (Or.inl ⟨by rfl, ?hyd11053⟩) (by assumption) ?_
                  case hyd11053 => (intro w hSw; (try dsimp only at hSw); go_simp <;> with_reducible rfl)
                  try simp only [Act.put, List.setIfInBounds_toArray, List.set_cons_zero, List.set_cons_succ]
                  refine wpAnyH_ready (rs := [54]) (by kernel_rfl) (by simp) ?_
                  refine (AllReadyH.cons rfl (fun K hK => ?_) AllReadyH.nil)
                  rw [if_pos (by rfl)]
                  go_simp
                  refine Calls.mono (sF3 _) ?_
                  rintro e wq54 ⟨rfl, hq54⟩
                  have hB54 : Below W.heap.size W wq54 := bl_then hB2 hq54
                  go_wp2_with fail
                  refine hK.out _ _ hB54 (fun hHeld => ?_)
                  clear hK K
                  try simp only [Act.put, List.setIfInBounds_toArray, List.set_cons_zero, List.set_cons_succ]
                  refine takeD (i := 55) (d := some 154) (v := ?vd11055) rfl rfl (by kernel_rfl) (by kernel_rfl) (by kernel_rfl) (fun _ _ _ h => h) (Or.inl ⟨by rfl, ?hyd11055⟩) (by assumption) ?_
                  case hyd11055 => (intro w hSw; (try dsimp only at hSw); go_simp <;> with_reducible rfl)
                  try simp only [Act.put, List.setIfInBounds_toArray, List.set_cons_zero, List.set_cons_succ]
                  refine takeD (i := 56) (d := some 155) (v := ?vd11056) rfl rfl (by kernel_rfl) (by kernel_rfl) (by kernel_rfl) (fun _ _ _ h => h) (Or.inl ⟨by rfl, ?hyd11056⟩) (by assumption) ?_
                  case hyd11056 => (intro w hSw; (try dsimp only at hSw); go_simp <;> with_reducible rfl)
                  try simp only [Act.put, List.setIfInBounds_toArray, List.set_cons_zero, List.set_cons_succ]
                  refine takeD (i := 57) (d := some 156) (v := ?vd11057) rfl rfl (by kernel_rfl) (by kernel_rfl) (by kernel_rfl) (fun _ _ _ h => h) (Or.inl ⟨by rfl, ?hyd11057⟩) (by assumption) ?_
                  case hyd11057 => (intro w hSw; (try dsimp only at hSw); go_simp <;> with_reducible rfl)
                  try simp only [Act.put, List.setIfInBounds_toArray, List.set_cons_zero, List.set_cons_succ]
                  refine takeD (i := 58) (d := some 157) (v := ?vd11058) rfl rfl (by kernel_rfl) (by kernel_rfl) (by kernel_rfl) (fun _ _ _ h => h) (Or.inl ⟨by rfl, ?hyd11058⟩) (by assumption) ?_
                  case hyd11058 => (intro w hSw; (try dsimp only at hSw); go_simp <;> with_reducible rfl)
                  try simp only [Act.put, List.setIfInBounds_toArray, List.set_cons_zero, List.set_cons_succ]
                  refine takeD (i := 59) (d := some 158) (v := ?vd11059) rfl rfl (by kernel_rfl) (by kernel_rfl) (by kernel_rfl) (fun _ _ _ h => h) (Or.inl ⟨by rfl, ?hyd11059⟩) (by assumption) ?_
                  case hyd11059 => (intro w hSw; (try dsimp only at hSw); go_simp <;> with_reducible rfl)
                  try simp only [Act.put, List.setIfInBounds_toArray, List.set_cons_zero, List.set_cons_succ]
                  refine takeD (i := 60) (d := some 159) (v := ?vd11060) rfl rfl (by kernel_rfl) (by kernel_rfl) (by kernel_rfl) (fun _ _ _ h => h) (Or.inl ⟨by rfl, ?hyd11060⟩) (by assumption) ?_
                  case hyd11060 => (intro w hSw; (try dsimp only at hSw); go_simp <;> with_reducible rfl)
                  try simp only [Act.put, List.setIfInBounds_toArray, List.set_cons_zero, List.set_cons_succ]
                  refine takeD (i := 61) (d := some 160) (v := ?vd11061) rfl rfl (by kernel_rfl) (by kernel_rfl) (by kernel_rfl) (fun _ _ _ h => h) (Or.inl ⟨by rfl, ?hyd11061⟩) (by assumption) ?_
                  case hyd11061 => (intro w hSw; (try dsimp only at hSw); go_simp <;> with_reducible rfl)
                  try simp only [Act.put, List.setIfInBounds_toArray, List.set_cons_zero, List.set_cons_succ]
                  refine takeD (i := 62) (d := some 161) (v := ?vd11062) rfl rfl (by kernel_rfl) (by kernel_rfl) (by kernel_rfl) (fun _ _ _ h => h) (Or.inl ⟨by rfl, ?hyd11062⟩) (by assumption) ?_
                  case hyd11062 => (intro w hSw; (try dsimp only at hSw); go_simp <;> with_reducible rfl)
                  try simp only [Act.put, List.setIfInBounds_toArray, List.set_cons_zero, List.set_cons_succ]
                  refine takeD (i := 63) (d := some 162) (v := ?vd11063) rfl rfl (by kernel_rfl) (by kernel_rfl) (by kernel_rfl) (fun _ _ _ h => h) (Or.inl ⟨by rfl, ?hyd11063⟩) (by assumption) ?_
                  case hyd11063 => (intro w hSw; (try dsimp only at hSw); go_simp <;> with_reducible rfl)
                  try simp only [Act.put, List.setIfInBounds_toArray, List.set_cons_zero, List.set_cons_succ]
                  refine takeD (i := 64) (d := some 163) (v := ?vd11064) rfl rfl (by kernel_rfl) (by kernel_rfl) (by kernel_rfl) (fun _ _ _ h => h) (Or.inl ⟨by rfl, ?hyd11064⟩) (by assumption) ?_
                  case hyd11064 => (intro w hSw; (try dsimp only at hSw); go_simp <;> with_reducible rfl)
                  try simp only [Act.put, List.setIfInBounds_toArray, List.set_cons_zero, List.set_cons_succ]
                  refine takeD (i := 65) (d := some 164) (v := ?vd11065) rfl rfl (by kernel_rfl) (by kernel_rfl) (by kernel_rfl) (fun _ _ _ h => h) (Or.inl ⟨by rfl, ?hyd11065⟩) (by assumption) ?_
                  case hyd11065 => (intro w hSw; (try dsimp only at hSw); go_simp <;> with_reducible rfl)
                  try simp only [Act.put, List.setIfInBounds_toArray, List.set_cons_zero, List.set_cons_succ]
                  refine takeD (i := 66) (d := some 165) (v := ?vd11066) rfl rfl (by kernel_rfl) (by kernel_rfl) (by kernel_rfl) (fun _ _ _ h => h) (Or.inl ⟨by rfl, ?hyd11066⟩) (by assumption) ?_
                  case hyd11066 => (intro w hSw; (try dsimp only at hSw); go_simp <;> with_reducible rfl)
                  try simp only [Act.put, List.setIfInBounds_toArray, List.set_cons_zero, List.set_cons_succ]
                  refine takeD (i := 67) (d := some 166) (v := ?vd11067) rfl rfl (by kernel_rfl) (by kernel_rfl) (by kernel_rfl) (fun _ _ _ h => h) (Or.inl ⟨by rfl, ?hyd11067⟩) (by assumption) ?_
                  case hyd11067 => (intro w hSw; (try dsimp only at hSw); go_simp <;> with_reducible rfl)
                  try simp only [Act.put, List.setIfInBounds_toArray, List.set_cons_zero, List.set_cons_succ]
                  refine takeD (i := 68) (d := some 167) (v := ?vd11068) rfl rfl (by kernel_rfl) (by kernel_rfl) (by kernel_rfl) (fun _ _ _ h => h) (Or.inl ⟨by rfl, ?hyd11068⟩) (by assumption) ?_
                  case hyd11068 => (intro w hSw; (try dsimp only at hSw); go_simp <;> with_reducible rfl)
                  try simp only [Act.put, List.setIfInBounds_toArray, List.set_cons_zero, List.set_cons_succ]
                  refine takeD (i := 69) (d := some 168) (v := ?vd11069) rfl rfl (by kernel_rfl) (by kernel_rfl) (by kernel_rfl) (fun _ _ _ h => h) (Or.inl ⟨by rfl, ?hyd11069⟩) (by assumption) ?_
                  case hyd11069 => (intro w hSw; (try dsimp only at hSw); go_simp <;> with_reducible rfl)
                  try simp only [Act.put, List.setIfInBounds_toArray, List.set_cons_zero, List.set_cons_succ]
                  refine takeD (i := 70) (d := some 169) (v := ?vd11070) rfl rfl (by kernel_rfl) (by kernel_rfl) (by kernel_rfl) (fun _ _ _ h => h) (Or.inl ⟨by rfl, ?hyd11070⟩) (by assumption) ?_
                  case hyd11070 => (intro w hSw; (try dsimp only at hSw); go_simp <;> with_reducible rfl)
                  try simp only [Act.put, List.setIfInBounds_toArray, List.set_cons_zero, List.set_cons_succ]
                  refine wpAnyH_ready (rs := [71]) (by kernel_rfl) (by simp) ?_
                  refine (AllReadyH.cons rfl (fun K hK => ?_) AllReadyH.nil)
                  rw [if_pos (by rfl)]
                  go_simp
                  refine Calls.mono (sP2 _) ?_
                  rintro e wq71 ⟨rfl, hq71⟩
                  have hB71 : Below W.heap.size W wq71 := bl_then hB54 hq71
                  go_wp2_with fail
                  refine hK.out _ _ hB71 (fun hHeld => ?_)
                  clear hK K
                  try simp only [Act.put, List.setIfInBounds_toArray, List.set_cons_zero, List.set_cons_succ]
                  refine takeD (i := 72) (d := some 171) (v := ?vd11072) rfl rfl (by kernel_rfl) (by kernel_rfl) (by kernel_rfl) (fun _ _ _ h => h) (Or.inl ⟨by rfl, ?hyd11072⟩) (by assumption) ?_
                  case hyd11072 => (intro w hSw; (try dsimp only at hSw); go_simp <;> with_reducible rfl)
                  try simp only [Act.put, List.setIfInBounds_toArray, List.set_cons_zero, List.set_cons_succ]
                  refine takeD (i := 73) (d := some 172) (v := ?vd11073) rfl rfl (by kernel_rfl) (by kernel_rfl) (by kernel_rfl) (fun _ _ _ h => h) (Or.inl ⟨by rfl, ?hyd11073⟩) (by assumption) ?_
                  case hyd11073 => (intro w hSw; (try dsimp only at hSw); go_simp <;> with_reducible rfl)
                  try simp only [Act.put, List.setIfInBounds_toArray, List.set_cons_zero, List.set_cons_succ]
                  refine takeD (i := 74) (d := some 173) (v := ?vd11074) rfl rfl (by kernel_rfl) (by kernel_rfl) (by kernel_rfl) (fun _ _ _ h => h) (Or.inl ⟨by rfl, ?hyd11074⟩) (by assumption) ?_
                  case hyd11074 => (intro w hSw; (try dsimp only at hSw); go_simp <;> with_reducible rfl)
                  try simp only [Act.put, List.setIfInBounds_toArray, List.set_cons_zero, List.set_cons_succ]
                  refine takeD (i := 75) (d := some 2) (v := ?vd11075) rfl rfl (by kernel_rfl) (by kernel_rfl) (by kernel_rfl) (fun _ _ _ h => h) (Or.inl ⟨by rfl, ?hyd11075⟩) (by assumption) ?_
                  case hyd11075 => (intro w hSw; (try dsimp only at hSw); go_simp <;> with_reducible rfl)
                  try simp only [Act.put, List.setIfInBounds_toArray, List.set_cons_zero, List.set_cons_succ]
                  refine wpAnyH_done (by kernel_rfl) ?_ _
                  refine NoPanic.normal ?_
                  go_wp2_with fail
                  go_ret
                  exact ⟨rfl, bl_then HBW.out hB71⟩
          · subst e1
            subst e3
            have sF2 := e2.out
            as_aux_lemma =>
              refine takeD (i := 30) (d := some 129) (v := ?vc1030) rfl rfl (by kernel_rfl) (by kernel_rfl) (by kernel_rfl) (fun _ _ _ h => h) (Or.inl ⟨by rfl, ?hyc1030⟩) (by assumption) ?_
              case hyc1030 => (intro w hSw; (try dsimp only at hSw); go_simp <;> with_reducible rfl)
              try simp only [Act.put, List.setIfInBounds_toArray, List.set_cons_zero, List.set_cons_succ]
              refine takeD (i := 31) (d := some 130) (v := ?vc1031) rfl rfl (by kernel_rfl) (by kernel_rfl) (by kernel_rfl) (fun _ _ _ h => h) (Or.inl ⟨by rfl, ?hyc1031⟩) (by assumption) ?_
              case hyc1031 => (intro w hSw; (try dsimp only at hSw); go_simp <;> with_reducible rfl)
              try simp only [Act.put, List.setIfInBounds_toArray, List.set_cons_zero, List.set_cons_succ]
              refine takeD (i := 32) (d := some 131) (v := ?vc1032) rfl rfl (by kernel_rfl) (by kernel_rfl) (by kernel_rfl) (fun _ _ _ h => h) (Or.inl ⟨by rfl, ?hyc1032⟩) (by assumption) ?_
              case hyc1032 => (intro w hSw; (try dsimp only at hSw); go_simp <;> with_reducible rfl)
              try simp only [Act.put, List.setIfInBounds_toArray, List.set_cons_zero, List.set_cons_succ]
              refine takeD (i := 33) (d := some 132) (v := ?vc1033) rfl rfl (by kernel_rfl) (by kernel_rfl) (by kernel_rfl) (fun _ _ _ h => h) (Or.inl ⟨by rfl, ?hyc1033⟩) (by assumption) ?_
              case hyc1033 => (intro w hSw; (try dsimp only at hSw); go_simp <;> with_reducible rfl)
              try simp only [Act.put, List.setIfInBounds_toArray, List.set_cons_zero, List.set_cons_succ]
              refine takeD (i := 34) (d := some 133) (v := ?vc1034) rfl rfl (by kernel_rfl) (by kernel_rfl) (by kernel_rfl) (fun _ _ _ h => h) (Or.inl ⟨by rfl, ?hyc1034⟩) (by assumption) ?_
              case hyc1034 => (intro w hSw; (try dsimp only at hSw); go_simp <;> with_reducible rfl)
              try simp only [Act.put, List.setIfInBounds_toArray, List.set_cons_zero, List.set_cons_succ]
              refine takeD (i := 35) (d := some 134) (v := ?vc1035) rfl rfl (by kernel_rfl) (by kernel_rfl) (by kernel_rfl) (fun _ _ _ h => h) (Or.inl ⟨by rfl, ?hyc1035⟩) (by assumption) ?_
              case hyc1035 => (intro w hSw; (try dsimp only at hSw); go_simp <;> with_reducible rfl)
              try simp only [Act.put, List.setIfInBounds_toArray, List.set_cons_zero, List.set_cons_succ]
              refine wpAnyH_ready (rs := [36]) (by kernel_rfl) (by simp) ?_
              refine (AllReadyH.cons rfl (fun K hK => ?_) AllReadyH.nil)
              rw [if_pos (by rfl)]
              go_simp
              refine Calls.mono (sF2 _) ?_
              rintro e wq36 ⟨rfl, hq36⟩
              have hB36 : Below W.heap.size W wq36 := bl_then hB2 hq36
              go_wp2_with fail
              refine hK.out _ _ hB36 (fun hHeld => ?_)
              clear hK K
              try simp only [Act.put, List.setIfInBounds_toArray, List.set_cons_zero, List.set_cons_succ]
              refine takeD (i := 37) (d := some 136) (v := ?vc1037) rfl rfl (by kernel_rfl) (by kernel_rfl) (by kernel_rfl) (fun _ _ _ h => h) (Or.inl ⟨by rfl, ?hyc1037⟩) (by assumption) ?_
              case hyc1037 => (intro w hSw; (try dsimp only at hSw); go_simp <;> with_reducible rfl)
              try simp only [Act.put, List.setIfInBounds_toArray, List.set_cons_zero, List.set_cons_succ]
              refine takeD (i := 38) (d := some 137) (v := ?vc1038) rfl rfl (by kernel_rfl) (by kernel_rfl) (by kernel_rfl) (fun _ _ _ h => h) (Or.inl ⟨by rfl, ?hyc1038⟩) (by assumption) ?_
              case hyc1038 => (intro w hSw; (try dsimp only at hSw); go_simp <;> with_reducible rfl)
              try simp only [Act.put, List.setIfInBounds_toArray, List.set_cons_zero, List.set_cons_succ]
              refine takeD (i := 39) (d := some 138) (v := ?vc1039) rfl rfl (by kernel_rfl) (by kernel_rfl) (by kernel_rfl) (fun _ _ _ h => h) (Or.inl ⟨by rfl, ?hyc1039⟩) (by assumption) ?_
              case hyc1039 => (intro w hSw; (try dsimp only at hSw); go_simp <;> with_reducible rfl)
              try simp only [Act.put, List.setIfInBounds_toArray, List.set_cons_zero, List.set_cons_succ]
              refine takeD (i := 40) (d := some 139) (v := ?vc1040) rfl rfl (by kernel_rfl) (by kernel_rfl) (by kernel_rfl) (fun _ _ _ h => h) (Or.inl ⟨by rfl, ?hyc1040⟩) (by assumption) ?_
              case hyc1040 => (intro w hSw; (try dsimp only at hSw); go_simp <;> with_reducible rfl)
              try simp only [Act.put, List.setIfInBounds_toArray, List.set_cons_zero, List.set_cons_succ]
              refine takeD (i := 41) (d := some 140) (v := ?vc1041) rfl rfl (by kernel_rfl) (by kernel_rfl) (by kernel_rfl) (fun _ _ _ h => h) (Or.inl ⟨by rfl, ?hyc1041⟩) (by assumption) ?_
              case hyc1041 => (intro w hSw; (try dsimp only at hSw); go_simp <;> with_reducible rfl)
              try simp only [Act.put, List.setIfInBounds_toArray, List.set_cons_zero, List.set_cons_succ]
              refine takeD (i := 42) (d := some 141) (v := ?vc1042) rfl rfl (by kernel_rfl) (by kernel_rfl) (by kernel_rfl) (fun _ _ _ h => h) (Or.inl ⟨by rfl, ?hyc1042⟩) (by assumption) ?_
              case hyc1042 => (intro w hSw; (try dsimp only at hSw); go_simp <;> with_reducible rfl)
              try simp only [Act.put, List.setIfInBounds_toArray, List.set_cons_zero, List.set_cons_succ]
              refine takeD (i := 43) (d := some 142) (v := ?vc1043) rfl rfl (by kernel_rfl) (by kernel_rfl) (by kernel_rfl) (fun _ _ _ h => h) (Or.inl ⟨by rfl, ?hyc1043⟩) (by assumption) ?_
              case hyc1043 => (intro w hSw; (try dsimp only at hSw); go_simp <;> with_reducible rfl)
              try simp only [Act.put, List.setIfInBounds_toArray, List.set_cons_zero, List.set_cons_succ]
              refine takeD (i := 44) (d := some 143) (v := ?vc1044) rfl rfl (by kernel_rfl) (by kernel_rfl) (by kernel_rfl) (fun _ _ _ h => h) (Or.inl ⟨by rfl, ?hyc1044⟩) (by assumption) ?_
              case hyc1044 => (intro w hSw; (try dsimp only at hSw); go_simp <;> with_reducible rfl)
              try simp only [Act.put, List.setIfInBounds_toArray, List.set_cons_zero, List.set_cons_succ]
              refine takeD (i := 45) (d := some 144) (v := ?vc1045) rfl rfl (by kernel_rfl) (by kernel_rfl) (by kernel_rfl) (fun _ _ _ h => h) (Or.inl ⟨by rfl, ?hyc1045⟩) (by assumption) ?_
              case hyc1045 => (intro w hSw; (try dsimp only at hSw); go_simp <;> with_reducible rfl)
              try simp only [Act.put, List.setIfInBounds_toArray, List.set_cons_zero, List.set_cons_succ]
              refine takeD (i := 46) (d := some 145) (v := ?vc1046) rfl rfl (by kernel_rfl) (by kernel_rfl) (by kernel_rfl) (fun _ _ _ h => h) (Or.inl ⟨by rfl, ?hyc1046⟩) (by assumption) ?_
              case hyc1046 => (intro w hSw; (try dsimp only at hSw); go_simp <;> with_reducible rfl)
              try simp only [Act.put, List.setIfInBounds_toArray, List.set_cons_zero, List.set_cons_succ]
              refine takeD (i := 47) (d := some 146) (v := ?vc1047) rfl rfl (by kernel_rfl) (by kernel_rfl) (by kernel_rfl) (fun _ _ _ h => h) (Or.inl ⟨by rfl, ?hyc1047⟩) (by assumption) ?_
              case hyc1047 => (intro w hSw; (try dsimp only at hSw); go_simp <;> with_reducible rfl)
              try simp only [Act.put, List.setIfInBounds_toArray, List.set_cons_zero, List.set_cons_succ]
              rcases HZM.out with ⟨g1, gs0⟩ | ⟨g1, g2, g3⟩
              · subst g1
                as_aux_lemma =>
                  refine takeD (i := 48) (d := some 147) (v := ?vd10148) rfl rfl (by kernel_rfl) (by kernel_rfl) (by kernel_rfl) (fun _ _ _ h => h) (Or.inl ⟨by rfl, ?hyd10148⟩) (by assumption) ?_
                  case hyd10148 => (intro w hSw; (try dsimp only at hSw); go_simp <;> with_reducible rfl)
                  try simp only [Act.put, List.setIfInBounds_toArray, List.set_cons_zero, List.set_cons_succ]
                  refine takeD (i := 49) (d := some 148) (v := ?vd10149) rfl rfl (by kernel_rfl) (by kernel_rfl) (by kernel_rfl) (fun _ _ _ h => h) (Or.inl ⟨by rfl, ?hyd10149⟩) (by assumption) ?_
                  case hyd10149 => (intro w hSw; (try dsimp only at hSw); go_simp <;> with_reducible rfl)
                  try simp only [Act.put, List.setIfInBounds_toArray, List.set_cons_zero, List.set_cons_succ]
                  refine takeD (i := 50) (d := some 149) (v := ?vd10150) rfl rfl (by kernel_rfl) (by kernel_rfl) (by kernel_rfl) (fun _ _ _ h => h) (Or.inl ⟨by rfl, ?hyd10150⟩) (by assumption) ?_
                  case hyd10150 => (intro w hSw; (try dsimp only at hSw); go_simp <;> with_reducible rfl)
                  try simp only [Act.put, List.setIfInBounds_toArray, List.set_cons_zero, List.set_cons_succ]
                  refine takeD (i := 51) (d := some 150) (v := ?vd10151) rfl rfl (by kernel_rfl) (by kernel_rfl) (by kernel_rfl) (fun _ _ _ h => h) (Or.inl ⟨by rfl, ?hyd10151⟩) (by assumption) ?_
                  case hyd10151 => (intro w hSw; (try dsimp only at hSw); go_simp <;> with_reducible rfl)
                  try simp only [Act.put, List.setIfInBounds_toArray, List.set_cons_zero, List.set_cons_succ]
                  refine passD (i := 52) (d := some 151) rfl rfl (by kernel_rfl) (by kernel_rfl) (by kernel_rfl) (fun _ _ _ h => h) (by rfl) (by assumption) ?_
                  try simp only [Act.put, List.setIfInBounds_toArray, List.set_cons_zero, List.set_cons_succ]
                  refine passD (i := 53) (d := some 152) rfl rfl (by kernel_rfl) (by kernel_rfl) (by kernel_rfl) (fun _ _ _ h => h) (by rfl) (by assumption) ?_
                  try simp only [Act.put, List.setIfInBounds_toArray, List.set_cons_zero, List.set_cons_succ]
                  refine passD (i := 54) (d := some 153) rfl rfl (by kernel_rfl) (by kernel_rfl) (by kernel_rfl) (fun _ _ _ h => h) (by rfl) (by assumption) ?_
                  try simp only [Act.put, List.setIfInBounds_toArray, List.set_cons_zero, List.set_cons_succ]
                  refine passD (i := 55) (d := some 154) rfl rfl (by kernel_rfl) (by kernel_rfl) (by kernel_rfl) (fun _ _ _ h => h) (by rfl) (by assumption) ?_
                  try simp only [Act.put, List.setIfInBounds_toArray, List.set_cons_zero, List.set_cons_succ]
                  refine passD (i := 56) (d := some 155) rfl rfl (by kernel_rfl) (by kernel_rfl) (by kernel_rfl) (fun _ _ _ h => h) (by rfl) (by assumption) ?_
                  try simp only [Act.put, List.setIfInBounds_toArray, List.set_cons_zero, List.set_cons_succ]
                  refine passD (i := 57) (d := some 156) rfl rfl (by kernel_rfl) (by kernel_rfl) (by kernel_rfl) (fun _ _ _ h => h) (by rfl) (by assumption) ?_
                  try simp only [Act.put, List.setIfInBounds_toArray, List.set_cons_zero, List.set_cons_succ]
                  refine passD (i := 58) (d := some 157) rfl rfl (by kernel_rfl) (by kernel_rfl) (by kernel_rfl) (fun _ _ _ h => h) (by rfl) (by assumption) ?_
                  try simp only [Act.put, List.setIfInBounds_toArray, List.set_cons_zero, List.set_cons_succ]
                  refine passD (i := 59) (d := some 158) rfl rfl (by kernel_rfl) (by kernel_rfl) (by kernel_rfl) (fun _ _ _ h => h) (by rfl) (by assumption) ?_
                  try simp only [Act.put, List.setIfInBounds_toArray, List.set_cons_zero, List.set_cons_succ]
                  refine passD (i := 60) (d := some 159) rfl rfl (by kernel_rfl) (by kernel_rfl) (by kernel_rfl) (fun _ _ _ h => h) (by rfl) (by assumption) ?_
                  try simp only [Act.put, List.setIfInBounds_toArray, List.set_cons_zero, List.set_cons_succ]
                  refine passD (i := 61) (d := some 160) rfl rfl (by kernel_rfl) (by kernel_rfl) (by kernel_rfl) (fun _ _ _ h => h) (by rfl) (by assumption) ?_
                  try simp only [Act.put, List.setIfInBounds_toArray, List.set_cons_zero, List.set_cons_succ]
                  refine passD (i := 62) (d := some 161) rfl rfl (by kernel_rfl) (by kernel_rfl) (by kernel_rfl) (fun _ _ _ h => h) (by rfl) (by assumption) ?_
                  try simp only [Act.put, List.setIfInBounds_toArray, List.set_cons_zero, List.set_cons_succ]
                  refine takeD (i := 63) (d := some 162) (v := ?vd10163) rfl rfl (by kernel_rfl) (by kernel_rfl) (by kernel_rfl) (fun _ _ _ h => h) (Or.inl ⟨by rfl, ?hyd10163⟩) (by assumption) ?_
                  case hyd10163 => (intro w hSw; (try dsimp only at hSw); go_simp <;> with_reducible rfl)
                  try simp only [Act.put, List.setIfInBounds_toArray, List.set_cons_zero, List.set_cons_succ]
                  refine takeD (i := 64) (d := some 163) (v := ?vd10164) rfl rfl (by kernel_rfl) (by kernel_rfl) (by kernel_rfl) (fun _ _ _ h => h) (Or.inl ⟨by rfl, ?hyd10164⟩) (by assumption) ?_
                  case hyd10164 => (intro w hSw; (try dsimp only at hSw); go_simp <;> with_reducible rfl)
                  try simp only [Act.put, List.setIfInBounds_toArray, List.set_cons_zero, List.set_cons_succ]
                  refine takeD (i := 65) (d := some 164) (v := ?vd10165) rfl rfl (by kernel_rfl) (by kernel_rfl) (by kernel_rfl) (fun _ _ _ h => h) (Or.inl ⟨by rfl, ?hyd10165⟩) (by assumption) ?_
                  case hyd10165 => (intro w hSw; (try dsimp only at hSw); go_simp <;> with_reducible rfl)
                  try simp only [Act.put, List.setIfInBounds_toArray, List.set_cons_zero, List.set_cons_succ]
                  refine takeD (i := 66) (d := some 165) (v := ?vd10166) rfl rfl (by kernel_rfl) (by kernel_rfl) (by kernel_rfl) (fun _ _ _ h => h) (Or.inl ⟨by rfl, ?hyd10166⟩) (by assumption) ?_
                  case hyd10166 => (intro w hSw; (try dsimp only at hSw); go_simp <;> with_reducible rfl)
                  try simp only [Act.put, List.setIfInBounds_toArray, List.set_cons_zero, List.set_cons_succ]
                  refine takeD (i := 67) (d := some 166) (v := ?vd10167) rfl rfl (by kernel_rfl) (by kernel_rfl) (by kernel_rfl) (fun _ _ _ h => h) (Or.inl ⟨by rfl, ?hyd10167⟩) (by assumption) ?_
                  case hyd10167 => (intro w hSw; (try dsimp only at hSw); go_simp <;> with_reducible rfl)
                  try simp only [Act.put, List.setIfInBounds_toArray, List.set_cons_zero, List.set_cons_succ]
                  refine takeD (i := 68) (d := some 167) (v := ?vd10168) rfl rfl (by kernel_rfl) (by kernel_rfl) (by kernel_rfl) (fun _ _ _ h => h) (Or.inl ⟨by rfl, ?hyd10168⟩) (by assumption) ?_
                  case hyd10168 => (intro w hSw; (try dsimp only at hSw); go_simp <;> with_reducible rfl)
                  try simp only [Act.put, List.setIfInBounds_toArray, List.set_cons_zero, List.set_cons_succ]
                  refine takeD (i := 69) (d := some 168) (v := ?vd10169) rfl rfl (by kernel_rfl) (by kernel_rfl) (by kernel_rfl) (fun _ _ _ h => h) (Or.inl ⟨by rfl, ?hyd10169⟩) (by assumption) ?_
                  case hyd10169 => (intro w hSw; (try dsimp only at hSw); go_simp <;> with_reducible rfl)
                  try simp only [Act.put, List.setIfInBounds_toArray, List.set_cons_zero, List.set_cons_succ]
                  refine takeD (i := 70) (d := some 169) (v := ?vd10170) rfl rfl (by kernel_rfl) (by kernel_rfl) (by kernel_rfl) (fun _ _ _ h => h) (Or.inl ⟨by rfl, ?hyd10170⟩) (by assumption) ?_
                  case hyd10170 => (intro w hSw; (try dsimp only at hSw); go_simp <;> with_reducible rfl)
                  try simp only [Act.put, List.setIfInBounds_toArray, List.set_cons_zero, List.set_cons_succ]
                  refine wpAnyH_ready (rs := [71]) (by kernel_rfl) (by simp) ?_
                  refine (AllReadyH.cons rfl (fun K hK => ?_) AllReadyH.nil)
                  rw [if_pos (by rfl)]
                  go_simp
                  refine Calls.mono (sP2 _) ?_
                  rintro e wq71 ⟨rfl, hq71⟩
                  have hB71 : Below W.heap.size W wq71 := bl_then hB36 hq71
                  go_wp2_with fail
                  refine hK.out _ _ hB71 (fun hHeld => ?_)
                  clear hK K
                  try simp only [Act.put, List.setIfInBounds_toArray, List.set_cons_zero, List.set_cons_succ]
                  refine takeD (i := 72) (d := some 171) (v := ?vd10172) rfl rfl (by kernel_rfl) (by kernel_rfl) (by kernel_rfl) (fun _ _ _ h => h) (Or.inl ⟨by rfl, ?hyd10172⟩) (by assumption) ?_
                  case hyd10172 => (intro w hSw; (try dsimp only at hSw); go_simp <;> with_reducible rfl)
                  try simp only [Act.put, List.setIfInBounds_toArray, List.set_cons_zero, List.set_cons_succ]
                  refine takeD (i := 73) (d := some 172) (v := ?vd10173) rfl rfl (by kernel_rfl) (by kernel_rfl) (by kernel_rfl) (fun _ _ _ h => h) (Or.inl ⟨by rfl, ?hyd10173⟩) (by assumption) ?_
                  case hyd10173 => (intro w hSw; (try dsimp only at hSw); go_simp <;> with_reducible rfl)
                  try simp only [Act.put, List.setIfInBounds_toArray, List.set_cons_zero, List.set_cons_succ]
                  refine takeD (i := 74) (d := some 173) (v := ?vd10174) rfl rfl (by kernel_rfl) (by kernel_rfl) (by kernel_rfl) (fun _ _ _ h => h) (Or.inl ⟨by rfl, ?hyd10174⟩) (by assumption) ?_
                  case hyd10174 => (intro w hSw; (try dsimp only at hSw); go_simp <;> with_reducible rfl)
                  try simp only [Act.put, List.setIfInBounds_toArray, List.set_cons_zero, List.set_cons_succ]
                  refine takeD (i := 75) (d := some 2) (v := ?vd10175) rfl rfl (by kernel_rfl) (by kernel_rfl) (by kernel_rfl) (fun _ _ _ h => h) (Or.inl ⟨by rfl, ?hyd10175⟩) (by assumption) ?_
                  case hyd10175 => (intro w hSw; (try dsimp only at hSw); go_simp <;> with_reducible rfl)
                  try simp only [Act.put, List.setIfInBounds_toArray, List.set_cons_zero, List.set_cons_succ]
                  refine wpAnyH_done (by kernel_rfl) ?_ _
                  refine NoPanic.normal ?_
                  go_wp2_with fail
                  go_ret
                  exact ⟨rfl, bl_then HBW.out hB71⟩
              · subst g1
                subst g3
                have sF3 := g2.out
                as_aux_lemma =>
                  refine takeD (i := 48) (d := some 147) (v := ?vd10048) rfl rfl (by kernel_rfl) (by kernel_rfl) (by kernel_rfl) (fun _ _ _ h => h) (Or.inl ⟨by rfl, ?hyd10048⟩) (by assumption) ?_
                  case hyd10048 => (intro w hSw; (try dsimp only at hSw); go_simp <;> with_reducible rfl)
                  try simp only [Act.put, List.setIfInBounds_toArray, List.set_cons_zero, List.set_cons_succ]
                  refine takeD (i := 49) (d := some 148) (v := ?vd10049) rfl rfl (by kernel_rfl) (by kernel_rfl) (by kernel_rfl) (fun _ _ _ h => h) (Or.inl ⟨by rfl, ?hyd10049⟩) (by assumption) ?_
                  case hyd10049 => (intro w hSw; (try dsimp only at hSw); go_simp <;> with_reducible rfl)
                  try simp only [Act.put, List.setIfInBounds_toArray, List.set_cons_zero, List.set_cons_succ]
                  refine takeD (i := 50) (d := some 149) (v := ?vd10050) rfl rfl (by kernel_rfl) (by kernel_rfl) (by kernel_rfl) (fun _ _ _ h => h) (Or.inl ⟨by rfl, ?hyd10050⟩) (by assumption) ?_
                  case hyd10050 => (intro w hSw; (try dsimp only at hSw); go_simp <;> with_reducible rfl)
                  try simp only [Act.put, List.setIfInBounds_toArray, List.set_cons_zero, List.set_cons_succ]
                  refine takeD (i := 51) (d := some 150) (v := ?vd10051) rfl rfl (by kernel_rfl) (by kernel_rfl) (by kernel_rfl) (fun _ _ _ h => h) (Or.inl ⟨by rfl, ?hyd10051⟩) (by assumption) ?_
                  case hyd10051 => (intro w hSw; (try dsimp only at hSw); go_simp <;> with_reducible rfl)
                  try simp only [Act.put, List.setIfInBounds_toArray, List.set_cons_zero, List.set_cons_succ]
                  refine takeD (i := 52) (d := some 151) (v := ?vd10052) rfl rfl (by kernel_rfl) (by kernel_rfl) (by kernel_rfl) (fun _ _ _ h => h) (Or.inl ⟨by rfl, ?hyd10052⟩) (by assumption) ?_
                  case hyd10052 => (intro w hSw; (try dsimp only at hSw); go_simp <;> with_reducible rfl)
                  try simp only [Act.put, List.setIfInBounds_toArray, List.set_cons_zero, List.set_cons_succ]
                  refine takeD (i := 53) (d := some 152) (v := ?vd10053) rfl rfl (by kernel_rfl) (by kernel_rfl) (by kernel_rfl) (fun _ _ _ h => h) (Or.inl ⟨by rfl, ?hyd10053⟩) (by assumption) ?_
                  case hyd10053 => (intro w hSw; (try dsimp only at hSw); go_simp <;> with_reducible rfl)
                  try simp only [Act.put, List.setIfInBounds_toArray, List.set_cons_zero, List.set_cons_succ]
                  refine wpAnyH_ready (rs := [54]) (by kernel_rfl) (by simp) ?_
                  refine (AllReadyH.cons rfl (fun K hK => ?_) AllReadyH.nil)
                  rw [if_pos (by rfl)]
                  go_simp
                  refine Calls.mono (sF3 _) ?_
                  rintro e wq54 ⟨rfl, hq54⟩
                  have hB54 : Below W.heap.size W wq54 := bl_then hB36 hq54
                  go_wp2_with fail
                  refine hK.out _ _ hB54 (fun hHeld => ?_)
                  clear hK K
                  try simp only [Act.put, List.setIfInBounds_toArray, List.set_cons_zero, List.set_cons_succ]
                  refine takeD (i := 55) (d := some 154) (v := ?vd10055) rfl rfl (by kernel_rfl) (by kernel_rfl) (by kernel_rfl) (fun _ _ _ h => h) (Or.inl ⟨by rfl, ?hyd10055⟩) (by assumption) ?_
                  case hyd10055 => (intro w hSw; (try dsimp only at hSw); go_simp <;> with_reducible rfl)
                  try simp only [Act.put, List.setIfInBounds_toArray, List.set_cons_zero, List.set_cons_succ]
                  refine takeD (i := 56) (d := some 155) (v := ?vd10056) rfl rfl (by kernel_rfl) (by kernel_rfl) (by kernel_rfl) (fun _ _ _ h => h) (Or.inl ⟨by rfl, ?hyd10056⟩) (by assumption) ?_
                  case hyd10056 => (intro w hSw; (try dsimp only at hSw); go_simp <;> with_reducible rfl)
                  try simp only [Act.put, List.setIfInBounds_toArray, List.set_cons_zero, List.set_cons_succ]
                  refine takeD (i := 57) (d := some 156) (v := ?vd10057) rfl rfl (by kernel_rfl) (by kernel_rfl) (by kernel_rfl) (fun _ _ _ h => h) (Or.inl ⟨by rfl, ?hyd10057⟩) (by assumption) ?_
                  case hyd10057 => (intro w hSw; (try dsimp only at hSw); go_simp <;> with_reducible rfl)
                  try simp only [Act.put, List.setIfInBounds_toArray, List.set_cons_zero, List.set_cons_succ]
                  refine takeD (i := 58) (d := some 157) (v := ?vd10058) rfl rfl (by kernel_rfl) (by kernel_rfl) (by kernel_rfl) (fun _ _ _ h => h) (Or.inl ⟨by rfl, ?hyd10058⟩) (by assumption) ?_
                  case hyd10058 => (intro w hSw; (try dsimp only at hSw); go_simp <;> with_reducible rfl)
                  try simp only [Act.put, List.setIfInBounds_toArray, List.set_cons_zero, List.set_cons_succ]
                  refine takeD (i := 59) (d := some 158) (v := ?vd10059) rfl rfl (by kernel_rfl) (by kernel_rfl) (by kernel_rfl) (fun _ _ _ h => h) (Or.inl ⟨by rfl, ?hyd10059⟩) (by assumption) ?_
                  case hyd10059 => (intro w hSw; (try dsimp only at hSw); go_simp <;> with_reducible rfl)
                  try simp only [Act.put, List.setIfInBounds_toArray, List.set_cons_zero, List.set_cons_succ]
                  refine takeD (i := 60) (d := some 159) (v := ?vd10060) rfl rfl (by kernel_rfl) (by kernel_rfl) (by kernel_rfl) (fun _ _ _ h => h) (Or.inl ⟨by rfl, ?hyd10060⟩) (by assumption) ?_
                  case hyd10060 => (intro w hSw; (try dsimp only at hSw); go_simp <;> with_reducible rfl)
                  try simp only [Act.put, List.setIfInBounds_toArray, List.set_cons_zero, List.set_cons_succ]
                  refine takeD (i := 61) (d := some 160) (v := ?vd10061) rfl rfl (by kernel_rfl) (by kernel_rfl) (by kernel_rfl) (fun _ _ _ h => h) (Or.inl ⟨by rfl, ?hyd10061⟩) (by assumption) ?_
                  case hyd10061 => (intro w hSw; (try dsimp only at hSw); go_simp <;> with_reducible rfl)
                  try simp only [Act.put, List.setIfInBounds_toArray, List.set_cons_zero, List.set_cons_succ]
                  refine takeD (i := 62) (d := some 161) (v := ?vd10062) rfl rfl (by kernel_rfl) (by kernel_rfl) (by kernel_rfl) (fun _ _ _ h => h) (Or.inl ⟨by rfl, ?hyd10062⟩) (by assumption) ?_
                  case hyd10062 => (intro w hSw; (try dsimp only at hSw); go_simp <;> with_reducible rfl)
                  try simp only [Act.put, List.setIfInBounds_toArray, List.set_cons_zero, List.set_cons_succ]
                  refine takeD (i := 63) (d := some 162) (v := ?vd10063) rfl rfl (by kernel_rfl) (by kernel_rfl) (by kernel_rfl) (fun _ _ _ h => h) (Or.inl ⟨by rfl, ?hyd10063⟩) (by assumption) ?_
                  case hyd10063 => (intro w hSw; (try dsimp only at hSw); go_simp <;> with_reducible rfl)
                  try simp only [Act.put, List.setIfInBounds_toArray, List.set_cons_zero, List.set_cons_succ]
                  refine takeD (i := 64) (d := some 163) (v := ?vd10064) rfl rfl (by kernel_rfl) (by kernel_rfl) (by kernel_rfl) (fun _ _ _ h => h) (Or.inl ⟨by rfl, ?hyd10064⟩) (by assumption) ?_
                  case hyd10064 => (intro w hSw; (try dsimp only at hSw); go_simp <;> with_reducible rfl)
                  try simp only [Act.put, List.setIfInBounds_toArray, List.set_cons_zero, List.set_cons_succ]
                  refine takeD (i := 65) (d := some 164) (v := ?vd10065) rfl rfl (by kernel_rfl) (by kernel_rfl) (by kernel_rfl) (fun _ _ _ h => h) (Or.inl ⟨by rfl, ?hyd10065⟩) (by assumption) ?_
                  case hyd10065 => (intro w hSw; (try dsimp only at hSw); go_simp <;> with_reducible rfl)
                  try simp only [Act.put, List.setIfInBounds_toArray, List.set_cons_zero, List.set_cons_succ]
                  refine takeD (i := 66) (d := some 165) (v := ?vd10066) rfl rfl (by kernel_rfl) (by kernel_rfl) (by kernel_rfl) (fun _ _ _ h => h) (Or.inl ⟨by rfl, ?hyd10066⟩) (by assumption) ?_
                  case hyd10066 => (intro w hSw; (try dsimp only at hSw); go_simp <;> with_reducible rfl)
                  try simp only [Act.put, List.setIfInBounds_toArray, List.set_cons_zero, List.set_cons_succ]
                  refine takeD (i := 67) (d := some 166) (v := ?vd10067) rfl rfl (by kernel_rfl) (by kernel_rfl) (by kernel_rfl) (fun _ _ _ h => h) (Or.inl ⟨by rfl, ?hyd10067⟩) (by assumption) ?_
                  case hyd10067 => (intro w hSw; (try dsimp only at hSw); go_simp <;> with_reducible rfl)
                  try simp only [Act.put, List.setIfInBounds_toArray, List.set_cons_zero, List.set_cons_succ]
                  refine takeD (i := 68) (d := some 167) (v := ?vd10068) rfl rfl (by kernel_rfl) (by kernel_rfl) (by kernel_rfl) (fun _ _ _ h => h) (Or.inl ⟨by rfl, ?hyd10068⟩) (by assumption) ?_
                  case hyd10068 => (intro w hSw; (try dsimp only at hSw); go_simp <;> with_reducible rfl)
                  try simp only [Act.put, List.setIfInBounds_toArray, List.set_cons_zero, List.set_cons_succ]
                  refine takeD (i := 69) (d := some 168) (v := ?vd10069) rfl rfl (by kernel_rfl) (by kernel_rfl) (by kernel_rfl) (fun _ _ _ h => h) (Or.inl ⟨by rfl, ?hyd10069⟩) (by assumption) ?_
                  case hyd10069 => (intro w hSw; (try dsimp only at hSw); go_simp <;> with_reducible rfl)
                  try simp only [Act.put, List.setIfInBounds_toArray, List.set_cons_zero, List.set_cons_succ]
                  refine takeD (i := 70) (d := some 169) (v := ?vd10070) rfl rfl (by kernel_rfl) (by kernel_rfl) (by kernel_rfl) (fun _ _ _ h => h) (Or.inl ⟨by rfl, ?hyd10070⟩) (by assumption) ?_
                  case hyd10070 => (intro w hSw; (try dsimp only at hSw); go_simp <;> with_reducible rfl)
                  try simp only [Act.put, List.setIfInBounds_toArray, List.set_cons_zero, List.set_cons_succ]
                  refine wpAnyH_ready (rs := [71]) (by kernel_rfl) (by simp) ?_
                  refine (AllReadyH.cons rfl (fun K hK => ?_) AllReadyH.nil)
                  rw [if_pos (by rfl)]
                  go_simp
                  refine Calls.mono (sP2 _) ?_
                  rintro e wq71 ⟨rfl, hq71⟩
                  have hB71 : Below W.heap.size W wq71 := bl_then hB54 hq71
                  go_wp2_with fail
                  refine hK.out _ _ hB71 (fun hHeld => ?_)
                  clear hK K
                  try simp only [Act.put, List.setIfInBounds_toArray, List.set_cons_zero, List.set_cons_succ]
                  refine takeD (i := 72) (d := some 171) (v := ?vd10072) rfl rfl (by kernel_rfl) (by kernel_rfl) (by kernel_rfl) (fun _ _ _ h => h) (Or.inl ⟨by rfl, ?hyd10072⟩) (by assumption) ?_
                  case hyd10072 => (intro w hSw; (try dsimp only at hSw); go_simp <;> with_reducible rfl)
                  try simp only [Act.put, List.setIfInBounds_toArray, List.set_cons_zero, List.set_cons_succ]
                  refine takeD (i := 73) (d := some 172) (v := ?vd10073) rfl rfl (by kernel_rfl) (by kernel_rfl) (by kernel_rfl) (fun _ _ _ h => h) (Or.inl ⟨by rfl, ?hyd10073⟩) (by assumption) ?_
                  case hyd10073 => (intro w hSw; (try dsimp only at hSw); go_simp <;> with_reducible rfl)
                  try simp only [Act.put, List.setIfInBounds_toArray, List.set_cons_zero, List.set_cons_succ]
                  refine takeD (i := 74) (d := some 173) (v := ?vd10074) rfl rfl (by kernel_rfl) (by kernel_rfl) (by kernel_rfl) (fun _ _ _ h => h) (Or.inl ⟨by rfl, ?hyd10074⟩) (by assumption) ?_
                  case hyd10074 => (intro w hSw; (try dsimp only at hSw); go_simp <;> with_reducible rfl)
                  try simp only [Act.put, List.setIfInBounds_toArray, List.set_cons_zero, List.set_cons_succ]
                  refine takeD (i := 75) (d := some 2) (v := ?vd10075) rfl rfl (by kernel_rfl) (by kernel_rfl) (by kernel_rfl) (fun _ _ _ h => h) (Or.inl ⟨by rfl, ?hyd10075⟩) (by assumption) ?_
                  case hyd10075 => (intro w hSw; (try dsimp only at hSw); go_simp <;> with_reducible rfl)
                  try simp only [Act.put, List.setIfInBounds_toArray, List.set_cons_zero, List.set_cons_succ]
                  refine wpAnyH_done (by kernel_rfl) ?_ _
                  refine NoPanic.normal ?_
                  go_wp2_with fail
                  go_ret
                  exact ⟨rfl, bl_then HBW.out hB71⟩
end Go.Proofs.Ytkejjfdfofojoaa
