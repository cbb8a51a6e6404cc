/- The law of rasters for themselves and by two zooms returns true at every list of bytes. -/
import Derived.Test.YtjkmjkfakolpfaaD8b
import Derived.Test.YtjkmjkfakolpfaaD8c
import Derived.Test.YtjkmjkfakolpfaaLwBig
import Derived.Test.YtjkmjkfakolpfaaUpWalk
namespace Go.Proofs.Ytjkmjkfakolpfaa
open Go.RowKit
set_option linter.unusedSimpArgs false
set_option linter.unusedVariables false
set_option maxRecDepth 100000

theorem FnUps_big (a : Option Addr) (n cap : Nat) (w : World) (h : 1048576 < n) : Calls Try.prog 3 #[.slice a n cap] w fun e w' => e = .returned (.bool true) ∧ Below w.heap.size w w' := by
  have hd : decide (1048576 < (n : Int)) = true := by
    have : (1048576 : Int) < (n : Int) := by omega
    simpa using this
  go_enter Try.func3, Try.ntmps3
  go_wp2_with (go_at_call 5; refine (lwBig_any _ _ _ _).mono ?_; rintro e w' ⟨rfl, rfl⟩; rw [hd])
  go_ret
  exact ⟨rfl, Below.refl _ _⟩
/-- What UpRaster answers where it tells no code. -/
theorem up_ans {Z : Nat → Int} {fz fx fy tz tx ty : Int} (h : upC 64 Z fz fx fy tz tx ty = 0) : upL 64 Z fz fx fy tz tx ty = rowsL (upI (tz - fz).toNat fx fy Z) (tx * 8) (ty * 8) 8 8 := by unfold upL; rw [if_pos h]
theorem impl_up_ok (b off cap : Nat) (Z : Nat → Int) (fz fx fy tz tx ty : Int) (w : World) (hp : NsAt w b off 64 Z) (hb : b < w.heap.size) (h : upC 64 Z fz fx fy tz tx ty = 0) :
    Calls Try.prog 7 #[.slice (some ⟨b, off, none⟩) 64 cap, refV fz fx fy, refV tz tx ty] w fun e w' => ∃ g cg, e = .returned (.agg #[.int .i64 0, .slice (some ⟨g, 0, none⟩) 64 cg]) ∧ g < w'.heap.size ∧ NsAt w' g 0 64 (nz (rowsL (upI (tz - fz).toNat fx fy Z) (tx * 8) (ty * 8) 8 8)) ∧ Below w.heap.size w w' :=
  (impl_UpRaster_any _ 64 cap Z fz fx fy tz tx ty w (hp.is hb) (by omega)).mono fun e w' ⟨v, he, hO, hb'⟩ => by
    rw [up_ans h, rowsL_len] at hO
    rw [h] at he
    obtain ⟨a', cap', hv, hc, h0 | ⟨g, ha, _, hl, hN, _⟩⟩ := hO
    · omega
    · exact ⟨g, cap', by rw [he, hv, ha], hl, hN, hb'⟩
theorem spec_up_ok (b off cap : Nat) (Z : Nat → Int) (fz fx fy tz tx ty : Int) (w : World) (hp : NsAt w b off 64 Z) (hb : b < w.heap.size) (h : upC 64 Z fz fx fy tz tx ty = 0) :
    Calls Try.prog 8 #[.slice (some ⟨b, off, none⟩) 64 cap, refV fz fx fy, refV tz tx ty] w fun e w' => ∃ g cg, e = .returned (.agg #[.int .i64 0, .slice (some ⟨g, 0, none⟩) 64 cg]) ∧ g < w'.heap.size ∧ NsAt w' g 0 64 (nz (rowsL (upI (tz - fz).toNat fx fy Z) (tx * 8) (ty * 8) 8 8)) ∧ Below w.heap.size w w' :=
  (spec_UpRaster_any _ 64 cap Z fz fx fy tz tx ty w (hp.is hb) (by omega)).mono fun e w' ⟨v, he, hO, hb'⟩ => by
    rw [up_ans h, rowsL_len] at hO
    rw [h] at he
    obtain ⟨a', cap', hv, hc, h0 | ⟨g, ha, _, hl, hN, _⟩⟩ := hO
    · omega
    · exact ⟨g, cap', by rw [he, hv, ha], hl, hN, hb'⟩
/-- A code and a list in memory. -/
def NrAt (w : World) (b : Nat) (c : Int) (v : Value) : Prop := w.cell? ⟨b, 0, none⟩ = some (.int .i64 c) ∧ w.cell? ⟨b, 1, none⟩ = some v
theorem NrAt.below {w w' : World} {b : Nat} {c : Int} {v : Value} (h : NrAt w b c v) (hb : Below w.heap.size w w') : NrAt w' b c v := ⟨bl_cellN hb h.1, bl_cellN hb h.2⟩
theorem RefAt3.then {w w' : World} {b : Nat} {z x y : Int} (h : RefAt3 w b z x y) (hb : Below w.heap.size w w') : RefAt3 w' b z x y := ⟨bl_cellN hb h.1, bl_cellN hb h.2.1, bl_cellN hb h.2.2⟩
theorem NsAt.then {w w' : World} {b off n : Nat} {Z : Nat → Int} (h : NsAt w b off n Z) (hb : Below w.heap.size w w') (hl : b < w.heap.size) : NsAt w' b off n Z := NsAt.below h hb hl
set_option maxHeartbeats 16000000 in
theorem FnUps_walk0 (a : Option Addr) (n cap : Nat) (Z : Nat → Int) (w : World) (hp : IsBytes w a n Z) (hr : ∀ i, 0 ≤ Z i ∧ Z i ≤ 255) (hn : n ≤ 1048576) (hcap : n ≤ cap) :
    Calls Try.prog 3 #[.slice a n cap] w fun e w' => e = .returned (.bool true) ∧ Below w.heap.size w w' := by
  have hd : decide (1048576 < (n : Int)) = false := by
    have : ¬ (1048576 < (n : Int)) := by omega
    simpa using this
  have HI : Hid (IsBytes w a n Z) := hp
  have HR : Hid (∀ i, 0 ≤ Z i ∧ Z i ≤ 255) := hr
  clear hp hr
  go_enter Try.func3, Try.ntmps3
  go_wp2_with fail
  refine (lwBig_any _ _ _ _).mono ?_
  rintro e w0 ⟨rfl, hw0⟩
  have hw0' := hw0.symm
  subst hw0'
  clear hw0
  rw [hd]
  have j0 : ∀ (cc : Int) a0 n0 c0 w, (Instr.field 30 (.agg #[.int .i64 cc, .slice a0 n0 c0]) 0).run Try.prog w = .ok (.int .i64 cc) w := fun _ _ _ _ _ => by kernel_rfl
  have j1 : ∀ (cc : Int) a0 n0 c0 w, (Instr.field 30 (.agg #[.int .i64 cc, .slice a0 n0 c0]) 1).run Try.prog w = .ok (.slice a0 n0 c0) w := fun _ _ _ _ _ => by kernel_rfl
  go_wp2_with fail
  refine (DrawUpRaster_any a n cap Z _ HI.out HR.out hn hcap).mono ?_
  rintro e w1 ⟨b, off, m, c, Y, fz, fx, fy, tz, tx, ty, rfl, hm, hbl1, hN1, hB1⟩
  have HN1 : Hid (NsAt w1 b off m Y) := hN1
  have HB1 : Hid (Below w.heap.size w w1) := hB1
  clear hN1 hB1 HI HR
  go_wp2_with fail
  generalize hV : ((w1.alloc _).alloc _ : World) = w2
  have hb2 : Below w1.heap.size w1 w2 := by subst hV; (repeat (first | exact Below.refl _ _ | assumption | refine Below.drew ?_ | refine bl_alloc ?_ _ | refine bl_then ?_ (by assumption) | refine Below.setCell ?_ (by first | omega | (simp; done) | (simp; omega)) _ | refine bl_store ?_ ?_ _ _))
  have hF2 : RefAt3 w2 w1.heap.size fz fx fy := by subst hV; exact ⟨by simp [go_sem], by simp [go_sem], by simp [go_sem]⟩
  have hG2 : RefAt3 w2 (w1.heap.size + 1) tz tx ty := by subst hV; exact ⟨by simp [go_sem], by simp [go_sem], by simp [go_sem]⟩
  clear hV
  have HF2 : Hid (RefAt3 w2 w1.heap.size fz fx fy) := hF2
  have HG2 : Hid (RefAt3 w2 (w1.heap.size + 1) tz tx ty) := hG2
  have HN2 : Hid (NsAt w2 b off m Y) := HN1.out.below hb2 hbl1
  have hbl2 : b < w2.heap.size := Nat.lt_of_lt_of_le hbl1 hb2.size
  have HB2 : Hid (Below w.heap.size w w2) := bl_then HB1.out hb2
  clear hF2 hG2 hb2 HN1 HB1
  by_cases hc0 : upC m Y fz fx fy tz tx ty = 0
  · obtain ⟨rfl, hras, hrf, hrt, hho⟩ := upC_zero hc0
    have HC : Hid (upC 64 Y fz fx fy tz tx ty = 0) := hc0
    have HRas : Hid (rasB Y 64 = true) := hras
    have HRf : Hid (refB fz fx fy = true) := hrf
    have HRt : Hid (refB tz tx ty = true) := hrt
    have HHo : Hid (holdB fz fx fy tz tx ty = true) := hho
    clear hc0 hras hrf hrt hho
    refine (impl_up_ok b off c Y fz fx fy tz tx ty _ HN2.out hbl2 HC.out).mono ?_
    rintro e w3 ⟨g, cg, rfl, hgl, hNg, hb3⟩
    have HL3 : Hid (NsAt w3 g 0 64 (nz (rowsL (upI (tz - fz).toNat fx fy Y) (tx * 8) (ty * 8) 8 8))) := hNg
    have HF3 : Hid (RefAt3 w3 w1.heap.size fz fx fy) := HF2.out.then hb3
    have HG3 : Hid (RefAt3 w3 (w1.heap.size + 1) tz tx ty) := HG2.out.then hb3
    have HN3 : Hid (NsAt w3 b off 64 Y) := HN2.out.below hb3 hbl2
    have hbl3 : b < w3.heap.size := Nat.lt_of_lt_of_le hbl2 hb3.size
    have HB3 : Hid (Below w.heap.size w w3) := bl_then HB2.out hb3
    obtain ⟨p0, p1, p2⟩ := HF3.out
    obtain ⟨q0, q1, q2⟩ := HG3.out
    have lF : w1.heap.size < w3.heap.size := World.block_lt_of_cell? _ _ p0
    have lG : w1.heap.size + 1 < w3.heap.size := World.block_lt_of_cell? _ _ q0
    clear hNg hb3 HF2 HG2 HN2 HB2 hbl2
    go_wp2_with fail
    generalize hV : (w3.alloc _ : World) = w4
    have hb4 : Below w3.heap.size w3 w4 := by subst hV; (repeat (first | exact Below.refl _ _ | assumption | refine Below.drew ?_ | refine bl_alloc ?_ _ | refine bl_then ?_ (by assumption) | refine Below.setCell ?_ (by first | omega | (simp; done) | (simp; omega)) _ | refine bl_store ?_ ?_ _ _))
    have hR4 : NrAt w4 w3.heap.size 0 (.slice (some ⟨g, 0, none⟩) 64 cg) := by subst hV; exact ⟨by simp [go_sem], by simp [go_sem]⟩
    clear hV
    have HR4 : Hid (NrAt w4 w3.heap.size 0 (.slice (some ⟨g, 0, none⟩) 64 cg)) := hR4
    have HL4 : Hid (NsAt w4 g 0 64 (nz (rowsL (upI (tz - fz).toNat fx fy Y) (tx * 8) (ty * 8) 8 8))) := HL3.out.below hb4 hgl
    have hgl4 : g < w4.heap.size := Nat.lt_of_lt_of_le hgl hb4.size
    have HF4 : Hid (RefAt3 w4 w1.heap.size fz fx fy) := HF3.out.then hb4
    have HG4 : Hid (RefAt3 w4 (w1.heap.size + 1) tz tx ty) := HG3.out.then hb4
    have HN4 : Hid (NsAt w4 b off 64 Y) := HN3.out.below hb4 hbl3
    have hbl4 : b < w4.heap.size := Nat.lt_of_lt_of_le hbl3 hb4.size
    have HB4 : Hid (Below w.heap.size w w4) := bl_then HB3.out hb4
    clear hR4 hb4 HL3 HF3 HG3 HN3 HB3 p0 p1 p2 q0 q1 q2 lF lG hgl hbl3
    refine (impl_up_ok b off c Y fz fx fy fz fx fy _ HN4.out hbl4 (upC_ok HRas.out HRf.out HRf.out (holdB_self _ _ _))).mono ?_
    rintro e w5 ⟨h, ch, rfl, hhl, hNh, hb5⟩
    have HM5 : Hid (NsAt w5 h 0 64 Y) := fun i hi => by
      have := hNh i hi
      rw [show (fz - fz).toNat = 0 by omega, up_same _ _ _ hi] at this
      exact this
    have HR5 : Hid (NrAt w5 w3.heap.size 0 (.slice (some ⟨g, 0, none⟩) 64 cg)) := HR4.out.below hb5
    have HL5 : Hid (NsAt w5 g 0 64 (nz (rowsL (upI (tz - fz).toNat fx fy Y) (tx * 8) (ty * 8) 8 8))) := HL4.out.below hb5 hgl4
    have hgl5 : g < w5.heap.size := Nat.lt_of_lt_of_le hgl4 hb5.size
    have HF5 : Hid (RefAt3 w5 w1.heap.size fz fx fy) := HF4.out.then hb5
    have HG5 : Hid (RefAt3 w5 (w1.heap.size + 1) tz tx ty) := HG4.out.then hb5
    have HN5 : Hid (NsAt w5 b off 64 Y) := HN4.out.below hb5 hbl4
    have hbl5 : b < w5.heap.size := Nat.lt_of_lt_of_le hbl4 hb5.size
    have HB5 : Hid (Below w.heap.size w w5) := bl_then HB4.out hb5
    obtain ⟨p0, p1, p2⟩ := HF5.out
    obtain ⟨q0, q1, q2⟩ := HG5.out
    obtain ⟨r0, r1⟩ := HR5.out
    have lF : w1.heap.size < w5.heap.size := World.block_lt_of_cell? _ _ p0
    have lG : w1.heap.size + 1 < w5.heap.size := World.block_lt_of_cell? _ _ q0
    have lR : w3.heap.size < w5.heap.size := World.block_lt_of_cell? _ _ r0
    clear hNh hb5 HR4 HL4 HF4 HG4 HN4 HB4 hgl4 hbl4
    have HHL : Hid (h < w5.heap.size) := hhl
    have hhl5 := hhl
    clear hhl
    have HHX := (show Hid _ from holdB_facts HHo.out)
    obtain ⟨⟨fz0, fz1⟩, _, _⟩ := ref_bd HRf.out
    obtain ⟨⟨tz0, tz1⟩, _, _⟩ := ref_bd HRt.out
    by_cases hgt : fz < tz
    · obtain ⟨kk, hkk⟩ : ∃ k : Nat, (tz - 1 - fz).toNat = k := ⟨_, rfl⟩
      have HKK : Hid ((tz - 1 - fz).toNat = kk) := hkk
      have hkk1 : (tz - fz).toNat = kk + 1 := by omega
      have HK1 : Hid ((tz - fz).toNat = kk + 1) := hkk1
      have HX1 : Hid (halv (tx / 2) (tz - 1 - fz).toNat = fx ∧ halv (ty / 2) (tz - 1 - fz).toNat = fy) := by
        show _ ∧ _
        rw [hkk, halv_half, halv_half, ← hkk1]
        exact HHX.out.2
      have HRp : Hid (refB (tz - 1) (tx / 2) (ty / 2) = true) := refB_par HRt.out (by omega)
      have HU1 : Hid (upC 64 Y fz fx fy (tz - 1) (tx / 2) (ty / 2) = 0) := upC_ok HRas.out HRf.out HRp.out (holdB_mk (by omega) HX1.out.1 HX1.out.2)
      have HZ1 : Hid (rasB (nz (rowsL (upI (tz - 1 - fz).toNat fx fy Y) (tx / 2 * 8) (ty / 2 * 8) 8 8)) 64 = true) := rasB_all fun i hi => by
        obtain ⟨j, hj, hje⟩ := up_has Y hi (show (tz - 1 - fz).toNat ≤ 3 by omega) HX1.out.1 HX1.out.2
        rw [hje]
        exact rasB_at HRas.out hj
      have e1 : (tz - (tz - 1)).toNat = 1 := by omega
      have HU2 : Hid (upC 64 (nz (rowsL (upI (tz - 1 - fz).toNat fx fy Y) (tx / 2 * 8) (ty / 2 * 8) 8 8)) (tz - 1) (tx / 2) (ty / 2) tz tx ty = 0) := upC_ok HZ1.out HRp.out HRt.out (holdB_mk (by omega) (by rw [e1]; rfl) (by rw [e1]; rfl))
      have HW2 : Hid (∀ i, i < 64 → nz (rowsL (upI (tz - (tz - 1)).toNat (tx / 2) (ty / 2) (nz (rowsL (upI (tz - 1 - fz).toNat fx fy Y) (tx / 2 * 8) (ty / 2 * 8) 8 8))) (tx * 8) (ty * 8) 8 8) i = nz (rowsL (upI (tz - fz).toNat fx fy Y) (tx * 8) (ty * 8) 8 8) i) := fun i hi => by
        rw [e1, hkk, hkk1]
        exact up_two Y hi
      have HPV : Hid (parV tz tx ty = rrV 0 (tz - 1) (tx / 2) (ty / 2)) := by
        show _ = _
        unfold parV
        rw [if_pos HRt.out, if_neg (by omega)]
      clear hkk hkk1 e1 HKK HK1 HX1 HRp HZ1
      go_wp2_with fail
      generalize hV : (w5.alloc _ : World) = w6
      have hb6 : Below w5.heap.size w5 w6 := by subst hV; (repeat (first | exact Below.refl _ _ | assumption | refine Below.drew ?_ | refine bl_alloc ?_ _ | refine bl_then ?_ (by assumption) | refine Below.setCell ?_ (by first | omega | (simp; done) | (simp; omega)) _ | refine bl_store ?_ ?_ _ _))
      have hS6 : NrAt w6 w5.heap.size 0 (.slice (some ⟨h, 0, none⟩) 64 ch) := by subst hV; exact ⟨by simp [go_sem], by simp [go_sem]⟩
      clear hV
      have HS6 : Hid (NrAt w6 w5.heap.size 0 (.slice (some ⟨h, 0, none⟩) 64 ch)) := hS6
      clear hS6
      have HM6 : Hid (NsAt w6 h 0 64 Y) := HM5.out.below hb6 hhl5
      have hhl6 : h < w6.heap.size := Nat.lt_of_lt_of_le hhl5 hb6.size
      have HL6 : Hid (NsAt w6 g 0 64 (nz (rowsL (upI (tz - fz).toNat fx fy Y) (tx * 8) (ty * 8) 8 8))) := HL5.out.below hb6 hgl5
      have hgl6 : g < w6.heap.size := Nat.lt_of_lt_of_le hgl5 hb6.size
      have HN6 : Hid (NsAt w6 b off 64 Y) := HN5.out.below hb6 hbl5
      have hbl6 : b < w6.heap.size := Nat.lt_of_lt_of_le hbl5 hb6.size
      have HR6 : Hid (NrAt w6 w3.heap.size 0 (.slice (some ⟨g, 0, none⟩) 64 cg)) := HR5.out.below hb6
      have HF6 : Hid (RefAt3 w6 w1.heap.size fz fx fy) := HF5.out.then hb6
      have HG6 : Hid (RefAt3 w6 (w1.heap.size + 1) tz tx ty) := HG5.out.then hb6
      have HB6 : Hid (Below w.heap.size w w6) := bl_then HB5.out hb6
      clear p0 p1 p2 q0 q1 q2 r0 r1 lF lG lR
      clear HM5 HL5 HN5 HR5 HF5 HG5 HB5 hhl5 hgl5 hbl5
      clear hb6
      refine (impl_ParentOf_any tz tx ty _).mono ?_
      rintro e w7 ⟨rfl, hb7⟩
      rw [HPV.out]
      have HS7' : Hid (NrAt w7 w5.heap.size 0 (.slice (some ⟨h, 0, none⟩) 64 ch)) := HS6.out.below hb7
      have HM7 : Hid (NsAt w7 h 0 64 Y) := HM6.out.below hb7 hhl6
      have hhl7 : h < w7.heap.size := Nat.lt_of_lt_of_le hhl6 hb7.size
      have HL7 : Hid (NsAt w7 g 0 64 (nz (rowsL (upI (tz - fz).toNat fx fy Y) (tx * 8) (ty * 8) 8 8))) := HL6.out.below hb7 hgl6
      have hgl7 : g < w7.heap.size := Nat.lt_of_lt_of_le hgl6 hb7.size
      have HN7 : Hid (NsAt w7 b off 64 Y) := HN6.out.below hb7 hbl6
      have hbl7 : b < w7.heap.size := Nat.lt_of_lt_of_le hbl6 hb7.size
      have HR7 : Hid (NrAt w7 w3.heap.size 0 (.slice (some ⟨g, 0, none⟩) 64 cg)) := HR6.out.below hb7
      have HF7 : Hid (RefAt3 w7 w1.heap.size fz fx fy) := HF6.out.then hb7
      have HG7 : Hid (RefAt3 w7 (w1.heap.size + 1) tz tx ty) := HG6.out.then hb7
      have HB7 : Hid (Below w.heap.size w w7) := bl_then HB6.out hb7
      clear HM6 HL6 HN6 HR6 HF6 HG6 HB6 hhl6 hgl6 hbl6
      clear hb7 HS6
      obtain ⟨p0a, p1a, p2a⟩ := HF7.out
      obtain ⟨q0a, q1a, q2a⟩ := HG7.out
      obtain ⟨r0a, r1a⟩ := HR7.out
      have lFa : w1.heap.size < w7.heap.size := World.block_lt_of_cell? _ _ p0a
      have lGa : w1.heap.size + 1 < w7.heap.size := World.block_lt_of_cell? _ _ q0a
      have lRa : w3.heap.size < w7.heap.size := World.block_lt_of_cell? _ _ r0a
      go_wp2_with fail
      generalize hV : (w7.alloc _ : World) = w8
      have hb8 : Below w7.heap.size w7 w8 := by subst hV; (repeat (first | exact Below.refl _ _ | assumption | refine Below.drew ?_ | refine bl_alloc ?_ _ | refine bl_then ?_ (by assumption) | refine Below.setCell ?_ (by first | omega | (simp; done) | (simp; omega)) _ | refine bl_store ?_ ?_ _ _))
      have hP8 : w8.cell? ⟨w7.heap.size, 0, none⟩ = some (.int .i64 0) ∧ w8.cell? ⟨w7.heap.size, 1, none⟩ = some (.int .i64 (tz - 1)) ∧ w8.cell? ⟨w7.heap.size, 2, none⟩ = some (.int .i64 (tx / 2)) ∧ w8.cell? ⟨w7.heap.size, 3, none⟩ = some (.int .i64 (ty / 2)) := by subst hV; exact ⟨by simp [go_sem], by simp [go_sem], by simp [go_sem], by simp [go_sem]⟩
      clear hV
      have HP8 := (show Hid _ from hP8)
      have HS8 : Hid (NrAt w8 w5.heap.size 0 (.slice (some ⟨h, 0, none⟩) 64 ch)) := HS7'.out.below hb8
      clear hP8
      have HM8 : Hid (NsAt w8 h 0 64 Y) := HM7.out.below hb8 hhl7
      have hhl8 : h < w8.heap.size := Nat.lt_of_lt_of_le hhl7 hb8.size
      have HL8 : Hid (NsAt w8 g 0 64 (nz (rowsL (upI (tz - fz).toNat fx fy Y) (tx * 8) (ty * 8) 8 8))) := HL7.out.below hb8 hgl7
      have hgl8 : g < w8.heap.size := Nat.lt_of_lt_of_le hgl7 hb8.size
      have HN8 : Hid (NsAt w8 b off 64 Y) := HN7.out.below hb8 hbl7
      have hbl8 : b < w8.heap.size := Nat.lt_of_lt_of_le hbl7 hb8.size
      have HR8 : Hid (NrAt w8 w3.heap.size 0 (.slice (some ⟨g, 0, none⟩) 64 cg)) := HR7.out.below hb8
      have HF8 : Hid (RefAt3 w8 w1.heap.size fz fx fy) := HF7.out.then hb8
      have HG8 : Hid (RefAt3 w8 (w1.heap.size + 1) tz tx ty) := HG7.out.then hb8
      have HB8 : Hid (Below w.heap.size w w8) := bl_then HB7.out hb8
      clear p0a p1a p2a q0a q1a q2a r0a r1a lFa lGa lRa
      clear HM7 HL7 HN7 HR7 HF7 HG7 HB7 hhl7 hgl7 hbl7
      clear hb8 HS7'
      refine (impl_up_ok b off c Y fz fx fy (tz - 1) (tx / 2) (ty / 2) _ HN8.out hbl8 HU1.out).mono ?_
      rintro e w9 ⟨g9, cg9, rfl, hg9, hN9, hb9⟩
      have HH9 : Hid (NsAt w9 g9 0 64 (nz (rowsL (upI (tz - 1 - fz).toNat fx fy Y) (tx / 2 * 8) (ty / 2 * 8) 8 8))) := hN9
      have HS9 : Hid (NrAt w9 w5.heap.size 0 (.slice (some ⟨h, 0, none⟩) 64 ch)) := HS8.out.below hb9
      have hP9 := HP8.out
      have x0 := bl_cellN hb9 hP9.1
      have x1 := bl_cellN hb9 hP9.2.1
      have x2 := bl_cellN hb9 hP9.2.2.1
      have x3 := bl_cellN hb9 hP9.2.2.2
      have lP : w7.heap.size < w9.heap.size := World.block_lt_of_cell? _ _ x0
      clear hN9 hP9 HP8
      have HM9 : Hid (NsAt w9 h 0 64 Y) := HM8.out.below hb9 hhl8
      have hhl9 : h < w9.heap.size := Nat.lt_of_lt_of_le hhl8 hb9.size
      have HL9 : Hid (NsAt w9 g 0 64 (nz (rowsL (upI (tz - fz).toNat fx fy Y) (tx * 8) (ty * 8) 8 8))) := HL8.out.below hb9 hgl8
      have hgl9 : g < w9.heap.size := Nat.lt_of_lt_of_le hgl8 hb9.size
      have HN9 : Hid (NsAt w9 b off 64 Y) := HN8.out.below hb9 hbl8
      have hbl9 : b < w9.heap.size := Nat.lt_of_lt_of_le hbl8 hb9.size
      have HR9 : Hid (NrAt w9 w3.heap.size 0 (.slice (some ⟨g, 0, none⟩) 64 cg)) := HR8.out.below hb9
      have HF9 : Hid (RefAt3 w9 w1.heap.size fz fx fy) := HF8.out.then hb9
      have HG9 : Hid (RefAt3 w9 (w1.heap.size + 1) tz tx ty) := HG8.out.then hb9
      have HB9 : Hid (Below w.heap.size w w9) := bl_then HB8.out hb9
      clear HM8 HL8 HN8 HR8 HF8 HG8 HB8 hhl8 hgl8 hbl8
      clear hb9 HS8
      obtain ⟨p0b, p1b, p2b⟩ := HF9.out
      obtain ⟨q0b, q1b, q2b⟩ := HG9.out
      obtain ⟨r0b, r1b⟩ := HR9.out
      have lFb : w1.heap.size < w9.heap.size := World.block_lt_of_cell? _ _ p0b
      have lGb : w1.heap.size + 1 < w9.heap.size := World.block_lt_of_cell? _ _ q0b
      have lRb : w3.heap.size < w9.heap.size := World.block_lt_of_cell? _ _ r0b
      go_wp2_with fail
      generalize hV : (w9.alloc _ : World) = w10
      have hb10 : Below w9.heap.size w9 w10 := by subst hV; (repeat (first | exact Below.refl _ _ | assumption | refine Below.drew ?_ | refine bl_alloc ?_ _ | refine bl_then ?_ (by assumption) | refine Below.setCell ?_ (by first | omega | (simp; done) | (simp; omega)) _ | refine bl_store ?_ ?_ _ _))
      have hH10 : NrAt w10 w9.heap.size 0 (.slice (some ⟨g9, 0, none⟩) 64 cg9) := by subst hV; exact ⟨by simp [go_sem], by simp [go_sem]⟩
      clear hV
      have HH10 := (show Hid _ from hH10)
      have HI10 : Hid (NsAt w10 g9 0 64 (nz (rowsL (upI (tz - 1 - fz).toNat fx fy Y) (tx / 2 * 8) (ty / 2 * 8) 8 8))) := HH9.out.below hb10 hg9
      have hg10 : g9 < w10.heap.size := Nat.lt_of_lt_of_le hg9 hb10.size
      have HS10 : Hid (NrAt w10 w5.heap.size 0 (.slice (some ⟨h, 0, none⟩) 64 ch)) := HS9.out.below hb10
      have y0 := bl_cellN hb10 x0
      have y1 := bl_cellN hb10 x1
      have y2 := bl_cellN hb10 x2
      have y3 := bl_cellN hb10 x3
      clear hH10 x0 x1 x2 x3 HH9
      have HM10 : Hid (NsAt w10 h 0 64 Y) := HM9.out.below hb10 hhl9
      have hhl10 : h < w10.heap.size := Nat.lt_of_lt_of_le hhl9 hb10.size
      have HL10 : Hid (NsAt w10 g 0 64 (nz (rowsL (upI (tz - fz).toNat fx fy Y) (tx * 8) (ty * 8) 8 8))) := HL9.out.below hb10 hgl9
      have hgl10 : g < w10.heap.size := Nat.lt_of_lt_of_le hgl9 hb10.size
      have HN10 : Hid (NsAt w10 b off 64 Y) := HN9.out.below hb10 hbl9
      have hbl10 : b < w10.heap.size := Nat.lt_of_lt_of_le hbl9 hb10.size
      have HR10 : Hid (NrAt w10 w3.heap.size 0 (.slice (some ⟨g, 0, none⟩) 64 cg)) := HR9.out.below hb10
      have HF10 : Hid (RefAt3 w10 w1.heap.size fz fx fy) := HF9.out.then hb10
      have HG10 : Hid (RefAt3 w10 (w1.heap.size + 1) tz tx ty) := HG9.out.then hb10
      have HB10 : Hid (Below w.heap.size w w10) := bl_then HB9.out hb10
      clear p0b p1b p2b q0b q1b q2b r0b r1b lFb lGb lRb
      clear HM9 HL9 HN9 HR9 HF9 HG9 HB9 hhl9 hgl9 hbl9
      clear hb10 HS9 lP
      refine (impl_up_ok g9 0 cg9 _ (tz - 1) (tx / 2) (ty / 2) tz tx ty _ HI10.out hg10 HU2.out).mono ?_
      rintro e w11 ⟨g11, cg11, rfl, hg11, hN11, hb11⟩
      have HH11 : Hid (NsAt w11 g11 0 64 (nz (rowsL (upI (tz - fz).toNat fx fy Y) (tx * 8) (ty * 8) 8 8))) := fun i hi => by
        have := hN11 i hi
        rw [HW2.out i hi] at this
        exact this
      have HS11 : Hid (NrAt w11 w5.heap.size 0 (.slice (some ⟨h, 0, none⟩) 64 ch)) := HS10.out.below hb11
      have x0 := bl_cellN hb11 y0
      have hH11 := NrAt.below HH10.out hb11
      obtain ⟨z0, z1⟩ := hH11
      have lP : w7.heap.size < w11.heap.size := World.block_lt_of_cell? _ _ x0
      have lZ : w9.heap.size < w11.heap.size := World.block_lt_of_cell? _ _ z0
      clear hN11 y0 y1 y2 y3 HH10 HI10
      have HM11 : Hid (NsAt w11 h 0 64 Y) := HM10.out.below hb11 hhl10
      have hhl11 : h < w11.heap.size := Nat.lt_of_lt_of_le hhl10 hb11.size
      have HL11 : Hid (NsAt w11 g 0 64 (nz (rowsL (upI (tz - fz).toNat fx fy Y) (tx * 8) (ty * 8) 8 8))) := HL10.out.below hb11 hgl10
      have hgl11 : g < w11.heap.size := Nat.lt_of_lt_of_le hgl10 hb11.size
      have HN11 : Hid (NsAt w11 b off 64 Y) := HN10.out.below hb11 hbl10
      have hbl11 : b < w11.heap.size := Nat.lt_of_lt_of_le hbl10 hb11.size
      have HR11 : Hid (NrAt w11 w3.heap.size 0 (.slice (some ⟨g, 0, none⟩) 64 cg)) := HR10.out.below hb11
      have HF11 : Hid (RefAt3 w11 w1.heap.size fz fx fy) := HF10.out.then hb11
      have HG11 : Hid (RefAt3 w11 (w1.heap.size + 1) tz tx ty) := HG10.out.then hb11
      have HB11 : Hid (Below w.heap.size w w11) := bl_then HB10.out hb11
      clear HM10 HL10 HN10 HR10 HF10 HG10 HB10 hhl10 hgl10 hbl10
      clear hb11 HS10
      obtain ⟨p0c, p1c, p2c⟩ := HF11.out
      obtain ⟨q0c, q1c, q2c⟩ := HG11.out
      obtain ⟨r0c, r1c⟩ := HR11.out
      have lFc : w1.heap.size < w11.heap.size := World.block_lt_of_cell? _ _ p0c
      have lGc : w1.heap.size + 1 < w11.heap.size := World.block_lt_of_cell? _ _ q0c
      have lRc : w3.heap.size < w11.heap.size := World.block_lt_of_cell? _ _ r0c
      go_wp2_with fail
      generalize hV : (w11.alloc _ : World) = w12
      have hb12 : Below w11.heap.size w11 w12 := by subst hV; (repeat (first | exact Below.refl _ _ | assumption | refine Below.drew ?_ | refine bl_alloc ?_ _ | refine bl_then ?_ (by assumption) | refine Below.setCell ?_ (by first | omega | (simp; done) | (simp; omega)) _ | refine bl_store ?_ ?_ _ _))
      clear hV
      have HS12 : Hid (NrAt w12 w5.heap.size 0 (.slice (some ⟨h, 0, none⟩) 64 ch)) := HS11.out.below hb12
      have HH12 : Hid (NsAt w12 g11 0 64 (nz (rowsL (upI (tz - fz).toNat fx fy Y) (tx * 8) (ty * 8) 8 8))) := HH11.out.below hb12 hg11
      have hg12 : g11 < w12.heap.size := Nat.lt_of_lt_of_le hg11 hb12.size
      clear HH11
      have HM12 : Hid (NsAt w12 h 0 64 Y) := HM11.out.below hb12 hhl11
      have hhl12 : h < w12.heap.size := Nat.lt_of_lt_of_le hhl11 hb12.size
      have HL12 : Hid (NsAt w12 g 0 64 (nz (rowsL (upI (tz - fz).toNat fx fy Y) (tx * 8) (ty * 8) 8 8))) := HL11.out.below hb12 hgl11
      have hgl12 : g < w12.heap.size := Nat.lt_of_lt_of_le hgl11 hb12.size
      have HN12 : Hid (NsAt w12 b off 64 Y) := HN11.out.below hb12 hbl11
      have hbl12 : b < w12.heap.size := Nat.lt_of_lt_of_le hbl11 hb12.size
      have HR12 : Hid (NrAt w12 w3.heap.size 0 (.slice (some ⟨g, 0, none⟩) 64 cg)) := HR11.out.below hb12
      have HF12 : Hid (RefAt3 w12 w1.heap.size fz fx fy) := HF11.out.then hb12
      have HG12 : Hid (RefAt3 w12 (w1.heap.size + 1) tz tx ty) := HG11.out.then hb12
      have HB12 : Hid (Below w.heap.size w w12) := bl_then HB11.out hb12
      clear p0c p1c p2c q0c q1c q2c r0c r1c lFc lGc lRc
      clear HM11 HL11 HN11 HR11 HF11 HG11 HB11 hhl11 hgl11 hbl11
      clear hb12 HS11 x0 z0 z1 lP lZ
      refine (lwNums_any _ _ 64 _ _ _ _ (HH12.out.is hg12) (HL12.out.is hgl12) (by omega)).mono ?_
      rintro e w13 ⟨rfl, hb13⟩
      have HS13 : Hid (NrAt w13 w5.heap.size 0 (.slice (some ⟨h, 0, none⟩) 64 ch)) := HS12.out.below hb13
      have HM13 : Hid (NsAt w13 h 0 64 Y) := HM12.out.below hb13 hhl12
      have hhl13 : h < w13.heap.size := Nat.lt_of_lt_of_le hhl12 hb13.size
      have HL13 : Hid (NsAt w13 g 0 64 (nz (rowsL (upI (tz - fz).toNat fx fy Y) (tx * 8) (ty * 8) 8 8))) := HL12.out.below hb13 hgl12
      have hgl13 : g < w13.heap.size := Nat.lt_of_lt_of_le hgl12 hb13.size
      have HN13 : Hid (NsAt w13 b off 64 Y) := HN12.out.below hb13 hbl12
      have hbl13 : b < w13.heap.size := Nat.lt_of_lt_of_le hbl12 hb13.size
      have HR13 : Hid (NrAt w13 w3.heap.size 0 (.slice (some ⟨g, 0, none⟩) 64 cg)) := HR12.out.below hb13
      have HF13 : Hid (RefAt3 w13 w1.heap.size fz fx fy) := HF12.out.then hb13
      have HG13 : Hid (RefAt3 w13 (w1.heap.size + 1) tz tx ty) := HG12.out.then hb13
      have HB13 : Hid (Below w.heap.size w w13) := bl_then HB12.out hb13
      clear HM12 HL12 HN12 HR12 HF12 HG12 HB12 hhl12 hgl12 hbl12
      clear hb13 HS12 HH12
      go_wp2_with fail
      have HS7 : Hid (NrAt w13 w5.heap.size 0 (.slice (some ⟨h, 0, none⟩) 64 ch)) := HS13.out
      go_loopw [11] (fun i wr => ∃ k : Nat, k ≤ 64 ∧ i = .int .i64 (k : Int) ∧ w13 = wr) (fun i _ => 64 - (intOf i).toNat)
      case atStart => exact ⟨0, by omega, rfl, rfl⟩
      case round =>
        obtain ⟨k, hk, rfl, rfl⟩ := hrel
        obtain ⟨r0, r1⟩ := HR13.out
        by_cases hlt : k < 64
        · have hi : (k : Int) < 64 := by omega
          have hi0 : (0 : Int) ≤ (k : Int) := by omega
          obtain ⟨j, hj, hje⟩ := up_has Y hlt (show (tz - fz).toNat ≤ 3 by omega) HHX.out.2.1 HHX.out.2.2
          have l0 := HL13.out k hlt
          rw [hje] at l0
          have l0' : w13.cell? ⟨g, k, none⟩ = some (.int .i64 (Y j)) := by simpa using l0
          clear l0
          have HH : Hid (Calls Try.prog 11 #[.slice (some ⟨b, off, none⟩) 64 c, .int .i64 (Y j)] w13 fun e w' => e = .returned (.bool true) ∧ w13 = w') := lwHas_any _ 64 c j Y w13 (HN13.out.is hbl13) hj (by omega)
          clear hje
          generalize Y j = yj at *
          go_wp2_with (first | (go_at_call 11; refine Calls.mono HH.out ?_; rintro e w' ⟨rfl, rfl⟩))
          go_roundw
          case rel => exact ⟨k + 1, by omega, by go_num, by first | rfl | trivial⟩
          case measure => simp [intOf]; omega
        · have hke : ¬ (k : Int) < 64 := by omega
          obtain ⟨s0, s1⟩ := HS7.out
          obtain ⟨p0, p1, p2⟩ := HF13.out
          obtain ⟨q0, q1, q2⟩ := HG13.out
          have HC1 : Hid (∀ W', Below w13.heap.size w13 W' → Calls Try.prog 10 #[.slice (some ⟨h, 0, none⟩) 64 ch, .slice (some ⟨b, off, none⟩) 64 c] W' fun e w' => e = .returned (.bool true) ∧ Below W'.heap.size W' w') := fun W' hb => lwNums_any _ _ 64 _ _ Y W' ((HM13.out.below hb hhl13).is (Nat.lt_of_lt_of_le hhl13 hb.size)) ((HN13.out.below hb hbl13).is (Nat.lt_of_lt_of_le hbl13 hb.size)) (by omega)
          have HC2 : Hid (∀ W', Below w13.heap.size w13 W' → Calls Try.prog 8 #[.slice (some ⟨b, off, none⟩) 64 c, refV fz fx fy, refV tz tx ty] W' fun e w' => ∃ g' cg', e = .returned (.agg #[.int .i64 0, .slice (some ⟨g', 0, none⟩) 64 cg']) ∧ g' < w'.heap.size ∧ NsAt w' g' 0 64 (nz (rowsL (upI (tz - fz).toNat fx fy Y) (tx * 8) (ty * 8) 8 8)) ∧ Below W'.heap.size W' w') := fun W' hb => spec_up_ok b off c Y fz fx fy tz tx ty W' (HN13.out.below hb hbl13) (Nat.lt_of_lt_of_le hbl13 hb.size) HC.out
          have HC3 : Hid (∀ W' g' cg', Below w13.heap.size w13 W' → g' < W'.heap.size → NsAt W' g' 0 64 (nz (rowsL (upI (tz - fz).toNat fx fy Y) (tx * 8) (ty * 8) 8 8)) → Calls Try.prog 10 #[.slice (some ⟨g, 0, none⟩) 64 cg, .slice (some ⟨g', 0, none⟩) 64 cg'] W' fun e w' => e = .returned (.bool true) ∧ Below W'.heap.size W' w') := fun W' g' cg' hb hg' hN' => lwNums_any _ _ 64 _ _ _ W' ((HL13.out.below hb hgl13).is (Nat.lt_of_lt_of_le hgl13 hb.size)) (hN'.is hg') (by omega)
          have a0 : ∀ W', Below w13.heap.size w13 W' → W'.cell? ⟨w1.heap.size, 0, none⟩ = some (.int .i64 fz) := fun W' hb => bl_cellN hb p0
          have a1 : ∀ W', Below w13.heap.size w13 W' → W'.cell? ⟨w1.heap.size, 1, none⟩ = some (.int .i64 fx) := fun W' hb => bl_cellN hb p1
          have a2 : ∀ W', Below w13.heap.size w13 W' → W'.cell? ⟨w1.heap.size, 2, none⟩ = some (.int .i64 fy) := fun W' hb => bl_cellN hb p2
          have b0 : ∀ W', Below w13.heap.size w13 W' → W'.cell? ⟨w1.heap.size + 1, 0, none⟩ = some (.int .i64 tz) := fun W' hb => bl_cellN hb q0
          have b1 : ∀ W', Below w13.heap.size w13 W' → W'.cell? ⟨w1.heap.size + 1, 1, none⟩ = some (.int .i64 tx) := fun W' hb => bl_cellN hb q1
          have b2 : ∀ W', Below w13.heap.size w13 W' → W'.cell? ⟨w1.heap.size + 1, 2, none⟩ = some (.int .i64 ty) := fun W' hb => bl_cellN hb q2
          have c1 : ∀ W', Below w13.heap.size w13 W' → W'.cell? ⟨w3.heap.size, 1, none⟩ = some (.slice (some ⟨g, 0, none⟩) 64 cg) := fun W' hb => bl_cellN hb r1
          have d1 : ∀ W', Below w13.heap.size w13 W' → W'.cell? ⟨w5.heap.size, 1, none⟩ = some (.slice (some ⟨h, 0, none⟩) 64 ch) := fun W' hb => bl_cellN hb s1
          clear p0 p1 p2 q0 q1 q2 s0 s1
          go_wp2_with fail
          clear r0 r1
          refine wp_region_noPanic ?_
          refine wp_region_held_drew (S := fun W' => Below w13.heap.size w13 W') (by kernel_rfl) (by (repeat (first | exact Below.refl _ _ | assumption | refine Below.drew ?_ | refine bl_alloc ?_ _ | refine bl_then ?_ (by assumption) | refine Below.setCell ?_ (by first | omega | (simp; done) | (simp; omega)) _ | refine bl_store ?_ ?_ _ _))) (fun hHeld => ?_)
          have hX0 : Below w13.heap.size w13 w13.drew := hHeld
          refine takeD (i := 0) (d := some 88) (v := ?vk0) rfl rfl (by kernel_rfl) (by kernel_rfl) (by kernel_rfl) (fun _ _ _ h => h) (Or.inl ⟨by rfl, ?hyk0⟩) (by assumption) ?_
          case hyk0 => (intro w hSw; (try dsimp only at hSw); go_simp <;> with_reducible rfl)
          try simp only [Act.put, List.setIfInBounds_toArray, List.set_cons_zero, List.set_cons_succ]
          refine takeD (i := 1) (d := some 89) (v := ?vk1) rfl rfl (by kernel_rfl) (by kernel_rfl) (by kernel_rfl) (fun _ _ _ h => h) (Or.inl ⟨by rfl, ?hyk1⟩) (by assumption) ?_
          case hyk1 => (intro w hSw; (try dsimp only at hSw); go_simp <;> with_reducible rfl)
          try simp only [Act.put, List.setIfInBounds_toArray, List.set_cons_zero, List.set_cons_succ]
          refine takeD (i := 2) (d := some 90) (v := ?vk2) rfl rfl (by kernel_rfl) (by kernel_rfl) (by kernel_rfl) (fun _ _ _ h => h) (Or.inl ⟨by rfl, ?hyk2⟩) (by assumption) ?_
          case hyk2 => (intro w hSw; (try dsimp only at hSw); go_simp <;> with_reducible rfl)
          try simp only [Act.put, List.setIfInBounds_toArray, List.set_cons_zero, List.set_cons_succ]
          refine wpAnyH_ready (rs := [3]) (by kernel_rfl) (by simp) ?_
          refine (AllReadyH.cons rfl (fun K hK => ?_) AllReadyH.nil)
          go_simp
          refine Calls.mono (HC1.out _ hX0) ?_
          rintro e y1 ⟨rfl, hy1⟩
          have hX1 : Below w13.heap.size w13 y1 := bl_then hX0 hy1
          go_wp2_with fail
          refine hK.out _ _ hX1 (fun hHeld => ?_)
          clear hK K hy1
          try simp only [Act.put, List.setIfInBounds_toArray, List.set_cons_zero, List.set_cons_succ]
          refine takeD (i := 4) (d := some 92) (v := ?vk4) rfl rfl (by kernel_rfl) (by kernel_rfl) (by kernel_rfl) (fun _ _ _ h => h) (Or.inl ⟨by rfl, ?hyk4⟩) (by assumption) ?_
          case hyk4 => (intro w hSw; (try dsimp only at hSw); go_simp <;> with_reducible rfl)
          try simp only [Act.put, List.setIfInBounds_toArray, List.set_cons_zero, List.set_cons_succ]
          refine takeD (i := 5) (d := some 93) (v := ?vk5) rfl rfl (by kernel_rfl) (by kernel_rfl) (by kernel_rfl) (fun _ _ _ h => h) (Or.inl ⟨by rfl, ?hyk5⟩) (by assumption) ?_
          case hyk5 => (intro w hSw; (try dsimp only at hSw); go_simp <;> with_reducible rfl)
          try simp only [Act.put, List.setIfInBounds_toArray, List.set_cons_zero, List.set_cons_succ]
          refine takeD (i := 6) (d := some 94) (v := ?vk6) rfl rfl (by kernel_rfl) (by kernel_rfl) (by kernel_rfl) (fun _ _ _ h => h) (Or.inl ⟨by rfl, ?hyk6⟩) (by assumption) ?_
          case hyk6 => (intro w hSw; (try dsimp only at hSw); go_simp <;> with_reducible rfl)
          try simp only [Act.put, List.setIfInBounds_toArray, List.set_cons_zero, List.set_cons_succ]
          refine takeD (i := 7) (d := some 95) (v := ?vk7) rfl rfl (by kernel_rfl) (by kernel_rfl) (by kernel_rfl) (fun _ _ _ h => h) (Or.inl ⟨by rfl, ?hyk7⟩) (by assumption) ?_
          case hyk7 => (intro w hSw; (try dsimp only at hSw); go_simp <;> with_reducible rfl)
          try simp only [Act.put, List.setIfInBounds_toArray, List.set_cons_zero, List.set_cons_succ]
          refine takeD (i := 8) (d := some 96) (v := ?vk8) rfl rfl (by kernel_rfl) (by kernel_rfl) (by kernel_rfl) (fun _ _ _ h => h) (Or.inl ⟨by rfl, ?hyk8⟩) (by assumption) ?_
          case hyk8 => (intro w hSw; (try dsimp only at hSw); go_simp <;> with_reducible rfl)
          try simp only [Act.put, List.setIfInBounds_toArray, List.set_cons_zero, List.set_cons_succ]
          refine takeD (i := 9) (d := some 97) (v := ?vk9) rfl rfl (by kernel_rfl) (by kernel_rfl) (by kernel_rfl) (fun _ _ _ h => h) (Or.inl ⟨by rfl, ?hyk9⟩) (by assumption) ?_
          case hyk9 => (intro w hSw; (try dsimp only at hSw); go_simp <;> with_reducible rfl)
          try simp only [Act.put, List.setIfInBounds_toArray, List.set_cons_zero, List.set_cons_succ]
          refine takeD (i := 10) (d := some 98) (v := ?vk10) rfl rfl (by kernel_rfl) (by kernel_rfl) (by kernel_rfl) (fun _ _ _ h => h) (Or.inl ⟨by rfl, ?hyk10⟩) (by assumption) ?_
          case hyk10 => (intro w hSw; (try dsimp only at hSw); go_simp <;> with_reducible rfl)
          try simp only [Act.put, List.setIfInBounds_toArray, List.set_cons_zero, List.set_cons_succ]
          refine takeD (i := 11) (d := some 99) (v := ?vk11) rfl rfl (by kernel_rfl) (by kernel_rfl) (by kernel_rfl) (fun _ _ _ h => h) (Or.inl ⟨by rfl, ?hyk11⟩) (by assumption) ?_
          case hyk11 => (intro w hSw; (try dsimp only at hSw); go_simp <;> with_reducible rfl)
          try simp only [Act.put, List.setIfInBounds_toArray, List.set_cons_zero, List.set_cons_succ]
          refine takeD (i := 12) (d := some 100) (v := ?vk12) rfl rfl (by kernel_rfl) (by kernel_rfl) (by kernel_rfl) (fun _ _ _ h => h) (Or.inl ⟨by rfl, ?hyk12⟩) (by assumption) ?_
          case hyk12 => (intro w hSw; (try dsimp only at hSw); go_simp <;> with_reducible rfl)
          try simp only [Act.put, List.setIfInBounds_toArray, List.set_cons_zero, List.set_cons_succ]
          refine takeD (i := 13) (d := some 101) (v := ?vk13) rfl rfl (by kernel_rfl) (by kernel_rfl) (by kernel_rfl) (fun _ _ _ h => h) (Or.inl ⟨by rfl, ?hyk13⟩) (by assumption) ?_
          case hyk13 => (intro w hSw; (try dsimp only at hSw); go_simp <;> with_reducible rfl)
          try simp only [Act.put, List.setIfInBounds_toArray, List.set_cons_zero, List.set_cons_succ]
          refine takeD (i := 14) (d := some 102) (v := ?vk14) rfl rfl (by kernel_rfl) (by kernel_rfl) (by kernel_rfl) (fun _ _ _ h => h) (Or.inl ⟨by rfl, ?hyk14⟩) (by assumption) ?_
          case hyk14 => (intro w hSw; (try dsimp only at hSw); go_simp <;> with_reducible rfl)
          try simp only [Act.put, List.setIfInBounds_toArray, List.set_cons_zero, List.set_cons_succ]
          refine takeD (i := 15) (d := some 103) (v := ?vk15) rfl rfl (by kernel_rfl) (by kernel_rfl) (by kernel_rfl) (fun _ _ _ h => h) (Or.inl ⟨by rfl, ?hyk15⟩) (by assumption) ?_
          case hyk15 => (intro w hSw; (try dsimp only at hSw); go_simp <;> with_reducible rfl)
          try simp only [Act.put, List.setIfInBounds_toArray, List.set_cons_zero, List.set_cons_succ]
          refine wpAnyH_ready (rs := [16]) (by kernel_rfl) (by simp) ?_
          refine (AllReadyH.cons rfl (fun K hK => ?_) AllReadyH.nil)
          go_simp
          refine Calls.mono (HC2.out _ hX1) ?_
          rintro e y2 ⟨g', cg', rfl, hg', hN', hy2⟩
          have hX2 : Below w13.heap.size w13 y2 := bl_then hX1 hy2
          go_wp2_with fail
          refine hK.out _ _ hX2 (fun hHeld => ?_)
          clear hK K hy2
          try simp only [Act.put, List.setIfInBounds_toArray, List.set_cons_zero, List.set_cons_succ]
          refine takeD (i := 17) (d := some 105) (v := ?vk17) rfl rfl (by kernel_rfl) (by kernel_rfl) (by kernel_rfl) (fun _ _ _ h => h) (Or.inl ⟨by rfl, ?hyk17⟩) (by assumption) ?_
          case hyk17 => (intro w hSw; (try dsimp only at hSw); go_simp <;> with_reducible rfl)
          try simp only [Act.put, List.setIfInBounds_toArray, List.set_cons_zero, List.set_cons_succ]
          refine wpAnyH_ready (rs := [18]) (by kernel_rfl) (by simp) ?_
          refine (AllReadyH.cons rfl (fun K hK => ?_) AllReadyH.nil)
          go_simp
          refine Calls.mono (HC3.out _ _ _ hX2 hg' hN') ?_
          rintro e y3 ⟨rfl, hy3⟩
          have hX3 : Below w13.heap.size w13 y3 := bl_then hX2 hy3
          go_wp2_with fail
          refine hK.out _ _ hX3 (fun hHeld => ?_)
          clear hK K hy3
          try simp only [Act.put, List.setIfInBounds_toArray, List.set_cons_zero, List.set_cons_succ]
          refine takeD (i := 19) (d := some 107) (v := ?vk19) rfl rfl (by kernel_rfl) (by kernel_rfl) (by kernel_rfl) (fun _ _ _ h => h) (Or.inl ⟨by rfl, ?hyk19⟩) (by assumption) ?_
          case hyk19 => (intro w hSw; (try dsimp only at hSw); go_simp <;> with_reducible rfl)
          try simp only [Act.put, List.setIfInBounds_toArray, List.set_cons_zero, List.set_cons_succ]
          refine takeD (i := 20) (d := some 2) (v := ?vk20) rfl rfl (by kernel_rfl) (by kernel_rfl) (by kernel_rfl) (fun _ _ _ h => h) (Or.inl ⟨by rfl, ?hyk20⟩) (by assumption) ?_
          case hyk20 => (intro w hSw; (try dsimp only at hSw); go_simp <;> with_reducible rfl)
          try simp only [Act.put, List.setIfInBounds_toArray, List.set_cons_zero, List.set_cons_succ]
          refine wpAnyH_done (by kernel_rfl) ?_ _
          refine NoPanic.normal ?_
          go_wp2_with fail
          go_ret
          exact ⟨rfl, bl_then HB13.out hX3⟩
    · go_wp2_with fail
      generalize hV : (w5.alloc _ : World) = w6
      have hb6 : Below w5.heap.size w5 w6 := by subst hV; (repeat (first | exact Below.refl _ _ | assumption | refine Below.drew ?_ | refine bl_alloc ?_ _ | refine bl_then ?_ (by assumption) | refine Below.setCell ?_ (by first | omega | (simp; done) | (simp; omega)) _ | refine bl_store ?_ ?_ _ _))
      have hS6 : NrAt w6 w5.heap.size 0 (.slice (some ⟨h, 0, none⟩) 64 ch) := by subst hV; exact ⟨by simp [go_sem], by simp [go_sem]⟩
      clear hV
      have HM6 : Hid (NsAt w6 h 0 64 Y) := HM5.out.below hb6 hhl5
      have hhl6 : h < w6.heap.size := Nat.lt_of_lt_of_le hhl5 hb6.size
      have HL6 : Hid (NsAt w6 g 0 64 (nz (rowsL (upI (tz - fz).toNat fx fy Y) (tx * 8) (ty * 8) 8 8))) := HL5.out.below hb6 hgl5
      have hgl6 : g < w6.heap.size := Nat.lt_of_lt_of_le hgl5 hb6.size
      have HN6 : Hid (NsAt w6 b off 64 Y) := HN5.out.below hb6 hbl5
      have hbl6 : b < w6.heap.size := Nat.lt_of_lt_of_le hbl5 hb6.size
      have HR6 : Hid (NrAt w6 w3.heap.size 0 (.slice (some ⟨g, 0, none⟩) 64 cg)) := HR5.out.below hb6
      have HF6 : Hid (RefAt3 w6 w1.heap.size fz fx fy) := HF5.out.then hb6
      have HG6 : Hid (RefAt3 w6 (w1.heap.size + 1) tz tx ty) := HG5.out.then hb6
      have HB6 : Hid (Below w.heap.size w w6) := bl_then HB5.out hb6
      clear p0 p1 p2 q0 q1 q2 r0 r1 lF lG lR
      clear HM5 HL5 HN5 HR5 HF5 HG5 HB5 hhl5 hgl5 hbl5
      clear hb6
      have HS7 : Hid (NrAt w6 w5.heap.size 0 (.slice (some ⟨h, 0, none⟩) 64 ch)) := hS6
      go_loopw [11] (fun i wr => ∃ k : Nat, k ≤ 64 ∧ i = .int .i64 (k : Int) ∧ w6 = wr) (fun i _ => 64 - (intOf i).toNat)
      case atStart => exact ⟨0, by omega, rfl, rfl⟩
      case round =>
        obtain ⟨k, hk, rfl, rfl⟩ := hrel
        obtain ⟨r0, r1⟩ := HR6.out
        by_cases hlt : k < 64
        · have hi : (k : Int) < 64 := by omega
          have hi0 : (0 : Int) ≤ (k : Int) := by omega
          obtain ⟨j, hj, hje⟩ := up_has Y hlt (show (tz - fz).toNat ≤ 3 by omega) HHX.out.2.1 HHX.out.2.2
          have l0 := HL6.out k hlt
          rw [hje] at l0
          have l0' : w6.cell? ⟨g, k, none⟩ = some (.int .i64 (Y j)) := by simpa using l0
          clear l0
          have HH : Hid (Calls Try.prog 11 #[.slice (some ⟨b, off, none⟩) 64 c, .int .i64 (Y j)] w6 fun e w' => e = .returned (.bool true) ∧ w6 = w') := lwHas_any _ 64 c j Y w6 (HN6.out.is hbl6) hj (by omega)
          clear hje
          generalize Y j = yj at *
          go_wp2_with (first | (go_at_call 11; refine Calls.mono HH.out ?_; rintro e w' ⟨rfl, rfl⟩))
          go_roundw
          case rel => exact ⟨k + 1, by omega, by go_num, by first | rfl | trivial⟩
          case measure => simp [intOf]; omega
        · have hke : ¬ (k : Int) < 64 := by omega
          obtain ⟨s0, s1⟩ := HS7.out
          obtain ⟨p0, p1, p2⟩ := HF6.out
          obtain ⟨q0, q1, q2⟩ := HG6.out
          have HC1 : Hid (∀ W', Below w6.heap.size w6 W' → Calls Try.prog 10 #[.slice (some ⟨h, 0, none⟩) 64 ch, .slice (some ⟨b, off, none⟩) 64 c] W' fun e w' => e = .returned (.bool true) ∧ Below W'.heap.size W' w') := fun W' hb => lwNums_any _ _ 64 _ _ Y W' ((HM6.out.below hb hhl6).is (Nat.lt_of_lt_of_le hhl6 hb.size)) ((HN6.out.below hb hbl6).is (Nat.lt_of_lt_of_le hbl6 hb.size)) (by omega)
          have HC2 : Hid (∀ W', Below w6.heap.size w6 W' → Calls Try.prog 8 #[.slice (some ⟨b, off, none⟩) 64 c, refV fz fx fy, refV tz tx ty] W' fun e w' => ∃ g' cg', e = .returned (.agg #[.int .i64 0, .slice (some ⟨g', 0, none⟩) 64 cg']) ∧ g' < w'.heap.size ∧ NsAt w' g' 0 64 (nz (rowsL (upI (tz - fz).toNat fx fy Y) (tx * 8) (ty * 8) 8 8)) ∧ Below W'.heap.size W' w') := fun W' hb => spec_up_ok b off c Y fz fx fy tz tx ty W' (HN6.out.below hb hbl6) (Nat.lt_of_lt_of_le hbl6 hb.size) HC.out
          have HC3 : Hid (∀ W' g' cg', Below w6.heap.size w6 W' → g' < W'.heap.size → NsAt W' g' 0 64 (nz (rowsL (upI (tz - fz).toNat fx fy Y) (tx * 8) (ty * 8) 8 8)) → Calls Try.prog 10 #[.slice (some ⟨g, 0, none⟩) 64 cg, .slice (some ⟨g', 0, none⟩) 64 cg'] W' fun e w' => e = .returned (.bool true) ∧ Below W'.heap.size W' w') := fun W' g' cg' hb hg' hN' => lwNums_any _ _ 64 _ _ _ W' ((HL6.out.below hb hgl6).is (Nat.lt_of_lt_of_le hgl6 hb.size)) (hN'.is hg') (by omega)
          have a0 : ∀ W', Below w6.heap.size w6 W' → W'.cell? ⟨w1.heap.size, 0, none⟩ = some (.int .i64 fz) := fun W' hb => bl_cellN hb p0
          have a1 : ∀ W', Below w6.heap.size w6 W' → W'.cell? ⟨w1.heap.size, 1, none⟩ = some (.int .i64 fx) := fun W' hb => bl_cellN hb p1
          have a2 : ∀ W', Below w6.heap.size w6 W' → W'.cell? ⟨w1.heap.size, 2, none⟩ = some (.int .i64 fy) := fun W' hb => bl_cellN hb p2
          have b0 : ∀ W', Below w6.heap.size w6 W' → W'.cell? ⟨w1.heap.size + 1, 0, none⟩ = some (.int .i64 tz) := fun W' hb => bl_cellN hb q0
          have b1 : ∀ W', Below w6.heap.size w6 W' → W'.cell? ⟨w1.heap.size + 1, 1, none⟩ = some (.int .i64 tx) := fun W' hb => bl_cellN hb q1
          have b2 : ∀ W', Below w6.heap.size w6 W' → W'.cell? ⟨w1.heap.size + 1, 2, none⟩ = some (.int .i64 ty) := fun W' hb => bl_cellN hb q2
          have c1 : ∀ W', Below w6.heap.size w6 W' → W'.cell? ⟨w3.heap.size, 1, none⟩ = some (.slice (some ⟨g, 0, none⟩) 64 cg) := fun W' hb => bl_cellN hb r1
          have d1 : ∀ W', Below w6.heap.size w6 W' → W'.cell? ⟨w5.heap.size, 1, none⟩ = some (.slice (some ⟨h, 0, none⟩) 64 ch) := fun W' hb => bl_cellN hb s1
          clear p0 p1 p2 q0 q1 q2 s0 s1
          go_wp2_with fail
          clear r0 r1
          refine wp_region_noPanic ?_
          refine wp_region_held_drew (S := fun W' => Below w6.heap.size w6 W') (by kernel_rfl) (by (repeat (first | exact Below.refl _ _ | assumption | refine Below.drew ?_ | refine bl_alloc ?_ _ | refine bl_then ?_ (by assumption) | refine Below.setCell ?_ (by first | omega | (simp; done) | (simp; omega)) _ | refine bl_store ?_ ?_ _ _))) (fun hHeld => ?_)
          have hX0 : Below w6.heap.size w6 w6.drew := hHeld
          refine takeD (i := 0) (d := some 88) (v := ?vm0) rfl rfl (by kernel_rfl) (by kernel_rfl) (by kernel_rfl) (fun _ _ _ h => h) (Or.inl ⟨by rfl, ?hym0⟩) (by assumption) ?_
          case hym0 => (intro w hSw; (try dsimp only at hSw); go_simp <;> with_reducible rfl)
          try simp only [Act.put, List.setIfInBounds_toArray, List.set_cons_zero, List.set_cons_succ]
          refine takeD (i := 1) (d := some 89) (v := ?vm1) rfl rfl (by kernel_rfl) (by kernel_rfl) (by kernel_rfl) (fun _ _ _ h => h) (Or.inl ⟨by rfl, ?hym1⟩) (by assumption) ?_
          case hym1 => (intro w hSw; (try dsimp only at hSw); go_simp <;> with_reducible rfl)
          try simp only [Act.put, List.setIfInBounds_toArray, List.set_cons_zero, List.set_cons_succ]
          refine takeD (i := 2) (d := some 90) (v := ?vm2) rfl rfl (by kernel_rfl) (by kernel_rfl) (by kernel_rfl) (fun _ _ _ h => h) (Or.inl ⟨by rfl, ?hym2⟩) (by assumption) ?_
          case hym2 => (intro w hSw; (try dsimp only at hSw); go_simp <;> with_reducible rfl)
          try simp only [Act.put, List.setIfInBounds_toArray, List.set_cons_zero, List.set_cons_succ]
          refine wpAnyH_ready (rs := [3]) (by kernel_rfl) (by simp) ?_
          refine (AllReadyH.cons rfl (fun K hK => ?_) AllReadyH.nil)
          go_simp
          refine Calls.mono (HC1.out _ hX0) ?_
          rintro e y1 ⟨rfl, hy1⟩
          have hX1 : Below w6.heap.size w6 y1 := bl_then hX0 hy1
          go_wp2_with fail
          refine hK.out _ _ hX1 (fun hHeld => ?_)
          clear hK K hy1
          try simp only [Act.put, List.setIfInBounds_toArray, List.set_cons_zero, List.set_cons_succ]
          refine takeD (i := 4) (d := some 92) (v := ?vm4) rfl rfl (by kernel_rfl) (by kernel_rfl) (by kernel_rfl) (fun _ _ _ h => h) (Or.inl ⟨by rfl, ?hym4⟩) (by assumption) ?_
          case hym4 => (intro w hSw; (try dsimp only at hSw); go_simp <;> with_reducible rfl)
          try simp only [Act.put, List.setIfInBounds_toArray, List.set_cons_zero, List.set_cons_succ]
          refine takeD (i := 5) (d := some 93) (v := ?vm5) rfl rfl (by kernel_rfl) (by kernel_rfl) (by kernel_rfl) (fun _ _ _ h => h) (Or.inl ⟨by rfl, ?hym5⟩) (by assumption) ?_
          case hym5 => (intro w hSw; (try dsimp only at hSw); go_simp <;> with_reducible rfl)
          try simp only [Act.put, List.setIfInBounds_toArray, List.set_cons_zero, List.set_cons_succ]
          refine takeD (i := 6) (d := some 94) (v := ?vm6) rfl rfl (by kernel_rfl) (by kernel_rfl) (by kernel_rfl) (fun _ _ _ h => h) (Or.inl ⟨by rfl, ?hym6⟩) (by assumption) ?_
          case hym6 => (intro w hSw; (try dsimp only at hSw); go_simp <;> with_reducible rfl)
          try simp only [Act.put, List.setIfInBounds_toArray, List.set_cons_zero, List.set_cons_succ]
          refine takeD (i := 7) (d := some 95) (v := ?vm7) rfl rfl (by kernel_rfl) (by kernel_rfl) (by kernel_rfl) (fun _ _ _ h => h) (Or.inl ⟨by rfl, ?hym7⟩) (by assumption) ?_
          case hym7 => (intro w hSw; (try dsimp only at hSw); go_simp <;> with_reducible rfl)
          try simp only [Act.put, List.setIfInBounds_toArray, List.set_cons_zero, List.set_cons_succ]
          refine takeD (i := 8) (d := some 96) (v := ?vm8) rfl rfl (by kernel_rfl) (by kernel_rfl) (by kernel_rfl) (fun _ _ _ h => h) (Or.inl ⟨by rfl, ?hym8⟩) (by assumption) ?_
          case hym8 => (intro w hSw; (try dsimp only at hSw); go_simp <;> with_reducible rfl)
          try simp only [Act.put, List.setIfInBounds_toArray, List.set_cons_zero, List.set_cons_succ]
          refine takeD (i := 9) (d := some 97) (v := ?vm9) rfl rfl (by kernel_rfl) (by kernel_rfl) (by kernel_rfl) (fun _ _ _ h => h) (Or.inl ⟨by rfl, ?hym9⟩) (by assumption) ?_
          case hym9 => (intro w hSw; (try dsimp only at hSw); go_simp <;> with_reducible rfl)
          try simp only [Act.put, List.setIfInBounds_toArray, List.set_cons_zero, List.set_cons_succ]
          refine takeD (i := 10) (d := some 98) (v := ?vm10) rfl rfl (by kernel_rfl) (by kernel_rfl) (by kernel_rfl) (fun _ _ _ h => h) (Or.inl ⟨by rfl, ?hym10⟩) (by assumption) ?_
          case hym10 => (intro w hSw; (try dsimp only at hSw); go_simp <;> with_reducible rfl)
          try simp only [Act.put, List.setIfInBounds_toArray, List.set_cons_zero, List.set_cons_succ]
          refine takeD (i := 11) (d := some 99) (v := ?vm11) rfl rfl (by kernel_rfl) (by kernel_rfl) (by kernel_rfl) (fun _ _ _ h => h) (Or.inl ⟨by rfl, ?hym11⟩) (by assumption) ?_
          case hym11 => (intro w hSw; (try dsimp only at hSw); go_simp <;> with_reducible rfl)
          try simp only [Act.put, List.setIfInBounds_toArray, List.set_cons_zero, List.set_cons_succ]
          refine takeD (i := 12) (d := some 100) (v := ?vm12) rfl rfl (by kernel_rfl) (by kernel_rfl) (by kernel_rfl) (fun _ _ _ h => h) (Or.inl ⟨by rfl, ?hym12⟩) (by assumption) ?_
          case hym12 => (intro w hSw; (try dsimp only at hSw); go_simp <;> with_reducible rfl)
          try simp only [Act.put, List.setIfInBounds_toArray, List.set_cons_zero, List.set_cons_succ]
          refine takeD (i := 13) (d := some 101) (v := ?vm13) rfl rfl (by kernel_rfl) (by kernel_rfl) (by kernel_rfl) (fun _ _ _ h => h) (Or.inl ⟨by rfl, ?hym13⟩) (by assumption) ?_
          case hym13 => (intro w hSw; (try dsimp only at hSw); go_simp <;> with_reducible rfl)
          try simp only [Act.put, List.setIfInBounds_toArray, List.set_cons_zero, List.set_cons_succ]
          refine takeD (i := 14) (d := some 102) (v := ?vm14) rfl rfl (by kernel_rfl) (by kernel_rfl) (by kernel_rfl) (fun _ _ _ h => h) (Or.inl ⟨by rfl, ?hym14⟩) (by assumption) ?_
          case hym14 => (intro w hSw; (try dsimp only at hSw); go_simp <;> with_reducible rfl)
          try simp only [Act.put, List.setIfInBounds_toArray, List.set_cons_zero, List.set_cons_succ]
          refine takeD (i := 15) (d := some 103) (v := ?vm15) rfl rfl (by kernel_rfl) (by kernel_rfl) (by kernel_rfl) (fun _ _ _ h => h) (Or.inl ⟨by rfl, ?hym15⟩) (by assumption) ?_
          case hym15 => (intro w hSw; (try dsimp only at hSw); go_simp <;> with_reducible rfl)
          try simp only [Act.put, List.setIfInBounds_toArray, List.set_cons_zero, List.set_cons_succ]
          refine wpAnyH_ready (rs := [16]) (by kernel_rfl) (by simp) ?_
          refine (AllReadyH.cons rfl (fun K hK => ?_) AllReadyH.nil)
          go_simp
          refine Calls.mono (HC2.out _ hX1) ?_
          rintro e y2 ⟨g', cg', rfl, hg', hN', hy2⟩
          have hX2 : Below w6.heap.size w6 y2 := bl_then hX1 hy2
          go_wp2_with fail
          refine hK.out _ _ hX2 (fun hHeld => ?_)
          clear hK K hy2
          try simp only [Act.put, List.setIfInBounds_toArray, List.set_cons_zero, List.set_cons_succ]
          refine takeD (i := 17) (d := some 105) (v := ?vm17) rfl rfl (by kernel_rfl) (by kernel_rfl) (by kernel_rfl) (fun _ _ _ h => h) (Or.inl ⟨by rfl, ?hym17⟩) (by assumption) ?_
          case hym17 => (intro w hSw; (try dsimp only at hSw); go_simp <;> with_reducible rfl)
          try simp only [Act.put, List.setIfInBounds_toArray, List.set_cons_zero, List.set_cons_succ]
          refine wpAnyH_ready (rs := [18]) (by kernel_rfl) (by simp) ?_
          refine (AllReadyH.cons rfl (fun K hK => ?_) AllReadyH.nil)
          go_simp
          refine Calls.mono (HC3.out _ _ _ hX2 hg' hN') ?_
          rintro e y3 ⟨rfl, hy3⟩
          have hX3 : Below w6.heap.size w6 y3 := bl_then hX2 hy3
          go_wp2_with fail
          refine hK.out _ _ hX3 (fun hHeld => ?_)
          clear hK K hy3
          try simp only [Act.put, List.setIfInBounds_toArray, List.set_cons_zero, List.set_cons_succ]
          refine takeD (i := 19) (d := some 107) (v := ?vm19) rfl rfl (by kernel_rfl) (by kernel_rfl) (by kernel_rfl) (fun _ _ _ h => h) (Or.inl ⟨by rfl, ?hym19⟩) (by assumption) ?_
          case hym19 => (intro w hSw; (try dsimp only at hSw); go_simp <;> with_reducible rfl)
          try simp only [Act.put, List.setIfInBounds_toArray, List.set_cons_zero, List.set_cons_succ]
          refine takeD (i := 20) (d := some 2) (v := ?vm20) rfl rfl (by kernel_rfl) (by kernel_rfl) (by kernel_rfl) (fun _ _ _ h => h) (Or.inl ⟨by rfl, ?hym20⟩) (by assumption) ?_
          case hym20 => (intro w hSw; (try dsimp only at hSw); go_simp <;> with_reducible rfl)
          try simp only [Act.put, List.setIfInBounds_toArray, List.set_cons_zero, List.set_cons_succ]
          refine wpAnyH_done (by kernel_rfl) ?_ _
          refine NoPanic.normal ?_
          go_wp2_with fail
          go_ret
          exact ⟨rfl, bl_then HB6.out hX3⟩
  · have HS : Hid (∀ W', Below w2.heap.size w2 W' → Calls Try.prog 8 #[.slice (some ⟨b, off, none⟩) m c, refV fz fx fy, refV tz tx ty] W' fun e w' => ∃ v, e = .returned (.agg #[.int .i64 (upC m Y fz fx fy tz tx ty), v]) ∧ (∃ a0 n0 c0, v = .slice a0 n0 c0) ∧ Below W'.heap.size W' w') := fun W' h => (spec_UpRaster_any _ m c Y fz fx fy tz tx ty W' ((HN2.out.below h hbl2).is (Nat.lt_of_lt_of_le hbl2 h.size)) (by omega)).mono fun e w' ⟨v, he, hO, hb⟩ => ⟨v, he, by obtain ⟨a0, c0, hv, _⟩ := hO; exact ⟨_, _, _, hv⟩, hb⟩
    refine (impl_UpRaster_any _ m c Y fz fx fy tz tx ty _ (HN2.out.is hbl2) (by omega)).mono ?_
    rintro e w3 ⟨v, rfl, hO3, hb3⟩
    obtain ⟨a3, c3, hv3, _⟩ := hO3
    subst hv3
    generalize upC m Y fz fx fy tz tx ty = cc at *
    generalize (upL m Y fz fx fy tz tx ty).length = n3 at *
    have hcc : (cc == 0) = false := by simpa using hc0
    have HF3 : Hid (RefAt3 w3 w1.heap.size fz fx fy) := HF2.out.then hb3
    have HG3 : Hid (RefAt3 w3 (w1.heap.size + 1) tz tx ty) := HG2.out.then hb3
    obtain ⟨p0, p1, p2⟩ := HF3.out
    obtain ⟨q0, q1, q2⟩ := HG3.out
    have HB3 : Hid (Below w2.heap.size w2 w3) := hb3
    clear hb3
    go_wp2_with fail
    generalize hV : (w3.alloc _ : World) = w4
    have hb4 : Below w3.heap.size w3 w4 := by subst hV; (repeat (first | exact Below.refl _ _ | assumption | refine Below.drew ?_ | refine bl_alloc ?_ _ | refine bl_then ?_ (by assumption) | refine Below.setCell ?_ (by first | omega | (simp; done) | (simp; omega)) _ | refine bl_store ?_ ?_ _ _))
    have r0 : ∀ W', Below w4.heap.size w4 W' → W'.cell? ⟨w3.heap.size, 0, none⟩ = some (.int .i64 cc) := fun W' h => by rw [h.cell (by subst hV; simp)]; subst hV; simp [go_sem]
    clear hV
    have p0' : ∀ W', Below w4.heap.size w4 W' → W'.cell? ⟨w1.heap.size, 0, none⟩ = some (.int .i64 fz) := fun W' h => bl_cellN (bl_then hb4 h) p0
    have p1' : ∀ W', Below w4.heap.size w4 W' → W'.cell? ⟨w1.heap.size, 1, none⟩ = some (.int .i64 fx) := fun W' h => bl_cellN (bl_then hb4 h) p1
    have p2' : ∀ W', Below w4.heap.size w4 W' → W'.cell? ⟨w1.heap.size, 2, none⟩ = some (.int .i64 fy) := fun W' h => bl_cellN (bl_then hb4 h) p2
    have q0' : ∀ W', Below w4.heap.size w4 W' → W'.cell? ⟨w1.heap.size + 1, 0, none⟩ = some (.int .i64 tz) := fun W' h => bl_cellN (bl_then hb4 h) q0
    have q1' : ∀ W', Below w4.heap.size w4 W' → W'.cell? ⟨w1.heap.size + 1, 1, none⟩ = some (.int .i64 tx) := fun W' h => bl_cellN (bl_then hb4 h) q1
    have q2' : ∀ W', Below w4.heap.size w4 W' → W'.cell? ⟨w1.heap.size + 1, 2, none⟩ = some (.int .i64 ty) := fun W' h => bl_cellN (bl_then hb4 h) q2
    have HS4 : Hid (∀ W', Below w4.heap.size w4 W' → Calls Try.prog 8 #[.slice (some ⟨b, off, none⟩) m c, refV fz fx fy, refV tz tx ty] W' fun e w' => ∃ a0 n0 c0, e = .returned (.agg #[.int .i64 cc, .slice a0 n0 c0]) ∧ Below W'.heap.size W' w') := fun W' h => (HS.out W' (bl_then HB3.out (bl_then hb4 h))).mono fun e w' ⟨v, he, ⟨a0, n0, c0, hv⟩, hb⟩ => ⟨a0, n0, c0, by rw [he, hv], hb⟩
    have HBx : Hid (Below w.heap.size w w4) := bl_then HB2.out (bl_then HB3.out hb4)
    clear p0 p1 p2 q0 q1 q2 hb4 HS HF3 HG3 HB3 hc0
    go_region_held3 (fun W' => Below w4.heap.size w4 W') ((repeat (first | exact Below.refl _ _ | assumption | refine Below.drew ?_ | refine bl_alloc ?_ _ | refine bl_then ?_ (by assumption) | refine Below.setCell ?_ (by first | omega | (simp; done) | (simp; omega)) _ | refine bl_store ?_ ?_ _ _)))
      (first
        | (go_at_call 8; refine (HS4.out _ (by assumption)).mono ?_; rintro e w' ⟨a0, n0, c0, rfl, hb⟩))
    go_wp2
    go_ret
    exact ⟨ret_bool (by simp), bl_then HBx.out (by assumption)⟩
theorem FnUps_walk (a : Option Addr) (n cap : Nat) (Z : Nat → Int) (w : World) (h : IsBytes w a n Z ∧ (∀ i, 0 ≤ Z i ∧ Z i ≤ 255) ∧ n ≤ cap) :
    Calls Try.prog 3 #[.slice a n cap] w fun e w' => e = .returned (.bool true) ∧ Below w.heap.size w w' := by
  by_cases hb : 1048576 < n
  · exact FnUps_big a n cap w hb
  · exact FnUps_walk0 a n cap Z w h.1 h.2.1 (by omega) h.2.2
end Go.Proofs.Ytjkmjkfakolpfaa
