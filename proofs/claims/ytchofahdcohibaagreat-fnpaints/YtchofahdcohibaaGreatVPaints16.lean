/- Several texts in one. -/
import Derived.Test.YtchofahdcohibaaGreatVPaints15
import Derived.Test.YtchofahdcohibaaGreatVPaints3
import Derived.Test.YtchofahdcohibaaGreatVPaints1
import Derived.Deep.RegionHeld3
import Derived.Deep.DeepCutAuto
import Derived.Test.YtchofahdcohibaaGreatVPaints9
import Derived.Test.YtchofahdcohibaaGreatVPaints2
import Derived.Test.YtchofahdcohibaaGreatVPaints11
import Derived.Test.YtchofahdcohibaaGreatVPaints14

/- How many pixels the world has on a side, and their centres. -/

namespace Go.Proofs.YtchofahdcohibaaGreat
open Go.RowKit
set_option linter.unusedSimpArgs false
set_option linter.unusedVariables false
set_option maxRecDepth 100000

/-- How many pixels the world has on a side. -/
def pixI (z : Int) : Int := if z = 0 then 8 else if z = 1 then 16 else if z = 2 then 32 else 64
/-- The answer of PixelCount. -/
def pixV (z : Int) : Value := if zoomB z = true then .agg #[.int .i64 0, .int .i64 (pixI z)] else .agg #[.int .i64 3, .int .i64 0]
/-- A pixel. -/
def pixB (z x y : Int) : Bool := zoomB z && (inB x 0 (pixI z - 1) && inB y 0 (pixI z - 1))
/-- The centre of a pixel, doubled. -/
def centI (z x : Int) : Int := (2 * x + 1) * unitI z
/-- The answer of CentreOf. -/
def centV (z x y : Int) : Value := if pixB z x y = true then .agg #[.int .i64 0, .int .i64 (centI z x), .int .i64 (centI z y)] else .agg #[.int .i64 3, .int .i64 0, .int .i64 0]
theorem pixB_zoom {z x y : Int} (h : pixB z x y = true) : zoomB z = true := by
  simp [pixB] at h
  exact h.1
theorem pixB_in {z x y : Int} (h : pixB z x y = true) : (0 ≤ x ∧ x ≤ pixI z - 1) ∧ (0 ≤ y ∧ y ≤ pixI z - 1) := by
  simp [pixB, inB] at h
  exact h.2
theorem pixI_bd {z : Int} (h : zoomB z = true) : 8 ≤ pixI z ∧ pixI z ≤ 64 := by
  rcases zoomB_cases h with rfl | rfl | rfl | rfl <;> decide
theorem cent_ok {z x y : Int} (h : pixB z x y = true) : okP (centI z x) (centI z y) = true := by
  have hz := pixB_zoom h
  have hb := pixB_in h
  rw [okP_iff]
  unfold centI
  rcases zoomB_cases hz with rfl | rfl | rfl | rfl
  all_goals
    simp only [show unitI 0 = 128 from rfl, show unitI 1 = 64 from rfl, show unitI 2 = 32 from rfl, show unitI 3 = 16 from rfl, show pixI 0 = 8 from rfl, show pixI 1 = 16 from rfl, show pixI 2 = 32 from rfl, show pixI 3 = 64 from rfl] at *
    omega

theorem impl_PixelCount_any (z : Int) (w : World) : Calls Tryz.prog 37 #[.int .i64 z] w fun e w' => e = .returned (pixV z) ∧ Below w.heap.size w w' := by
  cases h : zoomB z
  · go_enter Tryz.func37, Tryz.ntmps37
    go_wp2_with (go_at_call 14; refine (isZoom_any _ _).mono ?_; rintro e w' ⟨rfl, rfl⟩)
    exact bodyPost_ret (v := .agg #[.int .i64 3, .int .i64 0]) (by simp [results, Tryz.results37, go_sem]) rfl ⟨by simp [pixV, h], by (repeat (first | exact Below.refl _ _ | assumption | refine Below.drew ?_ | refine bl_alloc ?_ _ | refine bl_then ?_ (by assumption) | refine Below.setCell ?_ (by first | omega | (simp; done) | (simp; omega)) _ | refine bl_store ?_ ?_ _ _))⟩
  · rcases zoomB_cases h with rfl | rfl | rfl | rfl
    all_goals
      go_enter Tryz.func37, Tryz.ntmps37
      go_wp2_with (go_at_call 14; refine (isZoom_any _ _).mono ?_; rintro e w' ⟨rfl, rfl⟩)
      first
        | exact bodyPost_ret (v := .agg #[.int .i64 0, .int .i64 8]) (by simp [results, Tryz.results37, go_sem]; done) rfl ⟨rfl, by (repeat (first | exact Below.refl _ _ | assumption | refine Below.drew ?_ | refine bl_alloc ?_ _ | refine bl_then ?_ (by assumption) | refine Below.setCell ?_ (by first | omega | (simp; done) | (simp; omega)) _ | refine bl_store ?_ ?_ _ _))⟩
        | exact bodyPost_ret (v := .agg #[.int .i64 0, .int .i64 16]) (by simp [results, Tryz.results37, go_sem]; done) rfl ⟨rfl, by (repeat (first | exact Below.refl _ _ | assumption | refine Below.drew ?_ | refine bl_alloc ?_ _ | refine bl_then ?_ (by assumption) | refine Below.setCell ?_ (by first | omega | (simp; done) | (simp; omega)) _ | refine bl_store ?_ ?_ _ _))⟩
        | exact bodyPost_ret (v := .agg #[.int .i64 0, .int .i64 32]) (by simp [results, Tryz.results37, go_sem]; done) rfl ⟨rfl, by (repeat (first | exact Below.refl _ _ | assumption | refine Below.drew ?_ | refine bl_alloc ?_ _ | refine bl_then ?_ (by assumption) | refine Below.setCell ?_ (by first | omega | (simp; done) | (simp; omega)) _ | refine bl_store ?_ ?_ _ _))⟩
        | exact bodyPost_ret (v := .agg #[.int .i64 0, .int .i64 64]) (by simp [results, Tryz.results37, go_sem]; done) rfl ⟨rfl, by (repeat (first | exact Below.refl _ _ | assumption | refine Below.drew ?_ | refine bl_alloc ?_ _ | refine bl_then ?_ (by assumption) | refine Below.setCell ?_ (by first | omega | (simp; done) | (simp; omega)) _ | refine bl_store ?_ ?_ _ _))⟩
theorem l4Count_any (z : Int) (w : World) (h : zoomB z = true) : Calls Tryz.prog 34 #[.int .i64 z] w fun e w' => e = .returned (.int .i64 (pixI z)) ∧ w = w' := by
  rcases zoomB_cases h with rfl | rfl | rfl | rfl
  all_goals
    go_enter Tryz.func34, Tryz.ntmps34
    go_wp2
    go_ret
    exact ⟨rfl, rfl⟩
theorem isPixel_any (z x y : Int) (w : World) : Calls Tryz.prog 15 #[.int .i64 z, .int .i64 x, .int .i64 y] w fun e w' => e = .returned (.bool (pixB z x y)) ∧ Below w.heap.size w w' := by
  have s1 := fun w => impl_PixelCount_any z w
  cases h : zoomB z
  · have hv : pixV z = .agg #[.int .i64 3, .int .i64 0] := by simp [pixV, h]
    simp only [hv] at s1
    have i1 : ∀ w, (Instr.field 28 (.agg #[.int .i64 3, .int .i64 0]) 1).run Tryz.prog w = .ok (.int .i64 0) w := fun _ => by kernel_rfl
    have hx : inB x 0 (-1) = false := by simp [inB]; omega
    have hp : Hid (pixB z x y = false) := by show _ = _; simp [pixB, h]
    go_enter Tryz.func15, Tryz.ntmps15
    go_wp2_with (first
      | (go_at_call 37; refine (s1 _).mono ?_; rintro e w1 ⟨rfl, hb1⟩)
      | (go_at_call 36; refine (isWithin_any _ _ _ _).mono ?_; rintro e w' ⟨rfl, rfl⟩))
    all_goals (go_ret; exact ⟨ret_bool (by rw [hp.out]), by (repeat (first | exact Below.refl _ _ | assumption | refine Below.drew ?_ | refine bl_alloc ?_ _ | refine bl_then ?_ (by assumption) | refine Below.setCell ?_ (by first | omega | (simp; done) | (simp; omega)) _ | refine bl_store ?_ ?_ _ _))⟩)
  · have hv : pixV z = .agg #[.int .i64 0, .int .i64 (pixI z)] := by simp [pixV, h]
    simp only [hv] at s1
    have hp : Hid (pixB z x y = (inB x 0 (pixI z - 1) && inB y 0 (pixI z - 1))) := by show _ = _; simp [pixB, h]
    obtain ⟨b1, b2⟩ := pixI_bd h
    generalize pixI z = u at *
    have i1 : ∀ w, (Instr.field 28 (.agg #[.int .i64 0, .int .i64 u]) 1).run Tryz.prog w = .ok (.int .i64 u) w := fun _ => by kernel_rfl
    cases hx : inB x 0 (u - 1) <;> cases hy : inB y 0 (u - 1)
    all_goals
      go_enter Tryz.func15, Tryz.ntmps15
      go_wp2_with (first
        | (go_at_call 37; refine (s1 _).mono ?_; rintro e w1 ⟨rfl, hb1⟩)
        | (go_at_call 36; refine (isWithin_any _ _ _ _).mono ?_; rintro e w' ⟨rfl, rfl⟩))
      all_goals (go_ret; exact ⟨ret_bool (by rw [hp.out, hx, hy]; rfl), by (repeat (first | exact Below.refl _ _ | assumption | refine Below.drew ?_ | refine bl_alloc ?_ _ | refine bl_then ?_ (by assumption) | refine Below.setCell ?_ (by first | omega | (simp; done) | (simp; omega)) _ | refine bl_store ?_ ?_ _ _))⟩)
theorem l4Pixel_any (z x y : Int) (w : World) (h : zoomB z = true) : Calls Tryz.prog 19 #[.int .i64 z, .int .i64 x, .int .i64 y] w fun e w' => e = .returned (.bool (pixB z x y)) ∧ w = w' := by
  have s1 := fun w => l4Count_any z w h
  have hp : Hid (pixB z x y = (inB x 0 (pixI z - 1) && inB y 0 (pixI z - 1))) := by show _ = _; simp [pixB, h]
  obtain ⟨b1, b2⟩ := pixI_bd h
  generalize pixI z = u at *
  cases hx : inB x 0 (u - 1) <;> cases hy : inB y 0 (u - 1)
  all_goals
    go_enter Tryz.func19, Tryz.ntmps19
    go_wp2_with (first
      | (go_at_call 34; refine (s1 _).mono ?_; rintro e w1 ⟨rfl, rfl⟩)
      | (go_at_call 39; refine (l1In_any _ _ _ _).mono ?_; rintro e w' ⟨rfl, rfl⟩))
    all_goals (go_ret; exact ⟨ret_bool (by rw [hp.out, hx, hy]; rfl), rfl⟩)
theorem l4Centre_any (z x y : Int) (w : World) (h : pixB z x y = true) : Calls Tryz.prog 66 #[.int .i64 z, .int .i64 x, .int .i64 y] w fun e w' => e = .returned (.agg #[.int .i64 (centI z x), .int .i64 (centI z y)]) ∧ Below w.heap.size w w' := by
  have hz := pixB_zoom h
  have hb := pixB_in h
  have s1 := fun w => l3Unit_any z w hz
  clear h
  unfold centI
  rcases zoomB_cases hz with rfl | rfl | rfl | rfl
  all_goals
    simp only [show unitI 0 = 128 from rfl, show unitI 1 = 64 from rfl, show unitI 2 = 32 from rfl, show unitI 3 = 16 from rfl, show pixI 0 = 8 from rfl, show pixI 1 = 16 from rfl, show pixI 2 = 32 from rfl, show pixI 3 = 64 from rfl] at *
    obtain ⟨⟨x0, x1⟩, y0, y1⟩ := hb
    go_enter Tryz.func66, Tryz.ntmps66
    go_wp2_with (go_at_call 99; refine (s1 _).mono ?_; rintro e w1 ⟨rfl, rfl⟩)
    exact bodyPost_ret (v := .agg #[.int .i64 _, .int .i64 _]) (by simp [results, Tryz.results66, go_sem]) rfl ⟨rfl, by (repeat (first | exact Below.refl _ _ | assumption | refine Below.drew ?_ | refine bl_alloc ?_ _ | refine bl_then ?_ (by assumption) | refine Below.setCell ?_ (by first | omega | (simp; done) | (simp; omega)) _ | refine bl_store ?_ ?_ _ _))⟩
end Go.Proofs.YtchofahdcohibaaGreat
/- l1Box of the model: the least box of a list. -/

namespace Go.Proofs.YtchofahdcohibaaGreat
open Go.RowKit
set_option linter.unusedSimpArgs false
set_option linter.unusedVariables false

/-- The lesser, the greater number. -/
def mnI (a b : Int) : Int := if a < b then a else b
def mxI (a b : Int) : Int := if b < a then a else b
/-- The least, the greatest of the first k. -/
def mnTo (X : Nat → Int) : Nat → Int
  | 0 => X 0
  | k + 1 => mnI (mnTo X k) (X k)
def mxTo (X : Nat → Int) : Nat → Int
  | 0 => X 0
  | k + 1 => mxI (mxTo X k) (X k)
theorem mnTo_one (X : Nat → Int) : mnTo X 1 = X 0 := by simp [mnTo, mnI]
theorem mxTo_one (X : Nat → Int) : mxTo X 1 = X 0 := by simp [mxTo, mxI]

end Go.Proofs.YtchofahdcohibaaGreat
/- Drawn arguments of DoesCover: whatever they are, nothing that was there is written. -/

namespace Go.Proofs.YtchofahdcohibaaGreat
open Go.RowKit
set_option linter.unusedSimpArgs false
set_option linter.unusedVariables false
set_option maxRecDepth 100000

set_option maxHeartbeats 4000000 in
theorem l4DrawPixel_any (a : Option Addr) (n cap : Nat) (Z : Nat → Int) (s t : Nat) (z : Int) (w : World) (h : Src a n cap Z s t w) (hcap : n ≤ cap) (ht : t ≤ 800) :
    Calls Tryz.prog 13 #[.pointer (some ⟨s, 0, none⟩), .int .i64 z] w fun e w' => ∃ (x y : Int) (t' : Nat), e = .returned (.tuple #[.int .i64 x, .int .i64 y]) ∧ t' ≤ t + 3 ∧ Src a n cap Z s t' w' ∧ Keeps s w w' := by
  have HS : Hid (Src a n cap Z s t w) := h
  clear h
  cases hz : zoomB z
  · go_enter Tryz.func13, Tryz.ntmps13
    go_wp2_with fail
    refine (l3Zoom_any _ _).mono ?_
    rintro e w0 ⟨rfl, rfl⟩
    rw [hz]
    go_wp2_with fail
    refine (l1Chance_any a n cap Z s t 12 _ HS.out hcap (by omega) (by omega) (by omega)).mono ?_
    rintro e w1 ⟨c, rfl, hS1, hK1⟩
    have HS1 : Hid (Src a n cap Z s (t + 1) w1) := hS1
    have HK1 : Hid (Keeps s w w1) := hK1
    clear hS1 hK1
    cases c
    · go_wp2_with fail
      refine (l1Next_any a n cap Z s (t + 1) 8 _ HS1.out hcap (by omega) (by omega) (by omega)).mono ?_
      rintro e w2 ⟨v2, rfl, hv2, hS2, hK2⟩
      have HS2 : Hid (Src a n cap Z s (t + 1 + 1) w2) := hS2
      have HK2 : Hid (Keeps s w w2) := HK1.out.trans hK2
      clear hS2 hK2
      go_wp2_with fail
      refine (l1Next_any a n cap Z s (t + 1 + 1) 8 _ HS2.out hcap (by omega) (by omega) (by omega)).mono ?_
      rintro e w3 ⟨v3, rfl, hv3, hS3, hK3⟩
      have HS3 : Hid (Src a n cap Z s (t + 1 + 1 + 1) w3) := hS3
      have HK3 : Hid (Keeps s w w3) := HK2.out.trans hK3
      clear hS3 hK3
      go_wp2_with fail
      go_ret2
      exact ⟨_, _, t + 1 + 1 + 1, rfl, by omega, HS3.out, HK3.out⟩
    · go_wp2_with fail
      refine (l1Pick_new3 a n cap Z s (t + 1) _ _ _ _ _ HS1.out hcap (by omega)).mono ?_
      rintro e w2 ⟨x, rfl, hS2, hK2⟩
      have HS2 : Hid (Src a n cap Z s (t + 1 + 1) w2) := hS2
      have HK2 : Hid (Keeps s w w2) := HK1.out.trans hK2
      clear hS2 hK2
      go_wp2_with fail
      go_ret2
      exact ⟨_, _, t + 1 + 1, rfl, by omega, HS2.out, HK2.out⟩
  · obtain ⟨b1, b2⟩ := pixI_bd hz
    obtain ⟨k, hk⟩ : ∃ k : Nat, pixI z = (k : Int) := ⟨(pixI z).toNat, by omega⟩
    have Hc : Hid (∀ w, Calls Tryz.prog 34 #[.int .i64 z] w fun e w' => e = .returned (.int .i64 (k : Int)) ∧ w = w') := fun w => by rw [← hk]; exact l4Count_any z w hz
    rw [hk] at b1 b2
    clear hk
    go_enter Tryz.func13, Tryz.ntmps13
    go_wp2_with fail
    refine (l3Zoom_any _ _).mono ?_
    rintro e w0 ⟨rfl, rfl⟩
    rw [hz]
    go_wp2_with fail
    refine (Hc.out _).mono ?_
    rintro e w0 ⟨rfl, rfl⟩
    go_wp2_with fail
    refine (l1Chance_any a n cap Z s t 12 _ HS.out hcap (by omega) (by omega) (by omega)).mono ?_
    rintro e w1 ⟨c, rfl, hS1, hK1⟩
    have HS1 : Hid (Src a n cap Z s (t + 1) w1) := hS1
    have HK1 : Hid (Keeps s w w1) := hK1
    clear hS1 hK1
    cases c
    · go_wp2_with fail
      refine (l1Next_any a n cap Z s (t + 1) k _ HS1.out hcap (by omega) (by omega) (by omega)).mono ?_
      rintro e w2 ⟨v2, rfl, hv2, hS2, hK2⟩
      have HS2 : Hid (Src a n cap Z s (t + 1 + 1) w2) := hS2
      have HK2 : Hid (Keeps s w w2) := HK1.out.trans hK2
      clear hS2 hK2
      go_wp2_with fail
      refine (l1Next_any a n cap Z s (t + 1 + 1) k _ HS2.out hcap (by omega) (by omega) (by omega)).mono ?_
      rintro e w3 ⟨v3, rfl, hv3, hS3, hK3⟩
      have HS3 : Hid (Src a n cap Z s (t + 1 + 1 + 1) w3) := hS3
      have HK3 : Hid (Keeps s w w3) := HK2.out.trans hK3
      clear hS3 hK3
      go_wp2_with fail
      go_ret2
      exact ⟨_, _, t + 1 + 1 + 1, rfl, by omega, HS3.out, HK3.out⟩
    · go_wp2_with fail
      refine (l1Pick_new3 a n cap Z s (t + 1) _ _ _ _ _ HS1.out hcap (by omega)).mono ?_
      rintro e w2 ⟨x, rfl, hS2, hK2⟩
      have HS2 : Hid (Src a n cap Z s (t + 1 + 1) w2) := hS2
      have HK2 : Hid (Keeps s w w2) := HK1.out.trans hK2
      clear hS2 hK2
      go_wp2_with fail
      go_ret2
      exact ⟨_, _, t + 1 + 1, rfl, by omega, HS2.out, HK2.out⟩
theorem unit_lit11 {z : Int} (hz : zoomB z = true) : unitI z = 128 ∨ unitI z = 64 ∨ unitI z = 32 ∨ unitI z = 16 := by rcases zoomB_cases hz with rfl | rfl | rfl | rfl <;> simp [unitI]
end Go.Proofs.YtchofahdcohibaaGreat
