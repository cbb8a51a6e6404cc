/- Several texts in one. -/
import Derived.Test.YtiheemnjfihhfaaGreatVRasterTile6
import Derived.Test.YtiheemnjfihhfaaGreatVRasterTile3

/- How many pixels the world has on a side, and their centres. -/

namespace Go.Proofs.YtiheemnjfihhfaaGreat
open Go.RowKit
set_option linter.unusedSimpArgs false
set_option linter.unusedVariables false
set_option maxRecDepth 100000

/-- How many pixels the world has on a side. -/
def pixI (z : Int) : Int := if z = 0 then 8 else if z = 1 then 16 else if z = 2 then 32 else 64
/-- The answer of PixelCount. -/
def pixV (z : Int) : Value := if zoomB z = true then .agg #[.int .i64 0, .int .i64 (pixI z)] else .agg #[.int .i64 3, .int .i64 0]
/-- A pixel. -/
def pixB (z x y : Int) : Bool := zoomB z && (inB x 0 (pixI z - 1) && inB y 0 (pixI z - 1))
/-- The centre of a pixel, doubled. -/
def centI (z x : Int) : Int := (2 * x + 1) * unitI z
/-- The answer of CentreOf. -/
def centV (z x y : Int) : Value := if pixB z x y = true then .agg #[.int .i64 0, .int .i64 (centI z x), .int .i64 (centI z y)] else .agg #[.int .i64 3, .int .i64 0, .int .i64 0]
theorem pixB_zoom {z x y : Int} (h : pixB z x y = true) : zoomB z = true := by
  simp [pixB] at h
  exact h.1
theorem pixB_in {z x y : Int} (h : pixB z x y = true) : (0 ≤ x ∧ x ≤ pixI z - 1) ∧ (0 ≤ y ∧ y ≤ pixI z - 1) := by
  simp [pixB, inB] at h
  exact h.2
theorem pixI_bd {z : Int} (h : zoomB z = true) : 8 ≤ pixI z ∧ pixI z ≤ 64 := by
  rcases zoomB_cases h with rfl | rfl | rfl | rfl <;> decide
theorem cent_ok {z x y : Int} (h : pixB z x y = true) : okP (centI z x) (centI z y) = true := by
  have hz := pixB_zoom h
  have hb := pixB_in h
  rw [okP_iff]
  unfold centI
  rcases zoomB_cases hz with rfl | rfl | rfl | rfl
  all_goals
    simp only [show unitI 0 = 128 from rfl, show unitI 1 = 64 from rfl, show unitI 2 = 32 from rfl, show unitI 3 = 16 from rfl, show pixI 0 = 8 from rfl, show pixI 1 = 16 from rfl, show pixI 2 = 32 from rfl, show pixI 3 = 64 from rfl] at *
    omega

theorem impl_PixelCount_any (z : Int) (w : World) : Calls Tryz.prog 74 #[.int .i64 z] w fun e w' => e = .returned (pixV z) ∧ Below w.heap.size w w' := by
  cases h : zoomB z
  · go_enter Tryz.func74, Tryz.ntmps74
    go_wp2_with (go_at_call 39; refine (isZoom_any _ _).mono ?_; rintro e w' ⟨rfl, rfl⟩)
    exact bodyPost_ret (v := .agg #[.int .i64 3, .int .i64 0]) (by simp [results, Tryz.results74, go_sem]) rfl ⟨by simp [pixV, h], by (repeat (first | exact Below.refl _ _ | assumption | refine Below.drew ?_ | refine bl_alloc ?_ _ | refine bl_then ?_ (by assumption) | refine Below.setCell ?_ (by first | omega | (simp; done) | (simp; omega)) _ | refine bl_store ?_ ?_ _ _))⟩
  · rcases zoomB_cases h with rfl | rfl | rfl | rfl
    all_goals
      go_enter Tryz.func74, Tryz.ntmps74
      go_wp2_with (go_at_call 39; refine (isZoom_any _ _).mono ?_; rintro e w' ⟨rfl, rfl⟩)
      first
        | exact bodyPost_ret (v := .agg #[.int .i64 0, .int .i64 8]) (by simp [results, Tryz.results74, go_sem]; done) rfl ⟨rfl, by (repeat (first | exact Below.refl _ _ | assumption | refine Below.drew ?_ | refine bl_alloc ?_ _ | refine bl_then ?_ (by assumption) | refine Below.setCell ?_ (by first | omega | (simp; done) | (simp; omega)) _ | refine bl_store ?_ ?_ _ _))⟩
        | exact bodyPost_ret (v := .agg #[.int .i64 0, .int .i64 16]) (by simp [results, Tryz.results74, go_sem]; done) rfl ⟨rfl, by (repeat (first | exact Below.refl _ _ | assumption | refine Below.drew ?_ | refine bl_alloc ?_ _ | refine bl_then ?_ (by assumption) | refine Below.setCell ?_ (by first | omega | (simp; done) | (simp; omega)) _ | refine bl_store ?_ ?_ _ _))⟩
        | exact bodyPost_ret (v := .agg #[.int .i64 0, .int .i64 32]) (by simp [results, Tryz.results74, go_sem]; done) rfl ⟨rfl, by (repeat (first | exact Below.refl _ _ | assumption | refine Below.drew ?_ | refine bl_alloc ?_ _ | refine bl_then ?_ (by assumption) | refine Below.setCell ?_ (by first | omega | (simp; done) | (simp; omega)) _ | refine bl_store ?_ ?_ _ _))⟩
        | exact bodyPost_ret (v := .agg #[.int .i64 0, .int .i64 64]) (by simp [results, Tryz.results74, go_sem]; done) rfl ⟨rfl, by (repeat (first | exact Below.refl _ _ | assumption | refine Below.drew ?_ | refine bl_alloc ?_ _ | refine bl_then ?_ (by assumption) | refine Below.setCell ?_ (by first | omega | (simp; done) | (simp; omega)) _ | refine bl_store ?_ ?_ _ _))⟩
theorem isPixel_any (z x y : Int) (w : World) : Calls Tryz.prog 51 #[.int .i64 z, .int .i64 x, .int .i64 y] w fun e w' => e = .returned (.bool (pixB z x y)) ∧ Below w.heap.size w w' := by
  have s1 := fun w => impl_PixelCount_any z w
  cases h : zoomB z
  · have hv : pixV z = .agg #[.int .i64 3, .int .i64 0] := by simp [pixV, h]
    simp only [hv] at s1
    have i1 : ∀ w, (Instr.field 96 (.agg #[.int .i64 3, .int .i64 0]) 1).run Tryz.prog w = .ok (.int .i64 0) w := fun _ => by kernel_rfl
    have hx : inB x 0 (-1) = false := by simp [inB]; omega
    have hp : Hid (pixB z x y = false) := by show _ = _; simp [pixB, h]
    go_enter Tryz.func51, Tryz.ntmps51
    go_wp2_with (first
      | (go_at_call 74; refine (s1 _).mono ?_; rintro e w1 ⟨rfl, hb1⟩)
      | (go_at_call 40; refine (isWithin_any _ _ _ _).mono ?_; rintro e w' ⟨rfl, rfl⟩))
    all_goals (go_ret; exact ⟨ret_bool (by rw [hp.out]), by (repeat (first | exact Below.refl _ _ | assumption | refine Below.drew ?_ | refine bl_alloc ?_ _ | refine bl_then ?_ (by assumption) | refine Below.setCell ?_ (by first | omega | (simp; done) | (simp; omega)) _ | refine bl_store ?_ ?_ _ _))⟩)
  · have hv : pixV z = .agg #[.int .i64 0, .int .i64 (pixI z)] := by simp [pixV, h]
    simp only [hv] at s1
    have hp : Hid (pixB z x y = (inB x 0 (pixI z - 1) && inB y 0 (pixI z - 1))) := by show _ = _; simp [pixB, h]
    obtain ⟨b1, b2⟩ := pixI_bd h
    generalize pixI z = u at *
    have i1 : ∀ w, (Instr.field 96 (.agg #[.int .i64 0, .int .i64 u]) 1).run Tryz.prog w = .ok (.int .i64 u) w := fun _ => by kernel_rfl
    cases hx : inB x 0 (u - 1) <;> cases hy : inB y 0 (u - 1)
    all_goals
      go_enter Tryz.func51, Tryz.ntmps51
      go_wp2_with (first
        | (go_at_call 74; refine (s1 _).mono ?_; rintro e w1 ⟨rfl, hb1⟩)
        | (go_at_call 40; refine (isWithin_any _ _ _ _).mono ?_; rintro e w' ⟨rfl, rfl⟩))
      all_goals (go_ret; exact ⟨ret_bool (by rw [hp.out, hx, hy]; rfl), by (repeat (first | exact Below.refl _ _ | assumption | refine Below.drew ?_ | refine bl_alloc ?_ _ | refine bl_then ?_ (by assumption) | refine Below.setCell ?_ (by first | omega | (simp; done) | (simp; omega)) _ | refine bl_store ?_ ?_ _ _))⟩)
theorem l4Centre_any (z x y : Int) (w : World) (h : pixB z x y = true) : Calls Tryz.prog 78 #[.int .i64 z, .int .i64 x, .int .i64 y] w fun e w' => e = .returned (.agg #[.int .i64 (centI z x), .int .i64 (centI z y)]) ∧ Below w.heap.size w w' := by
  have hz := pixB_zoom h
  have hb := pixB_in h
  have s1 := fun w => l3Unit_any z w hz
  clear h
  unfold centI
  rcases zoomB_cases hz with rfl | rfl | rfl | rfl
  all_goals
    simp only [show unitI 0 = 128 from rfl, show unitI 1 = 64 from rfl, show unitI 2 = 32 from rfl, show unitI 3 = 16 from rfl, show pixI 0 = 8 from rfl, show pixI 1 = 16 from rfl, show pixI 2 = 32 from rfl, show pixI 3 = 64 from rfl] at *
    obtain ⟨⟨x0, x1⟩, y0, y1⟩ := hb
    go_enter Tryz.func78, Tryz.ntmps78
    go_wp2_with (go_at_call 90; refine (s1 _).mono ?_; rintro e w1 ⟨rfl, rfl⟩)
    exact bodyPost_ret (v := .agg #[.int .i64 _, .int .i64 _]) (by simp [results, Tryz.results78, go_sem]) rfl ⟨rfl, by (repeat (first | exact Below.refl _ _ | assumption | refine Below.drew ?_ | refine bl_alloc ?_ _ | refine bl_then ?_ (by assumption) | refine Below.setCell ?_ (by first | omega | (simp; done) | (simp; omega)) _ | refine bl_store ?_ ?_ _ _))⟩
end Go.Proofs.YtiheemnjfihhfaaGreat
/- What the smallest functions of features answer. -/

namespace Go.Proofs.YtiheemnjfihhfaaGreat
open Go.RowKit
set_option linter.unusedSimpArgs false
set_option linter.unusedVariables false

/-- A letter a to z. -/
def letB (c : Int) : Bool := decide (97 ≤ c) && decide (c ≤ 122)
theorem isLetter_any (c : Int) (w : World) : Calls Tryz.prog 85 #[.int .u8 c] w fun e w' => e = .returned (.bool (letB c)) ∧ w' = w := by
  unfold letB
  go_enter Tryz.func85, Tryz.ntmps85
  by_cases h1 : 97 ≤ c
  · go_wp2
    all_goals (go_ret; exact ⟨ret_bool (by simp [h1]), rfl⟩)
  · have h2 : decide (97 ≤ c) = false := by simpa using h1
    go_wp2
    all_goals (go_ret; exact ⟨ret_bool (by simp [h1]), rfl⟩)

/-- The points that a kind may have. -/
def sizeB (ki : Int) (n : Int) : Bool := if ki = 1 then decide (n = 1) else if ki = 2 then inB n 2 12 else inB n 3 12
theorem l2Size_any (ki n : Int) (w : World) : Calls Tryz.prog 76 #[.int .i64 ki, .int .i64 n] w fun e w' => e = .returned (.bool (sizeB ki n)) ∧ w' = w := by
  unfold sizeB
  by_cases h1 : ki = 1
  · subst h1
    go_enter Tryz.func76, Tryz.ntmps76
    go_wp2
    go_ret
    exact ⟨ret_bool rfl, rfl⟩
  · by_cases h2 : ki = 2
    · subst h2
      go_enter Tryz.func76, Tryz.ntmps76
      go_wp2_with (go_at_call 58; refine (l1In_any _ _ _ _).mono ?_; rintro e w' ⟨rfl, rfl⟩)
      go_ret
      exact ⟨ret_bool (by simp), rfl⟩
    · have k1 : (ki == 1) = false := by simpa using h1
      have k2 : (ki == 2) = false := by simpa using h2
      go_enter Tryz.func76, Tryz.ntmps76
      go_wp2_with (go_at_call 58; refine (l1In_any _ _ _ _).mono ?_; rintro e w' ⟨rfl, rfl⟩)
      go_ret
      exact ⟨ret_bool (by simp [h1, h2]), rfl⟩
end Go.Proofs.YtiheemnjfihhfaaGreat
