/- How many pixels the world has on a side, and their centres. -/
import Derived.Test.YtjkmjkfakolpfaaUn
import Derived.Test.YtjkmjkfakolpfaaSn
namespace Go.Proofs.Ytjkmjkfakolpfaa
open Go.RowKit
set_option linter.unusedSimpArgs false
set_option linter.unusedVariables false
set_option maxRecDepth 100000

/-- How many pixels the world has on a side. -/
def pixI (z : Int) : Int := if z = 0 then 8 else if z = 1 then 16 else if z = 2 then 32 else 64
/-- The answer of PixelCount. -/
def pixV (z : Int) : Value := if zoomB z = true then .agg #[.int .i64 0, .int .i64 (pixI z)] else .agg #[.int .i64 3, .int .i64 0]
/-- A pixel. -/
def pixB (z x y : Int) : Bool := zoomB z && (inB x 0 (pixI z - 1) && inB y 0 (pixI z - 1))
/-- The centre of a pixel, doubled. -/
def centI (z x : Int) : Int := (2 * x + 1) * unitI z
/-- The answer of CentreOf. -/
def centV (z x y : Int) : Value := if pixB z x y = true then .agg #[.int .i64 0, .int .i64 (centI z x), .int .i64 (centI z y)] else .agg #[.int .i64 3, .int .i64 0, .int .i64 0]
theorem pixB_zoom {z x y : Int} (h : pixB z x y = true) : zoomB z = true := by
  simp [pixB] at h
  exact h.1
theorem pixB_in {z x y : Int} (h : pixB z x y = true) : (0 ≤ x ∧ x ≤ pixI z - 1) ∧ (0 ≤ y ∧ y ≤ pixI z - 1) := by
  simp [pixB, inB] at h
  exact h.2
theorem pixI_bd {z : Int} (h : zoomB z = true) : 8 ≤ pixI z ∧ pixI z ≤ 64 := by
  rcases zoomB_cases h with rfl | rfl | rfl | rfl <;> decide
theorem cent_ok {z x y : Int} (h : pixB z x y = true) : okP (centI z x) (centI z y) = true := by
  have hz := pixB_zoom h
  have hb := pixB_in h
  rw [okP_iff]
  unfold centI
  rcases zoomB_cases hz with rfl | rfl | rfl | rfl
  all_goals
    simp only [show unitI 0 = 128 from rfl, show unitI 1 = 64 from rfl, show unitI 2 = 32 from rfl, show unitI 3 = 16 from rfl, show pixI 0 = 8 from rfl, show pixI 1 = 16 from rfl, show pixI 2 = 32 from rfl, show pixI 3 = 64 from rfl] at *
    omega

end Go.Proofs.Ytjkmjkfakolpfaa
