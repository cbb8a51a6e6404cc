/- Plain facts of refs: a kid's parent is the ref, a pixel lies in its tile. -/
import Derived.Test.YteeijaacecicdaaT6
namespace Go.Proofs.Yteeijaacecicdaa
open Go.RowKit
set_option linter.unusedSimpArgs false
set_option linter.unusedVariables false

theorem kid_ok {z x y : Int} {i : Nat} (h : refB z x y = true) (hz : z ≠ 3) (hi : i < 4) : refB (z + 1) (2 * x + (i % 2 : Nat)) (2 * y + (i / 2 : Nat)) = true := by
  have hb := refB_in h
  have hz' := refB_zoom h
  have m : ((i % 2 : Nat) : Int) < 2 := by omega
  have q : ((i / 2 : Nat) : Int) < 2 := by omega
  have m0 : (0 : Int) ≤ ((i % 2 : Nat) : Int) := by omega
  have q0 : (0 : Int) ≤ ((i / 2 : Nat) : Int) := by omega
  generalize ((i % 2 : Nat) : Int) = M at *
  generalize ((i / 2 : Nat) : Int) = Q at *
  rcases hz' with rfl | rfl | rfl | rfl
  · simp [lastI] at hb
    simp [refB, zoomB, inB, lastI]
    omega
  · simp [lastI] at hb
    simp [refB, zoomB, inB, lastI]
    omega
  · simp [lastI] at hb
    simp [refB, zoomB, inB, lastI]
    omega
  · exact absurd rfl hz
theorem kid_par {z x y : Int} {i : Nat} (h : refB z x y = true) (hz : z ≠ 3) (hi : i < 4) : parV (z + 1) (2 * x + (i % 2 : Nat)) (2 * y + (i / 2 : Nat)) = rrV 0 z x y := by
  have h0 := ref_bd h
  have e1 : (2 * x + ((i % 2 : Nat) : Int)) / 2 = x := by omega
  have e2 : (2 * y + ((i / 2 : Nat) : Int)) / 2 = y := by omega
  have e3 : z + 1 - 1 = z := by omega
  have e4 : ¬ z + 1 = 0 := by omega
  unfold parV
  rw [kid_ok h hz hi, e1, e2, e3]
  simp [e4]
theorem pix_ref {z x y : Int} (h : pixB z x y = true) : refC z (x / 8) (y / 8) = 0 := by
  have hz := pixB_zoom h
  have hb := pixB_in h
  rcases zoomB_cases hz with rfl | rfl | rfl | rfl
  all_goals
    simp [pixI] at hb
    simp [refC, refB, zoomB, inB, lastI]
    omega
end Go.Proofs.Yteeijaacecicdaa
