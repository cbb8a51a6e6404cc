/- How much of the world a pixel has at a zoom, and its grid. -/
import Derived.Test.YtnlmndlchobfeaaVDoesCover4
import Derived.Test.YtnlmndlchobfeaaVDoesCover2
namespace Go.Proofs.Ytnlmndlchobfeaa
open Go.RowKit
set_option linter.unusedSimpArgs false
set_option linter.unusedVariables false

/-- A zoom. -/
def zoomB (z : Int) : Bool := inB z 0 3
theorem zoomB_cases {z : Int} (h : zoomB z = true) : z = 0 ∨ z = 1 ∨ z = 2 ∨ z = 3 := by
  simp [zoomB, inB] at h
  omega
/-- What a pixel has of the world. -/
def unitI (z : Int) : Int := if z = 0 then 128 else if z = 1 then 64 else if z = 2 then 32 else 16
/-- The answer of UnitAt. -/
def unitV (z : Int) : Value := if zoomB z = true then .agg #[.int .i64 0, .int .i64 (unitI z)] else .agg #[.int .i64 3, .int .i64 0]

theorem isZoom_any (z : Int) (w : World) : Calls Try.prog 27 #[.int .i64 z] w fun e w' => e = .returned (.bool (zoomB z)) ∧ w = w' := by
  unfold zoomB
  go_enter Try.func27, Try.ntmps27
  go_wp2_with (go_at_call 52; refine (isWithin_any _ _ _ _).mono ?_; rintro e w' ⟨rfl, rfl⟩)
  go_ret
  exact ⟨rfl, rfl⟩
theorem impl_UnitAt_any (z : Int) (w : World) : Calls Try.prog 38 #[.int .i64 z] w fun e w' => e = .returned (unitV z) ∧ Below w.heap.size w w' := by
  cases h : zoomB z
  · go_enter Try.func38, Try.ntmps38
    go_wp2_with (go_at_call 27; refine (isZoom_any _ _).mono ?_; rintro e w' ⟨rfl, rfl⟩)
    exact bodyPost_ret (v := .agg #[.int .i64 3, .int .i64 0]) (by simp [results, Try.results38, go_sem]) rfl ⟨by simp [unitV, h], by (repeat (first | exact Below.refl _ _ | assumption | refine Below.drew ?_ | refine bl_alloc ?_ _ | refine bl_then ?_ (by assumption) | refine Below.setCell ?_ (by first | omega | (simp; done) | (simp; omega)) _ | refine bl_store ?_ ?_ _ _))⟩
  · rcases zoomB_cases h with rfl | rfl | rfl | rfl
    all_goals
      go_enter Try.func38, Try.ntmps38
      go_wp2_with (go_at_call 27; refine (isZoom_any _ _).mono ?_; rintro e w' ⟨rfl, rfl⟩)
      first
        | exact bodyPost_ret (v := .agg #[.int .i64 0, .int .i64 128]) (by simp [results, Try.results38, go_sem]; done) rfl ⟨rfl, by (repeat (first | exact Below.refl _ _ | assumption | refine Below.drew ?_ | refine bl_alloc ?_ _ | refine bl_then ?_ (by assumption) | refine Below.setCell ?_ (by first | omega | (simp; done) | (simp; omega)) _ | refine bl_store ?_ ?_ _ _))⟩
        | exact bodyPost_ret (v := .agg #[.int .i64 0, .int .i64 64]) (by simp [results, Try.results38, go_sem]; done) rfl ⟨rfl, by (repeat (first | exact Below.refl _ _ | assumption | refine Below.drew ?_ | refine bl_alloc ?_ _ | refine bl_then ?_ (by assumption) | refine Below.setCell ?_ (by first | omega | (simp; done) | (simp; omega)) _ | refine bl_store ?_ ?_ _ _))⟩
        | exact bodyPost_ret (v := .agg #[.int .i64 0, .int .i64 32]) (by simp [results, Try.results38, go_sem]; done) rfl ⟨rfl, by (repeat (first | exact Below.refl _ _ | assumption | refine Below.drew ?_ | refine bl_alloc ?_ _ | refine bl_then ?_ (by assumption) | refine Below.setCell ?_ (by first | omega | (simp; done) | (simp; omega)) _ | refine bl_store ?_ ?_ _ _))⟩
        | exact bodyPost_ret (v := .agg #[.int .i64 0, .int .i64 16]) (by simp [results, Try.results38, go_sem]; done) rfl ⟨rfl, by (repeat (first | exact Below.refl _ _ | assumption | refine Below.drew ?_ | refine bl_alloc ?_ _ | refine bl_then ?_ (by assumption) | refine Below.setCell ?_ (by first | omega | (simp; done) | (simp; omega)) _ | refine bl_store ?_ ?_ _ _))⟩
theorem l3Zoom_any (z : Int) (w : World) : Calls Try.prog 10 #[.int .i64 z] w fun e w' => e = .returned (.bool (zoomB z)) ∧ w = w' := by
  unfold zoomB
  go_enter Try.func10, Try.ntmps10
  go_wp2_with (go_at_call 20; refine (l1In_any _ _ _ _).mono ?_; rintro e w' ⟨rfl, rfl⟩)
  go_ret
  exact ⟨rfl, rfl⟩
theorem l3Unit_any (z : Int) (w : World) (h : zoomB z = true) : Calls Try.prog 67 #[.int .i64 z] w fun e w' => e = .returned (.int .i64 (unitI z)) ∧ w = w' := by
  rcases zoomB_cases h with rfl | rfl | rfl | rfl
  all_goals
    go_enter Try.func67, Try.ntmps67
    go_wp2
    go_ret
    exact ⟨rfl, rfl⟩
end Go.Proofs.Ytnlmndlchobfeaa
