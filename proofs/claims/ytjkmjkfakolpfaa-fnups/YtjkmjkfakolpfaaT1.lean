/- Refs: what is wrong of one, its parent, the one of a pixel: the program and the model. -/
import Derived.Test.YtjkmjkfakolpfaaPc
import Derived.Test.YtjkmjkfakolpfaaSet2
namespace Go.Proofs.Ytjkmjkfakolpfaa
open Go.RowKit
set_option linter.unusedSimpArgs false
set_option linter.unusedVariables false
set_option maxRecDepth 100000

/-- The greatest X and Y of a ref. -/
def lastI (z : Int) : Int := if z = 0 then 0 else if z = 1 then 1 else if z = 2 then 3 else 7
/-- A ref without a fault. -/
def refB (z x y : Int) : Bool := zoomB z && (inB x 0 (lastI z) && inB y 0 (lastI z))
def refC (z x y : Int) : Int := if refB z x y = true then 0 else 3
theorem refC_cases (z x y : Int) : (refC z x y = 0 ∧ refB z x y = true) ∨ (refC z x y = 3 ∧ refB z x y = false) := by
  unfold refC
  cases h : refB z x y <;> simp
theorem refB_zoom {z x y : Int} (h : refB z x y = true) : z = 0 ∨ z = 1 ∨ z = 2 ∨ z = 3 := by
  simp [refB] at h
  exact zoomB_cases h.1
theorem refB_in {z x y : Int} (h : refB z x y = true) : (0 ≤ x ∧ x ≤ lastI z) ∧ (0 ≤ y ∧ y ≤ lastI z) := by
  simp [refB, inB] at h
  exact h.2
theorem lastI_le (z : Int) : lastI z ≤ 7 := by unfold lastI; split; omega; split; omega; split <;> omega
theorem ref_bd {z x y : Int} (h : refB z x y = true) : (0 ≤ z ∧ z ≤ 3) ∧ (0 ≤ x ∧ x ≤ 7) ∧ (0 ≤ y ∧ y ≤ 7) := by
  have h1 := refB_in h
  have h2 := lastI_le z
  refine ⟨?_, ⟨h1.1.1, by omega⟩, h1.2.1, by omega⟩
  rcases refB_zoom h with rfl | rfl | rfl | rfl <;> omega


theorem refFault_any (z x y : Int) (w : World) : Calls Try.prog 27 #[.agg #[.int .i64 z, .int .i64 x, .int .i64 y]] w fun e w' => e = .returned (.int .i64 (refC z x y)) ∧ Below w.heap.size w w' := by
  cases h : zoomB z
  · have hk : Hid (refC z x y = 3) := by show _ = _; simp [refC, refB, h]
    go_enter Try.func27, Try.ntmps27
    go_wp2_with (first | (go_at_call 41; refine (isZoom_any _ _).mono ?_; rintro e w' ⟨rfl, rfl⟩) | (go_at_call 40; refine (isWithin_any _ _ _ _).mono ?_; rintro e w' ⟨rfl, rfl⟩))
    go_ret
    exact ⟨ret_int hk.out.symm, by (repeat (first | exact Below.refl _ _ | assumption | refine Below.drew ?_ | refine bl_alloc ?_ _ | refine bl_then ?_ (by assumption) | refine Below.setCell ?_ (by first | omega | (simp; done) | (simp; omega)) _ | refine bl_store ?_ ?_ _ _))⟩
  · have hk : Hid (refC z x y = if (inB x 0 (lastI z) && inB y 0 (lastI z)) = true then 0 else 3) := by show _ = _; simp [refC, refB, h]
    rcases zoomB_cases h with rfl | rfl | rfl | rfl
    · simp only [show lastI 0 = 0 from rfl] at hk
      cases hx : inB x 0 0 <;> cases hy : inB y 0 0
      all_goals
        rw [hx, hy] at hk
        go_enter Try.func27, Try.ntmps27
        go_wp2_with (first | (go_at_call 41; refine (isZoom_any _ _).mono ?_; rintro e w' ⟨rfl, rfl⟩) | (go_at_call 40; refine (isWithin_any _ _ _ _).mono ?_; rintro e w' ⟨rfl, rfl⟩))
        all_goals (go_ret; exact ⟨ret_int (by rw [hk.out]; rfl), by (repeat (first | exact Below.refl _ _ | assumption | refine Below.drew ?_ | refine bl_alloc ?_ _ | refine bl_then ?_ (by assumption) | refine Below.setCell ?_ (by first | omega | (simp; done) | (simp; omega)) _ | refine bl_store ?_ ?_ _ _))⟩)
    · simp only [show lastI 1 = 1 from rfl] at hk
      cases hx : inB x 0 1 <;> cases hy : inB y 0 1
      all_goals
        rw [hx, hy] at hk
        go_enter Try.func27, Try.ntmps27
        go_wp2_with (first | (go_at_call 41; refine (isZoom_any _ _).mono ?_; rintro e w' ⟨rfl, rfl⟩) | (go_at_call 40; refine (isWithin_any _ _ _ _).mono ?_; rintro e w' ⟨rfl, rfl⟩))
        all_goals (go_ret; exact ⟨ret_int (by rw [hk.out]; rfl), by (repeat (first | exact Below.refl _ _ | assumption | refine Below.drew ?_ | refine bl_alloc ?_ _ | refine bl_then ?_ (by assumption) | refine Below.setCell ?_ (by first | omega | (simp; done) | (simp; omega)) _ | refine bl_store ?_ ?_ _ _))⟩)
    · simp only [show lastI 2 = 3 from rfl] at hk
      cases hx : inB x 0 3 <;> cases hy : inB y 0 3
      all_goals
        rw [hx, hy] at hk
        go_enter Try.func27, Try.ntmps27
        go_wp2_with (first | (go_at_call 41; refine (isZoom_any _ _).mono ?_; rintro e w' ⟨rfl, rfl⟩) | (go_at_call 40; refine (isWithin_any _ _ _ _).mono ?_; rintro e w' ⟨rfl, rfl⟩))
        all_goals (go_ret; exact ⟨ret_int (by rw [hk.out]; rfl), by (repeat (first | exact Below.refl _ _ | assumption | refine Below.drew ?_ | refine bl_alloc ?_ _ | refine bl_then ?_ (by assumption) | refine Below.setCell ?_ (by first | omega | (simp; done) | (simp; omega)) _ | refine bl_store ?_ ?_ _ _))⟩)
    · simp only [show lastI 3 = 7 from rfl] at hk
      cases hx : inB x 0 7 <;> cases hy : inB y 0 7
      all_goals
        rw [hx, hy] at hk
        go_enter Try.func27, Try.ntmps27
        go_wp2_with (first | (go_at_call 41; refine (isZoom_any _ _).mono ?_; rintro e w' ⟨rfl, rfl⟩) | (go_at_call 40; refine (isWithin_any _ _ _ _).mono ?_; rintro e w' ⟨rfl, rfl⟩))
        all_goals (go_ret; exact ⟨ret_int (by rw [hk.out]; rfl), by (repeat (first | exact Below.refl _ _ | assumption | refine Below.drew ?_ | refine bl_alloc ?_ _ | refine bl_then ?_ (by assumption) | refine Below.setCell ?_ (by first | omega | (simp; done) | (simp; omega)) _ | refine bl_store ?_ ?_ _ _))⟩)
theorem l7Fault_any (z x y : Int) (w : World) : Calls Try.prog 33 #[.agg #[.int .i64 z, .int .i64 x, .int .i64 y]] w fun e w' => e = .returned (.int .i64 (refC z x y)) ∧ Below w.heap.size w w' := by
  cases h : zoomB z
  · have hk : Hid (refC z x y = 3) := by show _ = _; simp [refC, refB, h]
    go_enter Try.func33, Try.ntmps33
    go_wp2_with (first | (go_at_call 44; refine (l3Zoom_any _ _).mono ?_; rintro e w' ⟨rfl, rfl⟩) | (go_at_call 43; refine (l1In_any _ _ _ _).mono ?_; rintro e w' ⟨rfl, rfl⟩))
    go_ret
    exact ⟨ret_int hk.out.symm, by (repeat (first | exact Below.refl _ _ | assumption | refine Below.drew ?_ | refine bl_alloc ?_ _ | refine bl_then ?_ (by assumption) | refine Below.setCell ?_ (by first | omega | (simp; done) | (simp; omega)) _ | refine bl_store ?_ ?_ _ _))⟩
  · have hk : Hid (refC z x y = if (inB x 0 (lastI z) && inB y 0 (lastI z)) = true then 0 else 3) := by show _ = _; simp [refC, refB, h]
    rcases zoomB_cases h with rfl | rfl | rfl | rfl
    · simp only [show lastI 0 = 0 from rfl] at hk
      cases hx : inB x 0 0 <;> cases hy : inB y 0 0
      all_goals
        rw [hx, hy] at hk
        go_enter Try.func33, Try.ntmps33
        go_wp2_with (first | (go_at_call 44; refine (l3Zoom_any _ _).mono ?_; rintro e w' ⟨rfl, rfl⟩) | (go_at_call 43; refine (l1In_any _ _ _ _).mono ?_; rintro e w' ⟨rfl, rfl⟩))
        all_goals (go_ret; exact ⟨ret_int (by rw [hk.out]; rfl), by (repeat (first | exact Below.refl _ _ | assumption | refine Below.drew ?_ | refine bl_alloc ?_ _ | refine bl_then ?_ (by assumption) | refine Below.setCell ?_ (by first | omega | (simp; done) | (simp; omega)) _ | refine bl_store ?_ ?_ _ _))⟩)
    · simp only [show lastI 1 = 1 from rfl] at hk
      cases hx : inB x 0 1 <;> cases hy : inB y 0 1
      all_goals
        rw [hx, hy] at hk
        go_enter Try.func33, Try.ntmps33
        go_wp2_with (first | (go_at_call 44; refine (l3Zoom_any _ _).mono ?_; rintro e w' ⟨rfl, rfl⟩) | (go_at_call 43; refine (l1In_any _ _ _ _).mono ?_; rintro e w' ⟨rfl, rfl⟩))
        all_goals (go_ret; exact ⟨ret_int (by rw [hk.out]; rfl), by (repeat (first | exact Below.refl _ _ | assumption | refine Below.drew ?_ | refine bl_alloc ?_ _ | refine bl_then ?_ (by assumption) | refine Below.setCell ?_ (by first | omega | (simp; done) | (simp; omega)) _ | refine bl_store ?_ ?_ _ _))⟩)
    · simp only [show lastI 2 = 3 from rfl] at hk
      cases hx : inB x 0 3 <;> cases hy : inB y 0 3
      all_goals
        rw [hx, hy] at hk
        go_enter Try.func33, Try.ntmps33
        go_wp2_with (first | (go_at_call 44; refine (l3Zoom_any _ _).mono ?_; rintro e w' ⟨rfl, rfl⟩) | (go_at_call 43; refine (l1In_any _ _ _ _).mono ?_; rintro e w' ⟨rfl, rfl⟩))
        all_goals (go_ret; exact ⟨ret_int (by rw [hk.out]; rfl), by (repeat (first | exact Below.refl _ _ | assumption | refine Below.drew ?_ | refine bl_alloc ?_ _ | refine bl_then ?_ (by assumption) | refine Below.setCell ?_ (by first | omega | (simp; done) | (simp; omega)) _ | refine bl_store ?_ ?_ _ _))⟩)
    · simp only [show lastI 3 = 7 from rfl] at hk
      cases hx : inB x 0 7 <;> cases hy : inB y 0 7
      all_goals
        rw [hx, hy] at hk
        go_enter Try.func33, Try.ntmps33
        go_wp2_with (first | (go_at_call 44; refine (l3Zoom_any _ _).mono ?_; rintro e w' ⟨rfl, rfl⟩) | (go_at_call 43; refine (l1In_any _ _ _ _).mono ?_; rintro e w' ⟨rfl, rfl⟩))
        all_goals (go_ret; exact ⟨ret_int (by rw [hk.out]; rfl), by (repeat (first | exact Below.refl _ _ | assumption | refine Below.drew ?_ | refine bl_alloc ?_ _ | refine bl_then ?_ (by assumption) | refine Below.setCell ?_ (by first | omega | (simp; done) | (simp; omega)) _ | refine bl_store ?_ ?_ _ _))⟩)
/-- A ref as a value. -/
abbrev refV (z x y : Int) : Value := .agg #[.int .i64 z, .int .i64 x, .int .i64 y]
/-- An answer with a ref. -/
abbrev rrV (c z x y : Int) : Value := .agg #[.int .i64 c, .int .i64 z, .int .i64 x, .int .i64 y]
/-- The answer of ParentOf. -/
def parV (z x y : Int) : Value := if refB z x y = true then (if z = 0 then rrV 4 0 0 0 else rrV 0 (z - 1) (x / 2) (y / 2)) else rrV 3 0 0 0
/-- The answer of RefAt. -/
def atV (z x y : Int) : Value := if pixB z x y = true then rrV 0 z (x / 8) (y / 8) else rrV 3 0 0 0
theorem parent_any (z x y : Int) (w : World) (h : refB z x y = true) : Calls Try.prog 36 #[refV z x y] w fun e w' => e = .returned (refV (z - 1) (x / 2) (y / 2)) ∧ Below w.heap.size w w' := by
  obtain ⟨⟨z0, z1⟩, ⟨x0, x1⟩, y0, y1⟩ := ref_bd h
  clear h
  have dx : x.tdiv 2 = x / 2 := Int.tdiv_eq_ediv_of_nonneg x0
  have dy : y.tdiv 2 = y / 2 := Int.tdiv_eq_ediv_of_nonneg y0
  go_enter Try.func36, Try.ntmps36
  go_wp2
  exact bodyPost_ret (v := refV (z - 1) (x / 2) (y / 2)) (by simp [results, Try.results36, go_sem]) rfl ⟨rfl, by (repeat (first | exact Below.refl _ _ | assumption | refine Below.drew ?_ | refine bl_alloc ?_ _ | refine bl_then ?_ (by assumption) | refine Below.setCell ?_ (by first | omega | (simp; done) | (simp; omega)) _ | refine bl_store ?_ ?_ _ _))⟩
theorem l7Parent_any (z x y : Int) (w : World) (h : refB z x y = true) : Calls Try.prog 23 #[refV z x y] w fun e w' => e = .returned (refV (z - 1) (x / 2) (y / 2)) ∧ Below w.heap.size w w' := by
  obtain ⟨⟨z0, z1⟩, ⟨x0, x1⟩, y0, y1⟩ := ref_bd h
  clear h
  have dx : x.tdiv 2 = x / 2 := Int.tdiv_eq_ediv_of_nonneg x0
  have dy : y.tdiv 2 = y / 2 := Int.tdiv_eq_ediv_of_nonneg y0
  go_enter Try.func23, Try.ntmps23
  go_wp2
  exact bodyPost_ret (v := refV (z - 1) (x / 2) (y / 2)) (by simp [results, Try.results23, go_sem]) rfl ⟨rfl, by (repeat (first | exact Below.refl _ _ | assumption | refine Below.drew ?_ | refine bl_alloc ?_ _ | refine bl_then ?_ (by assumption) | refine Below.setCell ?_ (by first | omega | (simp; done) | (simp; omega)) _ | refine bl_store ?_ ?_ _ _))⟩
end Go.Proofs.Ytjkmjkfakolpfaa
