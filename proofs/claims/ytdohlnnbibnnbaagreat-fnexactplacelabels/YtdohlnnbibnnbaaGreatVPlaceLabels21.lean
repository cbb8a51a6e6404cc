/- Several texts in one. -/
import Derived.Test.YtdohlnnbibnnbaaGreatVPlaceLabels2
import Derived.Test.YtdohlnnbibnnbaaGreatVPlaceLabels1
import Derived.Test.YtdohlnnbibnnbaaGreatVPlaceLabels6
import Derived.Deep.RegionHeld3

/- How much of the world a pixel has at a zoom, and its grid. -/

namespace Go.Proofs.YtdohlnnbibnnbaaGreat
open Go.RowKit
set_option linter.unusedSimpArgs false
set_option linter.unusedVariables false

/-- A zoom. -/
def zoomB (z : Int) : Bool := inB z 0 3
theorem zoomB_cases {z : Int} (h : zoomB z = true) : z = 0 ∨ z = 1 ∨ z = 2 ∨ z = 3 := by
  simp [zoomB, inB] at h
  omega
/-- What a pixel has of the world. -/
def unitI (z : Int) : Int := if z = 0 then 128 else if z = 1 then 64 else if z = 2 then 32 else 16
/-- The answer of UnitAt. -/
def unitV (z : Int) : Value := if zoomB z = true then .agg #[.int .i64 0, .int .i64 (unitI z)] else .agg #[.int .i64 3, .int .i64 0]

theorem isZoom_any (z : Int) (w : World) : Calls Tryz.prog 59 #[.int .i64 z] w fun e w' => e = .returned (.bool (zoomB z)) ∧ w = w' := by
  unfold zoomB
  go_enter Tryz.func59, Tryz.ntmps59
  go_wp2_with (go_at_call 92; refine (isWithin_any _ _ _ _).mono ?_; rintro e w' ⟨rfl, rfl⟩)
  go_ret
  exact ⟨rfl, rfl⟩
theorem impl_UnitAt_any (z : Int) (w : World) : Calls Tryz.prog 102 #[.int .i64 z] w fun e w' => e = .returned (unitV z) ∧ Below w.heap.size w w' := by
  cases h : zoomB z
  · go_enter Tryz.func102, Tryz.ntmps102
    go_wp2_with (go_at_call 59; refine (isZoom_any _ _).mono ?_; rintro e w' ⟨rfl, rfl⟩)
    exact bodyPost_ret (v := .agg #[.int .i64 3, .int .i64 0]) (by simp [results, Tryz.results102, go_sem]) rfl ⟨by simp [unitV, h], by (repeat (first | exact Below.refl _ _ | assumption | refine Below.drew ?_ | refine bl_alloc ?_ _ | refine bl_then ?_ (by assumption) | refine Below.setCell ?_ (by first | omega | (simp; done) | (simp; omega)) _ | refine bl_store ?_ ?_ _ _))⟩
  · rcases zoomB_cases h with rfl | rfl | rfl | rfl
    all_goals
      go_enter Tryz.func102, Tryz.ntmps102
      go_wp2_with (go_at_call 59; refine (isZoom_any _ _).mono ?_; rintro e w' ⟨rfl, rfl⟩)
      first
        | exact bodyPost_ret (v := .agg #[.int .i64 0, .int .i64 128]) (by simp [results, Tryz.results102, go_sem]; done) rfl ⟨rfl, by (repeat (first | exact Below.refl _ _ | assumption | refine Below.drew ?_ | refine bl_alloc ?_ _ | refine bl_then ?_ (by assumption) | refine Below.setCell ?_ (by first | omega | (simp; done) | (simp; omega)) _ | refine bl_store ?_ ?_ _ _))⟩
        | exact bodyPost_ret (v := .agg #[.int .i64 0, .int .i64 64]) (by simp [results, Tryz.results102, go_sem]; done) rfl ⟨rfl, by (repeat (first | exact Below.refl _ _ | assumption | refine Below.drew ?_ | refine bl_alloc ?_ _ | refine bl_then ?_ (by assumption) | refine Below.setCell ?_ (by first | omega | (simp; done) | (simp; omega)) _ | refine bl_store ?_ ?_ _ _))⟩
        | exact bodyPost_ret (v := .agg #[.int .i64 0, .int .i64 32]) (by simp [results, Tryz.results102, go_sem]; done) rfl ⟨rfl, by (repeat (first | exact Below.refl _ _ | assumption | refine Below.drew ?_ | refine bl_alloc ?_ _ | refine bl_then ?_ (by assumption) | refine Below.setCell ?_ (by first | omega | (simp; done) | (simp; omega)) _ | refine bl_store ?_ ?_ _ _))⟩
        | exact bodyPost_ret (v := .agg #[.int .i64 0, .int .i64 16]) (by simp [results, Tryz.results102, go_sem]; done) rfl ⟨rfl, by (repeat (first | exact Below.refl _ _ | assumption | refine Below.drew ?_ | refine bl_alloc ?_ _ | refine bl_then ?_ (by assumption) | refine Below.setCell ?_ (by first | omega | (simp; done) | (simp; omega)) _ | refine bl_store ?_ ?_ _ _))⟩
theorem l3Zoom_any (z : Int) (w : World) : Calls Tryz.prog 72 #[.int .i64 z] w fun e w' => e = .returned (.bool (zoomB z)) ∧ w = w' := by
  unfold zoomB
  go_enter Tryz.func72, Tryz.ntmps72
  go_wp2_with (go_at_call 73; refine (l1In_any _ _ _ _).mono ?_; rintro e w' ⟨rfl, rfl⟩)
  go_ret
  exact ⟨rfl, rfl⟩
theorem l3Unit_any (z : Int) (w : World) (h : zoomB z = true) : Calls Tryz.prog 145 #[.int .i64 z] w fun e w' => e = .returned (.int .i64 (unitI z)) ∧ w = w' := by
  rcases zoomB_cases h with rfl | rfl | rfl | rfl
  all_goals
    go_enter Tryz.func145, Tryz.ntmps145
    go_wp2
    go_ret
    exact ⟨rfl, rfl⟩
end Go.Proofs.YtdohlnnbibnnbaaGreat
/- The point of the grid that is nearest. -/

namespace Go.Proofs.YtdohlnnbibnnbaaGreat
open Go.RowKit
set_option linter.unusedSimpArgs false
set_option linter.unusedVariables false

/-- The grid of a zoom. -/
def gridI (z : Int) : Int := if z = 0 then 32 else if z = 1 then 16 else if z = 2 then 8 else 4
/-- The nearest multiple of the grid. -/
def snapI (z v : Int) : Int := (v + gridI z / 2) / gridI z * gridI z
/-- The answer of SnapPoint. -/
def snapV (x y z : Int) : Value := if (zoomB z && inW x y) = true then .agg #[.int .i64 0, .int .i64 (snapI z x), .int .i64 (snapI z y)] else .agg #[.int .i64 3, .int .i64 0, .int .i64 0]
theorem inW_bd {x y : Int} (h : inW x y = true) : (0 ≤ x ∧ x ≤ 1024) ∧ (0 ≤ y ∧ y ≤ 1024) := by
  simp [inW, inB] at h
  omega
theorem inW_ok {x y : Int} (h : inW x y = true) : okP x y = true := by
  rw [okP_iff]
  have := inW_bd h
  omega
theorem tdiv_nn {a b : Int} (h : 0 ≤ a) : a.tdiv b = a / b := Int.tdiv_eq_ediv_of_nonneg h

theorem unit_bd {z : Int} (h : zoomB z = true) : 0 ≤ unitI z ∧ unitI z ≤ 128 ∧ unitI z / 4 = gridI z := by
  rcases zoomB_cases h with rfl | rfl | rfl | rfl <;> decide
/-- Three stores into one block, read back. -/
theorem set3_at {W : World} {r : Nat} {a b c : Value} (hT : There W r 3) :
    (((W.setCell ⟨r, 0, none⟩ a).setCell ⟨r, 1, none⟩ b).setCell ⟨r, 2, none⟩ c).cell? ⟨r, 0, none⟩ = some a ∧
    (((W.setCell ⟨r, 0, none⟩ a).setCell ⟨r, 1, none⟩ b).setCell ⟨r, 2, none⟩ c).cell? ⟨r, 1, none⟩ = some b ∧
    (((W.setCell ⟨r, 0, none⟩ a).setCell ⟨r, 1, none⟩ b).setCell ⟨r, 2, none⟩ c).cell? ⟨r, 2, none⟩ = some c := by
  obtain ⟨x0, h0⟩ := (hT 0 (by omega)).1
  obtain ⟨x1, h1⟩ := (hT 1 (by omega)).1
  obtain ⟨x2, h2⟩ := (hT 2 (by omega)).1
  have ne : ∀ i j : Nat, i ≠ j → (⟨r, i, none⟩ : Addr) ≠ ⟨r, j, none⟩ := fun i j hij h => hij (by injection h)
  refine ⟨?_, ?_, ?_⟩
  · rw [set1_other (ne 2 0 (by omega)), set1_other (ne 1 0 (by omega))]; exact set1_same h0
  · rw [set1_other (ne 2 1 (by omega))]; exact set1_same (by rw [set1_other (ne 0 1 (by omega))]; exact h1)
  · exact set1_same (by rw [set1_other (ne 1 2 (by omega)), set1_other (ne 0 2 (by omega))]; exact h2)
theorem there3 (V : World) (a b c : Value) (t : TypeId) : There (V.alloc (.cells #[a, b, c] t)) V.heap.size 3 := fun o ho => by
  refine ⟨⟨#[a, b, c][o]'(by simpa using ho), ?_⟩, World.frozen?_alloc_at _ _ _ _ rfl⟩
  rw [World.cell?_alloc_at _ _ _ _ rfl]
  exact Array.getElem?_eq_getElem _

theorem there2 (V : World) (a b : Value) (t : TypeId) : There (V.alloc (.cells #[a, b] t)) V.heap.size 2 := fun o ho => by
  refine ⟨⟨#[a, b][o]'(by simpa using ho), ?_⟩, World.frozen?_alloc_at _ _ _ _ rfl⟩
  rw [World.cell?_alloc_at _ _ _ _ rfl]
  exact Array.getElem?_eq_getElem _

theorem gridAt_any (z : Int) (w : World) (h : zoomB z = true) : Calls Tryz.prog 62 #[.int .i64 z] w fun e w' => e = .returned (.int .i64 (gridI z)) ∧ Below w.heap.size w w' := by
  have s1 := fun w => impl_UnitAt_any z w
  have hv : unitV z = .agg #[.int .i64 0, .int .i64 (unitI z)] := by simp [unitV, h]
  obtain ⟨b1, b2, b3⟩ := unit_bd h
  have hg : Hid (unitI z / 4 = gridI z) := b3
  simp only [hv] at s1
  clear b3 hv
  generalize unitI z = u at *
  have i1 : ∀ w, (Instr.field 45 (.agg #[.int .i64 0, .int .i64 u]) 1).run Tryz.prog w = .ok (.int .i64 u) w := fun _ => by kernel_rfl
  go_enter Tryz.func62, Tryz.ntmps62
  go_wp2_with (go_at_call 102; refine (s1 _).mono ?_; rintro e w1 ⟨rfl, hb1⟩)
  go_ret
  exact ⟨ret_int hg.out, by (repeat (first | exact Below.refl _ _ | assumption | refine Below.drew ?_ | refine bl_alloc ?_ _ | refine bl_then ?_ (by assumption) | refine Below.setCell ?_ (by first | omega | (simp; done) | (simp; omega)) _ | refine bl_store ?_ ?_ _ _))⟩
theorem nearestMultiple_any (n z : Int) (w : World) (h : zoomB z = true) (h0 : 0 ≤ n) (h1 : n ≤ 1024) : Calls Tryz.prog 127 #[.int .i64 n, .int .i64 (gridI z)] w fun e w' => e = .returned (.int .i64 (snapI z n)) ∧ w = w' := by
  rcases zoomB_cases h with rfl | rfl | rfl | rfl
  all_goals
    simp only [snapI, show gridI 0 = 32 from rfl, show gridI 1 = 16 from rfl, show gridI 2 = 8 from rfl, show gridI 3 = 4 from rfl]
    have t1 : (n + 16).tdiv 32 = (n + 16) / 32 := tdiv_nn (by omega)
    have t2 : (n + 8).tdiv 16 = (n + 8) / 16 := tdiv_nn (by omega)
    have t3 : (n + 4).tdiv 8 = (n + 4) / 8 := tdiv_nn (by omega)
    have t4 : (n + 2).tdiv 4 = (n + 2) / 4 := tdiv_nn (by omega)
    go_enter Tryz.func127, Tryz.ntmps127
    go_wp2
    go_ret
    exact ⟨rfl, rfl⟩
theorem impl_SnapPoint_any (x y z : Int) (w : World) : Calls Tryz.prog 99 #[.agg #[.int .i64 x, .int .i64 y], .int .i64 z] w fun e w' => e = .returned (snapV x y z) ∧ Below w.heap.size w w' := by
  go_enter Tryz.func99, Tryz.ntmps99
  go_wp2_with fail
  generalize hW : ((w.alloc _).alloc _ : World) = W
  have HB0 : Hid (Below w.heap.size w W) := by show Below _ _ _; subst hW; (repeat (first | exact Below.refl _ _ | assumption | refine Below.drew ?_ | refine bl_alloc ?_ _ | refine bl_then ?_ (by assumption) | refine Below.setCell ?_ (by first | omega | (simp; done) | (simp; omega)) _ | refine bl_store ?_ ?_ _ _))
  have c00 : ∀ W', Below W.heap.size W W' → W'.cell? ⟨w.heap.size, 0, none⟩ = some (.int .i64 x) := fun W' h => by
    rw [h.cell (by subst hW; simp <;> omega)]; subst hW; simp [go_sem]
  have c01 : ∀ W', Below W.heap.size W W' → W'.cell? ⟨w.heap.size, 1, none⟩ = some (.int .i64 y) := fun W' h => by
    rw [h.cell (by subst hW; simp <;> omega)]; subst hW; simp [go_sem]
  have HT : Hid (There W (w.heap.size + 1) 3) := by
    show There _ _ _
    subst hW
    have := there3 (w.alloc (.cells #[.int .i64 x, .int .i64 y] 111)) (.int .i64 0) (.int .i64 0) (.int .i64 0) 137
    simpa using this
  have hsz : w.heap.size + 1 < W.heap.size := by subst hW; simp
  clear hW
  have hr : Below W.heap.size W W := Below.refl _ _
  refine (isZoom_any _ _).mono ?_
  rintro e w' ⟨rfl, rfl⟩
  cases h : zoomB z
  · have HW := hr
    have hT' := HT.out.below HW
    have t0 := hT'.cell 0 (by omega)
    have t1 := hT'.cell 1 (by omega)
    have t2 := hT'.cell 2 (by omega)
    have f0 := (hT' 0 (by omega)).2
    have f1 := (hT' 1 (by omega)).2
    have f2 := (hT' 2 (by omega)).2
    have HT' : Hid (There W (w.heap.size + 1) 3) := hT'
    clear hT'
    go_wp2_with fail
    obtain ⟨q0, q1, q2⟩ := set3_at (a := .int .i64 3) (b := .int .i64 0) (c := .int .i64 0) HT'.out
    have hle : w.heap.size ≤ W.heap.size := Nat.le_trans (by omega) HW.size
    refine bodyPost_ret (v := .agg #[.int .i64 3, .int .i64 0, .int .i64 0]) (by simp [results, Tryz.results99, go_sem, q0, q1, q2]) rfl ⟨by simp [snapV, h], ?_⟩
    have HB1 := bl_then HB0.out HW
    (repeat (first | exact Below.refl _ _ | assumption | refine Below.drew ?_ | refine bl_alloc ?_ _ | refine bl_then ?_ (by assumption) | refine Below.setCell ?_ (by first | omega | (simp; done) | (simp; omega)) _ | refine bl_store ?_ ?_ _ _))
  · go_wp2_with fail
    refine (PointFault_any _ _ _).mono ?_
    rintro e w1 ⟨rfl, HW⟩
    cases hk : okP x y
    · have hi : inW x y = false := by
        cases hw : inW x y
        · rfl
        · rw [inW_ok hw] at hk; cases hk
      have hz : codeP x y = 3 := codeP_no hk
      have hT' := HT.out.below HW
      have t0 := hT'.cell 0 (by omega)
      have t1 := hT'.cell 1 (by omega)
      have t2 := hT'.cell 2 (by omega)
      have f0 := (hT' 0 (by omega)).2
      have f1 := (hT' 1 (by omega)).2
      have f2 := (hT' 2 (by omega)).2
      have HT' : Hid (There w1 (w.heap.size + 1) 3) := hT'
      clear hT'
      go_wp2_with fail
      obtain ⟨q0, q1, q2⟩ := set3_at (a := .int .i64 3) (b := .int .i64 0) (c := .int .i64 0) HT'.out
      have hle : w.heap.size ≤ w1.heap.size := Nat.le_trans (by omega) HW.size
      refine bodyPost_ret (v := .agg #[.int .i64 3, .int .i64 0, .int .i64 0]) (by simp [results, Tryz.results99, go_sem, q0, q1, q2]) rfl ⟨by simp [snapV, h, hi], ?_⟩
      have HB1 := bl_then HB0.out HW
      (repeat (first | exact Below.refl _ _ | assumption | refine Below.drew ?_ | refine bl_alloc ?_ _ | refine bl_then ?_ (by assumption) | refine Below.setCell ?_ (by first | omega | (simp; done) | (simp; omega)) _ | refine bl_store ?_ ?_ _ _))
    · have hz : codeP x y = 0 := codeP_ok hk
      go_wp2_with fail
      refine (isInWorld_any _ _ _).mono ?_
      rintro e w2 ⟨rfl, hb2⟩
      have HW2 := bl_then HW hb2
      clear HW hb2
      have HW := HW2
      clear HW2
      cases hi : inW x y
      · skip
        have hT' := HT.out.below HW
        have t0 := hT'.cell 0 (by omega)
        have t1 := hT'.cell 1 (by omega)
        have t2 := hT'.cell 2 (by omega)
        have f0 := (hT' 0 (by omega)).2
        have f1 := (hT' 1 (by omega)).2
        have f2 := (hT' 2 (by omega)).2
        have HT' : Hid (There w2 (w.heap.size + 1) 3) := hT'
        clear hT'
        go_wp2_with fail
        obtain ⟨q0, q1, q2⟩ := set3_at (a := .int .i64 3) (b := .int .i64 0) (c := .int .i64 0) HT'.out
        have hle : w.heap.size ≤ w2.heap.size := Nat.le_trans (by omega) HW.size
        refine bodyPost_ret (v := .agg #[.int .i64 3, .int .i64 0, .int .i64 0]) (by simp [results, Tryz.results99, go_sem, q0, q1, q2]) rfl ⟨by simp [snapV, h, hi], ?_⟩
        have HB1 := bl_then HB0.out HW
        (repeat (first | exact Below.refl _ _ | assumption | refine Below.drew ?_ | refine bl_alloc ?_ _ | refine bl_then ?_ (by assumption) | refine Below.setCell ?_ (by first | omega | (simp; done) | (simp; omega)) _ | refine bl_store ?_ ?_ _ _))
      · obtain ⟨⟨x0, x1⟩, y0, y1⟩ := inW_bd hi
        go_wp2_with fail
        refine (gridAt_any _ _ h).mono ?_
        rintro e w3 ⟨rfl, hb3⟩
        have HW3 := bl_then HW hb3
        clear HW hb3
        have hz3 : w.heap.size + 1 < w3.heap.size := Nat.lt_of_lt_of_le hsz HW3.size
        have hreg : Reg (w.heap.size + 1) w3 (w.heap.size + 1) 3 w3 := Reg.start (by omega) (HT.out.below HW3)
        have d0 : ∀ W', Reg (w.heap.size + 1) w3 (w.heap.size + 1) 3 W' → W'.cell? ⟨w.heap.size, 0, none⟩ = some (.int .i64 x) := fun W' h => (h.bel.cell (p := ⟨w.heap.size, 0, none⟩) (by simp)).trans (c00 w3 HW3)
        have d1 : ∀ W', Reg (w.heap.size + 1) w3 (w.heap.size + 1) 3 W' → W'.cell? ⟨w.heap.size, 1, none⟩ = some (.int .i64 y) := fun W' h => (h.bel.cell (p := ⟨w.heap.size, 1, none⟩) (by simp)).trans (c01 w3 HW3)
        have t0 : ∀ W', Reg (w.heap.size + 1) w3 (w.heap.size + 1) 3 W' → W'.cell? ⟨w.heap.size + 1, 0, none⟩ = some (cellOr W' (w.heap.size + 1) 0) := fun W' h => h.there.cell 0 (by omega)
        have t1 : ∀ W', Reg (w.heap.size + 1) w3 (w.heap.size + 1) 3 W' → W'.cell? ⟨w.heap.size + 1, 1, none⟩ = some (cellOr W' (w.heap.size + 1) 1) := fun W' h => h.there.cell 1 (by omega)
        have t2 : ∀ W', Reg (w.heap.size + 1) w3 (w.heap.size + 1) 3 W' → W'.cell? ⟨w.heap.size + 1, 2, none⟩ = some (cellOr W' (w.heap.size + 1) 2) := fun W' h => h.there.cell 2 (by omega)
        have s0 : ∀ W', Reg (w.heap.size + 1) w3 (w.heap.size + 1) 3 W' → W'.frozen? ⟨w.heap.size + 1, 0, none⟩ = false := fun W' h => (h.there 0 (by omega)).2
        have s1 : ∀ W', Reg (w.heap.size + 1) w3 (w.heap.size + 1) 3 W' → W'.frozen? ⟨w.heap.size + 1, 1, none⟩ = false := fun W' h => (h.there 1 (by omega)).2
        have s2 : ∀ W', Reg (w.heap.size + 1) w3 (w.heap.size + 1) 3 W' → W'.frozen? ⟨w.heap.size + 1, 2, none⟩ = false := fun W' h => (h.there 2 (by omega)).2
        have HZ : Hid (Below w.heap.size w w3) := bl_then HB0.out HW3
        clear c00 c01 HT HB0 HW3 hr
        go_wp2_with fail
        go_region_held3 (Reg (w.heap.size + 1) w3 (w.heap.size + 1) 3) (first | exact Reg.drew hreg | exact Reg.store (Reg.store (Reg.store (by assumption) (Nat.le_refl _) _ _) (Nat.le_refl _) _ _) (Nat.le_refl _) _ _ | assumption)
          (first
            | (go_at_call 127; refine (nearestMultiple_any _ _ _ h (by omega) (by omega)).mono ?_; rintro e w' ⟨rfl, rfl⟩))
        go_wp2_with fail
        rename_i hfin
        obtain ⟨q0, q1, q2⟩ := set3_at (a := .int .i64 0) (b := .int .i64 (snapI z x)) (c := .int .i64 (snapI z y)) hreg.there
        refine bodyPost_ret (v := .agg #[.int .i64 0, .int .i64 (snapI z x), .int .i64 (snapI z y)]) (by simp [results, Tryz.results99, go_sem, q0, q1, q2]) rfl ⟨by simp [snapV, h, hi], ?_⟩
        exact HZ.out.trans (hfin.bel.mono (by omega))
theorem l3Grid_any (z : Int) (w : World) (h : zoomB z = true) : Calls Tryz.prog 118 #[.int .i64 z] w fun e w' => e = .returned (.int .i64 (gridI z)) ∧ w = w' := by
  have s1 := fun w => l3Unit_any z w h
  obtain ⟨b1, b2, b3⟩ := unit_bd h
  have hg : Hid (unitI z / 4 = gridI z) := b3
  clear b3
  generalize unitI z = u at *
  go_enter Tryz.func118, Tryz.ntmps118
  go_wp2_with (go_at_call 145; refine (s1 _).mono ?_; rintro e w1 ⟨rfl, rfl⟩)
  go_ret
  exact ⟨ret_int hg.out, rfl⟩
theorem l3Near_any (n z : Int) (w : World) (h : zoomB z = true) (h0 : 0 ≤ n) (h1 : n ≤ 1024) : Calls Tryz.prog 158 #[.int .i64 n, .int .i64 (gridI z)] w fun e w' => e = .returned (.int .i64 (snapI z n)) ∧ w = w' := by
  rcases zoomB_cases h with rfl | rfl | rfl | rfl
  all_goals
    simp only [snapI, show gridI 0 = 32 from rfl, show gridI 1 = 16 from rfl, show gridI 2 = 8 from rfl, show gridI 3 = 4 from rfl]
    have t1 : (n + 16).tdiv 32 = (n + 16) / 32 := tdiv_nn (by omega)
    have t2 : (n + 8).tdiv 16 = (n + 8) / 16 := tdiv_nn (by omega)
    have t3 : (n + 4).tdiv 8 = (n + 4) / 8 := tdiv_nn (by omega)
    have t4 : (n + 2).tdiv 4 = (n + 2) / 4 := tdiv_nn (by omega)
    go_enter Tryz.func158, Tryz.ntmps158
    go_wp2
    go_ret
    exact ⟨rfl, rfl⟩
theorem l3Point_any (x y z : Int) (w : World) (h : zoomB z = true) (hi : inW x y = true) : Calls Tryz.prog 147 #[.agg #[.int .i64 x, .int .i64 y], .int .i64 z] w fun e w' => e = .returned (.agg #[.int .i64 (snapI z x), .int .i64 (snapI z y)]) ∧ Below w.heap.size w w' := by
  obtain ⟨⟨x0, x1⟩, y0, y1⟩ := inW_bd hi
  go_enter Tryz.func147, Tryz.ntmps147
  go_wp2_with (go_at_call 118; refine (l3Grid_any _ _ h).mono ?_; rintro e w' ⟨rfl, rfl⟩)
  generalize hW : ((w.alloc _).alloc _ : World) = W
  have HB0 : Hid (Below w.heap.size w W) := by show Below _ _ _; subst hW; (repeat (first | exact Below.refl _ _ | assumption | refine Below.drew ?_ | refine bl_alloc ?_ _ | refine bl_then ?_ (by assumption) | refine Below.setCell ?_ (by first | omega | (simp; done) | (simp; omega)) _ | refine bl_store ?_ ?_ _ _))
  have c00 : ∀ W', Below W.heap.size W W' → W'.cell? ⟨w.heap.size, 0, none⟩ = some (.int .i64 x) := fun W' h => by
    rw [h.cell (by subst hW; simp <;> omega)]; subst hW; simp [go_sem]
  have c01 : ∀ W', Below W.heap.size W W' → W'.cell? ⟨w.heap.size, 1, none⟩ = some (.int .i64 y) := fun W' h => by
    rw [h.cell (by subst hW; simp <;> omega)]; subst hW; simp [go_sem]
  have hT : There W (w.heap.size + 1) 2 := by
    subst hW
    have := there2 (w.alloc (.cells #[.int .i64 x, .int .i64 y] 111)) (.int .i64 0) (.int .i64 0) 111
    simpa using this
  have hsz : w.heap.size + 1 < W.heap.size := by subst hW; simp
  clear hW
  have hr : Below W.heap.size W W := Below.refl _ _
  have hreg : Reg (w.heap.size + 1) W (w.heap.size + 1) 2 W := Reg.start (by omega) hT
  have d0 : ∀ W', Reg (w.heap.size + 1) W (w.heap.size + 1) 2 W' → W'.cell? ⟨w.heap.size, 0, none⟩ = some (.int .i64 x) := fun W' h => (h.bel.cell (p := ⟨w.heap.size, 0, none⟩) (by simp)).trans (c00 W hr)
  have d1 : ∀ W', Reg (w.heap.size + 1) W (w.heap.size + 1) 2 W' → W'.cell? ⟨w.heap.size, 1, none⟩ = some (.int .i64 y) := fun W' h => (h.bel.cell (p := ⟨w.heap.size, 1, none⟩) (by simp)).trans (c01 W hr)
  have t0 : ∀ W', Reg (w.heap.size + 1) W (w.heap.size + 1) 2 W' → W'.cell? ⟨w.heap.size + 1, 0, none⟩ = some (cellOr W' (w.heap.size + 1) 0) := fun W' h => h.there.cell 0 (by omega)
  have t1 : ∀ W', Reg (w.heap.size + 1) W (w.heap.size + 1) 2 W' → W'.cell? ⟨w.heap.size + 1, 1, none⟩ = some (cellOr W' (w.heap.size + 1) 1) := fun W' h => h.there.cell 1 (by omega)
  have s0 : ∀ W', Reg (w.heap.size + 1) W (w.heap.size + 1) 2 W' → W'.frozen? ⟨w.heap.size + 1, 0, none⟩ = false := fun W' h => (h.there 0 (by omega)).2
  have s1 : ∀ W', Reg (w.heap.size + 1) W (w.heap.size + 1) 2 W' → W'.frozen? ⟨w.heap.size + 1, 1, none⟩ = false := fun W' h => (h.there 1 (by omega)).2
  clear c00 c01 hr hT
  go_region_held3 (Reg (w.heap.size + 1) W (w.heap.size + 1) 2) (first | exact Reg.drew hreg | exact Reg.store (Reg.store (by assumption) (Nat.le_refl _) _ _) (Nat.le_refl _) _ _ | assumption)
    (first
      | (go_at_call 158; refine (l3Near_any _ _ _ h (by omega) (by omega)).mono ?_; rintro e w' ⟨rfl, rfl⟩))
  go_wp2_with fail
  rename_i hfin
  refine bodyPost_ret (v := .agg #[.int .i64 (snapI z x), .int .i64 (snapI z y)]) (by simp [results, Tryz.results147, go_sem, set2_0 (Option.isSome_iff_exists.2 ⟨_, t0 _ hreg⟩), set2_1 (Option.isSome_iff_exists.2 ⟨_, t1 _ hreg⟩)]) rfl ⟨rfl, ?_⟩
  exact HB0.out.trans (hfin.bel.mono (by omega))
end Go.Proofs.YtdohlnnbibnnbaaGreat
