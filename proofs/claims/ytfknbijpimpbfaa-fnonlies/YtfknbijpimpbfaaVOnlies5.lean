/- The parent of a ref, the ref of a pixel: the program and the model, and their laws. -/
import Derived.Test.YtfknbijpimpbfaaVOnlies4
namespace Go.Proofs.Ytfknbijpimpbfaa
open Go.RowKit
set_option linter.unusedSimpArgs false
set_option linter.unusedVariables false
set_option maxRecDepth 100000

theorem there4r (V : World) (a b c d : Value) (t : TypeId) : There (V.alloc (.cells #[a, b, c, d] t)) V.heap.size 4 := fun o ho => by
  have : o = 0 ∨ o = 1 ∨ o = 2 ∨ o = 3 := by omega
  rcases this with rfl | rfl | rfl | rfl <;> exact ⟨⟨_, by simp [go_sem]; rfl⟩, by simp [go_sem]⟩
theorem there3r (V : World) (a b c : Value) (t : TypeId) : There (V.alloc (.cells #[a, b, c] t)) V.heap.size 3 := fun o ho => by
  have : o = 0 ∨ o = 1 ∨ o = 2 := by omega
  rcases this with rfl | rfl | rfl <;> exact ⟨⟨_, by simp [go_sem]; rfl⟩, by simp [go_sem]⟩

set_option maxHeartbeats 4000000 in
theorem impl_RefAt_any (z x y : Int) (w : World) : Calls Try.prog 72 #[.int .i64 z, .int .i64 x, .int .i64 y] w fun e w' => e = .returned (atV z x y) ∧ Below w.heap.size w w' := by
  go_enter Try.func72, Try.ntmps72
  go_wp2_with fail
  generalize hW : (w.alloc _ : World) = W
  have HB0 : Hid (Below w.heap.size w W) := by show Below _ _ _; subst hW; (repeat (first | exact Below.refl _ _ | assumption | refine Below.drew ?_ | refine bl_alloc ?_ _ | refine bl_then ?_ (by assumption) | refine Below.setCell ?_ (by first | omega | (simp; done) | (simp; omega)) _ | refine bl_store ?_ ?_ _ _))
  have HT : Hid (There W w.heap.size 4) := by
    show There _ _ _
    subst hW
    exact there4r w (.int .i64 0) (.int .i64 0) (.int .i64 0) (.int .i64 0) 102
  have hsz : w.heap.size < W.heap.size := by subst hW; simp
  clear hW
  refine (isPixel_any _ _ _ _).mono ?_
  rintro e w1 ⟨rfl, hb1⟩
  have hT' := HT.out.below hb1
  have HT1 : Hid (There w1 w.heap.size 4) := hT'
  have t0 := hT'.cell 0 (by omega)
  have t1 := hT'.cell 1 (by omega)
  have t2 := hT'.cell 2 (by omega)
  have t3 := hT'.cell 3 (by omega)
  have f0 := (hT' 0 (by omega)).2
  have f1 := (hT' 1 (by omega)).2
  have f2 := (hT' 2 (by omega)).2
  have f3 := (hT' 3 (by omega)).2
  have HB1 : Hid (Below w.heap.size w w1) := bl_then HB0.out hb1
  have hsz1 : w.heap.size < w1.heap.size := Nat.lt_of_lt_of_le hsz hb1.size
  clear hb1 HT HB0 hT' hsz
  cases h : pixB z x y
  · have hq : Hid (atV z x y = rrV 3 0 0 0) := by show _ = _; simp [atV, h]
    go_wp2_with fail
    obtain ⟨q0, q1, q2, q3⟩ := set4_at (a := .int .i64 3) (b := .int .i64 0) (c := .int .i64 0) (d := .int .i64 0) HT1.out
    refine bodyPost_ret (v := rrV 3 0 0 0) (by simp [results, Try.results72, go_sem, q0, q1, q2, q3]) rfl ⟨by rw [hq.out], ?_⟩
    have HB := HB1.out
    (repeat (first | exact Below.refl _ _ | assumption | refine Below.drew ?_ | refine bl_alloc ?_ _ | refine bl_then ?_ (by assumption) | refine Below.setCell ?_ (by first | omega | (simp; done) | (simp; omega)) _ | refine bl_store ?_ ?_ _ _))
  · have hq : Hid (atV z x y = rrV 0 z (x / 8) (y / 8)) := by show _ = _; simp [atV, h]
    obtain ⟨⟨x0, x1⟩, y0, y1⟩ := pixB_in h
    have hp := (pixI_bd (pixB_zoom h)).2
    clear h
    generalize pixI z = u at *
    have dx : x.tdiv 8 = x / 8 := Int.tdiv_eq_ediv_of_nonneg x0
    have dy : y.tdiv 8 = y / 8 := Int.tdiv_eq_ediv_of_nonneg y0
    go_wp2_with fail
    obtain ⟨q0, q1, q2, q3⟩ := set4_at (a := .int .i64 0) (b := .int .i64 z) (c := .int .i64 (x / 8)) (d := .int .i64 (y / 8)) HT1.out
    refine bodyPost_ret (v := rrV 0 z (x / 8) (y / 8)) (by simp [results, Try.results72, go_sem, q0, q1, q2, q3]) rfl ⟨by rw [hq.out], ?_⟩
    have HB := HB1.out
    (repeat (first | exact Below.refl _ _ | assumption | refine Below.drew ?_ | refine bl_alloc ?_ _ | refine bl_then ?_ (by assumption) | refine Below.setCell ?_ (by first | omega | (simp; done) | (simp; omega)) _ | refine bl_store ?_ ?_ _ _))
theorem toRef_any (z x y : Int) (w : World) : Calls Try.prog 66 #[refV z x y] w fun e w' => e = .returned (refV z x y) ∧ Below w.heap.size w w' := by
  go_enter Try.func66, Try.ntmps66
  go_wp2
  exact bodyPost_ret (v := refV z x y) (by simp [results, Try.results66, go_sem]) rfl ⟨rfl, by (repeat (first | exact Below.refl _ _ | assumption | refine Below.drew ?_ | refine bl_alloc ?_ _ | refine bl_then ?_ (by assumption) | refine Below.setCell ?_ (by first | omega | (simp; done) | (simp; omega)) _ | refine bl_store ?_ ?_ _ _))⟩
theorem eqRef_any (z x y : Int) (w : World) : Calls Try.prog 67 #[refV z x y, refV z x y] w fun e w' => e = .returned (.bool true) ∧ Below w.heap.size w w' := by
  go_enter Try.func67, Try.ntmps67
  go_wp2
  go_ret
  exact ⟨rfl, by (repeat (first | exact Below.refl _ _ | assumption | refine Below.drew ?_ | refine bl_alloc ?_ _ | refine bl_then ?_ (by assumption) | refine Below.setCell ?_ (by first | omega | (simp; done) | (simp; omega)) _ | refine bl_store ?_ ?_ _ _))⟩
end Go.Proofs.Ytfknbijpimpbfaa
