/- A camera of the model, held in the world. -/
import Derived.Test.YtkejjfdfofojoaaCs1
import Derived.Deep.DeepCutAuto
namespace Go.Proofs.Ytkejjfdfofojoaa
open Go.RowKit
set_option linter.unusedSimpArgs false
set_option linter.unusedVariables false
set_option maxRecDepth 100000

theorem l1Min_c (a b : Int) (w : World) : Calls Try.prog 51 #[.int .i64 a, .int .i64 b] w fun e w' => e = .returned (.int .i64 (min a b)) ∧ w' = w := by
  by_cases h : a < b
  · have e : min a b = a := by omega
    rw [e]
    go_enter Try.func51, Try.ntmps51
    go_wp2
    go_ret
    exact ⟨rfl, rfl⟩
  · have e : min a b = b := by omega
    rw [e]
    go_enter Try.func51, Try.ntmps51
    go_wp2
    go_ret
    exact ⟨rfl, rfl⟩
theorem l1Max_c (a b : Int) (w : World) : Calls Try.prog 52 #[.int .i64 a, .int .i64 b] w fun e w' => e = .returned (.int .i64 (max a b)) ∧ w' = w := by
  by_cases h : b < a
  · have e : max a b = a := by omega
    rw [e]
    go_enter Try.func52, Try.ntmps52
    go_wp2
    go_ret
    exact ⟨rfl, rfl⟩
  · have e : max a b = b := by omega
    rw [e]
    go_enter Try.func52, Try.ntmps52
    go_wp2
    go_ret
    exact ⟨rfl, rfl⟩
set_option maxHeartbeats 4000000 in
theorem l9Hold_any (z x y wd ht : Int) (w : World) (hz : zoomB z = true) (hw : 1 ≤ wd ∧ wd ≤ 8) (hh : 1 ≤ ht ∧ ht ≤ 8) :
    Calls Try.prog 33 #[camV z x y wd ht] w fun e w' => e = .returned (camV z (heldI x (pixI z - wd)) (heldI y (pixI z - ht)) wd ht) ∧ Below w.heap.size w w' := by
  have sN := fun w => l4Count_any z w hz
  have hn := pixI_bd hz
  generalize pixI z = u at *
  clear hz
  have sA := fun w => l1Max_c x 0 w
  have sB := fun w => l1Min_c (max x 0) (u - wd) w
  have sC := fun w => l1Max_c y 0 w
  have sD := fun w => l1Min_c (max y 0) (u - ht) w
  unfold heldI
  generalize max x 0 = mx at *
  generalize max y 0 = my at *
  generalize hhx : min mx (u - wd) = hx at *
  generalize hhy : min my (u - ht) = hy at *
  clear hhx hhy
  go_enter Try.func33, Try.ntmps33
  go_wp2_with fail
  generalize hW : ((w.alloc _).alloc _ : World) = W
  have HB0 : Hid (Below w.heap.size w W) := by show Below _ _ _; subst hW; (repeat (first | exact Below.refl _ _ | assumption | refine Below.drew ?_ | refine bl_alloc ?_ _ | refine bl_then ?_ (by assumption) | refine Below.setCell ?_ (by first | omega | (simp; done) | (simp; omega)) _ | refine bl_store ?_ ?_ _ _))
  have hT : There W (w.heap.size + 1) 5 := by
    subst hW
    have := there5c (w.alloc (.cells #[.int .i64 z, .int .i64 x, .int .i64 y, .int .i64 wd, .int .i64 ht] 25)) (.int .i64 0) (.int .i64 0) (.int .i64 0) (.int .i64 0) (.int .i64 0) 25
    simpa using this
  have HT : Hid (There W (w.heap.size + 1) 5) := hT
  have hC : There W w.heap.size 5 := by
    subst hW
    exact (there5c w (.int .i64 z) (.int .i64 x) (.int .i64 y) (.int .i64 wd) (.int .i64 ht) 25).below (by (repeat (first | exact Below.refl _ _ | assumption | refine Below.drew ?_ | refine bl_alloc ?_ _ | refine bl_then ?_ (by assumption) | refine Below.setCell ?_ (by first | omega | (simp; done) | (simp; omega)) _ | refine bl_store ?_ ?_ _ _)))
  have e0 : W.cell? ⟨w.heap.size, 0, none⟩ = some (.int .i64 z) := by subst hW; simp [go_sem]
  have e1 : W.cell? ⟨w.heap.size, 1, none⟩ = some (.int .i64 x) := by subst hW; simp [go_sem]
  have e2 : W.cell? ⟨w.heap.size, 2, none⟩ = some (.int .i64 y) := by subst hW; simp [go_sem]
  have e3 : W.cell? ⟨w.heap.size, 3, none⟩ = some (.int .i64 wd) := by subst hW; simp [go_sem]
  have e4 : W.cell? ⟨w.heap.size, 4, none⟩ = some (.int .i64 ht) := by subst hW; simp [go_sem]
  have g1 := (hC 1 (by omega)).2
  have g2 := (hC 2 (by omega)).2
  have t0 := hT.cell 0 (by omega)
  have t1 := hT.cell 1 (by omega)
  have t2 := hT.cell 2 (by omega)
  have t3 := hT.cell 3 (by omega)
  have t4 := hT.cell 4 (by omega)
  have f0 := (hT 0 (by omega)).2
  have f1 := (hT 1 (by omega)).2
  have f2 := (hT 2 (by omega)).2
  have f3 := (hT 3 (by omega)).2
  have f4 := (hT 4 (by omega)).2
  have r1 : IntKind.i64.wrap (u - wd) = u - wd := IntWalk.i64_in _ (by omega)
  have r2 : IntKind.i64.wrap (u - ht) = u - ht := IntWalk.i64_in _ (by omega)
  clear hW hT hC hn hw hh
  refine (sN _).mono ?_
  rintro e w1 ⟨rfl, rfl⟩
  go_wp2_with fail
  go_cut [] (fun wc => wc = (W.setCell ⟨w.heap.size, 1, none⟩ (.int .i64 hx)).drew)
  case first =>
    go_region_with (first
      | (go_at_call 52; refine (sA _).mono ?_; rintro e w1 ⟨rfl, rfl⟩)
      | (go_at_call 51; refine (sB _).mono ?_; rintro e w1 ⟨rfl, rfl⟩))
    all_goals (go_wp2_with fail; go_meet; exact rfl)
  case rest =>
    generalize wc = wA at *
    have a0 : wA.cell? ⟨w.heap.size, 0, none⟩ = some (.int .i64 z) := by rw [hcut]; simpa [go_sem] using e0
    have a1 : wA.cell? ⟨w.heap.size, 1, none⟩ = some (.int .i64 hx) := by rw [hcut]; simpa [go_sem] using set1_same e1
    have a2 : wA.cell? ⟨w.heap.size, 2, none⟩ = some (.int .i64 y) := by rw [hcut]; simpa [go_sem] using e2
    have a3 : wA.cell? ⟨w.heap.size, 3, none⟩ = some (.int .i64 wd) := by rw [hcut]; simpa [go_sem] using e3
    have a4 : wA.cell? ⟨w.heap.size, 4, none⟩ = some (.int .i64 ht) := by rw [hcut]; simpa [go_sem] using e4
    have b2 : wA.frozen? ⟨w.heap.size, 2, none⟩ = false := by rw [hcut]; simpa [go_sem] using g2
    have HTA : Hid (There wA (w.heap.size + 1) 5) := by rw [hcut]; exact HT.out.putC
    have HBA : Hid (Below w.heap.size w wA) := by rw [hcut]; exact (HB0.out.setCell (Nat.le_refl _) _).drew
    clear hcut e0 e1 e2 e3 e4 g1 g2 HT HB0 t0 t1 t2 t3 t4 f0 f1 f2 f3 f4
    go_wp2_with fail
    go_cut [] (fun wx => wx = (wA.setCell ⟨w.heap.size, 2, none⟩ (.int .i64 hy)).drew)
    case first =>
      go_region_with (first
        | (go_at_call 52; refine (sC _).mono ?_; rintro e w1 ⟨rfl, rfl⟩)
        | (go_at_call 51; refine (sD _).mono ?_; rintro e w1 ⟨rfl, rfl⟩))
      all_goals (go_wp2_with fail; go_meet; exact rfl)
    case rest =>
      generalize wc = wB at *
      have d0 : wB.cell? ⟨w.heap.size, 0, none⟩ = some (.int .i64 z) := by rw [hcut]; simpa [go_sem] using a0
      have d1 : wB.cell? ⟨w.heap.size, 1, none⟩ = some (.int .i64 hx) := by rw [hcut]; simpa [go_sem] using a1
      have d2 : wB.cell? ⟨w.heap.size, 2, none⟩ = some (.int .i64 hy) := by rw [hcut]; simpa [go_sem] using set1_same a2
      have d3 : wB.cell? ⟨w.heap.size, 3, none⟩ = some (.int .i64 wd) := by rw [hcut]; simpa [go_sem] using a3
      have d4 : wB.cell? ⟨w.heap.size, 4, none⟩ = some (.int .i64 ht) := by rw [hcut]; simpa [go_sem] using a4
      have hTB : There wB (w.heap.size + 1) 5 := by rw [hcut]; exact HTA.out.putC
      have HTB : Hid (There wB (w.heap.size + 1) 5) := hTB
      have HBB : Hid (Below w.heap.size w wB) := by rw [hcut]; exact (HBA.out.setCell (Nat.le_refl _) _).drew
      have t0 := hTB.cell 0 (by omega)
      have t1 := hTB.cell 1 (by omega)
      have t2 := hTB.cell 2 (by omega)
      have t3 := hTB.cell 3 (by omega)
      have t4 := hTB.cell 4 (by omega)
      have f0 := (hTB 0 (by omega)).2
      have f1 := (hTB 1 (by omega)).2
      have f2 := (hTB 2 (by omega)).2
      have f3 := (hTB 3 (by omega)).2
      have f4 := (hTB 4 (by omega)).2
      clear hcut a0 a1 a2 a3 a4 b2 HTA HBA hTB
      go_wp2_with fail
      obtain ⟨q0, q1, q2, q3, q4⟩ := setc5_at (a := .int .i64 z) (b := .int .i64 hx) (c := .int .i64 hy) (d := .int .i64 wd) (e := .int .i64 ht) HTB.out
      refine bodyPost_ret (v := camV z hx hy wd ht) (by simp [results, Try.results33, go_sem, q0, q1, q2, q3, q4]) rfl ⟨rfl, ?_⟩
      exact ((((HBB.out.setCell (Nat.le_succ _) _).setCell (Nat.le_succ _) _).setCell (Nat.le_succ _) _).setCell (Nat.le_succ _) _).setCell (Nat.le_succ _) _
end Go.Proofs.Ytkejjfdfofojoaa
