/- Drawn arguments of DoMeet. -/
import Derived.Test.YtlkjdbigpjpgeaaDrawIn
namespace Go.Proofs.Ytlkjdbigpjpgeaa
open Go.RowKit
set_option linter.unusedSimpArgs false
set_option linter.unusedVariables false

theorem There.other {W : World} {r r' n o : Nat} {v : Value} (h : There W r n) (hr : r' ≠ r) : There (W.setCell ⟨r', o, none⟩ v) r n := fun o' ho => by
  obtain ⟨u, hu⟩ := (h o' ho).1
  have ne : (⟨r', o, none⟩ : Addr) ≠ ⟨r, o', none⟩ := fun e => hr (by injection e)
  exact ⟨⟨u, (set1_other ne).trans hu⟩, by rw [World.frozen?_setCell]; exact (h o' ho).2⟩
theorem set4_other {W : World} {r r' o : Nat} {a b c d : Value} (hr : r' ≠ r) : ((((W.setCell ⟨r', 0, none⟩ a).setCell ⟨r', 1, none⟩ b).setCell ⟨r', 2, none⟩ c).setCell ⟨r', 3, none⟩ d).cell? ⟨r, o, none⟩ = W.cell? ⟨r, o, none⟩ := by
  have ne : ∀ i : Nat, (⟨r', i, none⟩ : Addr) ≠ ⟨r, o, none⟩ := fun i e => hr (by injection e)
  rw [set1_other (ne 3), set1_other (ne 2), set1_other (ne 1), set1_other (ne 0)]

set_option maxHeartbeats 4000000 in
theorem DrawDoMeet_any (a : Option Addr) (n cap : Nat) (Z : Nat → Int) (w : World) (h : IsBytes w a n Z) (hrng : ∀ i, 0 ≤ Z i ∧ Z i ≤ 255) (hn : n ≤ 1048576) (hcap : n ≤ cap) :
    Calls Try.prog 24 #[.slice a n cap] w fun e w' => ∃ x0 x1 x2 x3 y0 y1 y2 y3 : Int, e = .returned (.tuple #[.agg #[.int .i64 x0, .int .i64 x1, .int .i64 x2, .int .i64 x3], .agg #[.int .i64 y0, .int .i64 y1, .int .i64 y2, .int .i64 y3]]) ∧ Below w.heap.size w w' := by
  have HI : Hid (IsBytes w a n Z) := h
  have HR : Hid (∀ i, 0 ≤ Z i ∧ Z i ≤ 255) := hrng
  clear h hrng
  go_enter Try.func24, Try.ntmps24
  go_wp2_with fail
  generalize hW : ((w.alloc _).alloc _ : World) = W
  have hB0 : Below w.heap.size w W := by subst hW; (repeat (first | exact Below.refl _ _ | assumption | refine Below.drew ?_ | refine bl_alloc ?_ _ | refine bl_then ?_ (by assumption) | refine Below.setCell ?_ (by first | omega | (simp; done) | (simp; omega)) _ | refine bl_store ?_ ?_ _ _))
  have hsz : W.heap.size = w.heap.size + 2 := by subst hW; simp
  have hT : ∀ k, k < 2 → There W (w.heap.size + k) 4 := fun k hk o ho => by
    subst hW
    have hk' : k = 0 ∨ k = 1 := by omega
    have hc : o = 0 ∨ o = 1 ∨ o = 2 ∨ o = 3 := by omega
    rcases hk' with rfl | rfl <;> rcases hc with rfl | rfl | rfl | rfl <;> exact ⟨⟨_, by simp [go_sem]; rfl⟩, by simp [go_sem]⟩
  clear hW
  have HT : Hid (∀ k, k < 2 → There W (w.heap.size + k) 4) := hT
  have HB0 : Hid (Below w.heap.size w W) := hB0
  have HZ : Hid (W.heap.size = w.heap.size + 2) := hsz
  have HI1 : Hid (IsBytes W a n Z) := HI.out.below hB0
  clear hB0 hsz HI hT
  refine (l1Source_ex _ _ _ _).mono ?_
  rintro e w1 ⟨rfl, hw1⟩
  have hS1 : Src a n cap Z W.heap.size 0 w1 := by rw [← hw1]; exact src_start a n cap Z W HI1.out HR.out hn
  have hb1 : Below W.heap.size W w1 := by rw [← hw1]; unfold srcW; (repeat (first | exact Below.refl _ _ | assumption | refine Below.drew ?_ | refine bl_alloc ?_ _ | refine bl_then ?_ (by assumption) | refine Below.setCell ?_ (by first | omega | (simp; done) | (simp; omega)) _ | refine bl_store ?_ ?_ _ _))
  have HS1 : Hid (Src a n cap Z W.heap.size 0 w1) := hS1
  have HK1 : Hid (Keeps W.heap.size W w1) := Keeps.of_below hb1
  clear hw1 hS1 hb1 HI1
  go_wp2_with fail
  refine (l1Draw_any a n cap Z _ 0 _ HS1.out hcap (by omega)).mono ?_
  rintro e w2 ⟨x0, x1, rfl, hS2, hK2⟩
  have HS2 : Hid (Src a n cap Z W.heap.size (0 + 6) w2) := hS2
  have HK2 : Hid (Keeps W.heap.size W w2) := HK1.out.trans hK2
  clear hS2 hK2 HS1 HK1
  go_wp2_with fail
  refine (l1Draw_any a n cap Z _ (0 + 6) _ HS2.out hcap (by omega)).mono ?_
  rintro e w3 ⟨x2, x3, rfl, hS3, hK3⟩
  have HS3 : Hid (Src a n cap Z W.heap.size (0 + 6 + 6) w3) := hS3
  have HK3 : Hid (Keeps W.heap.size W w3) := HK2.out.trans hK3
  clear hS3 hK3 HS2 HK2
  go_wp2_with fail
  refine (l1Draw_any a n cap Z _ (0 + 6 + 6) _ HS3.out hcap (by omega)).mono ?_
  rintro e w4 ⟨y0, y1, rfl, hS4, hK4⟩
  have HS4 : Hid (Src a n cap Z W.heap.size (0 + 6 + 6 + 6) w4) := hS4
  have HK4 : Hid (Keeps W.heap.size W w4) := HK3.out.trans hK4
  clear hS4 hK4 HS3 HK3
  go_wp2_with fail
  refine (l1Draw_any a n cap Z _ (0 + 6 + 6 + 6) _ HS4.out hcap (by omega)).mono ?_
  rintro e w5 ⟨y2, y3, rfl, hS5, hK5⟩
  have HK5 : Hid (Keeps W.heap.size W w5) := HK4.out.trans hK5
  clear hS5 hK5 HS4 HK4
  have hT0 := (HT.out 0 (by omega)).keeps HK5.out (by have := HZ.out; omega)
  have hT1 := (HT.out 1 (by omega)).keeps HK5.out (by have := HZ.out; omega)
  simp only [Nat.add_zero] at hT0
  have c00 := hT0.cell 0 (by omega)
  have c01 := hT0.cell 1 (by omega)
  have c02 := hT0.cell 2 (by omega)
  have c03 := hT0.cell 3 (by omega)
  have c10 := hT1.cell 0 (by omega)
  have c11 := hT1.cell 1 (by omega)
  have c12 := hT1.cell 2 (by omega)
  have c13 := hT1.cell 3 (by omega)
  have f00 := (hT0 0 (by omega)).2
  have f01 := (hT0 1 (by omega)).2
  have f02 := (hT0 2 (by omega)).2
  have f03 := (hT0 3 (by omega)).2
  have f10 := (hT1 0 (by omega)).2
  have f11 := (hT1 1 (by omega)).2
  have f12 := (hT1 2 (by omega)).2
  have f13 := (hT1 3 (by omega)).2
  have P8 := (show Hid _ from set4_at (r := w.heap.size) (a := .int .i64 x0) (b := .int .i64 x1) (c := .int .i64 x2) (d := .int .i64 x3) hT0)
  have Q8 := (show Hid _ from set4_at (r := w.heap.size + 1) (a := .int .i64 y0) (b := .int .i64 y1) (c := .int .i64 y2) (d := .int .i64 y3) ((((hT1.other (r' := w.heap.size) (o := 0) (v := .int .i64 x0) (by omega)).other (r' := w.heap.size) (o := 1) (v := .int .i64 x1) (by omega)).other (r' := w.heap.size) (o := 2) (v := .int .i64 x2) (by omega)).other (r' := w.heap.size) (o := 3) (v := .int .i64 x3) (by omega)))
  clear hT0 hT1
  go_wp2
  obtain ⟨p0, p1, p2, p3⟩ := P8.out
  obtain ⟨q0, q1, q2, q3⟩ := Q8.out
  clear c00 c01 c02 c03 c10 c11 c12 c13 f00 f01 f02 f03 f10 f11 f12 f13
  have o0 := fun o => set4_other (W := (((w5.setCell ⟨w.heap.size, 0, none⟩ (.int .i64 x0)).setCell ⟨w.heap.size, 1, none⟩ (.int .i64 x1)).setCell ⟨w.heap.size, 2, none⟩ (.int .i64 x2)).setCell ⟨w.heap.size, 3, none⟩ (.int .i64 x3)) (r := w.heap.size) (r' := w.heap.size + 1) (o := o) (a := .int .i64 y0) (b := .int .i64 y1) (c := .int .i64 y2) (d := .int .i64 y3) (by omega)
  refine bodyPost_ret (v := .tuple #[.agg #[.int .i64 x0, .int .i64 x1, .int .i64 x2, .int .i64 x3], .agg #[.int .i64 y0, .int .i64 y1, .int .i64 y2, .int .i64 y3]]) (by simp [results, Try.results24, go_sem, o0, p0, p1, p2, p3, q0, q1, q2, q3]) rfl ⟨x0, x1, x2, x3, y0, y1, y2, y3, rfl, ?_⟩
  have HB5 : Below w.heap.size w w5 := HB0.out.trans (HK5.out.below (by have := HZ.out; omega) (by have := HZ.out; omega))
  exact (((((((HB5.setCell (Nat.le_refl _) _).setCell (Nat.le_refl _) _).setCell (Nat.le_refl _) _).setCell (Nat.le_refl _) _).setCell (Nat.le_succ _) _).setCell (Nat.le_succ _) _).setCell (Nat.le_succ _) _).setCell (Nat.le_succ _) _
end Go.Proofs.Ytlkjdbigpjpgeaa
