/- Drawn arguments of IsNear: whatever they are, nothing that was there is written. -/
import Derived.Test.YtlkjdbigpjpgeaaDraw4
namespace Go.Proofs.Ytlkjdbigpjpgeaa
open Go.RowKit
set_option linter.unusedSimpArgs false
set_option linter.unusedVariables false

set_option maxHeartbeats 1000000 in
theorem DrawIsNear_any (a : Option Addr) (n cap : Nat) (Z : Nat → Int) (w : World) (h : IsBytes w a n Z) (hrng : ∀ i, 0 ≤ Z i ∧ Z i ≤ 255) (hn : n ≤ 1048576) (hcap : n ≤ cap) :
    Calls Try.prog 15 #[.slice a n cap] w fun e w' => ∃ x0 y0 x1 y1 x2 y2 rr : Int, e = .returned (.tuple #[.agg #[.int .i64 x0, .int .i64 y0], .agg #[.int .i64 x1, .int .i64 y1], .agg #[.int .i64 x2, .int .i64 y2], .int .i64 rr]) ∧ Below w.heap.size w w' := by
  have HI : Hid (IsBytes w a n Z) := h
  have HR : Hid (∀ i, 0 ≤ Z i ∧ Z i ≤ 255) := hrng
  clear h hrng
  go_enter Try.func15, Try.ntmps15
  go_wp2_with fail
  generalize hW : (((w.alloc _).alloc _).alloc _ : World) = W
  have hB0 : Below w.heap.size w W := by subst hW; (repeat (first | exact Below.refl _ _ | assumption | refine Below.drew ?_ | refine bl_alloc ?_ _ | refine bl_then ?_ (by assumption) | refine Below.setCell ?_ (by first | omega | (simp; done) | (simp; omega)) _ | refine bl_store ?_ ?_ _ _))
  have hsz : W.heap.size = w.heap.size + 3 := by subst hW; simp
  have hT : ∀ k, k < 3 → There W (w.heap.size + k) 2 := fun k hk o ho => by
    subst hW
    have hk' : k = 0 ∨ k = 1 ∨ k = 2 := by omega
    have hc : o = 0 ∨ o = 1 := by omega
    rcases hk' with rfl | rfl | rfl <;> rcases hc with rfl | rfl <;> exact ⟨⟨_, by simp [go_sem]; rfl⟩, by simp [go_sem]⟩
  clear hW
  have HT : Hid (∀ k, k < 3 → There W (w.heap.size + k) 2) := hT
  have HB0 : Hid (Below w.heap.size w W) := hB0
  have HZ : Hid (W.heap.size = w.heap.size + 3) := hsz
  have HI1 : Hid (IsBytes W a n Z) := HI.out.below hB0
  clear hB0 hsz HI hT
  refine (l1Source_ex _ _ _ _).mono ?_
  rintro e w1 ⟨rfl, hw1⟩
  have hS1 : Src a n cap Z W.heap.size 0 w1 := by rw [← hw1]; exact src_start a n cap Z W HI1.out HR.out hn
  have hb1 : Below W.heap.size W w1 := by rw [← hw1]; unfold srcW; (repeat (first | exact Below.refl _ _ | assumption | refine Below.drew ?_ | refine bl_alloc ?_ _ | refine bl_then ?_ (by assumption) | refine Below.setCell ?_ (by first | omega | (simp; done) | (simp; omega)) _ | refine bl_store ?_ ?_ _ _))
  have HS1 : Hid (Src a n cap Z W.heap.size 0 w1) := hS1
  have HK1 : Hid (Keeps W.heap.size W w1) := Keeps.of_below hb1
  clear hw1 hS1 hb1
  go_wp2_with fail
  refine (l1Bent_any a n cap Z _ 0 _ HS1.out hcap (by omega)).mono ?_
  rintro e w2 ⟨x0, y0, t2, rfl, ht2, hS2, hK2⟩
  have HS2 : Hid (Src a n cap Z W.heap.size t2 w2) := hS2
  have HK2 : Hid (Keeps W.heap.size W w2) := HK1.out.trans hK2
  clear hS2 hK2 HS1 HK1
  go_wp2_with fail
  refine (l1Bent_any a n cap Z _ t2 _ HS2.out hcap (by omega)).mono ?_
  rintro e w3 ⟨x1, y1, t3, rfl, ht3, hS3, hK3⟩
  have HS3 : Hid (Src a n cap Z W.heap.size t3 w3) := hS3
  have HK3 : Hid (Keeps W.heap.size W w3) := HK2.out.trans hK3
  clear hS3 hK3 HS2 HK2
  go_wp2_with fail
  refine (l1Bent_any a n cap Z _ t3 _ HS3.out hcap (by omega)).mono ?_
  rintro e w4 ⟨x2, y2, t4, rfl, ht4, hS4, hK4⟩
  have HS4 : Hid (Src a n cap Z W.heap.size t4 w4) := hS4
  have HK4 : Hid (Keeps W.heap.size W w4) := HK3.out.trans hK4
  clear hS4 hK4 HS3 HK3
  go_wp2_with fail
  refine (l1Next_any a n cap Z _ t4 300 _ HS4.out hcap (by omega) (by omega) (by omega)).mono ?_
  rintro e w5 ⟨v5, rfl, hv5, hS5, hK5⟩
  have HS5 : Hid (Src a n cap Z W.heap.size (t4 + 1) w5) := hS5
  have HK5 : Hid (Keeps W.heap.size W w5) := HK4.out.trans hK5
  clear hS5 hK5 HS4 HK4
  go_wp2_with fail
  refine (l1Next_any a n cap Z _ (t4 + 1) 900 _ HS5.out hcap (by omega) (by omega) (by omega)).mono ?_
  rintro e w6 ⟨v6, rfl, hv6, hS6, hK6⟩
  have HS6 : Hid (Src a n cap Z W.heap.size (t4 + 2) w6) := hS6
  have HK6 : Hid (Keeps W.heap.size W w6) := HK5.out.trans hK6
  clear hS6 hK6 HS5 HK5
  go_wp2_with fail
  refine (l1Pick_new6 a n cap Z _ (t4 + 2) _ _ _ _ _ _ _ _ HS6.out hcap (by omega)).mono ?_
  rintro e w7 ⟨rr, rfl, hS7, hK7⟩
  have HK7 : Hid (Keeps W.heap.size W w7) := HK6.out.trans hK7
  clear hS7 hK7 HS6 HK6
  have hT0 := (HT.out 0 (by omega)).keeps HK7.out (by have := HZ.out; omega)
  have hT1 := (HT.out 1 (by omega)).keeps HK7.out (by have := HZ.out; omega)
  have hT2 := (HT.out 2 (by omega)).keeps HK7.out (by have := HZ.out; omega)
  have c00 := hT0.cell 0 (by omega)
  have c01 := hT0.cell 1 (by omega)
  have c10 := hT1.cell 0 (by omega)
  have c11 := hT1.cell 1 (by omega)
  have c20 := hT2.cell 0 (by omega)
  have c21 := hT2.cell 1 (by omega)
  have f00 := (hT0 0 (by omega)).2
  have f01 := (hT0 1 (by omega)).2
  have f10 := (hT1 0 (by omega)).2
  have f11 := (hT1 1 (by omega)).2
  have f20 := (hT2 0 (by omega)).2
  have f21 := (hT2 1 (by omega)).2
  have Q6 := (show Hid _ from set6_at (r := w.heap.size) (a := .int .i64 x0) (b := .int .i64 y0) (c := .int .i64 x1) (d := .int .i64 y1) (e := .int .i64 x2) (f := .int .i64 y2) hT0 hT1 hT2)
  clear hT0 hT1 hT2
  simp only [Nat.add_zero] at c00 c01 f00 f01
  rw [show w.heap.size + 2 = w.heap.size + 1 + 1 from rfl] at c20 c21 f20 f21
  go_wp2
  obtain ⟨q0, q1, q2, q3, q4, q5⟩ := Q6.out
  clear c00 c01 c10 c11 c20 c21 f00 f01 f10 f11 f20 f21
  refine bodyPost_ret (v := .tuple #[.agg #[.int .i64 x0, .int .i64 y0], .agg #[.int .i64 x1, .int .i64 y1], .agg #[.int .i64 x2, .int .i64 y2], .int .i64 rr]) (by simp [results, Try.results15, go_sem, q0, q1, q2, q3, q4, q5]) rfl ⟨x0, y0, x1, y1, x2, y2, rr, rfl, ?_⟩
  have HB4 : Below w.heap.size w w7 := HB0.out.trans (HK7.out.below (by have := HZ.out; omega) (by have := HZ.out; omega))
  exact (((((HB4.setCell (Nat.le_refl _) _).setCell (Nat.le_refl _) _).setCell (Nat.le_succ _) _).setCell (Nat.le_succ _) _).setCell (by show w.heap.size ≤ w.heap.size + 1 + 1; omega) _).setCell (by show w.heap.size ≤ w.heap.size + 1 + 1; omega) _
end Go.Proofs.Ytlkjdbigpjpgeaa
