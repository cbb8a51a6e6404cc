/- Drawn arguments of SnapPoint and SnapAll: whatever they are, nothing that was there is written. -/
import Derived.Test.YtdmlgfifiicmpaaRing
import Derived.Deep.DeepMust
namespace Go.Proofs.Ytdmlgfifiicmpaa
open Go.RowKit
set_option linter.unusedSimpArgs false
set_option linter.unusedVariables false

set_option maxHeartbeats 1000000 in
theorem l1Pick_new10 (a : Option Addr) (n cap : Nat) (Z : Nat → Int) (s t : Nat) (x0 x1 x2 x3 x4 x5 x6 x7 x8 x9 : Int) (w : World) (T : TypeId) (h : Src a n cap Z s t w) (hcap : n ≤ cap) (ht : t ≤ 900) :
    Calls Try.prog 55 #[.pointer (some ⟨s, 0, none⟩), .slice (some ⟨w.heap.size, 0, none⟩) 10 10] (w.alloc (.cells #[.int .i64 x0, .int .i64 x1, .int .i64 x2, .int .i64 x3, .int .i64 x4, .int .i64 x5, .int .i64 x6, .int .i64 x7, .int .i64 x8, .int .i64 x9] T)) fun e w' => ∃ x : Int, e = .returned (.int .i64 x) ∧ Src a n cap Z s (t + 1) w' ∧ Keeps s w w' := by
  have hsl : s < w.heap.size := World.block_lt_of_cell? _ _ h.code
  have hb : Below w.heap.size w (w.alloc (.cells #[.int .i64 x0, .int .i64 x1, .int .i64 x2, .int .i64 x3, .int .i64 x4, .int .i64 x5, .int .i64 x6, .int .i64 x7, .int .i64 x8, .int .i64 x9] T)) := by (repeat (first | exact Below.refl _ _ | assumption | refine Below.drew ?_ | refine bl_alloc ?_ _ | refine bl_then ?_ (by assumption) | refine Below.setCell ?_ (by first | omega | (simp; done) | (simp; omega)) _ | refine bl_store ?_ ?_ _ _))
  refine (l1Pick_any a n cap Z s t w.heap.size 10 (fun i => if i = 0 then x0 else if i = 1 then x1 else if i = 2 then x2 else if i = 3 then x3 else if i = 4 then x4 else if i = 5 then x5 else if i = 6 then x6 else if i = 7 then x7 else if i = 8 then x8 else x9) _ (h.below hb) hcap ht (by omega) (by omega) (by omega) (fun i hi => ?_)).mono ?_
  · have hc : i = 0 ∨ i = 1 ∨ i = 2 ∨ i = 3 ∨ i = 4 ∨ i = 5 ∨ i = 6 ∨ i = 7 ∨ i = 8 ∨ i = 9 := by omega
    rcases hc with rfl | rfl | rfl | rfl | rfl | rfl | rfl | rfl | rfl | rfl <;> simp [go_sem]
  · rintro e w' ⟨x, rfl, hS, hK⟩
    exact ⟨x, rfl, hS, (Keeps.of_below hb).trans hK⟩

theorem l3Draw_any (a : Option Addr) (n cap : Nat) (Z : Nat → Int) (s t : Nat) (w : World) (h : Src a n cap Z s t w) (hcap : n ≤ cap) (ht : t ≤ 900) :
    Calls Try.prog 41 #[.pointer (some ⟨s, 0, none⟩)] w fun e w' => ∃ x : Int, e = .returned (.int .i64 x) ∧ Src a n cap Z s (t + 1) w' ∧ Keeps s w w' := by
  have HS : Hid (Src a n cap Z s t w) := h
  clear h
  go_enter Try.func41, Try.ntmps41
  go_wp2_with fail
  refine (l1Pick_new10 a n cap Z s t _ _ _ _ _ _ _ _ _ _ _ _ HS.out hcap ht).mono ?_
  rintro e w1 ⟨x, rfl, hS1, hK1⟩
  have HS1 : Hid (Src a n cap Z s (t + 1) w1) := hS1
  have HK1 : Hid (Keeps s w w1) := hK1
  clear hS1 hK1
  go_wp2
  go_ret
  exact ⟨_, rfl, HS1.out, HK1.out⟩

set_option maxHeartbeats 1000000 in
theorem DrawSnapPoint_any (a : Option Addr) (n cap : Nat) (Z : Nat → Int) (w : World) (h : IsBytes w a n Z) (hrng : ∀ i, 0 ≤ Z i ∧ Z i ≤ 255) (hn : n ≤ 1048576) (hcap : n ≤ cap) :
    Calls Try.prog 10 #[.slice a n cap] w fun e w' => ∃ x y z : Int, e = .returned (.tuple #[.agg #[.int .i64 x, .int .i64 y], .int .i64 z]) ∧ Below w.heap.size w w' := by
  have HI : Hid (IsBytes w a n Z) := h
  have HR : Hid (∀ i, 0 ≤ Z i ∧ Z i ≤ 255) := hrng
  clear h hrng
  go_enter Try.func10, Try.ntmps10
  go_wp2_with fail
  generalize hW : (w.alloc _ : World) = W
  have hB0 : Below w.heap.size w W := by subst hW; (repeat (first | exact Below.refl _ _ | assumption | refine Below.drew ?_ | refine bl_alloc ?_ _ | refine bl_then ?_ (by assumption) | refine Below.setCell ?_ (by first | omega | (simp; done) | (simp; omega)) _ | refine bl_store ?_ ?_ _ _))
  have hsz : W.heap.size = w.heap.size + 1 := by subst hW; simp
  have hT : There W w.heap.size 2 := fun o ho => by
    subst hW
    have hc : o = 0 ∨ o = 1 := by omega
    rcases hc with rfl | rfl <;> exact ⟨⟨_, by simp [go_sem]; rfl⟩, by simp [go_sem]⟩
  clear hW
  have HT : Hid (There W w.heap.size 2) := hT
  have HB0 : Hid (Below w.heap.size w W) := hB0
  have HZ : Hid (W.heap.size = w.heap.size + 1) := hsz
  have HI1 : Hid (IsBytes W a n Z) := HI.out.below hB0
  clear hB0 hsz HI hT
  refine (l1Source_ex _ _ _ _).mono ?_
  rintro e w1 ⟨rfl, hw1⟩
  have hS1 : Src a n cap Z W.heap.size 0 w1 := by rw [← hw1]; exact src_start a n cap Z W HI1.out HR.out hn
  have hb1 : Below W.heap.size W w1 := by rw [← hw1]; unfold srcW; (repeat (first | exact Below.refl _ _ | assumption | refine Below.drew ?_ | refine bl_alloc ?_ _ | refine bl_then ?_ (by assumption) | refine Below.setCell ?_ (by first | omega | (simp; done) | (simp; omega)) _ | refine bl_store ?_ ?_ _ _))
  have HS1 : Hid (Src a n cap Z W.heap.size 0 w1) := hS1
  have HK1 : Hid (Keeps W.heap.size W w1) := Keeps.of_below hb1
  clear hw1 hS1 hb1 HI1
  go_wp2_with fail
  refine (l1Bent_any a n cap Z _ 0 _ HS1.out hcap (by omega)).mono ?_
  rintro e w2 ⟨x0, y0, t2, rfl, ht2, hS2, hK2⟩
  have HS2 : Hid (Src a n cap Z W.heap.size t2 w2) := hS2
  have HK2 : Hid (Keeps W.heap.size W w2) := HK1.out.trans hK2
  clear hS2 hK2 HS1 HK1
  go_wp2_with fail
  refine (l3Draw_any a n cap Z _ t2 _ HS2.out hcap (by omega)).mono ?_
  rintro e w3 ⟨z, rfl, hS3, hK3⟩
  have HK3 : Hid (Keeps W.heap.size W w3) := HK2.out.trans hK3
  clear hS3 hK3 HS2 HK2
  have hT3 := HT.out.keeps HK3.out (by have := HZ.out; omega)
  have t0 := hT3.cell 0 (by omega)
  have t1 := hT3.cell 1 (by omega)
  have f0 := (hT3 0 (by omega)).2
  have f1 := (hT3 1 (by omega)).2
  clear hT3
  go_wp2
  refine bodyPost_ret (v := .tuple #[.agg #[.int .i64 x0, .int .i64 y0], .int .i64 z]) (by simp [results, Try.results10, go_sem, set2_0 (Option.isSome_iff_exists.2 ⟨_, t0⟩), set2_1 (Option.isSome_iff_exists.2 ⟨_, t1⟩)]) rfl ⟨x0, y0, z, rfl, ?_⟩
  exact ((HB0.out.trans (HK3.out.below (by have := HZ.out; omega) (by have := HZ.out; omega))).setCell (Nat.le_refl _) _).setCell (Nat.le_refl _) _

set_option maxHeartbeats 4000000 in
theorem DrawSnapAll_any (a : Option Addr) (n cap : Nat) (Z : Nat → Int) (w : World) (h : IsBytes w a n Z) (hrng : ∀ i, 0 ≤ Z i ∧ Z i ≤ 255) (hn : n ≤ 1048576) (hcap : n ≤ cap) :
    Calls Try.prog 15 #[.slice a n cap] w fun e w' => ∃ (v : Value) (z : Int), e = .returned (.tuple #[v, .int .i64 z]) ∧ Ring w w' v ∧ Below w.heap.size w w' := by
  have HI : Hid (IsBytes w a n Z) := h
  have HR : Hid (∀ i, 0 ≤ Z i ∧ Z i ≤ 255) := hrng
  obtain ⟨i0, hi, hz0, hz1, hz2⟩ := info_parts info_ipm
  clear h hrng
  go_enter Try.func15, Try.ntmps15
  go_wp2_with fail
  refine (l1Source_ex _ _ _ _).mono ?_
  rintro e w1 ⟨rfl, hw1⟩
  have hS1 : Src a n cap Z w.heap.size 0 w1 := by rw [← hw1]; exact src_start a n cap Z w HI.out HR.out hn
  have hb1 : Below w.heap.size w w1 := by rw [← hw1]; unfold srcW; (repeat (first | exact Below.refl _ _ | assumption | refine Below.drew ?_ | refine bl_alloc ?_ _ | refine bl_then ?_ (by assumption) | refine Below.setCell ?_ (by first | omega | (simp; done) | (simp; omega)) _ | refine bl_store ?_ ?_ _ _))
  have HS1 : Hid (Src a n cap Z w.heap.size 0 w1) := hS1
  have HK1 : Hid (Keeps w.heap.size w w1) := Keeps.of_below hb1
  have hl1 : w.heap.size < w1.heap.size := World.block_lt_of_cell? _ _ hS1.code
  clear hw1 hS1 hb1
  go_wp2_with fail
  refine (l1Many_any a n cap Z _ 0 9 _ HS1.out hcap (by omega) (by omega) (by omega)).mono ?_
  rintro e w3 ⟨v, k, t3, xs, rfl, hk, ht3, hO3, hE, hN, hS3, hK3⟩
  have HS3 : Hid (Src a n cap Z w.heap.size t3 w3) := hS3
  have HK3 : Hid (Keeps w.heap.size w w3) := HK1.out.trans hK3
  have HO3 : Hid (w3.ownsRow w1.heap.size 25 2 v k xs) := hO3
  have HE : Hid (v ≠ .slice none 0 0) := hE
  have HN : Hid (Nums xs) := hN
  have hl3 : w1.heap.size ≤ w3.heap.size := hK3.size
  clear hS3 hK3 HS1 HK1 hO3 hE hN
  go_wp2_with fail
  refine (l1Next_any a n cap Z _ t3 10 _ HS3.out hcap (by omega) (by omega) (by omega)).mono ?_
  rintro e w4 ⟨c, rfl, hc, hS4, hK4⟩
  have HS4 : Hid (Src a n cap Z w.heap.size (t3 + 1) w4) := hS4
  have HK4 : Hid (Keeps w.heap.size w w4) := HK3.out.trans hK4
  have HO4 : Hid (w4.ownsRow w1.heap.size 25 2 v k xs) := ownsRow_keeps HO3.out hK4 (by omega)
  have hl4 : w1.heap.size ≤ w4.heap.size := Nat.le_trans hl3 hK4.size
  clear hS4 hK4 HS3 HK3 HO3
  have fin : ∀ (w9 w5 : World) (v' : Value) (k' : Nat) (ys : List Value), Keeps w.heap.size w w5 → w5.ownsRow w1.heap.size 25 2 v' k' ys → Nums ys → v' ≠ .slice none 0 0 → k' ≤ 41 → Keeps w.heap.size w5 w9 → Ring w w9 v' ∧ Below w.heap.size w w9 := fun w9 w5 v' k' ys h1 h2 h3 h4 h5 h6 => by
    have ho := ownsRow_keeps h2 h6 hl1
    obtain ⟨b, cp, X, Y, hv, e1, e2, e3, e4⟩ := ring_of ho h3 h4
    exact ⟨⟨b, k', cp, X, Y, hv, by omega, e2, h5, e3, e4⟩, (h1.trans h6).below (Nat.le_refl _) (Nat.le_refl _)⟩
  have Hfin := (show Hid _ from fin)
  clear fin
  by_cases hc0 : c = 0
  · have hci : ((c : Int) == 0) = true := by simp; omega
    clear hc hc0
    go_wp2_with fail
    refine (l1Bent_any a n cap Z _ (t3 + 1) _ HS4.out hcap (by omega)).mono ?_
    rintro e w5 ⟨x, y, t5, rfl, ht5, hS5, hK5⟩
    have HK5 : Hid (Keeps w.heap.size w w5) := HK4.out.trans hK5
    have HO5 : Hid (w5.ownsRow w1.heap.size 25 2 v k xs) := ownsRow_keeps HO4.out hK5 (by omega)
    have HS5 : Hid (Src a n cap Z w.heap.size t5 w5) := hS5
    have hl5 : w1.heap.size ≤ w5.heap.size := Nat.le_trans hl4 hK5.size
    clear hS5 hK5 HS4 HK4 HO4
    go_wp2_with (first
      | (at_builtin; go_must (refine wpList_append_own _ rfl _ _ 34 rfl w1.heap.size 25 i0 (.agg #[.int .i64 0, .int .i64 0]) 2 16 Try.underlying34 hi hz0 hz1 hz2 rfl (by decide) _ k xs rfl (HO5.out.alloc _) ⟨w5.heap.size, 0, none⟩ 1 1 [.int .i64 x, .int .i64 y] rfl rfl ?c1 ?c2 ?c3 ?c4 ?c5 ?_)))
    case c1 =>
      intro q u hq
      match q, hq with
      | 0, hq => simp at hq; subst hq; simp [Addr.add, go_sem]
      | 1, hq => simp at hq; subst hq; simp [Addr.add, go_sem]
      | q + 2, hq => simp at hq
    case c2 => intro u hu; simp at hu; rcases hu with rfl | rfl <;> rfl
    case c3 => unfold maxLen; omega
    case c4 => omega
    case c5 => simp; omega
    intro v' w6 hown' hgrow hnil
    have HE6 : Hid (v' ≠ .slice none 0 0) := hnil
    have hBg : Below w1.heap.size (w5.alloc (.cells #[.int .i64 x, .int .i64 y] 25)) w6 := (Below.refl _ _).grown hgrow (by simp; omega) (fun k hk => (HO5.out.lt k hk).1)
    have hBa : Below w1.heap.size w5 (w5.alloc (.cells #[.int .i64 x, .int .i64 y] 25)) := (Below.refl _ _).alloc hl5 _
    have hB6 : Below w1.heap.size w5 w6 := hBa.trans hBg
    have HO6 : Hid (w6.ownsRow w1.heap.size 25 2 v' (k + 1) (xs ++ [.int .i64 x, .int .i64 y])) := hown'
    have HK6 : Hid (Keeps w.heap.size w w6) := HK5.out.thenB (hB6.mono (by omega))
    have HS6 : Hid (Src a n cap Z w.heap.size t5 w6) := HS5.out.belowB hB6 hl1
    clear hown' hgrow hBg hBa hnil hB6 HS5 HK5
    go_wp2_with fail
    refine (l3Draw_any a n cap Z _ t5 _ HS6.out hcap (by omega)).mono ?_
    rintro e w9 ⟨z, rfl, hS9, hK9⟩
    obtain ⟨r1, r2⟩ := Hfin.out w9 w6 v' (k + 1) _ HK6.out HO6.out (HN.out.add x y) HE6.out (by omega) hK9
    have R1 : Hid (Ring w w9 v') := r1
    have R2 : Hid (Below w.heap.size w w9) := r2
    clear r1 r2 hS9 hK9
    go_wp2
    refine bodyPost_ret (v := .tuple #[v', .int .i64 z]) (by simp [results, Try.results15, go_sem]) rfl ⟨v', z, rfl, R1.out, R2.out⟩
  have hci : ((c : Int) == 0) = false := by simp; omega
  by_cases hc1 : c = 1
  · have hcj : ((c : Int) == 1) = true := by simp; omega
    clear hc hc0 hc1
    obtain ⟨mk, hmk, hmw⟩ : ∃ f : World → World, (∀ w : World, (Instr.makeSlice 34 (.int .i64 13) (.int .i64 13)).run Try.prog w = .ok (.slice (some ⟨w.heap.size, 0, none⟩) 13 13) (f w)) ∧ ∀ w : World, f w = w.alloc (.cells (Array.replicate 26 (.int .i64 0)) 25) :=
      ⟨fun w => w.alloc (.cells (Array.replicate 26 (.int .i64 0)) 25), fun _ => by kernel_rfl, fun _ => rfl⟩
    have hB6 : Below w4.heap.size w4 (mk w4) := by rw [hmw]; exact (Below.refl _ _).alloc (Nat.le_refl _) _
    have HO6 : Hid ((mk w4).ownsRow w1.heap.size 25 2 (.slice (some ⟨w4.heap.size, 0, none⟩) 13 13) 13 (List.replicate 26 (.int .i64 0))) := by
      show World.ownsRow _ _ _ _ _ _ _
      rw [hmw]
      exact World.ownsRow_lit w4 (Array.replicate 26 (.int .i64 0)) 13 hl4 (by decide) (by simp)
    have HK6 : Hid (Keeps w.heap.size w (mk w4)) := HK4.out.trans (Keeps.of_below hB6)
    have HS6 : Hid (Src a n cap Z w.heap.size (t3 + 1) (mk w4)) := HS4.out.below hB6
    clear hB6 hmw HS4 HK4 HO4
    go_wp2_with fail
    refine (l3Draw_any a n cap Z _ (t3 + 1) _ HS6.out hcap (by omega)).mono ?_
    rintro e w9 ⟨z, rfl, hS9, hK9⟩
    obtain ⟨r1, r2⟩ := Hfin.out w9 (mk w4) _ 13 _ HK6.out HO6.out (nums_rep _) (fun h => by cases h) (by omega) hK9
    have R1 : Hid (Ring w w9 (.slice (some ⟨w4.heap.size, 0, none⟩) 13 13)) := r1
    have R2 : Hid (Below w.heap.size w w9) := r2
    clear r1 r2 hS9 hK9
    go_wp2
    refine bodyPost_ret (v := .tuple #[.slice (some ⟨w4.heap.size, 0, none⟩) 13 13, .int .i64 z]) (by simp [results, Try.results15, go_sem]) rfl ⟨_, z, rfl, R1.out, R2.out⟩
  have hcj : ((c : Int) == 1) = false := by simp; omega
  clear hc hc0 hc1
  go_wp2_with fail
  refine (l3Draw_any a n cap Z _ (t3 + 1) _ HS4.out hcap (by omega)).mono ?_
  rintro e w9 ⟨z, rfl, hS9, hK9⟩
  obtain ⟨r1, r2⟩ := Hfin.out w9 w4 v k _ HK4.out HO4.out HN.out HE.out (by omega) hK9
  have R1 : Hid (Ring w w9 v) := r1
  have R2 : Hid (Below w.heap.size w w9) := r2
  clear r1 r2 hS9 hK9
  go_wp2
  refine bodyPost_ret (v := .tuple #[v, .int .i64 z]) (by simp [results, Try.results15, go_sem]) rfl ⟨v, z, rfl, R1.out, R2.out⟩
end Go.Proofs.Ytdmlgfifiicmpaa
