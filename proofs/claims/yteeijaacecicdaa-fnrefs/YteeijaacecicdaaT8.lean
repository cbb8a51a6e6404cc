/- Drawn refs and pixels: whatever they are, nothing that was there is written. -/
import Derived.Test.YteeijaacecicdaaT4
import Derived.Test.YteeijaacecicdaaLwBig
import Derived.Deep.DeepMust
import Derived.Deep.DeepCutAuto
namespace Go.Proofs.Yteeijaacecicdaa
open Go.RowKit
set_option linter.unusedSimpArgs false
set_option linter.unusedVariables false
set_option maxRecDepth 100000

theorem set3_atr {W : World} {r : Nat} {a b c : Value} (hT : There W r 3) :
    (((W.setCell ⟨r, 0, none⟩ a).setCell ⟨r, 1, none⟩ b).setCell ⟨r, 2, none⟩ c).cell? ⟨r, 0, none⟩ = some a ∧
    (((W.setCell ⟨r, 0, none⟩ a).setCell ⟨r, 1, none⟩ b).setCell ⟨r, 2, none⟩ c).cell? ⟨r, 1, none⟩ = some b ∧
    (((W.setCell ⟨r, 0, none⟩ a).setCell ⟨r, 1, none⟩ b).setCell ⟨r, 2, none⟩ c).cell? ⟨r, 2, none⟩ = some c := by
  obtain ⟨x0, h0⟩ := (hT 0 (by omega)).1
  obtain ⟨x1, h1⟩ := (hT 1 (by omega)).1
  obtain ⟨x2, h2⟩ := (hT 2 (by omega)).1
  have ne : ∀ i j : Nat, i ≠ j → (⟨r, i, none⟩ : Addr) ≠ ⟨r, j, none⟩ := fun i j hij h => hij (by injection h)
  refine ⟨?_, ?_, ?_⟩
  · rw [set1_other (ne 2 0 (by omega)), set1_other (ne 1 0 (by omega))]; exact set1_same h0
  · rw [set1_other (ne 2 1 (by omega))]; exact set1_same (by rw [set1_other (ne 0 1 (by omega))]; exact h1)
  · exact set1_same (by rw [set1_other (ne 1 2 (by omega)), set1_other (ne 0 2 (by omega))]; exact h2)
set_option maxHeartbeats 1000000 in
theorem pick2r (a : Option Addr) (n cap : Nat) (Z : Nat → Int) (s t : Nat) (x0 x1 : Int) (w : World) (T : TypeId) (h : Src a n cap Z s t w) (hcap : n ≤ cap) (ht : t ≤ 900) :
    Calls Try.prog 42 #[.pointer (some ⟨s, 0, none⟩), .slice (some ⟨w.heap.size, 0, none⟩) 2 2] (w.alloc (.cells #[.int .i64 x0, .int .i64 x1] T)) fun e w' => ∃ x : Int, e = .returned (.int .i64 x) ∧ Src a n cap Z s (t + 1) w' ∧ Keeps s w w' := by
  have hsl : s < w.heap.size := World.block_lt_of_cell? _ _ h.code
  have hb : Below w.heap.size w (w.alloc (.cells #[.int .i64 x0, .int .i64 x1] T)) := by (repeat (first | exact Below.refl _ _ | assumption | refine Below.drew ?_ | refine bl_alloc ?_ _ | refine bl_then ?_ (by assumption) | refine Below.setCell ?_ (by first | omega | (simp; done) | (simp; omega)) _ | refine bl_store ?_ ?_ _ _))
  refine (l1Pick_any a n cap Z s t w.heap.size 2 (fun i => if i = 0 then x0 else x1) _ (h.below hb) hcap ht (by omega) (by omega) (by omega) (fun i hi => ?_)).mono ?_
  · have hc : i = 0 ∨ i = 1 := by omega
    rcases hc with rfl | rfl <;> simp [go_sem]
  · rintro e w' ⟨x, rfl, hS, hK⟩
    exact ⟨x, rfl, hS, (Keeps.of_below hb).trans hK⟩
set_option maxHeartbeats 1000000 in
theorem pick3r (a : Option Addr) (n cap : Nat) (Z : Nat → Int) (s t : Nat) (x0 x1 x2 : Int) (w : World) (T : TypeId) (h : Src a n cap Z s t w) (hcap : n ≤ cap) (ht : t ≤ 900) :
    Calls Try.prog 42 #[.pointer (some ⟨s, 0, none⟩), .slice (some ⟨w.heap.size, 0, none⟩) 3 3] (w.alloc (.cells #[.int .i64 x0, .int .i64 x1, .int .i64 x2] T)) fun e w' => ∃ x : Int, e = .returned (.int .i64 x) ∧ Src a n cap Z s (t + 1) w' ∧ Keeps s w w' := by
  have hsl : s < w.heap.size := World.block_lt_of_cell? _ _ h.code
  have hb : Below w.heap.size w (w.alloc (.cells #[.int .i64 x0, .int .i64 x1, .int .i64 x2] T)) := by (repeat (first | exact Below.refl _ _ | assumption | refine Below.drew ?_ | refine bl_alloc ?_ _ | refine bl_then ?_ (by assumption) | refine Below.setCell ?_ (by first | omega | (simp; done) | (simp; omega)) _ | refine bl_store ?_ ?_ _ _))
  refine (l1Pick_any a n cap Z s t w.heap.size 3 (fun i => if i = 0 then x0 else if i = 1 then x1 else x2) _ (h.below hb) hcap ht (by omega) (by omega) (by omega) (fun i hi => ?_)).mono ?_
  · have hc : i = 0 ∨ i = 1 ∨ i = 2 := by omega
    rcases hc with rfl | rfl | rfl <;> simp [go_sem]
  · rintro e w' ⟨x, rfl, hS, hK⟩
    exact ⟨x, rfl, hS, (Keeps.of_below hb).trans hK⟩
set_option maxHeartbeats 1000000 in
theorem pick10r (a : Option Addr) (n cap : Nat) (Z : Nat → Int) (s t : Nat) (x0 x1 x2 x3 x4 x5 x6 x7 x8 x9 : Int) (w : World) (T : TypeId) (h : Src a n cap Z s t w) (hcap : n ≤ cap) (ht : t ≤ 900) :
    Calls Try.prog 42 #[.pointer (some ⟨s, 0, none⟩), .slice (some ⟨w.heap.size, 0, none⟩) 10 10] (w.alloc (.cells #[.int .i64 x0, .int .i64 x1, .int .i64 x2, .int .i64 x3, .int .i64 x4, .int .i64 x5, .int .i64 x6, .int .i64 x7, .int .i64 x8, .int .i64 x9] T)) fun e w' => ∃ x : Int, e = .returned (.int .i64 x) ∧ Src a n cap Z s (t + 1) w' ∧ Keeps s w w' := by
  have hsl : s < w.heap.size := World.block_lt_of_cell? _ _ h.code
  have hb : Below w.heap.size w (w.alloc (.cells #[.int .i64 x0, .int .i64 x1, .int .i64 x2, .int .i64 x3, .int .i64 x4, .int .i64 x5, .int .i64 x6, .int .i64 x7, .int .i64 x8, .int .i64 x9] T)) := by (repeat (first | exact Below.refl _ _ | assumption | refine Below.drew ?_ | refine bl_alloc ?_ _ | refine bl_then ?_ (by assumption) | refine Below.setCell ?_ (by first | omega | (simp; done) | (simp; omega)) _ | refine bl_store ?_ ?_ _ _))
  refine (l1Pick_any a n cap Z s t w.heap.size 10 (fun i => if i = 0 then x0 else if i = 1 then x1 else if i = 2 then x2 else if i = 3 then x3 else if i = 4 then x4 else if i = 5 then x5 else if i = 6 then x6 else if i = 7 then x7 else if i = 8 then x8 else x9) _ (h.below hb) hcap ht (by omega) (by omega) (by omega) (fun i hi => ?_)).mono ?_
  · have hc : i = 0 ∨ i = 1 ∨ i = 2 ∨ i = 3 ∨ i = 4 ∨ i = 5 ∨ i = 6 ∨ i = 7 ∨ i = 8 ∨ i = 9 := by omega
    rcases hc with rfl | rfl | rfl | rfl | rfl | rfl | rfl | rfl | rfl | rfl <;> simp [go_sem]
  · rintro e w' ⟨x, rfl, hS, hK⟩
    exact ⟨x, rfl, hS, (Keeps.of_below hb).trans hK⟩
theorem l3Draw_r (a : Option Addr) (n cap : Nat) (Z : Nat → Int) (s t : Nat) (w : World) (h : Src a n cap Z s t w) (hcap : n ≤ cap) (ht : t ≤ 900) :
    Calls Try.prog 45 #[.pointer (some ⟨s, 0, none⟩)] w fun e w' => ∃ x : Int, e = .returned (.int .i64 x) ∧ Src a n cap Z s (t + 1) w' ∧ Keeps s w w' := by
  have HS : Hid (Src a n cap Z s t w) := h
  clear h
  go_enter Try.func45, Try.ntmps45
  go_wp2_with fail
  refine (pick10r a n cap Z s t _ _ _ _ _ _ _ _ _ _ _ _ HS.out hcap ht).mono ?_
  rintro e w1 ⟨x, rfl, hS1, hK1⟩
  have HS1 : Hid (Src a n cap Z s (t + 1) w1) := hS1
  have HK1 : Hid (Keeps s w w1) := hK1
  clear hS1 hK1
  go_wp2
  go_ret
  exact ⟨_, rfl, HS1.out, HK1.out⟩


set_option maxHeartbeats 4000000 in
theorem l4DrawPixel_r (a : Option Addr) (n cap : Nat) (Z : Nat → Int) (s t : Nat) (z : Int) (w : World) (h : Src a n cap Z s t w) (hcap : n ≤ cap) (ht : t ≤ 800) :
    Calls Try.prog 46 #[.pointer (some ⟨s, 0, none⟩), .int .i64 z] w fun e w' => ∃ (x y : Int) (t' : Nat), e = .returned (.tuple #[.int .i64 x, .int .i64 y]) ∧ t' ≤ t + 3 ∧ Src a n cap Z s t' w' ∧ Keeps s w w' := by
  have HS : Hid (Src a n cap Z s t w) := h
  clear h
  cases hz : zoomB z
  · go_enter Try.func46, Try.ntmps46
    go_wp2_with fail
    refine (l3Zoom_any _ _).mono ?_
    rintro e w0 ⟨rfl, rfl⟩
    rw [hz]
    go_wp2_with fail
    refine (l1Chance_any a n cap Z s t 12 _ HS.out hcap (by omega) (by omega) (by omega)).mono ?_
    rintro e w1 ⟨c, rfl, hS1, hK1⟩
    have HS1 : Hid (Src a n cap Z s (t + 1) w1) := hS1
    have HK1 : Hid (Keeps s w w1) := hK1
    clear hS1 hK1
    cases c
    · go_wp2_with fail
      refine (l1Next_any a n cap Z s (t + 1) 8 _ HS1.out hcap (by omega) (by omega) (by omega)).mono ?_
      rintro e w2 ⟨v2, rfl, hv2, hS2, hK2⟩
      have HS2 : Hid (Src a n cap Z s (t + 1 + 1) w2) := hS2
      have HK2 : Hid (Keeps s w w2) := HK1.out.trans hK2
      clear hS2 hK2
      go_wp2_with fail
      refine (l1Next_any a n cap Z s (t + 1 + 1) 8 _ HS2.out hcap (by omega) (by omega) (by omega)).mono ?_
      rintro e w3 ⟨v3, rfl, hv3, hS3, hK3⟩
      have HS3 : Hid (Src a n cap Z s (t + 1 + 1 + 1) w3) := hS3
      have HK3 : Hid (Keeps s w w3) := HK2.out.trans hK3
      clear hS3 hK3
      go_wp2_with fail
      go_ret2
      exact ⟨_, _, t + 1 + 1 + 1, rfl, by omega, HS3.out, HK3.out⟩
    · go_wp2_with fail
      refine (pick3r a n cap Z s (t + 1) _ _ _ _ _ HS1.out hcap (by omega)).mono ?_
      rintro e w2 ⟨x, rfl, hS2, hK2⟩
      have HS2 : Hid (Src a n cap Z s (t + 1 + 1) w2) := hS2
      have HK2 : Hid (Keeps s w w2) := HK1.out.trans hK2
      clear hS2 hK2
      go_wp2_with fail
      go_ret2
      exact ⟨_, _, t + 1 + 1, rfl, by omega, HS2.out, HK2.out⟩
  · obtain ⟨b1, b2⟩ := pixI_bd hz
    obtain ⟨k, hk⟩ : ∃ k : Nat, pixI z = (k : Int) := ⟨(pixI z).toNat, by omega⟩
    have Hc : Hid (∀ w, Calls Try.prog 49 #[.int .i64 z] w fun e w' => e = .returned (.int .i64 (k : Int)) ∧ w = w') := fun w => by rw [← hk]; exact l4Count_any z w hz
    rw [hk] at b1 b2
    clear hk
    go_enter Try.func46, Try.ntmps46
    go_wp2_with fail
    refine (l3Zoom_any _ _).mono ?_
    rintro e w0 ⟨rfl, rfl⟩
    rw [hz]
    go_wp2_with fail
    refine (Hc.out _).mono ?_
    rintro e w0 ⟨rfl, rfl⟩
    go_wp2_with fail
    refine (l1Chance_any a n cap Z s t 12 _ HS.out hcap (by omega) (by omega) (by omega)).mono ?_
    rintro e w1 ⟨c, rfl, hS1, hK1⟩
    have HS1 : Hid (Src a n cap Z s (t + 1) w1) := hS1
    have HK1 : Hid (Keeps s w w1) := hK1
    clear hS1 hK1
    cases c
    · go_wp2_with fail
      refine (l1Next_any a n cap Z s (t + 1) k _ HS1.out hcap (by omega) (by omega) (by omega)).mono ?_
      rintro e w2 ⟨v2, rfl, hv2, hS2, hK2⟩
      have HS2 : Hid (Src a n cap Z s (t + 1 + 1) w2) := hS2
      have HK2 : Hid (Keeps s w w2) := HK1.out.trans hK2
      clear hS2 hK2
      go_wp2_with fail
      refine (l1Next_any a n cap Z s (t + 1 + 1) k _ HS2.out hcap (by omega) (by omega) (by omega)).mono ?_
      rintro e w3 ⟨v3, rfl, hv3, hS3, hK3⟩
      have HS3 : Hid (Src a n cap Z s (t + 1 + 1 + 1) w3) := hS3
      have HK3 : Hid (Keeps s w w3) := HK2.out.trans hK3
      clear hS3 hK3
      go_wp2_with fail
      go_ret2
      exact ⟨_, _, t + 1 + 1 + 1, rfl, by omega, HS3.out, HK3.out⟩
    · go_wp2_with fail
      refine (pick3r a n cap Z s (t + 1) _ _ _ _ _ HS1.out hcap (by omega)).mono ?_
      rintro e w2 ⟨x, rfl, hS2, hK2⟩
      have HS2 : Hid (Src a n cap Z s (t + 1 + 1) w2) := hS2
      have HK2 : Hid (Keeps s w w2) := HK1.out.trans hK2
      clear hS2 hK2
      go_wp2_with fail
      go_ret2
      exact ⟨_, _, t + 1 + 1, rfl, by omega, HS2.out, HK2.out⟩


set_option maxHeartbeats 1000000 in
theorem DrawCentreOf_r (a : Option Addr) (n cap : Nat) (Z : Nat → Int) (w : World) (h : IsBytes w a n Z) (hrng : ∀ i, 0 ≤ Z i ∧ Z i ≤ 255) (hn : n ≤ 1048576) (hcap : n ≤ cap) :
    Calls Try.prog 28 #[.slice a n cap] w fun e w' => ∃ z x y : Int, e = .returned (.tuple #[.int .i64 z, .int .i64 x, .int .i64 y]) ∧ Below w.heap.size w w' := by
  have HI : Hid (IsBytes w a n Z) := h
  have HR : Hid (∀ i, 0 ≤ Z i ∧ Z i ≤ 255) := hrng
  clear h hrng
  go_enter Try.func28, Try.ntmps28
  go_wp2_with fail
  refine (l1Source_ex _ _ _ _).mono ?_
  rintro e w1 ⟨rfl, hw1⟩
  have hS1 : Src a n cap Z w.heap.size 0 w1 := by rw [← hw1]; exact src_start a n cap Z w HI.out HR.out hn
  have hb1 : Below w.heap.size w w1 := by rw [← hw1]; unfold srcW; (repeat (first | exact Below.refl _ _ | assumption | refine Below.drew ?_ | refine bl_alloc ?_ _ | refine bl_then ?_ (by assumption) | refine Below.setCell ?_ (by first | omega | (simp; done) | (simp; omega)) _ | refine bl_store ?_ ?_ _ _))
  have HS1 : Hid (Src a n cap Z w.heap.size 0 w1) := hS1
  have HK1 : Hid (Keeps w.heap.size w w1) := Keeps.of_below hb1
  clear hw1 hS1 hb1
  go_wp2_with fail
  refine (l3Draw_r a n cap Z _ 0 _ HS1.out hcap (by omega)).mono ?_
  rintro e w2 ⟨z, rfl, hS2, hK2⟩
  have HS2 : Hid (Src a n cap Z w.heap.size (0 + 1) w2) := hS2
  have HK2 : Hid (Keeps w.heap.size w w2) := HK1.out.trans hK2
  clear hS2 hK2 HS1 HK1
  go_wp2_with fail
  refine (l4DrawPixel_r a n cap Z _ _ z _ HS2.out hcap (by omega)).mono ?_
  rintro e w3 ⟨x, y, t', rfl, ht', hS3, hK3⟩
  have HK3 : Hid (Keeps w.heap.size w w3) := HK2.out.trans hK3
  clear hS3 hK3 HS2 HK2
  go_wp2_with fail
  exact bodyPost_ret (v := .tuple #[.int .i64 z, .int .i64 x, .int .i64 y]) (by simp [results, Try.results28, go_sem]) rfl ⟨_, _, _, rfl, HK3.out.below (Nat.le_refl _) (Nat.le_refl _)⟩
theorem DrawRefAt_r (a : Option Addr) (n cap : Nat) (Z : Nat → Int) (w : World) (h : IsBytes w a n Z) (hrng : ∀ i, 0 ≤ Z i ∧ Z i ≤ 255) (hn : n ≤ 1048576) (hcap : n ≤ cap) :
    Calls Try.prog 11 #[.slice a n cap] w fun e w' => ∃ z x y : Int, e = .returned (.tuple #[.int .i64 z, .int .i64 x, .int .i64 y]) ∧ Below w.heap.size w w' := by
  have HC := (show Hid _ from DrawCentreOf_r a n cap Z w h hrng hn hcap)
  clear h hrng
  go_enter Try.func11, Try.ntmps11
  go_wp2_with fail
  refine Calls.mono HC.out ?_
  rintro e w1 ⟨z, x, y, rfl, hb⟩
  go_wp2_with fail
  exact bodyPost_ret (v := .tuple #[.int .i64 z, .int .i64 x, .int .i64 y]) (by simp [results, Try.results11, go_sem]) rfl ⟨_, _, _, rfl, hb⟩
theorem res7D (T : Array Value) (Wf : World) (r : Nat) (v0 v1 v2 : Value) (hT : T[2]?.getD undef = .pointer (some ⟨r, 0, none⟩)) (h0 : Wf.cell? ⟨r, 0, none⟩ = some v0) (h1 : Wf.cell? ⟨r, 1, none⟩ = some v1) (h2 : Wf.cell? ⟨r, 2, none⟩ = some v2) :
    (results Try.f40 T).run Try.prog Wf = .ok (.agg #[v0, v1, v2]) Wf := by
  simp [results, Try.results40, go_sem, hT, h0, h1, h2]
set_option maxHeartbeats 4000000 in
theorem l7Draw_any (a : Option Addr) (n cap : Nat) (Z : Nat → Int) (s t : Nat) (w : World) (h : Src a n cap Z s t w) (hcap : n ≤ cap) (ht : t ≤ 800) :
    Calls Try.prog 40 #[.pointer (some ⟨s, 0, none⟩)] w fun e w' => ∃ z x y : Int, e = .returned (refV z x y) ∧ Src a n cap Z s (t + 3) w' ∧ Keeps s w w' := by
  have hsl : s < w.heap.size := World.block_lt_of_cell? _ _ h.code
  have HS0 : Hid (Src a n cap Z s t w) := h
  clear h
  go_enter Try.func40, Try.ntmps40
  go_wp2_with fail
  generalize hW : (w.alloc _ : World) = W
  have hB0 : Below w.heap.size w W := by subst hW; (repeat (first | exact Below.refl _ _ | assumption | refine Below.drew ?_ | refine bl_alloc ?_ _ | refine bl_then ?_ (by assumption) | refine Below.setCell ?_ (by first | omega | (simp; done) | (simp; omega)) _ | refine bl_store ?_ ?_ _ _))
  have hlt : w.heap.size < W.heap.size := by subst hW; simp
  have HT : Hid (There W w.heap.size 3) := by
    show There _ _ _
    subst hW
    exact there3r w (.int .i64 0) (.int .i64 0) (.int .i64 0) 25
  clear hW
  have HS : Hid (Src a n cap Z s t W) := HS0.out.below hB0
  have HK : Hid (Keeps s w W) := Keeps.of_below hB0
  clear hB0 HS0
  refine (l1Next_any a n cap Z s t 4 _ HS.out hcap (by omega) (by omega) (by omega)).mono ?_
  rintro e w1 ⟨v1, rfl, hv1, hS1, hK1⟩
  have HS1 : Hid (Src a n cap Z s (t + 1) w1) := hS1
  have HT1 : Hid (There w1 w.heap.size 3) := HT.out.keeps hK1 (by omega)
  have HK1 : Hid (Keeps s w w1) := HK.out.trans hK1
  have hlt1 : w.heap.size < w1.heap.size := Nat.lt_of_lt_of_le hlt hK1.size
  clear hS1 hK1 HS HK HT hlt
  obtain ⟨m, hm, hm1, hm2⟩ : ∃ m : Nat, Hid ((v1 = 0 ∧ m = 1) ∨ (v1 = 1 ∧ m = 2) ∨ (v1 = 2 ∧ m = 4) ∨ (v1 = 3 ∧ m = 8)) ∧ 0 < m ∧ m ≤ 8 := by
    have : v1 = 0 ∨ v1 = 1 ∨ v1 = 2 ∨ v1 = 3 := by omega
    rcases this with rfl | rfl | rfl | rfl
    · exact ⟨1, .inl ⟨rfl, rfl⟩, by omega, by omega⟩
    · exact ⟨2, .inr (.inl ⟨rfl, rfl⟩), by omega, by omega⟩
    · exact ⟨4, .inr (.inr (.inl ⟨rfl, rfl⟩)), by omega, by omega⟩
    · exact ⟨8, .inr (.inr (.inr ⟨rfl, rfl⟩)), by omega, by omega⟩
  have hN := fun t w h ht => l1Next_any a n cap Z s t m w h hcap ht hm1 (by omega)
  have HN := (show Hid _ from hN)
  clear hN
  rcases hm.out with ⟨rfl, rfl⟩ | ⟨rfl, rfl⟩ | ⟨rfl, rfl⟩ | ⟨rfl, rfl⟩
  all_goals
    clear hm hm1 hm2
    go_wp2_with fail
    refine (HN.out _ _ HS1.out (by omega)).mono ?_
    rintro e w2 ⟨v2, rfl, hv2, hS2, hK2⟩
    have HS2 : Hid (Src a n cap Z s (t + 1 + 1) w2) := hS2
    have HT2 : Hid (There w2 w.heap.size 3) := HT1.out.keeps hK2 (by omega)
    have HK2 : Hid (Keeps s w w2) := HK1.out.trans hK2
    have hlt2 : w.heap.size < w2.heap.size := Nat.lt_of_lt_of_le hlt1 hK2.size
    clear hS2 hK2 HS1 HK1 HT1 hlt1
    go_wp2_with fail
    refine (HN.out _ _ HS2.out (by omega)).mono ?_
    rintro e w3 ⟨v3, rfl, hv3, hS3, hK3⟩
    have HS3 : Hid (Src a n cap Z s (t + 1 + 1 + 1) w3) := hS3
    have HT3 : Hid (There w3 w.heap.size 3) := HT2.out.keeps hK3 (by omega)
    have HK3 : Hid (Keeps s w w3) := HK2.out.trans hK3
    have hlt3 : w.heap.size < w3.heap.size := Nat.lt_of_lt_of_le hlt2 hK3.size
    clear hS3 hK3 HS2 HK2 HT2 hlt2
    have hT' := HT3.out
    have t0 := hT'.cell 0 (by omega)
    have t1 := hT'.cell 1 (by omega)
    have t2 := hT'.cell 2 (by omega)
    have f0 := (hT' 0 (by omega)).2
    have f1 := (hT' 1 (by omega)).2
    have f2 := (hT' 2 (by omega)).2
    clear hT'
    go_wp2_with fail
    refine bodyPost_ret (res7D _ _ _ _ _ _ rfl (set3_atr HT3.out).1 (set3_atr HT3.out).2.1 (set3_atr HT3.out).2.2) rfl ⟨_, _, _, rfl, ((HS3.out.other 0 _ hsl).other 1 _ hsl).other 2 _ hsl, ((HK3.out.own1 (Nat.le_refl _) 0 _).own1 (Nat.le_refl _) 1 _).own1 (Nat.le_refl _) 2 _⟩
end Go.Proofs.Yteeijaacecicdaa
