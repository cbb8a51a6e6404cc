/- Drawn numbers and bytes: whatever they are, nothing that was there is written. -/
import Derived.Test.YtdkjbfppogdokaaSrc0
import Derived.Test.YtdkjbfppogdokaaPn
namespace Go.Proofs.Ytdkjbfppogdokaa
open Go.RowKit
set_option linter.unusedSimpArgs false
set_option linter.unusedVariables false
set_option maxRecDepth 100000

/-- Bytes. -/
def Bys (l : List Int) : Prop := ∀ z ∈ l, 0 ≤ z ∧ z ≤ 255
theorem Bys.zz {l : List Int} (h : Bys l) (i : Nat) : 0 ≤ zz l i ∧ zz l i ≤ 255 := by
  unfold Go.Proofs.Ytdkjbfppogdokaa.zz
  rw [List.getD_eq_getElem?_getD]
  rcases Nat.lt_or_ge i l.length with h' | h'
  · rw [List.getElem?_eq_getElem h']; exact h _ (List.getElem_mem h')
  · rw [List.getElem?_eq_none h']; simp
theorem putI_bys (n : Nat) : Bys (putI n) := by
  induction n using Nat.strongRecOn with
  | ind n ih =>
    intro z hz
    by_cases h : n < 128
    · rw [putI_small h] at hz; simp at hz; omega
    · rw [putI_big h] at hz
      rcases List.mem_cons.1 hz with h' | h'
      · omega
      · exact ih (n / 128) (by omega) z h'
theorem Bys.append {l m : List Int} (h : Bys l) (k : Bys m) : Bys (l ++ m) := fun z hz => by
  rcases List.mem_append.1 hz with hz | hz
  · exact h z hz
  · exact k z hz
/-- A row that is not nil. -/
theorem RowB.at0 {base : Nat} {w : World} {v : Value} {l : List Int} (h : RowB base w v l) (hv : v ≠ .slice none 0 0) :
    ∃ g cap, v = .slice (some ⟨g, 0, none⟩) l.length cap ∧ base ≤ g ∧ g < w.heap.size ∧ l.length ≤ cap ∧ BsAt w g 0 l.length (Go.Proofs.Ytdkjbfppogdokaa.zz l) := by
  have h' := h
  obtain ⟨h1, h2 | ⟨g, cp, cur, rfl, hg, hh, hkc, hcm, hcs, htk⟩⟩ := h
  · exact absurd h2.1 hv
  · have hgl : g < w.heap.size := by
      rcases Nat.lt_or_ge g w.heap.size with h' | h'
      · exact h'
      · rw [Array.getElem?_eq_none h'] at hh; cases hh
    refine ⟨g, cp, rfl, hg, hgl, hkc, fun i hi => ?_⟩
    obtain ⟨g', cap', e, _, _, _, hb⟩ := h'.at (by omega)
    injection e with e
    injection e with e
    injection e with e
    subst e
    exact hb i hi

set_option maxHeartbeats 4000000 in
theorem l6Some_any (a : Option Addr) (n cap : Nat) (Z : Nat → Int) (s t m : Nat) (w : World) (h : Src a n cap Z s t w) (hcap : n ≤ cap) (ht : t ≤ 500) (hm : m ≤ 40) :
    Calls Try.prog 32 #[.pointer (some ⟨s, 0, none⟩), .int .i64 (m : Int)] w fun e w' => ∃ (v : Value) (l : List Int), e = .returned v ∧ l.length = m ∧ Bys l ∧ RowB w.heap.size w' v l ∧ v ≠ .slice none 0 0 ∧ Src a n cap Z s (t + m) w' ∧ Keeps s w w' := by
  have hsl : s < w.heap.size := World.block_lt_of_cell? _ _ h.code
  obtain ⟨i0, hi, hz0, hz1, hz2⟩ := info_parts info_u8
  go_enter Try.func32, Try.ntmps32
  go_wp2_with fail
  generalize hW : (w.alloc _ : World) = W
  have hB0 : Below w.heap.size w W := by subst hW; (repeat (first | exact Below.refl _ _ | assumption | refine Below.drew ?_ | refine bl_alloc ?_ _ | refine bl_then ?_ (by assumption) | refine Below.setCell ?_ (by first | omega | (simp; done) | (simp; omega)) _ | refine bl_store ?_ ?_ _ _))
  have hO0 : RowB w.heap.size W (.slice (some ⟨w.heap.size, 0, none⟩) 0 0) [] := by
    subst hW
    exact World.ownsRow_lit (base := w.heap.size) w #[] 0 (Nat.le_refl _) (Nat.zero_le _) rfl
  clear hW
  have HO0 : Hid (RowB w.heap.size W (.slice (some ⟨w.heap.size, 0, none⟩) 0 0) []) := hO0
  have HS0 : Hid (Src a n cap Z s t W) := h.below hB0
  have HK0 : Hid (Keeps s w W) := Keeps.of_below hB0
  clear h hB0 hO0
  go_loopw [5, 1] (fun v kk wr => ∃ (j : Nat) (l : List Int), kk = .int .i64 j ∧ l.length + j = m ∧ Bys l ∧ RowB w.heap.size wr v l ∧ v ≠ .slice none 0 0 ∧ Src a n cap Z s (t + l.length) wr ∧ Keeps s w wr) (fun _ kk _ => (intOf kk).toNat)
  case atStart => exact ⟨m, [], rfl, by simp, (fun _ hz => by cases hz), HO0.out, (fun h => by cases h), HS0.out, HK0.out⟩
  case round =>
    obtain ⟨j, l, rfl, hlj, hby, hO, hne0, hS, hK⟩ := hrel
    have HE : Hid (u5 ≠ .slice none 0 0) := hne0
    have HY : Hid (Bys l) := hby
    clear hne0 hby
    by_cases hj : 0 < j
    · have hji : (0 : Int) < (j : Int) := by omega
      have HK : Hid (Keeps s w wr) := hK
      have HS : Hid (Src a n cap Z s (t + l.length) wr) := hS
      have HO : Hid (RowB w.heap.size wr u5 l) := hO
      clear hK hS hO
      go_wp2_with fail
      refine (l1Next_any a n cap Z s (t + l.length) 256 _ HS.out hcap (by omega) (by omega) (by omega)).mono ?_
      rintro e w2 ⟨x, rfl, hx, hS2, hK2⟩
      have HO2 : Hid (RowB w.heap.size w2 u5 l) := ownsRow_keeps HO.out hK2 hsl
      have hz2l : w.heap.size ≤ w2.heap.size := Nat.le_trans HK.out.size hK2.size
      have HS2 : Hid (Src a n cap Z s (t + l.length + 1) w2) := hS2
      have HK2 : Hid (Keeps s w w2) := HK.out.trans hK2
      clear hS2 hK2 HS HK HO
      have e1 : IntKind.u8.wrap (x : Int) = (x : Int) := by rw [IntKind.wrap_u8]; omega
      go_wp2_with (first
        | (at_builtin; go_must (refine wpList_append_own _ rfl _ _ 22 rfl w.heap.size 5 i0 (.int .u8 0) 1 1 Try.underlying22 hi hz0 hz1 hz2 rfl (by decide) _ l.length (cellsB l) rfl (HO2.out.alloc _) ⟨w2.heap.size, 0, none⟩ 1 1 [.int .u8 (x : Int)] rfl rfl ?c1 ?c2 ?c3 ?c4 ?c5 ?_)))
      case c1 =>
        intro j u hj
        match j, hj with
        | 0, hj => simp at hj; subst hj; simp [Addr.add, go_sem]
        | j + 1, hj => simp at hj
      case c2 => intro u hu; simp at hu; subst hu; rfl
      case c3 => unfold maxLen; omega
      case c4 => omega
      case c5 => simp; omega
      intro v' w3 hown' hgrow hnil
      have HE3 : Hid (v' ≠ .slice none 0 0) := hnil
      have hBg : Below w.heap.size (w2.alloc (.cells #[.int .u8 (x : Int)] 5)) w3 := (Below.refl _ _).grown hgrow (by simp; omega) (fun k hk => (HO2.out.lt k hk).1)
      have hBa : Below w.heap.size w2 (w2.alloc (.cells #[.int .u8 (x : Int)] 5)) := (Below.refl _ _).alloc hz2l _
      have HS3 : Hid (Src a n cap Z s (t + l.length + 1) w3) := (HS2.out.belowB hBa hsl).belowB hBg hsl
      have HK3 : Hid (Keeps s w w3) := (HK2.out.thenB hBa).thenB hBg
      have HO3 : Hid (RowB w.heap.size w3 v' (l ++ [(x : Int)])) := by
        show RowB _ _ _ _
        unfold RowB
        rw [cellsB_add]
        simpa [cellsB] using hown'
      have HY3 : Hid (Bys (l ++ [(x : Int)])) := HY.out.append (fun z hz => by simp at hz; omega)
      clear hown' hgrow hnil hBg hBa HO2 HS2 HK2
      go_wp2
      go_roundw
      case rel => exact ⟨j - 1, l ++ [(x : Int)], by go_num, by simp; omega, HY3.out, HO3.out, HE3.out, by rw [show t + (l ++ [(x : Int)]).length = t + l.length + 1 by simp; omega]; exact HS3.out, HK3.out⟩
      case measure => simp [intOf]; omega
    · go_wp2
      go_ret
      have hj0 : j = 0 := by omega
      subst hj0
      exact ⟨_, l, rfl, by omega, HY.out, hO, HE.out, by rw [show t + m = t + l.length by omega]; exact hS, hK⟩
set_option maxHeartbeats 1000000 in
theorem DrawUnfoldNumber_any (a : Option Addr) (n cap : Nat) (Z : Nat → Int) (w : World) (h : IsBytes w a n Z) (hrng : ∀ i, 0 ≤ Z i ∧ Z i ≤ 255) (hn : n ≤ 1048576) (hcap : n ≤ cap) :
    Calls Try.prog 14 #[.slice a n cap] w fun e w' => ∃ x : Int, e = .returned (.int .i64 x) ∧ Below w.heap.size w w' := by
  have HI : Hid (IsBytes w a n Z) := h
  have HR : Hid (∀ i, 0 ≤ Z i ∧ Z i ≤ 255) := hrng
  clear h hrng
  go_enter Try.func14, Try.ntmps14
  go_wp2_with fail
  refine (l1Source_ex _ _ _ _).mono ?_
  rintro e w1 ⟨rfl, hw1⟩
  have hS1 : Src a n cap Z w.heap.size 0 w1 := by rw [← hw1]; exact src_start a n cap Z w HI.out HR.out hn
  have hb1 : Below w.heap.size w w1 := by rw [← hw1]; unfold srcW; (repeat (first | exact Below.refl _ _ | assumption | refine Below.drew ?_ | refine bl_alloc ?_ _ | refine bl_then ?_ (by assumption) | refine Below.setCell ?_ (by first | omega | (simp; done) | (simp; omega)) _ | refine bl_store ?_ ?_ _ _))
  have HS1 : Hid (Src a n cap Z w.heap.size 0 w1) := hS1
  have HK1 : Hid (Keeps w.heap.size w w1) := Keeps.of_below hb1
  clear hw1 hS1 hb1
  go_wp2_with fail
  refine (l1Next_any a n cap Z _ 0 300 _ HS1.out hcap (by omega) (by omega) (by omega)).mono ?_
  rintro e w2 ⟨x, rfl, hx, hS2, hK2⟩
  have HS2 : Hid (Src a n cap Z w.heap.size (0 + 1) w2) := hS2
  have HK2 : Hid (Keeps w.heap.size w w2) := HK1.out.trans hK2
  clear hS2 hK2 HS1 HK1
  go_wp2_with fail
  refine (l1Pick_new6 a n cap Z _ _ _ _ _ _ _ _ _ _ HS2.out hcap (by omega)).mono ?_
  rintro e w3 ⟨y, rfl, hS3, hK3⟩
  have HK3 : Hid (Keeps w.heap.size w w3) := HK2.out.trans hK3
  clear hS3 hK3 HS2 HK2
  go_wp2
  go_ret
  exact ⟨_, rfl, HK3.out.below (Nat.le_refl _) (Nat.le_refl _)⟩
theorem l1Pick_new8 (a : Option Addr) (n cap : Nat) (Z : Nat → Int) (s t : Nat) (x0 x1 x2 x3 x4 x5 x6 x7 : Int) (w : World) (T : TypeId) (h : Src a n cap Z s t w) (hcap : n ≤ cap) (ht : t ≤ 900) :
    Calls Try.prog 40 #[.pointer (some ⟨s, 0, none⟩), .slice (some ⟨w.heap.size, 0, none⟩) 8 8] (w.alloc (.cells #[.int .i64 x0, .int .i64 x1, .int .i64 x2, .int .i64 x3, .int .i64 x4, .int .i64 x5, .int .i64 x6, .int .i64 x7] T)) fun e w' => ∃ x : Int, e = .returned (.int .i64 x) ∧ Src a n cap Z s (t + 1) w' ∧ Keeps s w w' := by
  have hsl : s < w.heap.size := World.block_lt_of_cell? _ _ h.code
  have hb : Below w.heap.size w (w.alloc (.cells #[.int .i64 x0, .int .i64 x1, .int .i64 x2, .int .i64 x3, .int .i64 x4, .int .i64 x5, .int .i64 x6, .int .i64 x7] T)) := by (repeat (first | exact Below.refl _ _ | assumption | refine Below.drew ?_ | refine bl_alloc ?_ _ | refine bl_then ?_ (by assumption) | refine Below.setCell ?_ (by first | omega | (simp; done) | (simp; omega)) _ | refine bl_store ?_ ?_ _ _))
  refine (l1Pick_any a n cap Z s t w.heap.size 8 (fun i => if i = 0 then x0 else if i = 1 then x1 else if i = 2 then x2 else if i = 3 then x3 else if i = 4 then x4 else if i = 5 then x5 else if i = 6 then x6 else x7) _ (h.below hb) hcap ht (by omega) (by omega) (by omega) (fun i hi => ?_)).mono ?_
  · have hc : i = 0 ∨ i = 1 ∨ i = 2 ∨ i = 3 ∨ i = 4 ∨ i = 5 ∨ i = 6 ∨ i = 7 := by omega
    rcases hc with rfl | rfl | rfl | rfl | rfl | rfl | rfl | rfl <;> simp [go_sem]
  · rintro e w' ⟨x, rfl, hS, hK⟩
    exact ⟨x, rfl, hS, (Keeps.of_below hb).trans hK⟩
set_option maxHeartbeats 1000000 in
theorem DrawPutNumber_any (a : Option Addr) (n cap : Nat) (Z : Nat → Int) (w : World) (h : IsBytes w a n Z) (hrng : ∀ i, 0 ≤ Z i ∧ Z i ≤ 255) (hn : n ≤ 1048576) (hcap : n ≤ cap) :
    Calls Try.prog 18 #[.slice a n cap] w fun e w' => ∃ x : Int, e = .returned (.int .i64 x) ∧ Below w.heap.size w w' := by
  have HI : Hid (IsBytes w a n Z) := h
  have HR : Hid (∀ i, 0 ≤ Z i ∧ Z i ≤ 255) := hrng
  clear h hrng
  go_enter Try.func18, Try.ntmps18
  go_wp2_with fail
  refine (l1Source_ex _ _ _ _).mono ?_
  rintro e w1 ⟨rfl, hw1⟩
  have hS1 : Src a n cap Z w.heap.size 0 w1 := by rw [← hw1]; exact src_start a n cap Z w HI.out HR.out hn
  have hb1 : Below w.heap.size w w1 := by rw [← hw1]; unfold srcW; (repeat (first | exact Below.refl _ _ | assumption | refine Below.drew ?_ | refine bl_alloc ?_ _ | refine bl_then ?_ (by assumption) | refine Below.setCell ?_ (by first | omega | (simp; done) | (simp; omega)) _ | refine bl_store ?_ ?_ _ _))
  have HS1 : Hid (Src a n cap Z w.heap.size 0 w1) := hS1
  have HK1 : Hid (Keeps w.heap.size w w1) := Keeps.of_below hb1
  clear hw1 hS1 hb1
  go_wp2_with fail
  refine (l1Next_any a n cap Z _ 0 300 _ HS1.out hcap (by omega) (by omega) (by omega)).mono ?_
  rintro e w2 ⟨x, rfl, hx, hS2, hK2⟩
  have HS2 : Hid (Src a n cap Z w.heap.size (0 + 1) w2) := hS2
  have HK2 : Hid (Keeps w.heap.size w w2) := HK1.out.trans hK2
  clear hS2 hK2 HS1 HK1
  go_wp2_with fail
  refine (l1Next_any a n cap Z _ _ 50000 _ HS2.out hcap (by omega) (by omega) (by omega)).mono ?_
  rintro e w3 ⟨y, rfl, hy, hS3, hK3⟩
  have HS3 : Hid (Src a n cap Z w.heap.size (0 + 1 + 1) w3) := hS3
  have HK3 : Hid (Keeps w.heap.size w w3) := HK2.out.trans hK3
  clear hS3 hK3 HS2 HK2
  go_wp2_with fail
  refine (l1Pick_new8 a n cap Z _ _ _ _ _ _ _ _ _ _ _ _ HS3.out hcap (by omega)).mono ?_
  rintro e w4 ⟨z, rfl, hS4, hK4⟩
  have HK4 : Hid (Keeps w.heap.size w w4) := HK3.out.trans hK4
  clear hS4 hK4 HS3 HK3
  go_wp2
  go_ret
  exact ⟨_, rfl, HK4.out.below (Nat.le_refl _) (Nat.le_refl _)⟩
set_option maxHeartbeats 2000000 in
theorem DrawReadNumber_any (a : Option Addr) (n cap : Nat) (Z : Nat → Int) (w : World) (h : IsBytes w a n Z) (hrng : ∀ i, 0 ≤ Z i ∧ Z i ≤ 255) (hn : n ≤ 1048576) (hcap : n ≤ cap) :
    Calls Try.prog 10 #[.slice a n cap] w fun e w' => ∃ (v : Value) (l : List Int), e = .returned v ∧ l.length ≤ 20 ∧ Bys l ∧ RowB w.heap.size w' v l ∧ v ≠ .slice none 0 0 ∧ Below w.heap.size w w' := by
  have HI : Hid (IsBytes w a n Z) := h
  have HR : Hid (∀ i, 0 ≤ Z i ∧ Z i ≤ 255) := hrng
  clear h hrng
  obtain ⟨i0, hi, hz0, hz1, hz2⟩ := info_parts info_u8
  go_enter Try.func10, Try.ntmps10
  go_wp2_with fail
  refine (l1Source_ex _ _ _ _).mono ?_
  rintro e w1 ⟨rfl, hw1⟩
  have hS1 : Src a n cap Z w.heap.size 0 w1 := by rw [← hw1]; exact src_start a n cap Z w HI.out HR.out hn
  have hb1 : Below w.heap.size w w1 := by rw [← hw1]; unfold srcW; (repeat (first | exact Below.refl _ _ | assumption | refine Below.drew ?_ | refine bl_alloc ?_ _ | refine bl_then ?_ (by assumption) | refine Below.setCell ?_ (by first | omega | (simp; done) | (simp; omega)) _ | refine bl_store ?_ ?_ _ _))
  have HS1 : Hid (Src a n cap Z w.heap.size 0 w1) := hS1
  have HK1 : Hid (Keeps w.heap.size w w1) := Keeps.of_below hb1
  have hl1 : w.heap.size < w1.heap.size := World.block_lt_of_cell? _ _ hS1.code
  clear hw1 hS1 hb1
  go_wp2_with fail
  refine (l1Chance_any a n cap Z _ 0 3 _ HS1.out hcap (by omega) (by omega) (by omega)).mono ?_
  rintro e w2 ⟨c, rfl, hS2, hK2⟩
  have HS2 : Hid (Src a n cap Z w.heap.size (0 + 1) w2) := hS2
  have HK2 : Hid (Keeps w.heap.size w w2) := HK1.out.trans hK2
  have hl2 : w.heap.size < w2.heap.size := Nat.lt_of_lt_of_le hl1 hK2.size
  clear hS2 hK2 HS1 HK1
  cases c
  · go_wp2_with fail
    refine (l1Next_any a n cap Z _ _ 90000 _ HS2.out hcap (by omega) (by omega) (by omega)).mono ?_
    rintro e w3 ⟨x, rfl, hx, hS3, hK3⟩
    have HS3 : Hid (Src a n cap Z w.heap.size (0 + 1 + 1) w3) := hS3
    have HK3 : Hid (Keeps w.heap.size w w3) := HK2.out.trans hK3
    have hl3 : w.heap.size < w3.heap.size := Nat.lt_of_lt_of_le hl2 hK3.size
    clear hS3 hK3 HS2 HK2
    go_wp2_with fail
    refine (l6Put_any x _ (by omega)).mono ?_
    rintro e w4 ⟨v, rfl, hR4, hb4⟩
    have HS4 : Hid (Src a n cap Z w.heap.size (0 + 1 + 1) w4) := HS3.out.below hb4
    have HK4 : Hid (Keeps w.heap.size w w4) := HK3.out.trans (Keeps.of_below hb4)
    have hl4 : w3.heap.size ≤ w4.heap.size := hb4.size
    have HR4 : Hid (RowB w3.heap.size w4 v (putI x)) := hR4
    clear hR4 hb4 HS3 HK3
    go_wp2_with fail
    refine (l1Next_any a n cap Z _ _ 3 _ HS4.out hcap (by omega) (by omega) (by omega)).mono ?_
    rintro e w5 ⟨m, rfl, hm, hS5, hK5⟩
    have HS5 : Hid (Src a n cap Z w.heap.size (0 + 1 + 1 + 1) w5) := hS5
    have HK5 : Hid (Keeps w.heap.size w w5) := HK4.out.trans hK5
    have hl5 : w4.heap.size ≤ w5.heap.size := hK5.size
    have HR5 : Hid (RowB w3.heap.size w5 v (putI x)) := ownsRow_keeps HR4.out hK5 hl3
    clear hS5 hK5 HS4 HK4 HR4
    go_wp2_with fail
    refine (l6Some_any a n cap Z _ _ m _ HS5.out hcap (by omega) (by omega)).mono ?_
    rintro e w6 ⟨u, l, rfl, hll, hby, hR6, hne, hS6, hK6⟩
    have HK6 : Hid (Keeps w.heap.size w w6) := HK5.out.trans hK6
    have HR6 : Hid (RowB w3.heap.size w6 v (putI x)) := ownsRow_keeps HR5.out hK6 hl3
    have hl6 : w5.heap.size ≤ w6.heap.size := hK6.size
    obtain ⟨g, cp, rfl, hg1, hg2, hg3, hbs⟩ := hR6.at0 hne
    have HS : Hid (BsAt w6 g 0 l.length (zz l)) := hbs
    have HY : Hid (Bys l) := hby
    have h6 := putI_len6 x (by omega)
    have hl3' : l.length ≤ 3 := by omega
    clear hll hby hR6 hne hS6 hK6 HS5 HK5 HR5 hbs
    go_wp2_with (first
      | (at_builtin; go_must (refine wpList_append_own _ rfl _ _ 22 rfl w3.heap.size 5 i0 (.int .u8 0) 1 1 Try.underlying22 hi hz0 hz1 hz2 rfl (by decide) v (putI x).length (cellsB (putI x)) rfl HR6.out ⟨g, 0, none⟩ l.length cp (cellsB l) rfl (by simp [cellsB]) HS.out.news (cellsB_one _) ?c3 ?c4 ?c5 ?_)))
    case c3 => unfold maxLen; omega
    case c4 => omega
    case c5 => first | omega | (simp; omega)
    intro v' w7 hown' hgrow hnil
    have hBg : Below w3.heap.size w6 w7 := (Below.refl _ _).grown hgrow (by omega) (fun k hk => (HR6.out.lt k hk).1)
    have HB7 : Hid (Below w.heap.size w w7) := (HK6.out.below (Nat.le_refl _) (Nat.le_refl _)).trans (hBg.mono (by omega))
    have HO7 : Hid (RowB w.heap.size w7 v' (putI x ++ l)) := by
      show RowB _ _ _ _
      refine RowB.wide (base := w3.heap.size) ?_ (by omega)
      unfold RowB
      rw [cellsB_add, List.length_append]
      exact hown'
    have HN7 : Hid (v' ≠ .slice none 0 0) := fun h => by
      have hz := HO7.out.1
      subst h
      rcases HO7.out.2 with ⟨_, h0⟩ | ⟨_, _, _, h0, _⟩
      · have := putI_ne x; rw [List.length_append] at h0; omega
      · cases h0
    clear hown' hgrow hnil hBg HR6 HK6
    go_wp2
    go_ret
    exact ⟨_, putI x ++ l, rfl, by simp; omega, (putI_bys x).append HY.out, HO7.out, HN7.out, HB7.out⟩
  · go_wp2_with fail
    refine (l1Next_any a n cap Z _ _ 8 _ HS2.out hcap (by omega) (by omega) (by omega)).mono ?_
    rintro e w3 ⟨x, rfl, hx, hS3, hK3⟩
    have HS3 : Hid (Src a n cap Z w.heap.size (0 + 1 + 1) w3) := hS3
    have HK3 : Hid (Keeps w.heap.size w w3) := HK2.out.trans hK3
    have hl3 : w.heap.size < w3.heap.size := Nat.lt_of_lt_of_le hl2 hK3.size
    clear hS3 hK3 HS2 HK2
    go_wp2_with fail
    refine (l6Some_any a n cap Z _ _ x _ HS3.out hcap (by omega) (by omega)).mono ?_
    rintro e w6 ⟨u, l, rfl, hll, hby, hR6, hne, hS6, hK6⟩
    have HK6 : Hid (Keeps w.heap.size w w6) := HK3.out.trans hK6
    have HR6 : Hid (RowB w.heap.size w6 u l) := hR6.wide (by omega)
    have HN : Hid (u ≠ .slice none 0 0) := hne
    have HY : Hid (Bys l) := hby
    clear hby hR6 hne hS6 hK6 HS3 HK3
    go_wp2
    go_ret
    exact ⟨_, l, rfl, by omega, HY.out, HR6.out, HN.out, HK6.out.below (Nat.le_refl _) (Nat.le_refl _)⟩
end Go.Proofs.Ytdkjbfppogdokaa
