/- FnInsides: the law out of what is called. -/
import Derived.Test.YtlkjdbigpjpgeaaDrawIn
import Derived.Test.YtlkjdbigpjpgeaaInBoxM
import Derived.Test.YtlkjdbigpjpgeaaInImpl
import Derived.Test.YtlkjdbigpjpgeaaBoxAny
import Derived.Test.YtlkjdbigpjpgeaaDrawMeet
import Derived.Test.YtlkjdbigpjpgeaaPtsL
import Derived.Test.YtlkjdbigpjpgeaaTurnRow
import Derived.Test.YtlkjdbigpjpgeaaTake
import Derived.Test.YtlkjdbigpjpgeaaMeet
import Derived.Test.YtlkjdbigpjpgeaaLwBig
namespace Go.Proofs.Ytlkjdbigpjpgeaa
open Go.RowKit
set_option linter.unusedSimpArgs false
set_option linter.unusedVariables false

set_option maxHeartbeats 1000000 in
theorem FnInsides_big (a : Option Addr) (n cap : Nat) (w : World) (h : 1048576 < n) : Calls Try.prog 5 #[.slice a n cap] w fun e w' => e = .returned (.bool true) ∧ Below w.heap.size w w' := by
  have hb : decide (1048576 < (n : Int)) = true := by simp; omega
  go_enter Try.func5, Try.ntmps5
  go_wp2_with (go_at_call 8; refine (lwBig_any _ _ _ _).mono ?_; rintro e w' ⟨rfl, rfl⟩)
  go_ret
  exact ⟨rfl, by (repeat (first | exact Below.refl _ _ | assumption | refine Below.drew ?_ | refine bl_alloc ?_ _ | refine bl_then ?_ (by assumption) | refine Below.setCell ?_ (by first | omega | (simp; done) | (simp; omega)) _ | refine bl_store ?_ ?_ _ _))⟩

set_option maxRecDepth 100000 in
set_option maxHeartbeats 8000000 in
theorem FnInsides_walk (a : Option Addr) (n cap : Nat) (Z : Nat → Int) (w : World) (h : IsBytes w a n Z ∧ (∀ i, 0 ≤ Z i ∧ Z i ≤ 255) ∧ n ≤ cap) :
    Calls Try.prog 5 #[.slice a n cap] w fun e w' => e = .returned (.bool true) ∧ Below w.heap.size w w' := by
  obtain ⟨hI, hR, hcap⟩ := h
  by_cases hbig : 1048576 < n
  · exact FnInsides_big a n cap w hbig
  have hn1 : n ≤ 1048576 := by omega
  have HI : Hid (IsBytes w a n Z) := hI
  have HR : Hid (∀ i, 0 ≤ Z i ∧ Z i ≤ 255) := hR
  have hn : decide (1048576 < (n : Int)) = false := by simp; omega
  clear hI hR hbig
  go_enter Try.func5, Try.ntmps5
  go_wp2_with fail
  refine (lwBig_any _ _ _ _).mono ?_
  rintro e w0 ⟨rfl, hw0⟩
  have hw0' := hw0.symm
  subst hw0'
  clear hw0
  go_wp2_with fail
  refine (DrawIsInside_any a n cap Z _ HI.out HR.out hn1 hcap).mono ?_
  rintro e w1 ⟨px, py, v, rfl, hR1, hb1⟩
  obtain ⟨b, k, cp, X, Y, rfl, hbw, hbl, hk41, hkc, hpt⟩ := hR1
  have HB1 : Hid (Below w.heap.size w w1) := hb1
  have HQ1 : Hid (PtsAt w1 b 0 k X Y) := hpt
  have HI1 : Hid (IsBytes w1 a n Z) := HI.out.below hb1
  clear hb1 hpt HI
  have hkm : k ≤ 1048576 := by omega
  have hfl0 : ∀ (c0 c1 c2 c3 c4 : Int) (w : World), (Instr.field 44 (.agg #[.int .i64 c0, .int .i64 c1, .int .i64 c2, .int .i64 c3, .int .i64 c4]) 0).run Try.prog w = .ok (.int .i64 c0) w := fun _ _ _ _ _ _ => by kernel_rfl
  go_wp2_with fail
  generalize hV : (w1.alloc _ : World) = V
  have hBV : Below w1.heap.size w1 V := by subst hV; (repeat (first | exact Below.refl _ _ | assumption | refine Below.drew ?_ | refine bl_alloc ?_ _ | refine bl_then ?_ (by assumption) | refine Below.setCell ?_ (by first | omega | (simp; done) | (simp; omega)) _ | refine bl_store ?_ ?_ _ _))
  have hP : Two V w1.heap.size px py := by subst hV; exact ⟨by simp [go_sem], by simp [go_sem]⟩
  clear hV
  have HBV : Hid (Below w1.heap.size w1 V) := hBV
  have HP : Hid (Two V w1.heap.size px py) := hP
  have HQV : Hid (PtsAt V b 0 k X Y) := HQ1.out.below hBV hbl
  have hblV : b < V.heap.size := Nat.lt_of_lt_of_le hbl hBV.size
  have hpl : w1.heap.size < V.heap.size := World.block_lt_of_cell? _ _ hP.1
  clear hBV hP
  refine (impl_IsInside_any px py b k cp X Y _ HQV.out hblV hkc hkm).mono ?_
  rintro e w2 ⟨rfl, hb2⟩
  have HB2 : Hid (Below V.heap.size V w2) := hb2
  have q0 : w2.cell? ⟨w1.heap.size, 0, none⟩ = some (.int .i64 px) := (hb2.cell (p := ⟨w1.heap.size, 0, none⟩) hpl).trans HP.out.1
  have q1 : w2.cell? ⟨w1.heap.size, 1, none⟩ = some (.int .i64 py) := (hb2.cell (p := ⟨w1.heap.size, 1, none⟩) hpl).trans HP.out.2
  clear hb2
  go_wp2_with fail
  refine (spec_IsInside_any px py b k cp X Y _ (HQV.out.below HB2.out hblV) (Nat.lt_of_lt_of_le hblV HB2.out.size) hkc hkm).mono ?_
  rintro e w3 ⟨rfl, hb3⟩
  have HB3 : Hid (Below V.heap.size V w3) := bl_then HB2.out hb3
  clear hb3 HB2 q0 q1
  by_cases hk3 : k < 3 ∨ 40 < k
  · have hin : insideB px py k X Y = false := by
      unfold insideB
      rcases hk3 with h | h
      · rw [decide_eq_false (show ¬ 3 ≤ k by omega)]; simp
      · rw [decide_eq_false (show ¬ k ≤ 40 by omega)]; simp
    rw [hin]
    have HB1a : Hid (Below w1.heap.size w1 w3) := HBV.out.trans (HB3.out.mono HBV.out.size)
    have hks : ((k : Int) < 3) ∨ (¬ (k : Int) < 3 ∧ (40 : Int) < (k : Int)) := by omega
    clear hk3
    rcases hks with hk3 | ⟨hk3, hk40⟩
    all_goals
      go_wp2_with fail
      refine (DrawBoxOf_any a n cap Z _ (HI1.out.below HB1a.out) HR.out hn1 hcap).mono ?_
      rintro e w4 ⟨v, rfl, hR4, hb4⟩
      obtain ⟨b', k', cp', X', Y', rfl, hbw', hbl', hk41', hkc', hpt'⟩ := hR4
      have HB4 : Hid (Below w.heap.size w w4) := HB1.out.trans ((HB1a.out.mono HB1.out.size).trans (hb4.mono (Nat.le_trans HB1.out.size HB1a.out.size)))
      have HQ4 : Hid (PtsAt w4 b' 0 k' X' Y') := hpt'
      obtain ⟨c0, c1, c2, c3, c4, hf⟩ := boxW_form k' X' Y'
      have HF := (show Hid _ from hf)
      have hwl : w.heap.size ≤ w4.heap.size := HB4.out.size
      clear hb4 hpt' hf
      go_wp2_with fail
      refine (impl_BoxOf_any b' k' cp' X' Y' _ HQ4.out hbl' hkc' (by omega) c0 c1 c2 c3 c4 HF.out).mono ?_
      rintro e w5 ⟨rfl, hb5⟩
      have HB5 : Hid (Below w4.heap.size w4 w5) := hb5
      clear hb5
      go_wp2_with fail
      refine (spec_BoxOf_any b' k' cp' X' Y' _ (HQ4.out.below HB5.out hbl') (Nat.lt_of_lt_of_le hbl' HB5.out.size) hkc' (by omega) c0 c1 c2 c3 c4 HF.out).mono ?_
      rintro e w6 ⟨rfl, hb6⟩
      have HB6 : Hid (Below w4.heap.size w4 w6) := bl_then HB5.out hb6
      clear hb6 HB5
      go_wp2
      go_ret
      exact ⟨ret_bool (by simp), HB4.out.trans (HB6.out.mono hwl)⟩
  have hk3i : ¬ (k : Int) < 3 := by omega
  have hk40i : ¬ (40 : Int) < (k : Int) := by omega
  have HB1a : Hid (Below w1.heap.size w1 w3) := HBV.out.trans (HB3.out.mono HBV.out.size)
  clear HQ1 hk3 HBV
  have HQ3 : Hid (PtsAt w3 b 0 k X Y) := HQV.out.below HB3.out hblV
  have HP3 : Hid (Two w3 w1.heap.size px py) := ⟨(HB3.out.cell (p := ⟨w1.heap.size, 0, none⟩) hpl).trans HP.out.1, (HB3.out.cell (p := ⟨w1.heap.size, 1, none⟩) hpl).trans HP.out.2⟩
  have hbl3 : b < w3.heap.size := Nat.lt_of_lt_of_le hblV HB3.out.size
  have hpl3 : w1.heap.size < w3.heap.size := Nat.lt_of_lt_of_le hpl HB3.out.size
  clear HQV HP HB3 hblV hpl
  obtain ⟨i0, hi, hz0, hz1, hz2⟩ := info_parts info_ipm
  go_wp2
  generalize hW : (w3.alloc _ : World) = W
  have hBW : Below w3.heap.size w3 W := by subst hW; (repeat (first | exact Below.refl _ _ | assumption | refine Below.drew ?_ | refine bl_alloc ?_ _ | refine bl_then ?_ (by assumption) | refine Below.setCell ?_ (by first | omega | (simp; done) | (simp; omega)) _ | refine bl_store ?_ ?_ _ _))
  have HOW : Hid (W.ownsRow w3.heap.size 25 2 (.slice (some ⟨w3.heap.size, 0, none⟩) 0 0) 0 []) := by
    subst hW
    exact World.ownsRow_lit (base := w3.heap.size) w3 #[] 0 (Nat.le_refl _) (Nat.zero_le _) rfl
  clear hW
  have HBW : Hid (Below w3.heap.size w3 W) := hBW
  clear hBW
  go_loopw [7, 8] (fun v i wr => ∃ m j : Nat, m + j = k ∧ i = .int .i64 ((m : Int) - 1) ∧ wr.ownsRow w3.heap.size 25 2 v j (ptsL (fun i => X (k - 1 - i)) (fun i => Y (k - 1 - i)) j) ∧ v ≠ .slice none 0 0 ∧ Below w3.heap.size w3 wr) (fun _ i _ => (intOf i + 1).toNat)
  case atStart => exact ⟨k, 0, by omega, rfl, HOW.out, (fun h => by cases h), HBW.out⟩
  case round =>
    obtain ⟨m, j, hmj, rfl, hO, hE, hB⟩ := hrel
    cases m with
    | succ m =>
      have hX : X m = (fun i => X (k - 1 - i)) j := by show X m = X (k - 1 - j); congr 1; omega
      have hY : Y m = (fun i => Y (k - 1 - i)) j := by show Y m = Y (k - 1 - j); congr 1; omega
      have HX := (show Hid _ from hX)
      have HY := (show Hid _ from hY)
      have hm : ((m + 1 : Nat) : Int) - 1 = (m : Int) := by omega
      rw [hm]
      have hmi : (m : Int) < (k : Int) := by omega
      have hm0 : (0 : Int) ≤ (m : Int) := by omega
      have hP := HQ3.out.below hB hbl3
      have d0 : wr.cell? ⟨b, m * 2, none⟩ = some (.int .i64 (X m)) := by simpa using (hP m (by omega)).1
      have d1 : wr.cell? ⟨b, m * 2 + 1, none⟩ = some (.int .i64 (Y m)) := by simpa using (hP m (by omega)).2
      have HB : Hid (Below w3.heap.size w3 wr) := hB
      have HO : Hid (wr.ownsRow w3.heap.size 25 2 u7 j (ptsL (fun i => X (k - 1 - i)) (fun i => Y (k - 1 - i)) j)) := hO
      have hwl : w3.heap.size ≤ wr.heap.size := hB.size
      clear hP hB hO hE hX hY hm
      go_wp2_with (first
        | (at_builtin; go_must (refine wpList_append_own _ rfl _ _ 36 rfl w3.heap.size 25 i0 (.agg #[.int .i64 0, .int .i64 0]) 2 16 Try.underlying36 hi hz0 hz1 hz2 rfl (by decide) _ j _ rfl (HO.out.alloc _) ⟨wr.heap.size, 0, none⟩ 1 1 [.int .i64 (X m), .int .i64 (Y m)] rfl rfl ?c1 ?c2 ?c3 ?c4 ?c5 ?_)))
      case c2 => exact ⟨rfl, rfl⟩
      case c3 => unfold maxLen; omega
      case c4 => omega
      case c5 => first | omega | (simp; omega)
      intro v' w4 hown' hgrow hnil
      have HE4 : Hid (v' ≠ .slice none 0 0) := hnil
      have hBg : Below w3.heap.size (wr.alloc (.cells #[.int .i64 (X m), .int .i64 (Y m)] 25)) w4 := (Below.refl _ _).grown hgrow (by simp; omega) (fun k hk => (HO.out.lt k hk).1)
      have hBa : Below w3.heap.size wr (wr.alloc (.cells #[.int .i64 (X m), .int .i64 (Y m)] 25)) := (Below.refl _ _).alloc hwl _
      have HB4 : Hid (Below w3.heap.size w3 w4) := HB.out.trans (hBa.trans hBg)
      have HO4 : Hid (w4.ownsRow w3.heap.size 25 2 v' (j + 1) (ptsL (fun i => X (k - 1 - i)) (fun i => Y (k - 1 - i)) (j + 1))) := by
        show World.ownsRow _ _ _ _ _ _ _
        rw [ptsL, ← HX.out, ← HY.out]
        exact hown'
      clear hown' hgrow hBg hBa hnil d0 d1
      go_wp2
      go_roundw
      case rel => exact ⟨m, j + 1, by omega, by go_num, HO4.out, HE4.out, HB4.out⟩
      case measure => simp [intOf] <;> omega
    | zero =>
      obtain rfl : k = j := by omega
      have HB : Hid (Below w3.heap.size w3 wr) := hB
      obtain ⟨bb, bc, rfl, hb1, hb2, hb3, hb4⟩ := pts_of hO hE
      have HQB := (show Hid _ from hb4)
      clear hO hE hB hb4
      go_upto_region 15 with fail
      go_cut [9] (fun t wc => ∃ tb tc : Nat, t = .slice (some ⟨tb, 0, none⟩) k tc ∧ wr.heap.size ≤ tb ∧ tb < wc.heap.size ∧ k ≤ tc ∧ PtsAt wc tb 0 k (fun i => X ((i + 1) % k)) (fun i => Y ((i + 1) % k)) ∧ Below wr.heap.size wr wc)
      case first =>
        have hP := HQ3.out.below HB.out hbl3
        have hbr : b < wr.heap.size := Nat.lt_of_lt_of_le hbl3 HB.out.size
        have e0 : ∀ W', Below wr.heap.size wr W' → W'.cell? ⟨b, 0, none⟩ = some (.int .i64 (X 0)) := fun W' h => by
          simpa using (hP.below h hbr 0 (by omega)).1
        have e1 : ∀ W', Below wr.heap.size wr W' → W'.cell? ⟨b, 1, none⟩ = some (.int .i64 (Y 0)) := fun W' h => by
          simpa using (hP.below h hbr 0 (by omega)).2
        have hk0 : (0 : Int) < (k : Int) := by omega
        have hk0' : 0 < k := by omega
        have hk1 : (1 : Int) ≤ (k : Int) := by omega
        have hk1' : 1 ≤ k := by omega
        have hkc1 : (k : Int) ≤ (cp : Int) := by omega
        have HPP := (show Hid _ from hP)
        clear hP
        have hcp1 : ¬ cp = 1 := by omega
        have q0 := e0 wr (Below.refl _ _)
        have q1 := e1 wr (Below.refl _ _)
        have hbse : wr.heap.size ≤ wr.heap.size := Nat.le_refl _
        go_region_law (first
          | (refine step_append_own rfl (.tmp 64) (.tmp 66) 36 rfl wr.heap.size 25 i0 (.agg #[.int .i64 0, .int .i64 0]) 2 16 Try.underlying36 hi hz0 hz1 hz2 rfl (by decide) _ 0 [] rfl ?own ⟨b, 2, none⟩ (k - 1) (cp - 1) (ptsL (fun i => X (i + 1)) (fun i => Y (i + 1)) (k - 1)) (by simp [Act.eval, Act.put, hcp1]) (ptsL_len _ _ _) (ptsL_cells HPP.out (by (repeat (first | exact Below.refl _ _ | assumption | refine Below.drew ?_ | refine bl_alloc ?_ _ | refine bl_then ?_ (by assumption) | refine Below.setCell ?_ (by first | omega | (simp; done) | (simp; omega)) _ | refine bl_store ?_ ?_ _ _))) hbr) (ptsL_one _ _ _) (by unfold maxLen; omega) (by omega) ?base ?_
             case own => exact own_empty (by first | exact heap_new _ _ _ rfl | exact heap_old _ _ _ _ (heap_new _ _ _ rfl) | exact heap_new _ _ _ (by simp)) (by simp)
             case base => first | (simp; done) | (simp; omega)
             intro v1 x1 hown1 hgrow1 hnil1
             simp only [Act.eval, Act.put, Value.ownBlock] at hgrow1
             simp only [Array.getD_eq_getD_getElem?, Array.getElem?_setIfInBounds, List.getElem?_toArray] at hgrow1
             simp at hgrow1
             have hbx1 : Below wr.heap.size wr x1 := Below.grown (by (repeat (first | exact Below.refl _ _ | assumption | refine Below.drew ?_ | refine bl_alloc ?_ _ | refine bl_then ?_ (by assumption) | refine Below.setCell ?_ (by first | omega | (simp; done) | (simp; omega)) _ | refine bl_store ?_ ?_ _ _))) hgrow1 (by first | (simp; done) | (simp; omega)) (fun k hk => by cases hk; first | exact Nat.le_refl _ | omega | (simp; done)))
          | (refine step_append_own rfl (.tmp 67) (.tmp 71) 36 rfl wr.heap.size 25 i0 (.agg #[.int .i64 0, .int .i64 0]) 2 16 Try.underlying36 hi hz0 hz1 hz2 rfl (by decide) v1 (0 + (k - 1)) ([] ++ ptsL (fun i => X (i + 1)) (fun i => Y (i + 1)) (k - 1)) ?s ?own ⟨_, 0, none⟩ 1 1 [.int .i64 (X 0), .int .i64 (Y 0)] rfl rfl ?cells ?one ?m1 ?m2 ?base ?_
             case s => exact rfl
             case own => first | exact hown1 | exact hown1.alloc _
             case cells =>
               refine two_cells ?_ ?_
               all_goals first | (go_simp; done) | (rw [hgrow1.cell_far _ (by first | (simp; done) | (simp; omega)) (by simp)]; go_simp; done)
             case one => intro u hu; simp at hu; rcases hu with rfl | rfl <;> rfl
             case m1 => unfold maxLen; omega
             case m2 => omega
             case base => have hbs := hbx1.size; first | exact hbs | (simp; omega)
             intro v2 x2 hown2 hgrow2 hnil2
             have hbx2 : Below wr.heap.size wr x2 := Below.grown (by (repeat (first | exact Below.refl _ _ | assumption | refine Below.drew ?_ | refine bl_alloc ?_ _ | refine bl_then ?_ (by assumption) | refine Below.setCell ?_ (by first | omega | (simp; done) | (simp; omega)) _ | refine bl_store ?_ ?_ _ _))) hgrow2 (by have hbs := hbx1.size; first | exact hbs | (simp; omega)) (fun k hk => (hown1.lt k hk).1)))
        all_goals
          go_wp2_with fail
          go_meet
          case rel =>
            obtain ⟨tb, tc, rfl, t1, t2, t3, t4⟩ := turn_of hk0' hown2 hnil2
            exact ⟨tb, tc, rfl, t1, t2, t3, t4, hbx2⟩
      case rest =>
        obtain ⟨tb, tc, rfl, ht1, ht2, ht3, ht4, hBt⟩ := hcut
        have HBc : Hid (Below w3.heap.size w3 wc) := HB.out.trans (hBt.mono HB.out.size)
        have HB1c : Hid (Below w1.heap.size w1 wc) := HB1a.out.trans (HBc.out.mono HB1a.out.size)
        have hbc : b < wc.heap.size := Nat.lt_of_lt_of_le hbl3 HBc.out.size
        have hbbc : bb < wc.heap.size := Nat.lt_of_lt_of_le hb2 hBt.size
        have hpc : w1.heap.size < wc.heap.size := Nat.lt_of_lt_of_le hpl3 HBc.out.size
        have HQc : Hid (PtsAt wc b 0 k X Y) := HQ3.out.below HBc.out hbl3
        have HQBc : Hid (PtsAt wc bb 0 k (fun i => X (k - 1 - i)) (fun i => Y (k - 1 - i))) := PtsAt.below HQB.out hBt hb2
        have HQTc : Hid (PtsAt wc tb 0 k (fun i => X ((i + 1) % k)) (fun i => Y ((i + 1) % k))) := ht4
        have HPc : Hid (Two wc w1.heap.size px py) := ⟨(HBc.out.cell (p := ⟨w1.heap.size, 0, none⟩) hpl3).trans HP3.out.1, (HBc.out.cell (p := ⟨w1.heap.size, 1, none⟩) hpl3).trans HP3.out.2⟩
        obtain ⟨c0, c1, c2, c3, c4, hf⟩ := boxW_form k X Y
        have HF : Hid (boxW k X Y = .agg #[.int .i64 c0, .int .i64 c1, .int .i64 c2, .int .i64 c3, .int .i64 c4]) := hf
        clear hf ht4 hBt HQB HB HQ3 HP3 hb2
        go_wp2_with fail
        refine (impl_BoxOf_any b k cp X Y _ HQc.out hbc hkc hkm c0 c1 c2 c3 c4 HF.out).mono ?_
        rintro e w5 ⟨rfl, hb5⟩
        have HB5 : Hid (Below wc.heap.size wc w5) := hb5
        clear hb5
        go_wp2_with fail
        generalize hV5 : (w5.alloc _ : World) = V5
        have hB5 : Below wc.heap.size wc V5 := by subst hV5; exact (HB5.out).alloc HB5.out.size _
        have g0 : V5.cell? ⟨w5.heap.size, 0, none⟩ = some (.int .i64 c0) := by subst hV5; simp [go_sem]
        have g1 : V5.cell? ⟨w5.heap.size, 1, none⟩ = some (.int .i64 c1) := by subst hV5; simp [go_sem]
        have g2 : V5.cell? ⟨w5.heap.size, 2, none⟩ = some (.int .i64 c2) := by subst hV5; simp [go_sem]
        have g3 : V5.cell? ⟨w5.heap.size, 3, none⟩ = some (.int .i64 c3) := by subst hV5; simp [go_sem]
        have g4 : V5.cell? ⟨w5.heap.size, 4, none⟩ = some (.int .i64 c4) := by subst hV5; simp [go_sem]
        have hgl : w5.heap.size < V5.heap.size := World.block_lt_of_cell? _ _ g0
        have HG : Hid (V5.cell? ⟨w5.heap.size, 0, none⟩ = some (.int .i64 c0) ∧ V5.cell? ⟨w5.heap.size, 1, none⟩ = some (.int .i64 c1) ∧ V5.cell? ⟨w5.heap.size, 2, none⟩ = some (.int .i64 c2) ∧ V5.cell? ⟨w5.heap.size, 3, none⟩ = some (.int .i64 c3) ∧ V5.cell? ⟨w5.heap.size, 4, none⟩ = some (.int .i64 c4)) := ⟨g0, g1, g2, g3, g4⟩
        have HBV5 : Hid (Below wc.heap.size wc V5) := hB5
        clear hV5 hB5 g0 g1 g2 g3 g4 HB5
        refine (DrawDoMeet_any a n cap Z _ (HI1.out.below (HB1c.out.trans (HBV5.out.mono HB1c.out.size))) HR.out hn1 hcap).mono ?_
        rintro e w6 ⟨x0, x1, x2, x3, y0, y1, y2, y3, rfl, hb6⟩
        have HB6 : Hid (Below V5.heap.size V5 w6) := hb6
        clear hb6
        go_wp2_with fail
        generalize hW : ((w6.alloc _).alloc _ : World) = W6
        have hBW : Below w6.heap.size w6 W6 := by subst hW; (repeat (first | exact Below.refl _ _ | assumption | refine Below.drew ?_ | refine bl_alloc ?_ _ | refine bl_then ?_ (by assumption) | refine Below.setCell ?_ (by first | omega | (simp; done) | (simp; omega)) _ | refine bl_store ?_ ?_ _ _))
        have c00 : ∀ W', Below W6.heap.size W6 W' → W'.cell? ⟨w6.heap.size, 0, none⟩ = some (.int .i64 x0) := fun W' h => by
          rw [h.cell (by subst hW; simp <;> omega)]; subst hW; simp [go_sem]
        have c01 : ∀ W', Below W6.heap.size W6 W' → W'.cell? ⟨w6.heap.size, 1, none⟩ = some (.int .i64 x1) := fun W' h => by
          rw [h.cell (by subst hW; simp <;> omega)]; subst hW; simp [go_sem]
        have c02 : ∀ W', Below W6.heap.size W6 W' → W'.cell? ⟨w6.heap.size, 2, none⟩ = some (.int .i64 x2) := fun W' h => by
          rw [h.cell (by subst hW; simp <;> omega)]; subst hW; simp [go_sem]
        have c03 : ∀ W', Below W6.heap.size W6 W' → W'.cell? ⟨w6.heap.size, 3, none⟩ = some (.int .i64 x3) := fun W' h => by
          rw [h.cell (by subst hW; simp <;> omega)]; subst hW; simp [go_sem]
        have c10 : ∀ W', Below W6.heap.size W6 W' → W'.cell? ⟨w6.heap.size + 1, 0, none⟩ = some (.int .i64 y0) := fun W' h => by
          rw [h.cell (by subst hW; simp <;> omega)]; subst hW; simp [go_sem]
        have c11 : ∀ W', Below W6.heap.size W6 W' → W'.cell? ⟨w6.heap.size + 1, 1, none⟩ = some (.int .i64 y1) := fun W' h => by
          rw [h.cell (by subst hW; simp <;> omega)]; subst hW; simp [go_sem]
        have c12 : ∀ W', Below W6.heap.size W6 W' → W'.cell? ⟨w6.heap.size + 1, 2, none⟩ = some (.int .i64 y2) := fun W' h => by
          rw [h.cell (by subst hW; simp <;> omega)]; subst hW; simp [go_sem]
        have c13 : ∀ W', Below W6.heap.size W6 W' → W'.cell? ⟨w6.heap.size + 1, 3, none⟩ = some (.int .i64 y3) := fun W' h => by
          rw [h.cell (by subst hW; simp <;> omega)]; subst hW; simp [go_sem]
        clear hW
        have HB56 : Hid (Below V5.heap.size V5 W6) := bl_then HB6.out hBW
        have HBc6 : Hid (Below wc.heap.size wc W6) := bl_then HBV5.out HB56.out
        clear hBW HB6
        have d0 : ∀ W', Below W6.heap.size W6 W' → W'.cell? ⟨w5.heap.size, 0, none⟩ = some (.int .i64 c0) := fun W' h => ((bl_then HB56.out h).cell (p := ⟨w5.heap.size, 0, none⟩) hgl).trans HG.out.1
        have d1 : ∀ W', Below W6.heap.size W6 W' → W'.cell? ⟨w5.heap.size, 1, none⟩ = some (.int .i64 c1) := fun W' h => ((bl_then HB56.out h).cell (p := ⟨w5.heap.size, 1, none⟩) hgl).trans HG.out.2.1
        have d2 : ∀ W', Below W6.heap.size W6 W' → W'.cell? ⟨w5.heap.size, 2, none⟩ = some (.int .i64 c2) := fun W' h => ((bl_then HB56.out h).cell (p := ⟨w5.heap.size, 2, none⟩) hgl).trans HG.out.2.2.1
        have d3 : ∀ W', Below W6.heap.size W6 W' → W'.cell? ⟨w5.heap.size, 3, none⟩ = some (.int .i64 c3) := fun W' h => ((bl_then HB56.out h).cell (p := ⟨w5.heap.size, 3, none⟩) hgl).trans HG.out.2.2.2.1
        have d4 : ∀ W', Below W6.heap.size W6 W' → W'.cell? ⟨w5.heap.size, 4, none⟩ = some (.int .i64 c4) := fun W' h => ((bl_then HB56.out h).cell (p := ⟨w5.heap.size, 4, none⟩) hgl).trans HG.out.2.2.2.2
        have p0 : ∀ W', Below W6.heap.size W6 W' → W'.cell? ⟨w1.heap.size, 0, none⟩ = some (.int .i64 px) := fun W' h => ((bl_then HBc6.out h).cell (p := ⟨w1.heap.size, 0, none⟩) hpc).trans HPc.out.1
        have p1 : ∀ W', Below W6.heap.size W6 W' → W'.cell? ⟨w1.heap.size, 1, none⟩ = some (.int .i64 py) := fun W' h => ((bl_then HBc6.out h).cell (p := ⟨w1.heap.size, 1, none⟩) hpc).trans HPc.out.2
        obtain ⟨I, hI⟩ : ∃ I, insideB px py k X Y = I := ⟨_, rfl⟩
        rw [hI]
        have HC : Hid (I = true → c0 = 0 ∧ meetB px py px py c1 c2 c3 c4 = true) := fun h => inside_boxW (hI.trans h) HF.out
        obtain ⟨M, hM⟩ : ∃ M, meetB x0 x1 x2 x3 y0 y1 y2 y3 = M := ⟨_, rfl⟩
        have HIb : Hid (∀ W', Below W6.heap.size W6 W' → Calls Try.prog 19 #[.agg #[.int .i64 px, .int .i64 py], .slice (some ⟨bb, 0, none⟩) k bc] W' fun e w' => e = .returned (.bool I) ∧ Below W'.heap.size W' w') := fun W' h => by
          have hbl' := bl_then HBc6.out h
          have := impl_IsInside_any px py bb k bc _ _ _ (HQBc.out.below hbl' hbbc) (Nat.lt_of_lt_of_le hbbc hbl'.size) hb3 hkm
          rw [inside_back px py k X Y (by omega), hI] at this
          exact this
        have HIt : Hid (∀ W', Below W6.heap.size W6 W' → Calls Try.prog 19 #[.agg #[.int .i64 px, .int .i64 py], .slice (some ⟨tb, 0, none⟩) k tc] W' fun e w' => e = .returned (.bool I) ∧ Below W'.heap.size W' w') := fun W' h => by
          have hbl' := bl_then HBc6.out h
          have := impl_IsInside_any px py tb k tc _ _ _ (HQTc.out.below hbl' ht2) (Nat.lt_of_lt_of_le ht2 hbl'.size) ht3 hkm
          rw [inside_turned px py k X Y (by omega), hI] at this
          exact this
        have HBx : Hid (∀ W', Below W6.heap.size W6 W' → Calls Try.prog 23 #[.slice (some ⟨b, 0, none⟩) k cp] W' fun e w' => e = .returned (.agg #[.int .i64 c0, .int .i64 c1, .int .i64 c2, .int .i64 c3, .int .i64 c4]) ∧ Below W'.heap.size W' w') := fun W' h => by
          have hbl' := bl_then HBc6.out h
          exact spec_BoxOf_any b k cp X Y _ (HQc.out.below hbl' hbc) (Nat.lt_of_lt_of_le hbc hbl'.size) hkc hkm c0 c1 c2 c3 c4 HF.out
        have HM1 : Hid (∀ W', Calls Try.prog 25 #[.agg #[.int .i64 x0, .int .i64 x1, .int .i64 x2, .int .i64 x3], .agg #[.int .i64 y0, .int .i64 y1, .int .i64 y2, .int .i64 y3]] W' fun e w' => e = .returned (.bool M) ∧ Below W'.heap.size W' w') := fun W' => by
          have := implDoMeet_any x0 x1 x2 x3 y0 y1 y2 y3 W'
          rw [hM] at this; exact this
        have HM2 : Hid (∀ W', Calls Try.prog 25 #[.agg #[.int .i64 y0, .int .i64 y1, .int .i64 y2, .int .i64 y3], .agg #[.int .i64 x0, .int .i64 x1, .int .i64 x2, .int .i64 x3]] W' fun e w' => e = .returned (.bool M) ∧ Below W'.heap.size W' w') := fun W' => by
          have := implDoMeet_any y0 y1 y2 y3 x0 x1 x2 x3 W'
          rw [meet_comm, hM] at this; exact this
        have HM3 : Hid (∀ W', Calls Try.prog 26 #[.agg #[.int .i64 x0, .int .i64 x1, .int .i64 x2, .int .i64 x3], .agg #[.int .i64 y0, .int .i64 y1, .int .i64 y2, .int .i64 y3]] W' fun e w' => e = .returned (.bool M) ∧ Below W'.heap.size W' w') := fun W' => by
          have := specDoMeet_any x0 x1 x2 x3 y0 y1 y2 y3 W'
          rw [hM] at this; exact this
        have HII : Hid (∀ W' v, Below W6.heap.size W6 W' → (v = .slice (some ⟨bb, 0, none⟩) k bc ∨ v = .slice (some ⟨tb, 0, none⟩) k tc) → Calls Try.prog 19 #[.agg #[.int .i64 px, .int .i64 py], v] W' fun e w' => e = .returned (.bool I) ∧ Below W'.heap.size W' w') := fun W' v h hv => by
          rcases hv with rfl | rfl
          · exact HIb.out W' h
          · exact HIt.out W' h
        have HMM : Hid (∀ W' u v, ((u = .agg #[.int .i64 x0, .int .i64 x1, .int .i64 x2, .int .i64 x3] ∧ v = .agg #[.int .i64 y0, .int .i64 y1, .int .i64 y2, .int .i64 y3]) ∨ (u = .agg #[.int .i64 y0, .int .i64 y1, .int .i64 y2, .int .i64 y3] ∧ v = .agg #[.int .i64 x0, .int .i64 x1, .int .i64 x2, .int .i64 x3])) → Calls Try.prog 25 #[u, v] W' fun e w' => e = .returned (.bool M) ∧ Below W'.heap.size W' w') := fun W' u v hv => by
          rcases hv with ⟨rfl, rfl⟩ | ⟨rfl, rfl⟩
          · exact HM1.out W'
          · exact HM2.out W'
        clear HIb HIt HM1 HM2
        have hfl1 : ∀ (c0 c1 c2 c3 c4 : Int) (w : World), (Instr.field 44 (.agg #[.int .i64 c0, .int .i64 c1, .int .i64 c2, .int .i64 c3, .int .i64 c4]) 1).run Try.prog w = .ok (.agg #[.int .i64 c1, .int .i64 c2, .int .i64 c3, .int .i64 c4]) w := fun _ _ _ _ _ _ => by kernel_rfl
        have HBw : Hid (Below w.heap.size w W6) := HB1.out.trans ((HB1c.out.mono HB1.out.size).trans (HBc6.out.mono (Nat.le_trans HB1.out.size HB1c.out.size)))
        clear hI hM hbc hbbc hpc hgl HQc HQBc HQTc HPc HG HBV5 HB56 HBc6 HBc HB1c HB1 HI1 HR HB1a HF hbl3 hpl3 hb1 hb3 ht1 ht2 ht3 hbw hbl hkm HOW HBW hi hz0 hz1 hz2
        have hr6 : Below W6.heap.size W6 W6 := Below.refl _ _
        simp only [List.append_eq, List.cons_append, List.nil_append]
        cases I
        · clear HC
          refine wp_region_noPanic ?_
          refine wp_region_held_drew (S := fun W' => Below W6.heap.size W6 W') (by kernel_rfl) (by (repeat (first | exact Below.refl _ _ | assumption | refine Below.drew ?_ | refine bl_alloc ?_ _ | refine bl_then ?_ (by assumption) | refine Below.setCell ?_ (by first | omega | (simp; done) | (simp; omega)) _ | refine bl_store ?_ ?_ _ _))) (fun hHeld => ?_)
          refine takeD (i := 0) (d := some 80) (v := ?v0) rfl rfl (by kernel_rfl) (by kernel_rfl) (by kernel_rfl) (fun _ _ _ h => h) (Or.inl ⟨by rfl, ?hy0⟩) (by assumption) ?_
          case hy0 => (intro w hSw; (try dsimp only at hSw); go_simp <;> with_reducible rfl)
          simp only [Act.put, List.setIfInBounds_toArray, List.set_cons_zero, List.set_cons_succ]
          refine takeD (i := 1) (d := some 81) (v := ?v1) rfl rfl (by kernel_rfl) (by kernel_rfl) (by kernel_rfl) (fun _ _ _ h => h) (Or.inl ⟨by rfl, ?hy1⟩) (by assumption) ?_
          case hy1 => (intro w hSw; (try dsimp only at hSw); go_simp <;> with_reducible rfl)
          simp only [Act.put, List.setIfInBounds_toArray, List.set_cons_zero, List.set_cons_succ]
          refine takeD (i := 3) (d := some 83) (v := ?v3) rfl rfl (by kernel_rfl) (by kernel_rfl) (by kernel_rfl) (fun _ _ _ h => h) (Or.inl ⟨by rfl, ?hy3⟩) (by assumption) ?_
          case hy3 => (intro w hSw; (try dsimp only at hSw); go_simp <;> with_reducible rfl)
          simp only [Act.put, List.setIfInBounds_toArray, List.set_cons_zero, List.set_cons_succ]
          refine wpAnyH_ready (rs := [2]) (by kernel_rfl) (by simp) ?_
          refine AllReadyH.cons rfl (fun K hK => ?_) AllReadyH.nil
          go_simp
          refine (HII.out _ _ (by assumption) (by first | exact .inl rfl | exact .inr rfl)).mono ?_
          rintro e w' ⟨rfl, hb⟩
          go_wp2_with fail
          refine hK.out _ _ (by (repeat (first | exact Below.refl _ _ | assumption | refine Below.drew ?_ | refine bl_alloc ?_ _ | refine bl_then ?_ (by assumption) | refine Below.setCell ?_ (by first | omega | (simp; done) | (simp; omega)) _ | refine bl_store ?_ ?_ _ _))) (fun hHeld => ?_)
          clear hK K
          try simp only [Act.put, List.setIfInBounds_toArray, List.set_cons_zero, List.set_cons_succ]
          refine takeD (i := 4) (d := some 84) (v := ?v4) rfl rfl (by kernel_rfl) (by kernel_rfl) (by kernel_rfl) (fun _ _ _ h => h) (Or.inl ⟨by rfl, ?hy4⟩) (by assumption) ?_
          case hy4 => (intro w hSw; (try dsimp only at hSw); go_simp <;> with_reducible rfl)
          simp only [Act.put, List.setIfInBounds_toArray, List.set_cons_zero, List.set_cons_succ]
          refine takeD (i := 5) (d := some 85) (v := ?v5) rfl rfl (by kernel_rfl) (by kernel_rfl) (by kernel_rfl) (fun _ _ _ h => h) (Or.inl ⟨by rfl, ?hy5⟩) (by assumption) ?_
          case hy5 => (intro w hSw; (try dsimp only at hSw); go_simp <;> with_reducible rfl)
          simp only [Act.put, List.setIfInBounds_toArray, List.set_cons_zero, List.set_cons_succ]
          refine takeD (i := 6) (d := some 86) (v := ?v6) rfl rfl (by kernel_rfl) (by kernel_rfl) (by kernel_rfl) (fun _ _ _ h => h) (Or.inl ⟨by rfl, ?hy6⟩) (by assumption) ?_
          case hy6 => (intro w hSw; (try dsimp only at hSw); go_simp <;> with_reducible rfl)
          simp only [Act.put, List.setIfInBounds_toArray, List.set_cons_zero, List.set_cons_succ]
          refine takeD (i := 7) (d := some 87) (v := ?v7) rfl rfl (by kernel_rfl) (by kernel_rfl) (by kernel_rfl) (fun _ _ _ h => h) (Or.inl ⟨by rfl, ?hy7⟩) (by assumption) ?_
          case hy7 => (intro w hSw; (try dsimp only at hSw); go_simp <;> with_reducible rfl)
          simp only [Act.put, List.setIfInBounds_toArray, List.set_cons_zero, List.set_cons_succ]
          refine takeD (i := 9) (d := some 89) (v := ?v9) rfl rfl (by kernel_rfl) (by kernel_rfl) (by kernel_rfl) (fun _ _ _ h => h) (Or.inl ⟨by rfl, ?hy9⟩) (by assumption) ?_
          case hy9 => (intro w hSw; (try dsimp only at hSw); go_simp <;> with_reducible rfl)
          simp only [Act.put, List.setIfInBounds_toArray, List.set_cons_zero, List.set_cons_succ]
          refine wpAnyH_ready (rs := [8]) (by kernel_rfl) (by simp) ?_
          refine AllReadyH.cons rfl (fun K hK => ?_) AllReadyH.nil
          go_simp
          refine (HII.out _ _ (by assumption) (by first | exact .inl rfl | exact .inr rfl)).mono ?_
          rintro e w' ⟨rfl, hb⟩
          go_wp2_with fail
          refine hK.out _ _ (by (repeat (first | exact Below.refl _ _ | assumption | refine Below.drew ?_ | refine bl_alloc ?_ _ | refine bl_then ?_ (by assumption) | refine Below.setCell ?_ (by first | omega | (simp; done) | (simp; omega)) _ | refine bl_store ?_ ?_ _ _))) (fun hHeld => ?_)
          clear hK K
          try simp only [Act.put, List.setIfInBounds_toArray, List.set_cons_zero, List.set_cons_succ]
          refine takeD (i := 10) (d := some 90) (v := ?v10) rfl rfl (by kernel_rfl) (by kernel_rfl) (by kernel_rfl) (fun _ _ _ h => h) (Or.inl ⟨by rfl, ?hy10⟩) (by assumption) ?_
          case hy10 => (intro w hSw; (try dsimp only at hSw); go_simp <;> with_reducible rfl)
          simp only [Act.put, List.setIfInBounds_toArray, List.set_cons_zero, List.set_cons_succ]
          refine takeD (i := 11) (d := some 91) (v := ?v11) rfl rfl (by kernel_rfl) (by kernel_rfl) (by kernel_rfl) (fun _ _ _ h => h) (Or.inl ⟨by rfl, ?hy11⟩) (by assumption) ?_
          case hy11 => (intro w hSw; (try dsimp only at hSw); go_simp <;> with_reducible rfl)
          simp only [Act.put, List.setIfInBounds_toArray, List.set_cons_zero, List.set_cons_succ]
          refine takeD (i := 12) (d := some 92) (v := ?v12) rfl rfl (by kernel_rfl) (by kernel_rfl) (by kernel_rfl) (fun _ _ _ h => h) (Or.inl ⟨by rfl, ?hy12⟩) (by assumption) ?_
          case hy12 => (intro w hSw; (try dsimp only at hSw); go_simp <;> with_reducible rfl)
          simp only [Act.put, List.setIfInBounds_toArray, List.set_cons_zero, List.set_cons_succ]
          refine takeD (i := 13) (d := some 93) (v := ?v13) rfl rfl (by kernel_rfl) (by kernel_rfl) (by kernel_rfl) (fun _ _ _ h => h) (Or.inl ⟨by rfl, ?hy13⟩) (by assumption) ?_
          case hy13 => (intro w hSw; (try dsimp only at hSw); go_simp <;> with_reducible rfl)
          simp only [Act.put, List.setIfInBounds_toArray, List.set_cons_zero, List.set_cons_succ]
          refine takeD (i := 14) (d := some 94) (v := ?v14) rfl rfl (by kernel_rfl) (by kernel_rfl) (by kernel_rfl) (fun _ _ _ h => h) (Or.inl ⟨by rfl, ?hy14⟩) (by assumption) ?_
          case hy14 => (intro w hSw; (try dsimp only at hSw); go_simp <;> with_reducible rfl)
          simp only [Act.put, List.setIfInBounds_toArray, List.set_cons_zero, List.set_cons_succ]
          refine takeD (i := 15) (d := some 95) (v := ?v15) rfl rfl (by kernel_rfl) (by kernel_rfl) (by kernel_rfl) (fun _ _ _ h => h) (Or.inl ⟨by rfl, ?hy15⟩) (by assumption) ?_
          case hy15 => (intro w hSw; (try dsimp only at hSw); go_simp <;> with_reducible rfl)
          simp only [Act.put, List.setIfInBounds_toArray, List.set_cons_zero, List.set_cons_succ]
          refine passD (i := 16) (d := some 96) rfl rfl (by kernel_rfl) (by kernel_rfl) (by kernel_rfl) (fun _ _ _ h => h) (by rfl) (by assumption) ?_
          simp only [Act.put, List.setIfInBounds_toArray, List.set_cons_zero, List.set_cons_succ]
          refine passD (i := 17) (d := some 97) rfl rfl (by kernel_rfl) (by kernel_rfl) (by kernel_rfl) (fun _ _ _ h => h) (by rfl) (by assumption) ?_
          simp only [Act.put, List.setIfInBounds_toArray, List.set_cons_zero, List.set_cons_succ]
          refine passD (i := 18) (d := some 98) rfl rfl (by kernel_rfl) (by kernel_rfl) (by kernel_rfl) (fun _ _ _ h => h) (by rfl) (by assumption) ?_
          simp only [Act.put, List.setIfInBounds_toArray, List.set_cons_zero, List.set_cons_succ]
          refine passD (i := 19) (d := some 99) rfl rfl (by kernel_rfl) (by kernel_rfl) (by kernel_rfl) (fun _ _ _ h => h) (by rfl) (by assumption) ?_
          simp only [Act.put, List.setIfInBounds_toArray, List.set_cons_zero, List.set_cons_succ]
          refine passD (i := 20) (d := some 100) rfl rfl (by kernel_rfl) (by kernel_rfl) (by kernel_rfl) (fun _ _ _ h => h) (by rfl) (by assumption) ?_
          simp only [Act.put, List.setIfInBounds_toArray, List.set_cons_zero, List.set_cons_succ]
          refine passD (i := 21) (d := some 101) rfl rfl (by kernel_rfl) (by kernel_rfl) (by kernel_rfl) (fun _ _ _ h => h) (by rfl) (by assumption) ?_
          simp only [Act.put, List.setIfInBounds_toArray, List.set_cons_zero, List.set_cons_succ]
          refine passD (i := 22) (d := some 102) rfl rfl (by kernel_rfl) (by kernel_rfl) (by kernel_rfl) (fun _ _ _ h => h) (by rfl) (by assumption) ?_
          simp only [Act.put, List.setIfInBounds_toArray, List.set_cons_zero, List.set_cons_succ]
          refine passD (i := 23) (d := some 103) rfl rfl (by kernel_rfl) (by kernel_rfl) (by kernel_rfl) (fun _ _ _ h => h) (by rfl) (by assumption) ?_
          simp only [Act.put, List.setIfInBounds_toArray, List.set_cons_zero, List.set_cons_succ]
          refine passD (i := 24) (d := some 104) rfl rfl (by kernel_rfl) (by kernel_rfl) (by kernel_rfl) (fun _ _ _ h => h) (by rfl) (by assumption) ?_
          simp only [Act.put, List.setIfInBounds_toArray, List.set_cons_zero, List.set_cons_succ]
          refine passD (i := 25) (d := some 105) rfl rfl (by kernel_rfl) (by kernel_rfl) (by kernel_rfl) (fun _ _ _ h => h) (by rfl) (by assumption) ?_
          simp only [Act.put, List.setIfInBounds_toArray, List.set_cons_zero, List.set_cons_succ]
          refine passD (i := 26) (d := some 106) rfl rfl (by kernel_rfl) (by kernel_rfl) (by kernel_rfl) (fun _ _ _ h => h) (by rfl) (by assumption) ?_
          simp only [Act.put, List.setIfInBounds_toArray, List.set_cons_zero, List.set_cons_succ]
          refine takeD (i := 27) (d := some 107) (v := ?v27) rfl rfl (by kernel_rfl) (by kernel_rfl) (by kernel_rfl) (fun _ _ _ h => h) (Or.inl ⟨by rfl, ?hy27⟩) (by assumption) ?_
          case hy27 => (intro w hSw; (try dsimp only at hSw); go_simp <;> with_reducible rfl)
          simp only [Act.put, List.setIfInBounds_toArray, List.set_cons_zero, List.set_cons_succ]
          refine takeD (i := 28) (d := some 108) (v := ?v28) rfl rfl (by kernel_rfl) (by kernel_rfl) (by kernel_rfl) (fun _ _ _ h => h) (Or.inl ⟨by rfl, ?hy28⟩) (by assumption) ?_
          case hy28 => (intro w hSw; (try dsimp only at hSw); go_simp <;> with_reducible rfl)
          simp only [Act.put, List.setIfInBounds_toArray, List.set_cons_zero, List.set_cons_succ]
          refine takeD (i := 29) (d := some 109) (v := ?v29) rfl rfl (by kernel_rfl) (by kernel_rfl) (by kernel_rfl) (fun _ _ _ h => h) (Or.inl ⟨by rfl, ?hy29⟩) (by assumption) ?_
          case hy29 => (intro w hSw; (try dsimp only at hSw); go_simp <;> with_reducible rfl)
          simp only [Act.put, List.setIfInBounds_toArray, List.set_cons_zero, List.set_cons_succ]
          refine takeD (i := 30) (d := some 110) (v := ?v30) rfl rfl (by kernel_rfl) (by kernel_rfl) (by kernel_rfl) (fun _ _ _ h => h) (Or.inl ⟨by rfl, ?hy30⟩) (by assumption) ?_
          case hy30 => (intro w hSw; (try dsimp only at hSw); go_simp <;> with_reducible rfl)
          simp only [Act.put, List.setIfInBounds_toArray, List.set_cons_zero, List.set_cons_succ]
          refine takeD (i := 31) (d := some 111) (v := ?v31) rfl rfl (by kernel_rfl) (by kernel_rfl) (by kernel_rfl) (fun _ _ _ h => h) (Or.inl ⟨by rfl, ?hy31⟩) (by assumption) ?_
          case hy31 => (intro w hSw; (try dsimp only at hSw); go_simp <;> with_reducible rfl)
          simp only [Act.put, List.setIfInBounds_toArray, List.set_cons_zero, List.set_cons_succ]
          refine takeD (i := 32) (d := some 112) (v := ?v32) rfl rfl (by kernel_rfl) (by kernel_rfl) (by kernel_rfl) (fun _ _ _ h => h) (Or.inl ⟨by rfl, ?hy32⟩) (by assumption) ?_
          case hy32 => (intro w hSw; (try dsimp only at hSw); go_simp <;> with_reducible rfl)
          simp only [Act.put, List.setIfInBounds_toArray, List.set_cons_zero, List.set_cons_succ]
          refine wpAnyH_ready (rs := [33]) (by kernel_rfl) (by simp) ?_
          refine AllReadyH.cons rfl (fun K hK => ?_) AllReadyH.nil
          go_simp
          refine (HBx.out _ (by assumption)).mono ?_
          rintro e w' ⟨rfl, hb⟩
          go_wp2_with fail
          refine hK.out _ _ (by (repeat (first | exact Below.refl _ _ | assumption | refine Below.drew ?_ | refine bl_alloc ?_ _ | refine bl_then ?_ (by assumption) | refine Below.setCell ?_ (by first | omega | (simp; done) | (simp; omega)) _ | refine bl_store ?_ ?_ _ _))) (fun hHeld => ?_)
          clear hK K
          try simp only [Act.put, List.setIfInBounds_toArray, List.set_cons_zero, List.set_cons_succ]
          refine takeD (i := 34) (d := some 114) (v := ?v34) rfl rfl (by kernel_rfl) (by kernel_rfl) (by kernel_rfl) (fun _ _ _ h => h) (Or.inl ⟨by rfl, ?hy34⟩) (by assumption) ?_
          case hy34 => (intro w hSw; (try dsimp only at hSw); go_simp <;> with_reducible rfl)
          simp only [Act.put, List.setIfInBounds_toArray, List.set_cons_zero, List.set_cons_succ]
          refine takeD (i := 35) (d := some 115) (v := ?v35) rfl rfl (by kernel_rfl) (by kernel_rfl) (by kernel_rfl) (fun _ _ _ h => h) (Or.inl ⟨by rfl, ?hy35⟩) (by assumption) ?_
          case hy35 => (intro w hSw; (try dsimp only at hSw); go_simp <;> with_reducible rfl)
          simp only [Act.put, List.setIfInBounds_toArray, List.set_cons_zero, List.set_cons_succ]
          refine takeD (i := 36) (d := some 116) (v := ?v36) rfl rfl (by kernel_rfl) (by kernel_rfl) (by kernel_rfl) (fun _ _ _ h => h) (Or.inl ⟨by rfl, ?hy36⟩) (by assumption) ?_
          case hy36 => (intro w hSw; (try dsimp only at hSw); go_simp <;> with_reducible rfl)
          simp only [Act.put, List.setIfInBounds_toArray, List.set_cons_zero, List.set_cons_succ]
          refine takeD (i := 37) (d := some 117) (v := ?v37) rfl rfl (by kernel_rfl) (by kernel_rfl) (by kernel_rfl) (fun _ _ _ h => h) (Or.inl ⟨by rfl, ?hy37⟩) (by assumption) ?_
          case hy37 => (intro w hSw; (try dsimp only at hSw); go_simp <;> with_reducible rfl)
          simp only [Act.put, List.setIfInBounds_toArray, List.set_cons_zero, List.set_cons_succ]
          refine takeD (i := 38) (d := some 118) (v := ?v38) rfl rfl (by kernel_rfl) (by kernel_rfl) (by kernel_rfl) (fun _ _ _ h => h) (Or.inl ⟨by rfl, ?hy38⟩) (by assumption) ?_
          case hy38 => (intro w hSw; (try dsimp only at hSw); go_simp <;> with_reducible rfl)
          simp only [Act.put, List.setIfInBounds_toArray, List.set_cons_zero, List.set_cons_succ]
          refine takeD (i := 39) (d := some 119) (v := ?v39) rfl rfl (by kernel_rfl) (by kernel_rfl) (by kernel_rfl) (fun _ _ _ h => h) (Or.inl ⟨by rfl, ?hy39⟩) (by assumption) ?_
          case hy39 => (intro w hSw; (try dsimp only at hSw); go_simp <;> with_reducible rfl)
          simp only [Act.put, List.setIfInBounds_toArray, List.set_cons_zero, List.set_cons_succ]
          refine takeD (i := 40) (d := some 120) (v := ?v40) rfl rfl (by kernel_rfl) (by kernel_rfl) (by kernel_rfl) (fun _ _ _ h => h) (Or.inl ⟨by rfl, ?hy40⟩) (by assumption) ?_
          case hy40 => (intro w hSw; (try dsimp only at hSw); go_simp <;> with_reducible rfl)
          simp only [Act.put, List.setIfInBounds_toArray, List.set_cons_zero, List.set_cons_succ]
          refine wpAnyH_ready (rs := [41]) (by kernel_rfl) (by simp) ?_
          refine AllReadyH.cons rfl (fun K hK => ?_) AllReadyH.nil
          go_simp
          refine (HBx.out _ (by assumption)).mono ?_
          rintro e w' ⟨rfl, hb⟩
          go_wp2_with fail
          refine hK.out _ _ (by (repeat (first | exact Below.refl _ _ | assumption | refine Below.drew ?_ | refine bl_alloc ?_ _ | refine bl_then ?_ (by assumption) | refine Below.setCell ?_ (by first | omega | (simp; done) | (simp; omega)) _ | refine bl_store ?_ ?_ _ _))) (fun hHeld => ?_)
          clear hK K
          try simp only [Act.put, List.setIfInBounds_toArray, List.set_cons_zero, List.set_cons_succ]
          refine takeD (i := 42) (d := some 122) (v := ?v42) rfl rfl (by kernel_rfl) (by kernel_rfl) (by kernel_rfl) (fun _ _ _ h => h) (Or.inl ⟨by rfl, ?hy42⟩) (by assumption) ?_
          case hy42 => (intro w hSw; (try dsimp only at hSw); go_simp <;> with_reducible rfl)
          simp only [Act.put, List.setIfInBounds_toArray, List.set_cons_zero, List.set_cons_succ]
          refine takeD (i := 43) (d := some 123) (v := ?v43) rfl rfl (by kernel_rfl) (by kernel_rfl) (by kernel_rfl) (fun _ _ _ h => h) (Or.inl ⟨by rfl, ?hy43⟩) (by assumption) ?_
          case hy43 => (intro w hSw; (try dsimp only at hSw); go_simp <;> with_reducible rfl)
          simp only [Act.put, List.setIfInBounds_toArray, List.set_cons_zero, List.set_cons_succ]
          refine takeD (i := 44) (d := some 124) (v := ?v44) rfl rfl (by kernel_rfl) (by kernel_rfl) (by kernel_rfl) (fun _ _ _ h => h) (Or.inl ⟨by rfl, ?hy44⟩) (by assumption) ?_
          case hy44 => (intro w hSw; (try dsimp only at hSw); go_simp <;> with_reducible rfl)
          simp only [Act.put, List.setIfInBounds_toArray, List.set_cons_zero, List.set_cons_succ]
          refine takeD (i := 45) (d := some 125) (v := ?v45) rfl rfl (by kernel_rfl) (by kernel_rfl) (by kernel_rfl) (fun _ _ _ h => h) (Or.inl ⟨by rfl, ?hy45⟩) (by assumption) ?_
          case hy45 => (intro w hSw; (try dsimp only at hSw); go_simp <;> with_reducible rfl)
          simp only [Act.put, List.setIfInBounds_toArray, List.set_cons_zero, List.set_cons_succ]
          refine takeD (i := 46) (d := some 126) (v := ?v46) rfl rfl (by kernel_rfl) (by kernel_rfl) (by kernel_rfl) (fun _ _ _ h => h) (Or.inl ⟨by rfl, ?hy46⟩) (by assumption) ?_
          case hy46 => (intro w hSw; (try dsimp only at hSw); go_simp <;> with_reducible rfl)
          simp only [Act.put, List.setIfInBounds_toArray, List.set_cons_zero, List.set_cons_succ]
          refine takeD (i := 47) (d := some 127) (v := ?v47) rfl rfl (by kernel_rfl) (by kernel_rfl) (by kernel_rfl) (fun _ _ _ h => h) (Or.inl ⟨by rfl, ?hy47⟩) (by assumption) ?_
          case hy47 => (intro w hSw; (try dsimp only at hSw); go_simp <;> with_reducible rfl)
          simp only [Act.put, List.setIfInBounds_toArray, List.set_cons_zero, List.set_cons_succ]
          refine takeD (i := 49) (d := some 129) (v := ?v49) rfl rfl (by kernel_rfl) (by kernel_rfl) (by kernel_rfl) (fun _ _ _ h => h) (Or.inl ⟨by rfl, ?hy49⟩) (by assumption) ?_
          case hy49 => (intro w hSw; (try dsimp only at hSw); go_simp <;> with_reducible rfl)
          simp only [Act.put, List.setIfInBounds_toArray, List.set_cons_zero, List.set_cons_succ]
          refine takeD (i := 50) (d := some 130) (v := ?v50) rfl rfl (by kernel_rfl) (by kernel_rfl) (by kernel_rfl) (fun _ _ _ h => h) (Or.inl ⟨by rfl, ?hy50⟩) (by assumption) ?_
          case hy50 => (intro w hSw; (try dsimp only at hSw); go_simp <;> with_reducible rfl)
          simp only [Act.put, List.setIfInBounds_toArray, List.set_cons_zero, List.set_cons_succ]
          refine wpAnyH_ready (rs := [48]) (by kernel_rfl) (by simp) ?_
          refine AllReadyH.cons rfl (fun K hK => ?_) AllReadyH.nil
          go_simp
          refine (HMM.out _ _ _ (by first | exact .inl ⟨rfl, rfl⟩ | exact .inr ⟨rfl, rfl⟩)).mono ?_
          rintro e w' ⟨rfl, hb⟩
          go_wp2_with fail
          refine hK.out _ _ (by (repeat (first | exact Below.refl _ _ | assumption | refine Below.drew ?_ | refine bl_alloc ?_ _ | refine bl_then ?_ (by assumption) | refine Below.setCell ?_ (by first | omega | (simp; done) | (simp; omega)) _ | refine bl_store ?_ ?_ _ _))) (fun hHeld => ?_)
          clear hK K
          try simp only [Act.put, List.setIfInBounds_toArray, List.set_cons_zero, List.set_cons_succ]
          refine wpAnyH_ready (rs := [51]) (by kernel_rfl) (by simp) ?_
          refine AllReadyH.cons rfl (fun K hK => ?_) AllReadyH.nil
          go_simp
          refine (HMM.out _ _ _ (by first | exact .inl ⟨rfl, rfl⟩ | exact .inr ⟨rfl, rfl⟩)).mono ?_
          rintro e w' ⟨rfl, hb⟩
          go_wp2_with fail
          refine hK.out _ _ (by (repeat (first | exact Below.refl _ _ | assumption | refine Below.drew ?_ | refine bl_alloc ?_ _ | refine bl_then ?_ (by assumption) | refine Below.setCell ?_ (by first | omega | (simp; done) | (simp; omega)) _ | refine bl_store ?_ ?_ _ _))) (fun hHeld => ?_)
          clear hK K
          try simp only [Act.put, List.setIfInBounds_toArray, List.set_cons_zero, List.set_cons_succ]
          refine takeD (i := 52) (d := some 132) (v := ?v52) rfl rfl (by kernel_rfl) (by kernel_rfl) (by kernel_rfl) (fun _ _ _ h => h) (Or.inl ⟨by rfl, ?hy52⟩) (by assumption) ?_
          case hy52 => (intro w hSw; (try dsimp only at hSw); go_simp <;> with_reducible rfl)
          simp only [Act.put, List.setIfInBounds_toArray, List.set_cons_zero, List.set_cons_succ]
          refine takeD (i := 53) (d := some 133) (v := ?v53) rfl rfl (by kernel_rfl) (by kernel_rfl) (by kernel_rfl) (fun _ _ _ h => h) (Or.inl ⟨by rfl, ?hy53⟩) (by assumption) ?_
          case hy53 => (intro w hSw; (try dsimp only at hSw); go_simp <;> with_reducible rfl)
          simp only [Act.put, List.setIfInBounds_toArray, List.set_cons_zero, List.set_cons_succ]
          refine takeD (i := 54) (d := some 134) (v := ?v54) rfl rfl (by kernel_rfl) (by kernel_rfl) (by kernel_rfl) (fun _ _ _ h => h) (Or.inl ⟨by rfl, ?hy54⟩) (by assumption) ?_
          case hy54 => (intro w hSw; (try dsimp only at hSw); go_simp <;> with_reducible rfl)
          simp only [Act.put, List.setIfInBounds_toArray, List.set_cons_zero, List.set_cons_succ]
          refine takeD (i := 55) (d := some 135) (v := ?v55) rfl rfl (by kernel_rfl) (by kernel_rfl) (by kernel_rfl) (fun _ _ _ h => h) (Or.inl ⟨by rfl, ?hy55⟩) (by assumption) ?_
          case hy55 => (intro w hSw; (try dsimp only at hSw); go_simp <;> with_reducible rfl)
          simp only [Act.put, List.setIfInBounds_toArray, List.set_cons_zero, List.set_cons_succ]
          refine takeD (i := 56) (d := some 136) (v := ?v56) rfl rfl (by kernel_rfl) (by kernel_rfl) (by kernel_rfl) (fun _ _ _ h => h) (Or.inl ⟨by rfl, ?hy56⟩) (by assumption) ?_
          case hy56 => (intro w hSw; (try dsimp only at hSw); go_simp <;> with_reducible rfl)
          simp only [Act.put, List.setIfInBounds_toArray, List.set_cons_zero, List.set_cons_succ]
          refine takeD (i := 58) (d := some 138) (v := ?v58) rfl rfl (by kernel_rfl) (by kernel_rfl) (by kernel_rfl) (fun _ _ _ h => h) (Or.inl ⟨by rfl, ?hy58⟩) (by assumption) ?_
          case hy58 => (intro w hSw; (try dsimp only at hSw); go_simp <;> with_reducible rfl)
          simp only [Act.put, List.setIfInBounds_toArray, List.set_cons_zero, List.set_cons_succ]
          refine takeD (i := 59) (d := some 139) (v := ?v59) rfl rfl (by kernel_rfl) (by kernel_rfl) (by kernel_rfl) (fun _ _ _ h => h) (Or.inl ⟨by rfl, ?hy59⟩) (by assumption) ?_
          case hy59 => (intro w hSw; (try dsimp only at hSw); go_simp <;> with_reducible rfl)
          simp only [Act.put, List.setIfInBounds_toArray, List.set_cons_zero, List.set_cons_succ]
          refine wpAnyH_ready (rs := [57]) (by kernel_rfl) (by simp) ?_
          refine AllReadyH.cons rfl (fun K hK => ?_) AllReadyH.nil
          go_simp
          refine (HMM.out _ _ _ (by first | exact .inl ⟨rfl, rfl⟩ | exact .inr ⟨rfl, rfl⟩)).mono ?_
          rintro e w' ⟨rfl, hb⟩
          go_wp2_with fail
          refine hK.out _ _ (by (repeat (first | exact Below.refl _ _ | assumption | refine Below.drew ?_ | refine bl_alloc ?_ _ | refine bl_then ?_ (by assumption) | refine Below.setCell ?_ (by first | omega | (simp; done) | (simp; omega)) _ | refine bl_store ?_ ?_ _ _))) (fun hHeld => ?_)
          clear hK K
          try simp only [Act.put, List.setIfInBounds_toArray, List.set_cons_zero, List.set_cons_succ]
          refine wpAnyH_ready (rs := [60]) (by kernel_rfl) (by simp) ?_
          refine AllReadyH.cons rfl (fun K hK => ?_) AllReadyH.nil
          go_simp
          refine (HM3.out _).mono ?_
          rintro e w' ⟨rfl, hb⟩
          go_wp2_with fail
          refine hK.out _ _ (by (repeat (first | exact Below.refl _ _ | assumption | refine Below.drew ?_ | refine bl_alloc ?_ _ | refine bl_then ?_ (by assumption) | refine Below.setCell ?_ (by first | omega | (simp; done) | (simp; omega)) _ | refine bl_store ?_ ?_ _ _))) (fun hHeld => ?_)
          clear hK K
          try simp only [Act.put, List.setIfInBounds_toArray, List.set_cons_zero, List.set_cons_succ]
          refine takeD (i := 61) (d := some 141) (v := ?v61) rfl rfl (by kernel_rfl) (by kernel_rfl) (by kernel_rfl) (fun _ _ _ h => h) (Or.inl ⟨by rfl, ?hy61⟩) (by assumption) ?_
          case hy61 => (intro w hSw; (try dsimp only at hSw); go_simp <;> with_reducible rfl)
          simp only [Act.put, List.setIfInBounds_toArray, List.set_cons_zero, List.set_cons_succ]
          refine takeD (i := 62) (d := some 142) (v := ?v62) rfl rfl (by kernel_rfl) (by kernel_rfl) (by kernel_rfl) (fun _ _ _ h => h) (Or.inl ⟨by rfl, ?hy62⟩) (by assumption) ?_
          case hy62 => (intro w hSw; (try dsimp only at hSw); go_simp <;> with_reducible rfl)
          simp only [Act.put, List.setIfInBounds_toArray, List.set_cons_zero, List.set_cons_succ]
          refine wpAnyH_take (i := 63) (v := ?v63) rfl (by kernel_rfl) (by kernel_rfl) (by kernel_rfl) (fun _ _ _ h => h) (Or.inl ⟨by rfl, ?hy63⟩) (by assumption) ?_
          case hy63 => (intro w hSw; (try dsimp only at hSw); go_simp <;> with_reducible rfl)
          refine wpAnyH_done (by kernel_rfl) ?_ _
          refine NoPanic.normal ?_
          go_wp2
          go_ret
          exact ⟨ret_bool (by simp), bl_then HBw.out (by assumption)⟩
        · obtain ⟨rfl, hmeet⟩ := HC.out rfl
          clear HC
          have HMP : Hid (∀ W', Calls Try.prog 25 #[.agg #[.int .i64 px, .int .i64 py, .int .i64 px, .int .i64 py], .agg #[.int .i64 c1, .int .i64 c2, .int .i64 c3, .int .i64 c4]] W' fun e w' => e = .returned (.bool true) ∧ Below W'.heap.size W' w') := fun W' => by
            have := implDoMeet_any px py px py c1 c2 c3 c4 W'
            rw [hmeet] at this; exact this
          have HM4 : Hid (∀ W' u v b, ((u = .agg #[.int .i64 x0, .int .i64 x1, .int .i64 x2, .int .i64 x3] ∧ v = .agg #[.int .i64 y0, .int .i64 y1, .int .i64 y2, .int .i64 y3] ∧ b = M) ∨ (u = .agg #[.int .i64 y0, .int .i64 y1, .int .i64 y2, .int .i64 y3] ∧ v = .agg #[.int .i64 x0, .int .i64 x1, .int .i64 x2, .int .i64 x3] ∧ b = M) ∨ (u = .agg #[.int .i64 px, .int .i64 py, .int .i64 px, .int .i64 py] ∧ v = .agg #[.int .i64 c1, .int .i64 c2, .int .i64 c3, .int .i64 c4] ∧ b = true)) → Calls Try.prog 25 #[u, v] W' fun e w' => e = .returned (.bool b) ∧ Below W'.heap.size W' w') := fun W' u v b hv => by
            rcases hv with ⟨rfl, rfl, rfl⟩ | ⟨rfl, rfl, rfl⟩ | ⟨rfl, rfl, rfl⟩
            · exact HMM.out W' _ _ (.inl ⟨rfl, rfl⟩)
            · exact HMM.out W' _ _ (.inr ⟨rfl, rfl⟩)
            · exact HMP.out W'
          clear HMM HMP hmeet
          first
          | (go_region_held3 (fun W' => Below W6.heap.size W6 W') ((repeat (first | exact Below.refl _ _ | assumption | refine Below.drew ?_ | refine bl_alloc ?_ _ | refine bl_then ?_ (by assumption) | refine Below.setCell ?_ (by first | omega | (simp; done) | (simp; omega)) _ | refine bl_store ?_ ?_ _ _)))
              (first
                | (go_at_call 19; refine (HII.out _ _ (by assumption) (by first | exact .inl rfl | exact .inr rfl)).mono ?_; rintro e w' ⟨rfl, hb⟩)
                | (go_at_call 23; refine (HBx.out _ (by assumption)).mono ?_; rintro e w' ⟨rfl, hb⟩)
                | (go_at_call 26; refine (HM3.out _).mono ?_; rintro e w' ⟨rfl, hb⟩)
                | (go_at_call 25; refine (HM4.out _ _ _ _ (by first | exact .inl ⟨rfl, rfl, rfl⟩ | exact .inr (.inl ⟨rfl, rfl, rfl⟩) | exact .inr (.inr ⟨rfl, rfl, rfl⟩))).mono ?_; rintro e w' ⟨rfl, hb⟩)))
          | fail
          go_wp2
          go_ret
          exact ⟨ret_bool (by simp), bl_then HBw.out (by assumption)⟩
end Go.Proofs.Ytlkjdbigpjpgeaa
