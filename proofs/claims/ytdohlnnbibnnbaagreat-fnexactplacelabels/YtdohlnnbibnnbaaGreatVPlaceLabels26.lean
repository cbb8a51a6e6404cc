/- Several texts in one. -/
import Derived.Test.YtdohlnnbibnnbaaGreatVPlaceLabels21
import Derived.Test.YtdohlnnbibnnbaaGreatVPlaceLabels9
import Derived.OwnWalk
import Derived.Deep.DeepMust
import Derived.Deep.DeepCutAuto
import Derived.Test.YtdohlnnbibnnbaaGreatVPlaceLabels4
import Derived.Test.YtdohlnnbibnnbaaGreatVPlaceLabels12

/- A list of points is snapped: the program's and the model's way. -/

namespace Go.Proofs.YtdohlnnbibnnbaaGreat
open Go.RowKit
set_option linter.unusedSimpArgs false
set_option linter.unusedVariables false

/-- The first n points, snapped; of those that are alike behind one another the first one. -/
def snapL (X Y : Nat → Int) (z : Int) : Nat → List (Int × Int)
  | 0 => []
  | k + 1 => if (snapL X Y z k).getLast? = some (snapI z (X k), snapI z (Y k)) then snapL X Y z k else snapL X Y z k ++ [(snapI z (X k), snapI z (Y k))]
theorem snapL_len (X Y : Nat → Int) (z : Int) : ∀ n, (snapL X Y z n).length ≤ n
  | 0 => Nat.le_refl _
  | k + 1 => by
    have := snapL_len X Y z k
    unfold snapL
    split
    · omega
    · simp; omega
theorem info_pt : (Tryz.prog.info? 111).map (fun i => (i.zero, i.size, i.bytes)) = some (some (.agg #[.int .i64 0, .int .i64 0]), 2, 16) := by kernel_rfl
/-- The last point of a row. -/
theorem Row.last {base : Nat} {w : World} {v : Value} {l : List (Int × Int)} (h : Row base w v l) (hne : 0 < l.length) :
    ∃ g cap x y, v = .slice (some ⟨g, 0, none⟩) l.length cap ∧ base ≤ g ∧ g < w.heap.size ∧ l.length ≤ cap ∧ l.getLast? = some (x, y) ∧ w.cell? ⟨g, (l.length - 1) * 2, none⟩ = some (.int .i64 x) ∧ w.cell? ⟨g, (l.length - 1) * 2 + 1, none⟩ = some (.int .i64 y) := by
  obtain ⟨a, cap, hv, hc, h0 | ⟨b, rfl, hb, hl, hp, ht⟩⟩ := h.own
  · omega
  · obtain ⟨e1, e2⟩ := hp (l.length - 1) (by omega)
    simp only [Nat.zero_add] at e1 e2
    refine ⟨b, cap, px l (l.length - 1), py l (l.length - 1), hv, hb, hl, hc, ?_, e1, e2⟩
    rw [List.getLast?_eq_getElem?, List.getElem?_eq_getElem (by omega)]
    simp [px, py, List.getD_eq_getElem?_getD, List.getElem?_eq_getElem (show l.length - 1 < l.length by omega)]

set_option maxRecDepth 8000 in
set_option maxHeartbeats 4000000 in
theorem l3Snap_any (b off n cap : Nat) (X Y : Nat → Int) (z : Int) (w : World) (hp : PtsAt w b off n X Y) (hbl : b < w.heap.size) (hn : n ≤ 12) (hz : zoomB z = true) (hin : ∀ i, i < n → inW (X i) (Y i) = true) :
    Calls Tryz.prog 116 #[.slice (some ⟨b, off, none⟩) n cap, .int .i64 z] w fun e w' => ∃ v, e = .returned v ∧ Row w.heap.size w' v (snapL X Y z n) ∧ Below w.heap.size w w' := by
  obtain ⟨i0, hi, hz0, hz1, hz2⟩ := info_parts info_pt
  have HP : Hid (PtsAt w b off n X Y) := hp
  have HIN : Hid (∀ i, i < n → inW (X i) (Y i) = true) := hin
  clear hp hin
  go_enter Tryz.func116, Tryz.ntmps116
  go_wp2_with fail
  generalize hW : (w.alloc _ : World) = W
  have hB0 : Below w.heap.size w W := by subst hW; (repeat (first | exact Below.refl _ _ | assumption | refine Below.drew ?_ | refine bl_alloc ?_ _ | refine bl_then ?_ (by assumption) | refine Below.setCell ?_ (by first | omega | (simp; done) | (simp; omega)) _ | refine bl_store ?_ ?_ _ _))
  have hO0 : W.ownsRow w.heap.size 111 2 (.slice (some ⟨w.heap.size, 0, none⟩) 0 0) 0 [] := by
    subst hW
    exact World.ownsRow_lit (base := w.heap.size) w #[] 0 (Nat.le_refl _) (Nat.zero_le _) rfl
  clear hW
  have HB0 : Hid (Below w.heap.size w W) := hB0
  have HO0 : Hid (Row w.heap.size W (.slice (some ⟨w.heap.size, 0, none⟩) 0 0) []) := hO0
  clear hB0 hO0
  go_loopw [5, 6] (fun v i wr => ∃ k : Nat, k ≤ n ∧ i = .int .i64 (k : Int) ∧ Row w.heap.size wr v (snapL X Y z k) ∧ Below w.heap.size w wr) (fun _ i _ => n - (intOf i).toNat)
  case atStart => exact ⟨0, by omega, rfl, HO0.out, HB0.out⟩
  case round =>
    obtain ⟨k, hk, rfl, hO, hB⟩ := hrel
    by_cases hlt : k < n
    · obtain ⟨hx, hy⟩ := (HP.out.below hB hbl) k hlt
      have HB : Hid (Below w.heap.size w wr) := hB
      have HO : Hid (Row w.heap.size wr u5 (snapL X Y z k)) := hO
      have hbw : b < wr.heap.size := Nat.lt_of_lt_of_le hbl hB.size
      clear hO hB
      have hi' : (k : Int) < (n : Int) := by omega
      go_wp2_with fail
      refine (l3Point_any _ _ _ _ hz (HIN.out k hlt)).mono ?_
      rintro e w1 ⟨rfl, hb1⟩
      have HO1 : Hid (Row w.heap.size w1 u5 (snapL X Y z k)) := HO.out.below hb1
      have HB1 : Hid (Below w.heap.size w w1) := bl_then HB.out hb1
      clear HO HB hb1 hx hy
      go_wp2_with fail
      generalize hV : (w1.alloc _ : World) = V
      have hbV : Below w1.heap.size w1 V := by subst hV; (repeat (first | exact Below.refl _ _ | assumption | refine Below.drew ?_ | refine bl_alloc ?_ _ | refine bl_then ?_ (by assumption) | refine Below.setCell ?_ (by first | omega | (simp; done) | (simp; omega)) _ | refine bl_store ?_ ?_ _ _))
      have d0 : ∀ W', Below V.heap.size V W' → W'.cell? ⟨w1.heap.size, 0, none⟩ = some (.int .i64 (snapI z (X k))) := fun W' h => by
        rw [h.cell (by subst hV; simp)]; subst hV; simp [go_sem]
      have d1 : ∀ W', Below V.heap.size V W' → W'.cell? ⟨w1.heap.size, 1, none⟩ = some (.int .i64 (snapI z (Y k))) := fun W' h => by
        rw [h.cell (by subst hV; simp)]; subst hV; simp [go_sem]
      clear hV
      have HO2 : Hid (Row w.heap.size V u5 (snapL X Y z k)) := HO1.out.below hbV
      have HB2 : Hid (Below w.heap.size w V) := bl_then HB1.out hbV
      clear HO1 HB1 hbV
      have hlen := snapL_len X Y z k
      have hrV : Below V.heap.size V V := Below.refl _ _
      go_cut [33] (fun t wc => Below V.heap.size V wc ∧ t = .bool (decide ¬ ((snapL X Y z k).getLast? = some (snapI z (X k), snapI z (Y k)))))
      case first =>
        by_cases h0 : (snapL X Y z k).length = 0
        · have hnil : snapL X Y z k = [] := List.length_eq_zero_iff.1 h0
          obtain ⟨a5, cap5, hu5, _, _⟩ := HO2.out.own
          rw [h0] at hu5
          subst hu5
          have HN : Hid (snapL X Y z k = []) := hnil
          clear hnil h0 hlen
          refine wp_region_noPanic ?_
          refine wp_region_held_drew (S := fun W' => Below V.heap.size V W') (by kernel_rfl) (by (repeat (first | exact Below.refl _ _ | assumption | refine Below.drew ?_ | refine bl_alloc ?_ _ | refine bl_then ?_ (by assumption)))) (fun hHeld => ?_)
          refine takeD (i := 0) (d := some 21) (v := ?v0) rfl rfl (by kernel_rfl) (by kernel_rfl) (by kernel_rfl) (fun _ _ _ h => h) (Or.inl ⟨by rfl, ?hy0⟩) (by assumption) ?_
          case hy0 => (intro w hSw; (try dsimp only at hSw); go_simp <;> with_reducible rfl)
          simp only [Act.put, List.setIfInBounds_toArray, List.set_cons_zero, List.set_cons_succ]
          refine takeD (i := 1) (d := some 22) (v := ?v1) rfl rfl (by kernel_rfl) (by kernel_rfl) (by kernel_rfl) (fun _ _ _ h => h) (Or.inl ⟨by rfl, ?hy1⟩) (by assumption) ?_
          case hy1 => (intro w hSw; (try dsimp only at hSw); go_simp <;> with_reducible rfl)
          simp only [Act.put, List.setIfInBounds_toArray, List.set_cons_zero, List.set_cons_succ]
          refine takeD (i := 2) (d := some 23) (v := ?v2) rfl rfl (by kernel_rfl) (by kernel_rfl) (by kernel_rfl) (fun _ _ _ h => h) (Or.inl ⟨by rfl, ?hy2⟩) (by assumption) ?_
          case hy2 => (intro w hSw; (try dsimp only at hSw); go_simp <;> with_reducible rfl)
          simp only [Act.put, List.setIfInBounds_toArray, List.set_cons_zero, List.set_cons_succ]
          refine takeD (i := 3) (d := some 24) (v := ?v3) rfl rfl (by kernel_rfl) (by kernel_rfl) (by kernel_rfl) (fun _ _ _ h => h) (Or.inl ⟨by rfl, ?hy3⟩) (by assumption) ?_
          case hy3 => (intro w hSw; (try dsimp only at hSw); go_simp <;> with_reducible rfl)
          simp only [Act.put, List.setIfInBounds_toArray, List.set_cons_zero, List.set_cons_succ]
          refine passD (i := 4) (d := some 25) rfl rfl (by kernel_rfl) (by kernel_rfl) (by kernel_rfl) (fun _ _ _ h => h) (by rfl) (by assumption) ?_
          simp only [Act.put, List.setIfInBounds_toArray, List.set_cons_zero, List.set_cons_succ]
          refine passD (i := 5) (d := some 26) rfl rfl (by kernel_rfl) (by kernel_rfl) (by kernel_rfl) (fun _ _ _ h => h) (by rfl) (by assumption) ?_
          simp only [Act.put, List.setIfInBounds_toArray, List.set_cons_zero, List.set_cons_succ]
          refine passD (i := 6) (d := some 27) rfl rfl (by kernel_rfl) (by kernel_rfl) (by kernel_rfl) (fun _ _ _ h => h) (by rfl) (by assumption) ?_
          simp only [Act.put, List.setIfInBounds_toArray, List.set_cons_zero, List.set_cons_succ]
          refine passD (i := 7) (d := some 28) rfl rfl (by kernel_rfl) (by kernel_rfl) (by kernel_rfl) (fun _ _ _ h => h) (by rfl) (by assumption) ?_
          simp only [Act.put, List.setIfInBounds_toArray, List.set_cons_zero, List.set_cons_succ]
          refine passD (i := 8) (d := some 29) rfl rfl (by kernel_rfl) (by kernel_rfl) (by kernel_rfl) (fun _ _ _ h => h) (by rfl) (by assumption) ?_
          simp only [Act.put, List.setIfInBounds_toArray, List.set_cons_zero, List.set_cons_succ]
          refine passD (i := 9) (d := some 30) rfl rfl (by kernel_rfl) (by kernel_rfl) (by kernel_rfl) (fun _ _ _ h => h) (by rfl) (by assumption) ?_
          simp only [Act.put, List.setIfInBounds_toArray, List.set_cons_zero, List.set_cons_succ]
          refine passD (i := 10) (d := some 31) rfl rfl (by kernel_rfl) (by kernel_rfl) (by kernel_rfl) (fun _ _ _ h => h) (by rfl) (by assumption) ?_
          simp only [Act.put, List.setIfInBounds_toArray, List.set_cons_zero, List.set_cons_succ]
          refine passD (i := 11) (d := some 32) rfl rfl (by kernel_rfl) (by kernel_rfl) (by kernel_rfl) (fun _ _ _ h => h) (by rfl) (by assumption) ?_
          simp only [Act.put, List.setIfInBounds_toArray, List.set_cons_zero, List.set_cons_succ]
          refine takeD (i := 12) (d := some 33) (v := ?v12) rfl rfl (by kernel_rfl) (by kernel_rfl) (by kernel_rfl) (fun _ _ _ h => h) (Or.inl ⟨by rfl, ?hy12⟩) (by assumption) ?_
          case hy12 => (intro w hSw; (try dsimp only at hSw); go_simp <;> with_reducible rfl)
          simp only [Act.put, List.setIfInBounds_toArray, List.set_cons_zero, List.set_cons_succ]
          refine wpAnyH_done (by kernel_rfl) ?_ _
          refine NoPanic.normal ?_
          go_wp2_with fail
          go_meet
          case rel => exact ⟨by assumption, by rw [HN.out]; simp⟩
        · obtain ⟨g, cap5, x, y, hu5, hg1, hg2, hc5, hlast, e0, e1⟩ := HO2.out.last (by omega)
          have HLA : Hid ((snapL X Y z k).getLast? = some (x, y)) := hlast
          clear hlast
          generalize hL : (snapL X Y z k).length = L at *
          obtain ⟨M, hM1⟩ : ∃ M, M = L - 1 := ⟨L - 1, rfl⟩
          rw [← hM1] at e0 e1
          subst hu5
          have hM : IntKind.i64.wrap ((L : Int) - 1) = (M : Int) := by
            have e : (L : Int) - 1 = (M : Int) := by omega
            rw [e]
            exact IntWalk.i64_in _ (by omega)
          have hMl : (M : Int) < (L : Int) := by omega
          have hM0 : (0 : Int) ≤ (M : Int) := by omega
          have hL0 : ((L : Int) == 0) = false := by simp; omega
          clear hM1 hL h0
          have g0 : ∀ W', Below V.heap.size V W' → W'.cell? ⟨g, M * 2, none⟩ = some (.int .i64 x) := fun W' h => bl_cell h e0
          have g1 : ∀ W', Below V.heap.size V W' → W'.cell? ⟨g, M * 2 + 1, none⟩ = some (.int .i64 y) := fun W' h => bl_cell h e1
          clear e0 e1
          by_cases he : x = snapI z (X k)
          · by_cases he2 : y = snapI z (Y k)
            · subst he he2
              go_region_held3 (fun W' => Below V.heap.size V W') ((repeat (first | exact Below.refl _ _ | assumption | refine Below.drew ?_ | refine bl_alloc ?_ _ | refine bl_then ?_ (by assumption) | refine Below.setCell ?_ (by first | omega | (simp; done) | (simp; omega)) _ | refine bl_store ?_ ?_ _ _))) (fail)
              go_wp2_with fail
              go_meet
              case rel => exact ⟨by assumption, by rw [HLA.out]; simp⟩
            · subst he
              have he3 : (y == snapI z (Y k)) = false := by simpa using he2
              go_region_held3 (fun W' => Below V.heap.size V W') ((repeat (first | exact Below.refl _ _ | assumption | refine Below.drew ?_ | refine bl_alloc ?_ _ | refine bl_then ?_ (by assumption) | refine Below.setCell ?_ (by first | omega | (simp; done) | (simp; omega)) _ | refine bl_store ?_ ?_ _ _))) (fail)
              go_wp2_with fail
              go_meet
              case rel => exact ⟨by assumption, by rw [HLA.out]; simp [he2]⟩
          · have he3 : (x == snapI z (X k)) = false := by simpa using he
            go_region_held3 (fun W' => Below V.heap.size V W') ((repeat (first | exact Below.refl _ _ | assumption | refine Below.drew ?_ | refine bl_alloc ?_ _ | refine bl_then ?_ (by assumption) | refine Below.setCell ?_ (by first | omega | (simp; done) | (simp; omega)) _ | refine bl_store ?_ ?_ _ _))) (fail)
            go_wp2_with fail
            go_meet
            case rel => exact ⟨by assumption, by rw [HLA.out]; simp [he]⟩
      case rest =>
        obtain ⟨hBc, rfl⟩ := hcut
        have q0 := d0 _ hBc
        have q1 := d1 _ hBc
        have HOc : Hid (Row w.heap.size wc u5 (snapL X Y z k)) := HO2.out.below hBc
        have HBc : Hid (Below w.heap.size w wc) := bl_then HB2.out hBc
        have hszc : w.heap.size ≤ wc.heap.size := HBc.out.size
        have hw1 := World.block_lt_of_cell? _ _ q0
        clear d0 d1 HO2 HB2 hBc hrV
        by_cases hlast : (snapL X Y z k).getLast? = some (snapI z (X k), snapI z (Y k))
        · have hs : snapL X Y z (k + 1) = snapL X Y z k := by rw [snapL, if_pos hlast]
          have HS : Hid (snapL X Y z (k + 1) = snapL X Y z k) := hs
          have hdec : (decide ¬ ((snapL X Y z k).getLast? = some (snapI z (X k), snapI z (Y k)))) = false := by simp [hlast]
          rw [hdec]
          clear hs hdec hlast
          go_wp2_with fail
          go_roundw
          case rel => exact ⟨k + 1, by omega, by go_num, by rw [HS.out]; exact HOc.out, HBc.out⟩
          case measure => simp [intOf]; omega
        · have hs : snapL X Y z (k + 1) = snapL X Y z k ++ [(snapI z (X k), snapI z (Y k))] := by rw [snapL, if_neg hlast]
          have HS : Hid (snapL X Y z (k + 1) = snapL X Y z k ++ [(snapI z (X k), snapI z (Y k))]) := hs
          have hdec : (decide ¬ ((snapL X Y z k).getLast? = some (snapI z (X k), snapI z (Y k)))) = true := by simp [hlast]
          rw [hdec]
          clear hs hdec hlast
          go_wp2_with (first
            | (at_builtin; go_must (refine wpList_append_own _ rfl _ _ 34 rfl w.heap.size 111 i0 (.agg #[.int .i64 0, .int .i64 0]) 2 16 Tryz.underlying34 hi hz0 hz1 hz2 rfl (by decide) _ (snapL X Y z k).length (cellsL (snapL X Y z k)) rfl (World.ownsRow.alloc HOc.out _) ⟨wc.heap.size, 0, none⟩ 1 1 [.int .i64 (snapI z (X k)), .int .i64 (snapI z (Y k))] rfl rfl ?c1 ?c2 ?c3 ?c4 ?c5 ?_)))
          case c2 => first | (intro u hu; simp at hu; rcases hu with rfl | rfl <;> rfl) | exact ⟨rfl, rfl⟩
          case c3 => unfold maxLen; omega
          case c4 => omega
          case c5 => first | omega | (simp; omega)
          intro v' w3 hown' hgrow hnil
          clear hnil
          have hBg : Below w.heap.size (wc.alloc (.cells #[.int .i64 (snapI z (X k)), .int .i64 (snapI z (Y k))] 111)) w3 := (Below.refl _ _).grown hgrow (by simp; omega) (fun k hk => (HOc.out.lt k hk).1)
          have hBa : Below w.heap.size wc (wc.alloc (.cells #[.int .i64 (snapI z (X k)), .int .i64 (snapI z (Y k))] 111)) := (Below.refl _ _).alloc hszc _
          have HB3 : Hid (Below w.heap.size w w3) := (HBc.out.trans hBa).trans hBg
          have HO3 : Hid (Row w.heap.size w3 v' (snapL X Y z (k + 1))) := by
            show Row _ _ _ _
            rw [HS.out]
            show World.ownsRow _ _ _ _ _ _ _
            rw [cellsL_add, List.length_append]
            exact hown'
          clear hown' hgrow hBg hBa
          go_wp2
          go_roundw
          case rel => exact ⟨k + 1, by omega, by go_num, HO3.out, HB3.out⟩
          case measure => simp [intOf]; omega
    · go_wp2
      go_ret
      have hkn : k = n := by omega
      subst hkn
      exact ⟨_, rfl, hO, hB⟩
end Go.Proofs.YtdohlnnbibnnbaaGreat
/- The model's SnapAll. -/

namespace Go.Proofs.YtdohlnnbibnnbaaGreat
open Go.RowKit
set_option linter.unusedSimpArgs false
set_option linter.unusedVariables false

/-- All points are in the world. -/
def allIn (n : Nat) (X Y : Nat → Int) : Bool := decide (∀ i, i < n → inW (X i) (Y i) = true)
/-- The code of SnapAll. -/
def snapC (z : Int) (n : Nat) (X Y : Nat → Int) : Int := if zoomB z = true then (if n ≤ 12 then (if allIn n X Y = true then 0 else 3) else 2) else 3
/-- The points that SnapAll answers. -/
def snapR (z : Int) (n : Nat) (X Y : Nat → Int) : List (Int × Int) := if snapC z n X Y = 0 then snapL X Y z n else []
theorem snapR_no {z : Int} {n : Nat} {X Y : Nat → Int} (h : snapC z n X Y ≠ 0) : snapR z n X Y = [] := by simp [snapR, h]
theorem allIn_no {n : Nat} {X Y : Nat → Int} {k : Nat} (hk : k < n) (h : inW (X k) (Y k) = false) : allIn n X Y = false := by
  unfold allIn
  rw [decide_eq_false_iff_not]
  intro hc
  have := hc k hk
  rw [h] at this
  cases this
theorem allIn_ok {n : Nat} {X Y : Nat → Int} (h : ∀ i, i < n → inW (X i) (Y i) = true) : allIn n X Y = true := decide_eq_true h

/-- A row is as it was, with another base, where another block was written. -/
theorem Row.set2 {base B r : Nat} {w : World} {v : Value} {l : List (Int × Int)} {x y : Value} (h : Row base w v l) (hB : B ≤ base ∧ r < base) : Row B ((w.setCell ⟨r, 0, none⟩ x).setCell ⟨r, 1, none⟩ y) v l := by
  obtain ⟨h1, h2 | ⟨g, cp, cur, hv, hg, hh, hr⟩⟩ := h
  · exact ⟨h1, .inl h2⟩
  · refine ⟨h1, .inr ⟨g, cp, cur, hv, by omega, ?_, hr⟩⟩
    rw [Below.heap_setCell _ _ _ _ (by simp; omega), Below.heap_setCell _ _ _ _ (by simp; omega)]
    exact hh

end Go.Proofs.YtdohlnnbibnnbaaGreat
