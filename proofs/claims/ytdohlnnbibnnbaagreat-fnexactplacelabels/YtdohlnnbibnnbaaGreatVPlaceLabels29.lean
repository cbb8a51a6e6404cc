/- The program's SnapAll. -/
import Derived.Test.YtdohlnnbibnnbaaGreatVPlaceLabels26
namespace Go.Proofs.YtdohlnnbibnnbaaGreat
open Go.RowKit
set_option linter.unusedSimpArgs false
set_option linter.unusedVariables false

set_option maxRecDepth 8000 in
set_option maxHeartbeats 4000000 in
theorem impl_SnapAll_any {off : Nat} (b n cap : Nat) (X Y : Nat → Int) (z : Int) (w : World) (hp : PtsAt w b off n X Y) (hbl : b < w.heap.size) (hn : n ≤ 1048576) :
    Calls Tryz.prog 60 #[.slice (some ⟨b, off, none⟩) n cap, .int .i64 z] w fun e w' => ∃ v, e = .returned (.agg #[.int .i64 (snapC z n X Y), v]) ∧ Row w.heap.size w' v (snapR z n X Y) ∧ Below w.heap.size w w' := by
  obtain ⟨i0, hi, hz0, hz1, hz2⟩ := info_parts info_pt
  have HP : Hid (PtsAt w b off n X Y) := hp
  clear hp
  go_enter Tryz.func60, Tryz.ntmps60
  go_wp2_with fail
  generalize hW : (w.alloc _ : World) = W
  have HB0 : Hid (Below w.heap.size w W) := by show Below _ _ _; subst hW; (repeat (first | exact Below.refl _ _ | assumption | refine Below.drew ?_ | refine bl_alloc ?_ _ | refine bl_then ?_ (by assumption) | refine Below.setCell ?_ (by first | omega | (simp; done) | (simp; omega)) _ | refine bl_store ?_ ?_ _ _))
  have HT : Hid (There W w.heap.size 2) := by
    show There _ _ _
    subst hW
    exact there2 w (.int .i64 0) (.slice none 0 0) 99
  have hsz : w.heap.size < W.heap.size := by subst hW; simp
  clear hW
  have hr : Below W.heap.size W W := Below.refl _ _
  refine (isZoom_any _ _).mono ?_
  rintro e w' ⟨rfl, rfl⟩
  cases h : zoomB z
  · have hc : snapC z n X Y = 3 := by simp [snapC, h]
    have hT' := HT.out
    have t0 := hT'.cell 0 (by omega)
    have t1 := hT'.cell 1 (by omega)
    have f0 := (hT' 0 (by omega)).2
    have f1 := (hT' 1 (by omega)).2
    clear hT'
    go_wp2_with fail
    refine bodyPost_ret (v := .agg #[.int .i64 3, .slice none 0 0]) (by simp [results, Tryz.results60, go_sem, set2_0 (Option.isSome_iff_exists.2 ⟨_, t0⟩), set2_1 (Option.isSome_iff_exists.2 ⟨_, t1⟩)]) rfl ⟨.slice none 0 0, by rw [hc], by rw [snapR_no (by rw [hc]; decide)]; exact Row.no _ _, ?_⟩
    have HB1 := HB0.out
    (repeat (first | exact Below.refl _ _ | assumption | refine Below.drew ?_ | refine bl_alloc ?_ _ | refine bl_then ?_ (by assumption) | refine Below.setCell ?_ (by first | omega | (simp; done) | (simp; omega)) _ | refine bl_store ?_ ?_ _ _))
  · by_cases h12 : 12 < n
    · have hc : snapC z n X Y = 2 := by simp [snapC, h]; omega
      have hT' := HT.out
      have t0 := hT'.cell 0 (by omega)
      have t1 := hT'.cell 1 (by omega)
      have f0 := (hT' 0 (by omega)).2
      have f1 := (hT' 1 (by omega)).2
      have hni : (12 : Int) < (n : Int) := by omega
      clear hT'
      go_wp2_with fail
      refine bodyPost_ret (v := .agg #[.int .i64 2, .slice none 0 0]) (by simp [results, Tryz.results60, go_sem, set2_0 (Option.isSome_iff_exists.2 ⟨_, t0⟩), set2_1 (Option.isSome_iff_exists.2 ⟨_, t1⟩)]) rfl ⟨.slice none 0 0, by rw [hc], by rw [snapR_no (by rw [hc]; decide)]; exact Row.no _ _, ?_⟩
      have HB1 := HB0.out
      (repeat (first | exact Below.refl _ _ | assumption | refine Below.drew ?_ | refine bl_alloc ?_ _ | refine bl_then ?_ (by assumption) | refine Below.setCell ?_ (by first | omega | (simp; done) | (simp; omega)) _ | refine bl_store ?_ ?_ _ _))
    · have hni : ¬ (12 : Int) < (n : Int) := by omega
      go_wp2_with fail
      go_loopw [5, 20] (fun v i wr => ∃ k : Nat, k ≤ n ∧ i = .int .i64 (k : Int) ∧ (∀ j, j < k → inW (X j) (Y j) = true) ∧ Row W.heap.size wr v (snapL X Y z k) ∧ Below W.heap.size W wr) (fun _ i _ => n - (intOf i).toNat)
      case atStart => exact ⟨0, by omega, rfl, fun j hj => by omega, Row.no _ _, Below.refl _ _⟩
      case round =>
        obtain ⟨k, hk, rfl, hall, hO, hB⟩ := hrel
        have HALL : Hid (∀ j, j < k → inW (X j) (Y j) = true) := hall
        have HBw : Hid (Below w.heap.size w wr) := bl_then HB0.out hB
        have HTw : Hid (There wr w.heap.size 2) := HT.out.below hB
        have hszw := hB.size
        have HBr : Hid (Below W.heap.size W wr) := hB
        have HO : Hid (Row W.heap.size wr u5 (snapL X Y z k)) := hO
        clear hall hB hO
        by_cases hlt : k < n
        · obtain ⟨hx, hy⟩ := (HP.out.below HBw.out hbl) k hlt
          try simp only [Nat.zero_add] at hx hy
          have hi' : (k : Int) < (n : Int) := by omega
          go_wp2_with fail
          generalize hV1 : (wr.alloc _ : World) = V1
          have hbV1 : Below wr.heap.size wr V1 := by subst hV1; (repeat (first | exact Below.refl _ _ | assumption | refine Below.drew ?_ | refine bl_alloc ?_ _ | refine bl_then ?_ (by assumption) | refine Below.setCell ?_ (by first | omega | (simp; done) | (simp; omega)) _ | refine bl_store ?_ ?_ _ _))
          clear hV1
          refine (impl_SnapPoint_any _ _ _ _).mono ?_
          rintro e w1 ⟨rfl, hb1⟩
          have hbr1 := bl_then hbV1 hb1
          have HB1 : Hid (Below w.heap.size w w1) := bl_then HBw.out hbr1
          have HT1 : Hid (There w1 w.heap.size 2) := HTw.out.below hbr1
          have HO1 : Hid (Row W.heap.size w1 u5 (snapL X Y z k)) := HO.out.below hbr1
          have HBW1 : Hid (Below W.heap.size W w1) := bl_then HBr.out hbr1
          have hsz1 := hbr1.size
          clear hbV1 hb1 hbr1 HO HTw HBw HBr hx hy
          cases hq : inW (X k) (Y k)
          · have hv : snapV (X k) (Y k) z = .agg #[.int .i64 3, .int .i64 0, .int .i64 0] := by simp [snapV, h, hq]
            rw [hv]
            have hc : snapC z n X Y = 3 := by simp [snapC, h, allIn_no hlt hq]; omega
            have hT' := HT1.out
            have t0 := hT'.cell 0 (by omega)
            have t1 := hT'.cell 1 (by omega)
            have f0 := (hT' 0 (by omega)).2
            have f1 := (hT' 1 (by omega)).2
            clear hT' hv
            have hl1 : w.heap.size < w1.heap.size := by omega
            go_wp2_with fail
            refine bodyPost_ret (v := .agg #[.int .i64 3, .slice none 0 0]) (by simp [results, Tryz.results60, go_sem, hl1, set2_0 (Option.isSome_iff_exists.2 ⟨_, t0⟩), set2_1 (Option.isSome_iff_exists.2 ⟨_, t1⟩)]) rfl ⟨.slice none 0 0, by rw [hc], by rw [snapR_no (by rw [hc]; decide)]; exact Row.no _ _, ?_⟩
            have HB2 := HB1.out
            (repeat (first | exact Below.refl _ _ | assumption | refine Below.drew ?_ | refine bl_alloc ?_ _ | refine bl_then ?_ (by assumption) | refine Below.setCell ?_ (by first | omega | (simp; done) | (simp; omega)) _ | refine bl_store ?_ ?_ _ _))
          · have hv : snapV (X k) (Y k) z = .agg #[.int .i64 0, .int .i64 (snapI z (X k)), .int .i64 (snapI z (Y k))] := by simp [snapV, h, hq]
            rw [hv]
            have HAL1 : Hid (∀ j, j < k + 1 → inW (X j) (Y j) = true) := fun j hj => by
              by_cases e : j = k
              · rw [e]; exact hq
              · exact HALL.out j (by omega)
            clear hv
            obtain ⟨a5, c5, hu5, _, _⟩ := HO1.out.own
            have hlen := snapL_len X Y z k
            obtain ⟨L, HL⟩ : ∃ L, Hid ((snapL X Y z k).length = L) := ⟨_, rfl⟩
            rw [HL.out] at hu5 hlen
            subst hu5
            go_wp2_with fail
            generalize hV : (w1.alloc _ : World) = V
            have hbV : Below w1.heap.size w1 V := by subst hV; (repeat (first | exact Below.refl _ _ | assumption | refine Below.drew ?_ | refine bl_alloc ?_ _ | refine bl_then ?_ (by assumption) | refine Below.setCell ?_ (by first | omega | (simp; done) | (simp; omega)) _ | refine bl_store ?_ ?_ _ _))
            have d0 : ∀ W', Below V.heap.size V W' → W'.cell? ⟨w1.heap.size, 1, none⟩ = some (.int .i64 (snapI z (X k))) := fun W' h => by
              rw [h.cell (by subst hV; simp)]; subst hV; simp [go_sem]
            have d1 : ∀ W', Below V.heap.size V W' → W'.cell? ⟨w1.heap.size, 2, none⟩ = some (.int .i64 (snapI z (Y k))) := fun W' h => by
              rw [h.cell (by subst hV; simp)]; subst hV; simp [go_sem]
            clear hV
            have HO2 : Hid (Row W.heap.size V (.slice a5 L c5) (snapL X Y z k)) := HO1.out.below hbV
            have HB2 : Hid (Below W.heap.size W V) := bl_then HBW1.out hbV
            clear HO1 hbV HBW1
            have hrV : Below V.heap.size V V := Below.refl _ _
            go_cut [46] (fun t wc => Below V.heap.size V wc ∧ t = .bool (decide ¬ ((snapL X Y z k).getLast? = some (snapI z (X k), snapI z (Y k)))))
            case first =>
              by_cases h0 : L = 0
              · have hnil : snapL X Y z k = [] := List.length_eq_zero_iff.1 (by rw [HL.out]; exact h0)
                subst h0
                have HN : Hid (snapL X Y z k = []) := hnil
                clear hnil hlen
                refine wp_region_noPanic ?_
                refine wp_region_held_drew (S := fun W' => Below V.heap.size V W') (by kernel_rfl) (by (repeat (first | exact Below.refl _ _ | assumption | refine Below.drew ?_ | refine bl_alloc ?_ _ | refine bl_then ?_ (by assumption)))) (fun hHeld => ?_)
                refine takeD (i := 0) (d := some 35) (v := ?v0) rfl rfl (by kernel_rfl) (by kernel_rfl) (by kernel_rfl) (fun _ _ _ h => h) (Or.inl ⟨by rfl, ?hy0⟩) (by assumption) ?_
                case hy0 => (intro w hSw; (try dsimp only at hSw); go_simp <;> with_reducible rfl)
                simp only [Act.put, List.setIfInBounds_toArray, List.set_cons_zero, List.set_cons_succ]
                refine takeD (i := 1) (d := some 36) (v := ?v1) rfl rfl (by kernel_rfl) (by kernel_rfl) (by kernel_rfl) (fun _ _ _ h => h) (Or.inl ⟨by rfl, ?hy1⟩) (by assumption) ?_
                case hy1 => (intro w hSw; (try dsimp only at hSw); go_simp <;> with_reducible rfl)
                simp only [Act.put, List.setIfInBounds_toArray, List.set_cons_zero, List.set_cons_succ]
                refine takeD (i := 2) (d := some 37) (v := ?v2) rfl rfl (by kernel_rfl) (by kernel_rfl) (by kernel_rfl) (fun _ _ _ h => h) (Or.inl ⟨by rfl, ?hy2⟩) (by assumption) ?_
                case hy2 => (intro w hSw; (try dsimp only at hSw); go_simp <;> with_reducible rfl)
                simp only [Act.put, List.setIfInBounds_toArray, List.set_cons_zero, List.set_cons_succ]
                refine passD (i := 3) (d := some 38) rfl rfl (by kernel_rfl) (by kernel_rfl) (by kernel_rfl) (fun _ _ _ h => h) (by rfl) (by assumption) ?_
                simp only [Act.put, List.setIfInBounds_toArray, List.set_cons_zero, List.set_cons_succ]
                refine passD (i := 4) (d := some 39) rfl rfl (by kernel_rfl) (by kernel_rfl) (by kernel_rfl) (fun _ _ _ h => h) (by rfl) (by assumption) ?_
                simp only [Act.put, List.setIfInBounds_toArray, List.set_cons_zero, List.set_cons_succ]
                refine passD (i := 5) (d := some 40) rfl rfl (by kernel_rfl) (by kernel_rfl) (by kernel_rfl) (fun _ _ _ h => h) (by rfl) (by assumption) ?_
                simp only [Act.put, List.setIfInBounds_toArray, List.set_cons_zero, List.set_cons_succ]
                refine passD (i := 6) (d := some 41) rfl rfl (by kernel_rfl) (by kernel_rfl) (by kernel_rfl) (fun _ _ _ h => h) (by rfl) (by assumption) ?_
                simp only [Act.put, List.setIfInBounds_toArray, List.set_cons_zero, List.set_cons_succ]
                refine passD (i := 7) (d := some 42) rfl rfl (by kernel_rfl) (by kernel_rfl) (by kernel_rfl) (fun _ _ _ h => h) (by rfl) (by assumption) ?_
                simp only [Act.put, List.setIfInBounds_toArray, List.set_cons_zero, List.set_cons_succ]
                refine passD (i := 8) (d := some 43) rfl rfl (by kernel_rfl) (by kernel_rfl) (by kernel_rfl) (fun _ _ _ h => h) (by rfl) (by assumption) ?_
                simp only [Act.put, List.setIfInBounds_toArray, List.set_cons_zero, List.set_cons_succ]
                refine passD (i := 9) (d := some 44) rfl rfl (by kernel_rfl) (by kernel_rfl) (by kernel_rfl) (fun _ _ _ h => h) (by rfl) (by assumption) ?_
                simp only [Act.put, List.setIfInBounds_toArray, List.set_cons_zero, List.set_cons_succ]
                refine passD (i := 10) (d := some 45) rfl rfl (by kernel_rfl) (by kernel_rfl) (by kernel_rfl) (fun _ _ _ h => h) (by rfl) (by assumption) ?_
                simp only [Act.put, List.setIfInBounds_toArray, List.set_cons_zero, List.set_cons_succ]
                refine takeD (i := 11) (d := some 46) (v := ?v11) rfl rfl (by kernel_rfl) (by kernel_rfl) (by kernel_rfl) (fun _ _ _ h => h) (Or.inl ⟨by rfl, ?hy11⟩) (by assumption) ?_
                case hy11 => (intro w hSw; (try dsimp only at hSw); go_simp <;> with_reducible rfl)
                simp only [Act.put, List.setIfInBounds_toArray, List.set_cons_zero, List.set_cons_succ]
                refine wpAnyH_done (by kernel_rfl) ?_ _
                refine NoPanic.normal ?_
                go_wp2_with fail
                go_meet
                case rel => exact ⟨by assumption, by rw [HN.out]; simp⟩
              · obtain ⟨g, cap5, x, y, hu5, hg1, hg2, hc5, hlast, e0, e1⟩ := HO2.out.last (by rw [HL.out]; omega)
                rw [HL.out] at hu5 e0 e1
                injection hu5 with ha5 _ hc5'
                subst ha5 hc5'
                have HLA : Hid ((snapL X Y z k).getLast? = some (x, y)) := hlast
                clear hlast
                obtain ⟨M, hM1⟩ : ∃ M, M = L - 1 := ⟨L - 1, rfl⟩
                rw [← hM1] at e0 e1
                have hM : IntKind.i64.wrap ((L : Int) - 1) = (M : Int) := by
                  have e : (L : Int) - 1 = (M : Int) := by omega
                  rw [e]
                  exact IntWalk.i64_in _ (by omega)
                have hMl : (M : Int) < (L : Int) := by omega
                have hM0 : (0 : Int) ≤ (M : Int) := by omega
                have hL0 : ((L : Int) == 0) = false := by simp; omega
                clear hM1 h0
                have g0 : ∀ W', Below V.heap.size V W' → W'.cell? ⟨g, M * 2, none⟩ = some (.int .i64 x) := fun W' h => bl_cell h e0
                have g1 : ∀ W', Below V.heap.size V W' → W'.cell? ⟨g, M * 2 + 1, none⟩ = some (.int .i64 y) := fun W' h => bl_cell h e1
                clear e0 e1
                by_cases he : x = snapI z (X k)
                · by_cases he2 : y = snapI z (Y k)
                  · subst he he2
                    go_region_held3 (fun W' => Below V.heap.size V W') ((repeat (first | exact Below.refl _ _ | assumption | refine Below.drew ?_ | refine bl_alloc ?_ _ | refine bl_then ?_ (by assumption) | refine Below.setCell ?_ (by first | omega | (simp; done) | (simp; omega)) _ | refine bl_store ?_ ?_ _ _))) (fail)
                    go_wp2_with fail
                    go_meet
                    case rel => exact ⟨by assumption, by rw [HLA.out]; simp⟩
                  · subst he
                    have he3 : (y == snapI z (Y k)) = false := by simpa using he2
                    go_region_held3 (fun W' => Below V.heap.size V W') ((repeat (first | exact Below.refl _ _ | assumption | refine Below.drew ?_ | refine bl_alloc ?_ _ | refine bl_then ?_ (by assumption) | refine Below.setCell ?_ (by first | omega | (simp; done) | (simp; omega)) _ | refine bl_store ?_ ?_ _ _))) (fail)
                    go_wp2_with fail
                    go_meet
                    case rel => exact ⟨by assumption, by rw [HLA.out]; simp [he2]⟩
                · have he3 : (x == snapI z (X k)) = false := by simpa using he
                  go_region_held3 (fun W' => Below V.heap.size V W') ((repeat (first | exact Below.refl _ _ | assumption | refine Below.drew ?_ | refine bl_alloc ?_ _ | refine bl_then ?_ (by assumption) | refine Below.setCell ?_ (by first | omega | (simp; done) | (simp; omega)) _ | refine bl_store ?_ ?_ _ _))) (fail)
                  go_wp2_with fail
                  go_meet
                  case rel => exact ⟨by assumption, by rw [HLA.out]; simp [he]⟩
            case rest =>
              obtain ⟨hBc, rfl⟩ := hcut
              have q0 := d0 _ hBc
              have q1 := d1 _ hBc
              have HOc : Hid (Row W.heap.size wc (.slice a5 L c5) (snapL X Y z k)) := HO2.out.below hBc
              have HBc : Hid (Below W.heap.size W wc) := bl_then HB2.out hBc
              have hszc : W.heap.size ≤ wc.heap.size := HBc.out.size
              have hw1 := World.block_lt_of_cell? _ _ q0
              clear d0 d1 HO2 HB2 hBc hrV
              by_cases hlast : (snapL X Y z k).getLast? = some (snapI z (X k), snapI z (Y k))
              · have hs : snapL X Y z (k + 1) = snapL X Y z k := by rw [snapL, if_pos hlast]
                have HS : Hid (snapL X Y z (k + 1) = snapL X Y z k) := hs
                have hdec : (decide ¬ ((snapL X Y z k).getLast? = some (snapI z (X k), snapI z (Y k)))) = false := by simp [hlast]
                rw [hdec]
                clear hs hdec hlast
                go_wp2_with fail
                go_roundw
                case rel => exact ⟨k + 1, by omega, by go_num, HAL1.out, by rw [HS.out]; exact HOc.out, HBc.out⟩
                case measure => simp [intOf]; omega
              · have hs : snapL X Y z (k + 1) = snapL X Y z k ++ [(snapI z (X k), snapI z (Y k))] := by rw [snapL, if_neg hlast]
                have HS : Hid (snapL X Y z (k + 1) = snapL X Y z k ++ [(snapI z (X k), snapI z (Y k))]) := hs
                have hdec : (decide ¬ ((snapL X Y z k).getLast? = some (snapI z (X k), snapI z (Y k)))) = true := by simp [hlast]
                rw [hdec]
                clear hs hdec hlast
                go_wp2_with (first
                  | (at_builtin; go_must (refine wpList_append_own _ rfl _ _ 34 rfl W.heap.size 111 i0 (.agg #[.int .i64 0, .int .i64 0]) 2 16 Tryz.underlying34 hi hz0 hz1 hz2 rfl (by decide) _ (snapL X Y z k).length (cellsL (snapL X Y z k)) rfl (World.ownsRow.alloc HOc.out _) ⟨wc.heap.size, 0, none⟩ 1 1 [.int .i64 (snapI z (X k)), .int .i64 (snapI z (Y k))] rfl rfl ?c1 ?c2 ?c3 ?c4 ?c5 ?_)))
                case c2 => first | (intro u hu; simp at hu; rcases hu with rfl | rfl <;> rfl) | exact ⟨rfl, rfl⟩
                case c3 => have := HL.out; unfold maxLen; omega
                case c4 => have := HL.out; omega
                case c5 => first | omega | (simp; omega)
                intro v' w3 hown' hgrow hnil
                clear hnil
                have hBg : Below W.heap.size (wc.alloc (.cells #[.int .i64 (snapI z (X k)), .int .i64 (snapI z (Y k))] 111)) w3 := (Below.refl _ _).grown hgrow (by simp; omega) (fun k hk => (HOc.out.lt k hk).1)
                have hBa : Below W.heap.size wc (wc.alloc (.cells #[.int .i64 (snapI z (X k)), .int .i64 (snapI z (Y k))] 111)) := (Below.refl _ _).alloc hszc _
                have HB3 : Hid (Below W.heap.size W w3) := (HBc.out.trans hBa).trans hBg
                have HO3 : Hid (Row W.heap.size w3 v' (snapL X Y z (k + 1))) := by
                  show Row _ _ _ _
                  rw [HS.out]
                  show World.ownsRow _ _ _ _ _ _ _
                  rw [cellsL_add, List.length_append]
                  exact hown'
                clear hown' hgrow hBg hBa
                go_wp2
                go_roundw
                case rel => exact ⟨k + 1, by omega, by go_num, HAL1.out, HO3.out, HB3.out⟩
                case measure => simp [intOf]; omega
        · have hkn : k = n := by omega
          subst hkn
          have hc : snapC z k X Y = 0 := by simp [snapC, h, allIn_ok HALL.out]; omega
          have hcr : snapR z k X Y = snapL X Y z k := by simp [snapR, hc]
          have HC : Hid (snapC z k X Y = 0) := hc
          have HCR : Hid (snapR z k X Y = snapL X Y z k) := hcr
          clear hc hcr
          obtain ⟨av, cv, hv, _, _⟩ := HO.out.own
          generalize (snapL X Y z k).length = lv at hv
          subst hv
          have hT' := HTw.out
          have t0 := hT'.cell 0 (by omega)
          have t1 := hT'.cell 1 (by omega)
          have f0 := (hT' 0 (by omega)).2
          have f1 := (hT' 1 (by omega)).2
          clear hT'
          go_wp2_with fail
          refine bodyPost_ret (v := .agg #[.int .i64 0, .slice av lv cv]) (by simp [results, Tryz.results60, go_sem, set2_0 (Option.isSome_iff_exists.2 ⟨_, t0⟩), set2_1 (Option.isSome_iff_exists.2 ⟨_, t1⟩)]) rfl ⟨_, by rw [HC.out], ?_, ?_⟩
          · rw [HCR.out]
            exact Row.set2 HO.out (by omega)
          · have HB3 := HBw.out
            (repeat (first | exact Below.refl _ _ | assumption | refine Below.drew ?_ | refine bl_alloc ?_ _ | refine bl_then ?_ (by assumption) | refine Below.setCell ?_ (by first | omega | (simp; done) | (simp; omega)) _ | refine bl_store ?_ ?_ _ _))
end Go.Proofs.YtdohlnnbibnnbaaGreat
