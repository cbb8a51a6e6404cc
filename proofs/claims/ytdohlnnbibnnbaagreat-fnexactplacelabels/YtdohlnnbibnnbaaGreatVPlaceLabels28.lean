/- Several texts in one. -/
import Derived.Test.YtdohlnnbibnnbaaGreatVPlaceLabels12
import Derived.Test.YtdohlnnbibnnbaaGreatVPlaceLabels27
import Derived.Test.YtdohlnnbibnnbaaGreatVPlaceLabels4
import Derived.Deep.LoopGhost
import Derived.Test.YtdohlnnbibnnbaaGreatVPlaceLabels5

/- A ring is opened, a list is filled. -/

namespace Go.Proofs.YtdohlnnbibnnbaaGreat
open Go.RowKit
set_option linter.unusedSimpArgs false
set_option linter.unusedVariables false

/-- A ring that does not come back to its first point. -/
def openL (l : List (Int × Int)) : List (Int × Int) := if 1 < l.length ∧ l.getLast? = l.head? then l.dropLast else l
/-- The last point as often as is needed. -/
def fillL (k : Nat) (l : List (Int × Int)) : List (Int × Int) := l ++ List.replicate (k - l.length) (l.getLastD (0, 0))
theorem fillL_full {k : Nat} {l : List (Int × Int)} (h : k ≤ l.length) : fillL k l = l := by
  unfold fillL
  rw [show k - l.length = 0 by omega]
  simp
theorem fillL_step {k : Nat} {l : List (Int × Int)} {x y : Int} (h : l.length < k) (hl : l.getLast? = some (x, y)) : fillL k (l ++ [(x, y)]) = fillL k l := by
  unfold fillL
  have e1 : (l ++ [(x, y)]).getLastD (0, 0) = (x, y) := by simp
  have e2 : l.getLastD (0, 0) = (x, y) := by rw [List.getLastD_eq_getLast?, hl]; rfl
  rw [e1, e2, List.append_assoc]
  congr 1
  have e3 : k - l.length = (k - (l ++ [(x, y)]).length) + 1 := by simp; omega
  rw [e3, List.replicate_succ]
  rfl
/-- The first point of a row. -/
theorem Row.first {base : Nat} {w : World} {v : Value} {l : List (Int × Int)} (h : Row base w v l) (hne : 0 < l.length) :
    ∃ g cap x y, v = .slice (some ⟨g, 0, none⟩) l.length cap ∧ l.head? = some (x, y) ∧ w.cell? ⟨g, 0, none⟩ = some (.int .i64 x) ∧ w.cell? ⟨g, 1, none⟩ = some (.int .i64 y) := by
  obtain ⟨a, cap, hv, hc, h0 | ⟨b, rfl, hb, hl, hp, ht⟩⟩ := h.own
  · omega
  · obtain ⟨e1, e2⟩ := hp 0 (by omega)
    simp only [Nat.zero_add, Nat.zero_mul] at e1 e2
    refine ⟨b, cap, px l 0, py l 0, hv, ?_, e1, e2⟩
    cases l with
    | nil => simp at hne
    | cons p l => simp [px, py]
theorem Row.cut {base : Nat} {w : World} {g cap : Nat} {l : List (Int × Int)} (h : Row base w (.slice (some ⟨g, 0, none⟩) l.length cap) l) : Row base w (.slice (some ⟨g, 0, none⟩) (l.length - 1) cap) l.dropLast := by
  obtain ⟨h1, h2 | ⟨g', cp, cur, hv, hg, hh, hkc, hcm, hcs, htk⟩⟩ := h
  · cases h2.1
  · injection hv with e1 e2 e3
    injection e1 with e1
    injection e1 with e1
    subst e1 e3
    have hl : l.dropLast.length = l.length - 1 := List.length_dropLast
    have hc : cellsL l.dropLast = (cellsL l).take ((l.length - 1) * 2) := by
      by_cases h0 : l = []
      · subst h0; rfl
      · have e := List.dropLast_concat_getLast h0
        obtain ⟨⟨x, y⟩, hxy⟩ : ∃ p, p = l.getLast h0 := ⟨_, rfl⟩
        have e' : l = l.dropLast ++ [(x, y)] := by rw [hxy]; exact e.symm
        have hcl : cellsL l = cellsL l.dropLast ++ [.int .i64 x, .int .i64 y] := by
          conv => lhs; rw [e']
          exact cellsL_add _ _ _
        rw [hcl, List.take_append_of_le_length (by rw [cellsL_len, hl]; exact Nat.le_refl _), List.take_of_length_le (by rw [cellsL_len, hl]; exact Nat.le_refl _)]
    refine ⟨by rw [cellsL_len], .inr ⟨g, cap, cur, by rw [hl], hg, hh, by rw [hl]; omega, hcm, hcs, ?_⟩⟩
    rw [hc, ← htk, List.take_take, hl]
    congr 1
    omega

set_option maxRecDepth 8000 in
set_option maxHeartbeats 2000000 in
theorem filled_any (base k : Nat) (v : Value) (l : List (Int × Int)) (w : World) (hR : Row base w v l) (hne : 0 < l.length) (hl : l.length ≤ 20) (hk : k ≤ 20) (hb : base ≤ w.heap.size) :
    Calls Tryz.prog 65 #[v, .int .i64 (k : Int)] w fun e w' => ∃ v', e = .returned v' ∧ Row base w' v' (fillL k l) ∧ Below base w w' ∧ NP w w' := by
  obtain ⟨i0, hi, hz0, hz1, hz2⟩ := info_parts (show (Tryz.prog.info? 111).map (fun i => (i.zero, i.size, i.bytes)) = some (some (.agg #[.int .i64 0, .int .i64 0]), 2, 16) by kernel_rfl)
  have HR : Hid (Row base w v l) := hR
  clear hR
  go_enter Tryz.func65, Tryz.ntmps65
  go_wp2_with fail
  go_loopg [0] k (fun gh s0 wr => ∃ m : List (Int × Int), 0 < m.length ∧ m.length ≤ 20 ∧ k ≤ m.length + gh ∧ fillL k m = fillL k l ∧ Row base wr s0 m ∧ Below base w wr ∧ NP w wr)
  case atStart => exact ⟨l, hne, hl, by omega, rfl, HR.out, Below.refl _ _, NP.refl _⟩
  case round =>
    obtain ⟨m, hm0, hm20, hgh, hfm, hRm, hBm, hNm⟩ := hrel
    obtain ⟨g, cap5, x, y, hv, hg1, hg2, hc5, hlast, e0, e1⟩ := hRm.last hm0
    have HFM : Hid (fillL k m = fillL k l) := hfm
    have HLA : Hid (m.getLast? = some (x, y)) := hlast
    have HRm : Hid (Row base wr u0 m) := hRm
    have HBm : Hid (Below base w wr) := hBm
    have HNm : Hid (NP w wr) := hNm
    have hbs := hBm.size
    clear hfm hlast hRm hBm hNm
    obtain ⟨N, hN⟩ : ∃ N, N = m.length := ⟨_, rfl⟩
    have HN : Hid (N = m.length) := hN
    rw [← hN] at hv e0 e1 hc5 hm0 hm20 hgh
    by_cases hlt : N < k
    · cases gk with
      | zero => omega
      | succ gh =>
        have hlti : (N : Int) < (k : Int) := by omega
        obtain ⟨M, hM⟩ : ∃ M, M = N - 1 := ⟨_, rfl⟩
        rw [← hM] at e0 e1
        have wM : IntKind.i64.wrap ((N : Int) - 1) = (M : Int) := by
          rw [show (N : Int) - 1 = (M : Int) by omega]
          exact IntWalk.i64_in _ (by omega)
        have hMi : (N : Int) - 1 = (M : Int) := by omega
        have m0 : (0 : Int) ≤ (M : Int) := by omega
        have m1 : (M : Int) < (N : Int) := by omega
        have HG : Hid (k ≤ N + (gh + 1)) := hgh
        clear hM hN hgh
        subst hv
        go_wp2_with (first
          | (at_builtin; go_must (refine wpList_append_own _ rfl _ _ 34 rfl base 111 i0 (.agg #[.int .i64 0, .int .i64 0]) 2 16 Tryz.underlying34 hi hz0 hz1 hz2 rfl (by decide) _ m.length (cellsL m) rfl (World.ownsRow.alloc HRm.out _) ⟨wr.heap.size, 0, none⟩ 1 1 [.int .i64 x, .int .i64 y] rfl rfl ?c1 ?c2 ?c3 ?c4 ?c5 ?_)))
        case c1 =>
          intro q u hq
          match q, hq with
          | 0, hq => simp at hq; subst hq; simp [Addr.add, go_sem]
          | 1, hq => simp at hq; subst hq; simp [Addr.add, go_sem]
          | q + 2, hq => simp at hq
        case c2 => first | (intro u hu; simp at hu; rcases hu with rfl | rfl <;> rfl) | exact ⟨rfl, rfl⟩
        case c3 => have := HN.out; unfold maxLen; omega
        case c4 => have := HN.out; omega
        case c5 => first | omega | (simp; omega)
        intro v' w6 hown' hgrow hnil
        clear hnil
        have hBa : Below wr.heap.size wr (wr.alloc (.cells #[.int .i64 x, .int .i64 y] 111)) := (Below.refl _ _).alloc (Nat.le_refl _) _
        have hBg : Below base (wr.alloc (.cells #[.int .i64 x, .int .i64 y] 111)) w6 := (Below.refl _ _).grown hgrow (by simp; omega) (fun k hk => (HRm.out.lt k hk).1)
        have HB6 : Hid (Below base w w6) := (HBm.out.trans (hBa.mono (by omega))).trans hBg
        have HN6 : Hid (NP w w6) := (HNm.out.trans (NP.of_below hBa)).trans (NP.of_grown (HRm.out.below hBa) hgrow)
        have HR6 : Hid (Row base w6 v' (m ++ [(x, y)])) := by
          show World.ownsRow _ _ _ _ _ _ _
          rw [cellsL_add, List.length_append]
          exact hown'
        clear hown' hgrow hBa hBg
        go_wp2_with fail
        go_roundg gh
        case measure => omega
        case rel =>
          have h1 := HN.out
          have h2 := HG.out
          exact ⟨m ++ [(x, y)], by simp, by simp; omega, by simp; omega, by rw [fillL_step (by omega) HLA.out]; exact HFM.out, HR6.out, HB6.out, HN6.out⟩
    · have hlti : ¬ (N : Int) < (k : Int) := by omega
      have HF : Hid (fillL k l = m) := by
        show _ = _
        rw [← HFM.out, fillL_full (by have := HN.out; omega)]
      subst hv
      clear hN
      go_wp2_with fail
      go_ret
      exact ⟨_, rfl, by rw [HF.out]; exact HRm.out, HBm.out, HNm.out⟩

set_option maxRecDepth 8000 in
set_option maxHeartbeats 2000000 in
theorem opened_any (base : Nat) (v : Value) (l : List (Int × Int)) (w : World) (hR : Row base w v l) (hne : 0 < l.length) (hl : l.length ≤ 20) :
    Calls Tryz.prog 63 #[v] w fun e w' => ∃ v', e = .returned v' ∧ Row base w' v' (openL l) ∧ Below w.heap.size w w' := by
  obtain ⟨g, cap5, x, y, hv, hg1, hg2, hc5, hlast, e0, e1⟩ := hR.last hne
  obtain ⟨g', cap', x', y', hv', hhead, d0, d1⟩ := hR.first hne
  rw [hv] at hv'
  injection hv' with a1 a2 a3
  injection a1 with a1
  injection a1 with a1
  subst a1 a3
  have HR : Hid (Row base w (.slice (some ⟨g, 0, none⟩) l.length cap5) l) := by show Row _ _ _ _; rw [← hv]; exact hR
  have HLA : Hid (l.getLast? = some (x, y) ∧ l.head? = some (x', y')) := ⟨hlast, hhead⟩
  subst hv
  clear hR hlast hhead
  obtain ⟨N, hN⟩ : ∃ N, N = l.length := ⟨_, rfl⟩
  have HN : Hid (N = l.length) := hN
  rw [← hN] at e0 e1 hc5 hne hl ⊢
  obtain ⟨M, hM⟩ : ∃ M, M = N - 1 := ⟨_, rfl⟩
  rw [← hM] at e0 e1
  have HM : Hid (M = N - 1) := hM
  have hMi : (N : Int) - 1 = (M : Int) := by omega
  have m0 : (0 : Int) ≤ (M : Int) := by omega
  have m1 : (M : Int) < (N : Int) := by omega
  have n0 : (0 : Int) < (N : Int) := by omega
  have mc : (M : Int) ≤ (cap5 : Int) := by omega
  have b0 : ∀ W', Below w.heap.size w W' → W'.cell? ⟨g, M * 2, none⟩ = some (.int .i64 x) := fun W' h => bl_cell h e0
  have b1 : ∀ W', Below w.heap.size w W' → W'.cell? ⟨g, M * 2 + 1, none⟩ = some (.int .i64 y) := fun W' h => bl_cell h e1
  have b2 : ∀ W', Below w.heap.size w W' → W'.cell? ⟨g, 0, none⟩ = some (.int .i64 x') := fun W' h => bl_cell h d0
  have b3 : ∀ W', Below w.heap.size w W' → W'.cell? ⟨g, 1, none⟩ = some (.int .i64 y') := fun W' h => bl_cell h d1
  clear hN hM
  go_enter Tryz.func63, Tryz.ntmps63
  go_wp2_with fail
  go_cut [18] (fun t wc => t = .bool (decide (0 < M ∧ (x, y) = (x', y'))) ∧ Below w.heap.size w wc)
  case first =>
    by_cases hM0 : M = 0
    · have hd : decide ((0 : Int) < (M : Int)) = false := by simp; omega
      have hd2 : decide (0 < M) = false := by simp; omega
      have HD : Hid (decide (0 < M ∧ (x, y) = (x', y')) = false) := by show _ = _; simp [hM0]
      clear hM0
      refine wp_region_noPanic ?_
      refine wp_region_held_drew (S := fun W' => Below w.heap.size w W') (by kernel_rfl) (by (repeat (first | exact Below.refl _ _ | assumption | refine Below.drew ?_ | refine bl_alloc ?_ _ | refine bl_then ?_ (by assumption)))) (fun hHeld => ?_)
      refine takeD (i := 0) (d := some 7) (v := ?v0) rfl rfl (by kernel_rfl) (by kernel_rfl) (by kernel_rfl) (fun _ _ _ h => h) (Or.inl ⟨by rfl, ?hy0⟩) (by assumption) ?_
      case hy0 => (intro w hSw; (try dsimp only at hSw); go_simp <;> with_reducible rfl)
      simp only [Act.put, List.setIfInBounds_toArray, List.set_cons_zero, List.set_cons_succ]
      refine takeD (i := 1) (d := some 8) (v := ?v1) rfl rfl (by kernel_rfl) (by kernel_rfl) (by kernel_rfl) (fun _ _ _ h => h) (Or.inl ⟨by rfl, ?hy1⟩) (by assumption) ?_
      case hy1 => (intro w hSw; (try dsimp only at hSw); go_simp <;> with_reducible rfl)
      simp only [Act.put, List.setIfInBounds_toArray, List.set_cons_zero, List.set_cons_succ]
      refine takeD (i := 2) (d := some 9) (v := ?v2) rfl rfl (by kernel_rfl) (by kernel_rfl) (by kernel_rfl) (fun _ _ _ h => h) (Or.inl ⟨by rfl, ?hy2⟩) (by assumption) ?_
      case hy2 => (intro w hSw; (try dsimp only at hSw); go_simp <;> with_reducible rfl)
      simp only [Act.put, List.setIfInBounds_toArray, List.set_cons_zero, List.set_cons_succ]
      refine passD (i := 3) (d := some 10) rfl rfl (by kernel_rfl) (by kernel_rfl) (by kernel_rfl) (fun _ _ _ h => h) (by rfl) (by assumption) ?_
      simp only [Act.put, List.setIfInBounds_toArray, List.set_cons_zero, List.set_cons_succ]
      refine passD (i := 4) (d := some 11) rfl rfl (by kernel_rfl) (by kernel_rfl) (by kernel_rfl) (fun _ _ _ h => h) (by rfl) (by assumption) ?_
      simp only [Act.put, List.setIfInBounds_toArray, List.set_cons_zero, List.set_cons_succ]
      refine passD (i := 5) (d := some 12) rfl rfl (by kernel_rfl) (by kernel_rfl) (by kernel_rfl) (fun _ _ _ h => h) (by rfl) (by assumption) ?_
      simp only [Act.put, List.setIfInBounds_toArray, List.set_cons_zero, List.set_cons_succ]
      refine passD (i := 6) (d := some 13) rfl rfl (by kernel_rfl) (by kernel_rfl) (by kernel_rfl) (fun _ _ _ h => h) (by rfl) (by assumption) ?_
      simp only [Act.put, List.setIfInBounds_toArray, List.set_cons_zero, List.set_cons_succ]
      refine passD (i := 7) (d := some 14) rfl rfl (by kernel_rfl) (by kernel_rfl) (by kernel_rfl) (fun _ _ _ h => h) (by rfl) (by assumption) ?_
      simp only [Act.put, List.setIfInBounds_toArray, List.set_cons_zero, List.set_cons_succ]
      refine passD (i := 8) (d := some 15) rfl rfl (by kernel_rfl) (by kernel_rfl) (by kernel_rfl) (fun _ _ _ h => h) (by rfl) (by assumption) ?_
      simp only [Act.put, List.setIfInBounds_toArray, List.set_cons_zero, List.set_cons_succ]
      refine passD (i := 9) (d := some 16) rfl rfl (by kernel_rfl) (by kernel_rfl) (by kernel_rfl) (fun _ _ _ h => h) (by rfl) (by assumption) ?_
      simp only [Act.put, List.setIfInBounds_toArray, List.set_cons_zero, List.set_cons_succ]
      refine passD (i := 10) (d := some 17) rfl rfl (by kernel_rfl) (by kernel_rfl) (by kernel_rfl) (fun _ _ _ h => h) (by rfl) (by assumption) ?_
      simp only [Act.put, List.setIfInBounds_toArray, List.set_cons_zero, List.set_cons_succ]
      refine takeD (i := 11) (d := some 18) (v := ?v11) rfl rfl (by kernel_rfl) (by kernel_rfl) (by kernel_rfl) (fun _ _ _ h => h) (Or.inl ⟨by rfl, ?hy11⟩) (by assumption) ?_
      case hy11 => (intro w hSw; (try dsimp only at hSw); go_simp <;> with_reducible rfl)
      simp only [Act.put, List.setIfInBounds_toArray, List.set_cons_zero, List.set_cons_succ]
      refine wpAnyH_done (by kernel_rfl) ?_ _
      refine NoPanic.normal ?_
      go_wp2_with fail
      go_meet
      case rel => exact ⟨by rw [HD.out], by (repeat (first | exact Below.refl _ _ | assumption | refine Below.drew ?_ | refine bl_alloc ?_ _ | refine bl_then ?_ (by assumption) | refine Below.setCell ?_ (by first | omega | (simp; done) | (simp; omega)) _ | refine bl_store ?_ ?_ _ _))⟩
    · have hd : decide ((0 : Int) < (M : Int)) = true := by simp; omega
      have hd2 : decide (0 < M) = true := by simp; omega
      have hM1 : 0 < M := by omega
      by_cases hx : x = x'
      · by_cases hy : y = y'
        · subst hx hy
          have HD : Hid (decide (0 < M ∧ (x, y) = (x, y)) = true) := by show _ = _; simp [hM1]
          clear hM1 hM0
          go_region_held3 (fun W' => Below w.heap.size w W') ((repeat (first | exact Below.refl _ _ | assumption | refine Below.drew ?_ | refine bl_alloc ?_ _ | refine bl_then ?_ (by assumption) | refine Below.setCell ?_ (by first | omega | (simp; done) | (simp; omega)) _ | refine bl_store ?_ ?_ _ _))) (fail)
          go_wp2_with fail
          go_meet
          case rel => exact ⟨by rw [HD.out], by assumption⟩
        · have hyb : (y == y') = false := by simpa using hy
          have HD : Hid (decide (0 < M ∧ (x, y) = (x', y')) = false) := by show _ = _; simp [hy]
          subst hx
          clear hM1 hM0
          go_region_held3 (fun W' => Below w.heap.size w W') ((repeat (first | exact Below.refl _ _ | assumption | refine Below.drew ?_ | refine bl_alloc ?_ _ | refine bl_then ?_ (by assumption) | refine Below.setCell ?_ (by first | omega | (simp; done) | (simp; omega)) _ | refine bl_store ?_ ?_ _ _))) (fail)
          go_wp2_with fail
          go_meet
          case rel => exact ⟨by rw [HD.out], by assumption⟩
      · have hxb : (x == x') = false := by simpa using hx
        have HD : Hid (decide (0 < M ∧ (x, y) = (x', y')) = false) := by show _ = _; simp [hx]
        clear hM1 hM0
        go_region_held3 (fun W' => Below w.heap.size w W') ((repeat (first | exact Below.refl _ _ | assumption | refine Below.drew ?_ | refine bl_alloc ?_ _ | refine bl_then ?_ (by assumption) | refine Below.setCell ?_ (by first | omega | (simp; done) | (simp; omega)) _ | refine bl_store ?_ ?_ _ _))) (fail)
        go_wp2_with fail
        go_meet
        case rel => exact ⟨by rw [HD.out], by assumption⟩
  case rest =>
    obtain ⟨rfl, hbc⟩ := hcut
    have HBc : Hid (Below w.heap.size w wc) := hbc
    have HRc : Hid (Row base wc (.slice (some ⟨g, 0, none⟩) l.length cap5) l) := HR.out.below hbc
    clear hbc b0 b1 b2 b3
    by_cases hd : 0 < M ∧ (x, y) = (x', y')
    · have HO : Hid (openL l = l.dropLast) := by
        show _ = _
        unfold openL
        rw [if_pos]
        have h1 := HN.out
        have h2 := HM.out
        exact ⟨by omega, by rw [HLA.out.1, HLA.out.2, hd.2]⟩
      rw [decide_eq_true hd]
      clear hd
      go_wp2_with fail
      go_ret
      refine ⟨_, rfl, ?_, HBc.out⟩
      rw [HO.out]
      have := HRc.out.cut
      rw [← HN.out, ← HM.out] at this
      exact this
    · have HO : Hid (openL l = l) := by
        show _ = _
        unfold openL
        rw [if_neg]
        rintro ⟨h3, h4⟩
        have h1 := HN.out
        have h2 := HM.out
        rw [HLA.out.1, HLA.out.2] at h4
        exact hd ⟨by omega, by injection h4⟩
      rw [decide_eq_false hd]
      clear hd
      go_wp2_with fail
      go_ret
      refine ⟨_, rfl, ?_, HBc.out⟩
      rw [HO.out, HN.out]
      exact HRc.out
end Go.Proofs.YtdohlnnbibnnbaaGreat
/- What a feature without a fault has. -/

namespace Go.Proofs.YtdohlnnbibnnbaaGreat
open Go.RowKit
set_option linter.unusedSimpArgs false
set_option linter.unusedVariables false

/-- What a feature without a fault has. -/
theorem featC_zero {id la ki wi : Int} {n : Nat} {X Y : Nat → Int} {lab : ByteArray} {pr : Int} (h : featC id la ki wi n X Y lab pr = 0) :
    (ki = 1 ∨ ki = 2 ∨ ki = 3) ∧ 0 < n ∧ n ≤ 12 ∧ (ki ≤ n) ∧ (∀ i, i < n → inW (X i) (Y i) = true) ∧ lab.size ≤ 6 := by
  unfold featC at h
  split at h
  · rename_i h1
    split at h
    · rename_i h2
      split at h
      · rename_i h3
        split at h
        · rename_i h4
          have hk : 1 ≤ ki ∧ ki ≤ 3 := by
            simp [rngB, inB] at h1
            omega
          have hlab : lab.size ≤ 6 := by
            unfold labB at h4
            simp at h4
            exact h4.1
          have hin : ∀ i, i < n → inW (X i) (Y i) = true := of_decide_eq_true h3
          have hkk : ki = 1 ∨ ki = 2 ∨ ki = 3 := by omega
          refine ⟨hkk, ?_, ?_, ?_, hin, hlab⟩
          all_goals
            rcases hkk with rfl | rfl | rfl
            · simp [sizeB] at h2; omega
            · simp [sizeB, inB] at h2; omega
            · simp [sizeB, inB] at h2; omega
        · cases h
      · cases h
    · cases h
  · cases h
/-- How many points a kind has. -/
def kindN (ki : Int) (n : Nat) : Prop := (ki = 1 ∧ n = 1) ∨ (ki = 2 ∧ 2 ≤ n) ∨ (ki = 3 ∧ 3 ≤ n)
theorem featC_point {id la wi : Int} {n : Nat} {X Y : Nat → Int} {lab : ByteArray} {pr : Int} (h : featC id la 1 wi n X Y lab pr = 0) : n = 1 := by
  unfold featC at h
  split at h
  · split at h
    · rename_i h2
      simp [sizeB] at h2
      omega
    · cases h
  · cases h
end Go.Proofs.YtdohlnnbibnnbaaGreat
