/- The kids of a ref: the model. -/
import Derived.Test.YteeijaacecicdaaT5
namespace Go.Proofs.Yteeijaacecicdaa
open Go.RowKit
set_option linter.unusedSimpArgs false
set_option linter.unusedVariables false
set_option maxRecDepth 100000

theorem RowT.set {base r o : Nat} {w : World} {v u : Value} {n : Nat} {R : Rfs} (h : RowT base w v n R) (hr : r < base) : RowT base (w.setCell ⟨r, o, none⟩ u) v n R := by
  obtain ⟨h1, h2 | ⟨g, cp, cur, hv, hg, hh, hr'⟩⟩ := h
  · exact ⟨h1, .inl h2⟩
  · refine ⟨h1, .inr ⟨g, cp, cur, hv, hg, ?_, hr'⟩⟩
    rw [Below.heap_setCell _ _ _ _ (by simp; omega)]
    exact hh
theorem There.belowR {W W' : World} {r n B : Nat} (h : There W r n) (hb : Below B W W') (hr : r < B) : There W' r n := fun o ho => by
  obtain ⟨u, hu⟩ := (h o ho).1
  exact ⟨⟨u, (hb.cell (p := ⟨r, o, none⟩) hr).trans hu⟩, (hb.frozen (p := ⟨r, o, none⟩) hr).trans (h o ho).2⟩
set_option maxHeartbeats 4000000 in
theorem spec_KidsOf_any (z x y : Int) (w : World) : Calls Try.prog 17 #[refV z x y] w fun e w' => ∃ v, e = .returned (.agg #[.int .i64 (kidC z x y), v]) ∧ OwnT w' w.heap.size v (kidN z x y) (kidR z x y) ∧ Below w.heap.size w w' := by
  obtain ⟨i0, hi, hz0, hz1, hz2⟩ := info_parts info_rf
  go_enter Try.func17, Try.ntmps17
  go_wp2_with fail
  generalize hW : ((w.alloc _).alloc _ : World) = W
  have HB0 : Hid (Below w.heap.size w W) := by show Below _ _ _; subst hW; (repeat (first | exact Below.refl _ _ | assumption | refine Below.drew ?_ | refine bl_alloc ?_ _ | refine bl_then ?_ (by assumption) | refine Below.setCell ?_ (by first | omega | (simp; done) | (simp; omega)) _ | refine bl_store ?_ ?_ _ _))
  have HT : Hid (There W (w.heap.size + 1) 2) := by
    show There _ _ _
    subst hW
    have := there2r (w.alloc (.cells #[.int .i64 z, .int .i64 x, .int .i64 y] 25)) (.int .i64 0) (.slice none 0 0) 29
    simpa using this
  have c00 : ∀ W', Below W.heap.size W W' → W'.cell? ⟨w.heap.size, 0, none⟩ = some (.int .i64 z) := fun W' h => by
    rw [h.cell (by subst hW; simp <;> omega)]; subst hW; simp [go_sem]
  have c01 : ∀ W', Below W.heap.size W W' → W'.cell? ⟨w.heap.size, 1, none⟩ = some (.int .i64 x) := fun W' h => by
    rw [h.cell (by subst hW; simp <;> omega)]; subst hW; simp [go_sem]
  have c02 : ∀ W', Below W.heap.size W W' → W'.cell? ⟨w.heap.size, 2, none⟩ = some (.int .i64 y) := fun W' h => by
    rw [h.cell (by subst hW; simp <;> omega)]; subst hW; simp [go_sem]
  have hsz : w.heap.size + 1 < W.heap.size := by subst hW; simp
  clear hW
  refine (l7Fault_any _ _ _ _).mono ?_
  rintro e w1 ⟨rfl, hb1⟩
  have HT1 : Hid (There w1 (w.heap.size + 1) 2) := HT.out.below hb1
  have HB1 : Hid (Below w.heap.size w w1) := bl_then HB0.out hb1
  have hsz1 : w.heap.size + 1 < w1.heap.size := Nat.lt_of_lt_of_le hsz hb1.size
  have d0 : ∀ W', Below w1.heap.size w1 W' → W'.cell? ⟨w.heap.size, 0, none⟩ = some (.int .i64 z) := fun W' h => c00 W' (bl_then hb1 h)
  have d1 : ∀ W', Below w1.heap.size w1 W' → W'.cell? ⟨w.heap.size, 1, none⟩ = some (.int .i64 x) := fun W' h => c01 W' (bl_then hb1 h)
  have d2 : ∀ W', Below w1.heap.size w1 W' → W'.cell? ⟨w.heap.size, 2, none⟩ = some (.int .i64 y) := fun W' h => c02 W' (bl_then hb1 h)
  have e0 := d0 w1 (Below.refl _ _)
  have e1 := d1 w1 (Below.refl _ _)
  have e2 := d2 w1 (Below.refl _ _)
  clear hb1 HT HB0 c00 c01 c02 hsz
  have hT' := HT1.out
  have t0 := hT'.cell 0 (by omega)
  have t1 := hT'.cell 1 (by omega)
  have f0 := (hT' 0 (by omega)).2
  have f1 := (hT' 1 (by omega)).2
  clear hT'
  rcases refC_cases z x y with ⟨hc, hr⟩ | ⟨hc, hr⟩
  · simp only [hc]
    by_cases hz : z = 3
    · subst hz
      have hq : Hid (kidC 3 x y = 4 ∧ kidN 3 x y = 0) := by show _ ∧ _; simp [kidC, kidN, hr]
      clear hr hc
      go_wp2_with fail
      obtain ⟨q0, q1⟩ := set2_at (u := .int .i64 4) (v := .slice none 0 0) (show (0 : Nat) ≠ 1 by omega) (by rw [t0]; rfl) (by rw [t1]; rfl)
      refine bodyPost_ret (v := .agg #[.int .i64 4, .slice none 0 0]) (by simp [results, Try.results17, go_sem, q0, q1]) rfl ⟨.slice none 0 0, by rw [hq.out.1], by rw [hq.out.2]; exact ⟨none, 0, rfl, Nat.le_refl _, .inl rfl⟩, ?_⟩
      have HB := HB1.out
      (repeat (first | exact Below.refl _ _ | assumption | refine Below.drew ?_ | refine bl_alloc ?_ _ | refine bl_then ?_ (by assumption) | refine Below.setCell ?_ (by first | omega | (simp; done) | (simp; omega)) _ | refine bl_store ?_ ?_ _ _))
    · have hq : Hid (kidC z x y = 0 ∧ kidN z x y = 4) := by show _ ∧ _; simp [kidC, kidN, hr, hz]
      have HR : Hid (refB z x y = true) := hr
      clear hr hc
      obtain ⟨⟨z0, z1⟩, ⟨x0, x1⟩, y0, y1⟩ := ref_bd HR.out
      clear t0 t1 f0 f1 HR
      go_wp2_with fail
      generalize hW2 : (w1.alloc _ : World) = W2
      have hb2 : Below w1.heap.size w1 W2 := by subst hW2; (repeat (first | exact Below.refl _ _ | assumption | refine Below.drew ?_ | refine bl_alloc ?_ _ | refine bl_then ?_ (by assumption) | refine Below.setCell ?_ (by first | omega | (simp; done) | (simp; omega)) _ | refine bl_store ?_ ?_ _ _))
      have hs2 : w1.heap.size < W2.heap.size := by subst hW2; simp
      have HT2 : Hid (There W2 w1.heap.size 2) := by
        show There _ _ _
        subst hW2
        exact there2r w1 (.int .i64 0) (.slice none 0 0) 29
      have g0 : W2.cell? ⟨w1.heap.size, 0, none⟩ = some (.int .i64 0) := by subst hW2; simp [go_sem]
      have g1 : W2.cell? ⟨w1.heap.size, 1, none⟩ = some (.slice none 0 0) := by subst hW2; simp [go_sem]
      clear hW2
      have hzf : (z == 3) = false := by simpa using hz
      simp only [hzf]
      go_loopw [5] (fun j wr => ∃ (k : Nat) (v : Value), k ≤ 4 ∧ j = .int .i64 (k : Int) ∧ RowT W2.heap.size wr v k (kidR z x y) ∧ wr.cell? ⟨w1.heap.size, 0, none⟩ = some (.int .i64 0) ∧ wr.cell? ⟨w1.heap.size, 1, none⟩ = some v ∧ There wr w1.heap.size 2 ∧ Below w1.heap.size w1 wr ∧ W2.heap.size ≤ wr.heap.size) (fun j _ => 4 - (intOf j).toNat)
      case atStart => exact ⟨0, .slice none 0 0, by omega, rfl, RowT.no _ _ _, g0, g1, HT2.out, hb2, Nat.le_refl _⟩
      case round =>
        obtain ⟨k, v, hk, rfl, hO, h0, h1, hT3, hB, hszr⟩ := hrel
        have k0 := d0 wr hB
        have k1 := d1 wr hB
        have k2 := d2 wr hB
        have HO : Hid (RowT W2.heap.size wr v k (kidR z x y)) := hO
        have HB : Hid (Below w1.heap.size w1 wr) := hB
        have HT3 : Hid (There wr w1.heap.size 2) := hT3
        clear hO hB hT3 g0 g1 hb2 d0 d1 d2 e0 e1 e2
        by_cases hlt : k < 4
        · have hk' : (k : Int) < 4 := by omega
          obtain ⟨m, hm⟩ : ∃ m : Nat, m = k % 2 := ⟨_, rfl⟩
          obtain ⟨q, hq'⟩ : ∃ q : Nat, q = k / 2 := ⟨_, rfl⟩
          have hmb : m < 2 := by omega
          have hqb : q < 2 := by omega
          have em : (k : Int).tmod 2 = (m : Int) := by rw [Int.tmod_eq_emod_of_nonneg (by omega)]; omega
          have eq' : (k : Int).tdiv 2 = (q : Int) := by rw [Int.tdiv_eq_ediv_of_nonneg (by omega)]; omega
          have HS : Hid (cellsR (kidR z x y) (k + 1) = cellsR (kidR z x y) k ++ [.int .i64 (z + 1), .int .i64 (2 * x + (m : Int)), .int .i64 (2 * y + (q : Int))]) := by
            show _ = _
            rw [cellsR_add]
            simp [kidR, hm, hq']
          clear hm hq'
          obtain ⟨av, nv, cv, hvs⟩ : ∃ av nv cv, v = .slice av nv cv := by
            obtain ⟨a', c', e', _, _⟩ := HO.out.own
            exact ⟨_, _, _, e'⟩
          subst hvs
          have u0 := (HT3.out 0 (by omega)).2
          have u1 := (HT3.out 1 (by omega)).2
          have hblk : ∀ b, (Value.slice av nv cv).ownBlock = some b → W2.heap.size ≤ b := fun b hb => (HO.out.lt b hb).1
          go_wp2_with (first
            | (at_builtin; go_must (refine wpList_append_own _ rfl _ _ 27 rfl W2.heap.size 25 i0 (.agg #[.int .i64 0, .int .i64 0, .int .i64 0]) 3 24 Try.underlying27 hi hz0 hz1 hz2 rfl (by decide) _ k (cellsR (kidR z x y) k) rfl (World.ownsRow.alloc HO.out _) ⟨wr.heap.size, 0, none⟩ 1 1 [.int .i64 (z + 1), .int .i64 (2 * x + (m : Int)), .int .i64 (2 * y + (q : Int))] rfl rfl ?c1 ?c2 ?c3 ?c4 ?c5 ?_)))
          case c1 =>
            intro q u hq
            match q, hq with
            | 0, hq => simp at hq; subst hq; simp [Addr.add, go_sem]
            | 1, hq => simp at hq; subst hq; simp [Addr.add, go_sem]
            | 2, hq => simp at hq; subst hq; simp [Addr.add, go_sem]
            | q + 3, hq => simp at hq
          case c2 => intro u hu; simp at hu; rcases hu with rfl | rfl | rfl <;> rfl
          case c3 => unfold maxLen; omega
          case c4 => omega
          case c5 => simp; omega
          intro v' w3 hown' hgrow hnil
          clear hnil
          generalize hV : (wr.alloc _ : World) = V at hgrow
          have hBV : Below wr.heap.size wr V := by subst hV; (repeat (first | exact Below.refl _ _ | assumption | refine Below.drew ?_ | refine bl_alloc ?_ _ | refine bl_then ?_ (by assumption) | refine Below.setCell ?_ (by first | omega | (simp; done) | (simp; omega)) _ | refine bl_store ?_ ?_ _ _))
          have hlw : w1.heap.size < wr.heap.size := World.block_lt_of_cell? _ _ h0
          have hBg : Below W2.heap.size V w3 := (Below.refl _ _).grown hgrow (by have := hBV.size; omega) (fun k hk => hblk k hk)
          have hB3 : Below W2.heap.size wr w3 := (hBV.mono hszr).trans hBg
          have HO3 : Hid (RowT W2.heap.size w3 v' (k + 1) (kidR z x y)) := by
            show World.ownsRow _ _ _ _ _ _ _
            rw [HS.out]
            exact hown'
          have s0 : w3.cell? ⟨w1.heap.size, 0, none⟩ = some (.int .i64 0) := (hB3.cell (p := ⟨w1.heap.size, 0, none⟩) hs2).trans h0
          have s1 : w3.cell? ⟨w1.heap.size, 1, none⟩ = some (.slice av nv cv) := (hB3.cell (p := ⟨w1.heap.size, 1, none⟩) hs2).trans h1
          have HT4 : Hid (There w3 w1.heap.size 2) := fun o ho => by
            obtain ⟨⟨x, hx⟩, hf⟩ := HT3.out o ho
            exact ⟨⟨x, (hB3.cell (p := ⟨w1.heap.size, o, none⟩) hs2).trans hx⟩, (hB3.frozen (p := ⟨w1.heap.size, o, none⟩) hs2).trans hf⟩
          have u0' := (HT4.out 0 (by omega)).2
          have u1' := (HT4.out 1 (by omega)).2
          have HB3 : Hid (Below w1.heap.size w1 w3) := HB.out.trans (hB3.mono (by omega))
          have hs3 : W2.heap.size ≤ w3.heap.size := Nat.le_trans hszr hB3.size
          obtain ⟨an, cn, hvn, _, _⟩ := HO3.out.own
          subst hvn
          clear hown' hgrow hBg hBV hV hB3 u0 u1 h0 h1 k0 k1 k2 HT3 HB hblk
          go_wp2
          go_roundw
          case rel =>
            refine ⟨k + 1, _, by omega, by go_num, HO3.out.set (by omega), ?_, ?_, HT4.out.setR _ _, HB3.out.setCell (Nat.le_refl _) _, by simpa [World.setCell] using hs3⟩
            · rw [set1_other (fun e => by injection e with _ e; omega)]; exact s0
            · exact set1_same s1
          case measure => simp [intOf]; omega
        · have hke : k = 4 := by omega
          subst hke
          obtain ⟨av, cv, hvs, _, _⟩ := HO.out.own
          subst hvs
          have hbw := HB.out.size
          have hT' := HT1.out.belowR HB.out hsz1
          have t0 := hT'.cell 0 (by omega)
          have t1 := hT'.cell 1 (by omega)
          have f0 := (hT' 0 (by omega)).2
          have f1 := (hT' 1 (by omega)).2
          clear hT'
          have HBw : Hid (Below w.heap.size w wr) := HB1.out.trans (HB.out.mono (by omega))
          go_wp2_with fail
          obtain ⟨q0, q1⟩ := set2_at (u := .int .i64 0) (v := .slice av 4 cv) (show (0 : Nat) ≠ 1 by omega) (by rw [t0]; rfl) (by rw [t1]; rfl)
          refine bodyPost_ret (v := .agg #[.int .i64 0, .slice av 4 cv]) (by simp [results, Try.results17, go_sem, q0, q1]) rfl ⟨.slice av 4 cv, by rw [hq.out.1], by rw [hq.out.2]; exact (HO.out.own.set (by omega) (Nat.le_refl _)).set (by omega) (by omega), ?_⟩
          have HB := HBw.out
          (repeat (first | exact Below.refl _ _ | assumption | refine Below.drew ?_ | refine bl_alloc ?_ _ | refine bl_then ?_ (by assumption) | refine Below.setCell ?_ (by first | omega | (simp; done) | (simp; omega)) _ | refine bl_store ?_ ?_ _ _))
  · simp only [hc]
    have hq : Hid (kidC z x y = 3 ∧ kidN z x y = 0) := by show _ ∧ _; simp [kidC, kidN, hr]
    clear hr hc
    go_wp2_with fail
    obtain ⟨q0, q1⟩ := set2_at (u := .int .i64 3) (v := .slice none 0 0) (show (0 : Nat) ≠ 1 by omega) (by rw [t0]; rfl) (by rw [t1]; rfl)
    refine bodyPost_ret (v := .agg #[.int .i64 3, .slice none 0 0]) (by simp [results, Try.results17, go_sem, q0, q1]) rfl ⟨.slice none 0 0, by rw [hq.out.1], by rw [hq.out.2]; exact ⟨none, 0, rfl, Nat.le_refl _, .inl rfl⟩, ?_⟩
    have HB := HB1.out
    (repeat (first | exact Below.refl _ _ | assumption | refine Below.drew ?_ | refine bl_alloc ?_ _ | refine bl_then ?_ (by assumption) | refine Below.setCell ?_ (by first | omega | (simp; done) | (simp; omega)) _ | refine bl_store ?_ ?_ _ _))
end Go.Proofs.Yteeijaacecicdaa
