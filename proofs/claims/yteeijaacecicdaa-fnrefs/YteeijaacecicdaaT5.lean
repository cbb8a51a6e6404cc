/- The kids of a ref: the program and the model. -/
import Derived.Test.YteeijaacecicdaaT4
import Derived.Test.YteeijaacecicdaaStepOwn
namespace Go.Proofs.Yteeijaacecicdaa
open Go.RowKit
set_option linter.unusedSimpArgs false
set_option linter.unusedVariables false
set_option maxRecDepth 100000

theorem info_rf : (Try.prog.info? 25).map (fun i => (i.zero, i.size, i.bytes)) = some (some (.agg #[.int .i64 0, .int .i64 0, .int .i64 0]), 3, 24) := by kernel_rfl
/-- What the kids have. -/
def kidR (z x y : Int) : Rfs := ⟨fun _ => z + 1, fun i => 2 * x + (i % 2 : Nat), fun i => 2 * y + (i / 2 : Nat)⟩
def cellsR (R : Rfs) (n : Nat) : List Value := (List.range n).flatMap fun i => [.int .i64 (R.z i), .int .i64 (R.x i), .int .i64 (R.y i)]
theorem cellsR_add (R : Rfs) (n : Nat) : cellsR R (n + 1) = cellsR R n ++ [.int .i64 (R.z n), .int .i64 (R.x n), .int .i64 (R.y n)] := by simp [cellsR, List.range_succ]
theorem cellsR_len (R : Rfs) : ∀ n, (cellsR R n).length = n * 3
  | 0 => rfl
  | n + 1 => by rw [cellsR_add, List.length_append, cellsR_len R n]; simp; omega
theorem cellsR_at (R : Rfs) : ∀ (n i : Nat), i < n → (cellsR R n)[i * 3]? = some (.int .i64 (R.z i)) ∧ (cellsR R n)[i * 3 + 1]? = some (.int .i64 (R.x i)) ∧ (cellsR R n)[i * 3 + 2]? = some (.int .i64 (R.y i))
  | 0, i, h => absurd h (by omega)
  | n + 1, i, h => by
    rw [cellsR_add]
    by_cases e : i = n
    · subst e
      have hl := cellsR_len R i
      rw [List.getElem?_append_right (by omega), List.getElem?_append_right (by omega), List.getElem?_append_right (by omega), hl]
      have e1 : i * 3 + 1 - i * 3 = 1 := by omega
      have e2 : i * 3 + 2 - i * 3 = 2 := by omega
      rw [Nat.sub_self, e1, e2]
      exact ⟨rfl, rfl, rfl⟩
    · have hl := cellsR_len R n
      rw [List.getElem?_append_left (by omega), List.getElem?_append_left (by omega), List.getElem?_append_left (by omega)]
      exact cellsR_at R n i (by omega)
/-- v is a row of its own with n refs. -/
def RowT (base : Nat) (w : World) (v : Value) (n : Nat) (R : Rfs) : Prop := w.ownsRow base 25 3 v n (cellsR R n)
theorem RowT.no (base : Nat) (w : World) (R : Rfs) : RowT base w (.slice none 0 0) 0 R := World.ownsRow_nil _ _ _ _
theorem RowT.own {base : Nat} {w : World} {v : Value} {n : Nat} {R : Rfs} (h : RowT base w v n R) : OwnT w base v n R := by
  obtain ⟨h1, h2 | ⟨g, cp, cur, hv, hg, hh, hkc, hcm, hcs, htk⟩⟩ := h
  · obtain ⟨rfl, h0⟩ := h2
    rw [h0]
    exact ⟨none, 0, rfl, Nat.le_refl _, .inl rfl⟩
  · have hgl : g < w.heap.size := by
      rcases Nat.lt_or_ge g w.heap.size with h' | h'
      · exact h'
      · rw [Array.getElem?_eq_none h'] at hh; cases hh
    have hrow : w.ownsRow base 25 3 (.slice (some ⟨g, 0, none⟩) n cp) n (cellsR R n) := ⟨h1, .inr ⟨g, cp, cur, rfl, hg, hh, hkc, hcm, hcs, htk⟩⟩
    refine ⟨some ⟨g, 0, none⟩, cp, hv, hkc, .inr ⟨g, rfl, hg, hgl, fun i hi => ?_, fun o ho => ⟨?_, hrow.frozenAt o⟩⟩⟩
    · obtain ⟨e1, e2, e3⟩ := cellsR_at R n i hi
      simp only [Nat.zero_add]
      exact ⟨(hrow.cellAt _ (by omega)).trans e1, (hrow.cellAt _ (by omega)).trans e2, (hrow.cellAt _ (by omega)).trans e3⟩
    · rw [hrow.cellAt o ho]
      have hlt : o < (cellsR R n).length := by rw [cellsR_len]; exact ho
      exact ⟨(cellsR R n)[o], List.getElem?_eq_getElem hlt⟩
set_option maxHeartbeats 4000000 in
theorem kids_any (z x y : Int) (w : World) (h : refB z x y = true) : Calls Try.prog 27 #[refV z x y] w fun e w' => ∃ v, e = .returned v ∧ RowT w.heap.size w' v 4 (kidR z x y) ∧ Below w.heap.size w w' := by
  obtain ⟨i0, hi, hz0, hz1, hz2⟩ := info_parts info_rf
  obtain ⟨⟨z0, z1⟩, ⟨x0, x1⟩, y0, y1⟩ := ref_bd h
  clear h
  go_enter Try.func27, Try.ntmps27
  go_wp2_with fail
  generalize hW : (w.alloc _ : World) = W
  have HB0 : Hid (Below w.heap.size w W) := by show Below _ _ _; subst hW; (repeat (first | exact Below.refl _ _ | assumption | refine Below.drew ?_ | refine bl_alloc ?_ _ | refine bl_then ?_ (by assumption) | refine Below.setCell ?_ (by first | omega | (simp; done) | (simp; omega)) _ | refine bl_store ?_ ?_ _ _))
  have c00 : ∀ W', Below W.heap.size W W' → W'.cell? ⟨w.heap.size, 0, none⟩ = some (.int .i64 z) := fun W' h => by
    rw [h.cell (by subst hW; simp <;> omega)]; subst hW; simp [go_sem]
  have c01 : ∀ W', Below W.heap.size W W' → W'.cell? ⟨w.heap.size, 1, none⟩ = some (.int .i64 x) := fun W' h => by
    rw [h.cell (by subst hW; simp <;> omega)]; subst hW; simp [go_sem]
  have c02 : ∀ W', Below W.heap.size W W' → W'.cell? ⟨w.heap.size, 2, none⟩ = some (.int .i64 y) := fun W' h => by
    rw [h.cell (by subst hW; simp <;> omega)]; subst hW; simp [go_sem]
  have hsz : w.heap.size < W.heap.size := by subst hW; simp
  clear hW
  go_loopw [3, 6] (fun v j wr => ∃ k : Nat, k ≤ 2 ∧ j = .int .i64 (k : Int) ∧ RowT W.heap.size wr v (2 * k) (kidR z x y) ∧ Below W.heap.size W wr) (fun _ j _ => 2 - (intOf j).toNat)
  case atStart => exact ⟨0, by omega, rfl, RowT.no _ _ _, Below.refl _ _⟩
  case round =>
    obtain ⟨k, hk, rfl, hO, hB⟩ := hrel
    by_cases hlt : k < 2
    · have hi' : (k : Int) < 2 := by omega
      have HO0 : Hid (RowT W.heap.size wr u3 (2 * k) (kidR z x y)) := hO
      have HB1 : Hid (Below W.heap.size W wr) := hB
      clear hO hB
      go_wp2_with fail
      go_loopw [3, 9] (fun v j wr => ∃ m : Nat, m ≤ 2 ∧ j = .int .i64 (m : Int) ∧ RowT W.heap.size wr v (2 * k + m) (kidR z x y) ∧ Below W.heap.size W wr) (fun _ j _ => 2 - (intOf j).toNat)
      case atStart => exact ⟨0, by omega, rfl, HO0.out, HB1.out⟩
      case round =>
        obtain ⟨m, hm, rfl, hO, hB⟩ := hrel
        by_cases hlm : m < 2
        · have hm' : (m : Int) < 2 := by omega
          have HO : Hid (RowT W.heap.size wr u3 (2 * k + m) (kidR z x y)) := hO
          have HB : Hid (Below W.heap.size W wr) := hB
          have hszr : W.heap.size ≤ wr.heap.size := hB.size
          have k0 := c00 wr hB
          have k1 := c01 wr hB
          have k2 := c02 wr hB
          have HS : Hid (cellsR (kidR z x y) (2 * k + m + 1) = cellsR (kidR z x y) (2 * k + m) ++ [.int .i64 (z + 1), .int .i64 (2 * x + (m : Int)), .int .i64 (2 * y + (k : Int))]) := by
            show _ = _
            rw [cellsR_add]
            have e1 : (2 * k + m) % 2 = m := by omega
            have e2 : (2 * k + m) / 2 = k := by omega
            simp [kidR, e1, e2]
            exact ⟨by omega, by omega⟩
          clear hO hB c00 c01 c02 HO0 HB1
          go_wp2_with (first
            | (at_builtin; go_must (refine wpList_append_own _ rfl _ _ 27 rfl W.heap.size 25 i0 (.agg #[.int .i64 0, .int .i64 0, .int .i64 0]) 3 24 Try.underlying27 hi hz0 hz1 hz2 rfl (by decide) _ (2 * k + m) (cellsR (kidR z x y) (2 * k + m)) rfl (World.ownsRow.alloc HO.out _) ⟨wr.heap.size, 0, none⟩ 1 1 [.int .i64 (z + 1), .int .i64 (2 * x + (m : Int)), .int .i64 (2 * y + (k : Int))] rfl rfl ?c1 ?c2 ?c3 ?c4 ?c5 ?_)))
          case c1 =>
            intro q u hq
            match q, hq with
            | 0, hq => simp at hq; subst hq; simp [Addr.add, go_sem]
            | 1, hq => simp at hq; subst hq; simp [Addr.add, go_sem]
            | 2, hq => simp at hq; subst hq; simp [Addr.add, go_sem]
            | q + 3, hq => simp at hq
          case c2 => intro u hu; simp at hu; rcases hu with rfl | rfl | rfl <;> rfl
          case c3 => unfold maxLen; omega
          case c4 => omega
          case c5 => simp; omega
          intro v' w3 hown' hgrow hnil
          clear hnil
          generalize hV : (wr.alloc _ : World) = V at hgrow
          have hBV : Below wr.heap.size wr V := by subst hV; (repeat (first | exact Below.refl _ _ | assumption | refine Below.drew ?_ | refine bl_alloc ?_ _ | refine bl_then ?_ (by assumption) | refine Below.setCell ?_ (by first | omega | (simp; done) | (simp; omega)) _ | refine bl_store ?_ ?_ _ _))
          have hBg : Below W.heap.size V w3 := (Below.refl _ _).grown hgrow (by have := hBV.size; omega) (fun k hk => (HO.out.lt k hk).1)
          have HB3 : Hid (Below W.heap.size W w3) := (HB.out.trans (hBV.mono hszr)).trans hBg
          have HO3 : Hid (RowT W.heap.size w3 v' (2 * k + m + 1) (kidR z x y)) := by
            show World.ownsRow _ _ _ _ _ _ _
            rw [HS.out]
            exact hown'
          clear hown' hgrow hBg hBV hV
          go_wp2
          go_roundw
          case rel => exact ⟨m + 1, by omega, by go_num, HO3.out, HB3.out⟩
          case measure => simp [intOf]; omega
        · have hme : m = 2 := by omega
          subst hme
          have HO : Hid (RowT W.heap.size wr u3 (2 * k + 2) (kidR z x y)) := hO
          have HB : Hid (Below W.heap.size W wr) := hB
          clear hO hB
          go_wp2
          go_roundw
          case rel => exact ⟨k + 1, by omega, by go_num, HO.out, HB.out⟩
          case measure => simp [intOf]; omega
    · have hke : k = 2 := by omega
      subst hke
      have HO : Hid (RowT W.heap.size wr u3 4 (kidR z x y)) := hO
      have HB : Hid (Below W.heap.size W wr) := hB
      clear hO hB
      go_wp2
      go_ret
      refine ⟨_, rfl, ?_, bl_then HB0.out HB.out⟩
      obtain ⟨g1, g2 | ⟨g, cp, cur, hv, hg, hh, hr⟩⟩ := HO.out
      · exact ⟨g1, .inl g2⟩
      · exact ⟨g1, .inr ⟨g, cp, cur, hv, by omega, hh, hr⟩⟩
theorem there2r (V : World) (a b : Value) (t : TypeId) : There (V.alloc (.cells #[a, b] t)) V.heap.size 2 := fun o ho => by
  have : o = 0 ∨ o = 1 := by omega
  rcases this with rfl | rfl <;> exact ⟨⟨_, by simp [go_sem]; rfl⟩, by simp [go_sem]⟩
def kidC (z x y : Int) : Int := if refB z x y = true then (if z = 3 then 4 else 0) else 3
def kidN (z x y : Int) : Nat := if refB z x y = true then (if z = 3 then 0 else 4) else 0
/-- A list stays where another block is written. -/
theorem OwnT.set {w : World} {base B r o : Nat} {v u : Value} {n : Nat} {R : Rfs} (h : OwnT w base v n R) (hr : r < base) (hB : B ≤ base) : OwnT (w.setCell ⟨r, o, none⟩ u) B v n R := by
  obtain ⟨a, cap, hv, hc, h0 | ⟨b, ha, hbb, hl, hp, ht⟩⟩ := h
  · exact ⟨a, cap, hv, hc, .inl h0⟩
  · have hne : ∀ i : Nat, (⟨r, o, none⟩ : Addr) ≠ ⟨b, i, none⟩ := fun i e => by injection e with e; omega
    refine ⟨a, cap, hv, hc, .inr ⟨b, ha, by omega, by simpa [World.setCell] using hl, fun i hi => ?_, fun o' ho' => ?_⟩⟩
    · obtain ⟨h0, h1, h2⟩ := hp i hi
      exact ⟨by rw [set1_other (hne _)]; exact h0, by rw [set1_other (hne _)]; exact h1, by rw [set1_other (hne _)]; exact h2⟩
    · obtain ⟨⟨x, hx⟩, hf⟩ := ht o' ho'
      exact ⟨⟨x, by rw [set1_other (hne _)]; exact hx⟩, by rw [World.frozen?_setCell]; exact hf⟩
set_option maxHeartbeats 4000000 in
theorem impl_KidsOf_any (z x y : Int) (w : World) : Calls Try.prog 10 #[refV z x y] w fun e w' => ∃ v, e = .returned (.agg #[.int .i64 (kidC z x y), v]) ∧ OwnT w' w.heap.size v (kidN z x y) (kidR z x y) ∧ Below w.heap.size w w' := by
  go_enter Try.func10, Try.ntmps10
  go_wp2_with fail
  generalize hW : ((w.alloc _).alloc _ : World) = W
  have HB0 : Hid (Below w.heap.size w W) := by show Below _ _ _; subst hW; (repeat (first | exact Below.refl _ _ | assumption | refine Below.drew ?_ | refine bl_alloc ?_ _ | refine bl_then ?_ (by assumption) | refine Below.setCell ?_ (by first | omega | (simp; done) | (simp; omega)) _ | refine bl_store ?_ ?_ _ _))
  have HT : Hid (There W (w.heap.size + 1) 2) := by
    show There _ _ _
    subst hW
    have := there2r (w.alloc (.cells #[.int .i64 z, .int .i64 x, .int .i64 y] 25)) (.int .i64 0) (.slice none 0 0) 29
    simpa using this
  have c00 : ∀ W', Below W.heap.size W W' → W'.cell? ⟨w.heap.size, 0, none⟩ = some (.int .i64 z) := fun W' h => by
    rw [h.cell (by subst hW; simp <;> omega)]; subst hW; simp [go_sem]
  have c01 : ∀ W', Below W.heap.size W W' → W'.cell? ⟨w.heap.size, 1, none⟩ = some (.int .i64 x) := fun W' h => by
    rw [h.cell (by subst hW; simp <;> omega)]; subst hW; simp [go_sem]
  have c02 : ∀ W', Below W.heap.size W W' → W'.cell? ⟨w.heap.size, 2, none⟩ = some (.int .i64 y) := fun W' h => by
    rw [h.cell (by subst hW; simp <;> omega)]; subst hW; simp [go_sem]
  have hsz : w.heap.size + 1 < W.heap.size := by subst hW; simp
  clear hW
  refine (refFault_any _ _ _ _).mono ?_
  rintro e w1 ⟨rfl, hb1⟩
  have HT1 : Hid (There w1 (w.heap.size + 1) 2) := HT.out.below hb1
  have HB1 : Hid (Below w.heap.size w w1) := bl_then HB0.out hb1
  have hsz1 : w.heap.size + 1 < w1.heap.size := Nat.lt_of_lt_of_le hsz hb1.size
  have d0 : ∀ W', Below w1.heap.size w1 W' → W'.cell? ⟨w.heap.size, 0, none⟩ = some (.int .i64 z) := fun W' h => c00 W' (bl_then hb1 h)
  have d1 : ∀ W', Below w1.heap.size w1 W' → W'.cell? ⟨w.heap.size, 1, none⟩ = some (.int .i64 x) := fun W' h => c01 W' (bl_then hb1 h)
  have d2 : ∀ W', Below w1.heap.size w1 W' → W'.cell? ⟨w.heap.size, 2, none⟩ = some (.int .i64 y) := fun W' h => c02 W' (bl_then hb1 h)
  have e0 := d0 w1 (Below.refl _ _)
  have e1 := d1 w1 (Below.refl _ _)
  have e2 := d2 w1 (Below.refl _ _)
  clear hb1 HT HB0 c00 c01 c02 hsz
  have hT' := HT1.out
  have t0 := hT'.cell 0 (by omega)
  have t1 := hT'.cell 1 (by omega)
  have f0 := (hT' 0 (by omega)).2
  have f1 := (hT' 1 (by omega)).2
  clear hT'
  rcases refC_cases z x y with ⟨hc, hr⟩ | ⟨hc, hr⟩
  · simp only [hc]
    by_cases hz : z = 3
    · subst hz
      have hq : Hid (kidC 3 x y = 4 ∧ kidN 3 x y = 0) := by show _ ∧ _; simp [kidC, kidN, hr]
      clear hr hc
      go_wp2_with fail
      obtain ⟨q0, q1⟩ := set2_at (u := .int .i64 4) (v := .slice none 0 0) (show (0 : Nat) ≠ 1 by omega) (by rw [t0]; rfl) (by rw [t1]; rfl)
      refine bodyPost_ret (v := .agg #[.int .i64 4, .slice none 0 0]) (by simp [results, Try.results10, go_sem, q0, q1]) rfl ⟨.slice none 0 0, by rw [hq.out.1], by rw [hq.out.2]; exact ⟨none, 0, rfl, Nat.le_refl _, .inl rfl⟩, ?_⟩
      have HB := HB1.out
      (repeat (first | exact Below.refl _ _ | assumption | refine Below.drew ?_ | refine bl_alloc ?_ _ | refine bl_then ?_ (by assumption) | refine Below.setCell ?_ (by first | omega | (simp; done) | (simp; omega)) _ | refine bl_store ?_ ?_ _ _))
    · have hq : Hid (kidC z x y = 0 ∧ kidN z x y = 4) := by show _ ∧ _; simp [kidC, kidN, hr, hz]
      have HR : Hid (refB z x y = true) := hr
      clear hr hc
      clear t0 t1 f0 f1
      go_wp2_with fail
      refine (kids_any z x y _ HR.out).mono ?_
      rintro e w2 ⟨vk, rfl, hO2, hb2⟩
      have hT' := HT1.out.below hb2
      have t0 := hT'.cell 0 (by omega)
      have t1 := hT'.cell 1 (by omega)
      have f0 := (hT' 0 (by omega)).2
      have f1 := (hT' 1 (by omega)).2
      have HB2 : Hid (Below w.heap.size w w2) := bl_then HB1.out hb2
      have hsz2 : w.heap.size + 1 < w2.heap.size := Nat.lt_of_lt_of_le hsz1 hb2.size
      have HO2 : Hid (OwnT w2 w1.heap.size vk 4 (kidR z x y)) := hO2.own
      obtain ⟨ak, capk, hvk, _, _⟩ := hO2.own
      subst hvk
      clear hT' hb2 hO2
      go_wp2_with fail
      obtain ⟨q0, q1⟩ := set2_at (u := .int .i64 0) (v := .slice ak 4 capk) (show (0 : Nat) ≠ 1 by omega) (by rw [t0]; rfl) (by rw [t1]; rfl)
      refine bodyPost_ret (v := .agg #[.int .i64 0, .slice ak 4 capk]) (by simp [results, Try.results10, go_sem, q0, q1]) rfl ⟨.slice ak 4 capk, by rw [hq.out.1], by rw [hq.out.2]; exact (HO2.out.set (by omega) (Nat.le_refl _)).set (by omega) (by omega), ?_⟩
      have HB := HB2.out
      (repeat (first | exact Below.refl _ _ | assumption | refine Below.drew ?_ | refine bl_alloc ?_ _ | refine bl_then ?_ (by assumption) | refine Below.setCell ?_ (by first | omega | (simp; done) | (simp; omega)) _ | refine bl_store ?_ ?_ _ _))
  · simp only [hc]
    have hq : Hid (kidC z x y = 3 ∧ kidN z x y = 0) := by show _ ∧ _; simp [kidC, kidN, hr]
    clear hr hc
    go_wp2_with fail
    obtain ⟨q0, q1⟩ := set2_at (u := .int .i64 3) (v := .slice none 0 0) (show (0 : Nat) ≠ 1 by omega) (by rw [t0]; rfl) (by rw [t1]; rfl)
    refine bodyPost_ret (v := .agg #[.int .i64 3, .slice none 0 0]) (by simp [results, Try.results10, go_sem, q0, q1]) rfl ⟨.slice none 0 0, by rw [hq.out.1], by rw [hq.out.2]; exact ⟨none, 0, rfl, Nat.le_refl _, .inl rfl⟩, ?_⟩
    have HB := HB1.out
    (repeat (first | exact Below.refl _ _ | assumption | refine Below.drew ?_ | refine bl_alloc ?_ _ | refine bl_then ?_ (by assumption) | refine Below.setCell ?_ (by first | omega | (simp; done) | (simp; omega)) _ | refine bl_store ?_ ?_ _ _))
end Go.Proofs.Yteeijaacecicdaa
