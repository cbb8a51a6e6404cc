/- The model's FindBox. -/
import Derived.Test.YtjnhaigmfjndhaaVFindBox32
import Derived.Test.YtjnhaigmfjndhaaVFindBox38
import Derived.Test.YtjnhaigmfjndhaaVFindBox35
namespace Go.Proofs.Ytjnhaigmfjndhaa
open Go.RowKit
set_option linter.unusedSimpArgs false
set_option linter.unusedVariables false
set_option maxRecDepth 100000

theorem rowE_is {base : Nat} {w : World} {v : Value} {es : List Ent} (h : w.ownsRow base 69 5 v es.length (entsCs es)) : ∃ a c, v = .slice a es.length c ∧ IsEs w a es.length (entAt es) := by
  obtain ⟨h1, h2 | ⟨g, cp, cur, hv, hg, hh, hkc, hcm, hcs, htk⟩⟩ := id h
  · obtain ⟨rfl, h0⟩ := h2
    exact ⟨none, 0, by rw [h0], .inl h0⟩
  · have hgl : g < w.heap.size := by
      rcases Nat.lt_or_ge g w.heap.size with h' | h'
      · exact h'
      · rw [Array.getElem?_eq_none h'] at hh; cases hh
    subst hv
    exact ⟨_, cp, rfl, .inr ⟨g, 0, rfl, hgl, esAt_row h⟩⟩
theorem OwnN.setO {w : World} {base B r o : Nat} {v u : Value} {n : Nat} {Z : Nat → Int} (h : OwnN w base v n Z) (hr : r < base) (hB : B ≤ base) : OwnN (w.setCell ⟨r, o, none⟩ u) B v n Z := by
  obtain ⟨a, cap, hv, hc, h0 | ⟨b, ha, hbb, hl, hp, ht⟩⟩ := h
  · exact ⟨a, cap, hv, hc, .inl h0⟩
  · have hne : ∀ i : Nat, (⟨r, o, none⟩ : Addr) ≠ ⟨b, i, none⟩ := fun i e => by injection e with e; omega
    refine ⟨a, cap, hv, hc, .inr ⟨b, ha, by omega, by simpa [World.setCell] using hl, fun i hi => ?_, fun o' ho' => ?_⟩⟩
    · rw [set1_other (hne _)]; exact hp i hi
    · obtain ⟨⟨x, hx⟩, hf⟩ := ht o' ho'
      exact ⟨⟨x, by rw [set1_other (hne _)]; exact hx⟩, by rw [World.frozen?_setCell]; exact hf⟩
set_option maxHeartbeats 4000000 in
theorem spec_FindBox_any (p off n cap : Nat) (Q : Nat → Qd) (x0 x1 x2 x3 : Int) (w : World) (hQ : QsAt w w.heap.size p off n Q) (hn : n ≤ 1048576) (hS : ∀ i, i < n → ∃ b o, (Q i).ea = some ⟨b, o, none⟩ ∧ b < w.heap.size ∧ EsAt w b o (Q i).en (Q i).E) (hen : ∀ i, i < n → (Q i).en ≤ 1048576) (hall : (allE Q n).length ≤ 1048576) :
    Calls Try.prog 6 #[.slice (some ⟨p, off, none⟩) n cap, .agg #[.int .i64 x0, .int .i64 x1, .int .i64 x2, .int .i64 x3]] w fun e w' => ∃ v, e = .returned (.agg #[.int .i64 (fbC Q n x0 x1 x2 x3), v]) ∧ OwnN w' w.heap.size v (fbL Q n x0 x1 x2 x3).length (nz (fbL Q n x0 x1 x2 x3)) ∧ Below w.heap.size w w' := by
  have HSb : Hid (∀ w', Below w.heap.size w w' → ∀ i, i < n → ∃ b o, (Q i).ea = some ⟨b, o, none⟩ ∧ b < w'.heap.size ∧ EsAt w' b o (Q i).en (Q i).E) := fun w' hb i hi => by
    obtain ⟨b, o, e, hl, hE⟩ := hS i hi
    exact ⟨b, o, e, Nat.lt_of_lt_of_le hl hb.size, hE.below hb hl⟩
  have HQ : Hid (QsAt w w.heap.size p off n Q) := hQ
  have HE : Hid (∀ i, i < n → (Q i).en ≤ 1048576) := hen
  have HA : Hid ((allE Q n).length ≤ 1048576) := hall
  clear hQ hS hen hall
  go_enter Try.func6, Try.ntmps6
  go_wp2_with fail
  generalize hW : ((w.alloc _).alloc _ : World) = W
  have hB0 : Below w.heap.size w W := by subst hW; (repeat (first | exact Below.refl _ _ | assumption | refine Below.drew ?_ | refine bl_alloc ?_ _ | refine bl_then ?_ (by assumption) | refine Below.setCell ?_ (by first | omega | (simp; done) | (simp; omega)) _ | refine bl_store ?_ ?_ _ _))
  have HT : Hid (There W (w.heap.size + 1) 2) := by
    show There _ _ _
    subst hW
    have := there2e (w.alloc (.cells #[.int .i64 x0, .int .i64 x1, .int .i64 x2, .int .i64 x3] 36)) (.int .i64 0) (.slice none 0 0) 30
    simpa using this
  have c00 : ∀ W', Below W.heap.size W W' → W'.cell? ⟨w.heap.size, 0, none⟩ = some (.int .i64 x0) := fun W' h => by
    rw [h.cell (by subst hW; simp <;> omega)]; subst hW; simp [go_sem]
  have c01 : ∀ W', Below W.heap.size W W' → W'.cell? ⟨w.heap.size, 1, none⟩ = some (.int .i64 x1) := fun W' h => by
    rw [h.cell (by subst hW; simp <;> omega)]; subst hW; simp [go_sem]
  have c02 : ∀ W', Below W.heap.size W W' → W'.cell? ⟨w.heap.size, 2, none⟩ = some (.int .i64 x2) := fun W' h => by
    rw [h.cell (by subst hW; simp <;> omega)]; subst hW; simp [go_sem]
  have c03 : ∀ W', Below W.heap.size W W' → W'.cell? ⟨w.heap.size, 3, none⟩ = some (.int .i64 x3) := fun W' h => by
    rw [h.cell (by subst hW; simp <;> omega)]; subst hW; simp [go_sem]
  have hsz : w.heap.size + 1 < W.heap.size := by subst hW; simp
  clear hW
  refine (l5Quads_any p off n cap Q W (HQ.out.now hB0) hn (HSb.out W hB0) HE.out HA.out).mono ?_
  rintro e w1 ⟨rfl, hb1⟩
  have HB1 : Hid (Below w.heap.size w w1) := bl_then hB0 hb1
  have HT1 : Hid (There w1 (w.heap.size + 1) 2) := HT.out.below hb1
  have hsz1 : w.heap.size + 1 < w1.heap.size := Nat.lt_of_lt_of_le hsz hb1.size
  have d0 : w1.cell? ⟨w.heap.size, 0, none⟩ = some (.int .i64 x0) := c00 w1 hb1
  have d1 : w1.cell? ⟨w.heap.size, 1, none⟩ = some (.int .i64 x1) := c01 w1 hb1
  have d2 : w1.cell? ⟨w.heap.size, 2, none⟩ = some (.int .i64 x2) := c02 w1 hb1
  have d3 : w1.cell? ⟨w.heap.size, 3, none⟩ = some (.int .i64 x3) := c03 w1 hb1
  clear hB0 hb1 HT hsz c00 c01 c02 c03
  by_cases hc : quadsC Q n = 0
  · have HFC : Hid (fbC Q n x0 x1 x2 x3 = boxC x0 x1 x2 x3) := by show _ = _; simp [fbC, hc]
    obtain ⟨h24, _, hin⟩ := ents_ok hc
    rw [hc]
    clear hc
    go_wp2_with fail
    refine (l5Box_any w.heap.size 0 x0 x1 x2 x3 _ d0 d1 d2 d3).mono ?_
    rintro e w2 ⟨rfl, hb2⟩
    have HB2 : Hid (Below w.heap.size w w2) := bl_then HB1.out hb2
    have HT2 : Hid (There w2 (w.heap.size + 1) 2) := HT1.out.below hb2
    have hsz2 : w.heap.size + 1 < w2.heap.size := Nat.lt_of_lt_of_le hsz1 hb2.size
    have k0 := bl_cell hb2 d0
    have k1 := bl_cell hb2 d1
    have k2 := bl_cell hb2 d2
    have k3 := bl_cell hb2 d3
    clear hb2 HB1 HT1 hsz1 d0 d1 d2 d3
    have hT' := HT2.out
    have t0 := hT'.cell 0 (by omega)
    have t1 := hT'.cell 1 (by omega)
    have f0 := (hT' 0 (by omega)).2
    have f1 := (hT' 1 (by omega)).2
    clear hT'
    by_cases hbc : boxC x0 x1 x2 x3 = 0
    · have HC : Hid (fbC Q n x0 x1 x2 x3 = 0) := by show _ = _; rw [HFC.out, hbc]
      have HL : Hid (fbL Q n x0 x1 x2 x3 = (rawI (entAt (esOf Q n)) (esOf Q n).length x0 x1 x2 x3).mergeSort (fun x y => decide (x ≤ y))) := by show _ = _; unfold fbL; rw [if_pos HC.out]
      have hlen : (allE Q n).length = (esOf Q n).length := by simp [esOf]
      have HIN : Hid (∀ i, i < (esOf Q n).length → 1 ≤ (entAt (esOf Q n) i).id ∧ (entAt (esOf Q n) i).id ≤ 999) := hin
      rw [hbc]
      clear hbc hin t0 t1 f0 f1
      go_wp2_with fail
      have b0 : ∀ W', Below (w.heap.size + 1) w2 W' → W'.cell? ⟨w.heap.size, 0, none⟩ = some (.int .i64 x0) := fun W' h => (h.cell (p := ⟨w.heap.size, 0, none⟩) (by show w.heap.size < _; omega)).trans k0
      have b1 : ∀ W', Below (w.heap.size + 1) w2 W' → W'.cell? ⟨w.heap.size, 1, none⟩ = some (.int .i64 x1) := fun W' h => (h.cell (p := ⟨w.heap.size, 1, none⟩) (by show w.heap.size < _; omega)).trans k1
      have b2 : ∀ W', Below (w.heap.size + 1) w2 W' → W'.cell? ⟨w.heap.size, 2, none⟩ = some (.int .i64 x2) := fun W' h => (h.cell (p := ⟨w.heap.size, 2, none⟩) (by show w.heap.size < _; omega)).trans k2
      have b3 : ∀ W', Below (w.heap.size + 1) w2 W' → W'.cell? ⟨w.heap.size, 3, none⟩ = some (.int .i64 x3) := fun W' h => (h.cell (p := ⟨w.heap.size, 3, none⟩) (by show w.heap.size < _; omega)).trans k3
      clear k0 k1 k2 k3
      refine wp_region_noPanic ?_
      refine wp_region_held_drew (S := fun W' => Below (w.heap.size + 1) w2 W') (by kernel_rfl) ((Below.refl _ _).drew) (fun hHeld => ?_)
      have hBd : Below (w.heap.size + 1) w2 w2.drew := hHeld
      refine takeD (i := 0) (d := some 18) (v := ?vg0) rfl rfl (by kernel_rfl) (by kernel_rfl) (by kernel_rfl) (fun _ _ _ h => h) (Or.inl ⟨by rfl, ?hyg0⟩) (by assumption) ?_
      case hyg0 => (intro w hSw; (try dsimp only at hSw); go_simp <;> with_reducible rfl)
      try simp only [Act.put, List.setIfInBounds_toArray, List.set_cons_zero, List.set_cons_succ]
      refine takeD (i := 2) (d := some 20) (v := ?vg2) rfl rfl (by kernel_rfl) (by kernel_rfl) (by kernel_rfl) (fun _ _ _ h => h) (Or.inl ⟨by rfl, ?hyg2⟩) (by assumption) ?_
      case hyg2 => (intro w hSw; (try dsimp only at hSw); go_simp <;> with_reducible rfl)
      try simp only [Act.put, List.setIfInBounds_toArray, List.set_cons_zero, List.set_cons_succ]
      refine wpAnyH_ready (rs := [1]) (by kernel_rfl) (by simp) ?_
      refine (AllReadyH.cons rfl (fun K hK => ?_) AllReadyH.nil)
      rw [if_pos (by rfl)]
      go_simp
      have hB2d : Below w.heap.size w w2.drew := HB2.out.drew
      refine Calls.mono (l5All_any p off n cap Q w2.drew (HQ.out.now hB2d) (HSb.out w2.drew hB2d) hn HA.out) ?_
      rintro e w3 ⟨v, rfl, hR3, hb3⟩
      obtain ⟨va, vc, rfl, hI3⟩ := rowE_is (es := esOf Q n) (by rw [← hlen]; exact hR3)
      have hb3' : Below w2.heap.size w2 w3 := ((Below.refl w2.heap.size w2).drew).trans hb3
      have hB3 : Below (w.heap.size + 1) w2 w3 := hb3'.mono (by omega)
      have HI3 : Hid (IsEs w3 va (esOf Q n).length (entAt (esOf Q n))) := hI3
      have HB3 : Hid (Below w2.heap.size w2 w3) := hb3'
      clear hR3 hI3 hb3 hb3'
      go_wp2_with fail
      refine hK.out _ _ hB3 (fun hHeld => ?_)
      clear hK K
      try simp only [Act.put, List.setIfInBounds_toArray, List.set_cons_zero, List.set_cons_succ]
      refine wpAnyH_ready (rs := [3]) (by kernel_rfl) (by simp) ?_
      refine (AllReadyH.cons rfl (fun K hK => ?_) AllReadyH.nil)
      rw [if_pos (by rfl)]
      go_simp
      refine Calls.mono (l5Find_any va (esOf Q n).length vc (entAt (esOf Q n)) x0 x1 x2 x3 w3 HI3.out h24 HIN.out) ?_
      rintro e w4 ⟨vr, rfl, hR4, hb4⟩
      rw [← HL.out] at hR4
      obtain ⟨ra, rc, rfl, _, _⟩ := hR4.own
      have HO4 : Hid (OwnN w4 w3.heap.size (.slice ra (fbL Q n x0 x1 x2 x3).length rc) (fbL Q n x0 x1 x2 x3).length (nz (fbL Q n x0 x1 x2 x3))) := hR4.own
      have hb4' : Below w2.heap.size w2 w4 := bl_then HB3.out hb4
      have hB4 : Below (w.heap.size + 1) w2 w4 := hb4'.mono (by omega)
      have hsz34 := HB3.out.size
      clear hR4 hb4
      go_wp2_with fail
      refine hK.out _ _ hB4 (fun hHeld => ?_)
      clear hK K
      try simp only [Act.put, List.setIfInBounds_toArray, List.set_cons_zero, List.set_cons_succ]
      obtain ⟨rl, hrl⟩ : ∃ rl, (fbL Q n x0 x1 x2 x3).length = rl := ⟨_, rfl⟩
      have HRL : Hid ((fbL Q n x0 x1 x2 x3).length = rl) := hrl
      rw [hrl] at HO4 ⊢
      clear hrl
      refine wpAnyH_ready (rs := [4]) (by kernel_rfl) (by simp) ?_
      refine (AllReadyH.cons rfl (fun K hK => ?_) AllReadyH.nil)
      rw [if_pos (by rfl)]
      go_wp2_with fail
      refine hK.out _ _ hB4 (fun hHeld => ?_)
      clear hK K
      try simp only [Act.put, List.setIfInBounds_toArray, List.set_cons_zero, List.set_cons_succ]
      have hT' := HT2.out.below hb4'
      have t0 := hT'.cell 0 (by omega)
      have t1 := hT'.cell 1 (by omega)
      have f0 := (hT' 0 (by omega)).2
      have f1 := (hT' 1 (by omega)).2
      have HB4 : Hid (Below w.heap.size w w4) := HB2.out.trans (hb4'.mono (by omega))
      clear hT'
      refine wpAnyH_ready (rs := [5]) (by kernel_rfl) (by simp) ?_
      refine (AllReadyH.cons rfl (fun K hK => ?_) AllReadyH.nil)
      rw [if_pos (by rfl)]
      go_simp
      refine hK.out _ _ ((hB4.setCell (Nat.le_refl _) _).setCell (Nat.le_refl _) _) (fun hHeld => ?_)
      clear hK K
      try simp only [Act.put, List.setIfInBounds_toArray, List.set_cons_zero, List.set_cons_succ]
      refine wpAnyH_done (by kernel_rfl) ?_ _
      refine NoPanic.normal ?_
      clear b0 b1 b2 b3
      go_wp2_with fail
      obtain ⟨q0, q1⟩ := set2_at (u := .int .i64 0) (v := .slice ra rl rc) (show (0 : Nat) ≠ 1 by omega) (by rw [t0]; rfl) (by rw [t1]; rfl)
      refine bodyPost_ret (v := .agg #[.int .i64 0, .slice ra rl rc]) (by simp [results, Try.results6, go_sem, q0, q1]) rfl ⟨_, by rw [HC.out], by rw [HRL.out]; exact (HO4.out.setO (by omega) (Nat.le_refl _)).setO (by omega) (by omega), ?_⟩
      have HB := HB4.out
      (repeat (first | exact Below.refl _ _ | assumption | refine Below.drew ?_ | refine bl_alloc ?_ _ | refine bl_then ?_ (by assumption) | refine Below.setCell ?_ (by first | omega | (simp; done) | (simp; omega)) _ | refine bl_store ?_ ?_ _ _))
    · have HL : Hid (fbL Q n x0 x1 x2 x3 = []) := by show _ = _; unfold fbL; rw [HFC.out, if_neg hbc]
      generalize boxC x0 x1 x2 x3 = bc at *
      go_wp2_with fail
      obtain ⟨q0, q1⟩ := set2_at (u := .int .i64 bc) (v := .slice none 0 0) (show (0 : Nat) ≠ 1 by omega) (by rw [t0]; rfl) (by rw [t1]; rfl)
      refine bodyPost_ret (v := .agg #[.int .i64 bc, .slice none 0 0]) (by simp [results, Try.results6, go_sem, q0, q1]) rfl ⟨_, by rw [HFC.out], by rw [HL.out]; exact ⟨none, 0, rfl, Nat.le_refl _, .inl rfl⟩, ?_⟩
      have HB := HB2.out
      (repeat (first | exact Below.refl _ _ | assumption | refine Below.drew ?_ | refine bl_alloc ?_ _ | refine bl_then ?_ (by assumption) | refine Below.setCell ?_ (by first | omega | (simp; done) | (simp; omega)) _ | refine bl_store ?_ ?_ _ _))
  · have HFC : Hid (fbC Q n x0 x1 x2 x3 = quadsC Q n) := by show _ = _; simp [fbC, hc]
    have HL : Hid (fbL Q n x0 x1 x2 x3 = []) := by show _ = _; unfold fbL; rw [HFC.out, if_neg hc]
    generalize quadsC Q n = qc at *
    have hT' := HT1.out
    have t0 := hT'.cell 0 (by omega)
    have t1 := hT'.cell 1 (by omega)
    have f0 := (hT' 0 (by omega)).2
    have f1 := (hT' 1 (by omega)).2
    clear hT'
    go_wp2_with fail
    obtain ⟨q0, q1⟩ := set2_at (u := .int .i64 qc) (v := .slice none 0 0) (show (0 : Nat) ≠ 1 by omega) (by rw [t0]; rfl) (by rw [t1]; rfl)
    refine bodyPost_ret (v := .agg #[.int .i64 qc, .slice none 0 0]) (by simp [results, Try.results6, go_sem, q0, q1]) rfl ⟨_, by rw [HFC.out], by rw [HL.out]; exact ⟨none, 0, rfl, Nat.le_refl _, .inl rfl⟩, ?_⟩
    have HB := HB1.out
    (repeat (first | exact Below.refl _ _ | assumption | refine Below.drew ?_ | refine bl_alloc ?_ _ | refine bl_then ?_ (by assumption) | refine Below.setCell ?_ (by first | omega | (simp; done) | (simp; omega)) _ | refine bl_store ?_ ?_ _ _))
end Go.Proofs.Ytjnhaigmfjndhaa
