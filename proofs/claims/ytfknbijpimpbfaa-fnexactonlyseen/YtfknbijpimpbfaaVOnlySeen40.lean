/- A law of requests returns true at every argument. -/
import Derived.Test.YtfknbijpimpbfaaVOnlySeen39
import Derived.Deep.DeepCutAuto
namespace Go.Proofs.Ytfknbijpimpbfaa
open Go.RowKit
set_option linter.unusedSimpArgs false
set_option linter.unusedVariables false
set_option maxRecDepth 100000

set_option maxHeartbeats 8000000 in
theorem FnExactOnlySeen_law (c : Int) (a : Option Addr) (n cap : Nat) (E : Nat → Req) (x0 x1 x2 x3 x4 : Int) (m : Nat) (R : Rfs) (k : Nat) (Z : Nat → Req) (w : World) (h : IsWs w a n E ∧ n ≤ cap ∧ cap ≤ maxLen) (hm : m ≤ 1048576) (hk : k ≤ 1048576)
    (hsp : n ≤ 1048576 → ∀ b w, WsAt w b 0 n E → b < w.heap.size → Calls Try.prog 8 #[.slice (some ⟨b, 0, none⟩) n n, .agg #[.int .i64 x0, .int .i64 x1, .int .i64 x2, .int .i64 x3, .int .i64 x4]] w fun e w' => ∃ v1 v2, e = .returned (rqV c v1 v2) ∧ OwA w.heap.size m R k Z w' v1 v2 ∧ Below w.heap.size w w')
    (him : n ≤ 1048576 → ∀ b w, WsAt w b 0 n E → b < w.heap.size → Calls Try.prog 7 #[.slice (some ⟨b, 0, none⟩) n n, .agg #[.int .i64 x0, .int .i64 x1, .int .i64 x2, .int .i64 x3, .int .i64 x4]] w fun e w' => ∃ v1 v2, e = .returned (rqV c v1 v2) ∧ OwA w.heap.size m R k Z w' v1 v2 ∧ Below w.heap.size w w') :
    Calls Try.prog 4 #[.slice a n cap, .agg #[.int .i64 x0, .int .i64 x1, .int .i64 x2, .int .i64 x3, .int .i64 x4]] w fun e w' => e = .returned (.bool true) ∧ Below w.heap.size w w' := by
  obtain ⟨hf, hc, hmx⟩ := h
  have HI : Hid (IsWs w a n E) := hf
  have HM : Hid (n ≤ maxLen) := Nat.le_trans hc hmx
  clear hf hc hmx
  by_cases hbig : 1048576 < n
  · clear hsp him
    go_enter Try.func4, Try.ntmps4
    go_wp2_with (go_at_call 13; refine (szRequestS_no a n cap 1048576 _ (by omega) hbig HM.out).mono ?_; rintro e w' ⟨rfl, hb⟩)
    go_ret
    exact ⟨rfl, by (repeat (first | exact Below.refl _ _ | assumption | refine Below.drew ?_ | refine bl_alloc ?_ _ | refine bl_then ?_ (by assumption) | refine Below.setCell ?_ (by first | omega | (simp; done) | (simp; omega)) _ | refine bl_store ?_ ?_ _ _))⟩
  have hn : n ≤ 1048576 := by omega
  have Hsp : Hid (∀ b w, WsAt w b 0 n E → b < w.heap.size → Calls Try.prog 8 #[.slice (some ⟨b, 0, none⟩) n n, .agg #[.int .i64 x0, .int .i64 x1, .int .i64 x2, .int .i64 x3, .int .i64 x4]] w fun e w' => ∃ v1 v2, e = .returned (rqV c v1 v2) ∧ OwA w.heap.size m R k Z w' v1 v2 ∧ Below w.heap.size w w') := hsp hn
  have Him : Hid (∀ b w, WsAt w b 0 n E → b < w.heap.size → Calls Try.prog 7 #[.slice (some ⟨b, 0, none⟩) n n, .agg #[.int .i64 x0, .int .i64 x1, .int .i64 x2, .int .i64 x3, .int .i64 x4]] w fun e w' => ∃ v1 v2, e = .returned (rqV c v1 v2) ∧ OwA w.heap.size m R k Z w' v1 v2 ∧ Below w.heap.size w w') := him hn
  have hneg : ¬ (1048576 : Int) - (n : Int) < 0 := by omega
  clear hbig hsp him
  go_enter Try.func4, Try.ntmps4
  go_wp2_with fail
  generalize hW : (w.alloc _ : World) = W
  have hBW : Below w.heap.size w W := by subst hW; (repeat (first | exact Below.refl _ _ | assumption | refine Below.drew ?_ | refine bl_alloc ?_ _ | refine bl_then ?_ (by assumption) | refine Below.setCell ?_ (by first | omega | (simp; done) | (simp; omega)) _ | refine bl_store ?_ ?_ _ _))
  have c00 : ∀ W', Below W.heap.size W W' → W'.cell? ⟨w.heap.size, 0, none⟩ = some (.int .i64 x0) := fun W' h => by
    rw [h.cell (by subst hW; simp <;> omega)]; subst hW; simp [go_sem]
  have c01 : ∀ W', Below W.heap.size W W' → W'.cell? ⟨w.heap.size, 1, none⟩ = some (.int .i64 x1) := fun W' h => by
    rw [h.cell (by subst hW; simp <;> omega)]; subst hW; simp [go_sem]
  have c02 : ∀ W', Below W.heap.size W W' → W'.cell? ⟨w.heap.size, 2, none⟩ = some (.int .i64 x2) := fun W' h => by
    rw [h.cell (by subst hW; simp <;> omega)]; subst hW; simp [go_sem]
  have c03 : ∀ W', Below W.heap.size W W' → W'.cell? ⟨w.heap.size, 3, none⟩ = some (.int .i64 x3) := fun W' h => by
    rw [h.cell (by subst hW; simp <;> omega)]; subst hW; simp [go_sem]
  have c04 : ∀ W', Below W.heap.size W W' → W'.cell? ⟨w.heap.size, 4, none⟩ = some (.int .i64 x4) := fun W' h => by
    rw [h.cell (by subst hW; simp <;> omega)]; subst hW; simp [go_sem]
  clear hW
  refine (szRequestS_ok a n cap 1048576 W (by omega) hn).mono ?_
  rintro e w1 ⟨rfl, hb1⟩
  have hB1 : Below w.heap.size w w1 := bl_then hBW hb1
  have y0 : ∀ W', Below w1.heap.size w1 W' → W'.cell? ⟨w.heap.size, 0, none⟩ = some (.int .i64 x0) := fun W' h => c00 W' (bl_then hb1 h)
  have y1 : ∀ W', Below w1.heap.size w1 W' → W'.cell? ⟨w.heap.size, 1, none⟩ = some (.int .i64 x1) := fun W' h => c01 W' (bl_then hb1 h)
  have y2 : ∀ W', Below w1.heap.size w1 W' → W'.cell? ⟨w.heap.size, 2, none⟩ = some (.int .i64 x2) := fun W' h => c02 W' (bl_then hb1 h)
  have y3 : ∀ W', Below w1.heap.size w1 W' → W'.cell? ⟨w.heap.size, 3, none⟩ = some (.int .i64 x3) := fun W' h => c03 W' (bl_then hb1 h)
  have y4 : ∀ W', Below w1.heap.size w1 W' → W'.cell? ⟨w.heap.size, 4, none⟩ = some (.int .i64 x4) := fun W' h => c04 W' (bl_then hb1 h)
  clear c00 c01 c02 c03 c04 hb1 hBW
  have HTQ : Hid (∀ W', Below w1.heap.size w1 W' → Calls Try.prog 14 #[.slice a n cap] W' fun e w' => ∃ b, e = .returned (.slice (some ⟨b, 0, none⟩) n n) ∧ W'.heap.size ≤ b ∧ b < w'.heap.size ∧ WsAt w' b 0 n E ∧ There w' b (n * 5) ∧ Below W'.heap.size W' w') := fun W' h => toRequestS_any a n cap E W' (HI.out.below (bl_then hB1 h)) hn
  have hrf : Below w1.heap.size w1 w1 := Below.refl _ _
  go_wp2_with fail
  go_cut [6] (fun t wx => ∃ (b : Nat) (a1 : Option Addr) (p1 : Nat) (a2 : Option Addr) (p2 : Nat), t = .pointer (some ⟨b, 0, none⟩) ∧ Below w1.heap.size w1 wx ∧ w1.heap.size ≤ b ∧ wx.cell? ⟨b, 0, none⟩ = some (.int .i64 c) ∧ wx.cell? ⟨b, 1, none⟩ = some (.slice a1 m p1) ∧ wx.cell? ⟨b, 2, none⟩ = some (.slice a2 k p2) ∧ IsA m R k Z wx (.slice a1 m p1) (.slice a2 k p2))
  case first =>
    have s0 : ∀ W', Below w1.heap.size w1 W' → W'.cell? ⟨w.heap.size, 0, none⟩ = some (.int .i64 x0) := fun W' h => y0 W' (bl_then hrf h)
    have s1 : ∀ W', Below w1.heap.size w1 W' → W'.cell? ⟨w.heap.size, 1, none⟩ = some (.int .i64 x1) := fun W' h => y1 W' (bl_then hrf h)
    have s2 : ∀ W', Below w1.heap.size w1 W' → W'.cell? ⟨w.heap.size, 2, none⟩ = some (.int .i64 x2) := fun W' h => y2 W' (bl_then hrf h)
    have s3 : ∀ W', Below w1.heap.size w1 W' → W'.cell? ⟨w.heap.size, 3, none⟩ = some (.int .i64 x3) := fun W' h => y3 W' (bl_then hrf h)
    have s4 : ∀ W', Below w1.heap.size w1 W' → W'.cell? ⟨w.heap.size, 4, none⟩ = some (.int .i64 x4) := fun W' h => y4 W' (bl_then hrf h)
    refine wp_region_noPanic ?_
    refine wp_region_held_drew (S := fun W' => Below w1.heap.size w1 W') (by kernel_rfl) (by (repeat (first | exact Below.refl _ _ | assumption | refine Below.drew ?_ | refine bl_alloc ?_ _ | refine bl_then ?_ (by assumption) | refine Below.setCell ?_ (by first | omega | (simp; done) | (simp; omega)) _ | refine bl_store ?_ ?_ _ _))) (fun hHeld => ?_)
    have hX0 : Below w1.heap.size w1 w1.drew := hHeld
    refine takeD (i := 0) (d := some 18) (v := ?vf0) rfl rfl (by kernel_rfl) (by kernel_rfl) (by kernel_rfl) (fun _ _ _ h => h) (Or.inl ⟨by rfl, ?hyf0⟩) (by assumption) ?_
    case hyf0 => (intro w hSw; (try dsimp only at hSw); go_simp <;> with_reducible rfl)
    try simp only [Act.put, List.setIfInBounds_toArray, List.set_cons_zero, List.set_cons_succ]
    refine takeD (i := 2) (d := some 20) (v := ?vf2) rfl rfl (by kernel_rfl) (by kernel_rfl) (by kernel_rfl) (fun _ _ _ h => h) (Or.inl ⟨by rfl, ?hyf2⟩) (by assumption) ?_
    case hyf2 => (intro w hSw; (try dsimp only at hSw); go_simp <;> with_reducible rfl)
    try simp only [Act.put, List.setIfInBounds_toArray, List.set_cons_zero, List.set_cons_succ]
    generalize w1.drew = wk0 at *
    refine wpAnyH_ready (rs := [1, 5]) (by kernel_rfl) (by simp) ?_
    refine (AllReadyH.cons rfl (fun K hK => ?_) (AllReadyH.cons rfl (fun K hK => ?_) AllReadyH.nil))
    · rw [if_pos (by rfl)]
      go_simp
      refine Calls.mono (HTQ.out _ (bl_then hrf hX0)) ?_
      rintro e wf1 ⟨bq, rfl, hge1, hl1, hq1, _, hb1⟩
      have hXf1 : Below w1.heap.size w1 wf1 := bl_then hX0 hb1
      go_wp2_with fail
      refine hK.out _ _ hXf1 (fun hHeld => ?_)
      clear hK K
      try simp only [Act.put, List.setIfInBounds_toArray, List.set_cons_zero, List.set_cons_succ]
      refine wpAnyH_ready (rs := [3, 5]) (by kernel_rfl) (by simp) ?_
      refine (AllReadyH.cons rfl (fun K hK => ?_) (AllReadyH.cons rfl (fun K hK => ?_) AllReadyH.nil))
      · rw [if_pos (by rfl)]
        go_simp
        refine Calls.mono (toCamera_any _ _ _ _ _ _) ?_
        rintro e wf2 ⟨rfl, hb2⟩
        have hq2 := hq1.below hb2 hl1
        have hl2 := Nat.lt_of_lt_of_le hl1 hb2.size
        have hXf2 : Below w1.heap.size w1 wf2 := bl_then hXf1 hb2
        go_wp2_with fail
        refine hK.out _ _ hXf2 (fun hHeld => ?_)
        clear hK K
        try simp only [Act.put, List.setIfInBounds_toArray, List.set_cons_zero, List.set_cons_succ]
        refine wpAnyH_ready (rs := [4, 5]) (by kernel_rfl) (by simp) ?_
        refine (AllReadyH.cons rfl (fun K hK => ?_) (AllReadyH.cons rfl (fun K hK => ?_) AllReadyH.nil))
        · rw [if_pos (by rfl)]
          go_simp
          refine Calls.mono (Hsp.out _ _ hq2 hl2) ?_
          rintro e wf3 ⟨v1, v2, rfl, hO3, hb3⟩
          obtain ⟨a1, p1, a2, p2, rfl, rfl, _, _⟩ := hO3.is
          have hXf3 : Below w1.heap.size w1 wf3 := bl_then hXf2 hb3
          go_wp2_with fail
          refine hK.out _ _ hXf3 (fun hHeld => ?_)
          clear hK K
          try simp only [Act.put, List.setIfInBounds_toArray, List.set_cons_zero, List.set_cons_succ]
          refine wpAnyH_ready (rs := [5]) (by kernel_rfl) (by simp) ?_
          refine (AllReadyH.cons rfl (fun K hK => ?_) AllReadyH.nil)
          rw [if_pos (by rfl)]
          go_simp
          generalize hwA : (World.alloc _ _ : World) = wf4
          have hb4 : Below wf3.heap.size wf3 wf4 := by subst hwA; (repeat (first | exact Below.refl _ _ | assumption | refine Below.drew ?_ | refine bl_alloc ?_ _ | refine bl_then ?_ (by assumption) | refine Below.setCell ?_ (by first | omega | (simp; done) | (simp; omega)) _ | refine bl_store ?_ ?_ _ _))
          have hT4 : There wf4 wf3.heap.size 3 := by subst hwA; exact there3q wf3 _ _ _ _
          clear hwA
          have hXf4 : Below w1.heap.size w1 wf4 := bl_then hXf3 hb4
          have hs4 : w1.heap.size ≤ wf3.heap.size := hXf3.size
          refine hK.out _ _ hXf4 (fun hHeld => ?_)
          clear hK K
          try simp only [Act.put, List.setIfInBounds_toArray, List.set_cons_zero, List.set_cons_succ]
          refine wpAnyH_ready (rs := [6]) (by kernel_rfl) (by simp) ?_
          refine (AllReadyH.cons rfl (fun K hK => ?_) AllReadyH.nil)
          rw [if_pos (by rfl)]
          have t0 := hT4.cell 0 (by omega)
          have f0 := (hT4 0 (by omega)).2
          have t1 := hT4.cell 1 (by omega)
          have f1 := (hT4 1 (by omega)).2
          have t2 := hT4.cell 2 (by omega)
          have f2 := (hT4 2 (by omega)).2
          go_simp
          refine hK.out _ _ (((hXf4.setCell hs4 _).setCell hs4 _).setCell hs4 _) (fun hHeld => ?_)
          clear hK K
          try simp only [Act.put, List.setIfInBounds_toArray, List.set_cons_zero, List.set_cons_succ]
          obtain ⟨q0, q1, q2⟩ := set3q (a := .int .i64 c) (b := .slice a1 m p1) (c := .slice a2 k p2) hT4
          have hBf : Below w1.heap.size w1 (((wf4.setCell ⟨wf3.heap.size, 0, none⟩ (.int .i64 c)).setCell ⟨wf3.heap.size, 1, none⟩ (.slice a1 m p1)).setCell ⟨wf3.heap.size, 2, none⟩ (.slice a2 k p2)) := ((hXf4.setCell hs4 _).setCell hs4 _).setCell hs4 _
          have hIf : IsA m R k Z (((wf4.setCell ⟨wf3.heap.size, 0, none⟩ (.int .i64 c)).setCell ⟨wf3.heap.size, 1, none⟩ (.slice a1 m p1)).setCell ⟨wf3.heap.size, 2, none⟩ (.slice a2 k p2)) (.slice a1 m p1) (.slice a2 k p2) := hO3.is.below (((hb4.setCell (Nat.le_refl _) _).setCell (Nat.le_refl _) _).setCell (Nat.le_refl _) _)
          refine wpAnyH_done (by kernel_rfl) ?_ _
          refine NoPanic.normal ?_
          go_wp2_with fail
          go_meet
          case rel => exact ⟨_, a1, p1, a2, p2, rfl, hBf, hs4, q0, q1, q2, hIf⟩
        · rw [if_pos (by rfl)]
          go_simp
          generalize hwA : (World.alloc _ _ : World) = wf5
          have hb5 : Below wf2.heap.size wf2 wf5 := by subst hwA; (repeat (first | exact Below.refl _ _ | assumption | refine Below.drew ?_ | refine bl_alloc ?_ _ | refine bl_then ?_ (by assumption) | refine Below.setCell ?_ (by first | omega | (simp; done) | (simp; omega)) _ | refine bl_store ?_ ?_ _ _))
          have hT5 : There wf5 wf2.heap.size 3 := by subst hwA; exact there3q wf2 _ _ _ _
          clear hwA
          have hXf5 : Below w1.heap.size w1 wf5 := bl_then hXf2 hb5
          have hs5 : w1.heap.size ≤ wf2.heap.size := hXf2.size
          have hq5 := hq2.below hb5 hl2
          have hl5 := Nat.lt_of_lt_of_le hl2 hb5.size
          refine hK.out _ _ hXf5 (fun hHeld => ?_)
          clear hK K
          try simp only [Act.put, List.setIfInBounds_toArray, List.set_cons_zero, List.set_cons_succ]
          refine wpAnyH_ready (rs := [4]) (by kernel_rfl) (by simp) ?_
          refine (AllReadyH.cons rfl (fun K hK => ?_) AllReadyH.nil)
          rw [if_pos (by rfl)]
          go_simp
          refine Calls.mono (Hsp.out _ _ hq5 hl5) ?_
          rintro e wf6 ⟨v1, v2, rfl, hO6, hb6⟩
          obtain ⟨a1, p1, a2, p2, rfl, rfl, _, _⟩ := hO6.is
          have hXf6 : Below w1.heap.size w1 wf6 := bl_then hXf5 hb6
          have hT6 := There.below hT5 hb6
          have hz6 : wf2.heap.size < wf5.heap.size := World.block_lt_of_cell? _ _ (hT5.cell 0 (by omega))
          go_wp2_with fail
          refine hK.out _ _ hXf6 (fun hHeld => ?_)
          clear hK K
          try simp only [Act.put, List.setIfInBounds_toArray, List.set_cons_zero, List.set_cons_succ]
          refine wpAnyH_ready (rs := [6]) (by kernel_rfl) (by simp) ?_
          refine (AllReadyH.cons rfl (fun K hK => ?_) AllReadyH.nil)
          rw [if_pos (by rfl)]
          have t0 := hT6.cell 0 (by omega)
          have f0 := (hT6 0 (by omega)).2
          have t1 := hT6.cell 1 (by omega)
          have f1 := (hT6 1 (by omega)).2
          have t2 := hT6.cell 2 (by omega)
          have f2 := (hT6 2 (by omega)).2
          go_simp
          refine hK.out _ _ (((hXf6.setCell hs5 _).setCell hs5 _).setCell hs5 _) (fun hHeld => ?_)
          clear hK K
          try simp only [Act.put, List.setIfInBounds_toArray, List.set_cons_zero, List.set_cons_succ]
          obtain ⟨q0, q1, q2⟩ := set3q (a := .int .i64 c) (b := .slice a1 m p1) (c := .slice a2 k p2) hT6
          have hBf : Below w1.heap.size w1 (((wf6.setCell ⟨wf2.heap.size, 0, none⟩ (.int .i64 c)).setCell ⟨wf2.heap.size, 1, none⟩ (.slice a1 m p1)).setCell ⟨wf2.heap.size, 2, none⟩ (.slice a2 k p2)) := ((hXf6.setCell hs5 _).setCell hs5 _).setCell hs5 _
          have hIf : IsA m R k Z (((wf6.setCell ⟨wf2.heap.size, 0, none⟩ (.int .i64 c)).setCell ⟨wf2.heap.size, 1, none⟩ (.slice a1 m p1)).setCell ⟨wf2.heap.size, 2, none⟩ (.slice a2 k p2)) (.slice a1 m p1) (.slice a2 k p2) := (OwA.mid hO6 ((((MidB.refl wf2.heap.size (wf2.heap.size + 1) wf6).set (Nat.le_refl _) (Nat.lt_succ_self _) 0 _).set (Nat.le_refl _) (Nat.lt_succ_self _) 1 _).set (Nat.le_refl _) (Nat.lt_succ_self _) 2 _) hz6).is
          refine wpAnyH_done (by kernel_rfl) ?_ _
          refine NoPanic.normal ?_
          go_wp2_with fail
          go_meet
          case rel => exact ⟨_, a1, p1, a2, p2, rfl, hBf, hs5, q0, q1, q2, hIf⟩
      · rw [if_pos (by rfl)]
        go_simp
        generalize hwA : (World.alloc _ _ : World) = wf7
        have hb7 : Below wf1.heap.size wf1 wf7 := by subst hwA; (repeat (first | exact Below.refl _ _ | assumption | refine Below.drew ?_ | refine bl_alloc ?_ _ | refine bl_then ?_ (by assumption) | refine Below.setCell ?_ (by first | omega | (simp; done) | (simp; omega)) _ | refine bl_store ?_ ?_ _ _))
        have hT7 : There wf7 wf1.heap.size 3 := by subst hwA; exact there3q wf1 _ _ _ _
        clear hwA
        have hXf7 : Below w1.heap.size w1 wf7 := bl_then hXf1 hb7
        have hs7 : w1.heap.size ≤ wf1.heap.size := hXf1.size
        have hq7 := hq1.below hb7 hl1
        have hl7 := Nat.lt_of_lt_of_le hl1 hb7.size
        refine hK.out _ _ hXf7 (fun hHeld => ?_)
        clear hK K
        try simp only [Act.put, List.setIfInBounds_toArray, List.set_cons_zero, List.set_cons_succ]
        refine wpAnyH_ready (rs := [3]) (by kernel_rfl) (by simp) ?_
        refine (AllReadyH.cons rfl (fun K hK => ?_) AllReadyH.nil)
        rw [if_pos (by rfl)]
        go_simp
        refine Calls.mono (toCamera_any _ _ _ _ _ _) ?_
        rintro e wf8 ⟨rfl, hb8⟩
        have hq8 := hq7.below hb8 hl7
        have hl8 := Nat.lt_of_lt_of_le hl7 hb8.size
        have hXf8 : Below w1.heap.size w1 wf8 := bl_then hXf7 hb8
        have hT8 := There.below hT7 hb8
        go_wp2_with fail
        refine hK.out _ _ hXf8 (fun hHeld => ?_)
        clear hK K
        try simp only [Act.put, List.setIfInBounds_toArray, List.set_cons_zero, List.set_cons_succ]
        refine wpAnyH_ready (rs := [4]) (by kernel_rfl) (by simp) ?_
        refine (AllReadyH.cons rfl (fun K hK => ?_) AllReadyH.nil)
        rw [if_pos (by rfl)]
        go_simp
        refine Calls.mono (Hsp.out _ _ hq8 hl8) ?_
        rintro e wf9 ⟨v1, v2, rfl, hO9, hb9⟩
        obtain ⟨a1, p1, a2, p2, rfl, rfl, _, _⟩ := hO9.is
        have hXf9 : Below w1.heap.size w1 wf9 := bl_then hXf8 hb9
        have hT9 := There.below hT8 hb9
        have hz9 : wf1.heap.size < wf8.heap.size := World.block_lt_of_cell? _ _ (hT8.cell 0 (by omega))
        go_wp2_with fail
        refine hK.out _ _ hXf9 (fun hHeld => ?_)
        clear hK K
        try simp only [Act.put, List.setIfInBounds_toArray, List.set_cons_zero, List.set_cons_succ]
        refine wpAnyH_ready (rs := [6]) (by kernel_rfl) (by simp) ?_
        refine (AllReadyH.cons rfl (fun K hK => ?_) AllReadyH.nil)
        rw [if_pos (by rfl)]
        have t0 := hT9.cell 0 (by omega)
        have f0 := (hT9 0 (by omega)).2
        have t1 := hT9.cell 1 (by omega)
        have f1 := (hT9 1 (by omega)).2
        have t2 := hT9.cell 2 (by omega)
        have f2 := (hT9 2 (by omega)).2
        go_simp
        refine hK.out _ _ (((hXf9.setCell hs7 _).setCell hs7 _).setCell hs7 _) (fun hHeld => ?_)
        clear hK K
        try simp only [Act.put, List.setIfInBounds_toArray, List.set_cons_zero, List.set_cons_succ]
        obtain ⟨q0, q1, q2⟩ := set3q (a := .int .i64 c) (b := .slice a1 m p1) (c := .slice a2 k p2) hT9
        have hBf : Below w1.heap.size w1 (((wf9.setCell ⟨wf1.heap.size, 0, none⟩ (.int .i64 c)).setCell ⟨wf1.heap.size, 1, none⟩ (.slice a1 m p1)).setCell ⟨wf1.heap.size, 2, none⟩ (.slice a2 k p2)) := ((hXf9.setCell hs7 _).setCell hs7 _).setCell hs7 _
        have hIf : IsA m R k Z (((wf9.setCell ⟨wf1.heap.size, 0, none⟩ (.int .i64 c)).setCell ⟨wf1.heap.size, 1, none⟩ (.slice a1 m p1)).setCell ⟨wf1.heap.size, 2, none⟩ (.slice a2 k p2)) (.slice a1 m p1) (.slice a2 k p2) := (OwA.mid hO9 ((((MidB.refl wf1.heap.size (wf1.heap.size + 1) wf9).set (Nat.le_refl _) (Nat.lt_succ_self _) 0 _).set (Nat.le_refl _) (Nat.lt_succ_self _) 1 _).set (Nat.le_refl _) (Nat.lt_succ_self _) 2 _) hz9).is
        refine wpAnyH_done (by kernel_rfl) ?_ _
        refine NoPanic.normal ?_
        go_wp2_with fail
        go_meet
        case rel => exact ⟨_, a1, p1, a2, p2, rfl, hBf, hs7, q0, q1, q2, hIf⟩
    · rw [if_pos (by rfl)]
      go_simp
      generalize hwA : (World.alloc _ _ : World) = wf10
      have hb10 : Below wk0.heap.size wk0 wf10 := by subst hwA; (repeat (first | exact Below.refl _ _ | assumption | refine Below.drew ?_ | refine bl_alloc ?_ _ | refine bl_then ?_ (by assumption) | refine Below.setCell ?_ (by first | omega | (simp; done) | (simp; omega)) _ | refine bl_store ?_ ?_ _ _))
      have hT10 : There wf10 wk0.heap.size 3 := by subst hwA; exact there3q wk0 _ _ _ _
      clear hwA
      have hXf10 : Below w1.heap.size w1 wf10 := bl_then hX0 hb10
      have hs10 : w1.heap.size ≤ wk0.heap.size := hX0.size
      refine hK.out _ _ hXf10 (fun hHeld => ?_)
      clear hK K
      try simp only [Act.put, List.setIfInBounds_toArray, List.set_cons_zero, List.set_cons_succ]
      refine wpAnyH_ready (rs := [1]) (by kernel_rfl) (by simp) ?_
      refine (AllReadyH.cons rfl (fun K hK => ?_) AllReadyH.nil)
      rw [if_pos (by rfl)]
      go_simp
      refine Calls.mono (HTQ.out _ (bl_then hrf hXf10)) ?_
      rintro e wf11 ⟨bq, rfl, hge11, hl11, hq11, _, hb11⟩
      have hXf11 : Below w1.heap.size w1 wf11 := bl_then hXf10 hb11
      have hT11 := There.below hT10 hb11
      go_wp2_with fail
      refine hK.out _ _ hXf11 (fun hHeld => ?_)
      clear hK K
      try simp only [Act.put, List.setIfInBounds_toArray, List.set_cons_zero, List.set_cons_succ]
      refine wpAnyH_ready (rs := [3]) (by kernel_rfl) (by simp) ?_
      refine (AllReadyH.cons rfl (fun K hK => ?_) AllReadyH.nil)
      rw [if_pos (by rfl)]
      go_simp
      refine Calls.mono (toCamera_any _ _ _ _ _ _) ?_
      rintro e wf12 ⟨rfl, hb12⟩
      have hq12 := hq11.below hb12 hl11
      have hl12 := Nat.lt_of_lt_of_le hl11 hb12.size
      have hXf12 : Below w1.heap.size w1 wf12 := bl_then hXf11 hb12
      have hT12 := There.below hT11 hb12
      go_wp2_with fail
      refine hK.out _ _ hXf12 (fun hHeld => ?_)
      clear hK K
      try simp only [Act.put, List.setIfInBounds_toArray, List.set_cons_zero, List.set_cons_succ]
      refine wpAnyH_ready (rs := [4]) (by kernel_rfl) (by simp) ?_
      refine (AllReadyH.cons rfl (fun K hK => ?_) AllReadyH.nil)
      rw [if_pos (by rfl)]
      go_simp
      refine Calls.mono (Hsp.out _ _ hq12 hl12) ?_
      rintro e wf13 ⟨v1, v2, rfl, hO13, hb13⟩
      obtain ⟨a1, p1, a2, p2, rfl, rfl, _, _⟩ := hO13.is
      have hXf13 : Below w1.heap.size w1 wf13 := bl_then hXf12 hb13
      have hT13 := There.below hT12 hb13
      have hz13 : wk0.heap.size < wf12.heap.size := World.block_lt_of_cell? _ _ (hT12.cell 0 (by omega))
      go_wp2_with fail
      refine hK.out _ _ hXf13 (fun hHeld => ?_)
      clear hK K
      try simp only [Act.put, List.setIfInBounds_toArray, List.set_cons_zero, List.set_cons_succ]
      refine wpAnyH_ready (rs := [6]) (by kernel_rfl) (by simp) ?_
      refine (AllReadyH.cons rfl (fun K hK => ?_) AllReadyH.nil)
      rw [if_pos (by rfl)]
      have t0 := hT13.cell 0 (by omega)
      have f0 := (hT13 0 (by omega)).2
      have t1 := hT13.cell 1 (by omega)
      have f1 := (hT13 1 (by omega)).2
      have t2 := hT13.cell 2 (by omega)
      have f2 := (hT13 2 (by omega)).2
      go_simp
      refine hK.out _ _ (((hXf13.setCell hs10 _).setCell hs10 _).setCell hs10 _) (fun hHeld => ?_)
      clear hK K
      try simp only [Act.put, List.setIfInBounds_toArray, List.set_cons_zero, List.set_cons_succ]
      obtain ⟨q0, q1, q2⟩ := set3q (a := .int .i64 c) (b := .slice a1 m p1) (c := .slice a2 k p2) hT13
      have hBf : Below w1.heap.size w1 (((wf13.setCell ⟨wk0.heap.size, 0, none⟩ (.int .i64 c)).setCell ⟨wk0.heap.size, 1, none⟩ (.slice a1 m p1)).setCell ⟨wk0.heap.size, 2, none⟩ (.slice a2 k p2)) := ((hXf13.setCell hs10 _).setCell hs10 _).setCell hs10 _
      have hIf : IsA m R k Z (((wf13.setCell ⟨wk0.heap.size, 0, none⟩ (.int .i64 c)).setCell ⟨wk0.heap.size, 1, none⟩ (.slice a1 m p1)).setCell ⟨wk0.heap.size, 2, none⟩ (.slice a2 k p2)) (.slice a1 m p1) (.slice a2 k p2) := (OwA.mid hO13 ((((MidB.refl wk0.heap.size (wk0.heap.size + 1) wf13).set (Nat.le_refl _) (Nat.lt_succ_self _) 0 _).set (Nat.le_refl _) (Nat.lt_succ_self _) 1 _).set (Nat.le_refl _) (Nat.lt_succ_self _) 2 _) hz13).is
      refine wpAnyH_done (by kernel_rfl) ?_ _
      refine NoPanic.normal ?_
      go_wp2_with fail
      go_meet
      case rel => exact ⟨_, a1, p1, a2, p2, rfl, hBf, hs10, q0, q1, q2, hIf⟩
  obtain ⟨bw, a1, p1, a2, p2, rfl, hBy, hbx, g0, g1, g2, hIx⟩ := hcut
  generalize wc = w2 at *
  have hB2 : Below w1.heap.size w1 w2 := hBy
  have HS12 : Hid (w1.heap.size ≤ w2.heap.size) := hB2.size
  have hbw2 : bw < w2.heap.size := World.block_lt_of_cell? _ _ g0
  have HU2 : Hid (UnA w2.heap.size m R k Z w2 (.slice a1 m p1) (.slice a2 k p2)) := hIx.un
  clear hIx hBy hbx
  go_wp2_with fail
  refine (HTQ.out _ hB2).mono ?_
  rintro e w4 ⟨b4, rfl, hge4, hlt4, hE4, hT4, hb4⟩
  have hB4 : Below w1.heap.size w1 w4 := bl_then hB2 hb4
  have HE4 : Hid (WsAt w4 b4 0 n E) := hE4
  have HT4 : Hid (There w4 b4 (n * 5)) := hT4
  have hg0 := bl_cellR hb4 g0
  have hg1 := bl_cellR hb4 g1
  have hg2 := bl_cellR hb4 g2
  have HU4 : Hid (UnA w2.heap.size m R k Z w4 (.slice a1 m p1) (.slice a2 k p2)) := HU2.out.below hb4 (Nat.le_refl _)
  have hs24 := hb4.size
  clear hE4 hT4 hb4 g0 g1 g2 HU2 hB2
  have u0 := y0 w4 hB4
  have u1 := y1 w4 hB4
  have u2 := y2 w4 hB4
  have u3 := y3 w4 hB4
  have u4 := y4 w4 hB4
  go_wp2_with fail
  refine (toCamera_any _ _ _ _ _ _).mono ?_
  rintro e w4a ⟨rfl, hb4a⟩
  clear u0 u1 u2 u3 u4
  have HE4a := HE4.out.below hb4a hlt4
  have hlt4a := Nat.lt_of_lt_of_le hlt4 hb4a.size
  have HTa : Hid (There w4a b4 (n * 5)) := HT4.out.below hb4a
  have HEa : Hid (WsAt w4a b4 0 n E) := HE4a
  have hB4a : Below w1.heap.size w1 w4a := bl_then hB4 hb4a
  have HU4a : Hid (UnA w2.heap.size m R k Z w4a (.slice a1 m p1) (.slice a2 k p2)) := HU4.out.below hb4a hs24
  have hs4a : w4.heap.size ≤ w4a.heap.size := hb4a.size
  have i0 := bl_cellR hb4a hg0
  have i1 := bl_cellR hb4a hg1
  have i2 := bl_cellR hb4a hg2
  clear hg0 hg1 hg2 HT4 HE4 HU4 hB4 hb4a
  go_wp2_with fail
  refine (Him.out _ _ HE4a hlt4a).mono ?_
  rintro e w5 ⟨v3, v4, rfl, hO5, hb5⟩
  obtain ⟨a3, p3, a4, p4, rfl, rfl, _, _⟩ := hO5.is
  have HO5 : Hid (OwA w4a.heap.size m R k Z w5 (.slice a3 m p3) (.slice a4 k p4)) := hO5
  have HUI : Hid (UnA w5.heap.size m R k Z w5 (.slice a3 m p3) (.slice a4 k p4)) := hO5.is.un
  have hB5 : Below w1.heap.size w1 w5 := bl_then hB4a hb5
  have hs5 := hb5.size
  have HT5 : Hid (There w5 b4 (n * 5)) := HTa.out.below hb5
  have HE5 : Hid (WsAt w5 b4 0 n E) := HEa.out.below hb5 hlt4a
  have HU5 : Hid (UnA w2.heap.size m R k Z w5 (.slice a1 m p1) (.slice a2 k p2)) := HU4a.out.below hb5 (by omega)
  have j0 := bl_cellR hb5 i0
  have j1 := bl_cellR hb5 i1
  have j2 := bl_cellR hb5 i2
  clear hO5 hb5 i0 i1 i2 HE4a HTa HEa HU4a hB4a
  have hlw5 : bw < w5.heap.size := World.block_lt_of_cell? _ _ j0
  go_wp2_with fail
  generalize hW6 : (World.alloc _ _ : World) = w6
  have hb6 : Below w5.heap.size w5 w6 := by subst hW6; (repeat (first | exact Below.refl _ _ | assumption | refine Below.drew ?_ | refine bl_alloc ?_ _ | refine bl_then ?_ (by assumption) | refine Below.setCell ?_ (by first | omega | (simp; done) | (simp; omega)) _ | refine bl_store ?_ ?_ _ _))
  have d0 : w6.cell? ⟨w5.heap.size, 0, none⟩ = some (.int .i64 c) := by subst hW6; simp [go_sem]
  have d1 : w6.cell? ⟨w5.heap.size, 1, none⟩ = some (.slice a3 m p3) := by subst hW6; simp [go_sem]
  have d2 : w6.cell? ⟨w5.heap.size, 2, none⟩ = some (.slice a4 k p4) := by subst hW6; simp [go_sem]
  clear hW6
  have hB6 : Below w1.heap.size w1 w6 := bl_then hB5 hb6
  have hs6 := hb6.size
  have HO6 : Hid (OwA w4a.heap.size m R k Z w6 (.slice a3 m p3) (.slice a4 k p4)) := HO5.out.below hb6
  have HT6 : Hid (There w6 b4 (n * 5)) := HT5.out.below hb6
  have HE6 : Hid (WsAt w6 b4 0 n E) := HE5.out.below hb6 (by omega)
  have HU6 : Hid (UnA w2.heap.size m R k Z w6 (.slice a1 m p1) (.slice a2 k p2)) := HU5.out.below hb6 (by omega)
  have j6_0 := bl_cellR hb6 j0
  have j6_1 := bl_cellR hb6 j1
  have j6_2 := bl_cellR hb6 j2
  clear j0 j1 j2
  clear HO5 HT5 HE5 HU5 hB5 hb6
  have hlt56 : w5.heap.size < w6.heap.size := World.block_lt_of_cell? _ _ d0
  refine (eqA c m R k Z _ _ _ _ _ HO6.out.is (HU6.out.is (by omega)) hm hk).mono ?_
  rintro e w7 ⟨rfl, hb7⟩
  have hB7 : Below w1.heap.size w1 w7 := bl_then hB6 hb7
  have hs7 := hb7.size
  have HO7 : Hid (OwA w4a.heap.size m R k Z w7 (.slice a3 m p3) (.slice a4 k p4)) := HO6.out.below hb7
  have HT7 : Hid (There w7 b4 (n * 5)) := HT6.out.below hb7
  have HE7 : Hid (WsAt w7 b4 0 n E) := HE6.out.below hb7 (by omega)
  have HU7 : Hid (UnA w2.heap.size m R k Z w7 (.slice a1 m p1) (.slice a2 k p2)) := HU6.out.below hb7 (by omega)
  have j7_0 := bl_cellR hb7 j6_0
  have j7_1 := bl_cellR hb7 j6_1
  have j7_2 := bl_cellR hb7 j6_2
  clear j6_0 j6_1 j6_2
  have d7_0 := bl_cellR hb7 d0
  have d7_1 := bl_cellR hb7 d1
  have d7_2 := bl_cellR hb7 d2
  clear d0 d1 d2
  clear HO6 HT6 HE6 HU6 hB6 hb7
  go_wp2_with fail
  refine (HTQ.out _ hB7).mono ?_
  rintro e w8 ⟨b8, rfl, hge8, hlt8, hE8, _, hb8⟩
  have HP8 : Hid (WsAt w8 b8 0 n E) := hE8
  clear hE8
  have hB8 : Below w1.heap.size w1 w8 := bl_then hB7 hb8
  have hs8 := hb8.size
  have HO8 : Hid (OwA w4a.heap.size m R k Z w8 (.slice a3 m p3) (.slice a4 k p4)) := HO7.out.below hb8
  have HT8 : Hid (There w8 b4 (n * 5)) := HT7.out.below hb8
  have HE8 : Hid (WsAt w8 b4 0 n E) := HE7.out.below hb8 (by omega)
  have HU8 : Hid (UnA w2.heap.size m R k Z w8 (.slice a1 m p1) (.slice a2 k p2)) := HU7.out.below hb8 (by omega)
  have j8_0 := bl_cellR hb8 j7_0
  have j8_1 := bl_cellR hb8 j7_1
  have j8_2 := bl_cellR hb8 j7_2
  clear j7_0 j7_1 j7_2
  have d8_0 := bl_cellR hb8 d7_0
  have d8_1 := bl_cellR hb8 d7_1
  have d8_2 := bl_cellR hb8 d7_2
  clear d7_0 d7_1 d7_2
  clear HO7 HT7 HE7 HU7 hB7 hb8
  go_wp2_with fail
  refine (eqRequestS_any _ _ n _ _ E _ (.inr ⟨b4, 0, rfl, by omega, HE8.out⟩) (.inr ⟨b8, 0, rfl, hlt8, HP8.out⟩) hn).mono ?_
  rintro e w9 ⟨rfl, hb9⟩
  have hB9 : Below w1.heap.size w1 w9 := bl_then hB8 hb9
  have hs9 := hb9.size
  have HO9 : Hid (OwA w4a.heap.size m R k Z w9 (.slice a3 m p3) (.slice a4 k p4)) := HO8.out.below hb9
  have HT9 : Hid (There w9 b4 (n * 5)) := HT8.out.below hb9
  have HE9 : Hid (WsAt w9 b4 0 n E) := HE8.out.below hb9 (by omega)
  have HU9 : Hid (UnA w2.heap.size m R k Z w9 (.slice a1 m p1) (.slice a2 k p2)) := HU8.out.below hb9 (by omega)
  have j9_0 := bl_cellR hb9 j8_0
  have j9_1 := bl_cellR hb9 j8_1
  have j9_2 := bl_cellR hb9 j8_2
  clear j8_0 j8_1 j8_2
  have d9_0 := bl_cellR hb9 d8_0
  have d9_1 := bl_cellR hb9 d8_1
  have d9_2 := bl_cellR hb9 d8_2
  clear d8_0 d8_1 d8_2
  clear HO8 HT8 HE8 HU8 hB8 hb9
  go_wp2_with fail
  refine (markRequestS_mk b4 n n 1 _ HT9.out hn (by omega)).mono ?_
  rintro e wa ⟨rfl, hGa, _, _⟩
  have hMa : MidB w2.heap.size w4.heap.size w9 wa := MidB.of_grown hGa hge4 hlt4
  have hK0 : ¬ ((1 + 5 * n : Nat) : Int) < 0 := by omega
  generalize ((1 + 5 * n : Nat) : Int) = KK at *
  have hs12 : w1.heap.size ≤ w2.heap.size := HS12.out
  have hsa := hMa.size
  have HOa : Hid (OwA w4a.heap.size m R k Z wa (.slice a3 m p3) (.slice a4 k p4)) := HO9.out.mid hMa (by omega)
  have HUa : Hid (UnA w2.heap.size m R k Z wa (.slice a1 m p1) (.slice a2 k p2)) := HU9.out.mid hMa (by omega)
  have ja_0 := hMa.cell j9_0 (.inl (by omega))
  have ja_1 := hMa.cell j9_1 (.inl (by omega))
  have ja_2 := hMa.cell j9_2 (.inl (by omega))
  clear j9_0 j9_1 j9_2
  have da_0 := hMa.cell d9_0 (.inr (by omega))
  have da_1 := hMa.cell d9_1 (.inr (by omega))
  have da_2 := hMa.cell d9_2 (.inr (by omega))
  clear d9_0 d9_1 d9_2
  have hBa : Below w1.heap.size w1 wa := hB9.trans ((hMa.below (by omega)).mono (by omega))
  clear HO9 HT9 HE9 HU9 hB9 hMa
  clear hGa HP8
  go_wp2_with fail
  refine (eqA c m R k Z _ _ _ _ _ HOa.out.is (HUa.out.is (by omega)) hm hk).mono ?_
  rintro e wb ⟨rfl, hbb⟩
  have hBb : Below w1.heap.size w1 wb := bl_then hBa hbb
  have hsb := hbb.size
  have HOb : Hid (OwA w4a.heap.size m R k Z wb (.slice a3 m p3) (.slice a4 k p4)) := HOa.out.below hbb
  have HUb : Hid (UnA w2.heap.size m R k Z wb (.slice a1 m p1) (.slice a2 k p2)) := HUa.out.below hbb (by omega)
  have jb_0 := bl_cellR hbb ja_0
  have jb_1 := bl_cellR hbb ja_1
  have jb_2 := bl_cellR hbb ja_2
  clear ja_0 ja_1 ja_2
  have db_0 := bl_cellR hbb da_0
  have db_1 := bl_cellR hbb da_1
  have db_2 := bl_cellR hbb da_2
  clear da_0 da_1 da_2
  clear HOa HUa hBa hbb
  go_wp2_with fail
  refine (markA c w4a.heap.size w5.heap.size m R k Z _ _ _ w5 HOb.out HUI.out hm hk).mono ?_
  rintro e wc ⟨rfl, hMc, hKc⟩
  have HKc : Hid (MkA w4a.heap.size m k wc (.slice a3 m p3) (.slice a4 k p4)) := hKc
  clear hKc
  clear HOb
  have hsc := hMc.size
  have HUc : Hid (UnA w2.heap.size m R k Z wc (.slice a1 m p1) (.slice a2 k p2)) := HUb.out.mid hMc (by omega)
  have jc_0 := hMc.cell jb_0 (.inl (by omega))
  have jc_1 := hMc.cell jb_1 (.inl (by omega))
  have jc_2 := hMc.cell jb_2 (.inl (by omega))
  clear jb_0 jb_1 jb_2
  have dc_0 := hMc.cell db_0 (.inr (by omega))
  have dc_1 := hMc.cell db_1 (.inr (by omega))
  have dc_2 := hMc.cell db_2 (.inr (by omega))
  clear db_0 db_1 db_2
  have hBc : Below w1.heap.size w1 wc := hBb.trans ((hMc.below (by omega)).mono (by omega))
  clear HUb hBb hMc
  have hqm : ¬ ((1 + 3 * m + 5 * k : Nat) : Int) < 0 := by omega
  have Hheld : Hid (∀ w, MkA w4a.heap.size m k w (.slice a3 m p3) (.slice a4 k p4) → Calls Try.prog 20 #[rqV c (.slice a3 m p3) (.slice a4 k p4), .int .i64 1] w fun e w' => e = .returned (.int .i64 ((1 + 3 * m + 5 * k : Nat) : Int)) ∧ Below w.heap.size w w') := fun w h => heldA c _ m k _ _ w h hm hk
  generalize ((1 + 3 * m + 5 * k : Nat) : Int) = qm at *
  go_wp2_with fail
  refine (Hheld.out _ HKc.out).mono ?_
  rintro e wd ⟨rfl, hbd⟩
  have HKd : Hid (MkA w4a.heap.size m k wd (.slice a3 m p3) (.slice a4 k p4)) := HKc.out.below hbd
  clear HKc
  have hBd : Below w1.heap.size w1 wd := bl_then hBc hbd
  have hsd := hbd.size
  have HUd : Hid (UnA w2.heap.size m R k Z wd (.slice a1 m p1) (.slice a2 k p2)) := HUc.out.below hbd (by omega)
  have jd_0 := bl_cellR hbd jc_0
  have jd_1 := bl_cellR hbd jc_1
  have jd_2 := bl_cellR hbd jc_2
  clear jc_0 jc_1 jc_2
  have dd_0 := bl_cellR hbd dc_0
  have dd_1 := bl_cellR hbd dc_1
  have dd_2 := bl_cellR hbd dc_2
  clear dc_0 dc_1 dc_2
  clear HUc hBc hbd
  have hB1d := hBd
  have hrg : Below w1.heap.size w1 wd := hB1d
  go_wp2_with fail
  go_cut [12] (fun t wx => ∃ (b : Nat) (a1 : Option Addr) (p1 : Nat) (a2 : Option Addr) (p2 : Nat), t = .pointer (some ⟨b, 0, none⟩) ∧ Below wd.heap.size wd wx ∧ wd.heap.size ≤ b ∧ wx.cell? ⟨b, 0, none⟩ = some (.int .i64 c) ∧ wx.cell? ⟨b, 1, none⟩ = some (.slice a1 m p1) ∧ wx.cell? ⟨b, 2, none⟩ = some (.slice a2 k p2) ∧ IsA m R k Z wx (.slice a1 m p1) (.slice a2 k p2))
  case first =>
    have s0 : ∀ W', Below wd.heap.size wd W' → W'.cell? ⟨w.heap.size, 0, none⟩ = some (.int .i64 x0) := fun W' h => y0 W' (bl_then hrg h)
    have s1 : ∀ W', Below wd.heap.size wd W' → W'.cell? ⟨w.heap.size, 1, none⟩ = some (.int .i64 x1) := fun W' h => y1 W' (bl_then hrg h)
    have s2 : ∀ W', Below wd.heap.size wd W' → W'.cell? ⟨w.heap.size, 2, none⟩ = some (.int .i64 x2) := fun W' h => y2 W' (bl_then hrg h)
    have s3 : ∀ W', Below wd.heap.size wd W' → W'.cell? ⟨w.heap.size, 3, none⟩ = some (.int .i64 x3) := fun W' h => y3 W' (bl_then hrg h)
    have s4 : ∀ W', Below wd.heap.size wd W' → W'.cell? ⟨w.heap.size, 4, none⟩ = some (.int .i64 x4) := fun W' h => y4 W' (bl_then hrg h)
    refine wp_region_noPanic ?_
    refine wp_region_held_drew (S := fun W' => Below wd.heap.size wd W') (by kernel_rfl) (by (repeat (first | exact Below.refl _ _ | assumption | refine Below.drew ?_ | refine bl_alloc ?_ _ | refine bl_then ?_ (by assumption) | refine Below.setCell ?_ (by first | omega | (simp; done) | (simp; omega)) _ | refine bl_store ?_ ?_ _ _))) (fun hHeld => ?_)
    have hX0 : Below wd.heap.size wd wd.drew := hHeld
    refine takeD (i := 0) (d := some 60) (v := ?vg0) rfl rfl (by kernel_rfl) (by kernel_rfl) (by kernel_rfl) (fun _ _ _ h => h) (Or.inl ⟨by rfl, ?hyg0⟩) (by assumption) ?_
    case hyg0 => (intro w hSw; (try dsimp only at hSw); go_simp <;> with_reducible rfl)
    try simp only [Act.put, List.setIfInBounds_toArray, List.set_cons_zero, List.set_cons_succ]
    refine takeD (i := 2) (d := some 62) (v := ?vg2) rfl rfl (by kernel_rfl) (by kernel_rfl) (by kernel_rfl) (fun _ _ _ h => h) (Or.inl ⟨by rfl, ?hyg2⟩) (by assumption) ?_
    case hyg2 => (intro w hSw; (try dsimp only at hSw); go_simp <;> with_reducible rfl)
    try simp only [Act.put, List.setIfInBounds_toArray, List.set_cons_zero, List.set_cons_succ]
    generalize wd.drew = wk0 at *
    refine wpAnyH_ready (rs := [1, 5]) (by kernel_rfl) (by simp) ?_
    refine (AllReadyH.cons rfl (fun K hK => ?_) (AllReadyH.cons rfl (fun K hK => ?_) AllReadyH.nil))
    · rw [if_pos (by rfl)]
      go_simp
      refine Calls.mono (HTQ.out _ (bl_then hrg hX0)) ?_
      rintro e wg1 ⟨bq, rfl, hge1, hl1, hq1, _, hb1⟩
      have hXg1 : Below wd.heap.size wd wg1 := bl_then hX0 hb1
      go_wp2_with fail
      refine hK.out _ _ hXg1 (fun hHeld => ?_)
      clear hK K
      try simp only [Act.put, List.setIfInBounds_toArray, List.set_cons_zero, List.set_cons_succ]
      refine wpAnyH_ready (rs := [3, 5]) (by kernel_rfl) (by simp) ?_
      refine (AllReadyH.cons rfl (fun K hK => ?_) (AllReadyH.cons rfl (fun K hK => ?_) AllReadyH.nil))
      · rw [if_pos (by rfl)]
        go_simp
        refine Calls.mono (toCamera_any _ _ _ _ _ _) ?_
        rintro e wg2 ⟨rfl, hb2⟩
        have hq2 := hq1.below hb2 hl1
        have hl2 := Nat.lt_of_lt_of_le hl1 hb2.size
        have hXg2 : Below wd.heap.size wd wg2 := bl_then hXg1 hb2
        go_wp2_with fail
        refine hK.out _ _ hXg2 (fun hHeld => ?_)
        clear hK K
        try simp only [Act.put, List.setIfInBounds_toArray, List.set_cons_zero, List.set_cons_succ]
        refine wpAnyH_ready (rs := [4, 5]) (by kernel_rfl) (by simp) ?_
        refine (AllReadyH.cons rfl (fun K hK => ?_) (AllReadyH.cons rfl (fun K hK => ?_) AllReadyH.nil))
        · rw [if_pos (by rfl)]
          go_simp
          refine Calls.mono (Him.out _ _ hq2 hl2) ?_
          rintro e wg3 ⟨v1, v2, rfl, hO3, hb3⟩
          obtain ⟨a1, p1, a2, p2, rfl, rfl, _, _⟩ := hO3.is
          have hXg3 : Below wd.heap.size wd wg3 := bl_then hXg2 hb3
          go_wp2_with fail
          refine hK.out _ _ hXg3 (fun hHeld => ?_)
          clear hK K
          try simp only [Act.put, List.setIfInBounds_toArray, List.set_cons_zero, List.set_cons_succ]
          refine wpAnyH_ready (rs := [5]) (by kernel_rfl) (by simp) ?_
          refine (AllReadyH.cons rfl (fun K hK => ?_) AllReadyH.nil)
          rw [if_pos (by rfl)]
          go_simp
          generalize hwA : (World.alloc _ _ : World) = wg4
          have hb4 : Below wg3.heap.size wg3 wg4 := by subst hwA; (repeat (first | exact Below.refl _ _ | assumption | refine Below.drew ?_ | refine bl_alloc ?_ _ | refine bl_then ?_ (by assumption) | refine Below.setCell ?_ (by first | omega | (simp; done) | (simp; omega)) _ | refine bl_store ?_ ?_ _ _))
          have hT4 : There wg4 wg3.heap.size 3 := by subst hwA; exact there3q wg3 _ _ _ _
          clear hwA
          have hXg4 : Below wd.heap.size wd wg4 := bl_then hXg3 hb4
          have hs4 : wd.heap.size ≤ wg3.heap.size := hXg3.size
          refine hK.out _ _ hXg4 (fun hHeld => ?_)
          clear hK K
          try simp only [Act.put, List.setIfInBounds_toArray, List.set_cons_zero, List.set_cons_succ]
          refine wpAnyH_ready (rs := [6]) (by kernel_rfl) (by simp) ?_
          refine (AllReadyH.cons rfl (fun K hK => ?_) AllReadyH.nil)
          rw [if_pos (by rfl)]
          have t0 := hT4.cell 0 (by omega)
          have f0 := (hT4 0 (by omega)).2
          have t1 := hT4.cell 1 (by omega)
          have f1 := (hT4 1 (by omega)).2
          have t2 := hT4.cell 2 (by omega)
          have f2 := (hT4 2 (by omega)).2
          go_simp
          refine hK.out _ _ (((hXg4.setCell hs4 _).setCell hs4 _).setCell hs4 _) (fun hHeld => ?_)
          clear hK K
          try simp only [Act.put, List.setIfInBounds_toArray, List.set_cons_zero, List.set_cons_succ]
          obtain ⟨q0, q1, q2⟩ := set3q (a := .int .i64 c) (b := .slice a1 m p1) (c := .slice a2 k p2) hT4
          have hBf : Below wd.heap.size wd (((wg4.setCell ⟨wg3.heap.size, 0, none⟩ (.int .i64 c)).setCell ⟨wg3.heap.size, 1, none⟩ (.slice a1 m p1)).setCell ⟨wg3.heap.size, 2, none⟩ (.slice a2 k p2)) := ((hXg4.setCell hs4 _).setCell hs4 _).setCell hs4 _
          have hIf : IsA m R k Z (((wg4.setCell ⟨wg3.heap.size, 0, none⟩ (.int .i64 c)).setCell ⟨wg3.heap.size, 1, none⟩ (.slice a1 m p1)).setCell ⟨wg3.heap.size, 2, none⟩ (.slice a2 k p2)) (.slice a1 m p1) (.slice a2 k p2) := hO3.is.below (((hb4.setCell (Nat.le_refl _) _).setCell (Nat.le_refl _) _).setCell (Nat.le_refl _) _)
          refine wpAnyH_done (by kernel_rfl) ?_ _
          refine NoPanic.normal ?_
          go_wp2_with fail
          go_meet
          case rel => exact ⟨_, a1, p1, a2, p2, rfl, hBf, hs4, q0, q1, q2, hIf⟩
        · rw [if_pos (by rfl)]
          go_simp
          generalize hwA : (World.alloc _ _ : World) = wg5
          have hb5 : Below wg2.heap.size wg2 wg5 := by subst hwA; (repeat (first | exact Below.refl _ _ | assumption | refine Below.drew ?_ | refine bl_alloc ?_ _ | refine bl_then ?_ (by assumption) | refine Below.setCell ?_ (by first | omega | (simp; done) | (simp; omega)) _ | refine bl_store ?_ ?_ _ _))
          have hT5 : There wg5 wg2.heap.size 3 := by subst hwA; exact there3q wg2 _ _ _ _
          clear hwA
          have hXg5 : Below wd.heap.size wd wg5 := bl_then hXg2 hb5
          have hs5 : wd.heap.size ≤ wg2.heap.size := hXg2.size
          have hq5 := hq2.below hb5 hl2
          have hl5 := Nat.lt_of_lt_of_le hl2 hb5.size
          refine hK.out _ _ hXg5 (fun hHeld => ?_)
          clear hK K
          try simp only [Act.put, List.setIfInBounds_toArray, List.set_cons_zero, List.set_cons_succ]
          refine wpAnyH_ready (rs := [4]) (by kernel_rfl) (by simp) ?_
          refine (AllReadyH.cons rfl (fun K hK => ?_) AllReadyH.nil)
          rw [if_pos (by rfl)]
          go_simp
          refine Calls.mono (Him.out _ _ hq5 hl5) ?_
          rintro e wg6 ⟨v1, v2, rfl, hO6, hb6⟩
          obtain ⟨a1, p1, a2, p2, rfl, rfl, _, _⟩ := hO6.is
          have hXg6 : Below wd.heap.size wd wg6 := bl_then hXg5 hb6
          have hT6 := There.below hT5 hb6
          have hz6 : wg2.heap.size < wg5.heap.size := World.block_lt_of_cell? _ _ (hT5.cell 0 (by omega))
          go_wp2_with fail
          refine hK.out _ _ hXg6 (fun hHeld => ?_)
          clear hK K
          try simp only [Act.put, List.setIfInBounds_toArray, List.set_cons_zero, List.set_cons_succ]
          refine wpAnyH_ready (rs := [6]) (by kernel_rfl) (by simp) ?_
          refine (AllReadyH.cons rfl (fun K hK => ?_) AllReadyH.nil)
          rw [if_pos (by rfl)]
          have t0 := hT6.cell 0 (by omega)
          have f0 := (hT6 0 (by omega)).2
          have t1 := hT6.cell 1 (by omega)
          have f1 := (hT6 1 (by omega)).2
          have t2 := hT6.cell 2 (by omega)
          have f2 := (hT6 2 (by omega)).2
          go_simp
          refine hK.out _ _ (((hXg6.setCell hs5 _).setCell hs5 _).setCell hs5 _) (fun hHeld => ?_)
          clear hK K
          try simp only [Act.put, List.setIfInBounds_toArray, List.set_cons_zero, List.set_cons_succ]
          obtain ⟨q0, q1, q2⟩ := set3q (a := .int .i64 c) (b := .slice a1 m p1) (c := .slice a2 k p2) hT6
          have hBf : Below wd.heap.size wd (((wg6.setCell ⟨wg2.heap.size, 0, none⟩ (.int .i64 c)).setCell ⟨wg2.heap.size, 1, none⟩ (.slice a1 m p1)).setCell ⟨wg2.heap.size, 2, none⟩ (.slice a2 k p2)) := ((hXg6.setCell hs5 _).setCell hs5 _).setCell hs5 _
          have hIf : IsA m R k Z (((wg6.setCell ⟨wg2.heap.size, 0, none⟩ (.int .i64 c)).setCell ⟨wg2.heap.size, 1, none⟩ (.slice a1 m p1)).setCell ⟨wg2.heap.size, 2, none⟩ (.slice a2 k p2)) (.slice a1 m p1) (.slice a2 k p2) := (OwA.mid hO6 ((((MidB.refl wg2.heap.size (wg2.heap.size + 1) wg6).set (Nat.le_refl _) (Nat.lt_succ_self _) 0 _).set (Nat.le_refl _) (Nat.lt_succ_self _) 1 _).set (Nat.le_refl _) (Nat.lt_succ_self _) 2 _) hz6).is
          refine wpAnyH_done (by kernel_rfl) ?_ _
          refine NoPanic.normal ?_
          go_wp2_with fail
          go_meet
          case rel => exact ⟨_, a1, p1, a2, p2, rfl, hBf, hs5, q0, q1, q2, hIf⟩
      · rw [if_pos (by rfl)]
        go_simp
        generalize hwA : (World.alloc _ _ : World) = wg7
        have hb7 : Below wg1.heap.size wg1 wg7 := by subst hwA; (repeat (first | exact Below.refl _ _ | assumption | refine Below.drew ?_ | refine bl_alloc ?_ _ | refine bl_then ?_ (by assumption) | refine Below.setCell ?_ (by first | omega | (simp; done) | (simp; omega)) _ | refine bl_store ?_ ?_ _ _))
        have hT7 : There wg7 wg1.heap.size 3 := by subst hwA; exact there3q wg1 _ _ _ _
        clear hwA
        have hXg7 : Below wd.heap.size wd wg7 := bl_then hXg1 hb7
        have hs7 : wd.heap.size ≤ wg1.heap.size := hXg1.size
        have hq7 := hq1.below hb7 hl1
        have hl7 := Nat.lt_of_lt_of_le hl1 hb7.size
        refine hK.out _ _ hXg7 (fun hHeld => ?_)
        clear hK K
        try simp only [Act.put, List.setIfInBounds_toArray, List.set_cons_zero, List.set_cons_succ]
        refine wpAnyH_ready (rs := [3]) (by kernel_rfl) (by simp) ?_
        refine (AllReadyH.cons rfl (fun K hK => ?_) AllReadyH.nil)
        rw [if_pos (by rfl)]
        go_simp
        refine Calls.mono (toCamera_any _ _ _ _ _ _) ?_
        rintro e wg8 ⟨rfl, hb8⟩
        have hq8 := hq7.below hb8 hl7
        have hl8 := Nat.lt_of_lt_of_le hl7 hb8.size
        have hXg8 : Below wd.heap.size wd wg8 := bl_then hXg7 hb8
        have hT8 := There.below hT7 hb8
        go_wp2_with fail
        refine hK.out _ _ hXg8 (fun hHeld => ?_)
        clear hK K
        try simp only [Act.put, List.setIfInBounds_toArray, List.set_cons_zero, List.set_cons_succ]
        refine wpAnyH_ready (rs := [4]) (by kernel_rfl) (by simp) ?_
        refine (AllReadyH.cons rfl (fun K hK => ?_) AllReadyH.nil)
        rw [if_pos (by rfl)]
        go_simp
        refine Calls.mono (Him.out _ _ hq8 hl8) ?_
        rintro e wg9 ⟨v1, v2, rfl, hO9, hb9⟩
        obtain ⟨a1, p1, a2, p2, rfl, rfl, _, _⟩ := hO9.is
        have hXg9 : Below wd.heap.size wd wg9 := bl_then hXg8 hb9
        have hT9 := There.below hT8 hb9
        have hz9 : wg1.heap.size < wg8.heap.size := World.block_lt_of_cell? _ _ (hT8.cell 0 (by omega))
        go_wp2_with fail
        refine hK.out _ _ hXg9 (fun hHeld => ?_)
        clear hK K
        try simp only [Act.put, List.setIfInBounds_toArray, List.set_cons_zero, List.set_cons_succ]
        refine wpAnyH_ready (rs := [6]) (by kernel_rfl) (by simp) ?_
        refine (AllReadyH.cons rfl (fun K hK => ?_) AllReadyH.nil)
        rw [if_pos (by rfl)]
        have t0 := hT9.cell 0 (by omega)
        have f0 := (hT9 0 (by omega)).2
        have t1 := hT9.cell 1 (by omega)
        have f1 := (hT9 1 (by omega)).2
        have t2 := hT9.cell 2 (by omega)
        have f2 := (hT9 2 (by omega)).2
        go_simp
        refine hK.out _ _ (((hXg9.setCell hs7 _).setCell hs7 _).setCell hs7 _) (fun hHeld => ?_)
        clear hK K
        try simp only [Act.put, List.setIfInBounds_toArray, List.set_cons_zero, List.set_cons_succ]
        obtain ⟨q0, q1, q2⟩ := set3q (a := .int .i64 c) (b := .slice a1 m p1) (c := .slice a2 k p2) hT9
        have hBf : Below wd.heap.size wd (((wg9.setCell ⟨wg1.heap.size, 0, none⟩ (.int .i64 c)).setCell ⟨wg1.heap.size, 1, none⟩ (.slice a1 m p1)).setCell ⟨wg1.heap.size, 2, none⟩ (.slice a2 k p2)) := ((hXg9.setCell hs7 _).setCell hs7 _).setCell hs7 _
        have hIf : IsA m R k Z (((wg9.setCell ⟨wg1.heap.size, 0, none⟩ (.int .i64 c)).setCell ⟨wg1.heap.size, 1, none⟩ (.slice a1 m p1)).setCell ⟨wg1.heap.size, 2, none⟩ (.slice a2 k p2)) (.slice a1 m p1) (.slice a2 k p2) := (OwA.mid hO9 ((((MidB.refl wg1.heap.size (wg1.heap.size + 1) wg9).set (Nat.le_refl _) (Nat.lt_succ_self _) 0 _).set (Nat.le_refl _) (Nat.lt_succ_self _) 1 _).set (Nat.le_refl _) (Nat.lt_succ_self _) 2 _) hz9).is
        refine wpAnyH_done (by kernel_rfl) ?_ _
        refine NoPanic.normal ?_
        go_wp2_with fail
        go_meet
        case rel => exact ⟨_, a1, p1, a2, p2, rfl, hBf, hs7, q0, q1, q2, hIf⟩
    · rw [if_pos (by rfl)]
      go_simp
      generalize hwA : (World.alloc _ _ : World) = wg10
      have hb10 : Below wk0.heap.size wk0 wg10 := by subst hwA; (repeat (first | exact Below.refl _ _ | assumption | refine Below.drew ?_ | refine bl_alloc ?_ _ | refine bl_then ?_ (by assumption) | refine Below.setCell ?_ (by first | omega | (simp; done) | (simp; omega)) _ | refine bl_store ?_ ?_ _ _))
      have hT10 : There wg10 wk0.heap.size 3 := by subst hwA; exact there3q wk0 _ _ _ _
      clear hwA
      have hXg10 : Below wd.heap.size wd wg10 := bl_then hX0 hb10
      have hs10 : wd.heap.size ≤ wk0.heap.size := hX0.size
      refine hK.out _ _ hXg10 (fun hHeld => ?_)
      clear hK K
      try simp only [Act.put, List.setIfInBounds_toArray, List.set_cons_zero, List.set_cons_succ]
      refine wpAnyH_ready (rs := [1]) (by kernel_rfl) (by simp) ?_
      refine (AllReadyH.cons rfl (fun K hK => ?_) AllReadyH.nil)
      rw [if_pos (by rfl)]
      go_simp
      refine Calls.mono (HTQ.out _ (bl_then hrg hXg10)) ?_
      rintro e wg11 ⟨bq, rfl, hge11, hl11, hq11, _, hb11⟩
      have hXg11 : Below wd.heap.size wd wg11 := bl_then hXg10 hb11
      have hT11 := There.below hT10 hb11
      go_wp2_with fail
      refine hK.out _ _ hXg11 (fun hHeld => ?_)
      clear hK K
      try simp only [Act.put, List.setIfInBounds_toArray, List.set_cons_zero, List.set_cons_succ]
      refine wpAnyH_ready (rs := [3]) (by kernel_rfl) (by simp) ?_
      refine (AllReadyH.cons rfl (fun K hK => ?_) AllReadyH.nil)
      rw [if_pos (by rfl)]
      go_simp
      refine Calls.mono (toCamera_any _ _ _ _ _ _) ?_
      rintro e wg12 ⟨rfl, hb12⟩
      have hq12 := hq11.below hb12 hl11
      have hl12 := Nat.lt_of_lt_of_le hl11 hb12.size
      have hXg12 : Below wd.heap.size wd wg12 := bl_then hXg11 hb12
      have hT12 := There.below hT11 hb12
      go_wp2_with fail
      refine hK.out _ _ hXg12 (fun hHeld => ?_)
      clear hK K
      try simp only [Act.put, List.setIfInBounds_toArray, List.set_cons_zero, List.set_cons_succ]
      refine wpAnyH_ready (rs := [4]) (by kernel_rfl) (by simp) ?_
      refine (AllReadyH.cons rfl (fun K hK => ?_) AllReadyH.nil)
      rw [if_pos (by rfl)]
      go_simp
      refine Calls.mono (Him.out _ _ hq12 hl12) ?_
      rintro e wg13 ⟨v1, v2, rfl, hO13, hb13⟩
      obtain ⟨a1, p1, a2, p2, rfl, rfl, _, _⟩ := hO13.is
      have hXg13 : Below wd.heap.size wd wg13 := bl_then hXg12 hb13
      have hT13 := There.below hT12 hb13
      have hz13 : wk0.heap.size < wg12.heap.size := World.block_lt_of_cell? _ _ (hT12.cell 0 (by omega))
      go_wp2_with fail
      refine hK.out _ _ hXg13 (fun hHeld => ?_)
      clear hK K
      try simp only [Act.put, List.setIfInBounds_toArray, List.set_cons_zero, List.set_cons_succ]
      refine wpAnyH_ready (rs := [6]) (by kernel_rfl) (by simp) ?_
      refine (AllReadyH.cons rfl (fun K hK => ?_) AllReadyH.nil)
      rw [if_pos (by rfl)]
      have t0 := hT13.cell 0 (by omega)
      have f0 := (hT13 0 (by omega)).2
      have t1 := hT13.cell 1 (by omega)
      have f1 := (hT13 1 (by omega)).2
      have t2 := hT13.cell 2 (by omega)
      have f2 := (hT13 2 (by omega)).2
      go_simp
      refine hK.out _ _ (((hXg13.setCell hs10 _).setCell hs10 _).setCell hs10 _) (fun hHeld => ?_)
      clear hK K
      try simp only [Act.put, List.setIfInBounds_toArray, List.set_cons_zero, List.set_cons_succ]
      obtain ⟨q0, q1, q2⟩ := set3q (a := .int .i64 c) (b := .slice a1 m p1) (c := .slice a2 k p2) hT13
      have hBf : Below wd.heap.size wd (((wg13.setCell ⟨wk0.heap.size, 0, none⟩ (.int .i64 c)).setCell ⟨wk0.heap.size, 1, none⟩ (.slice a1 m p1)).setCell ⟨wk0.heap.size, 2, none⟩ (.slice a2 k p2)) := ((hXg13.setCell hs10 _).setCell hs10 _).setCell hs10 _
      have hIf : IsA m R k Z (((wg13.setCell ⟨wk0.heap.size, 0, none⟩ (.int .i64 c)).setCell ⟨wk0.heap.size, 1, none⟩ (.slice a1 m p1)).setCell ⟨wk0.heap.size, 2, none⟩ (.slice a2 k p2)) (.slice a1 m p1) (.slice a2 k p2) := (OwA.mid hO13 ((((MidB.refl wk0.heap.size (wk0.heap.size + 1) wg13).set (Nat.le_refl _) (Nat.lt_succ_self _) 0 _).set (Nat.le_refl _) (Nat.lt_succ_self _) 1 _).set (Nat.le_refl _) (Nat.lt_succ_self _) 2 _) hz13).is
      refine wpAnyH_done (by kernel_rfl) ?_ _
      refine NoPanic.normal ?_
      go_wp2_with fail
      go_meet
      case rel => exact ⟨_, a1, p1, a2, p2, rfl, hBf, hs10, q0, q1, q2, hIf⟩
  obtain ⟨bx, a5, p5, a6, p6, rfl, hBy, hbx, g0, g1, g2, hIx⟩ := hcut
  generalize wc = wf at *
  have HKf : Hid (MkA w4a.heap.size m k wf (.slice a3 m p3) (.slice a4 k p4)) := HKd.out.below hBy
  have HJf : Hid (IsA m R k Z wf (.slice a5 m p5) (.slice a6 k p6)) := hIx
  clear HKd hIx
  have hBf : Below w1.heap.size w1 wf := bl_then hBd hBy
  have hsf := hBy.size
  have HUf : Hid (UnA w2.heap.size m R k Z wf (.slice a1 m p1) (.slice a2 k p2)) := HUd.out.below hBy (by omega)
  have jf_0 := bl_cellR hBy jd_0
  have jf_1 := bl_cellR hBy jd_1
  have jf_2 := bl_cellR hBy jd_2
  clear jd_0 jd_1 jd_2
  have df_0 := bl_cellR hBy dd_0
  have df_1 := bl_cellR hBy dd_1
  have df_2 := bl_cellR hBy dd_2
  clear dd_0 dd_1 dd_2
  clear HUd hBd hBy
  go_wp2_with fail
  refine (eqA c m R k Z _ _ _ _ _ HJf.out (HUf.out.is (by omega)) hm hk).mono ?_
  rintro e wh ⟨rfl, hbh⟩
  have HKh : Hid (MkA w4a.heap.size m k wh (.slice a3 m p3) (.slice a4 k p4)) := HKf.out.below hbh
  clear HKf HJf g0 g1 g2
  have hBh : Below w1.heap.size w1 wh := bl_then hBf hbh
  have hsh := hbh.size
  have HUh : Hid (UnA w2.heap.size m R k Z wh (.slice a1 m p1) (.slice a2 k p2)) := HUf.out.below hbh (by omega)
  have jh_0 := bl_cellR hbh jf_0
  have jh_1 := bl_cellR hbh jf_1
  have jh_2 := bl_cellR hbh jf_2
  clear jf_0 jf_1 jf_2
  have dh_0 := bl_cellR hbh df_0
  have dh_1 := bl_cellR hbh df_1
  have dh_2 := bl_cellR hbh df_2
  clear df_0 df_1 df_2
  clear HUf hBf hbh
  go_wp2_with fail
  refine (Hheld.out _ HKh.out).mono ?_
  rintro e wi ⟨rfl, hbi⟩
  have HBi : Hid (Below w.heap.size w wi) := bl_then hB1 (bl_then hBh hbi)
  clear hbi
  go_wp2
  go_ret
  exact ⟨rfl, HBi.out⟩
theorem onlyL_len (n : Nat) (E : Nat → Req) (z x y wd ht : Int) : (onlyL n E z x y wd ht).length ≤ 8 := by
  unfold onlyL
  by_cases h : onlyC n E z x y wd ht = 0
  · rw [if_pos h]
    exact Nat.le_trans (keptL_le _ _ _) (reqsC_le (onlyC_zero h).1)
  · rw [if_neg h]; simp
theorem FnExactOnlySeen_walk (a : Option Addr) (n cap : Nat) (E : Nat → Req) (z x y wd ht : Int) (w : World) (h : IsWs w a n E ∧ n ≤ cap ∧ cap ≤ maxLen) :
    Calls Try.prog 4 #[.slice a n cap, camV z x y wd ht] w fun e w' => e = .returned (.bool true) ∧ Below w.heap.size w w' := by
  refine FnExactOnlySeen_law (onlyC n E z x y wd ht) a n cap E z x y wd ht ([] : List Req).length (rfsOf []) (onlyL n E z x y wd ht).length (nw (onlyL n E z x y wd ht)) w h (by simp) (Nat.le_trans (onlyL_len _ _ _ _ _ _ _) (by omega)) (fun hn b w hE hb => ?_) (fun hn b w hE hb => ?_)
  · exact (spec_OnlySeen_any _ n n E z x y wd ht w (.inr ⟨b, 0, rfl, hb, hE⟩) hn).mono fun e w' ⟨v2, he, h2, hb⟩ => ⟨_, v2, he, h2.ans, hb⟩
  · exact (impl_OnlySeen_any _ n n E z x y wd ht w (.inr ⟨b, 0, rfl, hb, hE⟩) hn (Nat.le_refl _)).mono fun e w' ⟨v2, he, h2, hb⟩ => ⟨_, v2, he, h2.ans, hb⟩
end Go.Proofs.Ytfknbijpimpbfaa
