/- The law of TouchTile returns true at every cache and ref. -/
import Derived.Test.YtciidkmonfmipaaGreatVTouchTile46
namespace Go.Proofs.YtciidkmonfmipaaGreat
open Go.RowKit
set_option linter.unusedSimpArgs false
set_option linter.unusedVariables false
set_option maxRecDepth 100000

set_option maxHeartbeats 16000000 in
theorem FnExactTouchTile_walk (CO SS : Int) (NN : Nat) (KL : Nat → Kp) (s : Int) (a : Option Addr) (n cap : Nat) (K : Nat → Kp) (z x y : Int) (w : World) (h : IsKs w a n K ∧ CameKs n K) (hkl : SmallKs n K → SmallKs NN KL)
    (hsp : SmallKs n K → ∀ (W : World) (C b : Nat) (A : Nat → Kp), OwnKs W C b n K A → Calls Tryz.prog 19 #[caV s (.slice (some ⟨b, 0, none⟩) n n), refV z x y] W fun e w' => ∃ a c R, e = .returned (crcV CO SS (.slice a NN c)) ∧ (∀ V, MidB 0 W.heap.size w' V → KsSm V a NN KL R) ∧ Below W.heap.size W w')
    (him : SmallKs n K → ∀ (W : World) (C b : Nat) (A : Nat → Kp), OwnKs W C b n K A → Calls Tryz.prog 21 #[caV s (.slice (some ⟨b, 0, none⟩) n n), refV z x y] W fun e w' => ∃ a c R, e = .returned (crcV CO SS (.slice a NN c)) ∧ CaNew w' W.heap.size a NN KL R ∧ Below W.heap.size W w') :
    Calls Tryz.prog 4 #[caV s (.slice a n cap), refV z x y] w fun e w' => e = .returned (.bool true) ∧ Below w.heap.size w w' := by
  obtain ⟨hf, hc⟩ := h
  have HI : Hid (IsKs w a n K) := hf
  have HC : Hid (CameKs n K) := hc
  have Hspec := (show Hid _ from hsp)
  have Himpl := (show Hid _ from him)
  have Hkl := (show Hid _ from hkl)
  clear hf hc hsp him hkl
  go_enter Tryz.func4, Tryz.ntmps4
  go_wp2_with fail
  generalize hW : ((w.alloc _).alloc _ : World) = W
  have HB0 : Hid (Below w.heap.size w W) := by show Below _ _ _; subst hW; (repeat (first | exact Below.refl _ _ | assumption | refine Below.drew ?_ | refine bl_alloc ?_ _ | refine bl_then ?_ (by assumption) | refine Below.setCell ?_ (by first | omega | (simp; done) | (simp; omega)) _ | refine bl_store ?_ ?_ _ _))
  have HCa : Hid (CaA W w.heap.size s (.slice a n cap)) := by show CaA _ _ _ _; subst hW; exact (CaA.new _ _ _ _).below (by (repeat (first | exact Below.refl _ _ | assumption | refine Below.drew ?_ | refine bl_alloc ?_ _ | refine bl_then ?_ (by assumption) | refine Below.setCell ?_ (by first | omega | (simp; done) | (simp; omega)) _ | refine bl_store ?_ ?_ _ _)))
  have HRk : Hid (RK W (w.heap.size + 1) z x y) := by show RK _ _ _ _ _; subst hW; refine ⟨?_, ?_, ?_⟩ <;> simp [go_sem]
  clear hW
  refine (szCache_any s a n cap K W (HI.out.below HB0.out) HC.out).mono ?_
  rintro e w1 ⟨rfl | ⟨m, hS, rfl⟩, hb1⟩
  · have HB1 : Hid (Below w.heap.size w w1) := bl_then HB0.out hb1
    clear hb1 Hspec Himpl
    go_wp2
    go_ret
    exact ⟨rfl, HB1.out⟩
  have HS : Hid (SmallKs n K) := hS
  have HKL : Hid (SmallKs NN KL) := Hkl.out hS
  have hneg : ¬ ((m : Nat) : Int) < 0 := by omega
  have Hsp := (show Hid _ from Hspec.out hS)
  have Him := (show Hid _ from Himpl.out hS)
  have HBw : Hid (Below w.heap.size w w1) := bl_then HB0.out hb1
  have HTo : Hid (∀ W', Below w1.heap.size w1 W' → Calls Tryz.prog 9 #[caV s (.slice a n cap)] W' fun e w' => ∃ b A, e = .returned (caV s (.slice (some ⟨b, 0, none⟩) n n)) ∧ W'.heap.size ≤ b ∧ OwnKs w' (b + 1) b n K A ∧ (∃ M, KsW w' b n A M) ∧ Below W'.heap.size W' w') := fun W' h => toCache_own s a n cap K W' (HI.out.below (bl_then HBw.out h)) HS.out
  have y0 : ∀ W', Below w1.heap.size w1 W' → W'.cell? ⟨w.heap.size, 0, none⟩ = some (.int .i64 s) := fun W' h => (HCa.out.below (bl_then hb1 h)).1
  have y1 : ∀ W', Below w1.heap.size w1 W' → W'.cell? ⟨w.heap.size, 1, none⟩ = some (.slice a n cap) := fun W' h => (HCa.out.below (bl_then hb1 h)).2
  have z0 : ∀ W', Below w1.heap.size w1 W' → W'.cell? ⟨w.heap.size + 1, 0, none⟩ = some (.int .i64 z) := fun W' h => (HRk.out.below (bl_then hb1 h)).1
  have z1 : ∀ W', Below w1.heap.size w1 W' → W'.cell? ⟨w.heap.size + 1, 1, none⟩ = some (.int .i64 x) := fun W' h => (HRk.out.below (bl_then hb1 h)).2.1
  have z2 : ∀ W', Below w1.heap.size w1 W' → W'.cell? ⟨w.heap.size + 1, 2, none⟩ = some (.int .i64 y) := fun W' h => (HRk.out.below (bl_then hb1 h)).2.2
  clear hS hb1 Hspec Himpl HCa HI HC HB0 HRk Hkl
  have hR1 := Below.refl w1.heap.size w1
  go_wp2_with fail
  go_cut [6] (fun t wx => ∃ (b : Nat) (a' : Option Addr) (c' : Nat) (R : Nat → Kp), t = .pointer (some ⟨b, 0, none⟩) ∧ Below w1.heap.size w1 wx ∧ w1.heap.size ≤ b ∧ wx.cell? ⟨b, 0, none⟩ = some (.int .i64 CO) ∧ wx.cell? ⟨b, 1, none⟩ = some (.int .i64 SS) ∧ wx.cell? ⟨b, 2, none⟩ = some (.slice a' NN c') ∧ KsSm wx a' NN KL R)
  case first =>
    have sy0 : ∀ W', Below w1.heap.size w1 W' → W'.cell? ⟨w.heap.size, 0, none⟩ = some (.int .i64 s) := fun W' h => y0 W' (bl_then hR1 h)
    have sy1 : ∀ W', Below w1.heap.size w1 W' → W'.cell? ⟨w.heap.size, 1, none⟩ = some (.slice a n cap) := fun W' h => y1 W' (bl_then hR1 h)
    have sz0 : ∀ W', Below w1.heap.size w1 W' → W'.cell? ⟨w.heap.size + 1, 0, none⟩ = some (.int .i64 z) := fun W' h => z0 W' (bl_then hR1 h)
    have sz1 : ∀ W', Below w1.heap.size w1 W' → W'.cell? ⟨w.heap.size + 1, 1, none⟩ = some (.int .i64 x) := fun W' h => z1 W' (bl_then hR1 h)
    have sz2 : ∀ W', Below w1.heap.size w1 W' → W'.cell? ⟨w.heap.size + 1, 2, none⟩ = some (.int .i64 y) := fun W' h => z2 W' (bl_then hR1 h)
    refine wp_region_noPanic ?_
    refine wp_region_held_drew (S := fun W' => Below w1.heap.size w1 W') (by kernel_rfl) (by have := Below.refl w1.heap.size w1; (repeat (first | exact Below.refl _ _ | assumption | refine Below.drew ?_ | refine bl_alloc ?_ _ | refine bl_then ?_ (by assumption) | refine Below.setCell ?_ (by first | omega | (simp; done) | (simp; omega)) _ | refine bl_store ?_ ?_ _ _))) (fun hHeld => ?_)
    have hX0 : Below w1.heap.size w1 w1.drew := hHeld
    refine takeD (i := 0) (d := some 18) (v := ?vf0) rfl rfl (by kernel_rfl) (by kernel_rfl) (by kernel_rfl) (fun _ _ _ h => h) (Or.inl ⟨by rfl, ?hyf0⟩) (by assumption) ?_
    case hyf0 => (intro w hSw; (try dsimp only at hSw); go_simp <;> with_reducible rfl)
    try simp only [Act.put, List.setIfInBounds_toArray, List.set_cons_zero, List.set_cons_succ]
    refine takeD (i := 2) (d := some 20) (v := ?vf2) rfl rfl (by kernel_rfl) (by kernel_rfl) (by kernel_rfl) (fun _ _ _ h => h) (Or.inl ⟨by rfl, ?hyf2⟩) (by assumption) ?_
    case hyf2 => (intro w hSw; (try dsimp only at hSw); go_simp <;> with_reducible rfl)
    try simp only [Act.put, List.setIfInBounds_toArray, List.set_cons_zero, List.set_cons_succ]
    generalize w1.drew = wk0 at *
    refine wpAnyH_ready (rs := [1, 5]) (by kernel_rfl) (by simp) ?_
    refine (AllReadyH.cons rfl (fun K hK => ?_) (AllReadyH.cons rfl (fun K hK => ?_) AllReadyH.nil))
    · rw [if_pos (by rfl)]
      go_simp
      refine Calls.mono (HTo.out _ (bl_then hR1 hX0)) ?_
      rintro e wf1 ⟨bq1, Aq1, rfl, hge1, hq1, _, hb1⟩
      have hXf1 : Below w1.heap.size w1 wf1 := bl_then hX0 hb1
      go_wp2_with fail
      refine hK.out _ _ hXf1 (fun hHeld => ?_)
      clear hK K
      try simp only [Act.put, List.setIfInBounds_toArray, List.set_cons_zero, List.set_cons_succ]
      refine wpAnyH_ready (rs := [3, 5]) (by kernel_rfl) (by simp) ?_
      refine (AllReadyH.cons rfl (fun K hK => ?_) (AllReadyH.cons rfl (fun K hK => ?_) AllReadyH.nil))
      · rw [if_pos (by rfl)]
        go_simp
        refine Calls.mono (toRef_any z x y _) ?_
        rintro e wf2 ⟨rfl, hb2⟩
        have hq2 := hq1.below hb2
        have hXf2 : Below w1.heap.size w1 wf2 := bl_then hXf1 hb2
        go_wp2_with fail
        refine hK.out _ _ hXf2 (fun hHeld => ?_)
        clear hK K
        try simp only [Act.put, List.setIfInBounds_toArray, List.set_cons_zero, List.set_cons_succ]
        refine wpAnyH_ready (rs := [4, 5]) (by kernel_rfl) (by simp) ?_
        refine (AllReadyH.cons rfl (fun K hK => ?_) (AllReadyH.cons rfl (fun K hK => ?_) AllReadyH.nil))
        · rw [if_pos (by rfl)]
          go_simp
          refine Calls.mono (Hsp.out _ _ _ _ hq2) ?_
          rintro e wf3 ⟨ar, cr, Rr, rfl, hA3, hb3⟩
          have hXf3 : Below w1.heap.size w1 wf3 := bl_then hXf2 hb3
          go_wp2_with fail
          refine hK.out _ _ hXf3 (fun hHeld => ?_)
          clear hK K
          try simp only [Act.put, List.setIfInBounds_toArray, List.set_cons_zero, List.set_cons_succ]
          refine wpAnyH_ready (rs := [5]) (by kernel_rfl) (by simp) ?_
          refine (AllReadyH.cons rfl (fun K hK => ?_) AllReadyH.nil)
          rw [if_pos (by rfl)]
          go_simp
          generalize hwA : (World.alloc _ _ : World) = wf4
          have hb4 : Below wf3.heap.size wf3 wf4 := by subst hwA; (repeat (first | exact Below.refl _ _ | assumption | refine Below.drew ?_ | refine bl_alloc ?_ _ | refine bl_then ?_ (by assumption) | refine Below.setCell ?_ (by first | omega | (simp; done) | (simp; omega)) _ | refine bl_store ?_ ?_ _ _))
          have hT4 : There wf4 wf3.heap.size 3 := by subst hwA; exact there3r wf3 _ _ _ _
          clear hwA
          have hXf4 : Below w1.heap.size w1 wf4 := bl_then hXf3 hb4
          have hs4 : w1.heap.size ≤ wf3.heap.size := hXf3.size
          refine hK.out _ _ hXf4 (fun hHeld => ?_)
          clear hK K
          try simp only [Act.put, List.setIfInBounds_toArray, List.set_cons_zero, List.set_cons_succ]
          refine wpAnyH_ready (rs := [6]) (by kernel_rfl) (by simp) ?_
          refine (AllReadyH.cons rfl (fun K hK => ?_) AllReadyH.nil)
          rw [if_pos (by rfl)]
          have t0 := hT4.cell 0 (by omega)
          have f0 := (hT4 0 (by omega)).2
          have t1 := hT4.cell 1 (by omega)
          have f1 := (hT4 1 (by omega)).2
          have t2 := hT4.cell 2 (by omega)
          have f2 := (hT4 2 (by omega)).2
          go_simp
          refine hK.out _ _ (((hXf4.setCell hs4 _).setCell hs4 _).setCell hs4 _) (fun hHeld => ?_)
          clear hK K
          try simp only [Act.put, List.setIfInBounds_toArray, List.set_cons_zero, List.set_cons_succ]
          obtain ⟨q0, q1, q2⟩ := set3_atq (a := .int .i64 CO) (b := .int .i64 SS) (c := .slice ar NN cr) hT4
          have hBf : Below w1.heap.size w1 (((wf4.setCell ⟨wf3.heap.size, 0, none⟩ (.int .i64 CO)).setCell ⟨wf3.heap.size, 1, none⟩ (.int .i64 SS)).setCell ⟨wf3.heap.size, 2, none⟩ (.slice ar NN cr)) := ((hXf4.setCell hs4 _).setCell hs4 _).setCell hs4 _
          have hBB : Below wf3.heap.size wf3 (((wf4.setCell ⟨wf3.heap.size, 0, none⟩ (.int .i64 CO)).setCell ⟨wf3.heap.size, 1, none⟩ (.int .i64 SS)).setCell ⟨wf3.heap.size, 2, none⟩ (.slice ar NN cr)) := ((hb4.setCell (Nat.le_refl _) _).setCell (Nat.le_refl _) _).setCell (Nat.le_refl _) _
          refine wpAnyH_done (by kernel_rfl) ?_ _
          refine NoPanic.normal ?_
          go_wp2_with fail
          go_meet
          case rel => exact ⟨_, ar, cr, Rr, rfl, hBf, hs4, q0, q1, q2, (hA3 _ (MidB.refl _ _ _)).below hBB⟩
        · rw [if_pos (by rfl)]
          go_simp
          generalize hwA : (World.alloc _ _ : World) = wf5
          have hb5 : Below wf2.heap.size wf2 wf5 := by subst hwA; (repeat (first | exact Below.refl _ _ | assumption | refine Below.drew ?_ | refine bl_alloc ?_ _ | refine bl_then ?_ (by assumption) | refine Below.setCell ?_ (by first | omega | (simp; done) | (simp; omega)) _ | refine bl_store ?_ ?_ _ _))
          have hT5 : There wf5 wf2.heap.size 3 := by subst hwA; exact there3r wf2 _ _ _ _
          clear hwA
          have hXf5 : Below w1.heap.size w1 wf5 := bl_then hXf2 hb5
          have hs5 : w1.heap.size ≤ wf2.heap.size := hXf2.size
          have hq5 := hq2.below hb5
          refine hK.out _ _ hXf5 (fun hHeld => ?_)
          clear hK K
          try simp only [Act.put, List.setIfInBounds_toArray, List.set_cons_zero, List.set_cons_succ]
          refine wpAnyH_ready (rs := [4]) (by kernel_rfl) (by simp) ?_
          refine (AllReadyH.cons rfl (fun K hK => ?_) AllReadyH.nil)
          rw [if_pos (by rfl)]
          go_simp
          have hrl6 : wf2.heap.size < wf5.heap.size := World.block_lt_of_cell? _ _ (hT5.cell 0 (by omega))
          refine Calls.mono (Hsp.out _ _ _ _ hq5) ?_
          rintro e wf6 ⟨ar, cr, Rr, rfl, hA6, hb6⟩
          have hXf6 : Below w1.heap.size w1 wf6 := bl_then hXf5 hb6
          have hT6 := There.below hT5 hb6
          go_wp2_with fail
          refine hK.out _ _ hXf6 (fun hHeld => ?_)
          clear hK K
          try simp only [Act.put, List.setIfInBounds_toArray, List.set_cons_zero, List.set_cons_succ]
          refine wpAnyH_ready (rs := [6]) (by kernel_rfl) (by simp) ?_
          refine (AllReadyH.cons rfl (fun K hK => ?_) AllReadyH.nil)
          rw [if_pos (by rfl)]
          have t0 := hT6.cell 0 (by omega)
          have f0 := (hT6 0 (by omega)).2
          have t1 := hT6.cell 1 (by omega)
          have f1 := (hT6 1 (by omega)).2
          have t2 := hT6.cell 2 (by omega)
          have f2 := (hT6 2 (by omega)).2
          go_simp
          refine hK.out _ _ (((hXf6.setCell hs5 _).setCell hs5 _).setCell hs5 _) (fun hHeld => ?_)
          clear hK K
          try simp only [Act.put, List.setIfInBounds_toArray, List.set_cons_zero, List.set_cons_succ]
          obtain ⟨q0, q1, q2⟩ := set3_atq (a := .int .i64 CO) (b := .int .i64 SS) (c := .slice ar NN cr) hT6
          have hBf : Below w1.heap.size w1 (((wf6.setCell ⟨wf2.heap.size, 0, none⟩ (.int .i64 CO)).setCell ⟨wf2.heap.size, 1, none⟩ (.int .i64 SS)).setCell ⟨wf2.heap.size, 2, none⟩ (.slice ar NN cr)) := ((hXf6.setCell hs5 _).setCell hs5 _).setCell hs5 _
          have hMM : MidB 0 wf5.heap.size wf6 (((wf6.setCell ⟨wf2.heap.size, 0, none⟩ (.int .i64 CO)).setCell ⟨wf2.heap.size, 1, none⟩ (.int .i64 SS)).setCell ⟨wf2.heap.size, 2, none⟩ (.slice ar NN cr)) := (((MidB.refl _ _ _).set (Nat.zero_le _) hrl6 _ _).set (Nat.zero_le _) hrl6 _ _).set (Nat.zero_le _) hrl6 _ _
          refine wpAnyH_done (by kernel_rfl) ?_ _
          refine NoPanic.normal ?_
          go_wp2_with fail
          go_meet
          case rel => exact ⟨_, ar, cr, Rr, rfl, hBf, hs5, q0, q1, q2, hA6 _ hMM⟩
      · rw [if_pos (by rfl)]
        go_simp
        generalize hwA : (World.alloc _ _ : World) = wf7
        have hb7 : Below wf1.heap.size wf1 wf7 := by subst hwA; (repeat (first | exact Below.refl _ _ | assumption | refine Below.drew ?_ | refine bl_alloc ?_ _ | refine bl_then ?_ (by assumption) | refine Below.setCell ?_ (by first | omega | (simp; done) | (simp; omega)) _ | refine bl_store ?_ ?_ _ _))
        have hT7 : There wf7 wf1.heap.size 3 := by subst hwA; exact there3r wf1 _ _ _ _
        clear hwA
        have hXf7 : Below w1.heap.size w1 wf7 := bl_then hXf1 hb7
        have hs7 : w1.heap.size ≤ wf1.heap.size := hXf1.size
        have hq7 := hq1.below hb7
        refine hK.out _ _ hXf7 (fun hHeld => ?_)
        clear hK K
        try simp only [Act.put, List.setIfInBounds_toArray, List.set_cons_zero, List.set_cons_succ]
        refine wpAnyH_ready (rs := [3]) (by kernel_rfl) (by simp) ?_
        refine (AllReadyH.cons rfl (fun K hK => ?_) AllReadyH.nil)
        rw [if_pos (by rfl)]
        go_simp
        refine Calls.mono (toRef_any z x y _) ?_
        rintro e wf8 ⟨rfl, hb8⟩
        have hq8 := hq7.below hb8
        have hXf8 : Below w1.heap.size w1 wf8 := bl_then hXf7 hb8
        have hT8 := There.below hT7 hb8
        go_wp2_with fail
        refine hK.out _ _ hXf8 (fun hHeld => ?_)
        clear hK K
        try simp only [Act.put, List.setIfInBounds_toArray, List.set_cons_zero, List.set_cons_succ]
        refine wpAnyH_ready (rs := [4]) (by kernel_rfl) (by simp) ?_
        refine (AllReadyH.cons rfl (fun K hK => ?_) AllReadyH.nil)
        rw [if_pos (by rfl)]
        go_simp
        have hrl9 : wf1.heap.size < wf8.heap.size := World.block_lt_of_cell? _ _ (hT8.cell 0 (by omega))
        refine Calls.mono (Hsp.out _ _ _ _ hq8) ?_
        rintro e wf9 ⟨ar, cr, Rr, rfl, hA9, hb9⟩
        have hXf9 : Below w1.heap.size w1 wf9 := bl_then hXf8 hb9
        have hT9 := There.below hT8 hb9
        go_wp2_with fail
        refine hK.out _ _ hXf9 (fun hHeld => ?_)
        clear hK K
        try simp only [Act.put, List.setIfInBounds_toArray, List.set_cons_zero, List.set_cons_succ]
        refine wpAnyH_ready (rs := [6]) (by kernel_rfl) (by simp) ?_
        refine (AllReadyH.cons rfl (fun K hK => ?_) AllReadyH.nil)
        rw [if_pos (by rfl)]
        have t0 := hT9.cell 0 (by omega)
        have f0 := (hT9 0 (by omega)).2
        have t1 := hT9.cell 1 (by omega)
        have f1 := (hT9 1 (by omega)).2
        have t2 := hT9.cell 2 (by omega)
        have f2 := (hT9 2 (by omega)).2
        go_simp
        refine hK.out _ _ (((hXf9.setCell hs7 _).setCell hs7 _).setCell hs7 _) (fun hHeld => ?_)
        clear hK K
        try simp only [Act.put, List.setIfInBounds_toArray, List.set_cons_zero, List.set_cons_succ]
        obtain ⟨q0, q1, q2⟩ := set3_atq (a := .int .i64 CO) (b := .int .i64 SS) (c := .slice ar NN cr) hT9
        have hBf : Below w1.heap.size w1 (((wf9.setCell ⟨wf1.heap.size, 0, none⟩ (.int .i64 CO)).setCell ⟨wf1.heap.size, 1, none⟩ (.int .i64 SS)).setCell ⟨wf1.heap.size, 2, none⟩ (.slice ar NN cr)) := ((hXf9.setCell hs7 _).setCell hs7 _).setCell hs7 _
        have hMM : MidB 0 wf8.heap.size wf9 (((wf9.setCell ⟨wf1.heap.size, 0, none⟩ (.int .i64 CO)).setCell ⟨wf1.heap.size, 1, none⟩ (.int .i64 SS)).setCell ⟨wf1.heap.size, 2, none⟩ (.slice ar NN cr)) := (((MidB.refl _ _ _).set (Nat.zero_le _) hrl9 _ _).set (Nat.zero_le _) hrl9 _ _).set (Nat.zero_le _) hrl9 _ _
        refine wpAnyH_done (by kernel_rfl) ?_ _
        refine NoPanic.normal ?_
        go_wp2_with fail
        go_meet
        case rel => exact ⟨_, ar, cr, Rr, rfl, hBf, hs7, q0, q1, q2, hA9 _ hMM⟩
    · rw [if_pos (by rfl)]
      go_simp
      generalize hwA : (World.alloc _ _ : World) = wf10
      have hb10 : Below wk0.heap.size wk0 wf10 := by subst hwA; (repeat (first | exact Below.refl _ _ | assumption | refine Below.drew ?_ | refine bl_alloc ?_ _ | refine bl_then ?_ (by assumption) | refine Below.setCell ?_ (by first | omega | (simp; done) | (simp; omega)) _ | refine bl_store ?_ ?_ _ _))
      have hT10 : There wf10 wk0.heap.size 3 := by subst hwA; exact there3r wk0 _ _ _ _
      clear hwA
      have hXf10 : Below w1.heap.size w1 wf10 := bl_then hX0 hb10
      have hs10 : w1.heap.size ≤ wk0.heap.size := hX0.size
      refine hK.out _ _ hXf10 (fun hHeld => ?_)
      clear hK K
      try simp only [Act.put, List.setIfInBounds_toArray, List.set_cons_zero, List.set_cons_succ]
      refine wpAnyH_ready (rs := [1]) (by kernel_rfl) (by simp) ?_
      refine (AllReadyH.cons rfl (fun K hK => ?_) AllReadyH.nil)
      rw [if_pos (by rfl)]
      go_simp
      refine Calls.mono (HTo.out _ (bl_then hR1 hXf10)) ?_
      rintro e wf11 ⟨bq11, Aq11, rfl, hge11, hq11, _, hb11⟩
      have hXf11 : Below w1.heap.size w1 wf11 := bl_then hXf10 hb11
      have hT11 := There.below hT10 hb11
      go_wp2_with fail
      refine hK.out _ _ hXf11 (fun hHeld => ?_)
      clear hK K
      try simp only [Act.put, List.setIfInBounds_toArray, List.set_cons_zero, List.set_cons_succ]
      refine wpAnyH_ready (rs := [3]) (by kernel_rfl) (by simp) ?_
      refine (AllReadyH.cons rfl (fun K hK => ?_) AllReadyH.nil)
      rw [if_pos (by rfl)]
      go_simp
      refine Calls.mono (toRef_any z x y _) ?_
      rintro e wf12 ⟨rfl, hb12⟩
      have hq12 := hq11.below hb12
      have hXf12 : Below w1.heap.size w1 wf12 := bl_then hXf11 hb12
      have hT12 := There.below hT11 hb12
      go_wp2_with fail
      refine hK.out _ _ hXf12 (fun hHeld => ?_)
      clear hK K
      try simp only [Act.put, List.setIfInBounds_toArray, List.set_cons_zero, List.set_cons_succ]
      refine wpAnyH_ready (rs := [4]) (by kernel_rfl) (by simp) ?_
      refine (AllReadyH.cons rfl (fun K hK => ?_) AllReadyH.nil)
      rw [if_pos (by rfl)]
      go_simp
      have hrl13 : wk0.heap.size < wf12.heap.size := World.block_lt_of_cell? _ _ (hT12.cell 0 (by omega))
      refine Calls.mono (Hsp.out _ _ _ _ hq12) ?_
      rintro e wf13 ⟨ar, cr, Rr, rfl, hA13, hb13⟩
      have hXf13 : Below w1.heap.size w1 wf13 := bl_then hXf12 hb13
      have hT13 := There.below hT12 hb13
      go_wp2_with fail
      refine hK.out _ _ hXf13 (fun hHeld => ?_)
      clear hK K
      try simp only [Act.put, List.setIfInBounds_toArray, List.set_cons_zero, List.set_cons_succ]
      refine wpAnyH_ready (rs := [6]) (by kernel_rfl) (by simp) ?_
      refine (AllReadyH.cons rfl (fun K hK => ?_) AllReadyH.nil)
      rw [if_pos (by rfl)]
      have t0 := hT13.cell 0 (by omega)
      have f0 := (hT13 0 (by omega)).2
      have t1 := hT13.cell 1 (by omega)
      have f1 := (hT13 1 (by omega)).2
      have t2 := hT13.cell 2 (by omega)
      have f2 := (hT13 2 (by omega)).2
      go_simp
      refine hK.out _ _ (((hXf13.setCell hs10 _).setCell hs10 _).setCell hs10 _) (fun hHeld => ?_)
      clear hK K
      try simp only [Act.put, List.setIfInBounds_toArray, List.set_cons_zero, List.set_cons_succ]
      obtain ⟨q0, q1, q2⟩ := set3_atq (a := .int .i64 CO) (b := .int .i64 SS) (c := .slice ar NN cr) hT13
      have hBf : Below w1.heap.size w1 (((wf13.setCell ⟨wk0.heap.size, 0, none⟩ (.int .i64 CO)).setCell ⟨wk0.heap.size, 1, none⟩ (.int .i64 SS)).setCell ⟨wk0.heap.size, 2, none⟩ (.slice ar NN cr)) := ((hXf13.setCell hs10 _).setCell hs10 _).setCell hs10 _
      have hMM : MidB 0 wf12.heap.size wf13 (((wf13.setCell ⟨wk0.heap.size, 0, none⟩ (.int .i64 CO)).setCell ⟨wk0.heap.size, 1, none⟩ (.int .i64 SS)).setCell ⟨wk0.heap.size, 2, none⟩ (.slice ar NN cr)) := (((MidB.refl _ _ _).set (Nat.zero_le _) hrl13 _ _).set (Nat.zero_le _) hrl13 _ _).set (Nat.zero_le _) hrl13 _ _
      refine wpAnyH_done (by kernel_rfl) ?_ _
      refine NoPanic.normal ?_
      go_wp2_with fail
      go_meet
      case rel => exact ⟨_, ar, cr, Rr, rfl, hBf, hs10, q0, q1, q2, hA13 _ hMM⟩
  obtain ⟨bw, a0, cap0, R0, rfl, hBy, hbx, g0, g1, g2, hsm⟩ := hcut
  generalize wc = w3 at *
  have HB3 : Hid (Below w1.heap.size w1 w3) := hBy
  have hs13 := hBy.size
  have hbw3 : bw < w3.heap.size := World.block_lt_of_cell? _ _ g0
  have HU3 : Hid (UndK w3.heap.size w3 a0 NN KL R0) := ⟨w3, rfl, hsm, Below.refl _ _⟩
  clear hBy hR1 hsm
  have cy0 := y0 w3 HB3.out
  have cy1 := y1 w3 HB3.out
  have cz0 := z0 w3 HB3.out
  have cz1 := z1 w3 HB3.out
  have cz2 := z2 w3 HB3.out
  go_wp2_with fail
  refine Calls.mono (HTo.out _ HB3.out) ?_
  rintro e w4 ⟨b4, A4, rfl, hle4, hO4, ⟨M4, hK4⟩, hb4⟩
  have HO4 : Hid (OwnKs w4 (b4 + 1) b4 n K A4) := hO4
  have HK4 : Hid (KsW w4 b4 n A4 M4 ∧ M4 n ≤ w4.heap.size) := ⟨hK4, hK4.2.2.2⟩
  have HB4 : Hid (Below w1.heap.size w1 w4) := bl_then HB3.out hb4
  have HU4 : Hid (UndK w3.heap.size w4 a0 NN KL R0) := HU3.out.below hb4
  have HG4 : Hid (w4.cell? ⟨bw, 0, none⟩ = some (.int .i64 CO) ∧ w4.cell? ⟨bw, 1, none⟩ = some (.int .i64 SS) ∧ w4.cell? ⟨bw, 2, none⟩ = some (.slice a0 NN cap0)) := ⟨(hb4.cell (p := ⟨bw, 0, none⟩) hbw3).trans g0, (hb4.cell (p := ⟨bw, 1, none⟩) hbw3).trans g1, (hb4.cell (p := ⟨bw, 2, none⟩) hbw3).trans g2⟩
  have hbw4 : bw < w4.heap.size := Nat.lt_of_lt_of_le hbw3 hb4.size
  have hw34 := hb4.size
  clear g0 g1 g2 hO4 hK4 hb4 HU3 cy0 cy1 cz0 cz1 cz2
  go_wp2_with fail
  generalize hwA : (w4.alloc _ : World) = w5
  have hb5 : Below w4.heap.size w4 w5 := by subst hwA; (repeat (first | exact Below.refl _ _ | assumption | refine Below.drew ?_ | refine bl_alloc ?_ _ | refine bl_then ?_ (by assumption) | refine Below.setCell ?_ (by first | omega | (simp; done) | (simp; omega)) _ | refine bl_store ?_ ?_ _ _))
  have k0 : w5.cell? ⟨w4.heap.size, 0, none⟩ = some (.int .i64 s) := by subst hwA; simp [go_sem]
  have k1 : w5.cell? ⟨w4.heap.size, 1, none⟩ = some (.slice (some ⟨b4, 0, none⟩) n n) := by subst hwA; simp [go_sem]
  clear hwA
  have HO5 : Hid (OwnKs w5 (b4 + 1) b4 n K A4) := HO4.out.below hb5
  have HKw : Hid (KsW w5 b4 n A4 M4 ∧ M4 n ≤ w4.heap.size) := ⟨HK4.out.1.below hb5, HK4.out.2⟩
  have HB5 : Hid (Below w1.heap.size w1 w5) := bl_then HB4.out hb5
  have HU5 : Hid (UndK w3.heap.size w5 a0 NN KL R0) := HU4.out.below (hb5.mono hw34)
  have hxl : w4.heap.size < w5.heap.size := World.block_lt_of_cell? _ _ k0
  have HG5 : Hid (w5.cell? ⟨bw, 0, none⟩ = some (.int .i64 CO) ∧ w5.cell? ⟨bw, 1, none⟩ = some (.int .i64 SS) ∧ w5.cell? ⟨bw, 2, none⟩ = some (.slice a0 NN cap0)) := ⟨(hb5.cell (p := ⟨bw, 0, none⟩) hbw4).trans HG4.out.1, (hb5.cell (p := ⟨bw, 1, none⟩) hbw4).trans HG4.out.2.1, (hb5.cell (p := ⟨bw, 2, none⟩) hbw4).trans HG4.out.2.2⟩
  have hbw5 : bw < w5.heap.size := Nat.lt_of_lt_of_le hbw4 hb5.size
  clear HG4 hbw4 HU4 HK4
  generalize w4.heap.size = bx at *
  have HK5 : Hid (w5.cell? ⟨bx, 0, none⟩ = some (.int .i64 s) ∧ w5.cell? ⟨bx, 1, none⟩ = some (.slice (some ⟨b4, 0, none⟩) n n)) := ⟨k0, k1⟩
  have hxw5 : bx < w5.heap.size := hxl
  clear hb5 HO4 HB4 HB3 k0 k1 hxl
  have hR5 := HB5.out
  go_cut [8] (fun t wx => ∃ (b : Nat) (a' : Option Addr) (c' : Nat) (R : Nat → Kp) (B hi : Nat), t = .pointer (some ⟨b, 0, none⟩) ∧ Below w5.heap.size w5 wx ∧ w5.heap.size ≤ b ∧ wx.cell? ⟨b, 0, none⟩ = some (.int .i64 CO) ∧ wx.cell? ⟨b, 1, none⟩ = some (.int .i64 SS) ∧ wx.cell? ⟨b, 2, none⟩ = some (.slice a' NN c') ∧ CaNew wx B a' NN KL R ∧ CrW wx B hi a' NN R ∧ w5.heap.size ≤ B ∧ (b < B ∨ hi ≤ b) ∧ B ≤ wx.heap.size)
  case first =>
    have x0 : ∀ W', Below w5.heap.size w5 W' → W'.cell? ⟨bx, 0, none⟩ = some (.int .i64 s) := fun W' h => (h.cell (p := ⟨bx, 0, none⟩) hxw5).trans HK5.out.1
    have x1 : ∀ W', Below w5.heap.size w5 W' → W'.cell? ⟨bx, 1, none⟩ = some (.slice (some ⟨b4, 0, none⟩) n n) := fun W' h => (h.cell (p := ⟨bx, 1, none⟩) hxw5).trans HK5.out.2
    have sy0 : ∀ W', Below w5.heap.size w5 W' → W'.cell? ⟨w.heap.size, 0, none⟩ = some (.int .i64 s) := fun W' h => y0 W' (bl_then hR5 h)
    have sy1 : ∀ W', Below w5.heap.size w5 W' → W'.cell? ⟨w.heap.size, 1, none⟩ = some (.slice a n cap) := fun W' h => y1 W' (bl_then hR5 h)
    have sz0 : ∀ W', Below w5.heap.size w5 W' → W'.cell? ⟨w.heap.size + 1, 0, none⟩ = some (.int .i64 z) := fun W' h => z0 W' (bl_then hR5 h)
    have sz1 : ∀ W', Below w5.heap.size w5 W' → W'.cell? ⟨w.heap.size + 1, 1, none⟩ = some (.int .i64 x) := fun W' h => z1 W' (bl_then hR5 h)
    have sz2 : ∀ W', Below w5.heap.size w5 W' → W'.cell? ⟨w.heap.size + 1, 2, none⟩ = some (.int .i64 y) := fun W' h => z2 W' (bl_then hR5 h)
    refine wp_region_noPanic ?_
    refine wp_region_held_drew (S := fun W' => Below w5.heap.size w5 W') (by kernel_rfl) (by have := Below.refl w5.heap.size w5; (repeat (first | exact Below.refl _ _ | assumption | refine Below.drew ?_ | refine bl_alloc ?_ _ | refine bl_then ?_ (by assumption) | refine Below.setCell ?_ (by first | omega | (simp; done) | (simp; omega)) _ | refine bl_store ?_ ?_ _ _))) (fun hHeld => ?_)
    have hX0 : Below w5.heap.size w5 w5.drew := hHeld
    refine takeD (i := 0) (d := some 25) (v := ?vg0) rfl rfl (by kernel_rfl) (by kernel_rfl) (by kernel_rfl) (fun _ _ _ h => h) (Or.inl ⟨by rfl, ?hyg0⟩) (by assumption) ?_
    case hyg0 => (intro w hSw; (try dsimp only at hSw); go_simp <;> with_reducible rfl)
    try simp only [Act.put, List.setIfInBounds_toArray, List.set_cons_zero, List.set_cons_succ]
    refine takeD (i := 1) (d := some 26) (v := ?vg1) rfl rfl (by kernel_rfl) (by kernel_rfl) (by kernel_rfl) (fun _ _ _ h => h) (Or.inl ⟨by rfl, ?hyg1⟩) (by assumption) ?_
    case hyg1 => (intro w hSw; (try dsimp only at hSw); go_simp <;> with_reducible rfl)
    try simp only [Act.put, List.setIfInBounds_toArray, List.set_cons_zero, List.set_cons_succ]
    generalize w5.drew = wk0 at *
    refine wpAnyH_ready (rs := [2, 4]) (by kernel_rfl) (by simp) ?_
    refine (AllReadyH.cons rfl (fun K hK => ?_) (AllReadyH.cons rfl (fun K hK => ?_) AllReadyH.nil))
    · rw [if_pos (by rfl)]
      go_simp
      refine Calls.mono (toRef_any z x y _) ?_
      rintro e wg14 ⟨rfl, hb14⟩
      have hXg14 : Below w5.heap.size w5 wg14 := bl_then hX0 hb14
      go_wp2_with fail
      refine hK.out _ _ hXg14 (fun hHeld => ?_)
      clear hK K
      try simp only [Act.put, List.setIfInBounds_toArray, List.set_cons_zero, List.set_cons_succ]
      refine wpAnyH_ready (rs := [3, 4]) (by kernel_rfl) (by simp) ?_
      refine (AllReadyH.cons rfl (fun K hK => ?_) (AllReadyH.cons rfl (fun K hK => ?_) AllReadyH.nil))
      · rw [if_pos (by rfl)]
        go_simp
        refine Calls.mono (Him.out _ _ _ _ (HO5.out.below hXg14)) ?_
        rintro e wg15 ⟨ar, cr, Rr, rfl, hA15, hb15⟩
        have hXg15 : Below w5.heap.size w5 wg15 := bl_then hXg14 hb15
        go_wp2_with fail
        refine hK.out _ _ hXg15 (fun hHeld => ?_)
        clear hK K
        try simp only [Act.put, List.setIfInBounds_toArray, List.set_cons_zero, List.set_cons_succ]
        refine wpAnyH_ready (rs := [4]) (by kernel_rfl) (by simp) ?_
        refine (AllReadyH.cons rfl (fun K hK => ?_) AllReadyH.nil)
        rw [if_pos (by rfl)]
        go_simp
        generalize hwA : (World.alloc _ _ : World) = wg16
        have hb16 : Below wg15.heap.size wg15 wg16 := by subst hwA; (repeat (first | exact Below.refl _ _ | assumption | refine Below.drew ?_ | refine bl_alloc ?_ _ | refine bl_then ?_ (by assumption) | refine Below.setCell ?_ (by first | omega | (simp; done) | (simp; omega)) _ | refine bl_store ?_ ?_ _ _))
        have hT16 : There wg16 wg15.heap.size 3 := by subst hwA; exact there3r wg15 _ _ _ _
        clear hwA
        have hXg16 : Below w5.heap.size w5 wg16 := bl_then hXg15 hb16
        have hs16 : w5.heap.size ≤ wg15.heap.size := hXg15.size
        refine hK.out _ _ hXg16 (fun hHeld => ?_)
        clear hK K
        try simp only [Act.put, List.setIfInBounds_toArray, List.set_cons_zero, List.set_cons_succ]
        refine wpAnyH_ready (rs := [5]) (by kernel_rfl) (by simp) ?_
        refine (AllReadyH.cons rfl (fun K hK => ?_) AllReadyH.nil)
        rw [if_pos (by rfl)]
        have t0 := hT16.cell 0 (by omega)
        have f0 := (hT16 0 (by omega)).2
        have t1 := hT16.cell 1 (by omega)
        have f1 := (hT16 1 (by omega)).2
        have t2 := hT16.cell 2 (by omega)
        have f2 := (hT16 2 (by omega)).2
        go_simp
        refine hK.out _ _ (((hXg16.setCell hs16 _).setCell hs16 _).setCell hs16 _) (fun hHeld => ?_)
        clear hK K
        try simp only [Act.put, List.setIfInBounds_toArray, List.set_cons_zero, List.set_cons_succ]
        obtain ⟨q0, q1, q2⟩ := set3_atq (a := .int .i64 CO) (b := .int .i64 SS) (c := .slice ar NN cr) hT16
        have hBf : Below w5.heap.size w5 (((wg16.setCell ⟨wg15.heap.size, 0, none⟩ (.int .i64 CO)).setCell ⟨wg15.heap.size, 1, none⟩ (.int .i64 SS)).setCell ⟨wg15.heap.size, 2, none⟩ (.slice ar NN cr)) := ((hXg16.setCell hs16 _).setCell hs16 _).setCell hs16 _
        have hBB : Below wg15.heap.size wg15 (((wg16.setCell ⟨wg15.heap.size, 0, none⟩ (.int .i64 CO)).setCell ⟨wg15.heap.size, 1, none⟩ (.int .i64 SS)).setCell ⟨wg15.heap.size, 2, none⟩ (.slice ar NN cr)) := ((hb16.setCell (Nat.le_refl _) _).setCell (Nat.le_refl _) _).setCell (Nat.le_refl _) _
        refine wpAnyH_done (by kernel_rfl) ?_ _
        refine NoPanic.normal ?_
        go_wp2_with fail
        go_meet
        case rel => exact ⟨_, ar, cr, Rr, wg14.heap.size, wg15.heap.size, rfl, hBf, hs16, q0, q1, q2, hA15.below hBB, hA15.crw.below hBB, hXg14.size, .inr (Nat.le_refl _), Nat.le_trans hb15.size hBB.size⟩
      · rw [if_pos (by rfl)]
        go_simp
        generalize hwA : (World.alloc _ _ : World) = wg17
        have hb17 : Below wg14.heap.size wg14 wg17 := by subst hwA; (repeat (first | exact Below.refl _ _ | assumption | refine Below.drew ?_ | refine bl_alloc ?_ _ | refine bl_then ?_ (by assumption) | refine Below.setCell ?_ (by first | omega | (simp; done) | (simp; omega)) _ | refine bl_store ?_ ?_ _ _))
        have hT17 : There wg17 wg14.heap.size 3 := by subst hwA; exact there3r wg14 _ _ _ _
        clear hwA
        have hXg17 : Below w5.heap.size w5 wg17 := bl_then hXg14 hb17
        have hs17 : w5.heap.size ≤ wg14.heap.size := hXg14.size
        refine hK.out _ _ hXg17 (fun hHeld => ?_)
        clear hK K
        try simp only [Act.put, List.setIfInBounds_toArray, List.set_cons_zero, List.set_cons_succ]
        refine wpAnyH_ready (rs := [3]) (by kernel_rfl) (by simp) ?_
        refine (AllReadyH.cons rfl (fun K hK => ?_) AllReadyH.nil)
        rw [if_pos (by rfl)]
        go_simp
        have hrl18 : wg14.heap.size < wg17.heap.size := World.block_lt_of_cell? _ _ (hT17.cell 0 (by omega))
        refine Calls.mono (Him.out _ _ _ _ (HO5.out.below hXg17)) ?_
        rintro e wg18 ⟨ar, cr, Rr, rfl, hA18, hb18⟩
        have hXg18 : Below w5.heap.size w5 wg18 := bl_then hXg17 hb18
        have hT18 := There.below hT17 hb18
        go_wp2_with fail
        refine hK.out _ _ hXg18 (fun hHeld => ?_)
        clear hK K
        try simp only [Act.put, List.setIfInBounds_toArray, List.set_cons_zero, List.set_cons_succ]
        refine wpAnyH_ready (rs := [5]) (by kernel_rfl) (by simp) ?_
        refine (AllReadyH.cons rfl (fun K hK => ?_) AllReadyH.nil)
        rw [if_pos (by rfl)]
        have t0 := hT18.cell 0 (by omega)
        have f0 := (hT18 0 (by omega)).2
        have t1 := hT18.cell 1 (by omega)
        have f1 := (hT18 1 (by omega)).2
        have t2 := hT18.cell 2 (by omega)
        have f2 := (hT18 2 (by omega)).2
        go_simp
        refine hK.out _ _ (((hXg18.setCell hs17 _).setCell hs17 _).setCell hs17 _) (fun hHeld => ?_)
        clear hK K
        try simp only [Act.put, List.setIfInBounds_toArray, List.set_cons_zero, List.set_cons_succ]
        obtain ⟨q0, q1, q2⟩ := set3_atq (a := .int .i64 CO) (b := .int .i64 SS) (c := .slice ar NN cr) hT18
        have hBf : Below w5.heap.size w5 (((wg18.setCell ⟨wg14.heap.size, 0, none⟩ (.int .i64 CO)).setCell ⟨wg14.heap.size, 1, none⟩ (.int .i64 SS)).setCell ⟨wg14.heap.size, 2, none⟩ (.slice ar NN cr)) := ((hXg18.setCell hs17 _).setCell hs17 _).setCell hs17 _
        have hMM : MidB 0 wg17.heap.size wg18 (((wg18.setCell ⟨wg14.heap.size, 0, none⟩ (.int .i64 CO)).setCell ⟨wg14.heap.size, 1, none⟩ (.int .i64 SS)).setCell ⟨wg14.heap.size, 2, none⟩ (.slice ar NN cr)) := (((MidB.refl _ _ _).set (Nat.zero_le _) hrl18 _ _).set (Nat.zero_le _) hrl18 _ _).set (Nat.zero_le _) hrl18 _ _
        refine wpAnyH_done (by kernel_rfl) ?_ _
        refine NoPanic.normal ?_
        go_wp2_with fail
        go_meet
        case rel => exact ⟨_, ar, cr, Rr, wg17.heap.size, wg18.heap.size, rfl, hBf, hs17, q0, q1, q2, hA18.mid hMM (Nat.le_refl _), hA18.crw.mid hMM (Nat.le_refl _), hXg17.size, .inl hrl18, Nat.le_trans hb18.size hMM.size⟩
    · rw [if_pos (by rfl)]
      go_simp
      generalize hwA : (World.alloc _ _ : World) = wg19
      have hb19 : Below wk0.heap.size wk0 wg19 := by subst hwA; (repeat (first | exact Below.refl _ _ | assumption | refine Below.drew ?_ | refine bl_alloc ?_ _ | refine bl_then ?_ (by assumption) | refine Below.setCell ?_ (by first | omega | (simp; done) | (simp; omega)) _ | refine bl_store ?_ ?_ _ _))
      have hT19 : There wg19 wk0.heap.size 3 := by subst hwA; exact there3r wk0 _ _ _ _
      clear hwA
      have hXg19 : Below w5.heap.size w5 wg19 := bl_then hX0 hb19
      have hs19 : w5.heap.size ≤ wk0.heap.size := hX0.size
      refine hK.out _ _ hXg19 (fun hHeld => ?_)
      clear hK K
      try simp only [Act.put, List.setIfInBounds_toArray, List.set_cons_zero, List.set_cons_succ]
      refine wpAnyH_ready (rs := [2]) (by kernel_rfl) (by simp) ?_
      refine (AllReadyH.cons rfl (fun K hK => ?_) AllReadyH.nil)
      rw [if_pos (by rfl)]
      go_simp
      refine Calls.mono (toRef_any z x y _) ?_
      rintro e wg20 ⟨rfl, hb20⟩
      have hXg20 : Below w5.heap.size w5 wg20 := bl_then hXg19 hb20
      have hT20 := There.below hT19 hb20
      go_wp2_with fail
      refine hK.out _ _ hXg20 (fun hHeld => ?_)
      clear hK K
      try simp only [Act.put, List.setIfInBounds_toArray, List.set_cons_zero, List.set_cons_succ]
      refine wpAnyH_ready (rs := [3]) (by kernel_rfl) (by simp) ?_
      refine (AllReadyH.cons rfl (fun K hK => ?_) AllReadyH.nil)
      rw [if_pos (by rfl)]
      go_simp
      have hrl21 : wk0.heap.size < wg20.heap.size := World.block_lt_of_cell? _ _ (hT20.cell 0 (by omega))
      refine Calls.mono (Him.out _ _ _ _ (HO5.out.below hXg20)) ?_
      rintro e wg21 ⟨ar, cr, Rr, rfl, hA21, hb21⟩
      have hXg21 : Below w5.heap.size w5 wg21 := bl_then hXg20 hb21
      have hT21 := There.below hT20 hb21
      go_wp2_with fail
      refine hK.out _ _ hXg21 (fun hHeld => ?_)
      clear hK K
      try simp only [Act.put, List.setIfInBounds_toArray, List.set_cons_zero, List.set_cons_succ]
      refine wpAnyH_ready (rs := [5]) (by kernel_rfl) (by simp) ?_
      refine (AllReadyH.cons rfl (fun K hK => ?_) AllReadyH.nil)
      rw [if_pos (by rfl)]
      have t0 := hT21.cell 0 (by omega)
      have f0 := (hT21 0 (by omega)).2
      have t1 := hT21.cell 1 (by omega)
      have f1 := (hT21 1 (by omega)).2
      have t2 := hT21.cell 2 (by omega)
      have f2 := (hT21 2 (by omega)).2
      go_simp
      refine hK.out _ _ (((hXg21.setCell hs19 _).setCell hs19 _).setCell hs19 _) (fun hHeld => ?_)
      clear hK K
      try simp only [Act.put, List.setIfInBounds_toArray, List.set_cons_zero, List.set_cons_succ]
      obtain ⟨q0, q1, q2⟩ := set3_atq (a := .int .i64 CO) (b := .int .i64 SS) (c := .slice ar NN cr) hT21
      have hBf : Below w5.heap.size w5 (((wg21.setCell ⟨wk0.heap.size, 0, none⟩ (.int .i64 CO)).setCell ⟨wk0.heap.size, 1, none⟩ (.int .i64 SS)).setCell ⟨wk0.heap.size, 2, none⟩ (.slice ar NN cr)) := ((hXg21.setCell hs19 _).setCell hs19 _).setCell hs19 _
      have hMM : MidB 0 wg20.heap.size wg21 (((wg21.setCell ⟨wk0.heap.size, 0, none⟩ (.int .i64 CO)).setCell ⟨wk0.heap.size, 1, none⟩ (.int .i64 SS)).setCell ⟨wk0.heap.size, 2, none⟩ (.slice ar NN cr)) := (((MidB.refl _ _ _).set (Nat.zero_le _) hrl21 _ _).set (Nat.zero_le _) hrl21 _ _).set (Nat.zero_le _) hrl21 _ _
      refine wpAnyH_done (by kernel_rfl) ?_ _
      refine NoPanic.normal ?_
      go_wp2_with fail
      go_meet
      case rel => exact ⟨_, ar, cr, Rr, wg20.heap.size, wg21.heap.size, rfl, hBf, hs19, q0, q1, q2, hA21.mid hMM (Nat.le_refl _), hA21.crw.mid hMM (Nat.le_refl _), hXg20.size, .inl hrl21, Nat.le_trans hb21.size hMM.size⟩
  obtain ⟨bv, a1, cap1, R1, Bq, hi, rfl, hBy, hbx', g0, g1, g2, hcn, hcw, hBq, hsd, hBq6⟩ := hcut
  generalize wc = w6 at *
  have HCN6 : Hid (CaNew w6 Bq a1 NN KL R1) := hcn
  have HCW6 : Hid (CrW w6 Bq hi a1 NN R1) := hcw
  have HR1s : Hid (SmallKs NN R1) := hcn.small HKL.out
  have HO6 : Hid (OwnKs w6 (b4 + 1) b4 n K A4) := HO5.out.below hBy
  have HKw6 : Hid (KsW w6 b4 n A4 M4 ∧ M4 n ≤ bx) := ⟨HKw.out.1.below hBy, HKw.out.2⟩
  have HB6 : Hid (Below w1.heap.size w1 w6) := bl_then HB5.out hBy
  have HU6 : Hid (UndK w3.heap.size w6 a0 NN KL R0) := HU5.out.below (hBy.mono (by omega))
  have HK6 : Hid (w6.cell? ⟨bx, 0, none⟩ = some (.int .i64 s) ∧ w6.cell? ⟨bx, 1, none⟩ = some (.slice (some ⟨b4, 0, none⟩) n n)) := ⟨(hBy.cell (p := ⟨bx, 0, none⟩) hxw5).trans HK5.out.1, (hBy.cell (p := ⟨bx, 1, none⟩) hxw5).trans HK5.out.2⟩
  have hxw6 : bx < w6.heap.size := Nat.lt_of_lt_of_le hxw5 hBy.size
  have e0 := (hBy.cell (p := ⟨bw, 0, none⟩) hbw5).trans HG5.out.1
  have e1 := (hBy.cell (p := ⟨bw, 1, none⟩) hbw5).trans HG5.out.2.1
  have e2 := (hBy.cell (p := ⟨bw, 2, none⟩) hbw5).trans HG5.out.2.2
  clear hBy hR5 HG5 HK5 HO5 HB5 HU5 HKw hcn hcw
  go_wp2_with fail
  refine (eqCacheResult_any CO SS _ _ NN _ _ KL _ _ _ HCN6.out.sm HU6.out.is HKL.out).mono ?_
  rintro e w7 ⟨rfl, hb7⟩
  have HCN7 : Hid (CaNew w7 Bq a1 NN KL R1) := HCN6.out.below hb7
  have HCW7 : Hid (CrW w7 Bq hi a1 NN R1) := HCW6.out.below hb7
  have HO7 : Hid (OwnKs w7 (b4 + 1) b4 n K A4) := HO6.out.below hb7
  have HKw7 : Hid (KsW w7 b4 n A4 M4 ∧ M4 n ≤ bx) := ⟨HKw6.out.1.below hb7, HKw6.out.2⟩
  have HB7 : Hid (Below w1.heap.size w1 w7) := bl_then HB6.out hb7
  have hs67 := hb7.size
  have HU7 : Hid (UndK w3.heap.size w7 a0 NN KL R0) := HU6.out.below (hb7.mono (by omega))
  have HK7 : Hid (w7.cell? ⟨bx, 0, none⟩ = some (.int .i64 s) ∧ w7.cell? ⟨bx, 1, none⟩ = some (.slice (some ⟨b4, 0, none⟩) n n)) := ⟨(hb7.cell (p := ⟨bx, 0, none⟩) hxw6).trans HK6.out.1, (hb7.cell (p := ⟨bx, 1, none⟩) hxw6).trans HK6.out.2⟩
  have hxw7 : bx < w7.heap.size := Nat.lt_of_lt_of_le hxw6 hb7.size
  have HV7 : Hid ((w7.cell? ⟨bv, 0, none⟩ = some (.int .i64 CO) ∧ w7.cell? ⟨bv, 1, none⟩ = some (.int .i64 SS) ∧ w7.cell? ⟨bv, 2, none⟩ = some (.slice a1 NN cap1)) ∧ w7.cell? ⟨bw, 0, none⟩ = some (.int .i64 CO) ∧ w7.cell? ⟨bw, 1, none⟩ = some (.int .i64 SS) ∧ w7.cell? ⟨bw, 2, none⟩ = some (.slice a0 NN cap0)) := ⟨⟨bl_cell hb7 g0, bl_cell hb7 g1, bl_cell hb7 g2⟩, bl_cell hb7 e0, bl_cell hb7 e1, bl_cell hb7 e2⟩
  clear hb7 HO6 HB6 HK6 HU6 HKw6 HCN6 HCW6 hxw6 g0 g1 g2 e0 e1 e2
  go_wp2_with fail
  have HO5 := HO7
  have x0 : ∀ W', Below w7.heap.size w7 W' → W'.cell? ⟨bx, 0, none⟩ = some (.int .i64 s) := fun W' h => (h.cell (p := ⟨bx, 0, none⟩) hxw7).trans HK7.out.1
  have x1 : ∀ W', Below w7.heap.size w7 W' → W'.cell? ⟨bx, 1, none⟩ = some (.slice (some ⟨b4, 0, none⟩) n n) := fun W' h => (h.cell (p := ⟨bx, 1, none⟩) hxw7).trans HK7.out.2
  have hR6 := HB7.out
  have sy0 : ∀ W', Below w7.heap.size w7 W' → W'.cell? ⟨w.heap.size, 0, none⟩ = some (.int .i64 s) := fun W' h => y0 W' (bl_then hR6 h)
  have sy1 : ∀ W', Below w7.heap.size w7 W' → W'.cell? ⟨w.heap.size, 1, none⟩ = some (.slice a n cap) := fun W' h => y1 W' (bl_then hR6 h)
  have sz0 : ∀ W', Below w7.heap.size w7 W' → W'.cell? ⟨w.heap.size + 1, 0, none⟩ = some (.int .i64 z) := fun W' h => z0 W' (bl_then hR6 h)
  have sz1 : ∀ W', Below w7.heap.size w7 W' → W'.cell? ⟨w.heap.size + 1, 1, none⟩ = some (.int .i64 x) := fun W' h => z1 W' (bl_then hR6 h)
  have sz2 : ∀ W', Below w7.heap.size w7 W' → W'.cell? ⟨w.heap.size + 1, 2, none⟩ = some (.int .i64 y) := fun W' h => z2 W' (bl_then hR6 h)
  refine wp_region_noPanic ?_
  refine wp_region_held_drew (S := fun W' => Below w7.heap.size w7 W') (by kernel_rfl) (by have := Below.refl w7.heap.size w7; (repeat (first | exact Below.refl _ _ | assumption | refine Below.drew ?_ | refine bl_alloc ?_ _ | refine bl_then ?_ (by assumption) | refine Below.setCell ?_ (by first | omega | (simp; done) | (simp; omega)) _ | refine bl_store ?_ ?_ _ _))) (fun hHeld => ?_)
  have hX0 : Below w7.heap.size w7 w7.drew := hHeld
  refine takeD (i := 0) (d := some 33) (v := ?vh0) rfl rfl (by kernel_rfl) (by kernel_rfl) (by kernel_rfl) (fun _ _ _ h => h) (Or.inl ⟨by rfl, ?hyh0⟩) (by assumption) ?_
  case hyh0 => (intro w hSw; (try dsimp only at hSw); go_simp <;> with_reducible rfl)
  try simp only [Act.put, List.setIfInBounds_toArray, List.set_cons_zero, List.set_cons_succ]
  refine takeD (i := 1) (d := some 34) (v := ?vh1) rfl rfl (by kernel_rfl) (by kernel_rfl) (by kernel_rfl) (fun _ _ _ h => h) (Or.inl ⟨by rfl, ?hyh1⟩) (by assumption) ?_
  case hyh1 => (intro w hSw; (try dsimp only at hSw); go_simp <;> with_reducible rfl)
  try simp only [Act.put, List.setIfInBounds_toArray, List.set_cons_zero, List.set_cons_succ]
  generalize w7.drew = wk0 at *
  refine wpAnyH_ready (rs := [2]) (by kernel_rfl) (by simp) ?_
  refine (AllReadyH.cons rfl (fun K hK => ?_) AllReadyH.nil)
  rw [if_pos (by rfl)]
  go_simp
  refine Calls.mono (HTo.out _ (bl_then hR6 hX0)) ?_
  rintro e wh22 ⟨bq22, Aq22, rfl, hge22, hq22, _, hb22⟩
  have hXh22 : Below w7.heap.size w7 wh22 := bl_then hX0 hb22
  go_wp2_with fail
  refine hK.out _ _ hXh22 (fun hHeld => ?_)
  clear hK K
  try simp only [Act.put, List.setIfInBounds_toArray, List.set_cons_zero, List.set_cons_succ]
  refine wpAnyH_ready (rs := [3]) (by kernel_rfl) (by simp) ?_
  refine (AllReadyH.cons rfl (fun K hK => ?_) AllReadyH.nil)
  rw [if_pos (by rfl)]
  go_simp
  refine Calls.mono (eqCache_any s _ _ _ _ n _ _ _ _ (HO5.out.below hXh22) hq22 HS.out) ?_
  rintro e wh23 ⟨rfl, hb23⟩
  have hXh23 : Below w7.heap.size w7 wh23 := bl_then hXh22 hb23
  go_wp2_with fail
  refine hK.out _ _ hXh23 (fun hHeld => ?_)
  clear hK K
  try simp only [Act.put, List.setIfInBounds_toArray, List.set_cons_zero, List.set_cons_succ]
  refine takeD (i := 4) (d := some 37) (v := ?vh4) rfl rfl (by kernel_rfl) (by kernel_rfl) (by kernel_rfl) (fun _ _ _ h => h) (Or.inl ⟨by rfl, ?hyh4⟩) (by assumption) ?_
  case hyh4 => (intro w hSw; (try dsimp only at hSw); go_simp <;> with_reducible rfl)
  try simp only [Act.put, List.setIfInBounds_toArray, List.set_cons_zero, List.set_cons_succ]
  refine wpAnyH_done (by kernel_rfl) ?_ _
  refine NoPanic.normal ?_
  have HB8 : Hid (Below w7.heap.size w7 wh23) := hXh23
  have k0 := x0 _ HB8.out
  have k1 := x1 _ HB8.out
  generalize wh23 = w8 at *
  -- @HERE
  clear x0 x1 sy0 sy1 sz0 sz1 sz2
  obtain ⟨⟨i0, i1, i2⟩, j0, j1, j2⟩ := HV7.out
  have i0 := bl_cell HB8.out i0
  have i1 := bl_cell HB8.out i1
  have i2 := bl_cell HB8.out i2
  have j0 := bl_cell HB8.out j0
  have j1 := bl_cell HB8.out j1
  have j2 := bl_cell HB8.out j2
  have HMk := (show Hid _ from markCacheV_any s b4 n n 1 A4 M4 w8 (HKw7.out.1.below HB8.out) (HO7.out.small HS.out) (by omega) (by omega))
  have hMb := HKw7.out.2
  have hs78 := HB8.out.size
  have HCN8 : Hid (CaNew w8 Bq a1 NN KL R1) := HCN7.out.below HB8.out
  have HCW8 : Hid (CrW w8 Bq hi a1 NN R1) := HCW7.out.below HB8.out
  have HU8 : Hid (UndK w3.heap.size w8 a0 NN KL R0) := HU7.out.below (HB8.out.mono (by omega))
  have HB8w : Hid (Below w1.heap.size w1 w8) := bl_then HB7.out HB8.out
  go_wp2_with fail
  refine Calls.mono HMk.out ?_
  rintro e wa ⟨rfl, _, hG⟩
  have hGa : MidB w3.heap.size bx w8 wa := hG.wide hle4 hMb
  have hxq : bx < Bq := by omega
  have hqn : ¬ ((kK A4 1 n : Nat) : Int) < 0 := by omega
  generalize ((kK A4 1 n : Nat) : Int) = qa at *
  have hwa := hGa.size
  have l0 := hGa.cell i0 (.inr (by omega))
  have l1 := hGa.cell i1 (.inr (by omega))
  have l2 := hGa.cell i2 (.inr (by omega))
  have m0 := hGa.cell j0 (.inl (by omega))
  have m1 := hGa.cell j1 (.inl (by omega))
  have m2 := hGa.cell j2 (.inl (by omega))
  have hs38 : w3.heap.size ≤ w8.heap.size := by omega
  have HCNa : Hid (CaNew wa Bq a1 NN KL R1) := HCN8.out.mid hGa (by omega)
  have HCWa : Hid (CrW wa Bq hi a1 NN R1) := HCW8.out.mid hGa (by omega)
  have HUa : Hid (UndK w3.heap.size wa a0 NN KL R0) := HU8.out.below (hGa.below hs38)
  have HBa : Hid (Below w1.heap.size w1 wa) := HB8w.out.trans ((hGa.below hs38).mono hs13)
  clear i0 i1 i2 j0 j1 j2 hG hGa HCN8 HCW8 HU8 HB8w HMk HV7 HB8 HO7 HKw7 HK7 HB7 HU7 HCN7 HCW7 hR6 HO5 k0 k1
  go_wp2_with fail
  refine (eqCacheResult_any CO SS _ _ NN _ _ KL _ _ _ HCNa.out.sm HUa.out.is HKL.out).mono ?_
  rintro e wb ⟨rfl, hbb⟩
  have i0 := bl_cell hbb l0
  have i1 := bl_cell hbb l1
  have i2 := bl_cell hbb l2
  have j0 := bl_cell hbb m0
  have j1 := bl_cell hbb m1
  have j2 := bl_cell hbb m2
  have hwb := hbb.size
  have HCWb : Hid (CrW wb Bq hi a1 NN R1) := HCWa.out.below hbb
  have HUb : Hid (UndK w3.heap.size wb a0 NN KL R0) := HUa.out.below (hbb.mono (by omega))
  have HBb : Hid (Below w1.heap.size w1 wb) := bl_then HBa.out hbb
  have HMk := (show Hid _ from markCacheResult_cr CO SS Bq hi a1 NN cap1 R1 wb HCWb.out HR1s.out)
  have hqm : ¬ ((kK R1 1 NN : Nat) : Int) < 0 := by omega
  have Hheld : Hid (∀ w, CrM w Bq hi a1 NN R1 → Calls Tryz.prog 18 #[crcV CO SS (.slice a1 NN cap1), .int .i64 1] w fun e w' => e = .returned (.int .i64 ((kK R1 1 NN : Nat) : Int)) ∧ Below w.heap.size w w') := fun w h => heldCacheResult_cr CO SS Bq hi a1 NN cap1 R1 w h HR1s.out
  generalize ((kK R1 1 NN : Nat) : Int) = qm at *
  clear hbb l0 l1 l2 m0 m1 m2 HCNa HCWa HUa HBa HCWb
  go_wp2_with fail
  refine Calls.mono HMk.out ?_
  rintro e wc ⟨rfl, hcm, hGc⟩
  have hwc := hGc.size
  have l0 := hGc.cell i0 hsd
  have l1 := hGc.cell i1 hsd
  have l2 := hGc.cell i2 hsd
  have m0 := hGc.cell j0 (.inl (by omega))
  have m1 := hGc.cell j1 (.inl (by omega))
  have m2 := hGc.cell j2 (.inl (by omega))
  have HCMc : Hid (CrM wc Bq hi a1 NN R1) := hcm
  have hqb : Bq ≤ wb.heap.size := by omega
  have HUc : Hid (UndK w3.heap.size wc a0 NN KL R0) := HUb.out.below ((hGc.below hqb).mono (by omega))
  have HBc : Hid (Below w1.heap.size w1 wc) := HBb.out.trans ((hGc.below hqb).mono (by omega))
  clear i0 i1 i2 j0 j1 j2 hcm hGc HUb HBb HMk
  go_wp2_with fail
  refine (Hheld.out _ HCMc.out).mono ?_
  rintro e wd ⟨rfl, hbd⟩
  have i0 := bl_cell hbd l0
  have i1 := bl_cell hbd l1
  have i2 := bl_cell hbd l2
  have j0 := bl_cell hbd m0
  have j1 := bl_cell hbd m1
  have j2 := bl_cell hbd m2
  have hwd := hbd.size
  have HCMd : Hid (CrM wd Bq hi a1 NN R1) := HCMc.out.below hbd
  have HUd : Hid (UndK w3.heap.size wd a0 NN KL R0) := HUc.out.below (hbd.mono (by omega))
  have HBd : Hid (Below w1.heap.size w1 wd) := bl_then HBc.out hbd
  have HGd : Hid ((wd.cell? ⟨bv, 0, none⟩ = some (.int .i64 CO) ∧ wd.cell? ⟨bv, 1, none⟩ = some (.int .i64 SS) ∧ wd.cell? ⟨bv, 2, none⟩ = some (.slice a1 NN cap1)) ∧ wd.cell? ⟨bw, 0, none⟩ = some (.int .i64 CO) ∧ wd.cell? ⟨bw, 1, none⟩ = some (.int .i64 SS) ∧ wd.cell? ⟨bw, 2, none⟩ = some (.slice a0 NN cap0)) := ⟨⟨i0, i1, i2⟩, j0, j1, j2⟩
  have hRd := HBd.out
  clear l0 l1 l2 m0 m1 m2 i0 i1 i2 j0 j1 j2 hbd HCMc HUc HBc
  go_wp2_with fail
  go_cut [12] (fun t wx => ∃ (b : Nat) (a' : Option Addr) (c' : Nat) (R : Nat → Kp), t = .pointer (some ⟨b, 0, none⟩) ∧ Below wd.heap.size wd wx ∧ wd.heap.size ≤ b ∧ wx.cell? ⟨b, 0, none⟩ = some (.int .i64 CO) ∧ wx.cell? ⟨b, 1, none⟩ = some (.int .i64 SS) ∧ wx.cell? ⟨b, 2, none⟩ = some (.slice a' NN c') ∧ KsSm wx a' NN KL R)
  case first =>
    have sy0 : ∀ W', Below wd.heap.size wd W' → W'.cell? ⟨w.heap.size, 0, none⟩ = some (.int .i64 s) := fun W' h => y0 W' (bl_then hRd h)
    have sy1 : ∀ W', Below wd.heap.size wd W' → W'.cell? ⟨w.heap.size, 1, none⟩ = some (.slice a n cap) := fun W' h => y1 W' (bl_then hRd h)
    have sz0 : ∀ W', Below wd.heap.size wd W' → W'.cell? ⟨w.heap.size + 1, 0, none⟩ = some (.int .i64 z) := fun W' h => z0 W' (bl_then hRd h)
    have sz1 : ∀ W', Below wd.heap.size wd W' → W'.cell? ⟨w.heap.size + 1, 1, none⟩ = some (.int .i64 x) := fun W' h => z1 W' (bl_then hRd h)
    have sz2 : ∀ W', Below wd.heap.size wd W' → W'.cell? ⟨w.heap.size + 1, 2, none⟩ = some (.int .i64 y) := fun W' h => z2 W' (bl_then hRd h)
    refine wp_region_noPanic ?_
    refine wp_region_held_drew (S := fun W' => Below wd.heap.size wd W') (by kernel_rfl) (by have := Below.refl wd.heap.size wd; (repeat (first | exact Below.refl _ _ | assumption | refine Below.drew ?_ | refine bl_alloc ?_ _ | refine bl_then ?_ (by assumption) | refine Below.setCell ?_ (by first | omega | (simp; done) | (simp; omega)) _ | refine bl_store ?_ ?_ _ _))) (fun hHeld => ?_)
    have hX0 : Below wd.heap.size wd wd.drew := hHeld
    refine takeD (i := 0) (d := some 60) (v := ?vp0) rfl rfl (by kernel_rfl) (by kernel_rfl) (by kernel_rfl) (fun _ _ _ h => h) (Or.inl ⟨by rfl, ?hyp0⟩) (by assumption) ?_
    case hyp0 => (intro w hSw; (try dsimp only at hSw); go_simp <;> with_reducible rfl)
    try simp only [Act.put, List.setIfInBounds_toArray, List.set_cons_zero, List.set_cons_succ]
    refine takeD (i := 2) (d := some 62) (v := ?vp2) rfl rfl (by kernel_rfl) (by kernel_rfl) (by kernel_rfl) (fun _ _ _ h => h) (Or.inl ⟨by rfl, ?hyp2⟩) (by assumption) ?_
    case hyp2 => (intro w hSw; (try dsimp only at hSw); go_simp <;> with_reducible rfl)
    try simp only [Act.put, List.setIfInBounds_toArray, List.set_cons_zero, List.set_cons_succ]
    generalize wd.drew = wk0 at *
    refine wpAnyH_ready (rs := [1, 5]) (by kernel_rfl) (by simp) ?_
    refine (AllReadyH.cons rfl (fun K hK => ?_) (AllReadyH.cons rfl (fun K hK => ?_) AllReadyH.nil))
    · rw [if_pos (by rfl)]
      go_simp
      refine Calls.mono (HTo.out _ (bl_then hRd hX0)) ?_
      rintro e wp24 ⟨bq24, Aq24, rfl, hge24, hq24, _, hb24⟩
      have hXp24 : Below wd.heap.size wd wp24 := bl_then hX0 hb24
      go_wp2_with fail
      refine hK.out _ _ hXp24 (fun hHeld => ?_)
      clear hK K
      try simp only [Act.put, List.setIfInBounds_toArray, List.set_cons_zero, List.set_cons_succ]
      refine wpAnyH_ready (rs := [3, 5]) (by kernel_rfl) (by simp) ?_
      refine (AllReadyH.cons rfl (fun K hK => ?_) (AllReadyH.cons rfl (fun K hK => ?_) AllReadyH.nil))
      · rw [if_pos (by rfl)]
        go_simp
        refine Calls.mono (toRef_any z x y _) ?_
        rintro e wp25 ⟨rfl, hb25⟩
        have hq25 := hq24.below hb25
        have hXp25 : Below wd.heap.size wd wp25 := bl_then hXp24 hb25
        go_wp2_with fail
        refine hK.out _ _ hXp25 (fun hHeld => ?_)
        clear hK K
        try simp only [Act.put, List.setIfInBounds_toArray, List.set_cons_zero, List.set_cons_succ]
        refine wpAnyH_ready (rs := [4, 5]) (by kernel_rfl) (by simp) ?_
        refine (AllReadyH.cons rfl (fun K hK => ?_) (AllReadyH.cons rfl (fun K hK => ?_) AllReadyH.nil))
        · rw [if_pos (by rfl)]
          go_simp
          refine Calls.mono (Him.out _ _ _ _ hq25) ?_
          rintro e wp26 ⟨ar, cr, Rr, rfl, hA26, hb26⟩
          have hXp26 : Below wd.heap.size wd wp26 := bl_then hXp25 hb26
          go_wp2_with fail
          refine hK.out _ _ hXp26 (fun hHeld => ?_)
          clear hK K
          try simp only [Act.put, List.setIfInBounds_toArray, List.set_cons_zero, List.set_cons_succ]
          refine wpAnyH_ready (rs := [5]) (by kernel_rfl) (by simp) ?_
          refine (AllReadyH.cons rfl (fun K hK => ?_) AllReadyH.nil)
          rw [if_pos (by rfl)]
          go_simp
          generalize hwA : (World.alloc _ _ : World) = wp27
          have hb27 : Below wp26.heap.size wp26 wp27 := by subst hwA; (repeat (first | exact Below.refl _ _ | assumption | refine Below.drew ?_ | refine bl_alloc ?_ _ | refine bl_then ?_ (by assumption) | refine Below.setCell ?_ (by first | omega | (simp; done) | (simp; omega)) _ | refine bl_store ?_ ?_ _ _))
          have hT27 : There wp27 wp26.heap.size 3 := by subst hwA; exact there3r wp26 _ _ _ _
          clear hwA
          have hXp27 : Below wd.heap.size wd wp27 := bl_then hXp26 hb27
          have hs27 : wd.heap.size ≤ wp26.heap.size := hXp26.size
          refine hK.out _ _ hXp27 (fun hHeld => ?_)
          clear hK K
          try simp only [Act.put, List.setIfInBounds_toArray, List.set_cons_zero, List.set_cons_succ]
          refine wpAnyH_ready (rs := [6]) (by kernel_rfl) (by simp) ?_
          refine (AllReadyH.cons rfl (fun K hK => ?_) AllReadyH.nil)
          rw [if_pos (by rfl)]
          have t0 := hT27.cell 0 (by omega)
          have f0 := (hT27 0 (by omega)).2
          have t1 := hT27.cell 1 (by omega)
          have f1 := (hT27 1 (by omega)).2
          have t2 := hT27.cell 2 (by omega)
          have f2 := (hT27 2 (by omega)).2
          go_simp
          refine hK.out _ _ (((hXp27.setCell hs27 _).setCell hs27 _).setCell hs27 _) (fun hHeld => ?_)
          clear hK K
          try simp only [Act.put, List.setIfInBounds_toArray, List.set_cons_zero, List.set_cons_succ]
          obtain ⟨q0, q1, q2⟩ := set3_atq (a := .int .i64 CO) (b := .int .i64 SS) (c := .slice ar NN cr) hT27
          have hBf : Below wd.heap.size wd (((wp27.setCell ⟨wp26.heap.size, 0, none⟩ (.int .i64 CO)).setCell ⟨wp26.heap.size, 1, none⟩ (.int .i64 SS)).setCell ⟨wp26.heap.size, 2, none⟩ (.slice ar NN cr)) := ((hXp27.setCell hs27 _).setCell hs27 _).setCell hs27 _
          have hBB : Below wp26.heap.size wp26 (((wp27.setCell ⟨wp26.heap.size, 0, none⟩ (.int .i64 CO)).setCell ⟨wp26.heap.size, 1, none⟩ (.int .i64 SS)).setCell ⟨wp26.heap.size, 2, none⟩ (.slice ar NN cr)) := ((hb27.setCell (Nat.le_refl _) _).setCell (Nat.le_refl _) _).setCell (Nat.le_refl _) _
          refine wpAnyH_done (by kernel_rfl) ?_ _
          refine NoPanic.normal ?_
          go_wp2_with fail
          go_meet
          case rel => exact ⟨_, ar, cr, Rr, rfl, hBf, hs27, q0, q1, q2, (hA26.below hBB).sm⟩
        · rw [if_pos (by rfl)]
          go_simp
          generalize hwA : (World.alloc _ _ : World) = wp28
          have hb28 : Below wp25.heap.size wp25 wp28 := by subst hwA; (repeat (first | exact Below.refl _ _ | assumption | refine Below.drew ?_ | refine bl_alloc ?_ _ | refine bl_then ?_ (by assumption) | refine Below.setCell ?_ (by first | omega | (simp; done) | (simp; omega)) _ | refine bl_store ?_ ?_ _ _))
          have hT28 : There wp28 wp25.heap.size 3 := by subst hwA; exact there3r wp25 _ _ _ _
          clear hwA
          have hXp28 : Below wd.heap.size wd wp28 := bl_then hXp25 hb28
          have hs28 : wd.heap.size ≤ wp25.heap.size := hXp25.size
          have hq28 := hq25.below hb28
          refine hK.out _ _ hXp28 (fun hHeld => ?_)
          clear hK K
          try simp only [Act.put, List.setIfInBounds_toArray, List.set_cons_zero, List.set_cons_succ]
          refine wpAnyH_ready (rs := [4]) (by kernel_rfl) (by simp) ?_
          refine (AllReadyH.cons rfl (fun K hK => ?_) AllReadyH.nil)
          rw [if_pos (by rfl)]
          go_simp
          have hrl29 : wp25.heap.size < wp28.heap.size := World.block_lt_of_cell? _ _ (hT28.cell 0 (by omega))
          refine Calls.mono (Him.out _ _ _ _ hq28) ?_
          rintro e wp29 ⟨ar, cr, Rr, rfl, hA29, hb29⟩
          have hXp29 : Below wd.heap.size wd wp29 := bl_then hXp28 hb29
          have hT29 := There.below hT28 hb29
          go_wp2_with fail
          refine hK.out _ _ hXp29 (fun hHeld => ?_)
          clear hK K
          try simp only [Act.put, List.setIfInBounds_toArray, List.set_cons_zero, List.set_cons_succ]
          refine wpAnyH_ready (rs := [6]) (by kernel_rfl) (by simp) ?_
          refine (AllReadyH.cons rfl (fun K hK => ?_) AllReadyH.nil)
          rw [if_pos (by rfl)]
          have t0 := hT29.cell 0 (by omega)
          have f0 := (hT29 0 (by omega)).2
          have t1 := hT29.cell 1 (by omega)
          have f1 := (hT29 1 (by omega)).2
          have t2 := hT29.cell 2 (by omega)
          have f2 := (hT29 2 (by omega)).2
          go_simp
          refine hK.out _ _ (((hXp29.setCell hs28 _).setCell hs28 _).setCell hs28 _) (fun hHeld => ?_)
          clear hK K
          try simp only [Act.put, List.setIfInBounds_toArray, List.set_cons_zero, List.set_cons_succ]
          obtain ⟨q0, q1, q2⟩ := set3_atq (a := .int .i64 CO) (b := .int .i64 SS) (c := .slice ar NN cr) hT29
          have hBf : Below wd.heap.size wd (((wp29.setCell ⟨wp25.heap.size, 0, none⟩ (.int .i64 CO)).setCell ⟨wp25.heap.size, 1, none⟩ (.int .i64 SS)).setCell ⟨wp25.heap.size, 2, none⟩ (.slice ar NN cr)) := ((hXp29.setCell hs28 _).setCell hs28 _).setCell hs28 _
          have hMM : MidB 0 wp28.heap.size wp29 (((wp29.setCell ⟨wp25.heap.size, 0, none⟩ (.int .i64 CO)).setCell ⟨wp25.heap.size, 1, none⟩ (.int .i64 SS)).setCell ⟨wp25.heap.size, 2, none⟩ (.slice ar NN cr)) := (((MidB.refl _ _ _).set (Nat.zero_le _) hrl29 _ _).set (Nat.zero_le _) hrl29 _ _).set (Nat.zero_le _) hrl29 _ _
          refine wpAnyH_done (by kernel_rfl) ?_ _
          refine NoPanic.normal ?_
          go_wp2_with fail
          go_meet
          case rel => exact ⟨_, ar, cr, Rr, rfl, hBf, hs28, q0, q1, q2, (hA29.mid hMM (Nat.le_refl _)).sm⟩
      · rw [if_pos (by rfl)]
        go_simp
        generalize hwA : (World.alloc _ _ : World) = wp30
        have hb30 : Below wp24.heap.size wp24 wp30 := by subst hwA; (repeat (first | exact Below.refl _ _ | assumption | refine Below.drew ?_ | refine bl_alloc ?_ _ | refine bl_then ?_ (by assumption) | refine Below.setCell ?_ (by first | omega | (simp; done) | (simp; omega)) _ | refine bl_store ?_ ?_ _ _))
        have hT30 : There wp30 wp24.heap.size 3 := by subst hwA; exact there3r wp24 _ _ _ _
        clear hwA
        have hXp30 : Below wd.heap.size wd wp30 := bl_then hXp24 hb30
        have hs30 : wd.heap.size ≤ wp24.heap.size := hXp24.size
        have hq30 := hq24.below hb30
        refine hK.out _ _ hXp30 (fun hHeld => ?_)
        clear hK K
        try simp only [Act.put, List.setIfInBounds_toArray, List.set_cons_zero, List.set_cons_succ]
        refine wpAnyH_ready (rs := [3]) (by kernel_rfl) (by simp) ?_
        refine (AllReadyH.cons rfl (fun K hK => ?_) AllReadyH.nil)
        rw [if_pos (by rfl)]
        go_simp
        refine Calls.mono (toRef_any z x y _) ?_
        rintro e wp31 ⟨rfl, hb31⟩
        have hq31 := hq30.below hb31
        have hXp31 : Below wd.heap.size wd wp31 := bl_then hXp30 hb31
        have hT31 := There.below hT30 hb31
        go_wp2_with fail
        refine hK.out _ _ hXp31 (fun hHeld => ?_)
        clear hK K
        try simp only [Act.put, List.setIfInBounds_toArray, List.set_cons_zero, List.set_cons_succ]
        refine wpAnyH_ready (rs := [4]) (by kernel_rfl) (by simp) ?_
        refine (AllReadyH.cons rfl (fun K hK => ?_) AllReadyH.nil)
        rw [if_pos (by rfl)]
        go_simp
        have hrl32 : wp24.heap.size < wp31.heap.size := World.block_lt_of_cell? _ _ (hT31.cell 0 (by omega))
        refine Calls.mono (Him.out _ _ _ _ hq31) ?_
        rintro e wp32 ⟨ar, cr, Rr, rfl, hA32, hb32⟩
        have hXp32 : Below wd.heap.size wd wp32 := bl_then hXp31 hb32
        have hT32 := There.below hT31 hb32
        go_wp2_with fail
        refine hK.out _ _ hXp32 (fun hHeld => ?_)
        clear hK K
        try simp only [Act.put, List.setIfInBounds_toArray, List.set_cons_zero, List.set_cons_succ]
        refine wpAnyH_ready (rs := [6]) (by kernel_rfl) (by simp) ?_
        refine (AllReadyH.cons rfl (fun K hK => ?_) AllReadyH.nil)
        rw [if_pos (by rfl)]
        have t0 := hT32.cell 0 (by omega)
        have f0 := (hT32 0 (by omega)).2
        have t1 := hT32.cell 1 (by omega)
        have f1 := (hT32 1 (by omega)).2
        have t2 := hT32.cell 2 (by omega)
        have f2 := (hT32 2 (by omega)).2
        go_simp
        refine hK.out _ _ (((hXp32.setCell hs30 _).setCell hs30 _).setCell hs30 _) (fun hHeld => ?_)
        clear hK K
        try simp only [Act.put, List.setIfInBounds_toArray, List.set_cons_zero, List.set_cons_succ]
        obtain ⟨q0, q1, q2⟩ := set3_atq (a := .int .i64 CO) (b := .int .i64 SS) (c := .slice ar NN cr) hT32
        have hBf : Below wd.heap.size wd (((wp32.setCell ⟨wp24.heap.size, 0, none⟩ (.int .i64 CO)).setCell ⟨wp24.heap.size, 1, none⟩ (.int .i64 SS)).setCell ⟨wp24.heap.size, 2, none⟩ (.slice ar NN cr)) := ((hXp32.setCell hs30 _).setCell hs30 _).setCell hs30 _
        have hMM : MidB 0 wp31.heap.size wp32 (((wp32.setCell ⟨wp24.heap.size, 0, none⟩ (.int .i64 CO)).setCell ⟨wp24.heap.size, 1, none⟩ (.int .i64 SS)).setCell ⟨wp24.heap.size, 2, none⟩ (.slice ar NN cr)) := (((MidB.refl _ _ _).set (Nat.zero_le _) hrl32 _ _).set (Nat.zero_le _) hrl32 _ _).set (Nat.zero_le _) hrl32 _ _
        refine wpAnyH_done (by kernel_rfl) ?_ _
        refine NoPanic.normal ?_
        go_wp2_with fail
        go_meet
        case rel => exact ⟨_, ar, cr, Rr, rfl, hBf, hs30, q0, q1, q2, (hA32.mid hMM (Nat.le_refl _)).sm⟩
    · rw [if_pos (by rfl)]
      go_simp
      generalize hwA : (World.alloc _ _ : World) = wp33
      have hb33 : Below wk0.heap.size wk0 wp33 := by subst hwA; (repeat (first | exact Below.refl _ _ | assumption | refine Below.drew ?_ | refine bl_alloc ?_ _ | refine bl_then ?_ (by assumption) | refine Below.setCell ?_ (by first | omega | (simp; done) | (simp; omega)) _ | refine bl_store ?_ ?_ _ _))
      have hT33 : There wp33 wk0.heap.size 3 := by subst hwA; exact there3r wk0 _ _ _ _
      clear hwA
      have hXp33 : Below wd.heap.size wd wp33 := bl_then hX0 hb33
      have hs33 : wd.heap.size ≤ wk0.heap.size := hX0.size
      refine hK.out _ _ hXp33 (fun hHeld => ?_)
      clear hK K
      try simp only [Act.put, List.setIfInBounds_toArray, List.set_cons_zero, List.set_cons_succ]
      refine wpAnyH_ready (rs := [1]) (by kernel_rfl) (by simp) ?_
      refine (AllReadyH.cons rfl (fun K hK => ?_) AllReadyH.nil)
      rw [if_pos (by rfl)]
      go_simp
      refine Calls.mono (HTo.out _ (bl_then hRd hXp33)) ?_
      rintro e wp34 ⟨bq34, Aq34, rfl, hge34, hq34, _, hb34⟩
      have hXp34 : Below wd.heap.size wd wp34 := bl_then hXp33 hb34
      have hT34 := There.below hT33 hb34
      go_wp2_with fail
      refine hK.out _ _ hXp34 (fun hHeld => ?_)
      clear hK K
      try simp only [Act.put, List.setIfInBounds_toArray, List.set_cons_zero, List.set_cons_succ]
      refine wpAnyH_ready (rs := [3]) (by kernel_rfl) (by simp) ?_
      refine (AllReadyH.cons rfl (fun K hK => ?_) AllReadyH.nil)
      rw [if_pos (by rfl)]
      go_simp
      refine Calls.mono (toRef_any z x y _) ?_
      rintro e wp35 ⟨rfl, hb35⟩
      have hq35 := hq34.below hb35
      have hXp35 : Below wd.heap.size wd wp35 := bl_then hXp34 hb35
      have hT35 := There.below hT34 hb35
      go_wp2_with fail
      refine hK.out _ _ hXp35 (fun hHeld => ?_)
      clear hK K
      try simp only [Act.put, List.setIfInBounds_toArray, List.set_cons_zero, List.set_cons_succ]
      refine wpAnyH_ready (rs := [4]) (by kernel_rfl) (by simp) ?_
      refine (AllReadyH.cons rfl (fun K hK => ?_) AllReadyH.nil)
      rw [if_pos (by rfl)]
      go_simp
      have hrl36 : wk0.heap.size < wp35.heap.size := World.block_lt_of_cell? _ _ (hT35.cell 0 (by omega))
      refine Calls.mono (Him.out _ _ _ _ hq35) ?_
      rintro e wp36 ⟨ar, cr, Rr, rfl, hA36, hb36⟩
      have hXp36 : Below wd.heap.size wd wp36 := bl_then hXp35 hb36
      have hT36 := There.below hT35 hb36
      go_wp2_with fail
      refine hK.out _ _ hXp36 (fun hHeld => ?_)
      clear hK K
      try simp only [Act.put, List.setIfInBounds_toArray, List.set_cons_zero, List.set_cons_succ]
      refine wpAnyH_ready (rs := [6]) (by kernel_rfl) (by simp) ?_
      refine (AllReadyH.cons rfl (fun K hK => ?_) AllReadyH.nil)
      rw [if_pos (by rfl)]
      have t0 := hT36.cell 0 (by omega)
      have f0 := (hT36 0 (by omega)).2
      have t1 := hT36.cell 1 (by omega)
      have f1 := (hT36 1 (by omega)).2
      have t2 := hT36.cell 2 (by omega)
      have f2 := (hT36 2 (by omega)).2
      go_simp
      refine hK.out _ _ (((hXp36.setCell hs33 _).setCell hs33 _).setCell hs33 _) (fun hHeld => ?_)
      clear hK K
      try simp only [Act.put, List.setIfInBounds_toArray, List.set_cons_zero, List.set_cons_succ]
      obtain ⟨q0, q1, q2⟩ := set3_atq (a := .int .i64 CO) (b := .int .i64 SS) (c := .slice ar NN cr) hT36
      have hBf : Below wd.heap.size wd (((wp36.setCell ⟨wk0.heap.size, 0, none⟩ (.int .i64 CO)).setCell ⟨wk0.heap.size, 1, none⟩ (.int .i64 SS)).setCell ⟨wk0.heap.size, 2, none⟩ (.slice ar NN cr)) := ((hXp36.setCell hs33 _).setCell hs33 _).setCell hs33 _
      have hMM : MidB 0 wp35.heap.size wp36 (((wp36.setCell ⟨wk0.heap.size, 0, none⟩ (.int .i64 CO)).setCell ⟨wk0.heap.size, 1, none⟩ (.int .i64 SS)).setCell ⟨wk0.heap.size, 2, none⟩ (.slice ar NN cr)) := (((MidB.refl _ _ _).set (Nat.zero_le _) hrl36 _ _).set (Nat.zero_le _) hrl36 _ _).set (Nat.zero_le _) hrl36 _ _
      refine wpAnyH_done (by kernel_rfl) ?_ _
      refine NoPanic.normal ?_
      go_wp2_with fail
      go_meet
      case rel => exact ⟨_, ar, cr, Rr, rfl, hBf, hs33, q0, q1, q2, (hA36.mid hMM (Nat.le_refl _)).sm⟩
  obtain ⟨bz, a2, cap2, R2, rfl, hBy, hbz, g0, g1, g2, hsm⟩ := hcut
  generalize wc = wf at *
  have HSM : Hid (KsSm wf a2 NN KL R2) := hsm
  have l0 := bl_cell hBy HGd.out.1.1
  have l1 := bl_cell hBy HGd.out.1.2.1
  have l2 := bl_cell hBy HGd.out.1.2.2
  have m0 := bl_cell hBy HGd.out.2.1
  have m1 := bl_cell hBy HGd.out.2.2.1
  have m2 := bl_cell hBy HGd.out.2.2.2
  have HCMf : Hid (CrM wf Bq hi a1 NN R1) := HCMd.out.below hBy
  have HUf : Hid (UndK w3.heap.size wf a0 NN KL R0) := HUd.out.below (hBy.mono (by omega))
  have HBf : Hid (Below w1.heap.size w1 wf) := bl_then HBd.out hBy
  clear hBy hsm HGd HCMd HUd HBd hRd
  go_wp2_with fail
  refine (eqCacheResult_any CO SS _ _ NN _ _ KL _ _ _ HSM.out HUf.out.is HKL.out).mono ?_
  rintro e wg ⟨rfl, hbg⟩
  have i0 := bl_cell hbg l0
  have i1 := bl_cell hbg l1
  have i2 := bl_cell hbg l2
  have HCMg : Hid (CrM wg Bq hi a1 NN R1) := HCMf.out.below hbg
  have HBg : Hid (Below w1.heap.size w1 wg) := bl_then HBf.out hbg
  clear hbg l0 l1 l2 m0 m1 m2 g0 g1 g2 HCMf HUf HBf HSM
  go_wp2_with fail
  refine (Hheld.out _ HCMg.out).mono ?_
  rintro e wi ⟨rfl, hbi⟩
  have HBi : Hid (Below w.heap.size w wi) := bl_then HBw.out (bl_then HBg.out hbi)
  clear hbi
  go_wp2
  go_ret
  exact ⟨rfl, HBi.out⟩
end Go.Proofs.YtciidkmonfmipaaGreat
