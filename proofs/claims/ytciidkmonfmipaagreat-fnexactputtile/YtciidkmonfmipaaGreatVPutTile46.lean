/- The law of PutTile returns true at every cache and tile. -/
import Derived.Test.YtciidkmonfmipaaGreatVPutTile45
namespace Go.Proofs.YtciidkmonfmipaaGreat
open Go.RowKit
set_option linter.unusedSimpArgs false
set_option linter.unusedVariables false
set_option maxRecDepth 100000

set_option maxHeartbeats 16000000 in
theorem FnExactPutTile_walk (CO SS : Int) (NN : Nat) (KL : Nat → Kp) (s : Int) (a : Option Addr) (n cap : Nat) (K : Nat → Kp) (z x y : Int) (ta : Option Addr) (fn tc : Nat) (F : Nat → Feat) (w : World) (h : IsKs w a n K ∧ CameKs n K) (ht : IsFs w ta fn F ∧ CameFs fn F) (hkl : SmallKs n K → SmallFs fn F → SmallKs NN KL)
    (hsp : SmallKs n K → SmallFs fn F → ∀ (W : World) (C b D fb : Nat) (A : Nat → Kp) (G : Nat → Feat), OwnKs W C b n K A → OwnFs W D fb fn F G → Calls Tryz.prog 8 #[caV s (.slice (some ⟨b, 0, none⟩) n n), tileV z x y (.slice (some ⟨fb, 0, none⟩) fn fn)] W fun e w' => ∃ a c R, e = .returned (crcV CO SS (.slice a NN c)) ∧ (∀ V, MidB 0 W.heap.size w' V → KsSm V a NN KL R) ∧ Below W.heap.size W w')
    (him : SmallKs n K → SmallFs fn F → ∀ (W : World) (C b D fb : Nat) (A : Nat → Kp) (G : Nat → Feat), OwnKs W C b n K A → OwnFs W D fb fn F G → Calls Tryz.prog 11 #[caV s (.slice (some ⟨b, 0, none⟩) n n), tileV z x y (.slice (some ⟨fb, 0, none⟩) fn fn)] W fun e w' => ∃ a c R, e = .returned (crcV CO SS (.slice a NN c)) ∧ CaNew w' W.heap.size a NN KL R ∧ Below W.heap.size W w') :
    Calls Tryz.prog 3 #[caV s (.slice a n cap), tileV z x y (.slice ta fn tc)] w fun e w' => e = .returned (.bool true) ∧ Below w.heap.size w w' := by
  obtain ⟨hf, hc⟩ := h
  have HI : Hid (IsKs w a n K) := hf
  have HC : Hid (CameKs n K) := hc
  have HTf : Hid (IsFs w ta fn F) := ht.1
  have HTc : Hid (CameFs fn F) := ht.2
  have Hspec := (show Hid _ from hsp)
  have Himpl := (show Hid _ from him)
  have Hkl := (show Hid _ from hkl)
  clear hf hc ht hsp him hkl
  go_enter Tryz.func3, Tryz.ntmps3
  go_wp2_with fail
  generalize hW : ((w.alloc _).alloc _ : World) = W
  have HB0 : Hid (Below w.heap.size w W) := by show Below _ _ _; subst hW; (repeat (first | exact Below.refl _ _ | assumption | refine Below.drew ?_ | refine bl_alloc ?_ _ | refine bl_then ?_ (by assumption) | refine Below.setCell ?_ (by first | omega | (simp; done) | (simp; omega)) _ | refine bl_store ?_ ?_ _ _))
  have HCa : Hid (CaA W w.heap.size s (.slice a n cap)) := by show CaA _ _ _ _; subst hW; exact (CaA.new _ _ _ _).below (by (repeat (first | exact Below.refl _ _ | assumption | refine Below.drew ?_ | refine bl_alloc ?_ _ | refine bl_then ?_ (by assumption) | refine Below.setCell ?_ (by first | omega | (simp; done) | (simp; omega)) _ | refine bl_store ?_ ?_ _ _)))
  have HRk : Hid (CtS W (w.heap.size + 1) z x y (.slice ta fn tc)) := by show CtS _ _ _ _ _ _; subst hW; refine ⟨?_, ?_, ?_, ?_⟩ <;> simp [go_sem]
  clear hW
  refine (szCache_le s a n cap K W (HI.out.below HB0.out) HC.out).mono ?_
  rintro e w0 ⟨rfl | ⟨m, hm, hS, rfl⟩, hb0⟩
  · have HB1 : Hid (Below w.heap.size w w0) := bl_then HB0.out hb0
    clear hb0 Hspec Himpl Hkl
    go_wp2
    go_ret
    exact ⟨rfl, HB1.out⟩
  have HS : Hid (SmallKs n K) := hS
  have hneg : ¬ ((m : Nat) : Int) < 0 := by omega
  have HBw0 : Hid (Below w.heap.size w w0) := bl_then HB0.out hb0
  obtain ⟨d0, d1, d2, d3⟩ := HRk.out.below hb0
  have HRk0 : Hid (CtS w0 (w.heap.size + 1) z x y (.slice ta fn tc)) := ⟨d0, d1, d2, d3⟩
  have HCa0 : Hid (CaA w0 w.heap.size s (.slice a n cap)) := HCa.out.below hb0
  clear hS hb0 HCa HRk
  go_wp2_with fail
  refine (szTile_le z x y ta fn tc m F w0 hm (HTf.out.below HBw0.out) HTc.out).mono ?_
  rintro e w1 ⟨rfl | ⟨m', hm', hSF, rfl⟩, hb1⟩
  · have HB1 : Hid (Below w.heap.size w w1) := bl_then HBw0.out hb1
    clear hb1 Hspec Himpl Hkl HRk0 HCa0
    go_wp2
    go_ret
    exact ⟨rfl, HB1.out⟩
  have HF : Hid (SmallFs fn F) := hSF
  have HKL : Hid (SmallKs NN KL) := Hkl.out HS.out hSF
  have hneg' : ¬ ((m' : Nat) : Int) < 0 := by omega
  have Hsp := (show Hid _ from Hspec.out HS.out hSF)
  have Him := (show Hid _ from Himpl.out HS.out hSF)
  have HBw : Hid (Below w.heap.size w w1) := bl_then HBw0.out hb1
  have HTo : Hid (∀ W', Below w1.heap.size w1 W' → Calls Tryz.prog 9 #[caV s (.slice a n cap)] W' fun e w' => ∃ b A, e = .returned (caV s (.slice (some ⟨b, 0, none⟩) n n)) ∧ W'.heap.size ≤ b ∧ OwnKs w' (b + 1) b n K A ∧ (∃ M, KsW w' b n A M) ∧ Below W'.heap.size W' w') := fun W' h => toCache_own s a n cap K W' (HI.out.below (bl_then HBw.out h)) HS.out
  have HTt : Hid (∀ W', Below w1.heap.size w1 W' → Calls Tryz.prog 10 #[tileV z x y (.slice ta fn tc)] W' fun e w' => ∃ b G, e = .returned (tileV z x y (.slice (some ⟨b, 0, none⟩) fn fn)) ∧ OwnFs w' W'.heap.size b fn F G ∧ (∃ q, OwnQ w' W'.heap.size w'.heap.size b fn (fun i => (F i).n) (fun i => (F i).n) q) ∧ Below W'.heap.size W' w') := fun W' h => toTile_own z x y ta fn tc F W' (HTf.out.below (bl_then HBw.out h)) HF.out.1 (fun i hi => (HF.out.2 i hi).1)
  have y0 : ∀ W', Below w1.heap.size w1 W' → W'.cell? ⟨w.heap.size, 0, none⟩ = some (.int .i64 s) := fun W' h => (HCa0.out.below (bl_then hb1 h)).1
  have y1 : ∀ W', Below w1.heap.size w1 W' → W'.cell? ⟨w.heap.size, 1, none⟩ = some (.slice a n cap) := fun W' h => (HCa0.out.below (bl_then hb1 h)).2
  have z0 : ∀ W', Below w1.heap.size w1 W' → W'.cell? ⟨w.heap.size + 1, 0, none⟩ = some (.int .i64 z) := fun W' h => (HRk0.out.below (bl_then hb1 h)).1
  have z1 : ∀ W', Below w1.heap.size w1 W' → W'.cell? ⟨w.heap.size + 1, 1, none⟩ = some (.int .i64 x) := fun W' h => (HRk0.out.below (bl_then hb1 h)).2.1
  have z2 : ∀ W', Below w1.heap.size w1 W' → W'.cell? ⟨w.heap.size + 1, 2, none⟩ = some (.int .i64 y) := fun W' h => (HRk0.out.below (bl_then hb1 h)).2.2.1
  have z3 : ∀ W', Below w1.heap.size w1 W' → W'.cell? ⟨w.heap.size + 1, 3, none⟩ = some (.slice ta fn tc) := fun W' h => (HRk0.out.below (bl_then hb1 h)).2.2.2
  clear hSF hb1 Hspec Himpl HCa0 HI HC HB0 HRk0 Hkl HTf HTc HBw0 d0 d1 d2 d3
  have hR1 := Below.refl w1.heap.size w1
  go_wp2_with fail
  go_cut [6] (fun t wx => ∃ (b : Nat) (a' : Option Addr) (c' : Nat) (R : Nat → Kp), t = .pointer (some ⟨b, 0, none⟩) ∧ Below w1.heap.size w1 wx ∧ w1.heap.size ≤ b ∧ wx.cell? ⟨b, 0, none⟩ = some (.int .i64 CO) ∧ wx.cell? ⟨b, 1, none⟩ = some (.int .i64 SS) ∧ wx.cell? ⟨b, 2, none⟩ = some (.slice a' NN c') ∧ KsSm wx a' NN KL R)
  case first =>
    have sy0 : ∀ W', Below w1.heap.size w1 W' → W'.cell? ⟨w.heap.size, 0, none⟩ = some (.int .i64 s) := fun W' h => y0 W' (bl_then hR1 h)
    have sy1 : ∀ W', Below w1.heap.size w1 W' → W'.cell? ⟨w.heap.size, 1, none⟩ = some (.slice a n cap) := fun W' h => y1 W' (bl_then hR1 h)
    have sz0 : ∀ W', Below w1.heap.size w1 W' → W'.cell? ⟨w.heap.size + 1, 0, none⟩ = some (.int .i64 z) := fun W' h => z0 W' (bl_then hR1 h)
    have sz1 : ∀ W', Below w1.heap.size w1 W' → W'.cell? ⟨w.heap.size + 1, 1, none⟩ = some (.int .i64 x) := fun W' h => z1 W' (bl_then hR1 h)
    have sz2 : ∀ W', Below w1.heap.size w1 W' → W'.cell? ⟨w.heap.size + 1, 2, none⟩ = some (.int .i64 y) := fun W' h => z2 W' (bl_then hR1 h)
    have sz3 : ∀ W', Below w1.heap.size w1 W' → W'.cell? ⟨w.heap.size + 1, 3, none⟩ = some (.slice ta fn tc) := fun W' h => z3 W' (bl_then hR1 h)
    refine wp_region_noPanic ?_
    refine wp_region_held_drew (S := fun W' => Below w1.heap.size w1 W') (by kernel_rfl) (by have := Below.refl w1.heap.size w1; (repeat (first | exact Below.refl _ _ | assumption | refine Below.drew ?_ | refine bl_alloc ?_ _ | refine bl_then ?_ (by assumption) | refine Below.setCell ?_ (by first | omega | (simp; done) | (simp; omega)) _ | refine bl_store ?_ ?_ _ _))) (fun hHeld => ?_)
    have hX0 : Below w1.heap.size w1 w1.drew := hHeld
    refine takeD (i := 0) (d := some 24) (v := ?vf0) rfl rfl (by kernel_rfl) (by kernel_rfl) (by kernel_rfl) (fun _ _ _ h => h) (Or.inl ⟨by rfl, ?hyf0⟩) (by assumption) ?_
    case hyf0 => (intro w hSw; (try dsimp only at hSw); go_simp <;> with_reducible rfl)
    try simp only [Act.put, List.setIfInBounds_toArray, List.set_cons_zero, List.set_cons_succ]
    refine takeD (i := 2) (d := some 26) (v := ?vf2) rfl rfl (by kernel_rfl) (by kernel_rfl) (by kernel_rfl) (fun _ _ _ h => h) (Or.inl ⟨by rfl, ?hyf2⟩) (by assumption) ?_
    case hyf2 => (intro w hSw; (try dsimp only at hSw); go_simp <;> with_reducible rfl)
    try simp only [Act.put, List.setIfInBounds_toArray, List.set_cons_zero, List.set_cons_succ]
    generalize w1.drew = wk0 at *
    refine wpAnyH_ready (rs := [1, 5]) (by kernel_rfl) (by simp) ?_
    refine (AllReadyH.cons rfl (fun K hK => ?_) (AllReadyH.cons rfl (fun K hK => ?_) AllReadyH.nil))
    · rw [if_pos (by rfl)]
      go_simp
      refine Calls.mono (HTo.out _ (bl_then hR1 hX0)) ?_
      rintro e wf1 ⟨bq1, Aq1, rfl, hge1, hq1, _, hb1⟩
      have hXf1 : Below w1.heap.size w1 wf1 := bl_then hX0 hb1
      go_wp2_with fail
      refine hK.out _ _ hXf1 (fun hHeld => ?_)
      clear hK K
      try simp only [Act.put, List.setIfInBounds_toArray, List.set_cons_zero, List.set_cons_succ]
      refine wpAnyH_ready (rs := [3, 5]) (by kernel_rfl) (by simp) ?_
      refine (AllReadyH.cons rfl (fun K hK => ?_) (AllReadyH.cons rfl (fun K hK => ?_) AllReadyH.nil))
      · rw [if_pos (by rfl)]
        go_simp
        refine Calls.mono (HTt.out _ (bl_then hR1 hXf1)) ?_
        rintro e wf2 ⟨bt2, Gt2, rfl, ht2, _, hb2⟩
        have hq2 := hq1.below hb2
        have hXf2 : Below w1.heap.size w1 wf2 := bl_then hXf1 hb2
        go_wp2_with fail
        refine hK.out _ _ hXf2 (fun hHeld => ?_)
        clear hK K
        try simp only [Act.put, List.setIfInBounds_toArray, List.set_cons_zero, List.set_cons_succ]
        refine wpAnyH_ready (rs := [4, 5]) (by kernel_rfl) (by simp) ?_
        refine (AllReadyH.cons rfl (fun K hK => ?_) (AllReadyH.cons rfl (fun K hK => ?_) AllReadyH.nil))
        · rw [if_pos (by rfl)]
          go_simp
          refine Calls.mono (Hsp.out _ _ _ _ _ _ _ hq2 ht2) ?_
          rintro e wf3 ⟨ar, cr, Rr, rfl, hA3, hb3⟩
          have hXf3 : Below w1.heap.size w1 wf3 := bl_then hXf2 hb3
          go_wp2_with fail
          refine hK.out _ _ hXf3 (fun hHeld => ?_)
          clear hK K
          try simp only [Act.put, List.setIfInBounds_toArray, List.set_cons_zero, List.set_cons_succ]
          refine wpAnyH_ready (rs := [5]) (by kernel_rfl) (by simp) ?_
          refine (AllReadyH.cons rfl (fun K hK => ?_) AllReadyH.nil)
          rw [if_pos (by rfl)]
          go_simp
          generalize hwA : (World.alloc _ _ : World) = wf4
          have hb4 : Below wf3.heap.size wf3 wf4 := by subst hwA; (repeat (first | exact Below.refl _ _ | assumption | refine Below.drew ?_ | refine bl_alloc ?_ _ | refine bl_then ?_ (by assumption) | refine Below.setCell ?_ (by first | omega | (simp; done) | (simp; omega)) _ | refine bl_store ?_ ?_ _ _))
          have hT4 : There wf4 wf3.heap.size 3 := by subst hwA; exact there3r wf3 _ _ _ _
          clear hwA
          have hXf4 : Below w1.heap.size w1 wf4 := bl_then hXf3 hb4
          have hs4 : w1.heap.size ≤ wf3.heap.size := hXf3.size
          refine hK.out _ _ hXf4 (fun hHeld => ?_)
          clear hK K
          try simp only [Act.put, List.setIfInBounds_toArray, List.set_cons_zero, List.set_cons_succ]
          refine wpAnyH_ready (rs := [6]) (by kernel_rfl) (by simp) ?_
          refine (AllReadyH.cons rfl (fun K hK => ?_) AllReadyH.nil)
          rw [if_pos (by rfl)]
          have t0 := hT4.cell 0 (by omega)
          have f0 := (hT4 0 (by omega)).2
          have t1 := hT4.cell 1 (by omega)
          have f1 := (hT4 1 (by omega)).2
          have t2 := hT4.cell 2 (by omega)
          have f2 := (hT4 2 (by omega)).2
          go_simp
          refine hK.out _ _ (((hXf4.setCell hs4 _).setCell hs4 _).setCell hs4 _) (fun hHeld => ?_)
          clear hK K
          try simp only [Act.put, List.setIfInBounds_toArray, List.set_cons_zero, List.set_cons_succ]
          obtain ⟨q0, q1, q2⟩ := set3_atq (a := .int .i64 CO) (b := .int .i64 SS) (c := .slice ar NN cr) hT4
          have hBf : Below w1.heap.size w1 (((wf4.setCell ⟨wf3.heap.size, 0, none⟩ (.int .i64 CO)).setCell ⟨wf3.heap.size, 1, none⟩ (.int .i64 SS)).setCell ⟨wf3.heap.size, 2, none⟩ (.slice ar NN cr)) := ((hXf4.setCell hs4 _).setCell hs4 _).setCell hs4 _
          have hBB : Below wf3.heap.size wf3 (((wf4.setCell ⟨wf3.heap.size, 0, none⟩ (.int .i64 CO)).setCell ⟨wf3.heap.size, 1, none⟩ (.int .i64 SS)).setCell ⟨wf3.heap.size, 2, none⟩ (.slice ar NN cr)) := ((hb4.setCell (Nat.le_refl _) _).setCell (Nat.le_refl _) _).setCell (Nat.le_refl _) _
          refine wpAnyH_done (by kernel_rfl) ?_ _
          refine NoPanic.normal ?_
          go_wp2_with fail
          go_meet
          case rel => exact ⟨_, ar, cr, Rr, rfl, hBf, hs4, q0, q1, q2, (hA3 _ (MidB.refl _ _ _)).below hBB⟩
        · rw [if_pos (by rfl)]
          go_simp
          generalize hwA : (World.alloc _ _ : World) = wf5
          have hb5 : Below wf2.heap.size wf2 wf5 := by subst hwA; (repeat (first | exact Below.refl _ _ | assumption | refine Below.drew ?_ | refine bl_alloc ?_ _ | refine bl_then ?_ (by assumption) | refine Below.setCell ?_ (by first | omega | (simp; done) | (simp; omega)) _ | refine bl_store ?_ ?_ _ _))
          have hT5 : There wf5 wf2.heap.size 3 := by subst hwA; exact there3r wf2 _ _ _ _
          clear hwA
          have hXf5 : Below w1.heap.size w1 wf5 := bl_then hXf2 hb5
          have hs5 : w1.heap.size ≤ wf2.heap.size := hXf2.size
          have hq5 := hq2.below hb5
          have ht5 := ht2.below hb5
          refine hK.out _ _ hXf5 (fun hHeld => ?_)
          clear hK K
          try simp only [Act.put, List.setIfInBounds_toArray, List.set_cons_zero, List.set_cons_succ]
          refine wpAnyH_ready (rs := [4]) (by kernel_rfl) (by simp) ?_
          refine (AllReadyH.cons rfl (fun K hK => ?_) AllReadyH.nil)
          rw [if_pos (by rfl)]
          go_simp
          have hrl6 : wf2.heap.size < wf5.heap.size := World.block_lt_of_cell? _ _ (hT5.cell 0 (by omega))
          refine Calls.mono (Hsp.out _ _ _ _ _ _ _ hq5 ht5) ?_
          rintro e wf6 ⟨ar, cr, Rr, rfl, hA6, hb6⟩
          have hXf6 : Below w1.heap.size w1 wf6 := bl_then hXf5 hb6
          have hT6 := There.below hT5 hb6
          go_wp2_with fail
          refine hK.out _ _ hXf6 (fun hHeld => ?_)
          clear hK K
          try simp only [Act.put, List.setIfInBounds_toArray, List.set_cons_zero, List.set_cons_succ]
          refine wpAnyH_ready (rs := [6]) (by kernel_rfl) (by simp) ?_
          refine (AllReadyH.cons rfl (fun K hK => ?_) AllReadyH.nil)
          rw [if_pos (by rfl)]
          have t0 := hT6.cell 0 (by omega)
          have f0 := (hT6 0 (by omega)).2
          have t1 := hT6.cell 1 (by omega)
          have f1 := (hT6 1 (by omega)).2
          have t2 := hT6.cell 2 (by omega)
          have f2 := (hT6 2 (by omega)).2
          go_simp
          refine hK.out _ _ (((hXf6.setCell hs5 _).setCell hs5 _).setCell hs5 _) (fun hHeld => ?_)
          clear hK K
          try simp only [Act.put, List.setIfInBounds_toArray, List.set_cons_zero, List.set_cons_succ]
          obtain ⟨q0, q1, q2⟩ := set3_atq (a := .int .i64 CO) (b := .int .i64 SS) (c := .slice ar NN cr) hT6
          have hBf : Below w1.heap.size w1 (((wf6.setCell ⟨wf2.heap.size, 0, none⟩ (.int .i64 CO)).setCell ⟨wf2.heap.size, 1, none⟩ (.int .i64 SS)).setCell ⟨wf2.heap.size, 2, none⟩ (.slice ar NN cr)) := ((hXf6.setCell hs5 _).setCell hs5 _).setCell hs5 _
          have hMM : MidB 0 wf5.heap.size wf6 (((wf6.setCell ⟨wf2.heap.size, 0, none⟩ (.int .i64 CO)).setCell ⟨wf2.heap.size, 1, none⟩ (.int .i64 SS)).setCell ⟨wf2.heap.size, 2, none⟩ (.slice ar NN cr)) := (((MidB.refl _ _ _).set (Nat.zero_le _) hrl6 _ _).set (Nat.zero_le _) hrl6 _ _).set (Nat.zero_le _) hrl6 _ _
          refine wpAnyH_done (by kernel_rfl) ?_ _
          refine NoPanic.normal ?_
          go_wp2_with fail
          go_meet
          case rel => exact ⟨_, ar, cr, Rr, rfl, hBf, hs5, q0, q1, q2, hA6 _ hMM⟩
      · rw [if_pos (by rfl)]
        go_simp
        generalize hwA : (World.alloc _ _ : World) = wf7
        have hb7 : Below wf1.heap.size wf1 wf7 := by subst hwA; (repeat (first | exact Below.refl _ _ | assumption | refine Below.drew ?_ | refine bl_alloc ?_ _ | refine bl_then ?_ (by assumption) | refine Below.setCell ?_ (by first | omega | (simp; done) | (simp; omega)) _ | refine bl_store ?_ ?_ _ _))
        have hT7 : There wf7 wf1.heap.size 3 := by subst hwA; exact there3r wf1 _ _ _ _
        clear hwA
        have hXf7 : Below w1.heap.size w1 wf7 := bl_then hXf1 hb7
        have hs7 : w1.heap.size ≤ wf1.heap.size := hXf1.size
        have hq7 := hq1.below hb7
        refine hK.out _ _ hXf7 (fun hHeld => ?_)
        clear hK K
        try simp only [Act.put, List.setIfInBounds_toArray, List.set_cons_zero, List.set_cons_succ]
        refine wpAnyH_ready (rs := [3]) (by kernel_rfl) (by simp) ?_
        refine (AllReadyH.cons rfl (fun K hK => ?_) AllReadyH.nil)
        rw [if_pos (by rfl)]
        go_simp
        refine Calls.mono (HTt.out _ (bl_then hR1 hXf7)) ?_
        rintro e wf8 ⟨bt8, Gt8, rfl, ht8, _, hb8⟩
        have hq8 := hq7.below hb8
        have hXf8 : Below w1.heap.size w1 wf8 := bl_then hXf7 hb8
        have hT8 := There.below hT7 hb8
        go_wp2_with fail
        refine hK.out _ _ hXf8 (fun hHeld => ?_)
        clear hK K
        try simp only [Act.put, List.setIfInBounds_toArray, List.set_cons_zero, List.set_cons_succ]
        refine wpAnyH_ready (rs := [4]) (by kernel_rfl) (by simp) ?_
        refine (AllReadyH.cons rfl (fun K hK => ?_) AllReadyH.nil)
        rw [if_pos (by rfl)]
        go_simp
        have hrl9 : wf1.heap.size < wf8.heap.size := World.block_lt_of_cell? _ _ (hT8.cell 0 (by omega))
        refine Calls.mono (Hsp.out _ _ _ _ _ _ _ hq8 ht8) ?_
        rintro e wf9 ⟨ar, cr, Rr, rfl, hA9, hb9⟩
        have hXf9 : Below w1.heap.size w1 wf9 := bl_then hXf8 hb9
        have hT9 := There.below hT8 hb9
        go_wp2_with fail
        refine hK.out _ _ hXf9 (fun hHeld => ?_)
        clear hK K
        try simp only [Act.put, List.setIfInBounds_toArray, List.set_cons_zero, List.set_cons_succ]
        refine wpAnyH_ready (rs := [6]) (by kernel_rfl) (by simp) ?_
        refine (AllReadyH.cons rfl (fun K hK => ?_) AllReadyH.nil)
        rw [if_pos (by rfl)]
        have t0 := hT9.cell 0 (by omega)
        have f0 := (hT9 0 (by omega)).2
        have t1 := hT9.cell 1 (by omega)
        have f1 := (hT9 1 (by omega)).2
        have t2 := hT9.cell 2 (by omega)
        have f2 := (hT9 2 (by omega)).2
        go_simp
        refine hK.out _ _ (((hXf9.setCell hs7 _).setCell hs7 _).setCell hs7 _) (fun hHeld => ?_)
        clear hK K
        try simp only [Act.put, List.setIfInBounds_toArray, List.set_cons_zero, List.set_cons_succ]
        obtain ⟨q0, q1, q2⟩ := set3_atq (a := .int .i64 CO) (b := .int .i64 SS) (c := .slice ar NN cr) hT9
        have hBf : Below w1.heap.size w1 (((wf9.setCell ⟨wf1.heap.size, 0, none⟩ (.int .i64 CO)).setCell ⟨wf1.heap.size, 1, none⟩ (.int .i64 SS)).setCell ⟨wf1.heap.size, 2, none⟩ (.slice ar NN cr)) := ((hXf9.setCell hs7 _).setCell hs7 _).setCell hs7 _
        have hMM : MidB 0 wf8.heap.size wf9 (((wf9.setCell ⟨wf1.heap.size, 0, none⟩ (.int .i64 CO)).setCell ⟨wf1.heap.size, 1, none⟩ (.int .i64 SS)).setCell ⟨wf1.heap.size, 2, none⟩ (.slice ar NN cr)) := (((MidB.refl _ _ _).set (Nat.zero_le _) hrl9 _ _).set (Nat.zero_le _) hrl9 _ _).set (Nat.zero_le _) hrl9 _ _
        refine wpAnyH_done (by kernel_rfl) ?_ _
        refine NoPanic.normal ?_
        go_wp2_with fail
        go_meet
        case rel => exact ⟨_, ar, cr, Rr, rfl, hBf, hs7, q0, q1, q2, hA9 _ hMM⟩
    · rw [if_pos (by rfl)]
      go_simp
      generalize hwA : (World.alloc _ _ : World) = wf10
      have hb10 : Below wk0.heap.size wk0 wf10 := by subst hwA; (repeat (first | exact Below.refl _ _ | assumption | refine Below.drew ?_ | refine bl_alloc ?_ _ | refine bl_then ?_ (by assumption) | refine Below.setCell ?_ (by first | omega | (simp; done) | (simp; omega)) _ | refine bl_store ?_ ?_ _ _))
      have hT10 : There wf10 wk0.heap.size 3 := by subst hwA; exact there3r wk0 _ _ _ _
      clear hwA
      have hXf10 : Below w1.heap.size w1 wf10 := bl_then hX0 hb10
      have hs10 : w1.heap.size ≤ wk0.heap.size := hX0.size
      refine hK.out _ _ hXf10 (fun hHeld => ?_)
      clear hK K
      try simp only [Act.put, List.setIfInBounds_toArray, List.set_cons_zero, List.set_cons_succ]
      refine wpAnyH_ready (rs := [1]) (by kernel_rfl) (by simp) ?_
      refine (AllReadyH.cons rfl (fun K hK => ?_) AllReadyH.nil)
      rw [if_pos (by rfl)]
      go_simp
      refine Calls.mono (HTo.out _ (bl_then hR1 hXf10)) ?_
      rintro e wf11 ⟨bq11, Aq11, rfl, hge11, hq11, _, hb11⟩
      have hXf11 : Below w1.heap.size w1 wf11 := bl_then hXf10 hb11
      have hT11 := There.below hT10 hb11
      go_wp2_with fail
      refine hK.out _ _ hXf11 (fun hHeld => ?_)
      clear hK K
      try simp only [Act.put, List.setIfInBounds_toArray, List.set_cons_zero, List.set_cons_succ]
      refine wpAnyH_ready (rs := [3]) (by kernel_rfl) (by simp) ?_
      refine (AllReadyH.cons rfl (fun K hK => ?_) AllReadyH.nil)
      rw [if_pos (by rfl)]
      go_simp
      refine Calls.mono (HTt.out _ (bl_then hR1 hXf11)) ?_
      rintro e wf12 ⟨bt12, Gt12, rfl, ht12, _, hb12⟩
      have hq12 := hq11.below hb12
      have hXf12 : Below w1.heap.size w1 wf12 := bl_then hXf11 hb12
      have hT12 := There.below hT11 hb12
      go_wp2_with fail
      refine hK.out _ _ hXf12 (fun hHeld => ?_)
      clear hK K
      try simp only [Act.put, List.setIfInBounds_toArray, List.set_cons_zero, List.set_cons_succ]
      refine wpAnyH_ready (rs := [4]) (by kernel_rfl) (by simp) ?_
      refine (AllReadyH.cons rfl (fun K hK => ?_) AllReadyH.nil)
      rw [if_pos (by rfl)]
      go_simp
      have hrl13 : wk0.heap.size < wf12.heap.size := World.block_lt_of_cell? _ _ (hT12.cell 0 (by omega))
      refine Calls.mono (Hsp.out _ _ _ _ _ _ _ hq12 ht12) ?_
      rintro e wf13 ⟨ar, cr, Rr, rfl, hA13, hb13⟩
      have hXf13 : Below w1.heap.size w1 wf13 := bl_then hXf12 hb13
      have hT13 := There.below hT12 hb13
      go_wp2_with fail
      refine hK.out _ _ hXf13 (fun hHeld => ?_)
      clear hK K
      try simp only [Act.put, List.setIfInBounds_toArray, List.set_cons_zero, List.set_cons_succ]
      refine wpAnyH_ready (rs := [6]) (by kernel_rfl) (by simp) ?_
      refine (AllReadyH.cons rfl (fun K hK => ?_) AllReadyH.nil)
      rw [if_pos (by rfl)]
      have t0 := hT13.cell 0 (by omega)
      have f0 := (hT13 0 (by omega)).2
      have t1 := hT13.cell 1 (by omega)
      have f1 := (hT13 1 (by omega)).2
      have t2 := hT13.cell 2 (by omega)
      have f2 := (hT13 2 (by omega)).2
      go_simp
      refine hK.out _ _ (((hXf13.setCell hs10 _).setCell hs10 _).setCell hs10 _) (fun hHeld => ?_)
      clear hK K
      try simp only [Act.put, List.setIfInBounds_toArray, List.set_cons_zero, List.set_cons_succ]
      obtain ⟨q0, q1, q2⟩ := set3_atq (a := .int .i64 CO) (b := .int .i64 SS) (c := .slice ar NN cr) hT13
      have hBf : Below w1.heap.size w1 (((wf13.setCell ⟨wk0.heap.size, 0, none⟩ (.int .i64 CO)).setCell ⟨wk0.heap.size, 1, none⟩ (.int .i64 SS)).setCell ⟨wk0.heap.size, 2, none⟩ (.slice ar NN cr)) := ((hXf13.setCell hs10 _).setCell hs10 _).setCell hs10 _
      have hMM : MidB 0 wf12.heap.size wf13 (((wf13.setCell ⟨wk0.heap.size, 0, none⟩ (.int .i64 CO)).setCell ⟨wk0.heap.size, 1, none⟩ (.int .i64 SS)).setCell ⟨wk0.heap.size, 2, none⟩ (.slice ar NN cr)) := (((MidB.refl _ _ _).set (Nat.zero_le _) hrl13 _ _).set (Nat.zero_le _) hrl13 _ _).set (Nat.zero_le _) hrl13 _ _
      refine wpAnyH_done (by kernel_rfl) ?_ _
      refine NoPanic.normal ?_
      go_wp2_with fail
      go_meet
      case rel => exact ⟨_, ar, cr, Rr, rfl, hBf, hs10, q0, q1, q2, hA13 _ hMM⟩
  obtain ⟨bw, a0, cap0, R0, rfl, hBy, hbx, g0, g1, g2, hsm⟩ := hcut
  generalize wc = w3 at *
  have HB3 : Hid (Below w1.heap.size w1 w3) := hBy
  have hs13 := hBy.size
  have hbw3 : bw < w3.heap.size := World.block_lt_of_cell? _ _ g0
  have HU3 : Hid (UndK w3.heap.size w3 a0 NN KL R0) := ⟨w3, rfl, hsm, Below.refl _ _⟩
  clear hBy hR1 hsm
  have cy0 := y0 w3 HB3.out
  have cy1 := y1 w3 HB3.out
  have cz0 := z0 w3 HB3.out
  have cz1 := z1 w3 HB3.out
  have cz2 := z2 w3 HB3.out
  have cz3 := z3 w3 HB3.out
  go_wp2_with fail
  refine Calls.mono (HTo.out _ HB3.out) ?_
  rintro e w4 ⟨b4, A4, rfl, hle4, hO4, ⟨M4, hK4⟩, hb4⟩
  have HO4 : Hid (OwnKs w4 (b4 + 1) b4 n K A4) := hO4
  have HK4 : Hid (KsW w4 b4 n A4 M4 ∧ M4 n ≤ w4.heap.size) := ⟨hK4, hK4.2.2.2⟩
  have HB4 : Hid (Below w1.heap.size w1 w4) := bl_then HB3.out hb4
  have HU4 : Hid (UndK w3.heap.size w4 a0 NN KL R0) := HU3.out.below hb4
  have HG4 : Hid (w4.cell? ⟨bw, 0, none⟩ = some (.int .i64 CO) ∧ w4.cell? ⟨bw, 1, none⟩ = some (.int .i64 SS) ∧ w4.cell? ⟨bw, 2, none⟩ = some (.slice a0 NN cap0)) := ⟨(hb4.cell (p := ⟨bw, 0, none⟩) hbw3).trans g0, (hb4.cell (p := ⟨bw, 1, none⟩) hbw3).trans g1, (hb4.cell (p := ⟨bw, 2, none⟩) hbw3).trans g2⟩
  have hbw4 : bw < w4.heap.size := Nat.lt_of_lt_of_le hbw3 hb4.size
  have hw34 := hb4.size
  clear g0 g1 g2 hO4 hK4 hb4 HU3 cy0 cy1 cz0 cz1 cz2 cz3
  obtain ⟨cz0, cz1, cz2, cz3⟩ : (∀ o, (w4.alloc o).cell? ⟨w.heap.size + 1, 0, none⟩ = some (.int .i64 z)) ∧ (∀ o, (w4.alloc o).cell? ⟨w.heap.size + 1, 1, none⟩ = some (.int .i64 x)) ∧ (∀ o, (w4.alloc o).cell? ⟨w.heap.size + 1, 2, none⟩ = some (.int .i64 y)) ∧ (∀ o, (w4.alloc o).cell? ⟨w.heap.size + 1, 3, none⟩ = some (.slice ta fn tc)) :=
    ⟨fun o => z0 _ (bl_then HB4.out (by (repeat (first | exact Below.refl _ _ | assumption | refine Below.drew ?_ | refine bl_alloc ?_ _ | refine bl_then ?_ (by assumption) | refine Below.setCell ?_ (by first | omega | (simp; done) | (simp; omega)) _ | refine bl_store ?_ ?_ _ _)))), fun o => z1 _ (bl_then HB4.out (by (repeat (first | exact Below.refl _ _ | assumption | refine Below.drew ?_ | refine bl_alloc ?_ _ | refine bl_then ?_ (by assumption) | refine Below.setCell ?_ (by first | omega | (simp; done) | (simp; omega)) _ | refine bl_store ?_ ?_ _ _)))), fun o => z2 _ (bl_then HB4.out (by (repeat (first | exact Below.refl _ _ | assumption | refine Below.drew ?_ | refine bl_alloc ?_ _ | refine bl_then ?_ (by assumption) | refine Below.setCell ?_ (by first | omega | (simp; done) | (simp; omega)) _ | refine bl_store ?_ ?_ _ _)))), fun o => z3 _ (bl_then HB4.out (by (repeat (first | exact Below.refl _ _ | assumption | refine Below.drew ?_ | refine bl_alloc ?_ _ | refine bl_then ?_ (by assumption) | refine Below.setCell ?_ (by first | omega | (simp; done) | (simp; omega)) _ | refine bl_store ?_ ?_ _ _))))⟩
  go_wp2_with fail
  generalize hwA : (w4.alloc _ : World) = w5
  have hb5 : Below w4.heap.size w4 w5 := by subst hwA; (repeat (first | exact Below.refl _ _ | assumption | refine Below.drew ?_ | refine bl_alloc ?_ _ | refine bl_then ?_ (by assumption) | refine Below.setCell ?_ (by first | omega | (simp; done) | (simp; omega)) _ | refine bl_store ?_ ?_ _ _))
  have k0 : w5.cell? ⟨w4.heap.size, 0, none⟩ = some (.int .i64 s) := by subst hwA; simp [go_sem]
  have k1 : w5.cell? ⟨w4.heap.size, 1, none⟩ = some (.slice (some ⟨b4, 0, none⟩) n n) := by subst hwA; simp [go_sem]
  clear hwA cz0 cz1 cz2 cz3
  have HO5 : Hid (OwnKs w5 (b4 + 1) b4 n K A4) := HO4.out.below hb5
  have HKw : Hid (KsW w5 b4 n A4 M4 ∧ M4 n ≤ w4.heap.size) := ⟨HK4.out.1.below hb5, HK4.out.2⟩
  have HB5 : Hid (Below w1.heap.size w1 w5) := bl_then HB4.out hb5
  have HU5 : Hid (UndK w3.heap.size w5 a0 NN KL R0) := HU4.out.below (hb5.mono hw34)
  have hxl : w4.heap.size < w5.heap.size := World.block_lt_of_cell? _ _ k0
  have HG5 : Hid (w5.cell? ⟨bw, 0, none⟩ = some (.int .i64 CO) ∧ w5.cell? ⟨bw, 1, none⟩ = some (.int .i64 SS) ∧ w5.cell? ⟨bw, 2, none⟩ = some (.slice a0 NN cap0)) := ⟨(hb5.cell (p := ⟨bw, 0, none⟩) hbw4).trans HG4.out.1, (hb5.cell (p := ⟨bw, 1, none⟩) hbw4).trans HG4.out.2.1, (hb5.cell (p := ⟨bw, 2, none⟩) hbw4).trans HG4.out.2.2⟩
  have hbw5 : bw < w5.heap.size := Nat.lt_of_lt_of_le hbw4 hb5.size
  clear HG4 hbw4 HU4 HK4
  obtain ⟨bx, hbxe⟩ : ∃ bx, w4.heap.size = bx := ⟨_, rfl⟩
  rw [hbxe] at k0 k1 hxl HKw hw34
  rw [hbxe]
  have HK5 : Hid (w5.cell? ⟨bx, 0, none⟩ = some (.int .i64 s) ∧ w5.cell? ⟨bx, 1, none⟩ = some (.slice (some ⟨b4, 0, none⟩) n n)) := ⟨k0, k1⟩
  have hxw5 : bx < w5.heap.size := hxl
  clear hb5 HO4 HB4 HB3 k0 k1 hxl hbxe
  refine Calls.mono (HTt.out _ HB5.out) ?_
  rintro e w6 ⟨bt, Gt, rfl, hOt, ⟨qt, hQt⟩, hb6⟩
  have HOt6 : Hid (OwnFs w6 w5.heap.size bt fn F Gt) := hOt
  have HQt6 : Hid (OwnQ w6 w5.heap.size w6.heap.size bt fn (fun i => (F i).n) (fun i => (F i).n) qt) := hQt
  have HB6 : Hid (Below w1.heap.size w1 w6) := bl_then HB5.out hb6
  have HO6 : Hid (OwnKs w6 (b4 + 1) b4 n K A4) := HO5.out.below hb6
  have HKw6 : Hid (KsW w6 b4 n A4 M4 ∧ M4 n ≤ bx) := ⟨HKw.out.1.below hb6, HKw.out.2⟩
  have hs56 := hb6.size
  have HU6 : Hid (UndK w3.heap.size w6 a0 NN KL R0) := HU5.out.below (hb6.mono (by omega))
  have HK6 : Hid (w6.cell? ⟨bx, 0, none⟩ = some (.int .i64 s) ∧ w6.cell? ⟨bx, 1, none⟩ = some (.slice (some ⟨b4, 0, none⟩) n n)) := ⟨(hb6.cell (p := ⟨bx, 0, none⟩) hxw5).trans HK5.out.1, (hb6.cell (p := ⟨bx, 1, none⟩) hxw5).trans HK5.out.2⟩
  have HG6 : Hid (w6.cell? ⟨bw, 0, none⟩ = some (.int .i64 CO) ∧ w6.cell? ⟨bw, 1, none⟩ = some (.int .i64 SS) ∧ w6.cell? ⟨bw, 2, none⟩ = some (.slice a0 NN cap0)) := ⟨(hb6.cell (p := ⟨bw, 0, none⟩) hbw5).trans HG5.out.1, (hb6.cell (p := ⟨bw, 1, none⟩) hbw5).trans HG5.out.2.1, (hb6.cell (p := ⟨bw, 2, none⟩) hbw5).trans HG5.out.2.2⟩
  have hbw6 : bw < w6.heap.size := Nat.lt_of_lt_of_le hbw5 hb6.size
  clear hOt hQt hb6 HG5 HK5 HO5 HKw HU5 HB5
  obtain ⟨k0, k1⟩ : (∀ o, (w6.alloc o).cell? ⟨bx, 0, none⟩ = some (.int .i64 s)) ∧ ∀ o, (w6.alloc o).cell? ⟨bx, 1, none⟩ = some (.slice (some ⟨b4, 0, none⟩) n n) := ⟨fun o => ((by (repeat (first | exact Below.refl _ _ | assumption | refine Below.drew ?_ | refine bl_alloc ?_ _ | refine bl_then ?_ (by assumption) | refine Below.setCell ?_ (by first | omega | (simp; done) | (simp; omega)) _ | refine bl_store ?_ ?_ _ _)) : Below w6.heap.size w6 (w6.alloc o)).cell (p := ⟨bx, 0, none⟩) (by show bx < _; omega)).trans HK6.out.1, fun o => ((by (repeat (first | exact Below.refl _ _ | assumption | refine Below.drew ?_ | refine bl_alloc ?_ _ | refine bl_then ?_ (by assumption) | refine Below.setCell ?_ (by first | omega | (simp; done) | (simp; omega)) _ | refine bl_store ?_ ?_ _ _)) : Below w6.heap.size w6 (w6.alloc o)).cell (p := ⟨bx, 1, none⟩) (by show bx < _; omega)).trans HK6.out.2⟩
  go_wp2_with fail
  generalize hwA : (w6.alloc _ : World) = w7
  have hb7 : Below w6.heap.size w6 w7 := by subst hwA; (repeat (first | exact Below.refl _ _ | assumption | refine Below.drew ?_ | refine bl_alloc ?_ _ | refine bl_then ?_ (by assumption) | refine Below.setCell ?_ (by first | omega | (simp; done) | (simp; omega)) _ | refine bl_store ?_ ?_ _ _))
  have HXt : Hid (CtS w7 w6.heap.size z x y (.slice (some ⟨bt, 0, none⟩) fn fn)) := by show CtS _ _ _ _ _ _; subst hwA; refine ⟨?_, ?_, ?_, ?_⟩ <;> simp [go_sem]
  clear hwA k0 k1
  have HOt7 : Hid (OwnFs w7 w5.heap.size bt fn F Gt) := HOt6.out.below hb7
  have HQt7 : Hid (OwnQ w7 w5.heap.size w6.heap.size bt fn (fun i => (F i).n) (fun i => (F i).n) qt) := HQt6.out.below hb7
  have HB7 : Hid (Below w1.heap.size w1 w7) := bl_then HB6.out hb7
  have HO7 : Hid (OwnKs w7 (b4 + 1) b4 n K A4) := HO6.out.below hb7
  have HKw7 : Hid (KsW w7 b4 n A4 M4 ∧ M4 n ≤ bx) := ⟨HKw6.out.1.below hb7, HKw6.out.2⟩
  have hs67 := hb7.size
  have HU7 : Hid (UndK w3.heap.size w7 a0 NN KL R0) := HU6.out.below (hb7.mono (by omega))
  have HK7 : Hid (w7.cell? ⟨bx, 0, none⟩ = some (.int .i64 s) ∧ w7.cell? ⟨bx, 1, none⟩ = some (.slice (some ⟨b4, 0, none⟩) n n)) := ⟨(hb7.cell (p := ⟨bx, 0, none⟩) (by show bx < _; omega)).trans HK6.out.1, (hb7.cell (p := ⟨bx, 1, none⟩) (by show bx < _; omega)).trans HK6.out.2⟩
  have HG7 : Hid (w7.cell? ⟨bw, 0, none⟩ = some (.int .i64 CO) ∧ w7.cell? ⟨bw, 1, none⟩ = some (.int .i64 SS) ∧ w7.cell? ⟨bw, 2, none⟩ = some (.slice a0 NN cap0)) := ⟨(hb7.cell (p := ⟨bw, 0, none⟩) hbw6).trans HG6.out.1, (hb7.cell (p := ⟨bw, 1, none⟩) hbw6).trans HG6.out.2.1, (hb7.cell (p := ⟨bw, 2, none⟩) hbw6).trans HG6.out.2.2⟩
  have hbw7 : bw < w7.heap.size := Nat.lt_of_lt_of_le hbw6 hb7.size
  have htl7 : w6.heap.size < w7.heap.size := World.block_lt_of_cell? _ _ HXt.out.1
  obtain ⟨bz, hbz⟩ : ∃ bz, w6.heap.size = bz := ⟨_, rfl⟩
  rw [hbz] at HXt HQt7 htl7
  rw [hbz]
  have hbz5 : w5.heap.size ≤ bz := by omega
  clear hb7 HOt6 HQt6 HB6 HO6 HKw6 HU6 HK6 HG6 hbw6 hbz hs67 hs56
  refine Calls.mono (Him.out _ _ _ _ _ _ _ HO7.out HOt7.out) ?_
  rintro e w8 ⟨a1, cap1, R1, rfl, hcn, hb8⟩
  have HCN8 : Hid (CaNew w8 w7.heap.size a1 NN KL R1) := hcn
  have HCW8 : Hid (CrW w8 w7.heap.size w8.heap.size a1 NN R1) := hcn.crw
  have HR1s : Hid (SmallKs NN R1) := hcn.small HKL.out
  have HO8 : Hid (OwnKs w8 (b4 + 1) b4 n K A4) := HO7.out.below hb8
  have HKw8 : Hid (KsW w8 b4 n A4 M4 ∧ M4 n ≤ bx) := ⟨HKw7.out.1.below hb8, HKw7.out.2⟩
  have HOt8 : Hid (OwnFs w8 w5.heap.size bt fn F Gt) := HOt7.out.below hb8
  have HQt8 : Hid (OwnQ w8 w5.heap.size bz bt fn (fun i => (F i).n) (fun i => (F i).n) qt) := HQt7.out.below hb8
  have HXt8 : Hid (CtS w8 bz z x y (.slice (some ⟨bt, 0, none⟩) fn fn)) := HXt.out.below hb8
  have HB8 : Hid (Below w1.heap.size w1 w8) := bl_then HB7.out hb8
  have hs78 := hb8.size
  have HU8 : Hid (UndK w3.heap.size w8 a0 NN KL R0) := HU7.out.below (hb8.mono (by omega))
  have HK8 : Hid (w8.cell? ⟨bx, 0, none⟩ = some (.int .i64 s) ∧ w8.cell? ⟨bx, 1, none⟩ = some (.slice (some ⟨b4, 0, none⟩) n n)) := ⟨(hb8.cell (p := ⟨bx, 0, none⟩) (by show bx < _; omega)).trans HK7.out.1, (hb8.cell (p := ⟨bx, 1, none⟩) (by show bx < _; omega)).trans HK7.out.2⟩
  have e0 := (hb8.cell (p := ⟨bw, 0, none⟩) hbw7).trans HG7.out.1
  have e1 := (hb8.cell (p := ⟨bw, 1, none⟩) hbw7).trans HG7.out.2.1
  have e2 := (hb8.cell (p := ⟨bw, 2, none⟩) hbw7).trans HG7.out.2.2
  have HG8 : Hid (w8.cell? ⟨bw, 0, none⟩ = some (.int .i64 CO) ∧ w8.cell? ⟨bw, 1, none⟩ = some (.int .i64 SS) ∧ w8.cell? ⟨bw, 2, none⟩ = some (.slice a0 NN cap0)) := ⟨e0, e1, e2⟩
  have hbw8 : bw < w8.heap.size := Nat.lt_of_lt_of_le hbw7 hb8.size
  clear hcn hb8 HO7 HKw7 HOt7 HQt7 HXt HB7 HU7 HK7 HG7 e0 e1 e2
  obtain ⟨e0, e1, e2⟩ : (∀ o, (w8.alloc o).cell? ⟨bw, 0, none⟩ = some (.int .i64 CO)) ∧ (∀ o, (w8.alloc o).cell? ⟨bw, 1, none⟩ = some (.int .i64 SS)) ∧ ∀ o, (w8.alloc o).cell? ⟨bw, 2, none⟩ = some (.slice a0 NN cap0) := ⟨fun o => ((by (repeat (first | exact Below.refl _ _ | assumption | refine Below.drew ?_ | refine bl_alloc ?_ _ | refine bl_then ?_ (by assumption) | refine Below.setCell ?_ (by first | omega | (simp; done) | (simp; omega)) _ | refine bl_store ?_ ?_ _ _)) : Below w8.heap.size w8 (w8.alloc o)).cell (p := ⟨bw, 0, none⟩) hbw8).trans HG8.out.1, fun o => ((by (repeat (first | exact Below.refl _ _ | assumption | refine Below.drew ?_ | refine bl_alloc ?_ _ | refine bl_then ?_ (by assumption) | refine Below.setCell ?_ (by first | omega | (simp; done) | (simp; omega)) _ | refine bl_store ?_ ?_ _ _)) : Below w8.heap.size w8 (w8.alloc o)).cell (p := ⟨bw, 1, none⟩) hbw8).trans HG8.out.2.1, fun o => ((by (repeat (first | exact Below.refl _ _ | assumption | refine Below.drew ?_ | refine bl_alloc ?_ _ | refine bl_then ?_ (by assumption) | refine Below.setCell ?_ (by first | omega | (simp; done) | (simp; omega)) _ | refine bl_store ?_ ?_ _ _)) : Below w8.heap.size w8 (w8.alloc o)).cell (p := ⟨bw, 2, none⟩) hbw8).trans HG8.out.2.2⟩
  go_wp2_with fail
  generalize hwA : (w8.alloc _ : World) = w9
  have hb9 : Below w8.heap.size w8 w9 := by subst hwA; (repeat (first | exact Below.refl _ _ | assumption | refine Below.drew ?_ | refine bl_alloc ?_ _ | refine bl_then ?_ (by assumption) | refine Below.setCell ?_ (by first | omega | (simp; done) | (simp; omega)) _ | refine bl_store ?_ ?_ _ _))
  have g0 : w9.cell? ⟨w8.heap.size, 0, none⟩ = some (.int .i64 CO) := by subst hwA; simp [go_sem]
  have g1 : w9.cell? ⟨w8.heap.size, 1, none⟩ = some (.int .i64 SS) := by subst hwA; simp [go_sem]
  have g2 : w9.cell? ⟨w8.heap.size, 2, none⟩ = some (.slice a1 NN cap1) := by subst hwA; simp [go_sem]
  clear hwA e0 e1 e2
  have HCN9 : Hid (CaNew w9 w7.heap.size a1 NN KL R1) := HCN8.out.below hb9
  have HCW9 : Hid (CrW w9 w7.heap.size w8.heap.size a1 NN R1) := HCW8.out.below hb9
  have HO9 : Hid (OwnKs w9 (b4 + 1) b4 n K A4) := HO8.out.below hb9
  have HKw9 : Hid (KsW w9 b4 n A4 M4 ∧ M4 n ≤ bx) := ⟨HKw8.out.1.below hb9, HKw8.out.2⟩
  have HOt9 : Hid (OwnFs w9 w5.heap.size bt fn F Gt) := HOt8.out.below hb9
  have HQt9 : Hid (OwnQ w9 w5.heap.size bz bt fn (fun i => (F i).n) (fun i => (F i).n) qt) := HQt8.out.below hb9
  have HXt9 : Hid (CtS w9 bz z x y (.slice (some ⟨bt, 0, none⟩) fn fn)) := HXt8.out.below hb9
  have HB9 : Hid (Below w1.heap.size w1 w9) := bl_then HB8.out hb9
  have hs89 := hb9.size
  have HU9 : Hid (UndK w3.heap.size w9 a0 NN KL R0) := HU8.out.below (hb9.mono (by omega))
  have HK9 : Hid (w9.cell? ⟨bx, 0, none⟩ = some (.int .i64 s) ∧ w9.cell? ⟨bx, 1, none⟩ = some (.slice (some ⟨b4, 0, none⟩) n n)) := ⟨(hb9.cell (p := ⟨bx, 0, none⟩) (by show bx < _; omega)).trans HK8.out.1, (hb9.cell (p := ⟨bx, 1, none⟩) (by show bx < _; omega)).trans HK8.out.2⟩
  obtain ⟨bv, hbv⟩ : ∃ bv, w8.heap.size = bv := ⟨_, rfl⟩
  obtain ⟨Bq, hBqe⟩ : ∃ Bq, w7.heap.size = Bq := ⟨_, rfl⟩
  rw [hbv] at g0 g1 g2 HCW9
  rw [hBqe] at HCN9 HCW9
  rw [hbv]
  have hsd : bv < Bq ∨ bv ≤ bv := .inr (Nat.le_refl _)
  have hBqv : Bq ≤ bv := by omega
  have hbvl : bv < w9.heap.size := World.block_lt_of_cell? _ _ g0
  have hbzq : bz < Bq := by omega
  have hxz : bx < bz := by omega
  have hws3 : w3.heap.size ≤ bx := hw34
  have HV9 : Hid ((w9.cell? ⟨bv, 0, none⟩ = some (.int .i64 CO) ∧ w9.cell? ⟨bv, 1, none⟩ = some (.int .i64 SS) ∧ w9.cell? ⟨bv, 2, none⟩ = some (.slice a1 NN cap1)) ∧ w9.cell? ⟨bw, 0, none⟩ = some (.int .i64 CO) ∧ w9.cell? ⟨bw, 1, none⟩ = some (.int .i64 SS) ∧ w9.cell? ⟨bw, 2, none⟩ = some (.slice a0 NN cap0)) := ⟨⟨g0, g1, g2⟩, (hb9.cell (p := ⟨bw, 0, none⟩) hbw8).trans HG8.out.1, (hb9.cell (p := ⟨bw, 1, none⟩) hbw8).trans HG8.out.2.1, (hb9.cell (p := ⟨bw, 2, none⟩) hbw8).trans HG8.out.2.2⟩
  have e0 := HV9.out.2.1
  have e1 := HV9.out.2.2.1
  have e2 := HV9.out.2.2.2
  clear hb9 HCN8 HCW8 HO8 HKw8 HOt8 HQt8 HXt8 HB8 HU8 HK8 HG8 hbv hBqe hbw5 hbw7 hbw8
  go_wp2_with fail
  refine (eqCacheResult_any CO SS _ _ NN _ _ KL _ _ _ HCN9.out.sm HU9.out.is HKL.out).mono ?_
  rintro e w10 ⟨rfl, hb10⟩
  have HCN10 : Hid (CaNew w10 Bq a1 NN KL R1) := HCN9.out.below hb10
  have HCW10 : Hid (CrW w10 Bq bv a1 NN R1) := HCW9.out.below hb10
  have HO10 : Hid (OwnKs w10 (b4 + 1) b4 n K A4) := HO9.out.below hb10
  have HKw10 : Hid (KsW w10 b4 n A4 M4 ∧ M4 n ≤ bx) := ⟨HKw9.out.1.below hb10, HKw9.out.2⟩
  have HOt10 : Hid (OwnFs w10 w5.heap.size bt fn F Gt) := HOt9.out.below hb10
  have HQt10 : Hid (OwnQ w10 w5.heap.size bz bt fn (fun i => (F i).n) (fun i => (F i).n) qt) := HQt9.out.below hb10
  have HXt10 : Hid (CtS w10 bz z x y (.slice (some ⟨bt, 0, none⟩) fn fn)) := HXt9.out.below hb10
  have HB10 : Hid (Below w1.heap.size w1 w10) := bl_then HB9.out hb10
  have hs910 := hb10.size
  have HU10 : Hid (UndK w3.heap.size w10 a0 NN KL R0) := HU9.out.below (hb10.mono (by omega))
  have HK10 : Hid (w10.cell? ⟨bx, 0, none⟩ = some (.int .i64 s) ∧ w10.cell? ⟨bx, 1, none⟩ = some (.slice (some ⟨b4, 0, none⟩) n n)) := ⟨bl_cell hb10 HK9.out.1, bl_cell hb10 HK9.out.2⟩
  have HV10 : Hid ((w10.cell? ⟨bv, 0, none⟩ = some (.int .i64 CO) ∧ w10.cell? ⟨bv, 1, none⟩ = some (.int .i64 SS) ∧ w10.cell? ⟨bv, 2, none⟩ = some (.slice a1 NN cap1)) ∧ w10.cell? ⟨bw, 0, none⟩ = some (.int .i64 CO) ∧ w10.cell? ⟨bw, 1, none⟩ = some (.int .i64 SS) ∧ w10.cell? ⟨bw, 2, none⟩ = some (.slice a0 NN cap0)) := ⟨⟨bl_cell hb10 HV9.out.1.1, bl_cell hb10 HV9.out.1.2.1, bl_cell hb10 HV9.out.1.2.2⟩, bl_cell hb10 HV9.out.2.1, bl_cell hb10 HV9.out.2.2.1, bl_cell hb10 HV9.out.2.2.2⟩
  have hbvl10 : bv < w10.heap.size := Nat.lt_of_lt_of_le hbvl hs910
  clear hb10 HCN9 HCW9 HO9 HKw9 HOt9 HQt9 HXt9 HB9 HU9 HK9 HV9 g0 g1 g2 e0 e1 e2
  go_wp2_with fail
  have HO5 := HO10
  have x0 : ∀ W', Below w10.heap.size w10 W' → W'.cell? ⟨bx, 0, none⟩ = some (.int .i64 s) := fun W' h => bl_cell h HK10.out.1
  have x1 : ∀ W', Below w10.heap.size w10 W' → W'.cell? ⟨bx, 1, none⟩ = some (.slice (some ⟨b4, 0, none⟩) n n) := fun W' h => bl_cell h HK10.out.2
  have hR6 := HB10.out
  go_cut [44] (fun t wx => t = .bool false ∧ Below w10.heap.size w10 wx)
  case first =>
    have sy0 : ∀ W', Below w10.heap.size w10 W' → W'.cell? ⟨w.heap.size, 0, none⟩ = some (.int .i64 s) := fun W' h => y0 W' (bl_then hR6 h)
    have sy1 : ∀ W', Below w10.heap.size w10 W' → W'.cell? ⟨w.heap.size, 1, none⟩ = some (.slice a n cap) := fun W' h => y1 W' (bl_then hR6 h)
    have sz0 : ∀ W', Below w10.heap.size w10 W' → W'.cell? ⟨w.heap.size + 1, 0, none⟩ = some (.int .i64 z) := fun W' h => z0 W' (bl_then hR6 h)
    have sz1 : ∀ W', Below w10.heap.size w10 W' → W'.cell? ⟨w.heap.size + 1, 1, none⟩ = some (.int .i64 x) := fun W' h => z1 W' (bl_then hR6 h)
    have sz2 : ∀ W', Below w10.heap.size w10 W' → W'.cell? ⟨w.heap.size + 1, 2, none⟩ = some (.int .i64 y) := fun W' h => z2 W' (bl_then hR6 h)
    have sz3 : ∀ W', Below w10.heap.size w10 W' → W'.cell? ⟨w.heap.size + 1, 3, none⟩ = some (.slice ta fn tc) := fun W' h => z3 W' (bl_then hR6 h)
    refine wp_region_noPanic ?_
    refine wp_region_held_drew (S := fun W' => Below w10.heap.size w10 W') (by kernel_rfl) (by have := Below.refl w10.heap.size w10; (repeat (first | exact Below.refl _ _ | assumption | refine Below.drew ?_ | refine bl_alloc ?_ _ | refine bl_then ?_ (by assumption) | refine Below.setCell ?_ (by first | omega | (simp; done) | (simp; omega)) _ | refine bl_store ?_ ?_ _ _))) (fun hHeld => ?_)
    have hX0 : Below w10.heap.size w10 w10.drew := hHeld
    refine takeD (i := 0) (d := some 40) (v := ?vh0) rfl rfl (by kernel_rfl) (by kernel_rfl) (by kernel_rfl) (fun _ _ _ h => h) (Or.inl ⟨by rfl, ?hyh0⟩) (by assumption) ?_
    case hyh0 => (intro w hSw; (try dsimp only at hSw); go_simp <;> with_reducible rfl)
    try simp only [Act.put, List.setIfInBounds_toArray, List.set_cons_zero, List.set_cons_succ]
    refine takeD (i := 1) (d := some 41) (v := ?vh1) rfl rfl (by kernel_rfl) (by kernel_rfl) (by kernel_rfl) (fun _ _ _ h => h) (Or.inl ⟨by rfl, ?hyh1⟩) (by assumption) ?_
    case hyh1 => (intro w hSw; (try dsimp only at hSw); go_simp <;> with_reducible rfl)
    try simp only [Act.put, List.setIfInBounds_toArray, List.set_cons_zero, List.set_cons_succ]
    generalize w10.drew = wk0 at *
    refine wpAnyH_ready (rs := [2]) (by kernel_rfl) (by simp) ?_
    refine (AllReadyH.cons rfl (fun K hK => ?_) AllReadyH.nil)
    rw [if_pos (by rfl)]
    go_simp
    refine Calls.mono (HTo.out _ (bl_then hR6 hX0)) ?_
    rintro e wh14 ⟨bq14, Aq14, rfl, hge14, hq14, _, hb14⟩
    have hXh14 : Below w10.heap.size w10 wh14 := bl_then hX0 hb14
    go_wp2_with fail
    refine hK.out _ _ hXh14 (fun hHeld => ?_)
    clear hK K
    try simp only [Act.put, List.setIfInBounds_toArray, List.set_cons_zero, List.set_cons_succ]
    refine wpAnyH_ready (rs := [3]) (by kernel_rfl) (by simp) ?_
    refine (AllReadyH.cons rfl (fun K hK => ?_) AllReadyH.nil)
    rw [if_pos (by rfl)]
    go_simp
    refine Calls.mono (eqCache_any s _ _ _ _ n _ _ _ _ (HO5.out.below hXh14) hq14 HS.out) ?_
    rintro e wh15 ⟨rfl, hb15⟩
    have hXh15 : Below w10.heap.size w10 wh15 := bl_then hXh14 hb15
    go_wp2_with fail
    refine hK.out _ _ hXh15 (fun hHeld => ?_)
    clear hK K
    try simp only [Act.put, List.setIfInBounds_toArray, List.set_cons_zero, List.set_cons_succ]
    refine takeD (i := 4) (d := some 44) (v := ?vh4) rfl rfl (by kernel_rfl) (by kernel_rfl) (by kernel_rfl) (fun _ _ _ h => h) (Or.inl ⟨by rfl, ?hyh4⟩) (by assumption) ?_
    case hyh4 => (intro w hSw; (try dsimp only at hSw); go_simp <;> with_reducible rfl)
    try simp only [Act.put, List.setIfInBounds_toArray, List.set_cons_zero, List.set_cons_succ]
    refine wpAnyH_done (by kernel_rfl) ?_ _
    refine NoPanic.normal ?_
    go_wp2_with fail
    go_meet
    case rel => exact ⟨rfl, hXh15⟩
  obtain ⟨rfl, hb11⟩ := hcut
  generalize wc = w11 at *
  have HCN11 : Hid (CaNew w11 Bq a1 NN KL R1) := HCN10.out.below hb11
  have HCW11 : Hid (CrW w11 Bq bv a1 NN R1) := HCW10.out.below hb11
  have HKw11 : Hid (KsW w11 b4 n A4 M4 ∧ M4 n ≤ bx) := ⟨HKw10.out.1.below hb11, HKw10.out.2⟩
  have HOt11 : Hid (OwnFs w11 w5.heap.size bt fn F Gt) := HOt10.out.below hb11
  have HQt11 : Hid (OwnQ w11 w5.heap.size bz bt fn (fun i => (F i).n) (fun i => (F i).n) qt) := HQt10.out.below hb11
  have HXt11 : Hid (CtS w11 bz z x y (.slice (some ⟨bt, 0, none⟩) fn fn)) := HXt10.out.below hb11
  have HB11 : Hid (Below w1.heap.size w1 w11) := bl_then HB10.out hb11
  have hs1011 := hb11.size
  have HU11 : Hid (UndK w3.heap.size w11 a0 NN KL R0) := HU10.out.below (hb11.mono (by omega))
  have HK11 : Hid (w11.cell? ⟨bx, 0, none⟩ = some (.int .i64 s) ∧ w11.cell? ⟨bx, 1, none⟩ = some (.slice (some ⟨b4, 0, none⟩) n n)) := ⟨bl_cell hb11 HK10.out.1, bl_cell hb11 HK10.out.2⟩
  have HO11 : Hid (OwnKs w11 (b4 + 1) b4 n K A4) := HO10.out.below hb11
  have HV11 : Hid ((w11.cell? ⟨bv, 0, none⟩ = some (.int .i64 CO) ∧ w11.cell? ⟨bv, 1, none⟩ = some (.int .i64 SS) ∧ w11.cell? ⟨bv, 2, none⟩ = some (.slice a1 NN cap1)) ∧ w11.cell? ⟨bw, 0, none⟩ = some (.int .i64 CO) ∧ w11.cell? ⟨bw, 1, none⟩ = some (.int .i64 SS) ∧ w11.cell? ⟨bw, 2, none⟩ = some (.slice a0 NN cap0)) := ⟨⟨bl_cell hb11 HV10.out.1.1, bl_cell hb11 HV10.out.1.2.1, bl_cell hb11 HV10.out.1.2.2⟩, bl_cell hb11 HV10.out.2.1, bl_cell hb11 HV10.out.2.2.1, bl_cell hb11 HV10.out.2.2.2⟩
  have hbvl11 : bv < w11.heap.size := Nat.lt_of_lt_of_le hbvl10 hs1011
  clear hb11 HCN10 HCW10 HO10 HKw10 HOt10 HQt10 HXt10 HB10 HU10 HK10 HV10 x0 x1 hR6 HO5
  go_wp2_with fail
  have HOt := HOt11
  have x0 : ∀ W', Below w11.heap.size w11 W' → W'.cell? ⟨bz, 0, none⟩ = some (.int .i64 z) := fun W' h => bl_cell h HXt11.out.1
  have x1 : ∀ W', Below w11.heap.size w11 W' → W'.cell? ⟨bz, 1, none⟩ = some (.int .i64 x) := fun W' h => bl_cell h HXt11.out.2.1
  have x2 : ∀ W', Below w11.heap.size w11 W' → W'.cell? ⟨bz, 2, none⟩ = some (.int .i64 y) := fun W' h => bl_cell h HXt11.out.2.2.1
  have x3 : ∀ W', Below w11.heap.size w11 W' → W'.cell? ⟨bz, 3, none⟩ = some (.slice (some ⟨bt, 0, none⟩) fn fn) := fun W' h => bl_cell h HXt11.out.2.2.2
  have hR6 := HB11.out
  go_cut [49] (fun t wx => t = .bool false ∧ Below w11.heap.size w11 wx)
  case first =>
    have sy0 : ∀ W', Below w11.heap.size w11 W' → W'.cell? ⟨w.heap.size, 0, none⟩ = some (.int .i64 s) := fun W' h => y0 W' (bl_then hR6 h)
    have sy1 : ∀ W', Below w11.heap.size w11 W' → W'.cell? ⟨w.heap.size, 1, none⟩ = some (.slice a n cap) := fun W' h => y1 W' (bl_then hR6 h)
    have sz0 : ∀ W', Below w11.heap.size w11 W' → W'.cell? ⟨w.heap.size + 1, 0, none⟩ = some (.int .i64 z) := fun W' h => z0 W' (bl_then hR6 h)
    have sz1 : ∀ W', Below w11.heap.size w11 W' → W'.cell? ⟨w.heap.size + 1, 1, none⟩ = some (.int .i64 x) := fun W' h => z1 W' (bl_then hR6 h)
    have sz2 : ∀ W', Below w11.heap.size w11 W' → W'.cell? ⟨w.heap.size + 1, 2, none⟩ = some (.int .i64 y) := fun W' h => z2 W' (bl_then hR6 h)
    have sz3 : ∀ W', Below w11.heap.size w11 W' → W'.cell? ⟨w.heap.size + 1, 3, none⟩ = some (.slice ta fn tc) := fun W' h => z3 W' (bl_then hR6 h)
    refine wp_region_noPanic ?_
    refine wp_region_held_drew (S := fun W' => Below w11.heap.size w11 W') (by kernel_rfl) (by have := Below.refl w11.heap.size w11; (repeat (first | exact Below.refl _ _ | assumption | refine Below.drew ?_ | refine bl_alloc ?_ _ | refine bl_then ?_ (by assumption) | refine Below.setCell ?_ (by first | omega | (simp; done) | (simp; omega)) _ | refine bl_store ?_ ?_ _ _))) (fun hHeld => ?_)
    have hX0 : Below w11.heap.size w11 w11.drew := hHeld
    refine takeD (i := 0) (d := some 45) (v := ?vj0) rfl rfl (by kernel_rfl) (by kernel_rfl) (by kernel_rfl) (fun _ _ _ h => h) (Or.inl ⟨by rfl, ?hyj0⟩) (by assumption) ?_
    case hyj0 => (intro w hSw; (try dsimp only at hSw); go_simp <;> with_reducible rfl)
    try simp only [Act.put, List.setIfInBounds_toArray, List.set_cons_zero, List.set_cons_succ]
    refine takeD (i := 1) (d := some 46) (v := ?vj1) rfl rfl (by kernel_rfl) (by kernel_rfl) (by kernel_rfl) (fun _ _ _ h => h) (Or.inl ⟨by rfl, ?hyj1⟩) (by assumption) ?_
    case hyj1 => (intro w hSw; (try dsimp only at hSw); go_simp <;> with_reducible rfl)
    try simp only [Act.put, List.setIfInBounds_toArray, List.set_cons_zero, List.set_cons_succ]
    generalize w11.drew = wk0 at *
    refine wpAnyH_ready (rs := [2]) (by kernel_rfl) (by simp) ?_
    refine (AllReadyH.cons rfl (fun K hK => ?_) AllReadyH.nil)
    rw [if_pos (by rfl)]
    go_simp
    refine Calls.mono (HTt.out _ (bl_then hR6 hX0)) ?_
    rintro e wj16 ⟨bt16, Gt16, rfl, ht16, _, hb16⟩
    have hXj16 : Below w11.heap.size w11 wj16 := bl_then hX0 hb16
    go_wp2_with fail
    refine hK.out _ _ hXj16 (fun hHeld => ?_)
    clear hK K
    try simp only [Act.put, List.setIfInBounds_toArray, List.set_cons_zero, List.set_cons_succ]
    refine wpAnyH_ready (rs := [3]) (by kernel_rfl) (by simp) ?_
    refine (AllReadyH.cons rfl (fun K hK => ?_) AllReadyH.nil)
    rw [if_pos (by rfl)]
    go_simp
    refine Calls.mono (eqTile_any z x y _ _ _ _ _ _ _ _ _ (HOt.out.below hXj16) ht16 HF.out) ?_
    rintro e wj17 ⟨rfl, hb17⟩
    have hXj17 : Below w11.heap.size w11 wj17 := bl_then hXj16 hb17
    go_wp2_with fail
    refine hK.out _ _ hXj17 (fun hHeld => ?_)
    clear hK K
    try simp only [Act.put, List.setIfInBounds_toArray, List.set_cons_zero, List.set_cons_succ]
    refine takeD (i := 4) (d := some 49) (v := ?vj4) rfl rfl (by kernel_rfl) (by kernel_rfl) (by kernel_rfl) (fun _ _ _ h => h) (Or.inl ⟨by rfl, ?hyj4⟩) (by assumption) ?_
    case hyj4 => (intro w hSw; (try dsimp only at hSw); go_simp <;> with_reducible rfl)
    try simp only [Act.put, List.setIfInBounds_toArray, List.set_cons_zero, List.set_cons_succ]
    refine wpAnyH_done (by kernel_rfl) ?_ _
    refine NoPanic.normal ?_
    go_wp2_with fail
    go_meet
    case rel => exact ⟨rfl, hXj17⟩
  obtain ⟨rfl, hb12⟩ := hcut
  generalize wc = w8 at *
  have HCN8 : Hid (CaNew w8 Bq a1 NN KL R1) := HCN11.out.below hb12
  have HCW8 : Hid (CrW w8 Bq bv a1 NN R1) := HCW11.out.below hb12
  have hs1112 := hb12.size
  have HU8 : Hid (UndK w3.heap.size w8 a0 NN KL R0) := HU11.out.below (hb12.mono (by omega))
  have HB8w : Hid (Below w1.heap.size w1 w8) := bl_then HB11.out hb12
  have HQt8 : Hid (OwnQ w8 w5.heap.size bz bt fn (fun i => (F i).n) (fun i => (F i).n) qt) := HQt11.out.below hb12
  have HXt8 : Hid (CtS w8 bz z x y (.slice (some ⟨bt, 0, none⟩) fn fn)) := HXt11.out.below hb12
  have k0 := bl_cell hb12 HK11.out.1
  have k1 := bl_cell hb12 HK11.out.2
  have i0 := bl_cell hb12 HV11.out.1.1
  have i1 := bl_cell hb12 HV11.out.1.2.1
  have i2 := bl_cell hb12 HV11.out.1.2.2
  have j0 := bl_cell hb12 HV11.out.2.1
  have j1 := bl_cell hb12 HV11.out.2.2.1
  have j2 := bl_cell hb12 HV11.out.2.2.2
  have hbvl8 : bv < w8.heap.size := Nat.lt_of_lt_of_le hbvl11 hs1112
  have HMk := (show Hid _ from markCacheV_any s b4 n n 1 A4 M4 w8 (HKw11.out.1.below hb12) (HO11.out.small HS.out) (by omega) (by omega))
  have hMb := HKw11.out.2
  have HAs : Hid (SmallKs n A4) := HO11.out.small HS.out
  clear hb12 HCN11 HCW11 HO11 HKw11 HOt11 HQt11 HXt11 HB11 HU11 HK11 HV11 x0 x1 x2 x3 hR6 HOt
  go_wp2_with fail
  refine Calls.mono HMk.out ?_
  rintro e wm ⟨rfl, _, hG⟩
  have hGm : MidB w3.heap.size bx w8 wm := hG.wide hle4 hMb
  have hq24 := kK_small (k0 := 1) HAs.out (by omega) (Nat.le_refl n)
  obtain ⟨qk, hqk⟩ : ∃ qk, kK A4 1 n = qk := ⟨_, rfl⟩
  rw [hqk] at hq24
  rw [hqk]
  have HQtm : Hid (OwnQ wm w5.heap.size bz bt fn (fun i => (F i).n) (fun i => (F i).n) qt) := HQt8.out.away hGm (.inl (by omega))
  have d0 := hGm.cell HXt8.out.1 (.inr (by omega))
  have d1 := hGm.cell HXt8.out.2.1 (.inr (by omega))
  have d2 := hGm.cell HXt8.out.2.2.1 (.inr (by omega))
  have d3 := hGm.cell HXt8.out.2.2.2 (.inr (by omega))
  have HMt := (show Hid _ from markTile_le z x y w5.heap.size bz bt fn fn qk _ _ qt wm HQtm.out HF.out.1 (fun i hi => (HF.out.2 i hi).1) (by omega) (by omega))
  have HGm : Hid (MidB w3.heap.size bx w8 wm) := hGm
  clear hG hGm HMk hqk k0 k1 HXt8 HQt8
  go_wp2_with fail
  refine Calls.mono HMt.out ?_
  rintro e wa ⟨⟨qz, rfl⟩, hGt⟩
  have hGa : MidB w3.heap.size bz w8 wa := (HGm.out.wide (Nat.le_refl _) (by omega)).trans (hGt.wide (by omega) (Nat.le_refl _))
  have hxq : bz < Bq := hbzq
  have hqn : ¬ ((qz : Nat) : Int) < 0 := by omega
  have hwa := hGa.size
  have l0 := hGa.cell i0 (.inr (by omega))
  have l1 := hGa.cell i1 (.inr (by omega))
  have l2 := hGa.cell i2 (.inr (by omega))
  have m0 := hGa.cell j0 (.inl (by omega))
  have m1 := hGa.cell j1 (.inl (by omega))
  have m2 := hGa.cell j2 (.inl (by omega))
  have hs38 : w3.heap.size ≤ w8.heap.size := by omega
  have HCNa : Hid (CaNew wa Bq a1 NN KL R1) := HCN8.out.mid hGa (by omega)
  have HCWa : Hid (CrW wa Bq bv a1 NN R1) := HCW8.out.mid hGa (by omega)
  have HUa : Hid (UndK w3.heap.size wa a0 NN KL R0) := HU8.out.below (hGa.below hs38)
  have HBa : Hid (Below w1.heap.size w1 wa) := HB8w.out.trans ((hGa.below hs38).mono hs13)
  clear i0 i1 i2 j0 j1 j2 hGa hGt HGm HMt HCN8 HCW8 HU8 HB8w HQtm d0 d1 d2 d3
  go_wp2_with fail
  refine (eqCacheResult_any CO SS _ _ NN _ _ KL _ _ _ HCNa.out.sm HUa.out.is HKL.out).mono ?_
  rintro e wb ⟨rfl, hbb⟩
  have i0 := bl_cell hbb l0
  have i1 := bl_cell hbb l1
  have i2 := bl_cell hbb l2
  have j0 := bl_cell hbb m0
  have j1 := bl_cell hbb m1
  have j2 := bl_cell hbb m2
  have hwb := hbb.size
  have HCWb : Hid (CrW wb Bq bv a1 NN R1) := HCWa.out.below hbb
  have HUb : Hid (UndK w3.heap.size wb a0 NN KL R0) := HUa.out.below (hbb.mono (by omega))
  have HBb : Hid (Below w1.heap.size w1 wb) := bl_then HBa.out hbb
  have HMk := (show Hid _ from markCacheResult_cr CO SS Bq bv a1 NN cap1 R1 wb HCWb.out HR1s.out)
  have hqm : ¬ ((kK R1 1 NN : Nat) : Int) < 0 := by omega
  have Hheld : Hid (∀ w, CrM w Bq bv a1 NN R1 → Calls Tryz.prog 18 #[crcV CO SS (.slice a1 NN cap1), .int .i64 1] w fun e w' => e = .returned (.int .i64 ((kK R1 1 NN : Nat) : Int)) ∧ Below w.heap.size w w') := fun w h => heldCacheResult_cr CO SS Bq bv a1 NN cap1 R1 w h HR1s.out
  generalize ((kK R1 1 NN : Nat) : Int) = qm at *
  clear hbb l0 l1 l2 m0 m1 m2 HCNa HCWa HUa HBa HCWb
  go_wp2_with fail
  refine Calls.mono HMk.out ?_
  rintro e wc ⟨rfl, hcm, hGc⟩
  have hwc := hGc.size
  have l0 := hGc.cell i0 hsd
  have l1 := hGc.cell i1 hsd
  have l2 := hGc.cell i2 hsd
  have m0 := hGc.cell j0 (.inl (by omega))
  have m1 := hGc.cell j1 (.inl (by omega))
  have m2 := hGc.cell j2 (.inl (by omega))
  have HCMc : Hid (CrM wc Bq bv a1 NN R1) := hcm
  have hqb : Bq ≤ wb.heap.size := by omega
  have HUc : Hid (UndK w3.heap.size wc a0 NN KL R0) := HUb.out.below ((hGc.below hqb).mono (by omega))
  have HBc : Hid (Below w1.heap.size w1 wc) := HBb.out.trans ((hGc.below hqb).mono (by omega))
  clear i0 i1 i2 j0 j1 j2 hcm hGc HUb HBb HMk
  go_wp2_with fail
  refine (Hheld.out _ HCMc.out).mono ?_
  rintro e wd ⟨rfl, hbd⟩
  have i0 := bl_cell hbd l0
  have i1 := bl_cell hbd l1
  have i2 := bl_cell hbd l2
  have j0 := bl_cell hbd m0
  have j1 := bl_cell hbd m1
  have j2 := bl_cell hbd m2
  have hwd := hbd.size
  have HCMd : Hid (CrM wd Bq bv a1 NN R1) := HCMc.out.below hbd
  have HUd : Hid (UndK w3.heap.size wd a0 NN KL R0) := HUc.out.below (hbd.mono (by omega))
  have HBd : Hid (Below w1.heap.size w1 wd) := bl_then HBc.out hbd
  have HGd : Hid ((wd.cell? ⟨bv, 0, none⟩ = some (.int .i64 CO) ∧ wd.cell? ⟨bv, 1, none⟩ = some (.int .i64 SS) ∧ wd.cell? ⟨bv, 2, none⟩ = some (.slice a1 NN cap1)) ∧ wd.cell? ⟨bw, 0, none⟩ = some (.int .i64 CO) ∧ wd.cell? ⟨bw, 1, none⟩ = some (.int .i64 SS) ∧ wd.cell? ⟨bw, 2, none⟩ = some (.slice a0 NN cap0)) := ⟨⟨i0, i1, i2⟩, j0, j1, j2⟩
  have hRd := HBd.out
  clear l0 l1 l2 m0 m1 m2 i0 i1 i2 j0 j1 j2 hbd HCMc HUc HBc
  go_wp2_with fail
  go_cut [13] (fun t wx => ∃ (b : Nat) (a' : Option Addr) (c' : Nat) (R : Nat → Kp), t = .pointer (some ⟨b, 0, none⟩) ∧ Below wd.heap.size wd wx ∧ wd.heap.size ≤ b ∧ wx.cell? ⟨b, 0, none⟩ = some (.int .i64 CO) ∧ wx.cell? ⟨b, 1, none⟩ = some (.int .i64 SS) ∧ wx.cell? ⟨b, 2, none⟩ = some (.slice a' NN c') ∧ KsSm wx a' NN KL R)
  case first =>
    have sy0 : ∀ W', Below wd.heap.size wd W' → W'.cell? ⟨w.heap.size, 0, none⟩ = some (.int .i64 s) := fun W' h => y0 W' (bl_then hRd h)
    have sy1 : ∀ W', Below wd.heap.size wd W' → W'.cell? ⟨w.heap.size, 1, none⟩ = some (.slice a n cap) := fun W' h => y1 W' (bl_then hRd h)
    have sz0 : ∀ W', Below wd.heap.size wd W' → W'.cell? ⟨w.heap.size + 1, 0, none⟩ = some (.int .i64 z) := fun W' h => z0 W' (bl_then hRd h)
    have sz1 : ∀ W', Below wd.heap.size wd W' → W'.cell? ⟨w.heap.size + 1, 1, none⟩ = some (.int .i64 x) := fun W' h => z1 W' (bl_then hRd h)
    have sz2 : ∀ W', Below wd.heap.size wd W' → W'.cell? ⟨w.heap.size + 1, 2, none⟩ = some (.int .i64 y) := fun W' h => z2 W' (bl_then hRd h)
    have sz3 : ∀ W', Below wd.heap.size wd W' → W'.cell? ⟨w.heap.size + 1, 3, none⟩ = some (.slice ta fn tc) := fun W' h => z3 W' (bl_then hRd h)
    refine wp_region_noPanic ?_
    refine wp_region_held_drew (S := fun W' => Below wd.heap.size wd W') (by kernel_rfl) (by have := Below.refl wd.heap.size wd; (repeat (first | exact Below.refl _ _ | assumption | refine Below.drew ?_ | refine bl_alloc ?_ _ | refine bl_then ?_ (by assumption) | refine Below.setCell ?_ (by first | omega | (simp; done) | (simp; omega)) _ | refine bl_store ?_ ?_ _ _))) (fun hHeld => ?_)
    have hX0 : Below wd.heap.size wd wd.drew := hHeld
    refine takeD (i := 0) (d := some 75) (v := ?vp0) rfl rfl (by kernel_rfl) (by kernel_rfl) (by kernel_rfl) (fun _ _ _ h => h) (Or.inl ⟨by rfl, ?hyp0⟩) (by assumption) ?_
    case hyp0 => (intro w hSw; (try dsimp only at hSw); go_simp <;> with_reducible rfl)
    try simp only [Act.put, List.setIfInBounds_toArray, List.set_cons_zero, List.set_cons_succ]
    refine takeD (i := 2) (d := some 77) (v := ?vp2) rfl rfl (by kernel_rfl) (by kernel_rfl) (by kernel_rfl) (fun _ _ _ h => h) (Or.inl ⟨by rfl, ?hyp2⟩) (by assumption) ?_
    case hyp2 => (intro w hSw; (try dsimp only at hSw); go_simp <;> with_reducible rfl)
    try simp only [Act.put, List.setIfInBounds_toArray, List.set_cons_zero, List.set_cons_succ]
    generalize wd.drew = wk0 at *
    refine wpAnyH_ready (rs := [1, 5]) (by kernel_rfl) (by simp) ?_
    refine (AllReadyH.cons rfl (fun K hK => ?_) (AllReadyH.cons rfl (fun K hK => ?_) AllReadyH.nil))
    · rw [if_pos (by rfl)]
      go_simp
      refine Calls.mono (HTo.out _ (bl_then hRd hX0)) ?_
      rintro e wp18 ⟨bq18, Aq18, rfl, hge18, hq18, _, hb18⟩
      have hXp18 : Below wd.heap.size wd wp18 := bl_then hX0 hb18
      go_wp2_with fail
      refine hK.out _ _ hXp18 (fun hHeld => ?_)
      clear hK K
      try simp only [Act.put, List.setIfInBounds_toArray, List.set_cons_zero, List.set_cons_succ]
      refine wpAnyH_ready (rs := [3, 5]) (by kernel_rfl) (by simp) ?_
      refine (AllReadyH.cons rfl (fun K hK => ?_) (AllReadyH.cons rfl (fun K hK => ?_) AllReadyH.nil))
      · rw [if_pos (by rfl)]
        go_simp
        refine Calls.mono (HTt.out _ (bl_then hRd hXp18)) ?_
        rintro e wp19 ⟨bt19, Gt19, rfl, ht19, _, hb19⟩
        have hq19 := hq18.below hb19
        have hXp19 : Below wd.heap.size wd wp19 := bl_then hXp18 hb19
        go_wp2_with fail
        refine hK.out _ _ hXp19 (fun hHeld => ?_)
        clear hK K
        try simp only [Act.put, List.setIfInBounds_toArray, List.set_cons_zero, List.set_cons_succ]
        refine wpAnyH_ready (rs := [4, 5]) (by kernel_rfl) (by simp) ?_
        refine (AllReadyH.cons rfl (fun K hK => ?_) (AllReadyH.cons rfl (fun K hK => ?_) AllReadyH.nil))
        · rw [if_pos (by rfl)]
          go_simp
          refine Calls.mono (Him.out _ _ _ _ _ _ _ hq19 ht19) ?_
          rintro e wp20 ⟨ar, cr, Rr, rfl, hA20, hb20⟩
          have hXp20 : Below wd.heap.size wd wp20 := bl_then hXp19 hb20
          go_wp2_with fail
          refine hK.out _ _ hXp20 (fun hHeld => ?_)
          clear hK K
          try simp only [Act.put, List.setIfInBounds_toArray, List.set_cons_zero, List.set_cons_succ]
          refine wpAnyH_ready (rs := [5]) (by kernel_rfl) (by simp) ?_
          refine (AllReadyH.cons rfl (fun K hK => ?_) AllReadyH.nil)
          rw [if_pos (by rfl)]
          go_simp
          generalize hwA : (World.alloc _ _ : World) = wp21
          have hb21 : Below wp20.heap.size wp20 wp21 := by subst hwA; (repeat (first | exact Below.refl _ _ | assumption | refine Below.drew ?_ | refine bl_alloc ?_ _ | refine bl_then ?_ (by assumption) | refine Below.setCell ?_ (by first | omega | (simp; done) | (simp; omega)) _ | refine bl_store ?_ ?_ _ _))
          have hT21 : There wp21 wp20.heap.size 3 := by subst hwA; exact there3r wp20 _ _ _ _
          clear hwA
          have hXp21 : Below wd.heap.size wd wp21 := bl_then hXp20 hb21
          have hs21 : wd.heap.size ≤ wp20.heap.size := hXp20.size
          refine hK.out _ _ hXp21 (fun hHeld => ?_)
          clear hK K
          try simp only [Act.put, List.setIfInBounds_toArray, List.set_cons_zero, List.set_cons_succ]
          refine wpAnyH_ready (rs := [6]) (by kernel_rfl) (by simp) ?_
          refine (AllReadyH.cons rfl (fun K hK => ?_) AllReadyH.nil)
          rw [if_pos (by rfl)]
          have t0 := hT21.cell 0 (by omega)
          have f0 := (hT21 0 (by omega)).2
          have t1 := hT21.cell 1 (by omega)
          have f1 := (hT21 1 (by omega)).2
          have t2 := hT21.cell 2 (by omega)
          have f2 := (hT21 2 (by omega)).2
          go_simp
          refine hK.out _ _ (((hXp21.setCell hs21 _).setCell hs21 _).setCell hs21 _) (fun hHeld => ?_)
          clear hK K
          try simp only [Act.put, List.setIfInBounds_toArray, List.set_cons_zero, List.set_cons_succ]
          obtain ⟨q0, q1, q2⟩ := set3_atq (a := .int .i64 CO) (b := .int .i64 SS) (c := .slice ar NN cr) hT21
          have hBf : Below wd.heap.size wd (((wp21.setCell ⟨wp20.heap.size, 0, none⟩ (.int .i64 CO)).setCell ⟨wp20.heap.size, 1, none⟩ (.int .i64 SS)).setCell ⟨wp20.heap.size, 2, none⟩ (.slice ar NN cr)) := ((hXp21.setCell hs21 _).setCell hs21 _).setCell hs21 _
          have hBB : Below wp20.heap.size wp20 (((wp21.setCell ⟨wp20.heap.size, 0, none⟩ (.int .i64 CO)).setCell ⟨wp20.heap.size, 1, none⟩ (.int .i64 SS)).setCell ⟨wp20.heap.size, 2, none⟩ (.slice ar NN cr)) := ((hb21.setCell (Nat.le_refl _) _).setCell (Nat.le_refl _) _).setCell (Nat.le_refl _) _
          refine wpAnyH_done (by kernel_rfl) ?_ _
          refine NoPanic.normal ?_
          go_wp2_with fail
          go_meet
          case rel => exact ⟨_, ar, cr, Rr, rfl, hBf, hs21, q0, q1, q2, (hA20.below hBB).sm⟩
        · rw [if_pos (by rfl)]
          go_simp
          generalize hwA : (World.alloc _ _ : World) = wp22
          have hb22 : Below wp19.heap.size wp19 wp22 := by subst hwA; (repeat (first | exact Below.refl _ _ | assumption | refine Below.drew ?_ | refine bl_alloc ?_ _ | refine bl_then ?_ (by assumption) | refine Below.setCell ?_ (by first | omega | (simp; done) | (simp; omega)) _ | refine bl_store ?_ ?_ _ _))
          have hT22 : There wp22 wp19.heap.size 3 := by subst hwA; exact there3r wp19 _ _ _ _
          clear hwA
          have hXp22 : Below wd.heap.size wd wp22 := bl_then hXp19 hb22
          have hs22 : wd.heap.size ≤ wp19.heap.size := hXp19.size
          have hq22 := hq19.below hb22
          have ht22 := ht19.below hb22
          refine hK.out _ _ hXp22 (fun hHeld => ?_)
          clear hK K
          try simp only [Act.put, List.setIfInBounds_toArray, List.set_cons_zero, List.set_cons_succ]
          refine wpAnyH_ready (rs := [4]) (by kernel_rfl) (by simp) ?_
          refine (AllReadyH.cons rfl (fun K hK => ?_) AllReadyH.nil)
          rw [if_pos (by rfl)]
          go_simp
          have hrl23 : wp19.heap.size < wp22.heap.size := World.block_lt_of_cell? _ _ (hT22.cell 0 (by omega))
          refine Calls.mono (Him.out _ _ _ _ _ _ _ hq22 ht22) ?_
          rintro e wp23 ⟨ar, cr, Rr, rfl, hA23, hb23⟩
          have hXp23 : Below wd.heap.size wd wp23 := bl_then hXp22 hb23
          have hT23 := There.below hT22 hb23
          go_wp2_with fail
          refine hK.out _ _ hXp23 (fun hHeld => ?_)
          clear hK K
          try simp only [Act.put, List.setIfInBounds_toArray, List.set_cons_zero, List.set_cons_succ]
          refine wpAnyH_ready (rs := [6]) (by kernel_rfl) (by simp) ?_
          refine (AllReadyH.cons rfl (fun K hK => ?_) AllReadyH.nil)
          rw [if_pos (by rfl)]
          have t0 := hT23.cell 0 (by omega)
          have f0 := (hT23 0 (by omega)).2
          have t1 := hT23.cell 1 (by omega)
          have f1 := (hT23 1 (by omega)).2
          have t2 := hT23.cell 2 (by omega)
          have f2 := (hT23 2 (by omega)).2
          go_simp
          refine hK.out _ _ (((hXp23.setCell hs22 _).setCell hs22 _).setCell hs22 _) (fun hHeld => ?_)
          clear hK K
          try simp only [Act.put, List.setIfInBounds_toArray, List.set_cons_zero, List.set_cons_succ]
          obtain ⟨q0, q1, q2⟩ := set3_atq (a := .int .i64 CO) (b := .int .i64 SS) (c := .slice ar NN cr) hT23
          have hBf : Below wd.heap.size wd (((wp23.setCell ⟨wp19.heap.size, 0, none⟩ (.int .i64 CO)).setCell ⟨wp19.heap.size, 1, none⟩ (.int .i64 SS)).setCell ⟨wp19.heap.size, 2, none⟩ (.slice ar NN cr)) := ((hXp23.setCell hs22 _).setCell hs22 _).setCell hs22 _
          have hMM : MidB 0 wp22.heap.size wp23 (((wp23.setCell ⟨wp19.heap.size, 0, none⟩ (.int .i64 CO)).setCell ⟨wp19.heap.size, 1, none⟩ (.int .i64 SS)).setCell ⟨wp19.heap.size, 2, none⟩ (.slice ar NN cr)) := (((MidB.refl _ _ _).set (Nat.zero_le _) hrl23 _ _).set (Nat.zero_le _) hrl23 _ _).set (Nat.zero_le _) hrl23 _ _
          refine wpAnyH_done (by kernel_rfl) ?_ _
          refine NoPanic.normal ?_
          go_wp2_with fail
          go_meet
          case rel => exact ⟨_, ar, cr, Rr, rfl, hBf, hs22, q0, q1, q2, (hA23.mid hMM (Nat.le_refl _)).sm⟩
      · rw [if_pos (by rfl)]
        go_simp
        generalize hwA : (World.alloc _ _ : World) = wp24
        have hb24 : Below wp18.heap.size wp18 wp24 := by subst hwA; (repeat (first | exact Below.refl _ _ | assumption | refine Below.drew ?_ | refine bl_alloc ?_ _ | refine bl_then ?_ (by assumption) | refine Below.setCell ?_ (by first | omega | (simp; done) | (simp; omega)) _ | refine bl_store ?_ ?_ _ _))
        have hT24 : There wp24 wp18.heap.size 3 := by subst hwA; exact there3r wp18 _ _ _ _
        clear hwA
        have hXp24 : Below wd.heap.size wd wp24 := bl_then hXp18 hb24
        have hs24 : wd.heap.size ≤ wp18.heap.size := hXp18.size
        have hq24 := hq18.below hb24
        refine hK.out _ _ hXp24 (fun hHeld => ?_)
        clear hK K
        try simp only [Act.put, List.setIfInBounds_toArray, List.set_cons_zero, List.set_cons_succ]
        refine wpAnyH_ready (rs := [3]) (by kernel_rfl) (by simp) ?_
        refine (AllReadyH.cons rfl (fun K hK => ?_) AllReadyH.nil)
        rw [if_pos (by rfl)]
        go_simp
        refine Calls.mono (HTt.out _ (bl_then hRd hXp24)) ?_
        rintro e wp25 ⟨bt25, Gt25, rfl, ht25, _, hb25⟩
        have hq25 := hq24.below hb25
        have hXp25 : Below wd.heap.size wd wp25 := bl_then hXp24 hb25
        have hT25 := There.below hT24 hb25
        go_wp2_with fail
        refine hK.out _ _ hXp25 (fun hHeld => ?_)
        clear hK K
        try simp only [Act.put, List.setIfInBounds_toArray, List.set_cons_zero, List.set_cons_succ]
        refine wpAnyH_ready (rs := [4]) (by kernel_rfl) (by simp) ?_
        refine (AllReadyH.cons rfl (fun K hK => ?_) AllReadyH.nil)
        rw [if_pos (by rfl)]
        go_simp
        have hrl26 : wp18.heap.size < wp25.heap.size := World.block_lt_of_cell? _ _ (hT25.cell 0 (by omega))
        refine Calls.mono (Him.out _ _ _ _ _ _ _ hq25 ht25) ?_
        rintro e wp26 ⟨ar, cr, Rr, rfl, hA26, hb26⟩
        have hXp26 : Below wd.heap.size wd wp26 := bl_then hXp25 hb26
        have hT26 := There.below hT25 hb26
        go_wp2_with fail
        refine hK.out _ _ hXp26 (fun hHeld => ?_)
        clear hK K
        try simp only [Act.put, List.setIfInBounds_toArray, List.set_cons_zero, List.set_cons_succ]
        refine wpAnyH_ready (rs := [6]) (by kernel_rfl) (by simp) ?_
        refine (AllReadyH.cons rfl (fun K hK => ?_) AllReadyH.nil)
        rw [if_pos (by rfl)]
        have t0 := hT26.cell 0 (by omega)
        have f0 := (hT26 0 (by omega)).2
        have t1 := hT26.cell 1 (by omega)
        have f1 := (hT26 1 (by omega)).2
        have t2 := hT26.cell 2 (by omega)
        have f2 := (hT26 2 (by omega)).2
        go_simp
        refine hK.out _ _ (((hXp26.setCell hs24 _).setCell hs24 _).setCell hs24 _) (fun hHeld => ?_)
        clear hK K
        try simp only [Act.put, List.setIfInBounds_toArray, List.set_cons_zero, List.set_cons_succ]
        obtain ⟨q0, q1, q2⟩ := set3_atq (a := .int .i64 CO) (b := .int .i64 SS) (c := .slice ar NN cr) hT26
        have hBf : Below wd.heap.size wd (((wp26.setCell ⟨wp18.heap.size, 0, none⟩ (.int .i64 CO)).setCell ⟨wp18.heap.size, 1, none⟩ (.int .i64 SS)).setCell ⟨wp18.heap.size, 2, none⟩ (.slice ar NN cr)) := ((hXp26.setCell hs24 _).setCell hs24 _).setCell hs24 _
        have hMM : MidB 0 wp25.heap.size wp26 (((wp26.setCell ⟨wp18.heap.size, 0, none⟩ (.int .i64 CO)).setCell ⟨wp18.heap.size, 1, none⟩ (.int .i64 SS)).setCell ⟨wp18.heap.size, 2, none⟩ (.slice ar NN cr)) := (((MidB.refl _ _ _).set (Nat.zero_le _) hrl26 _ _).set (Nat.zero_le _) hrl26 _ _).set (Nat.zero_le _) hrl26 _ _
        refine wpAnyH_done (by kernel_rfl) ?_ _
        refine NoPanic.normal ?_
        go_wp2_with fail
        go_meet
        case rel => exact ⟨_, ar, cr, Rr, rfl, hBf, hs24, q0, q1, q2, (hA26.mid hMM (Nat.le_refl _)).sm⟩
    · rw [if_pos (by rfl)]
      go_simp
      generalize hwA : (World.alloc _ _ : World) = wp27
      have hb27 : Below wk0.heap.size wk0 wp27 := by subst hwA; (repeat (first | exact Below.refl _ _ | assumption | refine Below.drew ?_ | refine bl_alloc ?_ _ | refine bl_then ?_ (by assumption) | refine Below.setCell ?_ (by first | omega | (simp; done) | (simp; omega)) _ | refine bl_store ?_ ?_ _ _))
      have hT27 : There wp27 wk0.heap.size 3 := by subst hwA; exact there3r wk0 _ _ _ _
      clear hwA
      have hXp27 : Below wd.heap.size wd wp27 := bl_then hX0 hb27
      have hs27 : wd.heap.size ≤ wk0.heap.size := hX0.size
      refine hK.out _ _ hXp27 (fun hHeld => ?_)
      clear hK K
      try simp only [Act.put, List.setIfInBounds_toArray, List.set_cons_zero, List.set_cons_succ]
      refine wpAnyH_ready (rs := [1]) (by kernel_rfl) (by simp) ?_
      refine (AllReadyH.cons rfl (fun K hK => ?_) AllReadyH.nil)
      rw [if_pos (by rfl)]
      go_simp
      refine Calls.mono (HTo.out _ (bl_then hRd hXp27)) ?_
      rintro e wp28 ⟨bq28, Aq28, rfl, hge28, hq28, _, hb28⟩
      have hXp28 : Below wd.heap.size wd wp28 := bl_then hXp27 hb28
      have hT28 := There.below hT27 hb28
      go_wp2_with fail
      refine hK.out _ _ hXp28 (fun hHeld => ?_)
      clear hK K
      try simp only [Act.put, List.setIfInBounds_toArray, List.set_cons_zero, List.set_cons_succ]
      refine wpAnyH_ready (rs := [3]) (by kernel_rfl) (by simp) ?_
      refine (AllReadyH.cons rfl (fun K hK => ?_) AllReadyH.nil)
      rw [if_pos (by rfl)]
      go_simp
      refine Calls.mono (HTt.out _ (bl_then hRd hXp28)) ?_
      rintro e wp29 ⟨bt29, Gt29, rfl, ht29, _, hb29⟩
      have hq29 := hq28.below hb29
      have hXp29 : Below wd.heap.size wd wp29 := bl_then hXp28 hb29
      have hT29 := There.below hT28 hb29
      go_wp2_with fail
      refine hK.out _ _ hXp29 (fun hHeld => ?_)
      clear hK K
      try simp only [Act.put, List.setIfInBounds_toArray, List.set_cons_zero, List.set_cons_succ]
      refine wpAnyH_ready (rs := [4]) (by kernel_rfl) (by simp) ?_
      refine (AllReadyH.cons rfl (fun K hK => ?_) AllReadyH.nil)
      rw [if_pos (by rfl)]
      go_simp
      have hrl30 : wk0.heap.size < wp29.heap.size := World.block_lt_of_cell? _ _ (hT29.cell 0 (by omega))
      refine Calls.mono (Him.out _ _ _ _ _ _ _ hq29 ht29) ?_
      rintro e wp30 ⟨ar, cr, Rr, rfl, hA30, hb30⟩
      have hXp30 : Below wd.heap.size wd wp30 := bl_then hXp29 hb30
      have hT30 := There.below hT29 hb30
      go_wp2_with fail
      refine hK.out _ _ hXp30 (fun hHeld => ?_)
      clear hK K
      try simp only [Act.put, List.setIfInBounds_toArray, List.set_cons_zero, List.set_cons_succ]
      refine wpAnyH_ready (rs := [6]) (by kernel_rfl) (by simp) ?_
      refine (AllReadyH.cons rfl (fun K hK => ?_) AllReadyH.nil)
      rw [if_pos (by rfl)]
      have t0 := hT30.cell 0 (by omega)
      have f0 := (hT30 0 (by omega)).2
      have t1 := hT30.cell 1 (by omega)
      have f1 := (hT30 1 (by omega)).2
      have t2 := hT30.cell 2 (by omega)
      have f2 := (hT30 2 (by omega)).2
      go_simp
      refine hK.out _ _ (((hXp30.setCell hs27 _).setCell hs27 _).setCell hs27 _) (fun hHeld => ?_)
      clear hK K
      try simp only [Act.put, List.setIfInBounds_toArray, List.set_cons_zero, List.set_cons_succ]
      obtain ⟨q0, q1, q2⟩ := set3_atq (a := .int .i64 CO) (b := .int .i64 SS) (c := .slice ar NN cr) hT30
      have hBf : Below wd.heap.size wd (((wp30.setCell ⟨wk0.heap.size, 0, none⟩ (.int .i64 CO)).setCell ⟨wk0.heap.size, 1, none⟩ (.int .i64 SS)).setCell ⟨wk0.heap.size, 2, none⟩ (.slice ar NN cr)) := ((hXp30.setCell hs27 _).setCell hs27 _).setCell hs27 _
      have hMM : MidB 0 wp29.heap.size wp30 (((wp30.setCell ⟨wk0.heap.size, 0, none⟩ (.int .i64 CO)).setCell ⟨wk0.heap.size, 1, none⟩ (.int .i64 SS)).setCell ⟨wk0.heap.size, 2, none⟩ (.slice ar NN cr)) := (((MidB.refl _ _ _).set (Nat.zero_le _) hrl30 _ _).set (Nat.zero_le _) hrl30 _ _).set (Nat.zero_le _) hrl30 _ _
      refine wpAnyH_done (by kernel_rfl) ?_ _
      refine NoPanic.normal ?_
      go_wp2_with fail
      go_meet
      case rel => exact ⟨_, ar, cr, Rr, rfl, hBf, hs27, q0, q1, q2, (hA30.mid hMM (Nat.le_refl _)).sm⟩
  obtain ⟨by_, a2, cap2, R2, rfl, hBy, hbz', g0, g1, g2, hsm⟩ := hcut
  generalize wc = wf at *
  have HSM : Hid (KsSm wf a2 NN KL R2) := hsm
  have l0 := bl_cell hBy HGd.out.1.1
  have l1 := bl_cell hBy HGd.out.1.2.1
  have l2 := bl_cell hBy HGd.out.1.2.2
  have m0 := bl_cell hBy HGd.out.2.1
  have m1 := bl_cell hBy HGd.out.2.2.1
  have m2 := bl_cell hBy HGd.out.2.2.2
  have HCMf : Hid (CrM wf Bq bv a1 NN R1) := HCMd.out.below hBy
  have HUf : Hid (UndK w3.heap.size wf a0 NN KL R0) := HUd.out.below (hBy.mono (by omega))
  have HBf : Hid (Below w1.heap.size w1 wf) := bl_then HBd.out hBy
  clear hBy hsm HGd HCMd HUd HBd hRd
  go_wp2_with fail
  refine (eqCacheResult_any CO SS _ _ NN _ _ KL _ _ _ HSM.out HUf.out.is HKL.out).mono ?_
  rintro e wg ⟨rfl, hbg⟩
  have i0 := bl_cell hbg l0
  have i1 := bl_cell hbg l1
  have i2 := bl_cell hbg l2
  have HCMg : Hid (CrM wg Bq bv a1 NN R1) := HCMf.out.below hbg
  have HBg : Hid (Below w1.heap.size w1 wg) := bl_then HBf.out hbg
  clear hbg l0 l1 l2 m0 m1 m2 g0 g1 g2 HCMf HUf HBf HSM
  go_wp2_with fail
  refine (Hheld.out _ HCMg.out).mono ?_
  rintro e wi ⟨rfl, hbi⟩
  have HBi : Hid (Below w.heap.size w wi) := bl_then HBw.out (bl_then HBg.out hbi)
  clear hbi
  go_wp2
  go_ret
  exact ⟨rfl, HBi.out⟩
end Go.Proofs.YtciidkmonfmipaaGreat
