/- The law of BuildTile returns true at every list of features and every ref. -/
import Derived.Test.YthadmnhpjklmiaaGreatVBuildTile44
namespace Go.Proofs.YthadmnhpjklmiaaGreat
open Go.RowKit
set_option linter.unusedSimpArgs false
set_option linter.unusedVariables false
set_option maxRecDepth 100000

theorem There.lt5 {W : World} {r : Nat} (h : There W r 5) : r < W.heap.size := by
  obtain ⟨v, hv⟩ := (h 0 (by omega)).1
  exact World.block_lt_of_cell? _ _ hv
theorem SrcB.isL {lo base : Nat} {w : World} {a : Option Addr} {n : Nat} {T : Nat → Feat} (h : SrcB lo base w a n T) (hB : base ≤ w.heap.size) : IsFs w a n T := by
  rcases h with h | ⟨g, ea, ⟨g1, g2⟩, h⟩
  · exact .inl h
  · refine .inr ⟨g, 0, ea, by omega, fun i hi => ?_⟩
    obtain ⟨hF, q, o, eq, ⟨_, q2⟩, hp⟩ := h i hi
    rw [Nat.zero_add]
    exact ⟨hF, .inr ⟨q, o, eq, by omega, hp⟩⟩
set_option maxHeartbeats 16000000 in
theorem FnExactBuildTile_law (C z' x' y' : Int) (a : Option Addr) (n cap M : Nat) (F GG : Nat → Feat) (x0 x1 x2 : Int) (w : World) (hI : IsFs w a n F) (hC : CameFs n F) (hMn : M ≤ 1048576) (hNN : ∀ i, i < M → (GG i).n ≤ 1048576)
    (hsp : SmallFs n F → ∀ b B A w, OwnFs w B b n F A → Calls Tryz.prog 6 #[.slice (some ⟨b, 0, none⟩) n n, .agg #[.int .i64 x0, .int .i64 x1, .int .i64 x2]] w fun e w' => ∃ a cap T, e = .returned (trV C z' x' y' (.slice a M cap)) ∧ SrcB w.heap.size w'.heap.size w' a M T ∧ (∀ i, i < M → (T i).same (GG i)) ∧ Below w.heap.size w w')
    (him : SmallFs n F → ∀ b B A w, OwnFs w B b n F A → Calls Tryz.prog 9 #[.slice (some ⟨b, 0, none⟩) n n, .agg #[.int .i64 x0, .int .i64 x1, .int .i64 x2]] w fun e w' => ∃ a cap T, e = .returned (trV C z' x' y' (.slice a M cap)) ∧ SrcB w.heap.size w'.heap.size w' a M T ∧ (∀ i, i < M → (T i).same (GG i)) ∧ OwnR w' w.heap.size w'.heap.size a M (fun i => (T i).n) (fun i => (T i).cap) ∧ Below w.heap.size w w') :
    Calls Tryz.prog 3 #[.slice a n cap, .agg #[.int .i64 x0, .int .i64 x1, .int .i64 x2]] w fun e w' => e = .returned (.bool true) ∧ Below w.heap.size w w' := by
  have HI : Hid (IsFs w a n F) := hI
  have HNN : Hid (∀ {T : Nat → Feat}, (∀ i, i < M → (T i).same (GG i)) → ∀ i, i < M → (T i).n ≤ 1048576) := fun {T} hT i hi => by
    have h1 := (hT i hi).2.2.2.2.1
    have h2 := hNN i hi
    omega
  have HZ : Hid (∀ W, Below w.heap.size w W → Calls Tryz.prog 5 #[.slice a n cap, .int .i64 1048576] W fun e w' => (e = .returned (.int .i64 (-1)) ∨ ∃ m : Nat, SmallFs n F ∧ e = .returned (.int .i64 m)) ∧ Below W.heap.size W w') := fun W hb => (szFeatureS_any a n cap F 1048576 W (by omega) (hI.below hb) hC).mono fun e w' ⟨h, hb'⟩ => ⟨h.imp id (fun ⟨m, _, h1, h2⟩ => ⟨m, h1, h2⟩), hb'⟩
  have Hsp0 := (show Hid _ from hsp)
  have Him0 := (show Hid _ from him)
  clear hI hC hsp him hNN
  go_enter Tryz.func3, Tryz.ntmps3
  go_wp2_with fail
  generalize hW : (w.alloc _ : World) = W
  have hBW : Below w.heap.size w W := by subst hW; (repeat (first | exact Below.refl _ _ | assumption | refine Below.drew ?_ | refine bl_alloc ?_ _ | refine bl_then ?_ (by assumption) | refine Below.setCell ?_ (by first | omega | (simp; done) | (simp; omega)) _ | refine bl_store ?_ ?_ _ _))
  have c00 : ∀ W', Below W.heap.size W W' → W'.cell? ⟨w.heap.size, 0, none⟩ = some (.int .i64 x0) := fun W' h => by
    rw [h.cell (by subst hW; simp <;> omega)]; subst hW; simp [go_sem]
  have c01 : ∀ W', Below W.heap.size W W' → W'.cell? ⟨w.heap.size, 1, none⟩ = some (.int .i64 x1) := fun W' h => by
    rw [h.cell (by subst hW; simp <;> omega)]; subst hW; simp [go_sem]
  have c02 : ∀ W', Below W.heap.size W W' → W'.cell? ⟨w.heap.size, 2, none⟩ = some (.int .i64 x2) := fun W' h => by
    rw [h.cell (by subst hW; simp <;> omega)]; subst hW; simp [go_sem]
  clear hW
  refine Calls.mono (HZ.out W hBW) ?_
  rintro e w0 ⟨rfl | ⟨k0, hS, rfl⟩, hb0'⟩
  · go_wp2
    go_ret
    exact ⟨rfl, bl_then hBW hb0'⟩
  have hb0 : Below w.heap.size w w0 := bl_then hBW hb0'
  have y0 : ∀ W', Below w0.heap.size w0 W' → W'.cell? ⟨w.heap.size, 0, none⟩ = some (.int .i64 x0) := fun W' h => c00 W' (bl_then hb0' h)
  have y1 : ∀ W', Below w0.heap.size w0 W' → W'.cell? ⟨w.heap.size, 1, none⟩ = some (.int .i64 x1) := fun W' h => c01 W' (bl_then hb0' h)
  have y2 : ∀ W', Below w0.heap.size w0 W' → W'.cell? ⟨w.heap.size, 2, none⟩ = some (.int .i64 x2) := fun W' h => c02 W' (bl_then hb0' h)
  have hlw0 : w.heap.size < w0.heap.size := World.block_lt_of_cell? _ _ (y0 w0 (Below.refl _ _))
  clear c00 c01 c02 hb0' hBW
  have Hsp := (show Hid _ from Hsp0.out hS)
  have Him := (show Hid _ from Him0.out hS)
  have Him2 : Hid (∀ b B A w, OwnFs w B b n F A → Calls Tryz.prog 9 #[.slice (some ⟨b, 0, none⟩) n n, .agg #[.int .i64 x0, .int .i64 x1, .int .i64 x2]] w fun e w' => ∃ a cap T, e = .returned (trV C z' x' y' (.slice a M cap)) ∧ SrcB w.heap.size w'.heap.size w' a M T ∧ (∀ i, i < M → (T i).same (GG i)) ∧ Below w.heap.size w w') := fun b B A w h => (Him.out b B A w h).mono fun e w' ⟨a, cap, T, h1, h2, h3, _, h5⟩ => ⟨a, cap, T, h1, h2, h3, h5⟩
  have HS1 : Hid (SmallFs n F) := hS
  have HE : Hid (∀ i, i < n → (F i).n ≤ 1048576) := fun i hi => (hS.2 i hi).1
  have hn := hS.1
  have hk0 : ¬ (k0 : Int) < 0 := by omega
  clear HZ hS Hsp0 Him0
  have HTQ : Hid (∀ W', Below w0.heap.size w0 W' → Calls Tryz.prog 7 #[.slice a n cap] W' fun e w' => ∃ b A, e = .returned (.slice (some ⟨b, 0, none⟩) n n) ∧ OwnFs w' W'.heap.size b n F A ∧ Below W'.heap.size W' w') := fun W' h => toFeatureS_any a n cap F W' (HI.out.below (bl_then hb0 h)) hn HE.out
  go_wp2_with fail
  go_cut [6] (fun t wc => ∃ (b : Nat) (a0 : Option Addr) (cap0 : Nat) (S0 : Nat → Feat), t = .pointer (some ⟨b, 0, none⟩) ∧ Below w0.heap.size w0 wc ∧ w0.heap.size ≤ b ∧ T5At wc b C z' x' y' (.slice a0 M cap0) ∧ IsFs wc a0 M S0 ∧ ∀ i, i < M → (S0 i).same (GG i))
  case first =>
    refine wp_region_noPanic ?_
    refine wp_region_held_drew (S := fun W' => Below w0.heap.size w0 W') (by kernel_rfl) (by (repeat (first | exact Below.refl _ _ | assumption | refine Below.drew ?_ | refine bl_alloc ?_ _ | refine bl_then ?_ (by assumption) | refine Below.setCell ?_ (by first | omega | (simp; done) | (simp; omega)) _ | refine bl_store ?_ ?_ _ _))) (fun hHeld => ?_)
    have hX0 : Below w0.heap.size w0 w0.drew := hHeld
    refine takeD (i := 0) (d := some 18) (v := ?vf0) rfl rfl (by kernel_rfl) (by kernel_rfl) (by kernel_rfl) (fun _ _ _ h => h) (Or.inl ⟨by rfl, ?hyf0⟩) (by assumption) ?_
    case hyf0 => (intro w hSw; (try dsimp only at hSw); go_simp <;> with_reducible rfl)
    try simp only [Act.put, List.setIfInBounds_toArray, List.set_cons_zero, List.set_cons_succ]
    refine takeD (i := 2) (d := some 20) (v := ?vf2) rfl rfl (by kernel_rfl) (by kernel_rfl) (by kernel_rfl) (fun _ _ _ h => h) (Or.inl ⟨by rfl, ?hyf2⟩) (by assumption) ?_
    case hyf2 => (intro w hSw; (try dsimp only at hSw); go_simp <;> with_reducible rfl)
    try simp only [Act.put, List.setIfInBounds_toArray, List.set_cons_zero, List.set_cons_succ]
    refine wpAnyH_ready (rs := [1, 5]) (by kernel_rfl) (by simp) ?_
    refine (AllReadyH.cons rfl (fun K hK => ?_) (AllReadyH.cons rfl (fun K hK => ?_) AllReadyH.nil))
    · rw [if_pos (by rfl)]
      go_simp
      refine Calls.mono (HTQ.out _ hX0) ?_
      rintro e wf1 ⟨bq, Aq, rfl, hq1, hb1⟩
      have hXf1 : Below w0.heap.size w0 wf1 := bl_then hX0 hb1
      go_wp2_with fail
      refine hK.out _ _ hXf1 (fun hHeld => ?_)
      clear hK K
      try simp only [Act.put, List.setIfInBounds_toArray, List.set_cons_zero, List.set_cons_succ]
      refine wpAnyH_ready (rs := [3, 5]) (by kernel_rfl) (by simp) ?_
      refine (AllReadyH.cons rfl (fun K hK => ?_) (AllReadyH.cons rfl (fun K hK => ?_) AllReadyH.nil))
      · rw [if_pos (by rfl)]
        go_simp
        refine Calls.mono (toRef_any _ _ _ _) ?_
        rintro e wf2 ⟨rfl, hb2⟩
        have hq2 := OwnFs.below hq1 hb2
        have hXf2 : Below w0.heap.size w0 wf2 := bl_then hXf1 hb2
        go_wp2_with fail
        refine hK.out _ _ hXf2 (fun hHeld => ?_)
        clear hK K
        try simp only [Act.put, List.setIfInBounds_toArray, List.set_cons_zero, List.set_cons_succ]
        refine wpAnyH_ready (rs := [4, 5]) (by kernel_rfl) (by simp) ?_
        refine (AllReadyH.cons rfl (fun K hK => ?_) (AllReadyH.cons rfl (fun K hK => ?_) AllReadyH.nil))
        · rw [if_pos (by rfl)]
          go_simp
          refine Calls.mono (Hsp.out _ _ _ _ hq2) ?_
          rintro e wf3 ⟨a0, cap0, S0, rfl, hO3, hsam, hb3⟩
          have hXf3 : Below w0.heap.size w0 wf3 := bl_then hXf2 hb3
          go_wp2_with fail
          refine hK.out _ _ hXf3 (fun hHeld => ?_)
          clear hK K
          try simp only [Act.put, List.setIfInBounds_toArray, List.set_cons_zero, List.set_cons_succ]
          refine wpAnyH_ready (rs := [5]) (by kernel_rfl) (by simp) ?_
          refine (AllReadyH.cons rfl (fun K hK => ?_) AllReadyH.nil)
          rw [if_pos (by rfl)]
          go_simp
          generalize hwA : (World.alloc _ _ : World) = wf4
          have hb4 : Below wf3.heap.size wf3 wf4 := by subst hwA; (repeat (first | exact Below.refl _ _ | assumption | refine Below.drew ?_ | refine bl_alloc ?_ _ | refine bl_then ?_ (by assumption) | refine Below.setCell ?_ (by first | omega | (simp; done) | (simp; omega)) _ | refine bl_store ?_ ?_ _ _))
          have hT4 : There wf4 wf3.heap.size 5 := by subst hwA; exact there5b wf3 _ _ _ _ _ _
          clear hwA
          have hXf4 : Below w0.heap.size w0 wf4 := bl_then hXf3 hb4
          have hs4 : w0.heap.size ≤ wf3.heap.size := Below.size hXf3
          have hz4 : wf3.heap.size < wf4.heap.size := There.lt5 hT4
          refine hK.out _ _ hXf4 (fun hHeld => ?_)
          clear hK K
          try simp only [Act.put, List.setIfInBounds_toArray, List.set_cons_zero, List.set_cons_succ]
          refine wpAnyH_ready (rs := [6]) (by kernel_rfl) (by simp) ?_
          refine (AllReadyH.cons rfl (fun K hK => ?_) AllReadyH.nil)
          rw [if_pos (by rfl)]
          have t0 := hT4.cell 0 (by omega)
          have f0 := (hT4 0 (by omega)).2
          have t1 := hT4.cell 1 (by omega)
          have f1 := (hT4 1 (by omega)).2
          have t2 := hT4.cell 2 (by omega)
          have f2 := (hT4 2 (by omega)).2
          have t3 := hT4.cell 3 (by omega)
          have f3 := (hT4 3 (by omega)).2
          have t4 := hT4.cell 4 (by omega)
          have f4 := (hT4 4 (by omega)).2
          go_simp
          refine hK.out _ _ (((((hXf4.setCell hs4 _).setCell hs4 _).setCell hs4 _).setCell hs4 _).setCell hs4 _) (fun hHeld => ?_)
          clear hK K
          try simp only [Act.put, List.setIfInBounds_toArray, List.set_cons_zero, List.set_cons_succ]
          obtain ⟨q0, q1, q2, q3, q4⟩ := set5_at (r := wf3.heap.size) (a := .int .i64 C) (b := .int .i64 z') (c := .int .i64 x') (d := .int .i64 y') (e := .slice a0 M cap0) hT4
          have hBf : Below w0.heap.size w0 (((((wf4.setCell ⟨wf3.heap.size, 0, none⟩ (.int .i64 C)).setCell ⟨wf3.heap.size, 1, none⟩ (.int .i64 z')).setCell ⟨wf3.heap.size, 2, none⟩ (.int .i64 x')).setCell ⟨wf3.heap.size, 3, none⟩ (.int .i64 y')).setCell ⟨wf3.heap.size, 4, none⟩ (.slice a0 M cap0)) := (((((hXf4.setCell hs4 _).setCell hs4 _).setCell hs4 _).setCell hs4 _).setCell hs4 _)
          have hIf : IsFs (((((wf4.setCell ⟨wf3.heap.size, 0, none⟩ (.int .i64 C)).setCell ⟨wf3.heap.size, 1, none⟩ (.int .i64 z')).setCell ⟨wf3.heap.size, 2, none⟩ (.int .i64 x')).setCell ⟨wf3.heap.size, 3, none⟩ (.int .i64 y')).setCell ⟨wf3.heap.size, 4, none⟩ (.slice a0 M cap0)) a0 M S0 := (hO3.up (((((hb4.setCell (Nat.le_refl _) _).setCell (Nat.le_refl _) _).setCell (Nat.le_refl _) _).setCell (Nat.le_refl _) _).setCell (Nat.le_refl _) _) (Nat.le_refl _)).isL (by have := (hb4).size; simp; omega)
          refine wpAnyH_done (by kernel_rfl) ?_ _
          refine NoPanic.normal ?_
          go_wp2_with fail
          go_meet
          case rel => exact ⟨_, a0, cap0, S0, rfl, hBf, hs4, ⟨q0, q1, q2, q3, q4⟩, hIf, hsam⟩
        · rw [if_pos (by rfl)]
          go_simp
          generalize hwA : (World.alloc _ _ : World) = wf5
          have hb5 : Below wf2.heap.size wf2 wf5 := by subst hwA; (repeat (first | exact Below.refl _ _ | assumption | refine Below.drew ?_ | refine bl_alloc ?_ _ | refine bl_then ?_ (by assumption) | refine Below.setCell ?_ (by first | omega | (simp; done) | (simp; omega)) _ | refine bl_store ?_ ?_ _ _))
          have hT5 : There wf5 wf2.heap.size 5 := by subst hwA; exact there5b wf2 _ _ _ _ _ _
          clear hwA
          have hXf5 : Below w0.heap.size w0 wf5 := bl_then hXf2 hb5
          have hs5 : w0.heap.size ≤ wf2.heap.size := Below.size hXf2
          have hz5 : wf2.heap.size < wf5.heap.size := There.lt5 hT5
          have hq5 := OwnFs.below hq2 hb5
          refine hK.out _ _ hXf5 (fun hHeld => ?_)
          clear hK K
          try simp only [Act.put, List.setIfInBounds_toArray, List.set_cons_zero, List.set_cons_succ]
          refine wpAnyH_ready (rs := [4]) (by kernel_rfl) (by simp) ?_
          refine (AllReadyH.cons rfl (fun K hK => ?_) AllReadyH.nil)
          rw [if_pos (by rfl)]
          go_simp
          refine Calls.mono (Hsp.out _ _ _ _ hq5) ?_
          rintro e wf6 ⟨a0, cap0, S0, rfl, hO6, hsam, hb6⟩
          have hXf6 : Below w0.heap.size w0 wf6 := bl_then hXf5 hb6
          have hT6 := There.below hT5 hb6
          have hz6 : wf2.heap.size < wf6.heap.size := There.lt5 hT6
          go_wp2_with fail
          refine hK.out _ _ hXf6 (fun hHeld => ?_)
          clear hK K
          try simp only [Act.put, List.setIfInBounds_toArray, List.set_cons_zero, List.set_cons_succ]
          refine wpAnyH_ready (rs := [6]) (by kernel_rfl) (by simp) ?_
          refine (AllReadyH.cons rfl (fun K hK => ?_) AllReadyH.nil)
          rw [if_pos (by rfl)]
          have t0 := hT6.cell 0 (by omega)
          have f0 := (hT6 0 (by omega)).2
          have t1 := hT6.cell 1 (by omega)
          have f1 := (hT6 1 (by omega)).2
          have t2 := hT6.cell 2 (by omega)
          have f2 := (hT6 2 (by omega)).2
          have t3 := hT6.cell 3 (by omega)
          have f3 := (hT6 3 (by omega)).2
          have t4 := hT6.cell 4 (by omega)
          have f4 := (hT6 4 (by omega)).2
          go_simp
          refine hK.out _ _ (((((hXf6.setCell hs5 _).setCell hs5 _).setCell hs5 _).setCell hs5 _).setCell hs5 _) (fun hHeld => ?_)
          clear hK K
          try simp only [Act.put, List.setIfInBounds_toArray, List.set_cons_zero, List.set_cons_succ]
          obtain ⟨q0, q1, q2, q3, q4⟩ := set5_at (r := wf2.heap.size) (a := .int .i64 C) (b := .int .i64 z') (c := .int .i64 x') (d := .int .i64 y') (e := .slice a0 M cap0) hT6
          have hBf : Below w0.heap.size w0 (((((wf6.setCell ⟨wf2.heap.size, 0, none⟩ (.int .i64 C)).setCell ⟨wf2.heap.size, 1, none⟩ (.int .i64 z')).setCell ⟨wf2.heap.size, 2, none⟩ (.int .i64 x')).setCell ⟨wf2.heap.size, 3, none⟩ (.int .i64 y')).setCell ⟨wf2.heap.size, 4, none⟩ (.slice a0 M cap0)) := (((((hXf6.setCell hs5 _).setCell hs5 _).setCell hs5 _).setCell hs5 _).setCell hs5 _)
          have hIf : IsFs (((((wf6.setCell ⟨wf2.heap.size, 0, none⟩ (.int .i64 C)).setCell ⟨wf2.heap.size, 1, none⟩ (.int .i64 z')).setCell ⟨wf2.heap.size, 2, none⟩ (.int .i64 x')).setCell ⟨wf2.heap.size, 3, none⟩ (.int .i64 y')).setCell ⟨wf2.heap.size, 4, none⟩ (.slice a0 M cap0)) a0 M S0 := (hO6.set5 (by omega)).isL (by simp)
          refine wpAnyH_done (by kernel_rfl) ?_ _
          refine NoPanic.normal ?_
          go_wp2_with fail
          go_meet
          case rel => exact ⟨_, a0, cap0, S0, rfl, hBf, hs5, ⟨q0, q1, q2, q3, q4⟩, hIf, hsam⟩
      · rw [if_pos (by rfl)]
        go_simp
        generalize hwA : (World.alloc _ _ : World) = wf7
        have hb7 : Below wf1.heap.size wf1 wf7 := by subst hwA; (repeat (first | exact Below.refl _ _ | assumption | refine Below.drew ?_ | refine bl_alloc ?_ _ | refine bl_then ?_ (by assumption) | refine Below.setCell ?_ (by first | omega | (simp; done) | (simp; omega)) _ | refine bl_store ?_ ?_ _ _))
        have hT7 : There wf7 wf1.heap.size 5 := by subst hwA; exact there5b wf1 _ _ _ _ _ _
        clear hwA
        have hXf7 : Below w0.heap.size w0 wf7 := bl_then hXf1 hb7
        have hs7 : w0.heap.size ≤ wf1.heap.size := Below.size hXf1
        have hz7 : wf1.heap.size < wf7.heap.size := There.lt5 hT7
        have hq7 := OwnFs.below hq1 hb7
        refine hK.out _ _ hXf7 (fun hHeld => ?_)
        clear hK K
        try simp only [Act.put, List.setIfInBounds_toArray, List.set_cons_zero, List.set_cons_succ]
        refine wpAnyH_ready (rs := [3]) (by kernel_rfl) (by simp) ?_
        refine (AllReadyH.cons rfl (fun K hK => ?_) AllReadyH.nil)
        rw [if_pos (by rfl)]
        go_simp
        refine Calls.mono (toRef_any _ _ _ _) ?_
        rintro e wf8 ⟨rfl, hb8⟩
        have hq8 := OwnFs.below hq7 hb8
        have hXf8 : Below w0.heap.size w0 wf8 := bl_then hXf7 hb8
        have hT8 := There.below hT7 hb8
        have hz8 : wf1.heap.size < wf8.heap.size := There.lt5 hT8
        go_wp2_with fail
        refine hK.out _ _ hXf8 (fun hHeld => ?_)
        clear hK K
        try simp only [Act.put, List.setIfInBounds_toArray, List.set_cons_zero, List.set_cons_succ]
        refine wpAnyH_ready (rs := [4]) (by kernel_rfl) (by simp) ?_
        refine (AllReadyH.cons rfl (fun K hK => ?_) AllReadyH.nil)
        rw [if_pos (by rfl)]
        go_simp
        refine Calls.mono (Hsp.out _ _ _ _ hq8) ?_
        rintro e wf9 ⟨a0, cap0, S0, rfl, hO9, hsam, hb9⟩
        have hXf9 : Below w0.heap.size w0 wf9 := bl_then hXf8 hb9
        have hT9 := There.below hT8 hb9
        have hz9 : wf1.heap.size < wf9.heap.size := There.lt5 hT9
        go_wp2_with fail
        refine hK.out _ _ hXf9 (fun hHeld => ?_)
        clear hK K
        try simp only [Act.put, List.setIfInBounds_toArray, List.set_cons_zero, List.set_cons_succ]
        refine wpAnyH_ready (rs := [6]) (by kernel_rfl) (by simp) ?_
        refine (AllReadyH.cons rfl (fun K hK => ?_) AllReadyH.nil)
        rw [if_pos (by rfl)]
        have t0 := hT9.cell 0 (by omega)
        have f0 := (hT9 0 (by omega)).2
        have t1 := hT9.cell 1 (by omega)
        have f1 := (hT9 1 (by omega)).2
        have t2 := hT9.cell 2 (by omega)
        have f2 := (hT9 2 (by omega)).2
        have t3 := hT9.cell 3 (by omega)
        have f3 := (hT9 3 (by omega)).2
        have t4 := hT9.cell 4 (by omega)
        have f4 := (hT9 4 (by omega)).2
        go_simp
        refine hK.out _ _ (((((hXf9.setCell hs7 _).setCell hs7 _).setCell hs7 _).setCell hs7 _).setCell hs7 _) (fun hHeld => ?_)
        clear hK K
        try simp only [Act.put, List.setIfInBounds_toArray, List.set_cons_zero, List.set_cons_succ]
        obtain ⟨q0, q1, q2, q3, q4⟩ := set5_at (r := wf1.heap.size) (a := .int .i64 C) (b := .int .i64 z') (c := .int .i64 x') (d := .int .i64 y') (e := .slice a0 M cap0) hT9
        have hBf : Below w0.heap.size w0 (((((wf9.setCell ⟨wf1.heap.size, 0, none⟩ (.int .i64 C)).setCell ⟨wf1.heap.size, 1, none⟩ (.int .i64 z')).setCell ⟨wf1.heap.size, 2, none⟩ (.int .i64 x')).setCell ⟨wf1.heap.size, 3, none⟩ (.int .i64 y')).setCell ⟨wf1.heap.size, 4, none⟩ (.slice a0 M cap0)) := (((((hXf9.setCell hs7 _).setCell hs7 _).setCell hs7 _).setCell hs7 _).setCell hs7 _)
        have hIf : IsFs (((((wf9.setCell ⟨wf1.heap.size, 0, none⟩ (.int .i64 C)).setCell ⟨wf1.heap.size, 1, none⟩ (.int .i64 z')).setCell ⟨wf1.heap.size, 2, none⟩ (.int .i64 x')).setCell ⟨wf1.heap.size, 3, none⟩ (.int .i64 y')).setCell ⟨wf1.heap.size, 4, none⟩ (.slice a0 M cap0)) a0 M S0 := (hO9.set5 (by omega)).isL (by simp)
        refine wpAnyH_done (by kernel_rfl) ?_ _
        refine NoPanic.normal ?_
        go_wp2_with fail
        go_meet
        case rel => exact ⟨_, a0, cap0, S0, rfl, hBf, hs7, ⟨q0, q1, q2, q3, q4⟩, hIf, hsam⟩
    · rw [if_pos (by rfl)]
      go_simp
      generalize hwA : (World.alloc _ _ : World) = wf10
      have hb10 : Below w0.heap.size w0 wf10.drew := by subst hwA; (repeat (first | exact Below.refl _ _ | assumption | refine Below.drew ?_ | refine bl_alloc ?_ _ | refine bl_then ?_ (by assumption) | refine Below.setCell ?_ (by first | omega | (simp; done) | (simp; omega)) _ | refine bl_store ?_ ?_ _ _))
      have hT10 : There wf10.drew w0.heap.size 5 := by subst hwA; exact there5b w0 _ _ _ _ _ _
      clear hwA
      have hXf10 : Below w0.heap.size w0 wf10.drew := hb10
      have hs10 : w0.heap.size ≤ w0.heap.size := Nat.le_refl _
      have hz10 : w0.heap.size < wf10.drew.heap.size := There.lt5 hT10
      refine hK.out _ _ hXf10 (fun hHeld => ?_)
      clear hK K
      try simp only [Act.put, List.setIfInBounds_toArray, List.set_cons_zero, List.set_cons_succ]
      refine wpAnyH_ready (rs := [1]) (by kernel_rfl) (by simp) ?_
      refine (AllReadyH.cons rfl (fun K hK => ?_) AllReadyH.nil)
      rw [if_pos (by rfl)]
      go_simp
      refine Calls.mono (HTQ.out _ hXf10) ?_
      rintro e wf11 ⟨bq, Aq, rfl, hq11, hb11⟩
      have hXf11 : Below w0.heap.size w0 wf11 := bl_then hXf10 hb11
      have hT11 := There.below hT10 hb11
      have hz11 : w0.heap.size < wf11.heap.size := There.lt5 hT11
      go_wp2_with fail
      refine hK.out _ _ hXf11 (fun hHeld => ?_)
      clear hK K
      try simp only [Act.put, List.setIfInBounds_toArray, List.set_cons_zero, List.set_cons_succ]
      refine wpAnyH_ready (rs := [3]) (by kernel_rfl) (by simp) ?_
      refine (AllReadyH.cons rfl (fun K hK => ?_) AllReadyH.nil)
      rw [if_pos (by rfl)]
      go_simp
      refine Calls.mono (toRef_any _ _ _ _) ?_
      rintro e wf12 ⟨rfl, hb12⟩
      have hq12 := OwnFs.below hq11 hb12
      have hXf12 : Below w0.heap.size w0 wf12 := bl_then hXf11 hb12
      have hT12 := There.below hT11 hb12
      have hz12 : w0.heap.size < wf12.heap.size := There.lt5 hT12
      go_wp2_with fail
      refine hK.out _ _ hXf12 (fun hHeld => ?_)
      clear hK K
      try simp only [Act.put, List.setIfInBounds_toArray, List.set_cons_zero, List.set_cons_succ]
      refine wpAnyH_ready (rs := [4]) (by kernel_rfl) (by simp) ?_
      refine (AllReadyH.cons rfl (fun K hK => ?_) AllReadyH.nil)
      rw [if_pos (by rfl)]
      go_simp
      refine Calls.mono (Hsp.out _ _ _ _ hq12) ?_
      rintro e wf13 ⟨a0, cap0, S0, rfl, hO13, hsam, hb13⟩
      have hXf13 : Below w0.heap.size w0 wf13 := bl_then hXf12 hb13
      have hT13 := There.below hT12 hb13
      have hz13 : w0.heap.size < wf13.heap.size := There.lt5 hT13
      go_wp2_with fail
      refine hK.out _ _ hXf13 (fun hHeld => ?_)
      clear hK K
      try simp only [Act.put, List.setIfInBounds_toArray, List.set_cons_zero, List.set_cons_succ]
      refine wpAnyH_ready (rs := [6]) (by kernel_rfl) (by simp) ?_
      refine (AllReadyH.cons rfl (fun K hK => ?_) AllReadyH.nil)
      rw [if_pos (by rfl)]
      have t0 := hT13.cell 0 (by omega)
      have f0 := (hT13 0 (by omega)).2
      have t1 := hT13.cell 1 (by omega)
      have f1 := (hT13 1 (by omega)).2
      have t2 := hT13.cell 2 (by omega)
      have f2 := (hT13 2 (by omega)).2
      have t3 := hT13.cell 3 (by omega)
      have f3 := (hT13 3 (by omega)).2
      have t4 := hT13.cell 4 (by omega)
      have f4 := (hT13 4 (by omega)).2
      go_simp
      refine hK.out _ _ (((((hXf13.setCell hs10 _).setCell hs10 _).setCell hs10 _).setCell hs10 _).setCell hs10 _) (fun hHeld => ?_)
      clear hK K
      try simp only [Act.put, List.setIfInBounds_toArray, List.set_cons_zero, List.set_cons_succ]
      obtain ⟨q0, q1, q2, q3, q4⟩ := set5_at (r := w0.heap.size) (a := .int .i64 C) (b := .int .i64 z') (c := .int .i64 x') (d := .int .i64 y') (e := .slice a0 M cap0) hT13
      have hBf : Below w0.heap.size w0 (((((wf13.setCell ⟨w0.heap.size, 0, none⟩ (.int .i64 C)).setCell ⟨w0.heap.size, 1, none⟩ (.int .i64 z')).setCell ⟨w0.heap.size, 2, none⟩ (.int .i64 x')).setCell ⟨w0.heap.size, 3, none⟩ (.int .i64 y')).setCell ⟨w0.heap.size, 4, none⟩ (.slice a0 M cap0)) := (((((hXf13.setCell hs10 _).setCell hs10 _).setCell hs10 _).setCell hs10 _).setCell hs10 _)
      have hIf : IsFs (((((wf13.setCell ⟨w0.heap.size, 0, none⟩ (.int .i64 C)).setCell ⟨w0.heap.size, 1, none⟩ (.int .i64 z')).setCell ⟨w0.heap.size, 2, none⟩ (.int .i64 x')).setCell ⟨w0.heap.size, 3, none⟩ (.int .i64 y')).setCell ⟨w0.heap.size, 4, none⟩ (.slice a0 M cap0)) a0 M S0 := (hO13.set5 (by omega)).isL (by simp)
      refine wpAnyH_done (by kernel_rfl) ?_ _
      refine NoPanic.normal ?_
      go_wp2_with fail
      go_meet
      case rel => exact ⟨_, a0, cap0, S0, rfl, hBf, hs10, ⟨q0, q1, q2, q3, q4⟩, hIf, hsam⟩
  obtain ⟨bw, a0, cap0, S0, rfl, hBc, hbw, hR0, hF0, hS0⟩ := hcut
  generalize wc = w3 at *
  have hB3 : Below w0.heap.size w0 w3 := hBc
  have HR0 : Hid (T5At w3 bw C z' x' y' (.slice a0 M cap0)) := hR0
  have hbl3 : bw < w3.heap.size := World.block_lt_of_cell? _ _ hR0.1
  have HF3 : Hid (IsFs w3 a0 M S0) := hF0
  have HS0 : Hid (∀ i, i < M → (S0 i).same (GG i)) := hS0
  have HB00 : Hid (Below w.heap.size w w0) := hb0
  have HI0 : Hid (IsFs w0 a n F) := HI.out.below hb0
  have hws3 := hB3.size
  clear hBc hR0 hF0 hS0 hb0
  go_wp2_with fail
  refine (toFeatureS_own a n cap F _ (HI0.out.below hB3) hn HE.out).mono ?_
  rintro e w4 ⟨b4, A4, rfl, hO4, ⟨q4, hT4⟩, hb4⟩
  have HO4 : Hid (OwnFs w4 w3.heap.size b4 n F A4) := hO4
  have HM4 : Hid (OwnQ w4 w3.heap.size w4.heap.size b4 n (fun i => (F i).n) (fun i => (F i).n) q4) := hT4
  have hle34 := hb4.size
  have z0 := y0 w4 (bl_then hB3 hb4)
  have z1 := y1 w4 (bl_then hB3 hb4)
  have z2 := y2 w4 (bl_then hB3 hb4)
  clear hO4 hT4
  go_wp2_with fail
  refine (toRef_any _ _ _ _).mono ?_
  rintro e w4b ⟨rfl, hb4b⟩
  have HO4b : Hid (OwnFs w4b w3.heap.size b4 n F A4) := HO4.out.below hb4b
  go_wp2_with fail
  refine (Him.out _ _ _ _ HO4b.out).mono ?_
  rintro e w5 ⟨a1, cap1, T1, rfl, hF1, hT1, hO1, hb5b⟩
  have hb5 : Below w4.heap.size w4 w5 := bl_then hb4b hb5b
  have HF1 : Hid (IsFs w5 a1 M T1) := hF1.is
  have HT1 : Hid (∀ i, i < M → (T1 i).same (GG i)) := hT1
  have HR1 : Hid (OwnR w5 w4.heap.size w5.heap.size a1 M (fun i => (T1 i).n) (fun i => (T1 i).cap)) := hO1.wide hb4b.size
  clear hO1 hF1 hT1 hb5b hb4b HO4b z0 z1 z2
  have Hb5 : Hid (Below w3.heap.size w3 w5) := bl_then hb4 hb5
  have HQ5 : Hid (OwnFs w5 w3.heap.size b4 n F A4) := HO4.out.below hb5
  have HM5 : Hid (OwnQ w5 w3.heap.size w4.heap.size b4 n (fun i => (F i).n) (fun i => (F i).n) q4) := HM4.out.below hb5
  have hs5 := hb5.size
  clear hb4 hb5 HO4 HM4
  obtain ⟨k0', k1', k2', k3', k4'⟩ := HR0.out.below Hb5.out
  have hp0 : bw < w5.heap.size := by omega
  go_wp2_with fail
  generalize hW6 : (w5.alloc _ : World) = w6
  have hb6 : Below w5.heap.size w5 w6 := by subst hW6; (repeat (first | exact Below.refl _ _ | assumption | refine Below.drew ?_ | refine bl_alloc ?_ _ | refine bl_then ?_ (by assumption) | refine Below.setCell ?_ (by first | omega | (simp; done) | (simp; omega)) _ | refine bl_store ?_ ?_ _ _))
  have HRg6 : Hid (T5At w6 w5.heap.size C z' x' y' (.slice a1 M cap1)) := by show T5At _ _ _ _ _ _ _; subst hW6; exact ⟨by simp [go_sem], by simp [go_sem], by simp [go_sem], by simp [go_sem], by simp [go_sem]⟩
  have hs6 : w5.heap.size < w6.heap.size := by subst hW6; simp
  clear hW6 k0' k1' k2' k3' k4'
  have Hb6 : Hid (Below w3.heap.size w3 w6) := bl_then Hb5.out hb6
  have HSM : Hid (∀ i, i < M → (T1 i).same (S0 i)) := fun i hi => Feat.same_trans (HT1.out i hi) (Feat.same_symm (HS0.out i hi))
  have HNS : Hid (∀ i, i < M → (S0 i).n ≤ 1048576) := HNN.out HS0.out
  have HNT : Hid (∀ i, i < M → (T1 i).n ≤ 1048576) := HNN.out HT1.out
  refine (eqTileResult_out C z' x' y' a1 a0 M cap1 cap0 T1 S0 w6 (HF1.out.below hb6) (HF3.out.below Hb6.out) HSM.out hMn HNS.out).mono ?_
  rintro e w7 ⟨rfl, hb7⟩
  have hb67 : Below w5.heap.size w5 w7 := bl_then hb6 hb7
  have HF7 : Hid (IsFs w7 a1 M T1) := HF1.out.below hb67
  have HR7 : Hid (OwnR w7 w4.heap.size w5.heap.size a1 M (fun i => (T1 i).n) (fun i => (T1 i).cap)) := HR1.out.below hb67
  have HQ7 : Hid (OwnFs w7 w3.heap.size b4 n F A4) := HQ5.out.below hb67
  have HM7 : Hid (OwnQ w7 w3.heap.size w4.heap.size b4 n (fun i => (F i).n) (fun i => (F i).n) q4) := HM5.out.below hb67
  have HRg7 : Hid (T5At w7 w5.heap.size C z' x' y' (.slice a1 M cap1)) := HRg6.out.below hb7
  have Hb7 : Hid (Below w3.heap.size w3 w7) := bl_then Hb6.out hb7
  have hs7 := hb7.size
  clear hb6 hb7 hb67 HF1 HR1 HQ5 HM5 HRg6 Hb6 Hb5
  have HB3 : Hid (Below w0.heap.size w0 w3) := hB3
  clear hB3
  go_wp2_with fail
  refine (toFeatureS_any a n cap F _ (HI0.out.below (bl_then HB3.out Hb7.out)) hn HE.out).mono ?_
  rintro e w8 ⟨b8, A8, rfl, hO8, hb8⟩
  have HP8 : Hid (OwnFs w8 w7.heap.size b8 n F A8) := hO8
  have HQ8 : Hid (OwnFs w8 w3.heap.size b4 n F A4) := HQ7.out.below hb8
  have Hb8 : Hid (Below w7.heap.size w7 w8) := hb8
  clear hO8 hb8 HQ7
  go_wp2_with fail
  refine (eqFeatureS_any b4 b8 n _ _ F A4 A8 _ HQ8.out HP8.out HS1.out).mono ?_
  rintro e w9 ⟨rfl, hb9⟩
  have hb79 : Below w7.heap.size w7 w9 := bl_then Hb8.out hb9
  have HF9 : Hid (IsFs w9 a1 M T1) := HF7.out.below hb79
  have HR9 : Hid (OwnR w9 w4.heap.size w5.heap.size a1 M (fun i => (T1 i).n) (fun i => (T1 i).cap)) := HR7.out.below hb79
  have HM9 : Hid (OwnQ w9 w3.heap.size w4.heap.size b4 n (fun i => (F i).n) (fun i => (F i).n) q4) := HM7.out.below hb79
  have HRg9 : Hid (T5At w9 w5.heap.size C z' x' y' (.slice a1 M cap1)) := HRg7.out.below hb79
  have Hb9 : Hid (Below w3.heap.size w3 w9) := bl_then Hb7.out hb79
  have hs9 := hb79.size
  clear hb79 hb9 HF7 HR7 HM7 HRg7 Hb7 HP8 HQ8 Hb8
  go_wp2_with fail
  -- the argument is marked
  refine (markFs_any w3.heap.size w4.heap.size b4 n n 1 (fun i => (F i).n) (fun i => (F i).n) q4 _ HM9.out hn HE.out (by omega) (by omega)).mono ?_
  rintro e wa ⟨rfl, _, hMa, _⟩
  have hqk : ¬ ((kS (fun i => (F i).n) 1 n : Nat) : Int) < 0 := by omega
  generalize ((kS (fun i => (F i).n) 1 n : Nat) : Int) = qk at *
  have hsa := hMa.size
  have Hba : Hid (Below w3.heap.size w3 wa) := Hb9.out.trans (hMa.below (by omega))
  have HFa : Hid (IsFs wa a1 M T1) := isFs_mid HF9.out HR9.out hMa (Nat.le_refl _)
  have HRa : Hid (OwnR wa w4.heap.size w5.heap.size a1 M (fun i => (T1 i).n) (fun i => (T1 i).cap)) := HR9.out.away hMa (.inl (Nat.le_refl _))
  have HRga : Hid (T5At wa w5.heap.size C z' x' y' (.slice a1 M cap1)) := HRg9.out.mid hMa (.inr hs5)
  clear hMa HF9 HR9 HM9 HRg9 Hb9
  obtain ⟨g0, g1, g2, g3, g4⟩ := HRga.out
  obtain ⟨p0, p1, p2, p3, p4⟩ := HR0.out.below Hba.out
  go_wp2_with fail
  refine (eqTileResult_out C z' x' y' a1 a0 M cap1 cap0 T1 S0 wa HFa.out (HF3.out.below Hba.out) HSM.out hMn HNS.out).mono ?_
  rintro e wb ⟨rfl, hbb⟩
  have hsb := hbb.size
  have HRb : Hid (OwnR wb w4.heap.size w5.heap.size a1 M (fun i => (T1 i).n) (fun i => (T1 i).cap)) := HRa.out.below hbb
  have HRgb : Hid (T5At wb w5.heap.size C z' x' y' (.slice a1 M cap1)) := HRga.out.below hbb
  have Hbb : Hid (Below w3.heap.size w3 wb) := bl_then Hba.out hbb
  clear g0 g1 g2 g3 g4 p0 p1 p2 p3 p4 hbb HFa HRa HRga Hba
  obtain ⟨g0, g1, g2, g3, g4⟩ := HRgb.out
  have hqm : ¬ ((kS (fun i => (T1 i).n) 1 M : Nat) : Int) < 0 := by omega
  have Hmark : Hid (Calls Tryz.prog 13 #[trV C z' x' y' (.slice a1 M cap1), .int .i64 1] wb fun e w' => e = .returned (.int .i64 ((kS (fun i => (T1 i).n) 1 M : Nat) : Int)) ∧ MidB w4.heap.size w5.heap.size wb w' ∧ MarkR w' a1 M (fun i => (T1 i).n) (fun i => (T1 i).cap)) := markTileResult_out _ _ C z' x' y' a1 M cap1 _ _ wb HRb.out hMn HNT.out
  have Hheld : Hid (∀ w, MarkR w a1 M (fun i => (T1 i).n) (fun i => (T1 i).cap) → Calls Tryz.prog 14 #[trV C z' x' y' (.slice a1 M cap1), .int .i64 1] w fun e w' => e = .returned (.int .i64 ((kS (fun i => (T1 i).n) 1 M : Nat) : Int)) ∧ Below w.heap.size w w') := fun w h => heldTileResult_out C z' x' y' a1 M cap1 _ _ w h hMn HNT.out
  generalize ((kS (fun i => (T1 i).n) 1 M : Nat) : Int) = qm at *
  go_wp2_with fail
  -- the answer is marked
  refine Calls.mono Hmark.out ?_
  rintro e wc ⟨rfl, hMc, hKc⟩
  have hsc := hMc.size
  have Hbc : Hid (Below w3.heap.size w3 wc) := Hbb.out.trans ((hMc.below (by omega)).mono (by omega))
  have HRgc : Hid (T5At wc w5.heap.size C z' x' y' (.slice a1 M cap1)) := HRgb.out.mid hMc (.inr (Nat.le_refl _))
  have HKc : Hid (MarkR wc a1 M (fun i => (T1 i).n) (fun i => (T1 i).cap)) := hKc
  clear g0 g1 g2 g3 g4 hMc hKc HRb HRgb Hbb Hmark
  obtain ⟨g0, g1, g2, g3, g4⟩ := HRgc.out
  go_wp2_with fail
  refine (Hheld.out _ HKc.out).mono ?_
  rintro e wd ⟨rfl, hbd⟩
  have hsd := hbd.size
  have Hbd : Hid (Below w3.heap.size w3 wd) := bl_then Hbc.out hbd
  have HRgd : Hid (T5At wd w5.heap.size C z' x' y' (.slice a1 M cap1)) := HRgc.out.below hbd
  have HKd : Hid (MarkR wd a1 M (fun i => (T1 i).n) (fun i => (T1 i).cap)) := HKc.out.below hbd
  have HBd : Hid (Below w0.heap.size w0 wd) := bl_then HB3.out Hbd.out
  clear g0 g1 g2 g3 g4 hbd HRgc HKc Hbc
  go_wp2_with fail
  -- once more
  have HTQd : Hid (∀ W', Below wd.heap.size wd W' → Calls Tryz.prog 7 #[.slice a n cap] W' fun e w' => ∃ b A, e = .returned (.slice (some ⟨b, 0, none⟩) n n) ∧ OwnFs w' W'.heap.size b n F A ∧ Below W'.heap.size W' w') := fun W' h => HTQ.out W' (bl_then HBd.out h)
  have v0' : ∀ W', Below wd.heap.size wd W' → W'.cell? ⟨w.heap.size, 0, none⟩ = some (.int .i64 x0) := fun W' h => y0 W' (bl_then HBd.out h)
  have v1' : ∀ W', Below wd.heap.size wd W' → W'.cell? ⟨w.heap.size, 1, none⟩ = some (.int .i64 x1) := fun W' h => y1 W' (bl_then HBd.out h)
  have v2' : ∀ W', Below wd.heap.size wd W' → W'.cell? ⟨w.heap.size, 2, none⟩ = some (.int .i64 x2) := fun W' h => y2 W' (bl_then HBd.out h)
  clear y0 y1 y2
  have hlwd : w.heap.size < wd.heap.size := World.block_lt_of_cell? _ _ (v0' wd (Below.refl _ _))
  go_cut [12] (fun t wx => ∃ (b : Nat) (a0 : Option Addr) (cap0 : Nat) (S0 : Nat → Feat), t = .pointer (some ⟨b, 0, none⟩) ∧ Below wd.heap.size wd wx ∧ wd.heap.size ≤ b ∧ T5At wx b C z' x' y' (.slice a0 M cap0) ∧ IsFs wx a0 M S0 ∧ ∀ i, i < M → (S0 i).same (GG i))
  case first =>
    refine wp_region_noPanic ?_
    refine wp_region_held_drew (S := fun W' => Below wd.heap.size wd W') (by kernel_rfl) (by (repeat (first | exact Below.refl _ _ | assumption | refine Below.drew ?_ | refine bl_alloc ?_ _ | refine bl_then ?_ (by assumption) | refine Below.setCell ?_ (by first | omega | (simp; done) | (simp; omega)) _ | refine bl_store ?_ ?_ _ _))) (fun hHeld => ?_)
    have hX0 : Below wd.heap.size wd wd.drew := hHeld
    refine takeD (i := 0) (d := some 60) (v := ?vg0) rfl rfl (by kernel_rfl) (by kernel_rfl) (by kernel_rfl) (fun _ _ _ h => h) (Or.inl ⟨by rfl, ?hyg0⟩) (by assumption) ?_
    case hyg0 => (intro w hSw; (try dsimp only at hSw); go_simp <;> with_reducible rfl)
    try simp only [Act.put, List.setIfInBounds_toArray, List.set_cons_zero, List.set_cons_succ]
    refine takeD (i := 2) (d := some 62) (v := ?vg2) rfl rfl (by kernel_rfl) (by kernel_rfl) (by kernel_rfl) (fun _ _ _ h => h) (Or.inl ⟨by rfl, ?hyg2⟩) (by assumption) ?_
    case hyg2 => (intro w hSw; (try dsimp only at hSw); go_simp <;> with_reducible rfl)
    try simp only [Act.put, List.setIfInBounds_toArray, List.set_cons_zero, List.set_cons_succ]
    refine wpAnyH_ready (rs := [1, 5]) (by kernel_rfl) (by simp) ?_
    refine (AllReadyH.cons rfl (fun K hK => ?_) (AllReadyH.cons rfl (fun K hK => ?_) AllReadyH.nil))
    · rw [if_pos (by rfl)]
      go_simp
      refine Calls.mono (HTQd.out _ hX0) ?_
      rintro e wg1 ⟨bq, Aq, rfl, hq1, hb1⟩
      have hXg1 : Below wd.heap.size wd wg1 := bl_then hX0 hb1
      go_wp2_with fail
      refine hK.out _ _ hXg1 (fun hHeld => ?_)
      clear hK K
      try simp only [Act.put, List.setIfInBounds_toArray, List.set_cons_zero, List.set_cons_succ]
      refine wpAnyH_ready (rs := [3, 5]) (by kernel_rfl) (by simp) ?_
      refine (AllReadyH.cons rfl (fun K hK => ?_) (AllReadyH.cons rfl (fun K hK => ?_) AllReadyH.nil))
      · rw [if_pos (by rfl)]
        go_simp
        refine Calls.mono (toRef_any _ _ _ _) ?_
        rintro e wg2 ⟨rfl, hb2⟩
        have hq2 := OwnFs.below hq1 hb2
        have hXg2 : Below wd.heap.size wd wg2 := bl_then hXg1 hb2
        go_wp2_with fail
        refine hK.out _ _ hXg2 (fun hHeld => ?_)
        clear hK K
        try simp only [Act.put, List.setIfInBounds_toArray, List.set_cons_zero, List.set_cons_succ]
        refine wpAnyH_ready (rs := [4, 5]) (by kernel_rfl) (by simp) ?_
        refine (AllReadyH.cons rfl (fun K hK => ?_) (AllReadyH.cons rfl (fun K hK => ?_) AllReadyH.nil))
        · rw [if_pos (by rfl)]
          go_simp
          refine Calls.mono (Him2.out _ _ _ _ hq2) ?_
          rintro e wg3 ⟨a0, cap0, S0, rfl, hO3, hsam, hb3⟩
          have hXg3 : Below wd.heap.size wd wg3 := bl_then hXg2 hb3
          go_wp2_with fail
          refine hK.out _ _ hXg3 (fun hHeld => ?_)
          clear hK K
          try simp only [Act.put, List.setIfInBounds_toArray, List.set_cons_zero, List.set_cons_succ]
          refine wpAnyH_ready (rs := [5]) (by kernel_rfl) (by simp) ?_
          refine (AllReadyH.cons rfl (fun K hK => ?_) AllReadyH.nil)
          rw [if_pos (by rfl)]
          go_simp
          generalize hwA : (World.alloc _ _ : World) = wg4
          have hb4 : Below wg3.heap.size wg3 wg4 := by subst hwA; (repeat (first | exact Below.refl _ _ | assumption | refine Below.drew ?_ | refine bl_alloc ?_ _ | refine bl_then ?_ (by assumption) | refine Below.setCell ?_ (by first | omega | (simp; done) | (simp; omega)) _ | refine bl_store ?_ ?_ _ _))
          have hT4 : There wg4 wg3.heap.size 5 := by subst hwA; exact there5b wg3 _ _ _ _ _ _
          clear hwA
          have hXg4 : Below wd.heap.size wd wg4 := bl_then hXg3 hb4
          have hs4 : wd.heap.size ≤ wg3.heap.size := Below.size hXg3
          have hz4 : wg3.heap.size < wg4.heap.size := There.lt5 hT4
          refine hK.out _ _ hXg4 (fun hHeld => ?_)
          clear hK K
          try simp only [Act.put, List.setIfInBounds_toArray, List.set_cons_zero, List.set_cons_succ]
          refine wpAnyH_ready (rs := [6]) (by kernel_rfl) (by simp) ?_
          refine (AllReadyH.cons rfl (fun K hK => ?_) AllReadyH.nil)
          rw [if_pos (by rfl)]
          have t0 := hT4.cell 0 (by omega)
          have f0 := (hT4 0 (by omega)).2
          have t1 := hT4.cell 1 (by omega)
          have f1 := (hT4 1 (by omega)).2
          have t2 := hT4.cell 2 (by omega)
          have f2 := (hT4 2 (by omega)).2
          have t3 := hT4.cell 3 (by omega)
          have f3 := (hT4 3 (by omega)).2
          have t4 := hT4.cell 4 (by omega)
          have f4 := (hT4 4 (by omega)).2
          go_simp
          refine hK.out _ _ (((((hXg4.setCell hs4 _).setCell hs4 _).setCell hs4 _).setCell hs4 _).setCell hs4 _) (fun hHeld => ?_)
          clear hK K
          try simp only [Act.put, List.setIfInBounds_toArray, List.set_cons_zero, List.set_cons_succ]
          obtain ⟨q0, q1, q2, q3, q4⟩ := set5_at (r := wg3.heap.size) (a := .int .i64 C) (b := .int .i64 z') (c := .int .i64 x') (d := .int .i64 y') (e := .slice a0 M cap0) hT4
          have hBf : Below wd.heap.size wd (((((wg4.setCell ⟨wg3.heap.size, 0, none⟩ (.int .i64 C)).setCell ⟨wg3.heap.size, 1, none⟩ (.int .i64 z')).setCell ⟨wg3.heap.size, 2, none⟩ (.int .i64 x')).setCell ⟨wg3.heap.size, 3, none⟩ (.int .i64 y')).setCell ⟨wg3.heap.size, 4, none⟩ (.slice a0 M cap0)) := (((((hXg4.setCell hs4 _).setCell hs4 _).setCell hs4 _).setCell hs4 _).setCell hs4 _)
          have hIf : IsFs (((((wg4.setCell ⟨wg3.heap.size, 0, none⟩ (.int .i64 C)).setCell ⟨wg3.heap.size, 1, none⟩ (.int .i64 z')).setCell ⟨wg3.heap.size, 2, none⟩ (.int .i64 x')).setCell ⟨wg3.heap.size, 3, none⟩ (.int .i64 y')).setCell ⟨wg3.heap.size, 4, none⟩ (.slice a0 M cap0)) a0 M S0 := (hO3.up (((((hb4.setCell (Nat.le_refl _) _).setCell (Nat.le_refl _) _).setCell (Nat.le_refl _) _).setCell (Nat.le_refl _) _).setCell (Nat.le_refl _) _) (Nat.le_refl _)).isL (by have := (hb4).size; simp; omega)
          refine wpAnyH_done (by kernel_rfl) ?_ _
          refine NoPanic.normal ?_
          go_wp2_with fail
          go_meet
          case rel => exact ⟨_, a0, cap0, S0, rfl, hBf, hs4, ⟨q0, q1, q2, q3, q4⟩, hIf, hsam⟩
        · rw [if_pos (by rfl)]
          go_simp
          generalize hwA : (World.alloc _ _ : World) = wg5
          have hb5 : Below wg2.heap.size wg2 wg5 := by subst hwA; (repeat (first | exact Below.refl _ _ | assumption | refine Below.drew ?_ | refine bl_alloc ?_ _ | refine bl_then ?_ (by assumption) | refine Below.setCell ?_ (by first | omega | (simp; done) | (simp; omega)) _ | refine bl_store ?_ ?_ _ _))
          have hT5 : There wg5 wg2.heap.size 5 := by subst hwA; exact there5b wg2 _ _ _ _ _ _
          clear hwA
          have hXg5 : Below wd.heap.size wd wg5 := bl_then hXg2 hb5
          have hs5 : wd.heap.size ≤ wg2.heap.size := Below.size hXg2
          have hz5 : wg2.heap.size < wg5.heap.size := There.lt5 hT5
          have hq5 := OwnFs.below hq2 hb5
          refine hK.out _ _ hXg5 (fun hHeld => ?_)
          clear hK K
          try simp only [Act.put, List.setIfInBounds_toArray, List.set_cons_zero, List.set_cons_succ]
          refine wpAnyH_ready (rs := [4]) (by kernel_rfl) (by simp) ?_
          refine (AllReadyH.cons rfl (fun K hK => ?_) AllReadyH.nil)
          rw [if_pos (by rfl)]
          go_simp
          refine Calls.mono (Him2.out _ _ _ _ hq5) ?_
          rintro e wg6 ⟨a0, cap0, S0, rfl, hO6, hsam, hb6⟩
          have hXg6 : Below wd.heap.size wd wg6 := bl_then hXg5 hb6
          have hT6 := There.below hT5 hb6
          have hz6 : wg2.heap.size < wg6.heap.size := There.lt5 hT6
          go_wp2_with fail
          refine hK.out _ _ hXg6 (fun hHeld => ?_)
          clear hK K
          try simp only [Act.put, List.setIfInBounds_toArray, List.set_cons_zero, List.set_cons_succ]
          refine wpAnyH_ready (rs := [6]) (by kernel_rfl) (by simp) ?_
          refine (AllReadyH.cons rfl (fun K hK => ?_) AllReadyH.nil)
          rw [if_pos (by rfl)]
          have t0 := hT6.cell 0 (by omega)
          have f0 := (hT6 0 (by omega)).2
          have t1 := hT6.cell 1 (by omega)
          have f1 := (hT6 1 (by omega)).2
          have t2 := hT6.cell 2 (by omega)
          have f2 := (hT6 2 (by omega)).2
          have t3 := hT6.cell 3 (by omega)
          have f3 := (hT6 3 (by omega)).2
          have t4 := hT6.cell 4 (by omega)
          have f4 := (hT6 4 (by omega)).2
          go_simp
          refine hK.out _ _ (((((hXg6.setCell hs5 _).setCell hs5 _).setCell hs5 _).setCell hs5 _).setCell hs5 _) (fun hHeld => ?_)
          clear hK K
          try simp only [Act.put, List.setIfInBounds_toArray, List.set_cons_zero, List.set_cons_succ]
          obtain ⟨q0, q1, q2, q3, q4⟩ := set5_at (r := wg2.heap.size) (a := .int .i64 C) (b := .int .i64 z') (c := .int .i64 x') (d := .int .i64 y') (e := .slice a0 M cap0) hT6
          have hBf : Below wd.heap.size wd (((((wg6.setCell ⟨wg2.heap.size, 0, none⟩ (.int .i64 C)).setCell ⟨wg2.heap.size, 1, none⟩ (.int .i64 z')).setCell ⟨wg2.heap.size, 2, none⟩ (.int .i64 x')).setCell ⟨wg2.heap.size, 3, none⟩ (.int .i64 y')).setCell ⟨wg2.heap.size, 4, none⟩ (.slice a0 M cap0)) := (((((hXg6.setCell hs5 _).setCell hs5 _).setCell hs5 _).setCell hs5 _).setCell hs5 _)
          have hIf : IsFs (((((wg6.setCell ⟨wg2.heap.size, 0, none⟩ (.int .i64 C)).setCell ⟨wg2.heap.size, 1, none⟩ (.int .i64 z')).setCell ⟨wg2.heap.size, 2, none⟩ (.int .i64 x')).setCell ⟨wg2.heap.size, 3, none⟩ (.int .i64 y')).setCell ⟨wg2.heap.size, 4, none⟩ (.slice a0 M cap0)) a0 M S0 := (hO6.set5 (by omega)).isL (by simp)
          refine wpAnyH_done (by kernel_rfl) ?_ _
          refine NoPanic.normal ?_
          go_wp2_with fail
          go_meet
          case rel => exact ⟨_, a0, cap0, S0, rfl, hBf, hs5, ⟨q0, q1, q2, q3, q4⟩, hIf, hsam⟩
      · rw [if_pos (by rfl)]
        go_simp
        generalize hwA : (World.alloc _ _ : World) = wg7
        have hb7 : Below wg1.heap.size wg1 wg7 := by subst hwA; (repeat (first | exact Below.refl _ _ | assumption | refine Below.drew ?_ | refine bl_alloc ?_ _ | refine bl_then ?_ (by assumption) | refine Below.setCell ?_ (by first | omega | (simp; done) | (simp; omega)) _ | refine bl_store ?_ ?_ _ _))
        have hT7 : There wg7 wg1.heap.size 5 := by subst hwA; exact there5b wg1 _ _ _ _ _ _
        clear hwA
        have hXg7 : Below wd.heap.size wd wg7 := bl_then hXg1 hb7
        have hs7 : wd.heap.size ≤ wg1.heap.size := Below.size hXg1
        have hz7 : wg1.heap.size < wg7.heap.size := There.lt5 hT7
        have hq7 := OwnFs.below hq1 hb7
        refine hK.out _ _ hXg7 (fun hHeld => ?_)
        clear hK K
        try simp only [Act.put, List.setIfInBounds_toArray, List.set_cons_zero, List.set_cons_succ]
        refine wpAnyH_ready (rs := [3]) (by kernel_rfl) (by simp) ?_
        refine (AllReadyH.cons rfl (fun K hK => ?_) AllReadyH.nil)
        rw [if_pos (by rfl)]
        go_simp
        refine Calls.mono (toRef_any _ _ _ _) ?_
        rintro e wg8 ⟨rfl, hb8⟩
        have hq8 := OwnFs.below hq7 hb8
        have hXg8 : Below wd.heap.size wd wg8 := bl_then hXg7 hb8
        have hT8 := There.below hT7 hb8
        have hz8 : wg1.heap.size < wg8.heap.size := There.lt5 hT8
        go_wp2_with fail
        refine hK.out _ _ hXg8 (fun hHeld => ?_)
        clear hK K
        try simp only [Act.put, List.setIfInBounds_toArray, List.set_cons_zero, List.set_cons_succ]
        refine wpAnyH_ready (rs := [4]) (by kernel_rfl) (by simp) ?_
        refine (AllReadyH.cons rfl (fun K hK => ?_) AllReadyH.nil)
        rw [if_pos (by rfl)]
        go_simp
        refine Calls.mono (Him2.out _ _ _ _ hq8) ?_
        rintro e wg9 ⟨a0, cap0, S0, rfl, hO9, hsam, hb9⟩
        have hXg9 : Below wd.heap.size wd wg9 := bl_then hXg8 hb9
        have hT9 := There.below hT8 hb9
        have hz9 : wg1.heap.size < wg9.heap.size := There.lt5 hT9
        go_wp2_with fail
        refine hK.out _ _ hXg9 (fun hHeld => ?_)
        clear hK K
        try simp only [Act.put, List.setIfInBounds_toArray, List.set_cons_zero, List.set_cons_succ]
        refine wpAnyH_ready (rs := [6]) (by kernel_rfl) (by simp) ?_
        refine (AllReadyH.cons rfl (fun K hK => ?_) AllReadyH.nil)
        rw [if_pos (by rfl)]
        have t0 := hT9.cell 0 (by omega)
        have f0 := (hT9 0 (by omega)).2
        have t1 := hT9.cell 1 (by omega)
        have f1 := (hT9 1 (by omega)).2
        have t2 := hT9.cell 2 (by omega)
        have f2 := (hT9 2 (by omega)).2
        have t3 := hT9.cell 3 (by omega)
        have f3 := (hT9 3 (by omega)).2
        have t4 := hT9.cell 4 (by omega)
        have f4 := (hT9 4 (by omega)).2
        go_simp
        refine hK.out _ _ (((((hXg9.setCell hs7 _).setCell hs7 _).setCell hs7 _).setCell hs7 _).setCell hs7 _) (fun hHeld => ?_)
        clear hK K
        try simp only [Act.put, List.setIfInBounds_toArray, List.set_cons_zero, List.set_cons_succ]
        obtain ⟨q0, q1, q2, q3, q4⟩ := set5_at (r := wg1.heap.size) (a := .int .i64 C) (b := .int .i64 z') (c := .int .i64 x') (d := .int .i64 y') (e := .slice a0 M cap0) hT9
        have hBf : Below wd.heap.size wd (((((wg9.setCell ⟨wg1.heap.size, 0, none⟩ (.int .i64 C)).setCell ⟨wg1.heap.size, 1, none⟩ (.int .i64 z')).setCell ⟨wg1.heap.size, 2, none⟩ (.int .i64 x')).setCell ⟨wg1.heap.size, 3, none⟩ (.int .i64 y')).setCell ⟨wg1.heap.size, 4, none⟩ (.slice a0 M cap0)) := (((((hXg9.setCell hs7 _).setCell hs7 _).setCell hs7 _).setCell hs7 _).setCell hs7 _)
        have hIf : IsFs (((((wg9.setCell ⟨wg1.heap.size, 0, none⟩ (.int .i64 C)).setCell ⟨wg1.heap.size, 1, none⟩ (.int .i64 z')).setCell ⟨wg1.heap.size, 2, none⟩ (.int .i64 x')).setCell ⟨wg1.heap.size, 3, none⟩ (.int .i64 y')).setCell ⟨wg1.heap.size, 4, none⟩ (.slice a0 M cap0)) a0 M S0 := (hO9.set5 (by omega)).isL (by simp)
        refine wpAnyH_done (by kernel_rfl) ?_ _
        refine NoPanic.normal ?_
        go_wp2_with fail
        go_meet
        case rel => exact ⟨_, a0, cap0, S0, rfl, hBf, hs7, ⟨q0, q1, q2, q3, q4⟩, hIf, hsam⟩
    · rw [if_pos (by rfl)]
      go_simp
      generalize hwA : (World.alloc _ _ : World) = wg10
      have hb10 : Below wd.heap.size wd wg10.drew := by subst hwA; (repeat (first | exact Below.refl _ _ | assumption | refine Below.drew ?_ | refine bl_alloc ?_ _ | refine bl_then ?_ (by assumption) | refine Below.setCell ?_ (by first | omega | (simp; done) | (simp; omega)) _ | refine bl_store ?_ ?_ _ _))
      have hT10 : There wg10.drew wd.heap.size 5 := by subst hwA; exact there5b wd _ _ _ _ _ _
      clear hwA
      have hXg10 : Below wd.heap.size wd wg10.drew := hb10
      have hs10 : wd.heap.size ≤ wd.heap.size := Nat.le_refl _
      have hz10 : wd.heap.size < wg10.drew.heap.size := There.lt5 hT10
      refine hK.out _ _ hXg10 (fun hHeld => ?_)
      clear hK K
      try simp only [Act.put, List.setIfInBounds_toArray, List.set_cons_zero, List.set_cons_succ]
      refine wpAnyH_ready (rs := [1]) (by kernel_rfl) (by simp) ?_
      refine (AllReadyH.cons rfl (fun K hK => ?_) AllReadyH.nil)
      rw [if_pos (by rfl)]
      go_simp
      refine Calls.mono (HTQd.out _ hXg10) ?_
      rintro e wg11 ⟨bq, Aq, rfl, hq11, hb11⟩
      have hXg11 : Below wd.heap.size wd wg11 := bl_then hXg10 hb11
      have hT11 := There.below hT10 hb11
      have hz11 : wd.heap.size < wg11.heap.size := There.lt5 hT11
      go_wp2_with fail
      refine hK.out _ _ hXg11 (fun hHeld => ?_)
      clear hK K
      try simp only [Act.put, List.setIfInBounds_toArray, List.set_cons_zero, List.set_cons_succ]
      refine wpAnyH_ready (rs := [3]) (by kernel_rfl) (by simp) ?_
      refine (AllReadyH.cons rfl (fun K hK => ?_) AllReadyH.nil)
      rw [if_pos (by rfl)]
      go_simp
      refine Calls.mono (toRef_any _ _ _ _) ?_
      rintro e wg12 ⟨rfl, hb12⟩
      have hq12 := OwnFs.below hq11 hb12
      have hXg12 : Below wd.heap.size wd wg12 := bl_then hXg11 hb12
      have hT12 := There.below hT11 hb12
      have hz12 : wd.heap.size < wg12.heap.size := There.lt5 hT12
      go_wp2_with fail
      refine hK.out _ _ hXg12 (fun hHeld => ?_)
      clear hK K
      try simp only [Act.put, List.setIfInBounds_toArray, List.set_cons_zero, List.set_cons_succ]
      refine wpAnyH_ready (rs := [4]) (by kernel_rfl) (by simp) ?_
      refine (AllReadyH.cons rfl (fun K hK => ?_) AllReadyH.nil)
      rw [if_pos (by rfl)]
      go_simp
      refine Calls.mono (Him2.out _ _ _ _ hq12) ?_
      rintro e wg13 ⟨a0, cap0, S0, rfl, hO13, hsam, hb13⟩
      have hXg13 : Below wd.heap.size wd wg13 := bl_then hXg12 hb13
      have hT13 := There.below hT12 hb13
      have hz13 : wd.heap.size < wg13.heap.size := There.lt5 hT13
      go_wp2_with fail
      refine hK.out _ _ hXg13 (fun hHeld => ?_)
      clear hK K
      try simp only [Act.put, List.setIfInBounds_toArray, List.set_cons_zero, List.set_cons_succ]
      refine wpAnyH_ready (rs := [6]) (by kernel_rfl) (by simp) ?_
      refine (AllReadyH.cons rfl (fun K hK => ?_) AllReadyH.nil)
      rw [if_pos (by rfl)]
      have t0 := hT13.cell 0 (by omega)
      have f0 := (hT13 0 (by omega)).2
      have t1 := hT13.cell 1 (by omega)
      have f1 := (hT13 1 (by omega)).2
      have t2 := hT13.cell 2 (by omega)
      have f2 := (hT13 2 (by omega)).2
      have t3 := hT13.cell 3 (by omega)
      have f3 := (hT13 3 (by omega)).2
      have t4 := hT13.cell 4 (by omega)
      have f4 := (hT13 4 (by omega)).2
      go_simp
      refine hK.out _ _ (((((hXg13.setCell hs10 _).setCell hs10 _).setCell hs10 _).setCell hs10 _).setCell hs10 _) (fun hHeld => ?_)
      clear hK K
      try simp only [Act.put, List.setIfInBounds_toArray, List.set_cons_zero, List.set_cons_succ]
      obtain ⟨q0, q1, q2, q3, q4⟩ := set5_at (r := wd.heap.size) (a := .int .i64 C) (b := .int .i64 z') (c := .int .i64 x') (d := .int .i64 y') (e := .slice a0 M cap0) hT13
      have hBf : Below wd.heap.size wd (((((wg13.setCell ⟨wd.heap.size, 0, none⟩ (.int .i64 C)).setCell ⟨wd.heap.size, 1, none⟩ (.int .i64 z')).setCell ⟨wd.heap.size, 2, none⟩ (.int .i64 x')).setCell ⟨wd.heap.size, 3, none⟩ (.int .i64 y')).setCell ⟨wd.heap.size, 4, none⟩ (.slice a0 M cap0)) := (((((hXg13.setCell hs10 _).setCell hs10 _).setCell hs10 _).setCell hs10 _).setCell hs10 _)
      have hIf : IsFs (((((wg13.setCell ⟨wd.heap.size, 0, none⟩ (.int .i64 C)).setCell ⟨wd.heap.size, 1, none⟩ (.int .i64 z')).setCell ⟨wd.heap.size, 2, none⟩ (.int .i64 x')).setCell ⟨wd.heap.size, 3, none⟩ (.int .i64 y')).setCell ⟨wd.heap.size, 4, none⟩ (.slice a0 M cap0)) a0 M S0 := (hO13.set5 (by omega)).isL (by simp)
      refine wpAnyH_done (by kernel_rfl) ?_ _
      refine NoPanic.normal ?_
      go_wp2_with fail
      go_meet
      case rel => exact ⟨_, a0, cap0, S0, rfl, hBf, hs10, ⟨q0, q1, q2, q3, q4⟩, hIf, hsam⟩
  obtain ⟨bf, af, capf, Tf, rfl, hbdf, hbfb, hRf, hFf, htf⟩ := hcut
  clear v0' v1' v2'
  generalize wc = wf at *
  have hsf := hbdf.size
  have Hbf : Hid (Below w3.heap.size w3 wf) := bl_then Hbd.out hbdf
  have HRgf : Hid (T5At wf w5.heap.size C z' x' y' (.slice a1 M cap1)) := HRgd.out.below hbdf
  have HKf : Hid (MarkR wf a1 M (fun i => (T1 i).n) (fun i => (T1 i).cap)) := HKd.out.below hbdf
  have HFf : Hid (IsFs wf af M Tf) := hFf
  have HSf : Hid (∀ i, i < M → (Tf i).same (S0 i)) := fun i hi => Feat.same_trans (htf i hi) (Feat.same_symm (HS0.out i hi))
  obtain ⟨n0, n1, n2, n3, n4⟩ := hRf
  clear hFf htf hbdf HRgd HKd Hbd
  obtain ⟨p0, p1, p2, p3, p4⟩ := HR0.out.below Hbf.out
  go_wp2_with fail
  refine (eqTileResult_out C z' x' y' af a0 M capf cap0 Tf S0 wf HFf.out (HF3.out.below Hbf.out) HSf.out hMn HNS.out).mono ?_
  rintro e wh ⟨rfl, hbh⟩
  have Hbh : Hid (Below w3.heap.size w3 wh) := bl_then Hbf.out hbh
  have HKh : Hid (MarkR wh a1 M (fun i => (T1 i).n) (fun i => (T1 i).cap)) := HKf.out.below hbh
  obtain ⟨g0, g1, g2, g3, g4⟩ := HRgf.out.below hbh
  clear hbh HRgf HKf Hbf HFf n0 n1 n2 n3 n4 p0 p1 p2 p3 p4
  go_wp2_with fail
  refine (Hheld.out _ HKh.out).mono ?_
  rintro e wi ⟨rfl, hbi⟩
  have HBi : Hid (Below w.heap.size w wi) := bl_then HB00.out (bl_then HB3.out (bl_then Hbh.out hbi))
  clear hbi g0 g1 g2 g3 g4
  go_wp2
  go_ret
  exact ⟨rfl, HBi.out⟩
theorem FnExactBuildTile_walk (a : Option Addr) (n cap : Nat) (F : Nat → Feat) (x0 x1 x2 : Int) (w : World) (h : IsFs w a n F ∧ CameFs n F) :
    Calls Tryz.prog 3 #[.slice a n cap, .agg #[.int .i64 x0, .int .i64 x1, .int .i64 x2]] w fun e w' => e = .returned (.bool true) ∧ Below w.heap.size w w' := by
  obtain ⟨hM12, hN12⟩ := btM_ok x0 x1 x2 n F
  refine FnExactBuildTile_law (btC x0 x1 x2 n F) (btK x0 x1 x2 n F x0) (btK x0 x1 x2 n F x1) (btK x0 x1 x2 n F x2) a n cap (btM x0 x1 x2 n F) F (btG x0 x1 x2 n F) x0 x1 x2 w h.1 h.2 (by omega) (fun i hi => by have := hN12 i hi; omega) ?_ ?_
  · intro hS b B A w hO
    have h := spec_BuildTile_any x0 x1 x2 b n n A w hO.2.2.1 hO.2.1 (hO.small hS)
    obtain ⟨e1, e2, e3, e4⟩ := bt_same (z := x0) (x := x1) (y := x2) (fun i hi => (hO.2.2.2 i hi).1)
    rw [e1, e2, e4, e4, e4] at h
    exact h.mono fun e w' ⟨a, cap, T, h1, h2, h3, _, h5⟩ => ⟨a, cap, T, h1, h2, fun i hi => by rw [← e3 i hi]; exact h3 i hi, h5⟩
  · intro hS b B A w hO
    have h := impl_BuildTile_any x0 x1 x2 b n n A w hO.2.2.1 hO.2.1 (hO.small hS) (Nat.le_refl _)
    obtain ⟨e1, e2, e3, e4⟩ := bt_same (z := x0) (x := x1) (y := x2) (fun i hi => (hO.2.2.2 i hi).1)
    rw [e1, e2, e4, e4, e4] at h
    exact h.mono fun e w' ⟨a, cap, T, h1, h2, h3, h4, _, h5⟩ => ⟨a, cap, T, h1, h2, fun i hi => by rw [← e3 i hi]; exact h3 i hi, h4, h5⟩
end Go.Proofs.YthadmnhpjklmiaaGreat
