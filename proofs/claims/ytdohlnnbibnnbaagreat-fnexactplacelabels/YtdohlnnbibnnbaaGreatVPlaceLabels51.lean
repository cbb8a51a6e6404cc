/- The law of PlaceLabels returns true at every list of features and every camera. -/
import Derived.Test.YtdohlnnbibnnbaaGreatVPlaceLabels48
import Derived.Test.YtdohlnnbibnnbaaGreatVPlaceLabels50
import Derived.Test.YtdohlnnbibnnbaaGreatVPlaceLabels38
namespace Go.Proofs.YtdohlnnbibnnbaaGreat
open Go.RowKit
set_option linter.unusedSimpArgs false
set_option linter.unusedVariables false
set_option maxRecDepth 100000

theorem OwnP.wide {w : World} {base B : Nat} {v : Value} {n : Nat} {Z : Nat → Plc} (h : OwnP w base v n Z) (hB : B ≤ base) : OwnP w B v n Z := by
  obtain ⟨a, cap, hv, hc, h0 | ⟨b, ha, hbb, hr⟩⟩ := h
  · exact ⟨a, cap, hv, hc, .inl h0⟩
  · exact ⟨a, cap, hv, hc, .inr ⟨b, ha, by omega, hr⟩⟩
theorem OwnP.setZ {w : World} {base B r o : Nat} {v u : Value} {n : Nat} {Z : Nat → Plc} (h : OwnP w base v n Z) (hr : r < base) (hB : B ≤ base) : OwnP (w.setCell ⟨r, o, none⟩ u) B v n Z := h.set hr hB
set_option maxHeartbeats 8000000 in
theorem FnExactPlaceLabels_law (c : Int) (a : Option Addr) (n cap m : Nat) (F : Nat → Feat) (x0 x1 x2 x3 x4 : Int) (Z : Nat → Plc) (w : World) (hI : IsFs w a n F) (hC : CameFs n F) (hm : m ≤ 1048576)
    (hsp : SmallFs n F → ∀ b B A w, OwnFs w B b n F A → Calls Tryz.prog 8 #[.slice (some ⟨b, 0, none⟩) n n, .agg #[.int .i64 x0, .int .i64 x1, .int .i64 x2, .int .i64 x3, .int .i64 x4]] w fun e w' => ∃ v, e = .returned (.agg #[.int .i64 c, v]) ∧ OwnP w' w.heap.size v m Z ∧ Below w.heap.size w w')
    (him : SmallFs n F → ∀ b B A w, OwnFs w B b n F A → Calls Tryz.prog 7 #[.slice (some ⟨b, 0, none⟩) n n, .agg #[.int .i64 x0, .int .i64 x1, .int .i64 x2, .int .i64 x3, .int .i64 x4]] w fun e w' => ∃ v, e = .returned (.agg #[.int .i64 c, v]) ∧ OwnP w' w.heap.size v m Z ∧ Below w.heap.size w w') :
    Calls Tryz.prog 4 #[.slice a n cap, .agg #[.int .i64 x0, .int .i64 x1, .int .i64 x2, .int .i64 x3, .int .i64 x4]] w fun e w' => e = .returned (.bool true) ∧ Below w.heap.size w w' := by
  have HI : Hid (IsFs w a n F) := hI
  have HZ : Hid (∀ W, Below w.heap.size w W → Calls Tryz.prog 16 #[.slice a n cap, .int .i64 1048576] W fun e w' => (e = .returned (.int .i64 (-1)) ∨ ∃ m : Nat, SmallFs n F ∧ e = .returned (.int .i64 m)) ∧ Below W.heap.size W w') := fun W hb => (szFeatureS_any a n cap F 1048576 W (by omega) (hI.below hb) hC).mono fun e w' ⟨h, hb'⟩ => ⟨h.imp id (fun ⟨m, _, h1, h2⟩ => ⟨m, h1, h2⟩), hb'⟩
  have Hsp0 := (show Hid _ from hsp)
  have Him0 := (show Hid _ from him)
  clear hI hC hsp him
  go_enter Tryz.func4, Tryz.ntmps4
  go_wp2_with fail
  generalize hW : (w.alloc _ : World) = W
  have hBW : Below w.heap.size w W := by subst hW; (repeat (first | exact Below.refl _ _ | assumption | refine Below.drew ?_ | refine bl_alloc ?_ _ | refine bl_then ?_ (by assumption) | refine Below.setCell ?_ (by first | omega | (simp; done) | (simp; omega)) _ | refine bl_store ?_ ?_ _ _))
  have c00 : ∀ W', Below W.heap.size W W' → W'.cell? ⟨w.heap.size, 0, none⟩ = some (.int .i64 x0) := fun W' h => by
    rw [h.cell (by subst hW; simp <;> omega)]; subst hW; simp [go_sem]
  have c01 : ∀ W', Below W.heap.size W W' → W'.cell? ⟨w.heap.size, 1, none⟩ = some (.int .i64 x1) := fun W' h => by
    rw [h.cell (by subst hW; simp <;> omega)]; subst hW; simp [go_sem]
  have c02 : ∀ W', Below W.heap.size W W' → W'.cell? ⟨w.heap.size, 2, none⟩ = some (.int .i64 x2) := fun W' h => by
    rw [h.cell (by subst hW; simp <;> omega)]; subst hW; simp [go_sem]
  have c03 : ∀ W', Below W.heap.size W W' → W'.cell? ⟨w.heap.size, 3, none⟩ = some (.int .i64 x3) := fun W' h => by
    rw [h.cell (by subst hW; simp <;> omega)]; subst hW; simp [go_sem]
  have c04 : ∀ W', Below W.heap.size W W' → W'.cell? ⟨w.heap.size, 4, none⟩ = some (.int .i64 x4) := fun W' h => by
    rw [h.cell (by subst hW; simp <;> omega)]; subst hW; simp [go_sem]
  clear hW
  refine Calls.mono (HZ.out W hBW) ?_
  rintro e w0 ⟨rfl | ⟨k0, hS, rfl⟩, hb0'⟩
  · go_wp2
    go_ret
    exact ⟨rfl, bl_then hBW hb0'⟩
  have hb0 : Below w.heap.size w w0 := bl_then hBW hb0'
  have y0 : ∀ W', Below w0.heap.size w0 W' → W'.cell? ⟨w.heap.size, 0, none⟩ = some (.int .i64 x0) := fun W' h => c00 W' (bl_then hb0' h)
  have y1 : ∀ W', Below w0.heap.size w0 W' → W'.cell? ⟨w.heap.size, 1, none⟩ = some (.int .i64 x1) := fun W' h => c01 W' (bl_then hb0' h)
  have y2 : ∀ W', Below w0.heap.size w0 W' → W'.cell? ⟨w.heap.size, 2, none⟩ = some (.int .i64 x2) := fun W' h => c02 W' (bl_then hb0' h)
  have y3 : ∀ W', Below w0.heap.size w0 W' → W'.cell? ⟨w.heap.size, 3, none⟩ = some (.int .i64 x3) := fun W' h => c03 W' (bl_then hb0' h)
  have y4 : ∀ W', Below w0.heap.size w0 W' → W'.cell? ⟨w.heap.size, 4, none⟩ = some (.int .i64 x4) := fun W' h => c04 W' (bl_then hb0' h)
  have hlw0 : w.heap.size < w0.heap.size := World.block_lt_of_cell? _ _ (y0 w0 (Below.refl _ _))
  clear c00 c01 c02 c03 c04 hb0' hBW
  have Hsp : Hid (∀ b B A w, OwnFs w B b n F A → Calls Tryz.prog 8 #[.slice (some ⟨b, 0, none⟩) n n, .agg #[.int .i64 x0, .int .i64 x1, .int .i64 x2, .int .i64 x3, .int .i64 x4]] w fun e w' => ∃ v, e = .returned (.agg #[.int .i64 c, v]) ∧ OwnP w' w.heap.size v m Z ∧ Below w.heap.size w w') := Hsp0.out hS
  have Him : Hid (∀ b B A w, OwnFs w B b n F A → Calls Tryz.prog 7 #[.slice (some ⟨b, 0, none⟩) n n, .agg #[.int .i64 x0, .int .i64 x1, .int .i64 x2, .int .i64 x3, .int .i64 x4]] w fun e w' => ∃ v, e = .returned (.agg #[.int .i64 c, v]) ∧ OwnP w' w.heap.size v m Z ∧ Below w.heap.size w w') := Him0.out hS
  have HS1 : Hid (SmallFs n F) := hS
  have HE : Hid (∀ i, i < n → (F i).n ≤ 1048576) := fun i hi => (hS.2 i hi).1
  have hn := hS.1
  have hk0 : ¬ (k0 : Int) < 0 := by omega
  clear HZ hS Hsp0 Him0
  have HTQ : Hid (∀ W', Below w0.heap.size w0 W' → Calls Tryz.prog 17 #[.slice a n cap] W' fun e w' => ∃ b A, e = .returned (.slice (some ⟨b, 0, none⟩) n n) ∧ OwnFs w' W'.heap.size b n F A ∧ Below W'.heap.size W' w') := fun W' h => toFeatureS_any a n cap F W' (HI.out.below (bl_then hb0 h)) hn HE.out
  go_wp2_with fail
  go_cut [6] (fun t wc => ∃ (b : Nat) (a0 : Option Addr) (cap0 : Nat), t = .pointer (some ⟨b, 0, none⟩) ∧ Below w0.heap.size w0 wc ∧ w0.heap.size ≤ b ∧ wc.cell? ⟨b, 0, none⟩ = some (.int .i64 c) ∧ wc.cell? ⟨b, 1, none⟩ = some (.slice a0 m cap0) ∧ IsLb wc a0 m Z)
  case first =>
    refine wp_region_noPanic ?_
    refine wp_region_held_drew (S := fun W' => Below w0.heap.size w0 W') (by kernel_rfl) (by (repeat (first | exact Below.refl _ _ | assumption | refine Below.drew ?_ | refine bl_alloc ?_ _ | refine bl_then ?_ (by assumption) | refine Below.setCell ?_ (by first | omega | (simp; done) | (simp; omega)) _ | refine bl_store ?_ ?_ _ _))) (fun hHeld => ?_)
    have hX0 : Below w0.heap.size w0 w0.drew := hHeld
    refine takeD (i := 0) (d := some 18) (v := ?vf0) rfl rfl (by kernel_rfl) (by kernel_rfl) (by kernel_rfl) (fun _ _ _ h => h) (Or.inl ⟨by rfl, ?hyf0⟩) (by assumption) ?_
    case hyf0 => (intro w hSw; (try dsimp only at hSw); go_simp <;> with_reducible rfl)
    try simp only [Act.put, List.setIfInBounds_toArray, List.set_cons_zero, List.set_cons_succ]
    refine takeD (i := 2) (d := some 20) (v := ?vf2) rfl rfl (by kernel_rfl) (by kernel_rfl) (by kernel_rfl) (fun _ _ _ h => h) (Or.inl ⟨by rfl, ?hyf2⟩) (by assumption) ?_
    case hyf2 => (intro w hSw; (try dsimp only at hSw); go_simp <;> with_reducible rfl)
    try simp only [Act.put, List.setIfInBounds_toArray, List.set_cons_zero, List.set_cons_succ]
    refine wpAnyH_ready (rs := [1, 5]) (by kernel_rfl) (by simp) ?_
    refine (AllReadyH.cons rfl (fun K hK => ?_) (AllReadyH.cons rfl (fun K hK => ?_) AllReadyH.nil))
    · rw [if_pos (by rfl)]
      go_simp
      refine Calls.mono (HTQ.out _ hX0) ?_
      rintro e wf1 ⟨bq, Aq, rfl, hq1, hb1⟩
      have hXf1 : Below w0.heap.size w0 wf1 := bl_then hX0 hb1
      go_wp2_with fail
      refine hK.out _ _ hXf1 (fun hHeld => ?_)
      clear hK K
      try simp only [Act.put, List.setIfInBounds_toArray, List.set_cons_zero, List.set_cons_succ]
      refine wpAnyH_ready (rs := [3, 5]) (by kernel_rfl) (by simp) ?_
      refine (AllReadyH.cons rfl (fun K hK => ?_) (AllReadyH.cons rfl (fun K hK => ?_) AllReadyH.nil))
      · rw [if_pos (by rfl)]
        go_simp
        refine Calls.mono (toCamera_any _ _ _ _ _ _) ?_
        rintro e wf2 ⟨rfl, hb2⟩
        have hq2 := OwnFs.below hq1 hb2
        have hXf2 : Below w0.heap.size w0 wf2 := bl_then hXf1 hb2
        go_wp2_with fail
        refine hK.out _ _ hXf2 (fun hHeld => ?_)
        clear hK K
        try simp only [Act.put, List.setIfInBounds_toArray, List.set_cons_zero, List.set_cons_succ]
        refine wpAnyH_ready (rs := [4, 5]) (by kernel_rfl) (by simp) ?_
        refine (AllReadyH.cons rfl (fun K hK => ?_) (AllReadyH.cons rfl (fun K hK => ?_) AllReadyH.nil))
        · rw [if_pos (by rfl)]
          go_simp
          refine Calls.mono (Hsp.out _ _ _ _ hq2) ?_
          rintro e wf3 ⟨v0, rfl, hO3, hb3⟩
          obtain ⟨a0, cap0, rfl, hc0, hI0⟩ := hO3.pts
          have hXf3 : Below w0.heap.size w0 wf3 := bl_then hXf2 hb3
          go_wp2_with fail
          refine hK.out _ _ hXf3 (fun hHeld => ?_)
          clear hK K
          try simp only [Act.put, List.setIfInBounds_toArray, List.set_cons_zero, List.set_cons_succ]
          refine wpAnyH_ready (rs := [5]) (by kernel_rfl) (by simp) ?_
          refine (AllReadyH.cons rfl (fun K hK => ?_) AllReadyH.nil)
          rw [if_pos (by rfl)]
          go_simp
          generalize hwA : (World.alloc _ _ : World) = wf4
          have hb4 : Below wf3.heap.size wf3 wf4 := by subst hwA; (repeat (first | exact Below.refl _ _ | assumption | refine Below.drew ?_ | refine bl_alloc ?_ _ | refine bl_then ?_ (by assumption) | refine Below.setCell ?_ (by first | omega | (simp; done) | (simp; omega)) _ | refine bl_store ?_ ?_ _ _))
          have hT4 : There wf4 wf3.heap.size 2 := by subst hwA; exact there2z wf3 _ _ _
          clear hwA
          have hXf4 : Below w0.heap.size w0 wf4 := bl_then hXf3 hb4
          have hs4 : w0.heap.size ≤ wf3.heap.size := Below.size hXf3
          have hz4 : wf3.heap.size < wf4.heap.size := There.lt2z hT4
          refine hK.out _ _ hXf4 (fun hHeld => ?_)
          clear hK K
          try simp only [Act.put, List.setIfInBounds_toArray, List.set_cons_zero, List.set_cons_succ]
          refine wpAnyH_ready (rs := [6]) (by kernel_rfl) (by simp) ?_
          refine (AllReadyH.cons rfl (fun K hK => ?_) AllReadyH.nil)
          rw [if_pos (by rfl)]
          have t0 := hT4.cell 0 (by omega)
          have t1 := hT4.cell 1 (by omega)
          have f0 := (hT4 0 (by omega)).2
          have f1 := (hT4 1 (by omega)).2
          go_simp
          refine hK.out _ _ ((hXf4.setCell hs4 _).setCell hs4 _) (fun hHeld => ?_)
          clear hK K
          try simp only [Act.put, List.setIfInBounds_toArray, List.set_cons_zero, List.set_cons_succ]
          obtain ⟨q0, q1⟩ := set2_at (r := wf3.heap.size) (u := .int .i64 c) (v := .slice a0 m cap0) (show (0 : Nat) ≠ 1 by omega) (by rw [t0]; rfl) (by rw [t1]; rfl)
          have hBf : Below w0.heap.size w0 ((wf4.setCell ⟨wf3.heap.size, 0, none⟩ (.int .i64 c)).setCell ⟨wf3.heap.size, 1, none⟩ (.slice a0 m cap0)) := (hXf4.setCell hs4 _).setCell hs4 _
          have hIf : IsLb ((wf4.setCell ⟨wf3.heap.size, 0, none⟩ (.int .i64 c)).setCell ⟨wf3.heap.size, 1, none⟩ (.slice a0 m cap0)) a0 m Z := (hO3.below ((hb4.setCell (Nat.le_refl _) _).setCell (Nat.le_refl _) _)).is
          refine wpAnyH_done (by kernel_rfl) ?_ _
          refine NoPanic.normal ?_
          go_wp2_with fail
          go_meet
          case rel => exact ⟨_, a0, cap0, rfl, hBf, hs4, q0, q1, hIf⟩
        · rw [if_pos (by rfl)]
          go_simp
          generalize hwA : (World.alloc _ _ : World) = wf5
          have hb5 : Below wf2.heap.size wf2 wf5 := by subst hwA; (repeat (first | exact Below.refl _ _ | assumption | refine Below.drew ?_ | refine bl_alloc ?_ _ | refine bl_then ?_ (by assumption) | refine Below.setCell ?_ (by first | omega | (simp; done) | (simp; omega)) _ | refine bl_store ?_ ?_ _ _))
          have hT5 : There wf5 wf2.heap.size 2 := by subst hwA; exact there2z wf2 _ _ _
          clear hwA
          have hXf5 : Below w0.heap.size w0 wf5 := bl_then hXf2 hb5
          have hs5 : w0.heap.size ≤ wf2.heap.size := Below.size hXf2
          have hz5 : wf2.heap.size < wf5.heap.size := There.lt2z hT5
          have hq5 := OwnFs.below hq2 hb5
          refine hK.out _ _ hXf5 (fun hHeld => ?_)
          clear hK K
          try simp only [Act.put, List.setIfInBounds_toArray, List.set_cons_zero, List.set_cons_succ]
          refine wpAnyH_ready (rs := [4]) (by kernel_rfl) (by simp) ?_
          refine (AllReadyH.cons rfl (fun K hK => ?_) AllReadyH.nil)
          rw [if_pos (by rfl)]
          go_simp
          refine Calls.mono (Hsp.out _ _ _ _ hq5) ?_
          rintro e wf6 ⟨v0, rfl, hO6, hb6⟩
          obtain ⟨a0, cap0, rfl, hc0, hI0⟩ := hO6.pts
          have hXf6 : Below w0.heap.size w0 wf6 := bl_then hXf5 hb6
          have hT6 := There.below hT5 hb6
          have hz6 : wf2.heap.size < wf6.heap.size := There.lt2z hT6
          go_wp2_with fail
          refine hK.out _ _ hXf6 (fun hHeld => ?_)
          clear hK K
          try simp only [Act.put, List.setIfInBounds_toArray, List.set_cons_zero, List.set_cons_succ]
          refine wpAnyH_ready (rs := [6]) (by kernel_rfl) (by simp) ?_
          refine (AllReadyH.cons rfl (fun K hK => ?_) AllReadyH.nil)
          rw [if_pos (by rfl)]
          have t0 := hT6.cell 0 (by omega)
          have t1 := hT6.cell 1 (by omega)
          have f0 := (hT6 0 (by omega)).2
          have f1 := (hT6 1 (by omega)).2
          go_simp
          refine hK.out _ _ ((hXf6.setCell hs5 _).setCell hs5 _) (fun hHeld => ?_)
          clear hK K
          try simp only [Act.put, List.setIfInBounds_toArray, List.set_cons_zero, List.set_cons_succ]
          obtain ⟨q0, q1⟩ := set2_at (r := wf2.heap.size) (u := .int .i64 c) (v := .slice a0 m cap0) (show (0 : Nat) ≠ 1 by omega) (by rw [t0]; rfl) (by rw [t1]; rfl)
          have hBf : Below w0.heap.size w0 ((wf6.setCell ⟨wf2.heap.size, 0, none⟩ (.int .i64 c)).setCell ⟨wf2.heap.size, 1, none⟩ (.slice a0 m cap0)) := (hXf6.setCell hs5 _).setCell hs5 _
          have hIf : IsLb ((wf6.setCell ⟨wf2.heap.size, 0, none⟩ (.int .i64 c)).setCell ⟨wf2.heap.size, 1, none⟩ (.slice a0 m cap0)) a0 m Z := ((hO6.setZ (by omega) (Nat.le_refl _)).setZ (by omega) (Nat.le_refl _)).is
          refine wpAnyH_done (by kernel_rfl) ?_ _
          refine NoPanic.normal ?_
          go_wp2_with fail
          go_meet
          case rel => exact ⟨_, a0, cap0, rfl, hBf, hs5, q0, q1, hIf⟩
      · rw [if_pos (by rfl)]
        go_simp
        generalize hwA : (World.alloc _ _ : World) = wf7
        have hb7 : Below wf1.heap.size wf1 wf7 := by subst hwA; (repeat (first | exact Below.refl _ _ | assumption | refine Below.drew ?_ | refine bl_alloc ?_ _ | refine bl_then ?_ (by assumption) | refine Below.setCell ?_ (by first | omega | (simp; done) | (simp; omega)) _ | refine bl_store ?_ ?_ _ _))
        have hT7 : There wf7 wf1.heap.size 2 := by subst hwA; exact there2z wf1 _ _ _
        clear hwA
        have hXf7 : Below w0.heap.size w0 wf7 := bl_then hXf1 hb7
        have hs7 : w0.heap.size ≤ wf1.heap.size := Below.size hXf1
        have hz7 : wf1.heap.size < wf7.heap.size := There.lt2z hT7
        have hq7 := OwnFs.below hq1 hb7
        refine hK.out _ _ hXf7 (fun hHeld => ?_)
        clear hK K
        try simp only [Act.put, List.setIfInBounds_toArray, List.set_cons_zero, List.set_cons_succ]
        refine wpAnyH_ready (rs := [3]) (by kernel_rfl) (by simp) ?_
        refine (AllReadyH.cons rfl (fun K hK => ?_) AllReadyH.nil)
        rw [if_pos (by rfl)]
        go_simp
        refine Calls.mono (toCamera_any _ _ _ _ _ _) ?_
        rintro e wf8 ⟨rfl, hb8⟩
        have hq8 := OwnFs.below hq7 hb8
        have hXf8 : Below w0.heap.size w0 wf8 := bl_then hXf7 hb8
        have hT8 := There.below hT7 hb8
        have hz8 : wf1.heap.size < wf8.heap.size := There.lt2z hT8
        go_wp2_with fail
        refine hK.out _ _ hXf8 (fun hHeld => ?_)
        clear hK K
        try simp only [Act.put, List.setIfInBounds_toArray, List.set_cons_zero, List.set_cons_succ]
        refine wpAnyH_ready (rs := [4]) (by kernel_rfl) (by simp) ?_
        refine (AllReadyH.cons rfl (fun K hK => ?_) AllReadyH.nil)
        rw [if_pos (by rfl)]
        go_simp
        refine Calls.mono (Hsp.out _ _ _ _ hq8) ?_
        rintro e wf9 ⟨v0, rfl, hO9, hb9⟩
        obtain ⟨a0, cap0, rfl, hc0, hI0⟩ := hO9.pts
        have hXf9 : Below w0.heap.size w0 wf9 := bl_then hXf8 hb9
        have hT9 := There.below hT8 hb9
        have hz9 : wf1.heap.size < wf9.heap.size := There.lt2z hT9
        go_wp2_with fail
        refine hK.out _ _ hXf9 (fun hHeld => ?_)
        clear hK K
        try simp only [Act.put, List.setIfInBounds_toArray, List.set_cons_zero, List.set_cons_succ]
        refine wpAnyH_ready (rs := [6]) (by kernel_rfl) (by simp) ?_
        refine (AllReadyH.cons rfl (fun K hK => ?_) AllReadyH.nil)
        rw [if_pos (by rfl)]
        have t0 := hT9.cell 0 (by omega)
        have t1 := hT9.cell 1 (by omega)
        have f0 := (hT9 0 (by omega)).2
        have f1 := (hT9 1 (by omega)).2
        go_simp
        refine hK.out _ _ ((hXf9.setCell hs7 _).setCell hs7 _) (fun hHeld => ?_)
        clear hK K
        try simp only [Act.put, List.setIfInBounds_toArray, List.set_cons_zero, List.set_cons_succ]
        obtain ⟨q0, q1⟩ := set2_at (r := wf1.heap.size) (u := .int .i64 c) (v := .slice a0 m cap0) (show (0 : Nat) ≠ 1 by omega) (by rw [t0]; rfl) (by rw [t1]; rfl)
        have hBf : Below w0.heap.size w0 ((wf9.setCell ⟨wf1.heap.size, 0, none⟩ (.int .i64 c)).setCell ⟨wf1.heap.size, 1, none⟩ (.slice a0 m cap0)) := (hXf9.setCell hs7 _).setCell hs7 _
        have hIf : IsLb ((wf9.setCell ⟨wf1.heap.size, 0, none⟩ (.int .i64 c)).setCell ⟨wf1.heap.size, 1, none⟩ (.slice a0 m cap0)) a0 m Z := ((hO9.setZ (by omega) (Nat.le_refl _)).setZ (by omega) (Nat.le_refl _)).is
        refine wpAnyH_done (by kernel_rfl) ?_ _
        refine NoPanic.normal ?_
        go_wp2_with fail
        go_meet
        case rel => exact ⟨_, a0, cap0, rfl, hBf, hs7, q0, q1, hIf⟩
    · rw [if_pos (by rfl)]
      go_simp
      generalize hwA : (World.alloc _ _ : World) = wf10
      have hb10 : Below w0.heap.size w0 wf10.drew := by subst hwA; (repeat (first | exact Below.refl _ _ | assumption | refine Below.drew ?_ | refine bl_alloc ?_ _ | refine bl_then ?_ (by assumption) | refine Below.setCell ?_ (by first | omega | (simp; done) | (simp; omega)) _ | refine bl_store ?_ ?_ _ _))
      have hT10 : There wf10.drew w0.heap.size 2 := by subst hwA; exact there2z w0 _ _ _
      clear hwA
      have hXf10 : Below w0.heap.size w0 wf10.drew := hb10
      have hs10 : w0.heap.size ≤ w0.heap.size := Nat.le_refl _
      have hz10 : w0.heap.size < wf10.drew.heap.size := There.lt2z hT10
      refine hK.out _ _ hXf10 (fun hHeld => ?_)
      clear hK K
      try simp only [Act.put, List.setIfInBounds_toArray, List.set_cons_zero, List.set_cons_succ]
      refine wpAnyH_ready (rs := [1]) (by kernel_rfl) (by simp) ?_
      refine (AllReadyH.cons rfl (fun K hK => ?_) AllReadyH.nil)
      rw [if_pos (by rfl)]
      go_simp
      refine Calls.mono (HTQ.out _ hXf10) ?_
      rintro e wf11 ⟨bq, Aq, rfl, hq11, hb11⟩
      have hXf11 : Below w0.heap.size w0 wf11 := bl_then hXf10 hb11
      have hT11 := There.below hT10 hb11
      have hz11 : w0.heap.size < wf11.heap.size := There.lt2z hT11
      go_wp2_with fail
      refine hK.out _ _ hXf11 (fun hHeld => ?_)
      clear hK K
      try simp only [Act.put, List.setIfInBounds_toArray, List.set_cons_zero, List.set_cons_succ]
      refine wpAnyH_ready (rs := [3]) (by kernel_rfl) (by simp) ?_
      refine (AllReadyH.cons rfl (fun K hK => ?_) AllReadyH.nil)
      rw [if_pos (by rfl)]
      go_simp
      refine Calls.mono (toCamera_any _ _ _ _ _ _) ?_
      rintro e wf12 ⟨rfl, hb12⟩
      have hq12 := OwnFs.below hq11 hb12
      have hXf12 : Below w0.heap.size w0 wf12 := bl_then hXf11 hb12
      have hT12 := There.below hT11 hb12
      have hz12 : w0.heap.size < wf12.heap.size := There.lt2z hT12
      go_wp2_with fail
      refine hK.out _ _ hXf12 (fun hHeld => ?_)
      clear hK K
      try simp only [Act.put, List.setIfInBounds_toArray, List.set_cons_zero, List.set_cons_succ]
      refine wpAnyH_ready (rs := [4]) (by kernel_rfl) (by simp) ?_
      refine (AllReadyH.cons rfl (fun K hK => ?_) AllReadyH.nil)
      rw [if_pos (by rfl)]
      go_simp
      refine Calls.mono (Hsp.out _ _ _ _ hq12) ?_
      rintro e wf13 ⟨v0, rfl, hO13, hb13⟩
      obtain ⟨a0, cap0, rfl, hc0, hI0⟩ := hO13.pts
      have hXf13 : Below w0.heap.size w0 wf13 := bl_then hXf12 hb13
      have hT13 := There.below hT12 hb13
      have hz13 : w0.heap.size < wf13.heap.size := There.lt2z hT13
      go_wp2_with fail
      refine hK.out _ _ hXf13 (fun hHeld => ?_)
      clear hK K
      try simp only [Act.put, List.setIfInBounds_toArray, List.set_cons_zero, List.set_cons_succ]
      refine wpAnyH_ready (rs := [6]) (by kernel_rfl) (by simp) ?_
      refine (AllReadyH.cons rfl (fun K hK => ?_) AllReadyH.nil)
      rw [if_pos (by rfl)]
      have t0 := hT13.cell 0 (by omega)
      have t1 := hT13.cell 1 (by omega)
      have f0 := (hT13 0 (by omega)).2
      have f1 := (hT13 1 (by omega)).2
      go_simp
      refine hK.out _ _ ((hXf13.setCell hs10 _).setCell hs10 _) (fun hHeld => ?_)
      clear hK K
      try simp only [Act.put, List.setIfInBounds_toArray, List.set_cons_zero, List.set_cons_succ]
      obtain ⟨q0, q1⟩ := set2_at (r := w0.heap.size) (u := .int .i64 c) (v := .slice a0 m cap0) (show (0 : Nat) ≠ 1 by omega) (by rw [t0]; rfl) (by rw [t1]; rfl)
      have hBf : Below w0.heap.size w0 ((wf13.setCell ⟨w0.heap.size, 0, none⟩ (.int .i64 c)).setCell ⟨w0.heap.size, 1, none⟩ (.slice a0 m cap0)) := (hXf13.setCell hs10 _).setCell hs10 _
      have hIf : IsLb ((wf13.setCell ⟨w0.heap.size, 0, none⟩ (.int .i64 c)).setCell ⟨w0.heap.size, 1, none⟩ (.slice a0 m cap0)) a0 m Z := ((hO13.setZ (by omega) (Nat.le_refl _)).setZ (by omega) (Nat.le_refl _)).is
      refine wpAnyH_done (by kernel_rfl) ?_ _
      refine NoPanic.normal ?_
      go_wp2_with fail
      go_meet
      case rel => exact ⟨_, a0, cap0, rfl, hBf, hs10, q0, q1, hIf⟩
  obtain ⟨bw, a0, cap0, rfl, hBc, hbw, d0', d1', hI0'⟩ := hcut
  have hB3 : Below w0.heap.size w0 wc := hBc
  have hs23 : bw < wc.heap.size := World.block_lt_of_cell? _ _ d0'
  have c0 : ∀ W', Below wc.heap.size wc W' → W'.cell? ⟨bw, 0, none⟩ = some (.int .i64 c) := fun W' h => (h.cell (p := ⟨bw, 0, none⟩) hs23).trans d0'
  have c1 : ∀ W', Below wc.heap.size wc W' → W'.cell? ⟨bw, 1, none⟩ = some (.slice a0 m cap0) := fun W' h => (h.cell (p := ⟨bw, 1, none⟩) hs23).trans d1'
  have HI3 : Hid (UnderP wc.heap.size wc a0 m Z) := hI0'
  have HB00 : Hid (Below w.heap.size w w0) := hb0
  have HI0 : Hid (IsFs w0 a n F) := HI.out.below hb0
  clear hBc d0' d1' hI0'
  generalize wc = w3 at *
  go_wp2_with fail
  refine (toFeatureS_own a n cap F _ (HI0.out.below hB3) hn HE.out).mono ?_
  rintro e w4 ⟨b4, A4, rfl, hO4, ⟨q4, hT4⟩, hb4⟩
  have HO4 : Hid (OwnFs w4 w3.heap.size b4 n F A4) := hO4
  have HM4 : Hid (OwnQ w4 w3.heap.size w4.heap.size b4 n (fun i => (F i).n) (fun i => (F i).n) q4) := hT4
  have hle34 := hb4.size
  have z0 := y0 w4 (bl_then hB3 hb4)
  have z1 := y1 w4 (bl_then hB3 hb4)
  have z2 := y2 w4 (bl_then hB3 hb4)
  have z3 := y3 w4 (bl_then hB3 hb4)
  have z4 := y4 w4 (bl_then hB3 hb4)
  clear hO4 hT4
  go_wp2_with fail
  refine (toCamera_any _ _ _ _ _ _).mono ?_
  rintro e w4b ⟨rfl, hb4b⟩
  have HO4b : Hid (OwnFs w4b w3.heap.size b4 n F A4) := HO4.out.below hb4b
  go_wp2_with fail
  refine (Him.out _ _ _ _ HO4b.out).mono ?_
  rintro e w5 ⟨v1, rfl, hO5b, hb5b⟩
  have hO5 : OwnP w5 w4.heap.size v1 m Z := hO5b.wide hb4b.size
  have hb5 : Below w4.heap.size w4 w5 := bl_then hb4b hb5b
  clear hO5b hb5b hb4b HO4b z0 z1 z2 z3 z4
  obtain ⟨a1, cap1, rfl, hc1, hI1⟩ := hO5.pts
  have hB5 : Below w3.heap.size w3 w5 := bl_then hb4 hb5
  have HO4' : Hid (OwnFs w5 w3.heap.size b4 n F A4) := HO4.out.below hb5
  have HM5 : Hid (OwnQ w5 w3.heap.size w4.heap.size b4 n (fun i => (F i).n) (fun i => (F i).n) q4) := HM4.out.below hb5
  have HO5 : Hid (OwnP w5 w4.heap.size (.slice a1 m cap1) m Z) := hO5
  have HU5 : Hid (UnderP w5.heap.size w5 a1 m Z) := hI1
  have hle45 := hb5.size
  clear hb4 hb5 HO4 HM4 hO5 hI1
  have k0' := c0 w5 hB5
  have k1' := c1 w5 hB5
  have hlw : bw < w5.heap.size := World.block_lt_of_cell? _ _ k0'
  go_wp2_with fail
  generalize hW6 : (w5.alloc _ : World) = w6
  have hb56 : Below w5.heap.size w5 w6 := by subst hW6; (repeat (first | exact Below.refl _ _ | assumption | refine Below.drew ?_ | refine bl_alloc ?_ _ | refine bl_then ?_ (by assumption) | refine Below.setCell ?_ (by first | omega | (simp; done) | (simp; omega)) _ | refine bl_store ?_ ?_ _ _))
  have d0 : ∀ W', Below w6.heap.size w6 W' → W'.cell? ⟨w5.heap.size, 0, none⟩ = some (.int .i64 c) := fun W' h => by
    rw [h.cell (by subst hW6; simp)]; subst hW6; simp [go_sem]
  have d1 : ∀ W', Below w6.heap.size w6 W' → W'.cell? ⟨w5.heap.size, 1, none⟩ = some (.slice a1 m cap1) := fun W' h => by
    rw [h.cell (by subst hW6; simp)]; subst hW6; simp [go_sem]
  have hs56 : w5.heap.size < w6.heap.size := by subst hW6; simp
  clear hW6 k0' k1'
  have hB6 : Below w3.heap.size w3 w6 := bl_then hB5 hb56
  have HO6 : Hid (OwnP w6 w4.heap.size (.slice a1 m cap1) m Z) := HO5.out.below hb56
  have HQ6 : Hid (OwnFs w6 w3.heap.size b4 n F A4) := HO4'.out.below hb56
  have HM6 : Hid (OwnQ w6 w3.heap.size w4.heap.size b4 n (fun i => (F i).n) (fun i => (F i).n) q4) := HM5.out.below hb56
  have HI6 : Hid (UnderP w3.heap.size w6 a0 m Z) := HI3.out.below hB6 (Nat.le_refl _)
  clear hb56 HO5 HO4' HM5 hB5
  have hle36 := hB6.size
  refine (eqPlacedResult_any c _ _ _ _ _ Z _ HO6.out.is (HI6.out.is hle36) hm).mono ?_
  rintro e w7 ⟨rfl, hb7⟩
  have HO7 : Hid (OwnP w7 w4.heap.size (.slice a1 m cap1) m Z) := HO6.out.below hb7
  have HQ7 : Hid (OwnFs w7 w3.heap.size b4 n F A4) := HQ6.out.below hb7
  have HM7 : Hid (OwnQ w7 w3.heap.size w4.heap.size b4 n (fun i => (F i).n) (fun i => (F i).n) q4) := HM6.out.below hb7
  have HI7 : Hid (UnderP w3.heap.size w7 a0 m Z) := HI6.out.below hb7 (by omega)
  have hB67 : Below w6.heap.size w6 w7 := hb7
  clear HO6 HQ6 HM6 HI6 hb7
  go_wp2_with fail
  refine (toFeatureS_any a n cap F _ (HI0.out.below (bl_then hB3 (bl_then hB6 hB67))) hn HE.out).mono ?_
  rintro e w8 ⟨b8, A8, rfl, hO8, hb8⟩
  have HP8 : Hid (OwnFs w8 w7.heap.size b8 n F A8) := hO8
  have HQ8 : Hid (OwnFs w8 w3.heap.size b4 n F A4) := HQ7.out.below hb8
  have HM8 : Hid (OwnQ w8 w3.heap.size w4.heap.size b4 n (fun i => (F i).n) (fun i => (F i).n) q4) := HM7.out.below hb8
  have HO8 : Hid (OwnP w8 w4.heap.size (.slice a1 m cap1) m Z) := HO7.out.below hb8
  have HI8 : Hid (UnderP w3.heap.size w8 a0 m Z) := HI7.out.below hb8 (by have := hB67.size; omega)
  have hB68 : Below w6.heap.size w6 w8 := bl_then hB67 hb8
  clear hO8 HQ7 HM7 HO7 HI7 hB67 hb8
  go_wp2_with fail
  refine (eqFeatureS_any b4 b8 n _ _ F A4 A8 _ HQ8.out HP8.out HS1.out).mono ?_
  rintro e w9 ⟨rfl, hb9⟩
  have HM9 : Hid (OwnQ w9 w3.heap.size w4.heap.size b4 n (fun i => (F i).n) (fun i => (F i).n) q4) := HM8.out.below hb9
  have HO9 : Hid (OwnP w9 w4.heap.size (.slice a1 m cap1) m Z) := HO8.out.below hb9
  have HI9 : Hid (UnderP w3.heap.size w9 a0 m Z) := HI8.out.below hb9 (by have := hB68.size; omega)
  have hB69 : Below w6.heap.size w6 w9 := bl_then hB68 hb9
  clear HP8 HQ8 HM8 HO8 HI8 hB68 hb9
  go_wp2_with fail
  -- the argument is marked
  refine (markFs_any w3.heap.size w4.heap.size b4 n n 1 (fun i => (F i).n) (fun i => (F i).n) q4 _ HM9.out hn HE.out (by omega) (by omega)).mono ?_
  rintro e wa ⟨rfl, _, hMa, _⟩
  generalize kS (fun i => (F i).n) 1 n = K at *
  have hK0 : ¬ (K : Int) < 0 := by omega
  have hB39 : Below w3.heap.size w3 w9 := bl_then hB6 hB69
  have hle69 := hB69.size
  have hle39 := hB39.size
  have hle03 := hB3.size
  have l0 : wa.cell? ⟨w5.heap.size, 0, none⟩ = some (.int .i64 c) := hMa.cell (d0 w9 hB69) (.inr (by omega))
  have l1 : wa.cell? ⟨w5.heap.size, 1, none⟩ = some (.slice a1 m cap1) := hMa.cell (d1 w9 hB69) (.inr (by omega))
  have m0 : wa.cell? ⟨bw, 0, none⟩ = some (.int .i64 c) := hMa.cell (c0 w9 hB39) (.inl (by omega))
  have m1 : wa.cell? ⟨bw, 1, none⟩ = some (.slice a0 m cap0) := hMa.cell (c1 w9 hB39) (.inl (by omega))
  have HOa : Hid (OwnP wa w4.heap.size (.slice a1 m cap1) m Z) := HO9.out.mid hMa (Nat.le_refl _)
  have HIa : Hid (UnderP w3.heap.size wa a0 m Z) := HI9.out.mid hMa (Nat.le_refl _)
  have hwa : w9.heap.size ≤ wa.heap.size := hMa.size
  have HBa : Hid (Below w0.heap.size w0 wa) := (bl_then hB3 hB39).trans ((hMa.below (by omega)).mono hle03)
  clear c0 c1 d0 d1 HM9 HO9 HI9 HI3 hMa hB39 hB69 hB6 hB3
  go_wp2_with fail
  refine (eqPlacedResult_any c _ _ _ _ _ Z _ HOa.out.is (HIa.out.is (by omega)) hm).mono ?_
  rintro e wb ⟨rfl, hbb⟩
  have g0 := bl_cell hbb l0
  have g1 := bl_cell hbb l1
  have p0 := bl_cell hbb m0
  have p1 := bl_cell hbb m1
  clear l0 l1 m0 m1
  have hwb := hbb.size
  have HOb : Hid (OwnP wb w4.heap.size (.slice a1 m cap1) m Z) := HOa.out.below hbb
  have HIb : Hid (UnderP w3.heap.size wb a0 m Z) := HIa.out.below hbb (by omega)
  have HBb : Hid (Below w0.heap.size w0 wb) := bl_then HBa.out hbb
  clear HOa HIa HBa hbb
  -- the answer is marked
  obtain ⟨row, hrow, Hmark⟩ := mark_ownP c w4.heap.size w5.heap.size m cap1 a1 Z Z wb w5 HOb.out HU5.out hm
  have Hmark' := (show Hid _ from Hmark)
  have Hrow := (show Hid _ from hrow)
  clear Hmark hrow
  have hqm : ¬ ((1 + 5 * m : Nat) : Int) < 0 := by omega
  have Hheld : Hid (∀ w, OwnP w w4.heap.size (.slice a1 m cap1) m (mkP 1) → Calls Tryz.prog 23 #[.agg #[.int .i64 c, .slice a1 m cap1], .int .i64 1] w fun e w' => e = .returned (.int .i64 ((1 + 5 * m : Nat) : Int)) ∧ Below w.heap.size w w') := fun w h => heldPlacedResult_any c a1 m cap1 w h.is hm
  generalize ((1 + 5 * m : Nat) : Int) = qm at *
  go_wp2_with fail
  refine Calls.mono Hmark'.out ?_
  rintro e wc ⟨rfl, hGc, hOc⟩
  have hwc := hGc.size
  have l0 : wc.cell? ⟨w5.heap.size, 0, none⟩ = some (.int .i64 c) := ro_cell hGc g0 (fun s hs => by have := Hrow.out s hs; omega)
  have l1 : wc.cell? ⟨w5.heap.size, 1, none⟩ = some (.slice a1 m cap1) := ro_cell hGc g1 (fun s hs => by have := Hrow.out s hs; omega)
  have m0 : wc.cell? ⟨bw, 0, none⟩ = some (.int .i64 c) := ro_cell hGc p0 (fun s hs => by have := Hrow.out s hs; omega)
  have m1 : wc.cell? ⟨bw, 1, none⟩ = some (.slice a0 m cap0) := ro_cell hGc p1 (fun s hs => by have := Hrow.out s hs; omega)
  have HOc : Hid (OwnP wc w4.heap.size (.slice a1 m cap1) m (mkP 1)) := hOc
  have HIc : Hid (UnderP w3.heap.size wc a0 m Z) := HIb.out.row hGc (fun s hs => by have := Hrow.out s hs; omega)
  have HBc : Hid (Below w0.heap.size w0 wc) := HBb.out.trans (below_row hGc (fun s hs => by have := Hrow.out s hs; omega) (by omega))
  clear g0 g1 p0 p1 hOc hGc HBb HIb HOb Hmark'
  go_wp2_with fail
  refine (Hheld.out _ HOc.out).mono ?_
  rintro e wd ⟨rfl, hbd⟩
  have hwd := hbd.size
  have g0 := bl_cell hbd l0
  have g1 := bl_cell hbd l1
  have p0 := bl_cell hbd m0
  have p1 := bl_cell hbd m1
  have HOd : Hid (OwnP wd w4.heap.size (.slice a1 m cap1) m (mkP 1)) := HOc.out.below hbd
  have HId : Hid (UnderP w3.heap.size wd a0 m Z) := HIc.out.below hbd (by omega)
  have HBd : Hid (Below w0.heap.size w0 wd) := bl_then HBc.out hbd
  clear l0 l1 m0 m1 HOc HIc HBc hbd
  go_wp2_with fail
  -- once more
  have HTQd : Hid (∀ W', Below wd.heap.size wd W' → Calls Tryz.prog 17 #[.slice a n cap] W' fun e w' => ∃ b A, e = .returned (.slice (some ⟨b, 0, none⟩) n n) ∧ OwnFs w' W'.heap.size b n F A ∧ Below W'.heap.size W' w') := fun W' h => HTQ.out W' (bl_then HBd.out h)
  have v0' : ∀ W', Below wd.heap.size wd W' → W'.cell? ⟨w.heap.size, 0, none⟩ = some (.int .i64 x0) := fun W' h => y0 W' (bl_then HBd.out h)
  have v1' : ∀ W', Below wd.heap.size wd W' → W'.cell? ⟨w.heap.size, 1, none⟩ = some (.int .i64 x1) := fun W' h => y1 W' (bl_then HBd.out h)
  have v2' : ∀ W', Below wd.heap.size wd W' → W'.cell? ⟨w.heap.size, 2, none⟩ = some (.int .i64 x2) := fun W' h => y2 W' (bl_then HBd.out h)
  have v3' : ∀ W', Below wd.heap.size wd W' → W'.cell? ⟨w.heap.size, 3, none⟩ = some (.int .i64 x3) := fun W' h => y3 W' (bl_then HBd.out h)
  have v4' : ∀ W', Below wd.heap.size wd W' → W'.cell? ⟨w.heap.size, 4, none⟩ = some (.int .i64 x4) := fun W' h => y4 W' (bl_then HBd.out h)
  clear y0 y1 y2 y3 y4
  have hlwd : w.heap.size < wd.heap.size := World.block_lt_of_cell? _ _ (v0' wd (Below.refl _ _))
  go_cut [12] (fun t wx => ∃ (b : Nat) (a0 : Option Addr) (cap0 : Nat), t = .pointer (some ⟨b, 0, none⟩) ∧ Below wd.heap.size wd wx ∧ wd.heap.size ≤ b ∧ wx.cell? ⟨b, 0, none⟩ = some (.int .i64 c) ∧ wx.cell? ⟨b, 1, none⟩ = some (.slice a0 m cap0) ∧ IsLb wx a0 m Z)
  case first =>
    refine wp_region_noPanic ?_
    refine wp_region_held_drew (S := fun W' => Below wd.heap.size wd W') (by kernel_rfl) (by (repeat (first | exact Below.refl _ _ | assumption | refine Below.drew ?_ | refine bl_alloc ?_ _ | refine bl_then ?_ (by assumption) | refine Below.setCell ?_ (by first | omega | (simp; done) | (simp; omega)) _ | refine bl_store ?_ ?_ _ _))) (fun hHeld => ?_)
    have hX0 : Below wd.heap.size wd wd.drew := hHeld
    refine takeD (i := 0) (d := some 60) (v := ?vg0) rfl rfl (by kernel_rfl) (by kernel_rfl) (by kernel_rfl) (fun _ _ _ h => h) (Or.inl ⟨by rfl, ?hyg0⟩) (by assumption) ?_
    case hyg0 => (intro w hSw; (try dsimp only at hSw); go_simp <;> with_reducible rfl)
    try simp only [Act.put, List.setIfInBounds_toArray, List.set_cons_zero, List.set_cons_succ]
    refine takeD (i := 2) (d := some 62) (v := ?vg2) rfl rfl (by kernel_rfl) (by kernel_rfl) (by kernel_rfl) (fun _ _ _ h => h) (Or.inl ⟨by rfl, ?hyg2⟩) (by assumption) ?_
    case hyg2 => (intro w hSw; (try dsimp only at hSw); go_simp <;> with_reducible rfl)
    try simp only [Act.put, List.setIfInBounds_toArray, List.set_cons_zero, List.set_cons_succ]
    refine wpAnyH_ready (rs := [1, 5]) (by kernel_rfl) (by simp) ?_
    refine (AllReadyH.cons rfl (fun K hK => ?_) (AllReadyH.cons rfl (fun K hK => ?_) AllReadyH.nil))
    · rw [if_pos (by rfl)]
      go_simp
      refine Calls.mono (HTQd.out _ hX0) ?_
      rintro e wg1 ⟨bq, Aq, rfl, hq1, hb1⟩
      have hXg1 : Below wd.heap.size wd wg1 := bl_then hX0 hb1
      go_wp2_with fail
      refine hK.out _ _ hXg1 (fun hHeld => ?_)
      clear hK K
      try simp only [Act.put, List.setIfInBounds_toArray, List.set_cons_zero, List.set_cons_succ]
      refine wpAnyH_ready (rs := [3, 5]) (by kernel_rfl) (by simp) ?_
      refine (AllReadyH.cons rfl (fun K hK => ?_) (AllReadyH.cons rfl (fun K hK => ?_) AllReadyH.nil))
      · rw [if_pos (by rfl)]
        go_simp
        refine Calls.mono (toCamera_any _ _ _ _ _ _) ?_
        rintro e wg2 ⟨rfl, hb2⟩
        have hq2 := OwnFs.below hq1 hb2
        have hXg2 : Below wd.heap.size wd wg2 := bl_then hXg1 hb2
        go_wp2_with fail
        refine hK.out _ _ hXg2 (fun hHeld => ?_)
        clear hK K
        try simp only [Act.put, List.setIfInBounds_toArray, List.set_cons_zero, List.set_cons_succ]
        refine wpAnyH_ready (rs := [4, 5]) (by kernel_rfl) (by simp) ?_
        refine (AllReadyH.cons rfl (fun K hK => ?_) (AllReadyH.cons rfl (fun K hK => ?_) AllReadyH.nil))
        · rw [if_pos (by rfl)]
          go_simp
          refine Calls.mono (Him.out _ _ _ _ hq2) ?_
          rintro e wg3 ⟨v0, rfl, hO3, hb3⟩
          obtain ⟨a0, cap0, rfl, hc0, hI0⟩ := hO3.pts
          have hXg3 : Below wd.heap.size wd wg3 := bl_then hXg2 hb3
          go_wp2_with fail
          refine hK.out _ _ hXg3 (fun hHeld => ?_)
          clear hK K
          try simp only [Act.put, List.setIfInBounds_toArray, List.set_cons_zero, List.set_cons_succ]
          refine wpAnyH_ready (rs := [5]) (by kernel_rfl) (by simp) ?_
          refine (AllReadyH.cons rfl (fun K hK => ?_) AllReadyH.nil)
          rw [if_pos (by rfl)]
          go_simp
          generalize hwA : (World.alloc _ _ : World) = wg4
          have hb4 : Below wg3.heap.size wg3 wg4 := by subst hwA; (repeat (first | exact Below.refl _ _ | assumption | refine Below.drew ?_ | refine bl_alloc ?_ _ | refine bl_then ?_ (by assumption) | refine Below.setCell ?_ (by first | omega | (simp; done) | (simp; omega)) _ | refine bl_store ?_ ?_ _ _))
          have hT4 : There wg4 wg3.heap.size 2 := by subst hwA; exact there2z wg3 _ _ _
          clear hwA
          have hXg4 : Below wd.heap.size wd wg4 := bl_then hXg3 hb4
          have hs4 : wd.heap.size ≤ wg3.heap.size := Below.size hXg3
          have hz4 : wg3.heap.size < wg4.heap.size := There.lt2z hT4
          refine hK.out _ _ hXg4 (fun hHeld => ?_)
          clear hK K
          try simp only [Act.put, List.setIfInBounds_toArray, List.set_cons_zero, List.set_cons_succ]
          refine wpAnyH_ready (rs := [6]) (by kernel_rfl) (by simp) ?_
          refine (AllReadyH.cons rfl (fun K hK => ?_) AllReadyH.nil)
          rw [if_pos (by rfl)]
          have t0 := hT4.cell 0 (by omega)
          have t1 := hT4.cell 1 (by omega)
          have f0 := (hT4 0 (by omega)).2
          have f1 := (hT4 1 (by omega)).2
          go_simp
          refine hK.out _ _ ((hXg4.setCell hs4 _).setCell hs4 _) (fun hHeld => ?_)
          clear hK K
          try simp only [Act.put, List.setIfInBounds_toArray, List.set_cons_zero, List.set_cons_succ]
          obtain ⟨q0, q1⟩ := set2_at (r := wg3.heap.size) (u := .int .i64 c) (v := .slice a0 m cap0) (show (0 : Nat) ≠ 1 by omega) (by rw [t0]; rfl) (by rw [t1]; rfl)
          have hBf : Below wd.heap.size wd ((wg4.setCell ⟨wg3.heap.size, 0, none⟩ (.int .i64 c)).setCell ⟨wg3.heap.size, 1, none⟩ (.slice a0 m cap0)) := (hXg4.setCell hs4 _).setCell hs4 _
          have hIf : IsLb ((wg4.setCell ⟨wg3.heap.size, 0, none⟩ (.int .i64 c)).setCell ⟨wg3.heap.size, 1, none⟩ (.slice a0 m cap0)) a0 m Z := (hO3.below ((hb4.setCell (Nat.le_refl _) _).setCell (Nat.le_refl _) _)).is
          refine wpAnyH_done (by kernel_rfl) ?_ _
          refine NoPanic.normal ?_
          go_wp2_with fail
          go_meet
          case rel => exact ⟨_, a0, cap0, rfl, hBf, hs4, q0, q1, hIf⟩
        · rw [if_pos (by rfl)]
          go_simp
          generalize hwA : (World.alloc _ _ : World) = wg5
          have hb5 : Below wg2.heap.size wg2 wg5 := by subst hwA; (repeat (first | exact Below.refl _ _ | assumption | refine Below.drew ?_ | refine bl_alloc ?_ _ | refine bl_then ?_ (by assumption) | refine Below.setCell ?_ (by first | omega | (simp; done) | (simp; omega)) _ | refine bl_store ?_ ?_ _ _))
          have hT5 : There wg5 wg2.heap.size 2 := by subst hwA; exact there2z wg2 _ _ _
          clear hwA
          have hXg5 : Below wd.heap.size wd wg5 := bl_then hXg2 hb5
          have hs5 : wd.heap.size ≤ wg2.heap.size := Below.size hXg2
          have hz5 : wg2.heap.size < wg5.heap.size := There.lt2z hT5
          have hq5 := OwnFs.below hq2 hb5
          refine hK.out _ _ hXg5 (fun hHeld => ?_)
          clear hK K
          try simp only [Act.put, List.setIfInBounds_toArray, List.set_cons_zero, List.set_cons_succ]
          refine wpAnyH_ready (rs := [4]) (by kernel_rfl) (by simp) ?_
          refine (AllReadyH.cons rfl (fun K hK => ?_) AllReadyH.nil)
          rw [if_pos (by rfl)]
          go_simp
          refine Calls.mono (Him.out _ _ _ _ hq5) ?_
          rintro e wg6 ⟨v0, rfl, hO6, hb6⟩
          obtain ⟨a0, cap0, rfl, hc0, hI0⟩ := hO6.pts
          have hXg6 : Below wd.heap.size wd wg6 := bl_then hXg5 hb6
          have hT6 := There.below hT5 hb6
          have hz6 : wg2.heap.size < wg6.heap.size := There.lt2z hT6
          go_wp2_with fail
          refine hK.out _ _ hXg6 (fun hHeld => ?_)
          clear hK K
          try simp only [Act.put, List.setIfInBounds_toArray, List.set_cons_zero, List.set_cons_succ]
          refine wpAnyH_ready (rs := [6]) (by kernel_rfl) (by simp) ?_
          refine (AllReadyH.cons rfl (fun K hK => ?_) AllReadyH.nil)
          rw [if_pos (by rfl)]
          have t0 := hT6.cell 0 (by omega)
          have t1 := hT6.cell 1 (by omega)
          have f0 := (hT6 0 (by omega)).2
          have f1 := (hT6 1 (by omega)).2
          go_simp
          refine hK.out _ _ ((hXg6.setCell hs5 _).setCell hs5 _) (fun hHeld => ?_)
          clear hK K
          try simp only [Act.put, List.setIfInBounds_toArray, List.set_cons_zero, List.set_cons_succ]
          obtain ⟨q0, q1⟩ := set2_at (r := wg2.heap.size) (u := .int .i64 c) (v := .slice a0 m cap0) (show (0 : Nat) ≠ 1 by omega) (by rw [t0]; rfl) (by rw [t1]; rfl)
          have hBf : Below wd.heap.size wd ((wg6.setCell ⟨wg2.heap.size, 0, none⟩ (.int .i64 c)).setCell ⟨wg2.heap.size, 1, none⟩ (.slice a0 m cap0)) := (hXg6.setCell hs5 _).setCell hs5 _
          have hIf : IsLb ((wg6.setCell ⟨wg2.heap.size, 0, none⟩ (.int .i64 c)).setCell ⟨wg2.heap.size, 1, none⟩ (.slice a0 m cap0)) a0 m Z := ((hO6.setZ (by omega) (Nat.le_refl _)).setZ (by omega) (Nat.le_refl _)).is
          refine wpAnyH_done (by kernel_rfl) ?_ _
          refine NoPanic.normal ?_
          go_wp2_with fail
          go_meet
          case rel => exact ⟨_, a0, cap0, rfl, hBf, hs5, q0, q1, hIf⟩
      · rw [if_pos (by rfl)]
        go_simp
        generalize hwA : (World.alloc _ _ : World) = wg7
        have hb7 : Below wg1.heap.size wg1 wg7 := by subst hwA; (repeat (first | exact Below.refl _ _ | assumption | refine Below.drew ?_ | refine bl_alloc ?_ _ | refine bl_then ?_ (by assumption) | refine Below.setCell ?_ (by first | omega | (simp; done) | (simp; omega)) _ | refine bl_store ?_ ?_ _ _))
        have hT7 : There wg7 wg1.heap.size 2 := by subst hwA; exact there2z wg1 _ _ _
        clear hwA
        have hXg7 : Below wd.heap.size wd wg7 := bl_then hXg1 hb7
        have hs7 : wd.heap.size ≤ wg1.heap.size := Below.size hXg1
        have hz7 : wg1.heap.size < wg7.heap.size := There.lt2z hT7
        have hq7 := OwnFs.below hq1 hb7
        refine hK.out _ _ hXg7 (fun hHeld => ?_)
        clear hK K
        try simp only [Act.put, List.setIfInBounds_toArray, List.set_cons_zero, List.set_cons_succ]
        refine wpAnyH_ready (rs := [3]) (by kernel_rfl) (by simp) ?_
        refine (AllReadyH.cons rfl (fun K hK => ?_) AllReadyH.nil)
        rw [if_pos (by rfl)]
        go_simp
        refine Calls.mono (toCamera_any _ _ _ _ _ _) ?_
        rintro e wg8 ⟨rfl, hb8⟩
        have hq8 := OwnFs.below hq7 hb8
        have hXg8 : Below wd.heap.size wd wg8 := bl_then hXg7 hb8
        have hT8 := There.below hT7 hb8
        have hz8 : wg1.heap.size < wg8.heap.size := There.lt2z hT8
        go_wp2_with fail
        refine hK.out _ _ hXg8 (fun hHeld => ?_)
        clear hK K
        try simp only [Act.put, List.setIfInBounds_toArray, List.set_cons_zero, List.set_cons_succ]
        refine wpAnyH_ready (rs := [4]) (by kernel_rfl) (by simp) ?_
        refine (AllReadyH.cons rfl (fun K hK => ?_) AllReadyH.nil)
        rw [if_pos (by rfl)]
        go_simp
        refine Calls.mono (Him.out _ _ _ _ hq8) ?_
        rintro e wg9 ⟨v0, rfl, hO9, hb9⟩
        obtain ⟨a0, cap0, rfl, hc0, hI0⟩ := hO9.pts
        have hXg9 : Below wd.heap.size wd wg9 := bl_then hXg8 hb9
        have hT9 := There.below hT8 hb9
        have hz9 : wg1.heap.size < wg9.heap.size := There.lt2z hT9
        go_wp2_with fail
        refine hK.out _ _ hXg9 (fun hHeld => ?_)
        clear hK K
        try simp only [Act.put, List.setIfInBounds_toArray, List.set_cons_zero, List.set_cons_succ]
        refine wpAnyH_ready (rs := [6]) (by kernel_rfl) (by simp) ?_
        refine (AllReadyH.cons rfl (fun K hK => ?_) AllReadyH.nil)
        rw [if_pos (by rfl)]
        have t0 := hT9.cell 0 (by omega)
        have t1 := hT9.cell 1 (by omega)
        have f0 := (hT9 0 (by omega)).2
        have f1 := (hT9 1 (by omega)).2
        go_simp
        refine hK.out _ _ ((hXg9.setCell hs7 _).setCell hs7 _) (fun hHeld => ?_)
        clear hK K
        try simp only [Act.put, List.setIfInBounds_toArray, List.set_cons_zero, List.set_cons_succ]
        obtain ⟨q0, q1⟩ := set2_at (r := wg1.heap.size) (u := .int .i64 c) (v := .slice a0 m cap0) (show (0 : Nat) ≠ 1 by omega) (by rw [t0]; rfl) (by rw [t1]; rfl)
        have hBf : Below wd.heap.size wd ((wg9.setCell ⟨wg1.heap.size, 0, none⟩ (.int .i64 c)).setCell ⟨wg1.heap.size, 1, none⟩ (.slice a0 m cap0)) := (hXg9.setCell hs7 _).setCell hs7 _
        have hIf : IsLb ((wg9.setCell ⟨wg1.heap.size, 0, none⟩ (.int .i64 c)).setCell ⟨wg1.heap.size, 1, none⟩ (.slice a0 m cap0)) a0 m Z := ((hO9.setZ (by omega) (Nat.le_refl _)).setZ (by omega) (Nat.le_refl _)).is
        refine wpAnyH_done (by kernel_rfl) ?_ _
        refine NoPanic.normal ?_
        go_wp2_with fail
        go_meet
        case rel => exact ⟨_, a0, cap0, rfl, hBf, hs7, q0, q1, hIf⟩
    · rw [if_pos (by rfl)]
      go_simp
      generalize hwA : (World.alloc _ _ : World) = wg10
      have hb10 : Below wd.heap.size wd wg10.drew := by subst hwA; (repeat (first | exact Below.refl _ _ | assumption | refine Below.drew ?_ | refine bl_alloc ?_ _ | refine bl_then ?_ (by assumption) | refine Below.setCell ?_ (by first | omega | (simp; done) | (simp; omega)) _ | refine bl_store ?_ ?_ _ _))
      have hT10 : There wg10.drew wd.heap.size 2 := by subst hwA; exact there2z wd _ _ _
      clear hwA
      have hXg10 : Below wd.heap.size wd wg10.drew := hb10
      have hs10 : wd.heap.size ≤ wd.heap.size := Nat.le_refl _
      have hz10 : wd.heap.size < wg10.drew.heap.size := There.lt2z hT10
      refine hK.out _ _ hXg10 (fun hHeld => ?_)
      clear hK K
      try simp only [Act.put, List.setIfInBounds_toArray, List.set_cons_zero, List.set_cons_succ]
      refine wpAnyH_ready (rs := [1]) (by kernel_rfl) (by simp) ?_
      refine (AllReadyH.cons rfl (fun K hK => ?_) AllReadyH.nil)
      rw [if_pos (by rfl)]
      go_simp
      refine Calls.mono (HTQd.out _ hXg10) ?_
      rintro e wg11 ⟨bq, Aq, rfl, hq11, hb11⟩
      have hXg11 : Below wd.heap.size wd wg11 := bl_then hXg10 hb11
      have hT11 := There.below hT10 hb11
      have hz11 : wd.heap.size < wg11.heap.size := There.lt2z hT11
      go_wp2_with fail
      refine hK.out _ _ hXg11 (fun hHeld => ?_)
      clear hK K
      try simp only [Act.put, List.setIfInBounds_toArray, List.set_cons_zero, List.set_cons_succ]
      refine wpAnyH_ready (rs := [3]) (by kernel_rfl) (by simp) ?_
      refine (AllReadyH.cons rfl (fun K hK => ?_) AllReadyH.nil)
      rw [if_pos (by rfl)]
      go_simp
      refine Calls.mono (toCamera_any _ _ _ _ _ _) ?_
      rintro e wg12 ⟨rfl, hb12⟩
      have hq12 := OwnFs.below hq11 hb12
      have hXg12 : Below wd.heap.size wd wg12 := bl_then hXg11 hb12
      have hT12 := There.below hT11 hb12
      have hz12 : wd.heap.size < wg12.heap.size := There.lt2z hT12
      go_wp2_with fail
      refine hK.out _ _ hXg12 (fun hHeld => ?_)
      clear hK K
      try simp only [Act.put, List.setIfInBounds_toArray, List.set_cons_zero, List.set_cons_succ]
      refine wpAnyH_ready (rs := [4]) (by kernel_rfl) (by simp) ?_
      refine (AllReadyH.cons rfl (fun K hK => ?_) AllReadyH.nil)
      rw [if_pos (by rfl)]
      go_simp
      refine Calls.mono (Him.out _ _ _ _ hq12) ?_
      rintro e wg13 ⟨v0, rfl, hO13, hb13⟩
      obtain ⟨a0, cap0, rfl, hc0, hI0⟩ := hO13.pts
      have hXg13 : Below wd.heap.size wd wg13 := bl_then hXg12 hb13
      have hT13 := There.below hT12 hb13
      have hz13 : wd.heap.size < wg13.heap.size := There.lt2z hT13
      go_wp2_with fail
      refine hK.out _ _ hXg13 (fun hHeld => ?_)
      clear hK K
      try simp only [Act.put, List.setIfInBounds_toArray, List.set_cons_zero, List.set_cons_succ]
      refine wpAnyH_ready (rs := [6]) (by kernel_rfl) (by simp) ?_
      refine (AllReadyH.cons rfl (fun K hK => ?_) AllReadyH.nil)
      rw [if_pos (by rfl)]
      have t0 := hT13.cell 0 (by omega)
      have t1 := hT13.cell 1 (by omega)
      have f0 := (hT13 0 (by omega)).2
      have f1 := (hT13 1 (by omega)).2
      go_simp
      refine hK.out _ _ ((hXg13.setCell hs10 _).setCell hs10 _) (fun hHeld => ?_)
      clear hK K
      try simp only [Act.put, List.setIfInBounds_toArray, List.set_cons_zero, List.set_cons_succ]
      obtain ⟨q0, q1⟩ := set2_at (r := wd.heap.size) (u := .int .i64 c) (v := .slice a0 m cap0) (show (0 : Nat) ≠ 1 by omega) (by rw [t0]; rfl) (by rw [t1]; rfl)
      have hBf : Below wd.heap.size wd ((wg13.setCell ⟨wd.heap.size, 0, none⟩ (.int .i64 c)).setCell ⟨wd.heap.size, 1, none⟩ (.slice a0 m cap0)) := (hXg13.setCell hs10 _).setCell hs10 _
      have hIf : IsLb ((wg13.setCell ⟨wd.heap.size, 0, none⟩ (.int .i64 c)).setCell ⟨wd.heap.size, 1, none⟩ (.slice a0 m cap0)) a0 m Z := ((hO13.setZ (by omega) (Nat.le_refl _)).setZ (by omega) (Nat.le_refl _)).is
      refine wpAnyH_done (by kernel_rfl) ?_ _
      refine NoPanic.normal ?_
      go_wp2_with fail
      go_meet
      case rel => exact ⟨_, a0, cap0, rfl, hBf, hs10, q0, q1, hIf⟩
  obtain ⟨bf, af, capf, rfl, hbdf, hbfb, n0, n1, hIf⟩ := hcut
  clear v0' v1' v2' v3' v4'
  generalize wc = wg at *
  have hwf := hbdf.size
  have g0' := bl_cell hbdf g0
  have g1' := bl_cell hbdf g1
  have m0 := bl_cell hbdf p0
  have m1 := bl_cell hbdf p1
  clear g0 g1
  have g0 := g0'
  have g1 := g1'
  have HOf : Hid (OwnP wg w4.heap.size (.slice a1 m cap1) m (mkP 1)) := HOd.out.below hbdf
  have HIf : Hid (UnderP w3.heap.size wg a0 m Z) := HId.out.below hbdf (by omega)
  have HBf : Hid (Below w0.heap.size w0 wg) := bl_then HBd.out hbdf
  have HJf : Hid (IsLb wg af m Z) := hIf
  clear p0 p1 HOd HId HBd hbdf hIf g0' g1'
  have hlw2 := World.block_lt_of_cell? _ _ m0
  have hlw5 := World.block_lt_of_cell? _ _ g0
  have hbg : Below wg.heap.size wg wg := Below.refl _ _
  go_wp2_with fail
  refine (eqPlacedResult_any c _ _ _ _ _ Z _ (HJf.out.below hbg) ((HIf.out.below hbg (by omega)).is (by omega)) hm).mono ?_
  rintro e wh ⟨rfl, hbh⟩
  have hbfh := bl_then hbg hbh
  have HOh : Hid (OwnP wh w4.heap.size (.slice a1 m cap1) m (mkP 1)) := HOf.out.below hbfh
  have HBh : Hid (Below w0.heap.size w0 wh) := bl_then HBf.out hbfh
  have k0 := bl_cell hbh g0
  have k1 := bl_cell hbh g1
  clear m0 m1 g0 g1 HOf HIf HBf HJf hbfh hbg hbh
  go_wp2_with fail
  refine (Hheld.out _ HOh.out).mono ?_
  rintro e wi ⟨rfl, hbi⟩
  have HBi : Hid (Below w0.heap.size w0 wi) := bl_then HBh.out hbi
  clear hbi
  go_wp2
  go_ret
  exact ⟨rfl, bl_then HB00.out HBi.out⟩
theorem OwnFs.capsL {w : World} {B b n : Nat} {F G : Nat → Feat} (h : OwnFs w B b n F G) : ∀ i, i < n → (G i).n ≤ (G i).cap := fun i hi => by
  obtain ⟨_, q, _, e3, _⟩ := h.2.2.2 i hi
  rw [e3]; exact Nat.le_refl _
theorem FnExactPlaceLabels_walk (a : Option Addr) (n cap : Nat) (F : Nat → Feat) (x0 x1 x2 x3 x4 : Int) (w : World) (h : IsFs w a n F ∧ CameFs n F) :
    Calls Tryz.prog 4 #[.slice a n cap, .agg #[.int .i64 x0, .int .i64 x1, .int .i64 x2, .int .i64 x3, .int .i64 x4]] w fun e w' => e = .returned (.bool true) ∧ Below w.heap.size w w' :=
  FnExactPlaceLabels_law (plqC x0 x1 x2 x3 x4 n F) a n cap (plqL x0 x1 x2 x3 x4 n F).length F x0 x1 x2 x3 x4 (fun i => (plqL x0 x1 x2 x3 x4 n F).getD i zPl) w h.1 h.2 (plqL_len x0 x1 x2 x3 x4 n F)
    (fun hS b B A w hO => by
      have h := spec_PlaceLabels_any x0 x1 x2 x3 x4 b n n A w hO.2.2.1 hO.2.1 (hO.small hS)
      obtain ⟨e1, e2⟩ := plq_same (z := x0) (x := x1) (y := x2) (wd := x3) (ht := x4) (fun i hi => (hO.2.2.2 i hi).1)
      rw [e1, e2] at h
      exact h)
    (fun hS b B A w hO => by
      have h := impl_PlaceLabels_any x0 x1 x2 x3 x4 b n n A w hO.2.2.1 hO.2.1 (hO.small hS) (Nat.le_refl _) hO.capsL
      obtain ⟨e1, e2⟩ := plq_same (z := x0) (x := x1) (y := x2) (wd := x3) (ht := x4) (fun i hi => (hO.2.2.2 i hi).1)
      rw [e1, e2] at h
      exact h)
end Go.Proofs.YtdohlnnbibnnbaaGreat
