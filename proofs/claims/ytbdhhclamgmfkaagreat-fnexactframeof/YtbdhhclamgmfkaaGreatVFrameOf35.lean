/- The refs that a camera sees: the program. -/
import Derived.Test.YtbdhhclamgmfkaaGreatVFrameOf31
import Derived.Test.YtbdhhclamgmfkaaGreatVFrameOf3
import Derived.Deep.DeepCutAuto
namespace Go.Proofs.YtbdhhclamgmfkaaGreat
open Go.RowKit
set_option linter.unusedSimpArgs false
set_option linter.unusedVariables false
set_option maxRecDepth 100000

theorem undrew {B : Nat} {a w : World} (h : Below B a w.drew) : Below B a w := ⟨h.os, h.tape, h.output, h.size, h.block⟩

theorem undrewT {w : World} {r n : Nat} (h : There w.drew r n) : There w r n := h
set_option maxHeartbeats 16000000 in
theorem impl_VisibleRefs_ok {z x y wd ht lx ly hx hy ex ey : Int} {NX NY : Nat} {R : Rfs} (w : World) (hr : camB z x y wd ht = true) (hex : x + wd - 1 = ex) (hey : y + ht - 1 = ey) (e1 : x / 8 = lx) (e2 : y / 8 = ly) (e3 : ex / 8 = hx) (e4 : ey / 8 = hy)
    (hNX : (1 ≤ NX ∧ NX ≤ 2) ∧ hx = lx + (NX : Int) - 1) (hNY : (1 ≤ NY ∧ NY ≤ 2) ∧ hy = ly + (NY : Int) - 1) (hR : R = ⟨fun _ => z, fun i => lx + (i % NX : Nat), fun i => ly + (i / NX : Nat)⟩) :
    Calls Tryz.prog 61 #[camV z x y wd ht] w fun e w' => ∃ v, e = .returned (.agg #[.int .i64 0, v]) ∧ OwnT w' w.heap.size v (NY * NX) R ∧ Below w.heap.size w w' := by
  have HR : Hid (R = ⟨fun _ => z, fun i => lx + (i % NX : Nat), fun i => ly + (i / NX : Nat)⟩) := hR
  have HX : Hid (hx = lx + (NX : Int) - 1) := hNX.2
  have HY : Hid (hy = ly + (NY : Int) - 1) := hNY.2
  have nX := hNX.1
  have nY := hNY.1
  clear hR hNX hNY
  have hc : camC z x y wd ht = 0 := by unfold camC; rw [if_pos hr]
  have hz := camB_zoom hr
  have hin := camB_in hr
  have hn := pixI_bd hz
  have hp1 : pixB z x y = true := by simp [pixB, inB, hz]; omega
  have hp2 : pixB z ex ey = true := by simp [pixB, inB, hz]; omega
  have sC := fun w => camFault_any z x y wd ht w
  have sF := fun w => camFirst_any z x y wd ht w
  have sL := fun w => camLast_any z x y wd ht w (by omega) (by omega) hin.1.1 hin.1.2
  have sT1 := fun w => tileAt_any z x y wd ht x y w hp1
  have sT2 := fun w => tileAt_any z x y wd ht ex ey w hp2
  have bl : 0 ≤ lx ∧ lx ≤ 8 ∧ 0 ≤ ly ∧ ly ≤ 8 := by omega
  rw [hex, hey] at sL
  rw [e1, e2] at sT1
  rw [e3, e4] at sT2
  rw [hc] at sC
  clear hc hr hz hin hn hp1 hp2 hex hey e1 e2 e3 e4
  obtain ⟨i0, hi, hz0, hz1, hz2⟩ := info_parts info_rf
  go_enter Tryz.func61, Tryz.ntmps61
  go_wp2_with fail
  generalize hW : ((w.alloc _).alloc _ : World) = W
  have HB0 : Hid (Below w.heap.size w W) := by show Below _ _ _; subst hW; (repeat (first | exact Below.refl _ _ | assumption | refine Below.drew ?_ | refine bl_alloc ?_ _ | refine bl_then ?_ (by assumption) | refine Below.setCell ?_ (by first | omega | (simp; done) | (simp; omega)) _ | refine bl_store ?_ ?_ _ _))
  have HT : Hid (There W (w.heap.size + 1) 2) := by
    show There _ _ _
    subst hW
    have := there2r (w.alloc (.cells #[.int .i64 z, .int .i64 x, .int .i64 y, .int .i64 wd, .int .i64 ht] 35)) (.int .i64 0) (.slice none 0 0) 33
    simpa using this
  have c00 : ∀ W', Below W.heap.size W W' → W'.cell? ⟨w.heap.size, 0, none⟩ = some (.int .i64 z) := fun W' h => by
    rw [h.cell (by subst hW; simp <;> omega)]; subst hW; simp [go_sem]
  have c01 : ∀ W', Below W.heap.size W W' → W'.cell? ⟨w.heap.size, 1, none⟩ = some (.int .i64 x) := fun W' h => by
    rw [h.cell (by subst hW; simp <;> omega)]; subst hW; simp [go_sem]
  have c02 : ∀ W', Below W.heap.size W W' → W'.cell? ⟨w.heap.size, 2, none⟩ = some (.int .i64 y) := fun W' h => by
    rw [h.cell (by subst hW; simp <;> omega)]; subst hW; simp [go_sem]
  have c03 : ∀ W', Below W.heap.size W W' → W'.cell? ⟨w.heap.size, 3, none⟩ = some (.int .i64 wd) := fun W' h => by
    rw [h.cell (by subst hW; simp <;> omega)]; subst hW; simp [go_sem]
  have c04 : ∀ W', Below W.heap.size W W' → W'.cell? ⟨w.heap.size, 4, none⟩ = some (.int .i64 ht) := fun W' h => by
    rw [h.cell (by subst hW; simp <;> omega)]; subst hW; simp [go_sem]
  clear hW
  refine (sC _).mono ?_
  rintro e w1 ⟨rfl, hb1⟩
  have HB1 : Hid (Below w.heap.size w w1) := bl_then HB0.out hb1
  have HT1 : Hid (There w1 (w.heap.size + 1) 2) := HT.out.below hb1
  have c0 : ∀ W', Below w1.heap.size w1 W' → W'.cell? ⟨w.heap.size, 0, none⟩ = some (.int .i64 z) := fun W' h => c00 W' (bl_then hb1 h)
  have c1 : ∀ W', Below w1.heap.size w1 W' → W'.cell? ⟨w.heap.size, 1, none⟩ = some (.int .i64 x) := fun W' h => c01 W' (bl_then hb1 h)
  have c2 : ∀ W', Below w1.heap.size w1 W' → W'.cell? ⟨w.heap.size, 2, none⟩ = some (.int .i64 y) := fun W' h => c02 W' (bl_then hb1 h)
  have c3 : ∀ W', Below w1.heap.size w1 W' → W'.cell? ⟨w.heap.size, 3, none⟩ = some (.int .i64 wd) := fun W' h => c03 W' (bl_then hb1 h)
  have c4 : ∀ W', Below w1.heap.size w1 W' → W'.cell? ⟨w.heap.size, 4, none⟩ = some (.int .i64 ht) := fun W' h => c04 W' (bl_then hb1 h)
  clear hb1 HB0 HT c00 c01 c02 c03 c04
  go_wp2_with fail
  go_cut [4, 5] (fun p q wc => ∃ b4 b5 : Nat, p = .pointer (some ⟨b4, 0, none⟩) ∧ q = .pointer (some ⟨b5, 0, none⟩) ∧ RefA wc b4 z lx ly ∧ RefA wc b5 z hx hy ∧ Below w1.heap.size w1 wc)
  case first =>
    refine wp_region_noPanic ?_
    refine wp_region_held_drew (S := fun W' => Below w1.heap.size w1 W') (by kernel_rfl) (by (repeat (first | exact Below.refl _ _ | assumption | refine Below.drew ?_ | refine bl_alloc ?_ _ | refine bl_then ?_ (by assumption) | refine Below.setCell ?_ (by first | omega | (simp; done) | (simp; omega)) _ | refine bl_store ?_ ?_ _ _))) (fun hHeld => ?_)
    have hX0 : Below w1.heap.size w1 w1.drew := hHeld
    refine takeD (i := 0) (d := some 15) (v := ?vv0) rfl rfl (by kernel_rfl) (by kernel_rfl) (by kernel_rfl) (fun _ _ _ h => h) (Or.inl ⟨by rfl, ?hyv0⟩) (by assumption) ?_
    case hyv0 => (intro w hSw; (try dsimp only at hSw); go_simp <;> with_reducible rfl)
    try simp only [Act.put, List.setIfInBounds_toArray, List.set_cons_zero, List.set_cons_succ]
    refine takeD (i := 1) (d := some 16) (v := ?vv1) rfl rfl (by kernel_rfl) (by kernel_rfl) (by kernel_rfl) (fun _ _ _ h => h) (Or.inl ⟨by rfl, ?hyv1⟩) (by assumption) ?_
    case hyv1 => (intro w hSw; (try dsimp only at hSw); go_simp <;> with_reducible rfl)
    try simp only [Act.put, List.setIfInBounds_toArray, List.set_cons_zero, List.set_cons_succ]
    refine takeD (i := 4) (d := some 19) (v := ?vv4) rfl rfl (by kernel_rfl) (by kernel_rfl) (by kernel_rfl) (fun _ _ _ h => h) (Or.inl ⟨by rfl, ?hyv4⟩) (by assumption) ?_
    case hyv4 => (intro w hSw; (try dsimp only at hSw); go_simp <;> with_reducible rfl)
    try simp only [Act.put, List.setIfInBounds_toArray, List.set_cons_zero, List.set_cons_succ]
    refine takeD (i := 5) (d := some 20) (v := ?vv5) rfl rfl (by kernel_rfl) (by kernel_rfl) (by kernel_rfl) (fun _ _ _ h => h) (Or.inl ⟨by rfl, ?hyv5⟩) (by assumption) ?_
    case hyv5 => (intro w hSw; (try dsimp only at hSw); go_simp <;> with_reducible rfl)
    try simp only [Act.put, List.setIfInBounds_toArray, List.set_cons_zero, List.set_cons_succ]
    refine wpAnyH_ready (rs := [2, 8, 9]) (by kernel_rfl) (by simp) ?_
    refine (AllReadyH.cons rfl (fun K hK => ?_) (AllReadyH.cons rfl (fun K hK => ?_) (AllReadyH.cons rfl (fun K hK => ?_) AllReadyH.nil)))
    · rw [if_pos (by rfl)]
      go_simp
      refine Calls.mono (sF _) ?_
      rintro e wv1 ⟨rfl, hb1⟩
      have hXv1 : Below w1.heap.size w1 wv1 := bl_then hX0 hb1
      go_wp2_with fail
      refine hK.out _ _ hXv1 (fun hHeld => ?_)
      clear hK K
      try simp only [Act.put, List.setIfInBounds_toArray, List.set_cons_zero, List.set_cons_succ]
      refine wpAnyH_ready (rs := [3, 8, 9]) (by kernel_rfl) (by simp) ?_
      refine (AllReadyH.cons rfl (fun K hK => ?_) (AllReadyH.cons rfl (fun K hK => ?_) (AllReadyH.cons rfl (fun K hK => ?_) AllReadyH.nil)))
      · rw [if_pos (by rfl)]
        go_simp
        refine Calls.mono (sT1 _) ?_
        rintro e wv2 ⟨rfl, hb2⟩
        have hXv2 : Below w1.heap.size w1 wv2 := bl_then hXv1 hb2
        go_wp2_with fail
        refine hK.out _ _ hXv2 (fun hHeld => ?_)
        clear hK K
        try simp only [Act.put, List.setIfInBounds_toArray, List.set_cons_zero, List.set_cons_succ]
        refine wpAnyH_ready (rs := [6, 8, 9]) (by kernel_rfl) (by simp) ?_
        refine (AllReadyH.cons rfl (fun K hK => ?_) (AllReadyH.cons rfl (fun K hK => ?_) (AllReadyH.cons rfl (fun K hK => ?_) AllReadyH.nil)))
        · rw [if_pos (by rfl)]
          go_simp
          refine Calls.mono (sL _) ?_
          rintro e wv3 ⟨rfl, hb3⟩
          have hXv3 : Below w1.heap.size w1 wv3 := bl_then hXv2 hb3
          go_wp2_with fail
          refine hK.out _ _ hXv3 (fun hHeld => ?_)
          clear hK K
          try simp only [Act.put, List.setIfInBounds_toArray, List.set_cons_zero, List.set_cons_succ]
          refine wpAnyH_ready (rs := [7, 8, 9]) (by kernel_rfl) (by simp) ?_
          refine (AllReadyH.cons rfl (fun K hK => ?_) (AllReadyH.cons rfl (fun K hK => ?_) (AllReadyH.cons rfl (fun K hK => ?_) AllReadyH.nil)))
          · rw [if_pos (by rfl)]
            go_simp
            refine Calls.mono (sT2 _) ?_
            rintro e wv4 ⟨rfl, hb4⟩
            have hXv4 : Below w1.heap.size w1 wv4 := bl_then hXv3 hb4
            go_wp2_with fail
            refine hK.out _ _ hXv4 (fun hHeld => ?_)
            clear hK K
            try simp only [Act.put, List.setIfInBounds_toArray, List.set_cons_zero, List.set_cons_succ]
            refine wpAnyH_ready (rs := [8, 9]) (by kernel_rfl) (by simp) ?_
            refine (AllReadyH.cons rfl (fun K hK => ?_) (AllReadyH.cons rfl (fun K hK => ?_) AllReadyH.nil))
            · rw [if_pos (by rfl)]
              go_simp
              generalize hwA : (World.alloc _ _ : World) = wv5
              have hb5 : Below wv4.heap.size wv4 wv5 := by subst hwA; (repeat (first | exact Below.refl _ _ | assumption | refine Below.drew ?_ | refine bl_alloc ?_ _ | refine bl_then ?_ (by assumption) | refine Below.setCell ?_ (by first | omega | (simp; done) | (simp; omega)) _ | refine bl_store ?_ ?_ _ _))
              have hT5 : There wv5 wv4.heap.size 3 := by subst hwA; exact there3r wv4 _ _ _ _
              clear hwA
              have hXv5 : Below w1.heap.size w1 wv5 := bl_then hXv4 hb5
              have hs5 : w1.heap.size ≤ wv4.heap.size := Below.size hXv4
              refine hK.out _ _ hXv5 (fun hHeld => ?_)
              clear hK K
              try simp only [Act.put, List.setIfInBounds_toArray, List.set_cons_zero, List.set_cons_succ]
              refine wpAnyH_ready (rs := [9]) (by kernel_rfl) (by simp) ?_
              refine (AllReadyH.cons rfl (fun K hK => ?_) AllReadyH.nil)
              rw [if_pos (by rfl)]
              go_simp
              generalize hwA : (World.alloc _ _ : World) = wv6
              have hb6 : Below wv5.heap.size wv5 wv6 := by subst hwA; (repeat (first | exact Below.refl _ _ | assumption | refine Below.drew ?_ | refine bl_alloc ?_ _ | refine bl_then ?_ (by assumption) | refine Below.setCell ?_ (by first | omega | (simp; done) | (simp; omega)) _ | refine bl_store ?_ ?_ _ _))
              have hT6 : There wv6 wv5.heap.size 3 := by subst hwA; exact there3r wv5 _ _ _ _
              clear hwA
              have hXv6 : Below w1.heap.size w1 wv6 := bl_then hXv5 hb6
              have hs6 : w1.heap.size ≤ wv5.heap.size := Below.size hXv5
              have hu6 := hT5.lt3
              have hT6_8 := There.below hT5 hb6
              refine hK.out _ _ hXv6 (fun hHeld => ?_)
              clear hK K
              try simp only [Act.put, List.setIfInBounds_toArray, List.set_cons_zero, List.set_cons_succ]
              refine wpAnyH_ready (rs := [10]) (by kernel_rfl) (by simp) ?_
              refine (AllReadyH.cons rfl (fun K hK => ?_) AllReadyH.nil)
              rw [if_pos (by rfl)]
              have t0 := hT6_8.cell 0 (by omega)
              have f0 := (hT6_8 0 (by omega)).2
              have t1 := hT6_8.cell 1 (by omega)
              have f1 := (hT6_8 1 (by omega)).2
              have t2 := hT6_8.cell 2 (by omega)
              have f2 := (hT6_8 2 (by omega)).2
              go_simp
              have hXs : Below w1.heap.size w1 (((wv6.setCell ⟨wv4.heap.size, 0, none⟩ (.int .i64 z)).setCell ⟨wv4.heap.size, 1, none⟩ (.int .i64 lx)).setCell ⟨wv4.heap.size, 2, none⟩ (.int .i64 ly)) := ((hXv6.setCell hs5 _).setCell hs5 _).setCell hs5 _
              have hRs := RefA.put (z := z) (x := lx) (y := ly) hT6_8
              have hTs := ((hT6.putV (r' := wv4.heap.size) (o := 0) (v := .int .i64 z)).putV (r' := wv4.heap.size) (o := 1) (v := .int .i64 lx)).putV (r' := wv4.heap.size) (o := 2) (v := .int .i64 ly)
              generalize hwS : (((wv6.setCell _ _).setCell _ _).setCell _ _ : World) = wS at *
              refine hK.out _ _ hXs (fun hHeld => ?_)
              clear hK K hwS t0 t1 t2 f0 f1 f2
              try simp only [Act.put, List.setIfInBounds_toArray, List.set_cons_zero, List.set_cons_succ]
              refine wpAnyH_ready (rs := [11]) (by kernel_rfl) (by simp) ?_
              refine (AllReadyH.cons rfl (fun K hK => ?_) AllReadyH.nil)
              rw [if_pos (by rfl)]
              have t0 := hTs.cell 0 (by omega)
              have f0 := (hTs 0 (by omega)).2
              have t1 := hTs.cell 1 (by omega)
              have f1 := (hTs 1 (by omega)).2
              have t2 := hTs.cell 2 (by omega)
              have f2 := (hTs 2 (by omega)).2
              go_simp
              have hXu : Below w1.heap.size w1 (((wS.setCell ⟨wv5.heap.size, 0, none⟩ (.int .i64 z)).setCell ⟨wv5.heap.size, 1, none⟩ (.int .i64 hx)).setCell ⟨wv5.heap.size, 2, none⟩ (.int .i64 hy)) := ((hXs.setCell hs6 _).setCell hs6 _).setCell hs6 _
              have hRu := RefA.put (z := z) (x := hx) (y := hy) hTs
              have hRv := ((hRs.apart (r := wv5.heap.size) (o := 0) (v := .int .i64 z) (by omega)).apart (r := wv5.heap.size) (o := 1) (v := .int .i64 hx) (by omega)).apart (r := wv5.heap.size) (o := 2) (v := .int .i64 hy) (by omega)
              generalize hwU : (((wS.setCell _ _).setCell _ _).setCell _ _ : World) = wU at *
              refine hK.out _ _ hXu (fun hHeld => ?_)
              clear hK K hwU t0 t1 t2 f0 f1 f2
              try simp only [Act.put, List.setIfInBounds_toArray, List.set_cons_zero, List.set_cons_succ]
              refine wpAnyH_done (by kernel_rfl) ?_ _
              refine NoPanic.normal ?_
              go_wp2_with fail
              go_meet
              case rel => exact ⟨_, _, rfl, rfl, hRv, hRu, hXu⟩
            · rw [if_pos (by rfl)]
              go_simp
              generalize hwA : (World.alloc _ _ : World) = wv7
              have hb7 : Below wv4.heap.size wv4 wv7 := by subst hwA; (repeat (first | exact Below.refl _ _ | assumption | refine Below.drew ?_ | refine bl_alloc ?_ _ | refine bl_then ?_ (by assumption) | refine Below.setCell ?_ (by first | omega | (simp; done) | (simp; omega)) _ | refine bl_store ?_ ?_ _ _))
              have hT7 : There wv7 wv4.heap.size 3 := by subst hwA; exact there3r wv4 _ _ _ _
              clear hwA
              have hXv7 : Below w1.heap.size w1 wv7 := bl_then hXv4 hb7
              have hs7 : w1.heap.size ≤ wv4.heap.size := Below.size hXv4
              refine hK.out _ _ hXv7 (fun hHeld => ?_)
              clear hK K
              try simp only [Act.put, List.setIfInBounds_toArray, List.set_cons_zero, List.set_cons_succ]
              refine wpAnyH_ready (rs := [8]) (by kernel_rfl) (by simp) ?_
              refine (AllReadyH.cons rfl (fun K hK => ?_) AllReadyH.nil)
              rw [if_pos (by rfl)]
              go_simp
              generalize hwA : (World.alloc _ _ : World) = wv8
              have hb8 : Below wv7.heap.size wv7 wv8 := by subst hwA; (repeat (first | exact Below.refl _ _ | assumption | refine Below.drew ?_ | refine bl_alloc ?_ _ | refine bl_then ?_ (by assumption) | refine Below.setCell ?_ (by first | omega | (simp; done) | (simp; omega)) _ | refine bl_store ?_ ?_ _ _))
              have hT8 : There wv8 wv7.heap.size 3 := by subst hwA; exact there3r wv7 _ _ _ _
              clear hwA
              have hXv8 : Below w1.heap.size w1 wv8 := bl_then hXv7 hb8
              have hs8 : w1.heap.size ≤ wv7.heap.size := Below.size hXv7
              have hu8 := hT7.lt3
              have hT8_9 := There.below hT7 hb8
              refine hK.out _ _ hXv8 (fun hHeld => ?_)
              clear hK K
              try simp only [Act.put, List.setIfInBounds_toArray, List.set_cons_zero, List.set_cons_succ]
              refine wpAnyH_ready (rs := [10]) (by kernel_rfl) (by simp) ?_
              refine (AllReadyH.cons rfl (fun K hK => ?_) AllReadyH.nil)
              rw [if_pos (by rfl)]
              have t0 := hT8.cell 0 (by omega)
              have f0 := (hT8 0 (by omega)).2
              have t1 := hT8.cell 1 (by omega)
              have f1 := (hT8 1 (by omega)).2
              have t2 := hT8.cell 2 (by omega)
              have f2 := (hT8 2 (by omega)).2
              go_simp
              have hXs : Below w1.heap.size w1 (((wv8.setCell ⟨wv7.heap.size, 0, none⟩ (.int .i64 z)).setCell ⟨wv7.heap.size, 1, none⟩ (.int .i64 lx)).setCell ⟨wv7.heap.size, 2, none⟩ (.int .i64 ly)) := ((hXv8.setCell hs8 _).setCell hs8 _).setCell hs8 _
              have hRs := RefA.put (z := z) (x := lx) (y := ly) hT8
              have hTs := ((hT8_9.putV (r' := wv7.heap.size) (o := 0) (v := .int .i64 z)).putV (r' := wv7.heap.size) (o := 1) (v := .int .i64 lx)).putV (r' := wv7.heap.size) (o := 2) (v := .int .i64 ly)
              generalize hwS : (((wv8.setCell _ _).setCell _ _).setCell _ _ : World) = wS at *
              refine hK.out _ _ hXs (fun hHeld => ?_)
              clear hK K hwS t0 t1 t2 f0 f1 f2
              try simp only [Act.put, List.setIfInBounds_toArray, List.set_cons_zero, List.set_cons_succ]
              refine wpAnyH_ready (rs := [11]) (by kernel_rfl) (by simp) ?_
              refine (AllReadyH.cons rfl (fun K hK => ?_) AllReadyH.nil)
              rw [if_pos (by rfl)]
              have t0 := hTs.cell 0 (by omega)
              have f0 := (hTs 0 (by omega)).2
              have t1 := hTs.cell 1 (by omega)
              have f1 := (hTs 1 (by omega)).2
              have t2 := hTs.cell 2 (by omega)
              have f2 := (hTs 2 (by omega)).2
              go_simp
              have hXu : Below w1.heap.size w1 (((wS.setCell ⟨wv4.heap.size, 0, none⟩ (.int .i64 z)).setCell ⟨wv4.heap.size, 1, none⟩ (.int .i64 hx)).setCell ⟨wv4.heap.size, 2, none⟩ (.int .i64 hy)) := ((hXs.setCell hs7 _).setCell hs7 _).setCell hs7 _
              have hRu := RefA.put (z := z) (x := hx) (y := hy) hTs
              have hRv := ((hRs.apart (r := wv4.heap.size) (o := 0) (v := .int .i64 z) (by omega)).apart (r := wv4.heap.size) (o := 1) (v := .int .i64 hx) (by omega)).apart (r := wv4.heap.size) (o := 2) (v := .int .i64 hy) (by omega)
              generalize hwU : (((wS.setCell _ _).setCell _ _).setCell _ _ : World) = wU at *
              refine hK.out _ _ hXu (fun hHeld => ?_)
              clear hK K hwU t0 t1 t2 f0 f1 f2
              try simp only [Act.put, List.setIfInBounds_toArray, List.set_cons_zero, List.set_cons_succ]
              refine wpAnyH_done (by kernel_rfl) ?_ _
              refine NoPanic.normal ?_
              go_wp2_with fail
              go_meet
              case rel => exact ⟨_, _, rfl, rfl, hRv, hRu, hXu⟩
          · rw [if_pos (by rfl)]
            go_simp
            generalize hwA : (World.alloc _ _ : World) = wv9
            have hb9 : Below wv3.heap.size wv3 wv9 := by subst hwA; (repeat (first | exact Below.refl _ _ | assumption | refine Below.drew ?_ | refine bl_alloc ?_ _ | refine bl_then ?_ (by assumption) | refine Below.setCell ?_ (by first | omega | (simp; done) | (simp; omega)) _ | refine bl_store ?_ ?_ _ _))
            have hT9 : There wv9 wv3.heap.size 3 := by subst hwA; exact there3r wv3 _ _ _ _
            clear hwA
            have hXv9 : Below w1.heap.size w1 wv9 := bl_then hXv3 hb9
            have hs9 : w1.heap.size ≤ wv3.heap.size := Below.size hXv3
            refine hK.out _ _ hXv9 (fun hHeld => ?_)
            clear hK K
            try simp only [Act.put, List.setIfInBounds_toArray, List.set_cons_zero, List.set_cons_succ]
            refine wpAnyH_ready (rs := [7, 9]) (by kernel_rfl) (by simp) ?_
            refine (AllReadyH.cons rfl (fun K hK => ?_) (AllReadyH.cons rfl (fun K hK => ?_) AllReadyH.nil))
            · rw [if_pos (by rfl)]
              go_simp
              refine Calls.mono (sT2 _) ?_
              rintro e wv10 ⟨rfl, hb10⟩
              have hXv10 : Below w1.heap.size w1 wv10 := bl_then hXv9 hb10
              have hT10_8 := There.below hT9 hb10
              go_wp2_with fail
              refine hK.out _ _ hXv10 (fun hHeld => ?_)
              clear hK K
              try simp only [Act.put, List.setIfInBounds_toArray, List.set_cons_zero, List.set_cons_succ]
              refine wpAnyH_ready (rs := [9]) (by kernel_rfl) (by simp) ?_
              refine (AllReadyH.cons rfl (fun K hK => ?_) AllReadyH.nil)
              rw [if_pos (by rfl)]
              go_simp
              generalize hwA : (World.alloc _ _ : World) = wv11
              have hb11 : Below wv10.heap.size wv10 wv11 := by subst hwA; (repeat (first | exact Below.refl _ _ | assumption | refine Below.drew ?_ | refine bl_alloc ?_ _ | refine bl_then ?_ (by assumption) | refine Below.setCell ?_ (by first | omega | (simp; done) | (simp; omega)) _ | refine bl_store ?_ ?_ _ _))
              have hT11 : There wv11 wv10.heap.size 3 := by subst hwA; exact there3r wv10 _ _ _ _
              clear hwA
              have hXv11 : Below w1.heap.size w1 wv11 := bl_then hXv10 hb11
              have hs11 : w1.heap.size ≤ wv10.heap.size := Below.size hXv10
              have hu11 := hT10_8.lt3
              have hT11_8 := There.below hT10_8 hb11
              refine hK.out _ _ hXv11 (fun hHeld => ?_)
              clear hK K
              try simp only [Act.put, List.setIfInBounds_toArray, List.set_cons_zero, List.set_cons_succ]
              refine wpAnyH_ready (rs := [10]) (by kernel_rfl) (by simp) ?_
              refine (AllReadyH.cons rfl (fun K hK => ?_) AllReadyH.nil)
              rw [if_pos (by rfl)]
              have t0 := hT11_8.cell 0 (by omega)
              have f0 := (hT11_8 0 (by omega)).2
              have t1 := hT11_8.cell 1 (by omega)
              have f1 := (hT11_8 1 (by omega)).2
              have t2 := hT11_8.cell 2 (by omega)
              have f2 := (hT11_8 2 (by omega)).2
              go_simp
              have hXs : Below w1.heap.size w1 (((wv11.setCell ⟨wv3.heap.size, 0, none⟩ (.int .i64 z)).setCell ⟨wv3.heap.size, 1, none⟩ (.int .i64 lx)).setCell ⟨wv3.heap.size, 2, none⟩ (.int .i64 ly)) := ((hXv11.setCell hs9 _).setCell hs9 _).setCell hs9 _
              have hRs := RefA.put (z := z) (x := lx) (y := ly) hT11_8
              have hTs := ((hT11.putV (r' := wv3.heap.size) (o := 0) (v := .int .i64 z)).putV (r' := wv3.heap.size) (o := 1) (v := .int .i64 lx)).putV (r' := wv3.heap.size) (o := 2) (v := .int .i64 ly)
              generalize hwS : (((wv11.setCell _ _).setCell _ _).setCell _ _ : World) = wS at *
              refine hK.out _ _ hXs (fun hHeld => ?_)
              clear hK K hwS t0 t1 t2 f0 f1 f2
              try simp only [Act.put, List.setIfInBounds_toArray, List.set_cons_zero, List.set_cons_succ]
              refine wpAnyH_ready (rs := [11]) (by kernel_rfl) (by simp) ?_
              refine (AllReadyH.cons rfl (fun K hK => ?_) AllReadyH.nil)
              rw [if_pos (by rfl)]
              have t0 := hTs.cell 0 (by omega)
              have f0 := (hTs 0 (by omega)).2
              have t1 := hTs.cell 1 (by omega)
              have f1 := (hTs 1 (by omega)).2
              have t2 := hTs.cell 2 (by omega)
              have f2 := (hTs 2 (by omega)).2
              go_simp
              have hXu : Below w1.heap.size w1 (((wS.setCell ⟨wv10.heap.size, 0, none⟩ (.int .i64 z)).setCell ⟨wv10.heap.size, 1, none⟩ (.int .i64 hx)).setCell ⟨wv10.heap.size, 2, none⟩ (.int .i64 hy)) := ((hXs.setCell hs11 _).setCell hs11 _).setCell hs11 _
              have hRu := RefA.put (z := z) (x := hx) (y := hy) hTs
              have hRv := ((hRs.apart (r := wv10.heap.size) (o := 0) (v := .int .i64 z) (by omega)).apart (r := wv10.heap.size) (o := 1) (v := .int .i64 hx) (by omega)).apart (r := wv10.heap.size) (o := 2) (v := .int .i64 hy) (by omega)
              generalize hwU : (((wS.setCell _ _).setCell _ _).setCell _ _ : World) = wU at *
              refine hK.out _ _ hXu (fun hHeld => ?_)
              clear hK K hwU t0 t1 t2 f0 f1 f2
              try simp only [Act.put, List.setIfInBounds_toArray, List.set_cons_zero, List.set_cons_succ]
              refine wpAnyH_done (by kernel_rfl) ?_ _
              refine NoPanic.normal ?_
              go_wp2_with fail
              go_meet
              case rel => exact ⟨_, _, rfl, rfl, hRv, hRu, hXu⟩
            · rw [if_pos (by rfl)]
              go_simp
              generalize hwA : (World.alloc _ _ : World) = wv12
              have hb12 : Below wv9.heap.size wv9 wv12 := by subst hwA; (repeat (first | exact Below.refl _ _ | assumption | refine Below.drew ?_ | refine bl_alloc ?_ _ | refine bl_then ?_ (by assumption) | refine Below.setCell ?_ (by first | omega | (simp; done) | (simp; omega)) _ | refine bl_store ?_ ?_ _ _))
              have hT12 : There wv12 wv9.heap.size 3 := by subst hwA; exact there3r wv9 _ _ _ _
              clear hwA
              have hXv12 : Below w1.heap.size w1 wv12 := bl_then hXv9 hb12
              have hs12 : w1.heap.size ≤ wv9.heap.size := Below.size hXv9
              have hu12 := hT9.lt3
              have hT12_8 := There.below hT9 hb12
              refine hK.out _ _ hXv12 (fun hHeld => ?_)
              clear hK K
              try simp only [Act.put, List.setIfInBounds_toArray, List.set_cons_zero, List.set_cons_succ]
              refine wpAnyH_ready (rs := [7]) (by kernel_rfl) (by simp) ?_
              refine (AllReadyH.cons rfl (fun K hK => ?_) AllReadyH.nil)
              rw [if_pos (by rfl)]
              go_simp
              refine Calls.mono (sT2 _) ?_
              rintro e wv13 ⟨rfl, hb13⟩
              have hXv13 : Below w1.heap.size w1 wv13 := bl_then hXv12 hb13
              have hT13_8 := There.below hT12_8 hb13
              have hT13_9 := There.below hT12 hb13
              go_wp2_with fail
              refine hK.out _ _ hXv13 (fun hHeld => ?_)
              clear hK K
              try simp only [Act.put, List.setIfInBounds_toArray, List.set_cons_zero, List.set_cons_succ]
              refine wpAnyH_ready (rs := [10]) (by kernel_rfl) (by simp) ?_
              refine (AllReadyH.cons rfl (fun K hK => ?_) AllReadyH.nil)
              rw [if_pos (by rfl)]
              have t0 := hT13_8.cell 0 (by omega)
              have f0 := (hT13_8 0 (by omega)).2
              have t1 := hT13_8.cell 1 (by omega)
              have f1 := (hT13_8 1 (by omega)).2
              have t2 := hT13_8.cell 2 (by omega)
              have f2 := (hT13_8 2 (by omega)).2
              go_simp
              have hXs : Below w1.heap.size w1 (((wv13.setCell ⟨wv3.heap.size, 0, none⟩ (.int .i64 z)).setCell ⟨wv3.heap.size, 1, none⟩ (.int .i64 lx)).setCell ⟨wv3.heap.size, 2, none⟩ (.int .i64 ly)) := ((hXv13.setCell hs9 _).setCell hs9 _).setCell hs9 _
              have hRs := RefA.put (z := z) (x := lx) (y := ly) hT13_8
              have hTs := ((hT13_9.putV (r' := wv3.heap.size) (o := 0) (v := .int .i64 z)).putV (r' := wv3.heap.size) (o := 1) (v := .int .i64 lx)).putV (r' := wv3.heap.size) (o := 2) (v := .int .i64 ly)
              generalize hwS : (((wv13.setCell _ _).setCell _ _).setCell _ _ : World) = wS at *
              refine hK.out _ _ hXs (fun hHeld => ?_)
              clear hK K hwS t0 t1 t2 f0 f1 f2
              try simp only [Act.put, List.setIfInBounds_toArray, List.set_cons_zero, List.set_cons_succ]
              refine wpAnyH_ready (rs := [11]) (by kernel_rfl) (by simp) ?_
              refine (AllReadyH.cons rfl (fun K hK => ?_) AllReadyH.nil)
              rw [if_pos (by rfl)]
              have t0 := hTs.cell 0 (by omega)
              have f0 := (hTs 0 (by omega)).2
              have t1 := hTs.cell 1 (by omega)
              have f1 := (hTs 1 (by omega)).2
              have t2 := hTs.cell 2 (by omega)
              have f2 := (hTs 2 (by omega)).2
              go_simp
              have hXu : Below w1.heap.size w1 (((wS.setCell ⟨wv9.heap.size, 0, none⟩ (.int .i64 z)).setCell ⟨wv9.heap.size, 1, none⟩ (.int .i64 hx)).setCell ⟨wv9.heap.size, 2, none⟩ (.int .i64 hy)) := ((hXs.setCell hs12 _).setCell hs12 _).setCell hs12 _
              have hRu := RefA.put (z := z) (x := hx) (y := hy) hTs
              have hRv := ((hRs.apart (r := wv9.heap.size) (o := 0) (v := .int .i64 z) (by omega)).apart (r := wv9.heap.size) (o := 1) (v := .int .i64 hx) (by omega)).apart (r := wv9.heap.size) (o := 2) (v := .int .i64 hy) (by omega)
              generalize hwU : (((wS.setCell _ _).setCell _ _).setCell _ _ : World) = wU at *
              refine hK.out _ _ hXu (fun hHeld => ?_)
              clear hK K hwU t0 t1 t2 f0 f1 f2
              try simp only [Act.put, List.setIfInBounds_toArray, List.set_cons_zero, List.set_cons_succ]
              refine wpAnyH_done (by kernel_rfl) ?_ _
              refine NoPanic.normal ?_
              go_wp2_with fail
              go_meet
              case rel => exact ⟨_, _, rfl, rfl, hRv, hRu, hXu⟩
          · rw [if_pos (by rfl)]
            go_simp
            generalize hwA : (World.alloc _ _ : World) = wv14
            have hb14 : Below wv3.heap.size wv3 wv14 := by subst hwA; (repeat (first | exact Below.refl _ _ | assumption | refine Below.drew ?_ | refine bl_alloc ?_ _ | refine bl_then ?_ (by assumption) | refine Below.setCell ?_ (by first | omega | (simp; done) | (simp; omega)) _ | refine bl_store ?_ ?_ _ _))
            have hT14 : There wv14 wv3.heap.size 3 := by subst hwA; exact there3r wv3 _ _ _ _
            clear hwA
            have hXv14 : Below w1.heap.size w1 wv14 := bl_then hXv3 hb14
            have hs14 : w1.heap.size ≤ wv3.heap.size := Below.size hXv3
            refine hK.out _ _ hXv14 (fun hHeld => ?_)
            clear hK K
            try simp only [Act.put, List.setIfInBounds_toArray, List.set_cons_zero, List.set_cons_succ]
            refine wpAnyH_ready (rs := [7, 8]) (by kernel_rfl) (by simp) ?_
            refine (AllReadyH.cons rfl (fun K hK => ?_) (AllReadyH.cons rfl (fun K hK => ?_) AllReadyH.nil))
            · rw [if_pos (by rfl)]
              go_simp
              refine Calls.mono (sT2 _) ?_
              rintro e wv15 ⟨rfl, hb15⟩
              have hXv15 : Below w1.heap.size w1 wv15 := bl_then hXv14 hb15
              have hT15_9 := There.below hT14 hb15
              go_wp2_with fail
              refine hK.out _ _ hXv15 (fun hHeld => ?_)
              clear hK K
              try simp only [Act.put, List.setIfInBounds_toArray, List.set_cons_zero, List.set_cons_succ]
              refine wpAnyH_ready (rs := [8]) (by kernel_rfl) (by simp) ?_
              refine (AllReadyH.cons rfl (fun K hK => ?_) AllReadyH.nil)
              rw [if_pos (by rfl)]
              go_simp
              generalize hwA : (World.alloc _ _ : World) = wv16
              have hb16 : Below wv15.heap.size wv15 wv16 := by subst hwA; (repeat (first | exact Below.refl _ _ | assumption | refine Below.drew ?_ | refine bl_alloc ?_ _ | refine bl_then ?_ (by assumption) | refine Below.setCell ?_ (by first | omega | (simp; done) | (simp; omega)) _ | refine bl_store ?_ ?_ _ _))
              have hT16 : There wv16 wv15.heap.size 3 := by subst hwA; exact there3r wv15 _ _ _ _
              clear hwA
              have hXv16 : Below w1.heap.size w1 wv16 := bl_then hXv15 hb16
              have hs16 : w1.heap.size ≤ wv15.heap.size := Below.size hXv15
              have hu16 := hT15_9.lt3
              have hT16_9 := There.below hT15_9 hb16
              refine hK.out _ _ hXv16 (fun hHeld => ?_)
              clear hK K
              try simp only [Act.put, List.setIfInBounds_toArray, List.set_cons_zero, List.set_cons_succ]
              refine wpAnyH_ready (rs := [10]) (by kernel_rfl) (by simp) ?_
              refine (AllReadyH.cons rfl (fun K hK => ?_) AllReadyH.nil)
              rw [if_pos (by rfl)]
              have t0 := hT16.cell 0 (by omega)
              have f0 := (hT16 0 (by omega)).2
              have t1 := hT16.cell 1 (by omega)
              have f1 := (hT16 1 (by omega)).2
              have t2 := hT16.cell 2 (by omega)
              have f2 := (hT16 2 (by omega)).2
              go_simp
              have hXs : Below w1.heap.size w1 (((wv16.setCell ⟨wv15.heap.size, 0, none⟩ (.int .i64 z)).setCell ⟨wv15.heap.size, 1, none⟩ (.int .i64 lx)).setCell ⟨wv15.heap.size, 2, none⟩ (.int .i64 ly)) := ((hXv16.setCell hs16 _).setCell hs16 _).setCell hs16 _
              have hRs := RefA.put (z := z) (x := lx) (y := ly) hT16
              have hTs := ((hT16_9.putV (r' := wv15.heap.size) (o := 0) (v := .int .i64 z)).putV (r' := wv15.heap.size) (o := 1) (v := .int .i64 lx)).putV (r' := wv15.heap.size) (o := 2) (v := .int .i64 ly)
              generalize hwS : (((wv16.setCell _ _).setCell _ _).setCell _ _ : World) = wS at *
              refine hK.out _ _ hXs (fun hHeld => ?_)
              clear hK K hwS t0 t1 t2 f0 f1 f2
              try simp only [Act.put, List.setIfInBounds_toArray, List.set_cons_zero, List.set_cons_succ]
              refine wpAnyH_ready (rs := [11]) (by kernel_rfl) (by simp) ?_
              refine (AllReadyH.cons rfl (fun K hK => ?_) AllReadyH.nil)
              rw [if_pos (by rfl)]
              have t0 := hTs.cell 0 (by omega)
              have f0 := (hTs 0 (by omega)).2
              have t1 := hTs.cell 1 (by omega)
              have f1 := (hTs 1 (by omega)).2
              have t2 := hTs.cell 2 (by omega)
              have f2 := (hTs 2 (by omega)).2
              go_simp
              have hXu : Below w1.heap.size w1 (((wS.setCell ⟨wv3.heap.size, 0, none⟩ (.int .i64 z)).setCell ⟨wv3.heap.size, 1, none⟩ (.int .i64 hx)).setCell ⟨wv3.heap.size, 2, none⟩ (.int .i64 hy)) := ((hXs.setCell hs14 _).setCell hs14 _).setCell hs14 _
              have hRu := RefA.put (z := z) (x := hx) (y := hy) hTs
              have hRv := ((hRs.apart (r := wv3.heap.size) (o := 0) (v := .int .i64 z) (by omega)).apart (r := wv3.heap.size) (o := 1) (v := .int .i64 hx) (by omega)).apart (r := wv3.heap.size) (o := 2) (v := .int .i64 hy) (by omega)
              generalize hwU : (((wS.setCell _ _).setCell _ _).setCell _ _ : World) = wU at *
              refine hK.out _ _ hXu (fun hHeld => ?_)
              clear hK K hwU t0 t1 t2 f0 f1 f2
              try simp only [Act.put, List.setIfInBounds_toArray, List.set_cons_zero, List.set_cons_succ]
              refine wpAnyH_done (by kernel_rfl) ?_ _
              refine NoPanic.normal ?_
              go_wp2_with fail
              go_meet
              case rel => exact ⟨_, _, rfl, rfl, hRv, hRu, hXu⟩
            · rw [if_pos (by rfl)]
              go_simp
              generalize hwA : (World.alloc _ _ : World) = wv17
              have hb17 : Below wv14.heap.size wv14 wv17 := by subst hwA; (repeat (first | exact Below.refl _ _ | assumption | refine Below.drew ?_ | refine bl_alloc ?_ _ | refine bl_then ?_ (by assumption) | refine Below.setCell ?_ (by first | omega | (simp; done) | (simp; omega)) _ | refine bl_store ?_ ?_ _ _))
              have hT17 : There wv17 wv14.heap.size 3 := by subst hwA; exact there3r wv14 _ _ _ _
              clear hwA
              have hXv17 : Below w1.heap.size w1 wv17 := bl_then hXv14 hb17
              have hs17 : w1.heap.size ≤ wv14.heap.size := Below.size hXv14
              have hu17 := hT14.lt3
              have hT17_9 := There.below hT14 hb17
              refine hK.out _ _ hXv17 (fun hHeld => ?_)
              clear hK K
              try simp only [Act.put, List.setIfInBounds_toArray, List.set_cons_zero, List.set_cons_succ]
              refine wpAnyH_ready (rs := [7]) (by kernel_rfl) (by simp) ?_
              refine (AllReadyH.cons rfl (fun K hK => ?_) AllReadyH.nil)
              rw [if_pos (by rfl)]
              go_simp
              refine Calls.mono (sT2 _) ?_
              rintro e wv18 ⟨rfl, hb18⟩
              have hXv18 : Below w1.heap.size w1 wv18 := bl_then hXv17 hb18
              have hT18_9 := There.below hT17_9 hb18
              have hT18_8 := There.below hT17 hb18
              go_wp2_with fail
              refine hK.out _ _ hXv18 (fun hHeld => ?_)
              clear hK K
              try simp only [Act.put, List.setIfInBounds_toArray, List.set_cons_zero, List.set_cons_succ]
              refine wpAnyH_ready (rs := [10]) (by kernel_rfl) (by simp) ?_
              refine (AllReadyH.cons rfl (fun K hK => ?_) AllReadyH.nil)
              rw [if_pos (by rfl)]
              have t0 := hT18_8.cell 0 (by omega)
              have f0 := (hT18_8 0 (by omega)).2
              have t1 := hT18_8.cell 1 (by omega)
              have f1 := (hT18_8 1 (by omega)).2
              have t2 := hT18_8.cell 2 (by omega)
              have f2 := (hT18_8 2 (by omega)).2
              go_simp
              have hXs : Below w1.heap.size w1 (((wv18.setCell ⟨wv14.heap.size, 0, none⟩ (.int .i64 z)).setCell ⟨wv14.heap.size, 1, none⟩ (.int .i64 lx)).setCell ⟨wv14.heap.size, 2, none⟩ (.int .i64 ly)) := ((hXv18.setCell hs17 _).setCell hs17 _).setCell hs17 _
              have hRs := RefA.put (z := z) (x := lx) (y := ly) hT18_8
              have hTs := ((hT18_9.putV (r' := wv14.heap.size) (o := 0) (v := .int .i64 z)).putV (r' := wv14.heap.size) (o := 1) (v := .int .i64 lx)).putV (r' := wv14.heap.size) (o := 2) (v := .int .i64 ly)
              generalize hwS : (((wv18.setCell _ _).setCell _ _).setCell _ _ : World) = wS at *
              refine hK.out _ _ hXs (fun hHeld => ?_)
              clear hK K hwS t0 t1 t2 f0 f1 f2
              try simp only [Act.put, List.setIfInBounds_toArray, List.set_cons_zero, List.set_cons_succ]
              refine wpAnyH_ready (rs := [11]) (by kernel_rfl) (by simp) ?_
              refine (AllReadyH.cons rfl (fun K hK => ?_) AllReadyH.nil)
              rw [if_pos (by rfl)]
              have t0 := hTs.cell 0 (by omega)
              have f0 := (hTs 0 (by omega)).2
              have t1 := hTs.cell 1 (by omega)
              have f1 := (hTs 1 (by omega)).2
              have t2 := hTs.cell 2 (by omega)
              have f2 := (hTs 2 (by omega)).2
              go_simp
              have hXu : Below w1.heap.size w1 (((wS.setCell ⟨wv3.heap.size, 0, none⟩ (.int .i64 z)).setCell ⟨wv3.heap.size, 1, none⟩ (.int .i64 hx)).setCell ⟨wv3.heap.size, 2, none⟩ (.int .i64 hy)) := ((hXs.setCell hs14 _).setCell hs14 _).setCell hs14 _
              have hRu := RefA.put (z := z) (x := hx) (y := hy) hTs
              have hRv := ((hRs.apart (r := wv3.heap.size) (o := 0) (v := .int .i64 z) (by omega)).apart (r := wv3.heap.size) (o := 1) (v := .int .i64 hx) (by omega)).apart (r := wv3.heap.size) (o := 2) (v := .int .i64 hy) (by omega)
              generalize hwU : (((wS.setCell _ _).setCell _ _).setCell _ _ : World) = wU at *
              refine hK.out _ _ hXu (fun hHeld => ?_)
              clear hK K hwU t0 t1 t2 f0 f1 f2
              try simp only [Act.put, List.setIfInBounds_toArray, List.set_cons_zero, List.set_cons_succ]
              refine wpAnyH_done (by kernel_rfl) ?_ _
              refine NoPanic.normal ?_
              go_wp2_with fail
              go_meet
              case rel => exact ⟨_, _, rfl, rfl, hRv, hRu, hXu⟩
        · rw [if_pos (by rfl)]
          go_simp
          generalize hwA : (World.alloc _ _ : World) = wv19
          have hb19 : Below wv2.heap.size wv2 wv19 := by subst hwA; (repeat (first | exact Below.refl _ _ | assumption | refine Below.drew ?_ | refine bl_alloc ?_ _ | refine bl_then ?_ (by assumption) | refine Below.setCell ?_ (by first | omega | (simp; done) | (simp; omega)) _ | refine bl_store ?_ ?_ _ _))
          have hT19 : There wv19 wv2.heap.size 3 := by subst hwA; exact there3r wv2 _ _ _ _
          clear hwA
          have hXv19 : Below w1.heap.size w1 wv19 := bl_then hXv2 hb19
          have hs19 : w1.heap.size ≤ wv2.heap.size := Below.size hXv2
          refine hK.out _ _ hXv19 (fun hHeld => ?_)
          clear hK K
          try simp only [Act.put, List.setIfInBounds_toArray, List.set_cons_zero, List.set_cons_succ]
          refine wpAnyH_ready (rs := [6, 9]) (by kernel_rfl) (by simp) ?_
          refine (AllReadyH.cons rfl (fun K hK => ?_) (AllReadyH.cons rfl (fun K hK => ?_) AllReadyH.nil))
          · rw [if_pos (by rfl)]
            go_simp
            refine Calls.mono (sL _) ?_
            rintro e wv20 ⟨rfl, hb20⟩
            have hXv20 : Below w1.heap.size w1 wv20 := bl_then hXv19 hb20
            have hT20_8 := There.below hT19 hb20
            go_wp2_with fail
            refine hK.out _ _ hXv20 (fun hHeld => ?_)
            clear hK K
            try simp only [Act.put, List.setIfInBounds_toArray, List.set_cons_zero, List.set_cons_succ]
            refine wpAnyH_ready (rs := [7, 9]) (by kernel_rfl) (by simp) ?_
            refine (AllReadyH.cons rfl (fun K hK => ?_) (AllReadyH.cons rfl (fun K hK => ?_) AllReadyH.nil))
            · rw [if_pos (by rfl)]
              go_simp
              refine Calls.mono (sT2 _) ?_
              rintro e wv21 ⟨rfl, hb21⟩
              have hXv21 : Below w1.heap.size w1 wv21 := bl_then hXv20 hb21
              have hT21_8 := There.below hT20_8 hb21
              go_wp2_with fail
              refine hK.out _ _ hXv21 (fun hHeld => ?_)
              clear hK K
              try simp only [Act.put, List.setIfInBounds_toArray, List.set_cons_zero, List.set_cons_succ]
              refine wpAnyH_ready (rs := [9]) (by kernel_rfl) (by simp) ?_
              refine (AllReadyH.cons rfl (fun K hK => ?_) AllReadyH.nil)
              rw [if_pos (by rfl)]
              go_simp
              generalize hwA : (World.alloc _ _ : World) = wv22
              have hb22 : Below wv21.heap.size wv21 wv22 := by subst hwA; (repeat (first | exact Below.refl _ _ | assumption | refine Below.drew ?_ | refine bl_alloc ?_ _ | refine bl_then ?_ (by assumption) | refine Below.setCell ?_ (by first | omega | (simp; done) | (simp; omega)) _ | refine bl_store ?_ ?_ _ _))
              have hT22 : There wv22 wv21.heap.size 3 := by subst hwA; exact there3r wv21 _ _ _ _
              clear hwA
              have hXv22 : Below w1.heap.size w1 wv22 := bl_then hXv21 hb22
              have hs22 : w1.heap.size ≤ wv21.heap.size := Below.size hXv21
              have hu22 := hT21_8.lt3
              have hT22_8 := There.below hT21_8 hb22
              refine hK.out _ _ hXv22 (fun hHeld => ?_)
              clear hK K
              try simp only [Act.put, List.setIfInBounds_toArray, List.set_cons_zero, List.set_cons_succ]
              refine wpAnyH_ready (rs := [10]) (by kernel_rfl) (by simp) ?_
              refine (AllReadyH.cons rfl (fun K hK => ?_) AllReadyH.nil)
              rw [if_pos (by rfl)]
              have t0 := hT22_8.cell 0 (by omega)
              have f0 := (hT22_8 0 (by omega)).2
              have t1 := hT22_8.cell 1 (by omega)
              have f1 := (hT22_8 1 (by omega)).2
              have t2 := hT22_8.cell 2 (by omega)
              have f2 := (hT22_8 2 (by omega)).2
              go_simp
              have hXs : Below w1.heap.size w1 (((wv22.setCell ⟨wv2.heap.size, 0, none⟩ (.int .i64 z)).setCell ⟨wv2.heap.size, 1, none⟩ (.int .i64 lx)).setCell ⟨wv2.heap.size, 2, none⟩ (.int .i64 ly)) := ((hXv22.setCell hs19 _).setCell hs19 _).setCell hs19 _
              have hRs := RefA.put (z := z) (x := lx) (y := ly) hT22_8
              have hTs := ((hT22.putV (r' := wv2.heap.size) (o := 0) (v := .int .i64 z)).putV (r' := wv2.heap.size) (o := 1) (v := .int .i64 lx)).putV (r' := wv2.heap.size) (o := 2) (v := .int .i64 ly)
              generalize hwS : (((wv22.setCell _ _).setCell _ _).setCell _ _ : World) = wS at *
              refine hK.out _ _ hXs (fun hHeld => ?_)
              clear hK K hwS t0 t1 t2 f0 f1 f2
              try simp only [Act.put, List.setIfInBounds_toArray, List.set_cons_zero, List.set_cons_succ]
              refine wpAnyH_ready (rs := [11]) (by kernel_rfl) (by simp) ?_
              refine (AllReadyH.cons rfl (fun K hK => ?_) AllReadyH.nil)
              rw [if_pos (by rfl)]
              have t0 := hTs.cell 0 (by omega)
              have f0 := (hTs 0 (by omega)).2
              have t1 := hTs.cell 1 (by omega)
              have f1 := (hTs 1 (by omega)).2
              have t2 := hTs.cell 2 (by omega)
              have f2 := (hTs 2 (by omega)).2
              go_simp
              have hXu : Below w1.heap.size w1 (((wS.setCell ⟨wv21.heap.size, 0, none⟩ (.int .i64 z)).setCell ⟨wv21.heap.size, 1, none⟩ (.int .i64 hx)).setCell ⟨wv21.heap.size, 2, none⟩ (.int .i64 hy)) := ((hXs.setCell hs22 _).setCell hs22 _).setCell hs22 _
              have hRu := RefA.put (z := z) (x := hx) (y := hy) hTs
              have hRv := ((hRs.apart (r := wv21.heap.size) (o := 0) (v := .int .i64 z) (by omega)).apart (r := wv21.heap.size) (o := 1) (v := .int .i64 hx) (by omega)).apart (r := wv21.heap.size) (o := 2) (v := .int .i64 hy) (by omega)
              generalize hwU : (((wS.setCell _ _).setCell _ _).setCell _ _ : World) = wU at *
              refine hK.out _ _ hXu (fun hHeld => ?_)
              clear hK K hwU t0 t1 t2 f0 f1 f2
              try simp only [Act.put, List.setIfInBounds_toArray, List.set_cons_zero, List.set_cons_succ]
              refine wpAnyH_done (by kernel_rfl) ?_ _
              refine NoPanic.normal ?_
              go_wp2_with fail
              go_meet
              case rel => exact ⟨_, _, rfl, rfl, hRv, hRu, hXu⟩
            · rw [if_pos (by rfl)]
              go_simp
              generalize hwA : (World.alloc _ _ : World) = wv23
              have hb23 : Below wv20.heap.size wv20 wv23 := by subst hwA; (repeat (first | exact Below.refl _ _ | assumption | refine Below.drew ?_ | refine bl_alloc ?_ _ | refine bl_then ?_ (by assumption) | refine Below.setCell ?_ (by first | omega | (simp; done) | (simp; omega)) _ | refine bl_store ?_ ?_ _ _))
              have hT23 : There wv23 wv20.heap.size 3 := by subst hwA; exact there3r wv20 _ _ _ _
              clear hwA
              have hXv23 : Below w1.heap.size w1 wv23 := bl_then hXv20 hb23
              have hs23 : w1.heap.size ≤ wv20.heap.size := Below.size hXv20
              have hu23 := hT20_8.lt3
              have hT23_8 := There.below hT20_8 hb23
              refine hK.out _ _ hXv23 (fun hHeld => ?_)
              clear hK K
              try simp only [Act.put, List.setIfInBounds_toArray, List.set_cons_zero, List.set_cons_succ]
              refine wpAnyH_ready (rs := [7]) (by kernel_rfl) (by simp) ?_
              refine (AllReadyH.cons rfl (fun K hK => ?_) AllReadyH.nil)
              rw [if_pos (by rfl)]
              go_simp
              refine Calls.mono (sT2 _) ?_
              rintro e wv24 ⟨rfl, hb24⟩
              have hXv24 : Below w1.heap.size w1 wv24 := bl_then hXv23 hb24
              have hT24_8 := There.below hT23_8 hb24
              have hT24_9 := There.below hT23 hb24
              go_wp2_with fail
              refine hK.out _ _ hXv24 (fun hHeld => ?_)
              clear hK K
              try simp only [Act.put, List.setIfInBounds_toArray, List.set_cons_zero, List.set_cons_succ]
              refine wpAnyH_ready (rs := [10]) (by kernel_rfl) (by simp) ?_
              refine (AllReadyH.cons rfl (fun K hK => ?_) AllReadyH.nil)
              rw [if_pos (by rfl)]
              have t0 := hT24_8.cell 0 (by omega)
              have f0 := (hT24_8 0 (by omega)).2
              have t1 := hT24_8.cell 1 (by omega)
              have f1 := (hT24_8 1 (by omega)).2
              have t2 := hT24_8.cell 2 (by omega)
              have f2 := (hT24_8 2 (by omega)).2
              go_simp
              have hXs : Below w1.heap.size w1 (((wv24.setCell ⟨wv2.heap.size, 0, none⟩ (.int .i64 z)).setCell ⟨wv2.heap.size, 1, none⟩ (.int .i64 lx)).setCell ⟨wv2.heap.size, 2, none⟩ (.int .i64 ly)) := ((hXv24.setCell hs19 _).setCell hs19 _).setCell hs19 _
              have hRs := RefA.put (z := z) (x := lx) (y := ly) hT24_8
              have hTs := ((hT24_9.putV (r' := wv2.heap.size) (o := 0) (v := .int .i64 z)).putV (r' := wv2.heap.size) (o := 1) (v := .int .i64 lx)).putV (r' := wv2.heap.size) (o := 2) (v := .int .i64 ly)
              generalize hwS : (((wv24.setCell _ _).setCell _ _).setCell _ _ : World) = wS at *
              refine hK.out _ _ hXs (fun hHeld => ?_)
              clear hK K hwS t0 t1 t2 f0 f1 f2
              try simp only [Act.put, List.setIfInBounds_toArray, List.set_cons_zero, List.set_cons_succ]
              refine wpAnyH_ready (rs := [11]) (by kernel_rfl) (by simp) ?_
              refine (AllReadyH.cons rfl (fun K hK => ?_) AllReadyH.nil)
              rw [if_pos (by rfl)]
              have t0 := hTs.cell 0 (by omega)
              have f0 := (hTs 0 (by omega)).2
              have t1 := hTs.cell 1 (by omega)
              have f1 := (hTs 1 (by omega)).2
              have t2 := hTs.cell 2 (by omega)
              have f2 := (hTs 2 (by omega)).2
              go_simp
              have hXu : Below w1.heap.size w1 (((wS.setCell ⟨wv20.heap.size, 0, none⟩ (.int .i64 z)).setCell ⟨wv20.heap.size, 1, none⟩ (.int .i64 hx)).setCell ⟨wv20.heap.size, 2, none⟩ (.int .i64 hy)) := ((hXs.setCell hs23 _).setCell hs23 _).setCell hs23 _
              have hRu := RefA.put (z := z) (x := hx) (y := hy) hTs
              have hRv := ((hRs.apart (r := wv20.heap.size) (o := 0) (v := .int .i64 z) (by omega)).apart (r := wv20.heap.size) (o := 1) (v := .int .i64 hx) (by omega)).apart (r := wv20.heap.size) (o := 2) (v := .int .i64 hy) (by omega)
              generalize hwU : (((wS.setCell _ _).setCell _ _).setCell _ _ : World) = wU at *
              refine hK.out _ _ hXu (fun hHeld => ?_)
              clear hK K hwU t0 t1 t2 f0 f1 f2
              try simp only [Act.put, List.setIfInBounds_toArray, List.set_cons_zero, List.set_cons_succ]
              refine wpAnyH_done (by kernel_rfl) ?_ _
              refine NoPanic.normal ?_
              go_wp2_with fail
              go_meet
              case rel => exact ⟨_, _, rfl, rfl, hRv, hRu, hXu⟩
          · rw [if_pos (by rfl)]
            go_simp
            generalize hwA : (World.alloc _ _ : World) = wv25
            have hb25 : Below wv19.heap.size wv19 wv25 := by subst hwA; (repeat (first | exact Below.refl _ _ | assumption | refine Below.drew ?_ | refine bl_alloc ?_ _ | refine bl_then ?_ (by assumption) | refine Below.setCell ?_ (by first | omega | (simp; done) | (simp; omega)) _ | refine bl_store ?_ ?_ _ _))
            have hT25 : There wv25 wv19.heap.size 3 := by subst hwA; exact there3r wv19 _ _ _ _
            clear hwA
            have hXv25 : Below w1.heap.size w1 wv25 := bl_then hXv19 hb25
            have hs25 : w1.heap.size ≤ wv19.heap.size := Below.size hXv19
            have hu25 := hT19.lt3
            have hT25_8 := There.below hT19 hb25
            refine hK.out _ _ hXv25 (fun hHeld => ?_)
            clear hK K
            try simp only [Act.put, List.setIfInBounds_toArray, List.set_cons_zero, List.set_cons_succ]
            refine wpAnyH_ready (rs := [6]) (by kernel_rfl) (by simp) ?_
            refine (AllReadyH.cons rfl (fun K hK => ?_) AllReadyH.nil)
            rw [if_pos (by rfl)]
            go_simp
            refine Calls.mono (sL _) ?_
            rintro e wv26 ⟨rfl, hb26⟩
            have hXv26 : Below w1.heap.size w1 wv26 := bl_then hXv25 hb26
            have hT26_8 := There.below hT25_8 hb26
            have hT26_9 := There.below hT25 hb26
            go_wp2_with fail
            refine hK.out _ _ hXv26 (fun hHeld => ?_)
            clear hK K
            try simp only [Act.put, List.setIfInBounds_toArray, List.set_cons_zero, List.set_cons_succ]
            refine wpAnyH_ready (rs := [7]) (by kernel_rfl) (by simp) ?_
            refine (AllReadyH.cons rfl (fun K hK => ?_) AllReadyH.nil)
            rw [if_pos (by rfl)]
            go_simp
            refine Calls.mono (sT2 _) ?_
            rintro e wv27 ⟨rfl, hb27⟩
            have hXv27 : Below w1.heap.size w1 wv27 := bl_then hXv26 hb27
            have hT27_8 := There.below hT26_8 hb27
            have hT27_9 := There.below hT26_9 hb27
            go_wp2_with fail
            refine hK.out _ _ hXv27 (fun hHeld => ?_)
            clear hK K
            try simp only [Act.put, List.setIfInBounds_toArray, List.set_cons_zero, List.set_cons_succ]
            refine wpAnyH_ready (rs := [10]) (by kernel_rfl) (by simp) ?_
            refine (AllReadyH.cons rfl (fun K hK => ?_) AllReadyH.nil)
            rw [if_pos (by rfl)]
            have t0 := hT27_8.cell 0 (by omega)
            have f0 := (hT27_8 0 (by omega)).2
            have t1 := hT27_8.cell 1 (by omega)
            have f1 := (hT27_8 1 (by omega)).2
            have t2 := hT27_8.cell 2 (by omega)
            have f2 := (hT27_8 2 (by omega)).2
            go_simp
            have hXs : Below w1.heap.size w1 (((wv27.setCell ⟨wv2.heap.size, 0, none⟩ (.int .i64 z)).setCell ⟨wv2.heap.size, 1, none⟩ (.int .i64 lx)).setCell ⟨wv2.heap.size, 2, none⟩ (.int .i64 ly)) := ((hXv27.setCell hs19 _).setCell hs19 _).setCell hs19 _
            have hRs := RefA.put (z := z) (x := lx) (y := ly) hT27_8
            have hTs := ((hT27_9.putV (r' := wv2.heap.size) (o := 0) (v := .int .i64 z)).putV (r' := wv2.heap.size) (o := 1) (v := .int .i64 lx)).putV (r' := wv2.heap.size) (o := 2) (v := .int .i64 ly)
            generalize hwS : (((wv27.setCell _ _).setCell _ _).setCell _ _ : World) = wS at *
            refine hK.out _ _ hXs (fun hHeld => ?_)
            clear hK K hwS t0 t1 t2 f0 f1 f2
            try simp only [Act.put, List.setIfInBounds_toArray, List.set_cons_zero, List.set_cons_succ]
            refine wpAnyH_ready (rs := [11]) (by kernel_rfl) (by simp) ?_
            refine (AllReadyH.cons rfl (fun K hK => ?_) AllReadyH.nil)
            rw [if_pos (by rfl)]
            have t0 := hTs.cell 0 (by omega)
            have f0 := (hTs 0 (by omega)).2
            have t1 := hTs.cell 1 (by omega)
            have f1 := (hTs 1 (by omega)).2
            have t2 := hTs.cell 2 (by omega)
            have f2 := (hTs 2 (by omega)).2
            go_simp
            have hXu : Below w1.heap.size w1 (((wS.setCell ⟨wv19.heap.size, 0, none⟩ (.int .i64 z)).setCell ⟨wv19.heap.size, 1, none⟩ (.int .i64 hx)).setCell ⟨wv19.heap.size, 2, none⟩ (.int .i64 hy)) := ((hXs.setCell hs25 _).setCell hs25 _).setCell hs25 _
            have hRu := RefA.put (z := z) (x := hx) (y := hy) hTs
            have hRv := ((hRs.apart (r := wv19.heap.size) (o := 0) (v := .int .i64 z) (by omega)).apart (r := wv19.heap.size) (o := 1) (v := .int .i64 hx) (by omega)).apart (r := wv19.heap.size) (o := 2) (v := .int .i64 hy) (by omega)
            generalize hwU : (((wS.setCell _ _).setCell _ _).setCell _ _ : World) = wU at *
            refine hK.out _ _ hXu (fun hHeld => ?_)
            clear hK K hwU t0 t1 t2 f0 f1 f2
            try simp only [Act.put, List.setIfInBounds_toArray, List.set_cons_zero, List.set_cons_succ]
            refine wpAnyH_done (by kernel_rfl) ?_ _
            refine NoPanic.normal ?_
            go_wp2_with fail
            go_meet
            case rel => exact ⟨_, _, rfl, rfl, hRv, hRu, hXu⟩
        · rw [if_pos (by rfl)]
          go_simp
          generalize hwA : (World.alloc _ _ : World) = wv28
          have hb28 : Below wv2.heap.size wv2 wv28 := by subst hwA; (repeat (first | exact Below.refl _ _ | assumption | refine Below.drew ?_ | refine bl_alloc ?_ _ | refine bl_then ?_ (by assumption) | refine Below.setCell ?_ (by first | omega | (simp; done) | (simp; omega)) _ | refine bl_store ?_ ?_ _ _))
          have hT28 : There wv28 wv2.heap.size 3 := by subst hwA; exact there3r wv2 _ _ _ _
          clear hwA
          have hXv28 : Below w1.heap.size w1 wv28 := bl_then hXv2 hb28
          have hs28 : w1.heap.size ≤ wv2.heap.size := Below.size hXv2
          refine hK.out _ _ hXv28 (fun hHeld => ?_)
          clear hK K
          try simp only [Act.put, List.setIfInBounds_toArray, List.set_cons_zero, List.set_cons_succ]
          refine wpAnyH_ready (rs := [6, 8]) (by kernel_rfl) (by simp) ?_
          refine (AllReadyH.cons rfl (fun K hK => ?_) (AllReadyH.cons rfl (fun K hK => ?_) AllReadyH.nil))
          · rw [if_pos (by rfl)]
            go_simp
            refine Calls.mono (sL _) ?_
            rintro e wv29 ⟨rfl, hb29⟩
            have hXv29 : Below w1.heap.size w1 wv29 := bl_then hXv28 hb29
            have hT29_9 := There.below hT28 hb29
            go_wp2_with fail
            refine hK.out _ _ hXv29 (fun hHeld => ?_)
            clear hK K
            try simp only [Act.put, List.setIfInBounds_toArray, List.set_cons_zero, List.set_cons_succ]
            refine wpAnyH_ready (rs := [7, 8]) (by kernel_rfl) (by simp) ?_
            refine (AllReadyH.cons rfl (fun K hK => ?_) (AllReadyH.cons rfl (fun K hK => ?_) AllReadyH.nil))
            · rw [if_pos (by rfl)]
              go_simp
              refine Calls.mono (sT2 _) ?_
              rintro e wv30 ⟨rfl, hb30⟩
              have hXv30 : Below w1.heap.size w1 wv30 := bl_then hXv29 hb30
              have hT30_9 := There.below hT29_9 hb30
              go_wp2_with fail
              refine hK.out _ _ hXv30 (fun hHeld => ?_)
              clear hK K
              try simp only [Act.put, List.setIfInBounds_toArray, List.set_cons_zero, List.set_cons_succ]
              refine wpAnyH_ready (rs := [8]) (by kernel_rfl) (by simp) ?_
              refine (AllReadyH.cons rfl (fun K hK => ?_) AllReadyH.nil)
              rw [if_pos (by rfl)]
              go_simp
              generalize hwA : (World.alloc _ _ : World) = wv31
              have hb31 : Below wv30.heap.size wv30 wv31 := by subst hwA; (repeat (first | exact Below.refl _ _ | assumption | refine Below.drew ?_ | refine bl_alloc ?_ _ | refine bl_then ?_ (by assumption) | refine Below.setCell ?_ (by first | omega | (simp; done) | (simp; omega)) _ | refine bl_store ?_ ?_ _ _))
              have hT31 : There wv31 wv30.heap.size 3 := by subst hwA; exact there3r wv30 _ _ _ _
              clear hwA
              have hXv31 : Below w1.heap.size w1 wv31 := bl_then hXv30 hb31
              have hs31 : w1.heap.size ≤ wv30.heap.size := Below.size hXv30
              have hu31 := hT30_9.lt3
              have hT31_9 := There.below hT30_9 hb31
              refine hK.out _ _ hXv31 (fun hHeld => ?_)
              clear hK K
              try simp only [Act.put, List.setIfInBounds_toArray, List.set_cons_zero, List.set_cons_succ]
              refine wpAnyH_ready (rs := [10]) (by kernel_rfl) (by simp) ?_
              refine (AllReadyH.cons rfl (fun K hK => ?_) AllReadyH.nil)
              rw [if_pos (by rfl)]
              have t0 := hT31.cell 0 (by omega)
              have f0 := (hT31 0 (by omega)).2
              have t1 := hT31.cell 1 (by omega)
              have f1 := (hT31 1 (by omega)).2
              have t2 := hT31.cell 2 (by omega)
              have f2 := (hT31 2 (by omega)).2
              go_simp
              have hXs : Below w1.heap.size w1 (((wv31.setCell ⟨wv30.heap.size, 0, none⟩ (.int .i64 z)).setCell ⟨wv30.heap.size, 1, none⟩ (.int .i64 lx)).setCell ⟨wv30.heap.size, 2, none⟩ (.int .i64 ly)) := ((hXv31.setCell hs31 _).setCell hs31 _).setCell hs31 _
              have hRs := RefA.put (z := z) (x := lx) (y := ly) hT31
              have hTs := ((hT31_9.putV (r' := wv30.heap.size) (o := 0) (v := .int .i64 z)).putV (r' := wv30.heap.size) (o := 1) (v := .int .i64 lx)).putV (r' := wv30.heap.size) (o := 2) (v := .int .i64 ly)
              generalize hwS : (((wv31.setCell _ _).setCell _ _).setCell _ _ : World) = wS at *
              refine hK.out _ _ hXs (fun hHeld => ?_)
              clear hK K hwS t0 t1 t2 f0 f1 f2
              try simp only [Act.put, List.setIfInBounds_toArray, List.set_cons_zero, List.set_cons_succ]
              refine wpAnyH_ready (rs := [11]) (by kernel_rfl) (by simp) ?_
              refine (AllReadyH.cons rfl (fun K hK => ?_) AllReadyH.nil)
              rw [if_pos (by rfl)]
              have t0 := hTs.cell 0 (by omega)
              have f0 := (hTs 0 (by omega)).2
              have t1 := hTs.cell 1 (by omega)
              have f1 := (hTs 1 (by omega)).2
              have t2 := hTs.cell 2 (by omega)
              have f2 := (hTs 2 (by omega)).2
              go_simp
              have hXu : Below w1.heap.size w1 (((wS.setCell ⟨wv2.heap.size, 0, none⟩ (.int .i64 z)).setCell ⟨wv2.heap.size, 1, none⟩ (.int .i64 hx)).setCell ⟨wv2.heap.size, 2, none⟩ (.int .i64 hy)) := ((hXs.setCell hs28 _).setCell hs28 _).setCell hs28 _
              have hRu := RefA.put (z := z) (x := hx) (y := hy) hTs
              have hRv := ((hRs.apart (r := wv2.heap.size) (o := 0) (v := .int .i64 z) (by omega)).apart (r := wv2.heap.size) (o := 1) (v := .int .i64 hx) (by omega)).apart (r := wv2.heap.size) (o := 2) (v := .int .i64 hy) (by omega)
              generalize hwU : (((wS.setCell _ _).setCell _ _).setCell _ _ : World) = wU at *
              refine hK.out _ _ hXu (fun hHeld => ?_)
              clear hK K hwU t0 t1 t2 f0 f1 f2
              try simp only [Act.put, List.setIfInBounds_toArray, List.set_cons_zero, List.set_cons_succ]
              refine wpAnyH_done (by kernel_rfl) ?_ _
              refine NoPanic.normal ?_
              go_wp2_with fail
              go_meet
              case rel => exact ⟨_, _, rfl, rfl, hRv, hRu, hXu⟩
            · rw [if_pos (by rfl)]
              go_simp
              generalize hwA : (World.alloc _ _ : World) = wv32
              have hb32 : Below wv29.heap.size wv29 wv32 := by subst hwA; (repeat (first | exact Below.refl _ _ | assumption | refine Below.drew ?_ | refine bl_alloc ?_ _ | refine bl_then ?_ (by assumption) | refine Below.setCell ?_ (by first | omega | (simp; done) | (simp; omega)) _ | refine bl_store ?_ ?_ _ _))
              have hT32 : There wv32 wv29.heap.size 3 := by subst hwA; exact there3r wv29 _ _ _ _
              clear hwA
              have hXv32 : Below w1.heap.size w1 wv32 := bl_then hXv29 hb32
              have hs32 : w1.heap.size ≤ wv29.heap.size := Below.size hXv29
              have hu32 := hT29_9.lt3
              have hT32_9 := There.below hT29_9 hb32
              refine hK.out _ _ hXv32 (fun hHeld => ?_)
              clear hK K
              try simp only [Act.put, List.setIfInBounds_toArray, List.set_cons_zero, List.set_cons_succ]
              refine wpAnyH_ready (rs := [7]) (by kernel_rfl) (by simp) ?_
              refine (AllReadyH.cons rfl (fun K hK => ?_) AllReadyH.nil)
              rw [if_pos (by rfl)]
              go_simp
              refine Calls.mono (sT2 _) ?_
              rintro e wv33 ⟨rfl, hb33⟩
              have hXv33 : Below w1.heap.size w1 wv33 := bl_then hXv32 hb33
              have hT33_9 := There.below hT32_9 hb33
              have hT33_8 := There.below hT32 hb33
              go_wp2_with fail
              refine hK.out _ _ hXv33 (fun hHeld => ?_)
              clear hK K
              try simp only [Act.put, List.setIfInBounds_toArray, List.set_cons_zero, List.set_cons_succ]
              refine wpAnyH_ready (rs := [10]) (by kernel_rfl) (by simp) ?_
              refine (AllReadyH.cons rfl (fun K hK => ?_) AllReadyH.nil)
              rw [if_pos (by rfl)]
              have t0 := hT33_8.cell 0 (by omega)
              have f0 := (hT33_8 0 (by omega)).2
              have t1 := hT33_8.cell 1 (by omega)
              have f1 := (hT33_8 1 (by omega)).2
              have t2 := hT33_8.cell 2 (by omega)
              have f2 := (hT33_8 2 (by omega)).2
              go_simp
              have hXs : Below w1.heap.size w1 (((wv33.setCell ⟨wv29.heap.size, 0, none⟩ (.int .i64 z)).setCell ⟨wv29.heap.size, 1, none⟩ (.int .i64 lx)).setCell ⟨wv29.heap.size, 2, none⟩ (.int .i64 ly)) := ((hXv33.setCell hs32 _).setCell hs32 _).setCell hs32 _
              have hRs := RefA.put (z := z) (x := lx) (y := ly) hT33_8
              have hTs := ((hT33_9.putV (r' := wv29.heap.size) (o := 0) (v := .int .i64 z)).putV (r' := wv29.heap.size) (o := 1) (v := .int .i64 lx)).putV (r' := wv29.heap.size) (o := 2) (v := .int .i64 ly)
              generalize hwS : (((wv33.setCell _ _).setCell _ _).setCell _ _ : World) = wS at *
              refine hK.out _ _ hXs (fun hHeld => ?_)
              clear hK K hwS t0 t1 t2 f0 f1 f2
              try simp only [Act.put, List.setIfInBounds_toArray, List.set_cons_zero, List.set_cons_succ]
              refine wpAnyH_ready (rs := [11]) (by kernel_rfl) (by simp) ?_
              refine (AllReadyH.cons rfl (fun K hK => ?_) AllReadyH.nil)
              rw [if_pos (by rfl)]
              have t0 := hTs.cell 0 (by omega)
              have f0 := (hTs 0 (by omega)).2
              have t1 := hTs.cell 1 (by omega)
              have f1 := (hTs 1 (by omega)).2
              have t2 := hTs.cell 2 (by omega)
              have f2 := (hTs 2 (by omega)).2
              go_simp
              have hXu : Below w1.heap.size w1 (((wS.setCell ⟨wv2.heap.size, 0, none⟩ (.int .i64 z)).setCell ⟨wv2.heap.size, 1, none⟩ (.int .i64 hx)).setCell ⟨wv2.heap.size, 2, none⟩ (.int .i64 hy)) := ((hXs.setCell hs28 _).setCell hs28 _).setCell hs28 _
              have hRu := RefA.put (z := z) (x := hx) (y := hy) hTs
              have hRv := ((hRs.apart (r := wv2.heap.size) (o := 0) (v := .int .i64 z) (by omega)).apart (r := wv2.heap.size) (o := 1) (v := .int .i64 hx) (by omega)).apart (r := wv2.heap.size) (o := 2) (v := .int .i64 hy) (by omega)
              generalize hwU : (((wS.setCell _ _).setCell _ _).setCell _ _ : World) = wU at *
              refine hK.out _ _ hXu (fun hHeld => ?_)
              clear hK K hwU t0 t1 t2 f0 f1 f2
              try simp only [Act.put, List.setIfInBounds_toArray, List.set_cons_zero, List.set_cons_succ]
              refine wpAnyH_done (by kernel_rfl) ?_ _
              refine NoPanic.normal ?_
              go_wp2_with fail
              go_meet
              case rel => exact ⟨_, _, rfl, rfl, hRv, hRu, hXu⟩
          · rw [if_pos (by rfl)]
            go_simp
            generalize hwA : (World.alloc _ _ : World) = wv34
            have hb34 : Below wv28.heap.size wv28 wv34 := by subst hwA; (repeat (first | exact Below.refl _ _ | assumption | refine Below.drew ?_ | refine bl_alloc ?_ _ | refine bl_then ?_ (by assumption) | refine Below.setCell ?_ (by first | omega | (simp; done) | (simp; omega)) _ | refine bl_store ?_ ?_ _ _))
            have hT34 : There wv34 wv28.heap.size 3 := by subst hwA; exact there3r wv28 _ _ _ _
            clear hwA
            have hXv34 : Below w1.heap.size w1 wv34 := bl_then hXv28 hb34
            have hs34 : w1.heap.size ≤ wv28.heap.size := Below.size hXv28
            have hu34 := hT28.lt3
            have hT34_9 := There.below hT28 hb34
            refine hK.out _ _ hXv34 (fun hHeld => ?_)
            clear hK K
            try simp only [Act.put, List.setIfInBounds_toArray, List.set_cons_zero, List.set_cons_succ]
            refine wpAnyH_ready (rs := [6]) (by kernel_rfl) (by simp) ?_
            refine (AllReadyH.cons rfl (fun K hK => ?_) AllReadyH.nil)
            rw [if_pos (by rfl)]
            go_simp
            refine Calls.mono (sL _) ?_
            rintro e wv35 ⟨rfl, hb35⟩
            have hXv35 : Below w1.heap.size w1 wv35 := bl_then hXv34 hb35
            have hT35_9 := There.below hT34_9 hb35
            have hT35_8 := There.below hT34 hb35
            go_wp2_with fail
            refine hK.out _ _ hXv35 (fun hHeld => ?_)
            clear hK K
            try simp only [Act.put, List.setIfInBounds_toArray, List.set_cons_zero, List.set_cons_succ]
            refine wpAnyH_ready (rs := [7]) (by kernel_rfl) (by simp) ?_
            refine (AllReadyH.cons rfl (fun K hK => ?_) AllReadyH.nil)
            rw [if_pos (by rfl)]
            go_simp
            refine Calls.mono (sT2 _) ?_
            rintro e wv36 ⟨rfl, hb36⟩
            have hXv36 : Below w1.heap.size w1 wv36 := bl_then hXv35 hb36
            have hT36_9 := There.below hT35_9 hb36
            have hT36_8 := There.below hT35_8 hb36
            go_wp2_with fail
            refine hK.out _ _ hXv36 (fun hHeld => ?_)
            clear hK K
            try simp only [Act.put, List.setIfInBounds_toArray, List.set_cons_zero, List.set_cons_succ]
            refine wpAnyH_ready (rs := [10]) (by kernel_rfl) (by simp) ?_
            refine (AllReadyH.cons rfl (fun K hK => ?_) AllReadyH.nil)
            rw [if_pos (by rfl)]
            have t0 := hT36_8.cell 0 (by omega)
            have f0 := (hT36_8 0 (by omega)).2
            have t1 := hT36_8.cell 1 (by omega)
            have f1 := (hT36_8 1 (by omega)).2
            have t2 := hT36_8.cell 2 (by omega)
            have f2 := (hT36_8 2 (by omega)).2
            go_simp
            have hXs : Below w1.heap.size w1 (((wv36.setCell ⟨wv28.heap.size, 0, none⟩ (.int .i64 z)).setCell ⟨wv28.heap.size, 1, none⟩ (.int .i64 lx)).setCell ⟨wv28.heap.size, 2, none⟩ (.int .i64 ly)) := ((hXv36.setCell hs34 _).setCell hs34 _).setCell hs34 _
            have hRs := RefA.put (z := z) (x := lx) (y := ly) hT36_8
            have hTs := ((hT36_9.putV (r' := wv28.heap.size) (o := 0) (v := .int .i64 z)).putV (r' := wv28.heap.size) (o := 1) (v := .int .i64 lx)).putV (r' := wv28.heap.size) (o := 2) (v := .int .i64 ly)
            generalize hwS : (((wv36.setCell _ _).setCell _ _).setCell _ _ : World) = wS at *
            refine hK.out _ _ hXs (fun hHeld => ?_)
            clear hK K hwS t0 t1 t2 f0 f1 f2
            try simp only [Act.put, List.setIfInBounds_toArray, List.set_cons_zero, List.set_cons_succ]
            refine wpAnyH_ready (rs := [11]) (by kernel_rfl) (by simp) ?_
            refine (AllReadyH.cons rfl (fun K hK => ?_) AllReadyH.nil)
            rw [if_pos (by rfl)]
            have t0 := hTs.cell 0 (by omega)
            have f0 := (hTs 0 (by omega)).2
            have t1 := hTs.cell 1 (by omega)
            have f1 := (hTs 1 (by omega)).2
            have t2 := hTs.cell 2 (by omega)
            have f2 := (hTs 2 (by omega)).2
            go_simp
            have hXu : Below w1.heap.size w1 (((wS.setCell ⟨wv2.heap.size, 0, none⟩ (.int .i64 z)).setCell ⟨wv2.heap.size, 1, none⟩ (.int .i64 hx)).setCell ⟨wv2.heap.size, 2, none⟩ (.int .i64 hy)) := ((hXs.setCell hs28 _).setCell hs28 _).setCell hs28 _
            have hRu := RefA.put (z := z) (x := hx) (y := hy) hTs
            have hRv := ((hRs.apart (r := wv2.heap.size) (o := 0) (v := .int .i64 z) (by omega)).apart (r := wv2.heap.size) (o := 1) (v := .int .i64 hx) (by omega)).apart (r := wv2.heap.size) (o := 2) (v := .int .i64 hy) (by omega)
            generalize hwU : (((wS.setCell _ _).setCell _ _).setCell _ _ : World) = wU at *
            refine hK.out _ _ hXu (fun hHeld => ?_)
            clear hK K hwU t0 t1 t2 f0 f1 f2
            try simp only [Act.put, List.setIfInBounds_toArray, List.set_cons_zero, List.set_cons_succ]
            refine wpAnyH_done (by kernel_rfl) ?_ _
            refine NoPanic.normal ?_
            go_wp2_with fail
            go_meet
            case rel => exact ⟨_, _, rfl, rfl, hRv, hRu, hXu⟩
      · rw [if_pos (by rfl)]
        go_simp
        generalize hwA : (World.alloc _ _ : World) = wv37
        have hb37 : Below wv1.heap.size wv1 wv37 := by subst hwA; (repeat (first | exact Below.refl _ _ | assumption | refine Below.drew ?_ | refine bl_alloc ?_ _ | refine bl_then ?_ (by assumption) | refine Below.setCell ?_ (by first | omega | (simp; done) | (simp; omega)) _ | refine bl_store ?_ ?_ _ _))
        have hT37 : There wv37 wv1.heap.size 3 := by subst hwA; exact there3r wv1 _ _ _ _
        clear hwA
        have hXv37 : Below w1.heap.size w1 wv37 := bl_then hXv1 hb37
        have hs37 : w1.heap.size ≤ wv1.heap.size := Below.size hXv1
        refine hK.out _ _ hXv37 (fun hHeld => ?_)
        clear hK K
        try simp only [Act.put, List.setIfInBounds_toArray, List.set_cons_zero, List.set_cons_succ]
        refine wpAnyH_ready (rs := [3, 9]) (by kernel_rfl) (by simp) ?_
        refine (AllReadyH.cons rfl (fun K hK => ?_) (AllReadyH.cons rfl (fun K hK => ?_) AllReadyH.nil))
        · rw [if_pos (by rfl)]
          go_simp
          refine Calls.mono (sT1 _) ?_
          rintro e wv38 ⟨rfl, hb38⟩
          have hXv38 : Below w1.heap.size w1 wv38 := bl_then hXv37 hb38
          have hT38_8 := There.below hT37 hb38
          go_wp2_with fail
          refine hK.out _ _ hXv38 (fun hHeld => ?_)
          clear hK K
          try simp only [Act.put, List.setIfInBounds_toArray, List.set_cons_zero, List.set_cons_succ]
          refine wpAnyH_ready (rs := [6, 9]) (by kernel_rfl) (by simp) ?_
          refine (AllReadyH.cons rfl (fun K hK => ?_) (AllReadyH.cons rfl (fun K hK => ?_) AllReadyH.nil))
          · rw [if_pos (by rfl)]
            go_simp
            refine Calls.mono (sL _) ?_
            rintro e wv39 ⟨rfl, hb39⟩
            have hXv39 : Below w1.heap.size w1 wv39 := bl_then hXv38 hb39
            have hT39_8 := There.below hT38_8 hb39
            go_wp2_with fail
            refine hK.out _ _ hXv39 (fun hHeld => ?_)
            clear hK K
            try simp only [Act.put, List.setIfInBounds_toArray, List.set_cons_zero, List.set_cons_succ]
            refine wpAnyH_ready (rs := [7, 9]) (by kernel_rfl) (by simp) ?_
            refine (AllReadyH.cons rfl (fun K hK => ?_) (AllReadyH.cons rfl (fun K hK => ?_) AllReadyH.nil))
            · rw [if_pos (by rfl)]
              go_simp
              refine Calls.mono (sT2 _) ?_
              rintro e wv40 ⟨rfl, hb40⟩
              have hXv40 : Below w1.heap.size w1 wv40 := bl_then hXv39 hb40
              have hT40_8 := There.below hT39_8 hb40
              go_wp2_with fail
              refine hK.out _ _ hXv40 (fun hHeld => ?_)
              clear hK K
              try simp only [Act.put, List.setIfInBounds_toArray, List.set_cons_zero, List.set_cons_succ]
              refine wpAnyH_ready (rs := [9]) (by kernel_rfl) (by simp) ?_
              refine (AllReadyH.cons rfl (fun K hK => ?_) AllReadyH.nil)
              rw [if_pos (by rfl)]
              go_simp
              generalize hwA : (World.alloc _ _ : World) = wv41
              have hb41 : Below wv40.heap.size wv40 wv41 := by subst hwA; (repeat (first | exact Below.refl _ _ | assumption | refine Below.drew ?_ | refine bl_alloc ?_ _ | refine bl_then ?_ (by assumption) | refine Below.setCell ?_ (by first | omega | (simp; done) | (simp; omega)) _ | refine bl_store ?_ ?_ _ _))
              have hT41 : There wv41 wv40.heap.size 3 := by subst hwA; exact there3r wv40 _ _ _ _
              clear hwA
              have hXv41 : Below w1.heap.size w1 wv41 := bl_then hXv40 hb41
              have hs41 : w1.heap.size ≤ wv40.heap.size := Below.size hXv40
              have hu41 := hT40_8.lt3
              have hT41_8 := There.below hT40_8 hb41
              refine hK.out _ _ hXv41 (fun hHeld => ?_)
              clear hK K
              try simp only [Act.put, List.setIfInBounds_toArray, List.set_cons_zero, List.set_cons_succ]
              refine wpAnyH_ready (rs := [10]) (by kernel_rfl) (by simp) ?_
              refine (AllReadyH.cons rfl (fun K hK => ?_) AllReadyH.nil)
              rw [if_pos (by rfl)]
              have t0 := hT41_8.cell 0 (by omega)
              have f0 := (hT41_8 0 (by omega)).2
              have t1 := hT41_8.cell 1 (by omega)
              have f1 := (hT41_8 1 (by omega)).2
              have t2 := hT41_8.cell 2 (by omega)
              have f2 := (hT41_8 2 (by omega)).2
              go_simp
              have hXs : Below w1.heap.size w1 (((wv41.setCell ⟨wv1.heap.size, 0, none⟩ (.int .i64 z)).setCell ⟨wv1.heap.size, 1, none⟩ (.int .i64 lx)).setCell ⟨wv1.heap.size, 2, none⟩ (.int .i64 ly)) := ((hXv41.setCell hs37 _).setCell hs37 _).setCell hs37 _
              have hRs := RefA.put (z := z) (x := lx) (y := ly) hT41_8
              have hTs := ((hT41.putV (r' := wv1.heap.size) (o := 0) (v := .int .i64 z)).putV (r' := wv1.heap.size) (o := 1) (v := .int .i64 lx)).putV (r' := wv1.heap.size) (o := 2) (v := .int .i64 ly)
              generalize hwS : (((wv41.setCell _ _).setCell _ _).setCell _ _ : World) = wS at *
              refine hK.out _ _ hXs (fun hHeld => ?_)
              clear hK K hwS t0 t1 t2 f0 f1 f2
              try simp only [Act.put, List.setIfInBounds_toArray, List.set_cons_zero, List.set_cons_succ]
              refine wpAnyH_ready (rs := [11]) (by kernel_rfl) (by simp) ?_
              refine (AllReadyH.cons rfl (fun K hK => ?_) AllReadyH.nil)
              rw [if_pos (by rfl)]
              have t0 := hTs.cell 0 (by omega)
              have f0 := (hTs 0 (by omega)).2
              have t1 := hTs.cell 1 (by omega)
              have f1 := (hTs 1 (by omega)).2
              have t2 := hTs.cell 2 (by omega)
              have f2 := (hTs 2 (by omega)).2
              go_simp
              have hXu : Below w1.heap.size w1 (((wS.setCell ⟨wv40.heap.size, 0, none⟩ (.int .i64 z)).setCell ⟨wv40.heap.size, 1, none⟩ (.int .i64 hx)).setCell ⟨wv40.heap.size, 2, none⟩ (.int .i64 hy)) := ((hXs.setCell hs41 _).setCell hs41 _).setCell hs41 _
              have hRu := RefA.put (z := z) (x := hx) (y := hy) hTs
              have hRv := ((hRs.apart (r := wv40.heap.size) (o := 0) (v := .int .i64 z) (by omega)).apart (r := wv40.heap.size) (o := 1) (v := .int .i64 hx) (by omega)).apart (r := wv40.heap.size) (o := 2) (v := .int .i64 hy) (by omega)
              generalize hwU : (((wS.setCell _ _).setCell _ _).setCell _ _ : World) = wU at *
              refine hK.out _ _ hXu (fun hHeld => ?_)
              clear hK K hwU t0 t1 t2 f0 f1 f2
              try simp only [Act.put, List.setIfInBounds_toArray, List.set_cons_zero, List.set_cons_succ]
              refine wpAnyH_done (by kernel_rfl) ?_ _
              refine NoPanic.normal ?_
              go_wp2_with fail
              go_meet
              case rel => exact ⟨_, _, rfl, rfl, hRv, hRu, hXu⟩
            · rw [if_pos (by rfl)]
              go_simp
              generalize hwA : (World.alloc _ _ : World) = wv42
              have hb42 : Below wv39.heap.size wv39 wv42 := by subst hwA; (repeat (first | exact Below.refl _ _ | assumption | refine Below.drew ?_ | refine bl_alloc ?_ _ | refine bl_then ?_ (by assumption) | refine Below.setCell ?_ (by first | omega | (simp; done) | (simp; omega)) _ | refine bl_store ?_ ?_ _ _))
              have hT42 : There wv42 wv39.heap.size 3 := by subst hwA; exact there3r wv39 _ _ _ _
              clear hwA
              have hXv42 : Below w1.heap.size w1 wv42 := bl_then hXv39 hb42
              have hs42 : w1.heap.size ≤ wv39.heap.size := Below.size hXv39
              have hu42 := hT39_8.lt3
              have hT42_8 := There.below hT39_8 hb42
              refine hK.out _ _ hXv42 (fun hHeld => ?_)
              clear hK K
              try simp only [Act.put, List.setIfInBounds_toArray, List.set_cons_zero, List.set_cons_succ]
              refine wpAnyH_ready (rs := [7]) (by kernel_rfl) (by simp) ?_
              refine (AllReadyH.cons rfl (fun K hK => ?_) AllReadyH.nil)
              rw [if_pos (by rfl)]
              go_simp
              refine Calls.mono (sT2 _) ?_
              rintro e wv43 ⟨rfl, hb43⟩
              have hXv43 : Below w1.heap.size w1 wv43 := bl_then hXv42 hb43
              have hT43_8 := There.below hT42_8 hb43
              have hT43_9 := There.below hT42 hb43
              go_wp2_with fail
              refine hK.out _ _ hXv43 (fun hHeld => ?_)
              clear hK K
              try simp only [Act.put, List.setIfInBounds_toArray, List.set_cons_zero, List.set_cons_succ]
              refine wpAnyH_ready (rs := [10]) (by kernel_rfl) (by simp) ?_
              refine (AllReadyH.cons rfl (fun K hK => ?_) AllReadyH.nil)
              rw [if_pos (by rfl)]
              have t0 := hT43_8.cell 0 (by omega)
              have f0 := (hT43_8 0 (by omega)).2
              have t1 := hT43_8.cell 1 (by omega)
              have f1 := (hT43_8 1 (by omega)).2
              have t2 := hT43_8.cell 2 (by omega)
              have f2 := (hT43_8 2 (by omega)).2
              go_simp
              have hXs : Below w1.heap.size w1 (((wv43.setCell ⟨wv1.heap.size, 0, none⟩ (.int .i64 z)).setCell ⟨wv1.heap.size, 1, none⟩ (.int .i64 lx)).setCell ⟨wv1.heap.size, 2, none⟩ (.int .i64 ly)) := ((hXv43.setCell hs37 _).setCell hs37 _).setCell hs37 _
              have hRs := RefA.put (z := z) (x := lx) (y := ly) hT43_8
              have hTs := ((hT43_9.putV (r' := wv1.heap.size) (o := 0) (v := .int .i64 z)).putV (r' := wv1.heap.size) (o := 1) (v := .int .i64 lx)).putV (r' := wv1.heap.size) (o := 2) (v := .int .i64 ly)
              generalize hwS : (((wv43.setCell _ _).setCell _ _).setCell _ _ : World) = wS at *
              refine hK.out _ _ hXs (fun hHeld => ?_)
              clear hK K hwS t0 t1 t2 f0 f1 f2
              try simp only [Act.put, List.setIfInBounds_toArray, List.set_cons_zero, List.set_cons_succ]
              refine wpAnyH_ready (rs := [11]) (by kernel_rfl) (by simp) ?_
              refine (AllReadyH.cons rfl (fun K hK => ?_) AllReadyH.nil)
              rw [if_pos (by rfl)]
              have t0 := hTs.cell 0 (by omega)
              have f0 := (hTs 0 (by omega)).2
              have t1 := hTs.cell 1 (by omega)
              have f1 := (hTs 1 (by omega)).2
              have t2 := hTs.cell 2 (by omega)
              have f2 := (hTs 2 (by omega)).2
              go_simp
              have hXu : Below w1.heap.size w1 (((wS.setCell ⟨wv39.heap.size, 0, none⟩ (.int .i64 z)).setCell ⟨wv39.heap.size, 1, none⟩ (.int .i64 hx)).setCell ⟨wv39.heap.size, 2, none⟩ (.int .i64 hy)) := ((hXs.setCell hs42 _).setCell hs42 _).setCell hs42 _
              have hRu := RefA.put (z := z) (x := hx) (y := hy) hTs
              have hRv := ((hRs.apart (r := wv39.heap.size) (o := 0) (v := .int .i64 z) (by omega)).apart (r := wv39.heap.size) (o := 1) (v := .int .i64 hx) (by omega)).apart (r := wv39.heap.size) (o := 2) (v := .int .i64 hy) (by omega)
              generalize hwU : (((wS.setCell _ _).setCell _ _).setCell _ _ : World) = wU at *
              refine hK.out _ _ hXu (fun hHeld => ?_)
              clear hK K hwU t0 t1 t2 f0 f1 f2
              try simp only [Act.put, List.setIfInBounds_toArray, List.set_cons_zero, List.set_cons_succ]
              refine wpAnyH_done (by kernel_rfl) ?_ _
              refine NoPanic.normal ?_
              go_wp2_with fail
              go_meet
              case rel => exact ⟨_, _, rfl, rfl, hRv, hRu, hXu⟩
          · rw [if_pos (by rfl)]
            go_simp
            generalize hwA : (World.alloc _ _ : World) = wv44
            have hb44 : Below wv38.heap.size wv38 wv44 := by subst hwA; (repeat (first | exact Below.refl _ _ | assumption | refine Below.drew ?_ | refine bl_alloc ?_ _ | refine bl_then ?_ (by assumption) | refine Below.setCell ?_ (by first | omega | (simp; done) | (simp; omega)) _ | refine bl_store ?_ ?_ _ _))
            have hT44 : There wv44 wv38.heap.size 3 := by subst hwA; exact there3r wv38 _ _ _ _
            clear hwA
            have hXv44 : Below w1.heap.size w1 wv44 := bl_then hXv38 hb44
            have hs44 : w1.heap.size ≤ wv38.heap.size := Below.size hXv38
            have hu44 := hT38_8.lt3
            have hT44_8 := There.below hT38_8 hb44
            refine hK.out _ _ hXv44 (fun hHeld => ?_)
            clear hK K
            try simp only [Act.put, List.setIfInBounds_toArray, List.set_cons_zero, List.set_cons_succ]
            refine wpAnyH_ready (rs := [6]) (by kernel_rfl) (by simp) ?_
            refine (AllReadyH.cons rfl (fun K hK => ?_) AllReadyH.nil)
            rw [if_pos (by rfl)]
            go_simp
            refine Calls.mono (sL _) ?_
            rintro e wv45 ⟨rfl, hb45⟩
            have hXv45 : Below w1.heap.size w1 wv45 := bl_then hXv44 hb45
            have hT45_8 := There.below hT44_8 hb45
            have hT45_9 := There.below hT44 hb45
            go_wp2_with fail
            refine hK.out _ _ hXv45 (fun hHeld => ?_)
            clear hK K
            try simp only [Act.put, List.setIfInBounds_toArray, List.set_cons_zero, List.set_cons_succ]
            refine wpAnyH_ready (rs := [7]) (by kernel_rfl) (by simp) ?_
            refine (AllReadyH.cons rfl (fun K hK => ?_) AllReadyH.nil)
            rw [if_pos (by rfl)]
            go_simp
            refine Calls.mono (sT2 _) ?_
            rintro e wv46 ⟨rfl, hb46⟩
            have hXv46 : Below w1.heap.size w1 wv46 := bl_then hXv45 hb46
            have hT46_8 := There.below hT45_8 hb46
            have hT46_9 := There.below hT45_9 hb46
            go_wp2_with fail
            refine hK.out _ _ hXv46 (fun hHeld => ?_)
            clear hK K
            try simp only [Act.put, List.setIfInBounds_toArray, List.set_cons_zero, List.set_cons_succ]
            refine wpAnyH_ready (rs := [10]) (by kernel_rfl) (by simp) ?_
            refine (AllReadyH.cons rfl (fun K hK => ?_) AllReadyH.nil)
            rw [if_pos (by rfl)]
            have t0 := hT46_8.cell 0 (by omega)
            have f0 := (hT46_8 0 (by omega)).2
            have t1 := hT46_8.cell 1 (by omega)
            have f1 := (hT46_8 1 (by omega)).2
            have t2 := hT46_8.cell 2 (by omega)
            have f2 := (hT46_8 2 (by omega)).2
            go_simp
            have hXs : Below w1.heap.size w1 (((wv46.setCell ⟨wv1.heap.size, 0, none⟩ (.int .i64 z)).setCell ⟨wv1.heap.size, 1, none⟩ (.int .i64 lx)).setCell ⟨wv1.heap.size, 2, none⟩ (.int .i64 ly)) := ((hXv46.setCell hs37 _).setCell hs37 _).setCell hs37 _
            have hRs := RefA.put (z := z) (x := lx) (y := ly) hT46_8
            have hTs := ((hT46_9.putV (r' := wv1.heap.size) (o := 0) (v := .int .i64 z)).putV (r' := wv1.heap.size) (o := 1) (v := .int .i64 lx)).putV (r' := wv1.heap.size) (o := 2) (v := .int .i64 ly)
            generalize hwS : (((wv46.setCell _ _).setCell _ _).setCell _ _ : World) = wS at *
            refine hK.out _ _ hXs (fun hHeld => ?_)
            clear hK K hwS t0 t1 t2 f0 f1 f2
            try simp only [Act.put, List.setIfInBounds_toArray, List.set_cons_zero, List.set_cons_succ]
            refine wpAnyH_ready (rs := [11]) (by kernel_rfl) (by simp) ?_
            refine (AllReadyH.cons rfl (fun K hK => ?_) AllReadyH.nil)
            rw [if_pos (by rfl)]
            have t0 := hTs.cell 0 (by omega)
            have f0 := (hTs 0 (by omega)).2
            have t1 := hTs.cell 1 (by omega)
            have f1 := (hTs 1 (by omega)).2
            have t2 := hTs.cell 2 (by omega)
            have f2 := (hTs 2 (by omega)).2
            go_simp
            have hXu : Below w1.heap.size w1 (((wS.setCell ⟨wv38.heap.size, 0, none⟩ (.int .i64 z)).setCell ⟨wv38.heap.size, 1, none⟩ (.int .i64 hx)).setCell ⟨wv38.heap.size, 2, none⟩ (.int .i64 hy)) := ((hXs.setCell hs44 _).setCell hs44 _).setCell hs44 _
            have hRu := RefA.put (z := z) (x := hx) (y := hy) hTs
            have hRv := ((hRs.apart (r := wv38.heap.size) (o := 0) (v := .int .i64 z) (by omega)).apart (r := wv38.heap.size) (o := 1) (v := .int .i64 hx) (by omega)).apart (r := wv38.heap.size) (o := 2) (v := .int .i64 hy) (by omega)
            generalize hwU : (((wS.setCell _ _).setCell _ _).setCell _ _ : World) = wU at *
            refine hK.out _ _ hXu (fun hHeld => ?_)
            clear hK K hwU t0 t1 t2 f0 f1 f2
            try simp only [Act.put, List.setIfInBounds_toArray, List.set_cons_zero, List.set_cons_succ]
            refine wpAnyH_done (by kernel_rfl) ?_ _
            refine NoPanic.normal ?_
            go_wp2_with fail
            go_meet
            case rel => exact ⟨_, _, rfl, rfl, hRv, hRu, hXu⟩
        · rw [if_pos (by rfl)]
          go_simp
          generalize hwA : (World.alloc _ _ : World) = wv47
          have hb47 : Below wv37.heap.size wv37 wv47 := by subst hwA; (repeat (first | exact Below.refl _ _ | assumption | refine Below.drew ?_ | refine bl_alloc ?_ _ | refine bl_then ?_ (by assumption) | refine Below.setCell ?_ (by first | omega | (simp; done) | (simp; omega)) _ | refine bl_store ?_ ?_ _ _))
          have hT47 : There wv47 wv37.heap.size 3 := by subst hwA; exact there3r wv37 _ _ _ _
          clear hwA
          have hXv47 : Below w1.heap.size w1 wv47 := bl_then hXv37 hb47
          have hs47 : w1.heap.size ≤ wv37.heap.size := Below.size hXv37
          have hu47 := hT37.lt3
          have hT47_8 := There.below hT37 hb47
          refine hK.out _ _ hXv47 (fun hHeld => ?_)
          clear hK K
          try simp only [Act.put, List.setIfInBounds_toArray, List.set_cons_zero, List.set_cons_succ]
          refine wpAnyH_ready (rs := [3]) (by kernel_rfl) (by simp) ?_
          refine (AllReadyH.cons rfl (fun K hK => ?_) AllReadyH.nil)
          rw [if_pos (by rfl)]
          go_simp
          refine Calls.mono (sT1 _) ?_
          rintro e wv48 ⟨rfl, hb48⟩
          have hXv48 : Below w1.heap.size w1 wv48 := bl_then hXv47 hb48
          have hT48_8 := There.below hT47_8 hb48
          have hT48_9 := There.below hT47 hb48
          go_wp2_with fail
          refine hK.out _ _ hXv48 (fun hHeld => ?_)
          clear hK K
          try simp only [Act.put, List.setIfInBounds_toArray, List.set_cons_zero, List.set_cons_succ]
          refine wpAnyH_ready (rs := [6]) (by kernel_rfl) (by simp) ?_
          refine (AllReadyH.cons rfl (fun K hK => ?_) AllReadyH.nil)
          rw [if_pos (by rfl)]
          go_simp
          refine Calls.mono (sL _) ?_
          rintro e wv49 ⟨rfl, hb49⟩
          have hXv49 : Below w1.heap.size w1 wv49 := bl_then hXv48 hb49
          have hT49_8 := There.below hT48_8 hb49
          have hT49_9 := There.below hT48_9 hb49
          go_wp2_with fail
          refine hK.out _ _ hXv49 (fun hHeld => ?_)
          clear hK K
          try simp only [Act.put, List.setIfInBounds_toArray, List.set_cons_zero, List.set_cons_succ]
          refine wpAnyH_ready (rs := [7]) (by kernel_rfl) (by simp) ?_
          refine (AllReadyH.cons rfl (fun K hK => ?_) AllReadyH.nil)
          rw [if_pos (by rfl)]
          go_simp
          refine Calls.mono (sT2 _) ?_
          rintro e wv50 ⟨rfl, hb50⟩
          have hXv50 : Below w1.heap.size w1 wv50 := bl_then hXv49 hb50
          have hT50_8 := There.below hT49_8 hb50
          have hT50_9 := There.below hT49_9 hb50
          go_wp2_with fail
          refine hK.out _ _ hXv50 (fun hHeld => ?_)
          clear hK K
          try simp only [Act.put, List.setIfInBounds_toArray, List.set_cons_zero, List.set_cons_succ]
          refine wpAnyH_ready (rs := [10]) (by kernel_rfl) (by simp) ?_
          refine (AllReadyH.cons rfl (fun K hK => ?_) AllReadyH.nil)
          rw [if_pos (by rfl)]
          have t0 := hT50_8.cell 0 (by omega)
          have f0 := (hT50_8 0 (by omega)).2
          have t1 := hT50_8.cell 1 (by omega)
          have f1 := (hT50_8 1 (by omega)).2
          have t2 := hT50_8.cell 2 (by omega)
          have f2 := (hT50_8 2 (by omega)).2
          go_simp
          have hXs : Below w1.heap.size w1 (((wv50.setCell ⟨wv1.heap.size, 0, none⟩ (.int .i64 z)).setCell ⟨wv1.heap.size, 1, none⟩ (.int .i64 lx)).setCell ⟨wv1.heap.size, 2, none⟩ (.int .i64 ly)) := ((hXv50.setCell hs37 _).setCell hs37 _).setCell hs37 _
          have hRs := RefA.put (z := z) (x := lx) (y := ly) hT50_8
          have hTs := ((hT50_9.putV (r' := wv1.heap.size) (o := 0) (v := .int .i64 z)).putV (r' := wv1.heap.size) (o := 1) (v := .int .i64 lx)).putV (r' := wv1.heap.size) (o := 2) (v := .int .i64 ly)
          generalize hwS : (((wv50.setCell _ _).setCell _ _).setCell _ _ : World) = wS at *
          refine hK.out _ _ hXs (fun hHeld => ?_)
          clear hK K hwS t0 t1 t2 f0 f1 f2
          try simp only [Act.put, List.setIfInBounds_toArray, List.set_cons_zero, List.set_cons_succ]
          refine wpAnyH_ready (rs := [11]) (by kernel_rfl) (by simp) ?_
          refine (AllReadyH.cons rfl (fun K hK => ?_) AllReadyH.nil)
          rw [if_pos (by rfl)]
          have t0 := hTs.cell 0 (by omega)
          have f0 := (hTs 0 (by omega)).2
          have t1 := hTs.cell 1 (by omega)
          have f1 := (hTs 1 (by omega)).2
          have t2 := hTs.cell 2 (by omega)
          have f2 := (hTs 2 (by omega)).2
          go_simp
          have hXu : Below w1.heap.size w1 (((wS.setCell ⟨wv37.heap.size, 0, none⟩ (.int .i64 z)).setCell ⟨wv37.heap.size, 1, none⟩ (.int .i64 hx)).setCell ⟨wv37.heap.size, 2, none⟩ (.int .i64 hy)) := ((hXs.setCell hs47 _).setCell hs47 _).setCell hs47 _
          have hRu := RefA.put (z := z) (x := hx) (y := hy) hTs
          have hRv := ((hRs.apart (r := wv37.heap.size) (o := 0) (v := .int .i64 z) (by omega)).apart (r := wv37.heap.size) (o := 1) (v := .int .i64 hx) (by omega)).apart (r := wv37.heap.size) (o := 2) (v := .int .i64 hy) (by omega)
          generalize hwU : (((wS.setCell _ _).setCell _ _).setCell _ _ : World) = wU at *
          refine hK.out _ _ hXu (fun hHeld => ?_)
          clear hK K hwU t0 t1 t2 f0 f1 f2
          try simp only [Act.put, List.setIfInBounds_toArray, List.set_cons_zero, List.set_cons_succ]
          refine wpAnyH_done (by kernel_rfl) ?_ _
          refine NoPanic.normal ?_
          go_wp2_with fail
          go_meet
          case rel => exact ⟨_, _, rfl, rfl, hRv, hRu, hXu⟩
      · rw [if_pos (by rfl)]
        go_simp
        generalize hwA : (World.alloc _ _ : World) = wv51
        have hb51 : Below wv1.heap.size wv1 wv51 := by subst hwA; (repeat (first | exact Below.refl _ _ | assumption | refine Below.drew ?_ | refine bl_alloc ?_ _ | refine bl_then ?_ (by assumption) | refine Below.setCell ?_ (by first | omega | (simp; done) | (simp; omega)) _ | refine bl_store ?_ ?_ _ _))
        have hT51 : There wv51 wv1.heap.size 3 := by subst hwA; exact there3r wv1 _ _ _ _
        clear hwA
        have hXv51 : Below w1.heap.size w1 wv51 := bl_then hXv1 hb51
        have hs51 : w1.heap.size ≤ wv1.heap.size := Below.size hXv1
        refine hK.out _ _ hXv51 (fun hHeld => ?_)
        clear hK K
        try simp only [Act.put, List.setIfInBounds_toArray, List.set_cons_zero, List.set_cons_succ]
        refine wpAnyH_ready (rs := [3, 8]) (by kernel_rfl) (by simp) ?_
        refine (AllReadyH.cons rfl (fun K hK => ?_) (AllReadyH.cons rfl (fun K hK => ?_) AllReadyH.nil))
        · rw [if_pos (by rfl)]
          go_simp
          refine Calls.mono (sT1 _) ?_
          rintro e wv52 ⟨rfl, hb52⟩
          have hXv52 : Below w1.heap.size w1 wv52 := bl_then hXv51 hb52
          have hT52_9 := There.below hT51 hb52
          go_wp2_with fail
          refine hK.out _ _ hXv52 (fun hHeld => ?_)
          clear hK K
          try simp only [Act.put, List.setIfInBounds_toArray, List.set_cons_zero, List.set_cons_succ]
          refine wpAnyH_ready (rs := [6, 8]) (by kernel_rfl) (by simp) ?_
          refine (AllReadyH.cons rfl (fun K hK => ?_) (AllReadyH.cons rfl (fun K hK => ?_) AllReadyH.nil))
          · rw [if_pos (by rfl)]
            go_simp
            refine Calls.mono (sL _) ?_
            rintro e wv53 ⟨rfl, hb53⟩
            have hXv53 : Below w1.heap.size w1 wv53 := bl_then hXv52 hb53
            have hT53_9 := There.below hT52_9 hb53
            go_wp2_with fail
            refine hK.out _ _ hXv53 (fun hHeld => ?_)
            clear hK K
            try simp only [Act.put, List.setIfInBounds_toArray, List.set_cons_zero, List.set_cons_succ]
            refine wpAnyH_ready (rs := [7, 8]) (by kernel_rfl) (by simp) ?_
            refine (AllReadyH.cons rfl (fun K hK => ?_) (AllReadyH.cons rfl (fun K hK => ?_) AllReadyH.nil))
            · rw [if_pos (by rfl)]
              go_simp
              refine Calls.mono (sT2 _) ?_
              rintro e wv54 ⟨rfl, hb54⟩
              have hXv54 : Below w1.heap.size w1 wv54 := bl_then hXv53 hb54
              have hT54_9 := There.below hT53_9 hb54
              go_wp2_with fail
              refine hK.out _ _ hXv54 (fun hHeld => ?_)
              clear hK K
              try simp only [Act.put, List.setIfInBounds_toArray, List.set_cons_zero, List.set_cons_succ]
              refine wpAnyH_ready (rs := [8]) (by kernel_rfl) (by simp) ?_
              refine (AllReadyH.cons rfl (fun K hK => ?_) AllReadyH.nil)
              rw [if_pos (by rfl)]
              go_simp
              generalize hwA : (World.alloc _ _ : World) = wv55
              have hb55 : Below wv54.heap.size wv54 wv55 := by subst hwA; (repeat (first | exact Below.refl _ _ | assumption | refine Below.drew ?_ | refine bl_alloc ?_ _ | refine bl_then ?_ (by assumption) | refine Below.setCell ?_ (by first | omega | (simp; done) | (simp; omega)) _ | refine bl_store ?_ ?_ _ _))
              have hT55 : There wv55 wv54.heap.size 3 := by subst hwA; exact there3r wv54 _ _ _ _
              clear hwA
              have hXv55 : Below w1.heap.size w1 wv55 := bl_then hXv54 hb55
              have hs55 : w1.heap.size ≤ wv54.heap.size := Below.size hXv54
              have hu55 := hT54_9.lt3
              have hT55_9 := There.below hT54_9 hb55
              refine hK.out _ _ hXv55 (fun hHeld => ?_)
              clear hK K
              try simp only [Act.put, List.setIfInBounds_toArray, List.set_cons_zero, List.set_cons_succ]
              refine wpAnyH_ready (rs := [10]) (by kernel_rfl) (by simp) ?_
              refine (AllReadyH.cons rfl (fun K hK => ?_) AllReadyH.nil)
              rw [if_pos (by rfl)]
              have t0 := hT55.cell 0 (by omega)
              have f0 := (hT55 0 (by omega)).2
              have t1 := hT55.cell 1 (by omega)
              have f1 := (hT55 1 (by omega)).2
              have t2 := hT55.cell 2 (by omega)
              have f2 := (hT55 2 (by omega)).2
              go_simp
              have hXs : Below w1.heap.size w1 (((wv55.setCell ⟨wv54.heap.size, 0, none⟩ (.int .i64 z)).setCell ⟨wv54.heap.size, 1, none⟩ (.int .i64 lx)).setCell ⟨wv54.heap.size, 2, none⟩ (.int .i64 ly)) := ((hXv55.setCell hs55 _).setCell hs55 _).setCell hs55 _
              have hRs := RefA.put (z := z) (x := lx) (y := ly) hT55
              have hTs := ((hT55_9.putV (r' := wv54.heap.size) (o := 0) (v := .int .i64 z)).putV (r' := wv54.heap.size) (o := 1) (v := .int .i64 lx)).putV (r' := wv54.heap.size) (o := 2) (v := .int .i64 ly)
              generalize hwS : (((wv55.setCell _ _).setCell _ _).setCell _ _ : World) = wS at *
              refine hK.out _ _ hXs (fun hHeld => ?_)
              clear hK K hwS t0 t1 t2 f0 f1 f2
              try simp only [Act.put, List.setIfInBounds_toArray, List.set_cons_zero, List.set_cons_succ]
              refine wpAnyH_ready (rs := [11]) (by kernel_rfl) (by simp) ?_
              refine (AllReadyH.cons rfl (fun K hK => ?_) AllReadyH.nil)
              rw [if_pos (by rfl)]
              have t0 := hTs.cell 0 (by omega)
              have f0 := (hTs 0 (by omega)).2
              have t1 := hTs.cell 1 (by omega)
              have f1 := (hTs 1 (by omega)).2
              have t2 := hTs.cell 2 (by omega)
              have f2 := (hTs 2 (by omega)).2
              go_simp
              have hXu : Below w1.heap.size w1 (((wS.setCell ⟨wv1.heap.size, 0, none⟩ (.int .i64 z)).setCell ⟨wv1.heap.size, 1, none⟩ (.int .i64 hx)).setCell ⟨wv1.heap.size, 2, none⟩ (.int .i64 hy)) := ((hXs.setCell hs51 _).setCell hs51 _).setCell hs51 _
              have hRu := RefA.put (z := z) (x := hx) (y := hy) hTs
              have hRv := ((hRs.apart (r := wv1.heap.size) (o := 0) (v := .int .i64 z) (by omega)).apart (r := wv1.heap.size) (o := 1) (v := .int .i64 hx) (by omega)).apart (r := wv1.heap.size) (o := 2) (v := .int .i64 hy) (by omega)
              generalize hwU : (((wS.setCell _ _).setCell _ _).setCell _ _ : World) = wU at *
              refine hK.out _ _ hXu (fun hHeld => ?_)
              clear hK K hwU t0 t1 t2 f0 f1 f2
              try simp only [Act.put, List.setIfInBounds_toArray, List.set_cons_zero, List.set_cons_succ]
              refine wpAnyH_done (by kernel_rfl) ?_ _
              refine NoPanic.normal ?_
              go_wp2_with fail
              go_meet
              case rel => exact ⟨_, _, rfl, rfl, hRv, hRu, hXu⟩
            · rw [if_pos (by rfl)]
              go_simp
              generalize hwA : (World.alloc _ _ : World) = wv56
              have hb56 : Below wv53.heap.size wv53 wv56 := by subst hwA; (repeat (first | exact Below.refl _ _ | assumption | refine Below.drew ?_ | refine bl_alloc ?_ _ | refine bl_then ?_ (by assumption) | refine Below.setCell ?_ (by first | omega | (simp; done) | (simp; omega)) _ | refine bl_store ?_ ?_ _ _))
              have hT56 : There wv56 wv53.heap.size 3 := by subst hwA; exact there3r wv53 _ _ _ _
              clear hwA
              have hXv56 : Below w1.heap.size w1 wv56 := bl_then hXv53 hb56
              have hs56 : w1.heap.size ≤ wv53.heap.size := Below.size hXv53
              have hu56 := hT53_9.lt3
              have hT56_9 := There.below hT53_9 hb56
              refine hK.out _ _ hXv56 (fun hHeld => ?_)
              clear hK K
              try simp only [Act.put, List.setIfInBounds_toArray, List.set_cons_zero, List.set_cons_succ]
              refine wpAnyH_ready (rs := [7]) (by kernel_rfl) (by simp) ?_
              refine (AllReadyH.cons rfl (fun K hK => ?_) AllReadyH.nil)
              rw [if_pos (by rfl)]
              go_simp
              refine Calls.mono (sT2 _) ?_
              rintro e wv57 ⟨rfl, hb57⟩
              have hXv57 : Below w1.heap.size w1 wv57 := bl_then hXv56 hb57
              have hT57_9 := There.below hT56_9 hb57
              have hT57_8 := There.below hT56 hb57
              go_wp2_with fail
              refine hK.out _ _ hXv57 (fun hHeld => ?_)
              clear hK K
              try simp only [Act.put, List.setIfInBounds_toArray, List.set_cons_zero, List.set_cons_succ]
              refine wpAnyH_ready (rs := [10]) (by kernel_rfl) (by simp) ?_
              refine (AllReadyH.cons rfl (fun K hK => ?_) AllReadyH.nil)
              rw [if_pos (by rfl)]
              have t0 := hT57_8.cell 0 (by omega)
              have f0 := (hT57_8 0 (by omega)).2
              have t1 := hT57_8.cell 1 (by omega)
              have f1 := (hT57_8 1 (by omega)).2
              have t2 := hT57_8.cell 2 (by omega)
              have f2 := (hT57_8 2 (by omega)).2
              go_simp
              have hXs : Below w1.heap.size w1 (((wv57.setCell ⟨wv53.heap.size, 0, none⟩ (.int .i64 z)).setCell ⟨wv53.heap.size, 1, none⟩ (.int .i64 lx)).setCell ⟨wv53.heap.size, 2, none⟩ (.int .i64 ly)) := ((hXv57.setCell hs56 _).setCell hs56 _).setCell hs56 _
              have hRs := RefA.put (z := z) (x := lx) (y := ly) hT57_8
              have hTs := ((hT57_9.putV (r' := wv53.heap.size) (o := 0) (v := .int .i64 z)).putV (r' := wv53.heap.size) (o := 1) (v := .int .i64 lx)).putV (r' := wv53.heap.size) (o := 2) (v := .int .i64 ly)
              generalize hwS : (((wv57.setCell _ _).setCell _ _).setCell _ _ : World) = wS at *
              refine hK.out _ _ hXs (fun hHeld => ?_)
              clear hK K hwS t0 t1 t2 f0 f1 f2
              try simp only [Act.put, List.setIfInBounds_toArray, List.set_cons_zero, List.set_cons_succ]
              refine wpAnyH_ready (rs := [11]) (by kernel_rfl) (by simp) ?_
              refine (AllReadyH.cons rfl (fun K hK => ?_) AllReadyH.nil)
              rw [if_pos (by rfl)]
              have t0 := hTs.cell 0 (by omega)
              have f0 := (hTs 0 (by omega)).2
              have t1 := hTs.cell 1 (by omega)
              have f1 := (hTs 1 (by omega)).2
              have t2 := hTs.cell 2 (by omega)
              have f2 := (hTs 2 (by omega)).2
              go_simp
              have hXu : Below w1.heap.size w1 (((wS.setCell ⟨wv1.heap.size, 0, none⟩ (.int .i64 z)).setCell ⟨wv1.heap.size, 1, none⟩ (.int .i64 hx)).setCell ⟨wv1.heap.size, 2, none⟩ (.int .i64 hy)) := ((hXs.setCell hs51 _).setCell hs51 _).setCell hs51 _
              have hRu := RefA.put (z := z) (x := hx) (y := hy) hTs
              have hRv := ((hRs.apart (r := wv1.heap.size) (o := 0) (v := .int .i64 z) (by omega)).apart (r := wv1.heap.size) (o := 1) (v := .int .i64 hx) (by omega)).apart (r := wv1.heap.size) (o := 2) (v := .int .i64 hy) (by omega)
              generalize hwU : (((wS.setCell _ _).setCell _ _).setCell _ _ : World) = wU at *
              refine hK.out _ _ hXu (fun hHeld => ?_)
              clear hK K hwU t0 t1 t2 f0 f1 f2
              try simp only [Act.put, List.setIfInBounds_toArray, List.set_cons_zero, List.set_cons_succ]
              refine wpAnyH_done (by kernel_rfl) ?_ _
              refine NoPanic.normal ?_
              go_wp2_with fail
              go_meet
              case rel => exact ⟨_, _, rfl, rfl, hRv, hRu, hXu⟩
          · rw [if_pos (by rfl)]
            go_simp
            generalize hwA : (World.alloc _ _ : World) = wv58
            have hb58 : Below wv52.heap.size wv52 wv58 := by subst hwA; (repeat (first | exact Below.refl _ _ | assumption | refine Below.drew ?_ | refine bl_alloc ?_ _ | refine bl_then ?_ (by assumption) | refine Below.setCell ?_ (by first | omega | (simp; done) | (simp; omega)) _ | refine bl_store ?_ ?_ _ _))
            have hT58 : There wv58 wv52.heap.size 3 := by subst hwA; exact there3r wv52 _ _ _ _
            clear hwA
            have hXv58 : Below w1.heap.size w1 wv58 := bl_then hXv52 hb58
            have hs58 : w1.heap.size ≤ wv52.heap.size := Below.size hXv52
            have hu58 := hT52_9.lt3
            have hT58_9 := There.below hT52_9 hb58
            refine hK.out _ _ hXv58 (fun hHeld => ?_)
            clear hK K
            try simp only [Act.put, List.setIfInBounds_toArray, List.set_cons_zero, List.set_cons_succ]
            refine wpAnyH_ready (rs := [6]) (by kernel_rfl) (by simp) ?_
            refine (AllReadyH.cons rfl (fun K hK => ?_) AllReadyH.nil)
            rw [if_pos (by rfl)]
            go_simp
            refine Calls.mono (sL _) ?_
            rintro e wv59 ⟨rfl, hb59⟩
            have hXv59 : Below w1.heap.size w1 wv59 := bl_then hXv58 hb59
            have hT59_9 := There.below hT58_9 hb59
            have hT59_8 := There.below hT58 hb59
            go_wp2_with fail
            refine hK.out _ _ hXv59 (fun hHeld => ?_)
            clear hK K
            try simp only [Act.put, List.setIfInBounds_toArray, List.set_cons_zero, List.set_cons_succ]
            refine wpAnyH_ready (rs := [7]) (by kernel_rfl) (by simp) ?_
            refine (AllReadyH.cons rfl (fun K hK => ?_) AllReadyH.nil)
            rw [if_pos (by rfl)]
            go_simp
            refine Calls.mono (sT2 _) ?_
            rintro e wv60 ⟨rfl, hb60⟩
            have hXv60 : Below w1.heap.size w1 wv60 := bl_then hXv59 hb60
            have hT60_9 := There.below hT59_9 hb60
            have hT60_8 := There.below hT59_8 hb60
            go_wp2_with fail
            refine hK.out _ _ hXv60 (fun hHeld => ?_)
            clear hK K
            try simp only [Act.put, List.setIfInBounds_toArray, List.set_cons_zero, List.set_cons_succ]
            refine wpAnyH_ready (rs := [10]) (by kernel_rfl) (by simp) ?_
            refine (AllReadyH.cons rfl (fun K hK => ?_) AllReadyH.nil)
            rw [if_pos (by rfl)]
            have t0 := hT60_8.cell 0 (by omega)
            have f0 := (hT60_8 0 (by omega)).2
            have t1 := hT60_8.cell 1 (by omega)
            have f1 := (hT60_8 1 (by omega)).2
            have t2 := hT60_8.cell 2 (by omega)
            have f2 := (hT60_8 2 (by omega)).2
            go_simp
            have hXs : Below w1.heap.size w1 (((wv60.setCell ⟨wv52.heap.size, 0, none⟩ (.int .i64 z)).setCell ⟨wv52.heap.size, 1, none⟩ (.int .i64 lx)).setCell ⟨wv52.heap.size, 2, none⟩ (.int .i64 ly)) := ((hXv60.setCell hs58 _).setCell hs58 _).setCell hs58 _
            have hRs := RefA.put (z := z) (x := lx) (y := ly) hT60_8
            have hTs := ((hT60_9.putV (r' := wv52.heap.size) (o := 0) (v := .int .i64 z)).putV (r' := wv52.heap.size) (o := 1) (v := .int .i64 lx)).putV (r' := wv52.heap.size) (o := 2) (v := .int .i64 ly)
            generalize hwS : (((wv60.setCell _ _).setCell _ _).setCell _ _ : World) = wS at *
            refine hK.out _ _ hXs (fun hHeld => ?_)
            clear hK K hwS t0 t1 t2 f0 f1 f2
            try simp only [Act.put, List.setIfInBounds_toArray, List.set_cons_zero, List.set_cons_succ]
            refine wpAnyH_ready (rs := [11]) (by kernel_rfl) (by simp) ?_
            refine (AllReadyH.cons rfl (fun K hK => ?_) AllReadyH.nil)
            rw [if_pos (by rfl)]
            have t0 := hTs.cell 0 (by omega)
            have f0 := (hTs 0 (by omega)).2
            have t1 := hTs.cell 1 (by omega)
            have f1 := (hTs 1 (by omega)).2
            have t2 := hTs.cell 2 (by omega)
            have f2 := (hTs 2 (by omega)).2
            go_simp
            have hXu : Below w1.heap.size w1 (((wS.setCell ⟨wv1.heap.size, 0, none⟩ (.int .i64 z)).setCell ⟨wv1.heap.size, 1, none⟩ (.int .i64 hx)).setCell ⟨wv1.heap.size, 2, none⟩ (.int .i64 hy)) := ((hXs.setCell hs51 _).setCell hs51 _).setCell hs51 _
            have hRu := RefA.put (z := z) (x := hx) (y := hy) hTs
            have hRv := ((hRs.apart (r := wv1.heap.size) (o := 0) (v := .int .i64 z) (by omega)).apart (r := wv1.heap.size) (o := 1) (v := .int .i64 hx) (by omega)).apart (r := wv1.heap.size) (o := 2) (v := .int .i64 hy) (by omega)
            generalize hwU : (((wS.setCell _ _).setCell _ _).setCell _ _ : World) = wU at *
            refine hK.out _ _ hXu (fun hHeld => ?_)
            clear hK K hwU t0 t1 t2 f0 f1 f2
            try simp only [Act.put, List.setIfInBounds_toArray, List.set_cons_zero, List.set_cons_succ]
            refine wpAnyH_done (by kernel_rfl) ?_ _
            refine NoPanic.normal ?_
            go_wp2_with fail
            go_meet
            case rel => exact ⟨_, _, rfl, rfl, hRv, hRu, hXu⟩
        · rw [if_pos (by rfl)]
          go_simp
          generalize hwA : (World.alloc _ _ : World) = wv61
          have hb61 : Below wv51.heap.size wv51 wv61 := by subst hwA; (repeat (first | exact Below.refl _ _ | assumption | refine Below.drew ?_ | refine bl_alloc ?_ _ | refine bl_then ?_ (by assumption) | refine Below.setCell ?_ (by first | omega | (simp; done) | (simp; omega)) _ | refine bl_store ?_ ?_ _ _))
          have hT61 : There wv61 wv51.heap.size 3 := by subst hwA; exact there3r wv51 _ _ _ _
          clear hwA
          have hXv61 : Below w1.heap.size w1 wv61 := bl_then hXv51 hb61
          have hs61 : w1.heap.size ≤ wv51.heap.size := Below.size hXv51
          have hu61 := hT51.lt3
          have hT61_9 := There.below hT51 hb61
          refine hK.out _ _ hXv61 (fun hHeld => ?_)
          clear hK K
          try simp only [Act.put, List.setIfInBounds_toArray, List.set_cons_zero, List.set_cons_succ]
          refine wpAnyH_ready (rs := [3]) (by kernel_rfl) (by simp) ?_
          refine (AllReadyH.cons rfl (fun K hK => ?_) AllReadyH.nil)
          rw [if_pos (by rfl)]
          go_simp
          refine Calls.mono (sT1 _) ?_
          rintro e wv62 ⟨rfl, hb62⟩
          have hXv62 : Below w1.heap.size w1 wv62 := bl_then hXv61 hb62
          have hT62_9 := There.below hT61_9 hb62
          have hT62_8 := There.below hT61 hb62
          go_wp2_with fail
          refine hK.out _ _ hXv62 (fun hHeld => ?_)
          clear hK K
          try simp only [Act.put, List.setIfInBounds_toArray, List.set_cons_zero, List.set_cons_succ]
          refine wpAnyH_ready (rs := [6]) (by kernel_rfl) (by simp) ?_
          refine (AllReadyH.cons rfl (fun K hK => ?_) AllReadyH.nil)
          rw [if_pos (by rfl)]
          go_simp
          refine Calls.mono (sL _) ?_
          rintro e wv63 ⟨rfl, hb63⟩
          have hXv63 : Below w1.heap.size w1 wv63 := bl_then hXv62 hb63
          have hT63_9 := There.below hT62_9 hb63
          have hT63_8 := There.below hT62_8 hb63
          go_wp2_with fail
          refine hK.out _ _ hXv63 (fun hHeld => ?_)
          clear hK K
          try simp only [Act.put, List.setIfInBounds_toArray, List.set_cons_zero, List.set_cons_succ]
          refine wpAnyH_ready (rs := [7]) (by kernel_rfl) (by simp) ?_
          refine (AllReadyH.cons rfl (fun K hK => ?_) AllReadyH.nil)
          rw [if_pos (by rfl)]
          go_simp
          refine Calls.mono (sT2 _) ?_
          rintro e wv64 ⟨rfl, hb64⟩
          have hXv64 : Below w1.heap.size w1 wv64 := bl_then hXv63 hb64
          have hT64_9 := There.below hT63_9 hb64
          have hT64_8 := There.below hT63_8 hb64
          go_wp2_with fail
          refine hK.out _ _ hXv64 (fun hHeld => ?_)
          clear hK K
          try simp only [Act.put, List.setIfInBounds_toArray, List.set_cons_zero, List.set_cons_succ]
          refine wpAnyH_ready (rs := [10]) (by kernel_rfl) (by simp) ?_
          refine (AllReadyH.cons rfl (fun K hK => ?_) AllReadyH.nil)
          rw [if_pos (by rfl)]
          have t0 := hT64_8.cell 0 (by omega)
          have f0 := (hT64_8 0 (by omega)).2
          have t1 := hT64_8.cell 1 (by omega)
          have f1 := (hT64_8 1 (by omega)).2
          have t2 := hT64_8.cell 2 (by omega)
          have f2 := (hT64_8 2 (by omega)).2
          go_simp
          have hXs : Below w1.heap.size w1 (((wv64.setCell ⟨wv51.heap.size, 0, none⟩ (.int .i64 z)).setCell ⟨wv51.heap.size, 1, none⟩ (.int .i64 lx)).setCell ⟨wv51.heap.size, 2, none⟩ (.int .i64 ly)) := ((hXv64.setCell hs61 _).setCell hs61 _).setCell hs61 _
          have hRs := RefA.put (z := z) (x := lx) (y := ly) hT64_8
          have hTs := ((hT64_9.putV (r' := wv51.heap.size) (o := 0) (v := .int .i64 z)).putV (r' := wv51.heap.size) (o := 1) (v := .int .i64 lx)).putV (r' := wv51.heap.size) (o := 2) (v := .int .i64 ly)
          generalize hwS : (((wv64.setCell _ _).setCell _ _).setCell _ _ : World) = wS at *
          refine hK.out _ _ hXs (fun hHeld => ?_)
          clear hK K hwS t0 t1 t2 f0 f1 f2
          try simp only [Act.put, List.setIfInBounds_toArray, List.set_cons_zero, List.set_cons_succ]
          refine wpAnyH_ready (rs := [11]) (by kernel_rfl) (by simp) ?_
          refine (AllReadyH.cons rfl (fun K hK => ?_) AllReadyH.nil)
          rw [if_pos (by rfl)]
          have t0 := hTs.cell 0 (by omega)
          have f0 := (hTs 0 (by omega)).2
          have t1 := hTs.cell 1 (by omega)
          have f1 := (hTs 1 (by omega)).2
          have t2 := hTs.cell 2 (by omega)
          have f2 := (hTs 2 (by omega)).2
          go_simp
          have hXu : Below w1.heap.size w1 (((wS.setCell ⟨wv1.heap.size, 0, none⟩ (.int .i64 z)).setCell ⟨wv1.heap.size, 1, none⟩ (.int .i64 hx)).setCell ⟨wv1.heap.size, 2, none⟩ (.int .i64 hy)) := ((hXs.setCell hs51 _).setCell hs51 _).setCell hs51 _
          have hRu := RefA.put (z := z) (x := hx) (y := hy) hTs
          have hRv := ((hRs.apart (r := wv1.heap.size) (o := 0) (v := .int .i64 z) (by omega)).apart (r := wv1.heap.size) (o := 1) (v := .int .i64 hx) (by omega)).apart (r := wv1.heap.size) (o := 2) (v := .int .i64 hy) (by omega)
          generalize hwU : (((wS.setCell _ _).setCell _ _).setCell _ _ : World) = wU at *
          refine hK.out _ _ hXu (fun hHeld => ?_)
          clear hK K hwU t0 t1 t2 f0 f1 f2
          try simp only [Act.put, List.setIfInBounds_toArray, List.set_cons_zero, List.set_cons_succ]
          refine wpAnyH_done (by kernel_rfl) ?_ _
          refine NoPanic.normal ?_
          go_wp2_with fail
          go_meet
          case rel => exact ⟨_, _, rfl, rfl, hRv, hRu, hXu⟩
    · rw [if_pos (by rfl)]
      go_simp
      generalize hwA : (World.alloc _ _ : World) = wv65
      have hb65 : Below w1.heap.size w1 wv65.drew := by subst hwA; (repeat (first | exact Below.refl _ _ | assumption | refine Below.drew ?_ | refine bl_alloc ?_ _ | refine bl_then ?_ (by assumption) | refine Below.setCell ?_ (by first | omega | (simp; done) | (simp; omega)) _ | refine bl_store ?_ ?_ _ _))
      have hT65 : There wv65.drew w1.heap.size 3 := by subst hwA; exact there3r w1 _ _ _ _
      clear hwA
      have hXv65 : Below w1.heap.size w1 wv65.drew := hb65
      have hs65 : w1.heap.size ≤ w1.heap.size := Nat.le_refl _
      refine hK.out _ _ hXv65 (fun hHeld => ?_)
      clear hK K
      try simp only [Act.put, List.setIfInBounds_toArray, List.set_cons_zero, List.set_cons_succ]
      refine wpAnyH_ready (rs := [2, 9]) (by kernel_rfl) (by simp) ?_
      refine (AllReadyH.cons rfl (fun K hK => ?_) (AllReadyH.cons rfl (fun K hK => ?_) AllReadyH.nil))
      · rw [if_pos (by rfl)]
        go_simp
        refine Calls.mono (sF _) ?_
        rintro e wv66 ⟨rfl, hb66⟩
        have hXv66 : Below w1.heap.size w1 wv66 := bl_then hXv65 hb66
        have hT66_8 := There.below hT65 hb66
        go_wp2_with fail
        refine hK.out _ _ hXv66 (fun hHeld => ?_)
        clear hK K
        try simp only [Act.put, List.setIfInBounds_toArray, List.set_cons_zero, List.set_cons_succ]
        refine wpAnyH_ready (rs := [3, 9]) (by kernel_rfl) (by simp) ?_
        refine (AllReadyH.cons rfl (fun K hK => ?_) (AllReadyH.cons rfl (fun K hK => ?_) AllReadyH.nil))
        · rw [if_pos (by rfl)]
          go_simp
          refine Calls.mono (sT1 _) ?_
          rintro e wv67 ⟨rfl, hb67⟩
          have hXv67 : Below w1.heap.size w1 wv67 := bl_then hXv66 hb67
          have hT67_8 := There.below hT66_8 hb67
          go_wp2_with fail
          refine hK.out _ _ hXv67 (fun hHeld => ?_)
          clear hK K
          try simp only [Act.put, List.setIfInBounds_toArray, List.set_cons_zero, List.set_cons_succ]
          refine wpAnyH_ready (rs := [6, 9]) (by kernel_rfl) (by simp) ?_
          refine (AllReadyH.cons rfl (fun K hK => ?_) (AllReadyH.cons rfl (fun K hK => ?_) AllReadyH.nil))
          · rw [if_pos (by rfl)]
            go_simp
            refine Calls.mono (sL _) ?_
            rintro e wv68 ⟨rfl, hb68⟩
            have hXv68 : Below w1.heap.size w1 wv68 := bl_then hXv67 hb68
            have hT68_8 := There.below hT67_8 hb68
            go_wp2_with fail
            refine hK.out _ _ hXv68 (fun hHeld => ?_)
            clear hK K
            try simp only [Act.put, List.setIfInBounds_toArray, List.set_cons_zero, List.set_cons_succ]
            refine wpAnyH_ready (rs := [7, 9]) (by kernel_rfl) (by simp) ?_
            refine (AllReadyH.cons rfl (fun K hK => ?_) (AllReadyH.cons rfl (fun K hK => ?_) AllReadyH.nil))
            · rw [if_pos (by rfl)]
              go_simp
              refine Calls.mono (sT2 _) ?_
              rintro e wv69 ⟨rfl, hb69⟩
              have hXv69 : Below w1.heap.size w1 wv69 := bl_then hXv68 hb69
              have hT69_8 := There.below hT68_8 hb69
              go_wp2_with fail
              refine hK.out _ _ hXv69 (fun hHeld => ?_)
              clear hK K
              try simp only [Act.put, List.setIfInBounds_toArray, List.set_cons_zero, List.set_cons_succ]
              refine wpAnyH_ready (rs := [9]) (by kernel_rfl) (by simp) ?_
              refine (AllReadyH.cons rfl (fun K hK => ?_) AllReadyH.nil)
              rw [if_pos (by rfl)]
              go_simp
              generalize hwA : (World.alloc _ _ : World) = wv70
              have hb70 : Below wv69.heap.size wv69 wv70 := by subst hwA; (repeat (first | exact Below.refl _ _ | assumption | refine Below.drew ?_ | refine bl_alloc ?_ _ | refine bl_then ?_ (by assumption) | refine Below.setCell ?_ (by first | omega | (simp; done) | (simp; omega)) _ | refine bl_store ?_ ?_ _ _))
              have hT70 : There wv70 wv69.heap.size 3 := by subst hwA; exact there3r wv69 _ _ _ _
              clear hwA
              have hXv70 : Below w1.heap.size w1 wv70 := bl_then hXv69 hb70
              have hs70 : w1.heap.size ≤ wv69.heap.size := Below.size hXv69
              have hu70 := hT69_8.lt3
              have hT70_8 := There.below hT69_8 hb70
              refine hK.out _ _ hXv70 (fun hHeld => ?_)
              clear hK K
              try simp only [Act.put, List.setIfInBounds_toArray, List.set_cons_zero, List.set_cons_succ]
              refine wpAnyH_ready (rs := [10]) (by kernel_rfl) (by simp) ?_
              refine (AllReadyH.cons rfl (fun K hK => ?_) AllReadyH.nil)
              rw [if_pos (by rfl)]
              have t0 := hT70_8.cell 0 (by omega)
              have f0 := (hT70_8 0 (by omega)).2
              have t1 := hT70_8.cell 1 (by omega)
              have f1 := (hT70_8 1 (by omega)).2
              have t2 := hT70_8.cell 2 (by omega)
              have f2 := (hT70_8 2 (by omega)).2
              go_simp
              have hXs : Below w1.heap.size w1 (((wv70.setCell ⟨w1.heap.size, 0, none⟩ (.int .i64 z)).setCell ⟨w1.heap.size, 1, none⟩ (.int .i64 lx)).setCell ⟨w1.heap.size, 2, none⟩ (.int .i64 ly)) := ((hXv70.setCell hs65 _).setCell hs65 _).setCell hs65 _
              have hRs := RefA.put (z := z) (x := lx) (y := ly) hT70_8
              have hTs := ((hT70.putV (r' := w1.heap.size) (o := 0) (v := .int .i64 z)).putV (r' := w1.heap.size) (o := 1) (v := .int .i64 lx)).putV (r' := w1.heap.size) (o := 2) (v := .int .i64 ly)
              generalize hwS : (((wv70.setCell _ _).setCell _ _).setCell _ _ : World) = wS at *
              refine hK.out _ _ hXs (fun hHeld => ?_)
              clear hK K hwS t0 t1 t2 f0 f1 f2
              try simp only [Act.put, List.setIfInBounds_toArray, List.set_cons_zero, List.set_cons_succ]
              refine wpAnyH_ready (rs := [11]) (by kernel_rfl) (by simp) ?_
              refine (AllReadyH.cons rfl (fun K hK => ?_) AllReadyH.nil)
              rw [if_pos (by rfl)]
              have t0 := hTs.cell 0 (by omega)
              have f0 := (hTs 0 (by omega)).2
              have t1 := hTs.cell 1 (by omega)
              have f1 := (hTs 1 (by omega)).2
              have t2 := hTs.cell 2 (by omega)
              have f2 := (hTs 2 (by omega)).2
              go_simp
              have hXu : Below w1.heap.size w1 (((wS.setCell ⟨wv69.heap.size, 0, none⟩ (.int .i64 z)).setCell ⟨wv69.heap.size, 1, none⟩ (.int .i64 hx)).setCell ⟨wv69.heap.size, 2, none⟩ (.int .i64 hy)) := ((hXs.setCell hs70 _).setCell hs70 _).setCell hs70 _
              have hRu := RefA.put (z := z) (x := hx) (y := hy) hTs
              have hRv := ((hRs.apart (r := wv69.heap.size) (o := 0) (v := .int .i64 z) (by omega)).apart (r := wv69.heap.size) (o := 1) (v := .int .i64 hx) (by omega)).apart (r := wv69.heap.size) (o := 2) (v := .int .i64 hy) (by omega)
              generalize hwU : (((wS.setCell _ _).setCell _ _).setCell _ _ : World) = wU at *
              refine hK.out _ _ hXu (fun hHeld => ?_)
              clear hK K hwU t0 t1 t2 f0 f1 f2
              try simp only [Act.put, List.setIfInBounds_toArray, List.set_cons_zero, List.set_cons_succ]
              refine wpAnyH_done (by kernel_rfl) ?_ _
              refine NoPanic.normal ?_
              go_wp2_with fail
              go_meet
              case rel => exact ⟨_, _, rfl, rfl, hRv, hRu, hXu⟩
            · rw [if_pos (by rfl)]
              go_simp
              generalize hwA : (World.alloc _ _ : World) = wv71
              have hb71 : Below wv68.heap.size wv68 wv71 := by subst hwA; (repeat (first | exact Below.refl _ _ | assumption | refine Below.drew ?_ | refine bl_alloc ?_ _ | refine bl_then ?_ (by assumption) | refine Below.setCell ?_ (by first | omega | (simp; done) | (simp; omega)) _ | refine bl_store ?_ ?_ _ _))
              have hT71 : There wv71 wv68.heap.size 3 := by subst hwA; exact there3r wv68 _ _ _ _
              clear hwA
              have hXv71 : Below w1.heap.size w1 wv71 := bl_then hXv68 hb71
              have hs71 : w1.heap.size ≤ wv68.heap.size := Below.size hXv68
              have hu71 := hT68_8.lt3
              have hT71_8 := There.below hT68_8 hb71
              refine hK.out _ _ hXv71 (fun hHeld => ?_)
              clear hK K
              try simp only [Act.put, List.setIfInBounds_toArray, List.set_cons_zero, List.set_cons_succ]
              refine wpAnyH_ready (rs := [7]) (by kernel_rfl) (by simp) ?_
              refine (AllReadyH.cons rfl (fun K hK => ?_) AllReadyH.nil)
              rw [if_pos (by rfl)]
              go_simp
              refine Calls.mono (sT2 _) ?_
              rintro e wv72 ⟨rfl, hb72⟩
              have hXv72 : Below w1.heap.size w1 wv72 := bl_then hXv71 hb72
              have hT72_8 := There.below hT71_8 hb72
              have hT72_9 := There.below hT71 hb72
              go_wp2_with fail
              refine hK.out _ _ hXv72 (fun hHeld => ?_)
              clear hK K
              try simp only [Act.put, List.setIfInBounds_toArray, List.set_cons_zero, List.set_cons_succ]
              refine wpAnyH_ready (rs := [10]) (by kernel_rfl) (by simp) ?_
              refine (AllReadyH.cons rfl (fun K hK => ?_) AllReadyH.nil)
              rw [if_pos (by rfl)]
              have t0 := hT72_8.cell 0 (by omega)
              have f0 := (hT72_8 0 (by omega)).2
              have t1 := hT72_8.cell 1 (by omega)
              have f1 := (hT72_8 1 (by omega)).2
              have t2 := hT72_8.cell 2 (by omega)
              have f2 := (hT72_8 2 (by omega)).2
              go_simp
              have hXs : Below w1.heap.size w1 (((wv72.setCell ⟨w1.heap.size, 0, none⟩ (.int .i64 z)).setCell ⟨w1.heap.size, 1, none⟩ (.int .i64 lx)).setCell ⟨w1.heap.size, 2, none⟩ (.int .i64 ly)) := ((hXv72.setCell hs65 _).setCell hs65 _).setCell hs65 _
              have hRs := RefA.put (z := z) (x := lx) (y := ly) hT72_8
              have hTs := ((hT72_9.putV (r' := w1.heap.size) (o := 0) (v := .int .i64 z)).putV (r' := w1.heap.size) (o := 1) (v := .int .i64 lx)).putV (r' := w1.heap.size) (o := 2) (v := .int .i64 ly)
              generalize hwS : (((wv72.setCell _ _).setCell _ _).setCell _ _ : World) = wS at *
              refine hK.out _ _ hXs (fun hHeld => ?_)
              clear hK K hwS t0 t1 t2 f0 f1 f2
              try simp only [Act.put, List.setIfInBounds_toArray, List.set_cons_zero, List.set_cons_succ]
              refine wpAnyH_ready (rs := [11]) (by kernel_rfl) (by simp) ?_
              refine (AllReadyH.cons rfl (fun K hK => ?_) AllReadyH.nil)
              rw [if_pos (by rfl)]
              have t0 := hTs.cell 0 (by omega)
              have f0 := (hTs 0 (by omega)).2
              have t1 := hTs.cell 1 (by omega)
              have f1 := (hTs 1 (by omega)).2
              have t2 := hTs.cell 2 (by omega)
              have f2 := (hTs 2 (by omega)).2
              go_simp
              have hXu : Below w1.heap.size w1 (((wS.setCell ⟨wv68.heap.size, 0, none⟩ (.int .i64 z)).setCell ⟨wv68.heap.size, 1, none⟩ (.int .i64 hx)).setCell ⟨wv68.heap.size, 2, none⟩ (.int .i64 hy)) := ((hXs.setCell hs71 _).setCell hs71 _).setCell hs71 _
              have hRu := RefA.put (z := z) (x := hx) (y := hy) hTs
              have hRv := ((hRs.apart (r := wv68.heap.size) (o := 0) (v := .int .i64 z) (by omega)).apart (r := wv68.heap.size) (o := 1) (v := .int .i64 hx) (by omega)).apart (r := wv68.heap.size) (o := 2) (v := .int .i64 hy) (by omega)
              generalize hwU : (((wS.setCell _ _).setCell _ _).setCell _ _ : World) = wU at *
              refine hK.out _ _ hXu (fun hHeld => ?_)
              clear hK K hwU t0 t1 t2 f0 f1 f2
              try simp only [Act.put, List.setIfInBounds_toArray, List.set_cons_zero, List.set_cons_succ]
              refine wpAnyH_done (by kernel_rfl) ?_ _
              refine NoPanic.normal ?_
              go_wp2_with fail
              go_meet
              case rel => exact ⟨_, _, rfl, rfl, hRv, hRu, hXu⟩
          · rw [if_pos (by rfl)]
            go_simp
            generalize hwA : (World.alloc _ _ : World) = wv73
            have hb73 : Below wv67.heap.size wv67 wv73 := by subst hwA; (repeat (first | exact Below.refl _ _ | assumption | refine Below.drew ?_ | refine bl_alloc ?_ _ | refine bl_then ?_ (by assumption) | refine Below.setCell ?_ (by first | omega | (simp; done) | (simp; omega)) _ | refine bl_store ?_ ?_ _ _))
            have hT73 : There wv73 wv67.heap.size 3 := by subst hwA; exact there3r wv67 _ _ _ _
            clear hwA
            have hXv73 : Below w1.heap.size w1 wv73 := bl_then hXv67 hb73
            have hs73 : w1.heap.size ≤ wv67.heap.size := Below.size hXv67
            have hu73 := hT67_8.lt3
            have hT73_8 := There.below hT67_8 hb73
            refine hK.out _ _ hXv73 (fun hHeld => ?_)
            clear hK K
            try simp only [Act.put, List.setIfInBounds_toArray, List.set_cons_zero, List.set_cons_succ]
            refine wpAnyH_ready (rs := [6]) (by kernel_rfl) (by simp) ?_
            refine (AllReadyH.cons rfl (fun K hK => ?_) AllReadyH.nil)
            rw [if_pos (by rfl)]
            go_simp
            refine Calls.mono (sL _) ?_
            rintro e wv74 ⟨rfl, hb74⟩
            have hXv74 : Below w1.heap.size w1 wv74 := bl_then hXv73 hb74
            have hT74_8 := There.below hT73_8 hb74
            have hT74_9 := There.below hT73 hb74
            go_wp2_with fail
            refine hK.out _ _ hXv74 (fun hHeld => ?_)
            clear hK K
            try simp only [Act.put, List.setIfInBounds_toArray, List.set_cons_zero, List.set_cons_succ]
            refine wpAnyH_ready (rs := [7]) (by kernel_rfl) (by simp) ?_
            refine (AllReadyH.cons rfl (fun K hK => ?_) AllReadyH.nil)
            rw [if_pos (by rfl)]
            go_simp
            refine Calls.mono (sT2 _) ?_
            rintro e wv75 ⟨rfl, hb75⟩
            have hXv75 : Below w1.heap.size w1 wv75 := bl_then hXv74 hb75
            have hT75_8 := There.below hT74_8 hb75
            have hT75_9 := There.below hT74_9 hb75
            go_wp2_with fail
            refine hK.out _ _ hXv75 (fun hHeld => ?_)
            clear hK K
            try simp only [Act.put, List.setIfInBounds_toArray, List.set_cons_zero, List.set_cons_succ]
            refine wpAnyH_ready (rs := [10]) (by kernel_rfl) (by simp) ?_
            refine (AllReadyH.cons rfl (fun K hK => ?_) AllReadyH.nil)
            rw [if_pos (by rfl)]
            have t0 := hT75_8.cell 0 (by omega)
            have f0 := (hT75_8 0 (by omega)).2
            have t1 := hT75_8.cell 1 (by omega)
            have f1 := (hT75_8 1 (by omega)).2
            have t2 := hT75_8.cell 2 (by omega)
            have f2 := (hT75_8 2 (by omega)).2
            go_simp
            have hXs : Below w1.heap.size w1 (((wv75.setCell ⟨w1.heap.size, 0, none⟩ (.int .i64 z)).setCell ⟨w1.heap.size, 1, none⟩ (.int .i64 lx)).setCell ⟨w1.heap.size, 2, none⟩ (.int .i64 ly)) := ((hXv75.setCell hs65 _).setCell hs65 _).setCell hs65 _
            have hRs := RefA.put (z := z) (x := lx) (y := ly) hT75_8
            have hTs := ((hT75_9.putV (r' := w1.heap.size) (o := 0) (v := .int .i64 z)).putV (r' := w1.heap.size) (o := 1) (v := .int .i64 lx)).putV (r' := w1.heap.size) (o := 2) (v := .int .i64 ly)
            generalize hwS : (((wv75.setCell _ _).setCell _ _).setCell _ _ : World) = wS at *
            refine hK.out _ _ hXs (fun hHeld => ?_)
            clear hK K hwS t0 t1 t2 f0 f1 f2
            try simp only [Act.put, List.setIfInBounds_toArray, List.set_cons_zero, List.set_cons_succ]
            refine wpAnyH_ready (rs := [11]) (by kernel_rfl) (by simp) ?_
            refine (AllReadyH.cons rfl (fun K hK => ?_) AllReadyH.nil)
            rw [if_pos (by rfl)]
            have t0 := hTs.cell 0 (by omega)
            have f0 := (hTs 0 (by omega)).2
            have t1 := hTs.cell 1 (by omega)
            have f1 := (hTs 1 (by omega)).2
            have t2 := hTs.cell 2 (by omega)
            have f2 := (hTs 2 (by omega)).2
            go_simp
            have hXu : Below w1.heap.size w1 (((wS.setCell ⟨wv67.heap.size, 0, none⟩ (.int .i64 z)).setCell ⟨wv67.heap.size, 1, none⟩ (.int .i64 hx)).setCell ⟨wv67.heap.size, 2, none⟩ (.int .i64 hy)) := ((hXs.setCell hs73 _).setCell hs73 _).setCell hs73 _
            have hRu := RefA.put (z := z) (x := hx) (y := hy) hTs
            have hRv := ((hRs.apart (r := wv67.heap.size) (o := 0) (v := .int .i64 z) (by omega)).apart (r := wv67.heap.size) (o := 1) (v := .int .i64 hx) (by omega)).apart (r := wv67.heap.size) (o := 2) (v := .int .i64 hy) (by omega)
            generalize hwU : (((wS.setCell _ _).setCell _ _).setCell _ _ : World) = wU at *
            refine hK.out _ _ hXu (fun hHeld => ?_)
            clear hK K hwU t0 t1 t2 f0 f1 f2
            try simp only [Act.put, List.setIfInBounds_toArray, List.set_cons_zero, List.set_cons_succ]
            refine wpAnyH_done (by kernel_rfl) ?_ _
            refine NoPanic.normal ?_
            go_wp2_with fail
            go_meet
            case rel => exact ⟨_, _, rfl, rfl, hRv, hRu, hXu⟩
        · rw [if_pos (by rfl)]
          go_simp
          generalize hwA : (World.alloc _ _ : World) = wv76
          have hb76 : Below wv66.heap.size wv66 wv76 := by subst hwA; (repeat (first | exact Below.refl _ _ | assumption | refine Below.drew ?_ | refine bl_alloc ?_ _ | refine bl_then ?_ (by assumption) | refine Below.setCell ?_ (by first | omega | (simp; done) | (simp; omega)) _ | refine bl_store ?_ ?_ _ _))
          have hT76 : There wv76 wv66.heap.size 3 := by subst hwA; exact there3r wv66 _ _ _ _
          clear hwA
          have hXv76 : Below w1.heap.size w1 wv76 := bl_then hXv66 hb76
          have hs76 : w1.heap.size ≤ wv66.heap.size := Below.size hXv66
          have hu76 := hT66_8.lt3
          have hT76_8 := There.below hT66_8 hb76
          refine hK.out _ _ hXv76 (fun hHeld => ?_)
          clear hK K
          try simp only [Act.put, List.setIfInBounds_toArray, List.set_cons_zero, List.set_cons_succ]
          refine wpAnyH_ready (rs := [3]) (by kernel_rfl) (by simp) ?_
          refine (AllReadyH.cons rfl (fun K hK => ?_) AllReadyH.nil)
          rw [if_pos (by rfl)]
          go_simp
          refine Calls.mono (sT1 _) ?_
          rintro e wv77 ⟨rfl, hb77⟩
          have hXv77 : Below w1.heap.size w1 wv77 := bl_then hXv76 hb77
          have hT77_8 := There.below hT76_8 hb77
          have hT77_9 := There.below hT76 hb77
          go_wp2_with fail
          refine hK.out _ _ hXv77 (fun hHeld => ?_)
          clear hK K
          try simp only [Act.put, List.setIfInBounds_toArray, List.set_cons_zero, List.set_cons_succ]
          refine wpAnyH_ready (rs := [6]) (by kernel_rfl) (by simp) ?_
          refine (AllReadyH.cons rfl (fun K hK => ?_) AllReadyH.nil)
          rw [if_pos (by rfl)]
          go_simp
          refine Calls.mono (sL _) ?_
          rintro e wv78 ⟨rfl, hb78⟩
          have hXv78 : Below w1.heap.size w1 wv78 := bl_then hXv77 hb78
          have hT78_8 := There.below hT77_8 hb78
          have hT78_9 := There.below hT77_9 hb78
          go_wp2_with fail
          refine hK.out _ _ hXv78 (fun hHeld => ?_)
          clear hK K
          try simp only [Act.put, List.setIfInBounds_toArray, List.set_cons_zero, List.set_cons_succ]
          refine wpAnyH_ready (rs := [7]) (by kernel_rfl) (by simp) ?_
          refine (AllReadyH.cons rfl (fun K hK => ?_) AllReadyH.nil)
          rw [if_pos (by rfl)]
          go_simp
          refine Calls.mono (sT2 _) ?_
          rintro e wv79 ⟨rfl, hb79⟩
          have hXv79 : Below w1.heap.size w1 wv79 := bl_then hXv78 hb79
          have hT79_8 := There.below hT78_8 hb79
          have hT79_9 := There.below hT78_9 hb79
          go_wp2_with fail
          refine hK.out _ _ hXv79 (fun hHeld => ?_)
          clear hK K
          try simp only [Act.put, List.setIfInBounds_toArray, List.set_cons_zero, List.set_cons_succ]
          refine wpAnyH_ready (rs := [10]) (by kernel_rfl) (by simp) ?_
          refine (AllReadyH.cons rfl (fun K hK => ?_) AllReadyH.nil)
          rw [if_pos (by rfl)]
          have t0 := hT79_8.cell 0 (by omega)
          have f0 := (hT79_8 0 (by omega)).2
          have t1 := hT79_8.cell 1 (by omega)
          have f1 := (hT79_8 1 (by omega)).2
          have t2 := hT79_8.cell 2 (by omega)
          have f2 := (hT79_8 2 (by omega)).2
          go_simp
          have hXs : Below w1.heap.size w1 (((wv79.setCell ⟨w1.heap.size, 0, none⟩ (.int .i64 z)).setCell ⟨w1.heap.size, 1, none⟩ (.int .i64 lx)).setCell ⟨w1.heap.size, 2, none⟩ (.int .i64 ly)) := ((hXv79.setCell hs65 _).setCell hs65 _).setCell hs65 _
          have hRs := RefA.put (z := z) (x := lx) (y := ly) hT79_8
          have hTs := ((hT79_9.putV (r' := w1.heap.size) (o := 0) (v := .int .i64 z)).putV (r' := w1.heap.size) (o := 1) (v := .int .i64 lx)).putV (r' := w1.heap.size) (o := 2) (v := .int .i64 ly)
          generalize hwS : (((wv79.setCell _ _).setCell _ _).setCell _ _ : World) = wS at *
          refine hK.out _ _ hXs (fun hHeld => ?_)
          clear hK K hwS t0 t1 t2 f0 f1 f2
          try simp only [Act.put, List.setIfInBounds_toArray, List.set_cons_zero, List.set_cons_succ]
          refine wpAnyH_ready (rs := [11]) (by kernel_rfl) (by simp) ?_
          refine (AllReadyH.cons rfl (fun K hK => ?_) AllReadyH.nil)
          rw [if_pos (by rfl)]
          have t0 := hTs.cell 0 (by omega)
          have f0 := (hTs 0 (by omega)).2
          have t1 := hTs.cell 1 (by omega)
          have f1 := (hTs 1 (by omega)).2
          have t2 := hTs.cell 2 (by omega)
          have f2 := (hTs 2 (by omega)).2
          go_simp
          have hXu : Below w1.heap.size w1 (((wS.setCell ⟨wv66.heap.size, 0, none⟩ (.int .i64 z)).setCell ⟨wv66.heap.size, 1, none⟩ (.int .i64 hx)).setCell ⟨wv66.heap.size, 2, none⟩ (.int .i64 hy)) := ((hXs.setCell hs76 _).setCell hs76 _).setCell hs76 _
          have hRu := RefA.put (z := z) (x := hx) (y := hy) hTs
          have hRv := ((hRs.apart (r := wv66.heap.size) (o := 0) (v := .int .i64 z) (by omega)).apart (r := wv66.heap.size) (o := 1) (v := .int .i64 hx) (by omega)).apart (r := wv66.heap.size) (o := 2) (v := .int .i64 hy) (by omega)
          generalize hwU : (((wS.setCell _ _).setCell _ _).setCell _ _ : World) = wU at *
          refine hK.out _ _ hXu (fun hHeld => ?_)
          clear hK K hwU t0 t1 t2 f0 f1 f2
          try simp only [Act.put, List.setIfInBounds_toArray, List.set_cons_zero, List.set_cons_succ]
          refine wpAnyH_done (by kernel_rfl) ?_ _
          refine NoPanic.normal ?_
          go_wp2_with fail
          go_meet
          case rel => exact ⟨_, _, rfl, rfl, hRv, hRu, hXu⟩
      · rw [if_pos (by rfl)]
        go_simp
        generalize hwA : (World.alloc _ _ : World) = wv80
        have hb80 : Below wv65.heap.size wv65 wv80.drew := by subst hwA; (repeat (first | exact Below.refl _ _ | assumption | refine Below.drew ?_ | refine bl_alloc ?_ _ | refine bl_then ?_ (by assumption) | refine Below.setCell ?_ (by first | omega | (simp; done) | (simp; omega)) _ | refine bl_store ?_ ?_ _ _))
        have hT80 : There wv80.drew wv65.heap.size 3 := by subst hwA; exact there3r wv65 _ _ _ _
        clear hwA
        have hXv80 : Below w1.heap.size w1 wv80.drew := bl_then (undrew hXv65) hb80
        have hs80 : w1.heap.size ≤ wv65.heap.size := Below.size (undrew hXv65)
        have hu80 := (undrewT hT65).lt3
        have hT80_8 := There.below (undrewT hT65) hb80
        refine hK.out _ _ hXv80 (fun hHeld => ?_)
        clear hK K
        try simp only [Act.put, List.setIfInBounds_toArray, List.set_cons_zero, List.set_cons_succ]
        refine wpAnyH_ready (rs := [2]) (by kernel_rfl) (by simp) ?_
        refine (AllReadyH.cons rfl (fun K hK => ?_) AllReadyH.nil)
        rw [if_pos (by rfl)]
        go_simp
        refine Calls.mono (sF _) ?_
        rintro e wv81 ⟨rfl, hb81⟩
        have hXv81 : Below w1.heap.size w1 wv81 := bl_then hXv80 hb81
        have hT81_8 := There.below hT80_8 hb81
        have hT81_9 := There.below hT80 hb81
        go_wp2_with fail
        refine hK.out _ _ hXv81 (fun hHeld => ?_)
        clear hK K
        try simp only [Act.put, List.setIfInBounds_toArray, List.set_cons_zero, List.set_cons_succ]
        refine wpAnyH_ready (rs := [3]) (by kernel_rfl) (by simp) ?_
        refine (AllReadyH.cons rfl (fun K hK => ?_) AllReadyH.nil)
        rw [if_pos (by rfl)]
        go_simp
        refine Calls.mono (sT1 _) ?_
        rintro e wv82 ⟨rfl, hb82⟩
        have hXv82 : Below w1.heap.size w1 wv82 := bl_then hXv81 hb82
        have hT82_8 := There.below hT81_8 hb82
        have hT82_9 := There.below hT81_9 hb82
        go_wp2_with fail
        refine hK.out _ _ hXv82 (fun hHeld => ?_)
        clear hK K
        try simp only [Act.put, List.setIfInBounds_toArray, List.set_cons_zero, List.set_cons_succ]
        refine wpAnyH_ready (rs := [6]) (by kernel_rfl) (by simp) ?_
        refine (AllReadyH.cons rfl (fun K hK => ?_) AllReadyH.nil)
        rw [if_pos (by rfl)]
        go_simp
        refine Calls.mono (sL _) ?_
        rintro e wv83 ⟨rfl, hb83⟩
        have hXv83 : Below w1.heap.size w1 wv83 := bl_then hXv82 hb83
        have hT83_8 := There.below hT82_8 hb83
        have hT83_9 := There.below hT82_9 hb83
        go_wp2_with fail
        refine hK.out _ _ hXv83 (fun hHeld => ?_)
        clear hK K
        try simp only [Act.put, List.setIfInBounds_toArray, List.set_cons_zero, List.set_cons_succ]
        refine wpAnyH_ready (rs := [7]) (by kernel_rfl) (by simp) ?_
        refine (AllReadyH.cons rfl (fun K hK => ?_) AllReadyH.nil)
        rw [if_pos (by rfl)]
        go_simp
        refine Calls.mono (sT2 _) ?_
        rintro e wv84 ⟨rfl, hb84⟩
        have hXv84 : Below w1.heap.size w1 wv84 := bl_then hXv83 hb84
        have hT84_8 := There.below hT83_8 hb84
        have hT84_9 := There.below hT83_9 hb84
        go_wp2_with fail
        refine hK.out _ _ hXv84 (fun hHeld => ?_)
        clear hK K
        try simp only [Act.put, List.setIfInBounds_toArray, List.set_cons_zero, List.set_cons_succ]
        refine wpAnyH_ready (rs := [10]) (by kernel_rfl) (by simp) ?_
        refine (AllReadyH.cons rfl (fun K hK => ?_) AllReadyH.nil)
        rw [if_pos (by rfl)]
        have t0 := hT84_8.cell 0 (by omega)
        have f0 := (hT84_8 0 (by omega)).2
        have t1 := hT84_8.cell 1 (by omega)
        have f1 := (hT84_8 1 (by omega)).2
        have t2 := hT84_8.cell 2 (by omega)
        have f2 := (hT84_8 2 (by omega)).2
        go_simp
        have hXs : Below w1.heap.size w1 (((wv84.setCell ⟨w1.heap.size, 0, none⟩ (.int .i64 z)).setCell ⟨w1.heap.size, 1, none⟩ (.int .i64 lx)).setCell ⟨w1.heap.size, 2, none⟩ (.int .i64 ly)) := ((hXv84.setCell hs65 _).setCell hs65 _).setCell hs65 _
        have hRs := RefA.put (z := z) (x := lx) (y := ly) hT84_8
        have hTs := ((hT84_9.putV (r' := w1.heap.size) (o := 0) (v := .int .i64 z)).putV (r' := w1.heap.size) (o := 1) (v := .int .i64 lx)).putV (r' := w1.heap.size) (o := 2) (v := .int .i64 ly)
        generalize hwS : (((wv84.setCell _ _).setCell _ _).setCell _ _ : World) = wS at *
        refine hK.out _ _ hXs (fun hHeld => ?_)
        clear hK K hwS t0 t1 t2 f0 f1 f2
        try simp only [Act.put, List.setIfInBounds_toArray, List.set_cons_zero, List.set_cons_succ]
        refine wpAnyH_ready (rs := [11]) (by kernel_rfl) (by simp) ?_
        refine (AllReadyH.cons rfl (fun K hK => ?_) AllReadyH.nil)
        rw [if_pos (by rfl)]
        have t0 := hTs.cell 0 (by omega)
        have f0 := (hTs 0 (by omega)).2
        have t1 := hTs.cell 1 (by omega)
        have f1 := (hTs 1 (by omega)).2
        have t2 := hTs.cell 2 (by omega)
        have f2 := (hTs 2 (by omega)).2
        go_simp
        have hXu : Below w1.heap.size w1 (((wS.setCell ⟨wv65.heap.size, 0, none⟩ (.int .i64 z)).setCell ⟨wv65.heap.size, 1, none⟩ (.int .i64 hx)).setCell ⟨wv65.heap.size, 2, none⟩ (.int .i64 hy)) := ((hXs.setCell hs80 _).setCell hs80 _).setCell hs80 _
        have hRu := RefA.put (z := z) (x := hx) (y := hy) hTs
        have hRv := ((hRs.apart (r := wv65.heap.size) (o := 0) (v := .int .i64 z) (by omega)).apart (r := wv65.heap.size) (o := 1) (v := .int .i64 hx) (by omega)).apart (r := wv65.heap.size) (o := 2) (v := .int .i64 hy) (by omega)
        generalize hwU : (((wS.setCell _ _).setCell _ _).setCell _ _ : World) = wU at *
        refine hK.out _ _ hXu (fun hHeld => ?_)
        clear hK K hwU t0 t1 t2 f0 f1 f2
        try simp only [Act.put, List.setIfInBounds_toArray, List.set_cons_zero, List.set_cons_succ]
        refine wpAnyH_done (by kernel_rfl) ?_ _
        refine NoPanic.normal ?_
        go_wp2_with fail
        go_meet
        case rel => exact ⟨_, _, rfl, rfl, hRv, hRu, hXu⟩
    · rw [if_pos (by rfl)]
      go_simp
      generalize hwA : (World.alloc _ _ : World) = wv85
      have hb85 : Below w1.heap.size w1 wv85.drew := by subst hwA; (repeat (first | exact Below.refl _ _ | assumption | refine Below.drew ?_ | refine bl_alloc ?_ _ | refine bl_then ?_ (by assumption) | refine Below.setCell ?_ (by first | omega | (simp; done) | (simp; omega)) _ | refine bl_store ?_ ?_ _ _))
      have hT85 : There wv85.drew w1.heap.size 3 := by subst hwA; exact there3r w1 _ _ _ _
      clear hwA
      have hXv85 : Below w1.heap.size w1 wv85.drew := hb85
      have hs85 : w1.heap.size ≤ w1.heap.size := Nat.le_refl _
      refine hK.out _ _ hXv85 (fun hHeld => ?_)
      clear hK K
      try simp only [Act.put, List.setIfInBounds_toArray, List.set_cons_zero, List.set_cons_succ]
      refine wpAnyH_ready (rs := [2, 8]) (by kernel_rfl) (by simp) ?_
      refine (AllReadyH.cons rfl (fun K hK => ?_) (AllReadyH.cons rfl (fun K hK => ?_) AllReadyH.nil))
      · rw [if_pos (by rfl)]
        go_simp
        refine Calls.mono (sF _) ?_
        rintro e wv86 ⟨rfl, hb86⟩
        have hXv86 : Below w1.heap.size w1 wv86 := bl_then hXv85 hb86
        have hT86_9 := There.below hT85 hb86
        go_wp2_with fail
        refine hK.out _ _ hXv86 (fun hHeld => ?_)
        clear hK K
        try simp only [Act.put, List.setIfInBounds_toArray, List.set_cons_zero, List.set_cons_succ]
        refine wpAnyH_ready (rs := [3, 8]) (by kernel_rfl) (by simp) ?_
        refine (AllReadyH.cons rfl (fun K hK => ?_) (AllReadyH.cons rfl (fun K hK => ?_) AllReadyH.nil))
        · rw [if_pos (by rfl)]
          go_simp
          refine Calls.mono (sT1 _) ?_
          rintro e wv87 ⟨rfl, hb87⟩
          have hXv87 : Below w1.heap.size w1 wv87 := bl_then hXv86 hb87
          have hT87_9 := There.below hT86_9 hb87
          go_wp2_with fail
          refine hK.out _ _ hXv87 (fun hHeld => ?_)
          clear hK K
          try simp only [Act.put, List.setIfInBounds_toArray, List.set_cons_zero, List.set_cons_succ]
          refine wpAnyH_ready (rs := [6, 8]) (by kernel_rfl) (by simp) ?_
          refine (AllReadyH.cons rfl (fun K hK => ?_) (AllReadyH.cons rfl (fun K hK => ?_) AllReadyH.nil))
          · rw [if_pos (by rfl)]
            go_simp
            refine Calls.mono (sL _) ?_
            rintro e wv88 ⟨rfl, hb88⟩
            have hXv88 : Below w1.heap.size w1 wv88 := bl_then hXv87 hb88
            have hT88_9 := There.below hT87_9 hb88
            go_wp2_with fail
            refine hK.out _ _ hXv88 (fun hHeld => ?_)
            clear hK K
            try simp only [Act.put, List.setIfInBounds_toArray, List.set_cons_zero, List.set_cons_succ]
            refine wpAnyH_ready (rs := [7, 8]) (by kernel_rfl) (by simp) ?_
            refine (AllReadyH.cons rfl (fun K hK => ?_) (AllReadyH.cons rfl (fun K hK => ?_) AllReadyH.nil))
            · rw [if_pos (by rfl)]
              go_simp
              refine Calls.mono (sT2 _) ?_
              rintro e wv89 ⟨rfl, hb89⟩
              have hXv89 : Below w1.heap.size w1 wv89 := bl_then hXv88 hb89
              have hT89_9 := There.below hT88_9 hb89
              go_wp2_with fail
              refine hK.out _ _ hXv89 (fun hHeld => ?_)
              clear hK K
              try simp only [Act.put, List.setIfInBounds_toArray, List.set_cons_zero, List.set_cons_succ]
              refine wpAnyH_ready (rs := [8]) (by kernel_rfl) (by simp) ?_
              refine (AllReadyH.cons rfl (fun K hK => ?_) AllReadyH.nil)
              rw [if_pos (by rfl)]
              go_simp
              generalize hwA : (World.alloc _ _ : World) = wv90
              have hb90 : Below wv89.heap.size wv89 wv90 := by subst hwA; (repeat (first | exact Below.refl _ _ | assumption | refine Below.drew ?_ | refine bl_alloc ?_ _ | refine bl_then ?_ (by assumption) | refine Below.setCell ?_ (by first | omega | (simp; done) | (simp; omega)) _ | refine bl_store ?_ ?_ _ _))
              have hT90 : There wv90 wv89.heap.size 3 := by subst hwA; exact there3r wv89 _ _ _ _
              clear hwA
              have hXv90 : Below w1.heap.size w1 wv90 := bl_then hXv89 hb90
              have hs90 : w1.heap.size ≤ wv89.heap.size := Below.size hXv89
              have hu90 := hT89_9.lt3
              have hT90_9 := There.below hT89_9 hb90
              refine hK.out _ _ hXv90 (fun hHeld => ?_)
              clear hK K
              try simp only [Act.put, List.setIfInBounds_toArray, List.set_cons_zero, List.set_cons_succ]
              refine wpAnyH_ready (rs := [10]) (by kernel_rfl) (by simp) ?_
              refine (AllReadyH.cons rfl (fun K hK => ?_) AllReadyH.nil)
              rw [if_pos (by rfl)]
              have t0 := hT90.cell 0 (by omega)
              have f0 := (hT90 0 (by omega)).2
              have t1 := hT90.cell 1 (by omega)
              have f1 := (hT90 1 (by omega)).2
              have t2 := hT90.cell 2 (by omega)
              have f2 := (hT90 2 (by omega)).2
              go_simp
              have hXs : Below w1.heap.size w1 (((wv90.setCell ⟨wv89.heap.size, 0, none⟩ (.int .i64 z)).setCell ⟨wv89.heap.size, 1, none⟩ (.int .i64 lx)).setCell ⟨wv89.heap.size, 2, none⟩ (.int .i64 ly)) := ((hXv90.setCell hs90 _).setCell hs90 _).setCell hs90 _
              have hRs := RefA.put (z := z) (x := lx) (y := ly) hT90
              have hTs := ((hT90_9.putV (r' := wv89.heap.size) (o := 0) (v := .int .i64 z)).putV (r' := wv89.heap.size) (o := 1) (v := .int .i64 lx)).putV (r' := wv89.heap.size) (o := 2) (v := .int .i64 ly)
              generalize hwS : (((wv90.setCell _ _).setCell _ _).setCell _ _ : World) = wS at *
              refine hK.out _ _ hXs (fun hHeld => ?_)
              clear hK K hwS t0 t1 t2 f0 f1 f2
              try simp only [Act.put, List.setIfInBounds_toArray, List.set_cons_zero, List.set_cons_succ]
              refine wpAnyH_ready (rs := [11]) (by kernel_rfl) (by simp) ?_
              refine (AllReadyH.cons rfl (fun K hK => ?_) AllReadyH.nil)
              rw [if_pos (by rfl)]
              have t0 := hTs.cell 0 (by omega)
              have f0 := (hTs 0 (by omega)).2
              have t1 := hTs.cell 1 (by omega)
              have f1 := (hTs 1 (by omega)).2
              have t2 := hTs.cell 2 (by omega)
              have f2 := (hTs 2 (by omega)).2
              go_simp
              have hXu : Below w1.heap.size w1 (((wS.setCell ⟨w1.heap.size, 0, none⟩ (.int .i64 z)).setCell ⟨w1.heap.size, 1, none⟩ (.int .i64 hx)).setCell ⟨w1.heap.size, 2, none⟩ (.int .i64 hy)) := ((hXs.setCell hs85 _).setCell hs85 _).setCell hs85 _
              have hRu := RefA.put (z := z) (x := hx) (y := hy) hTs
              have hRv := ((hRs.apart (r := w1.heap.size) (o := 0) (v := .int .i64 z) (by omega)).apart (r := w1.heap.size) (o := 1) (v := .int .i64 hx) (by omega)).apart (r := w1.heap.size) (o := 2) (v := .int .i64 hy) (by omega)
              generalize hwU : (((wS.setCell _ _).setCell _ _).setCell _ _ : World) = wU at *
              refine hK.out _ _ hXu (fun hHeld => ?_)
              clear hK K hwU t0 t1 t2 f0 f1 f2
              try simp only [Act.put, List.setIfInBounds_toArray, List.set_cons_zero, List.set_cons_succ]
              refine wpAnyH_done (by kernel_rfl) ?_ _
              refine NoPanic.normal ?_
              go_wp2_with fail
              go_meet
              case rel => exact ⟨_, _, rfl, rfl, hRv, hRu, hXu⟩
            · rw [if_pos (by rfl)]
              go_simp
              generalize hwA : (World.alloc _ _ : World) = wv91
              have hb91 : Below wv88.heap.size wv88 wv91 := by subst hwA; (repeat (first | exact Below.refl _ _ | assumption | refine Below.drew ?_ | refine bl_alloc ?_ _ | refine bl_then ?_ (by assumption) | refine Below.setCell ?_ (by first | omega | (simp; done) | (simp; omega)) _ | refine bl_store ?_ ?_ _ _))
              have hT91 : There wv91 wv88.heap.size 3 := by subst hwA; exact there3r wv88 _ _ _ _
              clear hwA
              have hXv91 : Below w1.heap.size w1 wv91 := bl_then hXv88 hb91
              have hs91 : w1.heap.size ≤ wv88.heap.size := Below.size hXv88
              have hu91 := hT88_9.lt3
              have hT91_9 := There.below hT88_9 hb91
              refine hK.out _ _ hXv91 (fun hHeld => ?_)
              clear hK K
              try simp only [Act.put, List.setIfInBounds_toArray, List.set_cons_zero, List.set_cons_succ]
              refine wpAnyH_ready (rs := [7]) (by kernel_rfl) (by simp) ?_
              refine (AllReadyH.cons rfl (fun K hK => ?_) AllReadyH.nil)
              rw [if_pos (by rfl)]
              go_simp
              refine Calls.mono (sT2 _) ?_
              rintro e wv92 ⟨rfl, hb92⟩
              have hXv92 : Below w1.heap.size w1 wv92 := bl_then hXv91 hb92
              have hT92_9 := There.below hT91_9 hb92
              have hT92_8 := There.below hT91 hb92
              go_wp2_with fail
              refine hK.out _ _ hXv92 (fun hHeld => ?_)
              clear hK K
              try simp only [Act.put, List.setIfInBounds_toArray, List.set_cons_zero, List.set_cons_succ]
              refine wpAnyH_ready (rs := [10]) (by kernel_rfl) (by simp) ?_
              refine (AllReadyH.cons rfl (fun K hK => ?_) AllReadyH.nil)
              rw [if_pos (by rfl)]
              have t0 := hT92_8.cell 0 (by omega)
              have f0 := (hT92_8 0 (by omega)).2
              have t1 := hT92_8.cell 1 (by omega)
              have f1 := (hT92_8 1 (by omega)).2
              have t2 := hT92_8.cell 2 (by omega)
              have f2 := (hT92_8 2 (by omega)).2
              go_simp
              have hXs : Below w1.heap.size w1 (((wv92.setCell ⟨wv88.heap.size, 0, none⟩ (.int .i64 z)).setCell ⟨wv88.heap.size, 1, none⟩ (.int .i64 lx)).setCell ⟨wv88.heap.size, 2, none⟩ (.int .i64 ly)) := ((hXv92.setCell hs91 _).setCell hs91 _).setCell hs91 _
              have hRs := RefA.put (z := z) (x := lx) (y := ly) hT92_8
              have hTs := ((hT92_9.putV (r' := wv88.heap.size) (o := 0) (v := .int .i64 z)).putV (r' := wv88.heap.size) (o := 1) (v := .int .i64 lx)).putV (r' := wv88.heap.size) (o := 2) (v := .int .i64 ly)
              generalize hwS : (((wv92.setCell _ _).setCell _ _).setCell _ _ : World) = wS at *
              refine hK.out _ _ hXs (fun hHeld => ?_)
              clear hK K hwS t0 t1 t2 f0 f1 f2
              try simp only [Act.put, List.setIfInBounds_toArray, List.set_cons_zero, List.set_cons_succ]
              refine wpAnyH_ready (rs := [11]) (by kernel_rfl) (by simp) ?_
              refine (AllReadyH.cons rfl (fun K hK => ?_) AllReadyH.nil)
              rw [if_pos (by rfl)]
              have t0 := hTs.cell 0 (by omega)
              have f0 := (hTs 0 (by omega)).2
              have t1 := hTs.cell 1 (by omega)
              have f1 := (hTs 1 (by omega)).2
              have t2 := hTs.cell 2 (by omega)
              have f2 := (hTs 2 (by omega)).2
              go_simp
              have hXu : Below w1.heap.size w1 (((wS.setCell ⟨w1.heap.size, 0, none⟩ (.int .i64 z)).setCell ⟨w1.heap.size, 1, none⟩ (.int .i64 hx)).setCell ⟨w1.heap.size, 2, none⟩ (.int .i64 hy)) := ((hXs.setCell hs85 _).setCell hs85 _).setCell hs85 _
              have hRu := RefA.put (z := z) (x := hx) (y := hy) hTs
              have hRv := ((hRs.apart (r := w1.heap.size) (o := 0) (v := .int .i64 z) (by omega)).apart (r := w1.heap.size) (o := 1) (v := .int .i64 hx) (by omega)).apart (r := w1.heap.size) (o := 2) (v := .int .i64 hy) (by omega)
              generalize hwU : (((wS.setCell _ _).setCell _ _).setCell _ _ : World) = wU at *
              refine hK.out _ _ hXu (fun hHeld => ?_)
              clear hK K hwU t0 t1 t2 f0 f1 f2
              try simp only [Act.put, List.setIfInBounds_toArray, List.set_cons_zero, List.set_cons_succ]
              refine wpAnyH_done (by kernel_rfl) ?_ _
              refine NoPanic.normal ?_
              go_wp2_with fail
              go_meet
              case rel => exact ⟨_, _, rfl, rfl, hRv, hRu, hXu⟩
          · rw [if_pos (by rfl)]
            go_simp
            generalize hwA : (World.alloc _ _ : World) = wv93
            have hb93 : Below wv87.heap.size wv87 wv93 := by subst hwA; (repeat (first | exact Below.refl _ _ | assumption | refine Below.drew ?_ | refine bl_alloc ?_ _ | refine bl_then ?_ (by assumption) | refine Below.setCell ?_ (by first | omega | (simp; done) | (simp; omega)) _ | refine bl_store ?_ ?_ _ _))
            have hT93 : There wv93 wv87.heap.size 3 := by subst hwA; exact there3r wv87 _ _ _ _
            clear hwA
            have hXv93 : Below w1.heap.size w1 wv93 := bl_then hXv87 hb93
            have hs93 : w1.heap.size ≤ wv87.heap.size := Below.size hXv87
            have hu93 := hT87_9.lt3
            have hT93_9 := There.below hT87_9 hb93
            refine hK.out _ _ hXv93 (fun hHeld => ?_)
            clear hK K
            try simp only [Act.put, List.setIfInBounds_toArray, List.set_cons_zero, List.set_cons_succ]
            refine wpAnyH_ready (rs := [6]) (by kernel_rfl) (by simp) ?_
            refine (AllReadyH.cons rfl (fun K hK => ?_) AllReadyH.nil)
            rw [if_pos (by rfl)]
            go_simp
            refine Calls.mono (sL _) ?_
            rintro e wv94 ⟨rfl, hb94⟩
            have hXv94 : Below w1.heap.size w1 wv94 := bl_then hXv93 hb94
            have hT94_9 := There.below hT93_9 hb94
            have hT94_8 := There.below hT93 hb94
            go_wp2_with fail
            refine hK.out _ _ hXv94 (fun hHeld => ?_)
            clear hK K
            try simp only [Act.put, List.setIfInBounds_toArray, List.set_cons_zero, List.set_cons_succ]
            refine wpAnyH_ready (rs := [7]) (by kernel_rfl) (by simp) ?_
            refine (AllReadyH.cons rfl (fun K hK => ?_) AllReadyH.nil)
            rw [if_pos (by rfl)]
            go_simp
            refine Calls.mono (sT2 _) ?_
            rintro e wv95 ⟨rfl, hb95⟩
            have hXv95 : Below w1.heap.size w1 wv95 := bl_then hXv94 hb95
            have hT95_9 := There.below hT94_9 hb95
            have hT95_8 := There.below hT94_8 hb95
            go_wp2_with fail
            refine hK.out _ _ hXv95 (fun hHeld => ?_)
            clear hK K
            try simp only [Act.put, List.setIfInBounds_toArray, List.set_cons_zero, List.set_cons_succ]
            refine wpAnyH_ready (rs := [10]) (by kernel_rfl) (by simp) ?_
            refine (AllReadyH.cons rfl (fun K hK => ?_) AllReadyH.nil)
            rw [if_pos (by rfl)]
            have t0 := hT95_8.cell 0 (by omega)
            have f0 := (hT95_8 0 (by omega)).2
            have t1 := hT95_8.cell 1 (by omega)
            have f1 := (hT95_8 1 (by omega)).2
            have t2 := hT95_8.cell 2 (by omega)
            have f2 := (hT95_8 2 (by omega)).2
            go_simp
            have hXs : Below w1.heap.size w1 (((wv95.setCell ⟨wv87.heap.size, 0, none⟩ (.int .i64 z)).setCell ⟨wv87.heap.size, 1, none⟩ (.int .i64 lx)).setCell ⟨wv87.heap.size, 2, none⟩ (.int .i64 ly)) := ((hXv95.setCell hs93 _).setCell hs93 _).setCell hs93 _
            have hRs := RefA.put (z := z) (x := lx) (y := ly) hT95_8
            have hTs := ((hT95_9.putV (r' := wv87.heap.size) (o := 0) (v := .int .i64 z)).putV (r' := wv87.heap.size) (o := 1) (v := .int .i64 lx)).putV (r' := wv87.heap.size) (o := 2) (v := .int .i64 ly)
            generalize hwS : (((wv95.setCell _ _).setCell _ _).setCell _ _ : World) = wS at *
            refine hK.out _ _ hXs (fun hHeld => ?_)
            clear hK K hwS t0 t1 t2 f0 f1 f2
            try simp only [Act.put, List.setIfInBounds_toArray, List.set_cons_zero, List.set_cons_succ]
            refine wpAnyH_ready (rs := [11]) (by kernel_rfl) (by simp) ?_
            refine (AllReadyH.cons rfl (fun K hK => ?_) AllReadyH.nil)
            rw [if_pos (by rfl)]
            have t0 := hTs.cell 0 (by omega)
            have f0 := (hTs 0 (by omega)).2
            have t1 := hTs.cell 1 (by omega)
            have f1 := (hTs 1 (by omega)).2
            have t2 := hTs.cell 2 (by omega)
            have f2 := (hTs 2 (by omega)).2
            go_simp
            have hXu : Below w1.heap.size w1 (((wS.setCell ⟨w1.heap.size, 0, none⟩ (.int .i64 z)).setCell ⟨w1.heap.size, 1, none⟩ (.int .i64 hx)).setCell ⟨w1.heap.size, 2, none⟩ (.int .i64 hy)) := ((hXs.setCell hs85 _).setCell hs85 _).setCell hs85 _
            have hRu := RefA.put (z := z) (x := hx) (y := hy) hTs
            have hRv := ((hRs.apart (r := w1.heap.size) (o := 0) (v := .int .i64 z) (by omega)).apart (r := w1.heap.size) (o := 1) (v := .int .i64 hx) (by omega)).apart (r := w1.heap.size) (o := 2) (v := .int .i64 hy) (by omega)
            generalize hwU : (((wS.setCell _ _).setCell _ _).setCell _ _ : World) = wU at *
            refine hK.out _ _ hXu (fun hHeld => ?_)
            clear hK K hwU t0 t1 t2 f0 f1 f2
            try simp only [Act.put, List.setIfInBounds_toArray, List.set_cons_zero, List.set_cons_succ]
            refine wpAnyH_done (by kernel_rfl) ?_ _
            refine NoPanic.normal ?_
            go_wp2_with fail
            go_meet
            case rel => exact ⟨_, _, rfl, rfl, hRv, hRu, hXu⟩
        · rw [if_pos (by rfl)]
          go_simp
          generalize hwA : (World.alloc _ _ : World) = wv96
          have hb96 : Below wv86.heap.size wv86 wv96 := by subst hwA; (repeat (first | exact Below.refl _ _ | assumption | refine Below.drew ?_ | refine bl_alloc ?_ _ | refine bl_then ?_ (by assumption) | refine Below.setCell ?_ (by first | omega | (simp; done) | (simp; omega)) _ | refine bl_store ?_ ?_ _ _))
          have hT96 : There wv96 wv86.heap.size 3 := by subst hwA; exact there3r wv86 _ _ _ _
          clear hwA
          have hXv96 : Below w1.heap.size w1 wv96 := bl_then hXv86 hb96
          have hs96 : w1.heap.size ≤ wv86.heap.size := Below.size hXv86
          have hu96 := hT86_9.lt3
          have hT96_9 := There.below hT86_9 hb96
          refine hK.out _ _ hXv96 (fun hHeld => ?_)
          clear hK K
          try simp only [Act.put, List.setIfInBounds_toArray, List.set_cons_zero, List.set_cons_succ]
          refine wpAnyH_ready (rs := [3]) (by kernel_rfl) (by simp) ?_
          refine (AllReadyH.cons rfl (fun K hK => ?_) AllReadyH.nil)
          rw [if_pos (by rfl)]
          go_simp
          refine Calls.mono (sT1 _) ?_
          rintro e wv97 ⟨rfl, hb97⟩
          have hXv97 : Below w1.heap.size w1 wv97 := bl_then hXv96 hb97
          have hT97_9 := There.below hT96_9 hb97
          have hT97_8 := There.below hT96 hb97
          go_wp2_with fail
          refine hK.out _ _ hXv97 (fun hHeld => ?_)
          clear hK K
          try simp only [Act.put, List.setIfInBounds_toArray, List.set_cons_zero, List.set_cons_succ]
          refine wpAnyH_ready (rs := [6]) (by kernel_rfl) (by simp) ?_
          refine (AllReadyH.cons rfl (fun K hK => ?_) AllReadyH.nil)
          rw [if_pos (by rfl)]
          go_simp
          refine Calls.mono (sL _) ?_
          rintro e wv98 ⟨rfl, hb98⟩
          have hXv98 : Below w1.heap.size w1 wv98 := bl_then hXv97 hb98
          have hT98_9 := There.below hT97_9 hb98
          have hT98_8 := There.below hT97_8 hb98
          go_wp2_with fail
          refine hK.out _ _ hXv98 (fun hHeld => ?_)
          clear hK K
          try simp only [Act.put, List.setIfInBounds_toArray, List.set_cons_zero, List.set_cons_succ]
          refine wpAnyH_ready (rs := [7]) (by kernel_rfl) (by simp) ?_
          refine (AllReadyH.cons rfl (fun K hK => ?_) AllReadyH.nil)
          rw [if_pos (by rfl)]
          go_simp
          refine Calls.mono (sT2 _) ?_
          rintro e wv99 ⟨rfl, hb99⟩
          have hXv99 : Below w1.heap.size w1 wv99 := bl_then hXv98 hb99
          have hT99_9 := There.below hT98_9 hb99
          have hT99_8 := There.below hT98_8 hb99
          go_wp2_with fail
          refine hK.out _ _ hXv99 (fun hHeld => ?_)
          clear hK K
          try simp only [Act.put, List.setIfInBounds_toArray, List.set_cons_zero, List.set_cons_succ]
          refine wpAnyH_ready (rs := [10]) (by kernel_rfl) (by simp) ?_
          refine (AllReadyH.cons rfl (fun K hK => ?_) AllReadyH.nil)
          rw [if_pos (by rfl)]
          have t0 := hT99_8.cell 0 (by omega)
          have f0 := (hT99_8 0 (by omega)).2
          have t1 := hT99_8.cell 1 (by omega)
          have f1 := (hT99_8 1 (by omega)).2
          have t2 := hT99_8.cell 2 (by omega)
          have f2 := (hT99_8 2 (by omega)).2
          go_simp
          have hXs : Below w1.heap.size w1 (((wv99.setCell ⟨wv86.heap.size, 0, none⟩ (.int .i64 z)).setCell ⟨wv86.heap.size, 1, none⟩ (.int .i64 lx)).setCell ⟨wv86.heap.size, 2, none⟩ (.int .i64 ly)) := ((hXv99.setCell hs96 _).setCell hs96 _).setCell hs96 _
          have hRs := RefA.put (z := z) (x := lx) (y := ly) hT99_8
          have hTs := ((hT99_9.putV (r' := wv86.heap.size) (o := 0) (v := .int .i64 z)).putV (r' := wv86.heap.size) (o := 1) (v := .int .i64 lx)).putV (r' := wv86.heap.size) (o := 2) (v := .int .i64 ly)
          generalize hwS : (((wv99.setCell _ _).setCell _ _).setCell _ _ : World) = wS at *
          refine hK.out _ _ hXs (fun hHeld => ?_)
          clear hK K hwS t0 t1 t2 f0 f1 f2
          try simp only [Act.put, List.setIfInBounds_toArray, List.set_cons_zero, List.set_cons_succ]
          refine wpAnyH_ready (rs := [11]) (by kernel_rfl) (by simp) ?_
          refine (AllReadyH.cons rfl (fun K hK => ?_) AllReadyH.nil)
          rw [if_pos (by rfl)]
          have t0 := hTs.cell 0 (by omega)
          have f0 := (hTs 0 (by omega)).2
          have t1 := hTs.cell 1 (by omega)
          have f1 := (hTs 1 (by omega)).2
          have t2 := hTs.cell 2 (by omega)
          have f2 := (hTs 2 (by omega)).2
          go_simp
          have hXu : Below w1.heap.size w1 (((wS.setCell ⟨w1.heap.size, 0, none⟩ (.int .i64 z)).setCell ⟨w1.heap.size, 1, none⟩ (.int .i64 hx)).setCell ⟨w1.heap.size, 2, none⟩ (.int .i64 hy)) := ((hXs.setCell hs85 _).setCell hs85 _).setCell hs85 _
          have hRu := RefA.put (z := z) (x := hx) (y := hy) hTs
          have hRv := ((hRs.apart (r := w1.heap.size) (o := 0) (v := .int .i64 z) (by omega)).apart (r := w1.heap.size) (o := 1) (v := .int .i64 hx) (by omega)).apart (r := w1.heap.size) (o := 2) (v := .int .i64 hy) (by omega)
          generalize hwU : (((wS.setCell _ _).setCell _ _).setCell _ _ : World) = wU at *
          refine hK.out _ _ hXu (fun hHeld => ?_)
          clear hK K hwU t0 t1 t2 f0 f1 f2
          try simp only [Act.put, List.setIfInBounds_toArray, List.set_cons_zero, List.set_cons_succ]
          refine wpAnyH_done (by kernel_rfl) ?_ _
          refine NoPanic.normal ?_
          go_wp2_with fail
          go_meet
          case rel => exact ⟨_, _, rfl, rfl, hRv, hRu, hXu⟩
      · rw [if_pos (by rfl)]
        go_simp
        generalize hwA : (World.alloc _ _ : World) = wv100
        have hb100 : Below wv85.heap.size wv85 wv100.drew := by subst hwA; (repeat (first | exact Below.refl _ _ | assumption | refine Below.drew ?_ | refine bl_alloc ?_ _ | refine bl_then ?_ (by assumption) | refine Below.setCell ?_ (by first | omega | (simp; done) | (simp; omega)) _ | refine bl_store ?_ ?_ _ _))
        have hT100 : There wv100.drew wv85.heap.size 3 := by subst hwA; exact there3r wv85 _ _ _ _
        clear hwA
        have hXv100 : Below w1.heap.size w1 wv100.drew := bl_then (undrew hXv85) hb100
        have hs100 : w1.heap.size ≤ wv85.heap.size := Below.size (undrew hXv85)
        have hu100 := (undrewT hT85).lt3
        have hT100_9 := There.below (undrewT hT85) hb100
        refine hK.out _ _ hXv100 (fun hHeld => ?_)
        clear hK K
        try simp only [Act.put, List.setIfInBounds_toArray, List.set_cons_zero, List.set_cons_succ]
        refine wpAnyH_ready (rs := [2]) (by kernel_rfl) (by simp) ?_
        refine (AllReadyH.cons rfl (fun K hK => ?_) AllReadyH.nil)
        rw [if_pos (by rfl)]
        go_simp
        refine Calls.mono (sF _) ?_
        rintro e wv101 ⟨rfl, hb101⟩
        have hXv101 : Below w1.heap.size w1 wv101 := bl_then hXv100 hb101
        have hT101_9 := There.below hT100_9 hb101
        have hT101_8 := There.below hT100 hb101
        go_wp2_with fail
        refine hK.out _ _ hXv101 (fun hHeld => ?_)
        clear hK K
        try simp only [Act.put, List.setIfInBounds_toArray, List.set_cons_zero, List.set_cons_succ]
        refine wpAnyH_ready (rs := [3]) (by kernel_rfl) (by simp) ?_
        refine (AllReadyH.cons rfl (fun K hK => ?_) AllReadyH.nil)
        rw [if_pos (by rfl)]
        go_simp
        refine Calls.mono (sT1 _) ?_
        rintro e wv102 ⟨rfl, hb102⟩
        have hXv102 : Below w1.heap.size w1 wv102 := bl_then hXv101 hb102
        have hT102_9 := There.below hT101_9 hb102
        have hT102_8 := There.below hT101_8 hb102
        go_wp2_with fail
        refine hK.out _ _ hXv102 (fun hHeld => ?_)
        clear hK K
        try simp only [Act.put, List.setIfInBounds_toArray, List.set_cons_zero, List.set_cons_succ]
        refine wpAnyH_ready (rs := [6]) (by kernel_rfl) (by simp) ?_
        refine (AllReadyH.cons rfl (fun K hK => ?_) AllReadyH.nil)
        rw [if_pos (by rfl)]
        go_simp
        refine Calls.mono (sL _) ?_
        rintro e wv103 ⟨rfl, hb103⟩
        have hXv103 : Below w1.heap.size w1 wv103 := bl_then hXv102 hb103
        have hT103_9 := There.below hT102_9 hb103
        have hT103_8 := There.below hT102_8 hb103
        go_wp2_with fail
        refine hK.out _ _ hXv103 (fun hHeld => ?_)
        clear hK K
        try simp only [Act.put, List.setIfInBounds_toArray, List.set_cons_zero, List.set_cons_succ]
        refine wpAnyH_ready (rs := [7]) (by kernel_rfl) (by simp) ?_
        refine (AllReadyH.cons rfl (fun K hK => ?_) AllReadyH.nil)
        rw [if_pos (by rfl)]
        go_simp
        refine Calls.mono (sT2 _) ?_
        rintro e wv104 ⟨rfl, hb104⟩
        have hXv104 : Below w1.heap.size w1 wv104 := bl_then hXv103 hb104
        have hT104_9 := There.below hT103_9 hb104
        have hT104_8 := There.below hT103_8 hb104
        go_wp2_with fail
        refine hK.out _ _ hXv104 (fun hHeld => ?_)
        clear hK K
        try simp only [Act.put, List.setIfInBounds_toArray, List.set_cons_zero, List.set_cons_succ]
        refine wpAnyH_ready (rs := [10]) (by kernel_rfl) (by simp) ?_
        refine (AllReadyH.cons rfl (fun K hK => ?_) AllReadyH.nil)
        rw [if_pos (by rfl)]
        have t0 := hT104_8.cell 0 (by omega)
        have f0 := (hT104_8 0 (by omega)).2
        have t1 := hT104_8.cell 1 (by omega)
        have f1 := (hT104_8 1 (by omega)).2
        have t2 := hT104_8.cell 2 (by omega)
        have f2 := (hT104_8 2 (by omega)).2
        go_simp
        have hXs : Below w1.heap.size w1 (((wv104.setCell ⟨wv85.heap.size, 0, none⟩ (.int .i64 z)).setCell ⟨wv85.heap.size, 1, none⟩ (.int .i64 lx)).setCell ⟨wv85.heap.size, 2, none⟩ (.int .i64 ly)) := ((hXv104.setCell hs100 _).setCell hs100 _).setCell hs100 _
        have hRs := RefA.put (z := z) (x := lx) (y := ly) hT104_8
        have hTs := ((hT104_9.putV (r' := wv85.heap.size) (o := 0) (v := .int .i64 z)).putV (r' := wv85.heap.size) (o := 1) (v := .int .i64 lx)).putV (r' := wv85.heap.size) (o := 2) (v := .int .i64 ly)
        generalize hwS : (((wv104.setCell _ _).setCell _ _).setCell _ _ : World) = wS at *
        refine hK.out _ _ hXs (fun hHeld => ?_)
        clear hK K hwS t0 t1 t2 f0 f1 f2
        try simp only [Act.put, List.setIfInBounds_toArray, List.set_cons_zero, List.set_cons_succ]
        refine wpAnyH_ready (rs := [11]) (by kernel_rfl) (by simp) ?_
        refine (AllReadyH.cons rfl (fun K hK => ?_) AllReadyH.nil)
        rw [if_pos (by rfl)]
        have t0 := hTs.cell 0 (by omega)
        have f0 := (hTs 0 (by omega)).2
        have t1 := hTs.cell 1 (by omega)
        have f1 := (hTs 1 (by omega)).2
        have t2 := hTs.cell 2 (by omega)
        have f2 := (hTs 2 (by omega)).2
        go_simp
        have hXu : Below w1.heap.size w1 (((wS.setCell ⟨w1.heap.size, 0, none⟩ (.int .i64 z)).setCell ⟨w1.heap.size, 1, none⟩ (.int .i64 hx)).setCell ⟨w1.heap.size, 2, none⟩ (.int .i64 hy)) := ((hXs.setCell hs85 _).setCell hs85 _).setCell hs85 _
        have hRu := RefA.put (z := z) (x := hx) (y := hy) hTs
        have hRv := ((hRs.apart (r := w1.heap.size) (o := 0) (v := .int .i64 z) (by omega)).apart (r := w1.heap.size) (o := 1) (v := .int .i64 hx) (by omega)).apart (r := w1.heap.size) (o := 2) (v := .int .i64 hy) (by omega)
        generalize hwU : (((wS.setCell _ _).setCell _ _).setCell _ _ : World) = wU at *
        refine hK.out _ _ hXu (fun hHeld => ?_)
        clear hK K hwU t0 t1 t2 f0 f1 f2
        try simp only [Act.put, List.setIfInBounds_toArray, List.set_cons_zero, List.set_cons_succ]
        refine wpAnyH_done (by kernel_rfl) ?_ _
        refine NoPanic.normal ?_
        go_wp2_with fail
        go_meet
        case rel => exact ⟨_, _, rfl, rfl, hRv, hRu, hXu⟩
  case rest =>
    obtain ⟨b4, b5, rfl, rfl, hR4, hR5, hBc⟩ := hcut
    generalize wc = wA at *
    have hz := c0 wA hBc
    have HBA : Hid (Below w.heap.size w wA) := bl_then HB1.out hBc
    have HTA : Hid (There wA (w.heap.size + 1) 2) := HT1.out.below hBc
    have HR4 : Hid (RefA wA b4 z lx ly) := hR4
    have HR5 : Hid (RefA wA b5 z hx hy) := hR5
    have Hz : Hid (wA.cell? ⟨w.heap.size, 0, none⟩ = some (.int .i64 z)) := hz
    obtain ⟨p0, p1, p2⟩ := hR4
    obtain ⟨q0, q1, q2⟩ := hR5
    clear hBc c0 c1 c2 c3 c4 HB1 HT1 sF sL sT1 sT2
    have bx : 0 ≤ lx ∧ lx ≤ 8 := ⟨bl.1, bl.2.1⟩
    have by' : 0 ≤ ly ∧ ly ≤ 8 := bl.2.2
    clear bl
    go_wp2_with fail
    go_loopw [6, 7] (fun v j wr => ∃ r : Nat, r ≤ NY ∧ j = .int .i64 (ly + (r : Int)) ∧ RowT wA.heap.size wr v (r * NX) R ∧ Below wA.heap.size wA wr) (fun _ j _ => (ly + (NY : Int) - intOf j).toNat)
    case atStart => exact ⟨0, by omega, by simp, by rw [Nat.zero_mul]; exact RowT.no _ _ _, Below.refl _ _⟩
    case round =>
      obtain ⟨r, hr, rfl, hO, hB⟩ := hrel
      have HO0 : Hid (RowT wA.heap.size wr u6 (r * NX) R) := hO
      have HB0 : Hid (Below wA.heap.size wA wr) := hB
      obtain ⟨p0, p1, p2⟩ := HR4.out.below hB
      obtain ⟨q0, q1, q2⟩ := HR5.out.below hB
      clear hO hB
      by_cases hlt : r < NY
      · have hle : ly + (r : Int) ≤ hy := by have := HY.out; omega
        go_wp2_with fail
        go_loopw [6, 8] (fun v j wr => ∃ m : Nat, m ≤ NX ∧ j = .int .i64 (lx + (m : Int)) ∧ RowT wA.heap.size wr v (r * NX + m) R ∧ Below wA.heap.size wA wr) (fun _ j _ => (lx + (NX : Int) - intOf j).toNat)
        case atStart => exact ⟨0, by omega, by simp, HO0.out, HB0.out⟩
        case round =>
          obtain ⟨m, hm, rfl, hO, hB⟩ := hrel
          have HO : Hid (RowT wA.heap.size wr u6 (r * NX + m) R) := hO
          have HB : Hid (Below wA.heap.size wA wr) := hB
          obtain ⟨p0, p1, p2⟩ := HR4.out.below hB
          obtain ⟨q0, q1, q2⟩ := HR5.out.below hB
          have hzr : wr.cell? ⟨w.heap.size, 0, none⟩ = some (.int .i64 z) := bl_cellR hB Hz.out
          have hszr : wA.heap.size ≤ wr.heap.size := hB.size
          have hlz := World.block_lt_of_cell? _ _ hzr
          clear hO hB HO0 HB0
          by_cases hlm : m < NX
          · have hlx : lx + (m : Int) ≤ hx := by have := HX.out; omega
            have hK : r * NX + m < 10 := by
              have : r * NX ≤ 1 * 2 := Nat.mul_le_mul (by omega) nX.2
              omega
            have HS : Hid (cellsR R (r * NX + m + 1) = cellsR R (r * NX + m) ++ [.int .i64 z, .int .i64 (lx + (m : Int)), .int .i64 (ly + (r : Int))]) := by
              show _ = _
              rw [cellsR_add, HR.out]
              have e1 : (r * NX + m) % NX = m := by rw [Nat.mul_comm, Nat.mul_add_mod]; exact Nat.mod_eq_of_lt hlm
              have e2 : (r * NX + m) / NX = r := by rw [Nat.mul_comm, Nat.mul_add_div (by omega), Nat.div_eq_of_lt hlm]; rfl
              simp only [e1, e2]
            have HKK : Hid (r * NX + m + 1 = r * NX + (m + 1)) := rfl
            generalize hKd : r * NX + m = KK at *
            clear hKd
            go_wp2_with (first
              | (at_builtin; go_must (refine wpList_append_own _ rfl _ _ 31 rfl wA.heap.size 87 i0 (.agg #[.int .i64 0, .int .i64 0, .int .i64 0]) 3 24 Tryz.underlying31 hi hz0 hz1 hz2 rfl (by decide) _ KK (cellsR R KK) rfl (World.ownsRow.alloc HO.out _) ⟨wr.heap.size, 0, none⟩ 1 1 [.int .i64 z, .int .i64 (lx + (m : Int)), .int .i64 (ly + (r : Int))] rfl rfl ?c1 ?c2 ?c3 ?c4 ?c5 ?_)))
            try
              case c1 =>
                intro q u hq
                match q, hq with
                | 0, hq => simp at hq; subst hq; simp [Addr.add, go_sem]
                | 1, hq => simp at hq; subst hq; simp [Addr.add, go_sem]
                | 2, hq => simp at hq; subst hq; simp [Addr.add, go_sem]
                | q + 3, hq => simp at hq
            case c2 => first | exact ⟨rfl, rfl, rfl⟩ | (intro u hu; simp at hu; rcases hu with rfl | rfl | rfl <;> rfl)
            case c3 => unfold maxLen; omega
            case c4 => omega
            case c5 => first | omega | (simp; omega)
            intro v' w3 hown' hgrow hnil
            clear hnil
            generalize hV : (wr.alloc _ : World) = V at hgrow
            have hBV : Below wr.heap.size wr V := by subst hV; (repeat (first | exact Below.refl _ _ | assumption | refine Below.drew ?_ | refine bl_alloc ?_ _ | refine bl_then ?_ (by assumption) | refine Below.setCell ?_ (by first | omega | (simp; done) | (simp; omega)) _ | refine bl_store ?_ ?_ _ _))
            have hBg : Below wA.heap.size V w3 := (Below.refl _ _).grown hgrow (by have := hBV.size; omega) (fun k hk => (HO.out.lt k hk).1)
            have HB3 : Hid (Below wA.heap.size wA w3) := (HB.out.trans (hBV.mono hszr)).trans hBg
            have HO3 : Hid (RowT wA.heap.size w3 v' (KK + 1) R) := by
              show World.ownsRow _ _ _ _ _ _ _
              rw [HS.out]
              exact hown'
            clear hown' hgrow hBg hBV hV
            go_wp2
            go_roundw
            case rel => exact ⟨m + 1, by omega, by go_num, by rw [← HKK.out]; exact HO3.out, HB3.out⟩
            case measure => simp [intOf]; omega
          · have hme : m = NX := by omega
            have hgt : ¬ lx + (m : Int) ≤ hx := by have := HX.out; omega
            have HO' : Hid (RowT wA.heap.size wr u6 ((r + 1) * NX) R) := by
              show RowT _ _ _ _ _
              rw [Nat.succ_mul, ← hme]
              have := HO.out
              rw [← hme] at this
              exact this
            clear HO
            go_wp2
            go_roundw
            case rel => exact ⟨r + 1, by omega, by go_num, HO'.out, HB.out⟩
            case measure => simp [intOf]; omega
      · obtain rfl : NY = r := by omega
        have hgt : ¬ ly + (NY : Int) ≤ hy := by have := HY.out; omega
        have hT := HTA.out.below HB0.out
        have HTr : Hid (There wr (w.heap.size + 1) 2) := hT
        have hlT := World.block_lt_of_cell? _ _ (HTA.out.cell 0 (by omega))
        have t0 := hT.cell 0 (by omega)
        have t1 := hT.cell 1 (by omega)
        have f0 := (hT 0 (by omega)).2
        have f1 := (hT 1 (by omega)).2
        clear hT
        obtain ⟨a0, cap0, hv, hc0, hcase⟩ := HO0.out.own
        subst hv
        have HOw : Hid (OwnT wr wA.heap.size (.slice a0 (NY * NX) cap0) (NY * NX) R) := HO0.out.own
        clear hcase HO0
        go_wp2_with fail
        obtain ⟨q0, q1⟩ := set2_at (W := wr) (r := w.heap.size + 1) (i := 0) (j := 1) (u := .int .i64 0) (v := .slice a0 (NY * NX) cap0) (by omega) (by rw [t0]; rfl) (by rw [t1]; rfl)
        refine bodyPost_ret (v := .agg #[.int .i64 0, .slice a0 (NY * NX) cap0]) (by simp [results, Tryz.results61, go_sem, q0, q1]) rfl ⟨_, rfl, ?_, ?_⟩
        · exact (HOw.out.set (B := wA.heap.size) hlT (Nat.le_refl _)).set (B := w.heap.size) hlT HBA.out.size
        · exact ((bl_then HBA.out HB0.out).setCell (Nat.le_succ _) _).setCell (Nat.le_succ _) _
theorem impl_VisibleRefs_no {z x y wd ht : Int} (w : World) (hr : camB z x y wd ht = false) :
    Calls Tryz.prog 61 #[camV z x y wd ht] w fun e w' => e = .returned (.agg #[.int .i64 3, .slice none 0 0]) ∧ Below w.heap.size w w' := by
  have sC := fun w => camFault_any z x y wd ht w
  have hc : camC z x y wd ht = 3 := by unfold camC; rw [hr]; rfl
  rw [hc] at sC
  clear hc hr
  go_enter Tryz.func61, Tryz.ntmps61
  go_wp2_with fail
  generalize hW : ((w.alloc _).alloc _ : World) = W
  have HB0 : Hid (Below w.heap.size w W) := by show Below _ _ _; subst hW; (repeat (first | exact Below.refl _ _ | assumption | refine Below.drew ?_ | refine bl_alloc ?_ _ | refine bl_then ?_ (by assumption) | refine Below.setCell ?_ (by first | omega | (simp; done) | (simp; omega)) _ | refine bl_store ?_ ?_ _ _))
  have HT : Hid (There W (w.heap.size + 1) 2) := by
    show There _ _ _
    subst hW
    have := there2r (w.alloc (.cells #[.int .i64 z, .int .i64 x, .int .i64 y, .int .i64 wd, .int .i64 ht] 35)) (.int .i64 0) (.slice none 0 0) 33
    simpa using this
  clear hW
  refine (sC _).mono ?_
  rintro e w1 ⟨rfl, hb1⟩
  have HB1 : Hid (Below w.heap.size w w1) := bl_then HB0.out hb1
  have hT1 := HT.out.below hb1
  have t0 := hT1.cell 0 (by omega)
  have t1 := hT1.cell 1 (by omega)
  have f0 := (hT1 0 (by omega)).2
  have f1 := (hT1 1 (by omega)).2
  clear hb1 HB0 HT hT1
  go_wp2_with fail
  obtain ⟨q0, q1⟩ := set2_at (W := w1) (r := w.heap.size + 1) (i := 0) (j := 1) (u := .int .i64 3) (v := .slice none 0 0) (by omega) (by rw [t0]; rfl) (by rw [t1]; rfl)
  refine bodyPost_ret (v := .agg #[.int .i64 3, .slice none 0 0]) (by simp [results, Tryz.results61, go_sem, q0, q1]) rfl ⟨rfl, ?_⟩
  exact (HB1.out.setCell (Nat.le_succ _) _).setCell (Nat.le_succ _) _
theorem impl_VisibleRefs_any (z x y wd ht : Int) (w : World) : Calls Tryz.prog 61 #[camV z x y wd ht] w fun e w' => ∃ v, e = .returned (.agg #[.int .i64 (camC z x y wd ht), v]) ∧ OwnT w' w.heap.size v (visM z x y wd ht) (visR z x y wd) ∧ Below w.heap.size w w' := by
  cases hr : camB z x y wd ht
  · have e1 : camC z x y wd ht = 3 := by unfold camC; rw [hr]; rfl
    have e2 : visM z x y wd ht = 0 := by unfold visM; rw [hr]; rfl
    rw [e1, e2]
    exact (impl_VisibleRefs_no w hr).mono fun e w' ⟨h1, h2⟩ => ⟨_, h1, ⟨none, 0, rfl, Nat.le_refl _, .inl rfl⟩, h2⟩
  · have e1 : camC z x y wd ht = 0 := by unfold camC; rw [if_pos hr]
    have e2 : visM z x y wd ht = visN y ht * visN x wd := by unfold visM; rw [if_pos hr]
    have hin := camB_in hr
    have nx := visN_bd (x := x) hin.1.1
    have ny := visN_bd (x := y) hin.1.2
    rw [e1, e2]
    exact impl_VisibleRefs_ok w hr rfl rfl rfl rfl rfl rfl ⟨⟨nx.1, nx.2.1⟩, by omega⟩ ⟨⟨ny.1, ny.2.1⟩, by omega⟩ rfl
end Go.Proofs.YtbdhhclamgmfkaaGreat
