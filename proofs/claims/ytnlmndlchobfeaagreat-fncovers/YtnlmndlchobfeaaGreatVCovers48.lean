/- FnCovers: the law out of what is called. -/
import Derived.Test.YtnlmndlchobfeaaGreatVCovers16
import Derived.Test.YtnlmndlchobfeaaGreatVCovers41
import Derived.Test.YtnlmndlchobfeaaGreatVCovers46
import Derived.Test.YtnlmndlchobfeaaGreatVCovers47
namespace Go.Proofs.YtnlmndlchobfeaaGreat
open Go.RowKit
set_option linter.unusedSimpArgs false
set_option linter.unusedVariables false
set_option maxRecDepth 100000

set_option maxHeartbeats 1000000 in
theorem FnCovers_big (a : Option Addr) (n cap : Nat) (w : World) (h : 1048576 < n) : Calls Tryz.prog 3 #[.slice a n cap] w fun e w' => e = .returned (.bool true) ∧ Below w.heap.size w w' := by
  have hb : decide (1048576 < (n : Int)) = true := by simp; omega
  go_enter Tryz.func3, Tryz.ntmps3
  go_wp2_with (go_at_call 4; refine (lwBig_any _ _ _ _).mono ?_; rintro e w' ⟨rfl, rfl⟩)
  go_ret
  exact ⟨rfl, by (repeat (first | exact Below.refl _ _ | assumption | refine Below.drew ?_ | refine bl_alloc ?_ _ | refine bl_then ?_ (by assumption) | refine Below.setCell ?_ (by first | omega | (simp; done) | (simp; omega)) _ | refine bl_store ?_ ?_ _ _))⟩
/-- What is known of the answers where there is no code. -/
structure CovOk (wi z x y : Int) (cv : Bool) (r1 r2 r3 r4 k1 k2 : Int) : Prop where
  zoom : zoomB z = true
  wid : 0 ≤ wi ∧ wi ≤ 3
  meet : cv = true → meetB k1 k2 k1 k2 r1 r2 r3 r4 = true

set_option maxHeartbeats 16000000 in
theorem FnCovers_walk (a : Option Addr) (n cap : Nat) (Z : Nat → Int) (w : World) (h : IsBytes w a n Z ∧ (∀ i, 0 ≤ Z i ∧ Z i ≤ 255) ∧ n ≤ cap) :
    Calls Tryz.prog 3 #[.slice a n cap] w fun e w' => e = .returned (.bool true) ∧ Below w.heap.size w w' := by
  obtain ⟨hI, hR, hcap⟩ := h
  by_cases hbig : 1048576 < n
  · exact FnCovers_big a n cap w hbig
  have hn1 : n ≤ 1048576 := by omega
  have HI : Hid (IsBytes w a n Z) := hI
  have HR : Hid (∀ i, 0 ≤ Z i ∧ Z i ≤ 255) := hR
  have hn : decide (1048576 < (n : Int)) = false := by simp; omega
  clear hI hR hbig
  go_enter Tryz.func3, Tryz.ntmps3
  go_wp2_with fail
  refine (lwBig_any _ _ _ _).mono ?_
  rintro e w0 ⟨rfl, hw0⟩
  have hw0' := hw0.symm
  subst hw0'
  clear hw0
  go_wp2_with fail
  refine (DrawDoesCover_any a n cap Z _ HI.out HR.out hn1 hcap).mono ?_
  rintro e w1 ⟨V1, id, la, ki, wi, b, off, m, c, X, Y, lab, pr, z, x, y, rfl, ⟨rfl, hm6, hmc, hbg, hbl, hP1, hlab⟩, hb1⟩
  have HP1 : Hid (PtsAt w1 b off m X Y) := hP1
  have HB1 : Hid (Below w.heap.size w w1) := hb1
  clear hP1 hb1 HI HR hn
  obtain ⟨L, hL⟩ : ∃ L, 3 ≤ (snapL X Y z m).length → Thin (px (snapL X Y z m)) (py (snapL X Y z m)) (gridI z) 0 ((snapL X Y z m).length - 1) L := by
    by_cases h3 : 3 ≤ (snapL X Y z m).length
    · obtain ⟨L, hL⟩ := Thin.exists (px (snapL X Y z m)) (py (snapL X Y z m)) (gridI z) ((snapL X Y z m).length - 1) 0 ((snapL X Y z m).length - 1) (by omega) (by omega)
      exact ⟨L, fun _ => hL⟩
    · exact ⟨[], fun h => absurd h h3⟩
  obtain ⟨C, hC⟩ : ∃ C, C = simpC z (featC id la ki wi m X Y lab pr) := ⟨_, rfl⟩
  obtain ⟨k0, k1, k2, hk⟩ : ∃ k0 k1 k2 : Int, centV z x y = .agg #[.int .i64 k0, .int .i64 k1, .int .i64 k2] := by
    unfold centV
    split <;> exact ⟨_, _, _, rfl⟩
  obtain ⟨cv, hcv⟩ : ∃ cv, cv = dcB C ki wi z x y (simpR C ki z m X Y L) := ⟨_, rfl⟩
  obtain ⟨r1, r2, r3, r4, hr⟩ : ∃ r1 r2 r3 r4 : Int, rbV C wi z (dblR (simpR C ki z m X Y L)) = .agg #[.int .i64 C, .int .i64 r1, .int .i64 r2, .int .i64 r3, .int .i64 r4] := ⟨_, _, _, _, rfl⟩
  have Hdc : Hid (∀ W', PtsAt W' b off m X Y → b < W'.heap.size → Calls Tryz.prog 6 #[.agg #[.int .i64 id, .int .i64 la, .int .i64 ki, .int .i64 wi, .slice (some ⟨b, off, none⟩) m c, .string lab, .int .i64 pr], .int .i64 z, .int .i64 x, .int .i64 y] W' fun e w' => e = .returned (.bool cv) ∧ Below W'.heap.size W' w') := fun W' h1 h2 => by
    rw [hcv]; exact impl_DoesCover_any id la ki wi z x y b m c X Y lab pr L W' h1 h2 (by omega) hmc (by omega) hL C hC
  have Hds : Hid (∀ W', PtsAt W' b off m X Y → b < W'.heap.size → Calls Tryz.prog 7 #[.agg #[.int .i64 id, .int .i64 la, .int .i64 ki, .int .i64 wi, .slice (some ⟨b, off, none⟩) m c, .string lab, .int .i64 pr], .int .i64 z, .int .i64 x, .int .i64 y] W' fun e w' => e = .returned (.bool cv) ∧ Below W'.heap.size W' w') := fun W' h1 h2 => by
    rw [hcv]; exact spec_DoesCover_any id la ki wi z x y b m c X Y lab pr L W' h1 h2 (by omega) (by omega) hL C hC
  have Hrb : Hid (∀ W', PtsAt W' b off m X Y → b < W'.heap.size → Calls Tryz.prog 8 #[.agg #[.int .i64 id, .int .i64 la, .int .i64 ki, .int .i64 wi, .slice (some ⟨b, off, none⟩) m c, .string lab, .int .i64 pr], .int .i64 z] W' fun e w' => e = .returned (.agg #[.int .i64 C, .int .i64 r1, .int .i64 r2, .int .i64 r3, .int .i64 r4]) ∧ Below W'.heap.size W' w') := fun W' h1 h2 => by
    rw [← hr]; exact impl_ReachBox_any id la ki wi z b m c X Y lab pr L W' h1 h2 (by omega) hmc (by omega) hL C hC
  have Hrs : Hid (∀ W', PtsAt W' b off m X Y → b < W'.heap.size → Calls Tryz.prog 10 #[.agg #[.int .i64 id, .int .i64 la, .int .i64 ki, .int .i64 wi, .slice (some ⟨b, off, none⟩) m c, .string lab, .int .i64 pr], .int .i64 z] W' fun e w' => e = .returned (.agg #[.int .i64 C, .int .i64 r1, .int .i64 r2, .int .i64 r3, .int .i64 r4]) ∧ Below W'.heap.size W' w') := fun W' h1 h2 => by
    rw [← hr]; exact spec_ReachBox_any id la ki wi z b m c X Y lab pr L W' h1 h2 (by omega) (by omega) hL C hC
  have Hce : Hid (∀ W', Calls Tryz.prog 9 #[.int .i64 z, .int .i64 x, .int .i64 y] W' fun e w' => e = .returned (.agg #[.int .i64 k0, .int .i64 k1, .int .i64 k2]) ∧ Below W'.heap.size W' w') := fun W' => by rw [← hk]; exact impl_CentreOf_any z x y W'
  have Hcs : Hid (∀ W', Calls Tryz.prog 11 #[.int .i64 z, .int .i64 x, .int .i64 y] W' fun e w' => e = .returned (.agg #[.int .i64 k0, .int .i64 k1, .int .i64 k2]) ∧ Below W'.heap.size W' w') := fun W' => by rw [← hk]; exact spec_CentreOf_any z x y W'
  have Hro : Hid (C = 0 → ∀ W', PtsAt W' b off m X Y → b < W'.heap.size → Calls Tryz.prog 12 #[.agg #[.int .i64 id, .int .i64 la, .int .i64 ki, .int .i64 wi, .slice (some ⟨b, off, none⟩) m c, .string lab, .int .i64 pr], .int .i64 z] W' fun e w' => e = .returned (.agg #[.int .i64 0, .int .i64 (reachI wi z)]) ∧ Below W'.heap.size W' w') := fun hC0 W' h1 h2 => by
    have := impl_ReachOf_any id la ki wi z _ m c X Y lab pr W' (.inr ⟨b, off, rfl, h2, h1⟩) (by omega) (by omega) C hC
    rw [hC0] at this
    simpa [reachR] using this
  have HN : Hid (C ≠ 0 ∨ k0 ≠ 0 → cv = false) := fun h => by
    rw [hcv]
    rcases h with h | h
    · simp [dcB, h]
    · cases hp : pixB z x y
      · simp [dcB, hp]
      · rw [centV, hp] at hk
        simp at hk
        exact absurd hk.1.symm h
  have HO : Hid (C = 0 → k0 = 0 → CovOk wi z x y cv r1 r2 r3 r4 k1 k2) := fun hC0 hk0 => by
    subst hC0 hk0
    cases hp : pixB z x y
    · rw [centV, hp] at hk
      simp at hk
    · have hz := pixB_zoom hp
      have hfc : featC id la ki wi m X Y lab pr = 0 := by
        have := hC
        unfold simpC at this
        rw [if_pos hz] at this
        exact this.symm
      have hw := (featC_rng hfc).2.2.1
      refine ⟨hz, hw, fun ht => ?_⟩
      rw [centV, hp] at hk
      simp at hk
      obtain ⟨e1, e2⟩ := hk
      rw [ht] at hcv
      have hco : coverB ki wi z (centI z x) (centI z y) (dblR (simpR 0 ki z m X Y L)) = true := by
        have := hcv.symm
        simp [dcB, hp] at this
        exact this
      have hb := cover_box (by have := (reach_bd hw hz).1; omega) hco
      simp [rbV, rb1, rb2, rb3, rb4, zI] at hr
      obtain ⟨a1, a2, a3, a4⟩ := hr
      simp only [meetB, Bool.and_eq_true, decide_eq_true_eq]
      omega
  clear hL hC hk hcv hr
  go_wp2_with fail
  generalize hW : (w1.alloc _ : World) = W
  have hbW : Below w1.heap.size w1 W := by subst hW; (repeat (first | exact Below.refl _ _ | assumption | refine Below.drew ?_ | refine bl_alloc ?_ _ | refine bl_then ?_ (by assumption) | refine Below.setCell ?_ (by first | omega | (simp; done) | (simp; omega)) _ | refine bl_store ?_ ?_ _ _))
  have f0 : ∀ W', Below W.heap.size W W' → W'.cell? ⟨w1.heap.size, 0, none⟩ = some (.int .i64 id) := fun W' h => by
    rw [h.cell (by subst hW; simp)]; subst hW; simp [go_sem]
  have f1 : ∀ W', Below W.heap.size W W' → W'.cell? ⟨w1.heap.size, 1, none⟩ = some (.int .i64 la) := fun W' h => by
    rw [h.cell (by subst hW; simp)]; subst hW; simp [go_sem]
  have f2 : ∀ W', Below W.heap.size W W' → W'.cell? ⟨w1.heap.size, 2, none⟩ = some (.int .i64 ki) := fun W' h => by
    rw [h.cell (by subst hW; simp)]; subst hW; simp [go_sem]
  have f3 : ∀ W', Below W.heap.size W W' → W'.cell? ⟨w1.heap.size, 3, none⟩ = some (.int .i64 wi) := fun W' h => by
    rw [h.cell (by subst hW; simp)]; subst hW; simp [go_sem]
  have f4 : ∀ W', Below W.heap.size W W' → W'.cell? ⟨w1.heap.size, 4, none⟩ = some (.slice (some ⟨b, off, none⟩) m c) := fun W' h => by
    rw [h.cell (by subst hW; simp)]; subst hW; simp [go_sem]
  have f5 : ∀ W', Below W.heap.size W W' → W'.cell? ⟨w1.heap.size, 5, none⟩ = some (.string lab) := fun W' h => by
    rw [h.cell (by subst hW; simp)]; subst hW; simp [go_sem]
  have f6 : ∀ W', Below W.heap.size W W' → W'.cell? ⟨w1.heap.size, 6, none⟩ = some (.int .i64 pr) := fun W' h => by
    rw [h.cell (by subst hW; simp)]; subst hW; simp [go_sem]
  clear hW
  have HBW : Hid (Below w.heap.size w W) := bl_then HB1.out hbW
  have HPW : Hid (PtsAt W b off m X Y) := HP1.out.below hbW hbl
  have hblW : b < W.heap.size := Nat.lt_of_lt_of_le hbl hbW.size
  clear hbW HP1 HB1
  refine (Hdc.out W HPW.out hblW).mono ?_
  rintro e w2 ⟨rfl, hb2⟩
  have hB2 : Below W.heap.size W w2 := hb2
  clear hb2
  go_wp2_with fail
  refine (Hds.out w2 (HPW.out.below hB2 hblW) (Nat.lt_of_lt_of_le hblW hB2.size)).mono ?_
  rintro e w3 ⟨rfl, hb3⟩
  have hB3 : Below W.heap.size W w3 := bl_then hB2 hb3
  clear hb3 hB2 Hdc Hds
  go_wp2_with fail
  refine (Hrb.out w3 (HPW.out.below hB3 hblW) (Nat.lt_of_lt_of_le hblW hB3.size)).mono ?_
  rintro e w4 ⟨rfl, hb4⟩
  have hB4 : Below W.heap.size W w4 := bl_then hB3 hb4
  clear hb4 hB3 Hrb
  go_wp2_with fail
  generalize hV : (w4.alloc _ : World) = V
  have hbV : Below w4.heap.size w4 V := by subst hV; (repeat (first | exact Below.refl _ _ | assumption | refine Below.drew ?_ | refine bl_alloc ?_ _ | refine bl_then ?_ (by assumption) | refine Below.setCell ?_ (by first | omega | (simp; done) | (simp; omega)) _ | refine bl_store ?_ ?_ _ _))
  have b0 : ∀ W', Below V.heap.size V W' → W'.cell? ⟨w4.heap.size, 0, none⟩ = some (.int .i64 C) := fun W' h => by
    rw [h.cell (by subst hV; simp)]; subst hV; simp [go_sem]
  have b1 : ∀ W', Below V.heap.size V W' → W'.cell? ⟨w4.heap.size, 1, none⟩ = some (.int .i64 r1) := fun W' h => by
    rw [h.cell (by subst hV; simp)]; subst hV; simp [go_sem]
  have b2 : ∀ W', Below V.heap.size V W' → W'.cell? ⟨w4.heap.size, 2, none⟩ = some (.int .i64 r2) := fun W' h => by
    rw [h.cell (by subst hV; simp)]; subst hV; simp [go_sem]
  have b3 : ∀ W', Below V.heap.size V W' → W'.cell? ⟨w4.heap.size, 3, none⟩ = some (.int .i64 r3) := fun W' h => by
    rw [h.cell (by subst hV; simp)]; subst hV; simp [go_sem]
  have b4 : ∀ W', Below V.heap.size V W' → W'.cell? ⟨w4.heap.size, 4, none⟩ = some (.int .i64 r4) := fun W' h => by
    rw [h.cell (by subst hV; simp)]; subst hV; simp [go_sem]
  clear hV
  have hBV : Below W.heap.size W V := bl_then hB4 hbV
  have hwV : w4.heap.size < V.heap.size := World.block_lt_of_cell? _ _ (b0 V (Below.refl _ _))
  clear hbV hB4
  refine (Hce.out V).mono ?_
  rintro e w5 ⟨rfl, hb5⟩
  have hl5 : w4.heap.size < w5.heap.size := Nat.lt_of_lt_of_le hwV hb5.size
  have HB5 : Hid (Below V.heap.size V w5) := hb5
  have q0 := b0 w5 hb5
  clear hb5 Hce
  by_cases hC0 : C = 0
  · by_cases hk0 : k0 = 0
    · subst hC0 hk0
      obtain ⟨hz, hw, hmt⟩ := HO.out rfl rfl
      have hBW5 : Below W.heap.size W w5 := bl_then hBV HB5.out
      have g0 := f0 w5 hBW5
      have g1 := f1 w5 hBW5
      have g2 := f2 w5 hBW5
      have g3 := f3 w5 hBW5
      have g4 := f4 w5 hBW5
      have g5 := f5 w5 hBW5
      have g6 := f6 w5 hBW5
      have hl1 : w1.heap.size < w5.heap.size := World.block_lt_of_cell? _ _ g0
      go_wp2_with fail
      generalize hU : (w5.alloc _ : World) = U
      have hbU : Below w5.heap.size w5 U := by subst hU; (repeat (first | exact Below.refl _ _ | assumption | refine Below.drew ?_ | refine bl_alloc ?_ _ | refine bl_then ?_ (by assumption) | refine Below.setCell ?_ (by first | omega | (simp; done) | (simp; omega)) _ | refine bl_store ?_ ?_ _ _))
      have p0 : ∀ W', Below U.heap.size U W' → W'.cell? ⟨w5.heap.size, 0, none⟩ = some (.int .i64 0) := fun W' h => by
        rw [h.cell (by subst hU; simp)]; subst hU; simp [go_sem]
      have p1 : ∀ W', Below U.heap.size U W' → W'.cell? ⟨w5.heap.size, 1, none⟩ = some (.int .i64 k1) := fun W' h => by
        rw [h.cell (by subst hU; simp)]; subst hU; simp [go_sem]
      have p2 : ∀ W', Below U.heap.size U W' → W'.cell? ⟨w5.heap.size, 2, none⟩ = some (.int .i64 k2) := fun W' h => by
        rw [h.cell (by subst hU; simp)]; subst hU; simp [go_sem]
      clear hU g0 g1 g2 g3 g4 g5 g6
      have HBU : Hid (Below V.heap.size V U) := bl_then HB5.out hbU
      have HBWU : Hid (Below W.heap.size W U) := bl_then hBV HBU.out
      clear hbU
      refine (Hro.out (by trivial) U (HPW.out.below HBWU.out hblW) (Nat.lt_of_lt_of_le hblW HBWU.out.size)).mono ?_
      rintro e w6 ⟨rfl, hb6⟩
      have HB6 : Hid (Below U.heap.size U w6) := hb6
      clear hb6
      go_wp2_with fail
      generalize hY : (w6.alloc _ : World) = Y6
      have hbY : Below w6.heap.size w6 Y6 := by subst hY; (repeat (first | exact Below.refl _ _ | assumption | refine Below.drew ?_ | refine bl_alloc ?_ _ | refine bl_then ?_ (by assumption) | refine Below.setCell ?_ (by first | omega | (simp; done) | (simp; omega)) _ | refine bl_store ?_ ?_ _ _))
      have s0 : ∀ W', Below Y6.heap.size Y6 W' → W'.cell? ⟨w6.heap.size, 0, none⟩ = some (.int .i64 0) := fun W' h => by
        rw [h.cell (by subst hY; simp)]; subst hY; simp [go_sem]
      have s1 : ∀ W', Below Y6.heap.size Y6 W' → W'.cell? ⟨w6.heap.size, 1, none⟩ = some (.int .i64 (reachI wi z)) := fun W' h => by
        rw [h.cell (by subst hY; simp)]; subst hY; simp [go_sem]
      clear hY
      have HBY : Hid (Below U.heap.size U Y6) := bl_then HB6.out hbY
      clear hbY HB6
      have Hpc : Hid (∀ w, Calls Tryz.prog 13 #[.int .i64 z] w fun e w' => e = .returned (.agg #[.int .i64 0, .int .i64 (pixI z)]) ∧ Below w.heap.size w w') := fun w => by
        have := impl_PixelCount_any z w
        simpa [pixV, hz] using this
      have Hua : Hid (∀ w, Calls Tryz.prog 15 #[.int .i64 z] w fun e w' => e = .returned (.agg #[.int .i64 0, .int .i64 (unitI z)]) ∧ Below w.heap.size w w') := fun w => by
        have := impl_UnitAt_any z w
        simpa [unitV, hz] using this
      refine (Hpc.out Y6).mono ?_
      rintro e w7 ⟨rfl, hb7⟩
      have HB7 : Hid (Below Y6.heap.size Y6 w7) := hb7
      clear hb7
      go_wp2_with fail
      generalize hX : (w7.alloc _ : World) = X7
      have hbX : Below w7.heap.size w7 X7 := by subst hX; (repeat (first | exact Below.refl _ _ | assumption | refine Below.drew ?_ | refine bl_alloc ?_ _ | refine bl_then ?_ (by assumption) | refine Below.setCell ?_ (by first | omega | (simp; done) | (simp; omega)) _ | refine bl_store ?_ ?_ _ _))
      have o0 : ∀ W', Below X7.heap.size X7 W' → W'.cell? ⟨w7.heap.size, 0, none⟩ = some (.int .i64 0) := fun W' h => by
        rw [h.cell (by subst hX; simp)]; subst hX; simp [go_sem]
      have o1 : ∀ W', Below X7.heap.size X7 W' → W'.cell? ⟨w7.heap.size, 1, none⟩ = some (.int .i64 (pixI z)) := fun W' h => by
        rw [h.cell (by subst hX; simp)]; subst hX; simp [go_sem]
      clear hX
      have HBX : Hid (Below Y6.heap.size Y6 X7) := bl_then HB7.out hbX
      have HXU : Hid (Below U.heap.size U X7) := bl_then HBY.out HBX.out
      have HXV : Hid (Below V.heap.size V X7) := bl_then HBU.out HXU.out
      have HXW : Hid (Below W.heap.size W X7) := bl_then hBV HXV.out
      clear hbX HB7
      replace f0 := fun W' (h : Below X7.heap.size X7 W') => f0 W' (bl_then HXW.out h)
      replace f1 := fun W' (h : Below X7.heap.size X7 W') => f1 W' (bl_then HXW.out h)
      replace f2 := fun W' (h : Below X7.heap.size X7 W') => f2 W' (bl_then HXW.out h)
      replace f3 := fun W' (h : Below X7.heap.size X7 W') => f3 W' (bl_then HXW.out h)
      replace f4 := fun W' (h : Below X7.heap.size X7 W') => f4 W' (bl_then HXW.out h)
      replace f5 := fun W' (h : Below X7.heap.size X7 W') => f5 W' (bl_then HXW.out h)
      replace f6 := fun W' (h : Below X7.heap.size X7 W') => f6 W' (bl_then HXW.out h)
      replace b0 := fun W' (h : Below X7.heap.size X7 W') => b0 W' (bl_then HXV.out h)
      replace b1 := fun W' (h : Below X7.heap.size X7 W') => b1 W' (bl_then HXV.out h)
      replace b2 := fun W' (h : Below X7.heap.size X7 W') => b2 W' (bl_then HXV.out h)
      replace b3 := fun W' (h : Below X7.heap.size X7 W') => b3 W' (bl_then HXV.out h)
      replace b4 := fun W' (h : Below X7.heap.size X7 W') => b4 W' (bl_then HXV.out h)
      replace p0 := fun W' (h : Below X7.heap.size X7 W') => p0 W' (bl_then HXU.out h)
      replace p1 := fun W' (h : Below X7.heap.size X7 W') => p1 W' (bl_then HXU.out h)
      replace p2 := fun W' (h : Below X7.heap.size X7 W') => p2 W' (bl_then HXU.out h)
      replace s0 := fun W' (h : Below X7.heap.size X7 W') => s0 W' (bl_then HBX.out h)
      replace s1 := fun W' (h : Below X7.heap.size X7 W') => s1 W' (bl_then HBX.out h)
      have hul := unit_lit11 hz
      have hpu : pixI z * unitI z = 1024 := by rcases zoomB_cases hz with rfl | rfl | rfl | rfl <;> rfl
      have hrr : reachI wi z = (wi + 1) * unitI z := rfl
      rw [hrr] at s1
      obtain ⟨pb1, pb2⟩ := pixI_bd hz
      clear hrr Hro Hpc HN HO
      generalize pixI z = pz at *
      generalize unitI z = uz at *
      obtain ⟨hw0, hw1⟩ := hw
      have e1 : IntKind.i64.wrap (wi + 1) = wi + 1 := IntWalk.i64_in _ (by omega)
      have e2 : IntKind.i64.wrap ((wi + 1) * uz) = (wi + 1) * uz := by
        obtain ⟨m1, m2⟩ := mul_bd (a := wi + 1) (b := uz) (B := 4) (C := 128) (by omega) (by omega) (by omega) (by omega) (by omega)
        exact IntWalk.i64_in _ (by omega)
      have e3 : IntKind.i64.wrap (pz * uz) = 1024 := by rw [hpu]; exact IntWalk.i64_in _ (by omega)
      have j1 : ∀ w, (Instr.field 41 (.agg #[.int .i64 0, .int .i64 uz]) 1).run Tryz.prog w = .ok (.int .i64 uz) w := fun _ => by kernel_rfl
      have j2 : ∀ w, (Instr.field 35 (.agg #[.int .i64 0, .int .i64 r1, .int .i64 r2, .int .i64 r3, .int .i64 r4]) 1).run Tryz.prog w = .ok (.agg #[.int .i64 r1, .int .i64 r2, .int .i64 r3, .int .i64 r4]) w := fun _ => by kernel_rfl
      have j3 : ∀ w, (Instr.field 38 (.agg #[.int .i64 0, .int .i64 k1, .int .i64 k2]) 1).run Tryz.prog w = .ok (.agg #[.int .i64 k1, .int .i64 k2]) w := fun _ => by kernel_rfl
      have j4 : ∀ w, (Instr.field 31 (.agg #[.int .i64 k1, .int .i64 k2]) 0).run Tryz.prog w = .ok (.int .i64 k1) w := fun _ => by kernel_rfl
      have hr0 : Below X7.heap.size X7 X7 := Below.refl _ _
      clear hul hpu pb1 pb2
      cases cv
      · clear hmt
        refine wp_region_noPanic ?_
        refine wp_region_held_drew (S := fun W' => Below X7.heap.size X7 W') (by kernel_rfl) (by (repeat (first | exact Below.refl _ _ | assumption | refine Below.drew ?_ | refine bl_alloc ?_ _ | refine bl_then ?_ (by assumption) | refine Below.setCell ?_ (by first | omega | (simp; done) | (simp; omega)) _ | refine bl_store ?_ ?_ _ _))) (fun hHeld => ?_)
        have hBd : Below X7.heap.size X7 X7.drew := hHeld
        refine takeD (i := 0) (d := some 74) (v := ?vq0) rfl rfl (by kernel_rfl) (by kernel_rfl) (by kernel_rfl) (fun _ _ _ h => h) (Or.inl ⟨by rfl, ?hyq0⟩) (by assumption) ?_
        case hyq0 => (intro w hSw; (try dsimp only at hSw); go_simp <;> with_reducible rfl)
        try simp only [Act.put, List.setIfInBounds_toArray, List.set_cons_zero, List.set_cons_succ]
        refine takeD (i := 1) (d := some 75) (v := ?vq1) rfl rfl (by kernel_rfl) (by kernel_rfl) (by kernel_rfl) (fun _ _ _ h => h) (Or.inl ⟨by rfl, ?hyq1⟩) (by assumption) ?_
        case hyq1 => (intro w hSw; (try dsimp only at hSw); go_simp <;> with_reducible rfl)
        try simp only [Act.put, List.setIfInBounds_toArray, List.set_cons_zero, List.set_cons_succ]
        refine takeD (i := 2) (d := some 76) (v := ?vq2) rfl rfl (by kernel_rfl) (by kernel_rfl) (by kernel_rfl) (fun _ _ _ h => h) (Or.inl ⟨by rfl, ?hyq2⟩) (by assumption) ?_
        case hyq2 => (intro w hSw; (try dsimp only at hSw); go_simp <;> with_reducible rfl)
        try simp only [Act.put, List.setIfInBounds_toArray, List.set_cons_zero, List.set_cons_succ]
        refine passD (i := 3) (d := some 77) rfl rfl (by kernel_rfl) (by kernel_rfl) (by kernel_rfl) (fun _ _ _ h => h) (by rfl) (by assumption) ?_
        try simp only [Act.put, List.setIfInBounds_toArray, List.set_cons_zero, List.set_cons_succ]
        refine passD (i := 4) (d := some 78) rfl rfl (by kernel_rfl) (by kernel_rfl) (by kernel_rfl) (fun _ _ _ h => h) (by rfl) (by assumption) ?_
        try simp only [Act.put, List.setIfInBounds_toArray, List.set_cons_zero, List.set_cons_succ]
        refine passD (i := 5) (d := some 79) rfl rfl (by kernel_rfl) (by kernel_rfl) (by kernel_rfl) (fun _ _ _ h => h) (by rfl) (by assumption) ?_
        try simp only [Act.put, List.setIfInBounds_toArray, List.set_cons_zero, List.set_cons_succ]
        refine passD (i := 6) (d := some 80) rfl rfl (by kernel_rfl) (by kernel_rfl) (by kernel_rfl) (fun _ _ _ h => h) (by rfl) (by assumption) ?_
        try simp only [Act.put, List.setIfInBounds_toArray, List.set_cons_zero, List.set_cons_succ]
        refine passD (i := 7) (d := some 81) rfl rfl (by kernel_rfl) (by kernel_rfl) (by kernel_rfl) (fun _ _ _ h => h) (by rfl) (by assumption) ?_
        try simp only [Act.put, List.setIfInBounds_toArray, List.set_cons_zero, List.set_cons_succ]
        refine passD (i := 8) (d := some 82) rfl rfl (by kernel_rfl) (by kernel_rfl) (by kernel_rfl) (fun _ _ _ h => h) (by rfl) (by assumption) ?_
        try simp only [Act.put, List.setIfInBounds_toArray, List.set_cons_zero, List.set_cons_succ]
        refine passD (i := 9) (d := some 83) rfl rfl (by kernel_rfl) (by kernel_rfl) (by kernel_rfl) (fun _ _ _ h => h) (by rfl) (by assumption) ?_
        try simp only [Act.put, List.setIfInBounds_toArray, List.set_cons_zero, List.set_cons_succ]
        refine passD (i := 10) (d := some 84) rfl rfl (by kernel_rfl) (by kernel_rfl) (by kernel_rfl) (fun _ _ _ h => h) (by rfl) (by assumption) ?_
        try simp only [Act.put, List.setIfInBounds_toArray, List.set_cons_zero, List.set_cons_succ]
        refine takeD (i := 11) (d := some 85) (v := ?vq11) rfl rfl (by kernel_rfl) (by kernel_rfl) (by kernel_rfl) (fun _ _ _ h => h) (Or.inl ⟨by rfl, ?hyq11⟩) (by assumption) ?_
        case hyq11 => (intro w hSw; (try dsimp only at hSw); go_simp <;> with_reducible rfl)
        try simp only [Act.put, List.setIfInBounds_toArray, List.set_cons_zero, List.set_cons_succ]
        refine takeD (i := 12) (d := some 86) (v := ?vq12) rfl rfl (by kernel_rfl) (by kernel_rfl) (by kernel_rfl) (fun _ _ _ h => h) (Or.inl ⟨by rfl, ?hyq12⟩) (by assumption) ?_
        case hyq12 => (intro w hSw; (try dsimp only at hSw); go_simp <;> with_reducible rfl)
        try simp only [Act.put, List.setIfInBounds_toArray, List.set_cons_zero, List.set_cons_succ]
        refine takeD (i := 13) (d := some 87) (v := ?vq13) rfl rfl (by kernel_rfl) (by kernel_rfl) (by kernel_rfl) (fun _ _ _ h => h) (Or.inl ⟨by rfl, ?hyq13⟩) (by assumption) ?_
        case hyq13 => (intro w hSw; (try dsimp only at hSw); go_simp <;> with_reducible rfl)
        try simp only [Act.put, List.setIfInBounds_toArray, List.set_cons_zero, List.set_cons_succ]
        refine takeD (i := 14) (d := some 88) (v := ?vq14) rfl rfl (by kernel_rfl) (by kernel_rfl) (by kernel_rfl) (fun _ _ _ h => h) (Or.inl ⟨by rfl, ?hyq14⟩) (by assumption) ?_
        case hyq14 => (intro w hSw; (try dsimp only at hSw); go_simp <;> with_reducible rfl)
        try simp only [Act.put, List.setIfInBounds_toArray, List.set_cons_zero, List.set_cons_succ]
        refine takeD (i := 15) (d := some 89) (v := ?vq15) rfl rfl (by kernel_rfl) (by kernel_rfl) (by kernel_rfl) (fun _ _ _ h => h) (Or.inl ⟨by rfl, ?hyq15⟩) (by assumption) ?_
        case hyq15 => (intro w hSw; (try dsimp only at hSw); go_simp <;> with_reducible rfl)
        try simp only [Act.put, List.setIfInBounds_toArray, List.set_cons_zero, List.set_cons_succ]
        refine takeD (i := 16) (d := some 90) (v := ?vq16) rfl rfl (by kernel_rfl) (by kernel_rfl) (by kernel_rfl) (fun _ _ _ h => h) (Or.inl ⟨by rfl, ?hyq16⟩) (by assumption) ?_
        case hyq16 => (intro w hSw; (try dsimp only at hSw); go_simp <;> with_reducible rfl)
        try simp only [Act.put, List.setIfInBounds_toArray, List.set_cons_zero, List.set_cons_succ]
        refine takeD (i := 17) (d := some 91) (v := ?vq17) rfl rfl (by kernel_rfl) (by kernel_rfl) (by kernel_rfl) (fun _ _ _ h => h) (Or.inl ⟨by rfl, ?hyq17⟩) (by assumption) ?_
        case hyq17 => (intro w hSw; (try dsimp only at hSw); go_simp <;> with_reducible rfl)
        try simp only [Act.put, List.setIfInBounds_toArray, List.set_cons_zero, List.set_cons_succ]
        refine takeD (i := 18) (d := some 92) (v := ?vq18) rfl rfl (by kernel_rfl) (by kernel_rfl) (by kernel_rfl) (fun _ _ _ h => h) (Or.inl ⟨by rfl, ?hyq18⟩) (by assumption) ?_
        case hyq18 => (intro w hSw; (try dsimp only at hSw); go_simp <;> with_reducible rfl)
        try simp only [Act.put, List.setIfInBounds_toArray, List.set_cons_zero, List.set_cons_succ]
        refine takeD (i := 19) (d := some 93) (v := ?vq19) rfl rfl (by kernel_rfl) (by kernel_rfl) (by kernel_rfl) (fun _ _ _ h => h) (Or.inl ⟨by rfl, ?hyq19⟩) (by assumption) ?_
        case hyq19 => (intro w hSw; (try dsimp only at hSw); go_simp <;> with_reducible rfl)
        try simp only [Act.put, List.setIfInBounds_toArray, List.set_cons_zero, List.set_cons_succ]
        refine takeD (i := 20) (d := some 94) (v := ?vq20) rfl rfl (by kernel_rfl) (by kernel_rfl) (by kernel_rfl) (fun _ _ _ h => h) (Or.inl ⟨by rfl, ?hyq20⟩) (by assumption) ?_
        case hyq20 => (intro w hSw; (try dsimp only at hSw); go_simp <;> with_reducible rfl)
        try simp only [Act.put, List.setIfInBounds_toArray, List.set_cons_zero, List.set_cons_succ]
        refine takeD (i := 21) (d := some 95) (v := ?vq21) rfl rfl (by kernel_rfl) (by kernel_rfl) (by kernel_rfl) (fun _ _ _ h => h) (Or.inl ⟨by rfl, ?hyq21⟩) (by assumption) ?_
        case hyq21 => (intro w hSw; (try dsimp only at hSw); go_simp <;> with_reducible rfl)
        try simp only [Act.put, List.setIfInBounds_toArray, List.set_cons_zero, List.set_cons_succ]
        refine takeD (i := 22) (d := some 96) (v := ?vq22) rfl rfl (by kernel_rfl) (by kernel_rfl) (by kernel_rfl) (fun _ _ _ h => h) (Or.inl ⟨by rfl, ?hyq22⟩) (by assumption) ?_
        case hyq22 => (intro w hSw; (try dsimp only at hSw); go_simp <;> with_reducible rfl)
        try simp only [Act.put, List.setIfInBounds_toArray, List.set_cons_zero, List.set_cons_succ]
        refine takeD (i := 23) (d := some 97) (v := ?vq23) rfl rfl (by kernel_rfl) (by kernel_rfl) (by kernel_rfl) (fun _ _ _ h => h) (Or.inl ⟨by rfl, ?hyq23⟩) (by assumption) ?_
        case hyq23 => (intro w hSw; (try dsimp only at hSw); go_simp <;> with_reducible rfl)
        try simp only [Act.put, List.setIfInBounds_toArray, List.set_cons_zero, List.set_cons_succ]
        refine wpAnyH_ready (rs := [24]) (by kernel_rfl) (by simp) ?_
        refine (AllReadyH.cons rfl (fun K hK => ?_) AllReadyH.nil)
        go_simp
        refine (Hua.out _).mono ?_
        rintro e wq24 ⟨rfl, hq24⟩
        have hB24 : Below X7.heap.size X7 wq24 := bl_then hBd hq24
        go_wp2_with fail
        refine hK.out _ _ hB24 (fun hHeld => ?_)
        clear hK K
        try simp only [Act.put, List.setIfInBounds_toArray, List.set_cons_zero, List.set_cons_succ]
        refine takeD (i := 25) (d := some 99) (v := ?vq25) rfl rfl (by kernel_rfl) (by kernel_rfl) (by kernel_rfl) (fun _ _ _ h => h) (Or.inl ⟨by rfl, ?hyq25⟩) (by assumption) ?_
        case hyq25 => (intro w hSw; (try dsimp only at hSw); go_simp <;> with_reducible rfl)
        try simp only [Act.put, List.setIfInBounds_toArray, List.set_cons_zero, List.set_cons_succ]
        refine takeD (i := 26) (d := some 100) (v := ?vq26) rfl rfl (by kernel_rfl) (by kernel_rfl) (by kernel_rfl) (fun _ _ _ h => h) (Or.inl ⟨by rfl, ?hyq26⟩) (by assumption) ?_
        case hyq26 => (intro w hSw; (try dsimp only at hSw); go_simp <;> with_reducible rfl)
        try simp only [Act.put, List.setIfInBounds_toArray, List.set_cons_zero, List.set_cons_succ]
        refine takeD (i := 27) (d := some 101) (v := ?vq27) rfl rfl (by kernel_rfl) (by kernel_rfl) (by kernel_rfl) (fun _ _ _ h => h) (Or.inl ⟨by rfl, ?hyq27⟩) (by assumption) ?_
        case hyq27 => (intro w hSw; (try dsimp only at hSw); go_simp <;> with_reducible rfl)
        try simp only [Act.put, List.setIfInBounds_toArray, List.set_cons_zero, List.set_cons_succ]
        refine takeD (i := 28) (d := some 102) (v := ?vq28) rfl rfl (by kernel_rfl) (by kernel_rfl) (by kernel_rfl) (fun _ _ _ h => h) (Or.inl ⟨by rfl, ?hyq28⟩) (by assumption) ?_
        case hyq28 => (intro w hSw; (try dsimp only at hSw); go_simp <;> with_reducible rfl)
        try simp only [Act.put, List.setIfInBounds_toArray, List.set_cons_zero, List.set_cons_succ]
        refine takeD (i := 29) (d := some 103) (v := ?vq29) rfl rfl (by kernel_rfl) (by kernel_rfl) (by kernel_rfl) (fun _ _ _ h => h) (Or.inl ⟨by rfl, ?hyq29⟩) (by assumption) ?_
        case hyq29 => (intro w hSw; (try dsimp only at hSw); go_simp <;> with_reducible rfl)
        try simp only [Act.put, List.setIfInBounds_toArray, List.set_cons_zero, List.set_cons_succ]
        refine takeD (i := 30) (d := some 104) (v := ?vq30) rfl rfl (by kernel_rfl) (by kernel_rfl) (by kernel_rfl) (fun _ _ _ h => h) (Or.inl ⟨by rfl, ?hyq30⟩) (by assumption) ?_
        case hyq30 => (intro w hSw; (try dsimp only at hSw); go_simp <;> with_reducible rfl)
        try simp only [Act.put, List.setIfInBounds_toArray, List.set_cons_zero, List.set_cons_succ]
        refine takeD (i := 31) (d := some 105) (v := ?vq31) rfl rfl (by kernel_rfl) (by kernel_rfl) (by kernel_rfl) (fun _ _ _ h => h) (Or.inl ⟨by rfl, ?hyq31⟩) (by assumption) ?_
        case hyq31 => (intro w hSw; (try dsimp only at hSw); go_simp <;> with_reducible rfl)
        try simp only [Act.put, List.setIfInBounds_toArray, List.set_cons_zero, List.set_cons_succ]
        refine takeD (i := 32) (d := some 106) (v := ?vq32) rfl rfl (by kernel_rfl) (by kernel_rfl) (by kernel_rfl) (fun _ _ _ h => h) (Or.inl ⟨by rfl, ?hyq32⟩) (by assumption) ?_
        case hyq32 => (intro w hSw; (try dsimp only at hSw); go_simp <;> with_reducible rfl)
        try simp only [Act.put, List.setIfInBounds_toArray, List.set_cons_zero, List.set_cons_succ]
        refine wpAnyH_ready (rs := [33]) (by kernel_rfl) (by simp) ?_
        refine (AllReadyH.cons rfl (fun K hK => ?_) AllReadyH.nil)
        go_simp
        refine (Hua.out _).mono ?_
        rintro e wq33 ⟨rfl, hq33⟩
        have hB33 : Below X7.heap.size X7 wq33 := bl_then hB24 hq33
        go_wp2_with fail
        refine hK.out _ _ hB33 (fun hHeld => ?_)
        clear hK K
        try simp only [Act.put, List.setIfInBounds_toArray, List.set_cons_zero, List.set_cons_succ]
        refine takeD (i := 34) (d := some 108) (v := ?vq34) rfl rfl (by kernel_rfl) (by kernel_rfl) (by kernel_rfl) (fun _ _ _ h => h) (Or.inl ⟨by rfl, ?hyq34⟩) (by assumption) ?_
        case hyq34 => (intro w hSw; (try dsimp only at hSw); go_simp <;> with_reducible rfl)
        try simp only [Act.put, List.setIfInBounds_toArray, List.set_cons_zero, List.set_cons_succ]
        refine takeD (i := 35) (d := some 109) (v := ?vq35) rfl rfl (by kernel_rfl) (by kernel_rfl) (by kernel_rfl) (fun _ _ _ h => h) (Or.inl ⟨by rfl, ?hyq35⟩) (by assumption) ?_
        case hyq35 => (intro w hSw; (try dsimp only at hSw); go_simp <;> with_reducible rfl)
        try simp only [Act.put, List.setIfInBounds_toArray, List.set_cons_zero, List.set_cons_succ]
        refine takeD (i := 36) (d := some 110) (v := ?vq36) rfl rfl (by kernel_rfl) (by kernel_rfl) (by kernel_rfl) (fun _ _ _ h => h) (Or.inl ⟨by rfl, ?hyq36⟩) (by assumption) ?_
        case hyq36 => (intro w hSw; (try dsimp only at hSw); go_simp <;> with_reducible rfl)
        try simp only [Act.put, List.setIfInBounds_toArray, List.set_cons_zero, List.set_cons_succ]
        refine takeD (i := 37) (d := some 111) (v := ?vq37) rfl rfl (by kernel_rfl) (by kernel_rfl) (by kernel_rfl) (fun _ _ _ h => h) (Or.inl ⟨by rfl, ?hyq37⟩) (by assumption) ?_
        case hyq37 => (intro w hSw; (try dsimp only at hSw); go_simp <;> with_reducible rfl)
        try simp only [Act.put, List.setIfInBounds_toArray, List.set_cons_zero, List.set_cons_succ]
        refine takeD (i := 38) (d := some 112) (v := ?vq38) rfl rfl (by kernel_rfl) (by kernel_rfl) (by kernel_rfl) (fun _ _ _ h => h) (Or.inl ⟨by rfl, ?hyq38⟩) (by assumption) ?_
        case hyq38 => (intro w hSw; (try dsimp only at hSw); go_simp <;> with_reducible rfl)
        try simp only [Act.put, List.setIfInBounds_toArray, List.set_cons_zero, List.set_cons_succ]
        refine takeD (i := 39) (d := some 113) (v := ?vq39) rfl rfl (by kernel_rfl) (by kernel_rfl) (by kernel_rfl) (fun _ _ _ h => h) (Or.inl ⟨by rfl, ?hyq39⟩) (by assumption) ?_
        case hyq39 => (intro w hSw; (try dsimp only at hSw); go_simp <;> with_reducible rfl)
        try simp only [Act.put, List.setIfInBounds_toArray, List.set_cons_zero, List.set_cons_succ]
        refine takeD (i := 40) (d := some 114) (v := ?vq40) rfl rfl (by kernel_rfl) (by kernel_rfl) (by kernel_rfl) (fun _ _ _ h => h) (Or.inl ⟨by rfl, ?hyq40⟩) (by assumption) ?_
        case hyq40 => (intro w hSw; (try dsimp only at hSw); go_simp <;> with_reducible rfl)
        try simp only [Act.put, List.setIfInBounds_toArray, List.set_cons_zero, List.set_cons_succ]
        refine takeD (i := 41) (d := some 115) (v := ?vq41) rfl rfl (by kernel_rfl) (by kernel_rfl) (by kernel_rfl) (fun _ _ _ h => h) (Or.inl ⟨by rfl, ?hyq41⟩) (by assumption) ?_
        case hyq41 => (intro w hSw; (try dsimp only at hSw); go_simp <;> with_reducible rfl)
        try simp only [Act.put, List.setIfInBounds_toArray, List.set_cons_zero, List.set_cons_succ]
        refine takeD (i := 42) (d := some 116) (v := ?vq42) rfl rfl (by kernel_rfl) (by kernel_rfl) (by kernel_rfl) (fun _ _ _ h => h) (Or.inl ⟨by rfl, ?hyq42⟩) (by assumption) ?_
        case hyq42 => (intro w hSw; (try dsimp only at hSw); go_simp <;> with_reducible rfl)
        try simp only [Act.put, List.setIfInBounds_toArray, List.set_cons_zero, List.set_cons_succ]
        refine wpAnyH_ready (rs := [43]) (by kernel_rfl) (by simp) ?_
        refine (AllReadyH.cons rfl (fun K hK => ?_) AllReadyH.nil)
        go_simp
        refine (Hrs.out _ (HPW.out.below (bl_then HXW.out hB33) hblW) (Nat.lt_of_lt_of_le hblW (Below.size (bl_then HXW.out hB33)))).mono ?_
        rintro e wq43 ⟨rfl, hq43⟩
        have hB43 : Below X7.heap.size X7 wq43 := bl_then hB33 hq43
        go_wp2_with fail
        refine hK.out _ _ hB43 (fun hHeld => ?_)
        clear hK K
        try simp only [Act.put, List.setIfInBounds_toArray, List.set_cons_zero, List.set_cons_succ]
        refine takeD (i := 44) (d := some 118) (v := ?vq44) rfl rfl (by kernel_rfl) (by kernel_rfl) (by kernel_rfl) (fun _ _ _ h => h) (Or.inl ⟨by rfl, ?hyq44⟩) (by assumption) ?_
        case hyq44 => (intro w hSw; (try dsimp only at hSw); go_simp <;> with_reducible rfl)
        try simp only [Act.put, List.setIfInBounds_toArray, List.set_cons_zero, List.set_cons_succ]
        refine takeD (i := 45) (d := some 119) (v := ?vq45) rfl rfl (by kernel_rfl) (by kernel_rfl) (by kernel_rfl) (fun _ _ _ h => h) (Or.inl ⟨by rfl, ?hyq45⟩) (by assumption) ?_
        case hyq45 => (intro w hSw; (try dsimp only at hSw); go_simp <;> with_reducible rfl)
        try simp only [Act.put, List.setIfInBounds_toArray, List.set_cons_zero, List.set_cons_succ]
        refine takeD (i := 46) (d := some 120) (v := ?vq46) rfl rfl (by kernel_rfl) (by kernel_rfl) (by kernel_rfl) (fun _ _ _ h => h) (Or.inl ⟨by rfl, ?hyq46⟩) (by assumption) ?_
        case hyq46 => (intro w hSw; (try dsimp only at hSw); go_simp <;> with_reducible rfl)
        try simp only [Act.put, List.setIfInBounds_toArray, List.set_cons_zero, List.set_cons_succ]
        refine takeD (i := 47) (d := some 121) (v := ?vq47) rfl rfl (by kernel_rfl) (by kernel_rfl) (by kernel_rfl) (fun _ _ _ h => h) (Or.inl ⟨by rfl, ?hyq47⟩) (by assumption) ?_
        case hyq47 => (intro w hSw; (try dsimp only at hSw); go_simp <;> with_reducible rfl)
        try simp only [Act.put, List.setIfInBounds_toArray, List.set_cons_zero, List.set_cons_succ]
        refine takeD (i := 48) (d := some 122) (v := ?vq48) rfl rfl (by kernel_rfl) (by kernel_rfl) (by kernel_rfl) (fun _ _ _ h => h) (Or.inl ⟨by rfl, ?hyq48⟩) (by assumption) ?_
        case hyq48 => (intro w hSw; (try dsimp only at hSw); go_simp <;> with_reducible rfl)
        try simp only [Act.put, List.setIfInBounds_toArray, List.set_cons_zero, List.set_cons_succ]
        refine takeD (i := 49) (d := some 123) (v := ?vq49) rfl rfl (by kernel_rfl) (by kernel_rfl) (by kernel_rfl) (fun _ _ _ h => h) (Or.inl ⟨by rfl, ?hyq49⟩) (by assumption) ?_
        case hyq49 => (intro w hSw; (try dsimp only at hSw); go_simp <;> with_reducible rfl)
        try simp only [Act.put, List.setIfInBounds_toArray, List.set_cons_zero, List.set_cons_succ]
        refine takeD (i := 50) (d := some 124) (v := ?vq50) rfl rfl (by kernel_rfl) (by kernel_rfl) (by kernel_rfl) (fun _ _ _ h => h) (Or.inl ⟨by rfl, ?hyq50⟩) (by assumption) ?_
        case hyq50 => (intro w hSw; (try dsimp only at hSw); go_simp <;> with_reducible rfl)
        try simp only [Act.put, List.setIfInBounds_toArray, List.set_cons_zero, List.set_cons_succ]
        refine takeD (i := 51) (d := some 125) (v := ?vq51) rfl rfl (by kernel_rfl) (by kernel_rfl) (by kernel_rfl) (fun _ _ _ h => h) (Or.inl ⟨by rfl, ?hyq51⟩) (by assumption) ?_
        case hyq51 => (intro w hSw; (try dsimp only at hSw); go_simp <;> with_reducible rfl)
        try simp only [Act.put, List.setIfInBounds_toArray, List.set_cons_zero, List.set_cons_succ]
        refine takeD (i := 52) (d := some 126) (v := ?vq52) rfl rfl (by kernel_rfl) (by kernel_rfl) (by kernel_rfl) (fun _ _ _ h => h) (Or.inl ⟨by rfl, ?hyq52⟩) (by assumption) ?_
        case hyq52 => (intro w hSw; (try dsimp only at hSw); go_simp <;> with_reducible rfl)
        try simp only [Act.put, List.setIfInBounds_toArray, List.set_cons_zero, List.set_cons_succ]
        refine takeD (i := 53) (d := some 127) (v := ?vq53) rfl rfl (by kernel_rfl) (by kernel_rfl) (by kernel_rfl) (fun _ _ _ h => h) (Or.inl ⟨by rfl, ?hyq53⟩) (by assumption) ?_
        case hyq53 => (intro w hSw; (try dsimp only at hSw); go_simp <;> with_reducible rfl)
        try simp only [Act.put, List.setIfInBounds_toArray, List.set_cons_zero, List.set_cons_succ]
        refine takeD (i := 54) (d := some 128) (v := ?vq54) rfl rfl (by kernel_rfl) (by kernel_rfl) (by kernel_rfl) (fun _ _ _ h => h) (Or.inl ⟨by rfl, ?hyq54⟩) (by assumption) ?_
        case hyq54 => (intro w hSw; (try dsimp only at hSw); go_simp <;> with_reducible rfl)
        try simp only [Act.put, List.setIfInBounds_toArray, List.set_cons_zero, List.set_cons_succ]
        refine wpAnyH_ready (rs := [55]) (by kernel_rfl) (by simp) ?_
        refine (AllReadyH.cons rfl (fun K hK => ?_) AllReadyH.nil)
        go_simp
        refine (Hcs.out _).mono ?_
        rintro e wq55 ⟨rfl, hq55⟩
        have hB55 : Below X7.heap.size X7 wq55 := bl_then hB43 hq55
        go_wp2_with fail
        refine hK.out _ _ hB55 (fun hHeld => ?_)
        clear hK K
        try simp only [Act.put, List.setIfInBounds_toArray, List.set_cons_zero, List.set_cons_succ]
        refine takeD (i := 56) (d := some 130) (v := ?vq56) rfl rfl (by kernel_rfl) (by kernel_rfl) (by kernel_rfl) (fun _ _ _ h => h) (Or.inl ⟨by rfl, ?hyq56⟩) (by assumption) ?_
        case hyq56 => (intro w hSw; (try dsimp only at hSw); go_simp <;> with_reducible rfl)
        try simp only [Act.put, List.setIfInBounds_toArray, List.set_cons_zero, List.set_cons_succ]
        refine takeD (i := 57) (d := some 131) (v := ?vq57) rfl rfl (by kernel_rfl) (by kernel_rfl) (by kernel_rfl) (fun _ _ _ h => h) (Or.inl ⟨by rfl, ?hyq57⟩) (by assumption) ?_
        case hyq57 => (intro w hSw; (try dsimp only at hSw); go_simp <;> with_reducible rfl)
        try simp only [Act.put, List.setIfInBounds_toArray, List.set_cons_zero, List.set_cons_succ]
        refine takeD (i := 58) (d := some 132) (v := ?vq58) rfl rfl (by kernel_rfl) (by kernel_rfl) (by kernel_rfl) (fun _ _ _ h => h) (Or.inl ⟨by rfl, ?hyq58⟩) (by assumption) ?_
        case hyq58 => (intro w hSw; (try dsimp only at hSw); go_simp <;> with_reducible rfl)
        try simp only [Act.put, List.setIfInBounds_toArray, List.set_cons_zero, List.set_cons_succ]
        refine takeD (i := 59) (d := some 133) (v := ?vq59) rfl rfl (by kernel_rfl) (by kernel_rfl) (by kernel_rfl) (fun _ _ _ h => h) (Or.inl ⟨by rfl, ?hyq59⟩) (by assumption) ?_
        case hyq59 => (intro w hSw; (try dsimp only at hSw); go_simp <;> with_reducible rfl)
        try simp only [Act.put, List.setIfInBounds_toArray, List.set_cons_zero, List.set_cons_succ]
        refine takeD (i := 60) (d := some 134) (v := ?vq60) rfl rfl (by kernel_rfl) (by kernel_rfl) (by kernel_rfl) (fun _ _ _ h => h) (Or.inl ⟨by rfl, ?hyq60⟩) (by assumption) ?_
        case hyq60 => (intro w hSw; (try dsimp only at hSw); go_simp <;> with_reducible rfl)
        try simp only [Act.put, List.setIfInBounds_toArray, List.set_cons_zero, List.set_cons_succ]
        refine takeD (i := 61) (d := some 2) (v := ?vq61) rfl rfl (by kernel_rfl) (by kernel_rfl) (by kernel_rfl) (fun _ _ _ h => h) (Or.inl ⟨by rfl, ?hyq61⟩) (by assumption) ?_
        case hyq61 => (intro w hSw; (try dsimp only at hSw); go_simp <;> with_reducible rfl)
        try simp only [Act.put, List.setIfInBounds_toArray, List.set_cons_zero, List.set_cons_succ]
        refine wpAnyH_done (by kernel_rfl) ?_ _
        refine NoPanic.normal ?_
        go_wp2_with fail
        go_ret
        exact ⟨rfl, bl_then HBW.out (bl_then HXW.out hB55)⟩
      · have hm := hmt rfl
        try simp only [List.append_eq, List.cons_append, List.nil_append]
        go_region_held3 (fun W' => Below X7.heap.size X7 W') ((repeat (first | exact Below.refl _ _ | assumption | refine Below.drew ?_ | refine bl_alloc ?_ _ | refine bl_then ?_ (by assumption) | refine Below.setCell ?_ (by first | omega | (simp; done) | (simp; omega)) _ | refine bl_store ?_ ?_ _ _)))
          (first
            | (go_at_call 14; refine (implDoMeet_any _ _ _ _ _ _ _ _ _).mono ?_; rintro e w8 ⟨rfl, hb8⟩; rw [hm])
            | (go_at_call 15; refine (Hua.out _).mono ?_; rintro e w9 ⟨rfl, hb9⟩)
            | (go_at_call 10; refine (Hrs.out _ (HPW.out.below (bl_then HXW.out (by assumption)) hblW) (Nat.lt_of_lt_of_le hblW (Below.size (bl_then HXW.out (by assumption))))).mono ?_; rintro e w10 ⟨rfl, hb10⟩)
            | (go_at_call 11; refine (Hcs.out _).mono ?_; rintro e w11 ⟨rfl, hb11⟩))
        all_goals
          go_wp2_with fail
          go_ret
          exact ⟨rfl, bl_then HBW.out (bl_then HXW.out (by assumption))⟩
    · have hkb : (k0 != 0) = true := by simpa using hk0
      have hcf := HN.out (.inr hk0)
      subst hcf
      subst hC0
      clear Hro HO HN
      go_wp2_with fail
      generalize hU : (w5.alloc _ : World) = U
      have hbU : Below w5.heap.size w5 U := by subst hU; (repeat (first | exact Below.refl _ _ | assumption | refine Below.drew ?_ | refine bl_alloc ?_ _ | refine bl_then ?_ (by assumption) | refine Below.setCell ?_ (by first | omega | (simp; done) | (simp; omega)) _ | refine bl_store ?_ ?_ _ _))
      have p0 : ∀ W', Below U.heap.size U W' → W'.cell? ⟨w5.heap.size, 0, none⟩ = some (.int .i64 k0) := fun W' h => by
        rw [h.cell (by subst hU; simp)]; subst hU; simp [go_sem]
      have p1 : ∀ W', Below U.heap.size U W' → W'.cell? ⟨w5.heap.size, 1, none⟩ = some (.int .i64 k1) := fun W' h => by
        rw [h.cell (by subst hU; simp)]; subst hU; simp [go_sem]
      have p2 : ∀ W', Below U.heap.size U W' → W'.cell? ⟨w5.heap.size, 2, none⟩ = some (.int .i64 k2) := fun W' h => by
        rw [h.cell (by subst hU; simp)]; subst hU; simp [go_sem]
      clear hU
      have HBU : Hid (Below V.heap.size V U) := bl_then HB5.out hbU
      have HBWU : Hid (Below W.heap.size W U) := bl_then hBV HBU.out
      replace f0 := fun W' (h : Below U.heap.size U W') => f0 W' (bl_then HBWU.out h)
      replace f1 := fun W' (h : Below U.heap.size U W') => f1 W' (bl_then HBWU.out h)
      replace f2 := fun W' (h : Below U.heap.size U W') => f2 W' (bl_then HBWU.out h)
      replace f3 := fun W' (h : Below U.heap.size U W') => f3 W' (bl_then HBWU.out h)
      replace f4 := fun W' (h : Below U.heap.size U W') => f4 W' (bl_then HBWU.out h)
      replace f5 := fun W' (h : Below U.heap.size U W') => f5 W' (bl_then HBWU.out h)
      replace f6 := fun W' (h : Below U.heap.size U W') => f6 W' (bl_then HBWU.out h)
      replace b0 := fun W' (h : Below U.heap.size U W') => b0 W' (bl_then HBU.out h)
      replace b1 := fun W' (h : Below U.heap.size U W') => b1 W' (bl_then HBU.out h)
      replace b2 := fun W' (h : Below U.heap.size U W') => b2 W' (bl_then HBU.out h)
      replace b3 := fun W' (h : Below U.heap.size U W') => b3 W' (bl_then HBU.out h)
      replace b4 := fun W' (h : Below U.heap.size U W') => b4 W' (bl_then HBU.out h)
      have j2 : ∀ w, (Instr.field 35 (.agg #[.int .i64 0, .int .i64 r1, .int .i64 r2, .int .i64 r3, .int .i64 r4]) 0).run Tryz.prog w = .ok (.int .i64 0) w := fun _ => by kernel_rfl
      have j3 : ∀ w, (Instr.field 38 (.agg #[.int .i64 k0, .int .i64 k1, .int .i64 k2]) 0).run Tryz.prog w = .ok (.int .i64 k0) w := fun _ => by kernel_rfl
      have hr0 : Below U.heap.size U U := Below.refl _ _
      clear hbU q0
      go_region_held3 (fun W' => Below U.heap.size U W') ((repeat (first | exact Below.refl _ _ | assumption | refine Below.drew ?_ | refine bl_alloc ?_ _ | refine bl_then ?_ (by assumption) | refine Below.setCell ?_ (by first | omega | (simp; done) | (simp; omega)) _ | refine bl_store ?_ ?_ _ _)))
        (first
          | (go_at_call 10; refine (Hrs.out _ (HPW.out.below (bl_then HBWU.out (by assumption)) hblW) (Nat.lt_of_lt_of_le hblW (Below.size (bl_then HBWU.out (by assumption))))).mono ?_; rintro e w10 ⟨rfl, hb10⟩)
          | (go_at_call 11; refine (Hcs.out _).mono ?_; rintro e w11 ⟨rfl, hb11⟩))
      go_wp2_with fail
      go_ret
      exact ⟨rfl, bl_then HBW.out (bl_then HBWU.out (by assumption))⟩
  · have hcb : (C != 0) = true := by simpa using hC0
    have hcf := HN.out (.inl hC0)
    subst hcf
    clear Hro HO HN
    go_wp2_with fail
    generalize hU : (w5.alloc _ : World) = U
    have hbU : Below w5.heap.size w5 U := by subst hU; (repeat (first | exact Below.refl _ _ | assumption | refine Below.drew ?_ | refine bl_alloc ?_ _ | refine bl_then ?_ (by assumption) | refine Below.setCell ?_ (by first | omega | (simp; done) | (simp; omega)) _ | refine bl_store ?_ ?_ _ _))
    have p0 : ∀ W', Below U.heap.size U W' → W'.cell? ⟨w5.heap.size, 0, none⟩ = some (.int .i64 k0) := fun W' h => by
      rw [h.cell (by subst hU; simp)]; subst hU; simp [go_sem]
    have p1 : ∀ W', Below U.heap.size U W' → W'.cell? ⟨w5.heap.size, 1, none⟩ = some (.int .i64 k1) := fun W' h => by
      rw [h.cell (by subst hU; simp)]; subst hU; simp [go_sem]
    have p2 : ∀ W', Below U.heap.size U W' → W'.cell? ⟨w5.heap.size, 2, none⟩ = some (.int .i64 k2) := fun W' h => by
      rw [h.cell (by subst hU; simp)]; subst hU; simp [go_sem]
    clear hU
    have HBU : Hid (Below V.heap.size V U) := bl_then HB5.out hbU
    have HBWU : Hid (Below W.heap.size W U) := bl_then hBV HBU.out
    replace f0 := fun W' (h : Below U.heap.size U W') => f0 W' (bl_then HBWU.out h)
    replace f1 := fun W' (h : Below U.heap.size U W') => f1 W' (bl_then HBWU.out h)
    replace f2 := fun W' (h : Below U.heap.size U W') => f2 W' (bl_then HBWU.out h)
    replace f3 := fun W' (h : Below U.heap.size U W') => f3 W' (bl_then HBWU.out h)
    replace f4 := fun W' (h : Below U.heap.size U W') => f4 W' (bl_then HBWU.out h)
    replace f5 := fun W' (h : Below U.heap.size U W') => f5 W' (bl_then HBWU.out h)
    replace f6 := fun W' (h : Below U.heap.size U W') => f6 W' (bl_then HBWU.out h)
    replace b0 := fun W' (h : Below U.heap.size U W') => b0 W' (bl_then HBU.out h)
    replace b1 := fun W' (h : Below U.heap.size U W') => b1 W' (bl_then HBU.out h)
    replace b2 := fun W' (h : Below U.heap.size U W') => b2 W' (bl_then HBU.out h)
    replace b3 := fun W' (h : Below U.heap.size U W') => b3 W' (bl_then HBU.out h)
    replace b4 := fun W' (h : Below U.heap.size U W') => b4 W' (bl_then HBU.out h)
    have j2 : ∀ w, (Instr.field 35 (.agg #[.int .i64 C, .int .i64 r1, .int .i64 r2, .int .i64 r3, .int .i64 r4]) 0).run Tryz.prog w = .ok (.int .i64 C) w := fun _ => by kernel_rfl
    have j3 : ∀ w, (Instr.field 38 (.agg #[.int .i64 k0, .int .i64 k1, .int .i64 k2]) 0).run Tryz.prog w = .ok (.int .i64 k0) w := fun _ => by kernel_rfl
    have hr0 : Below U.heap.size U U := Below.refl _ _
    clear hbU q0
    go_region_held3 (fun W' => Below U.heap.size U W') ((repeat (first | exact Below.refl _ _ | assumption | refine Below.drew ?_ | refine bl_alloc ?_ _ | refine bl_then ?_ (by assumption) | refine Below.setCell ?_ (by first | omega | (simp; done) | (simp; omega)) _ | refine bl_store ?_ ?_ _ _)))
      (first
        | (go_at_call 10; refine (Hrs.out _ (HPW.out.below (bl_then HBWU.out (by assumption)) hblW) (Nat.lt_of_lt_of_le hblW (Below.size (bl_then HBWU.out (by assumption))))).mono ?_; rintro e w10 ⟨rfl, hb10⟩)
        | (go_at_call 11; refine (Hcs.out _).mono ?_; rintro e w11 ⟨rfl, hb11⟩))
    go_wp2_with fail
    go_ret
    exact ⟨rfl, bl_then HBW.out (bl_then HBWU.out (by assumption))⟩
end Go.Proofs.YtnlmndlchobfeaaGreat

