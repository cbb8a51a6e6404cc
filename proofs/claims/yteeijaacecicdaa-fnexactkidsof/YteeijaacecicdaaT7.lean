/- The law of KidsOf returns true at every ref. -/
import Derived.Test.YteeijaacecicdaaT6
namespace Go.Proofs.Yteeijaacecicdaa
open Go.RowKit
set_option linter.unusedSimpArgs false
set_option linter.unusedVariables false
set_option maxRecDepth 100000

set_option maxHeartbeats 8000000 in
theorem FnExactKidsOf_law (c z x y : Int) (m : Nat) (R : Rfs) (w : World) (hm : m ≤ 1048576)
    (hsp : ∀ w, Calls Try.prog 17 #[refV z x y] w fun e w' => ∃ v, e = .returned (.agg #[.int .i64 c, v]) ∧ OwnT w' w.heap.size v m R ∧ Below w.heap.size w w')
    (him : ∀ w, Calls Try.prog 10 #[refV z x y] w fun e w' => ∃ v, e = .returned (.agg #[.int .i64 c, v]) ∧ OwnT w' w.heap.size v m R ∧ Below w.heap.size w w') :
    Calls Try.prog 6 #[refV z x y] w fun e w' => e = .returned (.bool true) ∧ Below w.heap.size w w' := by
  have Hsp := (show Hid _ from hsp)
  have Him := (show Hid _ from him)
  clear hsp him
  go_enter Try.func6, Try.ntmps6
  go_wp2_with fail
  generalize hW : (w.alloc _ : World) = W
  have hB0 : Below w.heap.size w W := by subst hW; (repeat (first | exact Below.refl _ _ | assumption | refine Below.drew ?_ | refine bl_alloc ?_ _ | refine bl_then ?_ (by assumption) | refine Below.setCell ?_ (by first | omega | (simp; done) | (simp; omega)) _ | refine bl_store ?_ ?_ _ _))
  have c00 : ∀ W', Below W.heap.size W W' → W'.cell? ⟨w.heap.size, 0, none⟩ = some (.int .i64 z) := fun W' h => by
    rw [h.cell (by subst hW; simp <;> omega)]; subst hW; simp [go_sem]
  have c01 : ∀ W', Below W.heap.size W W' → W'.cell? ⟨w.heap.size, 1, none⟩ = some (.int .i64 x) := fun W' h => by
    rw [h.cell (by subst hW; simp <;> omega)]; subst hW; simp [go_sem]
  have c02 : ∀ W', Below W.heap.size W W' → W'.cell? ⟨w.heap.size, 2, none⟩ = some (.int .i64 y) := fun W' h => by
    rw [h.cell (by subst hW; simp <;> omega)]; subst hW; simp [go_sem]
  clear hW
  have HB0 : Hid (Below w.heap.size w W) := hB0
  have hle0 := hB0.size
  clear hB0
  have hlt : w.heap.size < W.heap.size := World.block_lt_of_cell? _ _ (c00 W (Below.refl _ _))
  refine (toRef_any _ _ _ _).mono ?_
  rintro e wa ⟨rfl, hba⟩
  go_wp2_with fail
  refine (Hsp.out _).mono ?_
  rintro e w2 ⟨v0, rfl, hO2, hb2⟩
  obtain ⟨a0, cap0, rfl, hc0, hI0⟩ := hO2.pts
  have hB2 : Below W.heap.size W w2 := bl_then hba hb2
  have HI2 : Hid (IsRs w2 a0 m R) := hI0
  clear hba hb2 hI0 hO2
  have k0 := c00 w2 hB2
  have k1 := c01 w2 hB2
  have k2 := c02 w2 hB2
  have hlt2 : w.heap.size < w2.heap.size := World.block_lt_of_cell? _ _ k0
  go_wp2_with fail
  generalize hW3 : (w2.alloc _ : World) = w3
  have hb23 : Below w2.heap.size w2 w3 := by subst hW3; (repeat (first | exact Below.refl _ _ | assumption | refine Below.drew ?_ | refine bl_alloc ?_ _ | refine bl_then ?_ (by assumption) | refine Below.setCell ?_ (by first | omega | (simp; done) | (simp; omega)) _ | refine bl_store ?_ ?_ _ _))
  have c0 : ∀ W', Below w3.heap.size w3 W' → W'.cell? ⟨w2.heap.size, 0, none⟩ = some (.int .i64 c) := fun W' h => by
    rw [h.cell (by subst hW3; simp)]; subst hW3; simp [go_sem]
  have c1 : ∀ W', Below w3.heap.size w3 W' → W'.cell? ⟨w2.heap.size, 1, none⟩ = some (.slice a0 m cap0) := fun W' h => by
    rw [h.cell (by subst hW3; simp)]; subst hW3; simp [go_sem]
  have hs23 : w2.heap.size < w3.heap.size := by subst hW3; simp
  clear hW3
  have hB3 : Below W.heap.size W w3 := bl_then hB2 hb23
  have HI3 : Hid (UnderT w3.heap.size w3 a0 m R) := HI2.out.below hb23
  clear hb23 hB2 HI2 k0 k1 k2
  refine (toRef_any _ _ _ _).mono ?_
  rintro e w4 ⟨rfl, hb4⟩
  go_wp2_with fail
  refine (Him.out _).mono ?_
  rintro e w5 ⟨v1, rfl, hO5, hb5⟩
  obtain ⟨a1, cap1, rfl, hc1, hI1⟩ := hO5.pts
  have hB5 : Below w3.heap.size w3 w5 := bl_then hb4 hb5
  have HO5 : Hid (OwnT w5 w4.heap.size (.slice a1 m cap1) m R) := hO5
  have HU5 : Hid (UnderT w5.heap.size w5 a1 m R) := hI1
  have hle34 := hb4.size
  have hle45 := hb5.size
  clear hb4 hb5 hO5 hI1
  have k0' := c0 w5 hB5
  have k1' := c1 w5 hB5
  have hlw : w2.heap.size < w5.heap.size := World.block_lt_of_cell? _ _ k0'
  go_wp2_with fail
  generalize hW6 : (w5.alloc _ : World) = w6
  have hb56 : Below w5.heap.size w5 w6 := by subst hW6; (repeat (first | exact Below.refl _ _ | assumption | refine Below.drew ?_ | refine bl_alloc ?_ _ | refine bl_then ?_ (by assumption) | refine Below.setCell ?_ (by first | omega | (simp; done) | (simp; omega)) _ | refine bl_store ?_ ?_ _ _))
  have d0 : ∀ W', Below w6.heap.size w6 W' → W'.cell? ⟨w5.heap.size, 0, none⟩ = some (.int .i64 c) := fun W' h => by
    rw [h.cell (by subst hW6; simp)]; subst hW6; simp [go_sem]
  have d1 : ∀ W', Below w6.heap.size w6 W' → W'.cell? ⟨w5.heap.size, 1, none⟩ = some (.slice a1 m cap1) := fun W' h => by
    rw [h.cell (by subst hW6; simp)]; subst hW6; simp [go_sem]
  have hs56 : w5.heap.size < w6.heap.size := by subst hW6; simp
  clear hW6 k0' k1'
  have hB6 : Below w3.heap.size w3 w6 := bl_then hB5 hb56
  have HO6 : Hid (OwnT w6 w4.heap.size (.slice a1 m cap1) m R) := HO5.out.below hb56
  have HI6 : Hid (UnderT w3.heap.size w6 a0 m R) := HI3.out.below hB6 (Nat.le_refl _)
  clear hb56 HO5 hB5
  have hle36 := hB6.size
  refine (eqRefsResult_any c _ _ _ _ _ R _ HO6.out.is (HI6.out.is hle36) hm).mono ?_
  rintro e wb ⟨rfl, hbb⟩
  have hB6b : Below w3.heap.size w3 wb := bl_then hB6 hbb
  have g0 := d0 wb hbb
  have g1 := d1 wb hbb
  have p0 := c0 wb hB6b
  have p1 := c1 wb hB6b
  have r0 := c00 wb (bl_then hB3 hB6b)
  have r1 := c01 wb (bl_then hB3 hB6b)
  have r2 := c02 wb (bl_then hB3 hB6b)
  have hwb := hbb.size
  have HOb : Hid (OwnT wb w4.heap.size (.slice a1 m cap1) m R) := HO6.out.below hbb
  have HIb : Hid (UnderT w3.heap.size wb a0 m R) := HI6.out.below hbb (by omega)
  have hle3 := hB3.size
  have HBb : Hid (Below w.heap.size w wb) := bl_then HB0.out (bl_then hB3 hB6b)
  clear c00 c01 c02 c0 c1 d0 d1 HO6 HI6 HI3 hbb hB6b hB6 hB3
  -- the answer is marked
  obtain ⟨row, hrow, Hmark⟩ := mark_ownT c w4.heap.size w5.heap.size m cap1 a1 R R wb w5 HOb.out HU5.out hm
  have Hmark' := (show Hid _ from Hmark)
  have Hrow := (show Hid _ from hrow)
  clear Hmark hrow
  have hqm : ¬ ((1 + 3 * m : Nat) : Int) < 0 := by omega
  have Hheld : Hid (∀ w, OwnT w w4.heap.size (.slice a1 m cap1) m (mkR 1) → Calls Try.prog 23 #[.agg #[.int .i64 c, .slice a1 m cap1], .int .i64 1] w fun e w' => e = .returned (.int .i64 ((1 + 3 * m : Nat) : Int)) ∧ Below w.heap.size w w') := fun w h => heldRefsResult_any c a1 m cap1 w h.is hm
  generalize ((1 + 3 * m : Nat) : Int) = qm at *
  go_wp2_with fail
  refine Calls.mono Hmark'.out ?_
  rintro e wc ⟨rfl, hGc, hOc⟩
  have hwc := hGc.size
  have l0 : wc.cell? ⟨w5.heap.size, 0, none⟩ = some (.int .i64 c) := ro_cellR hGc g0 (fun s hs => by have := Hrow.out s hs; omega)
  have l1 : wc.cell? ⟨w5.heap.size, 1, none⟩ = some (.slice a1 m cap1) := ro_cellR hGc g1 (fun s hs => by have := Hrow.out s hs; omega)
  have m0 : wc.cell? ⟨w2.heap.size, 0, none⟩ = some (.int .i64 c) := ro_cellR hGc p0 (fun s hs => by have := Hrow.out s hs; omega)
  have m1 : wc.cell? ⟨w2.heap.size, 1, none⟩ = some (.slice a0 m cap0) := ro_cellR hGc p1 (fun s hs => by have := Hrow.out s hs; omega)
  have n0 : wc.cell? ⟨w.heap.size, 0, none⟩ = some (.int .i64 z) := ro_cellR hGc r0 (fun s hs => by have := Hrow.out s hs; omega)
  have n1 : wc.cell? ⟨w.heap.size, 1, none⟩ = some (.int .i64 x) := ro_cellR hGc r1 (fun s hs => by have := Hrow.out s hs; omega)
  have n2 : wc.cell? ⟨w.heap.size, 2, none⟩ = some (.int .i64 y) := ro_cellR hGc r2 (fun s hs => by have := Hrow.out s hs; omega)
  have HOc : Hid (OwnT wc w4.heap.size (.slice a1 m cap1) m (mkR 1)) := hOc
  have HIc : Hid (UnderT w3.heap.size wc a0 m R) := HIb.out.row hGc (fun s hs => by have := Hrow.out s hs; omega)
  have HBc : Hid (Below w.heap.size w wc) := HBb.out.trans (below_rowR hGc (fun s hs => by have := Hrow.out s hs; omega) (by omega))
  clear g0 g1 p0 p1 r0 r1 r2 hOc hGc HBb HIb HOb Hmark'
  go_wp2_with fail
  refine (Hheld.out _ HOc.out).mono ?_
  rintro e wd ⟨rfl, hbd⟩
  have hwd := hbd.size
  have g0 := bl_cellR hbd l0
  have g1 := bl_cellR hbd l1
  have p0 := bl_cellR hbd m0
  have p1 := bl_cellR hbd m1
  have r0 := bl_cellR hbd n0
  have r1 := bl_cellR hbd n1
  have r2 := bl_cellR hbd n2
  have HOd : Hid (OwnT wd w4.heap.size (.slice a1 m cap1) m (mkR 1)) := HOc.out.below hbd
  have HId : Hid (UnderT w3.heap.size wd a0 m R) := HIc.out.below hbd (by omega)
  have HBd : Hid (Below w.heap.size w wd) := bl_then HBc.out hbd
  clear l0 l1 m0 m1 n0 n1 n2 HOc HIc HBc hbd
  go_wp2_with fail
  -- once more
  refine (toRef_any _ _ _ _).mono ?_
  rintro e we ⟨rfl, hbe⟩
  go_wp2_with fail
  refine (Him.out _).mono ?_
  rintro e wf ⟨vf, rfl, hOf, hbf⟩
  obtain ⟨af, capf, rfl, hcf, hIf⟩ := hOf.pts
  have hbdf := bl_then hbe hbf
  have hwf := hbdf.size
  have l0 := bl_cellR hbdf g0
  have l1 := bl_cellR hbdf g1
  have m0 := bl_cellR hbdf p0
  have m1 := bl_cellR hbdf p1
  have HOf : Hid (OwnT wf w4.heap.size (.slice a1 m cap1) m (mkR 1)) := HOd.out.below hbdf
  have HIf : Hid (UnderT w3.heap.size wf a0 m R) := HId.out.below hbdf (by omega)
  have HBf : Hid (Below w.heap.size w wf) := bl_then HBd.out hbdf
  have HJf : Hid (IsRs wf af m R) := hIf
  clear g0 g1 p0 p1 r0 r1 r2 HOd HId HBd hbdf hIf hOf hbe hbf
  have hlw2 := World.block_lt_of_cell? _ _ m0
  have hlw5 := World.block_lt_of_cell? _ _ l0
  go_wp2_with fail
  generalize hWg : (wf.alloc _ : World) = wg
  have hbg : Below wf.heap.size wf wg := by subst hWg; (repeat (first | exact Below.refl _ _ | assumption | refine Below.drew ?_ | refine bl_alloc ?_ _ | refine bl_then ?_ (by assumption) | refine Below.setCell ?_ (by first | omega | (simp; done) | (simp; omega)) _ | refine bl_store ?_ ?_ _ _))
  clear hWg
  have g0 := bl_cellR hbg l0
  have g1 := bl_cellR hbg l1
  have hwg := hbg.size
  refine (eqRefsResult_any c _ _ _ _ _ R _ (HJf.out.below hbg) ((HIf.out.below hbg (by omega)).is (by omega)) hm).mono ?_
  rintro e wh ⟨rfl, hbh⟩
  have hbfh := bl_then hbg hbh
  have HOh : Hid (OwnT wh w4.heap.size (.slice a1 m cap1) m (mkR 1)) := HOf.out.below hbfh
  have HBh : Hid (Below w.heap.size w wh) := bl_then HBf.out hbfh
  have k0 := bl_cellR hbh g0
  have k1 := bl_cellR hbh g1
  clear l0 l1 m0 m1 g0 g1 HOf HIf HBf HJf hbfh hbg hbh
  go_wp2_with fail
  refine (Hheld.out _ HOh.out).mono ?_
  rintro e wi ⟨rfl, hbi⟩
  have HBi : Hid (Below w.heap.size w wi) := bl_then HBh.out hbi
  clear hbi
  go_wp2
  go_ret
  exact ⟨rfl, HBi.out⟩

theorem FnExactKidsOf_walk (z x y : Int) (w : World) :
    Calls Try.prog 6 #[refV z x y] w fun e w' => e = .returned (.bool true) ∧ Below w.heap.size w w' :=
  FnExactKidsOf_law (kidC z x y) z x y (kidN z x y) (kidR z x y) w (by unfold kidN; split; split <;> omega; omega) (fun w => spec_KidsOf_any z x y w) (fun w => impl_KidsOf_any z x y w)
end Go.Proofs.Yteeijaacecicdaa
