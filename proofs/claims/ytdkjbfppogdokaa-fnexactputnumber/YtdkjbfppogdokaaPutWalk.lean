/- The law of PutNumber returns true at every number. -/
import Derived.Test.YtdkjbfppogdokaaPn
namespace Go.Proofs.Ytdkjbfppogdokaa
open Go.RowKit
set_option linter.unusedSimpArgs false
set_option linter.unusedVariables false
set_option maxRecDepth 100000

theorem OwnB.row {w w' : World} {base : Nat} {v : Value} {n : Nat} {Z : Nat → Int} {row : Option Nat} (h : OwnB w base v n Z) (hg : w.grownBy w' row) (hs : ∀ s, row = some s → s < base) : OwnB w' base v n Z := by
  obtain ⟨a, cap, hv, hc, h0 | ⟨b, ha, hbb, hl, hp, ht⟩⟩ := h
  · exact ⟨a, cap, hv, hc, .inl h0⟩
  · have hne : some b ≠ row := fun e => by have := hs b e.symm; omega
    refine ⟨a, cap, hv, hc, .inr ⟨b, ha, hbb, Nat.lt_of_lt_of_le hl hg.size, fun i hi => hg.cell (hp i hi) hne, fun o ho => ?_⟩⟩
    obtain ⟨⟨u, hu⟩, hf⟩ := ht o ho
    exact ⟨⟨u, hg.cell hu hne⟩, (World.frozen?_of_block (a := ⟨b, o, none⟩) (hg.block b hl hne)).trans hf⟩

set_option maxHeartbeats 4000000 in
theorem FnExactPutNumber_law (c z : Int) (m : Nat) (Z : Nat → Int) (w : World) (hm : m ≤ 1048576)
    (hsp : ∀ w, Calls Try.prog 19 #[.int .i64 z] w fun e w' => ∃ v, e = .returned (.agg #[.int .i64 c, v]) ∧ OwnB w' w.heap.size v m Z ∧ Below w.heap.size w w')
    (him : ∀ w, Calls Try.prog 12 #[.int .i64 z] w fun e w' => ∃ v, e = .returned (.agg #[.int .i64 c, v]) ∧ OwnB w' w.heap.size v m Z ∧ Below w.heap.size w w') :
    Calls Try.prog 4 #[.int .i64 z] w fun e w' => e = .returned (.bool true) ∧ Below w.heap.size w w' := by
  have Hsp := (show Hid _ from hsp)
  have Him := (show Hid _ from him)
  clear hsp him
  go_enter Try.func4, Try.ntmps4
  go_wp2_with fail
  refine (Hsp.out _).mono ?_
  rintro e w2 ⟨v0, rfl, hO2, hB2⟩
  obtain ⟨a0, cap0, rfl, hc0, hI0⟩ := hO2.pts
  have HI2 : Hid (IsBytes w2 a0 m Z) := hI0
  clear hI0 hO2
  go_wp2_with fail
  generalize hW3 : (w2.alloc _ : World) = w3
  have hb23 : Below w2.heap.size w2 w3 := by subst hW3; (repeat (first | exact Below.refl _ _ | assumption | refine Below.drew ?_ | refine bl_alloc ?_ _ | refine bl_then ?_ (by assumption) | refine Below.setCell ?_ (by first | omega | (simp; done) | (simp; omega)) _ | refine bl_store ?_ ?_ _ _))
  have c0 : ∀ W', Below w3.heap.size w3 W' → W'.cell? ⟨w2.heap.size, 0, none⟩ = some (.int .i64 c) := fun W' h => by
    rw [h.cell (by subst hW3; simp)]; subst hW3; simp [go_sem]
  have c1 : ∀ W', Below w3.heap.size w3 W' → W'.cell? ⟨w2.heap.size, 1, none⟩ = some (.slice a0 m cap0) := fun W' h => by
    rw [h.cell (by subst hW3; simp)]; subst hW3; simp [go_sem]
  have hs23 : w2.heap.size < w3.heap.size := by subst hW3; simp
  clear hW3
  have hB3 : Below w.heap.size w w3 := bl_then hB2 hb23
  have HI3 : Hid (UnderB w3.heap.size w3 a0 m Z) := HI2.out.below hb23
  clear hb23 hB2 HI2
  refine (Him.out _).mono ?_
  rintro e w5 ⟨v1, rfl, hO5, hB5⟩
  obtain ⟨a1, cap1, rfl, hc1, hI1⟩ := hO5.pts
  have HO5 : Hid (OwnB w5 w3.heap.size (.slice a1 m cap1) m Z) := hO5
  have HU5 : Hid (UnderB w5.heap.size w5 a1 m Z) := hI1
  have hle45 := hB5.size
  clear hO5 hI1
  have k0 := c0 w5 hB5
  have k1 := c1 w5 hB5
  have hlw : w2.heap.size < w5.heap.size := World.block_lt_of_cell? _ _ k0
  go_wp2_with fail
  generalize hW6 : (w5.alloc _ : World) = w6
  have hb56 : Below w5.heap.size w5 w6 := by subst hW6; (repeat (first | exact Below.refl _ _ | assumption | refine Below.drew ?_ | refine bl_alloc ?_ _ | refine bl_then ?_ (by assumption) | refine Below.setCell ?_ (by first | omega | (simp; done) | (simp; omega)) _ | refine bl_store ?_ ?_ _ _))
  have d0 : ∀ W', Below w6.heap.size w6 W' → W'.cell? ⟨w5.heap.size, 0, none⟩ = some (.int .i64 c) := fun W' h => by
    rw [h.cell (by subst hW6; simp)]; subst hW6; simp [go_sem]
  have d1 : ∀ W', Below w6.heap.size w6 W' → W'.cell? ⟨w5.heap.size, 1, none⟩ = some (.slice a1 m cap1) := fun W' h => by
    rw [h.cell (by subst hW6; simp)]; subst hW6; simp [go_sem]
  have hs56 : w5.heap.size < w6.heap.size := by subst hW6; simp
  clear hW6 k0 k1
  have hB6 : Below w3.heap.size w3 w6 := bl_then hB5 hb56
  have HO6 : Hid (OwnB w6 w3.heap.size (.slice a1 m cap1) m Z) := HO5.out.below hb56
  have HI6 : Hid (UnderB w3.heap.size w6 a0 m Z) := HI3.out.below hB6 (Nat.le_refl _)
  clear hb56 HO5 hB5
  have hle36 := hB6.size
  refine (eqBytesResult_any c _ _ _ _ _ Z _ HO6.out.is (HI6.out.is hle36) hm).mono ?_
  rintro e w7 ⟨rfl, hb7⟩
  have HO7 : Hid (OwnB w7 w3.heap.size (.slice a1 m cap1) m Z) := HO6.out.below hb7
  have HI7 : Hid (UnderB w3.heap.size w7 a0 m Z) := HI6.out.below hb7 (by omega)
  have g0 : w7.cell? ⟨w5.heap.size, 0, none⟩ = some (.int .i64 c) := d0 w7 hb7
  have g1 : w7.cell? ⟨w5.heap.size, 1, none⟩ = some (.slice a1 m cap1) := d1 w7 hb7
  have p0 : w7.cell? ⟨w2.heap.size, 0, none⟩ = some (.int .i64 c) := c0 w7 (bl_then hB6 hb7)
  have p1 : w7.cell? ⟨w2.heap.size, 1, none⟩ = some (.slice a0 m cap0) := c1 w7 (bl_then hB6 hb7)
  have HB7 : Hid (Below w.heap.size w w7) := bl_then hB3 (bl_then hB6 hb7)
  have hle37 : w3.heap.size ≤ w7.heap.size := Nat.le_trans hle36 hb7.size
  have hle03 := hB3.size
  clear c0 c1 d0 d1 HO6 HI6 hb7 hB6 hB3 HI3
  -- the answer is marked
  obtain ⟨row, hrow, Hmark⟩ := mark_ownB c w3.heap.size w5.heap.size m cap1 a1 Z Z w7 w5 HO7.out HU5.out hm
  have Hmark' := (show Hid _ from Hmark)
  have Hrow := (show Hid _ from hrow)
  clear Hmark hrow
  have hqm : ¬ ((1 + m : Nat) : Int) < 0 := by omega
  have Hheld : Hid (∀ w, OwnB w w3.heap.size (.slice a1 m cap1) m (mkB 1) → Calls Try.prog 22 #[.agg #[.int .i64 c, .slice a1 m cap1], .int .i64 1] w fun e w' => e = .returned (.int .i64 ((1 + m : Nat) : Int)) ∧ Below w.heap.size w w') := fun w h => heldBytesResult_any c a1 m cap1 w h.is hm
  generalize ((1 + m : Nat) : Int) = qm at *
  go_wp2_with fail
  refine Calls.mono Hmark'.out ?_
  rintro e wc ⟨rfl, hGc, hOc⟩
  have hwc := hGc.size
  have l0 : wc.cell? ⟨w5.heap.size, 0, none⟩ = some (.int .i64 c) := ro_cellB hGc g0 (fun s hs => by have := Hrow.out s hs; omega)
  have l1 : wc.cell? ⟨w5.heap.size, 1, none⟩ = some (.slice a1 m cap1) := ro_cellB hGc g1 (fun s hs => by have := Hrow.out s hs; omega)
  have m0 : wc.cell? ⟨w2.heap.size, 0, none⟩ = some (.int .i64 c) := ro_cellB hGc p0 (fun s hs => by have := Hrow.out s hs; omega)
  have m1 : wc.cell? ⟨w2.heap.size, 1, none⟩ = some (.slice a0 m cap0) := ro_cellB hGc p1 (fun s hs => by have := Hrow.out s hs; omega)
  have HOc : Hid (OwnB wc w3.heap.size (.slice a1 m cap1) m (mkB 1)) := hOc
  have HIc : Hid (UnderB w3.heap.size wc a0 m Z) := HI7.out.row hGc (fun s hs => by have := Hrow.out s hs; omega)
  have HBc : Hid (Below w.heap.size w wc) := HB7.out.trans (below_rowB hGc (fun s hs => by have := Hrow.out s hs; omega) (by omega))
  clear g0 g1 p0 p1 hOc hGc HB7 HI7 HO7 Hmark'
  go_wp2_with fail
  refine (Hheld.out _ HOc.out).mono ?_
  rintro e wd ⟨rfl, hbd⟩
  have hwd := hbd.size
  have g0 := bl_cellB hbd l0
  have g1 := bl_cellB hbd l1
  have p0 := bl_cellB hbd m0
  have p1 := bl_cellB hbd m1
  have HOd : Hid (OwnB wd w3.heap.size (.slice a1 m cap1) m (mkB 1)) := HOc.out.below hbd
  have HId : Hid (UnderB w3.heap.size wd a0 m Z) := HIc.out.below hbd (by omega)
  have HBd : Hid (Below w.heap.size w wd) := bl_then HBc.out hbd
  clear l0 l1 m0 m1 HOc HIc HBc hbd
  go_wp2_with fail
  -- once more
  refine (Him.out _).mono ?_
  rintro e wf ⟨vf, rfl, hOf, hbf⟩
  obtain ⟨af, capf, rfl, hcf, hIf⟩ := hOf.pts
  have hwf := hbf.size
  have l0 := bl_cellB hbf g0
  have l1 := bl_cellB hbf g1
  have m0 := bl_cellB hbf p0
  have m1 := bl_cellB hbf p1
  have HOf : Hid (OwnB wf w3.heap.size (.slice a1 m cap1) m (mkB 1)) := HOd.out.below hbf
  have HIf : Hid (UnderB w3.heap.size wf a0 m Z) := HId.out.below hbf (by omega)
  have HBf : Hid (Below w.heap.size w wf) := bl_then HBd.out hbf
  have HJf : Hid (IsBytes wf af m Z) := hIf
  clear g0 g1 p0 p1 HOd HId HBd hIf hOf hbf
  have hlw2 := World.block_lt_of_cell? _ _ m0
  have hlw5 := World.block_lt_of_cell? _ _ l0
  go_wp2_with fail
  generalize hWg : (wf.alloc _ : World) = wg
  have hbg : Below wf.heap.size wf wg := by subst hWg; (repeat (first | exact Below.refl _ _ | assumption | refine Below.drew ?_ | refine bl_alloc ?_ _ | refine bl_then ?_ (by assumption) | refine Below.setCell ?_ (by first | omega | (simp; done) | (simp; omega)) _ | refine bl_store ?_ ?_ _ _))
  clear hWg
  have g0 := bl_cellB hbg l0
  have g1 := bl_cellB hbg l1
  have hwg := hbg.size
  refine (eqBytesResult_any c _ _ _ _ _ Z _ (HJf.out.below hbg) ((HIf.out.below hbg (by omega)).is (by omega)) hm).mono ?_
  rintro e wh ⟨rfl, hbh⟩
  have hbfh := bl_then hbg hbh
  have HOh : Hid (OwnB wh w3.heap.size (.slice a1 m cap1) m (mkB 1)) := HOf.out.below hbfh
  have HBh : Hid (Below w.heap.size w wh) := bl_then HBf.out hbfh
  have k0 := bl_cellB hbh g0
  have k1 := bl_cellB hbh g1
  clear l0 l1 m0 m1 g0 g1 HOf HIf HBf HJf hbfh hbg hbh
  go_wp2_with fail
  refine (Hheld.out _ HOh.out).mono ?_
  rintro e wi ⟨rfl, hbi⟩
  have HBi : Hid (Below w.heap.size w wi) := bl_then HBh.out hbi
  clear hbi
  go_wp2
  go_ret
  exact ⟨rfl, HBi.out⟩

theorem FnExactPutNumber_walk (z : Int) (w : World) :
    Calls Try.prog 4 #[.int .i64 z] w fun e w' => e = .returned (.bool true) ∧ Below w.heap.size w w' := by
  have hl : (pnL z).length ≤ 1048576 := by
    unfold pnL
    split
    · rename_i h
      have hb : 0 ≤ z ∧ z ≤ 1099511627776 := by simpa [inB] using h
      exact Nat.le_trans (putI_len6 z.toNat (by omega)) (by omega)
    · simp
  exact FnExactPutNumber_law (pnC z) z (pnL z).length (zz (pnL z)) w hl
    (fun w => (spec_PutNumber_any z w).mono fun e w' ⟨v, he, hr, hbl⟩ => ⟨v, he, hr.own, hbl⟩)
    (fun w => (impl_PutNumber_any z w).mono fun e w' ⟨v, he, hr, hbl⟩ => ⟨v, he, hr.own, hbl⟩)
end Go.Proofs.Ytdkjbfppogdokaa
