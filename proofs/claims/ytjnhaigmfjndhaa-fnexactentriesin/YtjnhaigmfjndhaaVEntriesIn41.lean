/- The law of EntriesIn returns true at every list of quads. -/
import Derived.Test.YtjnhaigmfjndhaaVEntriesIn36
import Derived.Test.YtjnhaigmfjndhaaVEntriesIn39
import Derived.Test.YtjnhaigmfjndhaaVEntriesIn40
namespace Go.Proofs.Ytjnhaigmfjndhaa
open Go.RowKit
set_option linter.unusedSimpArgs false
set_option linter.unusedVariables false
set_option maxRecDepth 100000

set_option maxHeartbeats 8000000 in
theorem FnExactEntriesIn_law (c : Int) (a : Option Addr) (n cap m : Nat) (Q : Nat → Qd) (Z : Nat → Ent) (w : World) (hI : IsQs w a n Q) (hC : CameQs n Q) (hm : m ≤ 1048576)
    (hsp : SmallQs n Q → ∀ b B A w, OwnQs w B b n Q A → Calls Try.prog 15 #[.slice (some ⟨b, 0, none⟩) n n] w fun e w' => ∃ v, e = .returned (.agg #[.int .i64 c, v]) ∧ OwnE w' w.heap.size v m Z ∧ Below w.heap.size w w')
    (him : SmallQs n Q → ∀ b B A w, OwnQs w B b n Q A → Calls Try.prog 16 #[.slice (some ⟨b, 0, none⟩) n n] w fun e w' => ∃ v, e = .returned (.agg #[.int .i64 c, v]) ∧ OwnE w' w.heap.size v m Z ∧ Below w.heap.size w w') :
    Calls Try.prog 4 #[.slice a n cap] w fun e w' => e = .returned (.bool true) ∧ Below w.heap.size w w' := by
  have HI : Hid (IsQs w a n Q) := hI
  have HZ : Hid (Calls Try.prog 5 #[.slice a n cap, .int .i64 1048576] w fun e w' => (e = .returned (.int .i64 (-1)) ∨ ∃ m : Nat, SmallQs n Q ∧ e = .returned (.int .i64 m)) ∧ Below w.heap.size w w') := szQuadS_any a n cap Q w hI hC
  have Hsp0 := (show Hid _ from hsp)
  have Him0 := (show Hid _ from him)
  clear hI hC hsp him
  go_enter Try.func4, Try.ntmps4
  go_wp2_with fail
  refine Calls.mono HZ.out ?_
  rintro e w0 ⟨rfl | ⟨k0, hS, rfl⟩, hb0⟩
  · go_wp2
    go_ret
    exact ⟨rfl, hb0⟩
  have Hsp : Hid (∀ b B A w, OwnQs w B b n Q A → Calls Try.prog 15 #[.slice (some ⟨b, 0, none⟩) n n] w fun e w' => ∃ v, e = .returned (.agg #[.int .i64 c, v]) ∧ OwnE w' w.heap.size v m Z ∧ Below w.heap.size w w') := Hsp0.out hS
  have Him : Hid (∀ b B A w, OwnQs w B b n Q A → Calls Try.prog 16 #[.slice (some ⟨b, 0, none⟩) n n] w fun e w' => ∃ v, e = .returned (.agg #[.int .i64 c, v]) ∧ OwnE w' w.heap.size v m Z ∧ Below w.heap.size w w') := Him0.out hS
  obtain ⟨hn, hen, hall⟩ := hS
  have HE : Hid (∀ i, i < n → (Q i).en ≤ 1048576) := hen
  have HA : Hid ((allE Q n).length ≤ 1048576) := hall
  have hk0 : ¬ (k0 : Int) < 0 := by omega
  clear HZ hen hall Hsp0 Him0
  go_wp2_with fail
  refine (toQuadS_any a n cap Q _ (HI.out.below hb0) hn HE.out).mono ?_
  rintro e w1 ⟨b1, A1, rfl, hO1, _, hb1⟩
  have HO1 : Hid (OwnQs w1 w0.heap.size b1 n Q A1) := hO1
  have hB1 := bl_then hb0 hb1
  clear hO1 hb1 hb0
  go_wp2_with fail
  refine (Hsp.out _ _ _ _ HO1.out).mono ?_
  rintro e w2 ⟨v0, rfl, hO2, hb2⟩
  obtain ⟨a0, cap0, rfl, hc0, hI0⟩ := hO2.pts
  have hB2 := bl_then hB1 hb2
  have HI2 : Hid (IsEs w2 a0 m Z) := hI0
  clear hb2 HO1 hI0 hO2 hB1
  go_wp2_with fail
  generalize hW3 : (w2.alloc _ : World) = w3
  have hb23 : Below w2.heap.size w2 w3 := by subst hW3; (repeat (first | exact Below.refl _ _ | assumption | refine Below.drew ?_ | refine bl_alloc ?_ _ | refine bl_then ?_ (by assumption) | refine Below.setCell ?_ (by first | omega | (simp; done) | (simp; omega)) _ | refine bl_store ?_ ?_ _ _))
  have c0 : ∀ W', Below w3.heap.size w3 W' → W'.cell? ⟨w2.heap.size, 0, none⟩ = some (.int .i64 c) := fun W' h => by
    rw [h.cell (by subst hW3; simp)]; subst hW3; simp [go_sem]
  have c1 : ∀ W', Below w3.heap.size w3 W' → W'.cell? ⟨w2.heap.size, 1, none⟩ = some (.slice a0 m cap0) := fun W' h => by
    rw [h.cell (by subst hW3; simp)]; subst hW3; simp [go_sem]
  have hs23 : w2.heap.size < w3.heap.size := by subst hW3; simp
  clear hW3
  have hB3 : Below w.heap.size w w3 := bl_then hB2 hb23
  have HI3 : Hid (UnderE w3.heap.size w3 a0 m Z) := HI2.out.below hb23
  clear hb23 hB2 HI2
  refine (toQuadS_any a n cap Q _ (HI.out.below hB3) hn HE.out).mono ?_
  rintro e w4 ⟨b4, A4, rfl, hO4, hT4, hb4⟩
  have HO4 : Hid (OwnQs w4 w3.heap.size b4 n Q A4) := hO4
  have HM4 : Hid (MidQ w4 w3.heap.size w4.heap.size b4 n Q A4) := hO4.mid hT4
  have hle34 := hb4.size
  clear hO4 hT4
  go_wp2_with fail
  refine (Him.out _ _ _ _ HO4.out).mono ?_
  rintro e w5 ⟨v1, rfl, hO5, hb5⟩
  obtain ⟨a1, cap1, rfl, hc1, hI1⟩ := hO5.pts
  have hB5 : Below w3.heap.size w3 w5 := bl_then hb4 hb5
  have HO4' : Hid (OwnQs w5 w3.heap.size b4 n Q A4) := HO4.out.below hb5
  have HM5 : Hid (MidQ w5 w3.heap.size w4.heap.size b4 n Q A4) := HM4.out.below hb5
  have HO5 : Hid (OwnE w5 w4.heap.size (.slice a1 m cap1) m Z) := hO5
  have HU5 : Hid (UnderE w5.heap.size w5 a1 m Z) := hI1
  have hle45 := hb5.size
  clear hb4 hb5 HO4 HM4 hO5 hI1
  have k0' := c0 w5 hB5
  have k1' := c1 w5 hB5
  have hlw : w2.heap.size < w5.heap.size := World.block_lt_of_cell? _ _ k0'
  go_wp2_with fail
  generalize hW6 : (w5.alloc _ : World) = w6
  have hb56 : Below w5.heap.size w5 w6 := by subst hW6; (repeat (first | exact Below.refl _ _ | assumption | refine Below.drew ?_ | refine bl_alloc ?_ _ | refine bl_then ?_ (by assumption) | refine Below.setCell ?_ (by first | omega | (simp; done) | (simp; omega)) _ | refine bl_store ?_ ?_ _ _))
  have d0 : ∀ W', Below w6.heap.size w6 W' → W'.cell? ⟨w5.heap.size, 0, none⟩ = some (.int .i64 c) := fun W' h => by
    rw [h.cell (by subst hW6; simp)]; subst hW6; simp [go_sem]
  have d1 : ∀ W', Below w6.heap.size w6 W' → W'.cell? ⟨w5.heap.size, 1, none⟩ = some (.slice a1 m cap1) := fun W' h => by
    rw [h.cell (by subst hW6; simp)]; subst hW6; simp [go_sem]
  have hs56 : w5.heap.size < w6.heap.size := by subst hW6; simp
  clear hW6 k0' k1'
  have hB6 : Below w3.heap.size w3 w6 := bl_then hB5 hb56
  have HO6 : Hid (OwnE w6 w4.heap.size (.slice a1 m cap1) m Z) := HO5.out.below hb56
  have HQ6 : Hid (OwnQs w6 w3.heap.size b4 n Q A4) := HO4'.out.below hb56
  have HM6 : Hid (MidQ w6 w3.heap.size w4.heap.size b4 n Q A4) := HM5.out.below hb56
  have HI6 : Hid (UnderE w3.heap.size w6 a0 m Z) := HI3.out.below hB6 (Nat.le_refl _)
  clear hb56 HO5 HO4' HM5 hB5
  have hle36 := hB6.size
  refine (eqEntriesResult_any c _ _ _ _ _ Z _ HO6.out.is (HI6.out.is hle36) hm).mono ?_
  rintro e w7 ⟨rfl, hb7⟩
  have HO7 : Hid (OwnE w7 w4.heap.size (.slice a1 m cap1) m Z) := HO6.out.below hb7
  have HQ7 : Hid (OwnQs w7 w3.heap.size b4 n Q A4) := HQ6.out.below hb7
  have HM7 : Hid (MidQ w7 w3.heap.size w4.heap.size b4 n Q A4) := HM6.out.below hb7
  have HI7 : Hid (UnderE w3.heap.size w7 a0 m Z) := HI6.out.below hb7 (by omega)
  have hB67 : Below w6.heap.size w6 w7 := hb7
  clear HO6 HQ6 HM6 HI6 hb7
  go_wp2_with fail
  refine (toQuadS_any a n cap Q _ (HI.out.below (bl_then hB3 (bl_then hB6 hB67))) hn HE.out).mono ?_
  rintro e w8 ⟨b8, A8, rfl, hO8, _, hb8⟩
  have HP8 : Hid (OwnQs w8 w7.heap.size b8 n Q A8) := hO8
  have HQ8 : Hid (OwnQs w8 w3.heap.size b4 n Q A4) := HQ7.out.below hb8
  have HM8 : Hid (MidQ w8 w3.heap.size w4.heap.size b4 n Q A4) := HM7.out.below hb8
  have HO8 : Hid (OwnE w8 w4.heap.size (.slice a1 m cap1) m Z) := HO7.out.below hb8
  have HI8 : Hid (UnderE w3.heap.size w8 a0 m Z) := HI7.out.below hb8 (by have := hB67.size; omega)
  have hB68 : Below w6.heap.size w6 w8 := bl_then hB67 hb8
  clear hO8 HQ7 HM7 HO7 HI7 hB67 hb8
  go_wp2_with fail
  refine (eqQuadS_any b4 b8 n _ _ Q A4 A8 _ HQ8.out HP8.out hn HE.out).mono ?_
  rintro e w9 ⟨rfl, hb9⟩
  have HM9 : Hid (MidQ w9 w3.heap.size w4.heap.size b4 n Q A4) := HM8.out.below hb9
  have HO9 : Hid (OwnE w9 w4.heap.size (.slice a1 m cap1) m Z) := HO8.out.below hb9
  have HI9 : Hid (UnderE w3.heap.size w9 a0 m Z) := HI8.out.below hb9 (by have := hB68.size; omega)
  have hB69 : Below w6.heap.size w6 w9 := bl_then hB68 hb9
  clear HP8 HQ8 HM8 HO8 HI8 hB68 hb9
  go_wp2_with fail
  -- the argument is marked
  refine (markQuadS_any w3.heap.size w4.heap.size b4 n Q A4 _ HM9.out hn HE.out HA.out).mono ?_
  rintro e wa ⟨K, rfl, hMa⟩
  have hK0 : ¬ (K : Int) < 0 := by omega
  have hB39 : Below w3.heap.size w3 w9 := bl_then hB6 hB69
  have hle69 := hB69.size
  have hle39 := hB39.size
  have hle03 := hB3.size
  have l0 : wa.cell? ⟨w5.heap.size, 0, none⟩ = some (.int .i64 c) := hMa.cell (d0 w9 hB69) (.inr (by omega))
  have l1 : wa.cell? ⟨w5.heap.size, 1, none⟩ = some (.slice a1 m cap1) := hMa.cell (d1 w9 hB69) (.inr (by omega))
  have m0 : wa.cell? ⟨w2.heap.size, 0, none⟩ = some (.int .i64 c) := hMa.cell (c0 w9 hB39) (.inl (by omega))
  have m1 : wa.cell? ⟨w2.heap.size, 1, none⟩ = some (.slice a0 m cap0) := hMa.cell (c1 w9 hB39) (.inl (by omega))
  have HOa : Hid (OwnE wa w4.heap.size (.slice a1 m cap1) m Z) := HO9.out.mid hMa (Nat.le_refl _)
  have HIa : Hid (UnderE w3.heap.size wa a0 m Z) := HI9.out.mid hMa (Nat.le_refl _)
  have hwa : w9.heap.size ≤ wa.heap.size := hMa.size
  have HBa : Hid (Below w.heap.size w wa) := (bl_then hB3 hB39).trans ((hMa.below (by omega)).mono hle03)
  clear c0 c1 d0 d1 HM9 HO9 HI9 HI3 hMa hB39 hB69 hB6 hB3
  go_wp2_with fail
  refine (eqEntriesResult_any c _ _ _ _ _ Z _ HOa.out.is (HIa.out.is (by omega)) hm).mono ?_
  rintro e wb ⟨rfl, hbb⟩
  have g0 := bl_cell hbb l0
  have g1 := bl_cell hbb l1
  have p0 := bl_cell hbb m0
  have p1 := bl_cell hbb m1
  clear l0 l1 m0 m1
  have hwb := hbb.size
  have HOb : Hid (OwnE wb w4.heap.size (.slice a1 m cap1) m Z) := HOa.out.below hbb
  have HIb : Hid (UnderE w3.heap.size wb a0 m Z) := HIa.out.below hbb (by omega)
  have HBb : Hid (Below w.heap.size w wb) := bl_then HBa.out hbb
  clear HOa HIa HBa hbb
  -- the answer is marked
  obtain ⟨row, hrow, Hmark⟩ := mark_ownE c w4.heap.size w5.heap.size m cap1 a1 Z Z wb w5 HOb.out HU5.out hm
  have Hmark' := (show Hid _ from Hmark)
  have Hrow := (show Hid _ from hrow)
  clear Hmark hrow
  have hqm : ¬ ((1 + 5 * m : Nat) : Int) < 0 := by omega
  have Hheld : Hid (∀ w, OwnE w w4.heap.size (.slice a1 m cap1) m (mkE 1) → Calls Try.prog 19 #[.agg #[.int .i64 c, .slice a1 m cap1], .int .i64 1] w fun e w' => e = .returned (.int .i64 ((1 + 5 * m : Nat) : Int)) ∧ Below w.heap.size w w') := fun w h => heldEntriesResult_any c a1 m cap1 w h.is hm
  generalize ((1 + 5 * m : Nat) : Int) = qm at *
  go_wp2_with fail
  refine Calls.mono Hmark'.out ?_
  rintro e wc ⟨rfl, hGc, hOc⟩
  have hwc := hGc.size
  have l0 : wc.cell? ⟨w5.heap.size, 0, none⟩ = some (.int .i64 c) := ro_cell hGc g0 (fun s hs => by have := Hrow.out s hs; omega)
  have l1 : wc.cell? ⟨w5.heap.size, 1, none⟩ = some (.slice a1 m cap1) := ro_cell hGc g1 (fun s hs => by have := Hrow.out s hs; omega)
  have m0 : wc.cell? ⟨w2.heap.size, 0, none⟩ = some (.int .i64 c) := ro_cell hGc p0 (fun s hs => by have := Hrow.out s hs; omega)
  have m1 : wc.cell? ⟨w2.heap.size, 1, none⟩ = some (.slice a0 m cap0) := ro_cell hGc p1 (fun s hs => by have := Hrow.out s hs; omega)
  have HOc : Hid (OwnE wc w4.heap.size (.slice a1 m cap1) m (mkE 1)) := hOc
  have HIc : Hid (UnderE w3.heap.size wc a0 m Z) := HIb.out.row hGc (fun s hs => by have := Hrow.out s hs; omega)
  have HBc : Hid (Below w.heap.size w wc) := HBb.out.trans (below_row hGc (fun s hs => by have := Hrow.out s hs; omega) (by omega))
  clear g0 g1 p0 p1 hOc hGc HBb HIb HOb Hmark'
  go_wp2_with fail
  refine (Hheld.out _ HOc.out).mono ?_
  rintro e wd ⟨rfl, hbd⟩
  have hwd := hbd.size
  have g0 := bl_cell hbd l0
  have g1 := bl_cell hbd l1
  have p0 := bl_cell hbd m0
  have p1 := bl_cell hbd m1
  have HOd : Hid (OwnE wd w4.heap.size (.slice a1 m cap1) m (mkE 1)) := HOc.out.below hbd
  have HId : Hid (UnderE w3.heap.size wd a0 m Z) := HIc.out.below hbd (by omega)
  have HBd : Hid (Below w.heap.size w wd) := bl_then HBc.out hbd
  clear l0 l1 m0 m1 HOc HIc HBc hbd
  go_wp2_with fail
  -- once more
  refine (toQuadS_any a n cap Q _ (HI.out.below HBd.out) hn HE.out).mono ?_
  rintro e we ⟨be, Ae, rfl, hOe, _, hbe⟩
  have HPe : Hid (OwnQs we wd.heap.size be n Q Ae) := hOe
  clear hOe
  go_wp2_with fail
  refine (Him.out _ _ _ _ HPe.out).mono ?_
  rintro e wf ⟨vf, rfl, hOf, hbf⟩
  obtain ⟨af, capf, rfl, hcf, hIf⟩ := hOf.pts
  have hbdf := bl_then hbe hbf
  have hwf := hbdf.size
  have l0 := bl_cell hbdf g0
  have l1 := bl_cell hbdf g1
  have m0 := bl_cell hbdf p0
  have m1 := bl_cell hbdf p1
  have HOf : Hid (OwnE wf w4.heap.size (.slice a1 m cap1) m (mkE 1)) := HOd.out.below hbdf
  have HIf : Hid (UnderE w3.heap.size wf a0 m Z) := HId.out.below hbdf (by omega)
  have HBf : Hid (Below w.heap.size w wf) := bl_then HBd.out hbdf
  have HJf : Hid (IsEs wf af m Z) := hIf
  clear g0 g1 p0 p1 HOd HId HBd hbdf hIf hOf hbe hbf HPe
  have hlw2 := World.block_lt_of_cell? _ _ m0
  have hlw5 := World.block_lt_of_cell? _ _ l0
  go_wp2_with fail
  generalize hWg : (wf.alloc _ : World) = wg
  have hbg : Below wf.heap.size wf wg := by subst hWg; (repeat (first | exact Below.refl _ _ | assumption | refine Below.drew ?_ | refine bl_alloc ?_ _ | refine bl_then ?_ (by assumption) | refine Below.setCell ?_ (by first | omega | (simp; done) | (simp; omega)) _ | refine bl_store ?_ ?_ _ _))
  clear hWg
  have g0 := bl_cell hbg l0
  have g1 := bl_cell hbg l1
  have hwg := hbg.size
  refine (eqEntriesResult_any c _ _ _ _ _ Z _ (HJf.out.below hbg) ((HIf.out.below hbg (by omega)).is (by omega)) hm).mono ?_
  rintro e wh ⟨rfl, hbh⟩
  have hbfh := bl_then hbg hbh
  have HOh : Hid (OwnE wh w4.heap.size (.slice a1 m cap1) m (mkE 1)) := HOf.out.below hbfh
  have HBh : Hid (Below w.heap.size w wh) := bl_then HBf.out hbfh
  have k0 := bl_cell hbh g0
  have k1 := bl_cell hbh g1
  clear l0 l1 m0 m1 g0 g1 HOf HIf HBf HJf hbfh hbg hbh
  go_wp2_with fail
  refine (Hheld.out _ HOh.out).mono ?_
  rintro e wi ⟨rfl, hbi⟩
  have HBi : Hid (Below w.heap.size w wi) := bl_then HBh.out hbi
  clear hbi
  go_wp2
  go_ret
  exact ⟨rfl, HBi.out⟩

theorem eiRe (Q : Nat → Qd) (A : Nat → Option Addr) (n : Nat) : eiN (reQ Q A) n = eiN Q n ∧ eiE (reQ Q A) n = eiE Q n := by
  refine ⟨by unfold eiN; rw [quadsC_re]; rfl, rfl⟩
theorem FnExactEntriesIn_walk (a : Option Addr) (n cap : Nat) (Q : Nat → Qd) (w : World) (h : IsQs w a n Q ∧ CameQs n Q) :
    Calls Try.prog 4 #[.slice a n cap] w fun e w' => e = .returned (.bool true) ∧ Below w.heap.size w w' :=
  FnExactEntriesIn_law (quadsC Q n) a n cap (eiN Q n) Q (eiE Q n) w h.1 h.2 (Nat.le_trans (eiN_le Q n) (by omega))
    (fun hS b B A w hO => by
      have h := spec_EntriesIn_any b 0 n n (reQ Q A) w hO.qs hS.1 hO.es hS.2.1 hS.2.2
      rw [quadsC_re, (eiRe Q A n).1, (eiRe Q A n).2] at h
      exact h)
    (fun hS b B A w hO => by
      have h := impl_EntriesIn_any b 0 n n (reQ Q A) w hO.qs hS.1 (Nat.le_refl _) hS.2.1 hS.2.2
      rw [quadsC_re, (eiRe Q A n).1, (eiRe Q A n).2] at h
      exact h)
end Go.Proofs.Ytjnhaigmfjndhaa
