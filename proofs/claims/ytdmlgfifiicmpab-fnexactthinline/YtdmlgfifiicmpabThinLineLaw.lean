/- The law of ThinLine returns true, where the program and the model answer the same code and the same points in memory of their own. -/
import Derived.Test.YtdmlgfifiicmpabOwnR
import Derived.Test.YtdmlgfifiicmpabSz
namespace Go.Proofs.Ytdmlgfifiicmpab
open Go.RowKit
set_option linter.unusedSimpArgs false
set_option linter.unusedVariables false

set_option maxHeartbeats 4000000 in
theorem FnExactThinLine_law (c z : Int) (a : Option Addr) (n cap m : Nat) (X Y X' Y' : Nat → Int) (w : World) (hpt : IsPts w a n X Y) (hn : n ≤ 1048576) (hm : m ≤ 1048576)
    (hsp : ∀ b w, PtsAt w b 0 n X Y → b < w.heap.size → Calls Try.prog 20 #[.slice (some ⟨b, 0, none⟩) n n, .int .i64 z] w fun e w' => ∃ v, e = .returned (.agg #[.int .i64 c, v]) ∧ Own w' w.heap.size v m X' Y' ∧ Below w.heap.size w w')
    (him : ∀ b w, PtsAt w b 0 n X Y → b < w.heap.size → Calls Try.prog 21 #[.slice (some ⟨b, 0, none⟩) n n, .int .i64 z] w fun e w' => ∃ v, e = .returned (.agg #[.int .i64 c, v]) ∧ Own w' w.heap.size v m X' Y' ∧ Below w.heap.size w w') :
    Calls Try.prog 5 #[.slice a n cap, .int .i64 z] w fun e w' => e = .returned (.bool true) ∧ Below w.heap.size w w' := by
  have HI : Hid (IsPts w a n X Y) := hpt
  have Hsp := (show Hid _ from hsp)
  have Him := (show Hid _ from him)
  clear hpt hsp him
  have hneg : ¬ (1048576 : Int) - (n : Int) < 0 := by omega
  go_enter Try.func5, Try.ntmps5
  go_wp2_with fail
  refine (szPointS_small _ _ _ _ hn).mono ?_
  rintro e W ⟨rfl, hWW⟩
  have hW2 := hWW.symm
  subst hW2
  clear hWW
  go_wp2_with fail
  refine (toPointS_any a n cap X Y _ HI.out hn).mono ?_
  rintro e w1 ⟨b1, rfl, hle1, hlt1, hp1, hb1⟩
  have HP1 : Hid (PtsAt w1 b1 0 n X Y) := hp1
  clear hp1
  go_wp2_with fail
  refine (Hsp.out _ _ HP1.out hlt1).mono ?_
  rintro e w2 ⟨v0, rfl, hO2, hb2⟩
  obtain ⟨a0, cap0, rfl, hc0, hI0⟩ := hO2.pts
  have hB2 := bl_then hb1 hb2
  have HI2 : Hid (IsPts w2 a0 m X' Y') := hI0
  have HO2 : Hid (Own w2 w1.heap.size (.slice a0 m cap0) m X' Y') := hO2
  have hle12 := hb2.size
  clear hb2 HP1 hI0 hO2
  go_wp2_with fail
  generalize hW3 : (w2.alloc _ : World) = w3
  have hb23 : Below w2.heap.size w2 w3 := by subst hW3; (repeat (first | exact Below.refl _ _ | assumption | refine Below.drew ?_ | refine bl_alloc ?_ _ | refine bl_then ?_ (by assumption) | refine Below.setCell ?_ (by first | omega | (simp; done) | (simp; omega)) _ | refine bl_store ?_ ?_ _ _))
  have c0 : ∀ W', Below w3.heap.size w3 W' → W'.cell? ⟨w2.heap.size, 0, none⟩ = some (.int .i64 c) := fun W' h => by
    rw [h.cell (by subst hW3; simp)]; subst hW3; simp [go_sem]
  have c1 : ∀ W', Below w3.heap.size w3 W' → W'.cell? ⟨w2.heap.size, 1, none⟩ = some (.slice a0 m cap0) := fun W' h => by
    rw [h.cell (by subst hW3; simp)]; subst hW3; simp [go_sem]
  have hs23 : w2.heap.size < w3.heap.size := by subst hW3; simp
  clear hW3
  have hB3 : Below w.heap.size w w3 := bl_then hB2 hb23
  have HI3 : Hid (IsPts w3 a0 m X' Y') := HI2.out.below hb23
  have HO3 : Hid (Own w3 w1.heap.size (.slice a0 m cap0) m X' Y') := HO2.out.below hb23
  clear hb23 hB2 HI2 HO2
  refine (toPointS_own a n cap X Y _ (HI.out.below hB3) hn).mono ?_
  rintro e w4 ⟨b4, rfl, hle4, hlt4, hp4, ht4, hb4⟩
  have HP4 : Hid (PtsAt w4 b4 0 n X Y) := hp4
  have HT4 : Hid (There w4 b4 (n * 2)) := ht4
  clear hp4 ht4
  go_wp2_with fail
  refine (Him.out _ _ HP4.out hlt4).mono ?_
  rintro e w5 ⟨v1, rfl, hO5, hb5⟩
  obtain ⟨a1, cap1, rfl, hc1, hI1⟩ := hO5.pts
  have hB5 : Below w3.heap.size w3 w5 := bl_then hb4 hb5
  have HP5 : Hid (PtsAt w5 b4 0 n X Y) := HP4.out.below hb5 hlt4
  have HT5 : Hid (There w5 b4 (n * 2)) := HT4.out.below hb5
  have hlt5 : b4 < w5.heap.size := Nat.lt_of_lt_of_le hlt4 hb5.size
  have HO5 : Hid (Own w5 w4.heap.size (.slice a1 m cap1) m X' Y') := hO5
  have HI5 : Hid (IsPts w5 a1 m X' Y') := hI1
  have HU5 : Hid (Under w5.heap.size w5 a1 m X' Y') := hI1
  have hle45 := hb5.size
  clear hb4 hb5 HP4 HT4 hO5 hI1
  have k0 := c0 w5 hB5
  have k1 := c1 w5 hB5
  have hlw : w2.heap.size < w5.heap.size := World.block_lt_of_cell? _ _ k0
  go_wp2_with fail
  generalize hW6 : (w5.alloc _ : World) = w6
  have hb56 : Below w5.heap.size w5 w6 := by subst hW6; (repeat (first | exact Below.refl _ _ | assumption | refine Below.drew ?_ | refine bl_alloc ?_ _ | refine bl_then ?_ (by assumption) | refine Below.setCell ?_ (by first | omega | (simp; done) | (simp; omega)) _ | refine bl_store ?_ ?_ _ _))
  have d0 : ∀ W', Below w6.heap.size w6 W' → W'.cell? ⟨w5.heap.size, 0, none⟩ = some (.int .i64 c) := fun W' h => by
    rw [h.cell (by subst hW6; simp)]; subst hW6; simp [go_sem]
  have d1 : ∀ W', Below w6.heap.size w6 W' → W'.cell? ⟨w5.heap.size, 1, none⟩ = some (.slice a1 m cap1) := fun W' h => by
    rw [h.cell (by subst hW6; simp)]; subst hW6; simp [go_sem]
  have hs56 : w5.heap.size < w6.heap.size := by subst hW6; simp
  clear hW6 k0 k1
  have hB6 : Below w3.heap.size w3 w6 := bl_then hB5 hb56
  have HP6 : Hid (PtsAt w6 b4 0 n X Y) := HP5.out.below hb56 hlt5
  have HT6 : Hid (There w6 b4 (n * 2)) := HT5.out.below hb56
  have HO6 : Hid (Own w6 w4.heap.size (.slice a1 m cap1) m X' Y') := HO5.out.below hb56
  have HI6 : Hid (IsPts w6 a1 m X' Y') := HI5.out.below hb56
  have hlt6 : b4 < w6.heap.size := Nat.lt_of_lt_of_le hlt5 hb56.size
  clear hb56 HP5 HT5 HO5 HI5
  refine (eqPointsResult_any c _ _ _ _ _ X' Y' _ HI6.out (HI3.out.below hB6) hm).mono ?_
  rintro e w7 ⟨rfl, hb7⟩
  have HP7 : Hid (PtsAt w7 b4 0 n X Y) := HP6.out.below hb7 hlt6
  have HT7 : Hid (There w7 b4 (n * 2)) := HT6.out.below hb7
  have hlt7 : b4 < w7.heap.size := Nat.lt_of_lt_of_le hlt6 hb7.size
  have HO7 : Hid (Own w7 w4.heap.size (.slice a1 m cap1) m X' Y') := HO6.out.below hb7
  have hB7 : Below w6.heap.size w6 w7 := hb7
  clear HP6 HT6 HO6 HI6 hb7
  go_wp2_with fail
  refine (toPointS_any a n cap X Y _ (HI.out.below (bl_then hB3 (bl_then hB6 hB7))) hn).mono ?_
  rintro e w8 ⟨b8, rfl, hle8, hlt8, hp8, hb8⟩
  have HP8 : Hid (PtsAt w8 b8 0 n X Y) := hp8
  have HQ8 : Hid (PtsAt w8 b4 0 n X Y) := HP7.out.below hb8 hlt7
  have HT8 : Hid (There w8 b4 (n * 2)) := HT7.out.below hb8
  have hltq : b4 < w8.heap.size := Nat.lt_of_lt_of_le hlt7 hb8.size
  have HO8 : Hid (Own w8 w4.heap.size (.slice a1 m cap1) m X' Y') := HO7.out.below hb8
  have hB8 : Below w6.heap.size w6 w8 := bl_then hB7 hb8
  clear hp8 HP7 HT7 HO7 hB7 hb8 hlt7
  go_wp2_with fail
  refine (eqPointS_any _ _ _ X Y _ HQ8.out HP8.out hltq hlt8 hn).mono ?_
  rintro e w9 ⟨rfl, hb9⟩
  have HT9 : Hid (There w9 b4 (n * 2)) := HT8.out.below hb9
  have hlt9 : b4 < w9.heap.size := Nat.lt_of_lt_of_le hltq hb9.size
  have HO9 : Hid (Own w9 w4.heap.size (.slice a1 m cap1) m X' Y') := HO8.out.below hb9
  have hB9 : Below w6.heap.size w6 w9 := bl_then hB8 hb9
  clear HP8 HQ8 HT8 HO8 hB8 hb9 hltq hlt8 hle8
  go_wp2_with fail
  -- the argument is marked
  refine (markPointS_any b4 n _ 1 _ HT9.out hlt9 hn (by omega)).mono ?_
  rintro e wa ⟨rfl, hGa, _, _⟩
  have hle46 : w4.heap.size ≤ w6.heap.size := Nat.le_trans hle45 (Nat.le_of_lt hs56)
  have hle69 := hB9.size
  have hB39 : Below w3.heap.size w3 w9 := bl_then hB6 hB9
  have l0 : wa.cell? ⟨w5.heap.size, 0, none⟩ = some (.int .i64 c) := gr_cell hGa (d0 w9 hB9) (by omega)
  have l1 : wa.cell? ⟨w5.heap.size, 1, none⟩ = some (.slice a1 m cap1) := gr_cell hGa (d1 w9 hB9) (by omega)
  have m0 : wa.cell? ⟨w2.heap.size, 0, none⟩ = some (.int .i64 c) := gr_cell hGa (c0 w9 hB39) (by omega)
  have m1 : wa.cell? ⟨w2.heap.size, 1, none⟩ = some (.slice a0 m cap0) := gr_cell hGa (c1 w9 hB39) (by omega)
  have HOa : Hid (Own wa w4.heap.size (.slice a1 m cap1) m X' Y') := HO9.out.grown hGa (.inl hlt4)
  have HIa : Hid (Under w3.heap.size wa a0 m X' Y') := by
    have h3 : Under w3.heap.size w3 a0 m X' Y' := HI3.out
    exact (h3.below hB39 (Nat.le_refl _)).grown hGa hle4
  have hle39 := hB39.size
  have hle03 := hB3.size
  have hwa : w9.heap.size ≤ wa.heap.size := hGa.size
  have HBa : Hid (Below w.heap.size w wa) := (bl_then hB3 hB39).trans (below_grown hGa (by omega) (by omega))
  have hqn : ¬ ((1 + 2 * n : Nat) : Int) < 0 := by omega
  generalize ((1 + 2 * n : Nat) : Int) = qk at *
  clear c0 c1 d0 d1 HT9 HO9 HO3 HI3 hGa hB39 hB9 hB6 hB5 hB3
  go_wp2_with fail
  refine (eqPointsResult_any c _ _ _ _ _ X' Y' _ HOa.out.is (HIa.out.is (by omega)) hm).mono ?_
  rintro e wb ⟨rfl, hbb⟩
  have g0 := bl_cell hbb l0
  have g1 := bl_cell hbb l1
  have p0 := bl_cell hbb m0
  have p1 := bl_cell hbb m1
  clear l0 l1 m0 m1
  have hwb := hbb.size
  have HOb : Hid (Own wb w4.heap.size (.slice a1 m cap1) m X' Y') := HOa.out.below hbb
  have HIb : Hid (Under w3.heap.size wb a0 m X' Y') := HIa.out.below hbb (by omega)
  have HBb : Hid (Below w.heap.size w wb) := bl_then HBa.out hbb
  clear HOa HIa HBa hbb
  -- the answer is marked
  obtain ⟨row, hrow, Hmark⟩ := mark_own c w4.heap.size w5.heap.size m cap1 a1 X' Y' X' Y' wb w5 HOb.out HU5.out hm
  have Hmark' := (show Hid _ from Hmark)
  have Hrow := (show Hid _ from hrow)
  clear Hmark hrow
  have hqm : ¬ ((1 + 2 * m : Nat) : Int) < 0 := by omega
  have Hheld : Hid (∀ w, Own w w4.heap.size (.slice a1 m cap1) m (mkX 1) (mkY 1) → Calls Try.prog 19 #[.agg #[.int .i64 c, .slice a1 m cap1], .int .i64 1] w fun e w' => e = .returned (.int .i64 ((1 + 2 * m : Nat) : Int)) ∧ Below w.heap.size w w') := fun w h => held_own c _ m _ w h hm
  generalize ((1 + 2 * m : Nat) : Int) = qm at *
  go_wp2_with fail
  refine Calls.mono Hmark'.out ?_
  rintro e wc ⟨rfl, hGc, hOc⟩
  have hwc := hGc.size
  have l0 : wc.cell? ⟨w5.heap.size, 0, none⟩ = some (.int .i64 c) := ro_cell hGc g0 (fun s hs => by have := Hrow.out s hs; omega)
  have l1 : wc.cell? ⟨w5.heap.size, 1, none⟩ = some (.slice a1 m cap1) := ro_cell hGc g1 (fun s hs => by have := Hrow.out s hs; omega)
  have m0 : wc.cell? ⟨w2.heap.size, 0, none⟩ = some (.int .i64 c) := ro_cell hGc p0 (fun s hs => by have := Hrow.out s hs; omega)
  have m1 : wc.cell? ⟨w2.heap.size, 1, none⟩ = some (.slice a0 m cap0) := ro_cell hGc p1 (fun s hs => by have := Hrow.out s hs; omega)
  have HOc : Hid (Own wc w4.heap.size (.slice a1 m cap1) m (mkX 1) (mkY 1)) := hOc
  have HIc : Hid (Under w3.heap.size wc a0 m X' Y') := HIb.out.row hGc (fun s hs => by have := Hrow.out s hs; omega)
  have HBc : Hid (Below w.heap.size w wc) := HBb.out.trans (below_row hGc (fun s hs => by have := Hrow.out s hs; omega) (by omega))
  clear g0 g1 p0 p1 hOc hGc HBb HIb HOb Hmark'
  go_wp2_with fail
  refine (Hheld.out _ HOc.out).mono ?_
  rintro e wd ⟨rfl, hbd⟩
  have hwd := hbd.size
  have g0 := bl_cell hbd l0
  have g1 := bl_cell hbd l1
  have p0 := bl_cell hbd m0
  have p1 := bl_cell hbd m1
  have HOd : Hid (Own wd w4.heap.size (.slice a1 m cap1) m (mkX 1) (mkY 1)) := HOc.out.below hbd
  have HId : Hid (Under w3.heap.size wd a0 m X' Y') := HIc.out.below hbd (by omega)
  have HBd : Hid (Below w.heap.size w wd) := bl_then HBc.out hbd
  clear l0 l1 m0 m1 HOc HIc HBc hbd
  go_wp2_with fail
  -- once more
  refine (toPointS_any a n cap X Y _ (HI.out.below HBd.out) hn).mono ?_
  rintro e we ⟨be, rfl, hlee, hlte, hpe, hbe⟩
  have HPe : Hid (PtsAt we be 0 n X Y) := hpe
  clear hpe
  go_wp2_with fail
  refine (Him.out _ _ HPe.out hlte).mono ?_
  rintro e wf ⟨vf, rfl, hOf, hbf⟩
  obtain ⟨af, capf, rfl, hcf, hIf⟩ := hOf.pts
  have hbdf := bl_then hbe hbf
  have hwf := hbdf.size
  have l0 := bl_cell hbdf g0
  have l1 := bl_cell hbdf g1
  have m0 := bl_cell hbdf p0
  have m1 := bl_cell hbdf p1
  have HOf : Hid (Own wf w4.heap.size (.slice a1 m cap1) m (mkX 1) (mkY 1)) := HOd.out.below hbdf
  have HIf : Hid (Under w3.heap.size wf a0 m X' Y') := HId.out.below hbdf (by omega)
  have HBf : Hid (Below w.heap.size w wf) := bl_then HBd.out hbdf
  have HJf : Hid (IsPts wf af m X' Y') := hIf
  clear g0 g1 p0 p1 HOd HId HBd hbdf hIf hOf hbe hbf HPe
  have hlw2 := World.block_lt_of_cell? _ _ m0
  have hlw5 := World.block_lt_of_cell? _ _ l0
  go_wp2_with fail
  generalize hWg : (wf.alloc _ : World) = wg
  have hbg : Below wf.heap.size wf wg := by subst hWg; (repeat (first | exact Below.refl _ _ | assumption | refine Below.drew ?_ | refine bl_alloc ?_ _ | refine bl_then ?_ (by assumption) | refine Below.setCell ?_ (by first | omega | (simp; done) | (simp; omega)) _ | refine bl_store ?_ ?_ _ _))
  clear hWg
  have g0 := bl_cell hbg l0
  have g1 := bl_cell hbg l1
  have hwg := hbg.size
  refine (eqPointsResult_any c _ _ _ _ _ X' Y' _ (HJf.out.below hbg) ((HIf.out.below hbg (by omega)).is (by omega)) hm).mono ?_
  rintro e wh ⟨rfl, hbh⟩
  have hbfh := bl_then hbg hbh
  have HOh : Hid (Own wh w4.heap.size (.slice a1 m cap1) m (mkX 1) (mkY 1)) := HOf.out.below hbfh
  have HBh : Hid (Below w.heap.size w wh) := bl_then HBf.out hbfh
  have k0 := bl_cell hbh g0
  have k1 := bl_cell hbh g1
  clear l0 l1 m0 m1 g0 g1 HOf HIf HBf HJf hbfh hbg hbh
  go_wp2_with fail
  refine (Hheld.out _ HOh.out).mono ?_
  rintro e wi ⟨rfl, hbi⟩
  have HBi : Hid (Below w.heap.size w wi) := bl_then HBh.out hbi
  clear hbi
  go_wp2
  go_ret
  exact ⟨rfl, HBi.out⟩

set_option maxHeartbeats 1000000 in
theorem FnExactThinLine_big (z : Int) (a : Option Addr) (n cap : Nat) (w : World) (hbig : 1048576 < n) (hm : n ≤ maxLen) :
    Calls Try.prog 5 #[.slice a n cap, .int .i64 z] w fun e w' => e = .returned (.bool true) ∧ Below w.heap.size w w' := by
  have HM : Hid (n ≤ maxLen) := hm
  clear hm
  go_enter Try.func5, Try.ntmps5
  go_wp2_with (go_at_call 11; refine (szPointS_big _ _ _ _ hbig HM.out).mono ?_; rintro e w' ⟨rfl, rfl⟩)
  go_ret
  exact ⟨rfl, by (repeat (first | exact Below.refl _ _ | assumption | refine Below.drew ?_ | refine bl_alloc ?_ _ | refine bl_then ?_ (by assumption) | refine Below.setCell ?_ (by first | omega | (simp; done) | (simp; omega)) _ | refine bl_store ?_ ?_ _ _))⟩
end Go.Proofs.Ytdmlgfifiicmpab
