/- ReachBox of the model. -/
import Derived.Test.YtnlmndlchobfeaaGreatVCovers45
namespace Go.Proofs.YtnlmndlchobfeaaGreat
open Go.RowKit
set_option linter.unusedSimpArgs false
set_option linter.unusedVariables false
set_option maxRecDepth 100000

set_option maxHeartbeats 8000000 in
theorem l4Box_any (q : Nat) (id la ki wi z : Int) (b off n cap : Nat) (X Y : Nat → Int) (lab : ByteArray) (pr : Int) (w : World) (hf : FeatAt w q 0 id la ki wi (.slice (some ⟨b, off, none⟩) n cap) lab pr) (hp : PtsAt w b off n X Y) (hbl : b < w.heap.size) (hn0 : 0 < n) (hn : n ≤ 40) (hin : ∀ i, i < n → inW (X i) (Y i) = true) (hw : 0 ≤ wi ∧ wi ≤ 3) (hz : zoomB z = true) :
    Calls Tryz.prog 34 #[.pointer (some ⟨q, 0, none⟩), .int .i64 z] w fun e w' => e = .returned (wideV (dblL X Y n) (reachI wi z)) ∧ Below w.heap.size w w' := by
  have HF : Hid (FeatAt w q 0 id la ki wi (.slice (some ⟨b, off, none⟩) n cap) lab pr) := hf
  have hql : q < w.heap.size := World.block_lt_of_cell? _ _ hf.1
  have HP : Hid (PtsAt w b off n X Y) := hp
  have HW : Hid (0 ≤ wi ∧ wi ≤ 3) := hw
  have hrb := reach_bd hw hz
  obtain ⟨hbx, hby⟩ := dbl_bd X Y n hin
  obtain ⟨m1, m2⟩ := mnTo_bd _ 0 2048 n hn0 hbx
  obtain ⟨m3, m4⟩ := mnTo_bd _ 0 2048 n hn0 hby
  obtain ⟨m5, m6⟩ := mxTo_bd _ 0 2048 n hn0 hbx
  obtain ⟨m7, m8⟩ := mxTo_bd _ 0 2048 n hn0 hby
  have HV : Hid (wideV (dblL X Y n) (reachI wi z) = .agg #[.int .i64 (mnTo (px (dblL X Y n)) n - reachI wi z), .int .i64 (mnTo (py (dblL X Y n)) n - reachI wi z), .int .i64 (mxTo (px (dblL X Y n)) n + reachI wi z), .int .i64 (mxTo (py (dblL X Y n)) n + reachI wi z)]) := by
    show wideV _ _ = _
    unfold wideV
    rw [dblL_len]
  rw [HV.out]
  have Hdb : Hid (∀ w, PtsAt w b off n X Y → b < w.heap.size → Calls Tryz.prog 64 #[.slice (some ⟨b, off, none⟩) n cap] w fun e w' => ∃ g cg, e = .returned (.slice (some ⟨g, 0, none⟩) n cg) ∧ g < w'.heap.size ∧ n ≤ cg ∧ PtsAt w' g 0 n (px (dblL X Y n)) (py (dblL X Y n)) ∧ Below w.heap.size w w') := fun w h1 h2 => l4Doubled_at b off n cap X Y w h1 h2 hn0 hn hin
  have Hbox : Hid (∀ g cg w, PtsAt w g 0 n (px (dblL X Y n)) (py (dblL X Y n)) → g < w.heap.size → n ≤ cg → Calls Tryz.prog 63 #[.slice (some ⟨g, 0, none⟩) n cg] w fun e w' => e = .returned (.agg #[.int .i64 (mnTo (px (dblL X Y n)) n), .int .i64 (mnTo (py (dblL X Y n)) n), .int .i64 (mxTo (px (dblL X Y n)) n), .int .i64 (mxTo (py (dblL X Y n)) n)]) ∧ Below w.heap.size w w') := fun g cg w h1 h2 h3 => l1Box_any g n cg _ _ w h1 h2 hn0 h3 (by omega)
  have Hre : Hid (∀ w, w.cell? ⟨q, 0 + 3, none⟩ = some (.int .i64 wi) → Calls Tryz.prog 65 #[.pointer (some ⟨q, 0, none⟩), .int .i64 z] w fun e w' => e = .returned (.int .i64 (reachI wi z)) ∧ Below w.heap.size w w') := fun w h => l4Reach_any q 0 wi z w h hw hz
  generalize mnTo (px (dblL X Y n)) n = a1 at *
  generalize mnTo (py (dblL X Y n)) n = a2 at *
  generalize mxTo (px (dblL X Y n)) n = a3 at *
  generalize mxTo (py (dblL X Y n)) n = a4 at *
  generalize reachI wi z = r at *
  generalize dblL X Y n = D at *
  obtain ⟨q0, q1, q2, q3, q4, q5, q6⟩ := hf
  simp only [Nat.zero_add] at q0 q1 q2 q3 q4 q5 q6
  clear hp hin hbx hby hw HV
  go_enter Tryz.func34, Tryz.ntmps34
  go_wp2_with fail
  generalize hW : (w.alloc _ : World) = W
  have hB0 : Below w.heap.size w W := by subst hW; (repeat (first | exact Below.refl _ _ | assumption | refine Below.drew ?_ | refine bl_alloc ?_ _ | refine bl_then ?_ (by assumption) | refine Below.setCell ?_ (by first | omega | (simp; done) | (simp; omega)) _ | refine bl_store ?_ ?_ _ _))
  have HT : Hid (There W w.heap.size 4) := by
    show There _ _ _
    subst hW
    exact there4 w (.int .i64 0) (.int .i64 0) (.int .i64 0) (.int .i64 0) 33
  have hsW : w.heap.size < W.heap.size := by subst hW; simp
  clear hW
  clear q0 q1 q2 q3 q4 q5 q6
  refine (Hdb.out W (HP.out.below hB0 hbl) (Nat.lt_of_lt_of_le hbl hB0.size)).mono ?_
  rintro e w1 ⟨g, cg, rfl, hgl, hcg, hPg, hb1⟩
  have HB1 : Hid (Below w.heap.size w w1) := bl_then hB0 hb1
  have HT1 : Hid (There w1 w.heap.size 4) := HT.out.below hb1
  have hs1 : w.heap.size < w1.heap.size := Nat.lt_of_lt_of_le hsW hb1.size
  have HPg : Hid (PtsAt w1 g 0 n (px D) (py D)) := hPg
  clear hb1 hB0 hPg HT
  go_wp2_with fail
  refine (Hbox.out g cg w1 HPg.out hgl hcg).mono ?_
  rintro e w2 ⟨rfl, hb2⟩
  have HB2 : Hid (Below w.heap.size w w2) := bl_then HB1.out hb2
  have HT2 : Hid (There w2 w.heap.size 4) := HT1.out.below hb2
  have hs2 : w.heap.size < w2.heap.size := Nat.lt_of_lt_of_le hs1 hb2.size
  clear hb2
  go_wp2_with fail
  generalize hV : (w2.alloc _ : World) = V
  have hbV : Below w2.heap.size w2 V := by subst hV; (repeat (first | exact Below.refl _ _ | assumption | refine Below.drew ?_ | refine bl_alloc ?_ _ | refine bl_then ?_ (by assumption) | refine Below.setCell ?_ (by first | omega | (simp; done) | (simp; omega)) _ | refine bl_store ?_ ?_ _ _))
  have d0 : ∀ W', Below V.heap.size V W' → W'.cell? ⟨w2.heap.size, 0, none⟩ = some (.int .i64 a1) := fun W' h => by
    rw [h.cell (by subst hV; simp)]; subst hV; simp [go_sem]
  have d1 : ∀ W', Below V.heap.size V W' → W'.cell? ⟨w2.heap.size, 1, none⟩ = some (.int .i64 a2) := fun W' h => by
    rw [h.cell (by subst hV; simp)]; subst hV; simp [go_sem]
  have d2 : ∀ W', Below V.heap.size V W' → W'.cell? ⟨w2.heap.size, 2, none⟩ = some (.int .i64 a3) := fun W' h => by
    rw [h.cell (by subst hV; simp)]; subst hV; simp [go_sem]
  have d3 : ∀ W', Below V.heap.size V W' → W'.cell? ⟨w2.heap.size, 3, none⟩ = some (.int .i64 a4) := fun W' h => by
    rw [h.cell (by subst hV; simp)]; subst hV; simp [go_sem]
  clear hV
  have HBV : Hid (Below w.heap.size w V) := bl_then HB2.out hbV
  refine (Hre.out V (HF.out.below HBV.out hql).2.2.2.1).mono ?_
  rintro e w3 ⟨rfl, hb3⟩
  have hT' := (HT2.out.below hbV).below hb3
  have HT3 : Hid (There w3 w.heap.size 4) := hT'
  have t0 := hT'.cell 0 (by omega)
  have t1 := hT'.cell 1 (by omega)
  have t2 := hT'.cell 2 (by omega)
  have t3 := hT'.cell 3 (by omega)
  have z0 := (hT' 0 (by omega)).2
  have z1 := (hT' 1 (by omega)).2
  have z2 := (hT' 2 (by omega)).2
  have z3 := (hT' 3 (by omega)).2
  have e0 := d0 w3 hb3
  have e1 := d1 w3 hb3
  have e2 := d2 w3 hb3
  have e3 := d3 w3 hb3
  have HB3 : Hid (Below w.heap.size w w3) := bl_then HBV.out hb3
  have hs3 : w.heap.size < w3.heap.size := Nat.lt_of_lt_of_le hs2 (Nat.le_trans hbV.size hb3.size)
  clear hT' d0 d1 d2 d3 hb3 hbV
  go_wp2_with fail
  obtain ⟨s0, s1, s2, s3⟩ := set4_at (a := .int .i64 (a1 - r)) (b := .int .i64 (a2 - r)) (c := .int .i64 (a3 + r)) (d := .int .i64 (a4 + r)) HT3.out
  refine bodyPost_ret (v := .agg #[.int .i64 (a1 - r), .int .i64 (a2 - r), .int .i64 (a3 + r), .int .i64 (a4 + r)]) (by simp [results, Tryz.results34, go_sem, s0, s1, s2, s3]) rfl ⟨rfl, ?_⟩
  have HB := HB3.out
  (repeat (first | exact Below.refl _ _ | assumption | refine Below.drew ?_ | refine bl_alloc ?_ _ | refine bl_then ?_ (by assumption) | refine Below.setCell ?_ (by first | omega | (simp; done) | (simp; omega)) _ | refine bl_store ?_ ?_ _ _))
theorem resSB (T : Array Value) (Wf : World) (r : Nat) (v0 v1 v2 v3 v4 : Value) (hT : T[4]?.getD undef = .pointer (some ⟨r, 0, none⟩)) (h0 : Wf.cell? ⟨r, 0, none⟩ = some v0) (h1 : Wf.cell? ⟨r, 1, none⟩ = some v1) (h2 : Wf.cell? ⟨r, 2, none⟩ = some v2) (h3 : Wf.cell? ⟨r, 3, none⟩ = some v3) (h4 : Wf.cell? ⟨r, 4, none⟩ = some v4) :
    (results Tryz.f10 T).run Tryz.prog Wf = .ok (.agg #[v0, v1, v2, v3, v4]) Wf := by
  simp [results, Tryz.results10, go_sem, hT, h0, h1, h2, h3, h4]
set_option maxHeartbeats 8000000 in
theorem spec_ReachBox_any {off : Nat} (id la ki wi z : Int) (b n cap : Nat) (X Y : Nat → Int) (lab : ByteArray) (pr : Int) (L : List Nat) (w : World) (hp : PtsAt w b off n X Y) (hbl : b < w.heap.size) (hn : n ≤ 1048576) (hl : lab.size ≤ 1048576)
    (hL : 3 ≤ (snapL X Y z n).length → Thin (px (snapL X Y z n)) (py (snapL X Y z n)) (gridI z) 0 ((snapL X Y z n).length - 1) L) (C : Int) (hC : C = simpC z (featC id la ki wi n X Y lab pr)) :
    Calls Tryz.prog 10 #[.agg #[.int .i64 id, .int .i64 la, .int .i64 ki, .int .i64 wi, .slice (some ⟨b, off, none⟩) n cap, .string lab, .int .i64 pr], .int .i64 z] w fun e w' => e = .returned (rbV C wi z (dblR (simpR C ki z n X Y L))) ∧ Below w.heap.size w w' := by
  have HP : Hid (PtsAt w b off n X Y) := hp
  have HL := (show Hid _ from hL)
  have HC : Hid (C = simpC z (featC id la ki wi n X Y lab pr)) := hC
  have HE : Hid (∃ V : Value, rbV C wi z (dblR (simpR C ki z n X Y L)) = V) := ⟨_, rfl⟩
  clear hp hL hC
  obtain ⟨V0, hV0⟩ := HE.out
  rw [hV0]
  have HV0 := (show Hid _ from hV0)
  clear HE hV0
  go_enter Tryz.func10, Tryz.ntmps10
  go_wp2_with fail
  generalize hW : ((w.alloc _).alloc _ : World) = W
  have hB0 : Below w.heap.size w W := by subst hW; (repeat (first | exact Below.refl _ _ | assumption | refine Below.drew ?_ | refine bl_alloc ?_ _ | refine bl_then ?_ (by assumption) | refine Below.setCell ?_ (by first | omega | (simp; done) | (simp; omega)) _ | refine bl_store ?_ ?_ _ _))
  have HT : Hid (There W (w.heap.size + 1) 5) := by
    show There _ _ _
    subst hW
    have := there5 (w.alloc (.cells #[.int .i64 id, .int .i64 la, .int .i64 ki, .int .i64 wi, .slice (some ⟨b, off, none⟩) n cap, .string lab, .int .i64 pr] 26)) (.int .i64 0) (.int .i64 0) (.int .i64 0) (.int .i64 0) (.int .i64 0) 35
    simpa using this
  have HF : Hid (FeatAt W w.heap.size 0 id la ki wi (.slice (some ⟨b, off, none⟩) n cap) lab pr) := by
    show FeatAt _ _ _ _ _ _ _ _ _ _
    subst hW
    refine ⟨?_, ?_, ?_, ?_, ?_, ?_, ?_⟩ <;> simp [go_sem]
  have hsW : w.heap.size + 1 < W.heap.size := by subst hW; simp
  clear hW
  have HB0 : Hid (Below w.heap.size w W) := hB0
  have HPW : Hid (PtsAt W b off n X Y) := HP.out.below hB0 hbl
  have hblW : b < W.heap.size := Nat.lt_of_lt_of_le hbl hB0.size
  clear hB0
  refine (l3Zoom_any _ _).mono ?_
  rintro e w' ⟨rfl, rfl⟩
  cases hz : zoomB z
  · have hCv : C = 3 := by rw [HC.out]; simp [simpC, hz]
    have HV : Hid (V0 = .agg #[.int .i64 3, .int .i64 0, .int .i64 0, .int .i64 0, .int .i64 0]) := by
      show V0 = _
      rw [← HV0.out, rbV_no (by omega), hCv]
    clear HC HL hCv
    have hT' := HT.out
    have t0 := hT'.cell 0 (by omega)
    have t1 := hT'.cell 1 (by omega)
    have t2 := hT'.cell 2 (by omega)
    have t3 := hT'.cell 3 (by omega)
    have t4 := hT'.cell 4 (by omega)
    have z0 := (hT' 0 (by omega)).2
    have z1 := (hT' 1 (by omega)).2
    have z2 := (hT' 2 (by omega)).2
    have z3 := (hT' 3 (by omega)).2
    have z4 := (hT' 4 (by omega)).2
    clear hT'
    go_wp2_with fail
    obtain ⟨s0, s1, s2, s3, s4⟩ := set5_at (a := .int .i64 3) (b := .int .i64 0) (c := .int .i64 0) (d := .int .i64 0) (e := .int .i64 0) HT.out
    refine bodyPost_ret (resSB _ _ (w.heap.size + 1) _ _ _ _ _ rfl s0 s1 s2 s3 s4) rfl ⟨by rw [HV.out], ?_⟩
    have HB := HB0.out
    (repeat (first | exact Below.refl _ _ | assumption | refine Below.drew ?_ | refine bl_alloc ?_ _ | refine bl_then ?_ (by assumption) | refine Below.setCell ?_ (by first | omega | (simp; done) | (simp; omega)) _ | refine bl_store ?_ ?_ _ _))
  · have HC' : Hid (C = featC id la ki wi n X Y lab pr) := by show _ = _; rw [HC.out]; simp [simpC, hz]
    go_wp2_with fail
    refine (l2Fault_any w.heap.size 0 id la ki wi _ n cap X Y lab pr W HF.out (.inr ⟨b, off, rfl, hblW, HPW.out⟩) hl hn).mono ?_
    rintro e w2 ⟨rfl, hb2⟩
    rw [← HC'.out]
    have HF2 : Hid (FeatAt w2 w.heap.size 0 id la ki wi (.slice (some ⟨b, off, none⟩) n cap) lab pr) := HF.out.below hb2 (by omega)
    have HP2 : Hid (PtsAt w2 b off n X Y) := HPW.out.below hb2 hblW
    have HT2 : Hid (There w2 (w.heap.size + 1) 5) := HT.out.below hb2
    have hbl2 : b < w2.heap.size := Nat.lt_of_lt_of_le hblW hb2.size
    have HB2 : Hid (Below w.heap.size w w2) := bl_then HB0.out hb2
    have hs2 : w.heap.size + 1 < w2.heap.size := Nat.lt_of_lt_of_le hsW hb2.size
    clear hb2
    by_cases hC0 : C = 0
    · subst hC0
      have hfc := HC'.out.symm
      obtain ⟨hk3, hn0, hn12, hkn', hin, _⟩ := featC_zero hfc
      obtain ⟨hkn, hR12, hall⟩ := simpR_facts hfc hz HL.out
      have hwr := (featC_rng hfc).2.2.1
      have Hs := (show Hid _ from l3Simple_any w.heap.size id la ki wi z b n cap X Y lab pr L w2 HF2.out HP2.out hbl2 hz hk3 hn0 hn12 hin HL.out)
      have hR0 : 0 < (simpR 0 ki z n X Y L).length := by rcases hkn with ⟨_, h⟩ | ⟨_, h⟩ | ⟨_, h⟩ <;> omega
      have HR : Hid (simpR 0 ki z n X Y L = fillL ki.toNat (simpT ki z n X Y L)) := by show _ = _; rw [simpR, if_pos rfl]
      rw [← HR.out] at Hs
      have HAL : Hid (allW (simpR 0 ki z n X Y L)) := hall
      generalize simpR 0 ki z n X Y L = R at *
      clear hfc hall hkn HC HC' HL hin HR
      have Hb : Hid (∀ (p g cg : Nat) (w : World), FeatAt w p 0 id la ki wi (.slice (some ⟨g, 0, none⟩) R.length cg) lab pr → PtsAt w g 0 R.length (px R) (py R) → g < w.heap.size → Calls Tryz.prog 34 #[.pointer (some ⟨p, 0, none⟩), .int .i64 z] w fun e w' => e = .returned (.agg #[.int .i64 (mnTo (px (dblR R)) (dblR R).length - reachI wi z), .int .i64 (mnTo (py (dblR R)) (dblR R).length - reachI wi z), .int .i64 (mxTo (px (dblR R)) (dblR R).length + reachI wi z), .int .i64 (mxTo (py (dblR R)) (dblR R).length + reachI wi z)]) ∧ Below w.heap.size w w') := fun p g cg w h0 h1 h2 => l4Box_any p id la ki wi z g 0 R.length cg (px R) (py R) lab pr w h0 h1 h2 hR0 (by omega) (fun i _ => HAL.out.at i) hwr hz
      have HV : Hid (V0 = .agg #[.int .i64 0, .int .i64 (mnTo (px (dblR R)) (dblR R).length - reachI wi z), .int .i64 (mnTo (py (dblR R)) (dblR R).length - reachI wi z), .int .i64 (mxTo (px (dblR R)) (dblR R).length + reachI wi z), .int .i64 (mxTo (py (dblR R)) (dblR R).length + reachI wi z)]) := by
        show V0 = _
        rw [← HV0.out]
        simp [rbV, rb1, rb2, rb3, rb4, zI]
      generalize mnTo (px (dblR R)) (dblR R).length - reachI wi z = a1 at *
      generalize mnTo (py (dblR R)) (dblR R).length - reachI wi z = a2 at *
      generalize mxTo (px (dblR R)) (dblR R).length + reachI wi z = a3 at *
      generalize mxTo (py (dblR R)) (dblR R).length + reachI wi z = a4 at *
      go_wp2_with fail
      refine Calls.mono Hs.out ?_
      rintro e w3 ⟨v, rfl, hR, hb3⟩
      obtain ⟨g, cg, hv, _, hgl, hcg, hPg⟩ := hR.at hR0
      subst hv
      have HPg : Hid (PtsAt w3 g 0 R.length (px R) (py R)) := hPg
      have HT3 : Hid (There w3 (w.heap.size + 1) 5) := HT2.out.below hb3
      have HB3 : Hid (Below w.heap.size w w3) := bl_then HB2.out hb3
      have hs3 : w.heap.size + 1 < w3.heap.size := Nat.lt_of_lt_of_le hs2 hb3.size
      clear hPg hR Hs hb3 HV0
      generalize R.length = N at *
      go_wp2_with fail
      generalize hV : (w3.alloc _ : World) = V
      have hbV : Below w3.heap.size w3 V := by subst hV; (repeat (first | exact Below.refl _ _ | assumption | refine Below.drew ?_ | refine bl_alloc ?_ _ | refine bl_then ?_ (by assumption) | refine Below.setCell ?_ (by first | omega | (simp; done) | (simp; omega)) _ | refine bl_store ?_ ?_ _ _))
      have hFV : FeatAt V w3.heap.size 0 id la ki wi (.slice (some ⟨g, 0, none⟩) N cg) lab pr := by
        subst hV
        refine ⟨?_, ?_, ?_, ?_, ?_, ?_, ?_⟩ <;> simp [go_sem]
      clear hV
      refine (Hb.out w3.heap.size g cg V hFV (HPg.out.below hbV hgl) (Nat.lt_of_lt_of_le hgl hbV.size)).mono ?_
      rintro e w4 ⟨rfl, hb4⟩
      have hb34 := bl_then hbV hb4
      have hT' := HT3.out.below hb34
      have HT4 : Hid (There w4 (w.heap.size + 1) 5) := hT'
      have t0 := hT'.cell 0 (by omega)
      have t1 := hT'.cell 1 (by omega)
      have t2 := hT'.cell 2 (by omega)
      have t3 := hT'.cell 3 (by omega)
      have t4 := hT'.cell 4 (by omega)
      have z0 := (hT' 0 (by omega)).2
      have z1 := (hT' 1 (by omega)).2
      have z2 := (hT' 2 (by omega)).2
      have z3 := (hT' 3 (by omega)).2
      have z4 := (hT' 4 (by omega)).2
      have HB4 : Hid (Below w.heap.size w w4) := bl_then HB3.out hb34
      have hs4 : w.heap.size + 1 < w4.heap.size := Nat.lt_of_lt_of_le hs3 hb34.size
      clear hT' hb34 hb4 hbV hFV
      go_wp2_with fail
      obtain ⟨s0, s1, s2, s3, s4⟩ := set5_at (a := .int .i64 0) (b := .int .i64 a1) (c := .int .i64 a2) (d := .int .i64 a3) (e := .int .i64 a4) HT4.out
      refine bodyPost_ret (resSB _ _ (w.heap.size + 1) _ _ _ _ _ rfl s0 s1 s2 s3 s4) rfl ⟨by rw [HV.out], ?_⟩
      have HB := HB4.out
      (repeat (first | exact Below.refl _ _ | assumption | refine Below.drew ?_ | refine bl_alloc ?_ _ | refine bl_then ?_ (by assumption) | refine Below.setCell ?_ (by first | omega | (simp; done) | (simp; omega)) _ | refine bl_store ?_ ?_ _ _))
    · have hcb : (C != 0) = true := by simpa using hC0
      have HV : Hid (V0 = .agg #[.int .i64 C, .int .i64 0, .int .i64 0, .int .i64 0, .int .i64 0]) := by
        show V0 = _
        rw [← HV0.out, rbV_no hC0]
      have hT' := HT2.out
      have t0 := hT'.cell 0 (by omega)
      have t1 := hT'.cell 1 (by omega)
      have t2 := hT'.cell 2 (by omega)
      have t3 := hT'.cell 3 (by omega)
      have t4 := hT'.cell 4 (by omega)
      have z0 := (hT' 0 (by omega)).2
      have z1 := (hT' 1 (by omega)).2
      have z2 := (hT' 2 (by omega)).2
      have z3 := (hT' 3 (by omega)).2
      have z4 := (hT' 4 (by omega)).2
      clear hT' HC HC' HL HV0
      go_wp2_with fail
      obtain ⟨s0, s1, s2, s3, s4⟩ := set5_at (a := .int .i64 C) (b := .int .i64 0) (c := .int .i64 0) (d := .int .i64 0) (e := .int .i64 0) HT2.out
      refine bodyPost_ret (resSB _ _ (w.heap.size + 1) _ _ _ _ _ rfl s0 s1 s2 s3 s4) rfl ⟨by rw [HV.out], ?_⟩
      have HB := HB2.out
      (repeat (first | exact Below.refl _ _ | assumption | refine Below.drew ?_ | refine bl_alloc ?_ _ | refine bl_then ?_ (by assumption) | refine Below.setCell ?_ (by first | omega | (simp; done) | (simp; omega)) _ | refine bl_store ?_ ?_ _ _))
end Go.Proofs.YtnlmndlchobfeaaGreat
