/- ReachBox: the program and the model, at every feature. -/
import Derived.Test.YtnlmndlchobfeaaGreatVCovers44
namespace Go.Proofs.YtnlmndlchobfeaaGreat
open Go.RowKit
set_option linter.unusedSimpArgs false
set_option linter.unusedVariables false
set_option maxRecDepth 100000

/-- What ReachBox tells of its sides. -/
def rb1 (C wi z : Int) (D : List (Int × Int)) : Int := zI C (mnTo (px D) D.length - reachI wi z)
def rb2 (C wi z : Int) (D : List (Int × Int)) : Int := zI C (mnTo (py D) D.length - reachI wi z)
def rb3 (C wi z : Int) (D : List (Int × Int)) : Int := zI C (mxTo (px D) D.length + reachI wi z)
def rb4 (C wi z : Int) (D : List (Int × Int)) : Int := zI C (mxTo (py D) D.length + reachI wi z)
abbrev rbV (C wi z : Int) (D : List (Int × Int)) : Value := .agg #[.int .i64 C, .int .i64 (rb1 C wi z D), .int .i64 (rb2 C wi z D), .int .i64 (rb3 C wi z D), .int .i64 (rb4 C wi z D)]
theorem rbV_no {C wi z : Int} {D : List (Int × Int)} (h : C ≠ 0) : rbV C wi z D = .agg #[.int .i64 C, .int .i64 0, .int .i64 0, .int .i64 0, .int .i64 0] := by
  simp [rbV, rb1, rb2, rb3, rb4, zI, h]
/-- The doubled points of what a feature becomes. -/
abbrev dblR (R : List (Int × Int)) : List (Int × Int) := dblL (px R) (py R) R.length

theorem resRB (T : Array Value) (Wf : World) (r : Nat) (v0 v1 v2 v3 v4 : Value) (hT : T[4]?.getD undef = .pointer (some ⟨r, 0, none⟩)) (h0 : Wf.cell? ⟨r, 0, none⟩ = some v0) (h1 : Wf.cell? ⟨r, 1, none⟩ = some v1) (h2 : Wf.cell? ⟨r, 2, none⟩ = some v2) (h3 : Wf.cell? ⟨r, 3, none⟩ = some v3) (h4 : Wf.cell? ⟨r, 4, none⟩ = some v4) :
    (results Tryz.f8 T).run Tryz.prog Wf = .ok (.agg #[v0, v1, v2, v3, v4]) Wf := by
  simp [results, Tryz.results8, go_sem, hT, h0, h1, h2, h3, h4]
set_option maxHeartbeats 8000000 in
theorem impl_ReachBox_any {off : Nat} (id la ki wi z : Int) (b n cap : Nat) (X Y : Nat → Int) (lab : ByteArray) (pr : Int) (L : List Nat) (w : World) (hp : PtsAt w b off n X Y) (hbl : b < w.heap.size) (hn : n ≤ 1048576) (hcap : n ≤ cap) (hl : lab.size ≤ 1048576)
    (hL : 3 ≤ (snapL X Y z n).length → Thin (px (snapL X Y z n)) (py (snapL X Y z n)) (gridI z) 0 ((snapL X Y z n).length - 1) L) (C : Int) (hC : C = simpC z (featC id la ki wi n X Y lab pr)) :
    Calls Tryz.prog 8 #[.agg #[.int .i64 id, .int .i64 la, .int .i64 ki, .int .i64 wi, .slice (some ⟨b, off, none⟩) n cap, .string lab, .int .i64 pr], .int .i64 z] w fun e w' => e = .returned (rbV C wi z (dblR (simpR C ki z n X Y L))) ∧ Below w.heap.size w w' := by
  have HP : Hid (PtsAt w b off n X Y) := hp
  have HL := (show Hid _ from hL)
  have HC : Hid (C = simpC z (featC id la ki wi n X Y lab pr)) := hC
  clear hp hL hC
  by_cases hC0 : C = 0
  · subst hC0
    have hz : zoomB z = true := by
      have := HC.out
      unfold simpC at this
      split at this
      · assumption
      · omega
    have hfc : featC id la ki wi n X Y lab pr = 0 := by
      have := HC.out
      unfold simpC at this
      rw [if_pos hz] at this
      exact this.symm
    obtain ⟨hkn, hR12, hall⟩ := simpR_facts hfc hz HL.out
    have hwr := (featC_rng hfc).2.2.1
    have hR0 : 0 < (simpR 0 ki z n X Y L).length := by rcases hkn with ⟨_, h⟩ | ⟨_, h⟩ | ⟨_, h⟩ <;> omega
    have Hs : Hid (∀ W, PtsAt W b off n X Y → b < W.heap.size → Calls Tryz.prog 25 #[.agg #[.int .i64 id, .int .i64 la, .int .i64 ki, .int .i64 wi, .slice (some ⟨b, off, none⟩) n cap, .string lab, .int .i64 pr], .int .i64 z] W fun e w' => ∃ g cg, e = .returned (.agg #[.int .i64 0, .int .i64 id, .int .i64 la, .int .i64 ki, .int .i64 wi, .slice (some ⟨g, 0, none⟩) (simpR 0 ki z n X Y L).length cg, .string lab, .int .i64 pr]) ∧ g < w'.heap.size ∧ (simpR 0 ki z n X Y L).length ≤ cg ∧ PtsAt w' g 0 (simpR 0 ki z n X Y L).length (px (simpR 0 ki z n X Y L)) (py (simpR 0 ki z n X Y L)) ∧ Below W.heap.size W w') := fun W h1 h2 => simple_ok id la ki wi z b n cap X Y lab pr L W h1 h2 hn hcap hl HL.out HC.out hR0
    have HAL : Hid (allW (simpR 0 ki z n X Y L)) := hall
    generalize simpR 0 ki z n X Y L = R at *
    clear hfc hall hkn HC HL
    have Hb : Hid (∀ (g cg : Nat) (w : World), PtsAt w g 0 R.length (px R) (py R) → g < w.heap.size → Calls Tryz.prog 31 #[.agg #[.int .i64 id, .int .i64 la, .int .i64 ki, .int .i64 wi, .slice (some ⟨g, 0, none⟩) R.length cg, .string lab, .int .i64 pr], .int .i64 z] w fun e w' => e = .returned (.agg #[.int .i64 (mnTo (px (dblR R)) (dblR R).length - reachI wi z), .int .i64 (mnTo (py (dblR R)) (dblR R).length - reachI wi z), .int .i64 (mxTo (px (dblR R)) (dblR R).length + reachI wi z), .int .i64 (mxTo (py (dblR R)) (dblR R).length + reachI wi z)]) ∧ Below w.heap.size w w') := fun g cg w h1 h2 => boxAsItIs_any id la ki wi z g R.length cg (px R) (py R) lab pr w h1 h2 hR0 (by omega) (fun i _ => HAL.out.at i) hwr hz
    have HV : Hid (rbV 0 wi z (dblR R) = .agg #[.int .i64 0, .int .i64 (mnTo (px (dblR R)) (dblR R).length - reachI wi z), .int .i64 (mnTo (py (dblR R)) (dblR R).length - reachI wi z), .int .i64 (mxTo (px (dblR R)) (dblR R).length + reachI wi z), .int .i64 (mxTo (py (dblR R)) (dblR R).length + reachI wi z)]) := by
      show rbV _ _ _ _ = _
      simp [rbV, rb1, rb2, rb3, rb4, zI]
    generalize mnTo (px (dblR R)) (dblR R).length - reachI wi z = a1 at *
    generalize mnTo (py (dblR R)) (dblR R).length - reachI wi z = a2 at *
    generalize mxTo (px (dblR R)) (dblR R).length + reachI wi z = a3 at *
    generalize mxTo (py (dblR R)) (dblR R).length + reachI wi z = a4 at *
    rw [HV.out]
    clear HV
    generalize R.length = N at *
    go_enter Tryz.func8, Tryz.ntmps8
    go_wp2_with fail
    generalize hW : ((w.alloc _).alloc _ : World) = W
    have hB0 : Below w.heap.size w W := by subst hW; (repeat (first | exact Below.refl _ _ | assumption | refine Below.drew ?_ | refine bl_alloc ?_ _ | refine bl_then ?_ (by assumption) | refine Below.setCell ?_ (by first | omega | (simp; done) | (simp; omega)) _ | refine bl_store ?_ ?_ _ _))
    have HT : Hid (There W (w.heap.size + 1) 5) := by
      show There _ _ _
      subst hW
      have := there5 (w.alloc (.cells #[.int .i64 id, .int .i64 la, .int .i64 ki, .int .i64 wi, .slice (some ⟨b, off, none⟩) n cap, .string lab, .int .i64 pr] 26)) (.int .i64 0) (.int .i64 0) (.int .i64 0) (.int .i64 0) (.int .i64 0) 35
      simpa using this
    have hsW : w.heap.size + 1 < W.heap.size := by subst hW; simp
    clear hW
    refine (Hs.out W (HP.out.below hB0 hbl) (Nat.lt_of_lt_of_le hbl hB0.size)).mono ?_
    rintro e w1 ⟨g, cg, rfl, hgl, hcg, hPg, hb1⟩
    have HPg : Hid (PtsAt w1 g 0 N (px R) (py R)) := hPg
    have HB1 : Hid (Below w.heap.size w w1) := bl_then hB0 hb1
    have HT1 : Hid (There w1 (w.heap.size + 1) 5) := HT.out.below hb1
    have hs1 : w.heap.size + 1 < w1.heap.size := Nat.lt_of_lt_of_le hsW hb1.size
    clear hPg hB0 hb1 HT Hs
    go_wp2_with fail
    generalize hV : (w1.alloc _ : World) = V
    have hbV : Below w1.heap.size w1 V := by subst hV; (repeat (first | exact Below.refl _ _ | assumption | refine Below.drew ?_ | refine bl_alloc ?_ _ | refine bl_then ?_ (by assumption) | refine Below.setCell ?_ (by first | omega | (simp; done) | (simp; omega)) _ | refine bl_store ?_ ?_ _ _))
    clear hV
    refine (Hb.out g cg V (HPg.out.below hbV hgl) (Nat.lt_of_lt_of_le hgl hbV.size)).mono ?_
    rintro e w2 ⟨rfl, hb2⟩
    have hb12 := bl_then hbV hb2
    have hT' := HT1.out.below hb12
    have HT2 : Hid (There w2 (w.heap.size + 1) 5) := hT'
    have t0 := hT'.cell 0 (by omega)
    have t1 := hT'.cell 1 (by omega)
    have t2 := hT'.cell 2 (by omega)
    have t3 := hT'.cell 3 (by omega)
    have t4 := hT'.cell 4 (by omega)
    have z0 := (hT' 0 (by omega)).2
    have z1 := (hT' 1 (by omega)).2
    have z2 := (hT' 2 (by omega)).2
    have z3 := (hT' 3 (by omega)).2
    have z4 := (hT' 4 (by omega)).2
    have HB2 : Hid (Below w.heap.size w w2) := bl_then HB1.out hb12
    have hs2 : w.heap.size + 1 < w2.heap.size := Nat.lt_of_lt_of_le hs1 hb12.size
    clear hT' hb12 hb2 hbV
    go_wp2_with fail
    obtain ⟨s0, s1, s2, s3, s4⟩ := set5_at (a := .int .i64 0) (b := .int .i64 a1) (c := .int .i64 a2) (d := .int .i64 a3) (e := .int .i64 a4) HT2.out
    refine bodyPost_ret (v := .agg #[.int .i64 0, .int .i64 a1, .int .i64 a2, .int .i64 a3, .int .i64 a4]) (by simp [results, Tryz.results8, go_sem, s0, s1, s2, s3, s4]) rfl ⟨rfl, ?_⟩
    have HB := HB2.out
    (repeat (first | exact Below.refl _ _ | assumption | refine Below.drew ?_ | refine bl_alloc ?_ _ | refine bl_then ?_ (by assumption) | refine Below.setCell ?_ (by first | omega | (simp; done) | (simp; omega)) _ | refine bl_store ?_ ?_ _ _))
  · rw [rbV_no hC0]
    have hcb : (C != 0) = true := by simpa using hC0
    go_enter Tryz.func8, Tryz.ntmps8
    go_wp2_with fail
    generalize hW : ((w.alloc _).alloc _ : World) = W
    have hB0 : Below w.heap.size w W := by subst hW; (repeat (first | exact Below.refl _ _ | assumption | refine Below.drew ?_ | refine bl_alloc ?_ _ | refine bl_then ?_ (by assumption) | refine Below.setCell ?_ (by first | omega | (simp; done) | (simp; omega)) _ | refine bl_store ?_ ?_ _ _))
    have HT : Hid (There W (w.heap.size + 1) 5) := by
      show There _ _ _
      subst hW
      have := there5 (w.alloc (.cells #[.int .i64 id, .int .i64 la, .int .i64 ki, .int .i64 wi, .slice (some ⟨b, off, none⟩) n cap, .string lab, .int .i64 pr] 26)) (.int .i64 0) (.int .i64 0) (.int .i64 0) (.int .i64 0) (.int .i64 0) 35
      simpa using this
    have hsW : w.heap.size + 1 < W.heap.size := by subst hW; simp
    clear hW
    refine (simple_no id la ki wi z b n cap X Y lab pr L W (HP.out.below hB0 hbl) (Nat.lt_of_lt_of_le hbl hB0.size) hn hcap hl HL.out C HC.out hC0).mono ?_
    rintro e w1 ⟨a1, c1, rfl, hb1⟩
    have hT' := HT.out.below hb1
    have HT2 : Hid (There w1 (w.heap.size + 1) 5) := hT'
    have t0 := hT'.cell 0 (by omega)
    have t1 := hT'.cell 1 (by omega)
    have t2 := hT'.cell 2 (by omega)
    have t3 := hT'.cell 3 (by omega)
    have t4 := hT'.cell 4 (by omega)
    have z0 := (hT' 0 (by omega)).2
    have z1 := (hT' 1 (by omega)).2
    have z2 := (hT' 2 (by omega)).2
    have z3 := (hT' 3 (by omega)).2
    have z4 := (hT' 4 (by omega)).2
    have HB2 : Hid (Below w.heap.size w w1) := bl_then hB0 hb1
    have hs2 : w.heap.size + 1 < w1.heap.size := Nat.lt_of_lt_of_le hsW hb1.size
    clear hT' hb1 hB0 HC HL
    go_wp2_with fail
    obtain ⟨s0, s1, s2, s3, s4⟩ := set5_at (a := .int .i64 C) (b := .int .i64 0) (c := .int .i64 0) (d := .int .i64 0) (e := .int .i64 0) HT2.out
    have hbl1 := fun (o : Obj) (V : World) => bl_alloc (Below.refl V.heap.size V) o
    refine bodyPost_ret (resRB _ _ (w.heap.size + 1) _ _ _ _ _ rfl (bl_cell (hbl1 _ _) s0) (bl_cell (hbl1 _ _) s1) (bl_cell (hbl1 _ _) s2) (bl_cell (hbl1 _ _) s3) (bl_cell (hbl1 _ _) s4)) rfl ⟨rfl, ?_⟩
    have hle : w.heap.size ≤ w.heap.size + 1 := Nat.le_succ _
    exact (((((HB2.out.setCell (p := ⟨w.heap.size + 1, 0, none⟩) hle _).setCell (p := ⟨w.heap.size + 1, 1, none⟩) hle _).setCell (p := ⟨w.heap.size + 1, 2, none⟩) hle _).setCell (p := ⟨w.heap.size + 1, 3, none⟩) hle _).setCell (p := ⟨w.heap.size + 1, 4, none⟩) hle _).alloc (by simp; omega) _
end Go.Proofs.YtnlmndlchobfeaaGreat
