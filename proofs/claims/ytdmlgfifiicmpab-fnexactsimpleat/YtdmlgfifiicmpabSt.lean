/- SimpleAt of the model. -/
import Derived.Test.YtdmlgfifiicmpabSr
namespace Go.Proofs.Ytdmlgfifiicmpab
open Go.RowKit
set_option linter.unusedSimpArgs false
set_option linter.unusedVariables false

theorem res8s (T : Array Value) (Wf : World) (r : Nat) (v0 v1 v2 v3 v4 v5 v6 v7 : Value) (hT : T[4]?.getD undef = .pointer (some ⟨r, 0, none⟩)) (h0 : Wf.cell? ⟨r, 0, none⟩ = some v0) (h1 : Wf.cell? ⟨r, 1, none⟩ = some v1) (h2 : Wf.cell? ⟨r, 2, none⟩ = some v2) (h3 : Wf.cell? ⟨r, 3, none⟩ = some v3) (h4 : Wf.cell? ⟨r, 4, none⟩ = some v4) (h5 : Wf.cell? ⟨r, 5, none⟩ = some v5) (h6 : Wf.cell? ⟨r, 6, none⟩ = some v6) (h7 : Wf.cell? ⟨r, 7, none⟩ = some v7) :
    (results Try.f23 T).run Try.prog Wf = .ok (.agg #[v0, v1, v2, v3, v4, v5, v6, v7]) Wf := by
  simp [results, Try.results23, go_sem, hT, h0, h1, h2, h3, h4, h5, h6, h7]
set_option maxRecDepth 8000 in
set_option maxHeartbeats 4000000 in
theorem spec_SimpleAt_any (id la ki wi z : Int) (b n cap : Nat) (X Y : Nat → Int) (lab : ByteArray) (pr : Int) (L : List Nat) (w : World) (hp : PtsAt w b 0 n X Y) (hbl : b < w.heap.size) (hn : n ≤ 1048576) (hcap : n ≤ cap) (hl : lab.size ≤ 1048576)
    (hL : 3 ≤ (snapL X Y z n).length → Thin (px (snapL X Y z n)) (py (snapL X Y z n)) (gridI z) 0 ((snapL X Y z n).length - 1) L) (C : Int) (hC : C = simpC z (featC id la ki wi n X Y lab pr)) :
    Calls Try.prog 23 #[.agg #[.int .i64 id, .int .i64 la, .int .i64 ki, .int .i64 wi, .slice (some ⟨b, 0, none⟩) n cap, .string lab, .int .i64 pr], .int .i64 z] w fun e w' => ∃ v, e = .returned (.agg #[.int .i64 C, .int .i64 (zI C id), .int .i64 (zI C la), .int .i64 (zI C ki), .int .i64 (zI C wi), v, .string (zS C lab), .int .i64 (zI C pr)]) ∧ Row w.heap.size w' v (simpR C ki z n X Y L) ∧ Below w.heap.size w w' := by
  have HP : Hid (PtsAt w b 0 n X Y) := hp
  have HL := (show Hid _ from hL)
  have HC : Hid (C = simpC z (featC id la ki wi n X Y lab pr)) := hC
  clear hp hL hC
  go_enter Try.func23, Try.ntmps23
  go_wp2_with fail
  generalize hW : ((w.alloc _).alloc _ : World) = W
  have HB0 : Hid (Below w.heap.size w W) := by show Below _ _ _; subst hW; (repeat (first | exact Below.refl _ _ | assumption | refine Below.drew ?_ | refine bl_alloc ?_ _ | refine bl_then ?_ (by assumption) | refine Below.setCell ?_ (by first | omega | (simp; done) | (simp; omega)) _ | refine bl_store ?_ ?_ _ _))
  have HT : Hid (There W (w.heap.size + 1) 8) := by
    show There _ _ _
    subst hW
    have := there8 (w.alloc (.cells #[.int .i64 id, .int .i64 la, .int .i64 ki, .int .i64 wi, .slice (some ⟨b, 0, none⟩) n cap, .string lab, .int .i64 pr] 47)) (.int .i64 0) (.int .i64 0) (.int .i64 0) (.int .i64 0) (.int .i64 0) (.slice none 0 0) (.string ⟨#[]⟩) (.int .i64 0) 49
    simpa using this
  have HF : Hid (FeatAt W w.heap.size 0 id la ki wi (.slice (some ⟨b, 0, none⟩) n cap) lab pr) := by
    show FeatAt _ _ _ _ _ _ _ _ _ _
    subst hW
    refine ⟨?_, ?_, ?_, ?_, ?_, ?_, ?_⟩ <;> simp [go_sem]
  have hsz : w.heap.size + 1 < W.heap.size := by subst hW; simp
  clear hW
  refine (l3Zoom_any _ _).mono ?_
  rintro e w' ⟨rfl, rfl⟩
  cases h : zoomB z
  · have HCn : Hid (C ≠ 0) := by show _ ≠ _; rw [HC.out]; simp [simpC, h]
    have HCv : Hid (C = 3) := by show _ = _; rw [HC.out]; simp [simpC, h]
    have hT' := HT.out
    have HT' := (show Hid _ from hT')
    have t0 := hT'.cell 0 (by omega)
    have t1 := hT'.cell 1 (by omega)
    have t2 := hT'.cell 2 (by omega)
    have t3 := hT'.cell 3 (by omega)
    have t4 := hT'.cell 4 (by omega)
    have t5 := hT'.cell 5 (by omega)
    have t6 := hT'.cell 6 (by omega)
    have t7 := hT'.cell 7 (by omega)
    have z0 := (hT' 0 (by omega)).2
    have z1 := (hT' 1 (by omega)).2
    have z2 := (hT' 2 (by omega)).2
    have z3 := (hT' 3 (by omega)).2
    have z4 := (hT' 4 (by omega)).2
    have z5 := (hT' 5 (by omega)).2
    have z6 := (hT' 6 (by omega)).2
    have z7 := (hT' 7 (by omega)).2
    clear hT'
    go_wp2_with fail
    obtain ⟨y0, y1, y2, y3, y4, y5, y6, y7⟩ := set8_at (v0 := .int .i64 3) (v1 := .int .i64 0) (v2 := .int .i64 0) (v3 := .int .i64 0) (v4 := .int .i64 0) (v5 := .slice none 0 0) (v6 := .string ⟨#[]⟩) (v7 := .int .i64 0) HT'.out
    refine bodyPost_ret (res8s _ _ (w.heap.size + 1) _ _ _ _ _ _ _ _ rfl y0 y1 y2 y3 y4 y5 y6 y7) rfl ⟨.slice none 0 0, ?_, ?_, below8 HB0.out (Nat.le_succ _)⟩
    · rw [zI_no HCn.out, zI_no HCn.out, zI_no HCn.out, zI_no HCn.out, zI_no HCn.out, zS_no HCn.out, HCv.out]
    · rw [simpR, if_neg HCn.out]; exact Row.no _ _
  · obtain ⟨q0, q1, q2, q3, q4, q5, q6⟩ := HF.out
    simp only [Nat.zero_add] at q0 q1 q2 q3 q4 q5 q6
    go_wp2_with fail
    refine (l2Fault_any w.heap.size 0 id la ki wi _ n cap X Y lab pr W HF.out (.inr ⟨b, 0, rfl, Nat.lt_of_lt_of_le hbl HB0.out.size, HP.out.below HB0.out hbl⟩) hl hn).mono ?_
    rintro e w1 ⟨rfl, hb1⟩
    have HB1 : Hid (Below w.heap.size w w1) := bl_then HB0.out hb1
    have HF1 : Hid (FeatAt w1 w.heap.size 0 id la ki wi (.slice (some ⟨b, 0, none⟩) n cap) lab pr) := HF.out.below hb1 (by omega)
    have HT1 : Hid (There w1 (w.heap.size + 1) 8) := HT.out.below hb1
    have hsz1 := hb1.size
    clear hb1 q0 q1 q2 q3 q4 q5 q6
    by_cases hfc : featC id la ki wi n X Y lab pr = 0
    · have HCz : Hid (C = 0) := by show _ = _; rw [HC.out]; simp [simpC, h, hfc]
      obtain ⟨hk3, hn0, hn12, hkn, hin, hl6⟩ := featC_zero hfc
      have HIN : Hid (∀ i, i < n → inW (X i) (Y i) = true) := hin
      rw [hfc]
      clear hfc hin
      go_wp2_with fail
      refine (l3Simple_any w.heap.size id la ki wi z b n cap X Y lab pr L w1 HF1.out (HP.out.below HB1.out hbl) (Nat.lt_of_lt_of_le hbl HB1.out.size) h hk3 hn0 hn12 HIN.out HL.out).mono ?_
      rintro e w2 ⟨v2, rfl, hR2, hb2⟩
      obtain ⟨a2, c2, hv2, _, _⟩ := hR2.own
      have HR2 : Hid (Row w1.heap.size w2 v2 (fillL ki.toNat (simpT ki z n X Y L))) := hR2
      have HB2 : Hid (Below w.heap.size w w2) := bl_then HB1.out hb2
      have HT2 : Hid (There w2 (w.heap.size + 1) 8) := HT1.out.below hb2
      generalize (fillL ki.toNat (simpT ki z n X Y L)).length = N2 at hv2
      subst hv2
      clear hR2 hb2
      have hT' := HT2.out
      have HT' := (show Hid _ from hT')
      have t0 := hT'.cell 0 (by omega)
      have t1 := hT'.cell 1 (by omega)
      have t2 := hT'.cell 2 (by omega)
      have t3 := hT'.cell 3 (by omega)
      have t4 := hT'.cell 4 (by omega)
      have t5 := hT'.cell 5 (by omega)
      have t6 := hT'.cell 6 (by omega)
      have t7 := hT'.cell 7 (by omega)
      have z0 := (hT' 0 (by omega)).2
      have z1 := (hT' 1 (by omega)).2
      have z2 := (hT' 2 (by omega)).2
      have z3 := (hT' 3 (by omega)).2
      have z4 := (hT' 4 (by omega)).2
      have z5 := (hT' 5 (by omega)).2
      have z6 := (hT' 6 (by omega)).2
      have z7 := (hT' 7 (by omega)).2
      clear hT'
      go_wp2_with fail
      obtain ⟨y0, y1, y2, y3, y4, y5, y6, y7⟩ := set8_at (v0 := .int .i64 0) (v1 := .int .i64 id) (v2 := .int .i64 la) (v3 := .int .i64 ki) (v4 := .int .i64 wi) (v5 := .slice a2 N2 c2) (v6 := .string lab) (v7 := .int .i64 pr) HT'.out
      refine bodyPost_ret (res8s _ _ (w.heap.size + 1) _ _ _ _ _ _ _ _ rfl y0 y1 y2 y3 y4 y5 y6 y7) rfl ⟨.slice a2 N2 c2, ?_, ?_, below8 HB2.out (Nat.le_succ _)⟩
      · rw [HCz.out]
        simp [zI, zS]
      · rw [simpR, if_pos HCz.out]
        exact Row.set8 HR2.out (by omega) (by omega)
    · have hfb : (featC id la ki wi n X Y lab pr == 0) = false := by simp [hfc]
      have HCn : Hid (C ≠ 0) := by show _ ≠ _; rw [HC.out]; simp [simpC, h, hfc]
      have HCv : Hid (C = featC id la ki wi n X Y lab pr) := by show _ = _; rw [HC.out]; simp [simpC, h]
      generalize featC id la ki wi n X Y lab pr = fc at *
      have hT' := HT1.out
      have HT' := (show Hid _ from hT')
      have t0 := hT'.cell 0 (by omega)
      have t1 := hT'.cell 1 (by omega)
      have t2 := hT'.cell 2 (by omega)
      have t3 := hT'.cell 3 (by omega)
      have t4 := hT'.cell 4 (by omega)
      have t5 := hT'.cell 5 (by omega)
      have t6 := hT'.cell 6 (by omega)
      have t7 := hT'.cell 7 (by omega)
      have z0 := (hT' 0 (by omega)).2
      have z1 := (hT' 1 (by omega)).2
      have z2 := (hT' 2 (by omega)).2
      have z3 := (hT' 3 (by omega)).2
      have z4 := (hT' 4 (by omega)).2
      have z5 := (hT' 5 (by omega)).2
      have z6 := (hT' 6 (by omega)).2
      have z7 := (hT' 7 (by omega)).2
      clear hT'
      go_wp2_with fail
      obtain ⟨y0, y1, y2, y3, y4, y5, y6, y7⟩ := set8_at (v0 := .int .i64 fc) (v1 := .int .i64 0) (v2 := .int .i64 0) (v3 := .int .i64 0) (v4 := .int .i64 0) (v5 := .slice none 0 0) (v6 := .string ⟨#[]⟩) (v7 := .int .i64 0) HT'.out
      refine bodyPost_ret (res8s _ _ (w.heap.size + 1) _ _ _ _ _ _ _ _ rfl y0 y1 y2 y3 y4 y5 y6 y7) rfl ⟨.slice none 0 0, ?_, ?_, below8 HB1.out (Nat.le_succ _)⟩
      · rw [zI_no HCn.out, zI_no HCn.out, zI_no HCn.out, zI_no HCn.out, zI_no HCn.out, zS_no HCn.out, HCv.out]
      · rw [simpR, if_neg HCn.out]; exact Row.no _ _
end Go.Proofs.Ytdmlgfifiicmpab
