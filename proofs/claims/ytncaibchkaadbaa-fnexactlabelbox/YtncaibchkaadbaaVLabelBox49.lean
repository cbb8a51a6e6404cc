/- LabelBox: the program and the model, and the law at every feature. -/
import Derived.Test.YtncaibchkaadbaaVLabelBox45
import Derived.Test.YtncaibchkaadbaaVLabelBox47
import Derived.Test.YtncaibchkaadbaaVLabelBox48
namespace Go.Proofs.Ytncaibchkaadbaa
open Go.RowKit
set_option linter.unusedSimpArgs false
set_option linter.unusedVariables false
set_option maxRecDepth 100000

/-- The code of LabelBox, and how many boxes it tells. -/
def lbC (C : Int) (lab : ByteArray) : Int := if C = 0 then (if lab = ⟨#[]⟩ then 4 else 0) else C
def lbN (C : Int) (lab : ByteArray) : Nat := if C = 0 then (if lab = ⟨#[]⟩ then 0 else 1) else 0
theorem set2a {W : World} {r : Nat} {a b : Value} (hT : There W r 2) :
    ((W.setCell ⟨r, 0, none⟩ a).setCell ⟨r, 1, none⟩ b).cell? ⟨r, 0, none⟩ = some a ∧ ((W.setCell ⟨r, 0, none⟩ a).setCell ⟨r, 1, none⟩ b).cell? ⟨r, 1, none⟩ = some b := by
  obtain ⟨u0, h0⟩ := (hT 0 (by omega)).1
  obtain ⟨u1, h1⟩ := (hT 1 (by omega)).1
  have ne : ∀ i j : Nat, i ≠ j → (⟨r, i, none⟩ : Addr) ≠ ⟨r, j, none⟩ := fun i j hij h => hij (by injection h)
  refine ⟨?_, ?_⟩
  · rw [set1_other (ne 1 0 (by omega))]; exact set1_same h0
  · exact set1_same (by rw [set1_other (ne 0 1 (by omega))]; exact h1)
theorem lab_ne {lab : ByteArray} (h : ¬ lab = ⟨#[]⟩) : lab.toList.isEmpty = false := by
  cases hb : lab.toList.isEmpty
  · rfl
  · have e : lab.toList = [] := by simpa using hb
    rw [ByteArray.toList_eq] at e
    exact absurd (ByteArray.ext (Array.toList_inj.1 e)) h
theorem ownP_none (w : World) (base : Nat) (E : Nat → Plc) : OwnP w base (.slice none 0 0) 0 E := ⟨none, 0, rfl, Nat.le_refl _, .inl rfl⟩
/-- A list of one box, made new. -/
theorem ownP_one (w : World) (base : Nat) (e : Plc) (t : TypeId) (hb : base ≤ w.heap.size) : OwnP (w.alloc (.cells #[.int .i64 e.id, .int .i64 e.a, .int .i64 e.b, .int .i64 e.c, .int .i64 e.d] t)) base (.slice (some ⟨w.heap.size, 0, none⟩) 1 1) 1 (fun _ => e) := by
  refine ⟨_, 1, rfl, Nat.le_refl _, .inr ⟨w.heap.size, rfl, hb, by simp, fun i hi => ?_, there5a w _ _ _ _ _ _⟩⟩
  obtain rfl : i = 0 := by omega
  exact ⟨by simp [go_sem], by simp [go_sem], by simp [go_sem], by simp [go_sem], by simp [go_sem]⟩
theorem OwnP.set {w : World} {base B r o : Nat} {v u : Value} {n : Nat} {E : Nat → Plc} (h : OwnP w base v n E) (hr : r < base) (hB : B ≤ base) : OwnP (w.setCell ⟨r, o, none⟩ u) B v n E := by
  obtain ⟨a, cap, hv, hc, h0 | ⟨b, ha, hbb, hl, hp, ht⟩⟩ := h
  · exact ⟨a, cap, hv, hc, .inl h0⟩
  · have hne : r ≠ b := by omega
    have ne : ∀ k : Nat, (⟨r, o, none⟩ : Addr) ≠ ⟨b, k, none⟩ := fun k e => hne (by injection e)
    refine ⟨a, cap, hv, hc, .inr ⟨b, ha, by omega, by simpa using hl, fun i hi => ?_, ht.outP hne⟩⟩
    obtain ⟨h0, h1, h2, h3, h4⟩ := hp i hi
    exact ⟨(set1_other (ne _)).trans h0, (set1_other (ne _)).trans h1, (set1_other (ne _)).trans h2, (set1_other (ne _)).trans h3, (set1_other (ne _)).trans h4⟩
set_option maxHeartbeats 8000000 in
theorem impl_LabelBox_any {off : Nat} (id la ki wi z : Int) (b n cap : Nat) (X Y : Nat → Int) (lab : ByteArray) (pr : Int) (L : List Nat) (w : World) (hp : PtsAt w b off n X Y) (hbl : b < w.heap.size) (hn : n ≤ 1048576) (hcap : n ≤ cap) (hl : lab.size ≤ 1048576)
    (hL : 3 ≤ (snapL X Y z n).length → Thin (px (snapL X Y z n)) (py (snapL X Y z n)) (gridI z) 0 ((snapL X Y z n).length - 1) L) (C : Int) (hC : C = simpC z (featC id la ki wi n X Y lab pr)) :
    Calls Try.prog 12 #[.agg #[.int .i64 id, .int .i64 la, .int .i64 ki, .int .i64 wi, .slice (some ⟨b, off, none⟩) n cap, .string lab, .int .i64 pr], .int .i64 z] w fun e w' => ∃ v, e = .returned (.agg #[.int .i64 (lbC C lab), v]) ∧ OwnP w' w.heap.size v (lbN C lab) (fun _ => lbF id lab (ancI z (px (simpR C ki z n X Y L) 0)) (ancI z (py (simpR C ki z n X Y L) 0))) ∧ Below w.heap.size w w' := by
  have HP : Hid (PtsAt w b off n X Y) := hp
  have HL := (show Hid _ from hL)
  have HC : Hid (C = simpC z (featC id la ki wi n X Y lab pr)) := hC
  clear hp hL hC
  go_enter Try.func12, Try.ntmps12
  go_wp2_with fail
  generalize hW : ((w.alloc _).alloc _ : World) = W
  have hB0 : Below w.heap.size w W := by subst hW; (repeat (first | exact Below.refl _ _ | assumption | refine Below.drew ?_ | refine bl_alloc ?_ _ | refine bl_then ?_ (by assumption) | refine Below.setCell ?_ (by first | omega | (simp; done) | (simp; omega)) _ | refine bl_store ?_ ?_ _ _))
  have HT : Hid (There W (w.heap.size + 1) 2) := by
    show There _ _ _
    subst hW
    have := there1a (w.alloc (.cells #[.int .i64 id, .int .i64 la, .int .i64 ki, .int .i64 wi, .slice (some ⟨b, off, none⟩) n cap, .string lab, .int .i64 pr] 33)) (.int .i64 0) (.slice none 0 0) 40
    simpa using this
  have HF : Hid (W.cell? ⟨w.heap.size, 5, none⟩ = some (.string lab)) := by show _ = _; subst hW; simp [go_sem]
  have HSZ : Hid (w.heap.size + 1 < W.heap.size) := by show _ < _; subst hW; simp
  clear hW
  have HB0 : Hid (Below w.heap.size w W) := hB0
  have HPW : Hid (PtsAt W b off n X Y) := HP.out.below hB0 hbl
  have hblW : b < W.heap.size := Nat.lt_of_lt_of_le hbl hB0.size
  clear hB0
  by_cases hC0 : C = 0
  · subst hC0
    obtain ⟨hz, hfc⟩ := simp_zero HC.out
    obtain ⟨hkn, hR12, hall⟩ := simpR_facts hfc hz HL.out
    have hR0 : 0 < (simpR 0 ki z n X Y L).length := by rcases hkn with ⟨_, h⟩ | ⟨_, h⟩ | ⟨_, h⟩ <;> omega
    have Hs := (show Hid _ from simple_ok id la ki wi z b n cap X Y lab pr L W HPW.out hblW hn hcap hl HL.out HC.out hR0)
    clear hfc hkn
    have HAL : Hid (allW (simpR 0 ki z n X Y L)) := hall
    clear hall
    have HZ : Hid (zoomB z = true) := hz
    clear hz
    refine Calls.mono Hs.out ?_
    clear Hs
    generalize hRe : simpR 0 ki z n X Y L = R at *
    have HRe : Hid (simpR 0 ki z n X Y L = R) := hRe
    clear hRe
    rintro e w1 ⟨g, cg, rfl, hgl, hcg, hPg, hb1⟩
    have HPg : Hid (PtsAt w1 g 0 R.length (px R) (py R)) := hPg
    generalize hRn : R.length = N at *
    have HT1 : Hid (There w1 (w.heap.size + 1) 2) := HT.out.below hb1
    have HB1 : Hid (Below w.heap.size w w1) := bl_then HB0.out hb1
    have hs1 : w.heap.size + 1 < w1.heap.size := Nat.lt_of_lt_of_le HSZ.out hb1.size
    have hs0 : w.heap.size < w1.heap.size := by omega
    have q5 : w1.cell? ⟨w.heap.size, 5, none⟩ = some (.string lab) := (hb1.cell (p := ⟨w.heap.size, 5, none⟩) (World.block_lt_of_cell? _ _ HF.out)).trans HF.out
    clear hPg hb1
    by_cases hlab : lab = ⟨#[]⟩
    · have HK : Hid (lbC 0 lab = 4 ∧ lbN 0 lab = 0) := by show _ ∧ _; simp [lbC, lbN, hlab]
      subst hlab
      have hT1 := HT1.out
      have t0 := hT1.cell 0 (by omega)
      have t1 := hT1.cell 1 (by omega)
      have f0 := (hT1 0 (by omega)).2
      have f1 := (hT1 1 (by omega)).2
      clear hT1
      go_wp2_with fail
      rw [HRe.out, HK.out.1, HK.out.2]
      obtain ⟨q0, q1⟩ := set2a (a := .int .i64 4) (b := .slice none 0 0) HT1.out
      have hBU : Below w.heap.size w ((w1.setCell ⟨w.heap.size + 1, 0, none⟩ (.int .i64 4)).setCell ⟨w.heap.size + 1, 1, none⟩ (.slice none 0 0)) := (HB1.out.setCell (Nat.le_succ _) _).setCell (Nat.le_succ _) _
      generalize hU : ((w1.setCell _ _).setCell _ _ : World) = U at *
      have r0 : ∀ O, (U.alloc O).cell? ⟨w.heap.size + 1, 0, none⟩ = some (.int .i64 4) := fun O => (World.cell?_alloc_lt _ _ _ (World.block_lt_of_cell? _ _ q0)).trans q0
      have r1 : ∀ O, (U.alloc O).cell? ⟨w.heap.size + 1, 1, none⟩ = some (.slice none 0 0) := fun O => (World.cell?_alloc_lt _ _ _ (World.block_lt_of_cell? _ _ q1)).trans q1
      refine bodyPost_ret (v := .agg #[.int .i64 4, .slice none 0 0]) (by simp [results, Try.results12, go_sem, r0, r1]) rfl ⟨_, rfl, ownP_none _ _ _, ?_⟩
      exact bl_alloc hBU _
    · have HK : Hid (lbC 0 lab = 0 ∧ lbN 0 lab = 1) := by show _ ∧ _; simp [lbC, lbN, hlab]
      have hlb : lab.toList.isEmpty = false := lab_ne hlab
      clear hlab
      go_wp2_with fail
      generalize hV : (w1.alloc _ : World) = V
      have hbV : Below w1.heap.size w1 V := by subst hV; (repeat (first | exact Below.refl _ _ | assumption | refine Below.drew ?_ | refine bl_alloc ?_ _ | refine bl_then ?_ (by assumption) | refine Below.setCell ?_ (by first | omega | (simp; done) | (simp; omega)) _ | refine bl_store ?_ ?_ _ _))
      clear hV
      refine (labelAsItIs_any id la ki wi z g N cg (px R) (py R) lab pr V (HPg.out.below hbV hgl) (Nat.lt_of_lt_of_le hgl hbV.size) hR0 (HAL.out.at 0) HZ.out hl).mono ?_
      rintro e w2 ⟨rfl, hb2⟩
      have hT2 := HT1.out.below (bl_then hbV hb2)
      have HT2 : Hid (There w2 (w.heap.size + 1) 2) := hT2
      have t0 := hT2.cell 0 (by omega)
      have t1 := hT2.cell 1 (by omega)
      have f0 := (hT2 0 (by omega)).2
      have f1 := (hT2 1 (by omega)).2
      have HB2 : Hid (Below w.heap.size w w2) := bl_then HB1.out (bl_then hbV hb2)
      have hs2 : w.heap.size + 1 < w2.heap.size := Nat.lt_of_lt_of_le hs1 (bl_then hbV hb2).size
      clear hT2 hb2 hbV
      go_wp2_with fail
      rw [HRe.out, HK.out.1, HK.out.2]
      generalize ancI z (px R 0) = ax at *
      generalize ancI z (py R 0) = ay at *
      obtain ⟨q0, q1⟩ := set2a (a := .int .i64 0) (b := .slice (some ⟨w2.heap.size, 0, none⟩) 1 1) HT2.out
      have hBU : Below w.heap.size w ((w2.setCell ⟨w.heap.size + 1, 0, none⟩ (.int .i64 0)).setCell ⟨w.heap.size + 1, 1, none⟩ (.slice (some ⟨w2.heap.size, 0, none⟩) 1 1)) := (HB2.out.setCell (Nat.le_succ _) _).setCell (Nat.le_succ _) _
      have hsU : ((w2.setCell ⟨w.heap.size + 1, 0, none⟩ (.int .i64 0)).setCell ⟨w.heap.size + 1, 1, none⟩ (.slice (some ⟨w2.heap.size, 0, none⟩) 1 1)).heap.size = w2.heap.size := by simp
      generalize hU : ((w2.setCell _ _).setCell _ _ : World) = U at *
      have hO := ownP_one U w.heap.size (lbF id lab ax ay) 58 (by omega)
      rw [hsU] at hO
      have r0 : ∀ O, (U.alloc O).cell? ⟨w.heap.size + 1, 0, none⟩ = some (.int .i64 0) := fun O => (World.cell?_alloc_lt _ _ _ (World.block_lt_of_cell? _ _ q0)).trans q0
      have r1 : ∀ O, (U.alloc O).cell? ⟨w.heap.size + 1, 1, none⟩ = some (.slice (some ⟨w2.heap.size, 0, none⟩) 1 1) := fun O => (World.cell?_alloc_lt _ _ _ (World.block_lt_of_cell? _ _ q1)).trans q1
      refine bodyPost_ret (v := .agg #[.int .i64 0, .slice (some ⟨w2.heap.size, 0, none⟩) 1 1]) (by simp [results, Try.results12, go_sem, r0, r1]) rfl ⟨_, rfl, hO, ?_⟩
      exact bl_alloc hBU _
  · have Hs := (show Hid _ from simple_no id la ki wi z b n cap X Y lab pr L W HPW.out hblW hn hcap hl HL.out C HC.out hC0)
    have HK : Hid (lbC C lab = C ∧ lbN C lab = 0) := by show _ ∧ _; simp [lbC, lbN, hC0]
    refine Calls.mono Hs.out ?_
    rintro e w1 ⟨a1, c1, rfl, hb1⟩
    clear Hs
    have hT1 := HT.out.below hb1
    have HT1 : Hid (There w1 (w.heap.size + 1) 2) := hT1
    have HB1 : Hid (Below w.heap.size w w1) := bl_then HB0.out hb1
    have hs1 : w.heap.size + 1 < w1.heap.size := Nat.lt_of_lt_of_le HSZ.out hb1.size
    have hcb : (C == 0) = false := by simpa using hC0
    have t0 := hT1.cell 0 (by omega)
    have t1 := hT1.cell 1 (by omega)
    have f0 := (hT1 0 (by omega)).2
    have f1 := (hT1 1 (by omega)).2
    clear hb1 hC0 hT1
    go_wp2_with fail
    rw [HK.out.1, HK.out.2]
    obtain ⟨q0, q1⟩ := set2a (a := .int .i64 C) (b := .slice none 0 0) HT1.out
    have hBU : Below w.heap.size w ((w1.setCell ⟨w.heap.size + 1, 0, none⟩ (.int .i64 C)).setCell ⟨w.heap.size + 1, 1, none⟩ (.slice none 0 0)) := (HB1.out.setCell (Nat.le_succ _) _).setCell (Nat.le_succ _) _
    generalize hU : ((w1.setCell _ _).setCell _ _ : World) = U at *
    have r0 : ∀ O, (U.alloc O).cell? ⟨w.heap.size + 1, 0, none⟩ = some (.int .i64 C) := fun O => (World.cell?_alloc_lt _ _ _ (World.block_lt_of_cell? _ _ q0)).trans q0
    have r1 : ∀ O, (U.alloc O).cell? ⟨w.heap.size + 1, 1, none⟩ = some (.slice none 0 0) := fun O => (World.cell?_alloc_lt _ _ _ (World.block_lt_of_cell? _ _ q1)).trans q1
    refine bodyPost_ret (v := .agg #[.int .i64 C, .slice none 0 0]) (by simp [results, Try.results12, go_sem, r0, r1]) rfl ⟨_, rfl, ownP_none _ _ _, ?_⟩
    exact bl_alloc hBU _
set_option maxHeartbeats 8000000 in
theorem spec_LabelBox_any {off : Nat} (id la ki wi z : Int) (b n cap : Nat) (X Y : Nat → Int) (lab : ByteArray) (pr : Int) (L : List Nat) (w : World) (hp : PtsAt w b off n X Y) (hbl : b < w.heap.size) (hn : n ≤ 1048576) (hl : lab.size ≤ 1048576)
    (hL : 3 ≤ (snapL X Y z n).length → Thin (px (snapL X Y z n)) (py (snapL X Y z n)) (gridI z) 0 ((snapL X Y z n).length - 1) L) (C : Int) (hC : C = simpC z (featC id la ki wi n X Y lab pr)) :
    Calls Try.prog 11 #[.agg #[.int .i64 id, .int .i64 la, .int .i64 ki, .int .i64 wi, .slice (some ⟨b, off, none⟩) n cap, .string lab, .int .i64 pr], .int .i64 z] w fun e w' => ∃ v, e = .returned (.agg #[.int .i64 (lbC C lab), v]) ∧ OwnP w' w.heap.size v (lbN C lab) (fun _ => lbF id lab (ancI z (px (simpR C ki z n X Y L) 0)) (ancI z (py (simpR C ki z n X Y L) 0))) ∧ Below w.heap.size w w' := by
  have HP : Hid (PtsAt w b off n X Y) := hp
  have HL := (show Hid _ from hL)
  have HC : Hid (C = simpC z (featC id la ki wi n X Y lab pr)) := hC
  clear hp hL hC
  go_enter Try.func11, Try.ntmps11
  go_wp2_with fail
  generalize hW : ((w.alloc _).alloc _ : World) = W
  have hB0 : Below w.heap.size w W := by subst hW; (repeat (first | exact Below.refl _ _ | assumption | refine Below.drew ?_ | refine bl_alloc ?_ _ | refine bl_then ?_ (by assumption) | refine Below.setCell ?_ (by first | omega | (simp; done) | (simp; omega)) _ | refine bl_store ?_ ?_ _ _))
  have HT : Hid (There W (w.heap.size + 1) 2) := by
    show There _ _ _
    subst hW
    have := there1a (w.alloc (.cells #[.int .i64 id, .int .i64 la, .int .i64 ki, .int .i64 wi, .slice (some ⟨b, off, none⟩) n cap, .string lab, .int .i64 pr] 33)) (.int .i64 0) (.slice none 0 0) 40
    simpa using this
  have HFW : Hid (FeatAt W w.heap.size 0 id la ki wi (.slice (some ⟨b, off, none⟩) n cap) lab pr) := by
    show FeatAt _ _ _ _ _ _ _ _ _ _
    subst hW
    refine ⟨?_, ?_, ?_, ?_, ?_, ?_, ?_⟩ <;> simp [go_sem]
  have HSZ : Hid (w.heap.size + 1 < W.heap.size) := by show _ < _; subst hW; simp
  have hlW : w.heap.size < W.heap.size := by subst hW; simp <;> omega
  clear hW
  have HB0 : Hid (Below w.heap.size w W) := hB0
  have HPW : Hid (PtsAt W b off n X Y) := HP.out.below hB0 hbl
  have hblW : b < W.heap.size := Nat.lt_of_lt_of_le hbl hB0.size
  clear hB0
  refine (l10Asked_any w.heap.size 0 id la ki wi z _ n cap X Y lab pr W HFW.out (.inr ⟨b, off, rfl, hblW, HPW.out⟩) hn hl).mono ?_
  rintro e w1 ⟨rfl, hb1⟩
  rw [← HC.out]
  have HF1 : Hid (FeatAt w1 w.heap.size 0 id la ki wi (.slice (some ⟨b, off, none⟩) n cap) lab pr) := HFW.out.below hb1 hlW
  have HP1 : Hid (PtsAt w1 b off n X Y) := HPW.out.below hb1 hblW
  have hbl1 : b < w1.heap.size := Nat.lt_of_lt_of_le hblW hb1.size
  have HB1 : Hid (Below w.heap.size w w1) := bl_then HB0.out hb1
  have HT1 : Hid (There w1 (w.heap.size + 1) 2) := HT.out.below hb1
  have hs1 : w.heap.size + 1 < w1.heap.size := Nat.lt_of_lt_of_le HSZ.out hb1.size
  have hs0 : w.heap.size < w1.heap.size := by omega
  clear hb1
  by_cases hC0 : C = 0
  · subst hC0
    obtain ⟨hz, hfc⟩ := simp_zero HC.out
    obtain ⟨hk3, hk0, hk12, _, hin, _⟩ := featC_zero hfc
    obtain ⟨hkn, hR12, hall⟩ := simpR_facts hfc hz HL.out
    have hR0 : 0 < (simpR 0 ki z n X Y L).length := by rcases hkn with ⟨_, h⟩ | ⟨_, h⟩ | ⟨_, h⟩ <;> omega
    have Hs := (show Hid _ from l3Simple_any w.heap.size id la ki wi z b n cap X Y lab pr L w1 HF1.out HP1.out hbl1 hz hk3 hk0 hk12 hin HL.out)
    rw [← show simpR 0 ki z n X Y L = fillL ki.toNat (simpT ki z n X Y L) by rw [simpR, if_pos rfl]] at Hs
    have HAL : Hid (allW (simpR 0 ki z n X Y L)) := hall
    have HZ : Hid (zoomB z = true) := hz
    clear hfc hkn hall hk3 hk0 hk12 hin hz
    generalize hRe : simpR 0 ki z n X Y L = R at *
    have HRe : Hid (simpR 0 ki z n X Y L = R) := hRe
    clear hRe
    have q5 := HF1.out.2.2.2.2.2.1
    simp only [Nat.zero_add] at q5
    by_cases hlab : lab = ⟨#[]⟩
    · have HK : Hid (lbC 0 lab = 4 ∧ lbN 0 lab = 0) := by show _ ∧ _; simp [lbC, lbN, hlab]
      subst hlab
      have hT1 := HT1.out
      have t0 := hT1.cell 0 (by omega)
      have t1 := hT1.cell 1 (by omega)
      have f0 := (hT1 0 (by omega)).2
      have f1 := (hT1 1 (by omega)).2
      clear hT1
      go_wp2_with fail
      rw [HK.out.1, HK.out.2]
      obtain ⟨q0, q1⟩ := set2a (a := .int .i64 4) (b := .slice none 0 0) HT1.out
      refine bodyPost_ret (v := .agg #[.int .i64 4, .slice none 0 0]) (by simp [results, Try.results11, go_sem, q0, q1]) rfl ⟨_, rfl, ownP_none _ _ _, ?_⟩
      exact (HB1.out.setCell (Nat.le_succ _) _).setCell (Nat.le_succ _) _
    · have HK : Hid (lbC 0 lab = 0 ∧ lbN 0 lab = 1) := by show _ ∧ _; simp [lbC, lbN, hlab]
      have hlb : lab.toList.isEmpty = false := lab_ne hlab
      clear hlab
      go_wp2_with fail
      refine Calls.mono Hs.out ?_
      rintro e w2 ⟨v, rfl, hR, hb2⟩
      obtain ⟨g, cg, hv, _, hgl, hcg, hPg⟩ := hR.at hR0
      subst hv
      have HPg : Hid (PtsAt w2 g 0 R.length (px R) (py R)) := hPg
      clear hPg hR Hs
      generalize hRn : R.length = N at *
      have HT2 : Hid (There w2 (w.heap.size + 1) 2) := HT1.out.below hb2
      have HB2 : Hid (Below w.heap.size w w2) := bl_then HB1.out hb2
      have hs2 : w.heap.size + 1 < w2.heap.size := Nat.lt_of_lt_of_le hs1 hb2.size
      clear hb2
      go_wp2_with fail
      generalize hV : (w2.alloc _ : World) = V
      have hbV : Below w2.heap.size w2 V := by subst hV; (repeat (first | exact Below.refl _ _ | assumption | refine Below.drew ?_ | refine bl_alloc ?_ _ | refine bl_then ?_ (by assumption) | refine Below.setCell ?_ (by first | omega | (simp; done) | (simp; omega)) _ | refine bl_store ?_ ?_ _ _))
      have hFV : FeatAt V w2.heap.size 0 id la ki wi (.slice (some ⟨g, 0, none⟩) N cg) lab pr := by
        subst hV
        refine ⟨?_, ?_, ?_, ?_, ?_, ?_, ?_⟩ <;> simp [go_sem]
      clear hV
      refine (l10Box_any w2.heap.size id la ki wi z g N cg (px R) (py R) lab pr V hFV (HPg.out.below hbV hgl) (Nat.lt_of_lt_of_le hgl hbV.size) hR0 (HAL.out.at 0) HZ.out hl).mono ?_
      rintro e w3 ⟨rfl, hb3⟩
      have hT3 := HT2.out.below (bl_then hbV hb3)
      have HT3 : Hid (There w3 (w.heap.size + 1) 2) := hT3
      have t0 := hT3.cell 0 (by omega)
      have t1 := hT3.cell 1 (by omega)
      have f0 := (hT3 0 (by omega)).2
      have f1 := (hT3 1 (by omega)).2
      have HB3 : Hid (Below w.heap.size w w3) := bl_then HB2.out (bl_then hbV hb3)
      have hs3 : w.heap.size + 1 < w3.heap.size := Nat.lt_of_lt_of_le hs2 (bl_then hbV hb3).size
      clear hT3 hb3 hbV
      go_wp2_with fail
      rw [HRe.out, HK.out.1, HK.out.2]
      generalize ancI z (px R 0) = ax at *
      generalize ancI z (py R 0) = ay at *
      obtain ⟨q0, q1⟩ := set2a (a := .int .i64 0) (b := .slice (some ⟨w3.heap.size, 0, none⟩) 1 1) HT3.out
      have hBU : Below w.heap.size w ((w3.setCell ⟨w.heap.size + 1, 0, none⟩ (.int .i64 0)).setCell ⟨w.heap.size + 1, 1, none⟩ (.slice (some ⟨w3.heap.size, 0, none⟩) 1 1)) := (HB3.out.setCell (Nat.le_succ _) _).setCell (Nat.le_succ _) _
      have hsU : ((w3.setCell ⟨w.heap.size + 1, 0, none⟩ (.int .i64 0)).setCell ⟨w.heap.size + 1, 1, none⟩ (.slice (some ⟨w3.heap.size, 0, none⟩) 1 1)).heap.size = w3.heap.size := by simp
      generalize hU : ((w3.setCell _ _).setCell _ _ : World) = U at *
      have hO := ownP_one U w.heap.size (lbF id lab ax ay) 58 (by omega)
      rw [hsU] at hO
      have r0 : ∀ O, (U.alloc O).cell? ⟨w.heap.size + 1, 0, none⟩ = some (.int .i64 0) := fun O => (World.cell?_alloc_lt _ _ _ (World.block_lt_of_cell? _ _ q0)).trans q0
      have r1 : ∀ O, (U.alloc O).cell? ⟨w.heap.size + 1, 1, none⟩ = some (.slice (some ⟨w3.heap.size, 0, none⟩) 1 1) := fun O => (World.cell?_alloc_lt _ _ _ (World.block_lt_of_cell? _ _ q1)).trans q1
      refine bodyPost_ret (v := .agg #[.int .i64 0, .slice (some ⟨w3.heap.size, 0, none⟩) 1 1]) (by simp [results, Try.results11, go_sem, r0, r1]) rfl ⟨_, rfl, hO, ?_⟩
      exact bl_alloc hBU _
  · have HK : Hid (lbC C lab = C ∧ lbN C lab = 0) := by show _ ∧ _; simp [lbC, lbN, hC0]
    have hT1 := HT1.out
    have hcb : (C == 0) = false := by simpa using hC0
    have t0 := hT1.cell 0 (by omega)
    have t1 := hT1.cell 1 (by omega)
    have f0 := (hT1 0 (by omega)).2
    have f1 := (hT1 1 (by omega)).2
    clear hC0 hT1
    go_wp2_with fail
    rw [HK.out.1, HK.out.2]
    obtain ⟨q0, q1⟩ := set2a (a := .int .i64 C) (b := .slice none 0 0) HT1.out
    refine bodyPost_ret (v := .agg #[.int .i64 C, .slice none 0 0]) (by simp [results, Try.results11, go_sem, q0, q1]) rfl ⟨_, rfl, ownP_none _ _ _, ?_⟩
    exact (HB1.out.setCell (Nat.le_succ _) _).setCell (Nat.le_succ _) _
theorem lbN_le (C : Int) (lab : ByteArray) : lbN C lab ≤ 1048576 := by
  unfold lbN
  split
  · split <;> omega
  · omega
theorem FnExactLabelBox_walk (id la ki wi : Int) (a : Option Addr) (n cap : Nat) (X Y : Nat → Int) (lab : ByteArray) (pr : Int) (z : Int) (w : World) (h : IsPts w a n X Y ∧ n ≤ cap ∧ cap ≤ maxLen ∧ lab.size ≤ maxLen) :
    Calls Try.prog 4 #[.agg #[.int .i64 id, .int .i64 la, .int .i64 ki, .int .i64 wi, .slice a n cap, .string lab, .int .i64 pr], .int .i64 z] w fun e w' => e = .returned (.bool true) ∧ Below w.heap.size w w' := by
  obtain ⟨hpt, hcap, hmx, hls⟩ := h
  by_cases hbig : 1048576 < n + lab.size
  · exact FnExactLabelBox_big z id la ki wi lab pr a n cap w hbig (Nat.le_trans hcap hmx) hls
  · obtain ⟨L, hL⟩ := thin_exA X Y z n
    exact FnExactLabelBox_law (lbC (simpC z (featC id la ki wi n X Y lab pr)) lab) id la ki wi lab pr a n cap (lbN (simpC z (featC id la ki wi n X Y lab pr)) lab) X Y _ z w hpt (by omega) (lbN_le _ _)
      (fun b w hp hb => spec_LabelBox_any id la ki wi z b n n X Y lab pr L w hp hb (by omega) (by omega) hL _ rfl)
      (fun b w hp hb => impl_LabelBox_any id la ki wi z b n n X Y lab pr L w hp hb (by omega) (Nat.le_refl _) (by omega) hL _ rfl)
end Go.Proofs.Ytncaibchkaadbaa
