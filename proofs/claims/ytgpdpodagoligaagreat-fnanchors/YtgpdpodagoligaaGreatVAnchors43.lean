/- Several texts in one. -/
import Derived.Test.YtgpdpodagoligaaGreatVAnchors42
import Derived.Test.YtgpdpodagoligaaGreatVAnchors1
import Derived.Test.YtgpdpodagoligaaGreatRows
import Derived.WalkKit
import Derived.WalkSpells
import Derived.WalkLawsBesides
import Derived.Outline
import Derived.Deep.RegionHeld3

/- LabelBox: the program and the model, and the law at every feature. -/

namespace Go.Proofs.YtgpdpodagoligaaGreat
open Go.RowKit
set_option linter.unusedSimpArgs false
set_option linter.unusedVariables false
set_option maxRecDepth 100000

/-- The code of LabelBox, and how many boxes it tells. -/
def lbC (C : Int) (lab : ByteArray) : Int := if C = 0 then (if lab = ⟨#[]⟩ then 4 else 0) else C
def lbN (C : Int) (lab : ByteArray) : Nat := if C = 0 then (if lab = ⟨#[]⟩ then 0 else 1) else 0
theorem set2a {W : World} {r : Nat} {a b : Value} (hT : There W r 2) :
    ((W.setCell ⟨r, 0, none⟩ a).setCell ⟨r, 1, none⟩ b).cell? ⟨r, 0, none⟩ = some a ∧ ((W.setCell ⟨r, 0, none⟩ a).setCell ⟨r, 1, none⟩ b).cell? ⟨r, 1, none⟩ = some b := by
  obtain ⟨u0, h0⟩ := (hT 0 (by omega)).1
  obtain ⟨u1, h1⟩ := (hT 1 (by omega)).1
  have ne : ∀ i j : Nat, i ≠ j → (⟨r, i, none⟩ : Addr) ≠ ⟨r, j, none⟩ := fun i j hij h => hij (by injection h)
  refine ⟨?_, ?_⟩
  · rw [set1_other (ne 1 0 (by omega))]; exact set1_same h0
  · exact set1_same (by rw [set1_other (ne 0 1 (by omega))]; exact h1)
theorem lab_ne {lab : ByteArray} (h : ¬ lab = ⟨#[]⟩) : lab.toList.isEmpty = false := by
  cases hb : lab.toList.isEmpty
  · rfl
  · have e : lab.toList = [] := by simpa using hb
    rw [ByteArray.toList_eq] at e
    exact absurd (ByteArray.ext (Array.toList_inj.1 e)) h
theorem ownP_none (w : World) (base : Nat) (E : Nat → Plc) : OwnP w base (.slice none 0 0) 0 E := ⟨none, 0, rfl, Nat.le_refl _, .inl rfl⟩
/-- A list of one box, made new. -/
theorem ownP_one (w : World) (base : Nat) (e : Plc) (t : TypeId) (hb : base ≤ w.heap.size) : OwnP (w.alloc (.cells #[.int .i64 e.id, .int .i64 e.a, .int .i64 e.b, .int .i64 e.c, .int .i64 e.d] t)) base (.slice (some ⟨w.heap.size, 0, none⟩) 1 1) 1 (fun _ => e) := by
  refine ⟨_, 1, rfl, Nat.le_refl _, .inr ⟨w.heap.size, rfl, hb, by simp, fun i hi => ?_, there5a w _ _ _ _ _ _⟩⟩
  obtain rfl : i = 0 := by omega
  exact ⟨by simp [go_sem], by simp [go_sem], by simp [go_sem], by simp [go_sem], by simp [go_sem]⟩
theorem OwnP.set {w : World} {base B r o : Nat} {v u : Value} {n : Nat} {E : Nat → Plc} (h : OwnP w base v n E) (hr : r < base) (hB : B ≤ base) : OwnP (w.setCell ⟨r, o, none⟩ u) B v n E := by
  obtain ⟨a, cap, hv, hc, h0 | ⟨b, ha, hbb, hl, hp, ht⟩⟩ := h
  · exact ⟨a, cap, hv, hc, .inl h0⟩
  · have hne : r ≠ b := by omega
    have ne : ∀ k : Nat, (⟨r, o, none⟩ : Addr) ≠ ⟨b, k, none⟩ := fun k e => hne (by injection e)
    refine ⟨a, cap, hv, hc, .inr ⟨b, ha, by omega, by simpa using hl, fun i hi => ?_, ht.outP hne⟩⟩
    obtain ⟨h0, h1, h2, h3, h4⟩ := hp i hi
    exact ⟨(set1_other (ne _)).trans h0, (set1_other (ne _)).trans h1, (set1_other (ne _)).trans h2, (set1_other (ne _)).trans h3, (set1_other (ne _)).trans h4⟩
set_option maxHeartbeats 8000000 in
theorem impl_LabelBox_any {off : Nat} (id la ki wi z : Int) (b n cap : Nat) (X Y : Nat → Int) (lab : ByteArray) (pr : Int) (L : List Nat) (w : World) (hp : PtsAt w b off n X Y) (hbl : b < w.heap.size) (hn : n ≤ 1048576) (hcap : n ≤ cap) (hl : lab.size ≤ 1048576)
    (hL : 3 ≤ (snapL X Y z n).length → Thin (px (snapL X Y z n)) (py (snapL X Y z n)) (gridI z) 0 ((snapL X Y z n).length - 1) L) (C : Int) (hC : C = simpC z (featC id la ki wi n X Y lab pr)) :
    Calls Tryz.prog 10 #[.agg #[.int .i64 id, .int .i64 la, .int .i64 ki, .int .i64 wi, .slice (some ⟨b, off, none⟩) n cap, .string lab, .int .i64 pr], .int .i64 z] w fun e w' => ∃ v, e = .returned (.agg #[.int .i64 (lbC C lab), v]) ∧ OwnP w' w.heap.size v (lbN C lab) (fun _ => lbF id lab (ancI z (px (simpR C ki z n X Y L) 0)) (ancI z (py (simpR C ki z n X Y L) 0))) ∧ Below w.heap.size w w' := by
  have HP : Hid (PtsAt w b off n X Y) := hp
  have HL := (show Hid _ from hL)
  have HC : Hid (C = simpC z (featC id la ki wi n X Y lab pr)) := hC
  clear hp hL hC
  go_enter Tryz.func10, Tryz.ntmps10
  go_wp2_with fail
  generalize hW : ((w.alloc _).alloc _ : World) = W
  have hB0 : Below w.heap.size w W := by subst hW; (repeat (first | exact Below.refl _ _ | assumption | refine Below.drew ?_ | refine bl_alloc ?_ _ | refine bl_then ?_ (by assumption) | refine Below.setCell ?_ (by first | omega | (simp; done) | (simp; omega)) _ | refine bl_store ?_ ?_ _ _))
  have HT : Hid (There W (w.heap.size + 1) 2) := by
    show There _ _ _
    subst hW
    have := there1a (w.alloc (.cells #[.int .i64 id, .int .i64 la, .int .i64 ki, .int .i64 wi, .slice (some ⟨b, off, none⟩) n cap, .string lab, .int .i64 pr] 26)) (.int .i64 0) (.slice none 0 0) 47
    simpa using this
  have HF : Hid (W.cell? ⟨w.heap.size, 5, none⟩ = some (.string lab)) := by show _ = _; subst hW; simp [go_sem]
  have HSZ : Hid (w.heap.size + 1 < W.heap.size) := by show _ < _; subst hW; simp
  clear hW
  have HB0 : Hid (Below w.heap.size w W) := hB0
  have HPW : Hid (PtsAt W b off n X Y) := HP.out.below hB0 hbl
  have hblW : b < W.heap.size := Nat.lt_of_lt_of_le hbl hB0.size
  clear hB0
  by_cases hC0 : C = 0
  · subst hC0
    obtain ⟨hz, hfc⟩ := simp_zero HC.out
    obtain ⟨hkn, hR12, hall⟩ := simpR_facts hfc hz HL.out
    have hR0 : 0 < (simpR 0 ki z n X Y L).length := by rcases hkn with ⟨_, h⟩ | ⟨_, h⟩ | ⟨_, h⟩ <;> omega
    have Hs := (show Hid _ from simple_ok id la ki wi z b n cap X Y lab pr L W HPW.out hblW hn hcap hl HL.out HC.out hR0)
    clear hfc hkn
    have HAL : Hid (allW (simpR 0 ki z n X Y L)) := hall
    clear hall
    have HZ : Hid (zoomB z = true) := hz
    clear hz
    refine Calls.mono Hs.out ?_
    clear Hs
    generalize hRe : simpR 0 ki z n X Y L = R at *
    have HRe : Hid (simpR 0 ki z n X Y L = R) := hRe
    clear hRe
    rintro e w1 ⟨g, cg, rfl, hgl, hcg, hPg, hb1⟩
    have HPg : Hid (PtsAt w1 g 0 R.length (px R) (py R)) := hPg
    generalize hRn : R.length = N at *
    have HT1 : Hid (There w1 (w.heap.size + 1) 2) := HT.out.below hb1
    have HB1 : Hid (Below w.heap.size w w1) := bl_then HB0.out hb1
    have hs1 : w.heap.size + 1 < w1.heap.size := Nat.lt_of_lt_of_le HSZ.out hb1.size
    have hs0 : w.heap.size < w1.heap.size := by omega
    have q5 : w1.cell? ⟨w.heap.size, 5, none⟩ = some (.string lab) := (hb1.cell (p := ⟨w.heap.size, 5, none⟩) (World.block_lt_of_cell? _ _ HF.out)).trans HF.out
    clear hPg hb1
    by_cases hlab : lab = ⟨#[]⟩
    · have HK : Hid (lbC 0 lab = 4 ∧ lbN 0 lab = 0) := by show _ ∧ _; simp [lbC, lbN, hlab]
      subst hlab
      have hT1 := HT1.out
      have t0 := hT1.cell 0 (by omega)
      have t1 := hT1.cell 1 (by omega)
      have f0 := (hT1 0 (by omega)).2
      have f1 := (hT1 1 (by omega)).2
      clear hT1
      go_wp2_with fail
      rw [HRe.out, HK.out.1, HK.out.2]
      obtain ⟨q0, q1⟩ := set2a (a := .int .i64 4) (b := .slice none 0 0) HT1.out
      have hBU : Below w.heap.size w ((w1.setCell ⟨w.heap.size + 1, 0, none⟩ (.int .i64 4)).setCell ⟨w.heap.size + 1, 1, none⟩ (.slice none 0 0)) := (HB1.out.setCell (Nat.le_succ _) _).setCell (Nat.le_succ _) _
      generalize hU : ((w1.setCell _ _).setCell _ _ : World) = U at *
      have r0 : ∀ O, (U.alloc O).cell? ⟨w.heap.size + 1, 0, none⟩ = some (.int .i64 4) := fun O => (World.cell?_alloc_lt _ _ _ (World.block_lt_of_cell? _ _ q0)).trans q0
      have r1 : ∀ O, (U.alloc O).cell? ⟨w.heap.size + 1, 1, none⟩ = some (.slice none 0 0) := fun O => (World.cell?_alloc_lt _ _ _ (World.block_lt_of_cell? _ _ q1)).trans q1
      refine bodyPost_ret (v := .agg #[.int .i64 4, .slice none 0 0]) (by simp [results, Tryz.results10, go_sem, r0, r1]) rfl ⟨_, rfl, ownP_none _ _ _, ?_⟩
      exact bl_alloc hBU _
    · have HK : Hid (lbC 0 lab = 0 ∧ lbN 0 lab = 1) := by show _ ∧ _; simp [lbC, lbN, hlab]
      have hlb : lab.toList.isEmpty = false := lab_ne hlab
      clear hlab
      go_wp2_with fail
      generalize hV : (w1.alloc _ : World) = V
      have hbV : Below w1.heap.size w1 V := by subst hV; (repeat (first | exact Below.refl _ _ | assumption | refine Below.drew ?_ | refine bl_alloc ?_ _ | refine bl_then ?_ (by assumption) | refine Below.setCell ?_ (by first | omega | (simp; done) | (simp; omega)) _ | refine bl_store ?_ ?_ _ _))
      clear hV
      refine (labelAsItIs_any id la ki wi z g N cg (px R) (py R) lab pr V (HPg.out.below hbV hgl) (Nat.lt_of_lt_of_le hgl hbV.size) hR0 (HAL.out.at 0) HZ.out hl).mono ?_
      rintro e w2 ⟨rfl, hb2⟩
      have hT2 := HT1.out.below (bl_then hbV hb2)
      have HT2 : Hid (There w2 (w.heap.size + 1) 2) := hT2
      have t0 := hT2.cell 0 (by omega)
      have t1 := hT2.cell 1 (by omega)
      have f0 := (hT2 0 (by omega)).2
      have f1 := (hT2 1 (by omega)).2
      have HB2 : Hid (Below w.heap.size w w2) := bl_then HB1.out (bl_then hbV hb2)
      have hs2 : w.heap.size + 1 < w2.heap.size := Nat.lt_of_lt_of_le hs1 (bl_then hbV hb2).size
      clear hT2 hb2 hbV
      go_wp2_with fail
      rw [HRe.out, HK.out.1, HK.out.2]
      generalize ancI z (px R 0) = ax at *
      generalize ancI z (py R 0) = ay at *
      obtain ⟨q0, q1⟩ := set2a (a := .int .i64 0) (b := .slice (some ⟨w2.heap.size, 0, none⟩) 1 1) HT2.out
      have hBU : Below w.heap.size w ((w2.setCell ⟨w.heap.size + 1, 0, none⟩ (.int .i64 0)).setCell ⟨w.heap.size + 1, 1, none⟩ (.slice (some ⟨w2.heap.size, 0, none⟩) 1 1)) := (HB2.out.setCell (Nat.le_succ _) _).setCell (Nat.le_succ _) _
      have hsU : ((w2.setCell ⟨w.heap.size + 1, 0, none⟩ (.int .i64 0)).setCell ⟨w.heap.size + 1, 1, none⟩ (.slice (some ⟨w2.heap.size, 0, none⟩) 1 1)).heap.size = w2.heap.size := by simp
      generalize hU : ((w2.setCell _ _).setCell _ _ : World) = U at *
      have hO := ownP_one U w.heap.size (lbF id lab ax ay) 50 (by omega)
      rw [hsU] at hO
      have r0 : ∀ O, (U.alloc O).cell? ⟨w.heap.size + 1, 0, none⟩ = some (.int .i64 0) := fun O => (World.cell?_alloc_lt _ _ _ (World.block_lt_of_cell? _ _ q0)).trans q0
      have r1 : ∀ O, (U.alloc O).cell? ⟨w.heap.size + 1, 1, none⟩ = some (.slice (some ⟨w2.heap.size, 0, none⟩) 1 1) := fun O => (World.cell?_alloc_lt _ _ _ (World.block_lt_of_cell? _ _ q1)).trans q1
      refine bodyPost_ret (v := .agg #[.int .i64 0, .slice (some ⟨w2.heap.size, 0, none⟩) 1 1]) (by simp [results, Tryz.results10, go_sem, r0, r1]) rfl ⟨_, rfl, hO, ?_⟩
      exact bl_alloc hBU _
  · have Hs := (show Hid _ from simple_no id la ki wi z b n cap X Y lab pr L W HPW.out hblW hn hcap hl HL.out C HC.out hC0)
    have HK : Hid (lbC C lab = C ∧ lbN C lab = 0) := by show _ ∧ _; simp [lbC, lbN, hC0]
    refine Calls.mono Hs.out ?_
    rintro e w1 ⟨a1, c1, rfl, hb1⟩
    clear Hs
    have hT1 := HT.out.below hb1
    have HT1 : Hid (There w1 (w.heap.size + 1) 2) := hT1
    have HB1 : Hid (Below w.heap.size w w1) := bl_then HB0.out hb1
    have hs1 : w.heap.size + 1 < w1.heap.size := Nat.lt_of_lt_of_le HSZ.out hb1.size
    have hcb : (C == 0) = false := by simpa using hC0
    have t0 := hT1.cell 0 (by omega)
    have t1 := hT1.cell 1 (by omega)
    have f0 := (hT1 0 (by omega)).2
    have f1 := (hT1 1 (by omega)).2
    clear hb1 hC0 hT1
    go_wp2_with fail
    rw [HK.out.1, HK.out.2]
    obtain ⟨q0, q1⟩ := set2a (a := .int .i64 C) (b := .slice none 0 0) HT1.out
    have hBU : Below w.heap.size w ((w1.setCell ⟨w.heap.size + 1, 0, none⟩ (.int .i64 C)).setCell ⟨w.heap.size + 1, 1, none⟩ (.slice none 0 0)) := (HB1.out.setCell (Nat.le_succ _) _).setCell (Nat.le_succ _) _
    generalize hU : ((w1.setCell _ _).setCell _ _ : World) = U at *
    have r0 : ∀ O, (U.alloc O).cell? ⟨w.heap.size + 1, 0, none⟩ = some (.int .i64 C) := fun O => (World.cell?_alloc_lt _ _ _ (World.block_lt_of_cell? _ _ q0)).trans q0
    have r1 : ∀ O, (U.alloc O).cell? ⟨w.heap.size + 1, 1, none⟩ = some (.slice none 0 0) := fun O => (World.cell?_alloc_lt _ _ _ (World.block_lt_of_cell? _ _ q1)).trans q1
    refine bodyPost_ret (v := .agg #[.int .i64 C, .slice none 0 0]) (by simp [results, Tryz.results10, go_sem, r0, r1]) rfl ⟨_, rfl, ownP_none _ _ _, ?_⟩
    exact bl_alloc hBU _
theorem lbN_le (C : Int) (lab : ByteArray) : lbN C lab ≤ 1048576 := by
  unfold lbN
  split
  · split <;> omega
  · omega
end Go.Proofs.YtgpdpodagoligaaGreat
/- All but one block is as it was. -/

namespace Go.Proofs.YtgpdpodagoligaaGreat
open Go.RowKit
set_option linter.unusedVariables false

/-- All that was there but block s is as it was. -/
structure Keeps (s : Nat) (w w' : World) : Prop where
  os : w'.os = w.os
  tape : w'.tape = w.tape
  output : w'.output = w.output
  size : w.heap.size ≤ w'.heap.size
  block : ∀ k, k < w.heap.size → k ≠ s → w'.heap[k]? = w.heap[k]?
theorem Keeps.refl (s : Nat) (w : World) : Keeps s w w := ⟨rfl, rfl, rfl, Nat.le_refl _, fun _ _ _ => rfl⟩
theorem Keeps.trans {s : Nat} {a b c : World} (h : Keeps s a b) (k : Keeps s b c) : Keeps s a c :=
  ⟨k.os.trans h.os, k.tape.trans h.tape, k.output.trans h.output, Nat.le_trans h.size k.size, fun j hj hs => (k.block j (Nat.lt_of_lt_of_le hj h.size) hs).trans (h.block j hj hs)⟩
theorem Keeps.of_below {s : Nat} {w w' : World} (h : Below w.heap.size w w') : Keeps s w w' := ⟨h.os, h.tape, h.output, h.size, fun k hk _ => h.block k hk⟩
theorem Keeps.cell {s : Nat} {w w' : World} (h : Keeps s w w') {p : Addr} (hp : p.block < w.heap.size) (hs : p.block ≠ s) : w'.cell? p = w.cell? p := World.cell?_of_block (w := w) (h.block _ hp hs)
theorem Keeps.frozen {s : Nat} {w w' : World} (h : Keeps s w w') {p : Addr} (hp : p.block < w.heap.size) (hs : p.block ≠ s) : w'.frozen? p = w.frozen? p := World.frozen?_of_block (w := w) (h.block _ hp hs)
theorem Keeps.drew {s : Nat} {a w : World} (h : Keeps s a w) : Keeps s a w.drew := ⟨h.os, h.tape, h.output, h.size, h.block⟩
theorem Keeps.set {s : Nat} {a w : World} (h : Keeps s a w) (o : Nat) (v : Value) : Keeps s a (w.setCell ⟨s, o, none⟩ v) := by
  refine h.trans ?_
  have hb : Below s w (w.setCell ⟨s, o, none⟩ v) := (Below.refl s w).setCell (Nat.le_refl _) v
  exact ⟨hb.os, hb.tape, hb.output, hb.size, fun k _ hk => Below.heap_setCell w ⟨s, o, none⟩ v k hk⟩
theorem Keeps.below {s B : Nat} {w w' : World} (h : Keeps s w w') (hB : B ≤ s) (hBw : B ≤ w.heap.size) : Below B w w' := ⟨h.os, h.tape, h.output, h.size, fun k hk => h.block k (by omega) (by omega)⟩
end Go.Proofs.YtgpdpodagoligaaGreat
/- The source of numbers: what l1Next keeps and how far it goes. -/

namespace Go.Proofs.YtgpdpodagoligaaGreat
open Go.RowKit
set_option linter.unusedSimpArgs false
set_option linter.unusedVariables false

/-- The bytes of a code: none, or they lie at an address below block s. -/
def Bytes (w : World) (a : Option Addr) (n s : Nat) (Z : Nat → Int) : Prop :=
  n = 0 ∨ ∃ b off, a = some ⟨b, off, none⟩ ∧ b < s ∧ ∀ i, i < n → w.cell? ⟨b, off + i, none⟩ = some (.int .u8 (Z i))
/-- A source at block s, from number t on. -/
structure Src (a : Option Addr) (n cap : Nat) (Z : Nat → Int) (s t : Nat) (w : World) : Prop where
  code : w.cell? ⟨s, 0, none⟩ = some (.slice a n cap)
  at' : w.cell? ⟨s, 1, none⟩ = some (.int .i64 t)
  wr : w.frozen? ⟨s, 1, none⟩ = false
  bytes : Bytes w a n s Z
  rng : ∀ i, 0 ≤ Z i ∧ Z i ≤ 255
  max : n ≤ 1048576
theorem Src.below {a : Option Addr} {n cap : Nat} {Z : Nat → Int} {s t : Nat} {w w' : World} (h : Src a n cap Z s t w) (hb : Below w.heap.size w w') : Src a n cap Z s t w' := by
  have hl := World.block_lt_of_cell? _ _ h.code
  refine ⟨(hb.cell (p := ⟨s, 0, none⟩) hl).trans h.code, (hb.cell (p := ⟨s, 1, none⟩) hl).trans h.at', (hb.frozen (p := ⟨s, 1, none⟩) hl).trans h.wr, ?_, h.rng, h.max⟩
  rcases h.bytes with h0 | ⟨b, off, e, hs, hz⟩
  · exact .inl h0
  · have hl' : s < w.heap.size := hl
    exact .inr ⟨b, off, e, hs, fun i hi => (hb.cell (p := ⟨b, off + i, none⟩) (show b < _ by omega)).trans (hz i hi)⟩
theorem Src.step {a : Option Addr} {n cap : Nat} {Z : Nat → Int} {s t : Nat} {w : World} (h : Src a n cap Z s t w) : Src a n cap Z s (t + 1) (w.setCell ⟨s, 1, none⟩ (.int .i64 ((t : Int) + 1))) := by
  refine ⟨?_, ?_, ?_, ?_, h.rng, h.max⟩
  · rw [World.cell?_setCell_other]
    · exact h.code
    · simp
  · exact World.cell?_setCell_same _ _ _ h.at'
  · rw [World.frozen?_setCell]; exact h.wr
  · rcases h.bytes with h0 | ⟨b, off, e, hs, hz⟩
    · exact .inl h0
    · refine .inr ⟨b, off, e, hs, fun i hi => ?_⟩
      rw [World.cell?_setCell_other]
      · exact hz i hi
      · intro hc; injection hc with hc; omega
theorem Src.drew {a : Option Addr} {n cap : Nat} {Z : Nat → Int} {s t : Nat} {w : World} (h : Src a n cap Z s t w) : Src a n cap Z s t w.drew := ⟨h.code, h.at', h.wr, h.bytes, h.rng, h.max⟩

set_option maxHeartbeats 2000000 in
theorem l1Next_none (a : Option Addr) (cap : Nat) (Z : Nat → Int) (s t m : Nat) (w : World) (h : Src a 0 cap Z s t w) (ht : t ≤ 1000) (hm : 0 < m) (hmx : m ≤ 100000) :
    Calls Tryz.prog 57 #[.pointer (some ⟨s, 0, none⟩), .int .i64 m] w fun e w' => ∃ v : Nat, e = .returned (.int .i64 v) ∧ v < m ∧ Src a 0 cap Z s (t + 1) w' ∧ Keeps s w w' := by
  have HS : Hid (Src a 0 cap Z s t w) := h
  have hc := h.code
  have ha := h.at'
  have hf := h.wr
  clear h
  obtain ⟨r, hr⟩ : ∃ r, (t * 7) % m = r := ⟨_, rfl⟩
  have hrl : r < m := by rw [← hr]; exact Nat.mod_lt _ hm
  have hme : ((t : Int) * 7) % (m : Int) = (r : Int) := by rw [← hr]; simp
  have hmt : ((t : Int) * 7).tmod (m : Int) = (r : Int) := by
    rw [Int.tmod_eq_emod_of_nonneg (by omega)]; exact hme
  have hm0 : ¬ m = 0 := by omega
  have hm1 : ¬ (m : Int) < 1 := by omega
  have hsame := World.cell?_setCell_same w ⟨s, 1, none⟩ (.int .i64 ((t : Int) + 1)) ha
  go_enter Tryz.func57, Tryz.ntmps57
  go_wp2
  go_ret
  exact ⟨r, rfl, hrl, HS.out.step, (Keeps.refl _ _).set _ _⟩

set_option maxHeartbeats 4000000 in
theorem l1Next_some (b off n cap : Nat) (Z : Nat → Int) (s t m : Nat) (w : World) (h : Src (some ⟨b, off, none⟩) n cap Z s t w) (hbs : b < s) (hz : ∀ i, i < n → w.cell? ⟨b, off + i, none⟩ = some (.int .u8 (Z i))) (hn : 0 < n) (hcap : n ≤ cap) (ht : t ≤ 1000) (hm : 0 < m) (hmx : m ≤ 100000) :
    Calls Tryz.prog 57 #[.pointer (some ⟨s, 0, none⟩), .int .i64 m] w fun e w' => ∃ v : Nat, e = .returned (.int .i64 v) ∧ v < m ∧ Src (some ⟨b, off, none⟩) n cap Z s (t + 1) w' ∧ Keeps s w w' := by
  have HS : Hid (Src (some ⟨b, off, none⟩) n cap Z s t w) := h
  have hmax := h.max
  have hc := h.code
  have ha := h.at'
  have hf := h.wr
  obtain ⟨i1, hi1⟩ : ∃ r, t % n = r := ⟨_, rfl⟩
  obtain ⟨i2, hi2⟩ : ∃ r, (t + 1) % n = r := ⟨_, rfl⟩
  obtain ⟨q, hq⟩ : ∃ r, t / n = r := ⟨_, rfl⟩
  have l1 : i1 < n := by rw [← hi1]; exact Nat.mod_lt _ hn
  have l2 : i2 < n := by rw [← hi2]; exact Nat.mod_lt _ hn
  have lq : q ≤ t := by rw [← hq]; exact Nat.div_le_self _ _
  have z1 := hz i1 l1
  have z2 := hz i2 l2
  have r1 := h.rng i1
  have r2 := h.rng i2
  generalize Z i1 = y1 at z1 r1
  generalize Z i2 = y2 at z2 r2
  clear h hz
  have hme : (t : Int) % (n : Int) = (i1 : Int) := by rw [← hi1]; simp
  have hmt : (t : Int).tmod (n : Int) = (i1 : Int) := by rw [Int.tmod_eq_emod_of_nonneg (by omega)]; exact hme
  have hne : ((t : Int) + 1) % (n : Int) = (i2 : Int) := by rw [← hi2]; simp
  have hnt : ((t : Int) + 1).tmod (n : Int) = (i2 : Int) := by rw [Int.tmod_eq_emod_of_nonneg (by omega)]; exact hne
  have hde : (t : Int) / (n : Int) = (q : Int) := by rw [← hq]; simp
  have hdt : (t : Int).tdiv (n : Int) = (q : Int) := by rw [Int.tdiv_eq_ediv_of_nonneg (by omega)]; exact hde
  clear hi1 hi2 hq
  have n0 : ¬ n = 0 := by omega
  have n0b : ((n : Int) == 0) = false := by simp; omega
  have m1 : ¬ (m : Int) < 1 := by omega
  have m0 : ¬ m = 0 := by omega
  have g1 : (i1 : Int) < (n : Int) := by omega
  have g2 : (i2 : Int) < (n : Int) := by omega
  have g3 : (0 : Int) ≤ (i1 : Int) := by omega
  have g4 : (0 : Int) ≤ (i2 : Int) := by omega
  obtain ⟨a1, a2⟩ := r1
  obtain ⟨b1, b2⟩ := r2
  have w0 : IntKind.i64.wrap y1 = y1 := IntWalk.i64_in _ (by omega)
  have w0' : IntKind.i64.wrap y2 = y2 := IntWalk.i64_in _ (by omega)
  have w1 : IntKind.i64.wrap (q : Int) = (q : Int) := IntWalk.i64_in _ (by omega)
  have w2 : IntKind.i64.wrap ((q : Int) * 37) = (q : Int) * 37 := IntWalk.i64_in _ (by omega)
  have w3 : IntKind.i64.wrap (y1 + (q : Int) * 37) = y1 + (q : Int) * 37 := IntWalk.i64_in _ (by omega)
  have w4 : IntKind.i64.wrap ((y1 + (q : Int) * 37) * 251) = (y1 + (q : Int) * 37) * 251 := IntWalk.i64_in _ (by omega)
  have w5 : IntKind.i64.wrap (y2 * 13) = y2 * 13 := IntWalk.i64_in _ (by omega)
  have w6 : IntKind.i64.wrap ((y1 + (q : Int) * 37) * 251 + y2 * 13) = (y1 + (q : Int) * 37) * 251 + y2 * 13 := IntWalk.i64_in _ (by omega)
  have w7 : IntKind.i64.wrap ((y1 + (q : Int) * 37) * 251 + y2 * 13 + (t : Int)) = (y1 + (q : Int) * 37) * 251 + y2 * 13 + (t : Int) := IntWalk.i64_in _ (by omega)
  have w8 : IntKind.i64.wrap ((t : Int) + 1) = (t : Int) + 1 := IntWalk.i64_in _ (by omega)
  have hsame : (w.setCell ⟨s, 1, none⟩ (.int .i64 ((t : Int) + 1))).cell? ⟨s, 1, none⟩ = some (.int .i64 ((t : Int) + 1)) := World.cell?_setCell_same _ _ _ ha
  have hcode : (w.setCell ⟨s, 1, none⟩ (.int .i64 ((t : Int) + 1))).cell? ⟨s, 0, none⟩ = some (.slice (some ⟨b, off, none⟩) n cap) := by
    rw [World.cell?_setCell_other]
    · exact hc
    · simp
  have hz1 : (w.setCell ⟨s, 1, none⟩ (.int .i64 ((t : Int) + 1))).cell? ⟨b, off + i1, none⟩ = some (.int .u8 y1) := by
    rw [World.cell?_setCell_other]
    · exact z1
    · intro e; injection e with e; omega
  have hz2 : (w.setCell ⟨s, 1, none⟩ (.int .i64 ((t : Int) + 1))).cell? ⟨b, off + i2, none⟩ = some (.int .u8 y2) := by
    rw [World.cell?_setCell_other]
    · exact z2
    · intro e; injection e with e; omega
  by_cases hbig : 200 < m
  · obtain ⟨v, hv⟩ : ∃ v : Nat, ((y1 + (q : Int) * 37) * 251 + y2 * 13 + (t : Int)) % (m : Int) = (v : Int) := ⟨(((y1 + (q : Int) * 37) * 251 + y2 * 13 + (t : Int)) % (m : Int)).toNat, by rw [Int.toNat_of_nonneg (Int.emod_nonneg _ (by omega))]⟩
    have hvl : v < m := by have := Int.emod_lt_of_pos ((y1 + (q : Int) * 37) * 251 + y2 * 13 + (t : Int)) (show (0 : Int) < (m : Int) by omega); omega
    have hvt : ((y1 + (q : Int) * 37) * 251 + y2 * 13 + (t : Int)).tmod (m : Int) = (v : Int) := by rw [Int.tmod_eq_emod_of_nonneg (by omega)]; exact hv
    have hbi : (200 : Int) < (m : Int) := by omega
    go_enter Tryz.func57, Tryz.ntmps57
    go_wp2
    generalize hV : (w.setCell ⟨s, 1, none⟩ (.int .i64 ((t : Int) + 1))) = V at *
    have HV := (show Hid _ from hV)
    clear hV
    go_region_held3 (fun W' => W' = V.drew) (first | rfl | assumption) (fail)
    go_wp2
    go_region_held3 (fun W' => W' = V.drew.drew) (first | rfl | assumption) (fail)
    go_wp2
    go_ret
    have e1 : Src (some ⟨b, off, none⟩) n cap Z s (t + 1) V := by rw [← HV.out]; exact HS.out.step
    have e2 : Keeps s w V := by rw [← HV.out]; exact (Keeps.refl _ _).set _ _
    exact ⟨v, rfl, hvl, e1.drew.drew, e2.drew.drew⟩
  · obtain ⟨v, hv⟩ : ∃ v : Nat, (y1 + (q : Int) * 37) % (m : Int) = (v : Int) := ⟨((y1 + (q : Int) * 37) % (m : Int)).toNat, by rw [Int.toNat_of_nonneg (Int.emod_nonneg _ (by omega))]⟩
    have hvl : v < m := by have := Int.emod_lt_of_pos (y1 + (q : Int) * 37) (show (0 : Int) < (m : Int) by omega); omega
    have hvt : (y1 + (q : Int) * 37).tmod (m : Int) = (v : Int) := by rw [Int.tmod_eq_emod_of_nonneg (by omega)]; exact hv
    have hbi : ¬ (200 : Int) < (m : Int) := by omega
    go_enter Tryz.func57, Tryz.ntmps57
    go_wp2
    generalize hV : (w.setCell ⟨s, 1, none⟩ (.int .i64 ((t : Int) + 1))) = V at *
    have HV := (show Hid _ from hV)
    clear hV
    go_region_held3 (fun W' => W' = V.drew) (first | rfl | assumption) (fail)
    go_wp2
    go_ret
    have e1 : Src (some ⟨b, off, none⟩) n cap Z s (t + 1) V := by rw [← HV.out]; exact HS.out.step
    have e2 : Keeps s w V := by rw [← HV.out]; exact (Keeps.refl _ _).set _ _
    exact ⟨v, rfl, hvl, e1.drew, e2.drew⟩

theorem l1Next_any (a : Option Addr) (n cap : Nat) (Z : Nat → Int) (s t m : Nat) (w : World) (h : Src a n cap Z s t w) (hcap : n ≤ cap) (ht : t ≤ 1000) (hm : 0 < m) (hmx : m ≤ 100000) :
    Calls Tryz.prog 57 #[.pointer (some ⟨s, 0, none⟩), .int .i64 m] w fun e w' => ∃ v : Nat, e = .returned (.int .i64 v) ∧ v < m ∧ Src a n cap Z s (t + 1) w' ∧ Keeps s w w' := by
  by_cases h0 : n = 0
  · subst h0
    exact l1Next_none a cap Z s t m w h ht hm hmx
  · rcases h.bytes with e | ⟨b, off, rfl, hs, hz⟩
    · omega
    · exact l1Next_some b off n cap Z s t m w h hs hz (by omega) hcap ht hm hmx
end Go.Proofs.YtgpdpodagoligaaGreat
