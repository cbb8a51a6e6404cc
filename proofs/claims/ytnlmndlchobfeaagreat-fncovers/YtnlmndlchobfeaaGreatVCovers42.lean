/- Several texts in one. -/
import Derived.Test.YtnlmndlchobfeaaGreatVCovers36
import Derived.Test.YtnlmndlchobfeaaGreatVCovers15

/- ReachOf and ReachBox: the program and the model. -/

namespace Go.Proofs.YtnlmndlchobfeaaGreat
open Go.RowKit
set_option linter.unusedSimpArgs false
set_option linter.unusedVariables false
set_option maxRecDepth 100000

set_option maxHeartbeats 4000000 in
theorem impl_ReachOf_any (id la ki wi z : Int) (a : Option Addr) (n cap : Nat) (X Y : Nat → Int) (lab : ByteArray) (pr : Int) (w : World) (hp : IsPts w a n X Y) (hn : n ≤ 1048576) (hl : lab.size ≤ 1048576) (C : Int) (hC : C = simpC z (featC id la ki wi n X Y lab pr)) :
    Calls Tryz.prog 12 #[.agg #[.int .i64 id, .int .i64 la, .int .i64 ki, .int .i64 wi, .slice a n cap, .string lab, .int .i64 pr], .int .i64 z] w fun e w' => e = .returned (.agg #[.int .i64 C, .int .i64 (reachR C wi z)]) ∧ Below w.heap.size w w' := by
  have HP : Hid (IsPts w a n X Y) := hp
  clear hp
  go_enter Tryz.func12, Tryz.ntmps12
  go_wp2_with fail
  generalize hW : ((w.alloc _).alloc _ : World) = W
  have HB0 : Hid (Below w.heap.size w W) := by show Below _ _ _; subst hW; (repeat (first | exact Below.refl _ _ | assumption | refine Below.drew ?_ | refine bl_alloc ?_ _ | refine bl_then ?_ (by assumption) | refine Below.setCell ?_ (by first | omega | (simp; done) | (simp; omega)) _ | refine bl_store ?_ ?_ _ _))
  have HT : Hid (There W (w.heap.size + 1) 2) := by
    show There _ _ _
    subst hW
    have := there2 (w.alloc (.cells #[.int .i64 id, .int .i64 la, .int .i64 ki, .int .i64 wi, .slice a n cap, .string lab, .int .i64 pr] 26)) (.int .i64 0) (.int .i64 0) 41
    simpa using this
  have HF : Hid (FeatAt W w.heap.size 0 id la ki wi (.slice a n cap) lab pr) := by
    show FeatAt _ _ _ _ _ _ _ _ _ _
    subst hW
    refine ⟨?_, ?_, ?_, ?_, ?_, ?_, ?_⟩ <;> simp [go_sem]
  have hsz : w.heap.size + 1 < W.heap.size := by subst hW; simp
  clear hW
  refine (isZoom_any _ _).mono ?_
  rintro e w' ⟨rfl, rfl⟩
  cases h : zoomB z
  · have hCv : C = 3 := by rw [hC]; simp [simpC, h]
    subst hCv
    clear hC
    have hT' := HT.out
    have t0 := hT'.cell 0 (by omega)
    have t1 := hT'.cell 1 (by omega)
    have z0 := (hT' 0 (by omega)).2
    have z1 := (hT' 1 (by omega)).2
    clear hT'
    go_wp2_with fail
    refine bodyPost_ret (v := .agg #[.int .i64 3, .int .i64 0]) (by simp [results, Tryz.results12, go_sem, set2_0 (Option.isSome_iff_exists.2 ⟨_, t0⟩), set2_1 (Option.isSome_iff_exists.2 ⟨_, t1⟩)]) rfl ⟨by simp [reachR], ?_⟩
    have HB := HB0.out
    (repeat (first | exact Below.refl _ _ | assumption | refine Below.drew ?_ | refine bl_alloc ?_ _ | refine bl_then ?_ (by assumption) | refine Below.setCell ?_ (by first | omega | (simp; done) | (simp; omega)) _ | refine bl_store ?_ ?_ _ _))
  · have hC' : C = featC id la ki wi n X Y lab pr := by rw [hC]; simp [simpC, h]
    obtain ⟨q0, q1, q2, q3, q4, q5, q6⟩ := HF.out
    simp only [Nat.zero_add] at q0 q1 q2 q3 q4 q5 q6
    go_wp2_with fail
    refine (FeatureFault_any id la ki wi _ n cap X Y lab pr W (HP.out.below HB0.out) hl hn).mono ?_
    rintro e w1 ⟨rfl, hb1⟩
    rw [← hC']
    have HB1 : Hid (Below w.heap.size w w1) := bl_then HB0.out hb1
    have HF1 : Hid (FeatAt w1 w.heap.size 0 id la ki wi (.slice a n cap) lab pr) := HF.out.below hb1 (by omega)
    have HT1 : Hid (There w1 (w.heap.size + 1) 2) := HT.out.below hb1
    have hsz1 : w.heap.size + 1 < w1.heap.size := Nat.lt_of_lt_of_le hsz hb1.size
    clear hb1 q0 q1 q2 q3 q4 q5 q6
    by_cases hC0 : C = 0
    · subst hC0
      have hwr := (featC_rng hC'.symm).2.2.1
      clear hC hC'
      obtain ⟨q0, q1, q2, q3, q4, q5, q6⟩ := HF1.out
      simp only [Nat.zero_add] at q0 q1 q2 q3 q4 q5 q6
      go_wp2_with fail
      refine (reachAt_any id la ki wi z _ lab pr _ hwr h ⟨_, _, _, rfl⟩).mono ?_
      rintro e w2 ⟨rfl, hb2⟩
      have HB2 : Hid (Below w.heap.size w w2) := bl_then HB1.out hb2
      have hT' := HT1.out.below hb2
      have hsz2 : w.heap.size + 1 < w2.heap.size := Nat.lt_of_lt_of_le hsz1 hb2.size
      have t0 := hT'.cell 0 (by omega)
      have t1 := hT'.cell 1 (by omega)
      have z0 := (hT' 0 (by omega)).2
      have z1 := (hT' 1 (by omega)).2
      clear hT' hb2 q0 q1 q2 q3 q4 q5 q6
      have HR : Hid (reachR 0 wi z = reachI wi z) := by show _ = _; simp [reachR]
      generalize reachI wi z = r at *
      go_wp2_with fail
      refine bodyPost_ret (v := .agg #[.int .i64 0, .int .i64 r]) (by simp [results, Tryz.results12, go_sem, set2_0 (Option.isSome_iff_exists.2 ⟨_, t0⟩), set2_1 (Option.isSome_iff_exists.2 ⟨_, t1⟩)]) rfl ⟨by rw [HR.out], ?_⟩
      have HB := HB2.out
      (repeat (first | exact Below.refl _ _ | assumption | refine Below.drew ?_ | refine bl_alloc ?_ _ | refine bl_then ?_ (by assumption) | refine Below.setCell ?_ (by first | omega | (simp; done) | (simp; omega)) _ | refine bl_store ?_ ?_ _ _))
    · have hcb : (C != 0) = true := by simpa using hC0
      have HR : Hid (reachR C wi z = 0) := by show _ = _; simp [reachR, hC0]
      have hT' := HT1.out
      have t0 := hT'.cell 0 (by omega)
      have t1 := hT'.cell 1 (by omega)
      have z0 := (hT' 0 (by omega)).2
      have z1 := (hT' 1 (by omega)).2
      clear hT' hC hC'
      go_wp2_with fail
      refine bodyPost_ret (v := .agg #[.int .i64 C, .int .i64 0]) (by simp [results, Tryz.results12, go_sem, set2_0 (Option.isSome_iff_exists.2 ⟨_, t0⟩), set2_1 (Option.isSome_iff_exists.2 ⟨_, t1⟩)]) rfl ⟨by rw [HR.out], ?_⟩
      have HB := HB1.out
      (repeat (first | exact Below.refl _ _ | assumption | refine Below.drew ?_ | refine bl_alloc ?_ _ | refine bl_then ?_ (by assumption) | refine Below.setCell ?_ (by first | omega | (simp; done) | (simp; omega)) _ | refine bl_store ?_ ?_ _ _))
end Go.Proofs.YtnlmndlchobfeaaGreat
/- BoxOf of the model: what it answers at every list. -/

namespace Go.Proofs.YtnlmndlchobfeaaGreat
open Go.RowKit
set_option linter.unusedSimpArgs false
set_option linter.unusedVariables false

/-- Five stores into one block, read back. -/
theorem set5_at {W : World} {r : Nat} {a b c d e : Value} (hT : There W r 5) :
    (((((W.setCell ⟨r, 0, none⟩ a).setCell ⟨r, 1, none⟩ b).setCell ⟨r, 2, none⟩ c).setCell ⟨r, 3, none⟩ d).setCell ⟨r, 4, none⟩ e).cell? ⟨r, 0, none⟩ = some a ∧
    (((((W.setCell ⟨r, 0, none⟩ a).setCell ⟨r, 1, none⟩ b).setCell ⟨r, 2, none⟩ c).setCell ⟨r, 3, none⟩ d).setCell ⟨r, 4, none⟩ e).cell? ⟨r, 1, none⟩ = some b ∧
    (((((W.setCell ⟨r, 0, none⟩ a).setCell ⟨r, 1, none⟩ b).setCell ⟨r, 2, none⟩ c).setCell ⟨r, 3, none⟩ d).setCell ⟨r, 4, none⟩ e).cell? ⟨r, 2, none⟩ = some c ∧
    (((((W.setCell ⟨r, 0, none⟩ a).setCell ⟨r, 1, none⟩ b).setCell ⟨r, 2, none⟩ c).setCell ⟨r, 3, none⟩ d).setCell ⟨r, 4, none⟩ e).cell? ⟨r, 3, none⟩ = some d ∧
    (((((W.setCell ⟨r, 0, none⟩ a).setCell ⟨r, 1, none⟩ b).setCell ⟨r, 2, none⟩ c).setCell ⟨r, 3, none⟩ d).setCell ⟨r, 4, none⟩ e).cell? ⟨r, 4, none⟩ = some e := by
  have ne : ∀ i j : Nat, i ≠ j → (⟨r, i, none⟩ : Addr) ≠ ⟨r, j, none⟩ := fun i j hij h => hij (by injection h)
  have hT4 : There W r 4 := fun o ho => hT o (by omega)
  obtain ⟨x4, h4⟩ := (hT 4 (by omega)).1
  obtain ⟨q0, q1, q2, q3⟩ := set4_at (a := a) (b := b) (c := c) (d := d) hT4
  refine ⟨?_, ?_, ?_, ?_, ?_⟩
  · rw [set1_other (ne 4 0 (by omega))]; exact q0
  · rw [set1_other (ne 4 1 (by omega))]; exact q1
  · rw [set1_other (ne 4 2 (by omega))]; exact q2
  · rw [set1_other (ne 4 3 (by omega))]; exact q3
  · exact set1_same (by rw [set1_other (ne 3 4 (by omega)), set1_other (ne 2 4 (by omega)), set1_other (ne 1 4 (by omega)), set1_other (ne 0 4 (by omega))]; exact h4)

/-- What BoxOf answers of a list that is neither empty nor too long. -/
def boxV (n : Nat) (X Y : Nat → Int) : Value := if allOk n X Y = true then .agg #[.int .i64 0, .int .i64 (mnTo X n), .int .i64 (mnTo Y n), .int .i64 (mxTo X n), .int .i64 (mxTo Y n)] else .agg #[.int .i64 3, .int .i64 0, .int .i64 0, .int .i64 0, .int .i64 0]
theorem boxV_bad {n : Nat} {X Y : Nat → Int} (k : Nat) (hk : k < n) (h : okP (X k) (Y k) = false) : boxV n X Y = .agg #[.int .i64 3, .int .i64 0, .int .i64 0, .int .i64 0, .int .i64 0] := by
  have : ¬ allOk n X Y = true := fun ha => by
    have := of_decide_eq_true ha k hk
    rw [h] at this
    cases this
  simp [boxV, this]

end Go.Proofs.YtnlmndlchobfeaaGreat
/- BoxOf of the program: what it answers at every list. -/

namespace Go.Proofs.YtnlmndlchobfeaaGreat
open Go.RowKit
set_option linter.unusedSimpArgs false
set_option linter.unusedVariables false

set_option maxHeartbeats 1000000 in
theorem impl_BoxOf_none (a : Option Addr) (cap : Nat) (w : World) :
    Calls Tryz.prog 57 #[.slice a 0 cap] w fun e w' => e = .returned (.agg #[.int .i64 4, .int .i64 0, .int .i64 0, .int .i64 0, .int .i64 0]) ∧ Below w.heap.size w w' := by
  go_enter Tryz.func57, Tryz.ntmps57
  go_wp2
  exact bodyPost_ret (v := .agg #[.int .i64 4, .int .i64 0, .int .i64 0, .int .i64 0, .int .i64 0]) (by simp [results, Tryz.results57, go_sem]) rfl ⟨rfl, by (repeat (first | exact Below.refl _ _ | assumption | refine Below.drew ?_ | refine bl_alloc ?_ _ | refine bl_then ?_ (by assumption) | refine Below.setCell ?_ (by first | omega | (simp; done) | (simp; omega)) _ | refine bl_store ?_ ?_ _ _))⟩
set_option maxHeartbeats 1000000 in
theorem impl_BoxOf_many (a : Option Addr) (n cap : Nat) (w : World) (hn : 40 < n) (hmax : n ≤ 1048576) :
    Calls Tryz.prog 57 #[.slice a n cap] w fun e w' => e = .returned (.agg #[.int .i64 2, .int .i64 0, .int .i64 0, .int .i64 0, .int .i64 0]) ∧ Below w.heap.size w w' := by
  have hni : (40 : Int) < (n : Int) := by omega
  have h0 : ((n : Int) == 0) = false := by simp; omega
  go_enter Tryz.func57, Tryz.ntmps57
  go_wp2
  exact bodyPost_ret (v := .agg #[.int .i64 2, .int .i64 0, .int .i64 0, .int .i64 0, .int .i64 0]) (by simp [results, Tryz.results57, go_sem]) rfl ⟨rfl, by (repeat (first | exact Below.refl _ _ | assumption | refine Below.drew ?_ | refine bl_alloc ?_ _ | refine bl_then ?_ (by assumption) | refine Below.setCell ?_ (by first | omega | (simp; done) | (simp; omega)) _ | refine bl_store ?_ ?_ _ _))⟩

theorem point_any (x y : Int) (w : World) : Calls Tryz.prog 81 #[.agg #[.int .i64 x, .int .i64 y]] w fun e w' => e = .returned (.agg #[.int .i64 x, .int .i64 y]) ∧ Below w.heap.size w w' := by
  go_enter Tryz.func81, Tryz.ntmps81
  go_wp2
  exact bodyPost_ret (v := .agg #[.int .i64 x, .int .i64 y]) (by simp [results, Tryz.results81, go_sem]) rfl ⟨rfl, by (repeat (first | exact Below.refl _ _ | assumption | refine Below.drew ?_ | refine bl_alloc ?_ _ | refine bl_then ?_ (by assumption) | refine Below.setCell ?_ (by first | omega | (simp; done) | (simp; omega)) _ | refine bl_store ?_ ?_ _ _))⟩

set_option maxHeartbeats 4000000 in
theorem impl_BoxOf_bad (b n cap : Nat) (X Y : Nat → Int) (w : World) (hpt : PtsAt w b 0 n X Y) (hbl : b < w.heap.size) (hcap : n ≤ cap) (hn : 0 < n) (h40 : n ≤ 40) (hall : allOk n X Y = false) :
    Calls Tryz.prog 57 #[.slice (some ⟨b, 0, none⟩) n cap] w fun e w' => e = .returned (boxV n X Y) ∧ Below w.heap.size w w' := by
  have HQ : Hid (PtsAt w b 0 n X Y) := hpt
  have HV : Hid (boxV n X Y = .agg #[.int .i64 3, .int .i64 0, .int .i64 0, .int .i64 0, .int .i64 0]) := by show _ = _; simp [boxV, hall]
  have hN : codeN n X Y = 3 := by simp [codeN, hall]
  clear hpt hall
  have h0 : ((n : Int) == 0) = false := by simp; omega
  have hn40 : ¬ (40 : Int) < (n : Int) := by omega
  go_enter Tryz.func57, Tryz.ntmps57
  go_wp2_with fail
  generalize hW : (w.alloc _ : World) = W
  have hB0 : Below w.heap.size w W := by subst hW; (repeat (first | exact Below.refl _ _ | assumption | refine Below.drew ?_ | refine bl_alloc ?_ _ | refine bl_then ?_ (by assumption) | refine Below.setCell ?_ (by first | omega | (simp; done) | (simp; omega)) _ | refine bl_store ?_ ?_ _ _))
  have hT0 : There W w.heap.size 5 := fun o ho => by
    subst hW
    have hc : o = 0 ∨ o = 1 ∨ o = 2 ∨ o = 3 ∨ o = 4 := by omega
    rcases hc with rfl | rfl | rfl | rfl | rfl <;> exact ⟨⟨_, by simp [go_sem]; rfl⟩, by simp [go_sem]⟩
  clear hW
  have HQ1 : Hid (PtsAt W b 0 n X Y) := HQ.out.below hB0 hbl
  have hblW : b < W.heap.size := Nat.lt_of_lt_of_le hbl hB0.size
  have HT0 : Hid (There W w.heap.size 5) := hT0
  have HB0 : Hid (Below w.heap.size w W) := hB0
  clear hT0 hB0
  refine (faultIn_any _ _ _ _ X Y _ HQ1.out hblW hcap (by omega)).mono ?_
  rintro e w1 ⟨rfl, hb1⟩
  have hT1 := HT0.out.below hb1
  have t0 := hT1.cell 0 (by omega)
  have t1 := hT1.cell 1 (by omega)
  have t2 := hT1.cell 2 (by omega)
  have t3 := hT1.cell 3 (by omega)
  have t4 := hT1.cell 4 (by omega)
  have y0 := (hT1 0 (by omega)).2
  have y1 := (hT1 1 (by omega)).2
  have y2 := (hT1 2 (by omega)).2
  have y3 := (hT1 3 (by omega)).2
  have y4 := (hT1 4 (by omega)).2
  have HT1 : Hid (There w1 w.heap.size 5) := hT1
  clear hT1
  go_wp2
  obtain ⟨q0, q1, q2, q3, q4⟩ := set5_at (a := .int .i64 3) (b := .int .i64 0) (c := .int .i64 0) (d := .int .i64 0) (e := .int .i64 0) HT1.out
  refine bodyPost_ret (v := .agg #[.int .i64 3, .int .i64 0, .int .i64 0, .int .i64 0, .int .i64 0]) (by simp [results, Tryz.results57, go_sem, q0, q1, q2, q3, q4]) rfl ⟨by rw [HV.out], ?_⟩
  have HB1 := bl_then HB0.out hb1
  (repeat (first | exact Below.refl _ _ | assumption | refine Below.drew ?_ | refine bl_alloc ?_ _ | refine bl_then ?_ (by assumption) | refine Below.setCell ?_ (by first | omega | (simp; done) | (simp; omega)) _ | refine bl_store ?_ ?_ _ _))
end Go.Proofs.YtnlmndlchobfeaaGreat
