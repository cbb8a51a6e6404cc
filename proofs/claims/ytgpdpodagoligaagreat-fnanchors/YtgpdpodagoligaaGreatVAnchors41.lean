/- Several texts in one. -/
import Derived.Test.YtgpdpodagoligaaGreatVAnchors40
import Derived.Test.YtgpdpodagoligaaGreatVAnchors31
import Derived.Test.YtgpdpodagoligaaGreatVAnchors39

/- AnchorOf: the program and the model. -/

namespace Go.Proofs.YtgpdpodagoligaaGreat
open Go.RowKit
set_option linter.unusedSimpArgs false
set_option linter.unusedVariables false
set_option maxRecDepth 100000

/-- The anchor, where there is no fault. -/
def anC (C z v : Int) : Int := if C = 0 then ancI z v else 0
theorem there3a (w : World) (x y z : Value) (t : TypeId) : There (w.alloc (.cells #[x, y, z] t)) w.heap.size 3 := fun o ho => by
  have : o = 0 ∨ o = 1 ∨ o = 2 := by omega
  rcases this with rfl | rfl | rfl <;> exact ⟨⟨_, by simp [go_sem]; rfl⟩, by simp [go_sem]⟩
theorem set3a {W : World} {r : Nat} {a b c : Value} (hT : There W r 3) :
    (((W.setCell ⟨r, 0, none⟩ a).setCell ⟨r, 1, none⟩ b).setCell ⟨r, 2, none⟩ c).cell? ⟨r, 0, none⟩ = some a ∧ (((W.setCell ⟨r, 0, none⟩ a).setCell ⟨r, 1, none⟩ b).setCell ⟨r, 2, none⟩ c).cell? ⟨r, 1, none⟩ = some b ∧ (((W.setCell ⟨r, 0, none⟩ a).setCell ⟨r, 1, none⟩ b).setCell ⟨r, 2, none⟩ c).cell? ⟨r, 2, none⟩ = some c := by
  obtain ⟨u0, h0⟩ := (hT 0 (by omega)).1
  obtain ⟨u1, h1⟩ := (hT 1 (by omega)).1
  obtain ⟨u2, h2⟩ := (hT 2 (by omega)).1
  have ne : ∀ i j : Nat, i ≠ j → (⟨r, i, none⟩ : Addr) ≠ ⟨r, j, none⟩ := fun i j hij h => hij (by injection h)
  refine ⟨?_, ?_, ?_⟩
  · rw [set1_other (ne 2 0 (by omega)), set1_other (ne 1 0 (by omega))]; exact set1_same h0
  · rw [set1_other (ne 2 1 (by omega))]; exact set1_same (by rw [set1_other (ne 0 1 (by omega))]; exact h1)
  · exact set1_same (by rw [set1_other (ne 1 2 (by omega)), set1_other (ne 0 2 (by omega))]; exact h2)
/-- What follows where there is no fault. -/
theorem simp_zero {id la ki wi z : Int} {n : Nat} {X Y : Nat → Int} {lab : ByteArray} {pr : Int} (h : 0 = simpC z (featC id la ki wi n X Y lab pr)) : zoomB z = true ∧ featC id la ki wi n X Y lab pr = 0 := by
  have hz : zoomB z = true := by
    unfold simpC at h
    split at h
    · assumption
    · omega
  refine ⟨hz, ?_⟩
  unfold simpC at h
  rw [if_pos hz] at h
  exact h.symm
set_option maxHeartbeats 8000000 in
theorem impl_AnchorOf_any {off : Nat} (id la ki wi z : Int) (b n cap : Nat) (X Y : Nat → Int) (lab : ByteArray) (pr : Int) (L : List Nat) (w : World) (hp : PtsAt w b off n X Y) (hbl : b < w.heap.size) (hn : n ≤ 1048576) (hcap : n ≤ cap) (hl : lab.size ≤ 1048576)
    (hL : 3 ≤ (snapL X Y z n).length → Thin (px (snapL X Y z n)) (py (snapL X Y z n)) (gridI z) 0 ((snapL X Y z n).length - 1) L) (C : Int) (hC : C = simpC z (featC id la ki wi n X Y lab pr)) :
    Calls Tryz.prog 6 #[.agg #[.int .i64 id, .int .i64 la, .int .i64 ki, .int .i64 wi, .slice (some ⟨b, off, none⟩) n cap, .string lab, .int .i64 pr], .int .i64 z] w fun e w' => e = .returned (.agg #[.int .i64 C, .int .i64 (anC C z (px (simpR C ki z n X Y L) 0)), .int .i64 (anC C z (py (simpR C ki z n X Y L) 0))]) ∧ Below w.heap.size w w' := by
  have HP : Hid (PtsAt w b off n X Y) := hp
  have HL := (show Hid _ from hL)
  have HC : Hid (C = simpC z (featC id la ki wi n X Y lab pr)) := hC
  clear hp hL hC
  go_enter Tryz.func6, Tryz.ntmps6
  go_wp2_with fail
  generalize hW : ((w.alloc _).alloc _ : World) = W
  have hB0 : Below w.heap.size w W := by subst hW; (repeat (first | exact Below.refl _ _ | assumption | refine Below.drew ?_ | refine bl_alloc ?_ _ | refine bl_then ?_ (by assumption) | refine Below.setCell ?_ (by first | omega | (simp; done) | (simp; omega)) _ | refine bl_store ?_ ?_ _ _))
  have HT : Hid (There W (w.heap.size + 1) 3) := by
    show There _ _ _
    subst hW
    have := there3a (w.alloc (.cells #[.int .i64 id, .int .i64 la, .int .i64 ki, .int .i64 wi, .slice (some ⟨b, off, none⟩) n cap, .string lab, .int .i64 pr] 26)) (.int .i64 0) (.int .i64 0) (.int .i64 0) 32
    simpa using this
  have HSZ : Hid (w.heap.size + 1 < W.heap.size) := by show _ < _; subst hW; simp
  clear hW
  have HB0 : Hid (Below w.heap.size w W) := hB0
  have HPW : Hid (PtsAt W b off n X Y) := HP.out.below hB0 hbl
  have hblW : b < W.heap.size := Nat.lt_of_lt_of_le hbl hB0.size
  clear hB0
  by_cases hC0 : C = 0
  · subst hC0
    obtain ⟨hz, hfc⟩ := simp_zero HC.out
    obtain ⟨hkn, hR12, hall⟩ := simpR_facts hfc hz HL.out
    have hR0 : 0 < (simpR 0 ki z n X Y L).length := by rcases hkn with ⟨_, h⟩ | ⟨_, h⟩ | ⟨_, h⟩ <;> omega
    have Hs := (show Hid _ from simple_ok id la ki wi z b n cap X Y lab pr L W HPW.out hblW hn hcap hl HL.out HC.out hR0)
    have HK : Hid (anC 0 z (px (simpR 0 ki z n X Y L) 0) = ancI z (px (simpR 0 ki z n X Y L) 0) ∧ anC 0 z (py (simpR 0 ki z n X Y L) 0) = ancI z (py (simpR 0 ki z n X Y L) 0)) := ⟨if_pos rfl, if_pos rfl⟩
    clear hfc hkn
    refine Calls.mono Hs.out ?_
    clear Hs
    have HAL : Hid (allW (simpR 0 ki z n X Y L)) := hall
    clear hall
    generalize hRe : simpR 0 ki z n X Y L = R at *
    have HRe : Hid (simpR 0 ki z n X Y L = R) := hRe
    clear hRe
    rintro e w1 ⟨g, cg, rfl, hgl, hcg, hPg, hb1⟩
    have HPg : Hid (PtsAt w1 g 0 R.length (px R) (py R)) := hPg
    generalize hRn : R.length = N at *
    have HT1 : Hid (There w1 (w.heap.size + 1) 3) := HT.out.below hb1
    have HB1 : Hid (Below w.heap.size w w1) := bl_then HB0.out hb1
    have hs1 : w.heap.size + 1 < w1.heap.size := Nat.lt_of_lt_of_le HSZ.out hb1.size
    clear hPg hb1
    go_wp2_with fail
    generalize hV : (w1.alloc _ : World) = V
    have hbV : Below w1.heap.size w1 V := by subst hV; (repeat (first | exact Below.refl _ _ | assumption | refine Below.drew ?_ | refine bl_alloc ?_ _ | refine bl_then ?_ (by assumption) | refine Below.setCell ?_ (by first | omega | (simp; done) | (simp; omega)) _ | refine bl_store ?_ ?_ _ _))
    clear hV
    refine (anchorAsItIs_any id la ki wi z g N cg (px R) (py R) lab pr V (HPg.out.below hbV hgl) (Nat.lt_of_lt_of_le hgl hbV.size) hR0 (HAL.out.at 0) hz).mono ?_
    rintro e w2 ⟨rfl, hb2⟩
    have hT2 := HT1.out.below (bl_then hbV hb2)
    have HT2 : Hid (There w2 (w.heap.size + 1) 3) := hT2
    have t0 := hT2.cell 0 (by omega)
    have t1 := hT2.cell 1 (by omega)
    have t2 := hT2.cell 2 (by omega)
    have f0 := (hT2 0 (by omega)).2
    have f1 := (hT2 1 (by omega)).2
    have f2 := (hT2 2 (by omega)).2
    have HB2 : Hid (Below w.heap.size w w2) := bl_then HB1.out (bl_then hbV hb2)
    clear hT2 hb2 hbV
    go_wp2_with fail
    rw [HRe.out] at *
    rw [HK.out.1, HK.out.2]
    generalize ancI z (px R 0) = ax at *
    generalize ancI z (py R 0) = ay at *
    obtain ⟨q0, q1, q2⟩ := set3a (a := .int .i64 0) (b := .int .i64 ax) (c := .int .i64 ay) HT2.out
    refine bodyPost_ret (v := .agg #[.int .i64 0, .int .i64 ax, .int .i64 ay]) (by simp [results, Tryz.results6, go_sem, q0, q1, q2]) rfl ⟨rfl, ?_⟩
    exact ((HB2.out.setCell (Nat.le_succ _) _).setCell (Nat.le_succ _) _).setCell (Nat.le_succ _) _
  · have Hs := (show Hid _ from simple_no id la ki wi z b n cap X Y lab pr L W HPW.out hblW hn hcap hl HL.out C HC.out hC0)
    have HK : Hid (anC C z (px (simpR C ki z n X Y L) 0) = 0 ∧ anC C z (py (simpR C ki z n X Y L) 0) = 0) := ⟨if_neg hC0, if_neg hC0⟩
    refine Calls.mono Hs.out ?_
    rintro e w1 ⟨a1, c1, rfl, hb1⟩
    clear Hs
    have hT1 := HT.out.below hb1
    have HT1 : Hid (There w1 (w.heap.size + 1) 3) := hT1
    have HB1 : Hid (Below w.heap.size w w1) := bl_then HB0.out hb1
    have hs1 : w.heap.size + 1 < w1.heap.size := Nat.lt_of_lt_of_le HSZ.out hb1.size
    have hcb : (C == 0) = false := by simpa using hC0
    have t0 := hT1.cell 0 (by omega)
    have t1 := hT1.cell 1 (by omega)
    have t2 := hT1.cell 2 (by omega)
    have f0 := (hT1 0 (by omega)).2
    have f1 := (hT1 1 (by omega)).2
    have f2 := (hT1 2 (by omega)).2
    clear hb1 hC0 hT1
    go_wp2_with fail
    rw [HK.out.1, HK.out.2]
    obtain ⟨q0, q1, q2⟩ := set3a (a := .int .i64 C) (b := .int .i64 0) (c := .int .i64 0) HT1.out
    have hBU : Below w.heap.size w (((w1.setCell ⟨w.heap.size + 1, 0, none⟩ (.int .i64 C)).setCell ⟨w.heap.size + 1, 1, none⟩ (.int .i64 0)).setCell ⟨w.heap.size + 1, 2, none⟩ (.int .i64 0)) := ((HB1.out.setCell (Nat.le_succ _) _).setCell (Nat.le_succ _) _).setCell (Nat.le_succ _) _
    generalize hU : (((w1.setCell _ _).setCell _ _).setCell _ _ : World) = U at *
    have r0 : ∀ O, (U.alloc O).cell? ⟨w.heap.size + 1, 0, none⟩ = some (.int .i64 C) := fun O => (World.cell?_alloc_lt _ _ _ (World.block_lt_of_cell? _ _ q0)).trans q0
    have r1 : ∀ O, (U.alloc O).cell? ⟨w.heap.size + 1, 1, none⟩ = some (.int .i64 0) := fun O => (World.cell?_alloc_lt _ _ _ (World.block_lt_of_cell? _ _ q1)).trans q1
    have r2 : ∀ O, (U.alloc O).cell? ⟨w.heap.size + 1, 2, none⟩ = some (.int .i64 0) := fun O => (World.cell?_alloc_lt _ _ _ (World.block_lt_of_cell? _ _ q2)).trans q2
    refine bodyPost_ret (v := .agg #[.int .i64 C, .int .i64 0, .int .i64 0]) (by simp [results, Tryz.results6, go_sem, r0, r1, r2]) rfl ⟨rfl, ?_⟩
    exact bl_alloc hBU _
theorem l1Min_a (a b : Int) (w : World) : Calls Tryz.prog 47 #[.int .i64 a, .int .i64 b] w fun e w' => e = .returned (.int .i64 (min a b)) ∧ w = w' := by
  by_cases h : a < b
  · have e : min a b = a := by omega
    rw [e]
    go_enter Tryz.func47, Tryz.ntmps47
    go_wp2
    go_ret
    exact ⟨rfl, rfl⟩
  · have e : min a b = b := by omega
    rw [e]
    go_enter Tryz.func47, Tryz.ntmps47
    go_wp2
    go_ret
    exact ⟨rfl, rfl⟩
theorem Reg.store2 {B r n : Nat} {W W1 : World} (h : Reg B W r n W1) (hr : B ≤ r) {v0 v1 : Value} : Reg B W r n ((W1.setCell ⟨r, 0, none⟩ v0).setCell ⟨r, 1, none⟩ v1) := (h.store hr _ _).store hr _ _
set_option maxHeartbeats 8000000 in
theorem l10Anchor_any {off o : Nat} (q : Nat) (id la ki wi z : Int) (b n cap : Nat) (X Y : Nat → Int) (lab : ByteArray) (pr : Int) (w : World) (hf : FeatAt w q o id la ki wi (.slice (some ⟨b, off, none⟩) n cap) lab pr) (hp : PtsAt w b off n X Y) (hbl : b < w.heap.size) (hn0 : 0 < n) (hin : inW (X 0) (Y 0) = true) (hz : zoomB z = true) :
    Calls Tryz.prog 16 #[.pointer (some ⟨q, o, none⟩), .int .i64 z] w fun e w' => e = .returned (.agg #[.int .i64 (ancI z (X 0)), .int .i64 (ancI z (Y 0))]) ∧ Below w.heap.size w w' := by
  have sU := fun w => l3Unit_any z w hz
  have sN := fun w => l4Count_any z w hz
  have hu := unitI_bd hz
  have hm := pixI_bd hz
  have hx : (0 ≤ X 0 ∧ X 0 ≤ 1024) ∧ (0 ≤ Y 0 ∧ Y 0 ≤ 1024) := by simpa [inW, inB] using hin
  unfold ancI
  generalize unitI z = u at *
  generalize pixI z = m at *
  have d1 : (X 0).tdiv u = X 0 / u := Int.tdiv_eq_ediv_of_nonneg hx.1.1
  have d2 : (Y 0).tdiv u = Y 0 / u := Int.tdiv_eq_ediv_of_nonneg hx.2.1
  have d3 : 0 ≤ X 0 / u ∧ X 0 / u ≤ 1024 := ⟨Int.ediv_nonneg hx.1.1 (by omega), Int.le_trans (Int.ediv_le_self _ hx.1.1) hx.1.2⟩
  have d4 : 0 ≤ Y 0 / u ∧ Y 0 / u ≤ 1024 := ⟨Int.ediv_nonneg hx.2.1 (by omega), Int.le_trans (Int.ediv_le_self _ hx.2.1) hx.2.2⟩
  have x1 : IntKind.i64.wrap (X 0 / u) = X 0 / u := IntWalk.i64_in _ (by omega)
  have x2 : IntKind.i64.wrap (Y 0 / u) = Y 0 / u := IntWalk.i64_in _ (by omega)
  have hn1 : (0 : Int) < (n : Int) := by omega
  have p0 := (hp 0 hn0).1
  have p1 := (hp 0 hn0).2
  simp only [Nat.zero_mul, Nat.add_zero, Nat.mul_zero] at p0 p1
  have p4 := hf.2.2.2.2.1
  have hql : q < w.heap.size := World.block_lt_of_cell? _ _ p4
  clear hz hin hf hp
  go_enter Tryz.func16, Tryz.ntmps16
  go_wp2_with (first
    | (go_at_call 45; refine (sU _).mono ?_; rintro e w1 ⟨rfl, rfl⟩)
    | (go_at_call 46; refine (sN _).mono ?_; rintro e w1 ⟨rfl, rfl⟩))
  generalize hW : (w.alloc _ : World) = W
  have HB0 : Hid (Below w.heap.size w W) := by show Below _ _ _; subst hW; (repeat (first | exact Below.refl _ _ | assumption | refine Below.drew ?_ | refine bl_alloc ?_ _ | refine bl_then ?_ (by assumption) | refine Below.setCell ?_ (by first | omega | (simp; done) | (simp; omega)) _ | refine bl_store ?_ ?_ _ _))
  have hReg : Reg w.heap.size W w.heap.size 2 W := Reg.start (by subst hW; simp) (by subst hW; exact there2a w _ _ _)
  have c4 : ∀ W', Reg w.heap.size W w.heap.size 2 W' → W'.cell? ⟨q, o + 4, none⟩ = some (.slice (some ⟨b, off, none⟩) n cap) := fun W' h => by
    rw [h.bel.cell (p := ⟨q, o + 4, none⟩) hql, HB0.out.cell (p := ⟨q, o + 4, none⟩) hql]; exact p4
  have e0 : ∀ W', Reg w.heap.size W w.heap.size 2 W' → W'.cell? ⟨b, off, none⟩ = some (.int .i64 (X 0)) := fun W' h => by
    rw [h.bel.cell (p := ⟨b, off, none⟩) hbl, HB0.out.cell (p := ⟨b, off, none⟩) hbl]; exact p0
  have e1 : ∀ W', Reg w.heap.size W w.heap.size 2 W' → W'.cell? ⟨b, off + 1, none⟩ = some (.int .i64 (Y 0)) := fun W' h => by
    rw [h.bel.cell (p := ⟨b, off + 1, none⟩) hbl, HB0.out.cell (p := ⟨b, off + 1, none⟩) hbl]; exact p1
  clear hW p0 p1 p4
  have hu0 : u ≠ 0 := by omega
  have t0 : ∀ W', Reg w.heap.size W w.heap.size 2 W' → W'.cell? ⟨w.heap.size, 0, none⟩ = some (cellOr W' w.heap.size 0) := fun W' h => h.there.cell 0 (by omega)
  have t1 : ∀ W', Reg w.heap.size W w.heap.size 2 W' → W'.cell? ⟨w.heap.size, 1, none⟩ = some (cellOr W' w.heap.size 1) := fun W' h => h.there.cell 1 (by omega)
  have f0 : ∀ W', Reg w.heap.size W w.heap.size 2 W' → W'.frozen? ⟨w.heap.size, 0, none⟩ = false := fun W' h => (h.there 0 (by omega)).2
  have f1 : ∀ W', Reg w.heap.size W w.heap.size 2 W' → W'.frozen? ⟨w.heap.size, 1, none⟩ = false := fun W' h => (h.there 1 (by omega)).2
  have HR0 : Hid (Reg w.heap.size W w.heap.size 2 W) := hReg
  go_region_held3 (Reg w.heap.size W w.heap.size 2) (first | with_reducible assumption | with_reducible exact Reg.drew hReg | with_reducible exact Reg.drew (Reg.store2 hReg (Nat.le_refl _)) | with_reducible exact Reg.store2 (by with_reducible assumption) (Nat.le_refl _) | with_reducible exact Reg.call (by with_reducible assumption) (by with_reducible assumption))
    (first
      | (go_at_call 47; refine (l1Min_a _ _ _).mono ?_; rintro e w' ⟨rfl, rfl⟩)
      | fail)
  go_wp2_with fail
  obtain ⟨z0, z1⟩ := PtA.put (x := min (X 0 / u) (m - 1)) (y := min (Y 0 / u) (m - 1)) HR0.out.there
  refine bodyPost_ret (v := .agg #[.int .i64 (min (X 0 / u) (m - 1)), .int .i64 (min (Y 0 / u) (m - 1))]) (by simp [results, Tryz.results16, go_sem, z0, z1]) rfl ⟨rfl, ?_⟩
  have HB := HB0.out
  exact Below.drew (Below.setCell (Below.setCell HB (Nat.le_refl _) _) (Nat.le_refl _) _)
set_option maxHeartbeats 4000000 in
theorem l10Asked_any (q o : Nat) (id la ki wi z : Int) (a : Option Addr) (n cap : Nat) (X Y : Nat → Int) (lab : ByteArray) (pr : Int) (w : World) (hf : FeatAt w q o id la ki wi (.slice a n cap) lab pr) (hp : IsPts w a n X Y) (hn : n ≤ 1048576) (hl : lab.size ≤ 1048576) :
    Calls Tryz.prog 14 #[.pointer (some ⟨q, o, none⟩), .int .i64 z] w fun e w' => e = .returned (.int .i64 (simpC z (featC id la ki wi n X Y lab pr))) ∧ Below w.heap.size w w' := by
  have HF : Hid (∀ w', w = w' → Calls Tryz.prog 40 #[.pointer (some ⟨q, o, none⟩)] w' fun e w'' => e = .returned (.int .i64 (featC id la ki wi n X Y lab pr)) ∧ Below w'.heap.size w' w'') := fun w' e => by subst e; exact l2Fault_any q o id la ki wi a n cap X Y lab pr w hf hp hl hn
  clear hf hp
  generalize featC id la ki wi n X Y lab pr = F at *
  cases hz : zoomB z
  · have HK : Hid (simpC z F = 3) := by show _ = _; simp [simpC, hz]
    go_enter Tryz.func14, Tryz.ntmps14
    go_wp2_with (go_at_call 39; refine (l3Zoom_any _ _).mono ?_; rintro e w1 ⟨rfl, rfl⟩)
    go_ret
    exact ⟨ret_int HK.out.symm, by (repeat (first | exact Below.refl _ _ | assumption | refine Below.drew ?_ | refine bl_alloc ?_ _ | refine bl_then ?_ (by assumption) | refine Below.setCell ?_ (by first | omega | (simp; done) | (simp; omega)) _ | refine bl_store ?_ ?_ _ _))⟩
  · have HK : Hid (simpC z F = F) := by show _ = _; simp [simpC, hz]
    go_enter Tryz.func14, Tryz.ntmps14
    go_wp2_with (first
      | (go_at_call 39; refine (l3Zoom_any _ _).mono ?_; rintro e w1 ⟨rfl, rfl⟩)
      | (go_at_call 40; refine (HF.out _ rfl).mono ?_; rintro e w2 ⟨rfl, hb2⟩))
    go_ret
    exact ⟨ret_int HK.out.symm, by (repeat (first | exact Below.refl _ _ | assumption | refine Below.drew ?_ | refine bl_alloc ?_ _ | refine bl_then ?_ (by assumption) | refine Below.setCell ?_ (by first | omega | (simp; done) | (simp; omega)) _ | refine bl_store ?_ ?_ _ _))⟩
set_option maxHeartbeats 8000000 in
theorem spec_AnchorOf_any {off : Nat} (id la ki wi z : Int) (b n cap : Nat) (X Y : Nat → Int) (lab : ByteArray) (pr : Int) (L : List Nat) (w : World) (hp : PtsAt w b off n X Y) (hbl : b < w.heap.size) (hn : n ≤ 1048576) (hl : lab.size ≤ 1048576)
    (hL : 3 ≤ (snapL X Y z n).length → Thin (px (snapL X Y z n)) (py (snapL X Y z n)) (gridI z) 0 ((snapL X Y z n).length - 1) L) (C : Int) (hC : C = simpC z (featC id la ki wi n X Y lab pr)) :
    Calls Tryz.prog 7 #[.agg #[.int .i64 id, .int .i64 la, .int .i64 ki, .int .i64 wi, .slice (some ⟨b, off, none⟩) n cap, .string lab, .int .i64 pr], .int .i64 z] w fun e w' => e = .returned (.agg #[.int .i64 C, .int .i64 (anC C z (px (simpR C ki z n X Y L) 0)), .int .i64 (anC C z (py (simpR C ki z n X Y L) 0))]) ∧ Below w.heap.size w w' := by
  have HP : Hid (PtsAt w b off n X Y) := hp
  have HL := (show Hid _ from hL)
  have HC : Hid (C = simpC z (featC id la ki wi n X Y lab pr)) := hC
  clear hp hL hC
  go_enter Tryz.func7, Tryz.ntmps7
  go_wp2_with fail
  generalize hW : ((w.alloc _).alloc _ : World) = W
  have hB0 : Below w.heap.size w W := by subst hW; (repeat (first | exact Below.refl _ _ | assumption | refine Below.drew ?_ | refine bl_alloc ?_ _ | refine bl_then ?_ (by assumption) | refine Below.setCell ?_ (by first | omega | (simp; done) | (simp; omega)) _ | refine bl_store ?_ ?_ _ _))
  have HT : Hid (There W (w.heap.size + 1) 3) := by
    show There _ _ _
    subst hW
    have := there3a (w.alloc (.cells #[.int .i64 id, .int .i64 la, .int .i64 ki, .int .i64 wi, .slice (some ⟨b, off, none⟩) n cap, .string lab, .int .i64 pr] 26)) (.int .i64 0) (.int .i64 0) (.int .i64 0) 32
    simpa using this
  have HFW : Hid (FeatAt W w.heap.size 0 id la ki wi (.slice (some ⟨b, off, none⟩) n cap) lab pr) := by
    show FeatAt _ _ _ _ _ _ _ _ _ _
    subst hW
    refine ⟨?_, ?_, ?_, ?_, ?_, ?_, ?_⟩ <;> simp [go_sem]
  have HSZ : Hid (w.heap.size + 1 < W.heap.size) := by show _ < _; subst hW; simp
  have hlW : w.heap.size < W.heap.size := by subst hW; simp <;> omega
  clear hW
  have HB0 : Hid (Below w.heap.size w W) := hB0
  have HPW : Hid (PtsAt W b off n X Y) := HP.out.below hB0 hbl
  have hblW : b < W.heap.size := Nat.lt_of_lt_of_le hbl hB0.size
  clear hB0
  refine (l10Asked_any w.heap.size 0 id la ki wi z _ n cap X Y lab pr W HFW.out (.inr ⟨b, off, rfl, hblW, HPW.out⟩) hn hl).mono ?_
  rintro e w1 ⟨rfl, hb1⟩
  rw [← HC.out]
  have HF1 : Hid (FeatAt w1 w.heap.size 0 id la ki wi (.slice (some ⟨b, off, none⟩) n cap) lab pr) := HFW.out.below hb1 hlW
  have HP1 : Hid (PtsAt w1 b off n X Y) := HPW.out.below hb1 hblW
  have hbl1 : b < w1.heap.size := Nat.lt_of_lt_of_le hblW hb1.size
  have HB1 : Hid (Below w.heap.size w w1) := bl_then HB0.out hb1
  have HT1 : Hid (There w1 (w.heap.size + 1) 3) := HT.out.below hb1
  have hs1 : w.heap.size + 1 < w1.heap.size := Nat.lt_of_lt_of_le HSZ.out hb1.size
  clear hb1
  by_cases hC0 : C = 0
  · subst hC0
    obtain ⟨hz, hfc⟩ := simp_zero HC.out
    obtain ⟨hk3, hk0, hk12, _, hin, _⟩ := featC_zero hfc
    obtain ⟨hkn, hR12, hall⟩ := simpR_facts hfc hz HL.out
    have hR0 : 0 < (simpR 0 ki z n X Y L).length := by rcases hkn with ⟨_, h⟩ | ⟨_, h⟩ | ⟨_, h⟩ <;> omega
    have Hs := (show Hid _ from l3Simple_any w.heap.size id la ki wi z b n cap X Y lab pr L w1 HF1.out HP1.out hbl1 hz hk3 hk0 hk12 hin HL.out)
    rw [← show simpR 0 ki z n X Y L = fillL ki.toNat (simpT ki z n X Y L) by rw [simpR, if_pos rfl]] at Hs
    have HK : Hid (anC 0 z (px (simpR 0 ki z n X Y L) 0) = ancI z (px (simpR 0 ki z n X Y L) 0) ∧ anC 0 z (py (simpR 0 ki z n X Y L) 0) = ancI z (py (simpR 0 ki z n X Y L) 0)) := ⟨if_pos rfl, if_pos rfl⟩
    have HAL : Hid (allW (simpR 0 ki z n X Y L)) := hall
    clear hfc hkn hall hk3 hk0 hk12 hin
    generalize hRe : simpR 0 ki z n X Y L = R at *
    have HRe : Hid (simpR 0 ki z n X Y L = R) := hRe
    clear hRe
    go_wp2_with fail
    refine Calls.mono Hs.out ?_
    rintro e w2 ⟨v, rfl, hR, hb2⟩
    obtain ⟨g, cg, hv, _, hgl, hcg, hPg⟩ := hR.at hR0
    subst hv
    have HPg : Hid (PtsAt w2 g 0 R.length (px R) (py R)) := hPg
    clear hPg hR Hs
    generalize hRn : R.length = N at *
    have HT2 : Hid (There w2 (w.heap.size + 1) 3) := HT1.out.below hb2
    have HB2 : Hid (Below w.heap.size w w2) := bl_then HB1.out hb2
    clear hb2
    go_wp2_with fail
    generalize hV : (w2.alloc _ : World) = V
    have hbV : Below w2.heap.size w2 V := by subst hV; (repeat (first | exact Below.refl _ _ | assumption | refine Below.drew ?_ | refine bl_alloc ?_ _ | refine bl_then ?_ (by assumption) | refine Below.setCell ?_ (by first | omega | (simp; done) | (simp; omega)) _ | refine bl_store ?_ ?_ _ _))
    have hFV : FeatAt V w2.heap.size 0 id la ki wi (.slice (some ⟨g, 0, none⟩) N cg) lab pr := by
      subst hV
      refine ⟨?_, ?_, ?_, ?_, ?_, ?_, ?_⟩ <;> simp [go_sem]
    clear hV
    refine (l10Anchor_any w2.heap.size id la ki wi z g N cg (px R) (py R) lab pr V hFV (HPg.out.below hbV hgl) (Nat.lt_of_lt_of_le hgl hbV.size) hR0 (HAL.out.at 0) hz).mono ?_
    rintro e w3 ⟨rfl, hb3⟩
    have hT3 := HT2.out.below (bl_then hbV hb3)
    have HT3 : Hid (There w3 (w.heap.size + 1) 3) := hT3
    have t0 := hT3.cell 0 (by omega)
    have t1 := hT3.cell 1 (by omega)
    have t2 := hT3.cell 2 (by omega)
    have f0 := (hT3 0 (by omega)).2
    have f1 := (hT3 1 (by omega)).2
    have f2 := (hT3 2 (by omega)).2
    have HB3 : Hid (Below w.heap.size w w3) := bl_then HB2.out (bl_then hbV hb3)
    clear hT3 hb3 hbV
    go_wp2_with fail
    rw [HRe.out] at *
    rw [HK.out.1, HK.out.2]
    generalize ancI z (px R 0) = ax at *
    generalize ancI z (py R 0) = ay at *
    obtain ⟨q0, q1, q2⟩ := set3a (a := .int .i64 0) (b := .int .i64 ax) (c := .int .i64 ay) HT3.out
    refine bodyPost_ret (v := .agg #[.int .i64 0, .int .i64 ax, .int .i64 ay]) (by simp [results, Tryz.results7, go_sem, q0, q1, q2]) rfl ⟨rfl, ?_⟩
    exact ((HB3.out.setCell (Nat.le_succ _) _).setCell (Nat.le_succ _) _).setCell (Nat.le_succ _) _
  · have HK : Hid (anC C z (px (simpR C ki z n X Y L) 0) = 0 ∧ anC C z (py (simpR C ki z n X Y L) 0) = 0) := ⟨if_neg hC0, if_neg hC0⟩
    have hT1 := HT1.out
    have hcb : (C == 0) = false := by simpa using hC0
    have t0 := hT1.cell 0 (by omega)
    have t1 := hT1.cell 1 (by omega)
    have t2 := hT1.cell 2 (by omega)
    have f0 := (hT1 0 (by omega)).2
    have f1 := (hT1 1 (by omega)).2
    have f2 := (hT1 2 (by omega)).2
    clear hC0 hT1
    go_wp2_with fail
    rw [HK.out.1, HK.out.2]
    obtain ⟨q0, q1, q2⟩ := set3a (a := .int .i64 C) (b := .int .i64 0) (c := .int .i64 0) HT1.out
    refine bodyPost_ret (v := .agg #[.int .i64 C, .int .i64 0, .int .i64 0]) (by simp [results, Tryz.results7, go_sem, q0, q1, q2]) rfl ⟨rfl, ?_⟩
    exact ((HB1.out.setCell (Nat.le_succ _) _).setCell (Nat.le_succ _) _).setCell (Nat.le_succ _) _
end Go.Proofs.YtgpdpodagoligaaGreat
/- The anchor of a feature lies in a tile that the feature reaches. No program in sight. -/

namespace Go.Proofs.YtgpdpodagoligaaGreat
open Go.RowKit
set_option linter.unusedSimpArgs false
set_option linter.unusedVariables false
set_option maxRecDepth 100000

theorem mnTo_leA (X : Nat → Int) : ∀ n i, i < n → mnTo X n ≤ X i
  | 0, i, h => absurd h (by omega)
  | n + 1, i, h => by
    rw [mnTo]
    unfold mnI
    by_cases e : i = n
    · subst e; split <;> omega
    · have := mnTo_leA X n i (by omega)
      split <;> omega
theorem le_mxToA (X : Nat → Int) : ∀ n i, i < n → X i ≤ mxTo X n
  | 0, i, h => absurd h (by omega)
  | n + 1, i, h => by
    rw [mxTo]
    unfold mxI
    by_cases e : i = n
    · subst e; split <;> omega
    · have := le_mxToA X n i (by omega)
      split <;> omega
theorem meetB_true {a0 a1 a2 a3 b0 b1 b2 b3 : Int} (h0 : a0 ≤ b2) (h1 : b0 ≤ a2) (h2 : a1 ≤ b3) (h3 : b1 ≤ a3) : meetB a0 a1 a2 a3 b0 b1 b2 b3 = true := by simp [meetB, h0, h1, h2, h3]
theorem anc_one {z v mn mx wi : Int} (hz : zoomB z = true) (hv : 0 ≤ v ∧ v ≤ 1024) (hw : 0 ≤ wi ∧ wi ≤ 3) (h1 : mn ≤ 2 * v) (h2 : 2 * v ≤ mx) :
    (0 ≤ ancI z v ∧ ancI z v ≤ pixI z - 1) ∧ mn - reachI wi z ≤ centI z (ancI z v / 8 * 8 + 7) ∧ centI z (ancI z v / 8 * 8) ≤ mx + reachI wi z := by
  unfold ancI reachI centI
  rcases zoomB_cases hz with rfl | rfl | rfl | rfl
  · simp only [unitI, pixI, if_pos]
    omega
  · simp only [unitI, pixI, show ((1 : Int) = 0) = False by simp, if_false, if_pos]
    omega
  · simp only [unitI, pixI, show ((2 : Int) = 0) = False by simp, show ((2 : Int) = 1) = False by simp, if_false, if_pos]
    omega
  · simp only [unitI, pixI, show ((3 : Int) = 0) = False by simp, show ((3 : Int) = 1) = False by simp, show ((3 : Int) = 2) = False by simp, if_false]
    omega
theorem anchor_reach {z : Int} {f : Feat} (hf : okC f) (hz : zoomB z = true) :
    pixB z (ancI z (px (simL z f) 0)) (ancI z (py (simL z f) 0)) = true ∧ rchF z (ancI z (px (simL z f) 0) / 8) (ancI z (py (simL z f) 0) / 8) f = true := by
  obtain ⟨_, _, hW, h0⟩ := simL_facts hf hz
  have hin := hW.at 0
  have hwi := (featC_rng hf).2.2.1
  have hD0 := dblL_px (px (simL z f)) (py (simL z f)) (simL z f).length 0 h0
  have hDl := dblL_len (px (simL z f)) (py (simL z f)) (simL z f).length
  have m1 := mnTo_leA (px (dblR (simL z f))) (dblR (simL z f)).length 0 (by rw [hDl]; exact h0)
  have m2 := mnTo_leA (py (dblR (simL z f))) (dblR (simL z f)).length 0 (by rw [hDl]; exact h0)
  have m3 := le_mxToA (px (dblR (simL z f))) (dblR (simL z f)).length 0 (by rw [hDl]; exact h0)
  have m4 := le_mxToA (py (dblR (simL z f))) (dblR (simL z f)).length 0 (by rw [hDl]; exact h0)
  rw [hD0.1] at m1 m3
  rw [hD0.2] at m2 m4
  have hb : (0 ≤ px (simL z f) 0 ∧ px (simL z f) 0 ≤ 1024) ∧ (0 ≤ py (simL z f) 0 ∧ py (simL z f) 0 ≤ 1024) := by
    exact inW_bd hin
  obtain ⟨p1, p2, p3⟩ := anc_one hz hb.1 hwi m1 m3
  obtain ⟨q1, q2, q3⟩ := anc_one hz hb.2 hwi m2 m4
  refine ⟨?_, ?_⟩
  · simp [pixB, inB, hz]
    omega
  · unfold rchF rchB rb1 rb2 rb3 rb4
    have e0 : ∀ v : Int, zI 0 v = v := fun v => if_pos rfl
    simp only [e0]
    exact meetB_true p2 p3 q2 q3
end Go.Proofs.YtgpdpodagoligaaGreat
