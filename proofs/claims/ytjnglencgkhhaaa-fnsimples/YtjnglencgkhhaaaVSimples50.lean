/- FnSimples: the law out of what is called. -/
import Derived.Test.YtjnglencgkhhaaaVSimples43
import Derived.Test.YtjnglencgkhhaaaVSimples44
import Derived.Test.YtjnglencgkhhaaaVSimples49
import Derived.Deep.DeepCutAuto
namespace Go.Proofs.Ytjnglencgkhhaaa
open Go.RowKit
set_option linter.unusedSimpArgs false
set_option linter.unusedVariables false
set_option maxRecDepth 100000

set_option maxHeartbeats 1000000 in
theorem FnSimples_big (a : Option Addr) (n cap : Nat) (w : World) (h : 1048576 < n) : Calls Try.prog 4 #[.slice a n cap] w fun e w' => e = .returned (.bool true) ∧ Below w.heap.size w w' := by
  have hb : decide (1048576 < (n : Int)) = true := by simp; omega
  go_enter Try.func4, Try.ntmps4
  go_wp2_with (go_at_call 5; refine (lwBig_any _ _ _ _).mono ?_; rintro e w' ⟨rfl, rfl⟩)
  go_ret
  exact ⟨rfl, by (repeat (first | exact Below.refl _ _ | assumption | refine Below.drew ?_ | refine bl_alloc ?_ _ | refine bl_then ?_ (by assumption) | refine Below.setCell ?_ (by first | omega | (simp; done) | (simp; omega)) _ | refine bl_store ?_ ?_ _ _))⟩

set_option maxHeartbeats 8000000 in
theorem FnSimples_walk (a : Option Addr) (n cap : Nat) (Z : Nat → Int) (w : World) (h : IsBytes w a n Z ∧ (∀ i, 0 ≤ Z i ∧ Z i ≤ 255) ∧ n ≤ cap) :
    Calls Try.prog 4 #[.slice a n cap] w fun e w' => e = .returned (.bool true) ∧ Below w.heap.size w w' := by
  obtain ⟨hI, hR, hcap⟩ := h
  by_cases hbig : 1048576 < n
  · exact FnSimples_big a n cap w hbig
  have hn1 : n ≤ 1048576 := by omega
  have HI : Hid (IsBytes w a n Z) := hI
  have HR : Hid (∀ i, 0 ≤ Z i ∧ Z i ≤ 255) := hR
  have hn : decide (1048576 < (n : Int)) = false := by simp; omega
  clear hI hR hbig
  go_enter Try.func4, Try.ntmps4
  go_wp2_with fail
  refine (lwBig_any _ _ _ _).mono ?_
  rintro e w0 ⟨rfl, hw0⟩
  have hw0' := hw0.symm
  subst hw0'
  clear hw0
  go_wp2_with fail
  refine (DrawSimpleAt_any a n cap Z _ HI.out HR.out hn1 hcap).mono ?_
  rintro e w1 ⟨V1, id, la, ki, wi, b, off, m, c, X, Y, lab, pr, z, rfl, ⟨rfl, hm6, hmc, hbg, hbl, hP1, hlab⟩, hb1⟩
  have HP1 : Hid (PtsAt w1 b off m X Y) := hP1
  have HB1 : Hid (Below w.heap.size w w1) := hb1
  clear hP1 hb1
  obtain ⟨L, hL⟩ : ∃ L, 3 ≤ (snapL X Y z m).length → Thin (px (snapL X Y z m)) (py (snapL X Y z m)) (gridI z) 0 ((snapL X Y z m).length - 1) L := by
    by_cases h3 : 3 ≤ (snapL X Y z m).length
    · obtain ⟨L, hL⟩ := Thin.exists (px (snapL X Y z m)) (py (snapL X Y z m)) (gridI z) ((snapL X Y z m).length - 1) 0 ((snapL X Y z m).length - 1) (by omega) (by omega)
      exact ⟨L, fun _ => hL⟩
    · exact ⟨[], fun h => absurd h h3⟩
  have HL := (show Hid _ from hL)
  obtain ⟨C, hC⟩ : ∃ C, C = simpC z (featC id la ki wi m X Y lab pr) := ⟨_, rfl⟩
  have HC : Hid (C = simpC z (featC id la ki wi m X Y lab pr)) := hC
  clear hL hC
  go_wp2_with fail
  generalize hW : (w1.alloc _ : World) = W
  have hbW : Below w1.heap.size w1 W := by subst hW; (repeat (first | exact Below.refl _ _ | assumption | refine Below.drew ?_ | refine bl_alloc ?_ _ | refine bl_then ?_ (by assumption) | refine Below.setCell ?_ (by first | omega | (simp; done) | (simp; omega)) _ | refine bl_store ?_ ?_ _ _))
  have f0 : ∀ W', Below W.heap.size W W' → W'.cell? ⟨w1.heap.size, 0, none⟩ = some (.int .i64 id) := fun W' h => by
    rw [h.cell (by subst hW; simp)]; subst hW; simp [go_sem]
  have f1 : ∀ W', Below W.heap.size W W' → W'.cell? ⟨w1.heap.size, 1, none⟩ = some (.int .i64 la) := fun W' h => by
    rw [h.cell (by subst hW; simp)]; subst hW; simp [go_sem]
  have f2 : ∀ W', Below W.heap.size W W' → W'.cell? ⟨w1.heap.size, 2, none⟩ = some (.int .i64 ki) := fun W' h => by
    rw [h.cell (by subst hW; simp)]; subst hW; simp [go_sem]
  have f3 : ∀ W', Below W.heap.size W W' → W'.cell? ⟨w1.heap.size, 3, none⟩ = some (.int .i64 wi) := fun W' h => by
    rw [h.cell (by subst hW; simp)]; subst hW; simp [go_sem]
  have f4 : ∀ W', Below W.heap.size W W' → W'.cell? ⟨w1.heap.size, 4, none⟩ = some (.slice (some ⟨b, off, none⟩) m c) := fun W' h => by
    rw [h.cell (by subst hW; simp)]; subst hW; simp [go_sem]
  have f5 : ∀ W', Below W.heap.size W W' → W'.cell? ⟨w1.heap.size, 5, none⟩ = some (.string lab) := fun W' h => by
    rw [h.cell (by subst hW; simp)]; subst hW; simp [go_sem]
  have f6 : ∀ W', Below W.heap.size W W' → W'.cell? ⟨w1.heap.size, 6, none⟩ = some (.int .i64 pr) := fun W' h => by
    rw [h.cell (by subst hW; simp)]; subst hW; simp [go_sem]
  clear hW
  have HBW : Hid (Below w.heap.size w W) := bl_then HB1.out hbW
  have HPW : Hid (PtsAt W b off m X Y) := HP1.out.below hbW hbl
  have hblW : b < W.heap.size := Nat.lt_of_lt_of_le hbl hbW.size
  clear hbW
  have i0 : ∀ (C : Int) a c w, (Instr.field 37 (.agg #[.int .i64 C, .int .i64 0, .int .i64 0, .int .i64 0, .int .i64 0, .slice a 0 c, .string ⟨#[]⟩, .int .i64 0]) 0).run Try.prog w = .ok (.int .i64 C) w := fun _ _ _ _ => by kernel_rfl
  by_cases hC0 : C = 0
  · subst hC0
    have hz : zoomB z = true := by
      have := HC.out
      unfold simpC at this
      split at this
      · assumption
      · omega
    have hfc : featC id la ki wi m X Y lab pr = 0 := by
      have := HC.out
      unfold simpC at this
      rw [if_pos hz] at this
      exact this.symm
    obtain ⟨hkn, hR12, hall⟩ := simpR_facts hfc hz HL.out
    obtain ⟨hk3, hm0, hm12, hkm, hin, _⟩ := featC_zero hfc
    have hR0 : 0 < (simpR 0 ki z m X Y L).length := by rcases hkn with ⟨_, h⟩ | ⟨_, h⟩ | ⟨_, h⟩ <;> omega
    have hRm := simpR_le hfc HL.out
    obtain ⟨hx0, hy0⟩ := simpR_head ki z m X Y L hm0 HL.out
    have hfg : featC id la ki wi (simpR 0 ki z m X Y L).length (px (simpR 0 ki z m X Y L)) (py (simpR 0 ki z m X Y L)) lab pr = 0 := featC_again hfc hkn hR12 (fun i => hall.at i)
    have Hi : Hid (∀ W', PtsAt W' b off m X Y → b < W'.heap.size → Calls Try.prog 12 #[.agg #[.int .i64 id, .int .i64 la, .int .i64 ki, .int .i64 wi, .slice (some ⟨b, off, none⟩) m c, .string lab, .int .i64 pr], .int .i64 z] W' fun e w' => ∃ g cg, e = .returned (.agg #[.int .i64 0, .int .i64 id, .int .i64 la, .int .i64 ki, .int .i64 wi, .slice (some ⟨g, 0, none⟩) (simpR 0 ki z m X Y L).length cg, .string lab, .int .i64 pr]) ∧ g < w'.heap.size ∧ (simpR 0 ki z m X Y L).length ≤ cg ∧ PtsAt w' g 0 (simpR 0 ki z m X Y L).length (px (simpR 0 ki z m X Y L)) (py (simpR 0 ki z m X Y L)) ∧ Below W'.heap.size W' w') := fun W' h1 h2 => simple_ok id la ki wi z b m c X Y lab pr L W' h1 h2 (by omega) hmc (by omega) HL.out HC.out hR0
    have Hs : Hid (∀ W', PtsAt W' b off m X Y → b < W'.heap.size → Calls Try.prog 13 #[.agg #[.int .i64 id, .int .i64 la, .int .i64 ki, .int .i64 wi, .slice (some ⟨b, off, none⟩) m c, .string lab, .int .i64 pr], .int .i64 z] W' fun e w' => ∃ g cg, e = .returned (.agg #[.int .i64 0, .int .i64 id, .int .i64 la, .int .i64 ki, .int .i64 wi, .slice (some ⟨g, 0, none⟩) (simpR 0 ki z m X Y L).length cg, .string lab, .int .i64 pr]) ∧ g < w'.heap.size ∧ (simpR 0 ki z m X Y L).length ≤ cg ∧ PtsAt w' g 0 (simpR 0 ki z m X Y L).length (px (simpR 0 ki z m X Y L)) (py (simpR 0 ki z m X Y L)) ∧ Below W'.heap.size W' w') := fun W' h1 h2 => simpS_ok id la ki wi z b m c X Y lab pr L W' h1 h2 (by omega) hmc (by omega) HL.out HC.out hR0
    have HSP : Hid (∀ W', Calls Try.prog 15 #[.agg #[.int .i64 (X 0), .int .i64 (Y 0)], .int .i64 z] W' fun e w' => e = .returned (.agg #[.int .i64 0, .int .i64 (px (simpR 0 ki z m X Y L) 0), .int .i64 (py (simpR 0 ki z m X Y L) 0)]) ∧ Below W'.heap.size W' w') := fun W' => by
      have hv2 : snapV (X 0) (Y 0) z = .agg #[.int .i64 0, .int .i64 (px (simpR 0 ki z m X Y L) 0), .int .i64 (py (simpR 0 ki z m X Y L) 0)] := by simp [snapV, hz, hin 0 hm0, hx0, hy0]
      rw [← hv2]
      exact impl_SnapPoint_any _ _ _ _
    have HAL : Hid (allW (simpR 0 ki z m X Y L)) := hall
    generalize simpR 0 ki z m X Y L = R at *
    obtain ⟨L', hL'⟩ : ∃ L', 3 ≤ (snapL (px R) (py R) z R.length).length → Thin (px (snapL (px R) (py R) z R.length)) (py (snapL (px R) (py R) z R.length)) (gridI z) 0 ((snapL (px R) (py R) z R.length).length - 1) L' := by
      by_cases h3 : 3 ≤ (snapL (px R) (py R) z R.length).length
      · obtain ⟨L', hL'⟩ := Thin.exists (px (snapL (px R) (py R) z R.length)) (py (snapL (px R) (py R) z R.length)) (gridI z) ((snapL (px R) (py R) z R.length).length - 1) 0 ((snapL (px R) (py R) z R.length).length - 1) (by omega) (by omega)
        exact ⟨L', fun _ => hL'⟩
      · exact ⟨[], fun h => absurd h h3⟩
    have Hb : Hid (∀ g cg W', PtsAt W' g 0 R.length (px R) (py R) → g < W'.heap.size → R.length ≤ cg → Calls Try.prog 12 #[.agg #[.int .i64 id, .int .i64 la, .int .i64 ki, .int .i64 wi, .slice (some ⟨g, 0, none⟩) R.length cg, .string lab, .int .i64 pr], .int .i64 z] W' fun e w' => ∃ a2 n2 c2, e = .returned (.agg #[.int .i64 0, .int .i64 id, .int .i64 la, .int .i64 ki, .int .i64 wi, .slice a2 n2 c2, .string lab, .int .i64 pr]) ∧ Below W'.heap.size W' w') := fun g cg W' h1 h2 h3 =>
      (impl_SimpleAt_any id la ki wi z g R.length cg (px R) (py R) lab pr L' W' h1 h2 (by omega) h3 (by omega) hL' 0 (by rw [hfg]; simp [simpC, hz])).mono fun e w' ⟨v, he, hr, hb⟩ => by
        obtain ⟨a2, c2, hv, _⟩ := hr.own
        exact ⟨a2, (simpR 0 ki z R.length (px R) (py R) L').length, c2, by rw [he, hv]; simp [zI, zS], hb⟩
    have HFF : Hid (∀ g cg W', PtsAt W' g 0 R.length (px R) (py R) → g < W'.heap.size → Calls Try.prog 14 #[.agg #[.int .i64 id, .int .i64 la, .int .i64 ki, .int .i64 wi, .slice (some ⟨g, 0, none⟩) R.length cg, .string lab, .int .i64 pr]] W' fun e w' => e = .returned (.int .i64 0) ∧ Below W'.heap.size W' w') := fun g cg W' h1 h2 => by
      have := FeatureFault_any id la ki wi _ R.length cg (px R) (py R) lab pr W' (.inr ⟨g, 0, rfl, h2, h1⟩) (by omega) (by omega)
      rw [hfg] at this
      exact this
    clear hfc hfg hall hkn hL' HC HL hk3 hin hx0 hy0 i0
    generalize hRN : R.length = N at *
    refine (Hi.out W HPW.out hblW).mono ?_
    rintro e w2 ⟨g, cg, rfl, hgl, hcg, hPg, hb2⟩
    have hB2 : Below W.heap.size W w2 := hb2
    have hl2 : w1.heap.size < w2.heap.size := World.block_lt_of_cell? _ _ (f0 w2 hB2)
    have HPg : Hid (PtsAt w2 g 0 N (px R) (py R)) := hPg
    clear hb2 hPg Hi
    go_wp2_with fail
    generalize hV : ((w2.alloc _).alloc _ : World) = V
    have hbV : Below w2.heap.size w2 V := by subst hV; (repeat (first | exact Below.refl _ _ | assumption | refine Below.drew ?_ | refine bl_alloc ?_ _ | refine bl_then ?_ (by assumption) | refine Below.setCell ?_ (by first | omega | (simp; done) | (simp; omega)) _ | refine bl_store ?_ ?_ _ _))
    have e0 : ∀ W', Below V.heap.size V W' → W'.cell? ⟨w2.heap.size + 1, 0, none⟩ = some (.int .i64 id) := fun W' h => by
      rw [h.cell (by subst hV; simp)]; subst hV; simp [go_sem]
    have e1 : ∀ W', Below V.heap.size V W' → W'.cell? ⟨w2.heap.size + 1, 1, none⟩ = some (.int .i64 la) := fun W' h => by
      rw [h.cell (by subst hV; simp)]; subst hV; simp [go_sem]
    have e2 : ∀ W', Below V.heap.size V W' → W'.cell? ⟨w2.heap.size + 1, 2, none⟩ = some (.int .i64 ki) := fun W' h => by
      rw [h.cell (by subst hV; simp)]; subst hV; simp [go_sem]
    have e3 : ∀ W', Below V.heap.size V W' → W'.cell? ⟨w2.heap.size + 1, 3, none⟩ = some (.int .i64 wi) := fun W' h => by
      rw [h.cell (by subst hV; simp)]; subst hV; simp [go_sem]
    have e4 : ∀ W', Below V.heap.size V W' → W'.cell? ⟨w2.heap.size + 1, 4, none⟩ = some (.slice (some ⟨g, 0, none⟩) N cg) := fun W' h => by
      rw [h.cell (by subst hV; simp)]; subst hV; simp [go_sem]
    have e5 : ∀ W', Below V.heap.size V W' → W'.cell? ⟨w2.heap.size + 1, 5, none⟩ = some (.string lab) := fun W' h => by
      rw [h.cell (by subst hV; simp)]; subst hV; simp [go_sem]
    have e6 : ∀ W', Below V.heap.size V W' → W'.cell? ⟨w2.heap.size + 1, 6, none⟩ = some (.int .i64 pr) := fun W' h => by
      rw [h.cell (by subst hV; simp)]; subst hV; simp [go_sem]
    clear hV
    have HPV : Hid (PtsAt V g 0 N (px R) (py R)) := HPg.out.below hbV hgl
    have hglV : g < V.heap.size := Nat.lt_of_lt_of_le hgl hbV.size
    have HBV : Hid (Below W.heap.size W V) := bl_then hB2 hbV
    clear hbV HPg
    refine (Hb.out g cg V HPV.out hglV hcg).mono ?_
    rintro e w3 ⟨a3, n3, c3, rfl, hb3⟩
    have hle3 : w2.heap.size + 1 < w3.heap.size := World.block_lt_of_cell? _ _ (e0 w3 hb3)
    have hle1 : w1.heap.size < w3.heap.size := by omega
    have HB3 : Hid (Below V.heap.size V w3) := hb3
    clear hb3
    go_wp2_with fail
    generalize hU : (w3.alloc _ : World) = U
    have hbU : Below w3.heap.size w3 U := by subst hU; (repeat (first | exact Below.refl _ _ | assumption | refine Below.drew ?_ | refine bl_alloc ?_ _ | refine bl_then ?_ (by assumption) | refine Below.setCell ?_ (by first | omega | (simp; done) | (simp; omega)) _ | refine bl_store ?_ ?_ _ _))
    have u0 : ∀ W', Below U.heap.size U W' → W'.cell? ⟨w3.heap.size, 0, none⟩ = some (.int .i64 0) := fun W' h => by
      rw [h.cell (by subst hU; simp)]; subst hU; simp [go_sem]
    clear hU
    have HBU : Hid (Below V.heap.size V U) := bl_then HB3.out hbU
    have HBWU : Hid (Below W.heap.size W U) := bl_then HBV.out HBU.out
    replace e0 := fun W' (h : Below U.heap.size U W') => e0 W' (bl_then HBU.out h)
    replace e1 := fun W' (h : Below U.heap.size U W') => e1 W' (bl_then HBU.out h)
    replace e2 := fun W' (h : Below U.heap.size U W') => e2 W' (bl_then HBU.out h)
    replace e3 := fun W' (h : Below U.heap.size U W') => e3 W' (bl_then HBU.out h)
    replace e4 := fun W' (h : Below U.heap.size U W') => e4 W' (bl_then HBU.out h)
    replace e5 := fun W' (h : Below U.heap.size U W') => e5 W' (bl_then HBU.out h)
    replace e6 := fun W' (h : Below U.heap.size U W') => e6 W' (bl_then HBU.out h)
    replace f0 := fun W' (h : Below U.heap.size U W') => f0 W' (bl_then HBWU.out h)
    replace f1 := fun W' (h : Below U.heap.size U W') => f1 W' (bl_then HBWU.out h)
    replace f2 := fun W' (h : Below U.heap.size U W') => f2 W' (bl_then HBWU.out h)
    replace f3 := fun W' (h : Below U.heap.size U W') => f3 W' (bl_then HBWU.out h)
    replace f4 := fun W' (h : Below U.heap.size U W') => f4 W' (bl_then HBWU.out h)
    replace f5 := fun W' (h : Below U.heap.size U W') => f5 W' (bl_then HBWU.out h)
    replace f6 := fun W' (h : Below U.heap.size U W') => f6 W' (bl_then HBWU.out h)
    have hglU : g < U.heap.size := Nat.lt_of_lt_of_le hglV HBU.out.size
    have hblU : b < U.heap.size := Nat.lt_of_lt_of_le hblW HBWU.out.size
    have HPU : Hid (PtsAt U g 0 N (px R) (py R)) := HPV.out.below HBU.out hglV
    have HQU : Hid (PtsAt U b off m X Y) := HPW.out.below HBWU.out hblW
    have k0 : ∀ W', Below U.heap.size U W' → W'.cell? ⟨g, 0, none⟩ = some (.int .i64 (px R 0)) := fun W' h => by simpa using (HPU.out.below h hglU 0 hR0).1
    have k1 : ∀ W', Below U.heap.size U W' → W'.cell? ⟨g, 1, none⟩ = some (.int .i64 (py R 0)) := fun W' h => by simpa using (HPU.out.below h hglU 0 hR0).2
    have k2 : ∀ W', Below U.heap.size U W' → W'.cell? ⟨b, off, none⟩ = some (.int .i64 (X 0)) := fun W' h => by simpa using (HQU.out.below h hblU 0 hm0).1
    have k3 : ∀ W', Below U.heap.size U W' → W'.cell? ⟨b, off + 1, none⟩ = some (.int .i64 (Y 0)) := fun W' h => by simpa using (HQU.out.below h hblU 0 hm0).2
    have j1 : ∀ w, (Instr.field 43 (.agg #[.int .i64 0, .int .i64 (px R 0), .int .i64 (py R 0)]) 1).run Try.prog w = .ok (.agg #[.int .i64 (px R 0), .int .i64 (py R 0)]) w := fun _ => by kernel_rfl
    have j2 : ∀ g' c' w, (Instr.field 37 (.agg #[.int .i64 0, .int .i64 id, .int .i64 la, .int .i64 ki, .int .i64 wi, .slice (some ⟨g', 0, none⟩) N c', .string lab, .int .i64 pr]) 1).run Try.prog w = .ok (.agg #[.int .i64 id, .int .i64 la, .int .i64 ki, .int .i64 wi, .slice (some ⟨g', 0, none⟩) N c', .string lab, .int .i64 pr]) w := fun _ _ _ => by kernel_rfl
    have hNi : (0 : Int) < (N : Int) := by omega
    have hmi : (0 : Int) < (m : Int) := by omega
    have hwm : IntKind.i64.wrap ((m : Int) + 2) = (m : Int) + 2 := IntWalk.i64_in _ (by omega)
    have hNm : decide ((N : Int) ≤ (m : Int) + 2) = true := by simp; omega
    have hNm1 : (N : Int) ≤ (m : Int) + 2 := by omega
    have hNm2 : N ≤ m + 2 := by omega
    have hlb : (lab == lab) = true := lab_self lab
    have hlc : (lab.toList == lab.toList) = true := lab_selfL lab
    have hr0 : Below U.heap.size U U := Below.refl _ _
    have hN20 : N ≤ 1048576 := by omega
    have hl20 : lab.size ≤ 1048576 := by omega
    clear HPV HB3 HBV HPW hbU hB2 HP1
    simp only [List.append_eq, List.cons_append, List.nil_append]
    go_region_held3 (fun W' => Below U.heap.size U W') ((repeat (first | exact Below.refl _ _ | assumption | refine Below.drew ?_ | refine bl_alloc ?_ _ | refine bl_then ?_ (by assumption) | refine Below.setCell ?_ (by first | omega | (simp; done) | (simp; omega)) _ | refine bl_store ?_ ?_ _ _)))
      (first
        | (go_at_call 14; refine (HFF.out g cg _ (HPU.out.below (by assumption) hglU) (Nat.lt_of_lt_of_le hglU (Below.size (by assumption)))).mono ?_; rintro e w4 ⟨rfl, hb4⟩)
        | (go_at_call 15; refine (HSP.out _).mono ?_; rintro e w5 ⟨rfl, hb5⟩)
        | (go_at_call 13; refine (Hs.out _ (HQU.out.below (by (repeat (first | exact Below.refl _ _ | assumption | refine Below.drew ?_ | refine bl_alloc ?_ _ | refine bl_then ?_ (by assumption) | refine Below.setCell ?_ (by first | omega | (simp; done) | (simp; omega)) _ | refine bl_store ?_ ?_ _ _))) hblU) (Nat.lt_of_lt_of_le hblU (Below.size (B := U.heap.size) (w := U) (by (repeat (first | exact Below.refl _ _ | assumption | refine Below.drew ?_ | refine bl_alloc ?_ _ | refine bl_then ?_ (by assumption) | refine Below.setCell ?_ (by first | omega | (simp; done) | (simp; omega)) _ | refine bl_store ?_ ?_ _ _)))))).mono ?_; rintro e w6 ⟨g6, c6, rfl, hgl6, hcg6, hPg6, hb6⟩)
        | (go_at_call 10; first
            | (refine (same_A U w5 w6 g cg g6 c6 N id la ki wi (px R) (py R) lab pr HPU.out hglU (by (repeat (first | exact Below.refl _ _ | assumption | refine Below.drew ?_ | refine bl_alloc ?_ _ | refine bl_then ?_ (by assumption) | refine Below.setCell ?_ (by first | omega | (simp; done) | (simp; omega)) _ | refine bl_store ?_ ?_ _ _))) hb6 hPg6 hgl6 hN20 hl20).mono ?_; rintro e w7 ⟨rfl, hb7⟩)
            | (refine (same_B U w6 g cg g6 c6 N id la ki wi (px R) (py R) lab pr HPU.out hglU (by (repeat (first | exact Below.refl _ _ | assumption | refine Below.drew ?_ | refine bl_alloc ?_ _ | refine bl_then ?_ (by assumption) | refine Below.setCell ?_ (by first | omega | (simp; done) | (simp; omega)) _ | refine bl_store ?_ ?_ _ _))) hPg6 hgl6 hN20 hl20).mono ?_; rintro e w7 ⟨rfl, hb7⟩)
            | (refine (same_C U w6 g cg g6 c6 N id la ki wi (px R) (py R) lab pr HPU.out hglU (by (repeat (first | exact Below.refl _ _ | assumption | refine Below.drew ?_ | refine bl_alloc ?_ _ | refine bl_then ?_ (by assumption) | refine Below.setCell ?_ (by first | omega | (simp; done) | (simp; omega)) _ | refine bl_store ?_ ?_ _ _))) hPg6 hgl6 hN20 hl20).mono ?_; rintro e w7 ⟨rfl, hb7⟩)
            | fail "same"))
    all_goals
      go_wp2_with fail
      go_ret
      exact ⟨rfl, bl_then HBW.out (bl_then HBWU.out (by assumption))⟩
  · have hcb : (C != 0) = true := by simpa using hC0
    refine (simple_no id la ki wi z b m c X Y lab pr L W HPW.out hblW (by omega) hmc (by omega) HL.out C HC.out hC0).mono ?_
    rintro e w2 ⟨a2, c2, rfl, hb2⟩
    have hB2 : Below W.heap.size W w2 := hb2
    have hl2 : w1.heap.size < w2.heap.size := World.block_lt_of_cell? _ _ (f0 w2 hB2)
    clear hb2
    go_wp2_with fail
    generalize hV : (w2.alloc _ : World) = V
    have hbV : Below w2.heap.size w2 V := by subst hV; (repeat (first | exact Below.refl _ _ | assumption | refine Below.drew ?_ | refine bl_alloc ?_ _ | refine bl_then ?_ (by assumption) | refine Below.setCell ?_ (by first | omega | (simp; done) | (simp; omega)) _ | refine bl_store ?_ ?_ _ _))
    have g0 : ∀ W', Below V.heap.size V W' → W'.cell? ⟨w2.heap.size, 0, none⟩ = some (.int .i64 C) := fun W' h => by
      rw [h.cell (by subst hV; simp)]; subst hV; simp [go_sem]
    clear hV
    have HBV : Hid (Below W.heap.size W V) := bl_then hB2 hbV
    replace f0 := fun W' (h : Below V.heap.size V W') => f0 W' (bl_then HBV.out h)
    replace f1 := fun W' (h : Below V.heap.size V W') => f1 W' (bl_then HBV.out h)
    replace f2 := fun W' (h : Below V.heap.size V W') => f2 W' (bl_then HBV.out h)
    replace f3 := fun W' (h : Below V.heap.size V W') => f3 W' (bl_then HBV.out h)
    replace f4 := fun W' (h : Below V.heap.size V W') => f4 W' (bl_then HBV.out h)
    replace f5 := fun W' (h : Below V.heap.size V W') => f5 W' (bl_then HBV.out h)
    replace f6 := fun W' (h : Below V.heap.size V W') => f6 W' (bl_then HBV.out h)
    have hr0 : Below V.heap.size V V := Below.refl _ _
    go_region_held3 (fun W' => Below V.heap.size V W') ((repeat (first | exact Below.refl _ _ | assumption | refine Below.drew ?_ | refine bl_alloc ?_ _ | refine bl_then ?_ (by assumption) | refine Below.setCell ?_ (by first | omega | (simp; done) | (simp; omega)) _ | refine bl_store ?_ ?_ _ _)))
      (first | (go_at_call 13; refine (simpS_no id la ki wi z b m c X Y lab pr L _ (HPW.out.below (bl_then HBV.out (by assumption)) hblW) (Nat.lt_of_lt_of_le hblW (Below.size (bl_then HBV.out (by assumption)))) (by omega) hmc (by omega) HL.out C HC.out hC0).mono ?_; rintro e w3 ⟨a3, c3, rfl, hb3⟩))
    go_wp2_with fail
    go_ret
    exact ⟨rfl, bl_then HBW.out (bl_then HBV.out (by assumption))⟩
end Go.Proofs.Ytjnglencgkhhaaa
