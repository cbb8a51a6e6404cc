/- Several texts in one. -/
import Derived.Test.YtnlmndlchobfeaaVDoesCover43
import Derived.Test.YtnlmndlchobfeaaVDoesCover36

/- DoesCover of the model. -/

namespace Go.Proofs.Ytnlmndlchobfeaa
open Go.RowKit
set_option linter.unusedSimpArgs false
set_option linter.unusedVariables false
set_option maxRecDepth 100000

set_option maxHeartbeats 4000000 in
theorem l4Covers_any {off : Nat} (q : Nat) (id la ki wi z x y : Int) (b n cap : Nat) (X Y : Nat → Int) (lab : ByteArray) (pr : Int) (L : List Nat) (w : World) (hf : FeatAt w q 0 id la ki wi (.slice (some ⟨b, off, none⟩) n cap) lab pr) (hp : PtsAt w b off n X Y) (hbl : b < w.heap.size) (hfc : featC id la ki wi n X Y lab pr = 0) (hpx : pixB z x y = true)
    (hL : 3 ≤ (snapL X Y z n).length → Thin (px (snapL X Y z n)) (py (snapL X Y z n)) (gridI z) 0 ((snapL X Y z n).length - 1) L) :
    Calls Try.prog 13 #[.pointer (some ⟨q, 0, none⟩), .int .i64 z, .int .i64 x, .int .i64 y] w fun e w' => e = .returned (.bool (dcB 0 ki wi z x y (simpR 0 ki z n X Y L))) ∧ Below w.heap.size w w' := by
  have hz := pixB_zoom hpx
  obtain ⟨hk3, hn0, hn12, hkn', hin, _⟩ := featC_zero hfc
  obtain ⟨hkn, hR12, hall⟩ := simpR_facts hfc hz hL
  have hwr := (featC_rng hfc).2.2.1
  have Hs := (show Hid _ from l3Simple_any q id la ki wi z b n cap X Y lab pr L w hf hp hbl hz hk3 hn0 hn12 hin hL)
  have hR0 : 0 < (simpR 0 ki z n X Y L).length := by rcases hkn with ⟨_, h⟩ | ⟨_, h⟩ | ⟨_, h⟩ <;> omega
  have HR : Hid (simpR 0 ki z n X Y L = fillL ki.toNat (simpT ki z n X Y L)) := by show _ = _; rw [simpR, if_pos rfl]
  rw [← HR.out] at Hs
  have HAL : Hid (allW (simpR 0 ki z n X Y L)) := hall
  have HPX : Hid (pixB z x y = true) := hpx
  have HK : Hid (dcB 0 ki wi z x y (simpR 0 ki z n X Y L) = coverB ki wi z (centI z x) (centI z y) (dblL (px (simpR 0 ki z n X Y L)) (py (simpR 0 ki z n X Y L)) (simpR 0 ki z n X Y L).length)) := by show _ = _; simp [dcB, hpx]
  generalize simpR 0 ki z n X Y L = R at *
  clear hall hf hp hfc hL hin HR hpx
  go_enter Try.func13, Try.ntmps13
  go_wp2_with fail
  refine Calls.mono Hs.out ?_
  rintro e w1 ⟨v, rfl, hR, hb1⟩
  obtain ⟨g, cg, hv, _, hgl, hcg, hPg⟩ := hR.at hR0
  subst hv
  have HPg : Hid (PtsAt w1 g 0 R.length (px R) (py R)) := hPg
  clear hPg hR Hs
  generalize hRn : R.length = N at *
  go_wp2_with fail
  generalize hV : (w1.alloc _ : World) = V
  have hbV : Below w1.heap.size w1 V := by subst hV; (repeat (first | exact Below.refl _ _ | assumption | refine Below.drew ?_ | refine bl_alloc ?_ _ | refine bl_then ?_ (by assumption) | refine Below.setCell ?_ (by first | omega | (simp; done) | (simp; omega)) _ | refine bl_store ?_ ?_ _ _))
  have hFV : FeatAt V w1.heap.size 0 id la ki wi (.slice (some ⟨g, 0, none⟩) N cg) lab pr := by
    subst hV
    refine ⟨?_, ?_, ?_, ?_, ?_, ?_, ?_⟩ <;> simp [go_sem]
  clear hV
  refine (l4Simple_any w1.heap.size 0 id la ki wi z x y g 0 N cg (px R) (py R) lab pr V hFV (HPg.out.below hbV hgl) (Nat.lt_of_lt_of_le hgl hbV.size) (by omega) hkn (fun i _ => HAL.out.at i) hwr HPX.out).mono ?_
  rintro e w2 ⟨rfl, hb2⟩
  go_wp2_with fail
  go_ret
  exact ⟨ret_bool HK.out.symm, bl_then hb1 (bl_then hbV hb2)⟩
set_option maxHeartbeats 4000000 in
theorem spec_DoesCover_any {off : Nat} (id la ki wi z x y : Int) (b n cap : Nat) (X Y : Nat → Int) (lab : ByteArray) (pr : Int) (L : List Nat) (w : World) (hp : PtsAt w b off n X Y) (hbl : b < w.heap.size) (hn : n ≤ 1048576) (hl : lab.size ≤ 1048576)
    (hL : 3 ≤ (snapL X Y z n).length → Thin (px (snapL X Y z n)) (py (snapL X Y z n)) (gridI z) 0 ((snapL X Y z n).length - 1) L) (C : Int) (hC : C = simpC z (featC id la ki wi n X Y lab pr)) :
    Calls Try.prog 5 #[.agg #[.int .i64 id, .int .i64 la, .int .i64 ki, .int .i64 wi, .slice (some ⟨b, off, none⟩) n cap, .string lab, .int .i64 pr], .int .i64 z, .int .i64 x, .int .i64 y] w fun e w' => e = .returned (.bool (dcB C ki wi z x y (simpR C ki z n X Y L))) ∧ Below w.heap.size w w' := by
  have HP : Hid (PtsAt w b off n X Y) := hp
  have HL := (show Hid _ from hL)
  clear hp hL
  go_enter Try.func5, Try.ntmps5
  go_wp2_with fail
  generalize hW : (w.alloc _ : World) = W
  have hB0 : Below w.heap.size w W := by subst hW; (repeat (first | exact Below.refl _ _ | assumption | refine Below.drew ?_ | refine bl_alloc ?_ _ | refine bl_then ?_ (by assumption) | refine Below.setCell ?_ (by first | omega | (simp; done) | (simp; omega)) _ | refine bl_store ?_ ?_ _ _))
  have HFW : Hid (FeatAt W w.heap.size 0 id la ki wi (.slice (some ⟨b, off, none⟩) n cap) lab pr) := by
    show FeatAt _ _ _ _ _ _ _ _ _ _
    subst hW
    refine ⟨?_, ?_, ?_, ?_, ?_, ?_, ?_⟩ <;> simp [go_sem]
  have hlW : w.heap.size < W.heap.size := by subst hW; simp
  clear hW
  have HB0 : Hid (Below w.heap.size w W) := hB0
  have HPW : Hid (PtsAt W b off n X Y) := HP.out.below hB0 hbl
  have hblW : b < W.heap.size := Nat.lt_of_lt_of_le hbl hB0.size
  clear hB0
  refine (l3Zoom_any _ _).mono ?_
  rintro e w1 ⟨rfl, rfl⟩
  cases hz : zoomB z
  · have HK : Hid (dcB C ki wi z x y (simpR C ki z n X Y L) = false) := by show _ = _; simp [dcB, pixB, hz]
    go_wp2_with fail
    go_ret
    exact ⟨ret_bool HK.out.symm, HB0.out⟩
  · have hC' : C = featC id la ki wi n X Y lab pr := by rw [hC]; simp [simpC, hz]
    go_wp2_with fail
    refine (l2Fault_any w.heap.size 0 id la ki wi _ n cap X Y lab pr W HFW.out (.inr ⟨b, off, rfl, hblW, HPW.out⟩) hl hn).mono ?_
    rintro e w2 ⟨rfl, hb2⟩
    rw [← hC']
    have HF2 : Hid (FeatAt w2 w.heap.size 0 id la ki wi (.slice (some ⟨b, off, none⟩) n cap) lab pr) := HFW.out.below hb2 hlW
    have HP2 : Hid (PtsAt w2 b off n X Y) := HPW.out.below hb2 hblW
    have hbl2 : b < w2.heap.size := Nat.lt_of_lt_of_le hblW hb2.size
    have HB2 : Hid (Below w.heap.size w w2) := bl_then HB0.out hb2
    clear hb2
    by_cases hC0 : C = 0
    · subst hC0
      have HFC : Hid (featC id la ki wi n X Y lab pr = 0) := hC'.symm
      clear hC hC'
      cases hpx : pixB z x y
      · have HK : Hid (dcB 0 ki wi z x y (simpR 0 ki z n X Y L) = false) := by show _ = _; simp [dcB, hpx]
        go_wp2_with (go_at_call 12; refine (l4Pixel_any _ _ _ _ hz).mono ?_; rintro e w3 ⟨rfl, rfl⟩)
        go_ret
        exact ⟨ret_bool HK.out.symm, HB2.out⟩
      · have HPX : Hid (pixB z x y = true) := hpx
        go_wp2_with (first
          | (go_at_call 12; refine (l4Pixel_any _ _ _ _ hz).mono ?_; rintro e w3 ⟨rfl, rfl⟩)
          | (go_at_call 13; refine (l4Covers_any w.heap.size id la ki wi z x y b n cap X Y lab pr L _ HF2.out HP2.out hbl2 HFC.out HPX.out HL.out).mono ?_; rintro e w4 ⟨rfl, hb4⟩))
        go_ret
        exact ⟨rfl, bl_then HB2.out hb4⟩
    · have HK : Hid (dcB C ki wi z x y (simpR C ki z n X Y L) = false) := by show _ = _; simp [dcB, hC0]
      have hcb : (C == 0) = false := by simpa using hC0
      clear hC hC'
      go_wp2_with fail
      go_ret
      exact ⟨ret_bool HK.out.symm, HB2.out⟩
end Go.Proofs.Ytnlmndlchobfeaa
/- The law of DoesCover: its steps. -/

namespace Go.Proofs.Ytnlmndlchobfeaa
open Go.RowKit
set_option linter.unusedSimpArgs false
set_option linter.unusedVariables false
set_option maxRecDepth 100000

set_option maxHeartbeats 8000000 in
theorem FnExactDoesCover_law (r : Bool) (id la ki wi : Int) (a : Option Addr) (n cap : Nat) (X Y : Nat → Int) (lab : ByteArray) (pr : Int) (z : Int) (x : Int) (y : Int) (w : World) (hpt : IsPts w a n X Y) (hn : n ≤ 1048576) (hl : n + lab.size ≤ 1048576) (hs : (∀ (b : Nat) (w : World), PtsAt w b 0 n X Y → b < w.heap.size → Calls Try.prog 5 #[.agg #[.int .i64 id, .int .i64 la, .int .i64 ki, .int .i64 wi, .slice (some ⟨b, 0, none⟩) n n, .string lab, .int .i64 pr], .int .i64 z, .int .i64 x, .int .i64 y] w fun e w' => e = .returned (.bool r) ∧ Below w.heap.size w w')) (hi : (∀ (b : Nat) (w : World), PtsAt w b 0 n X Y → b < w.heap.size → Calls Try.prog 7 #[.agg #[.int .i64 id, .int .i64 la, .int .i64 ki, .int .i64 wi, .slice (some ⟨b, 0, none⟩) n n, .string lab, .int .i64 pr], .int .i64 z, .int .i64 x, .int .i64 y] w fun e w' => e = .returned (.bool r) ∧ Below w.heap.size w w')) :
    Calls Try.prog 3 #[.agg #[.int .i64 id, .int .i64 la, .int .i64 ki, .int .i64 wi, .slice a n cap, .string lab, .int .i64 pr], .int .i64 z, .int .i64 x, .int .i64 y] w fun e w' => e = .returned (.bool true) ∧ Below w.heap.size w w' := by
  have HI : Hid (IsPts w a n X Y) := hpt
  have HM : Hid (n ≤ maxLen ∧ lab.size ≤ maxLen) := by show _ ∧ _; unfold maxLen; omega
  have Hs := (show Hid _ from hs)
  have Hi := (show Hid _ from hi)
  clear hpt hs hi
  have hz : szF 1048576 n lab.size = 1048576 - (n : Int) - (lab.size : Int) := by unfold szF; rw [if_neg (by omega)]; rfl
  have hneg : ¬ (1048576 : Int) - (n : Int) - (lab.size : Int) < 0 := by omega
  go_enter Try.func3, Try.ntmps3
  go_wp2_with fail
  generalize hW : (w.alloc _ : World) = W
  have hB0 : Below w.heap.size w W := by subst hW; (repeat (first | exact Below.refl _ _ | assumption | refine Below.drew ?_ | refine bl_alloc ?_ _ | refine bl_then ?_ (by assumption) | refine Below.setCell ?_ (by first | omega | (simp; done) | (simp; omega)) _ | refine bl_store ?_ ?_ _ _))
  have c0 : ∀ W', Below W.heap.size W W' → W'.cell? ⟨w.heap.size, 0, none⟩ = some (.int .i64 id) := fun W' h => by
    rw [h.cell (by subst hW; simp)]; subst hW; simp [go_sem]
  have c1 : ∀ W', Below W.heap.size W W' → W'.cell? ⟨w.heap.size, 1, none⟩ = some (.int .i64 la) := fun W' h => by
    rw [h.cell (by subst hW; simp)]; subst hW; simp [go_sem]
  have c2 : ∀ W', Below W.heap.size W W' → W'.cell? ⟨w.heap.size, 2, none⟩ = some (.int .i64 ki) := fun W' h => by
    rw [h.cell (by subst hW; simp)]; subst hW; simp [go_sem]
  have c3 : ∀ W', Below W.heap.size W W' → W'.cell? ⟨w.heap.size, 3, none⟩ = some (.int .i64 wi) := fun W' h => by
    rw [h.cell (by subst hW; simp)]; subst hW; simp [go_sem]
  have c4 : ∀ W', Below W.heap.size W W' → W'.cell? ⟨w.heap.size, 4, none⟩ = some (.slice a n cap) := fun W' h => by
    rw [h.cell (by subst hW; simp)]; subst hW; simp [go_sem]
  have c5 : ∀ W', Below W.heap.size W W' → W'.cell? ⟨w.heap.size, 5, none⟩ = some (.string lab) := fun W' h => by
    rw [h.cell (by subst hW; simp)]; subst hW; simp [go_sem]
  have c6 : ∀ W', Below W.heap.size W W' → W'.cell? ⟨w.heap.size, 6, none⟩ = some (.int .i64 pr) := fun W' h => by
    rw [h.cell (by subst hW; simp)]; subst hW; simp [go_sem]
  clear hW
  have HB0 : Hid (Below w.heap.size w W) := hB0
  have HIW : Hid (IsPts W a n X Y) := HI.out.below hB0
  clear hB0 HI
  refine (szFeature_any _ _ _ _ _ _ _ _ _ 1048576 _ (by omega) HM.out.1 HM.out.2).mono ?_
  rintro e w1 ⟨rfl, hb1⟩
  have hB1 : Below W.heap.size W w1 := hb1
  clear hb1
  go_wp2_with fail
  refine (toFeature_any id la ki wi a n cap X Y lab pr _ (HIW.out.below hB1) hn).mono ?_
  rintro e w2 ⟨b2, rfl, hle2, hlt2, hp2, hb2⟩
  have hB2 : Below W.heap.size W w2 := bl_then hB1 hb2
  have HP2 : Hid (PtsAt w2 b2 0 n X Y) := hp2
  clear hp2 hb2 hB1 hle2
  go_wp2_with fail
  refine (Hs.out b2 w2 HP2.out hlt2).mono ?_
  rintro e w3 ⟨rfl, hb3⟩
  have hB3 : Below W.heap.size W w3 := bl_then hB2 hb3
  clear hb3 hB2 HP2 hlt2
  have hlw3 : w.heap.size < w3.heap.size := World.block_lt_of_cell? _ _ (c0 w3 hB3)
  go_wp2_with fail
  obtain ⟨U, hUe⟩ : ∃ U, U = w3 := ⟨_, rfl⟩
  rw [← hUe] at hB3 ⊢
  have hBU' : Below W.heap.size W U := hB3
  clear hB3 hUe
  refine (toFeature_any id la ki wi a n cap X Y lab pr _ (HIW.out.below hBU') hn).mono ?_
  rintro e w4 ⟨b4, rfl, hle4, hlt4, hp4, hb4⟩
  have hBU4 : Below U.heap.size U w4 := hb4
  have hB4 : Below W.heap.size W w4 := bl_then hBU' hb4
  have HP4 : Hid (PtsAt w4 b4 0 n X Y) := hp4
  clear hp4 hb4 hBU' hle4
  go_wp2_with fail
  generalize hV : (w4.alloc _ : World) = V
  have hBV : Below w4.heap.size w4 V := by subst hV; (repeat (first | exact Below.refl _ _ | assumption | refine Below.drew ?_ | refine bl_alloc ?_ _ | refine bl_then ?_ (by assumption) | refine Below.setCell ?_ (by first | omega | (simp; done) | (simp; omega)) _ | refine bl_store ?_ ?_ _ _))
  have v0 : ∀ W', Below V.heap.size V W' → W'.cell? ⟨w4.heap.size, 0, none⟩ = some (.int .i64 id) := fun W' h => by
    rw [h.cell (by subst hV; simp)]; subst hV; simp [go_sem]
  have v1 : ∀ W', Below V.heap.size V W' → W'.cell? ⟨w4.heap.size, 1, none⟩ = some (.int .i64 la) := fun W' h => by
    rw [h.cell (by subst hV; simp)]; subst hV; simp [go_sem]
  have v2 : ∀ W', Below V.heap.size V W' → W'.cell? ⟨w4.heap.size, 2, none⟩ = some (.int .i64 ki) := fun W' h => by
    rw [h.cell (by subst hV; simp)]; subst hV; simp [go_sem]
  have v3 : ∀ W', Below V.heap.size V W' → W'.cell? ⟨w4.heap.size, 3, none⟩ = some (.int .i64 wi) := fun W' h => by
    rw [h.cell (by subst hV; simp)]; subst hV; simp [go_sem]
  have v4 : ∀ W', Below V.heap.size V W' → W'.cell? ⟨w4.heap.size, 4, none⟩ = some (.slice (some ⟨b4, 0, none⟩) n n) := fun W' h => by
    rw [h.cell (by subst hV; simp)]; subst hV; simp [go_sem]
  have v5 : ∀ W', Below V.heap.size V W' → W'.cell? ⟨w4.heap.size, 5, none⟩ = some (.string lab) := fun W' h => by
    rw [h.cell (by subst hV; simp)]; subst hV; simp [go_sem]
  have v6 : ∀ W', Below V.heap.size V W' → W'.cell? ⟨w4.heap.size, 6, none⟩ = some (.int .i64 pr) := fun W' h => by
    rw [h.cell (by subst hV; simp)]; subst hV; simp [go_sem]
  clear hV
  have HPV : Hid (PtsAt V b4 0 n X Y) := HP4.out.below hBV hlt4
  have hltV : b4 < V.heap.size := Nat.lt_of_lt_of_le hlt4 hBV.size
  have HBV : Hid (Below W.heap.size W V) := bl_then hB4 hBV
  have HBUV : Hid (Below U.heap.size U V) := bl_then hBU4 hBV
  replace c0 := fun W' (h : Below V.heap.size V W') => c0 W' (bl_then HBV.out h)
  replace c1 := fun W' (h : Below V.heap.size V W') => c1 W' (bl_then HBV.out h)
  replace c2 := fun W' (h : Below V.heap.size V W') => c2 W' (bl_then HBV.out h)
  replace c3 := fun W' (h : Below V.heap.size V W') => c3 W' (bl_then HBV.out h)
  replace c4 := fun W' (h : Below V.heap.size V W') => c4 W' (bl_then HBV.out h)
  replace c5 := fun W' (h : Below V.heap.size V W') => c5 W' (bl_then HBV.out h)
  replace c6 := fun W' (h : Below V.heap.size V W') => c6 W' (bl_then HBV.out h)
  clear hBV hB4 HP4 hlt4 hBU4
  refine (Hi.out b4 V HPV.out hltV).mono ?_
  rintro e w5 ⟨rfl, hb5⟩
  have hB5 : Below V.heap.size V w5 := hb5
  clear hb5
  go_wp2_with fail
  go_region_held3 (fun W' => Below V.heap.size V W') ((repeat (first | exact Below.refl _ _ | assumption | refine Below.drew ?_ | refine bl_alloc ?_ _ | refine bl_then ?_ (by assumption) | refine Below.setCell ?_ (by first | omega | (simp; done) | (simp; omega)) _ | refine bl_store ?_ ?_ _ _)))
    (first
      | (go_at_call 6; refine (toFeature_any id la ki wi a n cap X Y lab pr _ (HIW.out.below (bl_then HBV.out (by assumption))) hn).mono ?_; rintro e w' ⟨b7, rfl, hle7, hlt7, hp7, hb⟩)
      | (go_at_call 8; refine (eqFeature_any id la ki wi n X Y lab pr b4 b7 _ (HPV.out.below (by assumption) hltV) hp7 (Nat.lt_of_lt_of_le hltV (Below.size (by assumption))) hlt7 hn).mono ?_; rintro e w' ⟨rfl, hb⟩))
  go_wp2
  go_ret
  exact ⟨rfl, bl_then HB0.out (bl_then HBV.out (by assumption))⟩
set_option maxHeartbeats 1000000 in
theorem FnExactDoesCover_big (id la ki wi : Int) (a : Option Addr) (n cap : Nat) (lab : ByteArray) (pr : Int) (z : Int) (x : Int) (y : Int) (w : World) (hbig : 1048576 < n + lab.size) (hm : n ≤ maxLen) (hls : lab.size ≤ maxLen) :
    Calls Try.prog 3 #[.agg #[.int .i64 id, .int .i64 la, .int .i64 ki, .int .i64 wi, .slice a n cap, .string lab, .int .i64 pr], .int .i64 z, .int .i64 x, .int .i64 y] w fun e w' => e = .returned (.bool true) ∧ Below w.heap.size w w' := by
  have HM : Hid (n ≤ maxLen ∧ lab.size ≤ maxLen) := ⟨hm, hls⟩
  clear hm hls
  have hz : szF 1048576 n lab.size = -1 := by unfold szF; rw [if_pos hbig]
  go_enter Try.func3, Try.ntmps3
  go_wp2_with (go_at_call 4; refine (szFeature_any _ _ _ _ _ _ _ _ _ 1048576 _ (by omega) HM.out.1 HM.out.2).mono ?_; rintro e w' ⟨rfl, hb⟩)
  go_ret
  exact ⟨rfl, by (repeat (first | exact Below.refl _ _ | assumption | refine Below.drew ?_ | refine bl_alloc ?_ _ | refine bl_then ?_ (by assumption) | refine Below.setCell ?_ (by first | omega | (simp; done) | (simp; omega)) _ | refine bl_store ?_ ?_ _ _))⟩
end Go.Proofs.Ytnlmndlchobfeaa
/- The law of DoesCover returns true at every feature and all numbers. -/

namespace Go.Proofs.Ytnlmndlchobfeaa
open Go.RowKit
set_option linter.unusedVariables false
/-- Which points of a line stay. -/
theorem thin_ex (X Y : Nat → Int) (z : Int) (n : Nat) : ∃ L, 3 ≤ (snapL X Y z n).length → Thin (px (snapL X Y z n)) (py (snapL X Y z n)) (gridI z) 0 ((snapL X Y z n).length - 1) L := by
  by_cases h3 : 3 ≤ (snapL X Y z n).length
  · obtain ⟨L, hL⟩ := Thin.exists (px (snapL X Y z n)) (py (snapL X Y z n)) (gridI z) ((snapL X Y z n).length - 1) 0 ((snapL X Y z n).length - 1) (by omega) (by omega)
    exact ⟨L, fun _ => hL⟩
  · exact ⟨[], fun h => absurd h h3⟩
theorem FnExactDoesCover_walk (id la ki wi : Int) (a : Option Addr) (n cap : Nat) (X Y : Nat → Int) (lab : ByteArray) (pr : Int) (z x y : Int) (w : World) (h : IsPts w a n X Y ∧ n ≤ cap ∧ cap ≤ maxLen ∧ lab.size ≤ maxLen) :
    Calls Try.prog 3 #[.agg #[.int .i64 id, .int .i64 la, .int .i64 ki, .int .i64 wi, .slice a n cap, .string lab, .int .i64 pr], .int .i64 z, .int .i64 x, .int .i64 y] w fun e w' => e = .returned (.bool true) ∧ Below w.heap.size w w' := by
  obtain ⟨hpt, hcap, hmx, hls⟩ := h
  by_cases hbig : 1048576 < n + lab.size
  · exact FnExactDoesCover_big id la ki wi a n cap lab pr z x y w hbig (Nat.le_trans hcap hmx) hls
  · obtain ⟨L, hL⟩ := thin_ex X Y z n
    exact FnExactDoesCover_law _ id la ki wi a n cap X Y lab pr z x y w hpt (by omega) (by omega)
      (fun b w hp hb => spec_DoesCover_any id la ki wi z x y b n n X Y lab pr L w hp hb (by omega) (by omega) hL _ rfl)
      (fun b w hp hb => impl_DoesCover_any id la ki wi z x y b n n X Y lab pr L w hp hb (by omega) (Nat.le_refl _) (by omega) hL _ rfl)
end Go.Proofs.Ytnlmndlchobfeaa
