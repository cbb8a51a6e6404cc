/- Several texts in one. -/
import Derived.Test.YtjnglencgkhhaabVDoesCover49
import Derived.Test.YtjnglencgkhhaabVDoesCover1

/- DoesCover of the model. -/

namespace Go.Proofs.Ytjnglencgkhhaab
open Go.RowKit
set_option linter.unusedSimpArgs false
set_option linter.unusedVariables false
set_option maxRecDepth 100000

set_option maxHeartbeats 4000000 in
theorem l4Covers_any {off : Nat} (q : Nat) (id la ki wi z x y : Int) (b n cap : Nat) (X Y : Nat → Int) (lab : ByteArray) (pr : Int) (L : List Nat) (w : World) (hf : FeatAt w q 0 id la ki wi (.slice (some ⟨b, off, none⟩) n cap) lab pr) (hp : PtsAt w b off n X Y) (hbl : b < w.heap.size) (hfc : featC id la ki wi n X Y lab pr = 0) (hpx : pixB z x y = true)
    (hL : 3 ≤ (snapL X Y z n).length → Thin (px (snapL X Y z n)) (py (snapL X Y z n)) (gridI z) 0 ((snapL X Y z n).length - 1) L) :
    Calls Try.prog 54 #[.pointer (some ⟨q, 0, none⟩), .int .i64 z, .int .i64 x, .int .i64 y] w fun e w' => e = .returned (.bool (dcB 0 ki wi z x y (simpR 0 ki z n X Y L))) ∧ Below w.heap.size w w' := by
  have hz := pixB_zoom hpx
  obtain ⟨hk3, hn0, hn12, hkn', hin, _⟩ := featC_zero hfc
  obtain ⟨hkn, hR12, hall⟩ := simpR_facts hfc hz hL
  have hwr := (featC_rng hfc).2.2.1
  have Hs := (show Hid _ from l3Simple_any q id la ki wi z b n cap X Y lab pr L w hf hp hbl hz hk3 hn0 hn12 hin hL)
  have hR0 : 0 < (simpR 0 ki z n X Y L).length := by rcases hkn with ⟨_, h⟩ | ⟨_, h⟩ | ⟨_, h⟩ <;> omega
  have HR : Hid (simpR 0 ki z n X Y L = fillL ki.toNat (simpT ki z n X Y L)) := by show _ = _; rw [simpR, if_pos rfl]
  rw [← HR.out] at Hs
  have HAL : Hid (allW (simpR 0 ki z n X Y L)) := hall
  have HPX : Hid (pixB z x y = true) := hpx
  have HK : Hid (dcB 0 ki wi z x y (simpR 0 ki z n X Y L) = coverB ki wi z (centI z x) (centI z y) (dblL (px (simpR 0 ki z n X Y L)) (py (simpR 0 ki z n X Y L)) (simpR 0 ki z n X Y L).length)) := by show _ = _; simp [dcB, hpx]
  generalize simpR 0 ki z n X Y L = R at *
  clear hall hf hp hfc hL hin HR hpx
  go_enter Try.func54, Try.ntmps54
  go_wp2_with fail
  refine Calls.mono Hs.out ?_
  rintro e w1 ⟨v, rfl, hR, hb1⟩
  obtain ⟨g, cg, hv, _, hgl, hcg, hPg⟩ := hR.at hR0
  subst hv
  have HPg : Hid (PtsAt w1 g 0 R.length (px R) (py R)) := hPg
  clear hPg hR Hs
  generalize hRn : R.length = N at *
  go_wp2_with fail
  generalize hV : (w1.alloc _ : World) = V
  have hbV : Below w1.heap.size w1 V := by subst hV; (repeat (first | exact Below.refl _ _ | assumption | refine Below.drew ?_ | refine bl_alloc ?_ _ | refine bl_then ?_ (by assumption) | refine Below.setCell ?_ (by first | omega | (simp; done) | (simp; omega)) _ | refine bl_store ?_ ?_ _ _))
  have hFV : FeatAt V w1.heap.size 0 id la ki wi (.slice (some ⟨g, 0, none⟩) N cg) lab pr := by
    subst hV
    refine ⟨?_, ?_, ?_, ?_, ?_, ?_, ?_⟩ <;> simp [go_sem]
  clear hV
  refine (l4Simple_any w1.heap.size 0 id la ki wi z x y g 0 N cg (px R) (py R) lab pr V hFV (HPg.out.below hbV hgl) (Nat.lt_of_lt_of_le hgl hbV.size) (by omega) hkn (fun i _ => HAL.out.at i) hwr HPX.out).mono ?_
  rintro e w2 ⟨rfl, hb2⟩
  go_wp2_with fail
  go_ret
  exact ⟨ret_bool HK.out.symm, bl_then hb1 (bl_then hbV hb2)⟩
set_option maxHeartbeats 4000000 in
theorem spec_DoesCover_any {off : Nat} (id la ki wi z x y : Int) (b n cap : Nat) (X Y : Nat → Int) (lab : ByteArray) (pr : Int) (L : List Nat) (w : World) (hp : PtsAt w b off n X Y) (hbl : b < w.heap.size) (hn : n ≤ 1048576) (hl : lab.size ≤ 1048576)
    (hL : 3 ≤ (snapL X Y z n).length → Thin (px (snapL X Y z n)) (py (snapL X Y z n)) (gridI z) 0 ((snapL X Y z n).length - 1) L) (C : Int) (hC : C = simpC z (featC id la ki wi n X Y lab pr)) :
    Calls Try.prog 28 #[.agg #[.int .i64 id, .int .i64 la, .int .i64 ki, .int .i64 wi, .slice (some ⟨b, off, none⟩) n cap, .string lab, .int .i64 pr], .int .i64 z, .int .i64 x, .int .i64 y] w fun e w' => e = .returned (.bool (dcB C ki wi z x y (simpR C ki z n X Y L))) ∧ Below w.heap.size w w' := by
  have HP : Hid (PtsAt w b off n X Y) := hp
  have HL := (show Hid _ from hL)
  clear hp hL
  go_enter Try.func28, Try.ntmps28
  go_wp2_with fail
  generalize hW : (w.alloc _ : World) = W
  have hB0 : Below w.heap.size w W := by subst hW; (repeat (first | exact Below.refl _ _ | assumption | refine Below.drew ?_ | refine bl_alloc ?_ _ | refine bl_then ?_ (by assumption) | refine Below.setCell ?_ (by first | omega | (simp; done) | (simp; omega)) _ | refine bl_store ?_ ?_ _ _))
  have HFW : Hid (FeatAt W w.heap.size 0 id la ki wi (.slice (some ⟨b, off, none⟩) n cap) lab pr) := by
    show FeatAt _ _ _ _ _ _ _ _ _ _
    subst hW
    refine ⟨?_, ?_, ?_, ?_, ?_, ?_, ?_⟩ <;> simp [go_sem]
  have hlW : w.heap.size < W.heap.size := by subst hW; simp
  clear hW
  have HB0 : Hid (Below w.heap.size w W) := hB0
  have HPW : Hid (PtsAt W b off n X Y) := HP.out.below hB0 hbl
  have hblW : b < W.heap.size := Nat.lt_of_lt_of_le hbl hB0.size
  clear hB0
  refine (l3Zoom_any _ _).mono ?_
  rintro e w1 ⟨rfl, rfl⟩
  cases hz : zoomB z
  · have HK : Hid (dcB C ki wi z x y (simpR C ki z n X Y L) = false) := by show _ = _; simp [dcB, pixB, hz]
    go_wp2_with fail
    go_ret
    exact ⟨ret_bool HK.out.symm, HB0.out⟩
  · have hC' : C = featC id la ki wi n X Y lab pr := by rw [hC]; simp [simpC, hz]
    go_wp2_with fail
    refine (l2Fault_any w.heap.size 0 id la ki wi _ n cap X Y lab pr W HFW.out (.inr ⟨b, off, rfl, hblW, HPW.out⟩) hl hn).mono ?_
    rintro e w2 ⟨rfl, hb2⟩
    rw [← hC']
    have HF2 : Hid (FeatAt w2 w.heap.size 0 id la ki wi (.slice (some ⟨b, off, none⟩) n cap) lab pr) := HFW.out.below hb2 hlW
    have HP2 : Hid (PtsAt w2 b off n X Y) := HPW.out.below hb2 hblW
    have hbl2 : b < w2.heap.size := Nat.lt_of_lt_of_le hblW hb2.size
    have HB2 : Hid (Below w.heap.size w w2) := bl_then HB0.out hb2
    clear hb2
    by_cases hC0 : C = 0
    · subst hC0
      have HFC : Hid (featC id la ki wi n X Y lab pr = 0) := hC'.symm
      clear hC hC'
      cases hpx : pixB z x y
      · have HK : Hid (dcB 0 ki wi z x y (simpR 0 ki z n X Y L) = false) := by show _ = _; simp [dcB, hpx]
        go_wp2_with (go_at_call 42; refine (l4Pixel_any _ _ _ _ hz).mono ?_; rintro e w3 ⟨rfl, rfl⟩)
        go_ret
        exact ⟨ret_bool HK.out.symm, HB2.out⟩
      · have HPX : Hid (pixB z x y = true) := hpx
        go_wp2_with (first
          | (go_at_call 42; refine (l4Pixel_any _ _ _ _ hz).mono ?_; rintro e w3 ⟨rfl, rfl⟩)
          | (go_at_call 54; refine (l4Covers_any w.heap.size id la ki wi z x y b n cap X Y lab pr L _ HF2.out HP2.out hbl2 HFC.out HPX.out HL.out).mono ?_; rintro e w4 ⟨rfl, hb4⟩))
        go_ret
        exact ⟨rfl, bl_then HB2.out hb4⟩
    · have HK : Hid (dcB C ki wi z x y (simpR C ki z n X Y L) = false) := by show _ = _; simp [dcB, hC0]
      have hcb : (C == 0) = false := by simpa using hC0
      clear hC hC'
      go_wp2_with fail
      go_ret
      exact ⟨ret_bool HK.out.symm, HB2.out⟩
end Go.Proofs.Ytjnglencgkhhaab
/- szPointS counts the points. -/

namespace Go.Proofs.Ytjnglencgkhhaab
open Go.RowKit
set_option linter.unusedSimpArgs false
set_option linter.unusedVariables false

theorem szPointS_big (a : Option Addr) (n cap : Nat) (w : World) (hn : 1048576 < n) (hm : n ≤ maxLen) :
    Calls Try.prog 47 #[.slice a n cap, .int .i64 1048576] w fun e w' => e = .returned (.int .i64 (-1)) ∧ w' = w := by
  unfold maxLen at hm
  have hneg : (1048576 : Int) - (n : Int) < 0 := by omega
  go_enter Try.func47, Try.ntmps47
  go_wp2
  go_ret
  exact ⟨rfl, rfl⟩
theorem szPointS_small (a : Option Addr) (n cap : Nat) (w : World) (hn : n ≤ 1048576) :
    Calls Try.prog 47 #[.slice a n cap, .int .i64 1048576] w fun e w' => e = .returned (.int .i64 (1048576 - (n : Int))) ∧ w' = w := by
  have hneg : ¬ (1048576 : Int) - (n : Int) < 0 := by omega
  go_enter Try.func47, Try.ntmps47
  go_wp2
  go_ret
  exact ⟨rfl, rfl⟩

end Go.Proofs.Ytjnglencgkhhaab
