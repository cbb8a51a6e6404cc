/- Texts. -/
import Derived.Test.YtiephlohemphjaaGreatVTickViewer31
import Derived.Test.YtiephlohemphjaaGreatVTickViewer32
set_option linter.unusedSimpArgs false
set_option linter.unusedVariables false
set_option maxRecDepth 100000
set_option maxHeartbeats 32000000
namespace Go.Proofs.YtiephlohemphjaaGreat
open Go.RowKit
def VkW (w : World) (lo hi b n : Nat) (A : Nat → Kp) (rb rn : Nat) : Prop := ∃ M,lo ≤ b ∧ KsW w b n A M ∧ M n ≤ rb ∧ rb < hi ∧ hi ≤ w.heap.size ∧ There w rb (rn * 5)
theorem VkW.below {w w' : World} {lo hi b n rb rn : Nat} {A : Nat → Kp} (h : VkW w lo hi b n A rb rn) (hb : Below w.heap.size w w') : VkW w' lo hi b n A rb rn := by
 obtain ⟨M,h1,h2,h3,h4,h5,h6⟩ := h
 exact ⟨M,h1,h2.below hb,h3,h4,Nat.le_trans h5 hb.size,h6.below hb⟩
theorem toViewer_own (z x y wd ht now s : Int) (a : Option Addr) (n cap : Nat) (K : Nat → Kp) (ra : Option Addr) (rn rc : Nat) (E : Nat → Req) (bad : Int) (w : World) (hk : IsKs w a n K) (hs : SmallKs n K) (hr : IsWs w ra rn E) (hrn : rn ≤ 1048576) :
  Calls Tryz.prog 10 #[vwV z x y wd ht now s (.slice a n cap) (.slice ra rn rc) bad] w fun e w' => ∃ b A rb,e = .returned (vwV z x y wd ht now s (.slice (some ⟨b,0,none⟩) n n) (.slice (some ⟨rb,0,none⟩) rn rn) bad) ∧ w.heap.size ≤ b ∧ w.heap.size ≤ rb ∧ OwnV w' b n K A rb rn E ∧ VkW w' w.heap.size w'.heap.size b n A rb rn ∧ Below w.heap.size w w' := by
 have HP : Hid (IsKs w a n K) := hk
 have HS : Hid (SmallKs n K) := hs
 have HR : Hid (IsWs w ra rn E) := hr
 clear hk hs hr
 go_enter Tryz.func10,Tryz.ntmps10
 go_wp2_with fail
 generalize hW : (((w.alloc _).alloc _).alloc _ : World) = W
 have HB0 : Hid (Below w.heap.size w W) := by show Below _ _ _; subst hW; exact Qb
 have HV : Hid (Blk W w.heap.size [.int .i64 z, .int .i64 x, .int .i64 y, .int .i64 wd, .int .i64 ht, .int .i64 now, .int .i64 s, .slice a n cap, .slice ra rn rc, .int .i64 bad]) := by
  show Blk _ _ _; subst hW
  exact ((Blk.new w _ _).alloc (by simp) _).alloc (by simp; omega) _
 have HU : Hid (Blk W (w.heap.size + 1) [.int .i64 0, .int .i64 0, .int .i64 0, .int .i64 0, .int .i64 0, .int .i64 0, .int .i64 0, .slice none 0 0, .slice none 0 0, .int .i64 0]) := by
  show Blk _ _ _; subst hW
  have := (Blk.new (w.alloc (.cells #[.int .i64 z, .int .i64 x, .int .i64 y, .int .i64 wd, .int .i64 ht, .int .i64 now, .int .i64 s, .slice a n cap, .slice ra rn rc, .int .i64 bad] 29)) [.int .i64 0, .int .i64 0, .int .i64 0, .int .i64 0, .int .i64 0, .int .i64 0, .int .i64 0, .slice none 0 0, .slice none 0 0, .int .i64 0] 38).alloc (by simp) (.cells #[.int .i64 0, .int .i64 0, .int .i64 0, .int .i64 0, .int .i64 0, .int .i64 0, .int .i64 0, .slice none 0 0, .slice none 0 0, .int .i64 0] 38)
  simpa using this
 have HO : Hid (Blk W (w.heap.size + 1 + 1) [.int .i64 0, .int .i64 0, .int .i64 0, .int .i64 0, .int .i64 0, .int .i64 0, .int .i64 0, .slice none 0 0, .slice none 0 0, .int .i64 0]) := by
  show Blk _ _ _; subst hW
  have := Blk.new ((w.alloc (.cells #[.int .i64 z, .int .i64 x, .int .i64 y, .int .i64 wd, .int .i64 ht, .int .i64 now, .int .i64 s, .slice a n cap, .slice ra rn rc, .int .i64 bad] 29)).alloc (.cells #[.int .i64 0, .int .i64 0, .int .i64 0, .int .i64 0, .int .i64 0, .int .i64 0, .int .i64 0, .slice none 0 0, .slice none 0 0, .int .i64 0] 38)) [.int .i64 0, .int .i64 0, .int .i64 0, .int .i64 0, .int .i64 0, .int .i64 0, .int .i64 0, .slice none 0 0, .slice none 0 0, .int .i64 0] 38
  simpa using this
 clear hW
 refine (toCamera_any z x y wd ht W).mono ?_
 rintro e w1 ⟨rfl,hb1⟩
 have HB1 : Hid (Below w.heap.size w w1) := bl_then HB0.out hb1
 have HV1 : Hid (Blk w1 w.heap.size [.int .i64 z, .int .i64 x, .int .i64 y, .int .i64 wd, .int .i64 ht, .int .i64 now, .int .i64 s, .slice a n cap, .slice ra rn rc, .int .i64 bad]) := HV.out.below HV.out.lt hb1
 have HU1 : Hid (Blk w1 (w.heap.size + 1) [.int .i64 0, .int .i64 0, .int .i64 0, .int .i64 0, .int .i64 0, .int .i64 0, .int .i64 0, .slice none 0 0, .slice none 0 0, .int .i64 0]) := HU.out.below HU.out.lt hb1
 have hO1 := HO.out.below HO.out.lt hb1
 have HO1 : Hid (Blk w1 (w.heap.size + 1 + 1) [.int .i64 0, .int .i64 0, .int .i64 0, .int .i64 0, .int .i64 0, .int .i64 0, .int .i64 0, .slice none 0 0, .slice none 0 0, .int .i64 0]) := hO1
 have d0 := HV1.out.cell 0 rfl
 have d1 := HV1.out.cell 1 rfl
 have d2 := HV1.out.cell 2 rfl
 have d3 := HV1.out.cell 3 rfl
 have d4 := HV1.out.cell 4 rfl
 have d5 := HV1.out.cell 5 rfl
 have d6 := HV1.out.cell 6 rfl
 have d7 := HV1.out.cell 7 rfl
 have d8 := HV1.out.cell 8 rfl
 have d9 := HV1.out.cell 9 rfl
 have t0 := hO1.cell 0 rfl
 have t1 := hO1.cell 1 rfl
 have t2 := hO1.cell 2 rfl
 have t3 := hO1.cell 3 rfl
 have t4 := hO1.cell 4 rfl
 have t5 := hO1.cell 5 rfl
 have t6 := hO1.cell 6 rfl
 have t7 := hO1.cell 7 rfl
 have t8 := hO1.cell 8 rfl
 have t9 := hO1.cell 9 rfl
 have f0 := hO1.free 0 rfl
 have f1 := hO1.free 1 rfl
 have f2 := hO1.free 2 rfl
 have f3 := hO1.free 3 rfl
 have f4 := hO1.free 4 rfl
 have f5 := hO1.free 5 rfl
 have f6 := hO1.free 6 rfl
 have f7 := hO1.free 7 rfl
 have f8 := hO1.free 8 rfl
 have f9 := hO1.free 9 rfl
 clear hb1 hO1 HV HU HO HB0
 go_wp2_with fail
 generalize hW2 : (World.setCell _ _ _ : World) = W2
 have HB2 : Hid (Below w.heap.size w W2) := by show Below _ _ _; subst hW2; exact ((((((HB1.out.setCell (le2 _) _).setCell (le2 _) _).setCell (le2 _) _).setCell (le2 _) _).setCell (le2 _) _).setCell (le2 _) _)
 have HV2 : Hid (Blk W2 w.heap.size [.int .i64 z, .int .i64 x, .int .i64 y, .int .i64 wd, .int .i64 ht, .int .i64 now, .int .i64 s, .slice a n cap, .slice ra rn rc, .int .i64 bad]) := by show Blk _ _ _; subst hW2; exact ((((((HV1.out.other (by omega)).other (by omega)).other (by omega)).other (by omega)).other (by omega)).other (by omega))
 have HU2 : Hid (Blk W2 (w.heap.size + 1) [.int .i64 0, .int .i64 0, .int .i64 0, .int .i64 0, .int .i64 0, .int .i64 0, .int .i64 0, .slice none 0 0, .slice none 0 0, .int .i64 0]) := by show Blk _ _ _; subst hW2; exact ((((((HU1.out.other (by omega)).other (by omega)).other (by omega)).other (by omega)).other (by omega)).other (by omega))
 have HO2 : Hid (Blk W2 (w.heap.size + 1 + 1) [.int .i64 z, .int .i64 x, .int .i64 y, .int .i64 wd, .int .i64 ht, .int .i64 now, .int .i64 0, .slice none 0 0, .slice none 0 0, .int .i64 0]) := by show Blk _ _ _; subst hW2; exact ((((((HO1.out.set 0 _).set 1 _).set 2 _).set 3 _).set 4 _).set 5 _)
 clear hW2 HV1 HU1 HO1 HB1
 clear d0 t0 f0
 clear d1 t1 f1
 clear d2 t2 f2
 clear d3 t3 f3
 clear d4 t4 f4
 clear d5 t5 f5
 clear d6 t6 f6
 clear d7 t7 f7
 clear d8 t8 f8
 clear d9 t9 f9
 refine (toCache_own s a n cap K W2 (HP.out.below HB2.out) HS.out).mono ?_
 rintro e w3 ⟨b,A,rfl,hge3,hOK3,⟨M,hKW3⟩,hb3⟩
 have HKW3 : Hid (KsW w3 b n A M) := hKW3
 clear hKW3
 have hbb : w.heap.size + 1 + 1 < b := Nat.lt_of_lt_of_le HO2.out.lt hge3
 have HK3 : Hid (OwnKs w3 (b + 1) b n K A) := hOK3
 have HB3 : Hid (Below w.heap.size w w3) := bl_then HB2.out hb3
 have HV3 : Hid (Blk w3 w.heap.size [.int .i64 z, .int .i64 x, .int .i64 y, .int .i64 wd, .int .i64 ht, .int .i64 now, .int .i64 s, .slice a n cap, .slice ra rn rc, .int .i64 bad]) := HV2.out.below HV2.out.lt hb3
 have HU3 : Hid (Blk w3 (w.heap.size + 1) [.int .i64 0, .int .i64 0, .int .i64 0, .int .i64 0, .int .i64 0, .int .i64 0, .int .i64 0, .slice none 0 0, .slice none 0 0, .int .i64 0]) := HU2.out.below HU2.out.lt hb3
 have hO3 := HO2.out.below HO2.out.lt hb3
 have HO3 : Hid (Blk w3 (w.heap.size + 1 + 1) [.int .i64 z, .int .i64 x, .int .i64 y, .int .i64 wd, .int .i64 ht, .int .i64 now, .int .i64 0, .slice none 0 0, .slice none 0 0, .int .i64 0]) := hO3
 have d0 := HV3.out.cell 0 rfl
 have d1 := HV3.out.cell 1 rfl
 have d2 := HV3.out.cell 2 rfl
 have d3 := HV3.out.cell 3 rfl
 have d4 := HV3.out.cell 4 rfl
 have d5 := HV3.out.cell 5 rfl
 have d6 := HV3.out.cell 6 rfl
 have d7 := HV3.out.cell 7 rfl
 have d8 := HV3.out.cell 8 rfl
 have d9 := HV3.out.cell 9 rfl
 have t0 := hO3.cell 0 rfl
 have t1 := hO3.cell 1 rfl
 have t2 := hO3.cell 2 rfl
 have t3 := hO3.cell 3 rfl
 have t4 := hO3.cell 4 rfl
 have t5 := hO3.cell 5 rfl
 have t6 := hO3.cell 6 rfl
 have t7 := hO3.cell 7 rfl
 have t8 := hO3.cell 8 rfl
 have t9 := hO3.cell 9 rfl
 have f0 := hO3.free 0 rfl
 have f1 := hO3.free 1 rfl
 have f2 := hO3.free 2 rfl
 have f3 := hO3.free 3 rfl
 have f4 := hO3.free 4 rfl
 have f5 := hO3.free 5 rfl
 have f6 := hO3.free 6 rfl
 have f7 := hO3.free 7 rfl
 have f8 := hO3.free 8 rfl
 have f9 := hO3.free 9 rfl
 clear hb3 hO3 hOK3 HV2 HU2 HO2 HB2 hge3
 go_wp2_with fail
 generalize hW4 : (World.setCell _ _ _ : World) = W4
 have HB4 : Hid (Below w.heap.size w W4) := by show Below _ _ _; subst hW4; exact ((HB3.out.setCell (le2 _) _).setCell (le2 _) _)
 have HV4 : Hid (Blk W4 w.heap.size [.int .i64 z, .int .i64 x, .int .i64 y, .int .i64 wd, .int .i64 ht, .int .i64 now, .int .i64 s, .slice a n cap, .slice ra rn rc, .int .i64 bad]) := by show Blk _ _ _; subst hW4; exact ((HV3.out.other (by omega)).other (by omega))
 have HU4 : Hid (Blk W4 (w.heap.size + 1) [.int .i64 0, .int .i64 0, .int .i64 0, .int .i64 0, .int .i64 0, .int .i64 0, .int .i64 0, .slice none 0 0, .slice none 0 0, .int .i64 0]) := by show Blk _ _ _; subst hW4; exact ((HU3.out.other (by omega)).other (by omega))
 have HO4 : Hid (Blk W4 (w.heap.size + 1 + 1) [.int .i64 z, .int .i64 x, .int .i64 y, .int .i64 wd, .int .i64 ht, .int .i64 now, .int .i64 s, .slice (some ⟨b,0,none⟩) n n, .slice none 0 0, .int .i64 0]) := by show Blk _ _ _; subst hW4; exact ((HO3.out.set 6 _).set 7 _)
 have HM4 : Hid (MidB w.heap.size (w.heap.size + 1 + 1 + 1) w3 W4) := by show MidB _ _ _ _; subst hW4; exact (((MidB.refl _ _ _).set (by omega) (by omega) _ _).set (by omega) (by omega) _ _)
 have HK4 : Hid (OwnKs W4 (b + 1) b n K A) := HK3.out.mid (C := 0) HM4.out (by omega)
 have HKW4 : Hid (KsW W4 b n A M) := HKW3.out.mid HM4.out (.inl (by omega))
 clear hW4 HV3 HU3 HO3 HB3 HK3 HM4 HKW3
 clear d0 t0 f0
 clear d1 t1 f1
 clear d2 t2 f2
 clear d3 t3 f3
 clear d4 t4 f4
 clear d5 t5 f5
 clear d6 t6 f6
 clear d7 t7 f7
 clear d8 t8 f8
 clear d9 t9 f9
 refine (toRequestS_any ra rn rc E W4 (HR.out.below HB4.out) hrn).mono ?_
 rintro e w5 ⟨rb,rfl,hge5,hlt5,hW5,hT5,hb5⟩
 have HT5 : Hid (There w5 rb (rn * 5)) := hT5
 have hMr : M n ≤ rb := Nat.le_trans HKW4.out.2.2.2 hge5
 have HKW5 : Hid (KsW w5 b n A M) := HKW4.out.below hb5
 clear hT5 HKW4
 have hrb : w.heap.size + 1 + 1 < rb := Nat.lt_of_lt_of_le HO4.out.lt hge5
 have HW5 : Hid (WsAt w5 rb 0 rn E) := hW5
 have HK5 : Hid (OwnKs w5 (b + 1) b n K A) := HK4.out.below hb5
 have HB5 : Hid (Below w.heap.size w w5) := bl_then HB4.out hb5
 have HV5 : Hid (Blk w5 w.heap.size [.int .i64 z, .int .i64 x, .int .i64 y, .int .i64 wd, .int .i64 ht, .int .i64 now, .int .i64 s, .slice a n cap, .slice ra rn rc, .int .i64 bad]) := HV4.out.below HV4.out.lt hb5
 have hU5 := HU4.out.below HU4.out.lt hb5
 have HU5 : Hid (Blk w5 (w.heap.size + 1) [.int .i64 0, .int .i64 0, .int .i64 0, .int .i64 0, .int .i64 0, .int .i64 0, .int .i64 0, .slice none 0 0, .slice none 0 0, .int .i64 0]) := hU5
 have hO5 := HO4.out.below HO4.out.lt hb5
 have HO5 : Hid (Blk w5 (w.heap.size + 1 + 1) [.int .i64 z, .int .i64 x, .int .i64 y, .int .i64 wd, .int .i64 ht, .int .i64 now, .int .i64 s, .slice (some ⟨b,0,none⟩) n n, .slice none 0 0, .int .i64 0]) := hO5
 have d9 := HV5.out.cell 9 rfl
 have t0 := hO5.cell 0 rfl
 have t1 := hO5.cell 1 rfl
 have t2 := hO5.cell 2 rfl
 have t3 := hO5.cell 3 rfl
 have t4 := hO5.cell 4 rfl
 have t5 := hO5.cell 5 rfl
 have t6 := hO5.cell 6 rfl
 have t7 := hO5.cell 7 rfl
 have t8 := hO5.cell 8 rfl
 have t9 := hO5.cell 9 rfl
 have f0 := hO5.free 0 rfl
 have f1 := hO5.free 1 rfl
 have f2 := hO5.free 2 rfl
 have f3 := hO5.free 3 rfl
 have f4 := hO5.free 4 rfl
 have f5 := hO5.free 5 rfl
 have f6 := hO5.free 6 rfl
 have f7 := hO5.free 7 rfl
 have f8 := hO5.free 8 rfl
 have f9 := hO5.free 9 rfl
 have u0 := hU5.cell 0 rfl
 have u1 := hU5.cell 1 rfl
 have u2 := hU5.cell 2 rfl
 have u3 := hU5.cell 3 rfl
 have u4 := hU5.cell 4 rfl
 have u5 := hU5.cell 5 rfl
 have u6 := hU5.cell 6 rfl
 have u7 := hU5.cell 7 rfl
 have u8 := hU5.cell 8 rfl
 have u9 := hU5.cell 9 rfl
 have g0 := hU5.free 0 rfl
 have g1 := hU5.free 1 rfl
 have g2 := hU5.free 2 rfl
 have g3 := hU5.free 3 rfl
 have g4 := hU5.free 4 rfl
 have g5 := hU5.free 5 rfl
 have g6 := hU5.free 6 rfl
 have g7 := hU5.free 7 rfl
 have g8 := hU5.free 8 rfl
 have g9 := hU5.free 9 rfl
 clear hb5 hO5 hU5 hW5 HV4 HU4 HO4 HB4 HK4 hge5
 go_wp2_with fail
 generalize hW6 : (World.setCell _ _ _ : World) = W6
 have HB6 : Hid (Below w.heap.size w W6) := by show Below _ _ _; subst hW6; exact ((((((((((((HB5.out.setCell (le2 _) _).setCell (le2 _) _).setCell (Nat.le_succ _) _).setCell (Nat.le_succ _) _).setCell (Nat.le_succ _) _).setCell (Nat.le_succ _) _).setCell (Nat.le_succ _) _).setCell (Nat.le_succ _) _).setCell (Nat.le_succ _) _).setCell (Nat.le_succ _) _).setCell (Nat.le_succ _) _).setCell (Nat.le_succ _) _)
 have HU6 : Hid (Blk W6 (w.heap.size + 1) [.int .i64 z, .int .i64 x, .int .i64 y, .int .i64 wd, .int .i64 ht, .int .i64 now, .int .i64 s, .slice (some ⟨b,0,none⟩) n n, .slice (some ⟨rb,0,none⟩) rn rn, .int .i64 bad]) := by show Blk _ _ _; subst hW6; exact ((((((((((((HU5.out.other (by omega)).other (by omega)).set 0 _).set 1 _).set 2 _).set 3 _).set 4 _).set 5 _).set 6 _).set 7 _).set 8 _).set 9 _)
 have HM6 : Hid (MidB w.heap.size (w.heap.size + 1 + 1 + 1) w5 W6) := by show MidB _ _ _ _; subst hW6; exact (((((((((((((MidB.refl _ _ _).set (by omega) (by omega) _ _).set (by omega) (by omega) _ _).set (by omega) (by omega) _ _).set (by omega) (by omega) _ _).set (by omega) (by omega) _ _).set (by omega) (by omega) _ _).set (by omega) (by omega) _ _).set (by omega) (by omega) _ _).set (by omega) (by omega) _ _).set (by omega) (by omega) _ _).set (by omega) (by omega) _ _).set (by omega) (by omega) _ _)
 clear hW6
 refine bodyPost_ret (resTV rfl HU6.out) rfl ⟨b,A,rb,rfl,by omega,by omega,⟨HK5.out.mid (C := 0) HM6.out (by omega),Nat.lt_of_lt_of_le hlt5 HM6.out.size,fun i hi => ?_⟩,⟨M,by omega,HKW5.out.mid HM6.out (.inl (by omega)),hMr,Nat.lt_of_lt_of_le hlt5 HM6.out.size,Nat.le_refl _,HM6.out.there HT5.out (.inr (by omega))⟩,HB6.out⟩
 obtain ⟨q0,q1,q2,q3,q4⟩ := HW5.out i hi
 exact ⟨HM6.out.cell q0 (.inr (by omega)),HM6.out.cell q1 (.inr (by omega)),HM6.out.cell q2 (.inr (by omega)),HM6.out.cell q3 (.inr (by omega)),HM6.out.cell q4 (.inr (by omega))⟩
theorem markCacheV_any (s : Int) (g n cap k0 : Nat) (R : Nat → Kp) (M : Nat → Nat) (w : World) (hW : KsW w g n R M) (hs : SmallKs n R) (h0 : 0 < k0) (hk0 : k0 ≤ 1000000000) :
  Calls Tryz.prog 44 #[caV s (.slice (some ⟨g,0,none⟩) n cap), .int .i64 (k0 : Int)] w fun e w' => e = .returned (.int .i64 ((kK R k0 n : Nat) : Int)) ∧ KsM w' g n R M k0 ∧ MidB g (M n) w w' := by
 have HM : Hid (∀ V,Below w.heap.size w V → Calls Tryz.prog 83 #[.slice (some ⟨g,0,none⟩) n cap, .int .i64 (k0 : Int)] V fun e w' => e = .returned (.int .i64 ((kK R k0 n : Nat) : Int)) ∧ KsM w' g n R M k0 ∧ MidB g (M n) V w') := fun V h => markKeptS_any g n cap k0 R M V (hW.below h) hs h0 hk0
 clear hW hs h0 hk0
 generalize hq : kK R k0 n = q at *
 go_enter Tryz.func44,Tryz.ntmps44
 go_wp2_with fail
 generalize hV : (w.alloc _ : World) = V
 have HB : Hid (Below w.heap.size w V) := by show Below _ _ _; subst hV; exact Qb
 clear hV
 refine Calls.mono (HM.out V HB.out) ?_
 rintro e w1 ⟨rfl,h1,h2⟩
 have H1 : Hid (KsM w1 g n R M k0) := h1
 have H2 : Hid (MidB g (M n) w w1) := (MidB.of_below HB.out).trans h2
 clear h1 h2
 go_wp2
 go_ret
 exact ⟨rfl,H1.out,H2.out⟩
theorem markViewer_any (z x y wd ht now s : Int) (lo hi b n : Nat) (A : Nat → Kp) (rb rn : Nat) (bad : Int) (w : World) (h : VkW w lo hi b n A rb rn) (hs : SmallKs n A) (hrn : rn ≤ 1048576) :
  Calls Tryz.prog 14 #[vwV z x y wd ht now s (.slice (some ⟨b,0,none⟩) n n) (.slice (some ⟨rb,0,none⟩) rn rn) bad, .int .i64 1] w fun e w' => (∃ q : Nat,e = .returned (.int .i64 (q : Int))) ∧ MidB lo hi w w' := by
 obtain ⟨M,h1,h2,h3,h4,h5,h6⟩ := h
 have hsm := (kK_small (k0 := 1) hs (by omega) (Nat.le_refl n)).2
 have hbM : b < M 0 ∧ M 0 ≤ M n := ⟨h2.2.1,upM (fun j hj => (h2.2.2.1 j hj).1) (Nat.zero_le n) (Nat.le_refl _)⟩
 have HM : Hid (∀ V,Below w.heap.size w V → Calls Tryz.prog 44 #[caV s (.slice (some ⟨b,0,none⟩) n n), .int .i64 1] V fun e w' => e = .returned (.int .i64 ((kK A 1 n : Nat) : Int)) ∧ KsM w' b n A M 1 ∧ MidB b (M n) V w') := fun V h => markCacheV_any s b n n 1 A M V (h2.below h) hs (by omega) (by omega)
 have HT : Hid (There w rb (rn * 5)) := h6
 clear h2 h6 hs
 generalize hq : kK A 1 n = Q at *
 clear hq
 go_enter Tryz.func14,Tryz.ntmps14
 go_wp2_with fail
 generalize hV : (w.alloc _ : World) = V
 have HB : Hid (Below w.heap.size w V) := by show Below _ _ _; subst hV; exact Qb
 have HBk : Hid (Blk V w.heap.size [.int .i64 z, .int .i64 x, .int .i64 y, .int .i64 wd, .int .i64 ht, .int .i64 now, .int .i64 s, .slice (some ⟨b,0,none⟩) n n, .slice (some ⟨rb,0,none⟩) rn rn, .int .i64 bad]) := by show Blk _ _ _; subst hV; exact Blk.new _ _ _
 clear hV
 refine Calls.mono (HM.out V HB.out) ?_
 rintro e w1 ⟨rfl,_,h7⟩
 have c8 : w1.cell? ⟨w.heap.size,8,none⟩ = some (.slice (some ⟨rb,0,none⟩) rn rn) := h7.cell (HBk.out.cell 8 rfl) (.inr (by omega))
 have HT1 : Hid (There w1 rb (rn * 5)) := h7.there (HT.out.below HB.out) (.inr (by omega))
 have HM1 : Hid (MidB lo hi w w1) := (MidB.of_below HB.out).trans (h7.wide h1 (by omega))
 clear h7 HM HBk
 have HR := (show Hid _ from markRequestS_mk rb rn rn Q w1 HT1.out hrn (by omega))
 go_wp2_with fail
 refine Calls.mono HR.out ?_
 rintro e w2 ⟨rfl,hg,_,_⟩
 have HM2 : Hid (MidB lo hi w w2) := HM1.out.trans (MidB.of_grown hg (by omega) h4)
 clear hg HR HM1 c8
 generalize Q + 5 * rn = q2 at *
 go_wp2
 go_ret
 exact ⟨⟨q2,rfl⟩,HM2.out⟩
def inV (now bad : Int) : Bool := inB now 0 9000 && inB bad 0 9999
def strC (z x y wd ht : Int) (n : Nat) (K : Nat → Kp) (E : Nat → Req) (i : Nat) : Int := if seenB z x y wd ht (E i).z (E i).x (E i).y = true then (if 0 ≤ atK n K (E i).z (E i).x (E i).y then 8 else 0) else 8
noncomputable def viewC (z x y wd ht now s : Int) (n : Nat) (K : Nat → Kp) (rn : Nat) (E : Nat → Req) (bad : Int) : Int :=
 if camC z x y wd ht = 0 then (if inV now bad = true then (if cacheC s n K = 0 then (if s < 4 then 3 else (if reqsC rn E = 0 then scanC (strC z x y wd ht n K E) 0 rn else reqsC rn E)) else cacheC s n K) else 3) else camC z x y wd ht
theorem Blk.cam {w : World} {q : Nat} {z x y wd ht : Int} {l : List Value} (h : Blk w q (.int .i64 z :: .int .i64 x :: .int .i64 y :: .int .i64 wd :: .int .i64 ht :: l)) : CamAt w q z x y wd ht := ⟨h.cell 0 rfl,h.cell 1 rfl,h.cell 2 rfl,h.cell 3 rfl,h.cell 4 rfl⟩
theorem l9Seen_of {z x y wd ht : Int} (b : Nat) (rz rx ry : Int) (w : World) (h : CamAt w b z x y wd ht) (hr : camB z x y wd ht = true) : Calls Tryz.prog 63 #[.pointer (some ⟨b,0,none⟩),refV rz rx ry] w fun e w' => e = .returned (.bool (seenB z x y wd ht rz rx ry)) ∧ Below w.heap.size w w' :=
 l9Seen_any b _ _ rz rx ry w (by have := visM_le z x y wd ht; omega) (fun W hW => l9Refs_any b W (by
  have hB := World.block_lt_of_cell? _ _ h.1
  exact ⟨(hW.cell (p := ⟨b,0,none⟩) hB).trans h.1,(hW.cell (p := ⟨b,1,none⟩) hB).trans h.2.1,(hW.cell (p := ⟨b,2,none⟩) hB).trans h.2.2.1,(hW.cell (p := ⟨b,3,none⟩) hB).trans h.2.2.2.1,(hW.cell (p := ⟨b,4,none⟩) hB).trans h.2.2.2.2⟩) hr)
theorem l13Fault_any (q : Nat) (z x y wd ht now s : Int) (b n cap : Nat) (A : Nat → Kp) (ra : Option Addr) (rn rc : Nat) (E : Nat → Req) (bad : Int) (w : World) (hV : Blk w q [.int .i64 z, .int .i64 x, .int .i64 y, .int .i64 wd, .int .i64 ht, .int .i64 now, .int .i64 s, .slice (some ⟨b,0,none⟩) n cap, .slice ra rn rc, .int .i64 bad]) (ha : KoAt w b n A) (hs : SmallKs n A) (hr : IsWs w ra rn E) (hrn : rn ≤ 1048576) :
  Calls Tryz.prog 28 #[.pointer (some ⟨q,0,none⟩)] w fun e w' => e = .returned (.int .i64 (viewC z x y wd ht now s n A rn E bad)) ∧ Below w.heap.size w w' := by
 have HV : Hid (Blk w q [.int .i64 z, .int .i64 x, .int .i64 y, .int .i64 wd, .int .i64 ht, .int .i64 now, .int .i64 s, .slice (some ⟨b,0,none⟩) n cap, .slice ra rn rc, .int .i64 bad]) := hV
 have HA : Hid (KoAt w b n A) := ha
 have HS : Hid (SmallKs n A) := hs
 have HR : Hid (IsWs w ra rn E) := hr
 have hn : n ≤ 1048576 := hs.1
 have hql : q < w.heap.size := hV.lt
 have HF9 : Hid (Calls Tryz.prog 49 #[.pointer (some ⟨q,0,none⟩)] w fun e w' => e = .returned (.int .i64 (camC z x y wd ht)) ∧ Below w.heap.size w w') := l9Fault_any q z x y wd ht w hV.cam
 have HVC : Hid (viewC z x y wd ht now s n A rn E bad = if camC z x y wd ht = 0 then (if inV now bad = true then (if cacheC s n A = 0 then (if s < 4 then 3 else (if reqsC rn E = 0 then scanC (strC z x y wd ht n A E) 0 rn else reqsC rn E)) else cacheC s n A) else 3) else camC z x y wd ht) := rfl
 clear hV ha hs hr
 generalize viewC z x y wd ht now s n A rn E bad = VC at *
 rcases camC_cases z x y wd ht with ⟨hc,hcb⟩ | ⟨hc,hcb⟩
 case inr =>
  have HE : Hid (VC = 3) := by show _ = _; rw [HVC.out,hc]; rfl
  rw [hc] at HF9
  clear HVC
  go_enter Tryz.func28,Tryz.ntmps28
  go_wp2_with fail
  refine Calls.mono HF9.out ?_
  rintro e w1 ⟨rfl,hb1⟩
  go_wp2
  go_ret
  exact ⟨ret_int HE.out.symm,hb1⟩
 have HCB : Hid (camB z x y wd ht = true) := hcb
 have HVC1 : Hid (VC = if inV now bad = true then (if cacheC s n A = 0 then (if s < 4 then 3 else (if reqsC rn E = 0 then scanC (strC z x y wd ht n A E) 0 rn else reqsC rn E)) else cacheC s n A) else 3) := by show _ = _; rw [HVC.out,if_pos hc]
 rw [hc] at HF9
 clear hc hcb HVC
 have HI1 : Hid (∀ W,Calls Tryz.prog 30 #[.int .i64 now, .int .i64 0, .int .i64 9000] W fun e w' => e = .returned (.bool (inB now 0 9000)) ∧ w' = W) := fun W => l1In_any _ _ _ W
 have HI2 : Hid (∀ W,Calls Tryz.prog 30 #[.int .i64 bad, .int .i64 0, .int .i64 9999] W fun e w' => e = .returned (.bool (inB bad 0 9999)) ∧ w' = W) := fun W => l1In_any _ _ _ W
 cases h1 : inB now 0 9000
 case false =>
  have HE : Hid (VC = 3) := by show _ = _; rw [HVC1.out]; simp [inV,h1]
  rw [h1] at HI1
  clear HVC1 h1
  go_enter Tryz.func28,Tryz.ntmps28
  go_wp2_with fail
  refine Calls.mono HF9.out ?_
  rintro e w1 ⟨rfl,hb1⟩
  have HB1 : Hid (Below w.heap.size w w1) := hb1
  have c5 := (HV.out.below hql hb1).cell 5 rfl
  clear hb1
  go_wp2_with fail
  refine Calls.mono (HI1.out _) ?_
  rintro e w2 ⟨rfl,h2⟩
  subst w2
  go_wp2
  go_ret
  exact ⟨ret_int HE.out.symm,HB1.out⟩
 cases h2 : inB bad 0 9999
 case false =>
  have HE : Hid (VC = 3) := by show _ = _; rw [HVC1.out]; simp [inV,h2]
  rw [h1] at HI1
  rw [h2] at HI2
  clear HVC1 h1 h2
  go_enter Tryz.func28,Tryz.ntmps28
  go_wp2_with fail
  refine Calls.mono HF9.out ?_
  rintro e w1 ⟨rfl,hb1⟩
  have HB1 : Hid (Below w.heap.size w w1) := hb1
  have c5 := (HV.out.below hql hb1).cell 5 rfl
  have c9 := (HV.out.below hql hb1).cell 9 rfl
  clear hb1
  go_wp2_with fail
  refine Calls.mono (HI1.out _) ?_
  rintro e w2 ⟨rfl,h2⟩
  subst w2
  go_wp2_with fail
  refine Calls.mono (HI2.out _) ?_
  rintro e w2 ⟨rfl,h2⟩
  subst w2
  go_wp2
  go_ret
  exact ⟨ret_int HE.out.symm,HB1.out⟩
 have HVC2 : Hid (VC = if cacheC s n A = 0 then (if s < 4 then 3 else (if reqsC rn E = 0 then scanC (strC z x y wd ht n A E) 0 rn else reqsC rn E)) else cacheC s n A) := by show _ = _; rw [HVC1.out]; simp [inV,h1,h2]
 rw [h1] at HI1
 rw [h2] at HI2
 clear HVC1 h1 h2
 have HF11 : Hid (∀ W,Below w.heap.size w W → Calls Tryz.prog 61 #[.pointer (some ⟨q,6,none⟩)] W fun e w' => e = .returned (.int .i64 (cacheC s n A)) ∧ Below W.heap.size W w') := fun W h => l11Fault_off q 6 s b n cap A W ⟨(HV.out.below hql h).cell 6 rfl,(HV.out.below hql h).cell 7 rfl⟩ (HA.out.below h) HS.out
 have HF12 : Hid (∀ W,Below w.heap.size w W → Calls Tryz.prog 62 #[.slice ra rn rc] W fun e w' => e = .returned (.int .i64 (reqsC rn E)) ∧ Below W.heap.size W w') := fun W h => l12Fault_any ra rn rc E W (HR.out.below h) hrn
 go_enter Tryz.func28,Tryz.ntmps28
 go_wp2_with fail
 refine Calls.mono HF9.out ?_
 rintro e w1 ⟨rfl,hb1⟩
 have HB1 : Hid (Below w.heap.size w w1) := hb1
 have c5 := (HV.out.below hql hb1).cell 5 rfl
 have c9 := (HV.out.below hql hb1).cell 9 rfl
 clear hb1
 go_wp2_with fail
 refine Calls.mono (HI1.out _) ?_
 rintro e w2 ⟨rfl,h2⟩
 subst w2
 go_wp2_with fail
 refine Calls.mono (HI2.out _) ?_
 rintro e w2 ⟨rfl,h2⟩
 subst w2
 go_wp2_with fail
 refine Calls.mono (HF11.out _ HB1.out) ?_
 rintro e w2 ⟨rfl,hb2⟩
 have HB2 : Hid (Below w.heap.size w w2) := bl_then HB1.out hb2
 have c6 := (HV.out.below hql HB2.out).cell 6 rfl
 have c8 := (HV.out.below hql HB2.out).cell 8 rfl
 clear hb2 c5 c9 HF9 HF11 HI1 HI2 HB1
 by_cases h0 : cacheC s n A = 0
 case neg =>
  have HE : Hid (VC = cacheC s n A) := by show _ = _; rw [HVC2.out,if_neg h0]
  have hcb : (cacheC s n A == 0) = false := by simpa using h0
  clear HVC2
  generalize cacheC s n A = rc' at *
  go_wp2
  go_ret
  exact ⟨ret_int HE.out.symm,HB2.out⟩
 rw [h0]
 have HVC3 : Hid (VC = if s < 4 then 3 else (if reqsC rn E = 0 then scanC (strC z x y wd ht n A E) 0 rn else reqsC rn E)) := by show _ = _; rw [HVC2.out,if_pos h0]
 clear HVC2 h0
 by_cases h4 : s < 4
 case pos =>
  have HE : Hid (VC = 3) := by show _ = _; rw [HVC3.out,if_pos h4]
  clear HVC3
  go_wp2
  go_ret
  exact ⟨ret_int HE.out.symm,HB2.out⟩
 have HVC4 : Hid (VC = if reqsC rn E = 0 then scanC (strC z x y wd ht n A E) 0 rn else reqsC rn E) := by show _ = _; rw [HVC3.out,if_neg h4]
 clear HVC3
 go_wp2_with fail
 refine Calls.mono (HF12.out _ HB2.out) ?_
 rintro e w3 ⟨rfl,hb3⟩
 have HB3 : Hid (Below w.heap.size w w3) := bl_then HB2.out hb3
 clear hb3 c6 c8 HF12 HB2 h4
 by_cases hq : reqsC rn E = 0
 case neg =>
  have HE : Hid (VC = reqsC rn E) := by show _ = _; rw [HVC4.out,if_neg hq]
  have hcb : (reqsC rn E == 0) = false := by simpa using hq
  clear HVC4
  generalize reqsC rn E = rc' at *
  go_wp2
  go_ret
  exact ⟨ret_int HE.out.symm,HB3.out⟩
 rw [hq]
 have HVC5 : Hid (VC = scanC (strC z x y wd ht n A E) 0 rn) := by show _ = _; rw [HVC4.out,if_pos hq]
 clear HVC4 hq
 go_wp2_with fail
 go_loopw [6] (fun v wr => ∃ k : Nat,k ≤ rn ∧ v = .int .i64 k ∧ (∀ j,j < k → strC z x y wd ht n A E j = 0) ∧ Below w.heap.size w wr) (fun v _ => rn - (intOf v).toNat)
 case atStart => exact ⟨0,by omega,rfl,by omega,HB3.out⟩
 case round =>
  obtain ⟨k,hk,rfl,hA,hB⟩ := hrel
  have HB : Hid (Below w.heap.size w wr) := hB
  have HZ : Hid (∀ j,j < k → strC z x y wd ht n A E j = 0) := hA
  have c8 : ∀ W',Below wr.heap.size wr W' → W'.cell? ⟨q,8,none⟩ = some (.slice ra rn rc) := fun W' h => (HV.out.below hql (bl_then HB.out h)).cell 8 rfl
  have c8' := c8 wr (Below.refl _ _)
  clear hA hB HB3
  by_cases hlt : k < rn
  ·have HLT : Hid (k < rn) := hlt
   have first : Hid (strC z x y wd ht n A E k = 8 → VC = 8) := fun hc => by
    rw [HVC5.out,scan_first _ rn 0 k (fun j _ hj => HZ.out j hj) (by omega) (by have := HLT.out; omega) (by rw [hc]; decide),hc]
   have HOK : Hid (strC z x y wd ht n A E k = 0 → ∀ j,j < k + 1 → strC z x y wd ht n A E j = 0) := fun h0 j hj => by
    by_cases e : j = k
    ·rw [e]; exact h0
    ·exact HZ.out j (by omega)
   rcases HR.out with hz | ⟨rb,ro,rfl,hrl,hW⟩
   ·omega
   have e0 : ∀ W',Below wr.heap.size wr W' → W'.cell? ⟨rb,ro + k * 5,none⟩ = some (.int .i64 (E k).z) := fun W' h => ((hW.below (bl_then HB.out h) hrl) k hlt).1
   have e1 : ∀ W',Below wr.heap.size wr W' → W'.cell? ⟨rb,ro + k * 5 + 1,none⟩ = some (.int .i64 (E k).x) := fun W' h => ((hW.below (bl_then HB.out h) hrl) k hlt).2.1
   have e2 : ∀ W',Below wr.heap.size wr W' → W'.cell? ⟨rb,ro + k * 5 + 2,none⟩ = some (.int .i64 (E k).y) := fun W' h => ((hW.below (bl_then HB.out h) hrl) k hlt).2.2.1
   have HSe : Hid (∀ W',Below wr.heap.size wr W' → Calls Tryz.prog 63 #[.pointer (some ⟨q,0,none⟩),refV (E k).z (E k).x (E k).y] W' fun e w' => e = .returned (.bool (seenB z x y wd ht (E k).z (E k).x (E k).y)) ∧ Below W'.heap.size W' w') := fun W' h => l9Seen_of q _ _ _ W' (HV.out.below hql (bl_then HB.out h)).cam HCB.out
   have HAt : Hid (∀ W',Below wr.heap.size wr W' → Calls Tryz.prog 64 #[.pointer (some ⟨q,6,none⟩),refV (E k).z (E k).x (E k).y] W' fun e w' => e = .returned (.int .i64 (atK n A (E k).z (E k).x (E k).y)) ∧ Below W'.heap.size W' w') := fun W' h => l11At_off q 6 s _ n cap A _ _ _ W' ⟨(HV.out.below hql (bl_then HB.out h)).cell 6 rfl,(HV.out.below hql (bl_then HB.out h)).cell 7 rfl⟩ (HA.out.below (bl_then HB.out h)).is hn
   have hi : (k : Int) < (rn : Int) := by omega
   have hi0 : (0 : Int) ≤ (k : Int) := by omega
   have hSt : strC z x y wd ht n A E k = if seenB z x y wd ht (E k).z (E k).x (E k).y = true then (if 0 ≤ atK n A (E k).z (E k).x (E k).y then 8 else 0) else 8 := rfl
   have HSt := (show Hid _ from hSt)
   clear hSt hW
   generalize strC z x y wd ht n A E k = ST at *
   generalize (E k).z = rz at *
   generalize (E k).x = rx at *
   generalize (E k).y = ry at *
   generalize atK n A rz rx ry = AT at *
   generalize seenB z x y wd ht rz rx ry = SN at *
   go_wp2_with fail
   refine wp_region_noPanic ?_
   refine wp_region_held_drew (S := fun W' => Below wr.heap.size wr W') (by kernel_rfl) (by have := Below.refl wr.heap.size wr; exact Qb) (fun hHeld => ?_)
   have hX0 : Below wr.heap.size wr wr.drew := hHeld
   refine takeK (i := 0) (d := some 58) (v := ?va0) rfl rfl (Or.inl ⟨by rfl,?hya0⟩) (by assumption) ?_
   case hya0 => (intro w hSw; (try dsimp only at hSw); go_simp <;> with_reducible rfl)
   try simp only [Act.put,Qx,Qy,Qz]
   refine takeK (i := 1) (d := some 59) (v := ?va1) rfl rfl (Or.inl ⟨by rfl,?hya1⟩) (by assumption) ?_
   case hya1 => (intro w hSw; (try dsimp only at hSw); go_simp <;> with_reducible rfl)
   try simp only [Act.put,Qx,Qy,Qz]
   refine takeK (i := 2) (d := some 60) (v := ?va2) rfl rfl (Or.inl ⟨by rfl,?hya2⟩) (by assumption) ?_
   case hya2 => (intro w hSw; (try dsimp only at hSw); go_simp <;> with_reducible rfl)
   try simp only [Act.put,Qx,Qy,Qz]
   refine takeK (i := 3) (d := some 61) (v := ?va3) rfl rfl (Or.inl ⟨by rfl,?hya3⟩) (by assumption) ?_
   case hya3 => (intro w hSw; (try dsimp only at hSw); go_simp <;> with_reducible rfl)
   try simp only [Act.put,Qx,Qy,Qz]
   refine takeK (i := 4) (d := some 62) (v := ?va4) rfl rfl (Or.inl ⟨by rfl,?hya4⟩) (by assumption) ?_
   case hya4 => (intro w hSw; (try dsimp only at hSw); go_simp <;> with_reducible rfl)
   try simp only [Act.put,Qx,Qy,Qz]
   refine takeK (i := 5) (d := some 63) (v := ?va5) rfl rfl (Or.inl ⟨by rfl,?hya5⟩) (by assumption) ?_
   case hya5 => (intro w hSw; (try dsimp only at hSw); go_simp <;> with_reducible rfl)
   try simp only [Act.put,Qx,Qy,Qz]
   refine takeK (i := 6) (d := some 64) (v := ?va6) rfl rfl (Or.inl ⟨by rfl,?hya6⟩) (by assumption) ?_
   case hya6 => (intro w hSw; (try dsimp only at hSw); go_simp <;> with_reducible rfl)
   try simp only [Act.put,Qx,Qy,Qz]
   refine takeK (i := 7) (d := some 65) (v := ?va7) rfl rfl (Or.inl ⟨by rfl,?hya7⟩) (by assumption) ?_
   case hya7 => (intro w hSw; (try dsimp only at hSw); go_simp <;> with_reducible rfl)
   try simp only [Act.put,Qx,Qy,Qz]
   refine takeK (i := 8) (d := some 66) (v := ?va8) rfl rfl (Or.inl ⟨by rfl,?hya8⟩) (by assumption) ?_
   case hya8 => (intro w hSw; (try dsimp only at hSw); go_simp <;> with_reducible rfl)
   try simp only [Act.put,Qx,Qy,Qz]
   refine takeK (i := 9) (d := some 67) (v := ?va9) rfl rfl (Or.inl ⟨by rfl,?hya9⟩) (by assumption) ?_
   case hya9 => (intro w hSw; (try dsimp only at hSw); go_simp <;> with_reducible rfl)
   try simp only [Act.put,Qx,Qy,Qz]
   refine takeK (i := 10) (d := some 68) (v := ?va10) rfl rfl (Or.inl ⟨by rfl,?hya10⟩) (by assumption) ?_
   case hya10 => (intro w hSw; (try dsimp only at hSw); go_simp <;> with_reducible rfl)
   try simp only [Act.put,Qx,Qy,Qz]
   generalize wr.drew = wk0 at *
   refine wpAnyH_ready (rs := [11]) (by kernel_rfl) (by simp) ?_
   refine (AllReadyH.cons rfl (fun K hK => ?_) AllReadyH.nil)
   rw [if_pos (by rfl)]
   go_simp
   refine Calls.mono (HSe.out _ hX0) ?_
   rintro e wk1 ⟨rfl,hb1⟩
   have hX1 : Below wr.heap.size wr wk1 := bl_then hX0 hb1
   go_wp2_with fail
   refine hK.out _ _ (by assumption) (fun hHeld => ?_)
   clear hK K
   try simp only [Act.put,Qx,Qy,Qz]
   cases SN
   ·have HE : Hid (VC = 8) := first.out (by rw [HSt.out]; rfl)
    refine takeK (i := 12) (d := some 70) (v := ?vb12) rfl rfl (Or.inl ⟨by rfl,?hyb12⟩) (by assumption) ?_
    case hyb12 => (intro w hSw; (try dsimp only at hSw); go_simp <;> with_reducible rfl)
    try simp only [Act.put,Qx,Qy,Qz]
    refine takeK (i := 13) (d := some 71) (v := ?vb13) rfl rfl (Or.inl ⟨by rfl,?hyb13⟩) (by assumption) ?_
    case hyb13 => (intro w hSw; (try dsimp only at hSw); go_simp <;> with_reducible rfl)
    try simp only [Act.put,Qx,Qy,Qz]
    refine passK (i := 14) (d := some 72) rfl rfl (by rfl) (by assumption) ?_
    try simp only [Act.put,Qx,Qy,Qz]
    refine passK (i := 15) (d := some 73) rfl rfl (by rfl) (by assumption) ?_
    try simp only [Act.put,Qx,Qy,Qz]
    refine passK (i := 16) (d := some 74) rfl rfl (by rfl) (by assumption) ?_
    try simp only [Act.put,Qx,Qy,Qz]
    refine passK (i := 17) (d := some 75) rfl rfl (by rfl) (by assumption) ?_
    try simp only [Act.put,Qx,Qy,Qz]
    refine passK (i := 18) (d := some 76) rfl rfl (by rfl) (by assumption) ?_
    try simp only [Act.put,Qx,Qy,Qz]
    refine passK (i := 19) (d := some 77) rfl rfl (by rfl) (by assumption) ?_
    try simp only [Act.put,Qx,Qy,Qz]
    refine passK (i := 20) (d := some 78) rfl rfl (by rfl) (by assumption) ?_
    try simp only [Act.put,Qx,Qy,Qz]
    refine passK (i := 21) (d := some 79) rfl rfl (by rfl) (by assumption) ?_
    try simp only [Act.put,Qx,Qy,Qz]
    refine passK (i := 22) (d := some 80) rfl rfl (by rfl) (by assumption) ?_
    try simp only [Act.put,Qx,Qy,Qz]
    refine passK (i := 23) (d := some 81) rfl rfl (by rfl) (by assumption) ?_
    try simp only [Act.put,Qx,Qy,Qz]
    refine passK (i := 24) (d := some 82) rfl rfl (by rfl) (by assumption) ?_
    try simp only [Act.put,Qx,Qy,Qz]
    refine passK (i := 25) (d := some 83) rfl rfl (by rfl) (by assumption) ?_
    try simp only [Act.put,Qx,Qy,Qz]
    refine passK (i := 26) (d := some 84) rfl rfl (by rfl) (by assumption) ?_
    try simp only [Act.put,Qx,Qy,Qz]
    refine takeK (i := 27) (d := some 85) (v := ?vb27) rfl rfl (Or.inl ⟨by rfl,?hyb27⟩) (by assumption) ?_
    case hyb27 => (intro w hSw; (try dsimp only at hSw); go_simp <;> with_reducible rfl)
    try simp only [Act.put,Qx,Qy,Qz]
    refine wpAnyH_done (by kernel_rfl) ?_ _
    refine NoPanic.normal ?_
    have HB9 : Hid (Below w.heap.size w wk1) := bl_then HB.out hX1
    clear c8 e0 e1 e2 c8' hX0 hb1 hX1
    go_wp2
    go_ret
    exact ⟨ret_int HE.out.symm,HB9.out⟩
   ·have HSt2 : Hid (ST = if 0 ≤ AT then 8 else 0) := by show _ = _; rw [HSt.out]; rfl
    refine takeK (i := 12) (d := some 70) (v := ?vc12) rfl rfl (Or.inl ⟨by rfl,?hyc12⟩) (by assumption) ?_
    case hyc12 => (intro w hSw; (try dsimp only at hSw); go_simp <;> with_reducible rfl)
    try simp only [Act.put,Qx,Qy,Qz]
    refine takeK (i := 13) (d := some 71) (v := ?vc13) rfl rfl (Or.inl ⟨by rfl,?hyc13⟩) (by assumption) ?_
    case hyc13 => (intro w hSw; (try dsimp only at hSw); go_simp <;> with_reducible rfl)
    try simp only [Act.put,Qx,Qy,Qz]
    refine takeK (i := 14) (d := some 72) (v := ?vc14) rfl rfl (Or.inl ⟨by rfl,?hyc14⟩) (by assumption) ?_
    case hyc14 => (intro w hSw; (try dsimp only at hSw); go_simp <;> with_reducible rfl)
    try simp only [Act.put,Qx,Qy,Qz]
    refine takeK (i := 15) (d := some 73) (v := ?vc15) rfl rfl (Or.inl ⟨by rfl,?hyc15⟩) (by assumption) ?_
    case hyc15 => (intro w hSw; (try dsimp only at hSw); go_simp <;> with_reducible rfl)
    try simp only [Act.put,Qx,Qy,Qz]
    refine takeK (i := 16) (d := some 74) (v := ?vc16) rfl rfl (Or.inl ⟨by rfl,?hyc16⟩) (by assumption) ?_
    case hyc16 => (intro w hSw; (try dsimp only at hSw); go_simp <;> with_reducible rfl)
    try simp only [Act.put,Qx,Qy,Qz]
    refine takeK (i := 17) (d := some 75) (v := ?vc17) rfl rfl (Or.inl ⟨by rfl,?hyc17⟩) (by assumption) ?_
    case hyc17 => (intro w hSw; (try dsimp only at hSw); go_simp <;> with_reducible rfl)
    try simp only [Act.put,Qx,Qy,Qz]
    refine takeK (i := 18) (d := some 76) (v := ?vc18) rfl rfl (Or.inl ⟨by rfl,?hyc18⟩) (by assumption) ?_
    case hyc18 => (intro w hSw; (try dsimp only at hSw); go_simp <;> with_reducible rfl)
    try simp only [Act.put,Qx,Qy,Qz]
    refine takeK (i := 19) (d := some 77) (v := ?vc19) rfl rfl (Or.inl ⟨by rfl,?hyc19⟩) (by assumption) ?_
    case hyc19 => (intro w hSw; (try dsimp only at hSw); go_simp <;> with_reducible rfl)
    try simp only [Act.put,Qx,Qy,Qz]
    refine takeK (i := 20) (d := some 78) (v := ?vc20) rfl rfl (Or.inl ⟨by rfl,?hyc20⟩) (by assumption) ?_
    case hyc20 => (intro w hSw; (try dsimp only at hSw); go_simp <;> with_reducible rfl)
    try simp only [Act.put,Qx,Qy,Qz]
    refine takeK (i := 21) (d := some 79) (v := ?vc21) rfl rfl (Or.inl ⟨by rfl,?hyc21⟩) (by assumption) ?_
    case hyc21 => (intro w hSw; (try dsimp only at hSw); go_simp <;> with_reducible rfl)
    try simp only [Act.put,Qx,Qy,Qz]
    refine takeK (i := 22) (d := some 80) (v := ?vc22) rfl rfl (Or.inl ⟨by rfl,?hyc22⟩) (by assumption) ?_
    case hyc22 => (intro w hSw; (try dsimp only at hSw); go_simp <;> with_reducible rfl)
    try simp only [Act.put,Qx,Qy,Qz]
    refine takeK (i := 23) (d := some 81) (v := ?vc23) rfl rfl (Or.inl ⟨by rfl,?hyc23⟩) (by assumption) ?_
    case hyc23 => (intro w hSw; (try dsimp only at hSw); go_simp <;> with_reducible rfl)
    try simp only [Act.put,Qx,Qy,Qz]
    refine takeK (i := 24) (d := some 82) (v := ?vc24) rfl rfl (Or.inl ⟨by rfl,?hyc24⟩) (by assumption) ?_
    case hyc24 => (intro w hSw; (try dsimp only at hSw); go_simp <;> with_reducible rfl)
    try simp only [Act.put,Qx,Qy,Qz]
    refine wpAnyH_ready (rs := [25]) (by kernel_rfl) (by simp) ?_
    refine (AllReadyH.cons rfl (fun K hK => ?_) AllReadyH.nil)
    rw [if_pos (by rfl)]
    go_simp
    refine Calls.mono (HAt.out _ hX1) ?_
    rintro e wk2 ⟨rfl,hb2⟩
    have hX2 : Below wr.heap.size wr wk2 := bl_then hX1 hb2
    go_wp2_with fail
    refine hK.out _ _ (by assumption) (fun hHeld => ?_)
    clear hK K
    try simp only [Act.put,Qx,Qy,Qz]
    have HB9 : Hid (Below w.heap.size w wk2) := bl_then HB.out hX2
    by_cases hat : 0 ≤ AT
    ·have HE : Hid (VC = 8) := first.out (by rw [HSt2.out,if_pos hat])
     refine takeK (i := 26) (d := some 84) (v := ?ve26) rfl rfl (Or.inl ⟨by rfl,?hye26⟩) (by assumption) ?_
     case hye26 => (intro w hSw; (try dsimp only at hSw); go_simp <;> with_reducible rfl)
     try simp only [Act.put,Qx,Qy,Qz]
     refine takeK (i := 27) (d := some 85) (v := ?ve27) rfl rfl (Or.inl ⟨by rfl,?hye27⟩) (by assumption) ?_
     case hye27 => (intro w hSw; (try dsimp only at hSw); go_simp <;> with_reducible rfl)
     try simp only [Act.put,Qx,Qy,Qz]
     refine wpAnyH_done (by kernel_rfl) ?_ _
     refine NoPanic.normal ?_
     clear c8 e0 e1 e2 c8' hX0 hb1 hX1 hb2 hX2
     go_wp2
     go_ret
     exact ⟨ret_int HE.out.symm,HB9.out⟩
    ·have HE : Hid (ST = 0) := by show _ = _; rw [HSt2.out,if_neg hat]
     refine takeK (i := 26) (d := some 84) (v := ?vg26) rfl rfl (Or.inl ⟨by rfl,?hyg26⟩) (by assumption) ?_
     case hyg26 => (intro w hSw; (try dsimp only at hSw); go_simp <;> with_reducible rfl)
     try simp only [Act.put,Qx,Qy,Qz]
     refine takeK (i := 27) (d := some 85) (v := ?vg27) rfl rfl (Or.inl ⟨by rfl,?hyg27⟩) (by assumption) ?_
     case hyg27 => (intro w hSw; (try dsimp only at hSw); go_simp <;> with_reducible rfl)
     try simp only [Act.put,Qx,Qy,Qz]
     refine wpAnyH_done (by kernel_rfl) ?_ _
     refine NoPanic.normal ?_
     clear c8 e0 e1 e2 c8' hX0 hb1 hX1 hb2 hX2
     go_wp2_with fail
     go_roundw
     case rel => exact ⟨k + 1,by have := HLT.out; omega,by go_num,HOK.out HE.out,HB9.out⟩
     case measure => have := HLT.out; simp [intOf]; omega
  ·have HE : Hid (VC = 0) := by
    show _ = _
    rw [HVC5.out]
    exact scan_none _ _ _ (fun j _ hj => HZ.out j (by omega))
   obtain rfl : rn = k := by omega
   go_wp2
   go_ret
   exact ⟨ret_int HE.out.symm,HB.out⟩
end Go.Proofs.YtiephlohemphjaaGreat
