/- Several texts in one. -/
import Derived.Test.YtbdhhclamgmfkaaGreatVMissingIn25
import Derived.Test.YtbdhhclamgmfkaaGreatVMissingIn43
import Derived.Test.YtbdhhclamgmfkaaGreatVMissingIn39
import Derived.Test.YtbdhhclamgmfkaaGreatVMissingIn22
import Derived.Test.YtbdhhclamgmfkaaGreatVMissingIn15
import Derived.Test.YtbdhhclamgmfkaaGreatVMissingIn18
import Derived.Test.YtbdhhclamgmfkaaGreatVMissingIn37
import Derived.Test.YtbdhhclamgmfkaaGreatVMissingIn14
import Derived.Test.YtbdhhclamgmfkaaGreatVMissingIn36
import Derived.Test.YtbdhhclamgmfkaaGreatVMissingIn42

/- Viewers in memory that may be marked, and their marks. -/

namespace Go.Proofs.YtbdhhclamgmfkaaGreat
open Go.RowKit
set_option linter.unusedSimpArgs false
set_option linter.unusedVariables false
set_option maxRecDepth 100000

/-- The lists of a viewer lie between two blocks and may be written: its tiles ahead of its requests. -/
def VkW (w : World) (lo hi b n : Nat) (A : Nat → Kp) (rb rn : Nat) : Prop := ∃ M, lo ≤ b ∧ KsW w b n A M ∧ M n ≤ rb ∧ rb < hi ∧ hi ≤ w.heap.size ∧ There w rb (rn * 5)
theorem VkW.below {w w' : World} {lo hi b n rb rn : Nat} {A : Nat → Kp} (h : VkW w lo hi b n A rb rn) (hb : Below w.heap.size w w') : VkW w' lo hi b n A rb rn := by
  obtain ⟨M, h1, h2, h3, h4, h5, h6⟩ := h
  exact ⟨M, h1, h2.below hb, h3, h4, Nat.le_trans h5 hb.size, h6.below hb⟩
set_option maxHeartbeats 8000000 in
theorem toViewer_own (z x y wd ht now s : Int) (a : Option Addr) (n cap : Nat) (K : Nat → Kp) (ra : Option Addr) (rn rc : Nat) (E : Nat → Req) (bad : Int) (w : World) (hk : IsKs w a n K) (hs : SmallKs n K) (hr : IsWs w ra rn E) (hrn : rn ≤ 1048576) :
    Calls Tryz.prog 8 #[vwV z x y wd ht now s (.slice a n cap) (.slice ra rn rc) bad] w fun e w' => ∃ b A rb, e = .returned (vwV z x y wd ht now s (.slice (some ⟨b, 0, none⟩) n n) (.slice (some ⟨rb, 0, none⟩) rn rn) bad) ∧ w.heap.size ≤ b ∧ w.heap.size ≤ rb ∧ OwnV w' b n K A rb rn E ∧ VkW w' w.heap.size w'.heap.size b n A rb rn ∧ Below w.heap.size w w' := by
  have HP : Hid (IsKs w a n K) := hk
  have HS : Hid (SmallKs n K) := hs
  have HR : Hid (IsWs w ra rn E) := hr
  clear hk hs hr
  go_enter Tryz.func8, Tryz.ntmps8
  go_wp2_with fail
  generalize hW : (((w.alloc _).alloc _).alloc _ : World) = W
  have HB0 : Hid (Below w.heap.size w W) := by show Below _ _ _; subst hW; (repeat (first | exact Below.refl _ _ | assumption | refine Below.drew ?_ | refine bl_alloc ?_ _ | refine bl_then ?_ (by assumption) | refine Below.setCell ?_ (by first | omega | (simp; done) | (simp; omega)) _ | refine bl_store ?_ ?_ _ _))
  have HV : Hid (Blk W w.heap.size [.int .i64 z, .int .i64 x, .int .i64 y, .int .i64 wd, .int .i64 ht, .int .i64 now, .int .i64 s, .slice a n cap, .slice ra rn rc, .int .i64 bad]) := by
    show Blk _ _ _; subst hW
    exact ((Blk.new w _ _).alloc (by simp) _).alloc (by simp; omega) _
  have HU : Hid (Blk W (w.heap.size + 1) [.int .i64 0, .int .i64 0, .int .i64 0, .int .i64 0, .int .i64 0, .int .i64 0, .int .i64 0, .slice none 0 0, .slice none 0 0, .int .i64 0]) := by
    show Blk _ _ _; subst hW
    have := (Blk.new (w.alloc (.cells #[.int .i64 z, .int .i64 x, .int .i64 y, .int .i64 wd, .int .i64 ht, .int .i64 now, .int .i64 s, .slice a n cap, .slice ra rn rc, .int .i64 bad] 29)) [.int .i64 0, .int .i64 0, .int .i64 0, .int .i64 0, .int .i64 0, .int .i64 0, .int .i64 0, .slice none 0 0, .slice none 0 0, .int .i64 0] 41).alloc (by simp) (.cells #[.int .i64 0, .int .i64 0, .int .i64 0, .int .i64 0, .int .i64 0, .int .i64 0, .int .i64 0, .slice none 0 0, .slice none 0 0, .int .i64 0] 41)
    simpa using this
  have HO : Hid (Blk W (w.heap.size + 1 + 1) [.int .i64 0, .int .i64 0, .int .i64 0, .int .i64 0, .int .i64 0, .int .i64 0, .int .i64 0, .slice none 0 0, .slice none 0 0, .int .i64 0]) := by
    show Blk _ _ _; subst hW
    have := Blk.new ((w.alloc (.cells #[.int .i64 z, .int .i64 x, .int .i64 y, .int .i64 wd, .int .i64 ht, .int .i64 now, .int .i64 s, .slice a n cap, .slice ra rn rc, .int .i64 bad] 29)).alloc (.cells #[.int .i64 0, .int .i64 0, .int .i64 0, .int .i64 0, .int .i64 0, .int .i64 0, .int .i64 0, .slice none 0 0, .slice none 0 0, .int .i64 0] 41)) [.int .i64 0, .int .i64 0, .int .i64 0, .int .i64 0, .int .i64 0, .int .i64 0, .int .i64 0, .slice none 0 0, .slice none 0 0, .int .i64 0] 41
    simpa using this
  clear hW
  refine (toCamera_any z x y wd ht W).mono ?_
  rintro e w1 ⟨rfl, hb1⟩
  have HB1 : Hid (Below w.heap.size w w1) := bl_then HB0.out hb1
  have HV1 : Hid (Blk w1 w.heap.size [.int .i64 z, .int .i64 x, .int .i64 y, .int .i64 wd, .int .i64 ht, .int .i64 now, .int .i64 s, .slice a n cap, .slice ra rn rc, .int .i64 bad]) := HV.out.below HV.out.lt hb1
  have HU1 : Hid (Blk w1 (w.heap.size + 1) [.int .i64 0, .int .i64 0, .int .i64 0, .int .i64 0, .int .i64 0, .int .i64 0, .int .i64 0, .slice none 0 0, .slice none 0 0, .int .i64 0]) := HU.out.below HU.out.lt hb1
  have hO1 := HO.out.below HO.out.lt hb1
  have HO1 : Hid (Blk w1 (w.heap.size + 1 + 1) [.int .i64 0, .int .i64 0, .int .i64 0, .int .i64 0, .int .i64 0, .int .i64 0, .int .i64 0, .slice none 0 0, .slice none 0 0, .int .i64 0]) := hO1
  have d0 := HV1.out.cell 0 rfl
  have d1 := HV1.out.cell 1 rfl
  have d2 := HV1.out.cell 2 rfl
  have d3 := HV1.out.cell 3 rfl
  have d4 := HV1.out.cell 4 rfl
  have d5 := HV1.out.cell 5 rfl
  have d6 := HV1.out.cell 6 rfl
  have d7 := HV1.out.cell 7 rfl
  have d8 := HV1.out.cell 8 rfl
  have d9 := HV1.out.cell 9 rfl
  have t0 := hO1.cell 0 rfl
  have t1 := hO1.cell 1 rfl
  have t2 := hO1.cell 2 rfl
  have t3 := hO1.cell 3 rfl
  have t4 := hO1.cell 4 rfl
  have t5 := hO1.cell 5 rfl
  have t6 := hO1.cell 6 rfl
  have t7 := hO1.cell 7 rfl
  have t8 := hO1.cell 8 rfl
  have t9 := hO1.cell 9 rfl
  have f0 := hO1.free 0 rfl
  have f1 := hO1.free 1 rfl
  have f2 := hO1.free 2 rfl
  have f3 := hO1.free 3 rfl
  have f4 := hO1.free 4 rfl
  have f5 := hO1.free 5 rfl
  have f6 := hO1.free 6 rfl
  have f7 := hO1.free 7 rfl
  have f8 := hO1.free 8 rfl
  have f9 := hO1.free 9 rfl
  clear hb1 hO1 HV HU HO HB0
  go_wp2_with fail
  generalize hW2 : (World.setCell _ _ _ : World) = W2
  have HB2 : Hid (Below w.heap.size w W2) := by show Below _ _ _; subst hW2; exact ((((((HB1.out.setCell (le2 _) _).setCell (le2 _) _).setCell (le2 _) _).setCell (le2 _) _).setCell (le2 _) _).setCell (le2 _) _)
  have HV2 : Hid (Blk W2 w.heap.size [.int .i64 z, .int .i64 x, .int .i64 y, .int .i64 wd, .int .i64 ht, .int .i64 now, .int .i64 s, .slice a n cap, .slice ra rn rc, .int .i64 bad]) := by show Blk _ _ _; subst hW2; exact ((((((HV1.out.other (by omega)).other (by omega)).other (by omega)).other (by omega)).other (by omega)).other (by omega))
  have HU2 : Hid (Blk W2 (w.heap.size + 1) [.int .i64 0, .int .i64 0, .int .i64 0, .int .i64 0, .int .i64 0, .int .i64 0, .int .i64 0, .slice none 0 0, .slice none 0 0, .int .i64 0]) := by show Blk _ _ _; subst hW2; exact ((((((HU1.out.other (by omega)).other (by omega)).other (by omega)).other (by omega)).other (by omega)).other (by omega))
  have HO2 : Hid (Blk W2 (w.heap.size + 1 + 1) [.int .i64 z, .int .i64 x, .int .i64 y, .int .i64 wd, .int .i64 ht, .int .i64 now, .int .i64 0, .slice none 0 0, .slice none 0 0, .int .i64 0]) := by show Blk _ _ _; subst hW2; exact ((((((HO1.out.set 0 _).set 1 _).set 2 _).set 3 _).set 4 _).set 5 _)
  clear hW2 HV1 HU1 HO1 HB1
  clear d0 t0 f0
  clear d1 t1 f1
  clear d2 t2 f2
  clear d3 t3 f3
  clear d4 t4 f4
  clear d5 t5 f5
  clear d6 t6 f6
  clear d7 t7 f7
  clear d8 t8 f8
  clear d9 t9 f9
  refine (toCache_own s a n cap K W2 (HP.out.below HB2.out) HS.out).mono ?_
  rintro e w3 ⟨b, A, rfl, hge3, hOK3, ⟨M, hKW3⟩, hb3⟩
  have HKW3 : Hid (KsW w3 b n A M) := hKW3
  clear hKW3
  have hbb : w.heap.size + 1 + 1 < b := Nat.lt_of_lt_of_le HO2.out.lt hge3
  have HK3 : Hid (OwnKs w3 (b + 1) b n K A) := hOK3
  have HB3 : Hid (Below w.heap.size w w3) := bl_then HB2.out hb3
  have HV3 : Hid (Blk w3 w.heap.size [.int .i64 z, .int .i64 x, .int .i64 y, .int .i64 wd, .int .i64 ht, .int .i64 now, .int .i64 s, .slice a n cap, .slice ra rn rc, .int .i64 bad]) := HV2.out.below HV2.out.lt hb3
  have HU3 : Hid (Blk w3 (w.heap.size + 1) [.int .i64 0, .int .i64 0, .int .i64 0, .int .i64 0, .int .i64 0, .int .i64 0, .int .i64 0, .slice none 0 0, .slice none 0 0, .int .i64 0]) := HU2.out.below HU2.out.lt hb3
  have hO3 := HO2.out.below HO2.out.lt hb3
  have HO3 : Hid (Blk w3 (w.heap.size + 1 + 1) [.int .i64 z, .int .i64 x, .int .i64 y, .int .i64 wd, .int .i64 ht, .int .i64 now, .int .i64 0, .slice none 0 0, .slice none 0 0, .int .i64 0]) := hO3
  have d0 := HV3.out.cell 0 rfl
  have d1 := HV3.out.cell 1 rfl
  have d2 := HV3.out.cell 2 rfl
  have d3 := HV3.out.cell 3 rfl
  have d4 := HV3.out.cell 4 rfl
  have d5 := HV3.out.cell 5 rfl
  have d6 := HV3.out.cell 6 rfl
  have d7 := HV3.out.cell 7 rfl
  have d8 := HV3.out.cell 8 rfl
  have d9 := HV3.out.cell 9 rfl
  have t0 := hO3.cell 0 rfl
  have t1 := hO3.cell 1 rfl
  have t2 := hO3.cell 2 rfl
  have t3 := hO3.cell 3 rfl
  have t4 := hO3.cell 4 rfl
  have t5 := hO3.cell 5 rfl
  have t6 := hO3.cell 6 rfl
  have t7 := hO3.cell 7 rfl
  have t8 := hO3.cell 8 rfl
  have t9 := hO3.cell 9 rfl
  have f0 := hO3.free 0 rfl
  have f1 := hO3.free 1 rfl
  have f2 := hO3.free 2 rfl
  have f3 := hO3.free 3 rfl
  have f4 := hO3.free 4 rfl
  have f5 := hO3.free 5 rfl
  have f6 := hO3.free 6 rfl
  have f7 := hO3.free 7 rfl
  have f8 := hO3.free 8 rfl
  have f9 := hO3.free 9 rfl
  clear hb3 hO3 hOK3 HV2 HU2 HO2 HB2 hge3
  go_wp2_with fail
  generalize hW4 : (World.setCell _ _ _ : World) = W4
  have HB4 : Hid (Below w.heap.size w W4) := by show Below _ _ _; subst hW4; exact ((HB3.out.setCell (le2 _) _).setCell (le2 _) _)
  have HV4 : Hid (Blk W4 w.heap.size [.int .i64 z, .int .i64 x, .int .i64 y, .int .i64 wd, .int .i64 ht, .int .i64 now, .int .i64 s, .slice a n cap, .slice ra rn rc, .int .i64 bad]) := by show Blk _ _ _; subst hW4; exact ((HV3.out.other (by omega)).other (by omega))
  have HU4 : Hid (Blk W4 (w.heap.size + 1) [.int .i64 0, .int .i64 0, .int .i64 0, .int .i64 0, .int .i64 0, .int .i64 0, .int .i64 0, .slice none 0 0, .slice none 0 0, .int .i64 0]) := by show Blk _ _ _; subst hW4; exact ((HU3.out.other (by omega)).other (by omega))
  have HO4 : Hid (Blk W4 (w.heap.size + 1 + 1) [.int .i64 z, .int .i64 x, .int .i64 y, .int .i64 wd, .int .i64 ht, .int .i64 now, .int .i64 s, .slice (some ⟨b, 0, none⟩) n n, .slice none 0 0, .int .i64 0]) := by show Blk _ _ _; subst hW4; exact ((HO3.out.set 6 _).set 7 _)
  have HM4 : Hid (MidB w.heap.size (w.heap.size + 1 + 1 + 1) w3 W4) := by show MidB _ _ _ _; subst hW4; exact (((MidB.refl _ _ _).set (by omega) (by omega) _ _).set (by omega) (by omega) _ _)
  have HK4 : Hid (OwnKs W4 (b + 1) b n K A) := HK3.out.mid (C := 0) HM4.out (by omega)
  have HKW4 : Hid (KsW W4 b n A M) := HKW3.out.mid HM4.out (.inl (by omega))
  clear hW4 HV3 HU3 HO3 HB3 HK3 HM4 HKW3
  clear d0 t0 f0
  clear d1 t1 f1
  clear d2 t2 f2
  clear d3 t3 f3
  clear d4 t4 f4
  clear d5 t5 f5
  clear d6 t6 f6
  clear d7 t7 f7
  clear d8 t8 f8
  clear d9 t9 f9
  refine (toRequestS_any ra rn rc E W4 (HR.out.below HB4.out) hrn).mono ?_
  rintro e w5 ⟨rb, rfl, hge5, hlt5, hW5, hT5, hb5⟩
  have HT5 : Hid (There w5 rb (rn * 5)) := hT5
  have hMr : M n ≤ rb := Nat.le_trans HKW4.out.2.2.2 hge5
  have HKW5 : Hid (KsW w5 b n A M) := HKW4.out.below hb5
  clear hT5 HKW4
  have hrb : w.heap.size + 1 + 1 < rb := Nat.lt_of_lt_of_le HO4.out.lt hge5
  have HW5 : Hid (WsAt w5 rb 0 rn E) := hW5
  have HK5 : Hid (OwnKs w5 (b + 1) b n K A) := HK4.out.below hb5
  have HB5 : Hid (Below w.heap.size w w5) := bl_then HB4.out hb5
  have HV5 : Hid (Blk w5 w.heap.size [.int .i64 z, .int .i64 x, .int .i64 y, .int .i64 wd, .int .i64 ht, .int .i64 now, .int .i64 s, .slice a n cap, .slice ra rn rc, .int .i64 bad]) := HV4.out.below HV4.out.lt hb5
  have hU5 := HU4.out.below HU4.out.lt hb5
  have HU5 : Hid (Blk w5 (w.heap.size + 1) [.int .i64 0, .int .i64 0, .int .i64 0, .int .i64 0, .int .i64 0, .int .i64 0, .int .i64 0, .slice none 0 0, .slice none 0 0, .int .i64 0]) := hU5
  have hO5 := HO4.out.below HO4.out.lt hb5
  have HO5 : Hid (Blk w5 (w.heap.size + 1 + 1) [.int .i64 z, .int .i64 x, .int .i64 y, .int .i64 wd, .int .i64 ht, .int .i64 now, .int .i64 s, .slice (some ⟨b, 0, none⟩) n n, .slice none 0 0, .int .i64 0]) := hO5
  have d9 := HV5.out.cell 9 rfl
  have t0 := hO5.cell 0 rfl
  have t1 := hO5.cell 1 rfl
  have t2 := hO5.cell 2 rfl
  have t3 := hO5.cell 3 rfl
  have t4 := hO5.cell 4 rfl
  have t5 := hO5.cell 5 rfl
  have t6 := hO5.cell 6 rfl
  have t7 := hO5.cell 7 rfl
  have t8 := hO5.cell 8 rfl
  have t9 := hO5.cell 9 rfl
  have f0 := hO5.free 0 rfl
  have f1 := hO5.free 1 rfl
  have f2 := hO5.free 2 rfl
  have f3 := hO5.free 3 rfl
  have f4 := hO5.free 4 rfl
  have f5 := hO5.free 5 rfl
  have f6 := hO5.free 6 rfl
  have f7 := hO5.free 7 rfl
  have f8 := hO5.free 8 rfl
  have f9 := hO5.free 9 rfl
  have u0 := hU5.cell 0 rfl
  have u1 := hU5.cell 1 rfl
  have u2 := hU5.cell 2 rfl
  have u3 := hU5.cell 3 rfl
  have u4 := hU5.cell 4 rfl
  have u5 := hU5.cell 5 rfl
  have u6 := hU5.cell 6 rfl
  have u7 := hU5.cell 7 rfl
  have u8 := hU5.cell 8 rfl
  have u9 := hU5.cell 9 rfl
  have g0 := hU5.free 0 rfl
  have g1 := hU5.free 1 rfl
  have g2 := hU5.free 2 rfl
  have g3 := hU5.free 3 rfl
  have g4 := hU5.free 4 rfl
  have g5 := hU5.free 5 rfl
  have g6 := hU5.free 6 rfl
  have g7 := hU5.free 7 rfl
  have g8 := hU5.free 8 rfl
  have g9 := hU5.free 9 rfl
  clear hb5 hO5 hU5 hW5 HV4 HU4 HO4 HB4 HK4 hge5
  go_wp2_with fail
  generalize hW6 : (World.setCell _ _ _ : World) = W6
  have HB6 : Hid (Below w.heap.size w W6) := by show Below _ _ _; subst hW6; exact ((((((((((((HB5.out.setCell (le2 _) _).setCell (le2 _) _).setCell (Nat.le_succ _) _).setCell (Nat.le_succ _) _).setCell (Nat.le_succ _) _).setCell (Nat.le_succ _) _).setCell (Nat.le_succ _) _).setCell (Nat.le_succ _) _).setCell (Nat.le_succ _) _).setCell (Nat.le_succ _) _).setCell (Nat.le_succ _) _).setCell (Nat.le_succ _) _)
  have HU6 : Hid (Blk W6 (w.heap.size + 1) [.int .i64 z, .int .i64 x, .int .i64 y, .int .i64 wd, .int .i64 ht, .int .i64 now, .int .i64 s, .slice (some ⟨b, 0, none⟩) n n, .slice (some ⟨rb, 0, none⟩) rn rn, .int .i64 bad]) := by show Blk _ _ _; subst hW6; exact ((((((((((((HU5.out.other (by omega)).other (by omega)).set 0 _).set 1 _).set 2 _).set 3 _).set 4 _).set 5 _).set 6 _).set 7 _).set 8 _).set 9 _)
  have HM6 : Hid (MidB w.heap.size (w.heap.size + 1 + 1 + 1) w5 W6) := by show MidB _ _ _ _; subst hW6; exact (((((((((((((MidB.refl _ _ _).set (by omega) (by omega) _ _).set (by omega) (by omega) _ _).set (by omega) (by omega) _ _).set (by omega) (by omega) _ _).set (by omega) (by omega) _ _).set (by omega) (by omega) _ _).set (by omega) (by omega) _ _).set (by omega) (by omega) _ _).set (by omega) (by omega) _ _).set (by omega) (by omega) _ _).set (by omega) (by omega) _ _).set (by omega) (by omega) _ _)
  clear hW6
  refine bodyPost_ret (resTV rfl HU6.out) rfl ⟨b, A, rb, rfl, by omega, by omega, ⟨HK5.out.mid (C := 0) HM6.out (by omega), Nat.lt_of_lt_of_le hlt5 HM6.out.size, fun i hi => ?_⟩, ⟨M, by omega, HKW5.out.mid HM6.out (.inl (by omega)), hMr, Nat.lt_of_lt_of_le hlt5 HM6.out.size, Nat.le_refl _, HM6.out.there HT5.out (.inr (by omega))⟩, HB6.out⟩
  obtain ⟨q0, q1, q2, q3, q4⟩ := HW5.out i hi
  exact ⟨HM6.out.cell q0 (.inr (by omega)), HM6.out.cell q1 (.inr (by omega)), HM6.out.cell q2 (.inr (by omega)), HM6.out.cell q3 (.inr (by omega)), HM6.out.cell q4 (.inr (by omega))⟩
set_option maxHeartbeats 2000000 in
theorem markCacheV_any (s : Int) (g n cap k0 : Nat) (R : Nat → Kp) (M : Nat → Nat) (w : World) (hW : KsW w g n R M) (hs : SmallKs n R) (h0 : 0 < k0) (hk0 : k0 ≤ 1000000000) :
    Calls Tryz.prog 35 #[caV s (.slice (some ⟨g, 0, none⟩) n cap), .int .i64 (k0 : Int)] w fun e w' => e = .returned (.int .i64 ((kK R k0 n : Nat) : Int)) ∧ KsM w' g n R M k0 ∧ MidB g (M n) w w' := by
  have HM : Hid (∀ V, Below w.heap.size w V → Calls Tryz.prog 66 #[.slice (some ⟨g, 0, none⟩) n cap, .int .i64 (k0 : Int)] V fun e w' => e = .returned (.int .i64 ((kK R k0 n : Nat) : Int)) ∧ KsM w' g n R M k0 ∧ MidB g (M n) V w') := fun V h => markKeptS_any g n cap k0 R M V (hW.below h) hs h0 hk0
  clear hW hs h0 hk0
  generalize hq : kK R k0 n = q at *
  go_enter Tryz.func35, Tryz.ntmps35
  go_wp2_with fail
  generalize hV : (w.alloc _ : World) = V
  have HB : Hid (Below w.heap.size w V) := by show Below _ _ _; subst hV; (repeat (first | exact Below.refl _ _ | assumption | refine Below.drew ?_ | refine bl_alloc ?_ _ | refine bl_then ?_ (by assumption) | refine Below.setCell ?_ (by first | omega | (simp; done) | (simp; omega)) _ | refine bl_store ?_ ?_ _ _))
  clear hV
  refine Calls.mono (HM.out V HB.out) ?_
  rintro e w1 ⟨rfl, h1, h2⟩
  have H1 : Hid (KsM w1 g n R M k0) := h1
  have H2 : Hid (MidB g (M n) w w1) := (MidB.of_below HB.out).trans h2
  clear h1 h2
  go_wp2
  go_ret
  exact ⟨rfl, H1.out, H2.out⟩
set_option maxHeartbeats 4000000 in
theorem markViewer_any (z x y wd ht now s : Int) (lo hi b n : Nat) (A : Nat → Kp) (rb rn : Nat) (bad : Int) (w : World) (h : VkW w lo hi b n A rb rn) (hs : SmallKs n A) (hrn : rn ≤ 1048576) :
    Calls Tryz.prog 12 #[vwV z x y wd ht now s (.slice (some ⟨b, 0, none⟩) n n) (.slice (some ⟨rb, 0, none⟩) rn rn) bad, .int .i64 1] w fun e w' => (∃ q : Nat, e = .returned (.int .i64 (q : Int))) ∧ MidB lo hi w w' := by
  obtain ⟨M, h1, h2, h3, h4, h5, h6⟩ := h
  have hsm := (kK_small (k0 := 1) hs (by omega) (Nat.le_refl n)).2
  have hbM : b < M 0 ∧ M 0 ≤ M n := ⟨h2.2.1, upM (fun j hj => (h2.2.2.1 j hj).1) (Nat.zero_le n) (Nat.le_refl _)⟩
  have HM : Hid (∀ V, Below w.heap.size w V → Calls Tryz.prog 35 #[caV s (.slice (some ⟨b, 0, none⟩) n n), .int .i64 1] V fun e w' => e = .returned (.int .i64 ((kK A 1 n : Nat) : Int)) ∧ KsM w' b n A M 1 ∧ MidB b (M n) V w') := fun V h => markCacheV_any s b n n 1 A M V (h2.below h) hs (by omega) (by omega)
  have HT : Hid (There w rb (rn * 5)) := h6
  clear h2 h6 hs
  generalize hq : kK A 1 n = Q at *
  clear hq
  go_enter Tryz.func12, Tryz.ntmps12
  go_wp2_with fail
  generalize hV : (w.alloc _ : World) = V
  have HB : Hid (Below w.heap.size w V) := by show Below _ _ _; subst hV; (repeat (first | exact Below.refl _ _ | assumption | refine Below.drew ?_ | refine bl_alloc ?_ _ | refine bl_then ?_ (by assumption) | refine Below.setCell ?_ (by first | omega | (simp; done) | (simp; omega)) _ | refine bl_store ?_ ?_ _ _))
  have HBk : Hid (Blk V w.heap.size [.int .i64 z, .int .i64 x, .int .i64 y, .int .i64 wd, .int .i64 ht, .int .i64 now, .int .i64 s, .slice (some ⟨b, 0, none⟩) n n, .slice (some ⟨rb, 0, none⟩) rn rn, .int .i64 bad]) := by show Blk _ _ _; subst hV; exact Blk.new _ _ _
  clear hV
  refine Calls.mono (HM.out V HB.out) ?_
  rintro e w1 ⟨rfl, _, h7⟩
  have c8 : w1.cell? ⟨w.heap.size, 8, none⟩ = some (.slice (some ⟨rb, 0, none⟩) rn rn) := h7.cell (HBk.out.cell 8 rfl) (.inr (by omega))
  have HT1 : Hid (There w1 rb (rn * 5)) := h7.there (HT.out.below HB.out) (.inr (by omega))
  have HM1 : Hid (MidB lo hi w w1) := (MidB.of_below HB.out).trans (h7.wide h1 (by omega))
  clear h7 HM HBk
  have HR := (show Hid _ from markRequestS_mk rb rn rn Q w1 HT1.out hrn (by omega))
  go_wp2_with fail
  refine Calls.mono HR.out ?_
  rintro e w2 ⟨rfl, hg, _, _⟩
  have HM2 : Hid (MidB lo hi w w2) := HM1.out.trans (MidB.of_grown hg (by omega) h4)
  clear hg HR HM1 c8
  generalize Q + 5 * rn = q2 at *
  go_wp2
  go_ret
  exact ⟨⟨q2, rfl⟩, HM2.out⟩
end Go.Proofs.YtbdhhclamgmfkaaGreat
/- Answers that a marked argument leaves as they are. -/

namespace Go.Proofs.YtbdhhclamgmfkaaGreat
open Go.RowKit
set_option linter.unusedSimpArgs false
set_option linter.unusedVariables false
set_option maxRecDepth 100000

theorem OwnT.midV {w w' : World} {base lo hi : Nat} {v : Value} {n : Nat} {R : Rfs} (h : OwnT w base v n R) (hM : MidB lo hi w w') (hb : hi ≤ base) : OwnT w' base v n R := by
  obtain ⟨a, cap, hv, hc, h0 | ⟨b, ha, hbb, hl, hp, ht⟩⟩ := h
  · exact ⟨a, cap, hv, hc, .inl h0⟩
  · exact ⟨a, cap, hv, hc, .inr ⟨b, ha, hbb, Nat.lt_of_lt_of_le hl hM.size, fun i hi => ⟨hM.cell (hp i hi).1 (.inr (by omega)), hM.cell (hp i hi).2.1 (.inr (by omega)), hM.cell (hp i hi).2.2 (.inr (by omega))⟩, hM.there ht (.inr (by omega))⟩⟩
theorem UnderT.midV {T lo hi : Nat} {w w' : World} {a : Option Addr} {n : Nat} {R : Rfs} (h : UnderT T w a n R) (hM : MidB lo hi w w') (hb : T ≤ lo) : UnderT T w' a n R := by
  rcases h with h | ⟨b, off, e, hl, hp⟩
  · exact .inl h
  · exact .inr ⟨b, off, e, hl, fun i hi => ⟨hM.cell (hp i hi).1 (.inl (by omega)), hM.cell (hp i hi).2.1 (.inl (by omega)), hM.cell (hp i hi).2.2 (.inl (by omega))⟩⟩
theorem mark_ownV (c : Int) (base n cap : Nat) (a : Option Addr) (R : Rfs) (w : World) (h : OwnT w base (.slice a n cap) n R) (hmax : n ≤ 1048576) :
    ∃ row : Option Nat, (∀ s, row = some s → base ≤ s ∧ n ≠ 0 ∧ a = some ⟨s, 0, none⟩) ∧ Calls Tryz.prog 13 #[.agg #[.int .i64 c, .slice a n cap], .int .i64 1] w fun e w' => e = .returned (.int .i64 ((1 + 3 * n : Nat) : Int)) ∧ w.grownBy w' row ∧ OwnT w' base (.slice a n cap) n (mkR 1) := by
  obtain ⟨a', cap', hv, hc, h0 | ⟨b, ha, hbb, hl, hp, ht⟩⟩ := h
  · subst h0
    exact ⟨none, (fun s hs => by cases hs), (markRefsResult_none c a cap w).mono fun e w' ⟨he, hb⟩ => ⟨he, grown_belowR hb, a', cap', hv, hc, .inl rfl⟩⟩
  · injection hv with h1 h2 h3
    subst h1 h3 ha
    by_cases h0 : n = 0
    · subst h0
      exact ⟨none, (fun s hs => by cases hs), (markRefsResult_none c _ cap w).mono fun e w' ⟨he, hb⟩ => ⟨he, grown_belowR hb, _, cap, rfl, hc, .inl rfl⟩⟩
    · exact ⟨some b, (fun s hs => by injection hs with hs; subst hs; exact ⟨hbb, h0, rfl⟩), (markRefsResult_some c b n cap w ht hl hmax).mono fun e w' ⟨he, hg, ht', hp'⟩ => ⟨he, hg, _, cap, rfl, hc, .inr ⟨b, rfl, hbb, Nat.lt_of_lt_of_le hl hg.size, hp', ht'⟩⟩⟩
end Go.Proofs.YtbdhhclamgmfkaaGreat
/- The nearest tile that is kept: the model and the program. -/

namespace Go.Proofs.YtbdhhclamgmfkaaGreat
open Go.RowKit
set_option linter.unusedSimpArgs false
set_option linter.unusedVariables false
set_option maxRecDepth 100000

end Go.Proofs.YtbdhhclamgmfkaaGreat
/- The nearest tile on the shelf: the program. -/

namespace Go.Proofs.YtbdhhclamgmfkaaGreat
open Go.RowKit
set_option linter.unusedSimpArgs false
set_option linter.unusedVariables false
set_option maxRecDepth 100000

end Go.Proofs.YtbdhhclamgmfkaaGreat
/- The nearest tile that is kept: the program. -/

namespace Go.Proofs.YtbdhhclamgmfkaaGreat
open Go.RowKit
set_option linter.unusedSimpArgs false
set_option linter.unusedVariables false
set_option maxRecDepth 100000

end Go.Proofs.YtbdhhclamgmfkaaGreat
/- The law of RasterTile returns true at every tile. -/

namespace Go.Proofs.YtbdhhclamgmfkaaGreat
open Go.RowKit
set_option linter.unusedSimpArgs false
set_option linter.unusedVariables false
set_option maxRecDepth 100000

theorem rt_same {z x y : Int} {n : Nat} {G F : Nat → Feat} (h : ∀ i, i < n → (G i).same (F i)) : rtC z x y n G = rtC z x y n F ∧ rtL z x y n G = rtL z x y n F := by
  have e1 : featsC n G = featsC n F := featsC_same h
  have e2 : ordS n G = ordS n F := by
    unfold ordS
    rw [decide_eq_decide]
    refine forall_congr' fun i => forall_congr' fun hi => ?_
    have a := h i (by omega)
    have b := h (i + 1) (by omega)
    have e : ltF (G i) (G (i + 1)) = ltF (F i) (F (i + 1)) := by unfold ltF; rw [a.1, a.2.1, b.1, b.2.1]
    rw [e]
  have e3 : rtC z x y n G = rtC z x y n F := by unfold rtC; rw [e1, e2]
  have e4 : paintF G n z = paintF F n z := by
    funext X Y
    unfold paintF
    have : ∀ k, k ≤ n → paintI (fun i => covF z (centI z X) (centI z Y) (G i)) (fun i => (G i).id) k = paintI (fun i => covF z (centI z X) (centI z Y) (F i)) (fun i => (F i).id) k := fun k hk => by
      induction k with
      | zero => rfl
      | succ k ih =>
        obtain ⟨i1, i2, i3, i4, i5, i6, i7, i8, i9⟩ := h k (by omega)
        have ec : covF z (centI z X) (centI z Y) (G k) = covF z (centI z X) (centI z Y) (F k) := by unfold covF; rw [i3, i4, i5, i6, i7]
        rw [paintI, paintI, ih (by omega), ec, i1]
    exact this n (Nat.le_refl _)
  exact ⟨e3, by unfold rtL; rw [e3, e4]⟩
end Go.Proofs.YtbdhhclamgmfkaaGreat
/- The laws of CacheFault, HasTile and NearestIn return true at every cache and every ref. -/

namespace Go.Proofs.YtbdhhclamgmfkaaGreat
open Go.RowKit
set_option linter.unusedSimpArgs false
set_option linter.unusedVariables false
set_option maxRecDepth 100000

theorem KpOwn.feats {w : World} {B : Nat} {k a : Kp} (h : KpOwn w B k a) : ∀ i, i < k.fn → (a.F i).same (k.F i) := by
  obtain ⟨_, ⟨fb, _, _, _, ho⟩, _⟩ := h
  exact fun i hi => (ho.2.2.2 i hi).1
theorem KpOwn.rt {w : World} {B : Nat} {k a : Kp} (h : KpOwn w B k a) : rtC a.z a.x a.y a.fn a.F = rtC k.z k.x k.y k.fn k.F ∧ rtL a.z a.x a.y a.fn a.F = rtL k.z k.x k.y k.fn k.F := by
  have hf := h.feats
  obtain ⟨⟨e1, e2, e3⟩, ⟨fb, _, e4, _⟩, _⟩ := h
  rw [e1, e2, e3, e4]
  exact rt_same hf
theorem KpOwn.tC {w : World} {B : Nat} {k a : Kp} (h : KpOwn w B k a) : Go.Proofs.YtbdhhclamgmfkaaGreat.tC a = Go.Proofs.YtbdhhclamgmfkaaGreat.tC k := by
  obtain ⟨r1, r2⟩ := h.rt
  obtain ⟨_, _, ib, _, e5, _, e7, _⟩ := h
  unfold Go.Proofs.YtbdhhclamgmfkaaGreat.tC
  rw [r1, r2, e5, e7]
theorem KpOwn.small {w : World} {B : Nat} {k a : Kp} (h : KpOwn w B k a) (hs : SmallK k) : SmallK a := by
  have hf := h.feats
  obtain ⟨_, ⟨fb, _, e4, _⟩, ib, _, e5, _⟩ := h
  refine ⟨⟨by rw [e4]; exact hs.1.1, fun i hi => ?_⟩, by rw [e5]; exact hs.2⟩
  rw [e4] at hi
  obtain ⟨_, _, _, _, f5, _, _, f8, _⟩ := hf i hi
  rw [f5, f8]
  exact hs.1.2 i hi
theorem OwnKs.small {w : World} {B b n : Nat} {K A : Nat → Kp} (h : OwnKs w B b n K A) (hs : SmallKs n K) : SmallKs n A := ⟨hs.1, fun i hi => (h.2.2 i hi).2.small (hs.2 i hi)⟩
theorem OwnKs.caps {w : World} {B b n : Nat} {K A : Nat → Kp} (h : OwnKs w B b n K A) : ∀ i, i < n → (A i).fn ≤ (A i).fc := fun i hi => by
  obtain ⟨_, ⟨fb, _, e4, e6, _⟩, _⟩ := (h.2.2 i hi).2
  rw [e4, e6]; exact Nat.le_refl _
theorem OwnKs.ref {w : World} {B b n : Nat} {K A : Nat → Kp} (h : OwnKs w B b n K A) {i : Nat} (hi : i < n) : (A i).z = (K i).z ∧ (A i).x = (K i).x ∧ (A i).y = (K i).y := (h.2.2 i hi).2.1
theorem OwnKs.atK {w : World} {B b n : Nat} {K A : Nat → Kp} (h : OwnKs w B b n K A) (z x y : Int) : ∀ m, m ≤ n → Go.Proofs.YtbdhhclamgmfkaaGreat.atK m A z x y = Go.Proofs.YtbdhhclamgmfkaaGreat.atK m K z x y := fun m hm => by
  have e : ∀ i, i < m → isK (A i) z x y = isK (K i) z x y := fun i hi => by
    obtain ⟨e1, e2, e3⟩ := h.ref (show i < n by omega)
    unfold isK; rw [e1, e2, e3]
  unfold Go.Proofs.YtbdhhclamgmfkaaGreat.atK
  rcases firstI_or (fun i => isK (A i) z x y) m with ⟨h1, h2⟩ | ⟨i, hi, hg, hf, hn⟩
  · rw [h1]
    exact (firstI_no (fun i hi => (e i hi).symm.trans (h2 i hi))).symm
  · rw [hf]
    exact (firstI_yes hi ((e i hi).symm.trans hg) (fun j hj => (e j (by omega)).symm.trans (hn j hj))).symm
theorem OwnKs.kC {w : World} {B b n : Nat} {K A : Nat → Kp} (h : OwnKs w B b n K A) : ∀ i, i < n → Go.Proofs.YtbdhhclamgmfkaaGreat.kC A i = Go.Proofs.YtbdhhclamgmfkaaGreat.kC K i := fun i hi => by
  obtain ⟨e1, e2, e3⟩ := h.ref hi
  unfold Go.Proofs.YtbdhhclamgmfkaaGreat.kC
  rw [(h.2.2 i hi).2.tC, e1, e2, e3, h.atK _ _ _ i (by omega)]
theorem OwnKs.cacheC {w : World} {B b n : Nat} {K A : Nat → Kp} (h : OwnKs w B b n K A) (s : Int) : Go.Proofs.YtbdhhclamgmfkaaGreat.cacheC s n A = Go.Proofs.YtbdhhclamgmfkaaGreat.cacheC s n K := by
  have e : scanC (Go.Proofs.YtbdhhclamgmfkaaGreat.kC A) 0 n = scanC (Go.Proofs.YtbdhhclamgmfkaaGreat.kC K) 0 n := by
    by_cases hall : ∀ j, j < n → Go.Proofs.YtbdhhclamgmfkaaGreat.kC K j = 0
    · rw [scan_none _ _ _ (fun j _ hj => hall j (by omega)), scan_none _ _ _ (fun j _ hj => (h.kC j (by omega)).trans (hall j (by omega)))]
    · obtain ⟨k, hk, hne, hno⟩ : ∃ k, k < n ∧ Go.Proofs.YtbdhhclamgmfkaaGreat.kC K k ≠ 0 ∧ ∀ l, l < k → Go.Proofs.YtbdhhclamgmfkaaGreat.kC K l = 0 := by
        have : ∀ m, (∃ i, i < m ∧ Go.Proofs.YtbdhhclamgmfkaaGreat.kC K i ≠ 0) → ∃ i, i < m ∧ Go.Proofs.YtbdhhclamgmfkaaGreat.kC K i ≠ 0 ∧ ∀ l, l < i → Go.Proofs.YtbdhhclamgmfkaaGreat.kC K l = 0 := by
          intro m
          induction m with
          | zero => rintro ⟨i, hi, _⟩; omega
          | succ m ih =>
            rintro ⟨i, hi, h⟩
            by_cases hx : ∃ i, i < m ∧ Go.Proofs.YtbdhhclamgmfkaaGreat.kC K i ≠ 0
            · obtain ⟨i, h1, h2⟩ := ih hx; exact ⟨i, by omega, h2⟩
            · refine ⟨i, hi, h, fun l hl => ?_⟩
              by_cases e : Go.Proofs.YtbdhhclamgmfkaaGreat.kC K l = 0
              · exact e
              · exact absurd ⟨l, by omega, e⟩ hx
        refine this n ?_
        by_cases hx : ∃ i, i < n ∧ Go.Proofs.YtbdhhclamgmfkaaGreat.kC K i ≠ 0
        · exact hx
        · exact absurd (fun j hj => by
            by_cases e : Go.Proofs.YtbdhhclamgmfkaaGreat.kC K j = 0
            · exact e
            · exact absurd ⟨j, hj, e⟩ hx) hall
      rw [scan_first (Go.Proofs.YtbdhhclamgmfkaaGreat.kC K) n 0 k (fun l _ hl => hno l hl) (by omega) (by omega) hne,
        scan_first (Go.Proofs.YtbdhhclamgmfkaaGreat.kC A) n 0 k (fun l _ hl => (h.kC l (by omega)).trans (hno l hl)) (by omega) (by omega) (by rw [h.kC k hk]; exact hne), h.kC k hk]
  unfold Go.Proofs.YtbdhhclamgmfkaaGreat.cacheC
  rw [e]
end Go.Proofs.YtbdhhclamgmfkaaGreat
