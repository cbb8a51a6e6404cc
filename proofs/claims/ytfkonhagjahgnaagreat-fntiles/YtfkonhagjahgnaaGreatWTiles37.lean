/- Texts. -/
import Derived.Test.YtfkonhagjahgnaaGreatWTiles36
import Derived.Test.YtfkonhagjahgnaaGreatWTiles31
import Derived.Test.YtfkonhagjahgnaaGreatWTiles32
set_option linter.unusedSimpArgs false
set_option linter.unusedVariables false
set_option maxRecDepth 100000
set_option maxHeartbeats 32000000
namespace Go.Proofs.YtfkonhagjahgnaaGreat
open Go.RowKit

theorem impl_SumTile_a (z x y : Int) (aa : Option Addr) (b n cap : Nat) (G : Nat → Feat) (haa : n = 0 ∨ aa = some ⟨b,0,none⟩) (w : World) (hg : FsAt w b 0 n G) (hbl : b < w.heap.size) (hs : SmallFs n G) (hcap : n ≤ cap) :
  Calls Tryz.prog 11 #[.agg #[.int .i64 z, .int .i64 x, .int .i64 y, .slice aa n cap]] w fun e w' => e = .returned (.agg #[.int .i64 (stC z x y n G), .int .i64 (stN z x y n G)]) ∧ Below w.heap.size w w' := by
 have HAA : Hid (n = 0 ∨ aa = some ⟨b,0,none⟩) := haa
 have HG : Hid (FsAt w b 0 n G) := hg
 clear haa
 have HS : Hid (SmallFs n G) := hs
 clear hg hs
 go_enter Tryz.func11,Tryz.ntmps11
 go_wp2_with fail
 generalize hW : (((w.alloc _).alloc _).alloc _ : World) = W
 have HB0 : Hid (Below w.heap.size w W) := by show Below _ _ _; subst hW; (repeat (first|exact Qr _ _|assumption|refine Qd ?_|refine Qa ?_ _|refine Qt ?_|refine Qs ?_ _|refine Qo ?_ ?_ _ _))
 have HT : Hid (There W (w.heap.size + 1) 2) := by
  show There _ _ _
  subst hW
  have := (there2t (w.alloc (.cells #[.int .i64 z, .int .i64 x, .int .i64 y, .slice aa n cap] 30)) (.int .i64 0) (.int .i64 0) 43).below (bl_alloc (Below.refl _ _) (.cells #[.int .i64 z, .int .i64 x, .int .i64 y, .slice aa n cap] 51))
  simpa using this
 have c03 : ∀ W',Below W.heap.size W W' → W'.cell? ⟨w.heap.size + 1 + 1,3,none⟩ = some (.slice aa n cap) := fun W' h => by
  rw [h.cell (by subst hW; simp <;> omega)]; subst hW; simp [go_sem]
 have hsz : w.heap.size + 1 < W.heap.size := by subst hW; simp
 clear hW
 refine (refFault_any _ _ _ _).mono ?_
 rintro e w1 ⟨rfl,hb1⟩
 have HT1 : Hid (There w1 (w.heap.size + 1) 2) := HT.out.below hb1
 have HB1 : Hid (Below w.heap.size w w1) := bl_then HB0.out hb1
 have hsz1 : w.heap.size + 1 < w1.heap.size := Nat.lt_of_lt_of_le hsz hb1.size
 have e3 := c03 w1 hb1
 clear hb1 HT HB0 c03 hsz
 have hT' := HT1.out
 have t0 := hT'.cell 0 (by omega)
 have t1 := hT'.cell 1 (by omega)
 have f0 := (hT' 0 (by omega)).2
 have f1 := (hT' 1 (by omega)).2
 clear hT'
 rcases refC_cases z x y with ⟨hc,hr⟩ | ⟨hc,hr⟩
 ·have hsC : Hid (stC z x y n G = plC n G) := by show _ = _; simp [stC,hc]
  simp only [hc]
  clear hr hc t0 t1 f0 f1
  have hB1 := HB1.out
  go_wp2_with fail
  refine (impl_PackList_a aa b n cap G HAA.out _ (HG.out.below hB1 hbl) (Nat.lt_of_lt_of_le hbl hB1.size) HS.out hcap).mono ?_
  rintro e w2 ⟨v,rfl,hR2,hb2⟩
  obtain ⟨va,vc,rfl,hvc,hvb⟩ := hR2.own.pts
  have HV2 : Hid (IsBytes w2 va (plL n G).length (zz (plL n G))) := hvb
  have HT2 : Hid (There w2 (w.heap.size + 1) 2) := HT1.out.below hb2
  have HB2 : Hid (Below w.heap.size w w2) := bl_then HB1.out hb2
  have hsz2 : w.heap.size + 1 < w2.heap.size := Nat.lt_of_lt_of_le hsz1 hb2.size
  clear hR2 hvb hb2 hB1 HB1 HT1
  have hlen := plL_900 n G
  have HY : Hid (∀ i,0 ≤ zz (plL n G) i ∧ zz (plL n G) i ≤ 255) := fun i => zz_byt (plL_byt n G) i
  have HN : Hid (stN z x y n G = if plC n G = 0 then sumZ (zz (plL n G)) (plL n G).length else 0) := by show _ = _; unfold stN; rw [hsC.out]
  have hsv : Hid (sumV (plL n G).length (zz (plL n G)) = .agg #[.int .i64 0, .int .i64 (sumZ (zz (plL n G)) (plL n G).length)]) := by show _ = _; unfold sumV; rw [if_neg (by omega)]
  generalize plC n G = pc at *
  generalize plL n G = pl at *
  generalize hL : pl.length = L at *
  clear hL
  by_cases hpc : pc = 0
  ·subst hpc
   go_wp2_with fail
   generalize hW3 : (w2.alloc _ : World) = w3
   have hb3 : Below w2.heap.size w2 w3 := by subst hW3; (repeat (first|exact Qr _ _|assumption|refine Qd ?_|refine Qa ?_ _|refine Qt ?_|refine Qs ?_ _|refine Qo ?_ ?_ _ _))
   clear hW3
   have HT3 : Hid (There w3 (w.heap.size + 1) 2) := HT2.out.below hb3
   have HB3 : Hid (Below w.heap.size w w3) := bl_then HB2.out hb3
   have HV3 : Hid (IsBytes w3 va L (zz pl)) := HV2.out.below hb3
   have hsz3 : w.heap.size + 1 < w3.heap.size := Nat.lt_of_lt_of_le hsz2 hb3.size
   clear hb3 HT2 HB2 HV2 hsz2
   refine (impl_SumBytes_any va L vc (zz pl) _ HV3.out HY.out (by omega)).mono ?_
   rintro e w4 ⟨rfl,hb4⟩
   rw [hsv.out]
   have hT' := HT3.out.below hb4
   have HT4 : Hid (There w4 (w.heap.size + 1) 2) := hT'
   have t0 := hT'.cell 0 (by omega)
   have t1 := hT'.cell 1 (by omega)
   have f0 := (hT' 0 (by omega)).2
   have f1 := (hT' 1 (by omega)).2
   have HB4 : Hid (Below w.heap.size w w4) := bl_then HB3.out hb4
   clear hT' hb4
   go_wp2_with fail
   obtain ⟨q0,q1⟩ := set2_at (u := .int .i64 0) (v := .int .i64 (sumZ (zz pl) L)) (show (0 : Nat) ≠ 1 by omega) (by rw [t0]; rfl) (by rw [t1]; rfl)
   refine bodyPost_ret (v := .agg #[.int .i64 0, .int .i64 (sumZ (zz pl) L)]) (by simp [results,Tryz.results11,go_sem,q0,q1]) rfl ⟨by rw [hsC.out,HN.out]; simp,?_⟩
   have HB := HB4.out
   (repeat (first|exact Qr _ _|assumption|refine Qd ?_|refine Qa ?_ _|refine Qt ?_|refine Qs ?_ _|refine Qo ?_ ?_ _ _))
  ·have hT' := HT2.out
   have t0 := hT'.cell 0 (by omega)
   have t1 := hT'.cell 1 (by omega)
   have f0 := (hT' 0 (by omega)).2
   have f1 := (hT' 1 (by omega)).2
   clear hT'
   go_wp2_with fail
   obtain ⟨q0,q1⟩ := set2_at (u := .int .i64 pc) (v := .int .i64 0) (show (0 : Nat) ≠ 1 by omega) (by rw [t0]; rfl) (by rw [t1]; rfl)
   have HB3 : Below w.heap.size w ((w2.setCell ⟨w.heap.size + 1,0,none⟩ (.int .i64 pc)).setCell ⟨w.heap.size + 1,1,none⟩ (.int .i64 0)) := by
    have HB := HB2.out
    (repeat (first|exact Qr _ _|assumption|refine Qd ?_|refine Qa ?_ _|refine Qt ?_|refine Qs ?_ _|refine Qo ?_ ?_ _ _))
   generalize hX : ((w2.setCell ⟨w.heap.size + 1,0,none⟩ (.int .i64 pc)).setCell ⟨w.heap.size + 1,1,none⟩ (.int .i64 0)) = X at q0 q1 HB3 ⊢
   have r0 : (X.alloc (.cells #[.int .i64 pc, .slice va L vc] 35)).cell? ⟨w.heap.size + 1,0,none⟩ = some (.int .i64 pc) := (World.cell?_alloc_some _ _ _ (by rw [q0]; rfl)).trans q0
   have r1 : (X.alloc (.cells #[.int .i64 pc, .slice va L vc] 35)).cell? ⟨w.heap.size + 1,1,none⟩ = some (.int .i64 0) := (World.cell?_alloc_some _ _ _ (by rw [q1]; rfl)).trans q1
   refine bodyPost_ret (v := .agg #[.int .i64 pc, .int .i64 0]) (by simp [results,Tryz.results11,go_sem,r0,r1]) rfl ⟨by rw [hsC.out,HN.out,if_neg hpc],bl_alloc HB3 _⟩
 ·have hq : Hid (stC z x y n G = 3 ∧ stN z x y n G = 0) := by show _ ∧ _; simp [stC,stN,hc]
  simp only [hc]
  clear hr hc
  go_wp2_with fail
  obtain ⟨q0,q1⟩ := set2_at (u := .int .i64 3) (v := .int .i64 0) (show (0 : Nat) ≠ 1 by omega) (by rw [t0]; rfl) (by rw [t1]; rfl)
  refine bodyPost_ret (v := .agg #[.int .i64 3, .int .i64 0]) (by simp [results,Tryz.results11,go_sem,q0,q1]) rfl ⟨by rw [hq.out.1,hq.out.2],?_⟩
  have HB := HB1.out
  (repeat (first|exact Qr _ _|assumption|refine Qd ?_|refine Qa ?_ _|refine Qt ?_|refine Qs ?_ _|refine Qo ?_ ?_ _ _))
theorem spec_SumTile_a (z x y : Int) (aa : Option Addr) (b n cap : Nat) (G : Nat → Feat) (haa : n = 0 ∨ aa = some ⟨b,0,none⟩) (w : World) (hg : FsAt w b 0 n G) (hbl : b < w.heap.size) (hs : SmallFs n G) (hcap : n ≤ cap) :
  Calls Tryz.prog 13 #[.agg #[.int .i64 z, .int .i64 x, .int .i64 y, .slice aa n cap]] w fun e w' => e = .returned (.agg #[.int .i64 (stC z x y n G), .int .i64 (stN z x y n G)]) ∧ Below w.heap.size w w' := by
 have HAA : Hid (n = 0 ∨ aa = some ⟨b,0,none⟩) := haa
 have HG : Hid (FsAt w b 0 n G) := hg
 clear haa
 have HS : Hid (SmallFs n G) := hs
 clear hg hs
 go_enter Tryz.func13,Tryz.ntmps13
 go_wp2_with fail
 generalize hW : ((w.alloc _).alloc _ : World) = W
 have HB0 : Hid (Below w.heap.size w W) := by show Below _ _ _; subst hW; (repeat (first|exact Qr _ _|assumption|refine Qd ?_|refine Qa ?_ _|refine Qt ?_|refine Qs ?_ _|refine Qo ?_ ?_ _ _))
 have HT : Hid (There W (w.heap.size + 1) 2) := by
  show There _ _ _
  subst hW
  have := there2t (w.alloc (.cells #[.int .i64 z, .int .i64 x, .int .i64 y, .slice aa n cap] 30)) (.int .i64 0) (.int .i64 0) 43
  simpa using this
 have c00 : ∀ W',Below W.heap.size W W' → W'.cell? ⟨w.heap.size,0,none⟩ = some (.int .i64 z) := fun W' h => by
  rw [h.cell (by subst hW; simp <;> omega)]; subst hW; simp [go_sem]
 have c01 : ∀ W',Below W.heap.size W W' → W'.cell? ⟨w.heap.size,1,none⟩ = some (.int .i64 x) := fun W' h => by
  rw [h.cell (by subst hW; simp <;> omega)]; subst hW; simp [go_sem]
 have c02 : ∀ W',Below W.heap.size W W' → W'.cell? ⟨w.heap.size,2,none⟩ = some (.int .i64 y) := fun W' h => by
  rw [h.cell (by subst hW; simp <;> omega)]; subst hW; simp [go_sem]
 have c03 : ∀ W',Below W.heap.size W W' → W'.cell? ⟨w.heap.size,3,none⟩ = some (.slice aa n cap) := fun W' h => by
  rw [h.cell (by subst hW; simp <;> omega)]; subst hW; simp [go_sem]
 have hsz : w.heap.size + 1 < W.heap.size := by subst hW; simp
 clear hW
 refine (l7Fault_any _ _ _ _).mono ?_
 rintro e w1 ⟨rfl,hb1⟩
 have HT1 : Hid (There w1 (w.heap.size + 1) 2) := HT.out.below hb1
 have HB1 : Hid (Below w.heap.size w w1) := bl_then HB0.out hb1
 have hsz1 : w.heap.size + 1 < w1.heap.size := Nat.lt_of_lt_of_le hsz hb1.size
 have e3 := c03 w1 hb1
 clear hb1 HT HB0 c00 c01 c02 c03 hsz
 have hT' := HT1.out
 have t0 := hT'.cell 0 (by omega)
 have t1 := hT'.cell 1 (by omega)
 have f0 := (hT' 0 (by omega)).2
 have f1 := (hT' 1 (by omega)).2
 clear hT'
 rcases refC_cases z x y with ⟨hc,hr⟩ | ⟨hc,hr⟩
 ·have hsC : Hid (stC z x y n G = plC n G) := by show _ = _; simp [stC,hc]
  simp only [hc]
  clear hr hc t0 t1 f0 f1
  have hB1 := HB1.out
  go_wp2_with fail
  refine (spec_PackList_a aa b n cap G HAA.out _ (HG.out.below hB1 hbl) (Nat.lt_of_lt_of_le hbl hB1.size) HS.out).mono ?_
  rintro e w2 ⟨v,rfl,hR2,hb2⟩
  obtain ⟨va,vc,rfl,hvc,hvb⟩ := hR2.own.pts
  have HV2 : Hid (IsBytes w2 va (plL n G).length (zz (plL n G))) := hvb
  have HT2 : Hid (There w2 (w.heap.size + 1) 2) := HT1.out.below hb2
  have HB2 : Hid (Below w.heap.size w w2) := bl_then HB1.out hb2
  have hsz2 : w.heap.size + 1 < w2.heap.size := Nat.lt_of_lt_of_le hsz1 hb2.size
  clear hR2 hvb hb2 hB1 HB1 HT1
  have hlen := plL_900 n G
  have HY : Hid (∀ i,0 ≤ zz (plL n G) i ∧ zz (plL n G) i ≤ 255) := fun i => zz_byt (plL_byt n G) i
  have HN : Hid (stN z x y n G = if plC n G = 0 then sumZ (zz (plL n G)) (plL n G).length else 0) := by show _ = _; unfold stN; rw [hsC.out]
  have hsv : Hid (sumV (plL n G).length (zz (plL n G)) = .agg #[.int .i64 0, .int .i64 (sumZ (zz (plL n G)) (plL n G).length)]) := by show _ = _; unfold sumV; rw [if_neg (by omega)]
  generalize plC n G = pc at *
  generalize plL n G = pl at *
  generalize hL : pl.length = L at *
  clear hL
  by_cases hpc : pc = 0
  ·subst hpc
   go_wp2_with fail
   generalize hW3 : (w2.alloc _ : World) = w3
   have hb3 : Below w2.heap.size w2 w3 := by subst hW3; (repeat (first|exact Qr _ _|assumption|refine Qd ?_|refine Qa ?_ _|refine Qt ?_|refine Qs ?_ _|refine Qo ?_ ?_ _ _))
   clear hW3
   have HT3 : Hid (There w3 (w.heap.size + 1) 2) := HT2.out.below hb3
   have HB3 : Hid (Below w.heap.size w w3) := bl_then HB2.out hb3
   have HV3 : Hid (IsBytes w3 va L (zz pl)) := HV2.out.below hb3
   have hsz3 : w.heap.size + 1 < w3.heap.size := Nat.lt_of_lt_of_le hsz2 hb3.size
   clear hb3 HT2 HB2 HV2 hsz2
   refine (spec_SumBytes_any va L vc (zz pl) _ HV3.out HY.out (by omega)).mono ?_
   rintro e w4 ⟨rfl,hb4⟩
   rw [hsv.out]
   have hT' := HT3.out.below hb4
   have HT4 : Hid (There w4 (w.heap.size + 1) 2) := hT'
   have t0 := hT'.cell 0 (by omega)
   have t1 := hT'.cell 1 (by omega)
   have f0 := (hT' 0 (by omega)).2
   have f1 := (hT' 1 (by omega)).2
   have HB4 : Hid (Below w.heap.size w w4) := bl_then HB3.out hb4
   clear hT' hb4
   go_wp2_with fail
   obtain ⟨q0,q1⟩ := set2_at (u := .int .i64 0) (v := .int .i64 (sumZ (zz pl) L)) (show (0 : Nat) ≠ 1 by omega) (by rw [t0]; rfl) (by rw [t1]; rfl)
   refine bodyPost_ret (v := .agg #[.int .i64 0, .int .i64 (sumZ (zz pl) L)]) (by simp [results,Tryz.results13,go_sem,q0,q1]) rfl ⟨by rw [hsC.out,HN.out]; simp,?_⟩
   have HB := HB4.out
   (repeat (first|exact Qr _ _|assumption|refine Qd ?_|refine Qa ?_ _|refine Qt ?_|refine Qs ?_ _|refine Qo ?_ ?_ _ _))
  ·have hT' := HT2.out
   have t0 := hT'.cell 0 (by omega)
   have t1 := hT'.cell 1 (by omega)
   have f0 := (hT' 0 (by omega)).2
   have f1 := (hT' 1 (by omega)).2
   clear hT'
   go_wp2_with fail
   obtain ⟨q0,q1⟩ := set2_at (u := .int .i64 pc) (v := .int .i64 0) (show (0 : Nat) ≠ 1 by omega) (by rw [t0]; rfl) (by rw [t1]; rfl)
   have HB3 : Below w.heap.size w ((w2.setCell ⟨w.heap.size + 1,0,none⟩ (.int .i64 pc)).setCell ⟨w.heap.size + 1,1,none⟩ (.int .i64 0)) := by
    have HB := HB2.out
    (repeat (first|exact Qr _ _|assumption|refine Qd ?_|refine Qa ?_ _|refine Qt ?_|refine Qs ?_ _|refine Qo ?_ ?_ _ _))
   generalize hX : ((w2.setCell ⟨w.heap.size + 1,0,none⟩ (.int .i64 pc)).setCell ⟨w.heap.size + 1,1,none⟩ (.int .i64 0)) = X at q0 q1 HB3 ⊢
   have r0 : (X.alloc (.cells #[.int .i64 pc, .slice va L vc] 35)).cell? ⟨w.heap.size + 1,0,none⟩ = some (.int .i64 pc) := (World.cell?_alloc_some _ _ _ (by rw [q0]; rfl)).trans q0
   have r1 : (X.alloc (.cells #[.int .i64 pc, .slice va L vc] 35)).cell? ⟨w.heap.size + 1,1,none⟩ = some (.int .i64 0) := (World.cell?_alloc_some _ _ _ (by rw [q1]; rfl)).trans q1
   refine bodyPost_ret (v := .agg #[.int .i64 pc, .int .i64 0]) (by simp [results,Tryz.results13,go_sem,r0,r1]) rfl ⟨by rw [hsC.out,HN.out,if_neg hpc],bl_alloc HB3 _⟩
 ·have hq : Hid (stC z x y n G = 3 ∧ stN z x y n G = 0) := by show _ ∧ _; simp [stC,stN,hc]
  simp only [hc]
  clear hr hc
  go_wp2_with fail
  obtain ⟨q0,q1⟩ := set2_at (u := .int .i64 3) (v := .int .i64 0) (show (0 : Nat) ≠ 1 by omega) (by rw [t0]; rfl) (by rw [t1]; rfl)
  refine bodyPost_ret (v := .agg #[.int .i64 3, .int .i64 0]) (by simp [results,Tryz.results13,go_sem,q0,q1]) rfl ⟨by rw [hq.out.1,hq.out.2],?_⟩
  have HB := HB1.out
  (repeat (first|exact Qr _ _|assumption|refine Qd ?_|refine Qa ?_ _|refine Qt ?_|refine Qs ?_ _|refine Qo ?_ ?_ _ _))
theorem impl_ReadTile_a (z x y : Int) (aa : Option Addr) (n ncap : Nat) (Z : Nat → Int) (w : World) (hs : IsBytes w aa n Z) (hcp : n ≤ ncap) (hr : ∀ i,0 ≤ Z i ∧ Z i ≤ 255) (hn : n ≤ 1048576) :
  Calls Tryz.prog 10 #[refV z x y, .slice aa n ncap] w (TlAns (tlC z x y Z n) (tlK z x y Z n z) (tlK z x y Z n x) (tlK z x y Z n y) (tlL z x y Z n) w) := by
 have HS : Hid (IsBytes w aa n Z) := hs
 have HU : Hid (∀ W,IsBytes W aa n Z → Calls Tryz.prog 30 #[.slice aa n ncap] W (UpAns (upC Z n) (upL Z n) W)) := fun W h1 => (impl_UnpackList_any _ n ncap Z W h1 hr hn hcp).mono fun e w' h => unP_ans h
 clear hs hr
 go_enter Tryz.func10,Tryz.ntmps10
 go_wp2_with fail
 generalize hW : (((w.alloc _).alloc _).alloc _ : World) = W
 have hB0 : Below w.heap.size w W := by subst hW; (repeat (first|exact Qr _ _|assumption|refine Qd ?_|refine Qa ?_ _|refine Qt ?_|refine Qs ?_ _|refine Qo ?_ ?_ _ _))
 have HB0 : Hid (Below w.heap.size w W) := hB0
 have HT : Hid (There W (w.heap.size + 1) 5) := by
  show There _ _ _
  subst hW
  have := there5t (w.alloc (.cells #[.int .i64 z, .int .i64 x, .int .i64 y] 26)) (.int .i64 0) (.int .i64 0) (.int .i64 0) (.int .i64 0) (.slice none 0 0) 32
  exact (by simpa using this : There ((w.alloc (.cells #[.int .i64 z, .int .i64 x, .int .i64 y] 26)).alloc (.cells #[.int .i64 0, .int .i64 0, .int .i64 0, .int .i64 0, .slice none 0 0] 32)) (w.heap.size + 1) 5).below (by (repeat (first|exact Qr _ _|assumption|refine Qd ?_|refine Qa ?_ _|refine Qt ?_|refine Qs ?_ _|refine Qo ?_ ?_ _ _)))
 have HC : Hid (W.cell? ⟨w.heap.size + 1 + 1,0,none⟩ = some (.int .i64 z) ∧ W.cell? ⟨w.heap.size + 1 + 1,1,none⟩ = some (.int .i64 x) ∧ W.cell? ⟨w.heap.size + 1 + 1,2,none⟩ = some (.int .i64 y) ∧ W.cell? ⟨w.heap.size + 1 + 1,3,none⟩ = some (.slice none 0 0) ∧ W.frozen? ⟨w.heap.size + 1 + 1,3,none⟩ = false) := by
  show _ ∧ _
  subst hW
  exact ⟨by simp [go_sem],by simp [go_sem],by simp [go_sem],by simp [go_sem],by simp [go_sem]⟩
 have hLW : w.heap.size + 2 < W.heap.size := by subst hW; simp
 clear hW hB0
 refine (refFault_any z x y _).mono ?_
 rintro e w1 ⟨rfl,hb1⟩
 have HB1 : Hid (Below w.heap.size w w1) := bl_then HB0.out hb1
 have HT1 : Hid (There w1 (w.heap.size + 1) 5) := HT.out.below hb1
 have HS1 : Hid (IsBytes w1 aa n Z) := HS.out.below HB1.out
 have hL1 : w.heap.size + 2 < w1.heap.size := Nat.lt_of_lt_of_le hLW hb1.size
 have HC1 : Hid (w1.cell? ⟨w.heap.size + 1 + 1,0,none⟩ = some (.int .i64 z) ∧ w1.cell? ⟨w.heap.size + 1 + 1,1,none⟩ = some (.int .i64 x) ∧ w1.cell? ⟨w.heap.size + 1 + 1,2,none⟩ = some (.int .i64 y) ∧ w1.cell? ⟨w.heap.size + 1 + 1,3,none⟩ = some (.slice none 0 0) ∧ w1.frozen? ⟨w.heap.size + 1 + 1,3,none⟩ = false) := ⟨bl_cellB hb1 (HC.out.1),bl_cellB hb1 (HC.out.2.1),bl_cellB hb1 (HC.out.2.2.1),bl_cellB hb1 (HC.out.2.2.2.1),(hb1.frozen (p := ⟨w.heap.size + 1 + 1,3,none⟩) (World.block_lt_of_cell? _ _ (HC.out.2.2.2.1))).trans (HC.out.2.2.2.2)⟩
 clear hb1 HB0 HT HS hLW HC
 rcases refC_cases z x y with ⟨hc,hr⟩ | ⟨hc,hr⟩
 ·simp only [hc]
  go_wp2_with fail
  refine (HU.out _ HS1.out).mono ?_
  rintro e w2 ⟨a,cap,T,rfl,hF,hTs,hO,hb2⟩
  have HB2 : Hid (Below w.heap.size w w2) := bl_then HB1.out hb2
  have HT2 : Hid (There w2 (w.heap.size + 1) 5) := HT1.out.below hb2
  have hL2 : w.heap.size + 2 < w2.heap.size := Nat.lt_of_lt_of_le hL1 hb2.size
  have hs12 := hb2.size
  have HF : Hid (IsFs w2 a (upL Z n).length T) := hF
  have HTs : Hid (∀ i,i < (upL Z n).length → (T i).same (fxG (upL Z n) i)) := hTs
  have HO : Hid (OwnR w2 w1.heap.size w2.heap.size a (upL Z n).length (fun i => (T i).n) (fun i => (T i).cap)) := hO
  obtain ⟨d0,d1,d2,d3,d4⟩ : w2.cell? ⟨w.heap.size + 1 + 1,0,none⟩ = some (.int .i64 z) ∧ w2.cell? ⟨w.heap.size + 1 + 1,1,none⟩ = some (.int .i64 x) ∧ w2.cell? ⟨w.heap.size + 1 + 1,2,none⟩ = some (.int .i64 y) ∧ w2.cell? ⟨w.heap.size + 1 + 1,3,none⟩ = some (.slice none 0 0) ∧ w2.frozen? ⟨w.heap.size + 1 + 1,3,none⟩ = false := ⟨bl_cellB hb2 (HC1.out.1),bl_cellB hb2 (HC1.out.2.1),bl_cellB hb2 (HC1.out.2.2.1),bl_cellB hb2 (HC1.out.2.2.2.1),(hb2.frozen (p := ⟨w.heap.size + 1 + 1,3,none⟩) (World.block_lt_of_cell? _ _ (HC1.out.2.2.2.1))).trans (HC1.out.2.2.2.2)⟩
  have hl2 : w.heap.size + 1 + 1 < w2.heap.size := by omega
  have hl2' : w.heap.size + 1 < w2.heap.size := by omega
  have hT2 := HT2.out
  have t0 := hT2.cell 0 (by omega)
  have t1 := hT2.cell 1 (by omega)
  have t2 := hT2.cell 2 (by omega)
  have t3 := hT2.cell 3 (by omega)
  have t4 := hT2.cell 4 (by omega)
  have f0 := (hT2 0 (by omega)).2
  have f1 := (hT2 1 (by omega)).2
  have f2 := (hT2 2 (by omega)).2
  have f3 := (hT2 3 (by omega)).2
  have f4 := (hT2 4 (by omega)).2
  clear hT2 hF hTs hO hb2 HB1 HT1 HS1 HC1
  have HCC : Hid (tlC z x y Z n = upC Z n) := by show _ = _; unfold tlC; rw [if_pos hr]
  by_cases h0 : upC Z n = 0
  ·have HK : Hid (TlAns (tlC z x y Z n) (tlK z x y Z n z) (tlK z x y Z n x) (tlK z x y Z n y) (tlL z x y Z n) w = TlAns 0 z x y (upL Z n) w) := by
    show _ = _
    unfold tlK tlL
    rw [HCC.out,if_pos h0,if_pos h0,if_pos h0,if_pos h0,h0]
   have HOK : Hid (∀ W',MidB (w.heap.size + 1) (w.heap.size + 3) w2 W' → IsFs W' a (upL Z n).length T ∧ OwnR W' w.heap.size W'.heap.size a (upL Z n).length (fun i => (T i).n) (fun i => (T i).cap)) := fun W' hM => by
    refine ⟨isFs_mid HF.out HO.out hM (by omega),(HO.out.away hM (.inl (by omega))).wideR (by omega) hM.size (Nat.le_refl _)⟩
   simp only [h0]
   clear hc hr h0
   generalize hLL : (upL Z n).length = m at *
   go_wp2_with fail
   have hM3 : MidB (w.heap.size + 1) (w.heap.size + 3) w2 ((w2.setCell ⟨w.heap.size + 1 + 1,3,none⟩ (.slice a m cap)).alloc (.cells #[.int .i64 0, .slice a m cap] 54)) :=
    ((MidB.refl _ _ w2).set (by omega) (by omega) _ _).trans (MidB.of_below (bl_alloc (Below.refl _ _) _))
   have HT3 : There ((w2.setCell ⟨w.heap.size + 1 + 1,3,none⟩ (.slice a m cap)).alloc (.cells #[.int .i64 0, .slice a m cap] 54)) (w.heap.size + 1) 5 := HT2.out.putT.below (bl_alloc (Below.refl _ _) _)
   refine (sheetTile_any z x y a m cap _).mono ?_
   rintro e w4 ⟨rfl,hb4⟩
   have hM4 := hM3.trans (MidB.of_below (lo := w.heap.size + 1) (hi := w.heap.size + 3) hb4)
   have hT4 := HT3.below hb4
   have HT4 : Hid (There w4 (w.heap.size + 1) 5) := hT4
   have HM4 : Hid (MidB (w.heap.size + 1) (w.heap.size + 3) w2 w4) := hM4
   clear t0 t1 t2 t3 t4 f0 f1 f2 f3 f4 d0 d1 d2 d3 d4 hM3 HT3 hb4 hM4
   have t0 := hT4.cell 0 (by omega)
   have t1 := hT4.cell 1 (by omega)
   have t2 := hT4.cell 2 (by omega)
   have t3 := hT4.cell 3 (by omega)
   have t4 := hT4.cell 4 (by omega)
   have f0 := (hT4 0 (by omega)).2
   have f1 := (hT4 1 (by omega)).2
   have f2 := (hT4 2 (by omega)).2
   have f3 := (hT4 3 (by omega)).2
   have f4 := (hT4 4 (by omega)).2
   clear hT4
   go_wp2_with fail
   obtain ⟨q0,q1,q2,q3,q4⟩ := sett5_at (a := .int .i64 0) (b := .int .i64 z) (c := .int .i64 x) (d := .int .i64 y) (e := .slice a m cap) HT4.out
   have hM5 : MidB (w.heap.size + 1) (w.heap.size + 3) w2 (((((w4.setCell ⟨w.heap.size + 1,0,none⟩ (.int .i64 0)).setCell ⟨w.heap.size + 1,1,none⟩ (.int .i64 z)).setCell ⟨w.heap.size + 1,2,none⟩ (.int .i64 x)).setCell ⟨w.heap.size + 1,3,none⟩ (.int .i64 y)).setCell ⟨w.heap.size + 1,4,none⟩ (.slice a m cap)) := HM4.out.trans (((((( MidB.refl _ _ w4).set (by omega) (by omega) _ _).set (by omega) (by omega) _ _).set (by omega) (by omega) _ _).set (by omega) (by omega) _ _).set (by omega) (by omega) _ _)
   have hB2 := HB2.out.trans ((hM5.below (by omega)).mono (Nat.le_succ _))
   obtain ⟨h1,h2⟩ := HOK.out _ hM5
   refine bodyPost_ret (v := trV 0 z x y (.slice a m cap)) (by simp [results,Tryz.results10,go_sem,q0,q1,q2,q3,q4]) rfl ?_
   rw [HK.out]
   unfold TlAns
   rw [hLL]
   exact ⟨a,cap,T,rfl,h1,HTs.out,h2,hB2⟩
  ·have HBAD : Hid (∀ W',Below w.heap.size w W' → TlAns (tlC z x y Z n) (tlK z x y Z n z) (tlK z x y Z n x) (tlK z x y Z n y) (tlL z x y Z n) w (.returned (trV (upC Z n) 0 0 0 (.slice none 0 0))) W') := fun W' h => TlAns.bad HCC.out h0 h
   clear HCC HF HTs HO
   generalize upC Z n = C at *
   generalize (upL Z n).length = m at *
   go_wp2_with fail
   obtain ⟨q0,q1,q2,q3,q4⟩ := sett5_at (a := .int .i64 C) (b := .int .i64 0) (c := .int .i64 0) (d := .int .i64 0) (e := .slice none 0 0) HT2.out
   have hM := mid5 (W := w2) (r := w.heap.size + 1) (a := .int .i64 C) (b := .int .i64 0) (c := .int .i64 0) (d := .int .i64 0) (e := .slice none 0 0)
   generalize hX : (((((w2.setCell ⟨w.heap.size + 1,0,none⟩ (.int .i64 C)).setCell ⟨w.heap.size + 1,1,none⟩ (.int .i64 0)).setCell ⟨w.heap.size + 1,2,none⟩ (.int .i64 0)).setCell ⟨w.heap.size + 1,3,none⟩ (.int .i64 0)).setCell ⟨w.heap.size + 1,4,none⟩ (.slice none 0 0)) = X at *
   have hXs : w.heap.size + 1 < X.heap.size := World.block_lt_of_cell? _ _ q0
   have hM2 := hM.trans (MidB.of_below (lo := w.heap.size + 1) (hi := w.heap.size + 1 + 1) (bl_alloc (Below.refl X.heap.size X) (.cells #[.int .i64 C, .slice a m cap] 54)))
   have hB2 := HB2.out.trans ((hM2.below (by omega)).mono (Nat.le_succ _))
   exact bodyPost_ret (v := trV C 0 0 0 (.slice none 0 0)) (by simp [results,Tryz.results10,go_sem,q0,q1,q2,q3,q4,hXs]) rfl (HBAD.out _ hB2)
 ·simp only [hc]
  have HBAD : Hid (∀ W',Below w.heap.size w W' → TlAns (tlC z x y Z n) (tlK z x y Z n z) (tlK z x y Z n x) (tlK z x y Z n y) (tlL z x y Z n) w (.returned (trV 3 0 0 0 (.slice none 0 0))) W') := fun W' h => TlAns.bad (by unfold tlC; rw [hr]; rfl) (by decide) h
  have hT1 := HT1.out
  have t0 := hT1.cell 0 (by omega)
  have t1 := hT1.cell 1 (by omega)
  have t2 := hT1.cell 2 (by omega)
  have t3 := hT1.cell 3 (by omega)
  have t4 := hT1.cell 4 (by omega)
  have f0 := (hT1 0 (by omega)).2
  have f1 := (hT1 1 (by omega)).2
  have f2 := (hT1 2 (by omega)).2
  have f3 := (hT1 3 (by omega)).2
  have f4 := (hT1 4 (by omega)).2
  clear hc hr hT1
  go_wp2_with fail
  obtain ⟨q0,q1,q2,q3,q4⟩ := sett5_at (a := .int .i64 3) (b := .int .i64 0) (c := .int .i64 0) (d := .int .i64 0) (e := .slice none 0 0) HT1.out
  refine bodyPost_ret (v := trV 3 0 0 0 (.slice none 0 0)) (by simp [results,Tryz.results10,go_sem,q0,q1,q2,q3,q4]) rfl (HBAD.out _ ?_)
  exact ((((HB1.out.setCell (Nat.le_succ _) _).setCell (Nat.le_succ _) _).setCell (Nat.le_succ _) _).setCell (Nat.le_succ _) _).setCell (Nat.le_succ _) _
end Go.Proofs.YtfkonhagjahgnaaGreat
