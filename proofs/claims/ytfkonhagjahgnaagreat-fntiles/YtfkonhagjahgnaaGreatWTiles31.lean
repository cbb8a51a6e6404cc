/- Texts. -/
import Derived.Test.YtfkonhagjahgnaaGreatWTiles29
set_option linter.unusedSimpArgs false
set_option linter.unusedVariables false
set_option maxRecDepth 100000
set_option maxHeartbeats 32000000
namespace Go.Proofs.YtfkonhagjahgnaaGreat
open Go.RowKit
set_option maxRecDepth 8000 in
theorem l3Farthest_any (b n cap f t : Nat) (X Y : Nat → Int) (w : World) (hp : PtsAt w b 0 n X Y) (hbl : b < w.heap.size) (hn : n ≤ 40) (hft : f + 1 < t) (htn : t < n) (hok : ∀ i,i < n → okP (X i) (Y i) = true) :
  Calls Tryz.prog 169 #[.slice (some ⟨b,0,none⟩) n cap, .int .i64 (f : Int), .int .i64 (t : Int)] w fun e w' => ∃ m : Nat,e = .returned (.int .i64 (m : Int)) ∧ Far X Y f t (f + 1) t m ∧ Below w.heap.size w w' := by
 have HP : Hid (PtsAt w b 0 n X Y) := hp
 have HOK : Hid (∀ i,i < n → okP (X i) (Y i) = true) := hok
 have cm : ∀ i,i < n → ∀ W',Below w.heap.size w W' → W'.cell? ⟨b,i * 2,none⟩ = some (.int .i64 (X i)) ∧ W'.cell? ⟨b,i * 2 + 1,none⟩ = some (.int .i64 (Y i)) := fun i hi W' h => by
  have := (HP.out.below h hbl) i hi
  simpa using this
 have HCM : Hid _ := cm
 clear hp hok
 obtain ⟨k,hk⟩ : ∃ k,k = f + 1 := ⟨_,rfl⟩
 have hki : (f : Int) + 1 = (k : Int) := by omega
 have HK : Hid (k = f + 1) := hk
 have k0 : (0 : Int) ≤ (k : Int) := by omega
 have k1 : (k : Int) < (n : Int) := by omega
 have f0 : (0 : Int) ≤ (f : Int) := by omega
 have f1 : (f : Int) < (n : Int) := by omega
 have t0 : (0 : Int) ≤ (t : Int) := by omega
 have t1 : (t : Int) < (n : Int) := by omega
 have hkn : k < n := by omega
 have ck0 : ∀ W',Below w.heap.size w W' → W'.cell? ⟨b,k * 2,none⟩ = some (.int .i64 (X k)) := fun W' h => (cm k hkn W' h).1
 have ck1 : ∀ W',Below w.heap.size w W' → W'.cell? ⟨b,k * 2 + 1,none⟩ = some (.int .i64 (Y k)) := fun W' h => (cm k hkn W' h).2
 have cf0 : ∀ W',Below w.heap.size w W' → W'.cell? ⟨b,f * 2,none⟩ = some (.int .i64 (X f)) := fun W' h => (cm f (by omega) W' h).1
 have cf1 : ∀ W',Below w.heap.size w W' → W'.cell? ⟨b,f * 2 + 1,none⟩ = some (.int .i64 (Y f)) := fun W' h => (cm f (by omega) W' h).2
 have ct0 : ∀ W',Below w.heap.size w W' → W'.cell? ⟨b,t * 2,none⟩ = some (.int .i64 (X t)) := fun W' h => (cm t htn W' h).1
 have ct1 : ∀ W',Below w.heap.size w W' → W'.cell? ⟨b,t * 2 + 1,none⟩ = some (.int .i64 (Y t)) := fun W' h => (cm t htn W' h).2
 have hr : Below w.heap.size w w := Below.refl _ _
 clear cm hk
 go_enter Tryz.func169,Tryz.ntmps169
 go_wp2_with fail
 have HO3 : Hid (okP (X k) (Y k) = true ∧ okP (X f) (Y f) = true ∧ okP (X t) (Y t) = true) := ⟨HOK.out k hkn,HOK.out f (by omega),HOK.out t htn⟩
 go_cut [8,9] (fun u d wc => u = .int .i64 (gO X Y f t k) ∧ d = .int .i64 (gU X Y f t k) ∧ Below w.heap.size w wc)
 case first =>
  go_region_held3 (fun W' => Below w.heap.size w W') ((repeat (first|exact Qr _ _|assumption|refine Qd ?_|refine Qa ?_ _|refine Qt ?_|refine Qs ?_ _|refine Qo ?_ ?_ _ _)))
   (first | (go_at_call 178; refine (l3Far_any _ _ _ _ _ _ _ HO3.out.1 HO3.out.2.1 HO3.out.2.2).mono ?_; rintro e w' ⟨rfl,hb⟩))
  go_wp2_with fail
  go_meet
  case rel => exact ⟨rfl,rfl,by assumption⟩
 case rest =>
  obtain ⟨rfl,rfl,hbc⟩ := hcut
  have HBc : Hid (Below w.heap.size w wc) := hbc
  clear hbc
  generalize wc = wA at *
  go_wp2_with fail
  go_loopw [7,8,9,10] (fun s7 s8 s9 s10 wr => ∃ i q : Nat,f + 2 ≤ i ∧ i ≤ t ∧ s10 = .int .i64 (i : Int) ∧ s7 = .int .i64 (q : Int) ∧ s8 = .int .i64 (gO X Y f t q) ∧ s9 = .int .i64 (gU X Y f t q) ∧ Far X Y f t (f + 1) i q ∧ Below w.heap.size w wr) (fun _ _ _ s10 _ => t - (intOf s10).toNat)
  case atStart =>
   have e := HK.out
   refine ⟨f + 2,k,by omega,by omega,by go_num,rfl,rfl,rfl,?_,HBc.out⟩
   rw [e]
   exact Far.one X Y f t (f + 1)
  case round =>
   obtain ⟨i,q,hi2,hit,rfl,rfl,rfl,rfl,hF,hB⟩ := hrel
   have HF : Hid (Far X Y f t (f + 1) i q) := hF
   have HB : Hid (Below w.heap.size w wr) := hB
   have hqi : q < i := hF.hi
   clear hF hB ck0 ck1
   by_cases hlt : i < t
   ·have hii : (i : Int) < (t : Int) := by omega
    have hin : i < n := by omega
    have i0 : (0 : Int) ≤ (i : Int) := by omega
    have i1 : (i : Int) < (n : Int) := by omega
    have ci0 : ∀ W',Below wr.heap.size wr W' → W'.cell? ⟨b,i * 2,none⟩ = some (.int .i64 (X i)) := fun W' h => (HCM.out i hin W' (bl_then HB.out h)).1
    have ci1 : ∀ W',Below wr.heap.size wr W' → W'.cell? ⟨b,i * 2 + 1,none⟩ = some (.int .i64 (Y i)) := fun W' h => (HCM.out i hin W' (bl_then HB.out h)).2
    have cg0 : ∀ W',Below wr.heap.size wr W' → W'.cell? ⟨b,f * 2,none⟩ = some (.int .i64 (X f)) := fun W' h => cf0 W' (bl_then HB.out h)
    have cg1 : ∀ W',Below wr.heap.size wr W' → W'.cell? ⟨b,f * 2 + 1,none⟩ = some (.int .i64 (Y f)) := fun W' h => cf1 W' (bl_then HB.out h)
    have cu0 : ∀ W',Below wr.heap.size wr W' → W'.cell? ⟨b,t * 2,none⟩ = some (.int .i64 (X t)) := fun W' h => ct0 W' (bl_then HB.out h)
    have cu1 : ∀ W',Below wr.heap.size wr W' → W'.cell? ⟨b,t * 2 + 1,none⟩ = some (.int .i64 (Y t)) := fun W' h => ct1 W' (bl_then HB.out h)
    have hrr : Below wr.heap.size wr wr := Below.refl _ _
    have HOi : Hid (okP (X i) (Y i) = true) := HOK.out i hin
    obtain ⟨a1,a2,a3,a4⟩ := gO_bd X Y (f := f) (t := t) (i := i) HO3.out.2.1 HO3.out.2.2 HOi.out
    obtain ⟨e1,e2,e3,e4⟩ := gO_bd X Y (f := f) (t := t) (i := q) HO3.out.2.1 HO3.out.2.2 (HOK.out q (by omega))
    clear cf0 cf1 ct0 ct1
    go_wp2_with fail
    go_cut [11,12] (fun u d wc => u = .int .i64 (gO X Y f t i) ∧ d = .int .i64 (gU X Y f t i) ∧ Below wr.heap.size wr wc)
    case first =>
     go_region_held3 (fun W' => Below wr.heap.size wr W') ((repeat (first|exact Qr _ _|assumption|refine Qd ?_|refine Qa ?_ _|refine Qt ?_|refine Qs ?_ _|refine Qo ?_ ?_ _ _)))
      (first | (go_at_call 178; refine (l3Far_any _ _ _ _ _ _ _ HOi.out HO3.out.2.1 HO3.out.2.2).mono ?_; rintro e w' ⟨rfl,hb⟩))
     go_wp2_with fail
     go_meet
     case rel => exact ⟨rfl,rfl,by assumption⟩
    case rest =>
     obtain ⟨rfl,rfl,hbd⟩ := hcut
     have HB2 : Hid (Below w.heap.size w wc) := bl_then HB.out hbd
     clear hbd ci0 ci1 cg0 cg1 cu0 cu1 hrr
     go_wp2_with fail
     refine (l3More_any _ _ _ _ _ a1 a2 a3 a4 e1 e2 e3 e4).mono ?_
     rintro e w3 ⟨rfl,hb3⟩
     have HB3 : Hid (Below w.heap.size w w3) := bl_then HB2.out hb3
     clear hb3
     have hga : aboveB (gO X Y f t i) (gU X Y f t i) (gO X Y f t q) (gU X Y f t q) = gA X Y f t i q := rfl
     rw [hga]
     clear hga
     cases hg : gA X Y f t i q
     ·have HF2 : Hid (Far X Y f t (f + 1) (i + 1) q) := by
       show Far _ _ _ _ _ _ _
       have := HF.out.step X Y
       rw [hg] at this
       simpa using this
      clear a1 a2 a3 a4 e1 e2 e3 e4 hg
      go_wp2_with fail
      go_roundw
      case rel => exact ⟨i + 1,q,by omega,by omega,by go_num,rfl,rfl,rfl,HF2.out,HB3.out⟩
      case measure => simp [intOf]; omega
     ·have HF2 : Hid (Far X Y f t (f + 1) (i + 1) i) := by
       show Far _ _ _ _ _ _ _
       have := HF.out.step X Y
       rw [hg] at this
       simpa using this
      clear a1 a2 a3 a4 e1 e2 e3 e4 hg
      go_wp2_with fail
      go_roundw
      case rel => exact ⟨i + 1,i,by omega,by omega,by go_num,rfl,rfl,rfl,HF2.out,HB3.out⟩
      case measure => simp [intOf]; omega
   ·have hie : i = t := by omega
    subst hie
    go_wp2
    go_ret
    exact ⟨q,rfl,HF.out,HB.out⟩
theorem featsC_none (G : Nat → Feat) : featsC 0 G = 0 := by simp [featsC,scanC]
theorem ordI_none (G : Nat → Feat) : ordI 0 G = true := by simp [ordI]
theorem ordS_none (G : Nat → Feat) : ordS 0 G = true := by simp [ordS]
theorem FeaturesFault_nil (a : Option Addr) (cap : Nat) (w : World) : Calls Tryz.prog 43 #[.slice a 0 cap] w fun e w' => e = .returned (.int .i64 0) ∧ Below w.heap.size w w' := by
 go_enter Tryz.func43,Tryz.ntmps43
 go_wp2_with fail
 go_loopw [11] (fun i wr => i = .int .i64 0 ∧ w = wr) (fun _ _ => 0)
 case atStart => exact ⟨rfl,rfl⟩
 case round =>
  obtain ⟨rfl,rfl⟩ := hrel
  go_wp2
  go_ret
  exact ⟨rfl,Below.refl _ _⟩
theorem FeaturesFault_a (aa : Option Addr) (b n cap : Nat) (G : Nat → Feat) (haa : n = 0 ∨ aa = some ⟨b,0,none⟩) (w : World) (hg : FsAt w b 0 n G) (hbl : b < w.heap.size) (hs : SmallFs n G) (hcap : n ≤ cap) :
  Calls Tryz.prog 43 #[.slice aa n cap] w fun e w' => e = .returned (.int .i64 (featsC n G)) ∧ Below w.heap.size w w' := by
 rcases haa with rfl | rfl
 ·rw [featsC_none]; exact FeaturesFault_nil aa cap w
 ·exact FeaturesFault_any b n cap G w hg hbl hs hcap
theorem isSortedFunc_none (a : Option Addr) (cap : Nat) (w : World) : Calls Tryz.prog 99 #[.slice a 0 cap, .func (.func 46) #[] #[]] w fun e w' => e = .returned (.bool true) ∧ w = w' := by
 go_enter Tryz.func99,Tryz.ntmps99
 go_wp2_with fail
 go_loopw [5] (fun i wr => i = .int .i64 (-1) ∧ w = wr) (fun _ _ => 0)
 case atStart => exact ⟨rfl,rfl⟩
 case round =>
  obtain ⟨rfl,rfl⟩ := hrel
  go_wp2
  go_ret
  exact ⟨rfl,rfl⟩
theorem areInOrder_none (a : Option Addr) (cap : Nat) (w : World) : Calls Tryz.prog 58 #[.slice a 0 cap] w fun e w' => e = .returned (.bool true) ∧ Below w.heap.size w w' := by
 go_enter Tryz.func58,Tryz.ntmps58
 go_wp2_with (go_at_call 99; refine (isSortedFunc_none _ _ _).mono ?_; rintro e w' ⟨rfl,rfl⟩)
 go_ret
 exact ⟨rfl,Below.refl _ _⟩
theorem areInOrder_a (aa : Option Addr) (b n cap : Nat) (G : Nat → Feat) (haa : n = 0 ∨ aa = some ⟨b,0,none⟩) (w : World) (hg : FsAt w b 0 n G) (hbl : b < w.heap.size) (hn : n ≤ 1048576) :
  Calls Tryz.prog 58 #[.slice aa n cap] w fun e w' => e = .returned (.bool (ordI n G)) ∧ Below w.heap.size w w' := by
 rcases haa with rfl | rfl
 ·rw [ordI_none]; exact areInOrder_none aa cap w
 ·exact areInOrder_any b n cap G w hg hbl hn
theorem l2Many_none (a : Option Addr) (cap : Nat) (w : World) : Calls Tryz.prog 23 #[.slice a 0 cap] w fun e w' => e = .returned (.int .i64 0) ∧ Below w.heap.size w w' := by
 go_enter Tryz.func23,Tryz.ntmps23
 go_wp2_with fail
 go_loopw [3] (fun i wr => i = .int .i64 0 ∧ w = wr) (fun _ _ => 0)
 case atStart => exact ⟨rfl,rfl⟩
 case round =>
  obtain ⟨rfl,rfl⟩ := hrel
  go_wp2
  go_ret
  exact ⟨rfl,Below.refl _ _⟩
theorem l2Many_a (aa : Option Addr) (b n cap : Nat) (G : Nat → Feat) (haa : n = 0 ∨ aa = some ⟨b,0,none⟩) (w : World) (hg : FsAt w b 0 n G) (hbl : b < w.heap.size) (hs : SmallFs n G) :
  Calls Tryz.prog 23 #[.slice aa n cap] w fun e w' => e = .returned (.int .i64 (featsC n G)) ∧ Below w.heap.size w w' := by
 rcases haa with rfl | rfl
 ·rw [featsC_none]; exact l2Many_none aa cap w
 ·exact l2Many_any b n cap G w hg hbl hs
theorem l6Ordered_none (a : Option Addr) (cap : Nat) (w : World) : Calls Tryz.prog 80 #[.slice a 0 cap] w fun e w' => e = .returned (.bool true) ∧ Below w.heap.size w w' := by
 go_enter Tryz.func80,Tryz.ntmps80
 go_wp2_with fail
 go_loopw [3] (fun i wr => i = .int .i64 1 ∧ w = wr) (fun _ _ => 0)
 case atStart => exact ⟨rfl,rfl⟩
 case round =>
  obtain ⟨rfl,rfl⟩ := hrel
  go_wp2
  go_ret
  exact ⟨rfl,Below.refl _ _⟩
theorem l6Ordered_a (aa : Option Addr) (b n cap : Nat) (G : Nat → Feat) (haa : n = 0 ∨ aa = some ⟨b,0,none⟩) (w : World) (hg : FsAt w b 0 n G) (hbl : b < w.heap.size) (hn : n ≤ 1048576) :
  Calls Tryz.prog 80 #[.slice aa n cap] w fun e w' => e = .returned (.bool (ordS n G)) ∧ Below w.heap.size w w' := by
 rcases haa with rfl | rfl
 ·rw [ordS_none]; exact l6Ordered_none aa cap w
 ·exact l6Ordered_any b n cap G w hg hbl hn
theorem impl_PackList_a (aa : Option Addr) (b n cap : Nat) (G : Nat → Feat) (haa : n = 0 ∨ aa = some ⟨b,0,none⟩) (w : World) (hg : FsAt w b 0 n G) (hbl : b < w.heap.size) (hs : SmallFs n G) (hcap : n ≤ cap) :
  Calls Tryz.prog 25 #[.slice aa n cap] w fun e w' => ∃ v,e = .returned (.agg #[.int .i64 (plC n G),v]) ∧ RowB w.heap.size w' v (plL n G) ∧ Below w.heap.size w w' := by
 have HAA : Hid (n = 0 ∨ aa = some ⟨b,0,none⟩) := haa
 have HG : Hid (FsAt w b 0 n G) := hg
 clear haa
 have HS : Hid (SmallFs n G) := hs
 have hn := hs.1
 clear hg hs
 go_enter Tryz.func25,Tryz.ntmps25
 go_wp2_with fail
 generalize hW : (w.alloc _ : World) = W
 have hB0 : Below w.heap.size w W := by subst hW; (repeat (first|exact Qr _ _|assumption|refine Qd ?_|refine Qa ?_ _|refine Qt ?_|refine Qs ?_ _|refine Qo ?_ ?_ _ _))
 have t0 : There W w.heap.size 2 := fun o ho => by
  subst hW
  match o,ho with
  | 0,_ => exact ⟨⟨_,by simp [go_sem]; rfl⟩,by simp [go_sem]⟩
  | 1,_ => exact ⟨⟨_,by simp [go_sem]; rfl⟩,by simp [go_sem]⟩
 have hlt : w.heap.size < W.heap.size := by subst hW; simp
 have HT : Hid (There W w.heap.size 2) := t0
 clear hW t0
 refine (FeaturesFault_a aa b n cap G HAA.out W (HG.out.below hB0 hbl) (by omega) HS.out hcap).mono ?_
 rintro e w1 ⟨rfl,hb1⟩
 have HT1 : Hid (There w1 w.heap.size 2) := HT.out.below hb1
 have HB1 : Hid (Below w.heap.size w w1) := bl_then hB0 hb1
 have hlt1 : w.heap.size < w1.heap.size := by have := hb1.size; omega
 obtain ⟨r,hr⟩ : ∃ r,w.heap.size = r := ⟨_,rfl⟩
 have hwr : w.heap.size ≤ r := by omega
 rw [hr] at HT1 hlt1
 try rw [hr]
 clear HT hB0 hb1 hlt
 have HEND : Hid (∀ (c : Int) (Wq : World),There Wq r 2 → Below w.heap.size w Wq → plC n G = c → plL n G = [] → r < Wq.heap.size → ∃ v,(Ending.returned (.agg #[.int .i64 c, .slice none 0 0]) : Ending) = .returned (.agg #[.int .i64 (plC n G),v]) ∧ RowB w.heap.size ((Wq.setCell ⟨r,0,none⟩ (.int .i64 c)).setCell ⟨r,1,none⟩ (.slice none 0 0)) v (plL n G) ∧ Below w.heap.size w ((Wq.setCell ⟨r,0,none⟩ (.int .i64 c)).setCell ⟨r,1,none⟩ (.slice none 0 0))) := by
  intro c Wq _ hB hc hl _
  exact ⟨_,by rw [hc],by rw [hl]; exact RowB.no _ _,(hB.setCell (p := ⟨r,0,none⟩) hwr _).setCell (p := ⟨r,1,none⟩) hwr _⟩
 by_cases h0 : featsC n G = 0
 ·obtain ⟨hn12,hap,hok⟩ := featsC_ok h0
  have HOK : Hid (∀ i,i < n → Okf (G i)) := hok
  have HAP : Hid (apartK (fun i => (G i).id) n) := hap
  have HC0 : Hid (featsC n G = 0) := h0
  rw [h0]
  clear h0 hap hok
  go_wp2_with fail
  refine (areInOrder_a aa b n cap G HAA.out w1 (HG.out.below HB1.out hbl) (by omega) hn).mono ?_
  rintro e w2 ⟨rfl,hb2⟩
  rw [ord_same HAP.out]
  have HT2 : Hid (There w2 r 2) := HT1.out.below hb2
  have HB2 : Hid (Below w.heap.size w w2) := bl_then HB1.out hb2
  have hlt2 : r < w2.heap.size := by have := hb2.size; omega
  clear HT1 HB1 hb2 hlt1
  cases ho : ordS n G with
  | false =>
   have hc : plC n G = 1 := by simp [plC,HC0.out,ho]
   have hl : plL n G = [] := by simp [plL,hc]
   obtain ⟨v,q1,q2,q3⟩ := HEND.out 1 w2 HT2.out HB2.out hc hl hlt2
   have x0 := HT2.out.cell 0 (by omega)
   have x1 := HT2.out.cell 1 (by omega)
   have f0 := (HT2.out 0 (by omega)).2
   have f1 := (HT2.out 1 (by omega)).2
   have HQ := (show Hid (_ ∧ _ ∧ _) from ⟨q1,q2,q3⟩)
   clear q1 q2 q3 hc hl ho HEND
   go_wp2
   have s0 : ((w2.setCell ⟨r,0,none⟩ (.int .i64 1)).setCell ⟨r,1,none⟩ (.slice none 0 0)).cell? ⟨r,0,none⟩ = some (.int .i64 1) := set2_0 (by rw [x0]; rfl)
   have s1 : ((w2.setCell ⟨r,0,none⟩ (.int .i64 1)).setCell ⟨r,1,none⟩ (.slice none 0 0)).cell? ⟨r,1,none⟩ = some (.slice none 0 0) := set2_1 (by rw [x1]; rfl)
   have hq := HQ.out
   first
    | exact bodyPost_ret (v := .agg #[.int .i64 1, .slice none 0 0]) (by simp [results,Tryz.results25,go_sem,s0,s1]) rfl ⟨v,hq⟩
    | (rw [hr] at hq; exact bodyPost_ret (v := .agg #[.int .i64 1, .slice none 0 0]) (by simp [results,Tryz.results25,go_sem,s0,s1]) rfl ⟨v,hq⟩)
  | true =>
   have HO : Hid (ordS n G = true) := ho
   clear ho
   have e1 : IntKind.u64.wrap (n : Int) = (n : Int) := by rw [IntKind.wrap_u64]; omega
   have HPC : Hid (plC n G = if 900 < (datL n G).length + 2 then 2 else 0) := by show _ = _; simp [plC,HC0.out,HO.out]
   obtain ⟨i0,hi,hz0,hz1,hz2⟩ := info_parts info_u8
   have l7 := putI_len2 n (by omega)
   have hw2 := HB2.out.size
   go_wp2_with fail
   refine (putNumber_nb w2.heap.size (.slice none 0 0) [] n w2 (RowB.no _ _) (Nat.le_refl _) (by omega) (by simp)).mono ?_
   rintro e w3 ⟨v3,rfl,hO3,hB3,hN3⟩
   have HO3 : Hid (RowB w2.heap.size w3 v3 (putI n)) := by show RowB _ _ _ _; simpa using hO3
   have HB3 : Hid (Below w2.heap.size w2 w3) := hB3
   clear hO3 hB3 hN3
   go_wp2_with fail
   go_loopw [4,24] (fun u i wr => ∃ k : Nat,k ≤ n ∧ i = .int .i64 (k : Int) ∧ RowB w2.heap.size wr u (putI n ++ catL G k) ∧ Below w2.heap.size w2 wr) (fun _ i _ => n - (intOf i).toNat)
   case atStart => exact ⟨0,by omega,rfl,by simpa [catL] using HO3.out,HB3.out⟩
   case round =>
    obtain ⟨k,hk,rfl,hO,hB⟩ := hrel
    have HOr : Hid (RowB w2.heap.size wr u4 (putI n ++ catL G k)) := hO
    have HBr : Hid (Below w2.heap.size w2 wr) := hB
    have hbr : w2.heap.size ≤ wr.heap.size := hB.size
    have HBw : Hid (Below w.heap.size w wr) := HB2.out.trans (hB.mono HB2.out.size)
    clear hO hB HO3 HB3
    by_cases hlt : k < n
    ·obtain rfl : aa = some ⟨b,0,none⟩ := HAA.out.resolve_left (by omega)
     obtain ⟨⟨a0,a1,a2,a3,a4,a5,a6⟩,_⟩ := (HG.out.below HBw.out hbl) k hlt
     simp only [Nat.zero_add] at a0 a1 a2 a3 a4 a5 a6
     obtain ⟨b',off,ha,hb',hpt⟩ : ∃ b' off,(G k).a = some ⟨b',off,none⟩ ∧ b' < w.heap.size ∧ PtsAt w b' off (G k).n (G k).X (G k).Y := by
      obtain ⟨_,_,_,_,_,_,_,_,_,_,_,_,_,_,_,gn,_⟩ := feat_ok (HOK.out k hlt)
      rcases (HG.out k hlt).2 with h | ⟨b',off,e,hl,hp⟩
      ·omega
      ·exact ⟨b',off,e,hl,hp⟩
     have HPT : Hid (PtsAt w b' off (G k).n (G k).X (G k).Y) := hpt
     have HA : Hid ((G k).a = some ⟨b',off,none⟩) := ha
     have hcl := catL_len HOK.out k (by omega)
     have hbw : b < wr.heap.size := by omega
     have hi' : (k : Int) < (n : Int) := by omega
     clear hpt ha
     go_wp2_with fail
     generalize hV : (wr.alloc _ : World) = V
     have hbV : Below wr.heap.size wr V := by subst hV; (repeat (first|exact Qr _ _|assumption|refine Qd ?_|refine Qa ?_ _|refine Qt ?_|refine Qs ?_ _|refine Qo ?_ ?_ _ _))
     clear hV
     refine (putFeature_f w2.heap.size u4 _ (G k) b' off V (HOK.out k hlt) HA.out (HOr.out.below hbV) (by have := hbV.size; omega) (HPT.out.below (bl_then HBw.out hbV) hb') (by omega) (by simp; omega)).mono ?_
     rintro e w5 ⟨v5,rfl,hO5,hB5,hN5⟩
     have HO5 : Hid (RowB w2.heap.size w5 v5 (putI n ++ catL G (k + 1))) := by show RowB _ _ _ _; simpa [catL] using hO5
     have HB5 : Hid (Below w2.heap.size w2 w5) := (HBr.out.trans (hbV.mono hbr)).trans hB5
     clear hO5 hB5 hN5 hbV HOr HBr HBw a0 a1 a2 a3 a4 a5 a6
     go_wp2
     go_roundw
     case rel => exact ⟨k + 1,by omega,by first | rfl | go_num | (simp; done) | omega,HO5.out,HB5.out⟩
     case measure => simp [intOf]; omega
    ·have hkn : k = n := by omega
     subst hkn
     have hi' : ¬ (k : Int) < (k : Int) := by omega
     obtain ⟨L,hL⟩ : ∃ L,datL k G = L := ⟨_,rfl⟩
     have HOL : Hid (RowB w2.heap.size wr u4 L) := by show RowB _ _ _ _; rw [← hL]; exact HOr.out
     have hlen : L.length ≤ 1202 := by rw [← hL]; exact datL_len HOK.out hn12
     have HBY : Hid (∀ i,0 ≤ zz L i ∧ zz L i ≤ 255) := by show ∀ i,_; rw [← hL]; exact zz_byt (datL_byt k G)
     have hpos : 0 < L.length := by rw [← hL]; have := putI_ne k; simp [datL]; omega
     rw [hL] at HPC
     have HPL : Hid (plC k G = 0 → plL k G = endL L) := by intro h; simp [plL,h,hL]
     have HPN : Hid (plC k G ≠ 0 → plL k G = []) := by intro h; simp [plL,h]
     clear hL HOr
     obtain ⟨g,c,rfl,hg1,hg2,hgc,hbs⟩ := HOL.out.at hpos
     have HBS : Hid (BsAt wr g 0 L.length (zz L)) := hbs
     have HTr : Hid (There wr r 2) := HT2.out.belowB' HBr.out hlt2
     have hltr : r < wr.heap.size := by omega
     clear hbs
     by_cases hbig : 900 < L.length + 2
     ·have hpc : plC k G = 2 := by rw [HPC.out,if_pos hbig]
      have hpl : plL k G = [] := HPN.out (by rw [hpc]; decide)
      have e9 : (900 : Int) < (L.length : Int) + 2 := by omega
      obtain ⟨v,q1,q2,q3⟩ := HEND.out 2 wr HTr.out HBw.out hpc hpl hltr
      have x0 := HTr.out.cell 0 (by omega)
      have x1 := HTr.out.cell 1 (by omega)
      have f0 := (HTr.out 0 (by omega)).2
      have f1 := (HTr.out 1 (by omega)).2
      have HQ := (show Hid (_ ∧ _ ∧ _) from ⟨q1,q2,q3⟩)
      clear q1 q2 q3 hpc hpl HEND
      go_wp2
      have s0 : ((wr.setCell ⟨r,0,none⟩ (.int .i64 2)).setCell ⟨r,1,none⟩ (.slice none 0 0)).cell? ⟨r,0,none⟩ = some (.int .i64 2) := set2_0 (by rw [x0]; rfl)
      have s1 : ((wr.setCell ⟨r,0,none⟩ (.int .i64 2)).setCell ⟨r,1,none⟩ (.slice none 0 0)).cell? ⟨r,1,none⟩ = some (.slice none 0 0) := set2_1 (by rw [x1]; rfl)
      have hq := HQ.out
      first
       | exact bodyPost_ret (v := .agg #[.int .i64 2, .slice none 0 0]) (by simp [results,Tryz.results25,go_sem,s0,s1]) rfl ⟨v,hq⟩
       | (rw [hr] at hq; exact bodyPost_ret (v := .agg #[.int .i64 2, .slice none 0 0]) (by simp [results,Tryz.results25,go_sem,s0,s1]) rfl ⟨v,hq⟩)
     ·have HC : Hid (plC k G = 0) := by show _ = _; rw [HPC.out,if_neg hbig]
      have e9 : ¬ (900 : Int) < (L.length : Int) + 2 := by omega
      obtain ⟨t,ht⟩ : ∃ t,sumL L = t := ⟨_,rfl⟩
      have htl : t < 65521 := by rw [← ht]; exact sumL_lt L
      obtain ⟨q,hq⟩ : ∃ q,t / 256 = q := ⟨_,rfl⟩
      obtain ⟨m,hm⟩ : ∃ m,t % 256 = m := ⟨_,rfl⟩
      have HL : Hid (plL k G = L ++ [(q : Int),(m : Int)]) := by show _ = _; rw [HPL.out HC.out]; unfold endL; rw [ht,hq,hm]
      have HSM : Hid (sumZ (zz L) L.length = (t : Int)) := by show _ = _; rw [sumL_eq,ht]
      have e6 : (t : Int).fdiv (2 ^ min (Int.toNat 8) IntKind.u64.bits) = (q : Int) := by
       rw [show (2 : Int) ^ min (Int.toNat 8) IntKind.u64.bits = 256 from rfl,Int.fdiv_eq_ediv_of_nonneg _ (by omega)]; omega
      have e5 : (t : Int) / 256 = (q : Int) := by omega
      have e7 : IntKind.u8.wrap (q : Int) = (q : Int) := by rw [IntKind.wrap_u8]; omega
      have e8 : IntKind.u8.wrap (t : Int) = (m : Int) := by rw [IntKind.wrap_u8]; omega
      clear ht hq hm HEND HPL HPN HPC
      go_wp2_with fail
      refine (sumOf_any (some ⟨g,0,none⟩) L.length c (zz L) wr (.inr ⟨g,0,rfl,hg2,HBS.out⟩) HBY.out (by omega)).mono ?_
      rintro e w6 ⟨rfl,rfl⟩
      rw [HSM.out]
      go_wp2_with (first
       | (at_builtin; go_must (refine wpList_append_own _ rfl _ _ 22 rfl w2.heap.size 5 i0 (.int .u8 0) 1 1 Tryz.underlying22 hi hz0 hz1 hz2 rfl (by decide) _ L.length (cellsB L) rfl (HOL.out.alloc _) ⟨wr.heap.size,0,none⟩ 2 2 [.int .u8 (q : Int), .int .u8 (m : Int)] rfl rfl ?d1 ?d2 ?d3 ?d4 ?d5 ?_)))
      case d1 =>
       intro j u hj
       match j,hj with
       | 0,hj => simp at hj; subst hj; simp [Addr.add,go_sem]
       | 1,hj => simp at hj; subst hj; simp [Addr.add,go_sem]
       | j + 2,hj => simp at hj
      case d2 => intro u hu; simp at hu; rcases hu with rfl | rfl <;> rfl
      case d3 => unfold maxLen; omega
      case d4 => omega
      case d5 => first | (simp; omega) | omega
      intro v7 w7 hown hgrow hnil
      have hBa : Below wr.heap.size wr (wr.alloc (.cells #[.int .u8 (q : Int), .int .u8 (m : Int)] 5)) := (Below.refl _ _).alloc (Nat.le_refl _) _
      have hBg : Below w2.heap.size (wr.alloc (.cells #[.int .u8 (q : Int), .int .u8 (m : Int)] 5)) w7 := (Below.refl _ _).grown hgrow (by simp; omega) (fun k hk => (HOL.out.lt k hk).1)
      have hB7 : Below w2.heap.size w2 w7 := (HBr.out.trans (hBa.mono hbr)).trans hBg
      have hR7 : RowB w2.heap.size w7 v7 (L ++ [(q : Int),(m : Int)]) := by
       unfold RowB
       rw [cellsB_add]
       simpa [cellsB] using hown
      obtain ⟨g7,c7,rfl,_,_,_,_⟩ := hR7.at (by simp)
      have HR7 : Hid (RowB w2.heap.size w7 (.slice (some ⟨g7,0,none⟩) (L ++ [(q : Int),(m : Int)]).length c7) (L ++ [(q : Int),(m : Int)])) := hR7
      generalize (L ++ [(q : Int),(m : Int)]).length = LL at *
      have HT7 : Hid (There w7 r 2) := HT2.out.belowB' hB7 hlt2
      have HB7 : Hid (Below w.heap.size w w7) := HB2.out.trans (hB7.mono HB2.out.size)
      have x0 := HT7.out.cell 0 (by omega)
      have x1 := HT7.out.cell 1 (by omega)
      have f0 := (HT7.out 0 (by omega)).2
      have f1 := (HT7.out 1 (by omega)).2
      clear hown hgrow hnil hBa hBg hB7 hR7 HOL HBr HBw HBS HTr
      go_wp2
      have s0 : ((w7.setCell ⟨r,0,none⟩ (.int .i64 0)).setCell ⟨r,1,none⟩ (.slice (some ⟨g7,0,none⟩) LL c7)).cell? ⟨r,0,none⟩ = some (.int .i64 0) := set2_0 (by rw [x0]; rfl)
      have s1 : ((w7.setCell ⟨r,0,none⟩ (.int .i64 0)).setCell ⟨r,1,none⟩ (.slice (some ⟨g7,0,none⟩) LL c7)).cell? ⟨r,1,none⟩ = some (.slice (some ⟨g7,0,none⟩) LL c7) := set2_1 (by rw [x1]; rfl)
      have hBf : Below w.heap.size w ((w7.setCell ⟨r,0,none⟩ (.int .i64 0)).setCell ⟨r,1,none⟩ (.slice (some ⟨g7,0,none⟩) LL c7)) := (HB7.out.setCell (p := ⟨r,0,none⟩) hwr _).setCell (p := ⟨r,1,none⟩) hwr _
      have hRf : RowB w.heap.size ((w7.setCell ⟨r,0,none⟩ (.int .i64 0)).setCell ⟨r,1,none⟩ (.slice (some ⟨g7,0,none⟩) LL c7)) (.slice (some ⟨g7,0,none⟩) LL c7) (L ++ [(q : Int),(m : Int)]) := (RowB.other (RowB.other HR7.out hlt2) hlt2).wide (by omega)
      generalize ((w7.setCell ⟨r,0,none⟩ (.int .i64 0)).setCell ⟨r,1,none⟩ (.slice (some ⟨g7,0,none⟩) LL c7)) = Wf at *
      first
       | exact bodyPost_ret (v := .agg #[.int .i64 0, .slice (some ⟨g7,0,none⟩) LL c7]) (by simp [results,Tryz.results25,go_sem,s0,s1]) rfl ⟨_,by rw [HC.out],by rw [HL.out]; exact hRf,hBf⟩
       | (rw [hr] at hRf hBf; exact bodyPost_ret (v := .agg #[.int .i64 0, .slice (some ⟨g7,0,none⟩) LL c7]) (by simp [results,Tryz.results25,go_sem,s0,s1]) rfl ⟨_,by rw [HC.out],by rw [HL.out]; exact hRf,hBf⟩)
 ·obtain ⟨c,hc⟩ : ∃ c,featsC n G = c := ⟨_,rfl⟩
  rw [hc] at h0
  have hpc : plC n G = c := by simp [plC,hc,h0]
  have hpl : plL n G = [] := by simp [plL,hpc,h0]
  try rw [hc]
  clear hc
  have h0' : (c == 0) = false := by simpa using h0
  obtain ⟨v,q1,q2,q3⟩ := HEND.out c w1 HT1.out HB1.out hpc hpl hlt1
  have x0 := HT1.out.cell 0 (by omega)
  have x1 := HT1.out.cell 1 (by omega)
  have f0 := (HT1.out 0 (by omega)).2
  have f1 := (HT1.out 1 (by omega)).2
  have HQ := (show Hid (_ ∧ _ ∧ _) from ⟨q1,q2,q3⟩)
  clear q1 q2 q3 hpc hpl HEND
  go_wp2
  have s0 : ((w1.setCell ⟨r,0,none⟩ (.int .i64 c)).setCell ⟨r,1,none⟩ (.slice none 0 0)).cell? ⟨r,0,none⟩ = some (.int .i64 c) := set2_0 (by rw [x0]; rfl)
  have s1 : ((w1.setCell ⟨r,0,none⟩ (.int .i64 c)).setCell ⟨r,1,none⟩ (.slice none 0 0)).cell? ⟨r,1,none⟩ = some (.slice none 0 0) := set2_1 (by rw [x1]; rfl)
  have hq := HQ.out
  first
   | exact bodyPost_ret (v := .agg #[.int .i64 c, .slice none 0 0]) (by simp [results,Tryz.results25,go_sem,s0,s1]) rfl ⟨v,hq⟩
   | (rw [hr] at hq; exact bodyPost_ret (v := .agg #[.int .i64 c, .slice none 0 0]) (by simp [results,Tryz.results25,go_sem,s0,s1]) rfl ⟨v,hq⟩)
theorem l6Pack_a (aa : Option Addr) (b n cap : Nat) (G : Nat → Feat) (haa : n = 0 ∨ aa = some ⟨b,0,none⟩) (w : World) (hg : FsAt w b 0 n G) (hbl : b < w.heap.size) (hn12 : n ≤ 12) (hok : ∀ i,i < n → Okf (G i)) :
  Calls Tryz.prog 81 #[.slice aa n cap] w fun e w' => ∃ v,e = .returned v ∧ RowB w.heap.size w' v (endL (datL n G)) ∧ Below w.heap.size w w' := by
 have HAA : Hid (n = 0 ∨ aa = some ⟨b,0,none⟩) := haa
 have HG : Hid (FsAt w b 0 n G) := hg
 clear haa
 have HOK : Hid (∀ i,i < n → Okf (G i)) := hok
 obtain ⟨i0,hi,hz0,hz1,hz2⟩ := info_parts info_u8
 have l7 := putI_len2 n (by omega)
 clear hg hok
 go_enter Tryz.func81,Tryz.ntmps81
 go_wp2_with fail
 refine (l6Put_any n w (by omega)).mono ?_
 rintro e w3 ⟨v3,rfl,hO3,hB3⟩
 have HO3 : Hid (RowB w.heap.size w3 v3 (putI n)) := hO3
 have HB3 : Hid (Below w.heap.size w w3) := hB3
 clear hO3 hB3
 go_wp2_with fail
 go_loopw [3,4] (fun u i wr => ∃ k : Nat,k ≤ n ∧ i = .int .i64 (k : Int) ∧ RowB w.heap.size wr u (putI n ++ catL G k) ∧ Below w.heap.size w wr) (fun _ i _ => n - (intOf i).toNat)
 case atStart => exact ⟨0,by omega,rfl,by simpa [catL] using HO3.out,HB3.out⟩
 case round =>
  obtain ⟨k,hk,rfl,hO,hB⟩ := hrel
  have HOr : Hid (RowB w.heap.size wr u3 (putI n ++ catL G k)) := hO
  have HBr : Hid (Below w.heap.size w wr) := hB
  have hbr : w.heap.size ≤ wr.heap.size := hB.size
  clear hO hB HO3 HB3
  by_cases hlt : k < n
  ·obtain rfl : aa = some ⟨b,0,none⟩ := HAA.out.resolve_left (by omega)
   obtain ⟨b',off,ha,hb',hpt⟩ : ∃ b' off,(G k).a = some ⟨b',off,none⟩ ∧ b' < w.heap.size ∧ PtsAt w b' off (G k).n (G k).X (G k).Y := by
    obtain ⟨_,_,_,_,_,_,_,_,_,_,_,_,_,_,_,gn,_⟩ := feat_ok (HOK.out k hlt)
    rcases (HG.out k hlt).2 with h | ⟨b',off,e,hl,hp⟩
    ·omega
    ·exact ⟨b',off,e,hl,hp⟩
   have HPT : Hid (PtsAt w b' off (G k).n (G k).X (G k).Y) := hpt
   have HA : Hid ((G k).a = some ⟨b',off,none⟩) := ha
   have hcl := catL_len HOK.out k (by omega)
   have hfl := fL_len (HOK.out k hlt)
   have hbw : b < wr.heap.size := by omega
   have hi' : (k : Int) < (n : Int) := by omega
   have HFA : Hid (FeatAt wr b (k * 7) (G k).id (G k).la (G k).ki (G k).wi (.slice (G k).a (G k).n (G k).cap) (G k).lab (G k).pr) := by
    have h := ((HG.out.below HBr.out hbl) k hlt).1
    rwa [Nat.zero_add] at h
   clear hpt ha
   go_wp2_with fail
   refine (l6Feature_f b (k * 7) (G k) b' off wr (HOK.out k hlt) HA.out HFA.out (HPT.out.below HBr.out hb') (by omega)).mono ?_
   rintro e w5 ⟨v5,rfl,hR5,hb5⟩
   have hpos : 0 < (fL (G k)).length := by have := putI_ne (G k).id.toNat; simp [fL,featL,hd]; omega
   obtain ⟨g5,c5,rfl,_,_,_,hs5⟩ := hR5.at hpos
   have HS5 : Hid (BsAt w5 g5 0 (fL (G k)).length (zz (fL (G k)))) := hs5
   have HO5 : Hid (RowB w.heap.size w5 u3 (putI n ++ catL G k)) := HOr.out.below hb5
   have HB5 : Hid (Below w.heap.size w w5) := bl_then HBr.out hb5
   have hle5 := HB5.out.size
   obtain ⟨LK,hLK⟩ : ∃ L,putI n ++ catL G k = L := ⟨_,rfl⟩
   have hlk : LK.length ≤ 1300 := by rw [← hLK]; simp; omega
   rw [hLK] at HO5
   have HLK : Hid (putI n ++ catL G (k + 1) = LK ++ fL (G k)) := by show _ = _; rw [← hLK]; simp [catL]
   obtain ⟨FK,hFK⟩ : ∃ L,fL (G k) = L := ⟨_,rfl⟩
   rw [hFK] at HS5 HLK hfl ⊢
   clear hR5 hs5 hb5 HOr HBr hLK hpos hFK
   go_wp2_with (first
    | (at_builtin; go_must (refine wpList_append_own _ rfl _ _ 22 rfl w.heap.size 5 i0 (.int .u8 0) 1 1 Tryz.underlying22 hi hz0 hz1 hz2 rfl (by decide) _ LK.length (cellsB LK) rfl HO5.out ⟨g5,0,none⟩ FK.length c5 (cellsB FK) rfl (by simp [cellsB]) HS5.out.news (cellsB_one _) ?c3 ?c4 ?c5 ?_)))
   case c3 => unfold maxLen; omega
   case c4 => omega
   case c5 => first | omega | (simp; omega)
   intro v6 w6 hown hgrow hnil
   have HB6 : Hid (Below w.heap.size w w6) := HB5.out.grown hgrow hle5 (fun k hk => (HO5.out.lt k hk).1)
   have HO6 : Hid (RowB w.heap.size w6 v6 (putI n ++ catL G (k + 1))) := by
    show RowB _ _ _ _
    rw [HLK.out]
    unfold RowB
    rw [cellsB_add,List.length_append]
    exact hown
   clear hown hgrow hnil HO5 HB5 HS5 hle5
   go_wp2
   go_roundw
   case rel => exact ⟨k + 1,by omega,by first | rfl | go_num | (simp; done) | omega,HO6.out,HB6.out⟩
   case measure => simp [intOf]; omega
  ·have hkn : k = n := by omega
   subst hkn
   have hi' : ¬ (k : Int) < (k : Int) := by omega
   obtain ⟨L,hL⟩ : ∃ L,datL k G = L := ⟨_,rfl⟩
   have HOL : Hid (RowB w.heap.size wr u3 L) := by show RowB _ _ _ _; rw [← hL]; exact HOr.out
   have hlen : L.length ≤ 1202 := by rw [← hL]; exact datL_len HOK.out hn12
   have HBY : Hid (∀ i,0 ≤ zz L i ∧ zz L i ≤ 255) := by show ∀ i,_; rw [← hL]; exact zz_byt (datL_byt k G)
   have hpos : 0 < L.length := by rw [← hL]; have := putI_ne k; simp [datL]; omega
   obtain ⟨g,c,rfl,hg1,hg2,hgc,hbs⟩ := HOL.out.at hpos
   have HBS : Hid (BsAt wr g 0 L.length (zz L)) := hbs
   clear hbs
   obtain ⟨t,ht⟩ : ∃ t,sumL L = t := ⟨_,rfl⟩
   have htl : t < 65521 := by rw [← ht]; exact sumL_lt L
   obtain ⟨q,hq⟩ : ∃ q,t / 256 = q := ⟨_,rfl⟩
   obtain ⟨m,hm⟩ : ∃ m,t % 256 = m := ⟨_,rfl⟩
   have HL : Hid (endL (datL k G) = L ++ [(q : Int),(m : Int)]) := by show _ = _; rw [hL]; unfold endL; rw [ht,hq,hm]
   have HSM : Hid (sumZ (zz L) L.length = (t : Int)) := by show _ = _; rw [sumL_eq,ht]
   have e5 : (t : Int) / 256 = (q : Int) := by omega
   have e6 : (t : Int) % 256 = (m : Int) := by omega
   have e5' : (t : Int).tdiv 256 = (q : Int) := by rw [Int.tdiv_eq_ediv_of_nonneg (by omega)]; omega
   have e6' : (t : Int).tmod 256 = (m : Int) := by rw [Int.tmod_eq_emod_of_nonneg (by omega)]; omega
   have e7 : IntKind.u8.wrap (q : Int) = (q : Int) := by rw [IntKind.wrap_u8]; omega
   have e8 : IntKind.u8.wrap (m : Int) = (m : Int) := by rw [IntKind.wrap_u8]; omega
   clear ht hq hm hL HOr
   go_wp2_with fail
   refine (l6Sum_any (some ⟨g,0,none⟩) L.length c (zz L) wr (.inr ⟨g,0,rfl,hg2,HBS.out⟩) HBY.out (by omega)).mono ?_
   rintro e w6 ⟨rfl,rfl⟩
   rw [HSM.out]
   go_wp2_with (first
    | (at_builtin; go_must (refine wpList_append_own _ rfl _ _ 22 rfl w.heap.size 5 i0 (.int .u8 0) 1 1 Tryz.underlying22 hi hz0 hz1 hz2 rfl (by decide) _ L.length (cellsB L) rfl (HOL.out.alloc _) ⟨wr.heap.size,0,none⟩ 2 2 [.int .u8 (q : Int), .int .u8 (m : Int)] rfl rfl ?d1 ?d2 ?d3 ?d4 ?d5 ?_)))
   case d1 =>
    intro j u hj
    match j,hj with
    | 0,hj => simp at hj; subst hj; simp [Addr.add,go_sem]
    | 1,hj => simp at hj; subst hj; simp [Addr.add,go_sem]
    | j + 2,hj => simp at hj
   case d2 => intro u hu; simp at hu; rcases hu with rfl | rfl <;> rfl
   case d3 => unfold maxLen; omega
   case d4 => omega
   case d5 => first | (simp; omega) | omega
   intro v7 w7 hown hgrow hnil
   have hBa : Below wr.heap.size wr (wr.alloc (.cells #[.int .u8 (q : Int), .int .u8 (m : Int)] 5)) := (Below.refl _ _).alloc (Nat.le_refl _) _
   have hBg : Below w.heap.size (wr.alloc (.cells #[.int .u8 (q : Int), .int .u8 (m : Int)] 5)) w7 := (Below.refl _ _).grown hgrow (by simp; omega) (fun k hk => (HOL.out.lt k hk).1)
   have HB7 : Hid (Below w.heap.size w w7) := (HBr.out.trans (hBa.mono hbr)).trans hBg
   have HR7 : Hid (RowB w.heap.size w7 v7 (L ++ [(q : Int),(m : Int)])) := by
    show RowB _ _ _ _
    unfold RowB
    rw [cellsB_add]
    simpa [cellsB] using hown
   clear hown hgrow hnil hBa hBg HOL HBr HBS
   go_wp2
   go_ret
   exact ⟨_,rfl,by rw [HL.out]; exact HR7.out,HB7.out⟩
theorem spec_PackList_a (aa : Option Addr) (b n cap : Nat) (G : Nat → Feat) (haa : n = 0 ∨ aa = some ⟨b,0,none⟩) (w : World) (hg : FsAt w b 0 n G) (hbl : b < w.heap.size) (hs : SmallFs n G) :
  Calls Tryz.prog 34 #[.slice aa n cap] w fun e w' => ∃ v,e = .returned (.agg #[.int .i64 (plC n G),v]) ∧ RowB w.heap.size w' v (plL n G) ∧ Below w.heap.size w w' := by
 have HAA : Hid (n = 0 ∨ aa = some ⟨b,0,none⟩) := haa
 have HG : Hid (FsAt w b 0 n G) := hg
 clear haa
 have HS : Hid (SmallFs n G) := hs
 have hn := hs.1
 clear hg hs
 go_enter Tryz.func34,Tryz.ntmps34
 go_wp2_with fail
 generalize hW : (w.alloc _ : World) = W
 have hB0 : Below w.heap.size w W := by subst hW; (repeat (first|exact Qr _ _|assumption|refine Qd ?_|refine Qa ?_ _|refine Qt ?_|refine Qs ?_ _|refine Qo ?_ ?_ _ _))
 have t0 : There W w.heap.size 2 := fun o ho => by
  subst hW
  match o,ho with
  | 0,_ => exact ⟨⟨_,by simp [go_sem]; rfl⟩,by simp [go_sem]⟩
  | 1,_ => exact ⟨⟨_,by simp [go_sem]; rfl⟩,by simp [go_sem]⟩
 have hlt : w.heap.size < W.heap.size := by subst hW; simp
 have HT : Hid (There W w.heap.size 2) := t0
 clear hW t0
 refine (l2Many_a aa b n cap G HAA.out W (HG.out.below hB0 hbl) (by omega) HS.out).mono ?_
 rintro e w1 ⟨rfl,hb1⟩
 have HT1 : Hid (There w1 w.heap.size 2) := HT.out.below hb1
 have HB1 : Hid (Below w.heap.size w w1) := bl_then hB0 hb1
 have hlt1 : w.heap.size < w1.heap.size := by have := hb1.size; omega
 obtain ⟨r,hr⟩ : ∃ r,w.heap.size = r := ⟨_,rfl⟩
 have hwr : w.heap.size ≤ r := by omega
 rw [hr] at HT1 hlt1
 try rw [hr]
 clear HT hB0 hb1 hlt
 have HEND : Hid (∀ (c : Int) (Wq : World),There Wq r 2 → Below w.heap.size w Wq → plC n G = c → plL n G = [] → r < Wq.heap.size → ∃ v,(Ending.returned (.agg #[.int .i64 c, .slice none 0 0]) : Ending) = .returned (.agg #[.int .i64 (plC n G),v]) ∧ RowB w.heap.size ((Wq.setCell ⟨r,0,none⟩ (.int .i64 c)).setCell ⟨r,1,none⟩ (.slice none 0 0)) v (plL n G) ∧ Below w.heap.size w ((Wq.setCell ⟨r,0,none⟩ (.int .i64 c)).setCell ⟨r,1,none⟩ (.slice none 0 0))) := by
  intro c Wq _ hB hc hl _
  exact ⟨_,by rw [hc],by rw [hl]; exact RowB.no _ _,(hB.setCell (p := ⟨r,0,none⟩) hwr _).setCell (p := ⟨r,1,none⟩) hwr _⟩
 by_cases h0 : featsC n G = 0
 ·obtain ⟨hn12,hap,hok⟩ := featsC_ok h0
  have HOK : Hid (∀ i,i < n → Okf (G i)) := hok
  have HAP : Hid (apartK (fun i => (G i).id) n) := hap
  have HC0 : Hid (featsC n G = 0) := h0
  rw [h0]
  clear h0 hap hok
  go_wp2_with fail
  refine (l6Ordered_a aa b n cap G HAA.out w1 (HG.out.below HB1.out hbl) (by omega) hn).mono ?_
  rintro e w2 ⟨rfl,hb2⟩
  have HT2 : Hid (There w2 r 2) := HT1.out.below hb2
  have HB2 : Hid (Below w.heap.size w w2) := bl_then HB1.out hb2
  have hlt2 : r < w2.heap.size := by have := hb2.size; omega
  clear HT1 HB1 hb2 hlt1
  cases ho : ordS n G with
  | false =>
   have hc : plC n G = 1 := by simp [plC,HC0.out,ho]
   have hl : plL n G = [] := by simp [plL,hc]
   obtain ⟨v,q1,q2,q3⟩ := HEND.out 1 w2 HT2.out HB2.out hc hl hlt2
   have x0 := HT2.out.cell 0 (by omega)
   have x1 := HT2.out.cell 1 (by omega)
   have f0 := (HT2.out 0 (by omega)).2
   have f1 := (HT2.out 1 (by omega)).2
   have HQ := (show Hid (_ ∧ _ ∧ _) from ⟨q1,q2,q3⟩)
   clear q1 q2 q3 hc hl ho HEND
   go_wp2
   have s0 : ((w2.setCell ⟨r,0,none⟩ (.int .i64 1)).setCell ⟨r,1,none⟩ (.slice none 0 0)).cell? ⟨r,0,none⟩ = some (.int .i64 1) := set2_0 (by rw [x0]; rfl)
   have s1 : ((w2.setCell ⟨r,0,none⟩ (.int .i64 1)).setCell ⟨r,1,none⟩ (.slice none 0 0)).cell? ⟨r,1,none⟩ = some (.slice none 0 0) := set2_1 (by rw [x1]; rfl)
   have hq := HQ.out
   first
    | exact bodyPost_ret (v := .agg #[.int .i64 1, .slice none 0 0]) (by simp [results,Tryz.results34,go_sem,s0,s1]) rfl ⟨v,hq⟩
    | (rw [hr] at hq; exact bodyPost_ret (v := .agg #[.int .i64 1, .slice none 0 0]) (by simp [results,Tryz.results34,go_sem,s0,s1]) rfl ⟨v,hq⟩)
  | true =>
   have HO : Hid (ordS n G = true) := ho
   clear ho
   have HPC : Hid (plC n G = if 900 < (datL n G).length + 2 then 2 else 0) := by show _ = _; simp [plC,HC0.out,HO.out]
   have HPL : Hid (plC n G = 0 → plL n G = endL (datL n G)) := by intro h; simp [plL,h]
   have HPN : Hid (plC n G ≠ 0 → plL n G = []) := by intro h; simp [plL,h]
   have hw2 := HB2.out.size
   go_wp2_with fail
   refine (l6Pack_a aa b n cap G HAA.out w2 (HG.out.below HB2.out hbl) (by omega) hn12 HOK.out).mono ?_
   rintro e w7 ⟨v7,rfl,hR7,hB7⟩
   have hlen7 : (endL (datL n G)).length = (datL n G).length + 2 := by simp [endL]
   obtain ⟨E,hE⟩ : ∃ L,endL (datL n G) = L := ⟨_,rfl⟩
   rw [hE] at hR7 hlen7 HPL
   clear hE
   obtain ⟨g7,c7,rfl,_,_,_,_⟩ := hR7.at (by omega)
   have HR7 : Hid (RowB w2.heap.size w7 (.slice (some ⟨g7,0,none⟩) E.length c7) E) := hR7
   have HT7 : Hid (There w7 r 2) := HT2.out.below hB7
   have HB7 : Hid (Below w.heap.size w w7) := bl_then HB2.out hB7
   have hlt7 : r < w7.heap.size := by have := hB7.size; omega
   rw [← hlen7] at HPC
   obtain ⟨LL,hLL⟩ : ∃ k,E.length = k := ⟨_,rfl⟩
   rw [hLL] at HPC HR7 ⊢
   clear hR7 hB7 hlen7 hLL
   have x0 := HT7.out.cell 0 (by omega)
   have x1 := HT7.out.cell 1 (by omega)
   have f0 := (HT7.out 0 (by omega)).2
   have f1 := (HT7.out 1 (by omega)).2
   by_cases hbig : 900 < LL
   ·have hpc : plC n G = 2 := by rw [HPC.out,if_pos hbig]
    have hpl : plL n G = [] := HPN.out (by rw [hpc]; decide)
    have e9 : (900 : Int) < (LL : Int) := by omega
    obtain ⟨v,q1,q2,q3⟩ := HEND.out 2 w7 HT7.out HB7.out hpc hpl hlt7
    have HQ := (show Hid (_ ∧ _ ∧ _) from ⟨q1,q2,q3⟩)
    clear q1 q2 q3 hpc hpl HEND
    go_wp2
    have s0 : ((w7.setCell ⟨r,0,none⟩ (.int .i64 2)).setCell ⟨r,1,none⟩ (.slice none 0 0)).cell? ⟨r,0,none⟩ = some (.int .i64 2) := set2_0 (by rw [x0]; rfl)
    have s1 : ((w7.setCell ⟨r,0,none⟩ (.int .i64 2)).setCell ⟨r,1,none⟩ (.slice none 0 0)).cell? ⟨r,1,none⟩ = some (.slice none 0 0) := set2_1 (by rw [x1]; rfl)
    have hq := HQ.out
    first
     | exact bodyPost_ret (v := .agg #[.int .i64 2, .slice none 0 0]) (by simp [results,Tryz.results34,go_sem,s0,s1]) rfl ⟨v,hq⟩
     | (rw [hr] at hq; exact bodyPost_ret (v := .agg #[.int .i64 2, .slice none 0 0]) (by simp [results,Tryz.results34,go_sem,s0,s1]) rfl ⟨v,hq⟩)
   ·have HC : Hid (plC n G = 0) := by show _ = _; rw [HPC.out,if_neg hbig]
    have HL : Hid (plL n G = E) := HPL.out HC.out
    have e9 : ¬ (900 : Int) < (LL : Int) := by omega
    clear HPL HPN HPC HEND
    go_wp2
    have s0 : ((w7.setCell ⟨r,0,none⟩ (.int .i64 0)).setCell ⟨r,1,none⟩ (.slice (some ⟨g7,0,none⟩) LL c7)).cell? ⟨r,0,none⟩ = some (.int .i64 0) := set2_0 (by rw [x0]; rfl)
    have s1 : ((w7.setCell ⟨r,0,none⟩ (.int .i64 0)).setCell ⟨r,1,none⟩ (.slice (some ⟨g7,0,none⟩) LL c7)).cell? ⟨r,1,none⟩ = some (.slice (some ⟨g7,0,none⟩) LL c7) := set2_1 (by rw [x1]; rfl)
    have hBf : Below w.heap.size w ((w7.setCell ⟨r,0,none⟩ (.int .i64 0)).setCell ⟨r,1,none⟩ (.slice (some ⟨g7,0,none⟩) LL c7)) := (HB7.out.setCell (p := ⟨r,0,none⟩) hwr _).setCell (p := ⟨r,1,none⟩) hwr _
    have hRf : RowB w.heap.size ((w7.setCell ⟨r,0,none⟩ (.int .i64 0)).setCell ⟨r,1,none⟩ (.slice (some ⟨g7,0,none⟩) LL c7)) (.slice (some ⟨g7,0,none⟩) LL c7) E := (RowB.other (RowB.other HR7.out hlt2) hlt2).wide (by omega)
    generalize ((w7.setCell ⟨r,0,none⟩ (.int .i64 0)).setCell ⟨r,1,none⟩ (.slice (some ⟨g7,0,none⟩) LL c7)) = Wf at *
    first
     | exact bodyPost_ret (v := .agg #[.int .i64 0, .slice (some ⟨g7,0,none⟩) LL c7]) (by simp [results,Tryz.results34,go_sem,s0,s1]) rfl ⟨_,by rw [HC.out],by rw [HL.out]; exact hRf,hBf⟩
     | (rw [hr] at hRf hBf; exact bodyPost_ret (v := .agg #[.int .i64 0, .slice (some ⟨g7,0,none⟩) LL c7]) (by simp [results,Tryz.results34,go_sem,s0,s1]) rfl ⟨_,by rw [HC.out],by rw [HL.out]; exact hRf,hBf⟩)
 ·obtain ⟨c,hc⟩ : ∃ c,featsC n G = c := ⟨_,rfl⟩
  rw [hc] at h0
  have hpc : plC n G = c := by simp [plC,hc,h0]
  have hpl : plL n G = [] := by simp [plL,hpc,h0]
  try rw [hc]
  clear hc
  have h0' : (c == 0) = false := by simpa using h0
  obtain ⟨v,q1,q2,q3⟩ := HEND.out c w1 HT1.out HB1.out hpc hpl hlt1
  have x0 := HT1.out.cell 0 (by omega)
  have x1 := HT1.out.cell 1 (by omega)
  have f0 := (HT1.out 0 (by omega)).2
  have f1 := (HT1.out 1 (by omega)).2
  have HQ := (show Hid (_ ∧ _ ∧ _) from ⟨q1,q2,q3⟩)
  clear q1 q2 q3 hpc hpl HEND
  go_wp2
  have s0 : ((w1.setCell ⟨r,0,none⟩ (.int .i64 c)).setCell ⟨r,1,none⟩ (.slice none 0 0)).cell? ⟨r,0,none⟩ = some (.int .i64 c) := set2_0 (by rw [x0]; rfl)
  have s1 : ((w1.setCell ⟨r,0,none⟩ (.int .i64 c)).setCell ⟨r,1,none⟩ (.slice none 0 0)).cell? ⟨r,1,none⟩ = some (.slice none 0 0) := set2_1 (by rw [x1]; rfl)
  have hq := HQ.out
  first
   | exact bodyPost_ret (v := .agg #[.int .i64 c, .slice none 0 0]) (by simp [results,Tryz.results34,go_sem,s0,s1]) rfl ⟨v,hq⟩
   | (rw [hr] at hq; exact bodyPost_ret (v := .agg #[.int .i64 c, .slice none 0 0]) (by simp [results,Tryz.results34,go_sem,s0,s1]) rfl ⟨v,hq⟩)
end Go.Proofs.YtfkonhagjahgnaaGreat
