/- Texts. -/
import Derived.Test.YtpaiholildedcaaGreatVNewViewer32
set_option linter.unusedSimpArgs false
set_option linter.unusedVariables false
set_option maxRecDepth 100000
set_option maxHeartbeats 32000000
namespace Go.Proofs.YtpaiholildedcaaGreat
open Go.RowKit
theorem vP {T:Array Value}{Wf:World}{r:Nat}{v:Va}{u:Vm}(hT:T[4]?.getD undef=.pointer (some ⟨r,0,none⟩))(h:Blk Wf r (vaL v u)) :
  (results Tryz.f7 T).run Tryz.prog Wf=.ok (vaV v u) Wf:=by
 obtain ⟨h0,h1,h2,h3,h4,h5,h6,h7,h8,h9,h10,h11,h12⟩:=Blk.c13 h
 simp [results,Tryz.results7,go_sem,hT,h0,h1,h2,h3,h4,h5,h6,h7,h8,h9,h10,h11,h12]
theorem zAm (z x y wd ht s:Int)(w:World) :
  Calls Tryz.prog 7 #[zBg z x y wd ht,.int .i64 s] w fun e w'=>∃ u,e=.returned (vaV (zJd z x y wd ht s) u)∧zC7 w' (zJd z x y wd ht s) u∧Bw w w':=by
 obtain ⟨V,hV⟩:∃ V,zJd z x y wd ht s=V:=⟨_,rfl⟩
 have HBd:Hid (∀ c (W:World),Calls Tryz.prog 31 #[.int .i64 c] W fun e w'=>e=.returned (vaV (vaZ c) vmZ)∧Bw W w'):=fun c W=>zIw c W
 have HIn:Hid (∀ W,Calls Tryz.prog 32 #[.int .i64 s,.int .i64 4,.int .i64 10] W fun e w'=>e=.returned (.bool (inB s 4 10))∧w'=W):=fun W=>yL _ _ _ W
 rw [hV]
 go_enter Tryz.func7,Tryz.ntmps7
 go_wp2_with fail
 generalize hW:((w.alloc _).alloc _:World)=W
 have HB0:Hid (Bw w W):=by show Below _ _ _;subst hW;exact Qb
 have HCm:Hid (Blk W w.heap.size [.int .i64 z,.int .i64 x,.int .i64 y,.int .i64 wd,.int .i64 ht]):=by show Blk _ _ _;subst hW;exact (Blk.new w _ _).alloc (by simp) _
 have HRs:Hid (Blk W (w.heap.size+1) [.int .i64 0,.bool false,.slice none 0 0,.int .i64 0,.int .i64 0,.int .i64 0,.int .i64 0,.int .i64 0,.int .i64 0,.int .i64 0,.slice none 0 0,.slice none 0 0,.int .i64 0]):=by
  show Blk _ _ _
  subst hW
  have:=Blk.new (w.alloc (.cells #[.int .i64 z,.int .i64 x,.int .i64 y,.int .i64 wd,.int .i64 ht] 25)) [.int .i64 0,.bool false,.slice none 0 0,.int .i64 0,.int .i64 0,.int .i64 0,.int .i64 0,.int .i64 0,.int .i64 0,.int .i64 0,.slice none 0 0,.slice none 0 0,.int .i64 0] 33
  simpa using this
 have hsz:w.heap.size+1<W.heap.size:=by subst hW;simp
 clear hW
 have HF:=(show Hid _ from zG3 w.heap.size z x y wd ht W (Blk.cam (l:=[]) HCm.out))
 have hcm:=HCm.out
 refine Calls.mono HF.out ?_
 rintro e w1 ⟨rfl,hb1⟩
 have HB1:Hid (Bw w w1):=zB HB0.out hb1
 have HR1:Hid (Blk w1 (w.heap.size+1) [.int .i64 0,.bool false,.slice none 0 0,.int .i64 0,.int .i64 0,.int .i64 0,.int .i64 0,.int .i64 0,.int .i64 0,.int .i64 0,.slice none 0 0,.slice none 0 0,.int .i64 0]):=HRs.out.below hsz hb1
 have HC1:Hid (Blk w1 w.heap.size [.int .i64 z,.int .i64 x,.int .i64 y,.int .i64 wd,.int .i64 ht]):=HCm.out.below (by omega) hb1
 have hs1:W.heap.size≤w1.heap.size:=hb1.size
 clear hb1 HF HRs HB0 HCm hcm
 by_cases h0:xN z x y wd ht=0
 case neg =>
  have HE:Hid (V=vaZ (xN z x y wd ht)):=by
   have e:zIn z x y wd ht s=xN z x y wd ht:=by unfold zIn;rw [if_neg h0]
   show _=_;rw [← hV];unfold zJd;rw [e,if_neg h0]
  have hcb:(xN z x y wd ht == 0)=false:=by simpa using h0
  have hcb2:(xN z x y wd ht != 0)=true:=by simpa using h0
  generalize xN z x y wd ht=VC at *
  clear hV h0 HIn HC1
  go_wp2_with fail
  refine Calls.mono (HBd.out _ _) ?_
  rintro e w2 ⟨rfl,hb2⟩
  have HB2:Hid (Bw w1 w2):=hb2
  have HR2:Hid (Blk w2 (w.heap.size+1) [.int .i64 0,.bool false,.slice none 0 0,.int .i64 0,.int .i64 0,.int .i64 0,.int .i64 0,.int .i64 0,.int .i64 0,.int .i64 0,.slice none 0 0,.slice none 0 0,.int .i64 0]):=HR1.out.below (by omega) hb2
  have hR':=HR2.out
  obtain ⟨t0,t1,t2,t3,t4,t5,t6,t7,t8,t9,t10,t11,t12⟩:=Blk.c13 (hR')
  obtain ⟨f0,f1,f2,f3,f4,f5,f6,f7,f8,f9,f10,f11,f12⟩:=Blk.f13 (hR')
  have hs2:=hb2.size
  clear hR' hb2
  go_wp2_with fail
  generalize hwF:(World.setCell _ _ _:World)=wF
  have HBk:Hid (Blk wF (w.heap.size+1) (vaL (vaZ VC) vmZ)):=by show Blk _ _ _;subst hwF;exact ((((((((((((HR2.out.set 0 _).set 1 _).set 2 _).set 3 _).set 4 _).set 5 _).set 6 _).set 7 _).set 8 _).set 9 _).set 10 _).set 11 _).set 12 _
  have HMM:Hid (zI (w.heap.size+1) (w.heap.size+1+1) w2 wF):=by show zI _ _ _ _;subst hwF;exact (((((((((((((zI.refl _ _ _).set (Nat.le_refl _) (Nat.lt_succ_self _) _ _).set (Nat.le_refl _) (Nat.lt_succ_self _) _ _).set (Nat.le_refl _) (Nat.lt_succ_self _) _ _).set (Nat.le_refl _) (Nat.lt_succ_self _) _ _).set (Nat.le_refl _) (Nat.lt_succ_self _) _ _).set (Nat.le_refl _) (Nat.lt_succ_self _) _ _).set (Nat.le_refl _) (Nat.lt_succ_self _) _ _).set (Nat.le_refl _) (Nat.lt_succ_self _) _ _).set (Nat.le_refl _) (Nat.lt_succ_self _) _ _).set (Nat.le_refl _) (Nat.lt_succ_self _) _ _).set (Nat.le_refl _) (Nat.lt_succ_self _) _ _).set (Nat.le_refl _) (Nat.lt_succ_self _) _ _).set (Nat.le_refl _) (Nat.lt_succ_self _) _ _
  clear hwF
  refine bodyPost_ret (vP (v:=vaZ VC) (u:=vmZ) rfl HBk.out) rfl ⟨vmZ,by rw [HE.out],?_,(zB HB1.out HB2.out).trans ((HMM.out.below (by omega)).mono (by omega))⟩
  rw [HE.out]
  exact zC7.zero _ _
 have h1:=h0
 rw [h0]
 have hcb:((0:Int) == 0)=true:=rfl
 have hcb2:((0:Int) != 0)=false:=rfl
 cases h4:inB s 4 10
 ·have HE:Hid (V=vaZ 3):=by
   have e:zIn z x y wd ht s=3:=by unfold zIn;rw [if_pos h0,h4];rfl
   show _=_;rw [← hV];unfold zJd;rw [e,if_neg (by decide)]
  have HI4:Hid (∀ W,Calls Tryz.prog 32 #[.int .i64 s,.int .i64 4,.int .i64 10] W fun e w'=>e=.returned (.bool false)∧w'=W):=fun W=>by have:=HIn.out W;rw [h4] at this;exact this
  clear hV h0 HIn HC1 h4 h1
  go_wp2_with fail
  refine Calls.mono (HI4.out _) ?_
  rintro e wi ⟨rfl,hw⟩
  subst wi
  go_wp2_with fail
  refine Calls.mono (HBd.out _ _) ?_
  rintro e w2 ⟨rfl,hb2⟩
  have HB2:Hid (Bw w1 w2):=hb2
  have HR2:Hid (Blk w2 (w.heap.size+1) [.int .i64 0,.bool false,.slice none 0 0,.int .i64 0,.int .i64 0,.int .i64 0,.int .i64 0,.int .i64 0,.int .i64 0,.int .i64 0,.slice none 0 0,.slice none 0 0,.int .i64 0]):=HR1.out.below (by omega) hb2
  have hR':=HR2.out
  obtain ⟨t0,t1,t2,t3,t4,t5,t6,t7,t8,t9,t10,t11,t12⟩:=Blk.c13 (hR')
  obtain ⟨f0,f1,f2,f3,f4,f5,f6,f7,f8,f9,f10,f11,f12⟩:=Blk.f13 (hR')
  have hs2:=hb2.size
  clear hR' hb2
  go_wp2_with fail
  generalize hwF:(World.setCell _ _ _:World)=wF
  have HBk:Hid (Blk wF (w.heap.size+1) (vaL (vaZ 3) vmZ)):=by show Blk _ _ _;subst hwF;exact ((((((((((((HR2.out.set 0 _).set 1 _).set 2 _).set 3 _).set 4 _).set 5 _).set 6 _).set 7 _).set 8 _).set 9 _).set 10 _).set 11 _).set 12 _
  have HMM:Hid (zI (w.heap.size+1) (w.heap.size+1+1) w2 wF):=by show zI _ _ _ _;subst hwF;exact (((((((((((((zI.refl _ _ _).set (Nat.le_refl _) (Nat.lt_succ_self _) _ _).set (Nat.le_refl _) (Nat.lt_succ_self _) _ _).set (Nat.le_refl _) (Nat.lt_succ_self _) _ _).set (Nat.le_refl _) (Nat.lt_succ_self _) _ _).set (Nat.le_refl _) (Nat.lt_succ_self _) _ _).set (Nat.le_refl _) (Nat.lt_succ_self _) _ _).set (Nat.le_refl _) (Nat.lt_succ_self _) _ _).set (Nat.le_refl _) (Nat.lt_succ_self _) _ _).set (Nat.le_refl _) (Nat.lt_succ_self _) _ _).set (Nat.le_refl _) (Nat.lt_succ_self _) _ _).set (Nat.le_refl _) (Nat.lt_succ_self _) _ _).set (Nat.le_refl _) (Nat.lt_succ_self _) _ _).set (Nat.le_refl _) (Nat.lt_succ_self _) _ _
  clear hwF
  refine bodyPost_ret (vP (v:=vaZ 3) (u:=vmZ) rfl HBk.out) rfl ⟨vmZ,by rw [HE.out],?_,(zB HB1.out HB2.out).trans ((HMM.out.below (by omega)).mono (by omega))⟩
  rw [HE.out]
  exact zC7.zero _ _
 have HI4:Hid (∀ W,Calls Tryz.prog 32 #[.int .i64 s,.int .i64 4,.int .i64 10] W fun e w'=>e=.returned (.bool true)∧w'=W):=fun W=>by have:=HIn.out W;rw [h4] at this;exact this
 have HE:Hid (V=askV z x y wd ht 0 s 0 noK [] 0):=by
  have e:zIn z x y wd ht s=0:=by unfold zIn;rw [if_pos h0,h4];rfl
  show _=_;rw [← hV];unfold zJd;rw [e,if_pos rfl]
 have HCam:Hid (zB0 z x y wd ht=true):=by
  rcases zEc z x y wd ht with ⟨_,h⟩ | ⟨e,_⟩
  ·exact h
  ·omega
 have hc1:=HC1.out
 obtain ⟨m0,m1,m2,m3,m4⟩:=Blk.c5 hc1
 clear hV h0 h1 h4 HIn HBd hc1 HC1
 go_wp2_with fail
 refine Calls.mono (HI4.out _) ?_
 rintro e wi ⟨rfl,hw⟩
 subst wi
 go_wp2_with fail
 generalize hwO:(w1.alloc _:World)=wO
 have HBO:Hid (Bw w1 wO):=by show Below _ _ _;subst hwO;exact Qb
 have HO:Hid (Blk wO w1.heap.size [.int .i64 z,.int .i64 x,.int .i64 y,.int .i64 wd,.int .i64 ht,.int .i64 0,.int .i64 s,.slice none 0 0,.slice none 0 0,.int .i64 0]):=by show Blk _ _ _;subst hwO;exact Blk.new _ _ _
 clear hwO m0 m1 m2 m3 m4
 have hlO:=HO.out.lt
 have HR3:Hid (Blk wO (w.heap.size+1) [.int .i64 0,.bool false,.slice none 0 0,.int .i64 0,.int .i64 0,.int .i64 0,.int .i64 0,.int .i64 0,.int .i64 0,.int .i64 0,.slice none 0 0,.slice none 0 0,.int .i64 0]):=HR1.out.below (by omega) HBO.out
 obtain ⟨q,hq⟩:∃ q,w1.heap.size=q:=⟨_,rfl⟩
 have HAk:Hid (Calls Tryz.prog 33 #[.pointer (some ⟨q,0,none⟩)] wO fun e w'=>∃ sv,e=.returned sv∧yA wO.heap.size w' sv (stS 0 (vO z x y wd) noK 0 [] (xJ z x y wd ht))∧∃ ka' kc' R' ra' rc',Blk w' q [.int .i64 z,.int .i64 x,.int .i64 y,.int .i64 wd,.int .i64 ht,.int .i64 0,.int .i64 s,.slice ka' 0 kc',.slice ra' (stQ 0 (vO z x y wd) noK 0 [] (xJ z x y wd ht)).length rc',.int .i64 0]∧(∀ W,GrQ w1.heap.size q sv.ownBlock w' W→CaF W ka' 0 (stK 0 (vO z x y wd) noK (xJ z x y wd ht)) R')∧zX wO.heap.size w' (.slice ra' (stQ 0 (vO z x y wd) noK 0 [] (xJ z x y wd ht)).length rc') (stQ 0 (vO z x y wd) noK 0 [] (xJ z x y wd ht))∧Below q wO w'∧But q none wO w') :=
  zIx q w1.heap.size z x y wd ht 0 s none 0 0 noK noK none 0 0 noE 0 wO (hq ▸ HO.out) (by omega) (by omega) (fun U hU=>.inl rfl) (fun j hj=>absurd hj (Nat.not_lt_zero j)) (Nat.zero_le _) (.inl rfl) (Nat.zero_le _) HCam.out
 have hq':=hq
 rw [hq]
 clear HO HCam HR1
 refine Calls.mono HAk.out ?_
 rintro e w6 ⟨sv,rfl,hS6,ka',kc',R',ra',rc',hV6,hK6,hW6,hb6,hu6⟩
 obtain ⟨sa,sc,hsv⟩:∃ a c,sv=.slice a _ c:=by
  obtain ⟨a,c,h,_⟩:=hS6.own.pts
  exact ⟨a,c,h⟩
 subst hsv
 have HS6:Hid (yA wO.heap.size w6 (.slice sa _ sc) _):=hS6
 have HK6:=(show Hid _ from hK6)
 have HW6:Hid (zX wO.heap.size w6 (.slice ra' _ rc') _):=hW6
 have HB6:Hid (Below q wO w6):=hb6
 have hs6:=hb6.size
 have HR6:Hid (Blk w6 (w.heap.size+1) [.int .i64 0,.bool false,.slice none 0 0,.int .i64 0,.int .i64 0,.int .i64 0,.int .i64 0,.int .i64 0,.int .i64 0,.int .i64 0,.slice none 0 0,.slice none 0 0,.int .i64 0]):=HR3.out.but (hb6.block _ (by omega))
 have hv6:=hV6
 have hr6:=HR6.out
 obtain ⟨l0,l1,l2,l3,l4,l5,l6,l7,l8,l9⟩:=Blk.c10 hv6
 obtain ⟨t0,t1,t2,t3,t4,t5,t6,t7,t8,t9,t10,t11,t12⟩:=Blk.c13 hr6
 obtain ⟨f0,f1,f2,f3,f4,f5,f6,f7,f8,f9,f10,f11,f12⟩:=Blk.f13 hr6
 clear hS6 hK6 hW6 hb6 hu6 hV6 HAk hv6 hr6 HR3
 go_wp2_with fail
 generalize hwF:(World.setCell _ _ _:World)=wF
 have HBk:Hid (Blk wF (w.heap.size+1) (vaL (askV z x y wd ht 0 s 0 noK [] 0) ⟨sa,sc,ka',kc',R',ra',rc'⟩)):=by show Blk _ _ _;subst hwF;exact ((((((((((((HR6.out.set 0 _).set 1 _).set 2 _).set 3 _).set 4 _).set 5 _).set 6 _).set 7 _).set 8 _).set 9 _).set 10 _).set 11 _).set 12 _
 have HMM:Hid (zI (w.heap.size+1) (w.heap.size+1+1) w6 wF):=by show zI _ _ _ _;subst hwF;exact (((((((((((((zI.refl _ _ _).set (Nat.le_refl _) (Nat.lt_succ_self _) _ _).set (Nat.le_refl _) (Nat.lt_succ_self _) _ _).set (Nat.le_refl _) (Nat.lt_succ_self _) _ _).set (Nat.le_refl _) (Nat.lt_succ_self _) _ _).set (Nat.le_refl _) (Nat.lt_succ_self _) _ _).set (Nat.le_refl _) (Nat.lt_succ_self _) _ _).set (Nat.le_refl _) (Nat.lt_succ_self _) _ _).set (Nat.le_refl _) (Nat.lt_succ_self _) _ _).set (Nat.le_refl _) (Nat.lt_succ_self _) _ _).set (Nat.le_refl _) (Nat.lt_succ_self _) _ _).set (Nat.le_refl _) (Nat.lt_succ_self _) _ _).set (Nat.le_refl _) (Nat.lt_succ_self _) _ _).set (Nat.le_refl _) (Nat.lt_succ_self _) _ _
 clear hwF
 have hFs:=HMM.out.size
 refine bodyPost_ret (vP (v:=askV z x y wd ht 0 s 0 noK [] 0) (u:=⟨sa,sc,ka',kc',R',ra',rc'⟩) rfl HBk.out) rfl ⟨⟨sa,sc,ka',kc',R',ra',rc'⟩,by rw [HE.out],?_,((zB HB1.out HBO.out).trans (HB6.out.mono (by omega))).trans ((HMM.out.below (by omega)).mono (by omega))⟩
 rw [HE.out]
 exact ⟨(OwT.mid (zGk.ow (yA.own HS6.out)) HMM.out (.inl (by omega))).is (by omega),.inl rfl,(OwR.mid (zCb.ow (zX.own HW6.out)) HMM.out (.inl (by omega))).is (by omega)⟩
end Go.Proofs.YtpaiholildedcaaGreat
