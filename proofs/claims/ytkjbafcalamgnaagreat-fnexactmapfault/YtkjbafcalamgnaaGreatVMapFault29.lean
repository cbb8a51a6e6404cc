/- Texts. -/
import Derived.Test.YtkjbafcalamgnaaGreatVMapFault28
set_option linter.unusedSimpArgs false
set_option linter.unusedVariables false
set_option maxRecDepth 100000
set_option maxHeartbeats 32000000
namespace Go.Proofs.YtkjbafcalamgnaaGreat
open Go.RowKit
theorem yA.viewC {w:World}{B b n:Nat}{K A:Nat→Kp}(h:yA w B b n K A)(z x y wd ht now s:Int)(rn:Nat)(E:Nat→Req)(bad:Int):Go.Proofs.YtkjbafcalamgnaaGreat.viewC z x y wd ht now s n A rn E bad=Go.Proofs.YtkjbafcalamgnaaGreat.viewC z x y wd ht now s n K rn E bad:=by
 have e:uU z x y wd ht n A E=uU z x y wd ht n K E:=by
  funext i
  unfold uU
  rw [h.atK _ _ _ n (Nat.le_refl _)]
 unfold Go.Proofs.YtkjbafcalamgnaaGreat.viewC
 rw [h.cacheC,e]
abbrev mpV (fv:Value)(z x y wd ht now s:Int)(kv rv:Value)(bad:Int):Value:=.agg #[fv,.int .i64 z,.int .i64 x,.int .i64 y,.int .i64 wd,.int .i64 ht,.int .i64 now,.int .i64 s,kv,rv,.int .i64 bad]
theorem zI5 (left:Nat)(hl:left≤1048576)(s:Int)(a:Option Addr)(n cap:Nat)(K:Nat→Kp)(w:World)(hk:zBc w a n K)(hc:vV n K) :
  Calls Tryz.prog 25 #[caV s (.slice a n cap),.int .i64 (left:Int)] w fun e w'=>(e=.returned (.int .i64 (-1))∨∃ m:Nat,m≤left∧zM n K∧e=.returned (.int .i64 m))∧Bw w w':=by
 have HK:Hid (zBc w a n K):=hk
 have HC:Hid (vV n K):=hc
 clear hk hc
 go_enter Tryz.func25,Tryz.ntmps25
 go_wp2_with fail
 generalize hW:(w.alloc _:World)=W
 have hB0:Bw w W:=by subst hW;exact Qb
 clear hW
 refine (zK0 a n cap left K W hl (HK.out.below hB0) HC.out).mono ?_
 rintro e w1 ⟨rfl | ⟨m,hm,hS,rfl⟩,hb1⟩
 ·go_wp2
  go_ret
  exact ⟨.inl rfl,zA hB0 hb1⟩
 ·have hneg:¬ ((m:Nat):Int)<0:=by omega
  have HS:Hid (zM n K):=hS
  have HMm:Hid (m≤left):=hm
  clear hS
  go_wp2
  go_ret
  exact ⟨.inr ⟨m,HMm.out,HS.out,rfl⟩,zA hB0 hb1⟩
theorem zG2 (left:Nat)(hl:left≤1048576)(z x y wd ht now s:Int)(a:Option Addr)(n cap:Nat)(K:Nat→Kp)(ra:Option Addr)(rn rc:Nat)(bad:Int)(w:World)(hk:zBc w a n K)(hc:vV n K)(hrm:rn≤maxLen) :
  Calls Tryz.prog 7 #[vwV z x y wd ht now s (.slice a n cap) (.slice ra rn rc) bad,.int .i64 (left:Int)] w fun e w'=>(e=.returned (.int .i64 (-1))∨∃ m:Nat,zM n K∧rn≤1048576∧e=.returned (.int .i64 m))∧Bw w w':=by
 have HK:Hid (zBc w a n K):=hk
 have HC:Hid (vV n K):=hc
 clear hk hc
 go_enter Tryz.func7,Tryz.ntmps7
 go_wp2_with fail
 generalize hW:(w.alloc _:World)=W
 have HB0:Hid (Bw w W):=by show Below _ _ _;subst hW;exact Qb
 have HV:Hid (Blk W w.heap.size [.int .i64 z,.int .i64 x,.int .i64 y,.int .i64 wd,.int .i64 ht,.int .i64 now,.int .i64 s,.slice a n cap,.slice ra rn rc,.int .i64 bad]):=by show Blk _ _ _;subst hW;exact Blk.new _ _ _
 clear hW
 refine (zI5 left hl s a n cap K W (HK.out.below HB0.out) HC.out).mono ?_
 rintro e w1 ⟨rfl | ⟨m,hm,hS,rfl⟩,hb1⟩
 ·have HB1:Hid (Bw w w1):=zA HB0.out hb1
  clear hb1
  go_wp2
  go_ret
  exact ⟨.inl rfl,HB1.out⟩
 ·have HS:Hid (zM n K):=hS
  have HB1:Hid (Bw w w1):=zA HB0.out hb1
  have HV1:Hid (Blk w1 w.heap.size [.int .i64 z,.int .i64 x,.int .i64 y,.int .i64 wd,.int .i64 ht,.int .i64 now,.int .i64 s,.slice a n cap,.slice ra rn rc,.int .i64 bad]):=HV.out.below HV.out.lt hb1
  have c8:=HV1.out.cell 8 rfl
  have hneg:¬ ((m:Nat):Int)<0:=by omega
  clear hS hb1
  go_wp2_with fail
  by_cases hr:m<rn
  ·refine (zDx ra rn rc m w1 (by omega) hr hrm).mono ?_
   rintro e w2 ⟨rfl,hb2⟩
   have HB2:Hid (Bw w w2):=zA HB1.out hb2
   clear hb2 c8
   go_wp2
   go_ret
   exact ⟨.inl rfl,HB2.out⟩
  ·refine (zDw ra rn rc m w1 (by omega) (by omega)).mono ?_
   rintro e w2 ⟨rfl,hb2⟩
   have HB2:Hid (Bw w w2):=zA HB1.out hb2
   have hneg2:¬ (m:Int) - (rn:Int)<0:=by omega
   have he:(m:Int) - (rn:Int)=((m - rn:Nat):Int):=by omega
   clear hb2 c8
   go_wp2
   go_ret
   exact ⟨.inr ⟨m - rn,HS.out,by omega,rfl⟩,HB2.out⟩
def CameM (w:World)(fa:Option Addr)(fn fc:Nat)(F:Nat→zS)(z x y wd ht now s:Int)(a:Option Addr)(n cap:Nat)(K:Nat→Kp)(ra:Option Addr)(rn rc:Nat)(E:Nat→Req)(bad:Int):Prop:=(zDq w fa fn F∧uT fn F)∧(zBc w a n K∧vV n K)∧vR w ra rn E∧rn≤rc∧rc≤maxLen
def zBi (fn:Nat)(F:Nat→zS)(n:Nat)(K:Nat→Kp)(rn:Nat):Prop:=zU fn F∧zM n K∧rn≤1048576
def zEv (w:World)(fb fn:Nat)(F G:Nat→zS)(b n:Nat)(K A:Nat→Kp)(rb rn:Nat)(E:Nat→Req):Prop:=yD w 0 fb fn F G∧zMk w b n K A rb rn E
theorem zEv.below {w w':World}{fb fn:Nat}{F G:Nat→zS}{b n:Nat}{K A:Nat→Kp}{rb rn:Nat}{E:Nat→Req}(h:zEv w fb fn F G b n K A rb rn E)(hb:Below w.heap.size w w'):zEv w' fb fn F G b n K A rb rn E:=⟨h.1.below hb,h.2.below hb⟩
theorem zKz (fa:Option Addr)(fn fc:Nat)(F:Nat→zS)(z x y wd ht now s:Int)(a:Option Addr)(n cap:Nat)(K:Nat→Kp)(ra:Option Addr)(rn rc:Nat)(E:Nat→Req)(bad:Int)(w:World)(hf:zDq w fa fn F)(hfc:uT fn F)(hk:zBc w a n K)(hc:vV n K)(hrm:rn≤maxLen) :
  Calls Tryz.prog 20 #[(mpV (.slice fa fn fc) z x y wd ht now s (.slice a n cap) (.slice ra rn rc) bad),.int .i64 1048576] w fun e w'=>(e=.returned (.int .i64 (-1))∨∃ m:Nat,zBi fn F n K rn∧e=.returned (.int .i64 m))∧Bw w w':=by
 have HF:Hid (zDq w fa fn F):=hf
 have HFc:Hid (uT fn F):=hfc
 have HK:Hid (zBc w a n K):=hk
 have HC:Hid (vV n K):=hc
 clear hf hfc hk hc
 go_enter Tryz.func20,Tryz.ntmps20
 go_wp2_with fail
 generalize hW:(w.alloc _:World)=W
 have HB0:Hid (Bw w W):=by show Below _ _ _;subst hW;exact Qb
 have HV:Hid (Blk W w.heap.size [.slice fa fn fc,.int .i64 z,.int .i64 x,.int .i64 y,.int .i64 wd,.int .i64 ht,.int .i64 now,.int .i64 s,.slice a n cap,.slice ra rn rc,.int .i64 bad]):=by show Blk _ _ _;subst hW;exact Blk.new _ _ _
 clear hW
 refine (uP fa fn fc F 1048576 W (by omega) (HF.out.below HB0.out) HFc.out).mono ?_
 rintro e w1 ⟨rfl | ⟨m,hm,hS,rfl⟩,hb1⟩
 ·have HB1:Hid (Bw w w1):=zA HB0.out hb1
  clear hb1
  go_wp2
  go_ret
  exact ⟨.inl rfl,HB1.out⟩
 ·have HS:Hid (zU fn F):=hS
  have HB1:Hid (Bw w w1):=zA HB0.out hb1
  have hv1:=HV.out.below HV.out.lt hb1
  obtain ⟨c0,c1,c2,c3,c4,c5,c6,c7,c8,c9,c10⟩:=Blk.c11 hv1
  have hneg:¬ ((m:Nat):Int)<0:=by omega
  clear hS hb1 hv1
  go_wp2_with fail
  refine (zG2 m (by omega) z x y wd ht now s a n cap K ra rn rc bad w1 (HK.out.below HB1.out) HC.out hrm).mono ?_
  rintro e w2 ⟨rfl | ⟨m2,hS2,hrn,rfl⟩,hb2⟩
  ·have HB2:Hid (Bw w w2):=zA HB1.out hb2
   clear c0 c1 c2 c3 c4 c5 c6 c7 c8 c9 c10 hb2
   go_wp2
   go_ret
   exact ⟨.inl rfl,HB2.out⟩
  ·have HB2:Hid (Bw w w2):=zA HB1.out hb2
   have HS2:Hid (zM n K):=hS2
   have hneg2:¬ ((m2:Nat):Int)<0:=by omega
   clear c0 c1 c2 c3 c4 c5 c6 c7 c8 c9 c10 hb2 hS2
   go_wp2
   go_ret
   exact ⟨.inr ⟨m2,⟨HS.out,HS2.out,hrn⟩,rfl⟩,HB2.out⟩
theorem yD.midZ {w w':World}{b n lo hi:Nat}{F G:Nat→zS}(h:yD w hi b n F G)(hM:vC lo hi w w')(hh:0≤hi):yD w' 0 b n F G:=h.midB hM (Nat.le_refl _) (Nat.zero_le _)
theorem resTM {T:Array Value}{Wf:World}{r:Nat}{fv:Value}{z x y wd ht now s:Int}{kv rv:Value}{bad:Int}(hT:T[2]?.getD undef=.pointer (some ⟨r,0,none⟩))(h:Blk Wf r [fv,.int .i64 z,.int .i64 x,.int .i64 y,.int .i64 wd,.int .i64 ht,.int .i64 now,.int .i64 s,kv,rv,.int .i64 bad]) :
  (results Tryz.f22 T).run Tryz.prog Wf=.ok (mpV fv z x y wd ht now s kv rv bad) Wf:=by
 obtain ⟨h0,h1,h2,h3,h4,h5,h6,h7,h8,h9,h10⟩:=Blk.c11 h
 simp [results,Tryz.results22,go_sem,hT,h0,h1,h2,h3,h4,h5,h6,h7,h8,h9,h10]
theorem zKt (fa:Option Addr)(fn fc:Nat)(F:Nat→zS)(z x y wd ht now s:Int)(a:Option Addr)(n cap:Nat)(K:Nat→Kp)(ra:Option Addr)(rn rc:Nat)(E:Nat→Req)(bad:Int)(w:World)(hf:zDq w fa fn F)(hk:zBc w a n K)(hr:vR w ra rn E)(hS:zBi fn F n K rn) :
  Calls Tryz.prog 22 #[(mpV (.slice fa fn fc) z x y wd ht now s (.slice a n cap) (.slice ra rn rc) bad)] w fun e w'=>∃ fb G b A rb,e=.returned (mpV (.slice (some ⟨fb,0,none⟩) fn fn) z x y wd ht now s (.slice (some ⟨b,0,none⟩) n n) (.slice (some ⟨rb,0,none⟩) rn rn) bad)∧zEv w' fb fn F G b n K A rb rn E∧Bw w w':=by
 have HF:Hid (zDq w fa fn F):=hf
 have HK:Hid (zBc w a n K):=hk
 have HR:Hid (vR w ra rn E):=hr
 have HS:Hid (zBi fn F n K rn):=hS
 clear hf hk hr hS
 go_enter Tryz.func22,Tryz.ntmps22
 go_upto_region 2 with fail
 generalize hW:(((w.alloc _).alloc _).alloc _:World)=W
 have HB0:Hid (Bw w W):=by show Below _ _ _;subst hW;exact Qb
 have HV:Hid (Blk W w.heap.size [.slice fa fn fc,.int .i64 z,.int .i64 x,.int .i64 y,.int .i64 wd,.int .i64 ht,.int .i64 now,.int .i64 s,.slice a n cap,.slice ra rn rc,.int .i64 bad]):=by
  show Blk _ _ _;subst hW
  exact ((Blk.new w _ _).alloc (by simp) _).alloc (by simp;omega) _
 have HU:Hid (Blk W (w.heap.size+1) [.slice none 0 0,.int .i64 0,.int .i64 0,.int .i64 0,.int .i64 0,.int .i64 0,.int .i64 0,.int .i64 0,.slice none 0 0,.slice none 0 0,.int .i64 0]):=by
  show Blk _ _ _;subst hW
  have:=(Blk.new (w.alloc (.cells #[.slice fa fn fc,.int .i64 z,.int .i64 x,.int .i64 y,.int .i64 wd,.int .i64 ht,.int .i64 now,.int .i64 s,.slice a n cap,.slice ra rn rc,.int .i64 bad] 52)) [.slice none 0 0,.int .i64 0,.int .i64 0,.int .i64 0,.int .i64 0,.int .i64 0,.int .i64 0,.int .i64 0,.slice none 0 0,.slice none 0 0,.int .i64 0] 57).alloc (by simp) (.cells #[.slice none 0 0,.int .i64 0,.int .i64 0,.int .i64 0,.int .i64 0,.int .i64 0,.int .i64 0,.int .i64 0,.slice none 0 0,.slice none 0 0,.int .i64 0] 57)
  simpa using this
 have HO:Hid (Blk W (w.heap.size+1+1) [.slice none 0 0,.int .i64 0,.int .i64 0,.int .i64 0,.int .i64 0,.int .i64 0,.int .i64 0,.int .i64 0,.slice none 0 0,.slice none 0 0,.int .i64 0]):=by
  show Blk _ _ _;subst hW
  have:=Blk.new ((w.alloc (.cells #[.slice fa fn fc,.int .i64 z,.int .i64 x,.int .i64 y,.int .i64 wd,.int .i64 ht,.int .i64 now,.int .i64 s,.slice a n cap,.slice ra rn rc,.int .i64 bad] 52)).alloc (.cells #[.slice none 0 0,.int .i64 0,.int .i64 0,.int .i64 0,.int .i64 0,.int .i64 0,.int .i64 0,.int .i64 0,.slice none 0 0,.slice none 0 0,.int .i64 0] 57)) [.slice none 0 0,.int .i64 0,.int .i64 0,.int .i64 0,.int .i64 0,.int .i64 0,.int .i64 0,.int .i64 0,.slice none 0 0,.slice none 0 0,.int .i64 0] 57
  simpa using this
 have hzW:W.heap.size=w.heap.size+3:=by subst hW;simp
 clear hW
 have hv0:=HV.out
 obtain ⟨d0,d1,d2,d3,d4,d5,d6,d7,d8,d9,d10⟩:=Blk.c11 hv0
 clear hv0
 go_wp2_with fail
 refine (uO fa fn fc F W (HF.out.below HB0.out) HS.out.1.1 (fun i hi=>(HS.out.1.2 i hi).1)).mono ?_
 rintro e w1 ⟨fb,G,rfl,hO1,hb1⟩
 have HF1:Hid (yD w1 W.heap.size fb fn F G):=hO1
 have HB1:Hid (Bw w w1):=zA HB0.out hb1
 have hs1:=hb1.size
 have HV1:Hid (Blk w1 w.heap.size [.slice fa fn fc,.int .i64 z,.int .i64 x,.int .i64 y,.int .i64 wd,.int .i64 ht,.int .i64 now,.int .i64 s,.slice a n cap,.slice ra rn rc,.int .i64 bad]):=HV.out.below (by omega) hb1
 have HU1:Hid (Blk w1 (w.heap.size+1) [.slice none 0 0,.int .i64 0,.int .i64 0,.int .i64 0,.int .i64 0,.int .i64 0,.int .i64 0,.int .i64 0,.slice none 0 0,.slice none 0 0,.int .i64 0]):=HU.out.below (by omega) hb1
 have hO:=HO.out.below (by omega) hb1
 have HO1:Hid (Blk w1 (w.heap.size+1+1) [.slice none 0 0,.int .i64 0,.int .i64 0,.int .i64 0,.int .i64 0,.int .i64 0,.int .i64 0,.int .i64 0,.slice none 0 0,.slice none 0 0,.int .i64 0]):=hO
 have t0:=hO.cell 0 rfl
 have f0:=hO.free 0 rfl
 clear d0 d1 d2 d3 d4 d5 d6 d7 d8 d9 d10 hO1 hb1 hO HV HU HO HB0
 go_upto_region 3 with fail
 generalize hW2:(World.setCell _ _ _:World)=W2
 have HB2:Hid (Bw w W2):=by show Below _ _ _;subst hW2;exact HB1.out.setCell (by show w.heap.size≤w.heap.size+1+1;omega) _
 have HM2:Hid (vC w.heap.size (w.heap.size+3) w1 W2):=by show vC _ _ _ _;subst hW2;exact (vC.refl _ _ _).set (by omega) (by omega) _ _
 have HV2:Hid (Blk W2 w.heap.size [.slice fa fn fc,.int .i64 z,.int .i64 x,.int .i64 y,.int .i64 wd,.int .i64 ht,.int .i64 now,.int .i64 s,.slice a n cap,.slice ra rn rc,.int .i64 bad]):=by show Blk _ _ _;subst hW2;exact HV1.out.other (by omega)
 have HU2:Hid (Blk W2 (w.heap.size+1) [.slice none 0 0,.int .i64 0,.int .i64 0,.int .i64 0,.int .i64 0,.int .i64 0,.int .i64 0,.int .i64 0,.slice none 0 0,.slice none 0 0,.int .i64 0]):=by show Blk _ _ _;subst hW2;exact HU1.out.other (by omega)
 have HO2:Hid (Blk W2 (w.heap.size+1+1) (.slice (some ⟨fb,0,none⟩) fn fn :: [.int .i64 0,.int .i64 0,.int .i64 0,.int .i64 0,.int .i64 0,.int .i64 0,.int .i64 0,.slice none 0 0,.slice none 0 0,.int .i64 0])):=by show Blk _ _ _;subst hW2;exact HO1.out.set 0 _
 have HF2:Hid (yD W2 (w.heap.size+3) fb fn F G):=HF1.out.midB HM2.out (by omega) (by omega)
 have hs2:=HM2.out.size
 clear hW2 t0 f0 HF1 HB1 HV1 HU1 HO1 HM2
 have hv2:=HV2.out
 obtain ⟨d0,d1,d2,d3,d4,d5,d6,d7,d8,d9,d10⟩:=Blk.c11 hv2
 clear hv2
 go_wp2_with fail
 refine (zE1 z x y wd ht now s a n cap K ra rn rc E bad W2 (HK.out.below HB2.out) HS.out.2.1 (HR.out.below HB2.out) HS.out.2.2).mono ?_
 rintro e w3 ⟨b,A,rb,rfl,hgb,hgr,hO3,hb3⟩
 have HOV:Hid (zMk w3 b n K A rb rn E):=hO3
 have HF3:Hid (yD w3 (w.heap.size+3) fb fn F G):=HF2.out.below hb3
 have HB3:Hid (Bw w w3):=zA HB2.out hb3
 have hs3:=hb3.size
 have hu3:=HU2.out.below (by omega) hb3
 have ho3:=HO2.out.below (by omega) hb3
 have HU3:Hid (Blk w3 (w.heap.size+1) [.slice none 0 0,.int .i64 0,.int .i64 0,.int .i64 0,.int .i64 0,.int .i64 0,.int .i64 0,.int .i64 0,.slice none 0 0,.slice none 0 0,.int .i64 0]):=hu3
 have HO3:Hid (Blk w3 (w.heap.size+1+1) (.slice (some ⟨fb,0,none⟩) fn fn :: [.int .i64 0,.int .i64 0,.int .i64 0,.int .i64 0,.int .i64 0,.int .i64 0,.int .i64 0,.slice none 0 0,.slice none 0 0,.int .i64 0])):=ho3
 clear d0 d1 d2 d3 d4 d5 d6 d7 d8 d9 d10
 obtain ⟨t0,t1,t2,t3,t4,t5,t6,t7,t8,t9,t10⟩:=Blk.c11 ho3
 obtain ⟨f0,f1,f2,f3,f4,f5,f6,f7,f8,f9,f10⟩:=Blk.f11 ho3
 obtain ⟨u0,u1,u2,u3,u4,u5,u6,u7,u8,u9,u10⟩:=Blk.c11 hu3
 obtain ⟨g0,g1,g2,g3,g4,g5,g6,g7,g8,g9,g10⟩:=Blk.f11 hu3
 clear hO3 hb3 hu3 ho3 HF2 HB2 HV2 HU2 HO2
 go_wp2_with fail
 generalize hW6:(World.setCell _ _ _:World)=W6
 have HU6:Hid (Blk W6 (w.heap.size+1) [.slice (some ⟨fb,0,none⟩) fn fn,.int .i64 z,.int .i64 x,.int .i64 y,.int .i64 wd,.int .i64 ht,.int .i64 now,.int .i64 s,.slice (some ⟨b,0,none⟩) n n,.slice (some ⟨rb,0,none⟩) rn rn,.int .i64 bad]):=by show Blk _ _ _;subst hW6;exact (((((((((((((((((((((HU3.out.other (by omega)).other (by omega)).other (by omega)).other (by omega)).other (by omega)).other (by omega)).other (by omega)).other (by omega)).other (by omega)).other (by omega)).set 0 _).set 1 _).set 2 _).set 3 _).set 4 _).set 5 _).set 6 _).set 7 _).set 8 _).set 9 _).set 10 _)
 have HM6:Hid (vC w.heap.size (w.heap.size+3) w3 W6):=by show vC _ _ _ _;subst hW6;exact ((((((((((((((((((((((vC.refl _ _ _).set (by omega) (by omega) _ _).set (by omega) (by omega) _ _).set (by omega) (by omega) _ _).set (by omega) (by omega) _ _).set (by omega) (by omega) _ _).set (by omega) (by omega) _ _).set (by omega) (by omega) _ _).set (by omega) (by omega) _ _).set (by omega) (by omega) _ _).set (by omega) (by omega) _ _).set (by omega) (by omega) _ _).set (by omega) (by omega) _ _).set (by omega) (by omega) _ _).set (by omega) (by omega) _ _).set (by omega) (by omega) _ _).set (by omega) (by omega) _ _).set (by omega) (by omega) _ _).set (by omega) (by omega) _ _).set (by omega) (by omega) _ _).set (by omega) (by omega) _ _).set (by omega) (by omega) _ _)
 clear hW6
 refine bodyPost_ret (resTM rfl HU6.out) rfl ⟨fb,G,b,A,rb,rfl,⟨HF3.out.midZ HM6.out (by omega),⟨HOV.out.1.mid (C:=0) HM6.out (by omega),Nat.lt_of_lt_of_le HOV.out.2.1 HM6.out.size,fun i hi=>?_⟩⟩,HB3.out.trans (HM6.out.below (by omega))⟩
 obtain ⟨q0,q1,q2,q3,q4⟩:=HOV.out.2.2 i hi
 exact ⟨HM6.out.cell q0 (.inr (by omega)),HM6.out.cell q1 (.inr (by omega)),HM6.out.cell q2 (.inr (by omega)),HM6.out.cell q3 (.inr (by omega)),HM6.out.cell q4 (.inr (by omega))⟩
theorem zL0 (fn:Nat)(F:Nat→zS)(z x y wd ht now s:Int)(n rn:Nat)(fb fb' b b' rb rb':Nat)(G H:Nat→zS)(K A B:Nat→Kp)(E:Nat→Req)(bad:Int)(w:World)(ha:zEv w fb fn F G b n K A rb rn E)(hh:zEv w fb' fn F H b' n K B rb' rn E)(hs:zBi fn F n K rn) :
  Calls Tryz.prog 24 #[(mpV (.slice (some ⟨fb,0,none⟩) fn fn) z x y wd ht now s (.slice (some ⟨b,0,none⟩) n n) (.slice (some ⟨rb,0,none⟩) rn rn) bad),(mpV (.slice (some ⟨fb',0,none⟩) fn fn) z x y wd ht now s (.slice (some ⟨b',0,none⟩) n n) (.slice (some ⟨rb',0,none⟩) rn rn) bad)] w fun e w'=>e=.returned (.bool true)∧Bw w w':=by
 have HA:Hid (zEv w fb fn F G b n K A rb rn E):=ha
 have HH:Hid (zEv w fb' fn F H b' n K B rb' rn E):=hh
 have HS:Hid (zBi fn F n K rn):=hs
 clear ha hh hs
 go_enter Tryz.func24,Tryz.ntmps24
 go_wp2_with fail
 generalize hW:((w.alloc _).alloc _:World)=W
 have HB0:Hid (Bw w W):=by show Below _ _ _;subst hW;exact Qb
 have HV:Hid (Blk W w.heap.size [.slice (some ⟨fb,0,none⟩) fn fn,.int .i64 z,.int .i64 x,.int .i64 y,.int .i64 wd,.int .i64 ht,.int .i64 now,.int .i64 s,.slice (some ⟨b,0,none⟩) n n,.slice (some ⟨rb,0,none⟩) rn rn,.int .i64 bad]):=by
  show Blk _ _ _;subst hW
  exact (Blk.new w _ _).alloc (by simp) _
 have HU:Hid (Blk W (w.heap.size+1) [.slice (some ⟨fb',0,none⟩) fn fn,.int .i64 z,.int .i64 x,.int .i64 y,.int .i64 wd,.int .i64 ht,.int .i64 now,.int .i64 s,.slice (some ⟨b',0,none⟩) n n,.slice (some ⟨rb',0,none⟩) rn rn,.int .i64 bad]):=by
  show Blk _ _ _;subst hW
  have:=Blk.new (w.alloc (.cells #[.slice (some ⟨fb,0,none⟩) fn fn,.int .i64 z,.int .i64 x,.int .i64 y,.int .i64 wd,.int .i64 ht,.int .i64 now,.int .i64 s,.slice (some ⟨b,0,none⟩) n n,.slice (some ⟨rb,0,none⟩) rn rn,.int .i64 bad] 57)) [.slice (some ⟨fb',0,none⟩) fn fn,.int .i64 z,.int .i64 x,.int .i64 y,.int .i64 wd,.int .i64 ht,.int .i64 now,.int .i64 s,.slice (some ⟨b',0,none⟩) n n,.slice (some ⟨rb',0,none⟩) rn rn,.int .i64 bad] 57
  simpa using this
 have hvl:w.heap.size<W.heap.size:=HV.out.lt
 have hul:w.heap.size+1<W.heap.size:=HU.out.lt
 clear hW
 refine (uR fb fb' fn 0 0 F G H W (HA.out.1.below HB0.out) (HH.out.1.below HB0.out) HS.out.1).mono ?_
 rintro e w1 ⟨rfl,hb1⟩
 have HB1:Hid (Bw w w1):=zA HB0.out hb1
 have hV1:=HV.out.below hvl hb1
 have hU1:=HU.out.below hul hb1
 obtain ⟨d0,d1,d2,d3,d4,d5,d6,d7,d8,d9,d10⟩:=Blk.c11 hV1
 obtain ⟨e0,e1,e2,e3,e4,e5,e6,e7,e8,e9,e10⟩:=Blk.c11 hU1
 clear hb1 hV1 hU1
 go_wp2_with fail
 refine (zFz z x y wd ht now s n rn b b' rb rb' K A B E bad w1 (HA.out.2.below HB1.out) (HH.out.2.below HB1.out) HS.out.2.1 HS.out.2.2).mono ?_
 rintro e w2 ⟨rfl,hb2⟩
 have HB2:Hid (Bw w w2):=zA HB1.out hb2
 clear d0 e0 d1 e1 d2 e2 d3 e3 d4 e4 d5 e5 d6 e6 d7 e7 d8 e8 d9 e9 d10 e10 hb2
 go_wp2
 go_ret
 exact ⟨rfl,HB2.out⟩
end Go.Proofs.YtkjbafcalamgnaaGreat
