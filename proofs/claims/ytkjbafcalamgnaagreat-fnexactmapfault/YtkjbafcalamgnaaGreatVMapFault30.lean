/- Texts. -/
import Derived.Test.YtkjbafcalamgnaaGreatVMapFault29
set_option linter.unusedSimpArgs false
set_option linter.unusedVariables false
set_option maxRecDepth 100000
set_option maxHeartbeats 32000000
namespace Go.Proofs.YtkjbafcalamgnaaGreat
open Go.RowKit
end Go.Proofs.YtkjbafcalamgnaaGreat
namespace Go.Proofs.YtkjbafcalamgnaaGreat
open Go.ChangeShapes Go.WideShapes Go.ChangeAt Go.RowKit Go.Deep
theorem zGs {H:Type}{enc:TypeId × Value→H}{w:World}{base fuel:Nat}{held:Bool}{cs:List Value}{y:DataW H × List MemPlace}(h:DataW.trod enc Tryz.prog w base (fun _=>true) held fuel 29 cs=some y) :
  ∃ (z x y wd ht now s:Int) (ka:Option Addr) (kn kc:Nat) (K:Nat→Kp) (ra:Option Addr) (rn rc:Nat) (E:Nat→Req) (bad:Int),
   cs=[.int .i64 z,.int .i64 x,.int .i64 y,.int .i64 wd,.int .i64 ht,.int .i64 now,.int .i64 s,.slice ka kn kc,.slice ra rn rc,.int .i64 bad]∧((zBc w ka kn K∧vV kn K)∧vR w ra rn E∧rn≤rc∧rc≤maxLen):=by
 obtain ⟨xs,m,e,hx,hl,hxl,hf⟩:=DataW.trod_struct Tryz.underlying29 h
 have hxl5:xs.length=5:=hxl
 rw [zIl] at hl
 match xs,hxl5 with
 | [x0,x1,x2,x3,x4],_ =>
  have h0:=hf 0 _ rfl
  have h1:=hf 1 _ rfl
  have h2:=hf 2 _ rfl
  have h3:=hf 3 _ rfl
  have h4:=hf 4 _ rfl
  match cs,hl with
  | [v0,v1,v2,v3,v4,v5,v6,v7,v8,v9],_ =>
   simp [xG,zGb,zIp,zL7] at h0 h1 h2 h3 h4
   obtain ⟨z,x,y,wd,ht,e0⟩:=zKs h0
   obtain ⟨now,e1,_,_⟩:=DataW.trod_int Tryz.underlying2 h1
   obtain ⟨s,ka,kn,kc,K,e2,hK⟩:=zIw h2
   obtain ⟨ra,rn,rc,E,e3,hE⟩:=zKo h3
   obtain ⟨bad,e4,_,_⟩:=DataW.trod_int Tryz.underlying2 h4
   simp at e0 e1 e2 e3 e4
   refine ⟨z,x,y,wd,ht,now,s,ka,kn,kc,K,ra,rn,rc,E,bad,?_,hK,hE⟩
   obtain ⟨rfl,rfl,rfl,rfl,rfl⟩:=e0
   obtain ⟨rfl,rfl⟩:=e2
   subst e1 e3 e4
   rfl
theorem zL8:Tryz.prog.cellsOf 52=11:=by kernel_rfl
theorem open_map {H:Type}{enc:TypeId × Value→H}{w:World}{base b0:Nat}{held:Bool}{r:Reach}{v:Value}{d:DataW H}{p:List MemPlace}(hv:Value.okWide Tryz.prog w r b0 52 v)(h:DataW.Trod enc Tryz.prog w base (fun _=>true) held 52 v d p) :
  ∃ (fa:Option Addr) (fn fc:Nat) (F:Nat→zS) (z x y wd ht now s:Int) (ka:Option Addr) (kn kc:Nat) (K:Nat→Kp) (ra:Option Addr) (rn rc:Nat) (E:Nat→Req) (bad:Int),
   v=.agg #[.slice fa fn fc,.int .i64 z,.int .i64 x,.int .i64 y,.int .i64 wd,.int .i64 ht,.int .i64 now,.int .i64 s,.slice ka kn kc,.slice ra rn rc,.int .i64 bad]∧CameM w fa fn fc F z x y wd ht now s ka kn kc K ra rn rc E bad:=by
 obtain ⟨cs,rfl,hsz⟩:=okWide_struct Tryz.underlying52 hv
 obtain ⟨n,h⟩:=h
 obtain ⟨xs,m,e,hx,hl,hxl,hf⟩:=DataW.trod_struct Tryz.underlying52 h
 have hxl2:xs.length=2:=hxl
 simp only [Value.cells] at hl hf
 rw [zL8] at hl
 match xs,hxl2 with
 | [x0,x1],_ =>
  have h0:=hf 0 _ rfl
  have h1:=hf 1 _ rfl
  match hcs:cs.toList,hl with
  | [u0,v0,v1,v2,v3,v4,v5,v6,v7,v8,v9],_ =>
   rw [hcs] at h0 h1
   simp [zGa,zIl] at h0 h1
   obtain ⟨fa,fn,fc,F,e0,hF⟩:=zC6 h0
   obtain ⟨z,x,y,wd,ht,now,s,ka,kn,kc,K,ra,rn,rc,E,bad,e1,hK⟩:=zGs h1
   simp at e0 e1
   refine ⟨fa,fn,fc,F,z,x,y,wd,ht,now,s,ka,kn,kc,K,ra,rn,rc,E,bad,?_,hF,hK⟩
   obtain ⟨rfl,rfl,rfl,rfl,rfl,rfl,rfl,rfl,rfl,rfl⟩:=e1
   subst e0
   have:cs=#[.slice fa fn fc,.int .i64 z,.int .i64 x,.int .i64 y,.int .i64 wd,.int .i64 ht,.int .i64 now,.int .i64 s,.slice ka kn kc,.slice ra rn rc,.int .i64 bad]:=by
    apply Array.toList_inj.1
    rw [hcs]
   rw [this]
end Go.Proofs.YtkjbafcalamgnaaGreat
namespace Go.Proofs.YtkjbafcalamgnaaGreat
open Go.RowKit
noncomputable def zMj (fn:Nat)(F:Nat→zS)(VC:Int):Int:=or2 (zK fn F) VC
theorem zFm (q fb fn fc:Nat)(F:Nat→zS)(fv:Value)(z x y wd ht now s:Int)(b n cap:Nat)(A:Nat→Kp)(ra:Option Addr)(rn rc:Nat)(E:Nat→Req)(bad:Int)(w:World)(hV:Blk w q [fv,.int .i64 z,.int .i64 x,.int .i64 y,.int .i64 wd,.int .i64 ht,.int .i64 now,.int .i64 s,.slice (some ⟨b,0,none⟩) n cap,.slice ra rn rc,.int .i64 bad])(hF:vS w fb 0 fn F)(hfl:fb<w.heap.size)(hfs:zU fn F)(ha:zCr w b n A)(hs:zM n A)(hr:vR w ra rn E)(hrn:rn≤1048576) :
  Calls Tryz.prog 51 #[.slice (some ⟨fb,0,none⟩) fn fc,.pointer (some ⟨q,1,none⟩)] w fun e w'=>e=.returned (.int .i64 (zMj fn F (viewC z x y wd ht now s n A rn E bad)))∧Bw w w':=by
 have HM:=(show Hid _ from zDe fb fn fc F w hF hfl hfs)
 have hql:=hV.lt
 have HV:Hid (∀ W,Bw w W→Calls Tryz.prog 27 #[.pointer (some ⟨q,1,none⟩)] W fun e w'=>e=.returned (.int .i64 (viewC z x y wd ht now s n A rn E bad))∧Bw W w'):=fun W h=>zEb q fv z x y wd ht now s b n cap A ra rn rc E bad W (hV.below hql h) (ha.below h) hs (hr.below h) hrn
 clear hV hF hfs ha hs hr
 generalize viewC z x y wd ht now s n A rn E bad=VC at *
 have HC:Hid (zMj fn F VC=or2 (zK fn F) VC):=rfl
 generalize zMj fn F VC=MC at *
 generalize zK fn F=FC at *
 by_cases h0:FC=0
 ·subst h0
  have HE:Hid (MC=VC):=by show _=_;rw [HC.out];exact if_pos rfl
  go_enter Tryz.func51,Tryz.ntmps51
  go_wp2_with fail
  refine Calls.mono HM.out ?_
  rintro e w1 ⟨rfl,hb1⟩
  go_wp2_with fail
  refine Calls.mono (HV.out w1 hb1) ?_
  rintro e w2 ⟨rfl,hb2⟩
  go_wp2
  go_ret
  exact ⟨zC HE.out.symm,zA hb1 hb2⟩
 ·have HE:Hid (MC=FC):=by show _=_;rw [HC.out];exact if_neg h0
  have hcb:(FC == 0)=false:=by simpa using h0
  have hcb2:(FC != 0)=true:=by simpa using h0
  go_enter Tryz.func51,Tryz.ntmps51
  go_wp2_with fail
  refine Calls.mono HM.out ?_
  rintro e w1 ⟨rfl,hb1⟩
  go_wp2
  go_ret
  exact ⟨zC HE.out.symm,hb1⟩
theorem zAz (fb fn fc:Nat)(F:Nat→zS)(z x y wd ht now s:Int)(b n cap:Nat)(A:Nat→Kp)(ra:Option Addr)(rn rc:Nat)(E:Nat→Req)(bad:Int)(w:World)(hF:vS w fb 0 fn F)(hfl:fb<w.heap.size)(hfs:zU fn F)(ha:zCr w b n A)(hs:zM n A)(hr:vR w ra rn E)(hrn:rn≤1048576) :
  Calls Tryz.prog 21 #[mpV (.slice (some ⟨fb,0,none⟩) fn fc) z x y wd ht now s (.slice (some ⟨b,0,none⟩) n cap) (.slice ra rn rc) bad] w fun e w'=>e=.returned (.int .i64 (zMj fn F (viewC z x y wd ht now s n A rn E bad)))∧Bw w w':=by
 have HF:Hid (vS w fb 0 fn F):=hF
 have HA:Hid (zCr w b n A):=ha
 have HR:Hid (vR w ra rn E):=hr
 clear hF ha hr
 go_enter Tryz.func21,Tryz.ntmps21
 go_wp2_with fail
 generalize hW:(w.alloc _:World)=W
 have HB0:Hid (Bw w W):=by show Below _ _ _;subst hW;exact Qb
 have HV:Hid (Blk W w.heap.size [.slice (some ⟨fb,0,none⟩) fn fc,.int .i64 z,.int .i64 x,.int .i64 y,.int .i64 wd,.int .i64 ht,.int .i64 now,.int .i64 s,.slice (some ⟨b,0,none⟩) n cap,.slice ra rn rc,.int .i64 bad]):=by show Blk _ _ _;subst hW;exact Blk.new _ _ _
 have hs0:=HB0.out.size
 clear hW
 refine (zFm w.heap.size fb fn fc F _ z x y wd ht now s b n cap A ra rn rc E bad W HV.out (HF.out.below HB0.out hfl) (by omega) hfs (HA.out.below HB0.out) hs (HR.out.below HB0.out) hrn).mono ?_
 rintro e w1 ⟨rfl,hb1⟩
 go_wp2
 go_ret
 exact ⟨rfl,zA HB0.out hb1⟩
theorem zA4 (fb fn fc:Nat)(F:Nat→zS)(z x y wd ht now s:Int)(b n cap:Nat)(A:Nat→Kp)(ra:Option Addr)(rn rc:Nat)(E:Nat→Req)(bad:Int)(w:World)(hF:vS w fb 0 fn F)(hfl:fb<w.heap.size)(hfs:zU fn F)(hfc:fn≤fc)(ha:zCr w b n A)(hs:zM n A)(hcap:∀ i,i<n→(A i).fn≤(A i).fc)(hnc:n≤cap)(hr:vR w ra rn E)(hrn:rn≤1048576)(hrc:rn≤rc) :
  Calls Tryz.prog 23 #[mpV (.slice (some ⟨fb,0,none⟩) fn fc) z x y wd ht now s (.slice (some ⟨b,0,none⟩) n cap) (.slice ra rn rc) bad] w fun e w'=>e=.returned (.int .i64 (zMj fn F (viewC z x y wd ht now s n A rn E bad)))∧Bw w w':=by
 have HFe0:Hid (∀ W,Bw w W→Calls Tryz.prog 54 #[.slice (some ⟨fb,0,none⟩) fn fc] W fun e w'=>e=.returned (.int .i64 (zK fn F))∧Bw W w'):=fun W h=>vM fb fn fc F W (hF.below h hfl) (by have:=h.size;omega) hfs hfc
 have HVi0:Hid (∀ W,Bw w W→Calls Tryz.prog 55 #[vwV z x y wd ht now s (.slice (some ⟨b,0,none⟩) n cap) (.slice ra rn rc) bad] W fun e w'=>e=.returned (.int .i64 (viewC z x y wd ht now s n A rn E bad))∧Bw W w'):=fun W h=>uN z x y wd ht now s b n cap A ra rn rc E bad W (ha.below h) hs hcap hnc (hr.below h) hrn hrc
 clear hF hfs hfc ha hs hcap hnc hr hrc
 generalize viewC z x y wd ht now s n A rn E bad=VC at *
 have HC:Hid (zMj fn F VC=or2 (zK fn F) VC):=rfl
 generalize zMj fn F VC=MC at *
 generalize zK fn F=FC at *
 go_enter Tryz.func23,Tryz.ntmps23
 go_wp2_with fail
 generalize hW:(w.alloc _:World)=W
 have HB0:Hid (Bw w W):=by show Below _ _ _;subst hW;exact Qb
 have HV:Hid (Blk W w.heap.size [.slice (some ⟨fb,0,none⟩) fn fc,.int .i64 z,.int .i64 x,.int .i64 y,.int .i64 wd,.int .i64 ht,.int .i64 now,.int .i64 s,.slice (some ⟨b,0,none⟩) n cap,.slice ra rn rc,.int .i64 bad]):=by show Blk _ _ _;subst hW;exact Blk.new _ _ _
 have hvl:=HV.out.lt
 clear hW
 have HFe:Hid (∀ U,Bw W U→Calls Tryz.prog 54 #[.slice (some ⟨fb,0,none⟩) fn fc] U fun e w'=>e=.returned (.int .i64 FC)∧Bw U w'):=fun U h=>HFe0.out U (zA HB0.out h)
 have HVi:Hid (∀ U,Bw W U→Calls Tryz.prog 55 #[vwV z x y wd ht now s (.slice (some ⟨b,0,none⟩) n cap) (.slice ra rn rc) bad] U fun e w'=>e=.returned (.int .i64 VC)∧Bw U w'):=fun U h=>HVi0.out U (zA HB0.out h)
 obtain ⟨d0,d1,d2,d3,d4,d5,d6,d7,d8,d9,d10⟩:=Blk.g11 (b:=W.heap.size) (v:=W) fun W' h=>(HV.out.below hvl h)
 clear HFe0 HVi0
 refine wp_region_noPanic ?_
 refine wp_region_held_drew (S:=fun W'=>Bw W W') (by kernel_rfl) (by have:=Below.refl W.heap.size W;exact Qb) (fun hHeld=>?_)
 have hX0a:Bw W W.drew:=hHeld
 refine zE (i:=0) (d:=some 3) rfl rfl ?_
 try simp only [Act.put,Qx,Qy,Qz]
 refine zE (i:=1) (d:=some 4) rfl rfl ?_
 try simp only [Act.put,Qx,Qy,Qz]
 refine zE (i:=3) (d:=some 6) rfl rfl ?_
 try simp only [Act.put,Qx,Qy,Qz]
 refine zE (i:=4) (d:=some 7) rfl rfl ?_
 try simp only [Act.put,Qx,Qy,Qz]
 generalize W.drew=wk0a at *
 refine zR 2 fun K hK=>?_
 rw [if_pos (by rfl)]
 go_simp
 refine Calls.mono (HFe.out _ (hX0a)) ?_
 rintro e wk1a ⟨rfl,hb1a⟩
 have hX1a:Bw W wk1a:=zA hX0a hb1a
 go_wp2_with fail
 refine hK.out _ _ (by assumption) (fun hHeld=>?_)
 clear hK K
 try simp only [Act.put,Qx,Qy,Qz]
 refine zR 5 fun K hK=>?_
 rw [if_pos (by rfl)]
 go_simp
 refine Calls.mono (HVi.out _ (hX1a)) ?_
 rintro e wk2a ⟨rfl,hb2a⟩
 have hX2a:Bw W wk2a:=zA hX1a hb2a
 go_wp2_with fail
 refine hK.out _ _ (by assumption) (fun hHeld=>?_)
 clear hK K
 try simp only [Act.put,Qx,Qy,Qz]
 refine zR 6 fun K hK=>?_
 rw [if_pos (by rfl)]
 go_simp
 generalize hw4:(World.alloc _ _:World)=wo3
 have hb4:Bw wk2a wo3:=by subst hw4;exact Qb
 have g0:wo3.cell? ⟨wk2a.heap.size,0,none⟩=some (.int .i64 FC):=by subst hw4;simp [go_sem]
 have g1:wo3.cell? ⟨wk2a.heap.size,1,none⟩=some (.int .i64 VC):=by subst hw4;simp [go_sem]
 have hX3:Bw W wo3:=zA hX2a hb4
 clear hw4
 refine hK.out _ _ hX3 (fun hHeld=>?_)
 clear hK K hb4
 try simp only [Act.put,Qx,Qy,Qz]
 refine zR 7 fun K hK=>?_
 rw [if_pos (by rfl)]
 go_simp
 refine (zA9 _ _ FC VC _ g0 g1).mono ?_
 rintro e w5 ⟨rfl,rfl⟩
 go_wp2_with fail
 refine hK.out _ _ hX3 (fun hHeld=>?_)
 clear hK K g0 g1
 try simp only [Act.put,Qx,Qy,Qz]
 refine zE (i:=8) (d:=some 2) rfl rfl ?_
 try simp only [Act.put,Qx,Qy,Qz]
 refine wpAnyH_done (by kernel_rfl) ?_ _
 refine NoPanic.normal ?_
 have HBF:Hid (Bw w w5):=zA HB0.out hX3
 clear d0 d1 d2 d3 d4 d5 d6 d7 d8 d9 d10 hX0a hX1a hX2a hX3 hb1a hb2a
 go_wp2
 go_ret
 exact ⟨zC HC.out.symm,HBF.out⟩
end Go.Proofs.YtkjbafcalamgnaaGreat
