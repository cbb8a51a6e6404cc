/- Texts. -/
import Derived.Test.YtkjbafcalamgnaaGreatVPanViewer49
set_option linter.unusedSimpArgs false
set_option linter.unusedVariables false
set_option maxRecDepth 100000
set_option maxHeartbeats 32000000
namespace Go.Proofs.YtkjbafcalamgnaaGreat
open Go.RowKit
def crK (v:Value)(i:Nat):Int:=match v with
 | .agg a=>intOf (a[i]?.getD (.int .i64 0))
 | _=>0
def zX3 (v:Value):Prop:=v=crV (crK v 0) (crK v 1) (crK v 2) (crK v 3) (crK v 4) (crK v 5)∧(crK v 0=0→zA6 (crK v 1) (crK v 2) (crK v 3) (crK v 4) (crK v 5)=true)
theorem zX3.of {v:Value}{c z x y wd ht:Int}(h:v=crV c z x y wd ht)(hc:c=0→zA6 z x y wd ht=true):zX3 v:=by
 subst h
 exact ⟨rfl,hc⟩
theorem zX3.bad:zX3 (crV 3 0 0 0 0 0):=.of rfl (fun h=>by cases h)
theorem zSh {z wd ht a b:Int}(hz:xK z=true)(hw:1≤wd∧wd≤8)(hh:1≤ht∧ht≤8):zA6 z (xV a (vO z - wd)) (xV b (vO z - ht)) wd ht=true:=by
 have h:=vG hz
 have k:∀ a l:Int,0≤l→0≤xV a l∧xV a l≤l:=fun a l h=>by unfold xV;omega
 have h1:=k a (vO z - wd) (by omega)
 have h2:=k b (vO z - ht) (by omega)
 generalize xV a (vO z - wd)=u at *
 generalize xV b (vO z - ht)=v at *
 unfold zA6
 simp [hz,inB]
 omega
theorem zX3.pan (z x y wd ht a b:Int):zX3 (zFk z x y wd ht a b):=by
 unfold zFk
 split
 ·rename_i h
  have hb:=zAs h
  split
  ·exact .of rfl fun _=>zSh (uZ h) hb.1.1 hb.1.2
  ·exact .bad
 ·exact .bad
noncomputable def zHv (v:Value)(VC now s:Int)(n:Nat)(K:Nat→Kp)(rn:Nat)(E:Nat→Req)(bad:Int):Va :=
 if VC=0 then zL8 (crK v 0) (crK v 1) (crK v 2) (crK v 3) (crK v 4) (crK v 5) now s n K rn E bad else vaZ VC
theorem zE2 {T:Array Value}{Wf:World}{r:Nat}{v:Va}{u:Vm}(hT:T[6]?.getD undef=.pointer (some ⟨r,0,none⟩))(h:Blk Wf r (vaL v u)) :
  (results Tryz.f10 T).run Tryz.prog Wf=.ok (vaV v u) Wf:=by
 obtain ⟨h0,h1,h2,h3,h4,h5,h6,h7,h8,h9,h10,h11,h12⟩:=Blk.c13 h
 simp [results,Tryz.results10,go_sem,hT,h0,h1,h2,h3,h4,h5,h6,h7,h8,h9,h10,h11,h12]
theorem zD7 (z x y wd ht now s:Int)(b n cap:Nat)(A:Nat→Kp)(ra:Option Addr)(rn rc:Nat)(E:Nat→Req)(bad dx dy:Int)(w:World)(ha:zEi w b n A)(hs:zJ n A)(hcap:∀ i,i<n→(A i).fn≤(A i).fc)(hnc:n≤cap)(hr:xS w ra rn E)(hrn:rn≤1048576)(hrc:rn≤rc) :
  Calls Tryz.prog 10 #[vwV z x y wd ht now s (.slice (some ⟨b,0,none⟩) n cap) (.slice ra rn rc) bad,.int .i64 dx,.int .i64 dy] w fun e w'=>∃ u,e=.returned (vaV (zHv (zFk z x y wd ht dx dy) (viewC z x y wd ht now s n A rn E bad) now s n A rn E bad) u)∧zA7 w.heap.size w'.heap.size w' (zHv (zFk z x y wd ht dx dy) (viewC z x y wd ht now s n A rn E bad) now s n A rn E bad) u∧Bw w w':=by
 obtain ⟨VC,hVC⟩:∃ VC,viewC z x y wd ht now s n A rn E bad=VC:=⟨_,rfl⟩
 have HF:Hid (∀ W,Bw w W→Calls Tryz.prog 34 #[vwV z x y wd ht now s (.slice (some ⟨b,0,none⟩) n cap) (.slice ra rn rc) bad] W fun e w'=>∃ p,e=.returned (.tuple #[.pointer (some ⟨p,0,none⟩),.int .i64 VC])∧Bw W w'∧(VC=0→LkA w' W.heap.size p z x y wd ht now s n A ra rn rc bad)):=fun W h=>zMc z x y wd ht now s b n cap A ra rn rc E bad VC W hVC (ha.below h) hs hcap hnc (hr.below h) hrn hrc
 have HOK:Hid (VC=0→(∀ j,j<n→kC A j=0)∧n≤10∧(n:Int)≤s∧zO rn E=0):=fun h=>by
  obtain ⟨_,h2,h3,h4,_⟩:=zDk (hVC.trans h)
  exact ⟨zBk h2,(zCg h2).1,(zCg h2).2.1,h3⟩
 have HSr:Hid (VC=0→∀ W,Bw w W→∀ i,i<n→zHq W (A i)):=fun h W hW i hi=>(zU2 ha hs hi (uH (zBk (zDk (hVC.trans h)).2.1 i hi)).1).below hW
 have HR:Hid (xS w ra rn E):=hr
 have HCr:=(show Hid _ from zX3.pan z x y wd ht dx dy)
 have HCm:Hid (∀ W,Calls Tryz.prog 36 #[zDi z x y wd ht,.int .i64 dx,.int .i64 dy] W fun e w'=>e=.returned (zFk z x y wd ht dx dy)∧Bw W w'):=fun W=>zD8 z x y wd ht dx dy W
 rw [hVC]
 obtain ⟨V,hV⟩:∃ V,(zHv (zFk z x y wd ht dx dy) VC now s n A rn E bad)=V:=⟨_,rfl⟩
 have HV:Hid ((zHv (zFk z x y wd ht dx dy) VC now s n A rn E bad)=V):=hV
 rw [hV]
 clear hV
 generalize (zFk z x y wd ht dx dy)=cv at *
 obtain ⟨c,z',x',y',wd',ht',hcv⟩:∃ c z' x' y' wd' ht',c=crK cv 0∧z'=crK cv 1∧x'=crK cv 2∧y'=crK cv 3∧wd'=crK cv 4∧ht'=crK cv 5:=⟨_,_,_,_,_,_,rfl,rfl,rfl,rfl,rfl,rfl⟩
 unfold zHv at HV
 obtain ⟨e0,e1,e2,e3,e4,e5⟩:=hcv
 rw [← e0,← e1,← e2,← e3,← e4,← e5] at HV HCr
 clear e0 e1 e2 e3 e4 e5
 obtain ⟨hcr,hcb⟩:=HCr.out
 subst hcr
 have HCB:Hid (c=0→zA6 z' x' y' wd' ht'=true):=hcb
 clear ha hs hcap hnc hr hVC hcb HCr
 go_enter Tryz.func10,Tryz.ntmps10
 go_wp2_with fail
 generalize hW:((w.alloc _).alloc _:World)=W
 have HB0:Hid (Bw w W):=by show Below _ _ _;subst hW;exact Qb
 have HRs:Hid (Blk W (w.heap.size+1) [.int .i64 0,.bool false,.slice none 0 0,.int .i64 0,.int .i64 0,.int .i64 0,.int .i64 0,.int .i64 0,.int .i64 0,.int .i64 0,.slice none 0 0,.slice none 0 0,.int .i64 0]):=by
  show Blk _ _ _
  subst hW
  have:=Blk.new (w.alloc (.cells #[.int .i64 z,.int .i64 x,.int .i64 y,.int .i64 wd,.int .i64 ht,.int .i64 now,.int .i64 s,.slice (some ⟨b,0,none⟩) n cap,.slice ra rn rc,.int .i64 bad] 38)) [.int .i64 0,.bool false,.slice none 0 0,.int .i64 0,.int .i64 0,.int .i64 0,.int .i64 0,.int .i64 0,.int .i64 0,.int .i64 0,.slice none 0 0,.slice none 0 0,.int .i64 0] 40
  simpa using this
 have hsz:w.heap.size+1<W.heap.size:=by subst hW;simp
 clear hW
 refine Calls.mono (HF.out W HB0.out) ?_
 rintro e w1 ⟨p,rfl,hb1,hK1⟩
 have HK1:Hid (VC=0→LkA w1 W.heap.size p z x y wd ht now s n A ra rn rc bad):=hK1
 have HB1:Hid (Bw w w1):=zA HB0.out hb1
 have HR1:Hid (Blk w1 (w.heap.size+1) [.int .i64 0,.bool false,.slice none 0 0,.int .i64 0,.int .i64 0,.int .i64 0,.int .i64 0,.int .i64 0,.int .i64 0,.int .i64 0,.slice none 0 0,.slice none 0 0,.int .i64 0]):=HRs.out.below hsz hb1
 have hs1:W.heap.size≤w1.heap.size:=hb1.size
 clear hb1 hK1 HF HRs HB0
 by_cases h0:VC=0
 case neg =>
  have HE:Hid (V=vaZ VC):=by show _=_;rw [← HV.out,if_neg h0]
  have hcb:(VC == 0)=false:=by simpa using h0
  have hcb2:(VC != 0)=true:=by simpa using h0
  have hR':=HR1.out
  obtain ⟨t0,t1,t2,t3,t4,t5,t6,t7,t8,t9,t10,t11,t12⟩:=Blk.c13 (hR')
  obtain ⟨f0,f1,f2,f3,f4,f5,f6,f7,f8,f9,f10,f11,f12⟩:=Blk.f13 (hR')
  clear hR' HK1 HOK HSr h0 HV HCm
  go_wp2_with fail
  generalize hwF:(World.setCell _ _ _:World)=wF
  have HBk:Hid (Blk wF (w.heap.size+1) (vaL (vaZ VC) vmZ)):=by show Blk _ _ _;subst hwF;exact (((((((((((((HR1.out.set 0 _).set 1 _).set 2 _).set 3 _).set 4 _).set 5 _).set 6 _).set 7 _).set 8 _).set 9 _).set 10 _).set 11 _).set 12 _)
  have HMM:Hid (zK (w.heap.size+1) (w.heap.size+2) w1 wF):=by show zK _ _ _ _;subst hwF;exact ((((((((((((((zK.refl _ _ _).set (Nat.le_refl _) (Nat.lt_succ_self _) _ _).set (Nat.le_refl _) (Nat.lt_succ_self _) _ _).set (Nat.le_refl _) (Nat.lt_succ_self _) _ _).set (Nat.le_refl _) (Nat.lt_succ_self _) _ _).set (Nat.le_refl _) (Nat.lt_succ_self _) _ _).set (Nat.le_refl _) (Nat.lt_succ_self _) _ _).set (Nat.le_refl _) (Nat.lt_succ_self _) _ _).set (Nat.le_refl _) (Nat.lt_succ_self _) _ _).set (Nat.le_refl _) (Nat.lt_succ_self _) _ _).set (Nat.le_refl _) (Nat.lt_succ_self _) _ _).set (Nat.le_refl _) (Nat.lt_succ_self _) _ _).set (Nat.le_refl _) (Nat.lt_succ_self _) _ _).set (Nat.le_refl _) (Nat.lt_succ_self _) _ _)
  clear hwF
  refine bodyPost_ret (zE2 (v:=vaZ VC) (u:=vmZ) rfl HBk.out) rfl ⟨vmZ,by rw [HE.out],?_,HB1.out.trans ((HMM.out.below (by omega)).mono (by omega))⟩
  rw [HE.out]
  exact zA7.zero _ _ _ _ (by have:=HMM.out.size;omega) (Nat.le_refl _)
 subst h0
 obtain ⟨hall,hn10,hns,hrq⟩:=HOK.out rfl
 have hn8:=zDu hrq
 have HLk:Hid (LkT w1 w1.heap.size W.heap.size p z x y wd ht now s (n:Int) (agL A n) (.slice ra rn rc) bad (.slice none 0 0)):=(HK1.out rfl).t hall
 obtain ⟨sp1,mb1,⟨hWp,hpl1⟩,_,_,_,hbk1,_,_,_⟩:=HLk.out
 obtain ⟨l0,l1,l2,l3,l4,l5,l6,l7,l8,l9⟩:=Blk.c10 hbk1
 have HE:Hid (V=zL8 c z' x' y' wd' ht' now s n A rn E bad):=by show _=_;rw [← HV.out,if_pos rfl]
 have HSrr:=(show Hid _ from HSr.out rfl)
 clear hbk1 HK1 HOK HSr HV hall hrq
 have hcb:((0:Int) == 0)=true:=rfl
 have hcb2:((0:Int) != 0)=false:=rfl
 go_wp2_with fail
 refine Calls.mono (HCm.out _) ?_
 rintro e w2 ⟨rfl,hb2⟩
 have HB2:Hid (Bw w w2):=zA HB1.out hb2
 have HLk2:Hid (LkT w2 w1.heap.size W.heap.size p z x y wd ht now s (n:Int) (agL A n) (.slice ra rn rc) bad (.slice none 0 0)):=HLk.out.below hb2
 have hs2:=hb2.size
 have HR2:Hid (Blk w2 (w.heap.size+1) [.int .i64 0,.bool false,.slice none 0 0,.int .i64 0,.int .i64 0,.int .i64 0,.int .i64 0,.int .i64 0,.int .i64 0,.int .i64 0,.slice none 0 0,.slice none 0 0,.int .i64 0]):=HR1.out.below (by omega) hb2
 have HMo:Hid (Calls Tryz.prog 35 #[.pointer (some ⟨p,0,none⟩),crV c z' x' y' wd' ht'] w2 fun e w'=>∃ u,e=.returned (vaV V u)∧zA7 w1.heap.size w'.heap.size w' V u∧Below W.heap.size w2 w'):=by
  have hlk:=HLk2.out
  rw [agL_LT] at hlk
  rw [HE.out]
  exact zTu w1.heap.size W.heap.size p z x y wd ht now s n n A _ ra rn rc E bad c z' x' y' wd' ht' w2 hlk (fun W' h=>HR.out.below (HB2.out.trans (h.mono (by omega)))) hn8 hrc HCB.out (fun i hi=>by omega) (by omega) hn10 hns (fun W' h=>HSrr.out W' (HB2.out.trans (h.mono (by omega))))
 clear HCm hb2 HLk HR1 HB1 HR HSrr HE HCB HLk2 l0 l1 l2 l3 l4 l5 l6 l7 l8 l9
 have hr2:=HR2.out
 obtain ⟨t0,t1,t2,t3,t4,t5,t6,t7,t8,t9,t10,t11,t12⟩:=Blk.g13 (b:=W.heap.size) (v:=w2) fun W' h=>(hr2.but (h.block (w.heap.size+1) (by omega)))
 obtain ⟨f0,f1,f2,f3,f4,f5,f6,f7,f8,f9,f10,f11,f12⟩:=Blk.k13 (b:=W.heap.size) (v:=w2) fun W' h=>(hr2.but (h.block (w.heap.size+1) (by omega)))
 clear hr2
 go_wp2_with fail
 refine Calls.mono HMo.out ?_
 rintro e w6 ⟨u,rfl,hO6,hb6⟩
 have HO6:Hid (zA7 w1.heap.size w6.heap.size w6 V u):=hO6
 have HR6:Hid (Blk w6 (w.heap.size+1) [.int .i64 0,.bool false,.slice none 0 0,.int .i64 0,.int .i64 0,.int .i64 0,.int .i64 0,.int .i64 0,.int .i64 0,.int .i64 0,.slice none 0 0,.slice none 0 0,.int .i64 0]):=HR2.out.but (hb6.block (w.heap.size+1) (by omega))
 have HBw6:Hid (Bw w w6):=HB2.out.trans (hb6.mono (by omega))
 have t0:=t0 w6 hb6
 have t1:=t1 w6 hb6
 have t2:=t2 w6 hb6
 have t3:=t3 w6 hb6
 have t4:=t4 w6 hb6
 have t5:=t5 w6 hb6
 have t6:=t6 w6 hb6
 have t7:=t7 w6 hb6
 have t8:=t8 w6 hb6
 have t9:=t9 w6 hb6
 have t10:=t10 w6 hb6
 have t11:=t11 w6 hb6
 have t12:=t12 w6 hb6
 have f0:=f0 w6 hb6
 have f1:=f1 w6 hb6
 have f2:=f2 w6 hb6
 have f3:=f3 w6 hb6
 have f4:=f4 w6 hb6
 have f5:=f5 w6 hb6
 have f6:=f6 w6 hb6
 have f7:=f7 w6 hb6
 have f8:=f8 w6 hb6
 have f9:=f9 w6 hb6
 have f10:=f10 w6 hb6
 have f11:=f11 w6 hb6
 have f12:=f12 w6 hb6
 have hs6:=hb6.size
 clear hO6 hb6 HMo
 go_wp2_with fail
 generalize hwF:(World.setCell _ _ _:World)=wF
 have HBk:Hid (Blk wF (w.heap.size+1) (vaL V u)):=by show Blk _ _ _;subst hwF;exact (((((((((((((HR6.out.set 0 _).set 1 _).set 2 _).set 3 _).set 4 _).set 5 _).set 6 _).set 7 _).set 8 _).set 9 _).set 10 _).set 11 _).set 12 _)
 have HMM:Hid (zK (w.heap.size+1) (w.heap.size+2) w6 wF):=by show zK _ _ _ _;subst hwF;exact ((((((((((((((zK.refl _ _ _).set (Nat.le_refl _) (Nat.lt_succ_self _) _ _).set (Nat.le_refl _) (Nat.lt_succ_self _) _ _).set (Nat.le_refl _) (Nat.lt_succ_self _) _ _).set (Nat.le_refl _) (Nat.lt_succ_self _) _ _).set (Nat.le_refl _) (Nat.lt_succ_self _) _ _).set (Nat.le_refl _) (Nat.lt_succ_self _) _ _).set (Nat.le_refl _) (Nat.lt_succ_self _) _ _).set (Nat.le_refl _) (Nat.lt_succ_self _) _ _).set (Nat.le_refl _) (Nat.lt_succ_self _) _ _).set (Nat.le_refl _) (Nat.lt_succ_self _) _ _).set (Nat.le_refl _) (Nat.lt_succ_self _) _ _).set (Nat.le_refl _) (Nat.lt_succ_self _) _ _).set (Nat.le_refl _) (Nat.lt_succ_self _) _ _)
 clear hwF
 exact bodyPost_ret (zE2 (v:=V) (u:=u) rfl HBk.out) rfl ⟨u,rfl,((HO6.out.mid HMM.out (by omega)).lower (by omega)).upper HMM.out.size (Nat.le_refl _),HBw6.out.trans ((HMM.out.below (by omega)).mono (by omega))⟩
end Go.Proofs.YtkjbafcalamgnaaGreat
