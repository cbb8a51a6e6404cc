/- Texts. -/
import Derived.Test.YtkjbafcalamgnaaGreatVSizeViewer50
set_option linter.unusedSimpArgs false
set_option linter.unusedVariables false
set_option maxRecDepth 100000
set_option maxHeartbeats 32000000
namespace Go.Proofs.YtkjbafcalamgnaaGreat
open Go.RowKit
theorem zWc {n:Nat}{E:Nat→Req}{z x y wd ht:Int}(h:zO n E=0)(hc:zAi z x y wd ht=true):zBj n E z x y wd ht=zZ (fun j=>yU z x y wd ht (E j).z (E j).x (E j).y) E n:=by
 have e:uQ z x y wd ht=0:=by unfold uQ;simp [hc]
 unfold zBj
 rw [if_pos]
 unfold zG3 or2
 simp [h,e]
theorem grQ_of {B q:Nat}{w wO W:World}(h:GrQ B q none wO W)(hb:Below w.heap.size w wO)(hq:w.heap.size≤q):GrF B none w W :=
 ⟨h.os.trans hb.os,h.tape.trans hb.tape,h.output.trans hb.output,Nat.le_trans hb.size h.size,fun j h1 h2 _=>(h.block j h1 (Nat.lt_of_lt_of_le h2 hb.size) (by simp) (by omega)).trans (hb.block j h2)⟩
theorem zTx {T:Array Value}{Wf:World}{r:Nat}{v:Va}{u:Vm}(hT:T[4]?.getD undef=.pointer (some ⟨r,0,none⟩))(h:Blk Wf r (vaL v u)) :
  (results Tryz.f29 T).run Tryz.prog Wf=.ok (vaV v u) Wf:=by
 obtain ⟨h0,h1,h2,h3,h4,h5,h6,h7,h8,h9,h10,h11,h12⟩:=Blk.c13 h
 simp [results,Tryz.results29,go_sem,hT,h0,h1,h2,h3,h4,h5,h6,h7,h8,h9,h10,h11,h12]
theorem zHc (z x y wd ht now s:Int)(b n cap:Nat)(A:Nat→Kp)(ad:Addr)(rn rc:Nat)(E:Nat→Req)(bad c z' x' y' wd' ht':Int)(w:World)(ha:zCx w b n A)(hsrc:∀ i,i<n→zGp w (A i))(h0:∀ j,j<n→kC A j=0)(hn:n≤10)(hr:xL w (some ad) rn E)(hrn:rn≤8)(hrq:zO rn E=0)(hc:c=0→zAi z' x' y' wd' ht'=true) :
  Calls Tryz.prog 29 #[vwV z x y wd ht now s (.slice (some ⟨b,0,none⟩) n cap) (.slice (some ad) rn rc) bad,crV c z' x' y' wd' ht'] w fun e w'=>∃ u,e=.returned (vaV (zKs c z' x' y' wd' ht' now s n A rn E bad) u)∧(∀ W,zK 0 w.heap.size w' W→zEs W (zKs c z' x' y' wd' ht' now s n A rn E bad) u)∧Bw w w':=by
 obtain ⟨V,hVe⟩:∃ V,zKs c z' x' y' wd' ht' now s n A rn E bad=V:=⟨_,rfl⟩
 have HV:Hid (zKs c z' x' y' wd' ht' now s n A rn E bad=V):=hVe
 rw [hVe]
 have HA:Hid (zCx w b n A):=ha
 have HS:Hid (∀ i,i<n→zGp w (A i)):=hsrc
 have HC0:Hid (∀ j,j<n→kC A j=0):=h0
 have HR:Hid (xL w (some ad) rn E):=hr
 have HRQ:Hid (zO rn E=0):=hrq
 have HCB:Hid (c=0→zAi z' x' y' wd' ht'=true):=hc
 clear ha hsrc h0 hr hrq hc hVe
 go_enter Tryz.func29,Tryz.ntmps29
 go_upto_region 1 with fail
 generalize hW:(((w.alloc _).alloc _).alloc _:World)=W
 have HB0:Hid (Bw w W):=by show Below _ _ _;subst hW;exact Qb
 have HVw:Hid (Blk W w.heap.size [.int .i64 z,.int .i64 x,.int .i64 y,.int .i64 wd,.int .i64 ht,.int .i64 now,.int .i64 s,.slice (some ⟨b,0,none⟩) n cap,.slice (some ad) rn rc,.int .i64 bad]):=by show Blk _ _ _;subst hW;exact ((Blk.new w _ _).alloc (by simp) _).alloc (by simp;omega) _
 have HCr:Hid (Blk W (w.heap.size+1) [.int .i64 c,.int .i64 z',.int .i64 x',.int .i64 y',.int .i64 wd',.int .i64 ht']):=by
  show Blk _ _ _
  subst hW
  have:=(Blk.new (w.alloc (.cells #[.int .i64 z,.int .i64 x,.int .i64 y,.int .i64 wd,.int .i64 ht,.int .i64 now,.int .i64 s,.slice (some ⟨b,0,none⟩) n cap,.slice (some ad) rn rc,.int .i64 bad] 38)) [.int .i64 c,.int .i64 z',.int .i64 x',.int .i64 y',.int .i64 wd',.int .i64 ht'] 68).alloc (by simp) (.cells #[.int .i64 0,.bool false,.slice none 0 0,.int .i64 0,.int .i64 0,.int .i64 0,.int .i64 0,.int .i64 0,.int .i64 0,.int .i64 0,.slice none 0 0,.slice none 0 0,.int .i64 0] 40)
  simpa using this
 have HRs:Hid (Blk W (w.heap.size+1+1) [.int .i64 0,.bool false,.slice none 0 0,.int .i64 0,.int .i64 0,.int .i64 0,.int .i64 0,.int .i64 0,.int .i64 0,.int .i64 0,.slice none 0 0,.slice none 0 0,.int .i64 0]):=by
  show Blk _ _ _
  subst hW
  have:=Blk.new ((w.alloc (.cells #[.int .i64 z,.int .i64 x,.int .i64 y,.int .i64 wd,.int .i64 ht,.int .i64 now,.int .i64 s,.slice (some ⟨b,0,none⟩) n cap,.slice (some ad) rn rc,.int .i64 bad] 38)).alloc (.cells #[.int .i64 c,.int .i64 z',.int .i64 x',.int .i64 y',.int .i64 wd',.int .i64 ht'] 68)) [.int .i64 0,.bool false,.slice none 0 0,.int .i64 0,.int .i64 0,.int .i64 0,.int .i64 0,.int .i64 0,.int .i64 0,.int .i64 0,.slice none 0 0,.slice none 0 0,.int .i64 0] 40
  simpa using this
 have hsz:W.heap.size=w.heap.size+3:=by subst hW;simp
 have hvw:=HVw.out
 have hcr:=HCr.out
 obtain ⟨l0,l1,l2,l3,l4,l5,l6,l7,l8,l9⟩:=Blk.c10 hvw
 obtain ⟨cr0,cr1,cr2,cr3,cr4,cr5⟩:=Blk.c6 hcr
 clear hW hvw hcr
 by_cases h0:c=0
 case neg =>
  have HE:Hid (V=vaZ c):=by show _=_;rw [← HV.out];unfold zKs;rw [if_neg h0]
  have hcb:(c == 0)=false:=by simpa using h0
  have hcb2:(c != 0)=true:=by simpa using h0
  have HBd:Hid (∀ (W:World),Calls Tryz.prog 28 #[.int .i64 c] W fun e w'=>e=.returned (vaV (vaZ c) vmZ)∧Bw W w'):=fun W=>zE3 c W
  clear HV HA HS HC0 HR HRQ HCB h0
  go_wp2_with fail
  refine Calls.mono (HBd.out _) ?_
  rintro e w2 ⟨rfl,hb2⟩
  have HB2:Hid (Bw W w2):=hb2
  have HR2:Hid (Blk w2 (w.heap.size+1+1) [.int .i64 0,.bool false,.slice none 0 0,.int .i64 0,.int .i64 0,.int .i64 0,.int .i64 0,.int .i64 0,.int .i64 0,.int .i64 0,.slice none 0 0,.slice none 0 0,.int .i64 0]):=HRs.out.below (by omega) hb2
  have hR':=HR2.out
  clear l0 l1 l2 l3 l4 l5 l6 l7 l8 l9 cr0 cr1 cr2 cr3 cr4 cr5
  obtain ⟨t0,t1,t2,t3,t4,t5,t6,t7,t8,t9,t10,t11,t12⟩:=Blk.c13 (hR')
  obtain ⟨f0,f1,f2,f3,f4,f5,f6,f7,f8,f9,f10,f11,f12⟩:=Blk.f13 (hR')
  have hs2:=hb2.size
  clear hR' hb2
  go_wp2_with fail
  generalize hwF:(World.setCell _ _ _:World)=wF
  have HBk:Hid (Blk wF (w.heap.size+1+1) (vaL (vaZ c) vmZ)):=by show Blk _ _ _;subst hwF;exact (((((((((((((HR2.out.set 0 _).set 1 _).set 2 _).set 3 _).set 4 _).set 5 _).set 6 _).set 7 _).set 8 _).set 9 _).set 10 _).set 11 _).set 12 _)
  have HMM:Hid (zK (w.heap.size+1+1) (w.heap.size+1+1+1) w2 wF):=by show zK _ _ _ _;subst hwF;exact ((((((((((((((zK.refl _ _ _).set (Nat.le_refl _) (Nat.lt_succ_self _) _ _).set (Nat.le_refl _) (Nat.lt_succ_self _) _ _).set (Nat.le_refl _) (Nat.lt_succ_self _) _ _).set (Nat.le_refl _) (Nat.lt_succ_self _) _ _).set (Nat.le_refl _) (Nat.lt_succ_self _) _ _).set (Nat.le_refl _) (Nat.lt_succ_self _) _ _).set (Nat.le_refl _) (Nat.lt_succ_self _) _ _).set (Nat.le_refl _) (Nat.lt_succ_self _) _ _).set (Nat.le_refl _) (Nat.lt_succ_self _) _ _).set (Nat.le_refl _) (Nat.lt_succ_self _) _ _).set (Nat.le_refl _) (Nat.lt_succ_self _) _ _).set (Nat.le_refl _) (Nat.lt_succ_self _) _ _).set (Nat.le_refl _) (Nat.lt_succ_self _) _ _)
  clear hwF
  refine bodyPost_ret (zTx (v:=vaZ c) (u:=vmZ) rfl HBk.out) rfl ⟨vmZ,by rw [HE.out],?_,(zA HB0.out HB2.out).trans ((HMM.out.below (by omega)).mono (by omega))⟩
  rw [HE.out]
  exact fun _ _=>zEs.zero _ _
 subst h0
 have HK:Hid (Calls Tryz.prog 64 #[vwV z x y wd ht now s (.slice (some ⟨b,0,none⟩) n cap) (.slice (some ad) rn rc) bad] W fun e w'=>∃ a c R a3 c3,e=.returned (vwV z x y wd ht now s (.slice a n c) (.slice a3 rn c3) bad)∧(∀ V,GrF (W.heap.size+2) none w' V→CaF V a n A R)∧OwR (W.heap.size+2) w'.heap.size w' a3 rn E∧Bw W w'):=zO9 z x y wd ht now s b n cap A ad rn rc E bad W (HA.out.below HB0.out) (fun i hi=>(HS.out i hi).below HB0.out) (kC_m0 HC0.out) (by omega) (HR.out.below HB0.out) (by omega)
 have hcam:=HCB.out rfl
 have HE:Hid (V=zVl z' x' y' wd' ht' now s n A (zZ (fun j=>yU z' x' y' wd' ht' (E j).z (E j).x (E j).y) E rn) bad):=by
  show _=_
  rw [← HV.out,← zWc HRQ.out hcam]
  exact if_pos rfl
 have HCam:Hid (zAi z' x' y' wd' ht'=true):=hcam
 have hcb:((0:Int) != 0)=false:=rfl
 clear HV HCB HRQ hcam HA HS HR
 go_wp2_with fail
 refine Calls.mono HK.out ?_
 rintro e w2 ⟨a,ca,R,a3,c3,rfl,hL2,hO2,hb2⟩
 have HL2:Hid (∀ V,GrF (W.heap.size+2) none w2 V→CaF V a n A R):=hL2
 have HO2:Hid (xL w2 a3 rn E):=hO2.is (Nat.le_refl _)
 have HB2:Hid (Bw W w2):=hb2
 have hs2:=hb2.size
 have HR2:Hid (Blk w2 (w.heap.size+1+1) [.int .i64 0,.bool false,.slice none 0 0,.int .i64 0,.int .i64 0,.int .i64 0,.int .i64 0,.int .i64 0,.int .i64 0,.int .i64 0,.slice none 0 0,.slice none 0 0,.int .i64 0]):=HRs.out.below (by omega) hb2
 have hcr:=HCr.out.below (by omega) hb2
 clear l0 l1 l2 l3 l4 l5 l6 l7 l8 l9 cr0 cr1 cr2 cr3 cr4 cr5
 obtain ⟨cr0,cr1,cr2,cr3,cr4,cr5⟩:=Blk.c6 hcr
 have m0:∀ o,(w2.alloc o).cell? ⟨w.heap.size+1,0,none⟩=_:=fun o=>(hcr.alloc (by omega) o).cell 0 rfl
 have m1:∀ o,(w2.alloc o).cell? ⟨w.heap.size+1,1,none⟩=_:=fun o=>(hcr.alloc (by omega) o).cell 1 rfl
 have m2:∀ o,(w2.alloc o).cell? ⟨w.heap.size+1,2,none⟩=_:=fun o=>(hcr.alloc (by omega) o).cell 2 rfl
 have m3:∀ o,(w2.alloc o).cell? ⟨w.heap.size+1,3,none⟩=_:=fun o=>(hcr.alloc (by omega) o).cell 3 rfl
 have m4:∀ o,(w2.alloc o).cell? ⟨w.heap.size+1,4,none⟩=_:=fun o=>(hcr.alloc (by omega) o).cell 4 rfl
 have m5:∀ o,(w2.alloc o).cell? ⟨w.heap.size+1,5,none⟩=_:=fun o=>(hcr.alloc (by omega) o).cell 5 rfl
 clear hL2 hO2 hb2 HK HCr HRs HVw hcr
 go_wp2_with fail
 generalize hwO:(w2.alloc _:World)=wO
 have HBO:Hid (Bw w2 wO):=by show Below _ _ _;subst hwO;exact Qb
 have HO:Hid (Blk wO w2.heap.size [.int .i64 z',.int .i64 x',.int .i64 y',.int .i64 wd',.int .i64 ht',.int .i64 now,.int .i64 s,.slice a n ca,.slice a3 rn c3,.int .i64 bad]):=by show Blk _ _ _;subst hwO;exact Blk.new _ _ _
 clear hwO cr0 m0 cr1 m1 cr2 m2 cr3 m3 cr4 m4 cr5 m5
 have hlO:=HO.out.lt
 have HR3:Hid (Blk wO (w.heap.size+1+1) [.int .i64 0,.bool false,.slice none 0 0,.int .i64 0,.int .i64 0,.int .i64 0,.int .i64 0,.int .i64 0,.int .i64 0,.int .i64 0,.slice none 0 0,.slice none 0 0,.int .i64 0]):=HR2.out.below (by omega) HBO.out
 obtain ⟨q,hq⟩:∃ q,w2.heap.size=q:=⟨_,rfl⟩
 have HAk:=(show Hid _ from zR5 q (W.heap.size+2) z' x' y' wd' ht' now s a n ca A R a3 rn c3 E bad wO (hq ▸ HO.out) (by omega) (by omega) (fun U hU=>HL2.out U (grQ_of hU HBO.out (by omega))) HC0.out hn (HO2.out.below HBO.out) hrn HCam.out)
 have hq':=hq
 rw [hq]
 clear HO HO2 HC0 HCam HR2 HL2
 obtain ⟨Q,hQ⟩:∃ Q,(zZ (fun j=>yU z' x' y' wd' ht' (E j).z (E j).x (E j).y) E rn)=Q:=⟨_,rfl⟩
 rw [hQ] at HAk HE
 clear hQ
 refine Calls.mono HAk.out ?_
 rintro e w6 ⟨sv,rfl,hS6,ka',kc',R',ra',rc',hV6,hK6,hW6,hb6,hu6⟩
 obtain ⟨sa,sc,hsv⟩:=yP.form hS6
 subst hsv
 have HS6:Hid (yP wO.heap.size w6 (.slice sa _ sc) _):=hS6
 have HK6:=(show Hid _ from hK6)
 have HW6:Hid (yL wO.heap.size w6 (.slice ra' _ rc') _):=hW6
 have HB6:Hid (Below q wO w6):=hb6
 have hs6:=hb6.size
 have HR6:Hid (Blk w6 (w.heap.size+1+1) [.int .i64 0,.bool false,.slice none 0 0,.int .i64 0,.int .i64 0,.int .i64 0,.int .i64 0,.int .i64 0,.int .i64 0,.int .i64 0,.slice none 0 0,.slice none 0 0,.int .i64 0]):=HR3.out.but (hb6.block _ (by omega))
 have hv6:=hV6
 have hr6:=HR6.out
 obtain ⟨l0,l1,l2,l3,l4,l5,l6,l7,l8,l9⟩:=Blk.c10 hv6
 obtain ⟨t0,t1,t2,t3,t4,t5,t6,t7,t8,t9,t10,t11,t12⟩:=Blk.c13 hr6
 obtain ⟨f0,f1,f2,f3,f4,f5,f6,f7,f8,f9,f10,f11,f12⟩:=Blk.f13 hr6
 clear hS6 hK6 hW6 hb6 hu6 hV6 HAk hv6 hr6 HR3
 go_wp2_with fail
 generalize hwF:(World.setCell _ _ _:World)=wF
 have HBk:Hid (Blk wF (w.heap.size+1+1) (vaL (zVl z' x' y' wd' ht' now s n A Q bad) ⟨sa,sc,ka',kc',R',ra',rc'⟩)):=by show Blk _ _ _;subst hwF;exact (((((((((((((HR6.out.set 0 _).set 1 _).set 2 _).set 3 _).set 4 _).set 5 _).set 6 _).set 7 _).set 8 _).set 9 _).set 10 _).set 11 _).set 12 _)
 have HMM:Hid (zK (w.heap.size+1+1) (w.heap.size+1+1+1) w6 wF):=by show zK _ _ _ _;subst hwF;exact ((((((((((((((zK.refl _ _ _).set (Nat.le_refl _) (Nat.lt_succ_self _) _ _).set (Nat.le_refl _) (Nat.lt_succ_self _) _ _).set (Nat.le_refl _) (Nat.lt_succ_self _) _ _).set (Nat.le_refl _) (Nat.lt_succ_self _) _ _).set (Nat.le_refl _) (Nat.lt_succ_self _) _ _).set (Nat.le_refl _) (Nat.lt_succ_self _) _ _).set (Nat.le_refl _) (Nat.lt_succ_self _) _ _).set (Nat.le_refl _) (Nat.lt_succ_self _) _ _).set (Nat.le_refl _) (Nat.lt_succ_self _) _ _).set (Nat.le_refl _) (Nat.lt_succ_self _) _ _).set (Nat.le_refl _) (Nat.lt_succ_self _) _ _).set (Nat.le_refl _) (Nat.lt_succ_self _) _ _).set (Nat.le_refl _) (Nat.lt_succ_self _) _ _)
 clear hwF
 have hFs:=HMM.out.size
 have hG:∀ U,zK 0 w.heap.size wF U→∀ ob,GrQ (W.heap.size+2) q ob w6 U:=fun U hU ob=>⟨hU.os.trans HMM.out.os,hU.tape.trans HMM.out.tape,hU.output.trans HMM.out.output,Nat.le_trans HMM.out.size hU.size,fun j h1 h2 _ _=>(hU.block j (by omega) (.inr (by omega))).trans (HMM.out.block j h2 (.inr (by omega)))⟩
 refine bodyPost_ret (zTx (v:=zVl z' x' y' wd' ht' now s n A Q bad) (u:=⟨sa,sc,ka',kc',R',ra',rc'⟩) rfl HBk.out) rfl ⟨⟨sa,sc,ka',kc',R',ra',rc'⟩,by rw [HE.out],?_,((zA (zA HB0.out HB2.out) HBO.out).trans (HB6.out.mono (by omega))).trans ((HMM.out.below (by omega)).mono (by omega))⟩
 rw [HE.out]
 exact fun U hU=>⟨((OwT.mid (zN4.ow (yP.own HS6.out)) HMM.out (.inl (by omega))).mid hU (.inl (by omega))).is (by have:=hU.size;omega),(HK6.out U (hG U hU _)).ks,((OwR.mid (zF8.ow (yL.own HW6.out)) HMM.out (.inl (by omega))).mid hU (.inl (by omega))).is (by have:=hU.size;omega)⟩
theorem zD4 {T:Array Value}{Wf:World}{r:Nat}{v:Va}{u:Vm}(hT:T[6]?.getD undef=.pointer (some ⟨r,0,none⟩))(h:Blk Wf r (vaL v u)) :
  (results Tryz.f8 T).run Tryz.prog Wf=.ok (vaV v u) Wf:=by
 obtain ⟨h0,h1,h2,h3,h4,h5,h6,h7,h8,h9,h10,h11,h12⟩:=Blk.c13 h
 simp [results,Tryz.results8,go_sem,hT,h0,h1,h2,h3,h4,h5,h6,h7,h8,h9,h10,h11,h12]
theorem zP0 (z x y wd ht now s:Int)(b n cap:Nat)(A:Nat→Kp)(ad:Addr)(rn rc:Nat)(E:Nat→Req)(bad dx dy:Int)(w:World)(ha:zCx w b n A)(hs:zI n A)(hr:xL w (some ad) rn E)(hrn:rn≤1048576) :
  Calls Tryz.prog 8 #[vwV z x y wd ht now s (.slice (some ⟨b,0,none⟩) n cap) (.slice (some ad) rn rc) bad,.int .i64 dx,.int .i64 dy] w fun e w'=>∃ u,e=.returned (vaV (zCw (zGe z x y wd ht dx dy) (viewC z x y wd ht now s n A rn E bad) now s n A rn E bad) u)∧zEs w' (zCw (zGe z x y wd ht dx dy) (viewC z x y wd ht now s n A rn E bad) now s n A rn E bad) u∧Bw w w':=by
 obtain ⟨VC,hVC⟩:∃ VC,viewC z x y wd ht now s n A rn E bad=VC:=⟨_,rfl⟩
 have HVC:Hid (viewC z x y wd ht now s n A rn E bad=VC):=hVC
 have HA:Hid (zCx w b n A):=ha
 have HS:Hid (zI n A):=hs
 have HR:Hid (xL w (some ad) rn E):=hr
 have HOK:Hid (VC=0→(∀ j,j<n→kC A j=0)∧n≤10∧zO rn E=0):=fun h=>by
  obtain ⟨_,h2,h3,h4,_⟩:=zAm (hVC.trans h)
  exact ⟨vL h2,(uC h2).1,h3⟩
 have HCr:=(show Hid _ from zS3.pan z x y wd ht dx dy)
 have HCm:Hid (∀ W,Calls Tryz.prog 30 #[zCn z x y wd ht,.int .i64 dx,.int .i64 dy] W fun e w'=>e=.returned (zGe z x y wd ht dx dy)∧Bw W w'):=fun W=>zDy z x y wd ht dx dy W
 rw [hVC]
 obtain ⟨V,hV⟩:∃ V,(zCw (zGe z x y wd ht dx dy) VC now s n A rn E bad)=V:=⟨_,rfl⟩
 have HV:Hid ((zCw (zGe z x y wd ht dx dy) VC now s n A rn E bad)=V):=hV
 rw [hV]
 clear hV
 generalize (zGe z x y wd ht dx dy)=cv at *
 obtain ⟨c,z',x',y',wd',ht',hcv⟩:∃ c z' x' y' wd' ht',c=crK cv 0∧z'=crK cv 1∧x'=crK cv 2∧y'=crK cv 3∧wd'=crK cv 4∧ht'=crK cv 5:=⟨_,_,_,_,_,_,rfl,rfl,rfl,rfl,rfl,rfl⟩
 unfold zCw at HV
 obtain ⟨e0,e1,e2,e3,e4,e5⟩:=hcv
 rw [← e0,← e1,← e2,← e3,← e4,← e5] at HV HCr
 clear e0 e1 e2 e3 e4 e5
 obtain ⟨hcr,hcb⟩:=HCr.out
 subst hcr
 have HCB:Hid (c=0→zAi z' x' y' wd' ht'=true):=hcb
 clear ha hs hr hVC hcb HCr
 go_enter Tryz.func8,Tryz.ntmps8
 go_wp2_with fail
 generalize hW:((w.alloc _).alloc _:World)=W
 have HB0:Hid (Bw w W):=by show Below _ _ _;subst hW;exact Qb
 have HVw:Hid (Blk W w.heap.size [.int .i64 z,.int .i64 x,.int .i64 y,.int .i64 wd,.int .i64 ht,.int .i64 now,.int .i64 s,.slice (some ⟨b,0,none⟩) n cap,.slice (some ad) rn rc,.int .i64 bad]):=by show Blk _ _ _;subst hW;exact (Blk.new w _ _).alloc (by simp) _
 have HRs:Hid (Blk W (w.heap.size+1) [.int .i64 0,.bool false,.slice none 0 0,.int .i64 0,.int .i64 0,.int .i64 0,.int .i64 0,.int .i64 0,.int .i64 0,.int .i64 0,.slice none 0 0,.slice none 0 0,.int .i64 0]):=by
  show Blk _ _ _
  subst hW
  have:=Blk.new (w.alloc (.cells #[.int .i64 z,.int .i64 x,.int .i64 y,.int .i64 wd,.int .i64 ht,.int .i64 now,.int .i64 s,.slice (some ⟨b,0,none⟩) n cap,.slice (some ad) rn rc,.int .i64 bad] 38)) [.int .i64 0,.bool false,.slice none 0 0,.int .i64 0,.int .i64 0,.int .i64 0,.int .i64 0,.int .i64 0,.int .i64 0,.int .i64 0,.slice none 0 0,.slice none 0 0,.int .i64 0] 40
  simpa using this
 have hsz:w.heap.size+1<W.heap.size:=by subst hW;simp
 clear hW
 have HF:=(show Hid _ from zFg _ z x y wd ht now s b n cap A (some ad) rn rc E bad W HVw.out (HA.out.below HB0.out) HS.out (HR.out.below HB0.out) hrn)
 rw [HVC.out] at HF
 refine Calls.mono HF.out ?_
 rintro e w1 ⟨rfl,hb1⟩
 have HB1:Hid (Bw w w1):=zA HB0.out hb1
 have HV1:Hid (Blk w1 w.heap.size [.int .i64 z,.int .i64 x,.int .i64 y,.int .i64 wd,.int .i64 ht,.int .i64 now,.int .i64 s,.slice (some ⟨b,0,none⟩) n cap,.slice (some ad) rn rc,.int .i64 bad]):=HVw.out.below (by omega) hb1
 have HR1:Hid (Blk w1 (w.heap.size+1) [.int .i64 0,.bool false,.slice none 0 0,.int .i64 0,.int .i64 0,.int .i64 0,.int .i64 0,.int .i64 0,.int .i64 0,.int .i64 0,.slice none 0 0,.slice none 0 0,.int .i64 0]):=HRs.out.below hsz hb1
 have hs1:W.heap.size≤w1.heap.size:=hb1.size
 clear hb1 HF HRs HB0 HVw HVC
 by_cases h0:VC=0
 case neg =>
  have HE:Hid (V=vaZ VC):=by show _=_;rw [← HV.out,if_neg h0]
  have hcb:(VC == 0)=false:=by simpa using h0
  have hcb2:(VC != 0)=true:=by simpa using h0
  have HBd:Hid (∀ (W:World),Calls Tryz.prog 28 #[.int .i64 VC] W fun e w'=>e=.returned (vaV (vaZ VC) vmZ)∧Bw W w'):=fun W=>zE3 VC W
  clear HOK h0 HV HCm HCB
  go_wp2_with fail
  refine Calls.mono (HBd.out _) ?_
  rintro e w2 ⟨rfl,hb2⟩
  have HB2:Hid (Bw w1 w2):=hb2
  have HR2:Hid (Blk w2 (w.heap.size+1) [.int .i64 0,.bool false,.slice none 0 0,.int .i64 0,.int .i64 0,.int .i64 0,.int .i64 0,.int .i64 0,.int .i64 0,.int .i64 0,.slice none 0 0,.slice none 0 0,.int .i64 0]):=HR1.out.below (by omega) hb2
  have hR':=HR2.out
  obtain ⟨t0,t1,t2,t3,t4,t5,t6,t7,t8,t9,t10,t11,t12⟩:=Blk.c13 (hR')
  obtain ⟨f0,f1,f2,f3,f4,f5,f6,f7,f8,f9,f10,f11,f12⟩:=Blk.f13 (hR')
  have hs2:=hb2.size
  clear hR' hb2
  go_wp2_with fail
  generalize hwF:(World.setCell _ _ _:World)=wF
  have HBk:Hid (Blk wF (w.heap.size+1) (vaL (vaZ VC) vmZ)):=by show Blk _ _ _;subst hwF;exact (((((((((((((HR2.out.set 0 _).set 1 _).set 2 _).set 3 _).set 4 _).set 5 _).set 6 _).set 7 _).set 8 _).set 9 _).set 10 _).set 11 _).set 12 _)
  have HMM:Hid (zK (w.heap.size+1) (w.heap.size+2) w2 wF):=by show zK _ _ _ _;subst hwF;exact ((((((((((((((zK.refl _ _ _).set (Nat.le_refl _) (Nat.lt_succ_self _) _ _).set (Nat.le_refl _) (Nat.lt_succ_self _) _ _).set (Nat.le_refl _) (Nat.lt_succ_self _) _ _).set (Nat.le_refl _) (Nat.lt_succ_self _) _ _).set (Nat.le_refl _) (Nat.lt_succ_self _) _ _).set (Nat.le_refl _) (Nat.lt_succ_self _) _ _).set (Nat.le_refl _) (Nat.lt_succ_self _) _ _).set (Nat.le_refl _) (Nat.lt_succ_self _) _ _).set (Nat.le_refl _) (Nat.lt_succ_self _) _ _).set (Nat.le_refl _) (Nat.lt_succ_self _) _ _).set (Nat.le_refl _) (Nat.lt_succ_self _) _ _).set (Nat.le_refl _) (Nat.lt_succ_self _) _ _).set (Nat.le_refl _) (Nat.lt_succ_self _) _ _)
  clear hwF
  refine bodyPost_ret (zD4 (v:=vaZ VC) (u:=vmZ) rfl HBk.out) rfl ⟨vmZ,by rw [HE.out],?_,(zA HB1.out HB2.out).trans ((HMM.out.below (by omega)).mono (by omega))⟩
  rw [HE.out]
  exact zEs.zero _ _
 subst h0
 obtain ⟨hall,hn10,hrq⟩:=HOK.out rfl
 have hn8:=zBh hrq
 have HE:Hid (V=zKs c z' x' y' wd' ht' now s n A rn E bad):=by show _=_;rw [← HV.out,if_pos rfl]
 have HMo:Hid (∀ U,Bw w1 U→Calls Tryz.prog 29 #[vwV z x y wd ht now s (.slice (some ⟨b,0,none⟩) n cap) (.slice (some ad) rn rc) bad,crV c z' x' y' wd' ht'] U fun e w'=>∃ u,e=.returned (vaV V u)∧(∀ W,zK 0 U.heap.size w' W→zEs W V u)∧Bw U w'):=fun U hU=>by
  have hB:=zA HB1.out hU
  have:=zHc z x y wd ht now s b n cap A ad rn rc E bad c z' x' y' wd' ht' U (HA.out.below hB) (fun i hi=>zLu (HA.out.below hB) HS.out hi (vW (hall i hi)).1) hall hn10 (HR.out.below hB) hn8 hrq HCB.out
  rw [HE.out]
  exact this
 have hv1:=HV1.out
 obtain ⟨l0,l1,l2,l3,l4,l5,l6,l7,l8,l9⟩:=Blk.g10 (b:=w1.heap.size) (v:=w1) fun W' h=>(hv1.below (by omega) h)
 have hcb:((0:Int) == 0)=true:=rfl
 have hcb2:((0:Int) != 0)=false:=rfl
 clear HOK HV HCB hall hrq hv1 HE HA HS HR
 go_wp2_with fail
 refine wp_region_noPanic ?_
 refine yS (S:=fun W'=>Bw w1 W') (z:=7) (by kernel_rfl) ?_
 have hX0a:Bw w1 w1.drew:=Below.drew (Below.refl _ _)
 refine yH (i:=0) [7] rfl hX0a ?_
 try simp only [Act.put,Qx,Qy,Qz]
 refine yH (i:=1) [7] rfl hX0a ?_
 try simp only [Act.put,Qx,Qy,Qz]
 refine yH (i:=2) [7] rfl hX0a ?_
 try simp only [Act.put,Qx,Qy,Qz]
 refine yH (i:=3) [7] rfl hX0a ?_
 try simp only [Act.put,Qx,Qy,Qz]
 refine yH (i:=4) [7] rfl hX0a ?_
 try simp only [Act.put,Qx,Qy,Qz]
 generalize w1.drew=wk0a at *
 refine zH (i:=5) (by kernel_rfl) rfl (fun K hK=>?_)
 go_simp
 refine Calls.mono (HCm.out _) ?_
 rintro e wk1a ⟨rfl,hb1a⟩
 have hX1a:Bw w1 wk1a:=zA hX0a hb1a
 go_wp2_with fail
 refine hK.out _ _ (fun _=>hX1a) ?_
 clear hK K
 try simp only [Act.put,Qx,Qy,Qz]
 refine zH (i:=6) (by kernel_rfl) rfl (fun K hK=>?_)
 go_simp
 refine Calls.mono (HMo.out _ (hX1a)) ?_
 rintro e wk2a ⟨u,rfl,hI6,hb2a⟩
 have hX2a:Bw w1 wk2a:=zA hX1a hb2a
 have HI6:=(show Hid _ from hI6)
 have HR6:Hid (Blk wk2a (w.heap.size+1) [.int .i64 0,.bool false,.slice none 0 0,.int .i64 0,.int .i64 0,.int .i64 0,.int .i64 0,.int .i64 0,.int .i64 0,.int .i64 0,.slice none 0 0,.slice none 0 0,.int .i64 0]):=HR1.out.below (by omega) hX2a
 have hr6:=HR6.out
 obtain ⟨t0,t1,t2,t3,t4,t5,t6,t7,t8,t9,t10,t11,t12⟩:=Blk.c13 hr6
 obtain ⟨f0,f1,f2,f3,f4,f5,f6,f7,f8,f9,f10,f11,f12⟩:=Blk.f13 hr6
 have HX6:Hid (Bw w1 wk2a):=hX2a
 clear hI6 hr6
 go_wp2_with fail
 refine hK.out _ _ (fun _=>hX2a) ?_
 clear hK K
 try simp only [Act.put,Qx,Qy,Qz]
 refine zH (i:=7) (by kernel_rfl) rfl (fun K hK=>?_)
 go_simp
 refine hK.out _ _ (fun h=>absurd rfl h) ?_
 clear hK K
 try simp only [Act.put,Qx,Qy,Qz]
 refine yA (by kernel_rfl) ?_ _
 refine NoPanic.normal ?_
 have hs2:=hX1a.size
 have hs6:=HX6.out.size
 clear l0 l1 l2 l3 l4 l5 l6 l7 l8 l9
 go_wp2_with fail
 generalize hwF:(World.setCell _ _ _:World)=wF
 have HBk:Hid (Blk wF (w.heap.size+1) (vaL V u)):=by show Blk _ _ _;subst hwF;exact (((((((((((((HR6.out.set 0 _).set 1 _).set 2 _).set 3 _).set 4 _).set 5 _).set 6 _).set 7 _).set 8 _).set 9 _).set 10 _).set 11 _).set 12 _)
 have HMM:Hid (zK (w.heap.size+1) (w.heap.size+2) wk2a wF):=by show zK _ _ _ _;subst hwF;exact ((((((((((((((zK.refl _ _ _).set (Nat.le_refl _) (Nat.lt_succ_self _) _ _).set (Nat.le_refl _) (Nat.lt_succ_self _) _ _).set (Nat.le_refl _) (Nat.lt_succ_self _) _ _).set (Nat.le_refl _) (Nat.lt_succ_self _) _ _).set (Nat.le_refl _) (Nat.lt_succ_self _) _ _).set (Nat.le_refl _) (Nat.lt_succ_self _) _ _).set (Nat.le_refl _) (Nat.lt_succ_self _) _ _).set (Nat.le_refl _) (Nat.lt_succ_self _) _ _).set (Nat.le_refl _) (Nat.lt_succ_self _) _ _).set (Nat.le_refl _) (Nat.lt_succ_self _) _ _).set (Nat.le_refl _) (Nat.lt_succ_self _) _ _).set (Nat.le_refl _) (Nat.lt_succ_self _) _ _).set (Nat.le_refl _) (Nat.lt_succ_self _) _ _)
 clear hwF
 exact bodyPost_ret (zD4 (v:=V) (u:=u) rfl HBk.out) rfl ⟨u,rfl,HI6.out wF ⟨HMM.out.os,HMM.out.tape,HMM.out.output,HMM.out.size,fun j h1 h2=>HMM.out.block j h1 (.inr (by omega))⟩,(HB1.out.trans (HX6.out.mono (by omega))).trans ((HMM.out.below (by omega)).mono (by omega))⟩
theorem zCs {T:Array Value}{Wf:World}{r:Nat}{v:Va}{u:Vm}(hT:T[6]?.getD undef=.pointer (some ⟨r,0,none⟩))(h:Blk Wf r (vaL v u)) :
  (results Tryz.f18 T).run Tryz.prog Wf=.ok (vaV v u) Wf:=by
 obtain ⟨h0,h1,h2,h3,h4,h5,h6,h7,h8,h9,h10,h11,h12⟩:=Blk.c13 h
 simp [results,Tryz.results18,go_sem,hT,h0,h1,h2,h3,h4,h5,h6,h7,h8,h9,h10,h11,h12]
theorem zC6 (z x y wd ht now s:Int)(b n cap:Nat)(A:Nat→Kp)(ad:Addr)(rn rc:Nat)(E:Nat→Req)(bad dx dy:Int)(w:World)(ha:zCx w b n A)(hs:zI n A)(hr:xL w (some ad) rn E)(hrn:rn≤1048576) :
  Calls Tryz.prog 18 #[vwV z x y wd ht now s (.slice (some ⟨b,0,none⟩) n cap) (.slice (some ad) rn rc) bad,.int .i64 dx,.int .i64 dy] w fun e w'=>∃ u,e=.returned (vaV (zCw (zFv z x y wd ht dx dy) (viewC z x y wd ht now s n A rn E bad) now s n A rn E bad) u)∧zEs w' (zCw (zFv z x y wd ht dx dy) (viewC z x y wd ht now s n A rn E bad) now s n A rn E bad) u∧Bw w w':=by
 obtain ⟨VC,hVC⟩:∃ VC,viewC z x y wd ht now s n A rn E bad=VC:=⟨_,rfl⟩
 have HVC:Hid (viewC z x y wd ht now s n A rn E bad=VC):=hVC
 have HA:Hid (zCx w b n A):=ha
 have HS:Hid (zI n A):=hs
 have HR:Hid (xL w (some ad) rn E):=hr
 have HOK:Hid (VC=0→(∀ j,j<n→kC A j=0)∧n≤10∧zO rn E=0):=fun h=>by
  obtain ⟨_,h2,h3,h4,_⟩:=zAm (hVC.trans h)
  exact ⟨vL h2,(uC h2).1,h3⟩
 have HCr:=(show Hid _ from zS3.size z x y wd ht dx dy)
 have HCm:Hid (∀ W,Calls Tryz.prog 48 #[zCn z x y wd ht,.int .i64 dx,.int .i64 dy] W fun e w'=>e=.returned (zFv z x y wd ht dx dy)∧Bw W w'):=fun W=>zC7 z x y wd ht dx dy W
 rw [hVC]
 obtain ⟨V,hV⟩:∃ V,(zCw (zFv z x y wd ht dx dy) VC now s n A rn E bad)=V:=⟨_,rfl⟩
 have HV:Hid ((zCw (zFv z x y wd ht dx dy) VC now s n A rn E bad)=V):=hV
 rw [hV]
 clear hV
 generalize (zFv z x y wd ht dx dy)=cv at *
 obtain ⟨c,z',x',y',wd',ht',hcv⟩:∃ c z' x' y' wd' ht',c=crK cv 0∧z'=crK cv 1∧x'=crK cv 2∧y'=crK cv 3∧wd'=crK cv 4∧ht'=crK cv 5:=⟨_,_,_,_,_,_,rfl,rfl,rfl,rfl,rfl,rfl⟩
 unfold zCw at HV
 obtain ⟨e0,e1,e2,e3,e4,e5⟩:=hcv
 rw [← e0,← e1,← e2,← e3,← e4,← e5] at HV HCr
 clear e0 e1 e2 e3 e4 e5
 obtain ⟨hcr,hcb⟩:=HCr.out
 subst hcr
 have HCB:Hid (c=0→zAi z' x' y' wd' ht'=true):=hcb
 clear ha hs hr hVC hcb HCr
 go_enter Tryz.func18,Tryz.ntmps18
 go_wp2_with fail
 generalize hW:((w.alloc _).alloc _:World)=W
 have HB0:Hid (Bw w W):=by show Below _ _ _;subst hW;exact Qb
 have HVw:Hid (Blk W w.heap.size [.int .i64 z,.int .i64 x,.int .i64 y,.int .i64 wd,.int .i64 ht,.int .i64 now,.int .i64 s,.slice (some ⟨b,0,none⟩) n cap,.slice (some ad) rn rc,.int .i64 bad]):=by show Blk _ _ _;subst hW;exact (Blk.new w _ _).alloc (by simp) _
 have HRs:Hid (Blk W (w.heap.size+1) [.int .i64 0,.bool false,.slice none 0 0,.int .i64 0,.int .i64 0,.int .i64 0,.int .i64 0,.int .i64 0,.int .i64 0,.int .i64 0,.slice none 0 0,.slice none 0 0,.int .i64 0]):=by
  show Blk _ _ _
  subst hW
  have:=Blk.new (w.alloc (.cells #[.int .i64 z,.int .i64 x,.int .i64 y,.int .i64 wd,.int .i64 ht,.int .i64 now,.int .i64 s,.slice (some ⟨b,0,none⟩) n cap,.slice (some ad) rn rc,.int .i64 bad] 38)) [.int .i64 0,.bool false,.slice none 0 0,.int .i64 0,.int .i64 0,.int .i64 0,.int .i64 0,.int .i64 0,.int .i64 0,.int .i64 0,.slice none 0 0,.slice none 0 0,.int .i64 0] 40
  simpa using this
 have hsz:w.heap.size+1<W.heap.size:=by subst hW;simp
 clear hW
 have HF:=(show Hid _ from zFg _ z x y wd ht now s b n cap A (some ad) rn rc E bad W HVw.out (HA.out.below HB0.out) HS.out (HR.out.below HB0.out) hrn)
 rw [HVC.out] at HF
 refine Calls.mono HF.out ?_
 rintro e w1 ⟨rfl,hb1⟩
 have HB1:Hid (Bw w w1):=zA HB0.out hb1
 have HV1:Hid (Blk w1 w.heap.size [.int .i64 z,.int .i64 x,.int .i64 y,.int .i64 wd,.int .i64 ht,.int .i64 now,.int .i64 s,.slice (some ⟨b,0,none⟩) n cap,.slice (some ad) rn rc,.int .i64 bad]):=HVw.out.below (by omega) hb1
 have HR1:Hid (Blk w1 (w.heap.size+1) [.int .i64 0,.bool false,.slice none 0 0,.int .i64 0,.int .i64 0,.int .i64 0,.int .i64 0,.int .i64 0,.int .i64 0,.int .i64 0,.slice none 0 0,.slice none 0 0,.int .i64 0]):=HRs.out.below hsz hb1
 have hs1:W.heap.size≤w1.heap.size:=hb1.size
 clear hb1 HF HRs HB0 HVw HVC
 by_cases h0:VC=0
 case neg =>
  have HE:Hid (V=vaZ VC):=by show _=_;rw [← HV.out,if_neg h0]
  have hcb:(VC == 0)=false:=by simpa using h0
  have hcb2:(VC != 0)=true:=by simpa using h0
  have HBd:Hid (∀ (W:World),Calls Tryz.prog 28 #[.int .i64 VC] W fun e w'=>e=.returned (vaV (vaZ VC) vmZ)∧Bw W w'):=fun W=>zE3 VC W
  clear HOK h0 HV HCm HCB
  go_wp2_with fail
  refine Calls.mono (HBd.out _) ?_
  rintro e w2 ⟨rfl,hb2⟩
  have HB2:Hid (Bw w1 w2):=hb2
  have HR2:Hid (Blk w2 (w.heap.size+1) [.int .i64 0,.bool false,.slice none 0 0,.int .i64 0,.int .i64 0,.int .i64 0,.int .i64 0,.int .i64 0,.int .i64 0,.int .i64 0,.slice none 0 0,.slice none 0 0,.int .i64 0]):=HR1.out.below (by omega) hb2
  have hR':=HR2.out
  obtain ⟨t0,t1,t2,t3,t4,t5,t6,t7,t8,t9,t10,t11,t12⟩:=Blk.c13 (hR')
  obtain ⟨f0,f1,f2,f3,f4,f5,f6,f7,f8,f9,f10,f11,f12⟩:=Blk.f13 (hR')
  have hs2:=hb2.size
  clear hR' hb2
  go_wp2_with fail
  generalize hwF:(World.setCell _ _ _:World)=wF
  have HBk:Hid (Blk wF (w.heap.size+1) (vaL (vaZ VC) vmZ)):=by show Blk _ _ _;subst hwF;exact (((((((((((((HR2.out.set 0 _).set 1 _).set 2 _).set 3 _).set 4 _).set 5 _).set 6 _).set 7 _).set 8 _).set 9 _).set 10 _).set 11 _).set 12 _)
  have HMM:Hid (zK (w.heap.size+1) (w.heap.size+2) w2 wF):=by show zK _ _ _ _;subst hwF;exact ((((((((((((((zK.refl _ _ _).set (Nat.le_refl _) (Nat.lt_succ_self _) _ _).set (Nat.le_refl _) (Nat.lt_succ_self _) _ _).set (Nat.le_refl _) (Nat.lt_succ_self _) _ _).set (Nat.le_refl _) (Nat.lt_succ_self _) _ _).set (Nat.le_refl _) (Nat.lt_succ_self _) _ _).set (Nat.le_refl _) (Nat.lt_succ_self _) _ _).set (Nat.le_refl _) (Nat.lt_succ_self _) _ _).set (Nat.le_refl _) (Nat.lt_succ_self _) _ _).set (Nat.le_refl _) (Nat.lt_succ_self _) _ _).set (Nat.le_refl _) (Nat.lt_succ_self _) _ _).set (Nat.le_refl _) (Nat.lt_succ_self _) _ _).set (Nat.le_refl _) (Nat.lt_succ_self _) _ _).set (Nat.le_refl _) (Nat.lt_succ_self _) _ _)
  clear hwF
  refine bodyPost_ret (zCs (v:=vaZ VC) (u:=vmZ) rfl HBk.out) rfl ⟨vmZ,by rw [HE.out],?_,(zA HB1.out HB2.out).trans ((HMM.out.below (by omega)).mono (by omega))⟩
  rw [HE.out]
  exact zEs.zero _ _
 subst h0
 obtain ⟨hall,hn10,hrq⟩:=HOK.out rfl
 have hn8:=zBh hrq
 have HE:Hid (V=zKs c z' x' y' wd' ht' now s n A rn E bad):=by show _=_;rw [← HV.out,if_pos rfl]
 have HMo:Hid (∀ U,Bw w1 U→Calls Tryz.prog 29 #[vwV z x y wd ht now s (.slice (some ⟨b,0,none⟩) n cap) (.slice (some ad) rn rc) bad,crV c z' x' y' wd' ht'] U fun e w'=>∃ u,e=.returned (vaV V u)∧(∀ W,zK 0 U.heap.size w' W→zEs W V u)∧Bw U w'):=fun U hU=>by
  have hB:=zA HB1.out hU
  have:=zHc z x y wd ht now s b n cap A ad rn rc E bad c z' x' y' wd' ht' U (HA.out.below hB) (fun i hi=>zLu (HA.out.below hB) HS.out hi (vW (hall i hi)).1) hall hn10 (HR.out.below hB) hn8 hrq HCB.out
  rw [HE.out]
  exact this
 have hv1:=HV1.out
 obtain ⟨l0,l1,l2,l3,l4,l5,l6,l7,l8,l9⟩:=Blk.g10 (b:=w1.heap.size) (v:=w1) fun W' h=>(hv1.below (by omega) h)
 have hcb:((0:Int) == 0)=true:=rfl
 have hcb2:((0:Int) != 0)=false:=rfl
 clear HOK HV HCB hall hrq hv1 HE HA HS HR
 go_wp2_with fail
 refine wp_region_noPanic ?_
 refine yS (S:=fun W'=>Bw w1 W') (z:=7) (by kernel_rfl) ?_
 have hX0a:Bw w1 w1.drew:=Below.drew (Below.refl _ _)
 refine yH (i:=0) [7] rfl hX0a ?_
 try simp only [Act.put,Qx,Qy,Qz]
 refine yH (i:=1) [7] rfl hX0a ?_
 try simp only [Act.put,Qx,Qy,Qz]
 refine yH (i:=2) [7] rfl hX0a ?_
 try simp only [Act.put,Qx,Qy,Qz]
 refine yH (i:=3) [7] rfl hX0a ?_
 try simp only [Act.put,Qx,Qy,Qz]
 refine yH (i:=4) [7] rfl hX0a ?_
 try simp only [Act.put,Qx,Qy,Qz]
 generalize w1.drew=wk0a at *
 refine zH (i:=5) (by kernel_rfl) rfl (fun K hK=>?_)
 go_simp
 refine Calls.mono (HCm.out _) ?_
 rintro e wk1a ⟨rfl,hb1a⟩
 have hX1a:Bw w1 wk1a:=zA hX0a hb1a
 go_wp2_with fail
 refine hK.out _ _ (fun _=>hX1a) ?_
 clear hK K
 try simp only [Act.put,Qx,Qy,Qz]
 refine zH (i:=6) (by kernel_rfl) rfl (fun K hK=>?_)
 go_simp
 refine Calls.mono (HMo.out _ (hX1a)) ?_
 rintro e wk2a ⟨u,rfl,hI6,hb2a⟩
 have hX2a:Bw w1 wk2a:=zA hX1a hb2a
 have HI6:=(show Hid _ from hI6)
 have HR6:Hid (Blk wk2a (w.heap.size+1) [.int .i64 0,.bool false,.slice none 0 0,.int .i64 0,.int .i64 0,.int .i64 0,.int .i64 0,.int .i64 0,.int .i64 0,.int .i64 0,.slice none 0 0,.slice none 0 0,.int .i64 0]):=HR1.out.below (by omega) hX2a
 have hr6:=HR6.out
 obtain ⟨t0,t1,t2,t3,t4,t5,t6,t7,t8,t9,t10,t11,t12⟩:=Blk.c13 hr6
 obtain ⟨f0,f1,f2,f3,f4,f5,f6,f7,f8,f9,f10,f11,f12⟩:=Blk.f13 hr6
 have HX6:Hid (Bw w1 wk2a):=hX2a
 clear hI6 hr6
 go_wp2_with fail
 refine hK.out _ _ (fun _=>hX2a) ?_
 clear hK K
 try simp only [Act.put,Qx,Qy,Qz]
 refine zH (i:=7) (by kernel_rfl) rfl (fun K hK=>?_)
 go_simp
 refine hK.out _ _ (fun h=>absurd rfl h) ?_
 clear hK K
 try simp only [Act.put,Qx,Qy,Qz]
 refine yA (by kernel_rfl) ?_ _
 refine NoPanic.normal ?_
 have hs2:=hX1a.size
 have hs6:=HX6.out.size
 clear l0 l1 l2 l3 l4 l5 l6 l7 l8 l9
 go_wp2_with fail
 generalize hwF:(World.setCell _ _ _:World)=wF
 have HBk:Hid (Blk wF (w.heap.size+1) (vaL V u)):=by show Blk _ _ _;subst hwF;exact (((((((((((((HR6.out.set 0 _).set 1 _).set 2 _).set 3 _).set 4 _).set 5 _).set 6 _).set 7 _).set 8 _).set 9 _).set 10 _).set 11 _).set 12 _)
 have HMM:Hid (zK (w.heap.size+1) (w.heap.size+2) wk2a wF):=by show zK _ _ _ _;subst hwF;exact ((((((((((((((zK.refl _ _ _).set (Nat.le_refl _) (Nat.lt_succ_self _) _ _).set (Nat.le_refl _) (Nat.lt_succ_self _) _ _).set (Nat.le_refl _) (Nat.lt_succ_self _) _ _).set (Nat.le_refl _) (Nat.lt_succ_self _) _ _).set (Nat.le_refl _) (Nat.lt_succ_self _) _ _).set (Nat.le_refl _) (Nat.lt_succ_self _) _ _).set (Nat.le_refl _) (Nat.lt_succ_self _) _ _).set (Nat.le_refl _) (Nat.lt_succ_self _) _ _).set (Nat.le_refl _) (Nat.lt_succ_self _) _ _).set (Nat.le_refl _) (Nat.lt_succ_self _) _ _).set (Nat.le_refl _) (Nat.lt_succ_self _) _ _).set (Nat.le_refl _) (Nat.lt_succ_self _) _ _).set (Nat.le_refl _) (Nat.lt_succ_self _) _ _)
 clear hwF
 exact bodyPost_ret (zCs (v:=V) (u:=u) rfl HBk.out) rfl ⟨u,rfl,HI6.out wF ⟨HMM.out.os,HMM.out.tape,HMM.out.output,HMM.out.size,fun j h1 h2=>HMM.out.block j h1 (.inr (by omega))⟩,(HB1.out.trans (HX6.out.mono (by omega))).trans ((HMM.out.below (by omega)).mono (by omega))⟩
end Go.Proofs.YtkjbafcalamgnaaGreat
