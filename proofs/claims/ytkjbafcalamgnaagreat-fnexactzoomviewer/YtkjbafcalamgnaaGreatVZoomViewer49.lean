/- Texts. -/
import Derived.Test.YtkjbafcalamgnaaGreatVZoomViewer46
set_option linter.unusedSimpArgs false
set_option linter.unusedVariables false
set_option maxRecDepth 100000
set_option maxHeartbeats 32000000
namespace Go.Proofs.YtkjbafcalamgnaaGreat
open Go.RowKit
def zVz (z x y wd ht now s:Int)(n:Nat)(K:Nat→Kp)(Q:List Req)(bad:Int):Va :=
 ⟨0,false,(stS n (zB1 z x y wd) K now Q (uT z x y wd ht)).length,vD (stS n (zB1 z x y wd) K now Q (uT z x y wd ht)),z,x,y,wd,ht,now,s,n,stK n (zB1 z x y wd) K (uT z x y wd ht),(stQ n (zB1 z x y wd) K now Q (uT z x y wd ht)).length,nw (stQ n (zB1 z x y wd) K now Q (uT z x y wd ht)),bad⟩
def zKy (c z x y wd ht now s:Int)(n:Nat)(K:Nat→Kp)(rn:Nat)(E:Nat→Req)(bad:Int):Va :=
 if c=0 then zVz z x y wd ht now s n K (zBk rn E z x y wd ht) bad else vaZ c
theorem zQb (P:Kp→Prop)(n:Nat)(R:Rfs)(K:Nat→Kp)(h:∀ i,i<n→P (K i)):∀ k i,i<n→P (stK n R K k i)
 | 0,i,hi=>h i hi
 | k+1,i,hi=>by
  have ih:=zQb P n R K h k
  unfold stK
  split
  ·rename_i h0
   exact ih _ (zEy h0 i hi)
  ·exact ih i hi
theorem LkT.cam {w w':World}{T B p:Nat}{z x y wd ht z' x' y' wd' ht' now s t:Int}{L:List Ag}{rv:Value}{bad:Int}{sv pv:Value}(h:LkT w T B p z x y wd ht now s t L rv bad sv)(hBu:∀ q,q<T→q≠p→w'.heap[q]?=w.heap[q]?)(hsz:w.heap.size≤w'.heap.size)(hp:w.cell? ⟨p,6,none⟩=some pv)(hV:Blk w' p (lkL z' x' y' wd' ht' now pv rv bad sv)):LkT w' T B p z' x' y' wd' ht' now s t L rv bad sv:=by
 obtain ⟨sp,mb,h1,h2,h3,h4,h5,h6,h7,h8⟩:=h
 have e:pv=.pointer (some ⟨sp,0,none⟩):=by
  have:=h5.cell 6 rfl
  rw [hp] at this
  injection this
 subst e
 exact ⟨sp,mb,h1,h2,h3,Nat.le_trans h4 hsz,hV,h6.but (hBu sp h2.2 h7) (hBu mb h3.2 h8),h7,h8⟩
theorem LkT.wide {w:World}{T T' B p:Nat}{z x y wd ht now s t:Int}{L:List Ag}{rv:Value}{bad:Int}{sv:Value}(h:LkT w T B p z x y wd ht now s t L rv bad sv)(h1:T≤T')(h2:T'≤w.heap.size):LkT w T' B p z x y wd ht now s t L rv bad sv:=by
 obtain ⟨sp,mb,⟨a1,a2⟩,⟨a3,a4⟩,⟨a5,a6⟩,_,h5⟩:=h
 exact ⟨sp,mb,⟨a1,by omega⟩,⟨a3,by omega⟩,⟨a5,by omega⟩,h2,h5⟩
theorem zRw (w:World)(p:Nat)(a b c d e:Value)(q:Nat)(h:q≠p):(((((w.setCell ⟨p,0,none⟩ a).setCell ⟨p,1,none⟩ b).setCell ⟨p,2,none⟩ c).setCell ⟨p,3,none⟩ d).setCell ⟨p,4,none⟩ e).heap[q]?=w.heap[q]?:=by
 have k:∀ (w:World) (i:Nat) (v:Value),(w.setCell ⟨p,i,none⟩ v).heap[q]?=w.heap[q]?:=fun w i v=>Below.heap_setCell w ⟨p,i,none⟩ v q (fun e=>h (by simpa using e))
 rw [k,k,k,k,k]
theorem zQk {T:Array Value}{Wf:World}{r:Nat}{v:Va}{u:Vm}(hT:T[4]?.getD undef=.pointer (some ⟨r,0,none⟩))(h:Blk Wf r (vaL v u)) :
  (results Tryz.f35 T).run Tryz.prog Wf=.ok (vaV v u) Wf:=by
 obtain ⟨h0,h1,h2,h3,h4,h5,h6,h7,h8,h9,h10,h11,h12⟩:=Blk.c13 h
 simp [results,Tryz.results35,go_sem,hT,h0,h1,h2,h3,h4,h5,h6,h7,h8,h9,h10,h11,h12]
theorem zMt (T B p:Nat)(z x y wd ht now s t0:Int)(n:Nat)(A:Nat→Kp)(T0:Nat→Int)(ra:Option Addr)(rn rc:Nat)(E:Nat→Req)(bad c z' x' y' wd' ht':Int)(w:World)(hV:LkT w T B p z x y wd ht now s t0 (LT n A T0) (.slice ra rn rc) bad (.slice none 0 0))(hr:∀ W,Below B w W→xO W ra rn E)(hrn:rn≤8)(hrc:rn≤rc)(hc:c=0→zAi z' x' y' wd' ht'=true)(hT:∀ i,i<n→T0 i≤t0)(htt:0≤t0∧t0≤100)(hn:n≤10)(hns:(n:Int)≤s)(hsrc:∀ W,Below B w W→∀ i,i<n→zGt W (A i)) :
  Calls Tryz.prog 35 #[.pointer (some ⟨p,0,none⟩),crV c z' x' y' wd' ht'] w fun e w'=>∃ u,e=.returned (vaV (zKy c z' x' y' wd' ht' now s n A rn E bad) u)∧zAk T w'.heap.size w' (zKy c z' x' y' wd' ht' now s n A rn E bad) u∧Below B w w':=by
 obtain ⟨V,hVe⟩:∃ V,zKy c z' x' y' wd' ht' now s n A rn E bad=V:=⟨_,rfl⟩
 have HV:Hid (zKy c z' x' y' wd' ht' now s n A rn E bad=V):=hVe
 rw [hVe]
 have HLk:Hid (LkT w T B p z x y wd ht now s t0 (LT n A T0) (.slice ra rn rc) bad (.slice none 0 0)):=hV
 have HR:Hid (∀ W,Below B w W→xO W ra rn E):=hr
 have HSr:Hid (∀ W,Below B w W→∀ i,i<n→zGt W (A i)):=hsrc
 have HT0:Hid (∀ i,i<n→T0 i≤t0):=hT
 obtain ⟨sp,mb,⟨hBp,hpT⟩,_,_,hTw,_,_,_,_⟩:=hV
 clear hr hsrc hT hVe
 go_enter Tryz.func35,Tryz.ntmps35
 by_cases h0:c=0
 case neg =>
  have HE:Hid (V=vaZ c):=by show _=_;rw [← HV.out];unfold zKy;rw [if_neg h0]
  have hcb:(c != 0)=true:=by simpa using h0
  clear HV HLk HR HSr HT0 hc
  go_wp2_with fail
  generalize hwF:(World.alloc (World.alloc _ _) _:World)=wF
  have HBk:Hid (Blk wF (w.heap.size+1) (vaL (vaZ c) vmZ)):=by
   show Blk _ _ _
   subst hwF
   have:=Blk.new (w.alloc (.cells #[.int .i64 c,.int .i64 z',.int .i64 x',.int .i64 y',.int .i64 wd',.int .i64 ht'] 68)) (vaL (vaZ c) vmZ) 40
   simpa [vaL,vaZ,vmZ] using this
  have HB:Hid (Bw w wF):=by show Below _ _ _;subst hwF;exact Qb
  clear hwF
  refine bodyPost_ret (zQk (v:=vaZ c) (u:=vmZ) rfl HBk.out) rfl ⟨vmZ,by rw [HE.out],?_,HB.out.mono (by omega)⟩
  rw [HE.out]
  exact zAk.zero _ _ _ _ (by have:=HB.out.size;omega) (Nat.le_refl _)
 subst h0
 have hcb:((0:Int) != 0)=false:=rfl
 obtain ⟨sp1,mb1,_,_,_,_,hbk1,_,_,_⟩:=HLk.out
 have hpl:p<w.heap.size:=by omega
 obtain ⟨l0,l1,l2,l3,l4,l5,l6,l7,l8,l9⟩:=Blk.c10 hbk1
 obtain ⟨g0,g1,g2,g3,g4,g5,g6,g7,g8,g9⟩:=Blk.f10 hbk1
 have HBk0:Hid (Blk w p (lkL z x y wd ht now (.pointer (some ⟨sp1,0,none⟩)) (.slice ra rn rc) bad (.slice none 0 0))):=hbk1
 clear hbk1
 go_wp2_with fail
 generalize hS:(World.setCell (World.setCell (World.setCell (World.setCell (World.setCell w _ _) _ _) _ _) _ _) _ _:World)=S5
 have hz5:S5.heap.size=w.heap.size:=by subst hS;simp
 have HbS:Hid (Blk S5 p (lkL z' x' y' wd' ht' now (.pointer (some ⟨sp1,0,none⟩)) (.slice ra rn rc) bad (.slice none 0 0))):=by show Blk _ _ _;subst hS;exact ((((HBk0.out.set 0 _).set 1 _).set 2 _).set 3 _).set 4 _
 have HoS:Hid (∀ q,q≠p→S5.heap[q]?=w.heap[q]?):=by show ∀ q,_;subst hS;exact zRw _ _ _ _ _ _ _
 have HBS:Hid (Below B w S5):=by show Below _ _ _;subst hS;exact (((((Below.refl B w).setCell hBp _).setCell hBp _).setCell hBp _).setCell hBp _).setCell hBp _
 clear hS
 have HL5:Hid (LkT S5 T B p z' x' y' wd' ht' now s t0 (LT n A T0) (.slice ra rn rc) bad (.slice none 0 0)):=HLk.out.cam (fun q _ h=>HoS.out q h) (by omega) l6 HbS.out
 generalize hW:(World.alloc (World.alloc S5 _) _:World)=W
 have HBW:Hid (Bw S5 W):=by show Below _ _ _;subst hW;exact Qb
 have hzW:W.heap.size=w.heap.size+2:=by subst hW;simp;omega
 have HRs:Hid (Blk W (w.heap.size+1) [.int .i64 0,.bool false,.slice none 0 0,.int .i64 0,.int .i64 0,.int .i64 0,.int .i64 0,.int .i64 0,.int .i64 0,.int .i64 0,.slice none 0 0,.slice none 0 0,.int .i64 0]):=by
  show Blk _ _ _
  subst hW
  have:=Blk.new (S5.alloc (.cells #[.int .i64 0,.int .i64 z',.int .i64 x',.int .i64 y',.int .i64 wd',.int .i64 ht'] 68)) [.int .i64 0,.bool false,.slice none 0 0,.int .i64 0,.int .i64 0,.int .i64 0,.int .i64 0,.int .i64 0,.int .i64 0,.int .i64 0,.slice none 0 0,.slice none 0 0,.int .i64 0] 40
  simpa [hz5] using this
 clear hW
 have HLW:Hid (LkT W T B p z' x' y' wd' ht' now s t0 (LT n A T0) (.slice ra rn rc) bad (.slice none 0 0)):=HL5.out.below (HBW.out.mono (by omega))
 have HBw:Hid (Below B w W):=HBS.out.trans (HBW.out.mono (by omega))
 have HAsk:=(show Hid _ from ask_any T B p z' x' y' wd' ht' now s t0 n A T0 ra rn rc E bad W HLW.out (HR.out W HBw.out) hrn hrc (by simpa using hc) HT0.out htt hn hns)
 have HE:Hid (V=zVz z' x' y' wd' ht' now s n A (zBk rn E z' x' y' wd' ht') bad):=HV.out.symm.trans (if_pos rfl)
 have hq8:(zBk rn E z' x' y' wd' ht').length≤8:=by
  unfold zBk
  split
  ·exact Nat.le_trans (zBo _ _ _) hrn
  ·exact Nat.zero_le _
 have hm4:uT z' x' y' wd' ht'≤4:=zC1 _ _ _ _ _
 have HSL:=(show Hid _ from zC6 n (zB1 z' x' y' wd') A now (zBk rn E z' x' y' wd' ht') (uT z' x' y' wd' ht'))
 have HSK:Hid (∀ W',Below B w W'→∀ i,i<n→zGt W' (stK n (zB1 z' x' y' wd') A (uT z' x' y' wd' ht') i)):=fun W' h=>zQb _ n _ A (HSr.out W' h) _
 have HLX:Hid (∀ TT:Nat→Int,∀ i a,(LT n (stK n (zB1 z' x' y' wd') A (uT z' x' y' wd' ht')) TT)[i]?=some a→∃ t,a=agK (stK n (zB1 z' x' y' wd') A (uT z' x' y' wd' ht') i) t):=fun TT=>LT_at
 unfold zVz at HE
 clear HV HLk HR HSr HT0 HBk0 HbS HoS HBS HL5 HBW HLW l0 l1 l2 l3 l4 l5 l6 l7 l8 l9 g0 g1 g2 g3 g4 g5 g6 g7 g8 g9
 refine Calls.mono HAsk.out ?_
 rintro e w2 ⟨rfl,hI⟩
 obtain ⟨t,TT,rb,rcb,sv,hL2,hrow2,hq2,hTT,htt2,hB2,hM2⟩:=hI
 have HR2:Hid (Blk w2 (w.heap.size+1) [.int .i64 0,.bool false,.slice none 0 0,.int .i64 0,.int .i64 0,.int .i64 0,.int .i64 0,.int .i64 0,.int .i64 0,.int .i64 0,.slice none 0 0,.slice none 0 0,.int .i64 0]):=HRs.out.but (hM2 _ (by omega) (by omega))
 have HB2:Hid (Below B w w2):=HBw.out.trans hB2
 have hs2:W.heap.size≤w2.heap.size:=hB2.size
 have HTd:Hid (Calls Tryz.prog 76 #[.pointer (some ⟨p,0,none⟩)] w2 fun e w'=>∃ u,e=.returned (vaV V u)∧zAk W.heap.size w'.heap.size w' V u∧Bw w2 w'):=by
  have:=zV9 W.heap.size B p z' x' y' wd' ht' now s t _ _ rb _ rcb _ bad sv _ w2 (hL2.wide (by omega) hs2) hrow2 hq2.is hq2.1 (by have:=HSL.out.1;omega) (by rw [zFv];omega) (HLX.out TT) (fun i hi=>HSK.out w2 HB2.out i (by rw [zFv] at hi;exact hi))
  rw [zFv] at this
  rw [HE.out]
  exact this
 clear hL2 hrow2 hq2 hTT htt2 hB2 hM2 HAsk HRs HBw HSL HSK HLX HE
 have hr2:=HR2.out
 obtain ⟨t0,t1,t2,t3,t4,t5,t6,t7,t8,t9,t10,t11,t12⟩:=Blk.g13 (b:=w2.heap.size) (v:=w2) fun W' h=>(hr2.below (by omega) h)
 obtain ⟨f0,f1,f2,f3,f4,f5,f6,f7,f8,f9,f10,f11,f12⟩:=Blk.k13 (b:=w2.heap.size) (v:=w2) fun W' h=>(hr2.below (by omega) h)
 clear hr2
 go_wp2_with fail
 refine Calls.mono HTd.out ?_
 rintro e w6 ⟨u,rfl,hO6,hb6⟩
 have HO6:Hid (zAk W.heap.size w6.heap.size w6 V u):=hO6
 have HR6:Hid (Blk w6 (w.heap.size+1) [.int .i64 0,.bool false,.slice none 0 0,.int .i64 0,.int .i64 0,.int .i64 0,.int .i64 0,.int .i64 0,.int .i64 0,.int .i64 0,.slice none 0 0,.slice none 0 0,.int .i64 0]):=HR2.out.below (by omega) hb6
 have HBw6:Hid (Below B w w6):=HB2.out.trans (hb6.mono (by omega))
 have t0:=t0 w6 hb6
 have t1:=t1 w6 hb6
 have t2:=t2 w6 hb6
 have t3:=t3 w6 hb6
 have t4:=t4 w6 hb6
 have t5:=t5 w6 hb6
 have t6:=t6 w6 hb6
 have t7:=t7 w6 hb6
 have t8:=t8 w6 hb6
 have t9:=t9 w6 hb6
 have t10:=t10 w6 hb6
 have t11:=t11 w6 hb6
 have t12:=t12 w6 hb6
 have f0:=f0 w6 hb6
 have f1:=f1 w6 hb6
 have f2:=f2 w6 hb6
 have f3:=f3 w6 hb6
 have f4:=f4 w6 hb6
 have f5:=f5 w6 hb6
 have f6:=f6 w6 hb6
 have f7:=f7 w6 hb6
 have f8:=f8 w6 hb6
 have f9:=f9 w6 hb6
 have f10:=f10 w6 hb6
 have f11:=f11 w6 hb6
 have f12:=f12 w6 hb6
 have hs6:=hb6.size
 clear hO6 hb6 HTd
 go_wp2_with fail
 generalize hwF:(World.setCell _ _ _:World)=wF
 have HBk:Hid (Blk wF (w.heap.size+1) (vaL V u)):=by show Blk _ _ _;subst hwF;exact (((((((((((((HR6.out.set 0 _).set 1 _).set 2 _).set 3 _).set 4 _).set 5 _).set 6 _).set 7 _).set 8 _).set 9 _).set 10 _).set 11 _).set 12 _)
 have HMM:Hid (zK (w.heap.size+1) (w.heap.size+2) w6 wF):=by show zK _ _ _ _;subst hwF;exact ((((((((((((((zK.refl _ _ _).set (Nat.le_refl _) (Nat.lt_succ_self _) _ _).set (Nat.le_refl _) (Nat.lt_succ_self _) _ _).set (Nat.le_refl _) (Nat.lt_succ_self _) _ _).set (Nat.le_refl _) (Nat.lt_succ_self _) _ _).set (Nat.le_refl _) (Nat.lt_succ_self _) _ _).set (Nat.le_refl _) (Nat.lt_succ_self _) _ _).set (Nat.le_refl _) (Nat.lt_succ_self _) _ _).set (Nat.le_refl _) (Nat.lt_succ_self _) _ _).set (Nat.le_refl _) (Nat.lt_succ_self _) _ _).set (Nat.le_refl _) (Nat.lt_succ_self _) _ _).set (Nat.le_refl _) (Nat.lt_succ_self _) _ _).set (Nat.le_refl _) (Nat.lt_succ_self _) _ _).set (Nat.le_refl _) (Nat.lt_succ_self _) _ _)
 clear hwF
 exact bodyPost_ret (zQk (v:=V) (u:=u) rfl HBk.out) rfl ⟨u,rfl,((HO6.out.mid HMM.out (by omega)).lower (by omega)).upper HMM.out.size (Nat.le_refl _),HBw6.out.trans ((HMM.out.below (by omega)).mono (by omega))⟩
end Go.Proofs.YtkjbafcalamgnaaGreat
