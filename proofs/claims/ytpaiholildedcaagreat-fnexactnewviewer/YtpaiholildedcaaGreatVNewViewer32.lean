/- Texts. -/
import Derived.Test.YtpaiholildedcaaGreatVNewViewer31
set_option linter.unusedSimpArgs false
set_option linter.unusedVariables false
set_option maxRecDepth 100000
set_option maxHeartbeats 32000000
namespace Go.Proofs.YtpaiholildedcaaGreat
open Go.RowKit
theorem zIx (q B:Nat)(z x y wd ht now s:Int)(ka:Option Addr)(n kc:Nat)(A R0:Nat→Kp)(ra:Option Addr)(rn rc:Nat)(E:Nat→Req)(bad:Int)(w:World)(hV:Blk w q [.int .i64 z,.int .i64 x,.int .i64 y,.int .i64 wd,.int .i64 ht,.int .i64 now,.int .i64 s,.slice ka n kc,.slice ra rn rc,.int .i64 bad])(hqw:q<w.heap.size)(hBw:B≤w.heap.size+3)(hK:∀ W,GrQ B q none w W→CaF W ka n A R0)(h0:∀ j,j<n→kC A j=0)(hn:n≤10)(hr:xV w ra rn E)(hrn:rn≤8)(hc:zB0 z x y wd ht=true) :
  Calls Tryz.prog 33 #[.pointer (some ⟨q,0,none⟩)] w fun e w'=>∃ sv,e=.returned sv∧yA w.heap.size w' sv (stS n (vO z x y wd) A now (zS (fun j=>yI z x y wd ht (E j).z (E j).x (E j).y) E rn) (xJ z x y wd ht))∧∃ ka' kc' R' ra' rc',Blk w' q [.int .i64 z,.int .i64 x,.int .i64 y,.int .i64 wd,.int .i64 ht,.int .i64 now,.int .i64 s,.slice ka' n kc',.slice ra' (stQ n (vO z x y wd) A now (zS (fun j=>yI z x y wd ht (E j).z (E j).x (E j).y) E rn) (xJ z x y wd ht)).length rc',.int .i64 bad]∧(∀ W,GrQ B q sv.ownBlock w' W→CaF W ka' n (stK n (vO z x y wd) A (xJ z x y wd ht)) R')∧zX w.heap.size w' (.slice ra' (stQ n (vO z x y wd) A now (zS (fun j=>yI z x y wd ht (E j).z (E j).x (E j).y) E rn) (xJ z x y wd ht)).length rc') (stQ n (vO z x y wd) A now (zS (fun j=>yI z x y wd ht (E j).z (E j).x (E j).y) E rn) (xJ z x y wd ht))∧Below q w w'∧But q none w w':=by
 obtain ⟨Q0,hQ0⟩:∃ Q,(zS (fun j=>yI z x y wd ht (E j).z (E j).x (E j).y) E rn)=Q:=⟨_,rfl⟩
 have hq8:Q0.length≤8:=by rw [← hQ0];exact Nat.le_trans (zAz _ _ _) hrn
 have HSe:Hid (∀ W,Bw w W→Calls Tryz.prog 66 #[.slice ra rn rc,.pointer (some ⟨q,0,none⟩)] W fun e w'=>∃ v,e=.returned v∧zX W.heap.size w' v Q0∧Bw W w'):=fun W h=>by
  have hb:=hV.below hqw h
  have:=zG5 ra rn rc q E z x y wd ht W (hr.below h) ⟨hb.cell 0 rfl,hb.cell 1 rfl,hb.cell 2 rfl,hb.cell 3 rfl,hb.cell 4 rfl⟩ hc hrn
  rw [hQ0] at this
  exact this
 rw [hQ0]
 have HRe:Hid (∀ W,zAj W q z x y wd ht→Calls Tryz.prog 67 #[.pointer (some ⟨q,0,none⟩)] W fun e w'=>∃ v,e=.returned v∧zBn W.heap.size w' v (xJ z x y wd ht) (vO z x y wd)∧Bw W w'):=fun W h=>zD2 q W h hc
 have HRB:Hid (∀ i,i<xJ z x y wd ht→I64 ((vO z x y wd).z i)∧I64 ((vO z x y wd).x i)∧I64 ((vO z x y wd).y i)):=fun i hi=>zEp (zHp hc hi)
 have hm4:xJ z x y wd ht≤4:=zA7 _ _ _ _ _
 have HV:Hid (Blk w q [.int .i64 z,.int .i64 x,.int .i64 y,.int .i64 wd,.int .i64 ht,.int .i64 now,.int .i64 s,.slice ka n kc,.slice ra rn rc,.int .i64 bad]):=hV
 have HK:Hid (∀ W,GrQ B q none w W→CaF W ka n A R0):=hK
 have HC0:Hid (∀ j,j<n→kC A j=0):=h0
 have hql:q<w.heap.size:=by omega
 obtain ⟨l0,l1,l2,l3,l4,l5,l6,l7,l8,l9⟩:=Blk.c10 hV
 obtain ⟨g0,g1,g2,g3,g4,g5,g6,g7,g8,g9⟩:=Blk.f10 hV
 clear hV hK h0 hr hc hQ0
 generalize xJ z x y wd ht=m at *
 generalize vO z x y wd=R at *
 go_enter Tryz.func33,Tryz.ntmps33
 go_wp2_with fail
 generalize hW:(World.alloc w _:World)=W
 have HB0:Hid (Bw w W):=by show Below _ _ _;subst hW;exact Qb
 have HS0:Hid (yA w.heap.size W (.slice (some ⟨w.heap.size,0,none⟩) 0 0) []):=by
  show World.ownsRow _ _ _ _ _ _ _
  subst hW
  exact World.ownsRow_lit (base:=w.heap.size) (size:=3) w #[] 0 (Nat.le_refl _) (Nat.zero_le _) rfl
 have hzW:w.heap.size<W.heap.size:=by subst hW;simp
 clear hW
 have HVW:Hid (Blk W q [.int .i64 z,.int .i64 x,.int .i64 y,.int .i64 wd,.int .i64 ht,.int .i64 now,.int .i64 s,.slice ka n kc,.slice ra rn rc,.int .i64 bad]):=HV.out.below hql HB0.out
 have hqW:q<W.heap.size:=by omega
 clear l0 l1 l2 l3 l4 l5 l6 l7 l8 l9 g0 g1 g2 g3 g4 g5 g6 g7 g8 g9
 obtain ⟨l0,l1,l2,l3,l4,l5,l6,l7,l8,l9⟩:=Blk.g10 (b:=W.heap.size) (v:=W) fun W' h=>(HVW.out.below hqW h)
 refine wp_region_noPanic ?_
 refine yP (S:=fun W'=>Bw W W') (z:=11) (by kernel_rfl) ?_
 have hX0a:Bw W W.drew:=Below.drew (Below.refl _ _)
 refine yD (i:=0) [11] rfl hX0a ?_
 try simp only [Act.put,Qx,Qy,Qz]
 refine yD (i:=1) [11] rfl hX0a ?_
 try simp only [Act.put,Qx,Qy,Qz]
 refine yD (i:=2) [11] rfl hX0a ?_
 try simp only [Act.put,Qx,Qy,Qz]
 refine yD (i:=3) [11] rfl hX0a ?_
 try simp only [Act.put,Qx,Qy,Qz]
 refine yD (i:=4) [11] rfl hX0a ?_
 try simp only [Act.put,Qx,Qy,Qz]
 refine yD (i:=5) [11] rfl hX0a ?_
 try simp only [Act.put,Qx,Qy,Qz]
 refine yD (i:=6) [11] rfl hX0a ?_
 try simp only [Act.put,Qx,Qy,Qz]
 refine yD (i:=7) [11] rfl hX0a ?_
 try simp only [Act.put,Qx,Qy,Qz]
 generalize W.drew=wk0a at *
 refine zF (i:=8) (by kernel_rfl) rfl (fun K hK=>?_)
 go_simp
 refine Calls.mono (HSe.out _ (HB0.out.trans ((hX0a).mono (by omega)))) ?_
 rintro e wk1a ⟨v,rfl,hr1,hb1a⟩
 have hX1a:Bw W wk1a:=zB hX0a hb1a
 go_wp2_with fail
 refine hK.out _ _ (fun _=>hX1a) ?_
 clear hK K
 try simp only [Act.put,Qx,Qy,Qz]
 obtain ⟨a1,c1,hv1⟩:∃ a c,v=.slice a Q0.length c:=by
  obtain ⟨a,c,h,_⟩:=(show zX _ _ _ _ from hr1).own.pts
  exact ⟨a,c,h⟩
 subst hv1
 have hw0:=hX0a.size
 have hw1:=hX1a.size
 have HR1:Hid (zX wk0a.heap.size wk1a (.slice a1 Q0.length c1) Q0):=hr1
 clear hr1
 refine yD (i:=9) [10,11] rfl hX1a ?_
 try simp only [Act.put,Qx,Qy,Qz]
 refine yD (i:=10) [11] rfl hX1a ?_
 try simp only [Act.put,Qx,Qy,Qz]
 have l8':=l8 wk1a hX1a
 have g8':=(HVW.out.below hqW hX1a).free 8 rfl
 refine zF (i:=11) (by kernel_rfl) rfl (fun K hK=>?_)
 go_simp
 refine hK.out _ _ (fun h=>absurd rfl h) ?_
 clear hK K
 try simp only [Act.put,Qx,Qy,Qz]
 refine zY (by kernel_rfl) ?_ _
 refine NoPanic.normal ?_
 go_wp2_with fail
 generalize hS:(World.setCell wk1a _ _:World)=w2
 have HV2:Hid (Blk w2 q [.int .i64 z,.int .i64 x,.int .i64 y,.int .i64 wd,.int .i64 ht,.int .i64 now,.int .i64 s,.slice ka n kc,.slice a1 Q0.length c1,.int .i64 bad]):=by show Blk _ _ _;subst hS;exact (HVW.out.below hqW hX1a).set 8 _
 have HM2:Hid (zI q (q+1) wk1a w2):=by show zI _ _ _ _;subst hS;exact (zI.refl _ _ _).set (Nat.le_refl _) (Nat.lt_succ_self _) _ _
 have HR2:Hid (zX w.heap.size w2 (.slice a1 Q0.length c1) Q0):=by show zX _ _ _ _;subst hS;exact zJ (zK HR1.out (by omega)) hql
 have HS2:Hid (yA w.heap.size w2 (.slice (some ⟨w.heap.size,0,none⟩) 0 0) []):=by show yA _ _ _ _;subst hS;exact zJ (yA.below HS0.out hX1a) hql
 have hb01:Below q w wk1a:=(HB0.out.mono (by omega)).trans (hX1a.mono (by omega))
 have HBk2:Hid (Below q w w2):=by show Below _ _ _;subst hS;exact hb01.setCell (Nat.le_refl _) _
 have HBu2:Hid (But q none w w2):=by
  show ∀ j,_
  intro j h1 h2 _
  rw [HM2.out.block j (by have:=hX1a.size;omega) (by omega),hX1a.block j (by omega),HB0.out.block j h1]
 have hs2:w.heap.size<w2.heap.size:=by have:=HM2.out.size;omega
 clear hS HM2 HVW HR1 HS0 HB0 HSe hX0a hX1a hb1a l8' g8' l0 l1 l2 l3 l4 l5 l6 l7 l8 l9
 have hv2:=HV2.out
 refine Calls.mono (HRe.out w2 ⟨hv2.cell 0 rfl,hv2.cell 1 rfl,hv2.cell 2 rfl,hv2.cell 3 rfl,hv2.cell 4 rfl⟩) ?_
 rintro e w3 ⟨v,rfl,hO3,hb3⟩
 obtain ⟨a0,cap0,hv0,hc0,hI0⟩:=(show zBn _ _ _ _ _ from hO3).own.pts
 subst hv0
 have HOr:Hid (OwT w2.heap.size w3.heap.size w3 a0 m R):=hO3.own.ow
 have HV3:Hid (Blk w3 q [.int .i64 z,.int .i64 x,.int .i64 y,.int .i64 wd,.int .i64 ht,.int .i64 now,.int .i64 s,.slice ka n kc,.slice a1 Q0.length c1,.int .i64 bad]):=HV2.out.below (by omega) hb3
 have HR3:Hid (zX w.heap.size w3 (.slice a1 Q0.length c1) Q0):=HR2.out.below hb3
 have HS3:Hid (yA w.heap.size w3 (.slice (some ⟨w.heap.size,0,none⟩) 0 0) []):=yA.below HS2.out hb3
 have HBk3:Hid (Below q w w3):=HBk2.out.trans (hb3.mono (by omega))
 have HBu3:Hid (But q none w w3):=fun j h1 h2 h3=>(hb3.block j (by omega)).trans (HBu2.out j h1 h2 h3)
 have HK3:Hid (∀ U,GrQ B q (some w.heap.size) w3 U→CaF U ka n A R0):=fun U hU=>HK.out U (zLt hU HBk3.out HBu3.out)
 have hs3:=hb3.size
 clear hv2 hO3 hI0 hb3 HRe HV2 HR2 HS2 HBk2 HBu2 HK
 go_wp2_with fail
 go_loopw [3,5] (fun sv iv wr=>∃ k:Nat,k≤m∧iv=.int .i64 (k:Int)∧(∀ j,w2.heap.size≤j→j<w3.heap.size→wr.heap[j]?=w3.heap[j]?)∧w3.heap.size≤wr.heap.size∧∃ (kb rb:Option Addr) (kcb rcb:Nat) (RR:Nat→Kp),Blk wr q [.int .i64 z,.int .i64 x,.int .i64 y,.int .i64 wd,.int .i64 ht,.int .i64 now,.int .i64 s,.slice kb n kcb,.slice rb (stQ n R A now Q0 k).length rcb,.int .i64 bad]∧(yA w.heap.size wr sv (stS n R A now Q0 k)∧∀ g,sv.ownBlock=some g→g=w.heap.size∨w3.heap.size≤g)∧zX w.heap.size wr (.slice rb (stQ n R A now Q0 k).length rcb) (stQ n R A now Q0 k)∧(∀ U,GrQ B q sv.ownBlock wr U→CaF U kb n (stK n R A k) RR)∧Below q w wr∧But q none w wr) (fun _ iv _=>m - (intOf iv).toNat)
 case atStart=>exact ⟨0,by omega,rfl,fun _ _ _=>rfl,Nat.le_refl _,ka,a1,kc,c1,R0,HV3.out,⟨HS3.out,fun g hg=>.inl (by simp [Value.ownBlock] at hg;omega)⟩,HR3.out,HK3.out,HBk3.out,HBu3.out⟩
 case round =>
  clear HV3 HR3 HK3 HBk3 HBu3
  obtain ⟨k,hk,rfl,hmid,hsz3,kb,rb,kcb,rcb,RR,hVr,hsv,hRr,hKr,hBr,hBur⟩:=hrel
  by_cases hlt:k<m
  ·obtain ⟨b,off,hae,hb1,hb2,hpt⟩:∃ b off,a0=some ⟨b,off,none⟩∧w2.heap.size≤b∧b<w3.heap.size∧zFf w3 b off m R:=by
    rcases HOr.out with h0 | ⟨b,e,h1,h2,h3,_⟩
    ·omega
    ·exact ⟨b,0,e,h1,h2,h3⟩
   subst hae
   have hql3:q<wr.heap.size:=by omega
   have HMid:Hid (∀ j,w2.heap.size≤j→j<w3.heap.size→wr.heap[j]?=w3.heap[j]?):=hmid
   have hbe:∀ W',Bw wr W'→W'.heap[b]?=w3.heap[b]?:=fun W' h=>(h.block b (by omega)).trans (hmid b hb1 hb2)
   have q0:∀ W',Bw wr W'→W'.cell? ⟨b,off+k * 3,none⟩=some (.int .i64 (R.z k)):=fun W' h=>(World.cell?_of_block (a:=⟨b,off+k * 3,none⟩) (hbe W' h)).trans (hpt k hlt).1
   have q1:∀ W',Bw wr W'→W'.cell? ⟨b,off+k * 3+1,none⟩=some (.int .i64 (R.x k)):=fun W' h=>(World.cell?_of_block (a:=⟨b,off+k * 3+1,none⟩) (hbe W' h)).trans (hpt k hlt).2.1
   have q2:∀ W',Bw wr W'→W'.cell? ⟨b,off+k * 3+2,none⟩=some (.int .i64 (R.y k)):=fun W' h=>(World.cell?_of_block (a:=⟨b,off+k * 3+2,none⟩) (hbe W' h)).trans (hpt k hlt).2.2
   have HPt:Hid (zFf w3 b off m R):=hpt
   have HY:=(show Hid _ from @zL8 n R A now Q0 k)
   have HN:=(show Hid _ from @st_no n R A now Q0 k)
   have HCk:Hid (∀ j,j<n→kC (stK n R A k) j=0):=stK_kC HC0.out k
   have hql2:=(uW n R A now Q0 k).1
   have hsl2:=(uW n R A now Q0 k).2
   have HKr0:=(show Hid _ from hKr)
   have HVr0:=(show Hid _ from hVr)
   clear hpt hmid hbe
   generalize hKK:stK n R A k=KK at *
   generalize hQQ:stQ n R A now Q0 k=Q at *
   generalize hSS:stS n R A now Q0 k=SS at *
   clear hKK hQQ hSS
   generalize R.z k=rz at *
   generalize R.x k=rx at *
   generalize R.y k=ry at *
   have HVr:Hid (Blk wr q [.int .i64 z,.int .i64 x,.int .i64 y,.int .i64 wd,.int .i64 ht,.int .i64 now,.int .i64 s,.slice kb n kcb,.slice rb Q.length rcb,.int .i64 bad]):=hVr
   have HKr:Hid (∀ U,GrQ B q u3.ownBlock wr U→CaF U kb n KK RR):=hKr
   have HRr:Hid (zX w.heap.size wr (.slice rb Q.length rcb) Q):=hRr
   have HSv:Hid (yA w.heap.size wr u3 SS∧∀ g,u3.ownBlock=some g→g=w.heap.size∨w3.heap.size≤g):=hsv
   have HBr:Hid (Below q w wr):=hBr
   have HBur:Hid (But q none w wr):=hBur
   have HAt:Hid (∀ W',Bw wr W'→Calls Tryz.prog 68 #[.pointer (some ⟨q,6,none⟩),xK rz rx ry] W' fun e w'=>e=.returned (.int .i64 (atK n KK rz rx ry))∧Below W'.heap.size W' w'):=fun W' h=>by
    have hv:=HVr.out.below hql3 h
    have hk:=HKr.out W' ((zH4 B q W').none.of_below h)
    have:=zKe q 6 s kb n kcb RR rz rx ry W' ⟨hv.cell 6 rfl,hv.cell 7 rfl⟩ hk.is (by omega)
    rw [zKt hk.key rz rx ry n (Nat.le_refl _)] at this
    exact this
   clear hVr hKr hRr hsv hBr hBur HKr0 HVr0
   have hi0:(0:Int)≤(k:Int):=by omega
   have hik:(k:Int)<(m:Int):=by omega
   obtain ⟨l0,l1,l2,l3,l4,l5,l6,l7,l8,l9⟩:=Blk.g10 (b:=wr.heap.size) (v:=wr) fun W' h=>(HVr.out.below hql3 h)
   go_wp2_with fail
   refine wp_region_noPanic ?_
   refine wp_region_held_drew (S:=fun W'=>Bw wr W') (by kernel_rfl) (by have:=Below.refl wr.heap.size wr;exact Qb) (fun hHeld=>?_)
   have hX0c:Bw wr wr.drew:=hHeld
   refine zE (i:=0) (d:=some 30) rfl rfl ?_
   try simp only [Act.put,Qx,Qy,Qz]
   refine zE (i:=1) (d:=some 31) rfl rfl ?_
   try simp only [Act.put,Qx,Qy,Qz]
   refine zE (i:=2) (d:=some 32) rfl rfl ?_
   try simp only [Act.put,Qx,Qy,Qz]
   refine zE (i:=3) (d:=some 33) rfl rfl ?_
   try simp only [Act.put,Qx,Qy,Qz]
   refine zE (i:=4) (d:=some 34) rfl rfl ?_
   try simp only [Act.put,Qx,Qy,Qz]
   refine zE (i:=5) (d:=some 35) rfl rfl ?_
   try simp only [Act.put,Qx,Qy,Qz]
   refine zE (i:=6) (d:=some 36) rfl rfl ?_
   try simp only [Act.put,Qx,Qy,Qz]
   generalize wr.drew=wk0c at *
   refine zN 7 fun K hK=>?_
   rw [if_pos (by rfl)]
   go_simp
   refine Calls.mono (HAt.out _ hX0c) ?_
   rintro e wk1c ⟨rfl,hb1c⟩
   have hX1c:Bw wr wk1c:=zB hX0c hb1c
   go_wp2_with fail
   refine hK.out _ _ (by assumption) (fun hHeld=>?_)
   clear hK K
   try simp only [Act.put,Qx,Qy,Qz]
   refine zE (i:=8) (d:=some 6) rfl rfl ?_
   try simp only [Act.put,Qx,Qy,Qz]
   refine wpAnyH_done (by kernel_rfl) ?_ _
   refine NoPanic.normal ?_
   have HXc:Hid (Bw wr wk1c):=hX1c
   have q0':=q0 wk1c hX1c
   have q1':=q1 wk1c hX1c
   have q2':=q2 wk1c hX1c
   clear q0 q1 q2 hX0c hb1c hX1c HAt l0 l1 l2 l3 l4 l5 l6 l7 l8 l9
   have hsV:=HXc.out.size
   have HVV:Hid (Blk wk1c q [.int .i64 z,.int .i64 x,.int .i64 y,.int .i64 wd,.int .i64 ht,.int .i64 now,.int .i64 s,.slice kb n kcb,.slice rb Q.length rcb,.int .i64 bad]):=HVr.out.below hql3 HXc.out
   have HKV:Hid (∀ U,GrQ B q u3.ownBlock wk1c U→CaF U kb n KK RR):=fun U hU=>HKr.out U (hU.of_below HXc.out)
   have HRV:Hid (zX w.heap.size wk1c (.slice rb Q.length rcb) Q):=HRr.out.below HXc.out
   have HSV:Hid (yA w.heap.size wk1c u3 SS∧∀ g,u3.ownBlock=some g→g=w.heap.size∨w3.heap.size≤g):=⟨yA.below HSv.out.1 HXc.out,HSv.out.2⟩
   have HBV:Hid (Below q w wk1c):=HBr.out.trans (HXc.out.mono (by omega))
   have HBuV:Hid (But q none w wk1c):=fun j h1 h2 h3=>(HXc.out.block j (by omega)).trans (HBur.out j h1 h2 h3)
   have HMV:Hid (∀ j,w2.heap.size≤j→j<w3.heap.size→wk1c.heap[j]?=w3.heap[j]?):=fun j h1 h2=>(HXc.out.block j (by omega)).trans (HMid.out j h1 h2)
   clear HVr HKr HRr HSv HBr HBur HMid HXc
   have hsz3:w3.heap.size≤wk1c.heap.size:=by omega
   have hqV:q<wk1c.heap.size:=by omega
   clear hsV hql3
   generalize wk1c=V at *
   by_cases hat:0≤atK n KK rz rx ry
   ·have HE:=(show Hid _ from HY.out hat)
    have hde:decide (0≤atK n KK rz rx ry)=true:=decide_eq_true hat
    have hv:=HVV.out
    obtain ⟨l0,l1,l2,l3,l4,l5,l6,l7,l8,l9⟩:=Blk.c10 hv
    clear hv
    go_wp2_with fail
    obtain ⟨qi,hqi,heq,_⟩:∃ qi:Nat,qi<n∧atK n KK rz rx ry=(qi:Int)∧True:=by
     rcases zC3 n KK rz rx ry with h0 | ⟨i,hi,e,_⟩
     ·omega
     ·exact ⟨i,hi,e,trivial⟩
    obtain ⟨hJ,hKU⟩:vI (qi:Int) n=xP n KK rz rx ry∧KU n KK:=⟨by rw [← heq];exact zJ9 HCk.out hat,(zKg.1 HCk.out).2⟩
    have hJl:(vI (qi:Int) n).length+1=n:=by rw [hJ];exact zEi hKU hat
    have HKU:=(show Hid _ from hKU)
    have HJ:=(show Hid _ from hJ)
    have HOb:Hid (∀ g,u3.ownBlock=some g→g<V.heap.size+3):=fun g hg=>by
     have:=World.ownsRow.lt HSV.out.1 g hg
     omega
    have HTo:Hid (Calls Tryz.prog 69 #[caV s (.slice kb n kcb),.int .i64 (qi:Int)] V fun e w'=>∃ gr c R5,e=.returned (caV s (.slice (some ⟨gr,0,none⟩) n c))∧zDu (V.heap.size+3) w' (some ⟨gr,0,none⟩) c ((vI (qi:Int) n).length+1) (fun i=>if i=(vI (qi:Int) n).length then RR qi else RR ((vI (qi:Int) n).getD i 0)) R5∧Bw V w'):=by
     have hk:=HKV.out V (zH4 B q V).none
     obtain ⟨g,e,hko,hsrc⟩:=hk.ko (by omega)
     subst e
     have:=zFz s g n kcb RR qi hqi V hko hsrc (fun i hi=>by rw [hk.m i hi];exact kC_m0 HCk.out i hi) (by omega)
     rw [hJl] at this ⊢
     exact this
    rw [heq]
    refine Calls.mono HTo.out ?_
    rintro e w5 ⟨gr,c5,R5,rfl,hL5,hb5⟩
    clear l0 l1 l2 l3 l4 l5 l6 l7 l8 l9
    have hv:=HVV.out.below hqV hb5
    obtain ⟨l0,l1,l2,l3,l4,l5,l6,l7,l8,l9⟩:=Blk.c10 hv
    obtain ⟨f0,f1,f2,f3,f4,f5,f6,f7,f8,f9⟩:=Blk.f10 hv
    have HV5:Hid (Blk w5 q [.int .i64 z,.int .i64 x,.int .i64 y,.int .i64 wd,.int .i64 ht,.int .i64 now,.int .i64 s,.slice kb n kcb,.slice rb Q.length rcb,.int .i64 bad]):=hv
    have HL5:=(show Hid _ from hL5)
    have HX5:Hid (Bw V w5):=hb5
    clear hv hL5 hb5 HTo hJ hKU
    go_wp2_with fail
    generalize hwF:(World.setCell (World.setCell w5 _ _) _ _:World)=wF
    have hVF:Blk wF q [.int .i64 z,.int .i64 x,.int .i64 y,.int .i64 wd,.int .i64 ht,.int .i64 now,.int .i64 s,.slice (some ⟨gr,0,none⟩) n c5,.slice rb Q.length rcb,.int .i64 bad]:=by subst hwF;exact (HV5.out.set 6 _).set 7 _
    have hMF:zI q (q+1) w5 wF:=by subst hwF;exact ((zI.refl _ _ _).set (Nat.le_refl _) (Nat.lt_succ_self _) _ _).set (Nat.le_refl _) (Nat.lt_succ_self _) _ _
    have hq5:Below q V w5:=HX5.out.mono (by omega)
    have hBF:Below q V wF:=by subst hwF;exact (hq5.setCell (Nat.le_refl _) _).setCell (Nat.le_refl _) _
    clear hwF l0 l1 l2 l3 l4 l5 l6 l7 l8 l9 f0 f1 f2 f3 f4 f5 f6 f7 f8 f9
    have hx5:=HX5.out.size
    have hxF:=hMF.size
    have hOF:∀ j,j<V.heap.size→j≠q→wF.heap[j]?=V.heap[j]?:=fun j h1 h2=>(hMF.block j (by omega) (by omega)).trans (HX5.out.block j h1)
    refine ⟨⟨k+1,by omega,by go_num,fun j h1 h2=>(hOF j (by omega) (by omega)).trans (HMV.out j h1 h2),by omega,some ⟨gr,0,none⟩,rb,c5,rcb,R5,?_,?_,?_,?_,HBV.out.trans hBF,fun j h1 h2 h3=>(hOF j (by omega) h2).trans (HBuV.out j h1 h2 h3)⟩,by simp [intOf];omega⟩
    ·rw [HE.out.2.1]
     exact hVF
    ·rw [HE.out.2.2]
     refine ⟨yK HSV.out.1 fun g hg=>?_,HSV.out.2⟩
     have:=World.ownsRow.lt HSV.out.1 g hg
     exact hOF g this.2 (by omega)
    ·rw [HE.out.2.1]
     exact yK HRV.out fun g hg=>by
      have:=World.ownsRow.lt HRV.out g hg
      exact hOF g this.2 (by omega)
    ·rw [HE.out.1]
     intro U hU
     have hU5:=hU.of_mid hMF
     exact zK2 (HKV.out U (hU5.of_below HX5.out)) HKU.out heq HL5.out HJ.out (zLs hU5 (by omega) (by omega) HOb.out)
   ·have HE:=(show Hid _ from HN.out (by omega))
    have hde:decide (0≤atK n KK rz rx ry)=false:=decide_eq_false hat
    have HArm:Hid ((∃ ad,rb=some ad)∨rb=none∧Q.length=0∧rcb=0):=by
     obtain ⟨_,h2 | ⟨g,cp,cur,hv,_⟩⟩:=HRV.out
     ·obtain ⟨e1,e2⟩:=h2
      injection e1 with e1 e3 e4
      exact .inr ⟨e1,e2,e4⟩
     ·injection hv with hv _ _
      exact .inl ⟨_,hv⟩
    have HAL:=(show Hid _ from zFc Q.length (nw Q) rz rx ry now)
    have HAk:Hid (∀ W',Bw V W'→Calls Tryz.prog 70 #[.slice rb Q.length rcb,xK rz rx ry,.int .i64 now] W' fun e w'=>∃ v1 v2,e=.returned (rqV (zBm Q.length (nw Q) rz rx ry now) v1 v2)∧yA W'.heap.size w' v1 (vJ Q.length (nw Q) rz rx ry now)∧zX W'.heap.size w' v2 (vB Q.length (nw Q) rz rx ry now)∧Below W'.heap.size W' w'):=fun W' h=>zBr rb Q.length rcb (nw Q) rz rx ry now W' ((HRV.out.own.is).below h) (by omega) HArm.out
    have hrf:∀ W',Bw V W'→W'.heap[b]?=w3.heap[b]?:=fun W' h=>(h.block b (by omega)).trans (HMV.out b hb1 hb2)
    have q0:∀ W',Bw V W'→W'.cell? ⟨b,off+k * 3,none⟩=some (.int .i64 rz):=fun W' h=>(World.cell?_of_block (a:=⟨b,off+k * 3,none⟩) ((hrf W' h).trans (HMV.out b hb1 hb2).symm)).trans q0'
    have q1:∀ W',Bw V W'→W'.cell? ⟨b,off+k * 3+1,none⟩=some (.int .i64 rx):=fun W' h=>(World.cell?_of_block (a:=⟨b,off+k * 3+1,none⟩) ((hrf W' h).trans (HMV.out b hb1 hb2).symm)).trans q1'
    have q2:∀ W',Bw V W'→W'.cell? ⟨b,off+k * 3+2,none⟩=some (.int .i64 ry):=fun W' h=>(World.cell?_of_block (a:=⟨b,off+k * 3+2,none⟩) ((hrf W' h).trans (HMV.out b hb1 hb2).symm)).trans q2'
    clear hrf
    obtain ⟨l0,l1,l2,l3,l4,l5,l6,l7,l8,l9⟩:=Blk.g10 (b:=V.heap.size) (v:=V) fun W' h=>(HVV.out.below hqV h)
    go_wp2_with fail
    refine wp_region_noPanic ?_
    refine yP (S:=fun W'=>Bw V W') (z:=14) (by kernel_rfl) ?_
    have hX0d:Bw V V.drew:=Below.drew (Below.refl _ _)
    refine yD (i:=0) [14] rfl hX0d ?_
    try simp only [Act.put,Qx,Qy,Qz]
    refine yD (i:=1) [14] rfl hX0d ?_
    try simp only [Act.put,Qx,Qy,Qz]
    refine yD (i:=2) [14] rfl hX0d ?_
    try simp only [Act.put,Qx,Qy,Qz]
    refine yD (i:=3) [14] rfl hX0d ?_
    try simp only [Act.put,Qx,Qy,Qz]
    refine yD (i:=4) [14] rfl hX0d ?_
    try simp only [Act.put,Qx,Qy,Qz]
    refine yD (i:=5) [14] rfl hX0d ?_
    try simp only [Act.put,Qx,Qy,Qz]
    refine yD (i:=6) [14] rfl hX0d ?_
    try simp only [Act.put,Qx,Qy,Qz]
    refine yD (i:=7) [14] rfl hX0d ?_
    try simp only [Act.put,Qx,Qy,Qz]
    refine yD (i:=8) [14] rfl hX0d ?_
    try simp only [Act.put,Qx,Qy,Qz]
    refine yD (i:=9) [14] rfl hX0d ?_
    try simp only [Act.put,Qx,Qy,Qz]
    refine yD (i:=10) [14] rfl hX0d ?_
    try simp only [Act.put,Qx,Qy,Qz]
    refine yD (i:=11) [14] rfl hX0d ?_
    try simp only [Act.put,Qx,Qy,Qz]
    generalize V.drew=wk0d at *
    refine' (fun (g:∀ (wS:World) (bx:Nat) (a3:Option Addr) (c3:Nat) (a4:Option Addr) (c4:Nat),(yA V.heap.size wS (.slice a3 (vJ Q.length (nw Q) rz rx ry now).length c3) (vJ Q.length (nw Q) rz rx ry now)∧zX V.heap.size wS (.slice a4 (vB Q.length (nw Q) rz rx ry now).length c4) (vB Q.length (nw Q) rz rx ry now)∧Blk wS bx [.int .i64 (zBm Q.length (nw Q) rz rx ry now),.slice a3 (vJ Q.length (nw Q) rz rx ry now).length c3,.slice a4 (vB Q.length (nw Q) rz rx ry now).length c4]∧Bw V wS∧V.heap.size≤bx)→(_:World→Nat→Option Addr→Nat→Option Addr→Nat→Prop) wS bx a3 c3 a4 c4)=>?_) ?_
    rotate_left
    ·refine zA6 (i:=12) (j:=13) (by kernel_rfl) rfl rfl (fun K hK=>?_) (fun K hK=>?_)
     ·go_simp
      refine Calls.mono (HAk.out _ hX0d) ?_
      rintro e wa ⟨v1,v2,rfl,hr1,hr2,hb⟩
      have hXa:Bw V wa:=zB hX0d hb
      obtain ⟨a4,c4,hv2⟩:∃ a c,v2=.slice a (vB Q.length (nw Q) rz rx ry now).length c:=by
       obtain ⟨a,c,h,_⟩:=(show zX _ _ _ _ from hr2).own.pts
       exact ⟨a,c,h⟩
      obtain ⟨a3,c3,hv1⟩:=yA.form hr1
      subst hv2 hv1
      go_wp2_with fail
      refine hK.out _ _ (fun _=>hXa) ?_
      clear hK K
      try simp only [Act.put,Qx,Qy,Qz]
      refine zF (i:=13) (by kernel_rfl) rfl (fun K hK=>?_)
      go_simp
      generalize hwA:(World.alloc _ _:World)=wA
      have hBx:Blk wA wa.heap.size [.int .i64 0,.slice none 0 0,.slice none 0 0]:=by subst hwA;exact Blk.new _ _ _
      have hbA:Bw wa wA:=by subst hwA;exact Qb
      have hXA:Bw V wA:=zB hXa hbA
      have hS1:yA V.heap.size wA (.slice a3 (vJ Q.length (nw Q) rz rx ry now).length c3) (vJ Q.length (nw Q) rz rx ry now):=yA.below (zK hr1 hX0d.size) hbA
      have hS2:zX V.heap.size wA (.slice a4 (vB Q.length (nw Q) rz rx ry now).length c4) (vB Q.length (nw Q) rz rx ry now):=zX.below (zK hr2 hX0d.size) hbA
      have hg1:∀ g,(Value.slice a3 (vJ Q.length (nw Q) rz rx ry now).length c3).ownBlock=some g→g≠wa.heap.size:=fun g hg=>by have:=(World.ownsRow.lt hr1 g hg).2;omega
      have hg2:∀ g,(Value.slice a4 (vB Q.length (nw Q) rz rx ry now).length c4).ownBlock=some g→g≠wa.heap.size:=fun g hg=>by have:=(World.ownsRow.lt hr2 g hg).2;omega
      have hbx:V.heap.size≤wa.heap.size:=hXa.size
      clear hwA hr1 hr2 hb hXa hbA
      generalize wa.heap.size=bx at *
      obtain ⟨z0,z1,z2⟩:=Blk.c3 hBx
      obtain ⟨f0,f1,f2⟩:=Blk.f3 hBx
      refine hK.out _ _ (fun _=>hXA) ?_
      clear hK K
      try simp only [Act.put,Qx,Qy,Qz]
      refine zF (i:=14) (by kernel_rfl) rfl (fun K hK=>?_)
      go_simp
      generalize hwS:(World.setCell (World.setCell (World.setCell wA _ _) _ _) _ _:World)=wS
      have hBS:Blk wS bx [.int .i64 (zBm Q.length (nw Q) rz rx ry now),.slice a3 (vJ Q.length (nw Q) rz rx ry now).length c3,.slice a4 (vB Q.length (nw Q) rz rx ry now).length c4]:=by subst hwS;exact ((hBx.set 0 _).set 1 _).set 2 _
      have hMS:zI bx (bx+1) wA wS:=by subst hwS;exact (((zI.refl _ _ _).set (Nat.le_refl _) (Nat.lt_succ_self _) _ _).set (Nat.le_refl _) (Nat.lt_succ_self _) _ _).set (Nat.le_refl _) (Nat.lt_succ_self _) _ _
      have hXS:Bw V wS:=by subst hwS;exact ((hXA.setCell hbx _).setCell hbx _).setCell hbx _
      have hT1:yA V.heap.size wS (.slice a3 (vJ Q.length (nw Q) rz rx ry now).length c3) (vJ Q.length (nw Q) rz rx ry now):=yK hS1 fun g hg=>hMS.block g (World.ownsRow.lt hS1 g hg).2 (by have:=hg1 g hg;omega)
      have hT2:zX V.heap.size wS (.slice a4 (vB Q.length (nw Q) rz rx ry now).length c4) (vB Q.length (nw Q) rz rx ry now):=yK hS2 fun g hg=>hMS.block g (World.ownsRow.lt hS2 g hg).2 (by have:=hg2 g hg;omega)
      clear hwS
      refine hK.out _ _ (fun h=>absurd rfl h) ?_
      clear hK K
      try simp only [Act.put,Qx,Qy,Qz]
      refine zY (by kernel_rfl) ?_ _
      refine NoPanic.normal ?_
      exact g wS bx a3 c3 a4 c4 ⟨hT1,hT2,hBS,hXS,hbx⟩
     ·go_simp
      generalize hwA:(World.alloc _ _:World)=wA
      have hBx:Blk wA wk0d.heap.size [.int .i64 0,.slice none 0 0,.slice none 0 0]:=by subst hwA;exact Blk.new _ _ _
      have hbA:Bw wk0d wA:=by subst hwA;exact Qb
      have hXA:Bw V wA:=zB hX0d hbA
      have hbx:V.heap.size≤wk0d.heap.size:=hX0d.size
      have hbl:wk0d.heap.size<wA.heap.size:=hBx.lt
      clear hwA hbA
      generalize wk0d.heap.size=bx at *
      refine hK.out _ _ (fun _=>hXA) ?_
      clear hK K
      try simp only [Act.put,Qx,Qy,Qz]
      refine zF (i:=12) (by kernel_rfl) rfl (fun K hK=>?_)
      go_simp
      refine Calls.mono (HAk.out _ hXA) ?_
      rintro e wa ⟨v1,v2,rfl,hr1,hr2,hb⟩
      have hXa:Bw V wa:=zB hXA hb
      obtain ⟨a4,c4,hv2⟩:∃ a c,v2=.slice a (vB Q.length (nw Q) rz rx ry now).length c:=by
       obtain ⟨a,c,h,_⟩:=(show zX _ _ _ _ from hr2).own.pts
       exact ⟨a,c,h⟩
      obtain ⟨a3,c3,hv1⟩:=yA.form hr1
      subst hv2 hv1
      go_wp2_with fail
      have hBx2:=hBx.below hbl hb
      obtain ⟨z0,z1,z2⟩:=Blk.c3 hBx2
      obtain ⟨f0,f1,f2⟩:=Blk.f3 hBx2
      refine hK.out _ _ (fun _=>hXa) ?_
      clear hK K
      try simp only [Act.put,Qx,Qy,Qz]
      refine zF (i:=14) (by kernel_rfl) rfl (fun K hK=>?_)
      go_simp
      generalize hwS:(World.setCell (World.setCell (World.setCell wa _ _) _ _) _ _:World)=wS
      have hBS:Blk wS bx [.int .i64 (zBm Q.length (nw Q) rz rx ry now),.slice a3 (vJ Q.length (nw Q) rz rx ry now).length c3,.slice a4 (vB Q.length (nw Q) rz rx ry now).length c4]:=by subst hwS;exact ((hBx2.set 0 _).set 1 _).set 2 _
      have hXS:Bw V wS:=by subst hwS;exact ((hXa.setCell hbx _).setCell hbx _).setCell hbx _
      have hT1:yA V.heap.size wS (.slice a3 (vJ Q.length (nw Q) rz rx ry now).length c3) (vJ Q.length (nw Q) rz rx ry now):=by subst hwS;exact zK (zJ (zJ (zJ hr1 hbl) hbl) hbl) hXA.size
      have hT2:zX V.heap.size wS (.slice a4 (vB Q.length (nw Q) rz rx ry now).length c4) (vB Q.length (nw Q) rz rx ry now):=by subst hwS;exact zK (zJ (zJ (zJ hr2 hbl) hbl) hbl) hXA.size
      clear hwS
      refine hK.out _ _ (fun h=>absurd rfl h) ?_
      clear hK K
      try simp only [Act.put,Qx,Qy,Qz]
      refine zY (by kernel_rfl) ?_ _
      refine NoPanic.normal ?_
      exact g wS bx a3 c3 a4 c4 ⟨hT1,hT2,hBS,hXS,hbx⟩
    intro wS bx a3 c3 a4 c4 hSt
    obtain ⟨hT1,hT2,hBS,hXS,hbx⟩:=hSt
    obtain ⟨sa,sc,hu3⟩:=yA.form HSV.out.1
    subst hu3
    obtain ⟨i1,ri,rz0,rz1,rz2⟩:=info_parts zE1
    have HT1:Hid (yA V.heap.size wS (.slice a3 (vJ Q.length (nw Q) rz rx ry now).length c3) (vJ Q.length (nw Q) rz rx ry now)):=hT1
    have HT2:Hid (zX V.heap.size wS (.slice a4 (vB Q.length (nw Q) rz rx ry now).length c4) (vB Q.length (nw Q) rz rx ry now)):=hT2
    have HXS:Hid (Bw V wS):=hXS
    have hsS:=hXS.size
    have HSS:Hid (yA w.heap.size wS (.slice sa SS.length sc) SS):=yA.below HSV.out.1 hXS
    have HSg:=(show Hid _ from HSV.out.2)
    have HSl:Hid (∀ g,(Value.slice sa SS.length sc).ownBlock=some g→w.heap.size≤g∧g<V.heap.size):=fun g hg=>World.ownsRow.lt HSV.out.1 g hg
    have HEK:=(show Hid _ from HE.out.1)
    have HEQ:=(show Hid _ from HE.out.2.1)
    have HES:=(show Hid _ from HE.out.2.2)
    have hAS:=HAL.out.2
    clear hT1 hT2 hXS HAk HAL HE q0 q1 q2 hX0d l0 l1 l2 l3 l4 l5 l6 l7 l8 l9
    generalize (vJ Q.length (nw Q) rz rx ry now)=AS at *
    generalize (vB Q.length (nw Q) rz rx ry now)=AL at *
    have HAP:Hid (zT (yS (SS ++ AS)) (SS ++ AS).length=zT (yS SS) SS.length ++ zT (yS AS) AS.length):=zC0 SS AS
    generalize (zBm Q.length (nw Q) rz rx ry now)=AC at *
    have HBS:Hid (Blk wS bx [.int .i64 AC,.slice a3 AS.length c3,.slice a4 AL.length c4]):=hBS
    have b1:=hBS.cell 1 rfl
    clear hBS
    go_wp2_with (first
     | (at_builtin;go_must (refine zGq ?_)))
    show wpList _ _ _ _ _ _
    refine' (fun (g2:∀ (w6:World) (a6:Option Addr) (n6 c6:Nat),(yA w.heap.size w6 (.slice a6 n6 c6) (SS ++ AS)∧(∀ g,(Value.slice a6 n6 c6).ownBlock=some g→(Value.slice sa SS.length sc).ownBlock=some g∨wS.heap.size≤g)∧wS.grownBy w6 (Value.slice sa SS.length sc).ownBlock)→(_:World→Option Addr→Nat→Nat→Prop) w6 a6 n6 c6)=>?_) ?_
    rotate_left
    ·rcases HT1.out.slice' with ⟨e1,e2⟩ | ⟨g3,cg,e1,hg3,hgl⟩
     ·have HE2:Hid (AS=[]):=e2
      clear e2
      refine uU rfl (.tmp 62) (.tmp 64) 24 rfl w.heap.size 111 i1 3 Tryz.underlying24 ri (.slice sa SS.length sc) SS.length (zT (yS SS) SS.length) rfl ?c0 e1 ?_
      case c0=>exact HSS.out
      intro v6 w6 hv6'
      obtain ⟨hv6,hw6⟩:=hv6'.out
      have hR6:yA w.heap.size w6 v6 (SS ++ AS):=by rw [hv6,hw6,HE2.out,List.append_nil];exact HSS.out
      obtain ⟨a6,c6,hv6'⟩:=yA.form hR6
      obtain ⟨n6,hn6⟩:∃ n6,(SS ++ AS).length=n6:=⟨_,rfl⟩
      rw [hn6] at hv6'
      rw [hv6'] at hv6 hR6 ⊢
      have hG6:wS.grownBy w6 (Value.slice sa SS.length sc).ownBlock:=by rw [hw6];exact ⟨rfl,rfl,rfl,Nat.le_refl _,fun _ _ _=>rfl⟩
      exact g2 w6 a6 n6 c6 ⟨hR6,fun g hg=>.inl (by rw [← hv6];exact hg),hG6⟩
     ·have HT1':Hid (yA V.heap.size wS (.slice (some ⟨g3,0,none⟩) AS.length cg) AS):=by show yA _ _ _ _;rw [← e1];exact HT1.out
      have HC1:Hid (∀ j u,(zT (yS AS) AS.length)[j]?=some u→wS.cell? ((⟨g3,0,none⟩:Addr).add j)=some u):=World.ownsRow.cells HT1'.out (g:=g3) rfl
      refine zAk rfl (.tmp 62) (.tmp 64) 24 rfl w.heap.size 111 i1 (.agg #[.int .i64 0,.int .i64 0,.int .i64 0]) 3 24 Tryz.underlying24 ri rz0 rz1 rz2 rfl (by decide) (.slice sa SS.length sc) SS.length (zT (yS SS) SS.length) rfl ?r0 ⟨g3,0,none⟩ AS.length cg (zT (yS AS) AS.length) e1 (xU _ _) ?r1 (zD8 AS) ?r3 ?r4 ?r5 ?_
      case r0=>exact HSS.out
      case r1=>first | exact HC1.out | (intro j u hj;have:=HC1.out j u hj;simpa [Addr.add] using this)
      case r3=>unfold maxLen;omega
      case r4=>omega
      case r5=>omega
      intro v6 w6 hown6 hg6 hl6
      have hR6:yA w.heap.size w6 v6 (SS ++ AS):=by
       show World.ownsRow _ _ _ _ _ _ _
       rw [HAP.out,List.length_append]
       exact hown6
      obtain ⟨a6,c6,hv6⟩:=yA.form hR6
      obtain ⟨n6,hn6⟩:∃ n6,(SS ++ AS).length=n6:=⟨_,rfl⟩
      rw [hn6] at hv6
      rw [hv6] at hR6 hl6 ⊢
      exact g2 w6 a6 n6 c6 ⟨hR6,hl6,hg6⟩
    intro w6 a6 n6 c6 hSt2
    obtain ⟨hR6,hl6,hg6⟩:=hSt2
    have hs6:=hg6.size
    have hbl2:=HBS.out.lt
    have hblk:∀ j,j<wS.heap.size→(∀ g,(Value.slice sa SS.length sc).ownBlock=some g→j≠g)→w6.heap[j]?=wS.heap[j]?:=fun j h1 h2=>hg6.block j h1 (fun e=>h2 j e.symm rfl)
    have hbq:w6.heap[q]?=wS.heap[q]?:=hblk q (by omega) (fun g hg e=>by have:=HSl.out g hg;omega)
    have hbb:w6.heap[bx]?=wS.heap[bx]?:=hblk bx hbl2 (fun g hg e=>by have:=HSl.out g hg;omega)
    have HV6:Hid (Blk w6 q [.int .i64 z,.int .i64 x,.int .i64 y,.int .i64 wd,.int .i64 ht,.int .i64 now,.int .i64 s,.slice kb n kcb,.slice rb Q.length rcb,.int .i64 bad]):=(HVV.out.below hqV HXS.out).but hbq
    have hB6:=HBS.out.but hbb
    have hW6:zX w.heap.size w6 (.slice a4 AL.length c4) AL:=zK (yK HT2.out fun g hg=>hblk g (World.ownsRow.lt HT2.out g hg).2 (fun g' hg' e=>by have:=HSl.out g' hg';have:=(World.ownsRow.lt HT2.out g hg).1;omega)) (by omega)
    have hW6':=(show Hid _ from hW6)
    have HR6:=(show Hid _ from hR6)
    have HL6:=(show Hid _ from hl6)
    have HG6:=(show Hid _ from hg6)
    have HBk6:=(show Hid _ from hblk)
    have l8:=HV6.out.cell 8 rfl
    have f8:=HV6.out.free 8 rfl
    have b2':=hB6.cell 2 rfl
    clear hR6 hl6 hg6 hblk hbq hbb hB6 hW6
    go_wp2_with fail
    generalize hwF:(World.setCell w6 _ _:World)=wF
    have hVF:Blk wF q [.int .i64 z,.int .i64 x,.int .i64 y,.int .i64 wd,.int .i64 ht,.int .i64 now,.int .i64 s,.slice kb n kcb,.slice a4 AL.length c4,.int .i64 bad]:=by subst hwF;exact HV6.out.set 8 _
    have hMF:zI q (q+1) w6 wF:=by subst hwF;exact (zI.refl _ _ _).set (Nat.le_refl _) (Nat.lt_succ_self _) _ _
    have hq6:Below q V w6:=(HXS.out.mono (by omega)).grown HG6.out (by omega) (fun j hj=>by have:=HSl.out j hj;omega)
    have hBF:Below q V wF:=by subst hwF;exact hq6.setCell (Nat.le_refl _) _
    clear hwF
    have hxF:=hMF.size
    have hOF:∀ j,j<V.heap.size→j≠q→(∀ g,(Value.slice sa SS.length sc).ownBlock=some g→j≠g)→wF.heap[j]?=V.heap[j]?:=fun j h1 h2 h3=>(hMF.block j (by omega) (by omega)).trans ((HBk6.out j (by omega) h3).trans (HXS.out.block j h1))
    refine ⟨⟨k+1,by omega,by go_num,fun j h1 h2=>(hOF j (by omega) (by omega) (fun g hg e=>by have:=HSg.out g hg;omega)).trans (HMV.out j h1 h2),by omega,kb,a4,kcb,c4,RR,?_,?_,?_,?_,HBV.out.trans hBF,fun j h1 h2 h3=>(hOF j (by omega) h2 (fun g hg e=>by have:=HSl.out g hg;omega)).trans (HBuV.out j h1 h2 h3)⟩,by simp [intOf];omega⟩
    ·rw [HEQ.out]
     exact hVF
    ·rw [HES.out]
     refine ⟨yK HR6.out fun g hg=>?_,fun g hg=>?_⟩
     ·have:=World.ownsRow.lt HR6.out g hg
      exact hMF.block g this.2 (by omega)
     ·rcases HL6.out g hg with h | h
      ·exact HSg.out g h
      ·exact .inr (by omega)
    ·rw [HEQ.out]
     refine yK hW6'.out fun g hg=>?_
     have:=World.ownsRow.lt hW6'.out g hg
     exact hMF.block g this.2 (by omega)
    ·rw [HEK.out]
     intro U hU
     exact HKV.out U (grQ_app hU hMF HG6.out HXS.out HL6.out)
  ·obtain rfl:k=m:=by omega
   have hnn:¬ (k:Int)<(k:Int):=by omega
   have HVr:=(show Hid _ from hVr)
   have HKr:=(show Hid _ from hKr)
   have HRr:=(show Hid _ from hRr)
   have HSv:=(show Hid _ from hsv.1)
   have HBr:=(show Hid _ from hBr)
   have HBur:=(show Hid _ from hBur)
   clear hVr hKr hRr hsv hBr hBur hmid
   go_wp2_with fail
   go_ret
   exact ⟨u3,rfl,HSv.out,kb,kcb,RR,rb,rcb,HVr.out,HKr.out,HRr.out,HBr.out,HBur.out⟩
end Go.Proofs.YtpaiholildedcaaGreat
