/- Texts. -/
import Derived.Test.YtkjbafcalamgnaaGreatVSizeViewer42
set_option linter.unusedSimpArgs false
set_option linter.unusedVariables false
set_option maxRecDepth 100000
set_option maxHeartbeats 32000000
namespace Go.Proofs.YtkjbafcalamgnaaGreat
open Go.RowKit
theorem zLw.of_same {w:World}{a:Option Addr}{n:Nat}{K K' R:Nat→Kp}(h:zLw w a n K R)(hs:∀ i,i<n→(K i).z=(K' i).z∧(K i).x=(K' i).x∧(K i).y=(K' i).y∧(K i).fn=(K' i).fn∧(K i).m=(K' i).m∧(K i).I=(K' i).I∧∀ j,j<(K i).fn→((K i).F j).same ((K' i).F j)):zLw w a n K' R:=by
 refine h.imp id (fun ⟨g,e,h1,h2⟩=>⟨g,e,h1,fun i hi=>⟨(h2 i hi).1,?_⟩⟩)
 obtain ⟨⟨a1,a2,a3⟩,b1,b2,⟨c1,c2⟩,d⟩:=(h2 i hi).2
 obtain ⟨e1,e2,e3,e4,e5,e6,e7⟩:=hs i hi
 refine ⟨⟨a1.trans e1,a2.trans e2,a3.trans e3⟩,b1.trans e4,b2.trans e5,⟨by rw [← e4];exact c1,fun j hj=>yC.same_trans (c2 j (by omega)) (e7 j (by omega))⟩,?_⟩
 rw [← e5,← e6];exact d
theorem zA2.sm {w:World}{B:Nat}{a:Option Addr}{n:Nat}{KL R:Nat→Kp}(h:zA2 w B a n KL R):zLw w a n KL R:=by
 rcases h with h | ⟨g,M,e,hB,hA,hT,hg,hM,hMn⟩
 ·exact .inl h
 have h0n:=upM (M:=M) (n:=n) (fun j hj=>(hM j hj).1) (Nat.zero_le n) (Nat.le_refl _)
 refine .inr ⟨g,e,by omega,fun i hi=>⟨?_,?_⟩⟩
 ·have:=hA i hi
  rw [if_pos hi] at this
  exact this
 ·have hin:=upM (M:=M) (n:=n) (fun j hj=>(hM j hj).1) (show i+1≤n by omega) (Nat.le_refl _)
  obtain ⟨_,h1,h2,h3,h4,md,h5,h6,⟨f1,f2,_⟩,h8⟩:=hM i hi
  refine ⟨h1,h2,h3,⟨by rw [← h2] at f1 ⊢;exact f1,fun j hj=>(f2 j hj).1⟩,?_⟩
  rcases h8 with h8 | ⟨ib,e1,_,e2,e3,_⟩
  ·exact .inl h8
  ·rw [e1];exact e3.is (by omega)
theorem zA2.mid {w w':World}{B:Nat}{a:Option Addr}{n:Nat}{KL R:Nat→Kp}{l h':Nat}(h:zA2 w B a n KL R)(hM:zK l h' w w')(hh:h'≤B):zA2 w' B a n KL R:=by
 refine h.imp id (fun ⟨g,M,e,hB,hA,hT,hg,hK,hMn⟩=>⟨g,M,e,hB,fun j hj=>?_,hM.there hT (.inr (by omega)),hg,fun j hj=>⟨(hK j hj).1,(hK j hj).2.mid hM ?_⟩,Nat.le_trans hMn hM.size⟩)
 ·obtain ⟨q0,q1,q2,q3,q4⟩:=hA j hj
  exact ⟨hM.cell q0 (.inr (by omega)),hM.cell q1 (.inr (by omega)),hM.cell q2 (.inr (by omega)),hM.cell q3 (.inr (by omega)),hM.cell q4 (.inr (by omega))⟩
 ·have:=upM (M:=M) (n:=n) (fun j hj=>(hK j hj).1) (Nat.zero_le j) (by omega)
  omega
theorem zA2.below {w w':World}{B:Nat}{a:Option Addr}{n:Nat}{KL R:Nat→Kp}(h:zA2 w B a n KL R)(hb:Below w.heap.size w w'):zA2 w' B a n KL R:=h.mid (zK.of_below (lo:=0) (hi:=0) hb) (Nat.zero_le _)
theorem zA2.small {w:World}{B:Nat}{a:Option Addr}{n:Nat}{KL R:Nat→Kp}(h:zA2 w B a n KL R)(hs:zI n KL):zI n R:=by
 refine ⟨hs.1,fun i hi=>?_⟩
 rcases h with h | ⟨g,M,e,hB,hA,hT,hg,hM,hMn⟩
 ·omega
 obtain ⟨_,h1,h2,h3,h4,md,h5,h6,⟨f1,f2,_⟩,h8⟩:=hM i hi
 have hk:=hs.2 i hi
 refine ⟨⟨by rw [h2];exact hk.1.1,fun j hj=>?_⟩,by rw [h3];exact hk.2⟩
 rw [h2] at hj
 obtain ⟨_,_,_,_,g5,_,_,g8,_⟩:=(f2 j hj).1
 rw [g5,g8]
 exact hk.1.2 j hj
def CrW (w:World)(B hi:Nat)(a:Option Addr)(n:Nat)(R:Nat→Kp):Prop:=n=0∨∃ g M,a=some ⟨g,0,none⟩∧B≤g∧KsW w g n R M∧M n≤hi
theorem zA2.crw {w:World}{B:Nat}{a:Option Addr}{n:Nat}{KL R:Nat→Kp}(h:zA2 w B a n KL R):CrW w B w.heap.size a n R:=by
 refine h.imp id (fun ⟨g,M,e,hB,hA,hT,hg,hM,hMn⟩=>⟨g,M,e,hB,⟨hT,hg,fun j hj=>⟨(hM j hj).1,?_,?_⟩,hMn⟩,hMn⟩)
 ·have:=hA j hj
  rw [if_pos hj] at this
  exact ⟨this.2.2.2.1,this.2.2.2.2⟩
 ·have hin:=upM (M:=M) (n:=n) (fun j hj=>(hM j hj).1) (show j+1≤n by omega) (Nat.le_refl _)
  obtain ⟨_,h1,h2,h3,h4,md,h5,h6,⟨_,_,f3⟩,h8⟩:=hM j hj
  refine ⟨md,h5,h6,by omega,?_,?_⟩
  ·rw [h2];exact f3
  ·rw [h3];exact h8.imp id (fun ⟨ib,e1,e2,e3,_,e5⟩=>⟨ib,e1,e2,e3,e5⟩)
theorem CrW.mid {w w':World}{B hi:Nat}{a:Option Addr}{n:Nat}{R:Nat→Kp}{l h':Nat}(h:CrW w B hi a n R)(hM:zK l h' w w')(hh:h'≤B):CrW w' B hi a n R:=h.imp id (fun ⟨g,M,e,hB,hK,hMn⟩=>⟨g,M,e,hB,hK.mid hM (.inl (by omega)),hMn⟩)
theorem CrW.below {w w':World}{B hi:Nat}{a:Option Addr}{n:Nat}{R:Nat→Kp}(h:CrW w B hi a n R)(hb:Below w.heap.size w w'):CrW w' B hi a n R:=h.mid (zK.of_below (lo:=0) (hi:=0) hb) (Nat.zero_le _)
theorem zIm (a:Option Addr)(c k:Int)(cap:Nat)(w:World):Calls Tryz.prog 84 #[.slice a 0 cap,.int .i64 k] w fun e w'=>e=.returned (.int .i64 k)∧w=w':=by
 go_enter Tryz.func84,Tryz.ntmps84
 go_wp2_with fail
 go_loopw [1,5] (fun kk i wr=>kk=.int .i64 k∧i=.int .i64 0∧w=wr) (fun _ _ _=>0)
 case atStart=>exact ⟨rfl,rfl,rfl⟩
 case round =>
  obtain ⟨rfl,rfl,rfl⟩:=hrel
  go_wp2
  go_ret
  exact ⟨rfl,rfl⟩
theorem zIt (a:Option Addr)(k:Int)(cap:Nat)(w:World):Calls Tryz.prog 140 #[.slice a 0 cap,.int .i64 k] w fun e w'=>e=.returned (.int .i64 k)∧w=w':=by
 go_enter Tryz.func140,Tryz.ntmps140
 go_wp2_with fail
 go_loopw [1,5] (fun kk i wr=>kk=.int .i64 k∧i=.int .i64 0∧w=wr) (fun _ _ _=>0)
 case atStart=>exact ⟨rfl,rfl,rfl⟩
 case round =>
  obtain ⟨rfl,rfl,rfl⟩:=hrel
  go_wp2
  go_ret
  exact ⟨rfl,rfl⟩
structure Va where
 c:Int
 tk:Bool
 m:Nat
 R:Rfs
 z:Int
 x:Int
 y:Int
 wd:Int
 ht:Int
 now:Int
 s:Int
 n:Nat
 K:Nat→Kp
 rn:Nat
 E:Nat→Req
 bad:Int
structure Vm where
 a1:Option Addr
 c1:Nat
 a2:Option Addr
 c2:Nat
 KR:Nat→Kp
 a3:Option Addr
 c3:Nat
abbrev vaV (v:Va)(u:Vm):Value:=.agg #[.int .i64 v.c,.bool v.tk,.slice u.a1 v.m u.c1,.int .i64 v.z,.int .i64 v.x,.int .i64 v.y,.int .i64 v.wd,.int .i64 v.ht,.int .i64 v.now,.int .i64 v.s,.slice u.a2 v.n u.c2,.slice u.a3 v.rn u.c3,.int .i64 v.bad]
abbrev vaL (v:Va)(u:Vm):List Value:=[.int .i64 v.c,.bool v.tk,.slice u.a1 v.m u.c1,.int .i64 v.z,.int .i64 v.x,.int .i64 v.y,.int .i64 v.wd,.int .i64 v.ht,.int .i64 v.now,.int .i64 v.s,.slice u.a2 v.n u.c2,.slice u.a3 v.rn u.c3,.int .i64 v.bad]
def zVb (v:Va):Prop:=v.m≤1048576∧v.n≤100∧zI v.n v.K∧v.rn≤1048576
def zEs (w:World)(v:Va)(u:Vm):Prop:=zH4 w u.a1 v.m v.R∧zLw w u.a2 v.n v.K u.KR∧xL w u.a3 v.rn v.E
theorem zEs.below {w w':World}{v:Va}{u:Vm}(h:zEs w v u)(hb:Below w.heap.size w w'):zEs w' v u:=⟨h.1.below hb,h.2.1.below hb,h.2.2.below hb⟩
def zN8 (T:Nat)(w:World)(v:Va)(u:Vm):Prop:=∃ W,T=W.heap.size∧zEs W v u∧Below T W w
theorem zN8.below {T:Nat}{w w':World}{v:Va}{u:Vm}(h:zN8 T w v u)(hb:Below T w w'):zN8 T w' v u:=by
 obtain ⟨W,e,h1,h2⟩:=h
 exact ⟨W,e,h1,h2.trans hb⟩
theorem zN8.is {T:Nat}{w:World}{v:Va}{u:Vm}(h:zN8 T w v u):zEs w v u:=by
 obtain ⟨W,e,h1,h2⟩:=h
 subst e
 exact h1.below h2
theorem zEs.un {w:World}{v:Va}{u:Vm}(h:zEs w v u):zN8 w.heap.size w v u:=⟨w,rfl,h,Below.refl _ _⟩
def OwT (lo hi:Nat)(w:World)(a:Option Addr)(m:Nat)(R:Rfs):Prop:=m=0∨∃ b,a=some ⟨b,0,none⟩∧lo≤b∧b<hi∧zLz w b 0 m R∧zC w b (m * 3)
def OwR (lo hi:Nat)(w:World)(a:Option Addr)(n:Nat)(E:Nat→Req):Prop:=n=0∨∃ b,a=some ⟨b,0,none⟩∧lo≤b∧b<hi∧zAj w b 0 n E∧zC w b (n * 5)
theorem OwT.mid {lo hi l h:Nat}{w w':World}{a:Option Addr}{m:Nat}{R:Rfs}(hO:OwT lo hi w a m R)(hM:zK l h w w')(ho:h≤lo∨hi≤l):OwT lo hi w' a m R :=
 hO.imp id fun ⟨b,e,h1,h2,h3,h4⟩=>⟨b,e,h1,h2,h3.mid hM (by omega),hM.there h4 (by omega)⟩
theorem OwR.mid {lo hi l h:Nat}{w w':World}{a:Option Addr}{n:Nat}{E:Nat→Req}(hO:OwR lo hi w a n E)(hM:zK l h w w')(ho:h≤lo∨hi≤l):OwR lo hi w' a n E :=
 hO.imp id fun ⟨b,e,h1,h2,h3,h4⟩=>⟨b,e,h1,h2,h3.mid hM (by omega),hM.there h4 (by omega)⟩
theorem OwT.wide {lo hi lo' hi':Nat}{w:World}{a:Option Addr}{m:Nat}{R:Rfs}(h:OwT lo hi w a m R)(h1:lo'≤lo)(h2:hi≤hi'):OwT lo' hi' w a m R :=
 h.imp id fun ⟨b,e,h3,h4,h5⟩=>⟨b,e,by omega,by omega,h5⟩
theorem OwR.wide {lo hi lo' hi':Nat}{w:World}{a:Option Addr}{n:Nat}{E:Nat→Req}(h:OwR lo hi w a n E)(h1:lo'≤lo)(h2:hi≤hi'):OwR lo' hi' w a n E :=
 h.imp id fun ⟨b,e,h3,h4,h5⟩=>⟨b,e,by omega,by omega,h5⟩
theorem OwT.is {lo hi:Nat}{w:World}{a:Option Addr}{m:Nat}{R:Rfs}(h:OwT lo hi w a m R)(hh:hi≤w.heap.size):zH4 w a m R :=
 h.imp id fun ⟨b,e,_,h2,h3,_⟩=>⟨b,0,e,by omega,h3⟩
theorem OwR.is {lo hi:Nat}{w:World}{a:Option Addr}{n:Nat}{E:Nat→Req}(h:OwR lo hi w a n E)(hh:hi≤w.heap.size):xL w a n E :=
 h.imp id fun ⟨b,e,_,h2,h3,_⟩=>⟨b,0,e,by omega,h3⟩
theorem zN4.ow {base c:Nat}{w:World}{a:Option Addr}{m:Nat}{R:Rfs}(h:zN4 w base (.slice a m c) m R):OwT base w.heap.size w a m R:=by
 obtain ⟨a',c',hv,_,h0 | ⟨b,e,h1,h2,h3,h4⟩⟩:=h
 ·exact .inl h0
 ·injection hv with hv
  exact .inr ⟨b,hv.trans e,h1,h2,h3,h4⟩
theorem zF8.ow {base c:Nat}{w:World}{a:Option Addr}{n:Nat}{E:Nat→Req}(h:zF8 w base (.slice a n c) n E):OwR base w.heap.size w a n E:=by
 obtain ⟨a',c',hv,_,h0 | ⟨b,e,h1,h2,h3,h4⟩⟩:=h
 ·exact .inl h0
 ·injection hv with hv
  exact .inr ⟨b,hv.trans e,h1,h2,h3,h4⟩
def zAk (lo hi:Nat)(w:World)(v:Va)(u:Vm):Prop :=
 ∃ l h,lo≤l∧l≤h∧h≤hi∧hi≤w.heap.size∧OwT lo l w u.a1 v.m v.R∧zA2 w l u.a2 v.n v.K u.KR∧CrW w l h u.a2 v.n u.KR∧OwR h hi w u.a3 v.rn v.E
theorem zAk.is {lo hi:Nat}{w:World}{v:Va}{u:Vm}(h:zAk lo hi w v u):zEs w v u:=by
 obtain ⟨l,q,h1,h2,h3,h4,h5,h6,_,h7⟩:=h
 exact ⟨h5.is (by omega),h6.sm,h7.is h4⟩
theorem zAk.mid {lo hi l' h':Nat}{w w':World}{v:Va}{u:Vm}(h:zAk lo hi w v u)(hM:zK l' h' w w')(ho:h'≤lo):zAk lo hi w' v u:=by
 obtain ⟨l,q,h1,h2,h3,h4,h5,h6,h8,h7⟩:=h
 exact ⟨l,q,h1,h2,h3,Nat.le_trans h4 hM.size,h5.mid hM (.inl ho),h6.mid hM (by omega),h8.mid hM (by omega),h7.mid hM (.inl (by omega))⟩
theorem zAk.below {lo hi:Nat}{w w':World}{v:Va}{u:Vm}(h:zAk lo hi w v u)(hb:Below w.heap.size w w'):zAk lo hi w' v u:=h.mid (zK.of_below (lo:=0) (hi:=0) hb) (Nat.zero_le _)
theorem zAk.lower {lo lo' hi:Nat}{w:World}{v:Va}{u:Vm}(h:zAk lo hi w v u)(hl:lo'≤lo):zAk lo' hi w v u:=by
 obtain ⟨l,q,h1,h2,h3,h4,h5,h6⟩:=h
 exact ⟨l,q,by omega,h2,h3,h4,h5.wide hl (Nat.le_refl _),h6⟩
theorem zIv (v:Va)(u t:Vm)(w:World)(hu:zEs w v u)(ht:zEs w v t)(hs:zVb v) :
  Calls Tryz.prog 12 #[vwV v.z v.x v.y v.wd v.ht v.now v.s (.slice u.a2 v.n u.c2) (.slice u.a3 v.rn u.c3) v.bad,vwV v.z v.x v.y v.wd v.ht v.now v.s (.slice t.a2 v.n t.c2) (.slice t.a3 v.rn t.c3) v.bad] w fun e w'=>e=.returned (.bool true)∧Bw w w':=by
 obtain ⟨_,hu2,hu3⟩:=hu
 obtain ⟨_,ht2,ht3⟩:=ht
 obtain ⟨_,_,hs2,hs3⟩:=hs
 obtain ⟨c,tk,m,R,z,x,y,wd,ht,now,s,n,K,rn,E,bad⟩:=v
 obtain ⟨a1,c1,a2,c2,KR,a3,c3⟩:=u
 obtain ⟨d1,e1,d2,e2,KT,d3,e3⟩:=t
 dsimp only at *
 have HU2:Hid (zLw w a2 n K KR):=hu2
 have HT2:Hid (zLw w d2 n K KT):=ht2
 have HU3:Hid (xL w a3 rn E):=hu3
 have HT3:Hid (xL w d3 rn E):=ht3
 have HS:Hid (zI n K):=hs2
 clear hu2 ht2 hu3 ht3 hs2
 go_enter Tryz.func12,Tryz.ntmps12
 go_wp2_with fail
 generalize hW:((w.alloc _).alloc _:World)=W
 have HB0:Hid (Bw w W):=by show Below _ _ _;subst hW;exact Qb
 have HV:Hid (Blk W w.heap.size [.int .i64 z,.int .i64 x,.int .i64 y,.int .i64 wd,.int .i64 ht,.int .i64 now,.int .i64 s,.slice a2 n c2,.slice a3 rn c3,.int .i64 bad]):=by show Blk _ _ _;subst hW;exact (Blk.new w _ _).alloc (by simp) _
 have HU:Hid (Blk W (w.heap.size+1) [.int .i64 z,.int .i64 x,.int .i64 y,.int .i64 wd,.int .i64 ht,.int .i64 now,.int .i64 s,.slice d2 n e2,.slice d3 rn e3,.int .i64 bad]):=by
  show Blk _ _ _;subst hW
  have:=Blk.new (w.alloc (.cells #[.int .i64 z,.int .i64 x,.int .i64 y,.int .i64 wd,.int .i64 ht,.int .i64 now,.int .i64 s,.slice a2 n c2,.slice a3 rn c3,.int .i64 bad] 38)) [.int .i64 z,.int .i64 x,.int .i64 y,.int .i64 wd,.int .i64 ht,.int .i64 now,.int .i64 s,.slice d2 n e2,.slice d3 rn e3,.int .i64 bad] 38
  simpa using this
 clear hW
 refine (zFk z x y wd ht W).mono ?_
 rintro e w1 ⟨rfl,hb1⟩
 have HB1:Hid (Bw w w1):=zA HB0.out hb1
 have HV1:Hid (∀ W',Bw w1 W'→Blk W' w.heap.size [.int .i64 z,.int .i64 x,.int .i64 y,.int .i64 wd,.int .i64 ht,.int .i64 now,.int .i64 s,.slice a2 n c2,.slice a3 rn c3,.int .i64 bad]):=fun W' h=>HV.out.below HV.out.lt (zA hb1 h)
 have HU1:Hid (∀ W',Bw w1 W'→Blk W' (w.heap.size+1) [.int .i64 z,.int .i64 x,.int .i64 y,.int .i64 wd,.int .i64 ht,.int .i64 now,.int .i64 s,.slice d2 n e2,.slice d3 rn e3,.int .i64 bad]):=fun W' h=>HU.out.below HU.out.lt (zA hb1 h)
 have hv:=HV1.out w1 (Below.refl _ _)
 have hu:=HU1.out w1 (Below.refl _ _)
 obtain ⟨v0,v1,v2,v3,v4,v5,v6,v7,v8,v9⟩:=Blk.c10 hv
 obtain ⟨u0,u1,u2,u3,u4,u5,u6,u7,u8,u9⟩:=Blk.c10 hu
 clear hb1 HB0 HV HU hv hu
 have HQ:=(show Hid _ from zLm s a2 d2 n c2 e2 K KR KT w1 (HU2.out.below HB1.out) (HT2.out.below HB1.out) HS.out)
 go_wp2_with fail
 refine Calls.mono HQ.out ?_
 rintro e w2 ⟨rfl,hb2⟩
 have HB2:Hid (Bw w w2):=zA HB1.out hb2
 clear v0 u0 v1 u1 v2 u2 v3 u3 v4 u4 v5 u5 v6 u6 v7 u7 v8 u8 v9 u9
 have hv:=HV1.out w2 hb2
 have hu:=HU1.out w2 hb2
 obtain ⟨v0,v1,v2,v3,v4,v5,v6,v7,v8,v9⟩:=Blk.c10 hv
 obtain ⟨u0,u1,u2,u3,u4,u5,u6,u7,u8,u9⟩:=Blk.c10 hu
 have HV2:Hid (∀ W',Bw w2 W'→Blk W' w.heap.size [.int .i64 z,.int .i64 x,.int .i64 y,.int .i64 wd,.int .i64 ht,.int .i64 now,.int .i64 s,.slice a2 n c2,.slice a3 rn c3,.int .i64 bad]):=fun W' h=>HV1.out W' (zA hb2 h)
 have HU2':Hid (∀ W',Bw w2 W'→Blk W' (w.heap.size+1) [.int .i64 z,.int .i64 x,.int .i64 y,.int .i64 wd,.int .i64 ht,.int .i64 now,.int .i64 s,.slice d2 n e2,.slice d3 rn e3,.int .i64 bad]):=fun W' h=>HU1.out W' (zA hb2 h)
 clear hv hu hb2 HQ HB1 HV1 HU1
 have HQ:=(show Hid _ from zCv a3 d3 rn c3 e3 E w2 (HU3.out.below HB2.out) (HT3.out.below HB2.out) hs3)
 go_wp2_with fail
 refine Calls.mono HQ.out ?_
 rintro e w3 ⟨rfl,hb3⟩
 have HB3:Hid (Bw w w3):=zA HB2.out hb3
 clear v0 u0 v1 u1 v2 u2 v3 u3 v4 u4 v5 u5 v6 u6 v7 u7 v8 u8 v9 u9
 have v9:=(HV2.out w3 hb3).cell 9 rfl
 have u9:=(HU2'.out w3 hb3).cell 9 rfl
 clear hb3 HQ HB2 HV2 HU2'
 go_wp2
 go_ret
 exact ⟨rfl,HB3.out⟩
theorem eqVa (v:Va)(u t:Vm)(w:World)(hu:zEs w v u)(ht:zEs w v t)(hs:zVb v) :
  Calls Tryz.prog 11 #[vaV v u,vaV v t] w fun e w'=>e=.returned (.bool true)∧Bw w w':=by
 have HE:Hid (∀ W,Bw w W→Calls Tryz.prog 12 #[vwV v.z v.x v.y v.wd v.ht v.now v.s (.slice u.a2 v.n u.c2) (.slice u.a3 v.rn u.c3) v.bad,vwV v.z v.x v.y v.wd v.ht v.now v.s (.slice t.a2 v.n t.c2) (.slice t.a3 v.rn t.c3) v.bad] W fun e w'=>e=.returned (.bool true)∧Bw W w'):=fun W h=>zIv v u t W (hu.below h) (ht.below h) hs
 have HS:Hid (∀ W,Bw w W→Calls Tryz.prog 37 #[.slice u.a1 v.m u.c1,.slice t.a1 v.m t.c1] W fun e w'=>e=.returned (.bool true)∧Bw W w'):=fun W h=>zSk _ _ _ _ _ v.R _ (hu.1.below h) (ht.1.below h) hs.1
 clear hu ht hs
 obtain ⟨c,tk,m,R,z,x,y,wd,ht,now,s,n,K,rn,E,bad⟩:=v
 obtain ⟨a1,c1,a2,c2,KR,a3,c3⟩:=u
 obtain ⟨d1,e1,d2,e2,KT,d3,e3⟩:=t
 dsimp only at HE HS
 go_enter Tryz.func11,Tryz.ntmps11
 go_wp2_with fail
 generalize hW:((w.alloc _).alloc _:World)=W
 have HB0:Hid (Bw w W):=by show Below _ _ _;subst hW;exact Qb
 have HV:Hid (Blk W w.heap.size (vaL ⟨c,tk,m,R,z,x,y,wd,ht,now,s,n,K,rn,E,bad⟩ ⟨a1,c1,a2,c2,KR,a3,c3⟩)):=by show Blk _ _ _;subst hW;exact (Blk.new w _ _).alloc (by simp) _
 have HU:Hid (Blk W (w.heap.size+1) (vaL ⟨c,tk,m,R,z,x,y,wd,ht,now,s,n,K,rn,E,bad⟩ ⟨d1,e1,d2,e2,KT,d3,e3⟩)):=by
  show Blk _ _ _;subst hW
  have:=Blk.new (w.alloc (.cells #[.int .i64 c,.bool tk,.slice a1 m c1,.int .i64 z,.int .i64 x,.int .i64 y,.int .i64 wd,.int .i64 ht,.int .i64 now,.int .i64 s,.slice a2 n c2,.slice a3 rn c3,.int .i64 bad] 40)) [.int .i64 c,.bool tk,.slice d1 m e1,.int .i64 z,.int .i64 x,.int .i64 y,.int .i64 wd,.int .i64 ht,.int .i64 now,.int .i64 s,.slice d2 n e2,.slice d3 rn e3,.int .i64 bad] 40
  simpa using this
 clear hW
 have htk:(tk != tk)=false:=by cases tk <;> rfl
 refine Calls.mono (HS.out W HB0.out) ?_
 rintro e w1 ⟨rfl,hb1⟩
 have HB1:Hid (Bw w w1):=zA HB0.out hb1
 have hv:=HV.out.below HV.out.lt hb1
 have hu:=HU.out.below HU.out.lt hb1
 obtain ⟨v0,v1,v2,v3,v4,v5,v6,v7,v8,v9,v10,v11,v12⟩:=Blk.c13 hv
 obtain ⟨u0,u1,u2,u3,u4,u5,u6,u7,u8,u9,u10,u11,u12⟩:=Blk.c13 hu
 clear hb1 HB0 HV HU hv hu
 have HQ:=(show Hid _ from HE.out w1 HB1.out)
 go_wp2_with fail
 refine Calls.mono HQ.out ?_
 rintro e w2 ⟨rfl,hb2⟩
 have HB2:Hid (Bw w w2):=zA HB1.out hb2
 clear v0 u0 v1 u1 v2 u2 v3 u3 v4 u4 v5 u5 v6 u6 v7 u7 v8 u8 v9 u9 v10 u10 v11 u11 v12 u12 hb2
 go_wp2
 go_ret
 exact ⟨rfl,HB2.out⟩
theorem yW.sameK {w:World}{B b n:Nat}{K A:Nat→Kp}(h:yW w B b n K A){i:Nat}(hi:i<n):(A i).z=(K i).z∧(A i).x=(K i).x∧(A i).y=(K i).y∧(A i).fn=(K i).fn∧(A i).m=(K i).m∧(A i).I=(K i).I∧∀ j,j<(A i).fn→((A i).F j).same ((K i).F j):=by
 obtain ⟨⟨e1,e2,e3⟩,⟨fb,_,e4,_,hF⟩,ib,_,e5,_,e6,_⟩:=(h.2.2 i hi).2
 exact ⟨e1,e2,e3,e4,e5,e6,fun j hj=>(hF.2.2.2 j (by omega)).1⟩
theorem zA2.of_same {w:World}{B:Nat}{a:Option Addr}{n:Nat}{K K' R:Nat→Kp}(h:zA2 w B a n K R)(hs:∀ i,i<n→(K i).z=(K' i).z∧(K i).x=(K' i).x∧(K i).y=(K' i).y∧(K i).fn=(K' i).fn∧(K i).m=(K' i).m∧(K i).I=(K' i).I∧∀ j,j<(K i).fn→((K i).F j).same ((K' i).F j)):zA2 w B a n K' R:=by
 refine h.imp id (fun ⟨g,M,e,hB,hA,hT,hg,hM,hMn⟩=>⟨g,M,e,hB,fun j hj=>?_,hT,hg,fun j hj=>⟨(hM j hj).1,?_⟩,hMn⟩)
 ·have:=hA j hj
  rw [if_pos hj] at this ⊢
  exact this
 ·obtain ⟨_,⟨a1,a2,a3⟩,h2,h3,h4,md,h5,h6,⟨f1,f2,f3⟩,h8⟩:=hM j hj
  obtain ⟨e1,e2,e3,e4,e5,e6,e7⟩:=hs j hj
  refine ⟨⟨a1.trans e1,a2.trans e2,a3.trans e3⟩,h2.trans e4,h3.trans e5,h4.trans e6,md,h5,h6,⟨by rw [← e4];exact f1,fun i hi=>⟨yC.same_trans (f2 i (by omega)).1 (e7 i (by omega)),(f2 i (by omega)).2⟩,by rw [← e4];exact f3⟩,?_⟩
  rw [← e5,← e6]
  exact h8
end Go.Proofs.YtkjbafcalamgnaaGreat
