/- Texts. -/
import Derived.Test.YtpaiholildedcaaGreatVNewViewer27
set_option linter.unusedSimpArgs false
set_option linter.unusedVariables false
set_option maxRecDepth 100000
set_option maxHeartbeats 32000000
namespace Go.Proofs.YtpaiholildedcaaGreat
open Go.RowKit
structure Va where
 c:Int
 tk:Bool
 m:Nat
 R:Rfs
 z:Int
 x:Int
 y:Int
 wd:Int
 ht:Int
 now:Int
 s:Int
 n:Nat
 K:Nat→Kp
 rn:Nat
 E:Nat→Req
 bad:Int
structure Vm where
 a1:Option Addr
 c1:Nat
 a2:Option Addr
 c2:Nat
 KR:Nat→Kp
 a3:Option Addr
 c3:Nat
abbrev vaV (v:Va)(u:Vm):Value:=.agg #[.int .i64 v.c,.bool v.tk,.slice u.a1 v.m u.c1,.int .i64 v.z,.int .i64 v.x,.int .i64 v.y,.int .i64 v.wd,.int .i64 v.ht,.int .i64 v.now,.int .i64 v.s,.slice u.a2 v.n u.c2,.slice u.a3 v.rn u.c3,.int .i64 v.bad]
abbrev vaL (v:Va)(u:Vm):List Value:=[.int .i64 v.c,.bool v.tk,.slice u.a1 v.m u.c1,.int .i64 v.z,.int .i64 v.x,.int .i64 v.y,.int .i64 v.wd,.int .i64 v.ht,.int .i64 v.now,.int .i64 v.s,.slice u.a2 v.n u.c2,.slice u.a3 v.rn u.c3,.int .i64 v.bad]
def zK5 (v:Va):Prop:=v.m≤1048576∧v.n≤100∧yE v.n v.K∧v.rn≤1048576
def zC7 (w:World)(v:Va)(u:Vm):Prop:=zC4 w u.a1 v.m v.R∧zHm w u.a2 v.n v.K u.KR∧xV w u.a3 v.rn v.E
theorem zC7.below {w w':World}{v:Va}{u:Vm}(h:zC7 w v u)(hb:Below w.heap.size w w'):zC7 w' v u:=⟨h.1.below hb,h.2.1.below hb,h.2.2.below hb⟩
def zI8 (T:Nat)(w:World)(v:Va)(u:Vm):Prop:=∃ W,T=W.heap.size∧zC7 W v u∧Below T W w
theorem zI8.below {T:Nat}{w w':World}{v:Va}{u:Vm}(h:zI8 T w v u)(hb:Below T w w'):zI8 T w' v u:=by
 obtain ⟨W,e,h1,h2⟩:=h
 exact ⟨W,e,h1,h2.trans hb⟩
theorem zI8.is {T:Nat}{w:World}{v:Va}{u:Vm}(h:zI8 T w v u):zC7 w v u:=by
 obtain ⟨W,e,h1,h2⟩:=h
 subst e
 exact h1.below h2
theorem zC7.un {w:World}{v:Va}{u:Vm}(h:zC7 w v u):zI8 w.heap.size w v u:=⟨w,rfl,h,Below.refl _ _⟩
def OwT (lo hi:Nat)(w:World)(a:Option Addr)(m:Nat)(R:Rfs):Prop:=m=0∨∃ b,a=some ⟨b,0,none⟩∧lo≤b∧b<hi∧zFf w b 0 m R∧zC w b (m * 3)
def OwR (lo hi:Nat)(w:World)(a:Option Addr)(n:Nat)(E:Nat→Req):Prop:=n=0∨∃ b,a=some ⟨b,0,none⟩∧lo≤b∧b<hi∧vG w b 0 n E∧zC w b (n * 5)
theorem OwT.mid {lo hi l h:Nat}{w w':World}{a:Option Addr}{m:Nat}{R:Rfs}(hO:OwT lo hi w a m R)(hM:zI l h w w')(ho:h≤lo∨hi≤l):OwT lo hi w' a m R :=
 hO.imp id fun ⟨b,e,h1,h2,h3,h4⟩=>⟨b,e,h1,h2,h3.mid hM (by omega),hM.there h4 (by omega)⟩
theorem OwR.mid {lo hi l h:Nat}{w w':World}{a:Option Addr}{n:Nat}{E:Nat→Req}(hO:OwR lo hi w a n E)(hM:zI l h w w')(ho:h≤lo∨hi≤l):OwR lo hi w' a n E :=
 hO.imp id fun ⟨b,e,h1,h2,h3,h4⟩=>⟨b,e,h1,h2,h3.mid hM (by omega),hM.there h4 (by omega)⟩
theorem OwT.wide {lo hi lo' hi':Nat}{w:World}{a:Option Addr}{m:Nat}{R:Rfs}(h:OwT lo hi w a m R)(h1:lo'≤lo)(h2:hi≤hi'):OwT lo' hi' w a m R :=
 h.imp id fun ⟨b,e,h3,h4,h5⟩=>⟨b,e,by omega,by omega,h5⟩
theorem OwR.wide {lo hi lo' hi':Nat}{w:World}{a:Option Addr}{n:Nat}{E:Nat→Req}(h:OwR lo hi w a n E)(h1:lo'≤lo)(h2:hi≤hi'):OwR lo' hi' w a n E :=
 h.imp id fun ⟨b,e,h3,h4,h5⟩=>⟨b,e,by omega,by omega,h5⟩
theorem OwT.is {lo hi:Nat}{w:World}{a:Option Addr}{m:Nat}{R:Rfs}(h:OwT lo hi w a m R)(hh:hi≤w.heap.size):zC4 w a m R :=
 h.imp id fun ⟨b,e,_,h2,h3,_⟩=>⟨b,0,e,by omega,h3⟩
theorem OwR.is {lo hi:Nat}{w:World}{a:Option Addr}{n:Nat}{E:Nat→Req}(h:OwR lo hi w a n E)(hh:hi≤w.heap.size):xV w a n E :=
 h.imp id fun ⟨b,e,_,h2,h3,_⟩=>⟨b,0,e,by omega,h3⟩
theorem zGk.ow {base c:Nat}{w:World}{a:Option Addr}{m:Nat}{R:Rfs}(h:zGk w base (.slice a m c) m R):OwT base w.heap.size w a m R:=by
 obtain ⟨a',c',hv,_,h0 | ⟨b,e,h1,h2,h3,h4⟩⟩:=h
 ·exact .inl h0
 ·injection hv with hv
  exact .inr ⟨b,hv.trans e,h1,h2,h3,h4⟩
theorem zCb.ow {base c:Nat}{w:World}{a:Option Addr}{n:Nat}{E:Nat→Req}(h:zCb w base (.slice a n c) n E):OwR base w.heap.size w a n E:=by
 obtain ⟨a',c',hv,_,h0 | ⟨b,e,h1,h2,h3,h4⟩⟩:=h
 ·exact .inl h0
 ·injection hv with hv
  exact .inr ⟨b,hv.trans e,h1,h2,h3,h4⟩
def zA3 (lo hi:Nat)(w:World)(v:Va)(u:Vm):Prop :=
 ∃ l h,lo≤l∧l≤h∧h≤hi∧hi≤w.heap.size∧OwT lo l w u.a1 v.m v.R∧uD w l u.a2 v.n v.K u.KR∧CrW w l h u.a2 v.n u.KR∧OwR h hi w u.a3 v.rn v.E
theorem zA3.is {lo hi:Nat}{w:World}{v:Va}{u:Vm}(h:zA3 lo hi w v u):zC7 w v u:=by
 obtain ⟨l,q,h1,h2,h3,h4,h5,h6,_,h7⟩:=h
 exact ⟨h5.is (by omega),h6.sm,h7.is h4⟩
theorem zA3.mid {lo hi l' h':Nat}{w w':World}{v:Va}{u:Vm}(h:zA3 lo hi w v u)(hM:zI l' h' w w')(ho:h'≤lo):zA3 lo hi w' v u:=by
 obtain ⟨l,q,h1,h2,h3,h4,h5,h6,h8,h7⟩:=h
 exact ⟨l,q,h1,h2,h3,Nat.le_trans h4 hM.size,h5.mid hM (.inl ho),h6.mid hM (by omega),h8.mid hM (by omega),h7.mid hM (.inl (by omega))⟩
theorem zA3.below {lo hi:Nat}{w w':World}{v:Va}{u:Vm}(h:zA3 lo hi w v u)(hb:Below w.heap.size w w'):zA3 lo hi w' v u:=h.mid (zI.of_below (lo:=0) (hi:=0) hb) (Nat.zero_le _)
theorem zA3.lower {lo lo' hi:Nat}{w:World}{v:Va}{u:Vm}(h:zA3 lo hi w v u)(hl:lo'≤lo):zA3 lo' hi w v u:=by
 obtain ⟨l,q,h1,h2,h3,h4,h5,h6⟩:=h
 exact ⟨l,q,by omega,h2,h3,h4,h5.wide hl (Nat.le_refl _),h6⟩
theorem zDp (v:Va)(u t:Vm)(w:World)(hu:zC7 w v u)(ht:zC7 w v t)(hs:zK5 v) :
  Calls Tryz.prog 18 #[vwV v.z v.x v.y v.wd v.ht v.now v.s (.slice u.a2 v.n u.c2) (.slice u.a3 v.rn u.c3) v.bad,vwV v.z v.x v.y v.wd v.ht v.now v.s (.slice t.a2 v.n t.c2) (.slice t.a3 v.rn t.c3) v.bad] w fun e w'=>e=.returned (.bool true)∧Bw w w':=by
 obtain ⟨_,hu2,hu3⟩:=hu
 obtain ⟨_,ht2,ht3⟩:=ht
 obtain ⟨_,_,hs2,hs3⟩:=hs
 obtain ⟨c,tk,m,R,z,x,y,wd,ht,now,s,n,K,rn,E,bad⟩:=v
 obtain ⟨a1,c1,a2,c2,KR,a3,c3⟩:=u
 obtain ⟨d1,e1,d2,e2,KT,d3,e3⟩:=t
 dsimp only at *
 have HU2:Hid (zHm w a2 n K KR):=hu2
 have HT2:Hid (zHm w d2 n K KT):=ht2
 have HU3:Hid (xV w a3 rn E):=hu3
 have HT3:Hid (xV w d3 rn E):=ht3
 have HS:Hid (yE n K):=hs2
 clear hu2 ht2 hu3 ht3 hs2
 go_enter Tryz.func18,Tryz.ntmps18
 go_wp2_with fail
 generalize hW:((w.alloc _).alloc _:World)=W
 have HB0:Hid (Bw w W):=by show Below _ _ _;subst hW;exact Qb
 have HV:Hid (Blk W w.heap.size [.int .i64 z,.int .i64 x,.int .i64 y,.int .i64 wd,.int .i64 ht,.int .i64 now,.int .i64 s,.slice a2 n c2,.slice a3 rn c3,.int .i64 bad]):=by show Blk _ _ _;subst hW;exact (Blk.new w _ _).alloc (by simp) _
 have HU:Hid (Blk W (w.heap.size+1) [.int .i64 z,.int .i64 x,.int .i64 y,.int .i64 wd,.int .i64 ht,.int .i64 now,.int .i64 s,.slice d2 n e2,.slice d3 rn e3,.int .i64 bad]):=by
  show Blk _ _ _;subst hW
  have:=Blk.new (w.alloc (.cells #[.int .i64 z,.int .i64 x,.int .i64 y,.int .i64 wd,.int .i64 ht,.int .i64 now,.int .i64 s,.slice a2 n c2,.slice a3 rn c3,.int .i64 bad] 31)) [.int .i64 z,.int .i64 x,.int .i64 y,.int .i64 wd,.int .i64 ht,.int .i64 now,.int .i64 s,.slice d2 n e2,.slice d3 rn e3,.int .i64 bad] 31
  simpa using this
 clear hW
 refine (zGa z x y wd ht W).mono ?_
 rintro e w1 ⟨rfl,hb1⟩
 have HB1:Hid (Bw w w1):=zB HB0.out hb1
 have HV1:Hid (∀ W',Bw w1 W'→Blk W' w.heap.size [.int .i64 z,.int .i64 x,.int .i64 y,.int .i64 wd,.int .i64 ht,.int .i64 now,.int .i64 s,.slice a2 n c2,.slice a3 rn c3,.int .i64 bad]):=fun W' h=>HV.out.below HV.out.lt (zB hb1 h)
 have HU1:Hid (∀ W',Bw w1 W'→Blk W' (w.heap.size+1) [.int .i64 z,.int .i64 x,.int .i64 y,.int .i64 wd,.int .i64 ht,.int .i64 now,.int .i64 s,.slice d2 n e2,.slice d3 rn e3,.int .i64 bad]):=fun W' h=>HU.out.below HU.out.lt (zB hb1 h)
 have hv:=HV1.out w1 (Below.refl _ _)
 have hu:=HU1.out w1 (Below.refl _ _)
 obtain ⟨v0,v1,v2,v3,v4,v5,v6,v7,v8,v9⟩:=Blk.c10 hv
 obtain ⟨u0,u1,u2,u3,u4,u5,u6,u7,u8,u9⟩:=Blk.c10 hu
 clear hb1 HB0 HV HU hv hu
 have HQ:=(show Hid _ from zE8 s a2 d2 n c2 e2 K KR KT w1 (HU2.out.below HB1.out) (HT2.out.below HB1.out) HS.out)
 go_wp2_with fail
 refine Calls.mono HQ.out ?_
 rintro e w2 ⟨rfl,hb2⟩
 have HB2:Hid (Bw w w2):=zB HB1.out hb2
 clear v0 u0 v1 u1 v2 u2 v3 u3 v4 u4 v5 u5 v6 u6 v7 u7 v8 u8 v9 u9
 have hv:=HV1.out w2 hb2
 have hu:=HU1.out w2 hb2
 obtain ⟨v0,v1,v2,v3,v4,v5,v6,v7,v8,v9⟩:=Blk.c10 hv
 obtain ⟨u0,u1,u2,u3,u4,u5,u6,u7,u8,u9⟩:=Blk.c10 hu
 have HV2:Hid (∀ W',Bw w2 W'→Blk W' w.heap.size [.int .i64 z,.int .i64 x,.int .i64 y,.int .i64 wd,.int .i64 ht,.int .i64 now,.int .i64 s,.slice a2 n c2,.slice a3 rn c3,.int .i64 bad]):=fun W' h=>HV1.out W' (zB hb2 h)
 have HU2':Hid (∀ W',Bw w2 W'→Blk W' (w.heap.size+1) [.int .i64 z,.int .i64 x,.int .i64 y,.int .i64 wd,.int .i64 ht,.int .i64 now,.int .i64 s,.slice d2 n e2,.slice d3 rn e3,.int .i64 bad]):=fun W' h=>HU1.out W' (zB hb2 h)
 clear hv hu hb2 HQ HB1 HV1 HU1
 have HQ:=(show Hid _ from zDq a3 d3 rn c3 e3 E w2 (HU3.out.below HB2.out) (HT3.out.below HB2.out) hs3)
 go_wp2_with fail
 refine Calls.mono HQ.out ?_
 rintro e w3 ⟨rfl,hb3⟩
 have HB3:Hid (Bw w w3):=zB HB2.out hb3
 clear v0 u0 v1 u1 v2 u2 v3 u3 v4 u4 v5 u5 v6 u6 v7 u7 v8 u8 v9 u9
 have v9:=(HV2.out w3 hb3).cell 9 rfl
 have u9:=(HU2'.out w3 hb3).cell 9 rfl
 clear hb3 HQ HB2 HV2 HU2'
 go_wp2
 go_ret
 exact ⟨rfl,HB3.out⟩
theorem eqVa (v:Va)(u t:Vm)(w:World)(hu:zC7 w v u)(ht:zC7 w v t)(hs:zK5 v) :
  Calls Tryz.prog 10 #[vaV v u,vaV v t] w fun e w'=>e=.returned (.bool true)∧Bw w w':=by
 have HE:Hid (∀ W,Bw w W→Calls Tryz.prog 18 #[vwV v.z v.x v.y v.wd v.ht v.now v.s (.slice u.a2 v.n u.c2) (.slice u.a3 v.rn u.c3) v.bad,vwV v.z v.x v.y v.wd v.ht v.now v.s (.slice t.a2 v.n t.c2) (.slice t.a3 v.rn t.c3) v.bad] W fun e w'=>e=.returned (.bool true)∧Bw W w'):=fun W h=>zDp v u t W (hu.below h) (ht.below h) hs
 have HS:Hid (∀ W,Bw w W→Calls Tryz.prog 37 #[.slice u.a1 v.m u.c1,.slice t.a1 v.m t.c1] W fun e w'=>e=.returned (.bool true)∧Bw W w'):=fun W h=>zI4 _ _ _ _ _ v.R _ (hu.1.below h) (ht.1.below h) hs.1
 clear hu ht hs
 obtain ⟨c,tk,m,R,z,x,y,wd,ht,now,s,n,K,rn,E,bad⟩:=v
 obtain ⟨a1,c1,a2,c2,KR,a3,c3⟩:=u
 obtain ⟨d1,e1,d2,e2,KT,d3,e3⟩:=t
 dsimp only at HE HS
 go_enter Tryz.func10,Tryz.ntmps10
 go_wp2_with fail
 generalize hW:((w.alloc _).alloc _:World)=W
 have HB0:Hid (Bw w W):=by show Below _ _ _;subst hW;exact Qb
 have HV:Hid (Blk W w.heap.size (vaL ⟨c,tk,m,R,z,x,y,wd,ht,now,s,n,K,rn,E,bad⟩ ⟨a1,c1,a2,c2,KR,a3,c3⟩)):=by show Blk _ _ _;subst hW;exact (Blk.new w _ _).alloc (by simp) _
 have HU:Hid (Blk W (w.heap.size+1) (vaL ⟨c,tk,m,R,z,x,y,wd,ht,now,s,n,K,rn,E,bad⟩ ⟨d1,e1,d2,e2,KT,d3,e3⟩)):=by
  show Blk _ _ _;subst hW
  have:=Blk.new (w.alloc (.cells #[.int .i64 c,.bool tk,.slice a1 m c1,.int .i64 z,.int .i64 x,.int .i64 y,.int .i64 wd,.int .i64 ht,.int .i64 now,.int .i64 s,.slice a2 n c2,.slice a3 rn c3,.int .i64 bad] 33)) [.int .i64 c,.bool tk,.slice d1 m e1,.int .i64 z,.int .i64 x,.int .i64 y,.int .i64 wd,.int .i64 ht,.int .i64 now,.int .i64 s,.slice d2 n e2,.slice d3 rn e3,.int .i64 bad] 33
  simpa using this
 clear hW
 have htk:(tk != tk)=false:=by cases tk <;> rfl
 refine Calls.mono (HS.out W HB0.out) ?_
 rintro e w1 ⟨rfl,hb1⟩
 have HB1:Hid (Bw w w1):=zB HB0.out hb1
 have hv:=HV.out.below HV.out.lt hb1
 have hu:=HU.out.below HU.out.lt hb1
 obtain ⟨v0,v1,v2,v3,v4,v5,v6,v7,v8,v9,v10,v11,v12⟩:=Blk.c13 hv
 obtain ⟨u0,u1,u2,u3,u4,u5,u6,u7,u8,u9,u10,u11,u12⟩:=Blk.c13 hu
 clear hb1 HB0 HV HU hv hu
 have HQ:=(show Hid _ from HE.out w1 HB1.out)
 go_wp2_with fail
 refine Calls.mono HQ.out ?_
 rintro e w2 ⟨rfl,hb2⟩
 have HB2:Hid (Bw w w2):=zB HB1.out hb2
 clear v0 u0 v1 u1 v2 u2 v3 u3 v4 u4 v5 u5 v6 u6 v7 u7 v8 u8 v9 u9 v10 u10 v11 u11 v12 u12 hb2
 go_wp2
 go_ret
 exact ⟨rfl,HB2.out⟩

end Go.Proofs.YtpaiholildedcaaGreat
