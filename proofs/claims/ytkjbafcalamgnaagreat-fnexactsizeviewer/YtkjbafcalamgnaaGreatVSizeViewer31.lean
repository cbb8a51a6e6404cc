/- Texts. -/
import Derived.Test.YtkjbafcalamgnaaGreatVSizeViewer28
import Derived.Test.YtkjbafcalamgnaaGreatVSizeViewer26
import Derived.Test.YtkjbafcalamgnaaGreatVSizeViewer30
set_option linter.unusedSimpArgs false
set_option linter.unusedVariables false
set_option maxRecDepth 100000
set_option maxHeartbeats 32000000
namespace Go.Proofs.YtkjbafcalamgnaaGreat
open Go.RowKit
end Go.Proofs.YtkjbafcalamgnaaGreat
namespace Go.Proofs.YtkjbafcalamgnaaGreat
open Go.ChangeShapes Go.WideShapes Go.ChangeAt Go.RowKit Go.Deep
theorem zNv:Tryz.prog.cellsOf 23=5:=by kernel_rfl
theorem zTc {H:Type}{enc:TypeId × Value→H}{w:World}{base:Nat}{spare:Nat→Bool}{held:Bool}{n:Nat}{cs:List Value}{x:DataW H × List MemPlace}(h:DataW.trod enc Tryz.prog w base spare held n 23 cs=some x):∃ a b c d e:Int,cs=[.int .i64 a,.int .i64 b,.int .i64 c,.int .i64 d,.int .i64 e]:=by
 obtain ⟨xs,m,rfl,hx,hl,hxl,hf⟩:=DataW.trod_struct Tryz.underlying23 h
 rw [zNv] at hl
 have hxl3:xs.length=5:=hxl
 match cs,hl with
 | [v0,v1,v2,v3,v4],_ =>
  match xs,hxl3 with
  | [x0,x1,x2,x3,x4],_ =>
   have h0:=hf 0 _ rfl
   have h1:=hf 1 _ rfl
   have h2:=hf 2 _ rfl
   have h3:=hf 3 _ rfl
   have h4:=hf 4 _ rfl
   simp [uK] at h0 h1 h2 h3 h4
   obtain ⟨a,e0,_,_⟩:=DataW.trod_int Tryz.underlying2 h0
   obtain ⟨b,e1,_,_⟩:=DataW.trod_int Tryz.underlying2 h1
   obtain ⟨c,e2,_,_⟩:=DataW.trod_int Tryz.underlying2 h2
   obtain ⟨d,e3,_,_⟩:=DataW.trod_int Tryz.underlying2 h3
   obtain ⟨e,e4,_,_⟩:=DataW.trod_int Tryz.underlying2 h4
   simp at e0 e1 e2 e3 e4
   subst e0 e1 e2 e3 e4
   exact ⟨a,b,c,d,e,rfl⟩
theorem zNu:Tryz.prog.cellsOf 115=5:=by kernel_rfl
theorem zVs {H:Type}{enc:TypeId × Value→H}{w:World}{base:Nat}{spare:Nat→Bool}{held:Bool}{n:Nat}{cs:List Value}{x:DataW H × List MemPlace}(h:DataW.trod enc Tryz.prog w base spare held n 115 cs=some x):∃ a b c d e:Int,cs=[.int .i64 a,.int .i64 b,.int .i64 c,.int .i64 d,.int .i64 e]:=by
 obtain ⟨xs,m,rfl,hx,hl,hxl,hf⟩:=DataW.trod_struct Tryz.underlying115 h
 rw [zNu] at hl
 have hxl3:xs.length=3:=hxl
 match cs,hl with
 | [v0,v1,v2,v3,v4],_ =>
  match xs,hxl3 with
  | [x0,x1,x2],_ =>
   have h0:=hf 0 _ rfl
   have h1:=hf 1 _ rfl
   have h2:=hf 2 _ rfl
   simp [uK,zHv] at h0 h1 h2
   obtain ⟨a,b,c,e0⟩:=zL3 h0
   obtain ⟨d,e1,_,_⟩:=DataW.trod_int Tryz.underlying2 h1
   obtain ⟨e,e2,_,_⟩:=DataW.trod_int Tryz.underlying2 h2
   simp at e0 e1 e2
   obtain ⟨rfl,rfl,rfl⟩:=e0
   subst e1 e2
   exact ⟨a,b,c,d,e,rfl⟩
theorem zS8 {H:Type}{enc:TypeId × Value→H}{w:World}{base fuel:Nat}{held:Bool}{cs:List Value}{y:DataW H × List MemPlace}(hf:DataW.trod enc Tryz.prog w base (fun _=>true) held fuel 27 cs=some y) :
  ∃ (a:Option Addr) (n cap:Nat) (E:Nat→Req),cs=[.slice a n cap]∧(xL w a n E∧n≤cap∧cap≤maxLen):=by
 rcases open_slice Tryz.underlying27 hf with ⟨hcs,_⟩ | ⟨x,l,c,m,n,D,Pl,hcs,_,hl,hc,hm,_,hx⟩
 ·exact ⟨none,0,0,fun _=>⟨0,0,0,0,0⟩,hcs,.inl rfl,Nat.le_refl _,Nat.zero_le _⟩
 ·simp at hm
  subst hm
  have each:∀ i,∃ e:Req,i<l→∀ k,k<5→w.cell? (x.add (i * 5+k))=[Value.int .i64 e.z,.int .i64 e.x,.int .i64 e.y,.int .i64 e.du,.int .i64 e.tr][k]?:=by
   intro i
   by_cases hi:i<l
   ·obtain ⟨cs',h1,h2⟩:=hx i (by omega)
    rw [zNu] at h1
    obtain ⟨_,hlen,hcell⟩:=World.cells?_some h1
    obtain ⟨k0,k1,k2,k3,k4,rfl⟩:=zVs h2
    refine ⟨⟨k0,k1,k2,k3,k4⟩,fun _ k hk=>?_⟩
    have:=hcell k hk
    rw [add_add] at this
    exact this
   ·exact ⟨⟨0,0,0,0,0⟩,fun h=>absurd h hi⟩
  obtain ⟨E,hE⟩:=Classical.skolem.1 each
  refine ⟨some x,l,_,E,hcs,?_,hl,hc⟩
  by_cases h0:l=0
  ·exact .inl h0
  ·right
   obtain ⟨b,off,spot⟩:=x
   have e0:=hE 0 (by omega) 0 (by omega)
   simp at e0
   have hspot:spot=none:=by simpa [Addr.add] using World.cell?_spot e0
   subst hspot
   refine ⟨b,off,rfl,?_,fun i hi=>?_⟩
   ·have:=World.block_lt_of_cell? _ _ e0
    simpa [Addr.add] using this
   ·have hc5:=hE i hi
    have k0:=hc5 0 (by omega)
    have k1:=hc5 1 (by omega)
    have k2:=hc5 2 (by omega)
    have k3:=hc5 3 (by omega)
    have k4:=hc5 4 (by omega)
    rw [add_plain] at k0 k1 k2 k3 k4
    simp only [← Nat.add_assoc,Nat.add_zero] at k0 k1 k2 k3 k4
    exact ⟨k0,k1,k2,k3,k4⟩
theorem zQ5 {H:Type}{enc:TypeId × Value→H}{w:World}{base fuel:Nat}{held:Bool}{cs:List Value}{y:DataW H × List MemPlace}(h:DataW.trod enc Tryz.prog w base (fun _=>true) held fuel 26 cs=some y) :
  ∃ (s:Int) (a:Option Addr) (n cap:Nat) (K:Nat→Kp),cs=[.int .i64 s,.slice a n cap]∧(zF9 w a n K∧zCg n K):=by
 obtain ⟨y0,y1,m,hx,hl,h0,h1⟩:=trod_struct2 Tryz.underlying26 h
 simp only [uK,zU4] at h0 h1
 obtain ⟨s,e0,_,_⟩:=DataW.trod_int Tryz.underlying2 h0
 obtain ⟨a,k,cap,K,e1,hK⟩:=zQ3 h1
 refine ⟨s,a,k,cap,K,?_,hK⟩
 have hlen:cs.length=2:=by rw [hl];exact zQs
 match cs,hlen with
 | [v0,v1],_ =>
  simp at e0 e1
  simp [e0,e1]
theorem zU3:Tryz.prog.cellsOf 27=1:=by kernel_rfl
theorem zXd:Tryz.prog.cellsOf 29=10:=by kernel_rfl
theorem open_viewer {H:Type}{enc:TypeId × Value→H}{w:World}{base b0:Nat}{held:Bool}{r:Reach}{v:Value}{d:DataW H}{p:List MemPlace}(hv:Value.okWide Tryz.prog w r b0 29 v)(h:DataW.Trod enc Tryz.prog w base (fun _=>true) held 29 v d p) :
  ∃ (z x y wd ht now s:Int) (ka:Option Addr) (kn kc:Nat) (K:Nat→Kp) (ra:Option Addr) (rn rc:Nat) (E:Nat→Req) (bad:Int),
   v=.agg #[.int .i64 z,.int .i64 x,.int .i64 y,.int .i64 wd,.int .i64 ht,.int .i64 now,.int .i64 s,.slice ka kn kc,.slice ra rn rc,.int .i64 bad]∧((zF9 w ka kn K∧zCg kn K)∧xL w ra rn E∧rn≤rc∧rc≤maxLen):=by
 obtain ⟨cs,rfl,hsz⟩:=okWide_struct Tryz.underlying29 hv
 obtain ⟨n,h⟩:=h
 obtain ⟨xs,m,e,hx,hl,hxl,hf⟩:=DataW.trod_struct Tryz.underlying29 h
 have hxl5:xs.length=5:=hxl
 simp only [Value.cells] at hl hf
 rw [zXd] at hl
 match xs,hxl5 with
 | [x0,x1,x2,x3,x4],_ =>
  have h0:=hf 0 _ rfl
  have h1:=hf 1 _ rfl
  have h2:=hf 2 _ rfl
  have h3:=hf 3 _ rfl
  have h4:=hf 4 _ rfl
  match hcs:cs.toList,hl with
  | [v0,v1,v2,v3,v4,v5,v6,v7,v8,v9],_ =>
   rw [hcs] at h0 h1 h2 h3 h4
   simp [uK,zNv,zQs,zU3] at h0 h1 h2 h3 h4
   obtain ⟨z,x,y,wd,ht,e0⟩:=zTc h0
   obtain ⟨now,e1,_,_⟩:=DataW.trod_int Tryz.underlying2 h1
   obtain ⟨s,ka,kn,kc,K,e2,hK⟩:=zQ5 h2
   obtain ⟨ra,rn,rc,E,e3,hE⟩:=zS8 h3
   obtain ⟨bad,e4,_,_⟩:=DataW.trod_int Tryz.underlying2 h4
   simp at e0 e1 e2 e3 e4
   refine ⟨z,x,y,wd,ht,now,s,ka,kn,kc,K,ra,rn,rc,E,bad,?_,hK,hE⟩
   obtain ⟨rfl,rfl,rfl,rfl,rfl⟩:=e0
   obtain ⟨rfl,rfl⟩:=e2
   subst e1 e3 e4
   have:cs=#[.int .i64 z,.int .i64 x,.int .i64 y,.int .i64 wd,.int .i64 ht,.int .i64 now,.int .i64 s,.slice ka kn kc,.slice ra rn rc,.int .i64 bad]:=by
    apply Array.toList_inj.1
    rw [hcs]
   rw [this]
end Go.Proofs.YtkjbafcalamgnaaGreat
namespace Go.Proofs.YtkjbafcalamgnaaGreat
open Go.RowKit
def VkW (w:World)(lo hi b n:Nat)(A:Nat→Kp)(rb rn:Nat):Prop:=∃ M,lo≤b∧KsW w b n A M∧M n≤rb∧rb<hi∧hi≤w.heap.size∧zC w rb (rn * 5)
theorem VkW.below {w w':World}{lo hi b n rb rn:Nat}{A:Nat→Kp}(h:VkW w lo hi b n A rb rn)(hb:Below w.heap.size w w'):VkW w' lo hi b n A rb rn:=by
 obtain ⟨M,h1,h2,h3,h4,h5,h6⟩:=h
 exact ⟨M,h1,h2.below hb,h3,h4,Nat.le_trans h5 hb.size,h6.below hb⟩
theorem zL4 (z x y wd ht now s:Int)(a:Option Addr)(n cap:Nat)(K:Nat→Kp)(ra:Option Addr)(rn rc:Nat)(E:Nat→Req)(bad:Int)(w:World)(hk:zF9 w a n K)(hs:zI n K)(hr:xL w ra rn E)(hrn:rn≤1048576) :
  Calls Tryz.prog 9 #[vwV z x y wd ht now s (.slice a n cap) (.slice ra rn rc) bad] w fun e w'=>∃ b A rb,e=.returned (vwV z x y wd ht now s (.slice (some ⟨b,0,none⟩) n n) (.slice (some ⟨rb,0,none⟩) rn rn) bad)∧w.heap.size≤b∧w.heap.size≤rb∧zLv w' b n K A rb rn E∧VkW w' w.heap.size w'.heap.size b n A rb rn∧Bw w w':=by
 have HP:Hid (zF9 w a n K):=hk
 have HS:Hid (zI n K):=hs
 have HR:Hid (xL w ra rn E):=hr
 clear hk hs hr
 go_enter Tryz.func9,Tryz.ntmps9
 go_wp2_with fail
 generalize hW:(((w.alloc _).alloc _).alloc _:World)=W
 have HB0:Hid (Bw w W):=by show Below _ _ _;subst hW;exact Qb
 have HV:Hid (Blk W w.heap.size [.int .i64 z,.int .i64 x,.int .i64 y,.int .i64 wd,.int .i64 ht,.int .i64 now,.int .i64 s,.slice a n cap,.slice ra rn rc,.int .i64 bad]):=by
  show Blk _ _ _;subst hW
  exact ((Blk.new w _ _).alloc (by simp) _).alloc (by simp;omega) _
 have HU:Hid (Blk W (w.heap.size+1) [.int .i64 0,.int .i64 0,.int .i64 0,.int .i64 0,.int .i64 0,.int .i64 0,.int .i64 0,.slice none 0 0,.slice none 0 0,.int .i64 0]):=by
  show Blk _ _ _;subst hW
  have:=(Blk.new (w.alloc (.cells #[.int .i64 z,.int .i64 x,.int .i64 y,.int .i64 wd,.int .i64 ht,.int .i64 now,.int .i64 s,.slice a n cap,.slice ra rn rc,.int .i64 bad] 29)) [.int .i64 0,.int .i64 0,.int .i64 0,.int .i64 0,.int .i64 0,.int .i64 0,.int .i64 0,.slice none 0 0,.slice none 0 0,.int .i64 0] 38).alloc (by simp) (.cells #[.int .i64 0,.int .i64 0,.int .i64 0,.int .i64 0,.int .i64 0,.int .i64 0,.int .i64 0,.slice none 0 0,.slice none 0 0,.int .i64 0] 38)
  simpa using this
 have HO:Hid (Blk W (w.heap.size+1+1) [.int .i64 0,.int .i64 0,.int .i64 0,.int .i64 0,.int .i64 0,.int .i64 0,.int .i64 0,.slice none 0 0,.slice none 0 0,.int .i64 0]):=by
  show Blk _ _ _;subst hW
  have:=Blk.new ((w.alloc (.cells #[.int .i64 z,.int .i64 x,.int .i64 y,.int .i64 wd,.int .i64 ht,.int .i64 now,.int .i64 s,.slice a n cap,.slice ra rn rc,.int .i64 bad] 29)).alloc (.cells #[.int .i64 0,.int .i64 0,.int .i64 0,.int .i64 0,.int .i64 0,.int .i64 0,.int .i64 0,.slice none 0 0,.slice none 0 0,.int .i64 0] 38)) [.int .i64 0,.int .i64 0,.int .i64 0,.int .i64 0,.int .i64 0,.int .i64 0,.int .i64 0,.slice none 0 0,.slice none 0 0,.int .i64 0] 38
  simpa using this
 clear hW
 refine (zL8 z x y wd ht W).mono ?_
 rintro e w1 ⟨rfl,hb1⟩
 have HB1:Hid (Bw w w1):=zA HB0.out hb1
 have HV1:Hid (Blk w1 w.heap.size [.int .i64 z,.int .i64 x,.int .i64 y,.int .i64 wd,.int .i64 ht,.int .i64 now,.int .i64 s,.slice a n cap,.slice ra rn rc,.int .i64 bad]):=HV.out.below HV.out.lt hb1
 have HU1:Hid (Blk w1 (w.heap.size+1) [.int .i64 0,.int .i64 0,.int .i64 0,.int .i64 0,.int .i64 0,.int .i64 0,.int .i64 0,.slice none 0 0,.slice none 0 0,.int .i64 0]):=HU.out.below HU.out.lt hb1
 have hO1:=HO.out.below HO.out.lt hb1
 have HO1:Hid (Blk w1 (w.heap.size+1+1) [.int .i64 0,.int .i64 0,.int .i64 0,.int .i64 0,.int .i64 0,.int .i64 0,.int .i64 0,.slice none 0 0,.slice none 0 0,.int .i64 0]):=hO1
 obtain ⟨d0,d1,d2,d3,d4,d5,d6,d7,d8,d9⟩:=Blk.c10 HV1.out
 obtain ⟨t0,t1,t2,t3,t4,t5,t6,t7,t8,t9⟩:=Blk.c10 hO1
 obtain ⟨f0,f1,f2,f3,f4,f5,f6,f7,f8,f9⟩:=Blk.f10 hO1
 clear hb1 hO1 HV HU HO HB0
 go_wp2_with fail
 generalize hW2:(World.setCell _ _ _:World)=W2
 have HB2:Hid (Bw w W2):=by show Below _ _ _;subst hW2;exact ((((((HB1.out.setCell (le2 _) _).setCell (le2 _) _).setCell (le2 _) _).setCell (le2 _) _).setCell (le2 _) _).setCell (le2 _) _)
 have HV2:Hid (Blk W2 w.heap.size [.int .i64 z,.int .i64 x,.int .i64 y,.int .i64 wd,.int .i64 ht,.int .i64 now,.int .i64 s,.slice a n cap,.slice ra rn rc,.int .i64 bad]):=by show Blk _ _ _;subst hW2;exact ((((((HV1.out.other (by omega)).other (by omega)).other (by omega)).other (by omega)).other (by omega)).other (by omega))
 have HU2:Hid (Blk W2 (w.heap.size+1) [.int .i64 0,.int .i64 0,.int .i64 0,.int .i64 0,.int .i64 0,.int .i64 0,.int .i64 0,.slice none 0 0,.slice none 0 0,.int .i64 0]):=by show Blk _ _ _;subst hW2;exact ((((((HU1.out.other (by omega)).other (by omega)).other (by omega)).other (by omega)).other (by omega)).other (by omega))
 have HO2:Hid (Blk W2 (w.heap.size+1+1) [.int .i64 z,.int .i64 x,.int .i64 y,.int .i64 wd,.int .i64 ht,.int .i64 now,.int .i64 0,.slice none 0 0,.slice none 0 0,.int .i64 0]):=by show Blk _ _ _;subst hW2;exact ((((((HO1.out.set 0 _).set 1 _).set 2 _).set 3 _).set 4 _).set 5 _)
 clear hW2 HV1 HU1 HO1 HB1 d0 t0 f0 d1 t1 f1 d2 t2 f2 d3 t3 f3 d4 t4 f4 d5 t5 f5 d6 t6 f6 d7 t7 f7 d8 t8 f8 d9 t9 f9
 refine (zOg s a n cap K W2 (HP.out.below HB2.out) HS.out).mono ?_
 rintro e w3 ⟨b,A,rfl,hge3,hOK3,⟨M,hKW3⟩,hb3⟩
 have HKW3:Hid (KsW w3 b n A M):=hKW3
 clear hKW3
 have hbb:w.heap.size+1+1<b:=Nat.lt_of_lt_of_le HO2.out.lt hge3
 have HK3:Hid (yW w3 (b+1) b n K A):=hOK3
 have HB3:Hid (Bw w w3):=zA HB2.out hb3
 have HV3:Hid (Blk w3 w.heap.size [.int .i64 z,.int .i64 x,.int .i64 y,.int .i64 wd,.int .i64 ht,.int .i64 now,.int .i64 s,.slice a n cap,.slice ra rn rc,.int .i64 bad]):=HV2.out.below HV2.out.lt hb3
 have HU3:Hid (Blk w3 (w.heap.size+1) [.int .i64 0,.int .i64 0,.int .i64 0,.int .i64 0,.int .i64 0,.int .i64 0,.int .i64 0,.slice none 0 0,.slice none 0 0,.int .i64 0]):=HU2.out.below HU2.out.lt hb3
 have hO3:=HO2.out.below HO2.out.lt hb3
 have HO3:Hid (Blk w3 (w.heap.size+1+1) [.int .i64 z,.int .i64 x,.int .i64 y,.int .i64 wd,.int .i64 ht,.int .i64 now,.int .i64 0,.slice none 0 0,.slice none 0 0,.int .i64 0]):=hO3
 obtain ⟨d0,d1,d2,d3,d4,d5,d6,d7,d8,d9⟩:=Blk.c10 HV3.out
 obtain ⟨t0,t1,t2,t3,t4,t5,t6,t7,t8,t9⟩:=Blk.c10 hO3
 obtain ⟨f0,f1,f2,f3,f4,f5,f6,f7,f8,f9⟩:=Blk.f10 hO3
 clear hb3 hO3 hOK3 HV2 HU2 HO2 HB2 hge3
 go_wp2_with fail
 generalize hW4:(World.setCell _ _ _:World)=W4
 have HB4:Hid (Bw w W4):=by show Below _ _ _;subst hW4;exact ((HB3.out.setCell (le2 _) _).setCell (le2 _) _)
 have HV4:Hid (Blk W4 w.heap.size [.int .i64 z,.int .i64 x,.int .i64 y,.int .i64 wd,.int .i64 ht,.int .i64 now,.int .i64 s,.slice a n cap,.slice ra rn rc,.int .i64 bad]):=by show Blk _ _ _;subst hW4;exact ((HV3.out.other (by omega)).other (by omega))
 have HU4:Hid (Blk W4 (w.heap.size+1) [.int .i64 0,.int .i64 0,.int .i64 0,.int .i64 0,.int .i64 0,.int .i64 0,.int .i64 0,.slice none 0 0,.slice none 0 0,.int .i64 0]):=by show Blk _ _ _;subst hW4;exact ((HU3.out.other (by omega)).other (by omega))
 have HO4:Hid (Blk W4 (w.heap.size+1+1) [.int .i64 z,.int .i64 x,.int .i64 y,.int .i64 wd,.int .i64 ht,.int .i64 now,.int .i64 s,.slice (some ⟨b,0,none⟩) n n,.slice none 0 0,.int .i64 0]):=by show Blk _ _ _;subst hW4;exact ((HO3.out.set 6 _).set 7 _)
 have HM4:Hid (zK w.heap.size (w.heap.size+1+1+1) w3 W4):=by show zK _ _ _ _;subst hW4;exact (((zK.refl _ _ _).set (by omega) (by omega) _ _).set (by omega) (by omega) _ _)
 have HK4:Hid (yW W4 (b+1) b n K A):=HK3.out.mid (C:=0) HM4.out (by omega)
 have HKW4:Hid (KsW W4 b n A M):=HKW3.out.mid HM4.out (.inl (by omega))
 clear hW4 HV3 HU3 HO3 HB3 HK3 HM4 HKW3 d0 t0 f0 d1 t1 f1 d2 t2 f2 d3 t3 f3 d4 t4 f4 d5 t5 f5 d6 t6 f6 d7 t7 f7 d8 t8 f8 d9 t9 f9
 refine (zH8 ra rn rc E W4 (HR.out.below HB4.out) hrn).mono ?_
 rintro e w5 ⟨rb,rfl,hge5,hlt5,hW5,hT5,hb5⟩
 have HT5:Hid (zC w5 rb (rn * 5)):=hT5
 have hMr:M n≤rb:=Nat.le_trans HKW4.out.2.2.2 hge5
 have HKW5:Hid (KsW w5 b n A M):=HKW4.out.below hb5
 clear hT5 HKW4
 have hrb:w.heap.size+1+1<rb:=Nat.lt_of_lt_of_le HO4.out.lt hge5
 have HW5:Hid (zAj w5 rb 0 rn E):=hW5
 have HK5:Hid (yW w5 (b+1) b n K A):=HK4.out.below hb5
 have HB5:Hid (Bw w w5):=zA HB4.out hb5
 have HV5:Hid (Blk w5 w.heap.size [.int .i64 z,.int .i64 x,.int .i64 y,.int .i64 wd,.int .i64 ht,.int .i64 now,.int .i64 s,.slice a n cap,.slice ra rn rc,.int .i64 bad]):=HV4.out.below HV4.out.lt hb5
 have hU5:=HU4.out.below HU4.out.lt hb5
 have HU5:Hid (Blk w5 (w.heap.size+1) [.int .i64 0,.int .i64 0,.int .i64 0,.int .i64 0,.int .i64 0,.int .i64 0,.int .i64 0,.slice none 0 0,.slice none 0 0,.int .i64 0]):=hU5
 have hO5:=HO4.out.below HO4.out.lt hb5
 have HO5:Hid (Blk w5 (w.heap.size+1+1) [.int .i64 z,.int .i64 x,.int .i64 y,.int .i64 wd,.int .i64 ht,.int .i64 now,.int .i64 s,.slice (some ⟨b,0,none⟩) n n,.slice none 0 0,.int .i64 0]):=hO5
 have d9:=HV5.out.cell 9 rfl
 obtain ⟨t0,t1,t2,t3,t4,t5,t6,t7,t8,t9⟩:=Blk.c10 hO5
 obtain ⟨f0,f1,f2,f3,f4,f5,f6,f7,f8,f9⟩:=Blk.f10 hO5
 obtain ⟨u0,u1,u2,u3,u4,u5,u6,u7,u8,u9⟩:=Blk.c10 hU5
 obtain ⟨g0,g1,g2,g3,g4,g5,g6,g7,g8,g9⟩:=Blk.f10 hU5
 clear hb5 hO5 hU5 hW5 HV4 HU4 HO4 HB4 HK4 hge5
 go_wp2_with fail
 generalize hW6:(World.setCell _ _ _:World)=W6
 have HB6:Hid (Bw w W6):=by show Below _ _ _;subst hW6;exact ((((((((((((HB5.out.setCell (le2 _) _).setCell (le2 _) _).setCell (Nat.le_succ _) _).setCell (Nat.le_succ _) _).setCell (Nat.le_succ _) _).setCell (Nat.le_succ _) _).setCell (Nat.le_succ _) _).setCell (Nat.le_succ _) _).setCell (Nat.le_succ _) _).setCell (Nat.le_succ _) _).setCell (Nat.le_succ _) _).setCell (Nat.le_succ _) _)
 have HU6:Hid (Blk W6 (w.heap.size+1) [.int .i64 z,.int .i64 x,.int .i64 y,.int .i64 wd,.int .i64 ht,.int .i64 now,.int .i64 s,.slice (some ⟨b,0,none⟩) n n,.slice (some ⟨rb,0,none⟩) rn rn,.int .i64 bad]):=by show Blk _ _ _;subst hW6;exact ((((((((((((HU5.out.other (by omega)).other (by omega)).set 0 _).set 1 _).set 2 _).set 3 _).set 4 _).set 5 _).set 6 _).set 7 _).set 8 _).set 9 _)
 have HM6:Hid (zK w.heap.size (w.heap.size+1+1+1) w5 W6):=by show zK _ _ _ _;subst hW6;exact (((((((((((((zK.refl _ _ _).set (by omega) (by omega) _ _).set (by omega) (by omega) _ _).set (by omega) (by omega) _ _).set (by omega) (by omega) _ _).set (by omega) (by omega) _ _).set (by omega) (by omega) _ _).set (by omega) (by omega) _ _).set (by omega) (by omega) _ _).set (by omega) (by omega) _ _).set (by omega) (by omega) _ _).set (by omega) (by omega) _ _).set (by omega) (by omega) _ _)
 clear hW6
 refine bodyPost_ret (resTV rfl HU6.out) rfl ⟨b,A,rb,rfl,by omega,by omega,⟨HK5.out.mid (C:=0) HM6.out (by omega),Nat.lt_of_lt_of_le hlt5 HM6.out.size,fun i hi=>?_⟩,⟨M,by omega,HKW5.out.mid HM6.out (.inl (by omega)),hMr,Nat.lt_of_lt_of_le hlt5 HM6.out.size,Nat.le_refl _,HM6.out.there HT5.out (.inr (by omega))⟩,HB6.out⟩
 obtain ⟨q0,q1,q2,q3,q4⟩:=HW5.out i hi
 exact ⟨HM6.out.cell q0 (.inr (by omega)),HM6.out.cell q1 (.inr (by omega)),HM6.out.cell q2 (.inr (by omega)),HM6.out.cell q3 (.inr (by omega)),HM6.out.cell q4 (.inr (by omega))⟩
theorem zIo (s:Int)(g n cap k0:Nat)(R:Nat→Kp)(M:Nat→Nat)(w:World)(hW:KsW w g n R M)(hs:zI n R)(h0:0<k0)(hk0:k0≤1000000000) :
  Calls Tryz.prog 41 #[caV s (.slice (some ⟨g,0,none⟩) n cap),.int .i64 (k0:Int)] w fun e w'=>e=.returned (.int .i64 ((kK R k0 n:Nat):Int))∧KsM w' g n R M k0∧zK g (M n) w w':=by
 have HM:Hid (∀ V,Bw w V→Calls Tryz.prog 84 #[.slice (some ⟨g,0,none⟩) n cap,.int .i64 (k0:Int)] V fun e w'=>e=.returned (.int .i64 ((kK R k0 n:Nat):Int))∧KsM w' g n R M k0∧zK g (M n) V w'):=fun V h=>zEc g n cap k0 R M V (hW.below h) hs h0 hk0
 clear hW hs h0 hk0
 generalize hq:kK R k0 n=q at *
 go_enter Tryz.func41,Tryz.ntmps41
 go_wp2_with fail
 generalize hV:(w.alloc _:World)=V
 have HB:Hid (Bw w V):=by show Below _ _ _;subst hV;exact Qb
 clear hV
 refine Calls.mono (HM.out V HB.out) ?_
 rintro e w1 ⟨rfl,h1,h2⟩
 have H1:Hid (KsM w1 g n R M k0):=h1
 have H2:Hid (zK g (M n) w w1):=(zK.of_below HB.out).trans h2
 clear h1 h2
 go_wp2
 go_ret
 exact ⟨rfl,H1.out,H2.out⟩
theorem zIk (z x y wd ht now s:Int)(lo hi b n:Nat)(A:Nat→Kp)(rb rn:Nat)(bad:Int)(w:World)(h:VkW w lo hi b n A rb rn)(hs:zI n A)(hrn:rn≤1048576) :
  Calls Tryz.prog 13 #[vwV z x y wd ht now s (.slice (some ⟨b,0,none⟩) n n) (.slice (some ⟨rb,0,none⟩) rn rn) bad,.int .i64 1] w fun e w'=>(∃ q:Nat,e=.returned (.int .i64 (q:Int)))∧zK lo hi w w':=by
 obtain ⟨M,h1,h2,h3,h4,h5,h6⟩:=h
 have hsm:=(zEh (k0:=1) hs (by omega) (Nat.le_refl n)).2
 have hbM:b<M 0∧M 0≤M n:=⟨h2.2.1,upM (fun j hj=>(h2.2.2.1 j hj).1) (Nat.zero_le n) (Nat.le_refl _)⟩
 have HM:Hid (∀ V,Bw w V→Calls Tryz.prog 41 #[caV s (.slice (some ⟨b,0,none⟩) n n),.int .i64 1] V fun e w'=>e=.returned (.int .i64 ((kK A 1 n:Nat):Int))∧KsM w' b n A M 1∧zK b (M n) V w'):=fun V h=>zIo s b n n 1 A M V (h2.below h) hs (by omega) (by omega)
 have HT:Hid (zC w rb (rn * 5)):=h6
 clear h2 h6 hs
 generalize hq:kK A 1 n=Q at *
 clear hq
 go_enter Tryz.func13,Tryz.ntmps13
 go_wp2_with fail
 generalize hV:(w.alloc _:World)=V
 have HB:Hid (Bw w V):=by show Below _ _ _;subst hV;exact Qb
 have HBk:Hid (Blk V w.heap.size [.int .i64 z,.int .i64 x,.int .i64 y,.int .i64 wd,.int .i64 ht,.int .i64 now,.int .i64 s,.slice (some ⟨b,0,none⟩) n n,.slice (some ⟨rb,0,none⟩) rn rn,.int .i64 bad]):=by show Blk _ _ _;subst hV;exact Blk.new _ _ _
 clear hV
 refine Calls.mono (HM.out V HB.out) ?_
 rintro e w1 ⟨rfl,_,h7⟩
 have c8:w1.cell? ⟨w.heap.size,8,none⟩=some (.slice (some ⟨rb,0,none⟩) rn rn):=h7.cell (HBk.out.cell 8 rfl) (.inr (by omega))
 have HT1:Hid (zC w1 rb (rn * 5)):=h7.there (HT.out.below HB.out) (.inr (by omega))
 have HM1:Hid (zK lo hi w w1):=(zK.of_below HB.out).trans (h7.wide h1 (by omega))
 clear h7 HM HBk
 have HR:=(show Hid _ from zB7 rb rn rn Q w1 HT1.out hrn (by omega))
 go_wp2_with fail
 refine Calls.mono HR.out ?_
 rintro e w2 ⟨rfl,hg,_,_⟩
 have HM2:Hid (zK lo hi w w2):=HM1.out.trans (zK.of_grown hg (by omega) h4)
 clear hg HR HM1 c8
 generalize Q+5 * rn=q2 at *
 go_wp2
 go_ret
 exact ⟨⟨q2,rfl⟩,HM2.out⟩
def inV (now bad:Int):Bool:=inB now 0 9000 && inB bad 0 9999
def zC4 (z x y wd ht:Int)(n:Nat)(K:Nat→Kp)(E:Nat→Req)(i:Nat):Int:=if yU z x y wd ht (E i).z (E i).x (E i).y=true then (if 0≤atK n K (E i).z (E i).x (E i).y then 8 else 0) else 8
noncomputable def viewC (z x y wd ht now s:Int)(n:Nat)(K:Nat→Kp)(rn:Nat)(E:Nat→Req)(bad:Int):Int :=
 if uQ z x y wd ht=0 then (if inV now bad=true then (if cacheC s n K=0 then (if s<4 then 3 else (if zO rn E=0 then xN (zC4 z x y wd ht n K E) 0 rn else zO rn E)) else cacheC s n K) else 3) else uQ z x y wd ht
theorem Blk.cam {w:World}{q:Nat}{z x y wd ht:Int}{l:List Value}(h:Blk w q (.int .i64 z :: .int .i64 x :: .int .i64 y :: .int .i64 wd :: .int .i64 ht :: l)):uN w q z x y wd ht:=⟨h.cell 0 rfl,h.cell 1 rfl,h.cell 2 rfl,h.cell 3 rfl,h.cell 4 rfl⟩
theorem zUb {z x y wd ht:Int}(b:Nat)(rz rx ry:Int)(w:World)(h:uN w b z x y wd ht)(hr:zAi z x y wd ht=true):Calls Tryz.prog 62 #[.pointer (some ⟨b,0,none⟩),vT rz rx ry] w fun e w'=>e=.returned (.bool (yU z x y wd ht rz rx ry))∧Bw w w' :=
 zJk b _ _ rz rx ry w (by have:=zC0 z x y wd ht;omega) (fun W hW=>zE2 b W (by
  have hB:=World.block_lt_of_cell? _ _ h.1
  exact ⟨(hW.cell (p:=⟨b,0,none⟩) hB).trans h.1,(hW.cell (p:=⟨b,1,none⟩) hB).trans h.2.1,(hW.cell (p:=⟨b,2,none⟩) hB).trans h.2.2.1,(hW.cell (p:=⟨b,3,none⟩) hB).trans h.2.2.2.1,(hW.cell (p:=⟨b,4,none⟩) hB).trans h.2.2.2.2⟩) hr)
theorem zFg (q:Nat)(z x y wd ht now s:Int)(b n cap:Nat)(A:Nat→Kp)(ra:Option Addr)(rn rc:Nat)(E:Nat→Req)(bad:Int)(w:World)(hV:Blk w q [.int .i64 z,.int .i64 x,.int .i64 y,.int .i64 wd,.int .i64 ht,.int .i64 now,.int .i64 s,.slice (some ⟨b,0,none⟩) n cap,.slice ra rn rc,.int .i64 bad])(ha:zCx w b n A)(hs:zI n A)(hr:xL w ra rn E)(hrn:rn≤1048576) :
  Calls Tryz.prog 27 #[.pointer (some ⟨q,0,none⟩)] w fun e w'=>e=.returned (.int .i64 (viewC z x y wd ht now s n A rn E bad))∧Bw w w':=by
 have HV:Hid (Blk w q [.int .i64 z,.int .i64 x,.int .i64 y,.int .i64 wd,.int .i64 ht,.int .i64 now,.int .i64 s,.slice (some ⟨b,0,none⟩) n cap,.slice ra rn rc,.int .i64 bad]):=hV
 have HA:Hid (zCx w b n A):=ha
 have HS:Hid (zI n A):=hs
 have HR:Hid (xL w ra rn E):=hr
 have hn:n≤1048576:=hs.1
 have hql:q<w.heap.size:=hV.lt
 have HF9:Hid (Calls Tryz.prog 58 #[.pointer (some ⟨q,0,none⟩)] w fun e w'=>e=.returned (.int .i64 (uQ z x y wd ht))∧Bw w w'):=zDd q z x y wd ht w hV.cam
 have HVC:Hid (viewC z x y wd ht now s n A rn E bad=if uQ z x y wd ht=0 then (if inV now bad=true then (if cacheC s n A=0 then (if s<4 then 3 else (if zO rn E=0 then xN (zC4 z x y wd ht n A E) 0 rn else zO rn E)) else cacheC s n A) else 3) else uQ z x y wd ht):=rfl
 clear hV ha hs hr
 generalize viewC z x y wd ht now s n A rn E bad=VC at *
 rcases zBe z x y wd ht with ⟨hc,hcb⟩ | ⟨hc,hcb⟩
 case inr =>
  have HE:Hid (VC=3):=by show _=_;rw [HVC.out,hc];rfl
  rw [hc] at HF9
  clear HVC
  go_enter Tryz.func27,Tryz.ntmps27
  go_wp2_with fail
  refine Calls.mono HF9.out ?_
  rintro e w1 ⟨rfl,hb1⟩
  go_wp2
  go_ret
  exact ⟨zD HE.out.symm,hb1⟩
 have HCB:Hid (zAi z x y wd ht=true):=hcb
 have HVC1:Hid (VC=if inV now bad=true then (if cacheC s n A=0 then (if s<4 then 3 else (if zO rn E=0 then xN (zC4 z x y wd ht n A E) 0 rn else zO rn E)) else cacheC s n A) else 3):=by show _=_;rw [HVC.out,if_pos hc]
 rw [hc] at HF9
 clear hc hcb HVC
 have HI1:Hid (∀ W,Calls Tryz.prog 59 #[.int .i64 now,.int .i64 0,.int .i64 9000] W fun e w'=>e=.returned (.bool (inB now 0 9000))∧w'=W):=fun W=>zY _ _ _ W
 have HI2:Hid (∀ W,Calls Tryz.prog 59 #[.int .i64 bad,.int .i64 0,.int .i64 9999] W fun e w'=>e=.returned (.bool (inB bad 0 9999))∧w'=W):=fun W=>zY _ _ _ W
 cases h1:inB now 0 9000
 case false =>
  have HE:Hid (VC=3):=by show _=_;rw [HVC1.out];simp [inV,h1]
  rw [h1] at HI1
  clear HVC1 h1
  go_enter Tryz.func27,Tryz.ntmps27
  go_wp2_with fail
  refine Calls.mono HF9.out ?_
  rintro e w1 ⟨rfl,hb1⟩
  have HB1:Hid (Bw w w1):=hb1
  have c5:=(HV.out.below hql hb1).cell 5 rfl
  clear hb1
  go_wp2_with fail
  refine Calls.mono (HI1.out _) ?_
  rintro e w2 ⟨rfl,h2⟩
  subst w2
  go_wp2
  go_ret
  exact ⟨zD HE.out.symm,HB1.out⟩
 cases h2:inB bad 0 9999
 case false =>
  have HE:Hid (VC=3):=by show _=_;rw [HVC1.out];simp [inV,h2]
  rw [h1] at HI1
  rw [h2] at HI2
  clear HVC1 h1 h2
  go_enter Tryz.func27,Tryz.ntmps27
  go_wp2_with fail
  refine Calls.mono HF9.out ?_
  rintro e w1 ⟨rfl,hb1⟩
  have HB1:Hid (Bw w w1):=hb1
  have c5:=(HV.out.below hql hb1).cell 5 rfl
  have c9:=(HV.out.below hql hb1).cell 9 rfl
  clear hb1
  go_wp2_with fail
  refine Calls.mono (HI1.out _) ?_
  rintro e w2 ⟨rfl,h2⟩
  subst w2
  go_wp2_with fail
  refine Calls.mono (HI2.out _) ?_
  rintro e w2 ⟨rfl,h2⟩
  subst w2
  go_wp2
  go_ret
  exact ⟨zD HE.out.symm,HB1.out⟩
 have HVC2:Hid (VC=if cacheC s n A=0 then (if s<4 then 3 else (if zO rn E=0 then xN (zC4 z x y wd ht n A E) 0 rn else zO rn E)) else cacheC s n A):=by show _=_;rw [HVC1.out];simp [inV,h1,h2]
 rw [h1] at HI1
 rw [h2] at HI2
 clear HVC1 h1 h2
 have HF11:Hid (∀ W,Bw w W→Calls Tryz.prog 60 #[.pointer (some ⟨q,6,none⟩)] W fun e w'=>e=.returned (.int .i64 (cacheC s n A))∧Bw W w'):=fun W h=>zM0 q 6 s b n cap A W ⟨(HV.out.below hql h).cell 6 rfl,(HV.out.below hql h).cell 7 rfl⟩ (HA.out.below h) HS.out
 have HF12:Hid (∀ W,Bw w W→Calls Tryz.prog 61 #[.slice ra rn rc] W fun e w'=>e=.returned (.int .i64 (zO rn E))∧Bw W w'):=fun W h=>zFh ra rn rc E W (HR.out.below h) hrn
 go_enter Tryz.func27,Tryz.ntmps27
 go_wp2_with fail
 refine Calls.mono HF9.out ?_
 rintro e w1 ⟨rfl,hb1⟩
 have HB1:Hid (Bw w w1):=hb1
 have c5:=(HV.out.below hql hb1).cell 5 rfl
 have c9:=(HV.out.below hql hb1).cell 9 rfl
 clear hb1
 go_wp2_with fail
 refine Calls.mono (HI1.out _) ?_
 rintro e w2 ⟨rfl,h2⟩
 subst w2
 go_wp2_with fail
 refine Calls.mono (HI2.out _) ?_
 rintro e w2 ⟨rfl,h2⟩
 subst w2
 go_wp2_with fail
 refine Calls.mono (HF11.out _ HB1.out) ?_
 rintro e w2 ⟨rfl,hb2⟩
 have HB2:Hid (Bw w w2):=zA HB1.out hb2
 have c6:=(HV.out.below hql HB2.out).cell 6 rfl
 have c8:=(HV.out.below hql HB2.out).cell 8 rfl
 clear hb2 c5 c9 HF9 HF11 HI1 HI2 HB1
 by_cases h0:cacheC s n A=0
 case neg =>
  have HE:Hid (VC=cacheC s n A):=by show _=_;rw [HVC2.out,if_neg h0]
  have hcb:(cacheC s n A == 0)=false:=by simpa using h0
  clear HVC2
  generalize cacheC s n A=rc' at *
  go_wp2
  go_ret
  exact ⟨zD HE.out.symm,HB2.out⟩
 rw [h0]
 have HVC3:Hid (VC=if s<4 then 3 else (if zO rn E=0 then xN (zC4 z x y wd ht n A E) 0 rn else zO rn E)):=by show _=_;rw [HVC2.out,if_pos h0]
 clear HVC2 h0
 by_cases h4:s<4
 case pos =>
  have HE:Hid (VC=3):=by show _=_;rw [HVC3.out,if_pos h4]
  clear HVC3
  go_wp2
  go_ret
  exact ⟨zD HE.out.symm,HB2.out⟩
 have HVC4:Hid (VC=if zO rn E=0 then xN (zC4 z x y wd ht n A E) 0 rn else zO rn E):=by show _=_;rw [HVC3.out,if_neg h4]
 clear HVC3
 go_wp2_with fail
 refine Calls.mono (HF12.out _ HB2.out) ?_
 rintro e w3 ⟨rfl,hb3⟩
 have HB3:Hid (Bw w w3):=zA HB2.out hb3
 clear hb3 c6 c8 HF12 HB2 h4
 by_cases hq:zO rn E=0
 case neg =>
  have HE:Hid (VC=zO rn E):=by show _=_;rw [HVC4.out,if_neg hq]
  have hcb:(zO rn E == 0)=false:=by simpa using hq
  clear HVC4
  generalize zO rn E=rc' at *
  go_wp2
  go_ret
  exact ⟨zD HE.out.symm,HB3.out⟩
 rw [hq]
 have HVC5:Hid (VC=xN (zC4 z x y wd ht n A E) 0 rn):=by show _=_;rw [HVC4.out,if_pos hq]
 clear HVC4 hq
 go_wp2_with fail
 go_loopw [6] (fun v wr=>∃ k:Nat,k≤rn∧v=.int .i64 k∧(∀ j,j<k→zC4 z x y wd ht n A E j=0)∧Bw w wr) (fun v _=>rn - (intOf v).toNat)
 case atStart=>exact ⟨0,by omega,rfl,by omega,HB3.out⟩
 case round =>
  obtain ⟨k,hk,rfl,hA,hB⟩:=hrel
  have HB:Hid (Bw w wr):=hB
  have HZ:Hid (∀ j,j<k→zC4 z x y wd ht n A E j=0):=hA
  have c8:∀ W',Bw wr W'→W'.cell? ⟨q,8,none⟩=some (.slice ra rn rc):=fun W' h=>(HV.out.below hql (zA HB.out h)).cell 8 rfl
  have c8':=c8 wr (Below.refl _ _)
  clear hA hB HB3
  by_cases hlt:k<rn
  ·have HLT:Hid (k<rn):=hlt
   have first:Hid (zC4 z x y wd ht n A E k=8→VC=8):=fun hc=>by
    rw [HVC5.out,yJ _ rn 0 k (fun j _ hj=>HZ.out j hj) (by omega) (by have:=HLT.out;omega) (by rw [hc];decide),hc]
   have HOK:Hid (zC4 z x y wd ht n A E k=0→∀ j,j<k+1→zC4 z x y wd ht n A E j=0):=fun h0 j hj=>by
    by_cases e:j=k
    ·rw [e];exact h0
    ·exact HZ.out j (by omega)
   rcases HR.out with hz | ⟨rb,ro,rfl,hrl,hW⟩
   ·omega
   have e0:∀ W',Bw wr W'→W'.cell? ⟨rb,ro+k * 5,none⟩=some (.int .i64 (E k).z):=fun W' h=>((hW.below (zA HB.out h) hrl) k hlt).1
   have e1:∀ W',Bw wr W'→W'.cell? ⟨rb,ro+k * 5+1,none⟩=some (.int .i64 (E k).x):=fun W' h=>((hW.below (zA HB.out h) hrl) k hlt).2.1
   have e2:∀ W',Bw wr W'→W'.cell? ⟨rb,ro+k * 5+2,none⟩=some (.int .i64 (E k).y):=fun W' h=>((hW.below (zA HB.out h) hrl) k hlt).2.2.1
   have HSe:Hid (∀ W',Bw wr W'→Calls Tryz.prog 62 #[.pointer (some ⟨q,0,none⟩),vT (E k).z (E k).x (E k).y] W' fun e w'=>e=.returned (.bool (yU z x y wd ht (E k).z (E k).x (E k).y))∧Below W'.heap.size W' w'):=fun W' h=>zUb q _ _ _ W' (HV.out.below hql (zA HB.out h)).cam HCB.out
   have HAt:Hid (∀ W',Bw wr W'→Calls Tryz.prog 63 #[.pointer (some ⟨q,6,none⟩),vT (E k).z (E k).x (E k).y] W' fun e w'=>e=.returned (.int .i64 (atK n A (E k).z (E k).x (E k).y))∧Below W'.heap.size W' w'):=fun W' h=>zHf q 6 s _ n cap A _ _ _ W' ⟨(HV.out.below hql (zA HB.out h)).cell 6 rfl,(HV.out.below hql (zA HB.out h)).cell 7 rfl⟩ (HA.out.below (zA HB.out h)).is hn
   have hi:(k:Int)<(rn:Int):=by omega
   have hi0:(0:Int)≤(k:Int):=by omega
   have hSt:zC4 z x y wd ht n A E k=if yU z x y wd ht (E k).z (E k).x (E k).y=true then (if 0≤atK n A (E k).z (E k).x (E k).y then 8 else 0) else 8:=rfl
   have HSt:=(show Hid _ from hSt)
   clear hSt hW
   generalize zC4 z x y wd ht n A E k=ST at *
   generalize (E k).z=rz at *
   generalize (E k).x=rx at *
   generalize (E k).y=ry at *
   generalize atK n A rz rx ry=AT at *
   generalize yU z x y wd ht rz rx ry=SN at *
   go_wp2_with fail
   refine wp_region_noPanic ?_
   refine wp_region_held_drew (S:=fun W'=>Bw wr W') (by kernel_rfl) (by have:=Below.refl wr.heap.size wr;exact Qb) (fun hHeld=>?_)
   have hX0:Bw wr wr.drew:=hHeld
   refine zF (i:=0) (d:=some 58) rfl rfl ?_
   try simp only [Act.put,Qx,Qy,Qz]
   refine zF (i:=1) (d:=some 59) rfl rfl ?_
   try simp only [Act.put,Qx,Qy,Qz]
   refine zF (i:=2) (d:=some 60) rfl rfl ?_
   try simp only [Act.put,Qx,Qy,Qz]
   refine zF (i:=3) (d:=some 61) rfl rfl ?_
   try simp only [Act.put,Qx,Qy,Qz]
   refine zF (i:=4) (d:=some 62) rfl rfl ?_
   try simp only [Act.put,Qx,Qy,Qz]
   refine zF (i:=5) (d:=some 63) rfl rfl ?_
   try simp only [Act.put,Qx,Qy,Qz]
   refine zF (i:=6) (d:=some 64) rfl rfl ?_
   try simp only [Act.put,Qx,Qy,Qz]
   refine zF (i:=7) (d:=some 65) rfl rfl ?_
   try simp only [Act.put,Qx,Qy,Qz]
   refine zF (i:=8) (d:=some 66) rfl rfl ?_
   try simp only [Act.put,Qx,Qy,Qz]
   refine zF (i:=9) (d:=some 67) rfl rfl ?_
   try simp only [Act.put,Qx,Qy,Qz]
   refine zF (i:=10) (d:=some 68) rfl rfl ?_
   try simp only [Act.put,Qx,Qy,Qz]
   generalize wr.drew=wk0 at *
   refine zN 11 fun K hK=>?_
   rw [if_pos (by rfl)]
   go_simp
   refine Calls.mono (HSe.out _ hX0) ?_
   rintro e wk1 ⟨rfl,hb1⟩
   have hX1:Bw wr wk1:=zA hX0 hb1
   go_wp2_with fail
   refine hK.out _ _ (by assumption) (fun hHeld=>?_)
   clear hK K
   try simp only [Act.put,Qx,Qy,Qz]
   cases SN
   ·have HE:Hid (VC=8):=first.out (by rw [HSt.out];rfl)
    refine zF (i:=12) (d:=some 70) rfl rfl ?_
    try simp only [Act.put,Qx,Qy,Qz]
    refine zF (i:=13) (d:=some 71) rfl rfl ?_
    try simp only [Act.put,Qx,Qy,Qz]
    refine xS (i:=14) (d:=some 72) rfl rfl (by rfl) (by assumption) ?_
    try simp only [Act.put,Qx,Qy,Qz]
    refine xS (i:=15) (d:=some 73) rfl rfl (by rfl) (by assumption) ?_
    try simp only [Act.put,Qx,Qy,Qz]
    refine xS (i:=16) (d:=some 74) rfl rfl (by rfl) (by assumption) ?_
    try simp only [Act.put,Qx,Qy,Qz]
    refine xS (i:=17) (d:=some 75) rfl rfl (by rfl) (by assumption) ?_
    try simp only [Act.put,Qx,Qy,Qz]
    refine xS (i:=18) (d:=some 76) rfl rfl (by rfl) (by assumption) ?_
    try simp only [Act.put,Qx,Qy,Qz]
    refine xS (i:=19) (d:=some 77) rfl rfl (by rfl) (by assumption) ?_
    try simp only [Act.put,Qx,Qy,Qz]
    refine xS (i:=20) (d:=some 78) rfl rfl (by rfl) (by assumption) ?_
    try simp only [Act.put,Qx,Qy,Qz]
    refine xS (i:=21) (d:=some 79) rfl rfl (by rfl) (by assumption) ?_
    try simp only [Act.put,Qx,Qy,Qz]
    refine xS (i:=22) (d:=some 80) rfl rfl (by rfl) (by assumption) ?_
    try simp only [Act.put,Qx,Qy,Qz]
    refine xS (i:=23) (d:=some 81) rfl rfl (by rfl) (by assumption) ?_
    try simp only [Act.put,Qx,Qy,Qz]
    refine xS (i:=24) (d:=some 82) rfl rfl (by rfl) (by assumption) ?_
    try simp only [Act.put,Qx,Qy,Qz]
    refine xS (i:=25) (d:=some 83) rfl rfl (by rfl) (by assumption) ?_
    try simp only [Act.put,Qx,Qy,Qz]
    refine xS (i:=26) (d:=some 84) rfl rfl (by rfl) (by assumption) ?_
    try simp only [Act.put,Qx,Qy,Qz]
    refine zF (i:=27) (d:=some 85) rfl rfl ?_
    try simp only [Act.put,Qx,Qy,Qz]
    refine wpAnyH_done (by kernel_rfl) ?_ _
    refine NoPanic.normal ?_
    have HB9:Hid (Bw w wk1):=zA HB.out hX1
    clear c8 e0 e1 e2 c8' hX0 hb1 hX1
    go_wp2
    go_ret
    exact ⟨zD HE.out.symm,HB9.out⟩
   ·have HSt2:Hid (ST=if 0≤AT then 8 else 0):=by show _=_;rw [HSt.out];rfl
    refine zF (i:=12) (d:=some 70) rfl rfl ?_
    try simp only [Act.put,Qx,Qy,Qz]
    refine zF (i:=13) (d:=some 71) rfl rfl ?_
    try simp only [Act.put,Qx,Qy,Qz]
    refine zF (i:=14) (d:=some 72) rfl rfl ?_
    try simp only [Act.put,Qx,Qy,Qz]
    refine zF (i:=15) (d:=some 73) rfl rfl ?_
    try simp only [Act.put,Qx,Qy,Qz]
    refine zF (i:=16) (d:=some 74) rfl rfl ?_
    try simp only [Act.put,Qx,Qy,Qz]
    refine zF (i:=17) (d:=some 75) rfl rfl ?_
    try simp only [Act.put,Qx,Qy,Qz]
    refine zF (i:=18) (d:=some 76) rfl rfl ?_
    try simp only [Act.put,Qx,Qy,Qz]
    refine zF (i:=19) (d:=some 77) rfl rfl ?_
    try simp only [Act.put,Qx,Qy,Qz]
    refine zF (i:=20) (d:=some 78) rfl rfl ?_
    try simp only [Act.put,Qx,Qy,Qz]
    refine zF (i:=21) (d:=some 79) rfl rfl ?_
    try simp only [Act.put,Qx,Qy,Qz]
    refine zF (i:=22) (d:=some 80) rfl rfl ?_
    try simp only [Act.put,Qx,Qy,Qz]
    refine zF (i:=23) (d:=some 81) rfl rfl ?_
    try simp only [Act.put,Qx,Qy,Qz]
    refine zF (i:=24) (d:=some 82) rfl rfl ?_
    try simp only [Act.put,Qx,Qy,Qz]
    refine zN 25 fun K hK=>?_
    rw [if_pos (by rfl)]
    go_simp
    refine Calls.mono (HAt.out _ hX1) ?_
    rintro e wk2 ⟨rfl,hb2⟩
    have hX2:Bw wr wk2:=zA hX1 hb2
    go_wp2_with fail
    refine hK.out _ _ (by assumption) (fun hHeld=>?_)
    clear hK K
    try simp only [Act.put,Qx,Qy,Qz]
    have HB9:Hid (Bw w wk2):=zA HB.out hX2
    by_cases hat:0≤AT
    ·have HE:Hid (VC=8):=first.out (by rw [HSt2.out,if_pos hat])
     refine zF (i:=26) (d:=some 84) rfl rfl ?_
     try simp only [Act.put,Qx,Qy,Qz]
     refine zF (i:=27) (d:=some 85) rfl rfl ?_
     try simp only [Act.put,Qx,Qy,Qz]
     refine wpAnyH_done (by kernel_rfl) ?_ _
     refine NoPanic.normal ?_
     clear c8 e0 e1 e2 c8' hX0 hb1 hX1 hb2 hX2
     go_wp2
     go_ret
     exact ⟨zD HE.out.symm,HB9.out⟩
    ·have HE:Hid (ST=0):=by show _=_;rw [HSt2.out,if_neg hat]
     refine zF (i:=26) (d:=some 84) rfl rfl ?_
     try simp only [Act.put,Qx,Qy,Qz]
     refine zF (i:=27) (d:=some 85) rfl rfl ?_
     try simp only [Act.put,Qx,Qy,Qz]
     refine wpAnyH_done (by kernel_rfl) ?_ _
     refine NoPanic.normal ?_
     clear c8 e0 e1 e2 c8' hX0 hb1 hX1 hb2 hX2
     go_wp2_with fail
     go_roundw
     case rel=>exact ⟨k+1,by have:=HLT.out;omega,by go_num,HOK.out HE.out,HB9.out⟩
     case measure=>have:=HLT.out;simp [intOf];omega
  ·have HE:Hid (VC=0):=by
    show _=_
    rw [HVC5.out]
    exact xR _ _ _ (fun j _ hj=>HZ.out j (by omega))
   obtain rfl:rn=k:=by omega
   go_wp2
   go_ret
   exact ⟨zD HE.out.symm,HB.out⟩
end Go.Proofs.YtkjbafcalamgnaaGreat
