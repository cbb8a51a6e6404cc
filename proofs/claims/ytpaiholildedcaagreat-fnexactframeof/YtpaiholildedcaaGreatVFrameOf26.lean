/- Texts. -/
import Derived.Test.YtpaiholildedcaaGreatVFrameOf23
import Derived.Test.YtpaiholildedcaaGreatVFrameOf24
set_option linter.unusedSimpArgs false
set_option linter.unusedVariables false
set_option maxRecDepth 100000
set_option maxHeartbeats 32000000
namespace Go.Proofs.YtpaiholildedcaaGreat
open Go.RowKit
end Go.Proofs.YtpaiholildedcaaGreat
namespace Go.Proofs.YtpaiholildedcaaGreat
open Go.ChangeShapes Go.WideShapes Go.ChangeAt Go.RowKit Go.Deep
theorem zMn {H:Type}{enc:TypeId × Value→H}{w:World}{base fuel:Nat}{held:Bool}{cs:List Value}{y:DataW H × List MemPlace}(h:DataW.trod enc Tryz.prog w base (fun _=>true) held fuel 189 cs=some y) :
  ∃ (z x y:Int) (a:Option Addr) (n cap:Nat) (F:Nat→yD),cs=[.int .i64 z,.int .i64 x,.int .i64 y,.slice a n cap]∧(zKn w a n F∧zE7 n F):=by
 obtain ⟨y0,y1,m,hx,hl,h0,h1⟩:=trod_struct2 Tryz.underlying189 h
 simp only [zDr,zOe] at h0 h1
 obtain ⟨z,x,y,e0⟩:=zGh h0
 obtain ⟨a,k,cap,F,e1,hF⟩:=zKr h1
 refine ⟨z,x,y,a,k,cap,F,?_,hF⟩
 have hlen:cs.length=4:=by rw [hl];exact zKf
 match cs,hlen with
 | [v0,v1,v2,v3],_ =>
  simp at e0 e1
  simp [e0,e1]
theorem zMp {H:Type}{enc:TypeId × Value→H}{w:World}{base fuel:Nat}{held:Bool}{cs:List Value}{y:DataW H × List MemPlace}(h:DataW.trod enc Tryz.prog w base (fun _=>true) held fuel 46 cs=some y) :
  ∃ (a:Option Addr) (n cap:Nat) (Z:Nat→Int),cs=[.slice a n cap]∧(uE w a n Z∧n≤maxLen):=by
 rcases open_ints Tryz.underlying46 Tryz.underlying2 (by kernel_rfl) h with ⟨hcs,_⟩ | ⟨x,l,c,zs,hcs,_,hl,hm,hz,_,hcell,hwz⟩
 ·exact ⟨none,0,0,fun _=>0,hcs,.inl rfl,Nat.zero_le _⟩
 ·have hz':zs.length=c:=by simpa using hz
  refine ⟨some x,l,c,fun i=>zs.getD i 0,hcs,?_,Nat.le_trans hl hm⟩
  by_cases h0:l=0
  ·exact .inl h0
  ·right
   obtain ⟨b,off,spot⟩:=x
   have e0:=hcell 0 (by omega)
   have hspot:spot=none:=by simpa [Addr.add] using World.cell?_spot e0
   subst hspot
   refine ⟨b,off,rfl,?_,fun i hi=>?_⟩
   ·have:=World.block_lt_of_cell? _ _ e0
    simpa [Addr.add] using this
   ·have:=hcell i (by omega)
    have e:(⟨b,off,none⟩:Addr).add i=⟨b,off+i,none⟩:=by
     unfold Addr.add
     by_cases h:i=0 <;> simp [h]
    rw [e] at this
    exact this
theorem zPy:Tryz.prog.cellsOf 46=1:=by kernel_rfl
theorem zKg:Tryz.prog.cellsOf 191=5:=by kernel_rfl
theorem zOd:Tryz.prog.cellsOf 39=1:=by kernel_rfl
theorem zKi:Tryz.prog.cellsOf 41=2:=by kernel_rfl
theorem zMq {H:Type}{enc:TypeId × Value→H}{w:World}{base fuel:Nat}{held:Bool}{cs:List Value}{y:DataW H × List MemPlace}(h:DataW.trod enc Tryz.prog w base (fun _=>true) held fuel 191 cs=some y) :
  ∃ k:Kp,cs=[.int .i64 k.z,.int .i64 k.x,.int .i64 k.y,.slice k.fa k.fn k.fc,.slice k.ia k.m k.ic]∧(zMb w k∧zMc k):=by
 obtain ⟨y0,y1,m,hx,hl,h0,h1⟩:=trod_struct2 Tryz.underlying191 h
 simp only [zKf,zPy] at h0 h1
 obtain ⟨z,x,y,a,n,cap,F,e0,hF⟩:=zMn h0
 obtain ⟨ia,k,ic,Z,e1,hZ⟩:=zMp h1
 refine ⟨⟨z,x,y,a,n,cap,F,ia,k,ic,Z⟩,?_,⟨hF.1,hZ.1⟩,hF.2,hZ.2⟩
 have hlen:cs.length=5:=by rw [hl];exact zKg
 match cs,hlen with
 | [v0,v1,v2,v3,v4],_ =>
  simp at e0 e1
  simp [e0,e1]
theorem zKq {H:Type}{enc:TypeId × Value→H}{w:World}{base fuel:Nat}{held:Bool}{cs:List Value}{y:DataW H × List MemPlace}(hf:DataW.trod enc Tryz.prog w base (fun _=>true) held fuel 39 cs=some y) :
  ∃ (a:Option Addr) (n cap:Nat) (K:Nat→Kp),cs=[.slice a n cap]∧(zCf w a n K∧zAd n K):=by
 rcases open_slice Tryz.underlying39 hf with ⟨hcs,_⟩ | ⟨x,l,c,m,n,D,Pl,hcs,_,hl,hc,hm,_,hx⟩
 ·exact ⟨none,0,0,fun _=>⟨0,0,0,none,0,0,fun _=>⟨0,0,0,0,none,0,0,fun _=>0,fun _=>0,⟨#[]⟩,0⟩,none,0,0,fun _=>0⟩,hcs,.inl rfl,Nat.zero_le _,fun i hi=>absurd hi (by omega)⟩
 ·simp at hm
  subst hm
  have each:∀ i,∃ e:Kp,i<l→(∀ k,k<5→w.cell? (x.add (i * 5+k))=[Value.int .i64 e.z,.int .i64 e.x,.int .i64 e.y,.slice e.fa e.fn e.fc,.slice e.ia e.m e.ic][k]?)∧zMb w e∧zMc e:=by
   intro i
   by_cases hi:i<l
   ·obtain ⟨cs',h1,h2⟩:=hx i (by omega)
    rw [zKg] at h1
    obtain ⟨_,hlen,hcell⟩:=World.cells?_some h1
    obtain ⟨e,rfl,hk⟩:=zMq h2
    refine ⟨e,fun _=>⟨fun k hk=>?_,hk⟩⟩
    have:=hcell k hk
    rw [add_add] at this
    exact this
   ·exact ⟨⟨0,0,0,none,0,0,fun _=>⟨0,0,0,0,none,0,0,fun _=>0,fun _=>0,⟨#[]⟩,0⟩,none,0,0,fun _=>0⟩,fun h=>absurd h hi⟩
  obtain ⟨K,hK⟩:=Classical.skolem.1 each
  refine ⟨some x,l,_,K,hcs,?_,Nat.le_trans hl hc,fun i hi=>(hK i hi).2.2⟩
  by_cases h0:l=0
  ·exact .inl h0
  ·right
   obtain ⟨b,off,spot⟩:=x
   have e0:=(hK 0 (by omega)).1 0 (by omega)
   simp at e0
   have hspot:spot=none:=by simpa [Addr.add] using World.cell?_spot e0
   subst hspot
   refine ⟨b,off,rfl,?_,fun i hi=>?_⟩
   ·have:=World.block_lt_of_cell? _ _ e0
    simpa [Addr.add] using this
   ·obtain ⟨hc5,hp,_⟩:=hK i hi
    refine ⟨?_,hp⟩
    have k0:=hc5 0 (by omega)
    have k1:=hc5 1 (by omega)
    have k2:=hc5 2 (by omega)
    have k3:=hc5 3 (by omega)
    have k4:=hc5 4 (by omega)
    rw [add_plain] at k0 k1 k2 k3 k4
    simp only [← Nat.add_assoc,Nat.add_zero] at k0 k1 k2 k3 k4
    exact ⟨k0,k1,k2,k3,k4⟩
end Go.Proofs.YtpaiholildedcaaGreat
namespace Go.Proofs.YtpaiholildedcaaGreat
open Go.RowKit
end Go.Proofs.YtpaiholildedcaaGreat
namespace Go.Proofs.YtpaiholildedcaaGreat
open Go.ChangeShapes Go.WideShapes Go.ChangeAt Go.RowKit Go.Deep
theorem zHy:Tryz.prog.cellsOf 23=5:=by kernel_rfl
theorem zMs {H:Type}{enc:TypeId × Value→H}{w:World}{base:Nat}{spare:Nat→Bool}{held:Bool}{n:Nat}{cs:List Value}{x:DataW H × List MemPlace}(h:DataW.trod enc Tryz.prog w base spare held n 23 cs=some x):∃ a b c d e:Int,cs=[.int .i64 a,.int .i64 b,.int .i64 c,.int .i64 d,.int .i64 e]:=by
 obtain ⟨xs,m,rfl,hx,hl,hxl,hf⟩:=DataW.trod_struct Tryz.underlying23 h
 rw [zHy] at hl
 have hxl3:xs.length=5:=hxl
 match cs,hl with
 | [v0,v1,v2,v3,v4],_ =>
  match xs,hxl3 with
  | [x0,x1,x2,x3,x4],_ =>
   have h0:=hf 0 _ rfl
   have h1:=hf 1 _ rfl
   have h2:=hf 2 _ rfl
   have h3:=hf 3 _ rfl
   have h4:=hf 4 _ rfl
   simp [xP] at h0 h1 h2 h3 h4
   obtain ⟨a,e0,_,_⟩:=DataW.trod_int Tryz.underlying2 h0
   obtain ⟨b,e1,_,_⟩:=DataW.trod_int Tryz.underlying2 h1
   obtain ⟨c,e2,_,_⟩:=DataW.trod_int Tryz.underlying2 h2
   obtain ⟨d,e3,_,_⟩:=DataW.trod_int Tryz.underlying2 h3
   obtain ⟨e,e4,_,_⟩:=DataW.trod_int Tryz.underlying2 h4
   simp at e0 e1 e2 e3 e4
   subst e0 e1 e2 e3 e4
   exact ⟨a,b,c,d,e,rfl⟩
theorem zHx:Tryz.prog.cellsOf 147=5:=by kernel_rfl
theorem zOr {H:Type}{enc:TypeId × Value→H}{w:World}{base:Nat}{spare:Nat→Bool}{held:Bool}{n:Nat}{cs:List Value}{x:DataW H × List MemPlace}(h:DataW.trod enc Tryz.prog w base spare held n 147 cs=some x):∃ a b c d e:Int,cs=[.int .i64 a,.int .i64 b,.int .i64 c,.int .i64 d,.int .i64 e]:=by
 obtain ⟨xs,m,rfl,hx,hl,hxl,hf⟩:=DataW.trod_struct Tryz.underlying147 h
 rw [zHx] at hl
 have hxl3:xs.length=3:=hxl
 match cs,hl with
 | [v0,v1,v2,v3,v4],_ =>
  match xs,hxl3 with
  | [x0,x1,x2],_ =>
   have h0:=hf 0 _ rfl
   have h1:=hf 1 _ rfl
   have h2:=hf 2 _ rfl
   simp [xP,zDr] at h0 h1 h2
   obtain ⟨a,b,c,e0⟩:=zGh h0
   obtain ⟨d,e1,_,_⟩:=DataW.trod_int Tryz.underlying2 h1
   obtain ⟨e,e2,_,_⟩:=DataW.trod_int Tryz.underlying2 h2
   simp at e0 e1 e2
   obtain ⟨rfl,rfl,rfl⟩:=e0
   subst e1 e2
   exact ⟨a,b,c,d,e,rfl⟩
theorem zMo {H:Type}{enc:TypeId × Value→H}{w:World}{base fuel:Nat}{held:Bool}{cs:List Value}{y:DataW H × List MemPlace}(hf:DataW.trod enc Tryz.prog w base (fun _=>true) held fuel 42 cs=some y) :
  ∃ (a:Option Addr) (n cap:Nat) (E:Nat→Req),cs=[.slice a n cap]∧(uQ w a n E∧n≤cap∧cap≤maxLen):=by
 rcases open_slice Tryz.underlying42 hf with ⟨hcs,_⟩ | ⟨x,l,c,m,n,D,Pl,hcs,_,hl,hc,hm,_,hx⟩
 ·exact ⟨none,0,0,fun _=>⟨0,0,0,0,0⟩,hcs,.inl rfl,Nat.le_refl _,Nat.zero_le _⟩
 ·simp at hm
  subst hm
  have each:∀ i,∃ e:Req,i<l→∀ k,k<5→w.cell? (x.add (i * 5+k))=[Value.int .i64 e.z,.int .i64 e.x,.int .i64 e.y,.int .i64 e.du,.int .i64 e.tr][k]?:=by
   intro i
   by_cases hi:i<l
   ·obtain ⟨cs',h1,h2⟩:=hx i (by omega)
    rw [zHx] at h1
    obtain ⟨_,hlen,hcell⟩:=World.cells?_some h1
    obtain ⟨k0,k1,k2,k3,k4,rfl⟩:=zOr h2
    refine ⟨⟨k0,k1,k2,k3,k4⟩,fun _ k hk=>?_⟩
    have:=hcell k hk
    rw [add_add] at this
    exact this
   ·exact ⟨⟨0,0,0,0,0⟩,fun h=>absurd h hi⟩
  obtain ⟨E,hE⟩:=Classical.skolem.1 each
  refine ⟨some x,l,_,E,hcs,?_,hl,hc⟩
  by_cases h0:l=0
  ·exact .inl h0
  ·right
   obtain ⟨b,off,spot⟩:=x
   have e0:=hE 0 (by omega) 0 (by omega)
   simp at e0
   have hspot:spot=none:=by simpa [Addr.add] using World.cell?_spot e0
   subst hspot
   refine ⟨b,off,rfl,?_,fun i hi=>?_⟩
   ·have:=World.block_lt_of_cell? _ _ e0
    simpa [Addr.add] using this
   ·have hc5:=hE i hi
    have k0:=hc5 0 (by omega)
    have k1:=hc5 1 (by omega)
    have k2:=hc5 2 (by omega)
    have k3:=hc5 3 (by omega)
    have k4:=hc5 4 (by omega)
    rw [add_plain] at k0 k1 k2 k3 k4
    simp only [← Nat.add_assoc,Nat.add_zero] at k0 k1 k2 k3 k4
    exact ⟨k0,k1,k2,k3,k4⟩
theorem zKs {H:Type}{enc:TypeId × Value→H}{w:World}{base fuel:Nat}{held:Bool}{cs:List Value}{y:DataW H × List MemPlace}(h:DataW.trod enc Tryz.prog w base (fun _=>true) held fuel 41 cs=some y) :
  ∃ (s:Int) (a:Option Addr) (n cap:Nat) (K:Nat→Kp),cs=[.int .i64 s,.slice a n cap]∧(zCf w a n K∧zAd n K):=by
 obtain ⟨y0,y1,m,hx,hl,h0,h1⟩:=trod_struct2 Tryz.underlying41 h
 simp only [xP,zOd] at h0 h1
 obtain ⟨s,e0,_,_⟩:=DataW.trod_int Tryz.underlying2 h0
 obtain ⟨a,k,cap,K,e1,hK⟩:=zKq h1
 refine ⟨s,a,k,cap,K,?_,hK⟩
 have hlen:cs.length=2:=by rw [hl];exact zKi
 match cs,hlen with
 | [v0,v1],_ =>
  simp at e0 e1
  simp [e0,e1]
theorem zOc:Tryz.prog.cellsOf 42=1:=by kernel_rfl
theorem zPz:Tryz.prog.cellsOf 44=10:=by kernel_rfl
theorem open_viewer {H:Type}{enc:TypeId × Value→H}{w:World}{base b0:Nat}{held:Bool}{r:Reach}{v:Value}{d:DataW H}{p:List MemPlace}(hv:Value.okWide Tryz.prog w r b0 44 v)(h:DataW.Trod enc Tryz.prog w base (fun _=>true) held 44 v d p) :
  ∃ (z x y wd ht now s:Int) (ka:Option Addr) (kn kc:Nat) (K:Nat→Kp) (ra:Option Addr) (rn rc:Nat) (E:Nat→Req) (bad:Int),
   v=.agg #[.int .i64 z,.int .i64 x,.int .i64 y,.int .i64 wd,.int .i64 ht,.int .i64 now,.int .i64 s,.slice ka kn kc,.slice ra rn rc,.int .i64 bad]∧((zCf w ka kn K∧zAd kn K)∧uQ w ra rn E∧rn≤rc∧rc≤maxLen):=by
 obtain ⟨cs,rfl,hsz⟩:=okWide_struct Tryz.underlying44 hv
 obtain ⟨n,h⟩:=h
 obtain ⟨xs,m,e,hx,hl,hxl,hf⟩:=DataW.trod_struct Tryz.underlying44 h
 have hxl5:xs.length=5:=hxl
 simp only [Value.cells] at hl hf
 rw [zPz] at hl
 match xs,hxl5 with
 | [x0,x1,x2,x3,x4],_ =>
  have h0:=hf 0 _ rfl
  have h1:=hf 1 _ rfl
  have h2:=hf 2 _ rfl
  have h3:=hf 3 _ rfl
  have h4:=hf 4 _ rfl
  match hcs:cs.toList,hl with
  | [v0,v1,v2,v3,v4,v5,v6,v7,v8,v9],_ =>
   rw [hcs] at h0 h1 h2 h3 h4
   simp [xP,zHy,zKi,zOc] at h0 h1 h2 h3 h4
   obtain ⟨z,x,y,wd,ht,e0⟩:=zMs h0
   obtain ⟨now,e1,_,_⟩:=DataW.trod_int Tryz.underlying2 h1
   obtain ⟨s,ka,kn,kc,K,e2,hK⟩:=zKs h2
   obtain ⟨ra,rn,rc,E,e3,hE⟩:=zMo h3
   obtain ⟨bad,e4,_,_⟩:=DataW.trod_int Tryz.underlying2 h4
   simp at e0 e1 e2 e3 e4
   refine ⟨z,x,y,wd,ht,now,s,ka,kn,kc,K,ra,rn,rc,E,bad,?_,hK,hE⟩
   obtain ⟨rfl,rfl,rfl,rfl,rfl⟩:=e0
   obtain ⟨rfl,rfl⟩:=e2
   subst e1 e3 e4
   have:cs=#[.int .i64 z,.int .i64 x,.int .i64 y,.int .i64 wd,.int .i64 ht,.int .i64 now,.int .i64 s,.slice ka kn kc,.slice ra rn rc,.int .i64 bad]:=by
    apply Array.toList_inj.1
    rw [hcs]
   rw [this]
end Go.Proofs.YtpaiholildedcaaGreat
namespace Go.Proofs.YtpaiholildedcaaGreat
open Go.RowKit
def VkW (w:World)(lo hi b n:Nat)(A:Nat→Kp)(rb rn:Nat):Prop:=∃ M,lo≤b∧KsW w b n A M∧M n≤rb∧rb<hi∧hi≤w.heap.size∧zC w rb (rn * 5)
theorem VkW.below {w w':World}{lo hi b n rb rn:Nat}{A:Nat→Kp}(h:VkW w lo hi b n A rb rn)(hb:Below w.heap.size w w'):VkW w' lo hi b n A rb rn:=by
 obtain ⟨M,h1,h2,h3,h4,h5,h6⟩:=h
 exact ⟨M,h1,h2.below hb,h3,h4,Nat.le_trans h5 hb.size,h6.below hb⟩
theorem zGi (z x y wd ht now s:Int)(a:Option Addr)(n cap:Nat)(K:Nat→Kp)(ra:Option Addr)(rn rc:Nat)(E:Nat→Req)(bad:Int)(w:World)(hk:zCf w a n K)(hs:zL n K)(hr:uQ w ra rn E)(hrn:rn≤1048576) :
  Calls Tryz.prog 15 #[vwV z x y wd ht now s (.slice a n cap) (.slice ra rn rc) bad] w fun e w'=>∃ b A rb,e=.returned (vwV z x y wd ht now s (.slice (some ⟨b,0,none⟩) n n) (.slice (some ⟨rb,0,none⟩) rn rn) bad)∧w.heap.size≤b∧w.heap.size≤rb∧zGa w' b n K A rb rn E∧VkW w' w.heap.size w'.heap.size b n A rb rn∧Bw w w':=by
 have HP:Hid (zCf w a n K):=hk
 have HS:Hid (zL n K):=hs
 have HR:Hid (uQ w ra rn E):=hr
 clear hk hs hr
 go_enter Tryz.func15,Tryz.ntmps15
 go_wp2_with fail
 generalize hW:(((w.alloc _).alloc _).alloc _:World)=W
 have HB0:Hid (Bw w W):=by show Below _ _ _;subst hW;exact Qb
 have HV:Hid (Blk W w.heap.size [.int .i64 z,.int .i64 x,.int .i64 y,.int .i64 wd,.int .i64 ht,.int .i64 now,.int .i64 s,.slice a n cap,.slice ra rn rc,.int .i64 bad]):=by
  show Blk _ _ _;subst hW
  exact ((Blk.new w _ _).alloc (by simp) _).alloc (by simp;omega) _
 have HU:Hid (Blk W (w.heap.size+1) [.int .i64 0,.int .i64 0,.int .i64 0,.int .i64 0,.int .i64 0,.int .i64 0,.int .i64 0,.slice none 0 0,.slice none 0 0,.int .i64 0]):=by
  show Blk _ _ _;subst hW
  have:=(Blk.new (w.alloc (.cells #[.int .i64 z,.int .i64 x,.int .i64 y,.int .i64 wd,.int .i64 ht,.int .i64 now,.int .i64 s,.slice a n cap,.slice ra rn rc,.int .i64 bad] 44)) [.int .i64 0,.int .i64 0,.int .i64 0,.int .i64 0,.int .i64 0,.int .i64 0,.int .i64 0,.slice none 0 0,.slice none 0 0,.int .i64 0] 31).alloc (by simp) (.cells #[.int .i64 0,.int .i64 0,.int .i64 0,.int .i64 0,.int .i64 0,.int .i64 0,.int .i64 0,.slice none 0 0,.slice none 0 0,.int .i64 0] 31)
  simpa using this
 have HO:Hid (Blk W (w.heap.size+1+1) [.int .i64 0,.int .i64 0,.int .i64 0,.int .i64 0,.int .i64 0,.int .i64 0,.int .i64 0,.slice none 0 0,.slice none 0 0,.int .i64 0]):=by
  show Blk _ _ _;subst hW
  have:=Blk.new ((w.alloc (.cells #[.int .i64 z,.int .i64 x,.int .i64 y,.int .i64 wd,.int .i64 ht,.int .i64 now,.int .i64 s,.slice a n cap,.slice ra rn rc,.int .i64 bad] 44)).alloc (.cells #[.int .i64 0,.int .i64 0,.int .i64 0,.int .i64 0,.int .i64 0,.int .i64 0,.int .i64 0,.slice none 0 0,.slice none 0 0,.int .i64 0] 31)) [.int .i64 0,.int .i64 0,.int .i64 0,.int .i64 0,.int .i64 0,.int .i64 0,.int .i64 0,.slice none 0 0,.slice none 0 0,.int .i64 0] 31
  simpa using this
 clear hW
 refine (zGm z x y wd ht W).mono ?_
 rintro e w1 ⟨rfl,hb1⟩
 have HB1:Hid (Bw w w1):=zA HB0.out hb1
 have HV1:Hid (Blk w1 w.heap.size [.int .i64 z,.int .i64 x,.int .i64 y,.int .i64 wd,.int .i64 ht,.int .i64 now,.int .i64 s,.slice a n cap,.slice ra rn rc,.int .i64 bad]):=HV.out.below HV.out.lt hb1
 have HU1:Hid (Blk w1 (w.heap.size+1) [.int .i64 0,.int .i64 0,.int .i64 0,.int .i64 0,.int .i64 0,.int .i64 0,.int .i64 0,.slice none 0 0,.slice none 0 0,.int .i64 0]):=HU.out.below HU.out.lt hb1
 have hO1:=HO.out.below HO.out.lt hb1
 have HO1:Hid (Blk w1 (w.heap.size+1+1) [.int .i64 0,.int .i64 0,.int .i64 0,.int .i64 0,.int .i64 0,.int .i64 0,.int .i64 0,.slice none 0 0,.slice none 0 0,.int .i64 0]):=hO1
 obtain ⟨d0,d1,d2,d3,d4,d5,d6,d7,d8,d9⟩:=Blk.c10 HV1.out
 obtain ⟨t0,t1,t2,t3,t4,t5,t6,t7,t8,t9⟩:=Blk.c10 hO1
 obtain ⟨f0,f1,f2,f3,f4,f5,f6,f7,f8,f9⟩:=Blk.f10 hO1
 clear hb1 hO1 HV HU HO HB0
 go_wp2_with fail
 generalize hW2:(World.setCell _ _ _:World)=W2
 have HB2:Hid (Bw w W2):=by show Below _ _ _;subst hW2;exact ((((((HB1.out.setCell (le2 _) _).setCell (le2 _) _).setCell (le2 _) _).setCell (le2 _) _).setCell (le2 _) _).setCell (le2 _) _)
 have HV2:Hid (Blk W2 w.heap.size [.int .i64 z,.int .i64 x,.int .i64 y,.int .i64 wd,.int .i64 ht,.int .i64 now,.int .i64 s,.slice a n cap,.slice ra rn rc,.int .i64 bad]):=by show Blk _ _ _;subst hW2;exact ((((((HV1.out.other (by omega)).other (by omega)).other (by omega)).other (by omega)).other (by omega)).other (by omega))
 have HU2:Hid (Blk W2 (w.heap.size+1) [.int .i64 0,.int .i64 0,.int .i64 0,.int .i64 0,.int .i64 0,.int .i64 0,.int .i64 0,.slice none 0 0,.slice none 0 0,.int .i64 0]):=by show Blk _ _ _;subst hW2;exact ((((((HU1.out.other (by omega)).other (by omega)).other (by omega)).other (by omega)).other (by omega)).other (by omega))
 have HO2:Hid (Blk W2 (w.heap.size+1+1) [.int .i64 z,.int .i64 x,.int .i64 y,.int .i64 wd,.int .i64 ht,.int .i64 now,.int .i64 0,.slice none 0 0,.slice none 0 0,.int .i64 0]):=by show Blk _ _ _;subst hW2;exact ((((((HO1.out.set 0 _).set 1 _).set 2 _).set 3 _).set 4 _).set 5 _)
 clear hW2 HV1 HU1 HO1 HB1 d0 t0 f0 d1 t1 f1 d2 t2 f2 d3 t3 f3 d4 t4 f4 d5 t5 f5 d6 t6 f6 d7 t7 f7 d8 t8 f8 d9 t9 f9
 refine (zIf s a n cap K W2 (HP.out.below HB2.out) HS.out).mono ?_
 rintro e w3 ⟨b,A,rfl,hge3,hOK3,⟨M,hKW3⟩,hb3⟩
 have HKW3:Hid (KsW w3 b n A M):=hKW3
 clear hKW3
 have hbb:w.heap.size+1+1<b:=Nat.lt_of_lt_of_le HO2.out.lt hge3
 have HK3:Hid (zX w3 (b+1) b n K A):=hOK3
 have HB3:Hid (Bw w w3):=zA HB2.out hb3
 have HV3:Hid (Blk w3 w.heap.size [.int .i64 z,.int .i64 x,.int .i64 y,.int .i64 wd,.int .i64 ht,.int .i64 now,.int .i64 s,.slice a n cap,.slice ra rn rc,.int .i64 bad]):=HV2.out.below HV2.out.lt hb3
 have HU3:Hid (Blk w3 (w.heap.size+1) [.int .i64 0,.int .i64 0,.int .i64 0,.int .i64 0,.int .i64 0,.int .i64 0,.int .i64 0,.slice none 0 0,.slice none 0 0,.int .i64 0]):=HU2.out.below HU2.out.lt hb3
 have hO3:=HO2.out.below HO2.out.lt hb3
 have HO3:Hid (Blk w3 (w.heap.size+1+1) [.int .i64 z,.int .i64 x,.int .i64 y,.int .i64 wd,.int .i64 ht,.int .i64 now,.int .i64 0,.slice none 0 0,.slice none 0 0,.int .i64 0]):=hO3
 obtain ⟨d0,d1,d2,d3,d4,d5,d6,d7,d8,d9⟩:=Blk.c10 HV3.out
 obtain ⟨t0,t1,t2,t3,t4,t5,t6,t7,t8,t9⟩:=Blk.c10 hO3
 obtain ⟨f0,f1,f2,f3,f4,f5,f6,f7,f8,f9⟩:=Blk.f10 hO3
 clear hb3 hO3 hOK3 HV2 HU2 HO2 HB2 hge3
 go_wp2_with fail
 generalize hW4:(World.setCell _ _ _:World)=W4
 have HB4:Hid (Bw w W4):=by show Below _ _ _;subst hW4;exact ((HB3.out.setCell (le2 _) _).setCell (le2 _) _)
 have HV4:Hid (Blk W4 w.heap.size [.int .i64 z,.int .i64 x,.int .i64 y,.int .i64 wd,.int .i64 ht,.int .i64 now,.int .i64 s,.slice a n cap,.slice ra rn rc,.int .i64 bad]):=by show Blk _ _ _;subst hW4;exact ((HV3.out.other (by omega)).other (by omega))
 have HU4:Hid (Blk W4 (w.heap.size+1) [.int .i64 0,.int .i64 0,.int .i64 0,.int .i64 0,.int .i64 0,.int .i64 0,.int .i64 0,.slice none 0 0,.slice none 0 0,.int .i64 0]):=by show Blk _ _ _;subst hW4;exact ((HU3.out.other (by omega)).other (by omega))
 have HO4:Hid (Blk W4 (w.heap.size+1+1) [.int .i64 z,.int .i64 x,.int .i64 y,.int .i64 wd,.int .i64 ht,.int .i64 now,.int .i64 s,.slice (some ⟨b,0,none⟩) n n,.slice none 0 0,.int .i64 0]):=by show Blk _ _ _;subst hW4;exact ((HO3.out.set 6 _).set 7 _)
 have HM4:Hid (zR w.heap.size (w.heap.size+1+1+1) w3 W4):=by show zR _ _ _ _;subst hW4;exact (((zR.refl _ _ _).set (by omega) (by omega) _ _).set (by omega) (by omega) _ _)
 have HK4:Hid (zX W4 (b+1) b n K A):=HK3.out.mid (C:=0) HM4.out (by omega)
 have HKW4:Hid (KsW W4 b n A M):=HKW3.out.mid HM4.out (.inl (by omega))
 clear hW4 HV3 HU3 HO3 HB3 HK3 HM4 HKW3 d0 t0 f0 d1 t1 f1 d2 t2 f2 d3 t3 f3 d4 t4 f4 d5 t5 f5 d6 t6 f6 d7 t7 f7 d8 t8 f8 d9 t9 f9
 refine (zDz ra rn rc E W4 (HR.out.below HB4.out) hrn).mono ?_
 rintro e w5 ⟨rb,rfl,hge5,hlt5,hW5,hT5,hb5⟩
 have HT5:Hid (zC w5 rb (rn * 5)):=hT5
 have hMr:M n≤rb:=Nat.le_trans HKW4.out.2.2.2 hge5
 have HKW5:Hid (KsW w5 b n A M):=HKW4.out.below hb5
 clear hT5 HKW4
 have hrb:w.heap.size+1+1<rb:=Nat.lt_of_lt_of_le HO4.out.lt hge5
 have HW5:Hid (zE6 w5 rb 0 rn E):=hW5
 have HK5:Hid (zX w5 (b+1) b n K A):=HK4.out.below hb5
 have HB5:Hid (Bw w w5):=zA HB4.out hb5
 have HV5:Hid (Blk w5 w.heap.size [.int .i64 z,.int .i64 x,.int .i64 y,.int .i64 wd,.int .i64 ht,.int .i64 now,.int .i64 s,.slice a n cap,.slice ra rn rc,.int .i64 bad]):=HV4.out.below HV4.out.lt hb5
 have hU5:=HU4.out.below HU4.out.lt hb5
 have HU5:Hid (Blk w5 (w.heap.size+1) [.int .i64 0,.int .i64 0,.int .i64 0,.int .i64 0,.int .i64 0,.int .i64 0,.int .i64 0,.slice none 0 0,.slice none 0 0,.int .i64 0]):=hU5
 have hO5:=HO4.out.below HO4.out.lt hb5
 have HO5:Hid (Blk w5 (w.heap.size+1+1) [.int .i64 z,.int .i64 x,.int .i64 y,.int .i64 wd,.int .i64 ht,.int .i64 now,.int .i64 s,.slice (some ⟨b,0,none⟩) n n,.slice none 0 0,.int .i64 0]):=hO5
 have d9:=HV5.out.cell 9 rfl
 obtain ⟨t0,t1,t2,t3,t4,t5,t6,t7,t8,t9⟩:=Blk.c10 hO5
 obtain ⟨f0,f1,f2,f3,f4,f5,f6,f7,f8,f9⟩:=Blk.f10 hO5
 obtain ⟨u0,u1,u2,u3,u4,u5,u6,u7,u8,u9⟩:=Blk.c10 hU5
 obtain ⟨g0,g1,g2,g3,g4,g5,g6,g7,g8,g9⟩:=Blk.f10 hU5
 clear hb5 hO5 hU5 hW5 HV4 HU4 HO4 HB4 HK4 hge5
 go_wp2_with fail
 generalize hW6:(World.setCell _ _ _:World)=W6
 have HB6:Hid (Bw w W6):=by show Below _ _ _;subst hW6;exact ((((((((((((HB5.out.setCell (le2 _) _).setCell (le2 _) _).setCell (Nat.le_succ _) _).setCell (Nat.le_succ _) _).setCell (Nat.le_succ _) _).setCell (Nat.le_succ _) _).setCell (Nat.le_succ _) _).setCell (Nat.le_succ _) _).setCell (Nat.le_succ _) _).setCell (Nat.le_succ _) _).setCell (Nat.le_succ _) _).setCell (Nat.le_succ _) _)
 have HU6:Hid (Blk W6 (w.heap.size+1) [.int .i64 z,.int .i64 x,.int .i64 y,.int .i64 wd,.int .i64 ht,.int .i64 now,.int .i64 s,.slice (some ⟨b,0,none⟩) n n,.slice (some ⟨rb,0,none⟩) rn rn,.int .i64 bad]):=by show Blk _ _ _;subst hW6;exact ((((((((((((HU5.out.other (by omega)).other (by omega)).set 0 _).set 1 _).set 2 _).set 3 _).set 4 _).set 5 _).set 6 _).set 7 _).set 8 _).set 9 _)
 have HM6:Hid (zR w.heap.size (w.heap.size+1+1+1) w5 W6):=by show zR _ _ _ _;subst hW6;exact (((((((((((((zR.refl _ _ _).set (by omega) (by omega) _ _).set (by omega) (by omega) _ _).set (by omega) (by omega) _ _).set (by omega) (by omega) _ _).set (by omega) (by omega) _ _).set (by omega) (by omega) _ _).set (by omega) (by omega) _ _).set (by omega) (by omega) _ _).set (by omega) (by omega) _ _).set (by omega) (by omega) _ _).set (by omega) (by omega) _ _).set (by omega) (by omega) _ _)
 clear hW6
 refine bodyPost_ret (resTV rfl HU6.out) rfl ⟨b,A,rb,rfl,by omega,by omega,⟨HK5.out.mid (C:=0) HM6.out (by omega),Nat.lt_of_lt_of_le hlt5 HM6.out.size,fun i hi=>?_⟩,⟨M,by omega,HKW5.out.mid HM6.out (.inl (by omega)),hMr,Nat.lt_of_lt_of_le hlt5 HM6.out.size,Nat.le_refl _,HM6.out.there HT5.out (.inr (by omega))⟩,HB6.out⟩
 obtain ⟨q0,q1,q2,q3,q4⟩:=HW5.out i hi
 exact ⟨HM6.out.cell q0 (.inr (by omega)),HM6.out.cell q1 (.inr (by omega)),HM6.out.cell q2 (.inr (by omega)),HM6.out.cell q3 (.inr (by omega)),HM6.out.cell q4 (.inr (by omega))⟩
theorem zD8 (s:Int)(g n cap k0:Nat)(R:Nat→Kp)(M:Nat→Nat)(w:World)(hW:KsW w g n R M)(hs:zL n R)(h0:0<k0)(hk0:k0≤1000000000) :
  Calls Tryz.prog 52 #[caV s (.slice (some ⟨g,0,none⟩) n cap),.int .i64 (k0:Int)] w fun e w'=>e=.returned (.int .i64 ((kK R k0 n:Nat):Int))∧KsM w' g n R M k0∧zR g (M n) w w':=by
 have HM:Hid (∀ V,Bw w V→Calls Tryz.prog 101 #[.slice (some ⟨g,0,none⟩) n cap,.int .i64 (k0:Int)] V fun e w'=>e=.returned (.int .i64 ((kK R k0 n:Nat):Int))∧KsM w' g n R M k0∧zR g (M n) V w'):=fun V h=>zFn g n cap k0 R M V (hW.below h) hs h0 hk0
 clear hW hs h0 hk0
 generalize hq:kK R k0 n=q at *
 go_enter Tryz.func52,Tryz.ntmps52
 go_wp2_with fail
 generalize hV:(w.alloc _:World)=V
 have HB:Hid (Bw w V):=by show Below _ _ _;subst hV;exact Qb
 clear hV
 refine Calls.mono (HM.out V HB.out) ?_
 rintro e w1 ⟨rfl,h1,h2⟩
 have H1:Hid (KsM w1 g n R M k0):=h1
 have H2:Hid (zR g (M n) w w1):=(zR.of_below HB.out).trans h2
 clear h1 h2
 go_wp2
 go_ret
 exact ⟨rfl,H1.out,H2.out⟩
theorem zD6 (z x y wd ht now s:Int)(lo hi b n:Nat)(A:Nat→Kp)(rb rn:Nat)(bad:Int)(w:World)(h:VkW w lo hi b n A rb rn)(hs:zL n A)(hrn:rn≤1048576) :
  Calls Tryz.prog 19 #[vwV z x y wd ht now s (.slice (some ⟨b,0,none⟩) n n) (.slice (some ⟨rb,0,none⟩) rn rn) bad,.int .i64 1] w fun e w'=>(∃ q:Nat,e=.returned (.int .i64 (q:Int)))∧zR lo hi w w':=by
 obtain ⟨M,h1,h2,h3,h4,h5,h6⟩:=h
 have hsm:=(zFt (k0:=1) hs (by omega) (Nat.le_refl n)).2
 have hbM:b<M 0∧M 0≤M n:=⟨h2.2.1,upM (fun j hj=>(h2.2.2.1 j hj).1) (Nat.zero_le n) (Nat.le_refl _)⟩
 have HM:Hid (∀ V,Bw w V→Calls Tryz.prog 52 #[caV s (.slice (some ⟨b,0,none⟩) n n),.int .i64 1] V fun e w'=>e=.returned (.int .i64 ((kK A 1 n:Nat):Int))∧KsM w' b n A M 1∧zR b (M n) V w'):=fun V h=>zD8 s b n n 1 A M V (h2.below h) hs (by omega) (by omega)
 have HT:Hid (zC w rb (rn * 5)):=h6
 clear h2 h6 hs
 generalize hq:kK A 1 n=Q at *
 clear hq
 go_enter Tryz.func19,Tryz.ntmps19
 go_wp2_with fail
 generalize hV:(w.alloc _:World)=V
 have HB:Hid (Bw w V):=by show Below _ _ _;subst hV;exact Qb
 have HBk:Hid (Blk V w.heap.size [.int .i64 z,.int .i64 x,.int .i64 y,.int .i64 wd,.int .i64 ht,.int .i64 now,.int .i64 s,.slice (some ⟨b,0,none⟩) n n,.slice (some ⟨rb,0,none⟩) rn rn,.int .i64 bad]):=by show Blk _ _ _;subst hV;exact Blk.new _ _ _
 clear hV
 refine Calls.mono (HM.out V HB.out) ?_
 rintro e w1 ⟨rfl,_,h7⟩
 have c8:w1.cell? ⟨w.heap.size,8,none⟩=some (.slice (some ⟨rb,0,none⟩) rn rn):=h7.cell (HBk.out.cell 8 rfl) (.inr (by omega))
 have HT1:Hid (zC w1 rb (rn * 5)):=h7.there (HT.out.below HB.out) (.inr (by omega))
 have HM1:Hid (zR lo hi w w1):=(zR.of_below HB.out).trans (h7.wide h1 (by omega))
 clear h7 HM HBk
 have HR:=(show Hid _ from zC6 rb rn rn Q w1 HT1.out hrn (by omega))
 go_wp2_with fail
 refine Calls.mono HR.out ?_
 rintro e w2 ⟨rfl,hg,_,_⟩
 have HM2:Hid (zR lo hi w w2):=HM1.out.trans (zR.of_grown hg (by omega) h4)
 clear hg HR HM1 c8
 generalize Q+5 * rn=q2 at *
 go_wp2
 go_ret
 exact ⟨⟨q2,rfl⟩,HM2.out⟩
end Go.Proofs.YtpaiholildedcaaGreat
