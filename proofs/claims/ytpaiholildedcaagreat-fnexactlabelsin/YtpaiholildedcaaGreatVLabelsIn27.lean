/- Texts. -/
import Derived.Test.YtpaiholildedcaaGreatVLabelsIn25
set_option linter.unusedSimpArgs false
set_option linter.unusedVariables false
set_option maxRecDepth 100000
set_option maxHeartbeats 32000000
namespace Go.Proofs.YtpaiholildedcaaGreat
open Go.RowKit

theorem laid_k:laidOutB Tryz.prog=true:=by kernel_rfl
theorem zPc:(111:TypeId)<Tryz.prog.types.size:=of_decide_eq_true (by kernel_rfl)
theorem zRa:(match Tryz.prog.underlying 111 with | some (.array _ _) | some (.struct _)=>true | _=>false)=true:=by kernel_rfl
theorem law_ref:WideMaps.KeyLaw Tryz.prog 111:=deep_law_laid laid_k (m:=3) (by omega) zPc (by kernel_rfl) zRa
theorem zA2:Go.Maps.Keyed Tryz.prog 111:=Go.Maps.Keyed.of_law law_ref
def I64 (z:Int):Prop:=(Lit.int .i64 z).wf=true
theorem zJv:Tryz.prog.cellsOf 111=3:=by kernel_rfl
theorem zOd:Tryz.prog.cellsOf 2=1:=by kernel_rfl
theorem zOp:Tryz.prog.underlying 2=some (.int .i64):=by kernel_rfl
theorem zSe:Tryz.prog.keyType 111=true:=by kernel_rfl
theorem zMt:∃ m,Tryz.prog.types.size=m+1:=⟨_,(Nat.succ_pred_eq_of_pos (Nat.lt_of_le_of_lt (Nat.zero_le _) zPc)).symm⟩
def zBd (z x y:Int):Lit:=.string (keyBytes [.int .i64 z,.int .i64 x,.int .i64 y])
theorem zCr {z x y:Int}(hz:I64 z)(hx:I64 x)(hy:I64 y):keyOf Tryz.prog 111 (uL z x y)=some (zBd z x y):=by
 unfold I64 at hz hx hy
 obtain ⟨m,hm⟩:=zMt
 have hi:∀ a:Int,(Lit.int .i64 a).wf=true→Tryz.prog.keyLits (m+1) 2 [.int .i64 a]=some [.int .i64 a]:=fun a ha=>by
  simp [Program.keyLits,zOp,ha]
 have hk:Tryz.prog.keyLits (m+1+1) 111 [.int .i64 z,.int .i64 x,.int .i64 y]=some [.int .i64 z,.int .i64 x,.int .i64 y]:=by
  unfold Program.keyLits
  simp [Tryz.underlying111,zJv,zOd,hi z hz,hi x hx,hi y hy]
 unfold keyOf
 rw [Tryz.underlying111]
 simp [zSe,Value.formed,Tryz.underlying111,zJv,Value.cells,hm,hk,zBd]
theorem zLa {z x y z' x' y':Int}(hz:I64 z)(hx:I64 x)(hy:I64 y)(hz':I64 z')(hx':I64 x')(hy':I64 y')(h:zBd z x y=zBd z' x' y'):z=z'∧x=x'∧y=y':=by
 have:=zA2.inj (zCr hz hx hy) (by rw [h];exact zCr hz' hx' hy')
 simpa using this
theorem zLb (z x y:Int):WideAt.IsKeyLit (zBd z x y):=trivial
end Go.Proofs.YtpaiholildedcaaGreat
namespace Go.Proofs.YtpaiholildedcaaGreat
open Go.ChangeShapes Go.WideShapes Go.ChangeAt Go.RowKit Go.Deep
theorem zOr {H:Type}{enc:TypeId × Value→H}{w:World}{base fuel:Nat}{held:Bool}{cs:List Value}{y:DataW H × List MemPlace}(h:DataW.trod enc Tryz.prog w base (fun _=>true) held fuel 189 cs=some y) :
  ∃ (z x y:Int) (a:Option Addr) (n cap:Nat) (F:Nat→zS),cs=[.int .i64 z,.int .i64 x,.int .i64 y,.slice a n cap]∧(zMs w a n F∧zGn n F):=by
 obtain ⟨y0,y1,m,hx,hl,h0,h1⟩:=trod_struct2 Tryz.underlying189 h
 simp only [zEv,zQw] at h0 h1
 obtain ⟨z,x,y,e0⟩:=zH7 h0
 obtain ⟨a,k,cap,F,e1,hF⟩:=zMv h1
 refine ⟨z,x,y,a,k,cap,F,?_,hF⟩
 have hlen:cs.length=4:=by rw [hl];exact zMi
 match cs,hlen with
 | [v0,v1,v2,v3],_ =>
  simp at e0 e1
  simp [e0,e1]
theorem zOt {H:Type}{enc:TypeId × Value→H}{w:World}{base fuel:Nat}{held:Bool}{cs:List Value}{y:DataW H × List MemPlace}(h:DataW.trod enc Tryz.prog w base (fun _=>true) held fuel 46 cs=some y) :
  ∃ (a:Option Addr) (n cap:Nat) (Z:Nat→Int),cs=[.slice a n cap]∧(zCi w a n Z∧n≤maxLen):=by
 rcases open_ints Tryz.underlying46 Tryz.underlying2 (by kernel_rfl) h with ⟨hcs,_⟩ | ⟨x,l,c,zs,hcs,_,hl,hm,hz,_,hcell,hwz⟩
 ·exact ⟨none,0,0,fun _=>0,hcs,.inl rfl,Nat.zero_le _⟩
 ·have hz':zs.length=c:=by simpa using hz
  refine ⟨some x,l,c,fun i=>zs.getD i 0,hcs,?_,Nat.le_trans hl hm⟩
  by_cases h0:l=0
  ·exact .inl h0
  ·right
   obtain ⟨b,off,spot⟩:=x
   have e0:=hcell 0 (by omega)
   have hspot:spot=none:=by simpa [Addr.add] using World.cell?_spot e0
   subst hspot
   refine ⟨b,off,rfl,?_,fun i hi=>?_⟩
   ·have:=World.block_lt_of_cell? _ _ e0
    simpa [Addr.add] using this
   ·have:=hcell i (by omega)
    have e:(⟨b,off,none⟩:Addr).add i=⟨b,off+i,none⟩:=by
     unfold Addr.add
     by_cases h:i=0 <;> simp [h]
    rw [e] at this
    exact this
theorem zSs:Tryz.prog.cellsOf 46=1:=by kernel_rfl
theorem zMj:Tryz.prog.cellsOf 191=5:=by kernel_rfl
theorem zQv:Tryz.prog.cellsOf 39=1:=by kernel_rfl
theorem zMl:Tryz.prog.cellsOf 41=2:=by kernel_rfl
theorem zOu {H:Type}{enc:TypeId × Value→H}{w:World}{base fuel:Nat}{held:Bool}{cs:List Value}{y:DataW H × List MemPlace}(h:DataW.trod enc Tryz.prog w base (fun _=>true) held fuel 191 cs=some y) :
  ∃ k:Kp,cs=[.int .i64 k.z,.int .i64 k.x,.int .i64 k.y,.slice k.fa k.fn k.fc,.slice k.ia k.m k.ic]∧(zOh w k∧zOi k):=by
 obtain ⟨y0,y1,m,hx,hl,h0,h1⟩:=trod_struct2 Tryz.underlying191 h
 simp only [zMi,zSs] at h0 h1
 obtain ⟨z,x,y,a,n,cap,F,e0,hF⟩:=zOr h0
 obtain ⟨ia,k,ic,Z,e1,hZ⟩:=zOt h1
 refine ⟨⟨z,x,y,a,n,cap,F,ia,k,ic,Z⟩,?_,⟨hF.1,hZ.1⟩,hF.2,hZ.2⟩
 have hlen:cs.length=5:=by rw [hl];exact zMj
 match cs,hlen with
 | [v0,v1,v2,v3,v4],_ =>
  simp at e0 e1
  simp [e0,e1]
theorem zMu {H:Type}{enc:TypeId × Value→H}{w:World}{base fuel:Nat}{held:Bool}{cs:List Value}{y:DataW H × List MemPlace}(hf:DataW.trod enc Tryz.prog w base (fun _=>true) held fuel 39 cs=some y) :
  ∃ (a:Option Addr) (n cap:Nat) (K:Nat→Kp),cs=[.slice a n cap]∧(zDn w a n K∧zA5 n K):=by
 rcases open_slice Tryz.underlying39 hf with ⟨hcs,_⟩ | ⟨x,l,c,m,n,D,Pl,hcs,_,hl,hc,hm,_,hx⟩
 ·exact ⟨none,0,0,fun _=>⟨0,0,0,none,0,0,fun _=>⟨0,0,0,0,none,0,0,fun _=>0,fun _=>0,⟨#[]⟩,0⟩,none,0,0,fun _=>0⟩,hcs,.inl rfl,Nat.zero_le _,fun i hi=>absurd hi (by omega)⟩
 ·simp at hm
  subst hm
  have each:∀ i,∃ e:Kp,i<l→(∀ k,k<5→w.cell? (x.add (i * 5+k))=[Value.int .i64 e.z,.int .i64 e.x,.int .i64 e.y,.slice e.fa e.fn e.fc,.slice e.ia e.m e.ic][k]?)∧zOh w e∧zOi e:=by
   intro i
   by_cases hi:i<l
   ·obtain ⟨cs',h1,h2⟩:=hx i (by omega)
    rw [zMj] at h1
    obtain ⟨_,hlen,hcell⟩:=World.cells?_some h1
    obtain ⟨e,rfl,hk⟩:=zOu h2
    refine ⟨e,fun _=>⟨fun k hk=>?_,hk⟩⟩
    have:=hcell k hk
    rw [add_add] at this
    exact this
   ·exact ⟨⟨0,0,0,none,0,0,fun _=>⟨0,0,0,0,none,0,0,fun _=>0,fun _=>0,⟨#[]⟩,0⟩,none,0,0,fun _=>0⟩,fun h=>absurd h hi⟩
  obtain ⟨K,hK⟩:=Classical.skolem.1 each
  refine ⟨some x,l,_,K,hcs,?_,Nat.le_trans hl hc,fun i hi=>(hK i hi).2.2⟩
  by_cases h0:l=0
  ·exact .inl h0
  ·right
   obtain ⟨b,off,spot⟩:=x
   have e0:=(hK 0 (by omega)).1 0 (by omega)
   simp at e0
   have hspot:spot=none:=by simpa [Addr.add] using World.cell?_spot e0
   subst hspot
   refine ⟨b,off,rfl,?_,fun i hi=>?_⟩
   ·have:=World.block_lt_of_cell? _ _ e0
    simpa [Addr.add] using this
   ·obtain ⟨hc5,hp,_⟩:=hK i hi
    refine ⟨?_,hp⟩
    have k0:=hc5 0 (by omega)
    have k1:=hc5 1 (by omega)
    have k2:=hc5 2 (by omega)
    have k3:=hc5 3 (by omega)
    have k4:=hc5 4 (by omega)
    rw [add_plain] at k0 k1 k2 k3 k4
    simp only [← Nat.add_assoc,Nat.add_zero] at k0 k1 k2 k3 k4
    exact ⟨k0,k1,k2,k3,k4⟩
end Go.Proofs.YtpaiholildedcaaGreat
namespace Go.Proofs.YtpaiholildedcaaGreat
open Go.RowKit
end Go.Proofs.YtpaiholildedcaaGreat
namespace Go.Proofs.YtpaiholildedcaaGreat
open Go.ChangeShapes Go.WideShapes Go.ChangeAt Go.RowKit Go.Deep
theorem zJx:Tryz.prog.cellsOf 23=5:=by kernel_rfl
theorem zOw {H:Type}{enc:TypeId × Value→H}{w:World}{base:Nat}{spare:Nat→Bool}{held:Bool}{n:Nat}{cs:List Value}{x:DataW H × List MemPlace}(h:DataW.trod enc Tryz.prog w base spare held n 23 cs=some x):∃ a b c d e:Int,cs=[.int .i64 a,.int .i64 b,.int .i64 c,.int .i64 d,.int .i64 e]:=by
 obtain ⟨xs,m,rfl,hx,hl,hxl,hf⟩:=DataW.trod_struct Tryz.underlying23 h
 rw [zJx] at hl
 have hxl3:xs.length=5:=hxl
 match cs,hl with
 | [v0,v1,v2,v3,v4],_ =>
  match xs,hxl3 with
  | [x0,x1,x2,x3,x4],_ =>
   have h0:=hf 0 _ rfl
   have h1:=hf 1 _ rfl
   have h2:=hf 2 _ rfl
   have h3:=hf 3 _ rfl
   have h4:=hf 4 _ rfl
   simp [vE] at h0 h1 h2 h3 h4
   obtain ⟨a,e0,_,_⟩:=DataW.trod_int Tryz.underlying2 h0
   obtain ⟨b,e1,_,_⟩:=DataW.trod_int Tryz.underlying2 h1
   obtain ⟨c,e2,_,_⟩:=DataW.trod_int Tryz.underlying2 h2
   obtain ⟨d,e3,_,_⟩:=DataW.trod_int Tryz.underlying2 h3
   obtain ⟨e,e4,_,_⟩:=DataW.trod_int Tryz.underlying2 h4
   simp at e0 e1 e2 e3 e4
   subst e0 e1 e2 e3 e4
   exact ⟨a,b,c,d,e,rfl⟩
theorem zJw:Tryz.prog.cellsOf 147=5:=by kernel_rfl
theorem zRe {H:Type}{enc:TypeId × Value→H}{w:World}{base:Nat}{spare:Nat→Bool}{held:Bool}{n:Nat}{cs:List Value}{x:DataW H × List MemPlace}(h:DataW.trod enc Tryz.prog w base spare held n 147 cs=some x):∃ a b c d e:Int,cs=[.int .i64 a,.int .i64 b,.int .i64 c,.int .i64 d,.int .i64 e]:=by
 obtain ⟨xs,m,rfl,hx,hl,hxl,hf⟩:=DataW.trod_struct Tryz.underlying147 h
 rw [zJw] at hl
 have hxl3:xs.length=3:=hxl
 match cs,hl with
 | [v0,v1,v2,v3,v4],_ =>
  match xs,hxl3 with
  | [x0,x1,x2],_ =>
   have h0:=hf 0 _ rfl
   have h1:=hf 1 _ rfl
   have h2:=hf 2 _ rfl
   simp [vE,zEv] at h0 h1 h2
   obtain ⟨a,b,c,e0⟩:=zH7 h0
   obtain ⟨d,e1,_,_⟩:=DataW.trod_int Tryz.underlying2 h1
   obtain ⟨e,e2,_,_⟩:=DataW.trod_int Tryz.underlying2 h2
   simp at e0 e1 e2
   obtain ⟨rfl,rfl,rfl⟩:=e0
   subst e1 e2
   exact ⟨a,b,c,d,e,rfl⟩
theorem zOs {H:Type}{enc:TypeId × Value→H}{w:World}{base fuel:Nat}{held:Bool}{cs:List Value}{y:DataW H × List MemPlace}(hf:DataW.trod enc Tryz.prog w base (fun _=>true) held fuel 42 cs=some y) :
  ∃ (a:Option Addr) (n cap:Nat) (E:Nat→Req),cs=[.slice a n cap]∧(zAn w a n E∧n≤cap∧cap≤maxLen):=by
 rcases open_slice Tryz.underlying42 hf with ⟨hcs,_⟩ | ⟨x,l,c,m,n,D,Pl,hcs,_,hl,hc,hm,_,hx⟩
 ·exact ⟨none,0,0,fun _=>⟨0,0,0,0,0⟩,hcs,.inl rfl,Nat.le_refl _,Nat.zero_le _⟩
 ·simp at hm
  subst hm
  have each:∀ i,∃ e:Req,i<l→∀ k,k<5→w.cell? (x.add (i * 5+k))=[Value.int .i64 e.z,.int .i64 e.x,.int .i64 e.y,.int .i64 e.du,.int .i64 e.tr][k]?:=by
   intro i
   by_cases hi:i<l
   ·obtain ⟨cs',h1,h2⟩:=hx i (by omega)
    rw [zJw] at h1
    obtain ⟨_,hlen,hcell⟩:=World.cells?_some h1
    obtain ⟨k0,k1,k2,k3,k4,rfl⟩:=zRe h2
    refine ⟨⟨k0,k1,k2,k3,k4⟩,fun _ k hk=>?_⟩
    have:=hcell k hk
    rw [add_add] at this
    exact this
   ·exact ⟨⟨0,0,0,0,0⟩,fun h=>absurd h hi⟩
  obtain ⟨E,hE⟩:=Classical.skolem.1 each
  refine ⟨some x,l,_,E,hcs,?_,hl,hc⟩
  by_cases h0:l=0
  ·exact .inl h0
  ·right
   obtain ⟨b,off,spot⟩:=x
   have e0:=hE 0 (by omega) 0 (by omega)
   simp at e0
   have hspot:spot=none:=by simpa [Addr.add] using World.cell?_spot e0
   subst hspot
   refine ⟨b,off,rfl,?_,fun i hi=>?_⟩
   ·have:=World.block_lt_of_cell? _ _ e0
    simpa [Addr.add] using this
   ·have hc5:=hE i hi
    have k0:=hc5 0 (by omega)
    have k1:=hc5 1 (by omega)
    have k2:=hc5 2 (by omega)
    have k3:=hc5 3 (by omega)
    have k4:=hc5 4 (by omega)
    rw [add_plain] at k0 k1 k2 k3 k4
    simp only [← Nat.add_assoc,Nat.add_zero] at k0 k1 k2 k3 k4
    exact ⟨k0,k1,k2,k3,k4⟩
theorem zMw {H:Type}{enc:TypeId × Value→H}{w:World}{base fuel:Nat}{held:Bool}{cs:List Value}{y:DataW H × List MemPlace}(h:DataW.trod enc Tryz.prog w base (fun _=>true) held fuel 41 cs=some y) :
  ∃ (s:Int) (a:Option Addr) (n cap:Nat) (K:Nat→Kp),cs=[.int .i64 s,.slice a n cap]∧(zDn w a n K∧zA5 n K):=by
 obtain ⟨y0,y1,m,hx,hl,h0,h1⟩:=trod_struct2 Tryz.underlying41 h
 simp only [vE,zQv] at h0 h1
 obtain ⟨s,e0,_,_⟩:=DataW.trod_int Tryz.underlying2 h0
 obtain ⟨a,k,cap,K,e1,hK⟩:=zMu h1
 refine ⟨s,a,k,cap,K,?_,hK⟩
 have hlen:cs.length=2:=by rw [hl];exact zMl
 match cs,hlen with
 | [v0,v1],_ =>
  simp at e0 e1
  simp [e0,e1]
theorem zQu:Tryz.prog.cellsOf 42=1:=by kernel_rfl
theorem zSt:Tryz.prog.cellsOf 44=10:=by kernel_rfl
theorem open_viewer {H:Type}{enc:TypeId × Value→H}{w:World}{base b0:Nat}{held:Bool}{r:Reach}{v:Value}{d:DataW H}{p:List MemPlace}(hv:Value.okWide Tryz.prog w r b0 44 v)(h:DataW.Trod enc Tryz.prog w base (fun _=>true) held 44 v d p) :
  ∃ (z x y wd ht now s:Int) (ka:Option Addr) (kn kc:Nat) (K:Nat→Kp) (ra:Option Addr) (rn rc:Nat) (E:Nat→Req) (bad:Int),
   v=.agg #[.int .i64 z,.int .i64 x,.int .i64 y,.int .i64 wd,.int .i64 ht,.int .i64 now,.int .i64 s,.slice ka kn kc,.slice ra rn rc,.int .i64 bad]∧((zDn w ka kn K∧zA5 kn K)∧zAn w ra rn E∧rn≤rc∧rc≤maxLen):=by
 obtain ⟨cs,rfl,hsz⟩:=okWide_struct Tryz.underlying44 hv
 obtain ⟨n,h⟩:=h
 obtain ⟨xs,m,e,hx,hl,hxl,hf⟩:=DataW.trod_struct Tryz.underlying44 h
 have hxl5:xs.length=5:=hxl
 simp only [Value.cells] at hl hf
 rw [zSt] at hl
 match xs,hxl5 with
 | [x0,x1,x2,x3,x4],_ =>
  have h0:=hf 0 _ rfl
  have h1:=hf 1 _ rfl
  have h2:=hf 2 _ rfl
  have h3:=hf 3 _ rfl
  have h4:=hf 4 _ rfl
  match hcs:cs.toList,hl with
  | [v0,v1,v2,v3,v4,v5,v6,v7,v8,v9],_ =>
   rw [hcs] at h0 h1 h2 h3 h4
   simp [vE,zJx,zMl,zQu] at h0 h1 h2 h3 h4
   obtain ⟨z,x,y,wd,ht,e0⟩:=zOw h0
   obtain ⟨now,e1,_,_⟩:=DataW.trod_int Tryz.underlying2 h1
   obtain ⟨s,ka,kn,kc,K,e2,hK⟩:=zMw h2
   obtain ⟨ra,rn,rc,E,e3,hE⟩:=zOs h3
   obtain ⟨bad,e4,_,_⟩:=DataW.trod_int Tryz.underlying2 h4
   simp at e0 e1 e2 e3 e4
   refine ⟨z,x,y,wd,ht,now,s,ka,kn,kc,K,ra,rn,rc,E,bad,?_,hK,hE⟩
   obtain ⟨rfl,rfl,rfl,rfl,rfl⟩:=e0
   obtain ⟨rfl,rfl⟩:=e2
   subst e1 e3 e4
   have:cs=#[.int .i64 z,.int .i64 x,.int .i64 y,.int .i64 wd,.int .i64 ht,.int .i64 now,.int .i64 s,.slice ka kn kc,.slice ra rn rc,.int .i64 bad]:=by
    apply Array.toList_inj.1
    rw [hcs]
   rw [this]
end Go.Proofs.YtpaiholildedcaaGreat
namespace Go.Proofs.YtpaiholildedcaaGreat
open Go.RowKit
abbrev agV (z x y:Int)(fa:Option Addr)(fn fc:Nat)(ia:Option Addr)(m ic:Nat)(t:Int):Value:=.agg #[.int .i64 z,.int .i64 x,.int .i64 y,.slice fa fn fc,.slice ia m ic,.int .i64 t]
def RV:Value→Option (DataW Value × List MemPlace)
 | .agg cs=>match cs.toList with
  | [.int .i64 _,.int .i64 _,.int .i64 _,.slice _ _ _,.slice _ _ _,.int .i64 _]=>some (.held (.agg cs),[])
  | _=>none
 | _=>none
theorem zS3 (z x y:Int)(fa:Option Addr)(fn fc:Nat)(ia:Option Addr)(m ic:Nat)(t:Int):RV (agV z x y fa fn fc ia m ic t)=some (.held (agV z x y fa fn fc ia m ic t),[]):=rfl
theorem zQ3 {v:Value}{d:DataW Value}{ps:List MemPlace}(h:RV v=some (d,ps)):d=.held v∧∃ z x y fa fn fc ia m ic t,v=agV z x y fa fn fc ia m ic t:=by
 unfold RV at h
 split at h
 ·rename_i cs
  split at h
  ·rename_i hl
   obtain ⟨l⟩:=cs
   replace hl:l=_:=hl
   subst hl
   injection h with h
   injection h with h1 h2
   exact ⟨h1.symm,_,_,_,_,_,_,_,_,_,_,rfl⟩
  ·cases h
 ·cases h
theorem yW {w w':World}{P:Program}{k:TypeId}{mb n:Nat}{D:DataW Value}(h:w.ownsMap P k RV mb n D)(hb:Below w.heap.size w w'):w'.ownsMap P k RV mb n D:=by
 have hl:=h.lt
 obtain ⟨es,c,h1,h2⟩:=h
 exact ⟨es,c,(hb.block mb hl).trans h1,h2⟩
theorem zDo (w:World):(zeroValue 181).run Tryz.prog w=.ok (agV 0 0 0 none 0 0 none 0 0 0) w:=by kernel_rfl
def ShA (w:World)(p:Nat)(s t:Int)(mb:Nat):Prop:=w.cell? ⟨p,0,none⟩=some (.int .i64 s)∧w.cell? ⟨p,1,none⟩=some (.int .i64 t)∧w.cell? ⟨p,2,none⟩=some (.map (some mb))
theorem ShA.below {w w':World}{p mb:Nat}{s t:Int}(h:ShA w p s t mb)(hb:Below w.heap.size w w'):ShA w' p s t mb :=
 have hl:=World.block_lt_of_cell? _ _ h.1
 ⟨(hb.cell (p:=⟨p,0,none⟩) hl).trans h.1,(hb.cell (p:=⟨p,1,none⟩) hl).trans h.2.1,(hb.cell (p:=⟨p,2,none⟩) hl).trans h.2.2⟩
theorem zRz {w:World}{mb n:Nat}{D:DataW Value}{z x y:Int}(hm:w.ownsMap Tryz.prog 111 RV mb n D)(hz:I64 z)(hx:I64 x)(hy:I64 y) :
  ∃ a b c fa fn fc ia m ic t,∀ W,Bw w W→(Instr.lookup 171 (.map (some mb)) (uL z x y) true).run Tryz.prog W=.ok (.tuple #[agV a b c fa fn fc ia m ic t,.bool (Maps.has D (zBd z x y))]) W:=by
 have key:∀ W,Bw w W→∃ v,D.atKey (zBd z x y) (.held (agV 0 0 0 none 0 0 none 0 0 0))=.held v∧(∃ a b c fa fn fc ia m ic t,v=agV a b c fa fn fc ia m ic t)∧(Instr.lookup 171 (.map (some mb)) (uL z x y) true).run Tryz.prog W=.ok (.tuple #[v,.bool (Maps.has D (zBd z x y))]) W:=fun W hW=>by
  obtain ⟨v,ps,hr,hv⟩:=(yW hm hW).look_ok zA2 Tryz.underlying171 (zDo _) (zS3 0 0 0 none 0 0 none 0 0 0) (zCr hz hx hy)
  obtain ⟨e,h⟩:=zQ3 hv
  exact ⟨v,e,h,hr⟩
 obtain ⟨v,hv,⟨a,b,c,fa,fn,fc,ia,m,ic,t,rfl⟩,_⟩:=key w (Below.refl _ _)
 refine ⟨a,b,c,fa,fn,fc,ia,m,ic,t,fun W hW=>?_⟩
 obtain ⟨v',hv',_,hr⟩:=key W hW
 rw [hv] at hv'
 injection hv' with e
 rw [e];exact hr
theorem zC1 (p mb n:Nat)(s t:Int)(D:DataW Value)(z x y:Int)(w:World)(hp:ShA w p s t mb)(hm:w.ownsMap Tryz.prog 111 RV mb n D)(hz:I64 z)(hx:I64 x)(hy:I64 y) :
  Calls Tryz.prog 81 #[.pointer (some ⟨p,0,none⟩),uL z x y] w fun e w'=>e=.returned (.bool (Maps.has D (zBd z x y)))∧Bw w w':=by
 obtain ⟨va,vb,vc,fa,fn,fc,ia,m,ic,vt,hL⟩:=zRz hm hz hx hy
 have HP:Hid (ShA w p s t mb):=hp
 generalize Maps.has D (zBd z x y)=B at *
 clear hm hz hx hy hp
 go_enter Tryz.func81,Tryz.ntmps81
 go_wp2_with fail
 generalize hW:(w.alloc _:World)=W
 have HB0:Bw w W:=by subst hW;exact Qb
 have HR:RK W w.heap.size z x y:=by subst hW;refine ⟨?_,?_,?_⟩ <;> simp [go_sem]
 have c2:∀ W',Bw W W'→W'.cell? ⟨p,2,none⟩=some (.map (some mb)):=fun W' h=>(HP.out.below (zA HB0 h)).2.2
 have r0:∀ W',Bw W W'→W'.cell? ⟨w.heap.size,0,none⟩=some (.int .i64 z):=fun W' h=>(HR.below h).1
 have r1:∀ W',Bw W W'→W'.cell? ⟨w.heap.size,1,none⟩=some (.int .i64 x):=fun W' h=>(HR.below h).2.1
 have r2:∀ W',Bw W W'→W'.cell? ⟨w.heap.size,2,none⟩=some (.int .i64 y):=fun W' h=>(HR.below h).2.2
 have l5:∀ W',Bw W W'→(Instr.lookup 171 (.map (some mb)) (uL z x y) true).run Tryz.prog W'=.ok (.tuple #[agV va vb vc fa fn fc ia m ic vt,.bool B]) W':=fun W' h=>hL W' (zA HB0 h)
 have HB:Hid (Bw w W):=HB0
 clear hW hL HR HB0
 refine wp_region_noPanic ?_
 refine wp_region_held_drew (S:=fun W'=>Bw W W') (by kernel_rfl) (by have:=Below.refl W.heap.size W;exact Qb) (fun hHeld=>?_)
 have hSd:Bw W W.drew:=hHeld
 refine zC (i:=0) (d:=some 8) rfl rfl (hS:=hSd) ?_
 try simp only [Act.put,Qx,Qy,Qz]
 refine zC (i:=1) (d:=some 9) rfl rfl (hS:=hSd) ?_
 try simp only [Act.put,Qx,Qy,Qz]
 refine zC (i:=2) (d:=some 10) rfl rfl (hS:=hSd) ?_
 try simp only [Act.put,Qx,Qy,Qz]
 refine zC (i:=3) (d:=some 11) rfl rfl (hS:=hSd) ?_
 try simp only [Act.put,Qx,Qy,Qz]
 refine zC (i:=4) (d:=some 12) rfl rfl (hS:=hSd) ?_
 try simp only [Act.put,Qx,Qy,Qz]
 refine zC (i:=5) (d:=some 13) rfl rfl (hS:=hSd) ?_
 try simp only [Act.put,Qx,Qy,Qz]
 refine zC (i:=6) (d:=some 7) rfl rfl (hS:=hSd) ?_
 try simp only [Act.put,Qx,Qy,Qz]
 refine zC (i:=7) (d:=some 14) rfl rfl (hS:=hSd) ?_
 try simp only [Act.put,Qx,Qy,Qz]
 refine zC (i:=8) (d:=some 15) rfl rfl (hS:=hSd) ?_
 try simp only [Act.put,Qx,Qy,Qz]
 refine zN 9 fun K hK=>?_
 rw [if_pos (by rfl)]
 go_simp
 generalize hwA:(World.drew (World.alloc _ _):World)=wA
 have hSA:Bw W wA:=by subst hwA;have:=hSd;exact Qb
 have hT:zD wA W.heap.size 6:=by
  subst hwA
  intro o ho
  have:o=0∨o=1∨o=2∨o=3∨o=4∨o=5:=by omega
  rcases this with rfl | rfl | rfl | rfl | rfl | rfl <;> exact ⟨⟨_,by simp [go_sem];rfl⟩,by simp [go_sem]⟩
 clear hwA
 refine hK.out _ _ hSA (fun hHeld=>?_)
 clear hK K
 try simp only [Act.put,Qx,Qy,Qz]
 refine zN 10 fun K hK=>?_
 rw [if_pos (by rfl)]
 have t0:=hT.cell 0 (by omega)
 have t1:=hT.cell 1 (by omega)
 have t2:=hT.cell 2 (by omega)
 have t3:=hT.cell 3 (by omega)
 have t4:=hT.cell 4 (by omega)
 have t5:=hT.cell 5 (by omega)
 have f0:=(hT 0 (by omega)).2
 have f1:=(hT 1 (by omega)).2
 have f2:=(hT 2 (by omega)).2
 have f3:=(hT 3 (by omega)).2
 have f4:=(hT 4 (by omega)).2
 have f5:=(hT 5 (by omega)).2
 go_simp
 generalize hwC:(World.setCell _ _ _:World)=wC
 have hSC:Bw W wC:=by subst hwC;exact (((((hSA.setCell (Nat.le_refl _) _).setCell (Nat.le_refl _) _).setCell (Nat.le_refl _) _).setCell (Nat.le_refl _) _).setCell (Nat.le_refl _) _).setCell (Nat.le_refl _) _
 clear hwC
 refine hK.out _ _ hSC (fun hHeld=>?_)
 clear hK K hT
 try simp only [Act.put,Qx,Qy,Qz]
 refine zN 11 fun K hK=>?_
 rw [if_pos (by rfl)]
 go_simp
 refine hK.out _ _ hSC (fun hHeld=>?_)
 clear hK K
 try simp only [Act.put,Qx,Qy,Qz]
 refine wpAnyH_done (by kernel_rfl) ?_ _
 refine NoPanic.normal ?_
 have HC3:Hid (Bw w wC):=zA HB.out hSC
 clear c2 r0 r1 r2 l5 hSA hSd hSC
 go_wp2
 go_ret
 exact ⟨rfl,HC3.out⟩
theorem zLt {w:World}{P:Program}{k:TypeId}{mb n o p:Nat}{D:DataW Value}{v:Value}(hm:w.ownsMap P k RV mb n D)(hp:w.cell? ⟨p,o,none⟩=some v):p≠mb:=by
 intro e
 subst e
 obtain ⟨es,c,hb,_⟩:=hm
 simp [World.cell?,hb] at hp
def zFs (W:World)(p q:Nat)(s t:Int)(mb:Nat)(k:Kp):Prop :=
 (W.cell? ⟨p,0,none⟩=some (.int .i64 s)∧W.cell? ⟨p,1,none⟩=some (.int .i64 t)∧W.cell? ⟨p,2,none⟩=some (.map (some mb))) ∧
 W.cell? ⟨q,0,none⟩=some (.int .i64 k.z)∧W.cell? ⟨q,1,none⟩=some (.int .i64 k.x)∧W.cell? ⟨q,2,none⟩=some (.int .i64 k.y)∧W.cell? ⟨q,3,none⟩=some (.slice k.fa k.fn k.fc)∧W.cell? ⟨q,4,none⟩=some (.slice k.ia k.m k.ic)
theorem zFs.grown {w w':World}{p q mb:Nat}{s t:Int}{k:Kp}(h:zFs w p q s t mb k)(hg:w.grownBy w' (some mb))(hp:p≠mb)(hq:q≠mb):zFs w' p q s t mb k:=by
 obtain ⟨⟨a,b,c⟩,d,e,f,g,i⟩:=h
 exact ⟨⟨xF hg a hp,xF hg b hp,xF hg c hp⟩,xF hg d hq,xF hg e hq,xF hg f hq,xF hg g hq,xF hg i hq⟩
abbrev zQ6 (D:DataW Value)(k:Kp)(t:Int):DataW Value:=D.put (zBd k.z k.x k.y) (.held (agV k.z k.x k.y k.fa k.fn k.fc k.ia k.m k.ic t))
theorem zKl {w:World}{p n:Nat}{o:Obj}(h:zD w p n)(hp:p<w.heap.size):zD (w.alloc o) p n:=fun i hi=>by
 obtain ⟨⟨v,h1⟩,h2⟩:=h i hi
 refine ⟨⟨v,?_⟩,?_⟩
 ·rw [World.cell?_alloc_old _ _ _ (Nat.ne_of_lt hp)];exact h1
 ·rw [World.frozen?_alloc_old _ _ _ (Nat.ne_of_lt hp)];exact h2
theorem zGx (p mb n:Nat)(s t:Int)(D:DataW Value)(k:Kp)(w:World)(hp:ShA w p s t mb)(hT:zD w p 3)(hm:w.ownsMap Tryz.prog 111 RV mb n D)(hz:I64 k.z)(hx:I64 k.x)(hy:I64 k.y)(hn:n<1000)(ht0:-10≤t)(ht:t<1000)(hD:(Maps.size (zQ6 D k (t+1)):Int)≤s) :
  Calls Tryz.prog 124 #[.pointer (some ⟨p,0,none⟩),kpV k] w fun e w'=>e=.returned (.tuple #[])∧ShA w' p s (t+1) mb∧zD w' p 3∧w'.ownsMap Tryz.prog 111 RV mb (n+1) (zQ6 D k (t+1))∧(∀ B,B≤p→B≤mb→Below B w w')∧∀ q,q<w.heap.size→q≠p→q≠mb→w'.heap[q]?=w.heap[q]?:=by
 have hpl:p<w.heap.size:=World.block_lt_of_cell? _ _ hp.1
 have hml:mb<w.heap.size:=hm.lt
 have hpm:p≠mb:=zLt hm hp.1
 have HM:Hid (w.ownsMap Tryz.prog 111 RV mb n D):=hm
 have HT:Hid (zD w p 3):=hT
 have HP:Hid (ShA w p s t mb):=hp
 have HD:Hid ((Maps.size (zQ6 D k (t+1)):Int)≤s):=hD
 have HK:Hid (keyOf Tryz.prog 111 (uL k.z k.x k.y)=some (zBd k.z k.x k.y)):=zCr hz hx hy
 have c1:∀ o,(w.alloc o).cell? ⟨p,1,none⟩=some (.int .i64 t):=fun o=>by rw [World.cell?_alloc_old _ _ _ (Nat.ne_of_lt hpl)];exact hp.2.1
 have f1:∀ o,(w.alloc o).frozen? ⟨p,1,none⟩=false:=fun o=>by rw [World.frozen?_alloc_old _ _ _ (Nat.ne_of_lt hpl)];exact (hT 1 (by omega)).2
 have hw1:IntKind.i64.wrap (t+1)=t+1:=IntWalk.i64_in _ (by omega)
 clear hm hT hp hD hz hx hy
 go_enter Tryz.func124,Tryz.ntmps124
 go_wp2_with fail
 generalize hW:(World.alloc _ _:World)=W
 have HG:Hid (w.grownBy W (some p)):=by show World.grownBy _ _ _;subst hW;exact zBt (xM (zA8 w (some p)) 1 _) (World.grownBy_alloc _ _ (some p))
 have HS:Hid (zFs W p w.heap.size s (t+1) mb k):=by
  show zFs _ _ _ _ _ _ _
  subst hW
  have nep:∀ o,o≠1→(⟨p,1,none⟩:Addr)≠⟨p,o,none⟩:=fun o h e=>by injection e with _ e;exact h e.symm
  have hlt:∀ v,p<(w.setCell ⟨p,1,none⟩ v).heap.size:=fun v=>by simp;exact hpl
  refine ⟨⟨?_,?_,?_⟩,?_,?_,?_,?_,?_⟩
  ·rw [World.cell?_alloc_old _ _ _ (Nat.ne_of_lt (hlt _)),zB (nep 0 (by omega))];exact HP.out.1
  ·rw [World.cell?_alloc_old _ _ _ (Nat.ne_of_lt (hlt _))];exact zG HP.out.2.1
  ·rw [World.cell?_alloc_old _ _ _ (Nat.ne_of_lt (hlt _)),zB (nep 2 (by omega))];exact HP.out.2.2
  ·simp [go_sem]
  ·simp [go_sem]
  ·simp [go_sem]
  ·simp [go_sem]
  ·simp [go_sem]
 have HTW:Hid (zD W p 3):=by show zD _ _ _;subst hW;exact zKl (HT.out.set _ _) (by simp;exact hpl)
 have hql:w.heap.size<W.heap.size:=by subst hW;simp [go_sem]
 have hqm:w.heap.size≠mb:=by omega
 clear hW c1 f1 hw1
 have HMW:Hid (W.ownsMap Tryz.prog 111 RV mb n D):=HM.out.kept HG.out (by simp;omega)
 obtain ⟨w1,hrun,hm1,hg1⟩:=HMW.out.drew.update zA2 Tryz.underlying171 (show n<maxLen by simp only [maxLen];omega) HK.out (zS3 k.z k.x k.y k.fa k.fn k.fc k.ia k.m k.ic (t+1))
 have HM1:Hid (w1.ownsMap Tryz.prog 111 RV mb (n+1) (zQ6 D k (t+1))):=hm1
 have HG1:Hid (W.grownBy w1 (some mb)):=⟨hg1.os,hg1.tape,hg1.output,hg1.size,hg1.block⟩
 clear hm1 hg1
 refine wp_region_noPanic ?_
 refine wp_region_held_drew (S:=fun W'=>zFs W' p w.heap.size s (t+1) mb k) (by kernel_rfl) HS.out (fun hHeld=>?_)
 have hSd:zFs W.drew p w.heap.size s (t+1) mb k:=HS.out
 refine vK (i:=0) (d:=some 11) (v:=?vr0) rfl rfl (Or.inl ⟨by rfl,?hyr0⟩) hSd ?_
 case hyr0=>(intro w hSw;obtain ⟨⟨s0,s1,s2⟩,k0,k1,k2,k3,k4⟩:=(show zFs w p _ s (t+1) mb k from hSw);go_simp <;> with_reducible rfl)
 try simp only [Act.put,Qx,Qy,Qz]
 refine vK (i:=1) (d:=some 12) (v:=?vr1) rfl rfl (Or.inl ⟨by rfl,?hyr1⟩) hSd ?_
 case hyr1=>(intro w hSw;obtain ⟨⟨s0,s1,s2⟩,k0,k1,k2,k3,k4⟩:=(show zFs w p _ s (t+1) mb k from hSw);go_simp <;> with_reducible rfl)
 try simp only [Act.put,Qx,Qy,Qz]
 refine vK (i:=2) (d:=some 13) (v:=?vr2) rfl rfl (Or.inl ⟨by rfl,?hyr2⟩) hSd ?_
 case hyr2=>(intro w hSw;obtain ⟨⟨s0,s1,s2⟩,k0,k1,k2,k3,k4⟩:=(show zFs w p _ s (t+1) mb k from hSw);go_simp <;> with_reducible rfl)
 try simp only [Act.put,Qx,Qy,Qz]
 refine vK (i:=3) (d:=some 14) (v:=?vr3) rfl rfl (Or.inl ⟨by rfl,?hyr3⟩) hSd ?_
 case hyr3=>(intro w hSw;obtain ⟨⟨s0,s1,s2⟩,k0,k1,k2,k3,k4⟩:=(show zFs w p _ s (t+1) mb k from hSw);go_simp <;> with_reducible rfl)
 try simp only [Act.put,Qx,Qy,Qz]
 refine vK (i:=4) (d:=some 15) (v:=?vr4) rfl rfl (Or.inl ⟨by rfl,?hyr4⟩) hSd ?_
 case hyr4=>(intro w hSw;obtain ⟨⟨s0,s1,s2⟩,k0,k1,k2,k3,k4⟩:=(show zFs w p _ s (t+1) mb k from hSw);go_simp <;> with_reducible rfl)
 try simp only [Act.put,Qx,Qy,Qz]
 refine vK (i:=5) (d:=some 16) (v:=?vr5) rfl rfl (Or.inl ⟨by rfl,?hyr5⟩) hSd ?_
 case hyr5=>(intro w hSw;obtain ⟨⟨s0,s1,s2⟩,k0,k1,k2,k3,k4⟩:=(show zFs w p _ s (t+1) mb k from hSw);go_simp <;> with_reducible rfl)
 try simp only [Act.put,Qx,Qy,Qz]
 refine vK (i:=6) (d:=some 17) (v:=?vr6) rfl rfl (Or.inl ⟨by rfl,?hyr6⟩) hSd ?_
 case hyr6=>(intro w hSw;obtain ⟨⟨s0,s1,s2⟩,k0,k1,k2,k3,k4⟩:=(show zFs w p _ s (t+1) mb k from hSw);go_simp <;> with_reducible rfl)
 try simp only [Act.put,Qx,Qy,Qz]
 refine vK (i:=7) (d:=some 18) (v:=?vr7) rfl rfl (Or.inl ⟨by rfl,?hyr7⟩) hSd ?_
 case hyr7=>(intro w hSw;obtain ⟨⟨s0,s1,s2⟩,k0,k1,k2,k3,k4⟩:=(show zFs w p _ s (t+1) mb k from hSw);go_simp <;> with_reducible rfl)
 try simp only [Act.put,Qx,Qy,Qz]
 refine vK (i:=8) (d:=some 19) (v:=?vr8) rfl rfl (Or.inl ⟨by rfl,?hyr8⟩) hSd ?_
 case hyr8=>(intro w hSw;obtain ⟨⟨s0,s1,s2⟩,k0,k1,k2,k3,k4⟩:=(show zFs w p _ s (t+1) mb k from hSw);go_simp <;> with_reducible rfl)
 try simp only [Act.put,Qx,Qy,Qz]
 refine vK (i:=9) (d:=some 20) (v:=?vr9) rfl rfl (Or.inl ⟨by rfl,?hyr9⟩) hSd ?_
 case hyr9=>(intro w hSw;obtain ⟨⟨s0,s1,s2⟩,k0,k1,k2,k3,k4⟩:=(show zFs w p _ s (t+1) mb k from hSw);go_simp <;> with_reducible rfl)
 try simp only [Act.put,Qx,Qy,Qz]
 refine vK (i:=10) (d:=some 21) (v:=?vr10) rfl rfl (Or.inl ⟨by rfl,?hyr10⟩) hSd ?_
 case hyr10=>(intro w hSw;obtain ⟨⟨s0,s1,s2⟩,k0,k1,k2,k3,k4⟩:=(show zFs w p _ s (t+1) mb k from hSw);go_simp <;> with_reducible rfl)
 try simp only [Act.put,Qx,Qy,Qz]
 refine vK (i:=11) (d:=some 22) (v:=?vr11) rfl rfl (Or.inl ⟨by rfl,?hyr11⟩) hSd ?_
 case hyr11=>(intro w hSw;obtain ⟨⟨s0,s1,s2⟩,k0,k1,k2,k3,k4⟩:=(show zFs w p _ s (t+1) mb k from hSw);go_simp <;> with_reducible rfl)
 try simp only [Act.put,Qx,Qy,Qz]
 refine vK (i:=12) (d:=some 23) (v:=?vr12) rfl rfl (Or.inl ⟨by rfl,?hyr12⟩) hSd ?_
 case hyr12=>(intro w hSw;obtain ⟨⟨s0,s1,s2⟩,k0,k1,k2,k3,k4⟩:=(show zFs w p _ s (t+1) mb k from hSw);go_simp <;> with_reducible rfl)
 try simp only [Act.put,Qx,Qy,Qz]
 refine zN 13 fun K hK=>?_
 rw [if_pos (by rfl)]
 go_simp
 have HS1:zFs w1 p w.heap.size s (t+1) mb k:=HS.out.grown HG1.out hpm hqm
 refine hK.out _ _ HS1 (fun hHeld=>?_)
 clear hK K hrun hSd
 try simp only [Act.put,Qx,Qy,Qz]
 refine wpAnyH_done (by kernel_rfl) ?_ _
 refine NoPanic.normal ?_
 have HT1:Hid (zD w1 p 3):=HTW.out.grown HG1.out hpm
 have HB1:Hid (∀ B,B≤p→B≤mb→Below B w w1):=fun B h1 h2=>(zE1 HG.out h1 (by omega)).trans (zE1 HG1.out h2 (by omega))
 have HQ1:Hid (∀ q,q<w.heap.size→q≠p→q≠mb→w1.heap[q]?=w.heap[q]?):=fun q h1 h2 h3=>(HG1.out.block q (Nat.lt_of_lt_of_le h1 HG.out.size) (by simp;exact h3)).trans (HG.out.block q h1 (by simp;exact h2))
 have HA1:Hid (ShA w1 p s (t+1) mb):=HS1.1
 clear HS1 HS HTW HMW HG HG1 HP HT HM HK
 generalize hD1:zQ6 D k (t+1)=D1 at *
 have hle:¬ (s<(Maps.size D1:Int)):=by have:=HD.out;omega
 have HM2:Hid (w1.ownsMap Tryz.prog 111 RV mb (n+1) D1):=HM1.out
 go_wp2_with fail
 refine wp_region_noPanic ?_
 refine wp_region_held_drew (S:=fun W'=>ShA W' p s (t+1) mb∧W'.ownsMap Tryz.prog 111 RV mb (n+1) D1) (by kernel_rfl) ⟨HA1.out,HM1.out⟩ (fun hHeld=>?_)
 have hSd:ShA w1.drew p s (t+1) mb∧w1.drew.ownsMap Tryz.prog 111 RV mb (n+1) D1:=⟨HA1.out,HM1.out⟩
 refine vK (i:=0) (d:=some 24) (v:=?vq0) rfl rfl (Or.inl ⟨by rfl,?hyq0⟩) hSd ?_
 case hyq0=>(intro w hSw;obtain ⟨⟨s0,s1,s2⟩,hmm⟩:=(show ShA w p s (t+1) mb∧w.ownsMap Tryz.prog 111 RV mb (n+1) D1 from hSw);have hln:=fun ty=>hmm.len Tryz.underlying171 ty;go_simp <;> with_reducible rfl)
 try simp only [Act.put,Qx,Qy,Qz]
 refine vK (i:=1) (d:=some 25) (v:=?vq1) rfl rfl (Or.inl ⟨by rfl,?hyq1⟩) hSd ?_
 case hyq1=>(intro w hSw;obtain ⟨⟨s0,s1,s2⟩,hmm⟩:=(show ShA w p s (t+1) mb∧w.ownsMap Tryz.prog 111 RV mb (n+1) D1 from hSw);have hln:=fun ty=>hmm.len Tryz.underlying171 ty;go_simp <;> with_reducible rfl)
 try simp only [Act.put,Qx,Qy,Qz]
 refine vK (i:=2) (d:=some 26) (v:=?vq2) rfl rfl (Or.inl ⟨by rfl,?hyq2⟩) hSd ?_
 case hyq2=>(intro w hSw;obtain ⟨⟨s0,s1,s2⟩,hmm⟩:=(show ShA w p s (t+1) mb∧w.ownsMap Tryz.prog 111 RV mb (n+1) D1 from hSw);have hln:=fun ty=>hmm.len Tryz.underlying171 ty;go_simp <;> with_reducible rfl)
 try simp only [Act.put,Qx,Qy,Qz]
 refine vK (i:=3) (d:=some 27) (v:=?vq3) rfl rfl (Or.inl ⟨by rfl,?hyq3⟩) hSd ?_
 case hyq3=>(intro w hSw;obtain ⟨⟨s0,s1,s2⟩,hmm⟩:=(show ShA w p s (t+1) mb∧w.ownsMap Tryz.prog 111 RV mb (n+1) D1 from hSw);have hln:=fun ty=>hmm.len Tryz.underlying171 ty;go_simp <;> with_reducible rfl)
 try simp only [Act.put,Qx,Qy,Qz]
 refine vK (i:=4) (d:=some 28) (v:=?vq4) rfl rfl (Or.inl ⟨by rfl,?hyq4⟩) hSd ?_
 case hyq4=>(intro w hSw;obtain ⟨⟨s0,s1,s2⟩,hmm⟩:=(show ShA w p s (t+1) mb∧w.ownsMap Tryz.prog 111 RV mb (n+1) D1 from hSw);have hln:=fun ty=>hmm.len Tryz.underlying171 ty;go_simp <;> with_reducible rfl)
 try simp only [Act.put,Qx,Qy,Qz]
 refine vK (i:=5) (d:=some 29) (v:=?vq5) rfl rfl (Or.inl ⟨by rfl,?hyq5⟩) hSd ?_
 case hyq5=>(intro w hSw;obtain ⟨⟨s0,s1,s2⟩,hmm⟩:=(show ShA w p s (t+1) mb∧w.ownsMap Tryz.prog 111 RV mb (n+1) D1 from hSw);have hln:=fun ty=>hmm.len Tryz.underlying171 ty;go_simp <;> with_reducible rfl)
 try simp only [Act.put,Qx,Qy,Qz]
 refine vK (i:=6) (d:=some 30) (v:=?vq6) rfl rfl (Or.inl ⟨by rfl,?hyq6⟩) hSd ?_
 case hyq6=>(intro w hSw;obtain ⟨⟨s0,s1,s2⟩,hmm⟩:=(show ShA w p s (t+1) mb∧w.ownsMap Tryz.prog 111 RV mb (n+1) D1 from hSw);have hln:=fun ty=>hmm.len Tryz.underlying171 ty;go_simp <;> with_reducible rfl)
 try simp only [Act.put,Qx,Qy,Qz]
 refine vK (i:=7) (d:=some 31) (v:=?vq7) rfl rfl (Or.inl ⟨by rfl,?hyq7⟩) hSd ?_
 case hyq7=>(intro w hSw;obtain ⟨⟨s0,s1,s2⟩,hmm⟩:=(show ShA w p s (t+1) mb∧w.ownsMap Tryz.prog 111 RV mb (n+1) D1 from hSw);have hln:=fun ty=>hmm.len Tryz.underlying171 ty;go_simp <;> with_reducible rfl)
 try simp only [Act.put,Qx,Qy,Qz]
 refine vK (i:=8) (d:=some 32) (v:=?vq8) rfl rfl (Or.inl ⟨by rfl,?hyq8⟩) hSd ?_
 case hyq8=>(intro w hSw;obtain ⟨⟨s0,s1,s2⟩,hmm⟩:=(show ShA w p s (t+1) mb∧w.ownsMap Tryz.prog 111 RV mb (n+1) D1 from hSw);have hln:=fun ty=>hmm.len Tryz.underlying171 ty;go_simp <;> with_reducible rfl)
 try simp only [Act.put,Qx,Qy,Qz]
 refine vK (i:=9) (d:=some 33) (v:=?vq9) rfl rfl (Or.inl ⟨by rfl,?hyq9⟩) hSd ?_
 case hyq9=>(intro w hSw;obtain ⟨⟨s0,s1,s2⟩,hmm⟩:=(show ShA w p s (t+1) mb∧w.ownsMap Tryz.prog 111 RV mb (n+1) D1 from hSw);have hln:=fun ty=>hmm.len Tryz.underlying171 ty;go_simp <;> with_reducible rfl)
 try simp only [Act.put,Qx,Qy,Qz]
 refine wpAnyH_done (by kernel_rfl) ?_ _
 refine NoPanic.normal ?_
 clear hSd
 go_wp2
 refine bodyPost_end (v:=.tuple #[]) (by simp [results,Tryz.results124,go_sem]) rfl ?_
 exact ⟨rfl,HA1.out,HT1.out,by rw [hD1];exact HM2.out.drew,fun B h1 h2=>⟨(HB1.out B h1 h2).os,(HB1.out B h1 h2).tape,(HB1.out B h1 h2).output,(HB1.out B h1 h2).size,(HB1.out B h1 h2).block⟩,fun q h1 h2 h3=>HQ1.out q h1 h2 h3⟩
theorem zKq (p mb n:Nat)(s t:Int)(D:DataW Value)(k:Kp)(w:World)(hp:ShA w p s t mb)(hT:zD w p 3)(hm:w.ownsMap Tryz.prog 111 RV mb n D)(hz:I64 k.z)(hx:I64 k.x)(hy:I64 k.y)(hn:n<1000)(ht0:-10≤t)(ht:t<1000)(hD:(Maps.size (zQ6 D k (t+1)):Int)≤s) :
  Calls Tryz.prog 124 #[.pointer (some ⟨p,0,none⟩),kpV k] w fun e w'=>e=.returned (.tuple #[])∧ShA w' p s (t+1) mb∧zD w' p 3∧w'.ownsMap Tryz.prog 111 RV mb (n+1) (zQ6 D k (t+1))∧∀ B,B≤p→B≤mb→Below B w w' :=
 (zGx p mb n s t D k w hp hT hm hz hx hy hn ht0 ht hD).mono fun e w' ⟨h1,h2,h3,h4,h5,_⟩=>⟨h1,h2,h3,h4,h5⟩
end Go.Proofs.YtpaiholildedcaaGreat
