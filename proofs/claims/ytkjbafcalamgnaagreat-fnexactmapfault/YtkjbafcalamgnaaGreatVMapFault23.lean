/- Texts. -/
import Derived.Test.YtkjbafcalamgnaaGreatVMapFault21
import Derived.Test.YtkjbafcalamgnaaGreatVMapFault22
set_option linter.unusedSimpArgs false
set_option linter.unusedVariables false
set_option maxRecDepth 100000
set_option maxHeartbeats 32000000
namespace Go.Proofs.YtkjbafcalamgnaaGreat
open Go.RowKit
noncomputable def tC (k:Kp):Int:=if rtC k.z k.x k.y k.fn k.F=0 then (if xS k.m (rtL k.z k.x k.y k.fn k.F).length k.I (nz (rtL k.z k.x k.y k.fn k.F))=true then 0 else 8) else rtC k.z k.x k.y k.fn k.F
noncomputable def kC (K:Nat→Kp)(i:Nat):Int:=if tC (K i)=0 then (if 0≤atK i K (K i).z (K i).x (K i).y then 6 else 0) else tC (K i)
noncomputable def cacheC (s:Int)(n:Nat)(K:Nat→Kp):Int:=if inB s 1 10=true then (if s<(n:Int) then 2 else yE (kC K) 0 n) else 3
theorem zKy {k:Kp}(h:rtC k.z k.x k.y k.fn k.F≠0):tC k=rtC k.z k.x k.y k.fn k.F:=by unfold tC;rw [if_neg h]
theorem zDv {k:Kp}(h:rtC k.z k.x k.y k.fn k.F=0)(h2:xS k.m (rtL k.z k.x k.y k.fn k.F).length k.I (nz (rtL k.z k.x k.y k.fn k.F))=false):tC k=8:=by unfold tC;rw [if_pos h,h2];rfl
theorem tC_ok {k:Kp}(h:rtC k.z k.x k.y k.fn k.F=0)(h2:xS k.m (rtL k.z k.x k.y k.fn k.F).length k.I (nz (rtL k.z k.x k.y k.fn k.F))=true):tC k=0:=by unfold tC;rw [if_pos h,h2];rfl
theorem zOd {K:Nat→Kp}{i:Nat}(h:tC (K i)≠0):kC K i=tC (K i):=by unfold kC;rw [if_neg h]
theorem kC_ok {K:Nat→Kp}{i:Nat}(h:tC (K i)=0)(h2:atK i K (K i).z (K i).x (K i).y=-1):kC K i=0:=by unfold kC;rw [if_pos h,h2];rfl
theorem zNj {K:Nat→Kp}{i:Nat}(h:tC (K i)=0)(h2:0≤atK i K (K i).z (K i).x (K i).y):kC K i=6:=by unfold kC;rw [if_pos h,if_pos h2]
theorem zNl (e:Kp):isK e e.z e.x e.y=true:=by simp [isK]
theorem zN2 {n k:Nat}{K:Nat→Kp}(hk:k<n):(atK k K (K k).z (K k).x (K k).y=-1∧atK n K (K k).z (K k).x (K k).y=(k:Int))∨(0≤atK k K (K k).z (K k).x (K k).y∧∃ i:Nat,i<k∧atK n K (K k).z (K k).x (K k).y=(i:Int)):=by
 unfold atK
 rcases zAr (fun i=>isK (K i) (K k).z (K k).x (K k).y) k with ⟨h1,h2⟩ | ⟨i,hi,hg,hf,hn⟩
 ·exact .inl ⟨h1,yM hk (zNl _) h2⟩
 ·exact .inr ⟨by rw [hf];omega,i,hi,yM (by omega) hg hn⟩
def zCr (w:World)(b n:Nat)(A:Nat→Kp):Prop:=b<w.heap.size∧∀ i,i<n→zMf w b (i * 5) (A i)∧(∃ fb,(A i).fa=some ⟨fb,0,none⟩∧fb<w.heap.size∧vS w fb 0 (A i).fn (A i).F)∧zAv w (A i).ia (A i).m (A i).I
theorem zCr.below {w w':World}{b n:Nat}{A:Nat→Kp}(h:zCr w b n A)(hb:Below w.heap.size w w'):zCr w' b n A :=
 ⟨Nat.lt_of_lt_of_le h.1 hb.size,fun i hi=>by
  obtain ⟨h1,⟨fb,e1,e2,e3⟩,h3⟩:=h.2 i hi
  exact ⟨h1.below hb h.1,⟨fb,e1,Nat.lt_of_lt_of_le e2 hb.size,e3.below hb e2⟩,h3.below hb⟩⟩
theorem zCr.is {w:World}{b n:Nat}{A:Nat→Kp}(h:zCr w b n A):zBc w (some ⟨b,0,none⟩) n A :=
 .inr ⟨b,0,rfl,h.1,fun i hi=>by
  obtain ⟨h1,⟨fb,e1,e2,e3⟩,h3⟩:=h.2 i hi
  exact ⟨by rw [Nat.zero_add];exact h1,.inr ⟨fb,0,e1,e2,e3⟩,h3⟩⟩
theorem yA.ko {w:World}{B b n:Nat}{K A:Nat→Kp}(h:yA w B b n K A):zCr w b n A :=
 ⟨h.2.1,fun i hi=>by
  obtain ⟨h1,h2⟩:=h.2.2 i hi
  have h3:=h2.is.2
  obtain ⟨_,⟨fb,e1,e2,e3,ho⟩,_⟩:=h2
  exact ⟨h1,⟨fb,e1,ho.2.1,by rw [e2];exact ho.2.2.1⟩,h3⟩⟩

theorem laid_k:laidOutB Tryz.prog=true:=by kernel_rfl
theorem zK8:(104:TypeId)<Tryz.prog.types.size:=of_decide_eq_true (by kernel_rfl)
theorem zMm:(match Tryz.prog.underlying 104 with | some (.array _ _) | some (.struct _)=>true | _=>false)=true:=by kernel_rfl
theorem law_ref:WideMaps.KeyLaw Tryz.prog 104:=deep_law_laid laid_k (m:=3) (by omega) zK8 (by kernel_rfl) zMm
theorem zB3:Go.Maps.Keyed Tryz.prog 104:=Go.Maps.Keyed.of_law law_ref
def I64 (z:Int):Prop:=(Lit.int .i64 z).wf=true
theorem zF8:Tryz.prog.cellsOf 104=3:=by kernel_rfl
theorem zJ9:Tryz.prog.cellsOf 2=1:=by kernel_rfl
theorem zKl:Tryz.prog.underlying 2=some (.int .i64):=by kernel_rfl
theorem zNi:Tryz.prog.keyType 104=true:=by kernel_rfl
theorem zIu:∃ m,Tryz.prog.types.size=m+1:=⟨_,(Nat.succ_pred_eq_of_pos (Nat.lt_of_le_of_lt (Nat.zero_le _) zK8)).symm⟩
def zB4 (z x y:Int):Lit:=.string (keyBytes [.int .i64 z,.int .i64 x,.int .i64 y])
theorem zEc {z x y:Int}(hz:I64 z)(hx:I64 x)(hy:I64 y):keyOf Tryz.prog 104 (vW z x y)=some (zB4 z x y):=by
 unfold I64 at hz hx hy
 obtain ⟨m,hm⟩:=zIu
 have hi:∀ a:Int,(Lit.int .i64 a).wf=true→Tryz.prog.keyLits (m+1) 2 [.int .i64 a]=some [.int .i64 a]:=fun a ha=>by
  simp [Program.keyLits,zKl,ha]
 have hk:Tryz.prog.keyLits (m+1+1) 104 [.int .i64 z,.int .i64 x,.int .i64 y]=some [.int .i64 z,.int .i64 x,.int .i64 y]:=by
  unfold Program.keyLits
  simp [Tryz.underlying104,zF8,zJ9,hi z hz,hi x hx,hi y hy]
 unfold keyOf
 rw [Tryz.underlying104]
 simp [zNi,Value.formed,Tryz.underlying104,zF8,Value.cells,hm,hk,zB4]
theorem key_inj {z x y z' x' y':Int}(hz:I64 z)(hx:I64 x)(hy:I64 y)(hz':I64 z')(hx':I64 x')(hy':I64 y')(h:zB4 z x y=zB4 z' x' y'):z=z'∧x=x'∧y=y':=by
 have:=zB3.inj (zEc hz hx hy) (by rw [h];exact zEc hz' hx' hy')
 simpa using this
theorem zLn (z x y:Int):WideAt.IsKeyLit (zB4 z x y):=trivial
end Go.Proofs.YtkjbafcalamgnaaGreat
namespace Go.Proofs.YtkjbafcalamgnaaGreat
open Go.ChangeShapes Go.WideShapes Go.ChangeAt Go.RowKit Go.Deep
theorem zKn {H:Type}{enc:TypeId × Value→H}{w:World}{base fuel:Nat}{held:Bool}{cs:List Value}{y:DataW H × List MemPlace}(h:DataW.trod enc Tryz.prog w base (fun _=>true) held fuel 146 cs=some y) :
  ∃ (z x y:Int) (a:Option Addr) (n cap:Nat) (F:Nat→zS),cs=[.int .i64 z,.int .i64 x,.int .i64 y,.slice a n cap]∧(zDq w a n F∧uT n F):=by
 obtain ⟨y0,y1,m,hx,hl,h0,h1⟩:=trod_struct2 Tryz.underlying146 h
 simp only [zCj,zGa] at h0 h1
 obtain ⟨z,x,y,e0⟩:=zE0 h0
 obtain ⟨a,k,cap,F,e1,hF⟩:=zC6 h1
 refine ⟨z,x,y,a,k,cap,F,?_,hF⟩
 have hlen:cs.length=4:=by rw [hl];exact zIm
 match cs,hlen with
 | [v0,v1,v2,v3],_ =>
  simp at e0 e1
  simp [e0,e1]
theorem zKp {H:Type}{enc:TypeId × Value→H}{w:World}{base fuel:Nat}{held:Bool}{cs:List Value}{y:DataW H × List MemPlace}(h:DataW.trod enc Tryz.prog w base (fun _=>true) held fuel 140 cs=some y) :
  ∃ (a:Option Addr) (n cap:Nat) (Z:Nat→Int),cs=[.slice a n cap]∧(zAv w a n Z∧n≤maxLen):=by
 rcases open_ints Tryz.underlying140 Tryz.underlying2 (by kernel_rfl) h with ⟨hcs,_⟩ | ⟨x,l,c,zs,hcs,_,hl,hm,hz,_,hcell,hwz⟩
 ·exact ⟨none,0,0,fun _=>0,hcs,.inl rfl,Nat.zero_le _⟩
 ·have hz':zs.length=c:=by simpa using hz
  refine ⟨some x,l,c,fun i=>zs.getD i 0,hcs,?_,Nat.le_trans hl hm⟩
  by_cases h0:l=0
  ·exact .inl h0
  ·right
   obtain ⟨b,off,spot⟩:=x
   have e0:=hcell 0 (by omega)
   have hspot:spot=none:=by simpa [Addr.add] using World.cell?_spot e0
   subst hspot
   refine ⟨b,off,rfl,?_,fun i hi=>?_⟩
   ·have:=World.block_lt_of_cell? _ _ e0
    simpa [Addr.add] using this
   ·have:=hcell i (by omega)
    have e:(⟨b,off,none⟩:Addr).add i=⟨b,off+i,none⟩:=by
     unfold Addr.add
     by_cases h:i=0 <;> simp [h]
    rw [e] at this
    exact this
theorem zNu:Tryz.prog.cellsOf 140=1:=by kernel_rfl
theorem zIn:Tryz.prog.cellsOf 148=5:=by kernel_rfl
theorem zL9:Tryz.prog.cellsOf 24=1:=by kernel_rfl
theorem zIp:Tryz.prog.cellsOf 26=2:=by kernel_rfl
theorem zKq {H:Type}{enc:TypeId × Value→H}{w:World}{base fuel:Nat}{held:Bool}{cs:List Value}{y:DataW H × List MemPlace}(h:DataW.trod enc Tryz.prog w base (fun _=>true) held fuel 148 cs=some y) :
  ∃ k:Kp,cs=[.int .i64 k.z,.int .i64 k.x,.int .i64 k.y,.slice k.fa k.fn k.fc,.slice k.ia k.m k.ic]∧(zKd w k∧zKe k):=by
 obtain ⟨y0,y1,m,hx,hl,h0,h1⟩:=trod_struct2 Tryz.underlying148 h
 simp only [zIm,zNu] at h0 h1
 obtain ⟨z,x,y,a,n,cap,F,e0,hF⟩:=zKn h0
 obtain ⟨ia,k,ic,Z,e1,hZ⟩:=zKp h1
 refine ⟨⟨z,x,y,a,n,cap,F,ia,k,ic,Z⟩,?_,⟨hF.1,hZ.1⟩,hF.2,hZ.2⟩
 have hlen:cs.length=5:=by rw [hl];exact zIn
 match cs,hlen with
 | [v0,v1,v2,v3,v4],_ =>
  simp at e0 e1
  simp [e0,e1]
theorem zIv {H:Type}{enc:TypeId × Value→H}{w:World}{base fuel:Nat}{held:Bool}{cs:List Value}{y:DataW H × List MemPlace}(hf:DataW.trod enc Tryz.prog w base (fun _=>true) held fuel 24 cs=some y) :
  ∃ (a:Option Addr) (n cap:Nat) (K:Nat→Kp),cs=[.slice a n cap]∧(zBc w a n K∧vV n K):=by
 rcases open_slice Tryz.underlying24 hf with ⟨hcs,_⟩ | ⟨x,l,c,m,n,D,Pl,hcs,_,hl,hc,hm,_,hx⟩
 ·exact ⟨none,0,0,fun _=>⟨0,0,0,none,0,0,fun _=>⟨0,0,0,0,none,0,0,fun _=>0,fun _=>0,⟨#[]⟩,0⟩,none,0,0,fun _=>0⟩,hcs,.inl rfl,Nat.zero_le _,fun i hi=>absurd hi (by omega)⟩
 ·simp at hm
  subst hm
  have each:∀ i,∃ e:Kp,i<l→(∀ k,k<5→w.cell? (x.add (i * 5+k))=[Value.int .i64 e.z,.int .i64 e.x,.int .i64 e.y,.slice e.fa e.fn e.fc,.slice e.ia e.m e.ic][k]?)∧zKd w e∧zKe e:=by
   intro i
   by_cases hi:i<l
   ·obtain ⟨cs',h1,h2⟩:=hx i (by omega)
    rw [zIn] at h1
    obtain ⟨_,hlen,hcell⟩:=World.cells?_some h1
    obtain ⟨e,rfl,hk⟩:=zKq h2
    refine ⟨e,fun _=>⟨fun k hk=>?_,hk⟩⟩
    have:=hcell k hk
    rw [add_add] at this
    exact this
   ·exact ⟨⟨0,0,0,none,0,0,fun _=>⟨0,0,0,0,none,0,0,fun _=>0,fun _=>0,⟨#[]⟩,0⟩,none,0,0,fun _=>0⟩,fun h=>absurd h hi⟩
  obtain ⟨K,hK⟩:=Classical.skolem.1 each
  refine ⟨some x,l,_,K,hcs,?_,Nat.le_trans hl hc,fun i hi=>(hK i hi).2.2⟩
  by_cases h0:l=0
  ·exact .inl h0
  ·right
   obtain ⟨b,off,spot⟩:=x
   have e0:=(hK 0 (by omega)).1 0 (by omega)
   simp at e0
   have hspot:spot=none:=by simpa [Addr.add] using World.cell?_spot e0
   subst hspot
   refine ⟨b,off,rfl,?_,fun i hi=>?_⟩
   ·have:=World.block_lt_of_cell? _ _ e0
    simpa [Addr.add] using this
   ·obtain ⟨hc5,hp,_⟩:=hK i hi
    refine ⟨?_,hp⟩
    have k0:=hc5 0 (by omega)
    have k1:=hc5 1 (by omega)
    have k2:=hc5 2 (by omega)
    have k3:=hc5 3 (by omega)
    have k4:=hc5 4 (by omega)
    rw [add_plain] at k0 k1 k2 k3 k4
    simp only [← Nat.add_assoc,Nat.add_zero] at k0 k1 k2 k3 k4
    exact ⟨k0,k1,k2,k3,k4⟩
end Go.Proofs.YtkjbafcalamgnaaGreat
namespace Go.Proofs.YtkjbafcalamgnaaGreat
open Go.RowKit
end Go.Proofs.YtkjbafcalamgnaaGreat
namespace Go.Proofs.YtkjbafcalamgnaaGreat
open Go.ChangeShapes Go.WideShapes Go.ChangeAt Go.RowKit Go.Deep
theorem zGb:Tryz.prog.cellsOf 23=5:=by kernel_rfl
theorem zKs {H:Type}{enc:TypeId × Value→H}{w:World}{base:Nat}{spare:Nat→Bool}{held:Bool}{n:Nat}{cs:List Value}{x:DataW H × List MemPlace}(h:DataW.trod enc Tryz.prog w base spare held n 23 cs=some x):∃ a b c d e:Int,cs=[.int .i64 a,.int .i64 b,.int .i64 c,.int .i64 d,.int .i64 e]:=by
 obtain ⟨xs,m,rfl,hx,hl,hxl,hf⟩:=DataW.trod_struct Tryz.underlying23 h
 rw [zGb] at hl
 have hxl3:xs.length=5:=hxl
 match cs,hl with
 | [v0,v1,v2,v3,v4],_ =>
  match xs,hxl3 with
  | [x0,x1,x2,x3,x4],_ =>
   have h0:=hf 0 _ rfl
   have h1:=hf 1 _ rfl
   have h2:=hf 2 _ rfl
   have h3:=hf 3 _ rfl
   have h4:=hf 4 _ rfl
   simp [xG] at h0 h1 h2 h3 h4
   obtain ⟨a,e0,_,_⟩:=DataW.trod_int Tryz.underlying2 h0
   obtain ⟨b,e1,_,_⟩:=DataW.trod_int Tryz.underlying2 h1
   obtain ⟨c,e2,_,_⟩:=DataW.trod_int Tryz.underlying2 h2
   obtain ⟨d,e3,_,_⟩:=DataW.trod_int Tryz.underlying2 h3
   obtain ⟨e,e4,_,_⟩:=DataW.trod_int Tryz.underlying2 h4
   simp at e0 e1 e2 e3 e4
   subst e0 e1 e2 e3 e4
   exact ⟨a,b,c,d,e,rfl⟩
theorem zF9:Tryz.prog.cellsOf 115=5:=by kernel_rfl
theorem zMp {H:Type}{enc:TypeId × Value→H}{w:World}{base:Nat}{spare:Nat→Bool}{held:Bool}{n:Nat}{cs:List Value}{x:DataW H × List MemPlace}(h:DataW.trod enc Tryz.prog w base spare held n 115 cs=some x):∃ a b c d e:Int,cs=[.int .i64 a,.int .i64 b,.int .i64 c,.int .i64 d,.int .i64 e]:=by
 obtain ⟨xs,m,rfl,hx,hl,hxl,hf⟩:=DataW.trod_struct Tryz.underlying115 h
 rw [zF9] at hl
 have hxl3:xs.length=3:=hxl
 match cs,hl with
 | [v0,v1,v2,v3,v4],_ =>
  match xs,hxl3 with
  | [x0,x1,x2],_ =>
   have h0:=hf 0 _ rfl
   have h1:=hf 1 _ rfl
   have h2:=hf 2 _ rfl
   simp [xG,zCj] at h0 h1 h2
   obtain ⟨a,b,c,e0⟩:=zE0 h0
   obtain ⟨d,e1,_,_⟩:=DataW.trod_int Tryz.underlying2 h1
   obtain ⟨e,e2,_,_⟩:=DataW.trod_int Tryz.underlying2 h2
   simp at e0 e1 e2
   obtain ⟨rfl,rfl,rfl⟩:=e0
   subst e1 e2
   exact ⟨a,b,c,d,e,rfl⟩
theorem zKo {H:Type}{enc:TypeId × Value→H}{w:World}{base fuel:Nat}{held:Bool}{cs:List Value}{y:DataW H × List MemPlace}(hf:DataW.trod enc Tryz.prog w base (fun _=>true) held fuel 27 cs=some y) :
  ∃ (a:Option Addr) (n cap:Nat) (E:Nat→Req),cs=[.slice a n cap]∧(vR w a n E∧n≤cap∧cap≤maxLen):=by
 rcases open_slice Tryz.underlying27 hf with ⟨hcs,_⟩ | ⟨x,l,c,m,n,D,Pl,hcs,_,hl,hc,hm,_,hx⟩
 ·exact ⟨none,0,0,fun _=>⟨0,0,0,0,0⟩,hcs,.inl rfl,Nat.le_refl _,Nat.zero_le _⟩
 ·simp at hm
  subst hm
  have each:∀ i,∃ e:Req,i<l→∀ k,k<5→w.cell? (x.add (i * 5+k))=[Value.int .i64 e.z,.int .i64 e.x,.int .i64 e.y,.int .i64 e.du,.int .i64 e.tr][k]?:=by
   intro i
   by_cases hi:i<l
   ·obtain ⟨cs',h1,h2⟩:=hx i (by omega)
    rw [zF9] at h1
    obtain ⟨_,hlen,hcell⟩:=World.cells?_some h1
    obtain ⟨k0,k1,k2,k3,k4,rfl⟩:=zMp h2
    refine ⟨⟨k0,k1,k2,k3,k4⟩,fun _ k hk=>?_⟩
    have:=hcell k hk
    rw [add_add] at this
    exact this
   ·exact ⟨⟨0,0,0,0,0⟩,fun h=>absurd h hi⟩
  obtain ⟨E,hE⟩:=Classical.skolem.1 each
  refine ⟨some x,l,_,E,hcs,?_,hl,hc⟩
  by_cases h0:l=0
  ·exact .inl h0
  ·right
   obtain ⟨b,off,spot⟩:=x
   have e0:=hE 0 (by omega) 0 (by omega)
   simp at e0
   have hspot:spot=none:=by simpa [Addr.add] using World.cell?_spot e0
   subst hspot
   refine ⟨b,off,rfl,?_,fun i hi=>?_⟩
   ·have:=World.block_lt_of_cell? _ _ e0
    simpa [Addr.add] using this
   ·have hc5:=hE i hi
    have k0:=hc5 0 (by omega)
    have k1:=hc5 1 (by omega)
    have k2:=hc5 2 (by omega)
    have k3:=hc5 3 (by omega)
    have k4:=hc5 4 (by omega)
    rw [add_plain] at k0 k1 k2 k3 k4
    simp only [← Nat.add_assoc,Nat.add_zero] at k0 k1 k2 k3 k4
    exact ⟨k0,k1,k2,k3,k4⟩
theorem zIw {H:Type}{enc:TypeId × Value→H}{w:World}{base fuel:Nat}{held:Bool}{cs:List Value}{y:DataW H × List MemPlace}(h:DataW.trod enc Tryz.prog w base (fun _=>true) held fuel 26 cs=some y) :
  ∃ (s:Int) (a:Option Addr) (n cap:Nat) (K:Nat→Kp),cs=[.int .i64 s,.slice a n cap]∧(zBc w a n K∧vV n K):=by
 obtain ⟨y0,y1,m,hx,hl,h0,h1⟩:=trod_struct2 Tryz.underlying26 h
 simp only [xG,zL9] at h0 h1
 obtain ⟨s,e0,_,_⟩:=DataW.trod_int Tryz.underlying2 h0
 obtain ⟨a,k,cap,K,e1,hK⟩:=zIv h1
 refine ⟨s,a,k,cap,K,?_,hK⟩
 have hlen:cs.length=2:=by rw [hl];exact zIp
 match cs,hlen with
 | [v0,v1],_ =>
  simp at e0 e1
  simp [e0,e1]
theorem zL7:Tryz.prog.cellsOf 27=1:=by kernel_rfl
theorem zIl:Tryz.prog.cellsOf 29=10:=by kernel_rfl
end Go.Proofs.YtkjbafcalamgnaaGreat
namespace Go.Proofs.YtkjbafcalamgnaaGreat
open Go.RowKit
def CaO (w:World)(q o:Nat)(s:Int)(v:Value):Prop:=w.cell? ⟨q,o,none⟩=some (.int .i64 s)∧w.cell? ⟨q,o+1,none⟩=some v
theorem CaO.below {w w':World}{q o:Nat}{s:Int}{v:Value}(h:CaO w q o s v)(hb:Below w.heap.size w w'):CaO w' q o s v :=
 have hl:=World.block_lt_of_cell? _ _ h.1
 ⟨(hb.cell (p:=⟨q,o,none⟩) hl).trans h.1,(hb.cell (p:=⟨q,o+1,none⟩) hl).trans h.2⟩
theorem zFp (q o:Nat)(s:Int)(a:Option Addr)(n cap:Nat)(K:Nat→Kp)(z x y:Int)(w:World)(hc:CaO w q o s (.slice a n cap))(hp:zBc w a n K)(hn:n≤1048576) :
  Calls Tryz.prog 63 #[.pointer (some ⟨q,o,none⟩),vW z x y] w fun e w'=>e=.returned (.int .i64 (atK n K z x y))∧Bw w w':=by
 have HP:Hid (zBc w a n K):=hp
 have HC:Hid (CaO w q o s (.slice a n cap)):=hc
 clear hp hc
 go_enter Tryz.func63,Tryz.ntmps63
 go_wp2_with fail
 generalize hW:(w.alloc _:World)=W
 have HB0:Hid (Bw w W):=by show Below _ _ _;subst hW;exact Qb
 have HR:Hid (RK W w.heap.size z x y):=by show RK _ _ _ _ _;subst hW;exact ⟨by simp [go_sem],by simp [go_sem],by simp [go_sem]⟩
 clear hW
 go_loopw [5] (fun i wr=>∃ k:Nat,k≤n∧i=.int .i64 (k:Int)∧(∀ j,j<k→isK (K j) z x y=false)∧Bw W wr) (fun i _=>n - (intOf i).toNat)
 case atStart=>exact ⟨0,by omega,rfl,fun j hj=>absurd hj (Nat.not_lt_zero _),Below.refl _ _⟩
 case round =>
  obtain ⟨k,hk,rfl,hno,hB⟩:=hrel
  have HN:Hid (∀ j,j<k→isK (K j) z x y=false):=hno
  have HB:Hid (Bw W wr):=hB
  obtain ⟨m0,m1⟩:=HC.out.below (zA HB0.out hB)
  by_cases hlt:k<n
  ·rcases HP.out with h0 | ⟨b,off,rfl,hb,hpt⟩
   ·omega
   obtain ⟨q0,q1,q2,q3,q4⟩:=((hpt.below (zA HB0.out hB) hb) k hlt).1
   obtain ⟨p0,p1,p2⟩:=HR.out.below hB
   have hi:(k:Int)<(n:Int):=by omega
   have hi0:(0:Int)≤(k:Int):=by omega
   have heq:=fun w=>zCe (K k).z (K k).x (K k).y z x y w
   clear hno hB hpt
   have hE0:((K k).z == z && ((K k).x == x && (K k).y == y))=isK (K k) z x y:=rfl
   simp only [hE0] at heq
   clear hE0
   cases hE:isK (K k) z x y
   ·simp only [hE] at heq
    have HN2:Hid (∀ j,j<k+1→isK (K j) z x y=false):=fun j hj=>by
     by_cases e:j=k
     ·rw [e];exact hE
     ·exact HN.out j (by omega)
    clear hE
    generalize (K k).z=rz at *
    generalize (K k).x=rx at *
    generalize (K k).y=ry at *
    go_wp2_with fail
    go_quiet (fail)
    go_wp2_with fail
    exact ⟨⟨k+1,by omega,by simp,HN2.out,below_drewN HB.out _⟩,by simp [intOf];omega⟩
   ·simp only [hE] at heq
    have HY:Hid (atK n K z x y=(k:Int)):=yM (G:=fun i=>isK (K i) z x y) hlt hE HN.out
    clear hE
    generalize (K k).z=rz at *
    generalize (K k).x=rx at *
    generalize (K k).y=ry at *
    go_wp2_with fail
    go_quiet (fail)
    go_wp2
    go_ret
    exact ⟨zC HY.out.symm,below_drewN (zA HB0.out HB.out) _⟩
  ·obtain rfl:n=k:=by omega
   have HY:Hid (atK n K z x y=-1):=vI (G:=fun i=>isK (K i) z x y) HN.out
   go_wp2
   go_ret
   exact ⟨zC HY.out.symm,zA HB0.out HB.out⟩
theorem zFo (q o:Nat)(s:Int)(b n cap:Nat)(A:Nat→Kp)(w:World)(hc:CaO w q o s (.slice (some ⟨b,0,none⟩) n cap))(ha:zCr w b n A)(hs:zM n A) :
  Calls Tryz.prog 60 #[.pointer (some ⟨q,o,none⟩)] w fun e w'=>e=.returned (.int .i64 (cacheC s n A))∧Bw w w':=by
 have HA:Hid (zCr w b n A):=ha
 have HC:Hid (CaO w q o s (.slice (some ⟨b,0,none⟩) n cap)):=hc
 have HS:Hid (zM n A):=hs
 have hn:n≤1048576:=hs.1
 obtain ⟨p0,p1⟩:=hc
 clear ha hs
 cases hin:inB s 1 10
 ·have hz:Hid (cacheC s n A=3):=by show _=_;unfold cacheC;rw [hin];rfl
  go_enter Tryz.func60,Tryz.ntmps60
  go_wp2_with (go_at_call 59;refine (zQ _ _ _ _).mono ?_;rintro e w' ⟨rfl,h'⟩;subst w')
  go_ret
  exact ⟨zC hz.out.symm,Qb⟩
 by_cases hsn:s<(n:Int)
 ·have hz:Hid (cacheC s n A=2):=by show _=_;unfold cacheC;rw [if_pos hin,if_pos hsn]
  have hw:IntKind.i64.wrap (n:Int)=(n:Int):=IntWalk.i64_in _ (by omega)
  go_enter Tryz.func60,Tryz.ntmps60
  go_wp2_with (go_at_call 59;refine (zQ _ _ _ _).mono ?_;rintro e w' ⟨rfl,h'⟩;subst w')
  go_quiet (fail)
  go_wp2
  go_ret
  exact ⟨zC hz.out.symm,below_drewN (Below.refl _ _) _⟩
 ·have hz:Hid (cacheC s n A=yE (kC A) 0 n):=by show _=_;unfold cacheC;rw [if_pos hin,if_neg hsn]
  have hw:IntKind.i64.wrap (n:Int)=(n:Int):=IntWalk.i64_in _ (by omega)
  go_enter Tryz.func60,Tryz.ntmps60
  go_wp2_with (go_at_call 59;refine (zQ _ _ _ _).mono ?_;rintro e w' ⟨rfl,h'⟩;subst w')
  go_quiet (fail)
  go_wp2_with fail
  go_loopw [3] (fun v wr=>∃ k:Nat,k≤n∧v=.int .i64 k∧(∀ j,j<k→kC A j=0)∧Bw w wr) (fun v _=>n - (intOf v).toNat)
  case atStart=>exact ⟨0,by omega,rfl,by omega,below_drewN (Below.refl _ _) _⟩
  case round =>
   obtain ⟨k,hk,rfl,hA,hB⟩:=hrel
   have HB:Hid (Bw w wr):=hB
   have HZ:Hid (∀ j,j<k→kC A j=0):=hA
   obtain ⟨m0,m1⟩:=HC.out.below hB
   clear p0 p1 hA
   by_cases hlt:k<n
   ·have HLT:Hid (k<n):=hlt
    have first:Hid (∀ c,kC A k=c→c≠0→cacheC s n A=c):=fun c hc h0=>by
     rw [hz.out,zP (kC A) n 0 k (fun j _ hj=>HZ.out j hj) (by omega) (by have:=HLT.out;omega) (by rw [hc];exact h0),hc]
    have HOK:Hid (kC A k=0→∀ j,j<k+1→kC A j=0):=fun h0 j hj=>by
     by_cases e:j=k
     ·rw [e];exact h0
     ·exact HZ.out j (by omega)
    have HR:Hid (zCr wr b n A):=HA.out.below hB
    obtain ⟨⟨q0,q1,q2,q3,q4⟩,⟨fb,ef,hfl,hft⟩,hids⟩:=HR.out.2 k hlt
    rw [ef] at q3
    have HL8:Hid (Calls Tryz.prog 102 #[.pointer (some ⟨b,k * 5,none⟩)] wr fun e w'=>e=.returned (.int .i64 (rtC (A k).z (A k).x (A k).y (A k).fn (A k).F))∧Bw wr w') :=
     zJr b (k * 5) _ _ _ fb (A k).fn (A k).fc (A k).F wr ⟨q0,q1,q2,q3⟩ hft hfl (HS.out.2 k hlt).1
    have hi:(k:Int)<(n:Int):=by omega
    have hi0:(0:Int)≤(k:Int):=by omega
    clear hB hft hids
    by_cases hC:rtC (A k).z (A k).x (A k).y (A k).fn (A k).F=0
    ·rw [hC] at HL8
     go_wp2_with fail
     refine HL8.out.mono ?_
     rintro e w1 ⟨rfl,hb1⟩
     have HB1:Hid (Bw w w1):=zA HB.out hb1
     have HR1:Hid (zCr w1 b n A):=HR.out.below hb1
     have hC0:Hid (rtC (A k).z (A k).x (A k).y (A k).fn (A k).F=0):=hC
     have HRas:Hid (∀ W,Bw w1 W→Calls Tryz.prog 104 #[.pointer (some ⟨b,k * 5,none⟩)] W fun e w'=>∃ v,e=.returned v∧uA W.heap.size w' v (rtL (A k).z (A k).x (A k).y (A k).fn (A k).F)∧Bw W w'):=fun W hW=>by
      obtain ⟨hr,hf,_⟩:=zMw hC0.out
      obtain ⟨h12,hok⟩:=zFx hf
      obtain ⟨⟨r0,r1,r2,r3,r4⟩,⟨gb,eg,hgl,hgt⟩,_⟩:=(HR1.out.below hW).2 k HLT.out
      rw [eg] at r3
      rw [show rtL (A k).z (A k).x (A k).y (A k).fn (A k).F=_ from if_pos hC0.out]
      exact zFh b (k * 5) _ _ _ gb (A k).fn (A k).fc (A k).F W ⟨r0,r1,r2,r3⟩ hgt hgl h12 hok hr
     obtain ⟨B,hBB0⟩:∃ B,xS (A k).m (rtL (A k).z (A k).x (A k).y (A k).fn (A k).F).length (A k).I (nz (rtL (A k).z (A k).x (A k).y (A k).fn (A k).F))=B:=⟨_,rfl⟩
     have hBB:Hid (xS (A k).m (rtL (A k).z (A k).x (A k).y (A k).fn (A k).F).length (A k).I (nz (rtL (A k).z (A k).x (A k).y (A k).fn (A k).F))=B):=hBB0
     have HSm:Hid (∀ W,Bw w1 W→∀ va vc,zAv W va (rtL (A k).z (A k).x (A k).y (A k).fn (A k).F).length (nz (rtL (A k).z (A k).x (A k).y (A k).fn (A k).F))→Calls Tryz.prog 103 #[.slice (A k).ia (A k).m (A k).ic,.slice va (rtL (A k).z (A k).x (A k).y (A k).fn (A k).F).length vc] W fun e w'=>e=.returned (.bool B)∧Bw W w'):=fun W hW va vc hv=>by
      rw [← hBB.out]
      exact zHn _ va _ _ _ vc _ _ W ((HR1.out.below hW).2 k HLT.out).2.2 hv (HS.out.2 k HLT.out).2
     have d4:∀ W,Bw w1 W→W.cell? ⟨b,k * 5+4,none⟩=some (.slice (A k).ia (A k).m (A k).ic):=fun W hW=>((HR1.out.below hW).2 k HLT.out).1.2.2.2.2
     clear q0 q1 q2 q3 q4 m0 m1 hC hBB0 HL8 hb1
     go_wp2_with fail
     refine wp_region_noPanic ?_
     refine wp_region_held_drew (S:=fun W'=>Bw w1 W') (by kernel_rfl) (by have:=Below.refl w1.heap.size w1;exact Qb) (fun hHeld=>?_)
     have hSd:Bw w1 w1.drew:=hHeld
     refine zE (i:=0) (d:=some 44) rfl rfl (hS:=hSd) ?_
     try simp only [Act.put,Qx,Qy,Qz]
     refine zE (i:=1) (d:=some 45) rfl rfl (hS:=hSd) ?_
     try simp only [Act.put,Qx,Qy,Qz]
     refine zE (i:=2) (d:=some 46) rfl rfl (hS:=hSd) ?_
     try simp only [Act.put,Qx,Qy,Qz]
     refine zE (i:=3) (d:=some 47) rfl rfl (hS:=hSd) ?_
     try simp only [Act.put,Qx,Qy,Qz]
     refine zE (i:=4) (d:=some 48) rfl rfl (hS:=hSd) ?_
     try simp only [Act.put,Qx,Qy,Qz]
     refine zE (i:=5) (d:=some 49) rfl rfl (hS:=hSd) ?_
     try simp only [Act.put,Qx,Qy,Qz]
     refine zE (i:=6) (d:=some 50) rfl rfl (hS:=hSd) ?_
     try simp only [Act.put,Qx,Qy,Qz]
     refine zR 7 fun K hK=>?_
     rw [if_pos (by rfl)]
     go_simp
     refine Calls.mono (HRas.out _ hSd) ?_
     rintro e wB ⟨v,rfl,hrow,hbB⟩
     have hSB:Bw w1 wB:=zA hSd hbB
     obtain ⟨va,vc,rfl,hvc,hvn⟩:=hrow.own.pts
     have HSm2:=(show Hid _ from HSm.out wB hSB va vc hvn)
     clear hrow hvn hvc
     go_wp2_with fail
     refine hK.out _ _ hSB (fun hHeld=>?_)
     clear hK K hbB
     try simp only [Act.put,Qx,Qy,Qz]
     refine zR 8 fun K hK=>?_
     rw [if_pos (by rfl)]
     go_simp
     refine Calls.mono HSm2.out ?_
     rintro e wC ⟨rfl,hbC⟩
     have hSC:Bw w1 wC:=zA hSB hbC
     go_wp2_with fail
     refine hK.out _ _ hSC (fun hHeld=>?_)
     clear hK K hbC HSm2
     try simp only [Act.put,Qx,Qy,Qz]
     refine zE (i:=9) (d:=some 53) rfl rfl (hS:=hSC) ?_
     try simp only [Act.put,Qx,Qy,Qz]
     refine wpAnyH_done (by kernel_rfl) ?_ _
     refine NoPanic.normal ?_
     have HC3:Hid (Bw w wC):=zA HB1.out hSC
     have HR3:Hid (zCr wC b n A):=HR1.out.below hSC
     clear d4 HRas HSm hSB hSd hSC
     cases B
     ·have hsc:Hid (cacheC s n A=8):=first.out 8 ((zOd (by rw [zDv hC0.out hBB.out];decide)).trans (zDv hC0.out hBB.out)) (by decide)
      go_wp2
      go_ret
      exact ⟨zC hsc.out.symm,HC3.out⟩
     ·have ht0:Hid (tC (A k)=0):=tC_ok hC0.out hBB.out
      have HH:Hid (Calls Tryz.prog 63 #[.pointer (some ⟨q,o,none⟩),vW (A k).z (A k).x (A k).y] wC fun e w'=>e=.returned (.int .i64 (atK n A (A k).z (A k).x (A k).y))∧Bw wC w') :=
       zFp q o s _ n cap A _ _ _ wC (HC.out.below HC3.out) HR3.out.is hn
      obtain ⟨g0,g1,g2,g3,g4⟩:=(HR3.out.2 k HLT.out).1
      clear g3 g4
      rcases zN2 HLT.out with ⟨hq,hq2⟩ | ⟨hq,i,hik,hq2⟩
      ·have hok:Hid (kC A k=0):=kC_ok ht0.out hq
       rw [hq2] at HH
       clear hq hq2
       generalize (A k).z=rz at *
       generalize (A k).x=rx at *
       generalize (A k).y=ry at *
       go_wp2_with (go_at_call 63;refine HH.out.mono ?_;rintro e w' ⟨rfl,hb⟩)
       go_roundw
       case rel=>exact ⟨k+1,by have:=HLT.out;omega,by go_num,HOK.out hok.out,zA HC3.out (by assumption)⟩
       case measure=>have:=HLT.out;simp [intOf];omega
      ·have hsc:Hid (cacheC s n A=6):=first.out 6 (zNj ht0.out hq) (by decide)
       have hne:((i:Int) == (k:Int))=false:=by simp;omega
       rw [hq2] at HH
       clear hq hq2
       generalize (A k).z=rz at *
       generalize (A k).x=rx at *
       generalize (A k).y=ry at *
       generalize (i:Int)=ii at *
       clear hik
       go_wp2_with (go_at_call 63;refine HH.out.mono ?_;rintro e w' ⟨rfl,hb⟩)
       go_ret
       exact ⟨zC hsc.out.symm,zA HC3.out (by assumption)⟩
    ·have hsc:Hid (cacheC s n A=rtC (A k).z (A k).x (A k).y (A k).fn (A k).F):=first.out _ ((zOd (by rw [zKy hC];exact hC)).trans (zKy hC)) hC
     have hcb:(rtC (A k).z (A k).x (A k).y (A k).fn (A k).F == 0)=false:=by simpa using hC
     generalize rtC (A k).z (A k).x (A k).y (A k).fn (A k).F=rc at *
     go_wp2_with fail
     refine HL8.out.mono ?_
     rintro e w1 ⟨rfl,hb1⟩
     go_wp2
     go_ret
     exact ⟨zC hsc.out.symm,zA HB.out hb1⟩
   ·have hsc:Hid (cacheC s n A=0):=by
     show _=_
     rw [hz.out]
     exact yG _ _ _ (fun j _ hj=>HZ.out j (by omega))
    go_wp2
    go_ret
    exact ⟨zC hsc.out.symm,HB.out⟩
abbrev agV (z x y:Int)(fa:Option Addr)(fn fc:Nat)(ia:Option Addr)(m ic:Nat)(t:Int):Value:=.agg #[.int .i64 z,.int .i64 x,.int .i64 y,.slice fa fn fc,.slice ia m ic,.int .i64 t]
def RV:Value→Option (DataW Value × List MemPlace)
 | .agg cs=>match cs.toList with
  | [.int .i64 _,.int .i64 _,.int .i64 _,.slice _ _ _,.slice _ _ _,.int .i64 _]=>some (.held (.agg cs),[])
  | _=>none
 | _=>none
theorem RV_mk (z x y:Int)(fa:Option Addr)(fn fc:Nat)(ia:Option Addr)(m ic:Nat)(t:Int):RV (agV z x y fa fn fc ia m ic t)=some (.held (agV z x y fa fn fc ia m ic t),[]):=rfl
theorem RV_inv {v:Value}{d:DataW Value}{ps:List MemPlace}(h:RV v=some (d,ps)):d=.held v∧∃ z x y fa fn fc ia m ic t,v=agV z x y fa fn fc ia m ic t:=by
 unfold RV at h
 split at h
 ·rename_i cs
  split at h
  ·rename_i hl
   obtain ⟨l⟩:=cs
   replace hl:l=_:=hl
   subst hl
   injection h with h
   injection h with h1 h2
   exact ⟨h1.symm,_,_,_,_,_,_,_,_,_,_,rfl⟩
  ·cases h
 ·cases h
theorem yX {w w':World}{P:Program}{k:TypeId}{mb n:Nat}{D:DataW Value}(h:w.ownsMap P k RV mb n D)(hb:Below w.heap.size w w'):w'.ownsMap P k RV mb n D:=by
 have hl:=h.lt
 obtain ⟨es,c,h1,h2⟩:=h
 exact ⟨es,c,(hb.block mb hl).trans h1,h2⟩
theorem zKi (w:World):(zeroValue 223).run Tryz.prog w=.ok (agV 0 0 0 none 0 0 none 0 0 0) w:=by kernel_rfl
def ShA (w:World)(p:Nat)(s t:Int)(mb:Nat):Prop:=w.cell? ⟨p,0,none⟩=some (.int .i64 s)∧w.cell? ⟨p,1,none⟩=some (.int .i64 t)∧w.cell? ⟨p,2,none⟩=some (.map (some mb))
theorem ShA.below {w w':World}{p mb:Nat}{s t:Int}(h:ShA w p s t mb)(hb:Below w.heap.size w w'):ShA w' p s t mb :=
 have hl:=World.block_lt_of_cell? _ _ h.1
 ⟨(hb.cell (p:=⟨p,0,none⟩) hl).trans h.1,(hb.cell (p:=⟨p,1,none⟩) hl).trans h.2.1,(hb.cell (p:=⟨p,2,none⟩) hl).trans h.2.2⟩
theorem zM6 {w:World}{mb n:Nat}{D:DataW Value}{z x y:Int}(hm:w.ownsMap Tryz.prog 104 RV mb n D)(hz:I64 z)(hx:I64 x)(hy:I64 y) :
  ∃ a b c fa fn fc ia m ic t,∀ W,Bw w W→(Instr.lookup 170 (.map (some mb)) (vW z x y) true).run Tryz.prog W=.ok (.tuple #[agV a b c fa fn fc ia m ic t,.bool (Maps.has D (zB4 z x y))]) W:=by
 have key:∀ W,Bw w W→∃ v,D.atKey (zB4 z x y) (.held (agV 0 0 0 none 0 0 none 0 0 0))=.held v∧(∃ a b c fa fn fc ia m ic t,v=agV a b c fa fn fc ia m ic t)∧(Instr.lookup 170 (.map (some mb)) (vW z x y) true).run Tryz.prog W=.ok (.tuple #[v,.bool (Maps.has D (zB4 z x y))]) W:=fun W hW=>by
  obtain ⟨v,ps,hr,hv⟩:=(yX hm hW).look_ok zB3 Tryz.underlying170 (zKi _) (RV_mk 0 0 0 none 0 0 none 0 0 0) (zEc hz hx hy)
  obtain ⟨e,h⟩:=RV_inv hv
  exact ⟨v,e,h,hr⟩
 obtain ⟨v,hv,⟨a,b,c,fa,fn,fc,ia,m,ic,t,rfl⟩,_⟩:=key w (Below.refl _ _)
 refine ⟨a,b,c,fa,fn,fc,ia,m,ic,t,fun W hW=>?_⟩
 obtain ⟨v',hv',_,hr⟩:=key W hW
 rw [hv] at hv'
 injection hv' with e
 rw [e];exact hr
theorem zBd (p mb n:Nat)(s t:Int)(D:DataW Value)(z x y:Int)(w:World)(hp:ShA w p s t mb)(hm:w.ownsMap Tryz.prog 104 RV mb n D)(hz:I64 z)(hx:I64 x)(hy:I64 y) :
  Calls Tryz.prog 128 #[.pointer (some ⟨p,0,none⟩),vW z x y] w fun e w'=>e=.returned (.bool (Maps.has D (zB4 z x y)))∧Bw w w':=by
 obtain ⟨va,vb,vc,fa,fn,fc,ia,m,ic,vt,hL⟩:=zM6 hm hz hx hy
 have HP:Hid (ShA w p s t mb):=hp
 generalize Maps.has D (zB4 z x y)=B at *
 clear hm hz hx hy hp
 go_enter Tryz.func128,Tryz.ntmps128
 go_wp2_with fail
 generalize hW:(w.alloc _:World)=W
 have HB0:Bw w W:=by subst hW;exact Qb
 have HR:RK W w.heap.size z x y:=by subst hW;refine ⟨?_,?_,?_⟩ <;> simp [go_sem]
 have c2:∀ W',Bw W W'→W'.cell? ⟨p,2,none⟩=some (.map (some mb)):=fun W' h=>(HP.out.below (zA HB0 h)).2.2
 have r0:∀ W',Bw W W'→W'.cell? ⟨w.heap.size,0,none⟩=some (.int .i64 z):=fun W' h=>(HR.below h).1
 have r1:∀ W',Bw W W'→W'.cell? ⟨w.heap.size,1,none⟩=some (.int .i64 x):=fun W' h=>(HR.below h).2.1
 have r2:∀ W',Bw W W'→W'.cell? ⟨w.heap.size,2,none⟩=some (.int .i64 y):=fun W' h=>(HR.below h).2.2
 have l5:∀ W',Bw W W'→(Instr.lookup 170 (.map (some mb)) (vW z x y) true).run Tryz.prog W'=.ok (.tuple #[agV va vb vc fa fn fc ia m ic vt,.bool B]) W':=fun W' h=>hL W' (zA HB0 h)
 have HB:Hid (Bw w W):=HB0
 clear hW hL HR HB0
 refine wp_region_noPanic ?_
 refine wp_region_held_drew (S:=fun W'=>Bw W W') (by kernel_rfl) (by have:=Below.refl W.heap.size W;exact Qb) (fun hHeld=>?_)
 have hSd:Bw W W.drew:=hHeld
 refine zE (i:=0) (d:=some 8) rfl rfl (hS:=hSd) ?_
 try simp only [Act.put,Qx,Qy,Qz]
 refine zE (i:=1) (d:=some 9) rfl rfl (hS:=hSd) ?_
 try simp only [Act.put,Qx,Qy,Qz]
 refine zE (i:=2) (d:=some 10) rfl rfl (hS:=hSd) ?_
 try simp only [Act.put,Qx,Qy,Qz]
 refine zE (i:=3) (d:=some 11) rfl rfl (hS:=hSd) ?_
 try simp only [Act.put,Qx,Qy,Qz]
 refine zE (i:=4) (d:=some 12) rfl rfl (hS:=hSd) ?_
 try simp only [Act.put,Qx,Qy,Qz]
 refine zE (i:=5) (d:=some 13) rfl rfl (hS:=hSd) ?_
 try simp only [Act.put,Qx,Qy,Qz]
 refine zE (i:=6) (d:=some 7) rfl rfl (hS:=hSd) ?_
 try simp only [Act.put,Qx,Qy,Qz]
 refine zE (i:=7) (d:=some 14) rfl rfl (hS:=hSd) ?_
 try simp only [Act.put,Qx,Qy,Qz]
 refine zE (i:=8) (d:=some 15) rfl rfl (hS:=hSd) ?_
 try simp only [Act.put,Qx,Qy,Qz]
 refine zR 9 fun K hK=>?_
 rw [if_pos (by rfl)]
 go_simp
 generalize hwA:(World.drew (World.alloc _ _):World)=wA
 have hSA:Bw W wA:=by subst hwA;have:=hSd;exact Qb
 have hT:zD wA W.heap.size 6:=by
  subst hwA
  intro o ho
  have:o=0∨o=1∨o=2∨o=3∨o=4∨o=5:=by omega
  rcases this with rfl | rfl | rfl | rfl | rfl | rfl <;> exact ⟨⟨_,by simp [go_sem];rfl⟩,by simp [go_sem]⟩
 clear hwA
 refine hK.out _ _ hSA (fun hHeld=>?_)
 clear hK K
 try simp only [Act.put,Qx,Qy,Qz]
 refine zR 10 fun K hK=>?_
 rw [if_pos (by rfl)]
 have t0:=hT.cell 0 (by omega)
 have t1:=hT.cell 1 (by omega)
 have t2:=hT.cell 2 (by omega)
 have t3:=hT.cell 3 (by omega)
 have t4:=hT.cell 4 (by omega)
 have t5:=hT.cell 5 (by omega)
 have f0:=(hT 0 (by omega)).2
 have f1:=(hT 1 (by omega)).2
 have f2:=(hT 2 (by omega)).2
 have f3:=(hT 3 (by omega)).2
 have f4:=(hT 4 (by omega)).2
 have f5:=(hT 5 (by omega)).2
 go_simp
 generalize hwC:(World.setCell _ _ _:World)=wC
 have hSC:Bw W wC:=by subst hwC;exact (((((hSA.setCell (Nat.le_refl _) _).setCell (Nat.le_refl _) _).setCell (Nat.le_refl _) _).setCell (Nat.le_refl _) _).setCell (Nat.le_refl _) _).setCell (Nat.le_refl _) _
 clear hwC
 refine hK.out _ _ hSC (fun hHeld=>?_)
 clear hK K hT
 try simp only [Act.put,Qx,Qy,Qz]
 refine zR 11 fun K hK=>?_
 rw [if_pos (by rfl)]
 go_simp
 refine hK.out _ _ hSC (fun hHeld=>?_)
 clear hK K
 try simp only [Act.put,Qx,Qy,Qz]
 refine wpAnyH_done (by kernel_rfl) ?_ _
 refine NoPanic.normal ?_
 have HC3:Hid (Bw w wC):=zA HB.out hSC
 clear c2 r0 r1 r2 l5 hSA hSd hSC
 go_wp2
 go_ret
 exact ⟨rfl,HC3.out⟩
end Go.Proofs.YtkjbafcalamgnaaGreat
