/- Texts. -/
import Derived.Test.YtkjbafcalamgnaaGreatVZoomViewer26
import Derived.Test.YtkjbafcalamgnaaGreatVZoomViewer28
set_option linter.unusedSimpArgs false
set_option linter.unusedVariables false
set_option maxRecDepth 100000
set_option maxHeartbeats 32000000
namespace Go.Proofs.YtkjbafcalamgnaaGreat
open Go.RowKit
noncomputable def tC (k:Kp):Int:=if rtC k.z k.x k.y k.fn k.F=0 then (if uS k.m (rtL k.z k.x k.y k.fn k.F).length k.I (nz (rtL k.z k.x k.y k.fn k.F))=true then 0 else 8) else rtC k.z k.x k.y k.fn k.F
noncomputable def kC (K:Nat→Kp)(i:Nat):Int:=if tC (K i)=0 then (if 0≤atK i K (K i).z (K i).x (K i).y then 6 else 0) else tC (K i)
noncomputable def cacheC (s:Int)(n:Nat)(K:Nat→Kp):Int:=if inB s 1 10=true then (if s<(n:Int) then 2 else xP (kC K) 0 n) else 3
theorem zTw {k:Kp}(h:rtC k.z k.x k.y k.fn k.F≠0):tC k=rtC k.z k.x k.y k.fn k.F:=by unfold tC;rw [if_neg h]
theorem zGg {k:Kp}(h:rtC k.z k.x k.y k.fn k.F=0)(h2:uS k.m (rtL k.z k.x k.y k.fn k.F).length k.I (nz (rtL k.z k.x k.y k.fn k.F))=false):tC k=8:=by unfold tC;rw [if_pos h,h2];rfl
theorem tC_ok {k:Kp}(h:rtC k.z k.x k.y k.fn k.F=0)(h2:uS k.m (rtL k.z k.x k.y k.fn k.F).length k.I (nz (rtL k.z k.x k.y k.fn k.F))=true):tC k=0:=by unfold tC;rw [if_pos h,h2];rfl
theorem zYl {K:Nat→Kp}{i:Nat}(h:tC (K i)≠0):kC K i=tC (K i):=by unfold kC;rw [if_neg h]
theorem kC_ok {K:Nat→Kp}{i:Nat}(h:tC (K i)=0)(h2:atK i K (K i).z (K i).x (K i).y=-1):kC K i=0:=by unfold kC;rw [if_pos h,h2];rfl
theorem zXb {K:Nat→Kp}{i:Nat}(h:tC (K i)=0)(h2:0≤atK i K (K i).z (K i).x (K i).y):kC K i=6:=by unfold kC;rw [if_pos h,if_pos h2]
theorem zXd (e:Kp):isK e e.z e.x e.y=true:=by simp [isK]
theorem zX2 {n k:Nat}{K:Nat→Kp}(hk:k<n):(atK k K (K k).z (K k).x (K k).y=-1∧atK n K (K k).z (K k).x (K k).y=(k:Int))∨(0≤atK k K (K k).z (K k).x (K k).y∧∃ i:Nat,i<k∧atK n K (K k).z (K k).x (K k).y=(i:Int)):=by
 unfold atK
 rcases zCd (fun i=>isK (K i) (K k).z (K k).x (K k).y) k with ⟨h1,h2⟩ | ⟨i,hi,hg,hf,hn⟩
 ·exact .inl ⟨h1,vA hk (zXd _) h2⟩
 ·exact .inr ⟨by rw [hf];omega,i,hi,vA (by omega) hg hn⟩
def zCy (w:World)(b n:Nat)(A:Nat→Kp):Prop:=b<w.heap.size∧∀ i,i<n→zJ8 w b (i * 5) (A i)∧(∃ fb,(A i).fa=some ⟨fb,0,none⟩∧fb<w.heap.size∧zA5 w fb 0 (A i).fn (A i).F)∧zCq w (A i).ia (A i).m (A i).I
theorem zCy.below {w w':World}{b n:Nat}{A:Nat→Kp}(h:zCy w b n A)(hb:Below w.heap.size w w'):zCy w' b n A :=
 ⟨Nat.lt_of_lt_of_le h.1 hb.size,fun i hi=>by
  obtain ⟨h1,⟨fb,e1,e2,e3⟩,h3⟩:=h.2 i hi
  exact ⟨h1.below hb h.1,⟨fb,e1,Nat.lt_of_lt_of_le e2 hb.size,e3.below hb e2⟩,h3.below hb⟩⟩
theorem zCy.is {w:World}{b n:Nat}{A:Nat→Kp}(h:zCy w b n A):zGd w (some ⟨b,0,none⟩) n A :=
 .inr ⟨b,0,rfl,h.1,fun i hi=>by
  obtain ⟨h1,⟨fb,e1,e2,e3⟩,h3⟩:=h.2 i hi
  exact ⟨by rw [Nat.zero_add];exact h1,.inr ⟨fb,0,e1,e2,e3⟩,h3⟩⟩
theorem yX.ko {w:World}{B b n:Nat}{K A:Nat→Kp}(h:yX w B b n K A):zCy w b n A :=
 ⟨h.2.1,fun i hi=>by
  obtain ⟨h1,h2⟩:=h.2.2 i hi
  have h3:=h2.is.2
  obtain ⟨_,⟨fb,e1,e2,e3,ho⟩,_⟩:=h2
  exact ⟨h1,⟨fb,e1,ho.2.1,by rw [e2];exact ho.2.2.1⟩,h3⟩⟩

theorem laid_k:laidOutB Tryz.prog=true:=by kernel_rfl
theorem zUa:(104:TypeId)<Tryz.prog.types.size:=of_decide_eq_true (by kernel_rfl)
theorem zV3:(match Tryz.prog.underlying 104 with | some (.array _ _) | some (.struct _)=>true | _=>false)=true:=by kernel_rfl
theorem law_ref:WideMaps.KeyLaw Tryz.prog 104:=deep_law_laid laid_k (m:=3) (by omega) zUa (by kernel_rfl) zV3
theorem uK:Go.Maps.Keyed Tryz.prog 104:=Go.Maps.Keyed.of_law law_ref
def I64 (z:Int):Prop:=(Lit.int .i64 z).wf=true
theorem zN0:Tryz.prog.cellsOf 104=3:=by kernel_rfl
theorem zS6:Tryz.prog.cellsOf 2=1:=by kernel_rfl
theorem zTl:Tryz.prog.underlying 2=some (.int .i64):=by kernel_rfl
theorem zW8:Tryz.prog.keyType 104=true:=by kernel_rfl
theorem zRg:∃ m,Tryz.prog.types.size=m+1:=⟨_,(Nat.succ_pred_eq_of_pos (Nat.lt_of_le_of_lt (Nat.zero_le _) zUa)).symm⟩
def zBw (z x y:Int):Lit:=.string (keyBytes [.int .i64 z,.int .i64 x,.int .i64 y])
theorem zDh {z x y:Int}(hz:I64 z)(hx:I64 x)(hy:I64 y):keyOf Tryz.prog 104 (vU z x y)=some (zBw z x y):=by
 unfold I64 at hz hx hy
 obtain ⟨m,hm⟩:=zRg
 have hi:∀ a:Int,(Lit.int .i64 a).wf=true→Tryz.prog.keyLits (m+1) 2 [.int .i64 a]=some [.int .i64 a]:=fun a ha=>by
  simp [Program.keyLits,zTl,ha]
 have hk:Tryz.prog.keyLits (m+1+1) 104 [.int .i64 z,.int .i64 x,.int .i64 y]=some [.int .i64 z,.int .i64 x,.int .i64 y]:=by
  unfold Program.keyLits
  simp [Tryz.underlying104,zN0,zS6,hi z hz,hi x hx,hi y hy]
 unfold keyOf
 rw [Tryz.underlying104]
 simp [zW8,Value.formed,Tryz.underlying104,zN0,Value.cells,hm,hk,zBw]
theorem zUx {z x y z' x' y':Int}(hz:I64 z)(hx:I64 x)(hy:I64 y)(hz':I64 z')(hx':I64 x')(hy':I64 y')(h:zBw z x y=zBw z' x' y'):z=z'∧x=x'∧y=y':=by
 have:=uK.inj (zDh hz hx hy) (by rw [h];exact zDh hz' hx' hy')
 simpa using this
theorem zHl (z x y:Int):WideAt.IsKeyLit (zBw z x y):=trivial
end Go.Proofs.YtkjbafcalamgnaaGreat
namespace Go.Proofs.YtkjbafcalamgnaaGreat
open Go.ChangeShapes Go.WideShapes Go.ChangeAt Go.RowKit Go.Deep
theorem zTn {H:Type}{enc:TypeId × Value→H}{w:World}{base fuel:Nat}{held:Bool}{cs:List Value}{y:DataW H × List MemPlace}(h:DataW.trod enc Tryz.prog w base (fun _=>true) held fuel 146 cs=some y) :
  ∃ (z x y:Int) (a:Option Addr) (n cap:Nat) (F:Nat→yE),cs=[.int .i64 z,.int .i64 x,.int .i64 y,.slice a n cap]∧(zGu w a n F∧zJ9 n F):=by
 obtain ⟨y0,y1,m,hx,hl,h0,h1⟩:=trod_struct2 Tryz.underlying146 h
 simp only [zH0,zVj] at h0 h1
 obtain ⟨z,x,y,e0⟩:=zMa h0
 obtain ⟨a,k,cap,F,e1,hF⟩:=zRi h1
 refine ⟨z,x,y,a,k,cap,F,?_,hF⟩
 have hlen:cs.length=4:=by rw [hl];exact zQ2
 match cs,hlen with
 | [v0,v1,v2,v3],_ =>
  simp at e0 e1
  simp [e0,e1]
theorem zTp {H:Type}{enc:TypeId × Value→H}{w:World}{base fuel:Nat}{held:Bool}{cs:List Value}{y:DataW H × List MemPlace}(h:DataW.trod enc Tryz.prog w base (fun _=>true) held fuel 140 cs=some y) :
  ∃ (a:Option Addr) (n cap:Nat) (Z:Nat→Int),cs=[.slice a n cap]∧(zCq w a n Z∧n≤maxLen):=by
 rcases open_ints Tryz.underlying140 Tryz.underlying2 (by kernel_rfl) h with ⟨hcs,_⟩ | ⟨x,l,c,zs,hcs,_,hl,hm,hz,_,hcell,hwz⟩
 ·exact ⟨none,0,0,fun _=>0,hcs,.inl rfl,Nat.zero_le _⟩
 ·have hz':zs.length=c:=by simpa using hz
  refine ⟨some x,l,c,fun i=>zs.getD i 0,hcs,?_,Nat.le_trans hl hm⟩
  by_cases h0:l=0
  ·exact .inl h0
  ·right
   obtain ⟨b,off,spot⟩:=x
   have e0:=hcell 0 (by omega)
   have hspot:spot=none:=by simpa [Addr.add] using World.cell?_spot e0
   subst hspot
   refine ⟨b,off,rfl,?_,fun i hi=>?_⟩
   ·have:=World.block_lt_of_cell? _ _ e0
    simpa [Addr.add] using this
   ·have:=hcell i (by omega)
    have e:(⟨b,off,none⟩:Addr).add i=⟨b,off+i,none⟩:=by
     unfold Addr.add
     by_cases h:i=0 <;> simp [h]
    rw [e] at this
    exact this
theorem zXs:Tryz.prog.cellsOf 140=1:=by kernel_rfl
theorem zQ3:Tryz.prog.cellsOf 148=5:=by kernel_rfl
theorem zVi:Tryz.prog.cellsOf 24=1:=by kernel_rfl
theorem zQ5:Tryz.prog.cellsOf 26=2:=by kernel_rfl
theorem zTq {H:Type}{enc:TypeId × Value→H}{w:World}{base fuel:Nat}{held:Bool}{cs:List Value}{y:DataW H × List MemPlace}(h:DataW.trod enc Tryz.prog w base (fun _=>true) held fuel 148 cs=some y) :
  ∃ k:Kp,cs=[.int .i64 k.z,.int .i64 k.x,.int .i64 k.y,.slice k.fa k.fn k.fc,.slice k.ia k.m k.ic]∧(zTb w k∧zTd k):=by
 obtain ⟨y0,y1,m,hx,hl,h0,h1⟩:=trod_struct2 Tryz.underlying148 h
 simp only [zQ2,zXs] at h0 h1
 obtain ⟨z,x,y,a,n,cap,F,e0,hF⟩:=zTn h0
 obtain ⟨ia,k,ic,Z,e1,hZ⟩:=zTp h1
 refine ⟨⟨z,x,y,a,n,cap,F,ia,k,ic,Z⟩,?_,⟨hF.1,hZ.1⟩,hF.2,hZ.2⟩
 have hlen:cs.length=5:=by rw [hl];exact zQ3
 match cs,hlen with
 | [v0,v1,v2,v3,v4],_ =>
  simp at e0 e1
  simp [e0,e1]
theorem zRh {H:Type}{enc:TypeId × Value→H}{w:World}{base fuel:Nat}{held:Bool}{cs:List Value}{y:DataW H × List MemPlace}(hf:DataW.trod enc Tryz.prog w base (fun _=>true) held fuel 24 cs=some y) :
  ∃ (a:Option Addr) (n cap:Nat) (K:Nat→Kp),cs=[.slice a n cap]∧(zGd w a n K∧zCi n K):=by
 rcases open_slice Tryz.underlying24 hf with ⟨hcs,_⟩ | ⟨x,l,c,m,n,D,Pl,hcs,_,hl,hc,hm,_,hx⟩
 ·exact ⟨none,0,0,fun _=>⟨0,0,0,none,0,0,fun _=>⟨0,0,0,0,none,0,0,fun _=>0,fun _=>0,⟨#[]⟩,0⟩,none,0,0,fun _=>0⟩,hcs,.inl rfl,Nat.zero_le _,fun i hi=>absurd hi (by omega)⟩
 ·simp at hm
  subst hm
  have each:∀ i,∃ e:Kp,i<l→(∀ k,k<5→w.cell? (x.add (i * 5+k))=[Value.int .i64 e.z,.int .i64 e.x,.int .i64 e.y,.slice e.fa e.fn e.fc,.slice e.ia e.m e.ic][k]?)∧zTb w e∧zTd e:=by
   intro i
   by_cases hi:i<l
   ·obtain ⟨cs',h1,h2⟩:=hx i (by omega)
    rw [zQ3] at h1
    obtain ⟨_,hlen,hcell⟩:=World.cells?_some h1
    obtain ⟨e,rfl,hk⟩:=zTq h2
    refine ⟨e,fun _=>⟨fun k hk=>?_,hk⟩⟩
    have:=hcell k hk
    rw [add_add] at this
    exact this
   ·exact ⟨⟨0,0,0,none,0,0,fun _=>⟨0,0,0,0,none,0,0,fun _=>0,fun _=>0,⟨#[]⟩,0⟩,none,0,0,fun _=>0⟩,fun h=>absurd h hi⟩
  obtain ⟨K,hK⟩:=Classical.skolem.1 each
  refine ⟨some x,l,_,K,hcs,?_,Nat.le_trans hl hc,fun i hi=>(hK i hi).2.2⟩
  by_cases h0:l=0
  ·exact .inl h0
  ·right
   obtain ⟨b,off,spot⟩:=x
   have e0:=(hK 0 (by omega)).1 0 (by omega)
   simp at e0
   have hspot:spot=none:=by simpa [Addr.add] using World.cell?_spot e0
   subst hspot
   refine ⟨b,off,rfl,?_,fun i hi=>?_⟩
   ·have:=World.block_lt_of_cell? _ _ e0
    simpa [Addr.add] using this
   ·obtain ⟨hc5,hp,_⟩:=hK i hi
    refine ⟨?_,hp⟩
    have k0:=hc5 0 (by omega)
    have k1:=hc5 1 (by omega)
    have k2:=hc5 2 (by omega)
    have k3:=hc5 3 (by omega)
    have k4:=hc5 4 (by omega)
    rw [add_plain] at k0 k1 k2 k3 k4
    simp only [← Nat.add_assoc,Nat.add_zero] at k0 k1 k2 k3 k4
    exact ⟨k0,k1,k2,k3,k4⟩
end Go.Proofs.YtkjbafcalamgnaaGreat
namespace Go.Proofs.YtkjbafcalamgnaaGreat
open Go.RowKit
abbrev agV (z x y:Int)(fa:Option Addr)(fn fc:Nat)(ia:Option Addr)(m ic:Nat)(t:Int):Value:=.agg #[.int .i64 z,.int .i64 x,.int .i64 y,.slice fa fn fc,.slice ia m ic,.int .i64 t]
def RV:Value→Option (DataW Value × List MemPlace)
 | .agg cs=>match cs.toList with
  | [.int .i64 _,.int .i64 _,.int .i64 _,.slice _ _ _,.slice _ _ _,.int .i64 _]=>some (.held (.agg cs),[])
  | _=>none
 | _=>none
theorem zX6 (z x y:Int)(fa:Option Addr)(fn fc:Nat)(ia:Option Addr)(m ic:Nat)(t:Int):RV (agV z x y fa fn fc ia m ic t)=some (.held (agV z x y fa fn fc ia m ic t),[]):=rfl
theorem zRb {v:Value}{d:DataW Value}{ps:List MemPlace}(h:RV v=some (d,ps)):d=.held v∧∃ z x y fa fn fc ia m ic t,v=agV z x y fa fn fc ia m ic t:=by
 unfold RV at h
 split at h
 ·rename_i cs
  split at h
  ·rename_i hl
   obtain ⟨l⟩:=cs
   replace hl:l=_:=hl
   subst hl
   injection h with h
   injection h with h1 h2
   exact ⟨h1.symm,_,_,_,_,_,_,_,_,_,_,rfl⟩
  ·cases h
 ·cases h
theorem zZ {w w':World}{P:Program}{k:TypeId}{mb n:Nat}{D:DataW Value}(h:w.ownsMap P k RV mb n D)(hb:Below w.heap.size w w'):w'.ownsMap P k RV mb n D:=by
 have hl:=h.lt
 obtain ⟨es,c,h1,h2⟩:=h
 exact ⟨es,c,(hb.block mb hl).trans h1,h2⟩
theorem zL7 (w:World):(zeroValue 223).run Tryz.prog w=.ok (agV 0 0 0 none 0 0 none 0 0 0) w:=by kernel_rfl
def ShA (w:World)(p:Nat)(s t:Int)(mb:Nat):Prop:=w.cell? ⟨p,0,none⟩=some (.int .i64 s)∧w.cell? ⟨p,1,none⟩=some (.int .i64 t)∧w.cell? ⟨p,2,none⟩=some (.map (some mb))
theorem ShA.below {w w':World}{p mb:Nat}{s t:Int}(h:ShA w p s t mb)(hb:Below w.heap.size w w'):ShA w' p s t mb :=
 have hl:=World.block_lt_of_cell? _ _ h.1
 ⟨(hb.cell (p:=⟨p,0,none⟩) hl).trans h.1,(hb.cell (p:=⟨p,1,none⟩) hl).trans h.2.1,(hb.cell (p:=⟨p,2,none⟩) hl).trans h.2.2⟩
theorem zWw {w:World}{mb n:Nat}{D:DataW Value}{z x y:Int}(hm:w.ownsMap Tryz.prog 104 RV mb n D)(hz:I64 z)(hx:I64 x)(hy:I64 y) :
  ∃ a b c fa fn fc ia m ic t,∀ W,Bw w W→(Instr.lookup 170 (.map (some mb)) (vU z x y) true).run Tryz.prog W=.ok (.tuple #[agV a b c fa fn fc ia m ic t,.bool (Maps.has D (zBw z x y))]) W:=by
 have key:∀ W,Bw w W→∃ v,D.atKey (zBw z x y) (.held (agV 0 0 0 none 0 0 none 0 0 0))=.held v∧(∃ a b c fa fn fc ia m ic t,v=agV a b c fa fn fc ia m ic t)∧(Instr.lookup 170 (.map (some mb)) (vU z x y) true).run Tryz.prog W=.ok (.tuple #[v,.bool (Maps.has D (zBw z x y))]) W:=fun W hW=>by
  obtain ⟨v,ps,hr,hv⟩:=(zZ hm hW).look_ok uK Tryz.underlying170 (zL7 _) (zX6 0 0 0 none 0 0 none 0 0 0) (zDh hz hx hy)
  obtain ⟨e,h⟩:=zRb hv
  exact ⟨v,e,h,hr⟩
 obtain ⟨v,hv,⟨a,b,c,fa,fn,fc,ia,m,ic,t,rfl⟩,_⟩:=key w (Below.refl _ _)
 refine ⟨a,b,c,fa,fn,fc,ia,m,ic,t,fun W hW=>?_⟩
 obtain ⟨v',hv',_,hr⟩:=key W hW
 rw [hv] at hv'
 injection hv' with e
 rw [e];exact hr
theorem zB5 (p mb n:Nat)(s t:Int)(D:DataW Value)(z x y:Int)(w:World)(hp:ShA w p s t mb)(hm:w.ownsMap Tryz.prog 104 RV mb n D)(hz:I64 z)(hx:I64 x)(hy:I64 y) :
  Calls Tryz.prog 128 #[.pointer (some ⟨p,0,none⟩),vU z x y] w fun e w'=>e=.returned (.bool (Maps.has D (zBw z x y)))∧Bw w w':=by
 obtain ⟨va,vb,vc,fa,fn,fc,ia,m,ic,vt,hL⟩:=zWw hm hz hx hy
 have HP:Hid (ShA w p s t mb):=hp
 generalize Maps.has D (zBw z x y)=B at *
 clear hm hz hx hy hp
 go_enter Tryz.func128,Tryz.ntmps128
 go_wp2_with fail
 generalize hW:(w.alloc _:World)=W
 have HB0:Bw w W:=by subst hW;exact Qb
 have HR:RK W w.heap.size z x y:=by subst hW;refine ⟨?_,?_,?_⟩ <;> simp [go_sem]
 have c2:∀ W',Bw W W'→W'.cell? ⟨p,2,none⟩=some (.map (some mb)):=fun W' h=>(HP.out.below (zA HB0 h)).2.2
 have r0:∀ W',Bw W W'→W'.cell? ⟨w.heap.size,0,none⟩=some (.int .i64 z):=fun W' h=>(HR.below h).1
 have r1:∀ W',Bw W W'→W'.cell? ⟨w.heap.size,1,none⟩=some (.int .i64 x):=fun W' h=>(HR.below h).2.1
 have r2:∀ W',Bw W W'→W'.cell? ⟨w.heap.size,2,none⟩=some (.int .i64 y):=fun W' h=>(HR.below h).2.2
 have l5:∀ W',Bw W W'→(Instr.lookup 170 (.map (some mb)) (vU z x y) true).run Tryz.prog W'=.ok (.tuple #[agV va vb vc fa fn fc ia m ic vt,.bool B]) W':=fun W' h=>hL W' (zA HB0 h)
 have HB:Hid (Bw w W):=HB0
 clear hW hL HR HB0
 refine wp_region_noPanic ?_
 refine wp_region_held_drew (S:=fun W'=>Bw W W') (by kernel_rfl) (by have:=Below.refl W.heap.size W;exact Qb) (fun hHeld=>?_)
 have hSd:Bw W W.drew:=hHeld
 refine zF (i:=0) (d:=some 8) rfl rfl (hS:=hSd) ?_
 try simp only [Act.put,Qx,Qy,Qz]
 refine zF (i:=1) (d:=some 9) rfl rfl (hS:=hSd) ?_
 try simp only [Act.put,Qx,Qy,Qz]
 refine zF (i:=2) (d:=some 10) rfl rfl (hS:=hSd) ?_
 try simp only [Act.put,Qx,Qy,Qz]
 refine zF (i:=3) (d:=some 11) rfl rfl (hS:=hSd) ?_
 try simp only [Act.put,Qx,Qy,Qz]
 refine zF (i:=4) (d:=some 12) rfl rfl (hS:=hSd) ?_
 try simp only [Act.put,Qx,Qy,Qz]
 refine zF (i:=5) (d:=some 13) rfl rfl (hS:=hSd) ?_
 try simp only [Act.put,Qx,Qy,Qz]
 refine zF (i:=6) (d:=some 7) rfl rfl (hS:=hSd) ?_
 try simp only [Act.put,Qx,Qy,Qz]
 refine zF (i:=7) (d:=some 14) rfl rfl (hS:=hSd) ?_
 try simp only [Act.put,Qx,Qy,Qz]
 refine zF (i:=8) (d:=some 15) rfl rfl (hS:=hSd) ?_
 try simp only [Act.put,Qx,Qy,Qz]
 refine zN 9 fun K hK=>?_
 rw [if_pos (by rfl)]
 go_simp
 generalize hwA:(World.drew (World.alloc _ _):World)=wA
 have hSA:Bw W wA:=by subst hwA;have:=hSd;exact Qb
 have hT:zC wA W.heap.size 6:=by
  subst hwA
  intro o ho
  have:o=0∨o=1∨o=2∨o=3∨o=4∨o=5:=by omega
  rcases this with rfl | rfl | rfl | rfl | rfl | rfl <;> exact ⟨⟨_,by simp [go_sem];rfl⟩,by simp [go_sem]⟩
 clear hwA
 refine hK.out _ _ hSA (fun hHeld=>?_)
 clear hK K
 try simp only [Act.put,Qx,Qy,Qz]
 refine zN 10 fun K hK=>?_
 rw [if_pos (by rfl)]
 have t0:=hT.cell 0 (by omega)
 have t1:=hT.cell 1 (by omega)
 have t2:=hT.cell 2 (by omega)
 have t3:=hT.cell 3 (by omega)
 have t4:=hT.cell 4 (by omega)
 have t5:=hT.cell 5 (by omega)
 have f0:=(hT 0 (by omega)).2
 have f1:=(hT 1 (by omega)).2
 have f2:=(hT 2 (by omega)).2
 have f3:=(hT 3 (by omega)).2
 have f4:=(hT 4 (by omega)).2
 have f5:=(hT 5 (by omega)).2
 go_simp
 generalize hwC:(World.setCell _ _ _:World)=wC
 have hSC:Bw W wC:=by subst hwC;exact (((((hSA.setCell (Nat.le_refl _) _).setCell (Nat.le_refl _) _).setCell (Nat.le_refl _) _).setCell (Nat.le_refl _) _).setCell (Nat.le_refl _) _).setCell (Nat.le_refl _) _
 clear hwC
 refine hK.out _ _ hSC (fun hHeld=>?_)
 clear hK K hT
 try simp only [Act.put,Qx,Qy,Qz]
 refine zN 11 fun K hK=>?_
 rw [if_pos (by rfl)]
 go_simp
 refine hK.out _ _ hSC (fun hHeld=>?_)
 clear hK K
 try simp only [Act.put,Qx,Qy,Qz]
 refine wpAnyH_done (by kernel_rfl) ?_ _
 refine NoPanic.normal ?_
 have HC3:Hid (Bw w wC):=zA HB.out hSC
 clear c2 r0 r1 r2 l5 hSA hSd hSC
 go_wp2
 go_ret
 exact ⟨rfl,HC3.out⟩
theorem zLm (g n cap k0:Nat)(R:Nat→Kp)(M:Nat→Nat)(w:World)(hW:KsM w g n R M k0)(hs:zJ n R)(h0:0<k0)(hk0:k0≤1000000000) :
  Calls Tryz.prog 140 #[.slice (some ⟨g,0,none⟩) n cap,.int .i64 (k0:Int)] w fun e w'=>e=.returned (.int .i64 ((kK R k0 n:Nat):Int))∧Bw w w':=by
 have HS:Hid (zJ n R):=hs
 have hn:n≤1048576:=hs.1
 have HW:Hid (KsM w g n R M k0):=hW
 clear hs hW
 go_enter Tryz.func140,Tryz.ntmps140
 go_wp2_with fail
 go_loopw [1,5] (fun kk i wr=>∃ j K:Nat,j≤n∧Hid (K=kK R k0 j)∧kk=.int .i64 (K:Int)∧i=.int .i64 (j:Int)∧Bw w wr) (fun _ i _=>n - (intOf i).toNat)
 case atStart=>exact ⟨0,k0,by omega,rfl,rfl,rfl,Below.refl _ _⟩
 case round =>
  obtain ⟨j,K,hj,HK,rfl,rfl,hB⟩:=hrel
  have HB:Hid (Bw w wr):=hB
  by_cases hlt:j<n
  ·have hKb:K≤2400000000000000000:=by have:=HK.out;have:=(zEj HS.out hk0 (j:=j) (by omega)).2;omega
   have hK0:0<K:=by have:=HK.out;have:=(zEj HS.out hk0 (j:=j) (by omega)).1;omega
   have hsm:=HS.out.2 j hlt
   have hWr:=HW.out.below hB
   obtain ⟨_,hS2,hR3,md,m1,m2,m3,m4,m5⟩:=hWr.2.2 j hlt
   rw [← HK.out] at hR3 m4 m5
   obtain ⟨c0,c1,c2⟩:=hR3
   obtain ⟨c3,c4⟩:=hS2
   have hi:(j:Int)<(n:Int):=by omega
   have hi0:(0:Int)≤(j:Int):=by omega
   have e3:(K:Int)+1+1+1=((K+3:Nat):Int):=by omega
   have e2:(K:Int)+1+1=((K+2:Nat):Int):=by omega
   have e1:(K:Int)+1=((K+1:Nat):Int):=by omega
   rw [← e1] at c1
   rw [← e2] at c2
   have E:=(show Hid _ from e3)
   clear e1 e2 e3
   have HF:Hid (∀ W,Bw wr W→Calls Tryz.prog 180 #[.slice (R j).fa (R j).fn (R j).fc,.int .i64 ((K+3:Nat):Int)] W fun e w'=>e=.returned (.int .i64 ((kS (ptN (R j)) (K+3) (R j).fn:Nat):Int))∧Bw W w'):=fun W h =>
    zPn (M j) md _ _ _ (K+3) _ _ W (m4.mid (zK.of_below (lo:=md) (hi:=md) h) (.inr (Nat.le_refl _))) (by have:=h.size;omega) hsm.1.1 (fun i hi=>(hsm.1.2 i hi).1) (by omega) (by omega)
   have HI:Hid (∀ W,Bw wr W→Calls Tryz.prog 181 #[.slice (R j).ia (R j).m (R j).ic,.int .i64 ((kS (ptN (R j)) (K+3) (R j).fn:Nat):Int)] W fun e w'=>e=.returned (.int .i64 ((kS (ptN (R j)) (K+3) (R j).fn+(R j).m:Nat):Int))∧Bw W w'):=fun W h=>by
    refine (zIy (R j).ia (R j).m (R j).ic (kS (ptN (R j)) (K+3) (R j).fn) W ?_ hsm.2 (by have:=(zGo (k:=K+3) hsm).2;omega)).mono ?_
    ·rcases m5 with h0 | ⟨ib,e,a,b,c⟩
     ·exact .inl h0
     ·exact .inr ⟨ib,0,e,by have:=h.size;omega,c.below h (by omega)⟩
    ·rintro e w' ⟨rfl,hw⟩
     exact ⟨rfl,by first | exact hw | (subst hw;exact Below.refl _ _)⟩
   have HSS:Hid (kS (ptN (R j)) (K+3) (R j).fn≤6000000000000000000):=by show _≤_;have:=(zGo (k:=K+3) hsm).2;omega
   have HNx:Hid (kS (ptN (R j)) (K+3) (R j).fn+(R j).m=kK R k0 (j+1)):=by show _=_;rw [kK,← HK.out];rfl
   have hm2:(R j).m≤1048576:=hsm.2
   clear hWr m3 m4 m5 m1 m2 hsm hB
   go_wp2_with fail
   rw [E.out]
   refine (HF.out _ (Below.refl _ _)).mono ?_
   rintro e w5 ⟨rfl,hb5⟩
   have HB5:Hid (Bw wr w5):=hb5
   have d4:=zLy hb5 c4
   have hSS:=HSS.out
   have HI5:=(show Hid _ from HI.out w5 hb5)
   clear hb5 c0 c1 c2 c3 c4 HF HI HSS
   generalize kS (ptN (R j)) (K+3) (R j).fn=Q at *
   go_wp2_with fail
   refine Calls.mono HI5.out ?_
   rintro e w6 ⟨rfl,hb6⟩
   have HB6:Hid (Bw w w6):=zA HB.out (zA HB5.out hb6)
   clear hb6 HI5 d4 HB5
   generalize hm:(R j).m=mm at *
   have hq0:¬ (((Q+mm:Nat):Int)<0):=by omega
   go_wp2_with fail
   go_roundw
   case rel=>exact ⟨j+1,Q+mm,by omega,by show _=_;exact HNx.out,rfl,by go_num,HB6.out⟩
   case measure=>simp [intOf];omega
  ·go_wp2
   go_ret
   have hjn:j=n:=by omega
   subst hjn
   exact ⟨zD (by have:=HK.out;omega),HB.out⟩
def CaO (w:World)(q o:Nat)(s:Int)(v:Value):Prop:=w.cell? ⟨q,o,none⟩=some (.int .i64 s)∧w.cell? ⟨q,o+1,none⟩=some v
theorem CaO.below {w w':World}{q o:Nat}{s:Int}{v:Value}(h:CaO w q o s v)(hb:Below w.heap.size w w'):CaO w' q o s v :=
 have hl:=World.block_lt_of_cell? _ _ h.1
 ⟨(hb.cell (p:=⟨q,o,none⟩) hl).trans h.1,(hb.cell (p:=⟨q,o+1,none⟩) hl).trans h.2⟩
theorem zHk (q o:Nat)(s:Int)(a:Option Addr)(n cap:Nat)(K:Nat→Kp)(z x y:Int)(w:World)(hc:CaO w q o s (.slice a n cap))(hp:zGd w a n K)(hn:n≤1048576) :
  Calls Tryz.prog 63 #[.pointer (some ⟨q,o,none⟩),vU z x y] w fun e w'=>e=.returned (.int .i64 (atK n K z x y))∧Bw w w':=by
 have HP:Hid (zGd w a n K):=hp
 have HC:Hid (CaO w q o s (.slice a n cap)):=hc
 clear hp hc
 go_enter Tryz.func63,Tryz.ntmps63
 go_wp2_with fail
 generalize hW:(w.alloc _:World)=W
 have HB0:Hid (Bw w W):=by show Below _ _ _;subst hW;exact Qb
 have HR:Hid (RK W w.heap.size z x y):=by show RK _ _ _ _ _;subst hW;exact ⟨by simp [go_sem],by simp [go_sem],by simp [go_sem]⟩
 clear hW
 go_loopw [5] (fun i wr=>∃ k:Nat,k≤n∧i=.int .i64 (k:Int)∧(∀ j,j<k→isK (K j) z x y=false)∧Bw W wr) (fun i _=>n - (intOf i).toNat)
 case atStart=>exact ⟨0,by omega,rfl,fun j hj=>absurd hj (Nat.not_lt_zero _),Below.refl _ _⟩
 case round =>
  obtain ⟨k,hk,rfl,hno,hB⟩:=hrel
  have HN:Hid (∀ j,j<k→isK (K j) z x y=false):=hno
  have HB:Hid (Bw W wr):=hB
  obtain ⟨m0,m1⟩:=HC.out.below (zA HB0.out hB)
  by_cases hlt:k<n
  ·rcases HP.out with h0 | ⟨b,off,rfl,hb,hpt⟩
   ·omega
   obtain ⟨q0,q1,q2,q3,q4⟩:=((hpt.below (zA HB0.out hB) hb) k hlt).1
   obtain ⟨p0,p1,p2⟩:=HR.out.below hB
   have hi:(k:Int)<(n:Int):=by omega
   have hi0:(0:Int)≤(k:Int):=by omega
   have heq:=fun w=>zHt (K k).z (K k).x (K k).y z x y w
   clear hno hB hpt
   have hE0:((K k).z == z && ((K k).x == x && (K k).y == y))=isK (K k) z x y:=rfl
   simp only [hE0] at heq
   clear hE0
   cases hE:isK (K k) z x y
   ·simp only [hE] at heq
    have HN2:Hid (∀ j,j<k+1→isK (K j) z x y=false):=fun j hj=>by
     by_cases e:j=k
     ·rw [e];exact hE
     ·exact HN.out j (by omega)
    clear hE
    generalize (K k).z=rz at *
    generalize (K k).x=rx at *
    generalize (K k).y=ry at *
    go_wp2_with fail
    go_quiet (fail)
    go_wp2_with fail
    exact ⟨⟨k+1,by omega,by simp,HN2.out,below_drewN HB.out _⟩,by simp [intOf];omega⟩
   ·simp only [hE] at heq
    have HY:Hid (atK n K z x y=(k:Int)):=vA (G:=fun i=>isK (K i) z x y) hlt hE HN.out
    clear hE
    generalize (K k).z=rz at *
    generalize (K k).x=rx at *
    generalize (K k).y=ry at *
    go_wp2_with fail
    go_quiet (fail)
    go_wp2
    go_ret
    exact ⟨zD HY.out.symm,below_drewN (zA HB0.out HB.out) _⟩
  ·obtain rfl:n=k:=by omega
   have HY:Hid (atK n K z x y=-1):=zBc (G:=fun i=>isK (K i) z x y) HN.out
   go_wp2
   go_ret
   exact ⟨zD HY.out.symm,zA HB0.out HB.out⟩
theorem zM7 (q o:Nat)(s:Int)(b n cap:Nat)(A:Nat→Kp)(w:World)(hc:CaO w q o s (.slice (some ⟨b,0,none⟩) n cap))(ha:zCy w b n A)(hs:zJ n A) :
  Calls Tryz.prog 60 #[.pointer (some ⟨q,o,none⟩)] w fun e w'=>e=.returned (.int .i64 (cacheC s n A))∧Bw w w':=by
 have HA:Hid (zCy w b n A):=ha
 have HC:Hid (CaO w q o s (.slice (some ⟨b,0,none⟩) n cap)):=hc
 have HS:Hid (zJ n A):=hs
 have hn:n≤1048576:=hs.1
 obtain ⟨p0,p1⟩:=hc
 clear ha hs
 cases hin:inB s 1 10
 ·have hz:Hid (cacheC s n A=3):=by show _=_;unfold cacheC;rw [hin];rfl
  go_enter Tryz.func60,Tryz.ntmps60
  go_wp2_with (go_at_call 59;refine (yC _ _ _ _).mono ?_;rintro e w' ⟨rfl,h'⟩;subst w')
  go_ret
  exact ⟨zD hz.out.symm,Qb⟩
 by_cases hsn:s<(n:Int)
 ·have hz:Hid (cacheC s n A=2):=by show _=_;unfold cacheC;rw [if_pos hin,if_pos hsn]
  have hw:IntKind.i64.wrap (n:Int)=(n:Int):=IntWalk.i64_in _ (by omega)
  go_enter Tryz.func60,Tryz.ntmps60
  go_wp2_with (go_at_call 59;refine (yC _ _ _ _).mono ?_;rintro e w' ⟨rfl,h'⟩;subst w')
  go_quiet (fail)
  go_wp2
  go_ret
  exact ⟨zD hz.out.symm,below_drewN (Below.refl _ _) _⟩
 ·have hz:Hid (cacheC s n A=xP (kC A) 0 n):=by show _=_;unfold cacheC;rw [if_pos hin,if_neg hsn]
  have hw:IntKind.i64.wrap (n:Int)=(n:Int):=IntWalk.i64_in _ (by omega)
  go_enter Tryz.func60,Tryz.ntmps60
  go_wp2_with (go_at_call 59;refine (yC _ _ _ _).mono ?_;rintro e w' ⟨rfl,h'⟩;subst w')
  go_quiet (fail)
  go_wp2_with fail
  go_loopw [3] (fun v wr=>∃ k:Nat,k≤n∧v=.int .i64 k∧(∀ j,j<k→kC A j=0)∧Bw w wr) (fun v _=>n - (intOf v).toNat)
  case atStart=>exact ⟨0,by omega,rfl,by omega,below_drewN (Below.refl _ _) _⟩
  case round =>
   obtain ⟨k,hk,rfl,hA,hB⟩:=hrel
   have HB:Hid (Bw w wr):=hB
   have HZ:Hid (∀ j,j<k→kC A j=0):=hA
   obtain ⟨m0,m1⟩:=HC.out.below hB
   clear p0 p1 hA
   by_cases hlt:k<n
   ·have HLT:Hid (k<n):=hlt
    have first:Hid (∀ c,kC A k=c→c≠0→cacheC s n A=c):=fun c hc h0=>by
     rw [hz.out,yL (kC A) n 0 k (fun j _ hj=>HZ.out j hj) (by omega) (by have:=HLT.out;omega) (by rw [hc];exact h0),hc]
    have HOK:Hid (kC A k=0→∀ j,j<k+1→kC A j=0):=fun h0 j hj=>by
     by_cases e:j=k
     ·rw [e];exact h0
     ·exact HZ.out j (by omega)
    have HR:Hid (zCy wr b n A):=HA.out.below hB
    obtain ⟨⟨q0,q1,q2,q3,q4⟩,⟨fb,ef,hfl,hft⟩,hids⟩:=HR.out.2 k hlt
    rw [ef] at q3
    have HL8:Hid (Calls Tryz.prog 102 #[.pointer (some ⟨b,k * 5,none⟩)] wr fun e w'=>e=.returned (.int .i64 (rtC (A k).z (A k).x (A k).y (A k).fn (A k).F))∧Bw wr w') :=
     zSf b (k * 5) _ _ _ fb (A k).fn (A k).fc (A k).F wr ⟨q0,q1,q2,q3⟩ hft hfl (HS.out.2 k hlt).1
    have hi:(k:Int)<(n:Int):=by omega
    have hi0:(0:Int)≤(k:Int):=by omega
    clear hB hft hids
    by_cases hC:rtC (A k).z (A k).x (A k).y (A k).fn (A k).F=0
    ·rw [hC] at HL8
     go_wp2_with fail
     refine HL8.out.mono ?_
     rintro e w1 ⟨rfl,hb1⟩
     have HB1:Hid (Bw w w1):=zA HB.out hb1
     have HR1:Hid (zCy w1 b n A):=HR.out.below hb1
     have hC0:Hid (rtC (A k).z (A k).x (A k).y (A k).fn (A k).F=0):=hC
     have HRas:Hid (∀ W,Bw w1 W→Calls Tryz.prog 104 #[.pointer (some ⟨b,k * 5,none⟩)] W fun e w'=>∃ v,e=.returned v∧zB2 W.heap.size w' v (rtL (A k).z (A k).x (A k).y (A k).fn (A k).F)∧Bw W w'):=fun W hW=>by
      obtain ⟨hr,hf,_⟩:=zQj hC0.out
      obtain ⟨h12,hok⟩:=zNo hf
      obtain ⟨⟨r0,r1,r2,r3,r4⟩,⟨gb,eg,hgl,hgt⟩,_⟩:=(HR1.out.below hW).2 k HLT.out
      rw [eg] at r3
      rw [show rtL (A k).z (A k).x (A k).y (A k).fn (A k).F=_ from if_pos hC0.out]
      exact zMz b (k * 5) _ _ _ gb (A k).fn (A k).fc (A k).F W ⟨r0,r1,r2,r3⟩ hgt hgl h12 hok hr
     obtain ⟨B,hBB0⟩:∃ B,uS (A k).m (rtL (A k).z (A k).x (A k).y (A k).fn (A k).F).length (A k).I (nz (rtL (A k).z (A k).x (A k).y (A k).fn (A k).F))=B:=⟨_,rfl⟩
     have hBB:Hid (uS (A k).m (rtL (A k).z (A k).x (A k).y (A k).fn (A k).F).length (A k).I (nz (rtL (A k).z (A k).x (A k).y (A k).fn (A k).F))=B):=hBB0
     have HSm:Hid (∀ W,Bw w1 W→∀ va vc,zCq W va (rtL (A k).z (A k).x (A k).y (A k).fn (A k).F).length (nz (rtL (A k).z (A k).x (A k).y (A k).fn (A k).F))→Calls Tryz.prog 103 #[.slice (A k).ia (A k).m (A k).ic,.slice va (rtL (A k).z (A k).x (A k).y (A k).fn (A k).F).length vc] W fun e w'=>e=.returned (.bool B)∧Bw W w'):=fun W hW va vc hv=>by
      rw [← hBB.out]
      exact zPk _ va _ _ _ vc _ _ W ((HR1.out.below hW).2 k HLT.out).2.2 hv (HS.out.2 k HLT.out).2
     have d4:∀ W,Bw w1 W→W.cell? ⟨b,k * 5+4,none⟩=some (.slice (A k).ia (A k).m (A k).ic):=fun W hW=>((HR1.out.below hW).2 k HLT.out).1.2.2.2.2
     clear q0 q1 q2 q3 q4 m0 m1 hC hBB0 HL8 hb1
     go_wp2_with fail
     refine wp_region_noPanic ?_
     refine wp_region_held_drew (S:=fun W'=>Bw w1 W') (by kernel_rfl) (by have:=Below.refl w1.heap.size w1;exact Qb) (fun hHeld=>?_)
     have hSd:Bw w1 w1.drew:=hHeld
     refine zF (i:=0) (d:=some 44) rfl rfl (hS:=hSd) ?_
     try simp only [Act.put,Qx,Qy,Qz]
     refine zF (i:=1) (d:=some 45) rfl rfl (hS:=hSd) ?_
     try simp only [Act.put,Qx,Qy,Qz]
     refine zF (i:=2) (d:=some 46) rfl rfl (hS:=hSd) ?_
     try simp only [Act.put,Qx,Qy,Qz]
     refine zF (i:=3) (d:=some 47) rfl rfl (hS:=hSd) ?_
     try simp only [Act.put,Qx,Qy,Qz]
     refine zF (i:=4) (d:=some 48) rfl rfl (hS:=hSd) ?_
     try simp only [Act.put,Qx,Qy,Qz]
     refine zF (i:=5) (d:=some 49) rfl rfl (hS:=hSd) ?_
     try simp only [Act.put,Qx,Qy,Qz]
     refine zF (i:=6) (d:=some 50) rfl rfl (hS:=hSd) ?_
     try simp only [Act.put,Qx,Qy,Qz]
     refine zN 7 fun K hK=>?_
     rw [if_pos (by rfl)]
     go_simp
     refine Calls.mono (HRas.out _ hSd) ?_
     rintro e wB ⟨v,rfl,hrow,hbB⟩
     have hSB:Bw w1 wB:=zA hSd hbB
     obtain ⟨va,vc,rfl,hvc,hvn⟩:=hrow.own.pts
     have HSm2:=(show Hid _ from HSm.out wB hSB va vc hvn)
     clear hrow hvn hvc
     go_wp2_with fail
     refine hK.out _ _ hSB (fun hHeld=>?_)
     clear hK K hbB
     try simp only [Act.put,Qx,Qy,Qz]
     refine zN 8 fun K hK=>?_
     rw [if_pos (by rfl)]
     go_simp
     refine Calls.mono HSm2.out ?_
     rintro e wC ⟨rfl,hbC⟩
     have hSC:Bw w1 wC:=zA hSB hbC
     go_wp2_with fail
     refine hK.out _ _ hSC (fun hHeld=>?_)
     clear hK K hbC HSm2
     try simp only [Act.put,Qx,Qy,Qz]
     refine zF (i:=9) (d:=some 53) rfl rfl (hS:=hSC) ?_
     try simp only [Act.put,Qx,Qy,Qz]
     refine wpAnyH_done (by kernel_rfl) ?_ _
     refine NoPanic.normal ?_
     have HC3:Hid (Bw w wC):=zA HB1.out hSC
     have HR3:Hid (zCy wC b n A):=HR1.out.below hSC
     clear d4 HRas HSm hSB hSd hSC
     cases B
     ·have hsc:Hid (cacheC s n A=8):=first.out 8 ((zYl (by rw [zGg hC0.out hBB.out];decide)).trans (zGg hC0.out hBB.out)) (by decide)
      go_wp2
      go_ret
      exact ⟨zD hsc.out.symm,HC3.out⟩
     ·have ht0:Hid (tC (A k)=0):=tC_ok hC0.out hBB.out
      have HH:Hid (Calls Tryz.prog 63 #[.pointer (some ⟨q,o,none⟩),vU (A k).z (A k).x (A k).y] wC fun e w'=>e=.returned (.int .i64 (atK n A (A k).z (A k).x (A k).y))∧Bw wC w') :=
       zHk q o s _ n cap A _ _ _ wC (HC.out.below HC3.out) HR3.out.is hn
      obtain ⟨g0,g1,g2,g3,g4⟩:=(HR3.out.2 k HLT.out).1
      clear g3 g4
      rcases zX2 HLT.out with ⟨hq,hq2⟩ | ⟨hq,i,hik,hq2⟩
      ·have hok:Hid (kC A k=0):=kC_ok ht0.out hq
       rw [hq2] at HH
       clear hq hq2
       generalize (A k).z=rz at *
       generalize (A k).x=rx at *
       generalize (A k).y=ry at *
       go_wp2_with (go_at_call 63;refine HH.out.mono ?_;rintro e w' ⟨rfl,hb⟩)
       go_roundw
       case rel=>exact ⟨k+1,by have:=HLT.out;omega,by go_num,HOK.out hok.out,zA HC3.out (by assumption)⟩
       case measure=>have:=HLT.out;simp [intOf];omega
      ·have hsc:Hid (cacheC s n A=6):=first.out 6 (zXb ht0.out hq) (by decide)
       have hne:((i:Int) == (k:Int))=false:=by simp;omega
       rw [hq2] at HH
       clear hq hq2
       generalize (A k).z=rz at *
       generalize (A k).x=rx at *
       generalize (A k).y=ry at *
       generalize (i:Int)=ii at *
       clear hik
       go_wp2_with (go_at_call 63;refine HH.out.mono ?_;rintro e w' ⟨rfl,hb⟩)
       go_ret
       exact ⟨zD hsc.out.symm,zA HC3.out (by assumption)⟩
    ·have hsc:Hid (cacheC s n A=rtC (A k).z (A k).x (A k).y (A k).fn (A k).F):=first.out _ ((zYl (by rw [zTw hC];exact hC)).trans (zTw hC)) hC
     have hcb:(rtC (A k).z (A k).x (A k).y (A k).fn (A k).F == 0)=false:=by simpa using hC
     generalize rtC (A k).z (A k).x (A k).y (A k).fn (A k).F=rc at *
     go_wp2_with fail
     refine HL8.out.mono ?_
     rintro e w1 ⟨rfl,hb1⟩
     go_wp2
     go_ret
     exact ⟨zD hsc.out.symm,zA HB.out hb1⟩
   ·have hsc:Hid (cacheC s n A=0):=by
     show _=_
     rw [hz.out]
     exact xT _ _ _ (fun j _ hj=>HZ.out j (by omega))
    go_wp2
    go_ret
    exact ⟨zD hsc.out.symm,HB.out⟩
theorem zP8 {z x y wd ht:Int}(h:zAi z x y wd ht=true){i:Nat}(hi:i<uT z x y wd ht):zCu ((zB1 z x y wd).z i) ((zB1 z x y wd).x i) ((zB1 z x y wd).y i)=true:=by
 have hz:=vZ h
 obtain ⟨⟨h1,h2⟩,h3,h4⟩:=uD h
 obtain ⟨a1,a2,a3⟩:=zB3 (x:=x) h1
 obtain ⟨b1,b2,b3⟩:=zB3 (x:=y) h2
 have e:uT z x y wd ht=zGf y ht * zGf x wd:=by unfold uT;rw [if_pos h]
 rw [e] at hi
 have m1:i % zGf x wd<zGf x wd:=Nat.mod_lt _ (by omega)
 have m2:i / zGf x wd<zGf y ht:=Nat.div_lt_of_lt_mul (by rw [Nat.mul_comm];exact hi)
 show zCu z (x / 8+(i % zGf x wd:Nat)) (y / 8+(i / zGf x wd:Nat))=true
 generalize i % zGf x wd=u at *
 generalize i / zGf x wd=v at *
 generalize zGf x wd=NX at *
 generalize zGf y ht=NY at *
 have hzz:z=0∨z=1∨z=2∨z=3:=by
  simp [xD,inB] at hz
  omega
 rcases hzz with rfl | rfl | rfl | rfl <;> simp [xQ] at h3 h4 <;> simp [zCu,xD,inB,zAx] <;> omega
end Go.Proofs.YtkjbafcalamgnaaGreat
