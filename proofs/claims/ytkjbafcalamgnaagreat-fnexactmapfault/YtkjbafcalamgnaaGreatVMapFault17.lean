/- Texts. -/
import Derived.Test.YtkjbafcalamgnaaGreatVMapFault16
import Derived.Deep.CutBlock
set_option linter.unusedSimpArgs false
set_option linter.unusedVariables false
set_option maxRecDepth 100000
set_option maxHeartbeats 32000000
namespace Go.Proofs.YtkjbafcalamgnaaGreat
open Go.RowKit
end Go.Proofs.YtkjbafcalamgnaaGreat
namespace Go.Proofs.YtkjbafcalamgnaaGreat
open Go.ChangeShapes Go.WideShapes Go.ChangeAt Go.RowKit Go.Deep
theorem zC6 {H:Type}{enc:TypeId × Value→H}{w:World}{base fuel:Nat}{held:Bool}{cs:List Value}{y:DataW H × List MemPlace}(hf:DataW.trod enc Tryz.prog w base (fun _=>true) held fuel 50 cs=some y) :
  ∃ (a:Option Addr) (n cap:Nat) (F:Nat→zS),cs=[.slice a n cap]∧(zDq w a n F∧uT n F):=by
 rcases open_slice Tryz.underlying50 hf with ⟨hcs,_⟩ | ⟨x,len,c,m,n,D,Pl,hcs,_,hl,hc,hm,_,hx⟩
 ·exact ⟨none,0,0,fun _=>⟨0,0,0,0,none,0,0,fun _=>0,fun _=>0,⟨#[]⟩,0⟩,hcs,.inl rfl,Nat.zero_le _,fun i hi=>absurd hi (by omega)⟩
 ·simp at hm
  subst hm
  have each:∀ i,∃ f:zS,i<len→(∀ k,k<7→w.cell? (x.add (i * 7+k))=[Value.int .i64 f.id,.int .i64 f.la,.int .i64 f.ki,.int .i64 f.wi,.slice f.a f.n f.cap,.string f.lab,.int .i64 f.pr][k]?)∧xD w f.a f.n f.X f.Y∧f.n≤maxLen∧f.lab.size≤maxLen:=by
   intro i
   by_cases hi:i<len
   ·obtain ⟨cs',h1,h2⟩:=hx i (by omega)
    rw [zIo] at h1
    obtain ⟨_,hlen,hcell⟩:=World.cells?_some h1
    obtain ⟨id,la,ki,wi,a',n',cap',X,Y,lab,pr,rfl,hp,hn,hcp,hs⟩:=zKr h2
    refine ⟨⟨id,la,ki,wi,a',n',cap',X,Y,lab,pr⟩,fun _=>⟨fun k hk=>?_,hp,Nat.le_trans hn hcp,hs⟩⟩
    have:=hcell k hk
    rw [add_add] at this
    exact this
   ·exact ⟨⟨0,0,0,0,none,0,0,fun _=>0,fun _=>0,⟨#[]⟩,0⟩,fun h=>absurd h hi⟩
  obtain ⟨F,hF⟩:=Classical.skolem.1 each
  refine ⟨some x,len,_,F,hcs,?_,Nat.le_trans hl hc,fun i hi=>(hF i hi).2.2⟩
  by_cases h0:len=0
  ·exact .inl h0
  ·right
   obtain ⟨b,off,spot⟩:=x
   have e0:=(hF 0 (by omega)).1 0 (by omega)
   simp at e0
   have hspot:spot=none:=by simpa [Addr.add] using World.cell?_spot e0
   subst hspot
   refine ⟨b,off,rfl,?_,fun i hi=>?_⟩
   ·have:=World.block_lt_of_cell? _ _ e0
    simpa [Addr.add] using this
   ·obtain ⟨hc7,hp,_,_⟩:=hF i hi
    refine ⟨?_,hp⟩
    have k0:=hc7 0 (by omega)
    have k1:=hc7 1 (by omega)
    have k2:=hc7 2 (by omega)
    have k3:=hc7 3 (by omega)
    have k4:=hc7 4 (by omega)
    have k5:=hc7 5 (by omega)
    have k6:=hc7 6 (by omega)
    rw [add_plain] at k0 k1 k2 k3 k4 k5 k6
    simp only [← Nat.add_assoc,Nat.add_zero] at k0 k1 k2 k3 k4 k5 k6
    exact ⟨k0,k1,k2,k3,k4,k5,k6⟩
theorem zCj:Tryz.prog.cellsOf 113=3:=by kernel_rfl
theorem zGa:Tryz.prog.cellsOf 50=1:=by kernel_rfl
theorem zIm:Tryz.prog.cellsOf 146=4:=by kernel_rfl
theorem zE0 {H:Type}{enc:TypeId × Value→H}{w:World}{base:Nat}{spare:Nat→Bool}{held:Bool}{n:Nat}{cs:List Value}{x:DataW H × List MemPlace}(h:DataW.trod enc Tryz.prog w base spare held n 113 cs=some x):∃ a b c:Int,cs=[.int .i64 a,.int .i64 b,.int .i64 c]:=by
 obtain ⟨xs,m,rfl,hx,hl,hxl,hf⟩:=DataW.trod_struct Tryz.underlying113 h
 rw [zCj] at hl
 have hxl3:xs.length=3:=hxl
 match cs,hl with
 | [v0,v1,v2],_ =>
  match xs,hxl3 with
  | [x0,x1,x2],_ =>
   have h0:=hf 0 _ rfl
   have h1:=hf 1 _ rfl
   have h2:=hf 2 _ rfl
   simp [xG] at h0 h1 h2
   obtain ⟨a,e0,_,_⟩:=DataW.trod_int Tryz.underlying2 h0
   obtain ⟨b,e1,_,_⟩:=DataW.trod_int Tryz.underlying2 h1
   obtain ⟨c,e2,_,_⟩:=DataW.trod_int Tryz.underlying2 h2
   simp at e0 e1 e2
   subst e0 e1 e2
   exact ⟨a,b,c,rfl⟩
end Go.Proofs.YtkjbafcalamgnaaGreat
namespace Go.Proofs.YtkjbafcalamgnaaGreat
open Go.RowKit
def fcell (f:zS):List Value:=[.int .i64 f.id,.int .i64 f.la,.int .i64 f.ki,.int .i64 f.wi,.slice f.a f.n f.cap,.string f.lab,.int .i64 f.pr]
theorem zCd {n:Nat}{G:Nat→zS}(h:zK n G=0):n≤12∧zOf (fun i=>(G i).id) n∧∀ i,i<n→zH (G i).id (G i).la (G i).ki (G i).wi (G i).n (G i).X (G i).Y (G i).lab (G i).pr=0:=by
 unfold zK at h
 by_cases h12:12<n
 ·rw [if_pos h12] at h;cases h
 ·rw [if_neg h12] at h
  have hz:=zE9 _ _ _ h
  have hA:∀ i,i<n→zH (G i).id (G i).la (G i).ki (G i).wi (G i).n (G i).X (G i).Y (G i).lab (G i).pr=0∧¬ ∃ j,j<i∧(G j).id=(G i).id:=fun i hi=>by
   have:=hz i (Nat.zero_le _) (by omega)
   unfold zZ at this
   by_cases hf:zH (G i).id (G i).la (G i).ki (G i).wi (G i).n (G i).X (G i).Y (G i).lab (G i).pr≠0
   ·rw [if_pos hf] at this;exact absurd this hf
   ·rw [if_neg hf] at this
    by_cases hj:∃ j,j<i∧(G j).id=(G i).id
    ·rw [if_pos hj] at this;cases this
    ·exact ⟨by simpa using hf,hj⟩
  refine ⟨by omega,fun i j hi hj e=>?_,fun i hi=>(hA i hi).1⟩
  rcases Nat.lt_trichotomy i j with h | h | h
  ·exact absurd ⟨i,h,e⟩ (hA j hj).2
  ·exact h
  ·exact absurd ⟨j,h,e.symm⟩ (hA i hi).2
def orI (x y:Int):Int:=if x=0 then y else x
theorem zL6 (b c:Nat)(x y:Int)(w:World)(h0:w.cell? ⟨b,0,none⟩=some (.int .i64 x))(h1:w.cell? ⟨b,1,none⟩=some (.int .i64 y)):Calls Tryz.prog 237 #[.slice (some ⟨b,0,none⟩) 2 c] w fun e w'=>e=.returned (.int .i64 (orI x y))∧w'=w:=by
 unfold orI
 by_cases hx:x=0
 ·subst hx
  by_cases hy:y=0
  ·subst hy
   go_enter Tryz.func237,Tryz.ntmps237
   go_wp2
   refine wp_loop_rounds 3 ?_
   rw [rounds_succ]
   go_wp2
   rw [rounds_succ]
   go_wp2
   rw [rounds_succ]
   go_wp2
   go_ret
   exact ⟨by simp,rfl⟩
  ·have hy':(y == 0)=false:=by simpa using hy
   go_enter Tryz.func237,Tryz.ntmps237
   go_wp2
   refine wp_loop_rounds 2 ?_
   rw [rounds_succ]
   go_wp2
   rw [rounds_succ]
   go_wp2
   go_ret
   exact ⟨by simp,rfl⟩
 ·have hx':(x == 0)=false:=by simpa using hx
  rw [if_neg hx]
  go_enter Tryz.func237,Tryz.ntmps237
  go_wp2
  refine wp_loop_rounds 1 ?_
  rw [rounds_succ]
  go_wp2
  go_ret
  exact ⟨rfl,rfl⟩
def cmpF (f g:zS):Int:=orI (cmpI f.la g.la) (cmpI f.id g.id)
theorem zAf (f g:zS)(w:World):Calls Tryz.prog 217 #[.agg (fcell f).toArray,.agg (fcell g).toArray] w fun e w'=>e=.returned (.int .i64 (cmpF f g))∧Gro w w':=by
 unfold cmpF
 generalize hA:cmpI f.la g.la=A
 generalize hB:cmpI f.id g.id=B
 have H1:Hid (∀ W,Calls Tryz.prog 228 #[.int .i64 f.la,.int .i64 g.la] W fun e w'=>e=.returned (.int .i64 A)∧w'=W):=fun W=>by subst hA;exact uS _ _ _
 have H2:Hid (∀ W,Calls Tryz.prog 228 #[.int .i64 f.id,.int .i64 g.id] W fun e w'=>e=.returned (.int .i64 B)∧w'=W):=fun W=>by subst hB;exact uS _ _ _
 clear hA hB
 unfold fcell
 go_enter Tryz.func217,Tryz.ntmps217
 go_wp2_with fail
 generalize hV:((w.alloc _).alloc _:World)=V
 have hB0:Gro w V:=by subst hV;exact ((Gro.refl _).alloc _).alloc _
 have c0:∀ W',Gro V W'→W'.cell? ⟨w.heap.size,0,none⟩=some (.int .i64 f.id):=fun W' h=>by
  rw [h.1.cell (by subst hV;simp <;> omega)];subst hV;simp [go_sem]
 have c1:∀ W',Gro V W'→W'.cell? ⟨w.heap.size,1,none⟩=some (.int .i64 f.la):=fun W' h=>by
  rw [h.1.cell (by subst hV;simp <;> omega)];subst hV;simp [go_sem]
 have d0:∀ W',Gro V W'→W'.cell? ⟨w.heap.size+1,0,none⟩=some (.int .i64 g.id):=fun W' h=>by
  rw [h.1.cell (by subst hV;simp <;> omega)];subst hV;simp [go_sem]
 have d1:∀ W',Gro V W'→W'.cell? ⟨w.heap.size+1,1,none⟩=some (.int .i64 g.la):=fun W' h=>by
  rw [h.1.cell (by subst hV;simp <;> omega)];subst hV;simp [go_sem]
 clear hV
 refine wp_region_noPanic ?_
 refine wp_region_held_drew (S:=fun W'=>Gro V W') (by kernel_rfl) ((Gro.refl V).drew) (fun hHeld=>?_)
 have hBd:Gro V V.drew:=hHeld
 refine zE (i:=0) (d:=some 5) rfl rfl ?_
 try simp only [Act.put,Qx,Qy,Qz]
 refine zE (i:=1) (d:=some 6) rfl rfl ?_
 try simp only [Act.put,Qx,Qy,Qz]
 refine zE (i:=2) (d:=some 7) rfl rfl ?_
 try simp only [Act.put,Qx,Qy,Qz]
 refine zE (i:=3) (d:=some 8) rfl rfl ?_
 try simp only [Act.put,Qx,Qy,Qz]
 refine zE (i:=5) (d:=some 10) rfl rfl ?_
 try simp only [Act.put,Qx,Qy,Qz]
 refine zE (i:=6) (d:=some 11) rfl rfl ?_
 try simp only [Act.put,Qx,Qy,Qz]
 refine zE (i:=7) (d:=some 12) rfl rfl ?_
 try simp only [Act.put,Qx,Qy,Qz]
 refine zE (i:=8) (d:=some 13) rfl rfl ?_
 try simp only [Act.put,Qx,Qy,Qz]
 refine zR 4 fun K hK=>?_
 go_simp
 refine (H1.out _).mono ?_
 rintro e w4 ⟨rfl,rfl⟩
 go_wp2_with fail
 refine hK.out _ _ hBd (fun hHeld=>?_)
 clear hK K
 try simp only [Act.put,Qx,Qy,Qz]
 refine zR 9 fun K hK=>?_
 go_simp
 refine (H2.out _).mono ?_
 rintro e w9 ⟨rfl,rfl⟩
 go_wp2_with fail
 refine hK.out _ _ hBd (fun hHeld=>?_)
 clear hK K
 try simp only [Act.put,Qx,Qy,Qz]
 refine zR 10 fun K hK=>?_
 go_simp
 generalize hw9:(World.alloc _ _:World)=w9
 have hb9:Gro V w9:=by subst hw9;exact (Gro.refl _).alloc _
 have g0:w9.cell? ⟨V.heap.size,0,none⟩=some (.int .i64 A):=by subst hw9;simp [go_sem]
 have g1:w9.cell? ⟨V.heap.size,1,none⟩=some (.int .i64 B):=by subst hw9;simp [go_sem]
 have hB9:Gro V w9.drew:=hb9.drew
 replace g0:w9.drew.cell? ⟨V.heap.size,0,none⟩=some (.int .i64 A):=g0
 replace g1:w9.drew.cell? ⟨V.heap.size,1,none⟩=some (.int .i64 B):=g1
 clear hw9
 refine hK.out _ _ hB9 (fun hHeld=>?_)
 clear hK K
 try simp only [Act.put,Qx,Qy,Qz]
 refine zR 11 fun K hK=>?_
 go_simp
 refine (zL6 _ _ A B _ g0 g1).mono ?_
 rintro e w11 ⟨rfl,rfl⟩
 go_wp2_with fail
 refine hK.out _ _ hB9 (fun hHeld=>?_)
 clear hK K
 try simp only [Act.put,Qx,Qy,Qz]
 refine zE (i:=12) (d:=some 4) rfl rfl ?_
 try simp only [Act.put,Qx,Qy,Qz]
 refine wpAnyH_done (by kernel_rfl) ?_ _
 refine NoPanic.normal ?_
 go_wp2_with fail
 go_ret
 exact ⟨rfl,hB0.trans hB9⟩
def ltF (f g:zS):Bool:=decide (f.la<g.la) || (decide (f.la=g.la) && decide (f.id<g.id))
theorem zHm (p o p' o':Nat)(f g:zS)(w:World)(h0:w.cell? ⟨p,o,none⟩=some (.int .i64 f.id))(h1:w.cell? ⟨p,o+1,none⟩=some (.int .i64 f.la))(k0:w.cell? ⟨p',o',none⟩=some (.int .i64 g.id))(k1:w.cell? ⟨p',o'+1,none⟩=some (.int .i64 g.la)) :
  Calls Tryz.prog 190 #[.pointer (some ⟨p,o,none⟩),.pointer (some ⟨p',o',none⟩)] w fun e w'=>e=.returned (.bool (ltF f g))∧Bw w w':=by
 by_cases hx:f.la<g.la
 ·have HU:Hid (ltF f g=true):=by show _=_;simp [ltF,hx]
  go_enter Tryz.func190,Tryz.ntmps190
  go_wp2_with fail
  go_region
  go_wp2
  go_ret
  exact ⟨zF HU.out.symm,Qb⟩
 ·have hx':decide (f.la<g.la)=false:=by simpa using hx
  by_cases hy:f.la=g.la
  ·have hy':(f.la == g.la)=true:=by simpa using hy
   by_cases hz:f.id<g.id
   ·have HU:Hid (ltF f g=true):=by show _=_;simp [ltF,hy,hz]
    clear hy hx
    go_enter Tryz.func190,Tryz.ntmps190
    go_wp2_with fail
    go_region
    go_wp2
    go_ret
    exact ⟨zF HU.out.symm,Qb⟩
   ·have hz':decide (f.id<g.id)=false:=by simpa using hz
    have HU:Hid (ltF f g=false):=by show _=_;simp [ltF,hx];omega
    clear hy hx hz
    go_enter Tryz.func190,Tryz.ntmps190
    go_wp2_with fail
    go_region
    go_wp2
    go_ret
    exact ⟨zF HU.out.symm,Qb⟩
  ·have hy':(f.la == g.la)=false:=by simpa using hy
   have HU:Hid (ltF f g=false):=by show _=_;simp [ltF,hx,hy]
   clear hy hx
   go_enter Tryz.func190,Tryz.ntmps190
   go_wp2_with fail
   go_region
   go_wp2
   go_ret
   exact ⟨zF HU.out.symm,Qb⟩
def zHd (n:Nat)(G:Nat→zS):Bool:=decide (∀ i,i<n - 1→ltF (G (i+1)) (G i)=false)
def zCw (n:Nat)(G:Nat→zS):Bool:=decide (∀ i,i<n - 1→ltF (G i) (G (i+1))=true)
theorem zNs (f g:zS):cmpF f g<0 ↔ ltF f g=true:=by
 unfold cmpF orI cmpI ltF
 by_cases h1:f.la<g.la
 ·simp [h1]
 ·by_cases h2:g.la<f.la
  ·have:¬ f.la=g.la:=by omega
   simp [h1,h2,this]
  ·have:f.la=g.la:=by omega
   by_cases h3:f.id<g.id
   ·simp [h1,h2,h3,this]
   ·by_cases h4:g.id<f.id <;> simp [h1,h2,h3,h4,this]
theorem zM0 {n:Nat}{G:Nat→zS}(h:zOf (fun i=>(G i).id) n):zHd n G=zCw n G:=by
 unfold zHd zCw
 rw [decide_eq_decide]
 refine forall_congr' fun i=>forall_congr' fun hi=>?_
 have hne:(G i).id≠(G (i+1)).id:=fun e=>by have:=h i (i+1) (by omega) (by omega) e;omega
 unfold ltF
 simp
 constructor
 ·intro ⟨h1,h2⟩
  omega
 ·intro h1
  omega
theorem zM2 {n:Nat}{G:Nat→zS}(i:Nat)(hi:i+1<n)(h:ltF (G (i+1)) (G i)=true):zHd n G=false:=by
 unfold zHd
 rw [decide_eq_false]
 intro hc
 rw [hc i (by omega)] at h
 cases h
theorem zM1 {n:Nat}{G:Nat→zS}(i:Nat)(hi:i+1<n)(h:ltF (G i) (G (i+1))=false):zCw n G=false:=by
 unfold zCw
 rw [decide_eq_false]
 intro hc
 rw [hc i (by omega)] at h
 cases h
theorem zAt (f g:zS)(w:World):Calls Tryz.prog 217 #[.agg #[.int .i64 f.id,.int .i64 f.la,.int .i64 f.ki,.int .i64 f.wi,.slice f.a f.n f.cap,.string f.lab,.int .i64 f.pr],.agg #[.int .i64 g.id,.int .i64 g.la,.int .i64 g.ki,.int .i64 g.wi,.slice g.a g.n g.cap,.string g.lab,.int .i64 g.pr]] w fun e w'=>e=.returned (.int .i64 (cmpF f g))∧Bw w w' :=
 (zAf f g w).mono fun e w' ⟨he,hg⟩=>⟨he,hg.1⟩
theorem zBk (b n cap:Nat)(G:Nat→zS)(w:World)(hg:vS w b 0 n G)(hbl:b<w.heap.size)(hn:n≤1048576) :
  Calls Tryz.prog 216 #[.slice (some ⟨b,0,none⟩) n cap,.func (.func 217) #[] #[]] w fun e w'=>e=.returned (.bool (zHd n G))∧Bw w w':=by
 have HG:Hid (vS w b 0 n G):=hg
 clear hg
 by_cases h0:n=0
 ·subst h0
  have HV:Hid (zHd 0 G=true):=by show _=_;simp [zHd]
  go_enter Tryz.func216,Tryz.ntmps216
  go_wp2_with fail
  go_loopw [5] (fun i wr=>i=.int .i64 (-1)∧w=wr) (fun _ _=>0)
  case atStart=>exact ⟨rfl,rfl⟩
  case round =>
   obtain ⟨rfl,rfl⟩:=hrel
   go_wp2
   go_ret
   exact ⟨zF HV.out.symm,Below.refl _ _⟩
 ·obtain ⟨N,rfl⟩:∃ N,n=N+1:=⟨n - 1,by omega⟩
  have e0:IntKind.i64.wrap (((N+1:Nat):Int) - 1)=(N:Int):=by rw [show ((N+1:Nat):Int) - 1=(N:Int) by omega];exact IntWalk.i64_in _ (by omega)
  go_enter Tryz.func216,Tryz.ntmps216
  go_wp2_with fail
  go_loopw [5] (fun i wr=>∃ k:Nat,k≤N∧i=.int .i64 (k:Int)∧(∀ i,k≤i→i<N→ltF (G (i+1)) (G i)=false)∧Bw w wr) (fun i _=>(intOf i).toNat)
  case atStart=>exact ⟨N,by omega,by first | rfl | go_num | (simp;done),fun i h1 h2=>by omega,Below.refl _ _⟩
  case round =>
   obtain ⟨k,hk,rfl,hall,hB⟩:=hrel
   have HALL:Hid (∀ i,k≤i→i<N→ltF (G (i+1)) (G i)=false):=hall
   have HB:Hid (Bw w wr):=hB
   have hbr:b<wr.heap.size:=Nat.lt_of_lt_of_le hbl hB.size
   have hGr:vS wr b 0 (N+1) G:=HG.out.below hB hbl
   clear hall hB
   by_cases h1:k=0
   ·subst h1
    have HV:Hid (zHd (N+1) G=true):=by
     show _=_
     unfold zHd
     rw [decide_eq_true]
     exact fun i hi=>HALL.out i (by omega) (by omega)
    go_wp2
    go_ret
    exact ⟨zF HV.out.symm,HB.out⟩
   ·obtain ⟨M,rfl⟩:∃ M,k=M+1:=⟨k - 1,by omega⟩
    have e1:IntKind.i64.wrap (((M+1:Nat):Int) - 1)=(M:Int):=by rw [show ((M+1:Nat):Int) - 1=(M:Int) by omega];exact IntWalk.i64_in _ (by omega)
    have e2:(0:Int)<((M+1:Nat):Int):=by omega
    have e3:((M+1:Nat):Int)<((N+1:Nat):Int):=by omega
    have e4:(M:Int)<((N+1:Nat):Int):=by omega
    obtain ⟨P,hP⟩:∃ P,M+1=P:=⟨_,rfl⟩
    obtain ⟨T,hT⟩:∃ T,N+1=T:=⟨_,rfl⟩
    have fa:=hGr (M+1) (by omega)
    have fd:=hGr M (by omega)
    have HOI:Hid (ltF (G (M+1)) (G M)=true→zHd (N+1) G=false):=fun h=>zM2 M (by omega) h
    have HBR:Hid (Bw w wr):=HB.out
    have HKM:Hid (M+1=P):=hP
    have HKN:Hid (N+1=T):=hT
    rw [hP] at e1 e2 e3 fa HOI
    rw [hT] at e3 e4 HOI
    rw [hT]
    rw [hP]
    have kpos:0≤(P:Int):=by omega
    have mpos:0≤(M:Int):=by omega
    have ra:∀ W',Bw wr W'→vU W' b (0+P * 7) (G P).id (G P).la (G P).ki (G P).wi (.slice (G P).a (G P).n (G P).cap) (G P).lab (G P).pr:=fun W' h=>fa.1.below h hbr
    have rd:∀ W',Bw wr W'→vU W' b (0+M * 7) (G M).id (G M).la (G M).ki (G M).wi (.slice (G M).a (G M).n (G M).cap) (G M).lab (G M).pr:=fun W' h=>fd.1.below h hbr
    simp only [Nat.zero_add] at ra rd
    have a0:∀ W',Bw wr W'→W'.cell? ⟨b,P * 7,none⟩=some (.int .i64 (G P).id):=fun W' h=>(ra W' h).1
    have a1:∀ W',Bw wr W'→W'.cell? ⟨b,P * 7+1,none⟩=some (.int .i64 (G P).la):=fun W' h=>(ra W' h).2.1
    have a2:∀ W',Bw wr W'→W'.cell? ⟨b,P * 7+2,none⟩=some (.int .i64 (G P).ki):=fun W' h=>(ra W' h).2.2.1
    have a3:∀ W',Bw wr W'→W'.cell? ⟨b,P * 7+3,none⟩=some (.int .i64 (G P).wi):=fun W' h=>(ra W' h).2.2.2.1
    have a4:∀ W',Bw wr W'→W'.cell? ⟨b,P * 7+4,none⟩=some (.slice (G P).a (G P).n (G P).cap):=fun W' h=>(ra W' h).2.2.2.2.1
    have a5:∀ W',Bw wr W'→W'.cell? ⟨b,P * 7+5,none⟩=some (.string (G P).lab):=fun W' h=>(ra W' h).2.2.2.2.2.1
    have a6:∀ W',Bw wr W'→W'.cell? ⟨b,P * 7+6,none⟩=some (.int .i64 (G P).pr):=fun W' h=>(ra W' h).2.2.2.2.2.2
    have d0:∀ W',Bw wr W'→W'.cell? ⟨b,M * 7,none⟩=some (.int .i64 (G M).id):=fun W' h=>(rd W' h).1
    have d1:∀ W',Bw wr W'→W'.cell? ⟨b,M * 7+1,none⟩=some (.int .i64 (G M).la):=fun W' h=>(rd W' h).2.1
    have d2:∀ W',Bw wr W'→W'.cell? ⟨b,M * 7+2,none⟩=some (.int .i64 (G M).ki):=fun W' h=>(rd W' h).2.2.1
    have d3:∀ W',Bw wr W'→W'.cell? ⟨b,M * 7+3,none⟩=some (.int .i64 (G M).wi):=fun W' h=>(rd W' h).2.2.2.1
    have d4:∀ W',Bw wr W'→W'.cell? ⟨b,M * 7+4,none⟩=some (.slice (G M).a (G M).n (G M).cap):=fun W' h=>(rd W' h).2.2.2.2.1
    have d5:∀ W',Bw wr W'→W'.cell? ⟨b,M * 7+5,none⟩=some (.string (G M).lab):=fun W' h=>(rd W' h).2.2.2.2.2.1
    have d6:∀ W',Bw wr W'→W'.cell? ⟨b,M * 7+6,none⟩=some (.int .i64 (G M).pr):=fun W' h=>(rd W' h).2.2.2.2.2.2
    clear fa fd hGr hP hT ra rd HB
    obtain ⟨C,hC⟩:∃ C,cmpF (G P) (G M)=C:=⟨_,rfl⟩
    have HCM:Hid (∀ W,Calls Tryz.prog 217 #[.agg #[.int .i64 (G P).id,.int .i64 (G P).la,.int .i64 (G P).ki,.int .i64 (G P).wi,.slice (G P).a (G P).n (G P).cap,.string (G P).lab,.int .i64 (G P).pr],.agg #[.int .i64 (G M).id,.int .i64 (G M).la,.int .i64 (G M).ki,.int .i64 (G M).wi,.slice (G M).a (G M).n (G M).cap,.string (G M).lab,.int .i64 (G M).pr]] W fun e w'=>e=.returned (.int .i64 C)∧Bw W w'):=fun W=>by rw [← hC];exact zAt (G P) (G M) W
    have HCI:Hid (C<0 ↔ ltF (G P) (G M)=true):=by show _ ↔ _;rw [← hC];exact zNs _ _
    clear hC
    by_cases hneg:C<0
    ·have HOF:Hid (zHd T G=false):=HOI.out (HCI.out.1 hneg)
     go_wp2_with fail
     go_region_held3 (fun W'=>Bw wr W') ((repeat (first|exact Qr _ _|assumption|refine Qd ?_|refine Qa ?_ _|refine Qt ?_|refine Qs ?_ _|refine Qo ?_ ?_ _ _)))
      (first
       | (go_at_call 217;refine (HCM.out _).mono ?_;rintro e w8 ⟨rfl,hb8⟩))
     have HB8:Hid (Bw w w8):=zA HBR.out (by assumption)
     clear a0 a1 a2 a3 a4 a5 a6 d0 d1 d2 d3 d4 d5 d6
     go_wp2
     go_ret
     exact ⟨by have h:=HOF.out;rw [← HKN.out] at h;exact zF h.symm,HB8.out⟩
    ·have HOK:Hid (ltF (G P) (G M)=false):=by
      show _=_
      cases h:ltF (G P) (G M)
      ·rfl
      ·exact absurd (HCI.out.2 h) hneg
     go_wp2_with fail
     go_region_held3 (fun W'=>Bw wr W') ((repeat (first|exact Qr _ _|assumption|refine Qd ?_|refine Qa ?_ _|refine Qt ?_|refine Qs ?_ _|refine Qo ?_ ?_ _ _)))
      (first
       | (go_at_call 217;refine (HCM.out _).mono ?_;rintro e w8 ⟨rfl,hb8⟩))
     have HB8:Hid (Bw w w8):=zA HBR.out (by assumption)
     clear a0 a1 a2 a3 a4 a5 a6 d0 d1 d2 d3 d4 d5 d6
     go_wp2
     go_roundw
     case rel =>
      have h1:=HKM.out
      refine ⟨M,by omega,by first | rfl | go_num | (simp;done) | omega,fun i h2 h3=>?_,HB8.out⟩
      by_cases h4:i=M
      ·subst h4
       have:=HOK.out
       rw [← h1] at this
       exact this
      ·exact HALL.out i (by omega) h3
     case measure=>have h1:=HKM.out;simp [intOf];omega
theorem zC0 (b n cap:Nat)(G:Nat→zS)(w:World)(hg:vS w b 0 n G)(hbl:b<w.heap.size)(hn:n≤1048576) :
  Calls Tryz.prog 193 #[.slice (some ⟨b,0,none⟩) n cap] w fun e w'=>e=.returned (.bool (zHd n G))∧Bw w w':=by
 have HH:Hid (Calls Tryz.prog 216 #[.slice (some ⟨b,0,none⟩) n cap,.func (.func 217) #[] #[]] w fun e w'=>e=.returned (.bool (zHd n G))∧Bw w w'):=zBk b n cap G w hg hbl hn
 clear hg
 obtain ⟨c,hc⟩:∃ c,zHd n G=c:=⟨_,rfl⟩
 rw [hc] at HH
 rw [hc]
 clear hc
 go_enter Tryz.func193,Tryz.ntmps193
 go_wp2_with (go_at_call 216;refine Calls.mono HH.out ?_;rintro e w' ⟨rfl,hb⟩)
 go_ret
 exact ⟨rfl,by assumption⟩
theorem zD8 (b n cap:Nat)(G:Nat→zS)(w:World)(hg:vS w b 0 n G)(hbl:b<w.heap.size)(hn:n≤1048576) :
  Calls Tryz.prog 154 #[.slice (some ⟨b,0,none⟩) n cap] w fun e w'=>e=.returned (.bool (zCw n G))∧Bw w w':=by
 have HG:Hid (vS w b 0 n G):=hg
 clear hg
 go_enter Tryz.func154,Tryz.ntmps154
 go_wp2_with fail
 go_loopw [3] (fun i wr=>∃ k:Nat,(k+1≤n∨k=0)∧i=.int .i64 ((k:Int)+1)∧(∀ i,i<k→ltF (G i) (G (i+1))=true)∧Bw w wr) (fun i _=>n - (intOf i).toNat)
 case atStart=>exact ⟨0,.inr rfl,rfl,fun i h1=>by omega,Below.refl _ _⟩
 case round =>
  obtain ⟨M,hk,rfl,hall,hB⟩:=hrel
  have HALL:Hid (∀ i,i<M→ltF (G i) (G (i+1))=true):=hall
  have HB:Hid (Bw w wr):=hB
  have hbr:b<wr.heap.size:=Nat.lt_of_lt_of_le hbl hB.size
  have hGr:vS wr b 0 n G:=HG.out.below hB hbl
  clear hall hB
  obtain ⟨P,hP⟩:∃ P,M+1=P:=⟨_,rfl⟩
  have ePM:(M:Int)+1=(P:Int):=by omega
  have HKM:Hid (M+1=P):=hP
  rw [ePM]
  by_cases h1:M+1<n
  ·have fa:=hGr (M+1) h1
   have fd:=hGr M (by omega)
   have HOI:Hid (ltF (G M) (G (M+1))=false→zCw n G=false):=fun h=>zM1 M h1 h
   have e1:IntKind.i64.wrap ((P:Int) - 1)=(M:Int):=by rw [show (P:Int) - 1=(M:Int) by omega];exact IntWalk.i64_in _ (by omega)
   have e3:(P:Int)<(n:Int):=by omega
   have e4:(M:Int)<(n:Int):=by omega
   rw [hP] at fa HOI
   have kpos:0≤(P:Int):=by omega
   have mpos:0≤(M:Int):=by omega
   obtain ⟨⟨a0,a1,_,_,_,_,_⟩,_⟩:=fa
   obtain ⟨⟨d0,d1,_,_,_,_,_⟩,_⟩:=fd
   simp only [Nat.zero_add] at a0 a1 d0 d1
   obtain ⟨C,hC⟩:∃ C,ltF (G M) (G P)=C:=⟨_,rfl⟩
   have HCM:Hid (∀ W,Bw wr W→Calls Tryz.prog 190 #[.pointer (some ⟨b,M * 7,none⟩),.pointer (some ⟨b,P * 7,none⟩)] W fun e w'=>e=.returned (.bool C)∧Bw W w'):=fun W h=>by
    rw [← hC]
    exact zHm b (M * 7) b (P * 7) (G M) (G P) W (yI h d0) (yI h d1) (yI h a0) (yI h a1)
   rw [hC] at HOI
   have HC:Hid (ltF (G M) (G P)=C):=hC
   clear hC a0 a1 d0 d1 hGr hP
   cases C with
   | false =>
    have HOF:Hid (zCw n G=false):=HOI.out rfl
    go_wp2_with fail
    go_region_held3 (fun W'=>Bw wr W') ((repeat (first|exact Qr _ _|assumption|refine Qd ?_|refine Qa ?_ _|refine Qt ?_|refine Qs ?_ _|refine Qo ?_ ?_ _ _)))
     (first
      | (go_at_call 190;refine (HCM.out _ (by assumption)).mono ?_;rintro e w8 ⟨rfl,hb8⟩))
    have HB8:Hid (Bw w w8):=zA HB.out (by assumption)
    go_wp2
    go_ret
    exact ⟨zF HOF.out.symm,HB8.out⟩
   | true =>
    go_wp2_with fail
    go_region_held3 (fun W'=>Bw wr W') ((repeat (first|exact Qr _ _|assumption|refine Qd ?_|refine Qa ?_ _|refine Qt ?_|refine Qs ?_ _|refine Qo ?_ ?_ _ _)))
     (first
      | (go_at_call 190;refine (HCM.out _ (by assumption)).mono ?_;rintro e w8 ⟨rfl,hb8⟩))
    have HB8:Hid (Bw w w8):=zA HB.out (by assumption)
    go_wp2
    go_roundw
    case rel =>
     have h1:=HKM.out
     refine ⟨P,by omega,by first | rfl | go_num | (simp;done) | omega,fun i h2=>?_,HB8.out⟩
     by_cases h4:i=M
     ·subst h4
      have:=HC.out
      rw [← h1] at this
      exact this
     ·exact HALL.out i (by omega)
    case measure=>have h1:=HKM.out;simp [intOf];omega
  ·have HV:Hid (zCw n G=true):=by
    show _=_
    unfold zCw
    rw [decide_eq_true]
    exact fun i hi=>HALL.out i (by omega)
   have e3:¬ (P:Int)<(n:Int):=by omega
   go_wp2
   go_ret
   exact ⟨zF HV.out.symm,HB.out⟩
theorem vM (b n cap:Nat)(G:Nat→zS)(w:World)(hg:vS w b 0 n G)(hbl:b<w.heap.size)(hs:zU n G)(hcap:n≤cap) :
  Calls Tryz.prog 54 #[.slice (some ⟨b,0,none⟩) n cap] w fun e w'=>e=.returned (.int .i64 (zK n G))∧Bw w w':=by
 have HG:Hid (vS w b 0 n G):=hg
 have HS:Hid (zU n G):=hs
 have hn:=hs.1
 clear hg hs
 by_cases h12:(12:Int)<n
 ·have hz:Hid (zK n G=2):=by show _=_;unfold zK;rw [if_pos (by omega)]
  go_enter Tryz.func54,Tryz.ntmps54
  go_wp2
  go_ret
  exact ⟨zC hz.out.symm,Qb⟩
 ·have hz:Hid (zK n G=yE (zZ G) 0 n):=by show _=_;unfold zK;rw [if_neg (by omega)]
  go_enter Tryz.func54,Tryz.ntmps54
  go_wp2
  go_loopw [11] (fun v wr=>∃ k:Nat,k≤n∧v=.int .i64 k∧(∀ j,j<k→zZ G j=0)∧Bw w wr) (fun v _=>n - (intOf v).toNat)
  case atStart=>exact ⟨0,by omega,rfl,by omega,Below.refl _ _⟩
  case round =>
   obtain ⟨k,hk,rfl,hA,hB⟩:=hrel
   have HB:Hid (Bw w wr):=hB
   have HA:Hid (∀ j,j<k→zZ G j=0):=hA
   by_cases hlt:k<n
   ·have HGr:Hid (vS wr b 0 n G):=HG.out.below hB hbl
    have hblr:b<wr.heap.size:=Nat.lt_of_lt_of_le hbl hB.size
    obtain ⟨⟨f0,f1,f2,f3,f4,f5,f6⟩,hP⟩:=HGr.out k hlt
    simp only [Nat.zero_add] at f0 f1 f2 f3 f4 f5 f6
    have HP:Hid (xD wr (G k).a (G k).n (G k).X (G k).Y):=hP
    obtain ⟨z1,z2⟩:=HS.out.2 k hlt
    have HLT:Hid (k<n):=hlt
    clear hB hA hP
    have hi:(k:Int)<(n:Int):=by omega
    have hi0:(0:Int)≤(k:Int):=by omega
    go_wp2_with fail
    generalize hV:(wr.alloc _:World)=V
    have hBV:Bw wr V:=by subst hV;exact Qb
    have v0:∀ W',Bw V W'→W'.cell? ⟨wr.heap.size,0,none⟩=some (.int .i64 (G k).id):=Qc hV
    clear hV
    have HBV:Hid (Bw w V):=zA HB.out hBV
    have HGV:Hid (vS V b 0 n G):=HGr.out.below hBV hblr
    have hblV:b<V.heap.size:=Nat.lt_of_lt_of_le hblr hBV.size
    have HPV:Hid (xD V (G k).a (G k).n (G k).X (G k).Y):=HP.out.below hBV
    clear hBV f0 f1 f2 f3 f4 f5 f6 HP HGr
    refine (zBm _ _ _ _ _ _ _ (G k).X (G k).Y _ _ _ HPV.out z2 z1).mono ?_
    rintro e w1 ⟨rfl,hb1⟩
    by_cases hc:zH (G k).id (G k).la (G k).ki (G k).wi (G k).n (G k).X (G k).Y (G k).lab (G k).pr=0
    ·rw [hc]
     have HC:Hid (zH (G k).id (G k).la (G k).ki (G k).wi (G k).n (G k).X (G k).Y (G k).lab (G k).pr=0):=hc
     have HB1:Hid (Bw V w1):=hb1
     have hr1:Bw V w1:=hb1
     clear hc hb1
     have hk0:(k:Int)≤(n:Int):=by omega
     have hkc:(k:Int)≤(cap:Int):=by omega
     by_cases hx:∃ j,j<k∧(G j).id=(G k).id
     ·have HH:Hid (∀ W',Bw V W'→Calls Tryz.prog 98 #[.slice (some ⟨b,0,none⟩) k cap,.int .i64 (G k).id] W' fun e w'=>e=.returned (.bool true)∧Below W'.heap.size W' w'):=fun W' h=>by
       refine (zFv b k cap n G (G k).id W' (Nat.le_of_lt HLT.out) (HGV.out.below h hblV) (Nat.lt_of_lt_of_le hblV h.size) (by omega)).mono ?_
       rintro e w' ⟨⟨he,_⟩ | ⟨_,hno⟩,hb⟩
       ·exact ⟨he,hb⟩
       ·obtain ⟨j,hj,hje⟩:=hx
        exact absurd hje (hno j hj)
      have htk:Hid (zZ G k=6):=zBe HC.out hx
      have hsc:Hid (zK n G=6):=by
       show _=_
       rw [hz.out,zP (zZ G) n 0 k (fun j _ hj=>HA.out j hj) (by omega) (by have:=HLT.out;omega) (by rw [htk.out];decide),htk.out]
      clear hx
      go_wp2_with fail
      go_region_held3 (fun W'=>Bw V W') ((repeat (first|exact Qr _ _|assumption|refine Qd ?_|refine Qa ?_ _|refine Qt ?_|refine Qs ?_ _|refine Qo ?_ ?_ _ _)))
       (first | (go_at_call 98;refine (HH.out _ (by assumption)).mono ?_;rintro e w' ⟨rfl,hb⟩))
      go_wp2
      go_ret
      exact ⟨zC hsc.out.symm,zA HBV.out (by assumption)⟩
     ·have HH:Hid (∀ W',Bw V W'→Calls Tryz.prog 98 #[.slice (some ⟨b,0,none⟩) k cap,.int .i64 (G k).id] W' fun e w'=>e=.returned (.bool false)∧Below W'.heap.size W' w'):=fun W' h=>by
       refine (zFv b k cap n G (G k).id W' (Nat.le_of_lt HLT.out) (HGV.out.below h hblV) (Nat.lt_of_lt_of_le hblV h.size) (by omega)).mono ?_
       rintro e w' ⟨⟨_,hyes⟩ | ⟨he,_⟩,hb⟩
       ·exact absurd hyes hx
       ·exact ⟨he,hb⟩
      have HOK:Hid (zZ G k=0):=zF7 HC.out hx
      clear hx
      go_wp2_with fail
      go_region_held3 (fun W'=>Bw V W') ((repeat (first|exact Qr _ _|assumption|refine Qd ?_|refine Qa ?_ _|refine Qt ?_|refine Qs ?_ _|refine Qo ?_ ?_ _ _)))
       (first | (go_at_call 98;refine (HH.out _ (by assumption)).mono ?_;rintro e w' ⟨rfl,hb⟩))
      go_wp2
      go_roundw
      case rel=>exact ⟨k+1,by have:=HLT.out;omega,by go_num,fun j hj=>by
        by_cases e:j=k
        ·rw [e];exact HOK.out
        ·exact HA.out j (by omega),zA HBV.out (by assumption)⟩
      case measure=>have:=HLT.out;simp [intOf];omega
    ·have hsc:Hid (zK n G=zH (G k).id (G k).la (G k).ki (G k).wi (G k).n (G k).X (G k).Y (G k).lab (G k).pr):=by
      show _=_
      have h6:=zBf hc
      rw [hz.out,zP (zZ G) n 0 k (fun j _ hj=>HA.out j hj) (by omega) (by have:=HLT.out;omega) (by rw [h6];exact hc),h6]
     have hcb:(zH (G k).id (G k).la (G k).ki (G k).wi (G k).n (G k).X (G k).Y (G k).lab (G k).pr == 0)=false:=by simpa using hc
     have HB1:Hid (Bw w w1):=zA HBV.out hb1
     clear hc hb1
     go_wp2
     go_ret
     exact ⟨zC hsc.out.symm,HB1.out⟩
   ·have hsc:Hid (zK n G=0):=by
     show _=_
     rw [hz.out]
     exact yG _ _ _ (fun j _ hj=>HA.out j (by omega))
    go_wp2
    go_ret
    exact ⟨zC hsc.out.symm,HB.out⟩
theorem yD.small {w:World}{B b n:Nat}{F G:Nat→zS}(h:yD w B b n F G)(hs:zU n F):zU n G:=by
 refine ⟨hs.1,fun i hi=>?_⟩
 obtain ⟨⟨_,_,_,_,s5,_,_,s8,_⟩,_⟩:=h.2.2.2 i hi
 rw [s5,s8]
 exact hs.2 i hi
theorem yD.code {w:World}{B b n:Nat}{F G:Nat→zS}(h:yD w B b n F G):zK n G=zK n F:=zCc (fun j hj=>(h.2.2.2 j hj).1)




abbrev zKu (z x y:Int)(v:Value):Value:=.agg #[.int .i64 z,.int .i64 x,.int .i64 y,v]
theorem yD.midB {w w':World}{B C b n lo hi:Nat}{F G:Nat→zS}(h:yD w B b n F G)(hM:vC lo hi w w')(hh:hi≤B)(hC:C≤B):yD w' C b n F G:=by
 obtain ⟨h1,h2,h3,h4⟩:=h
 have hc:∀ (p o:Nat) (u:Value),B≤p→w.cell? ⟨p,o,none⟩=some u→w'.cell? ⟨p,o,none⟩=some u:=fun p o u hp e=>hM.cell e (.inr (by omega))
 refine ⟨by omega,Nat.lt_of_lt_of_le h2 hM.size,fun i hi=>?_,fun i hi=>?_⟩
 ·obtain ⟨⟨k0,k1,k2,k3,k4,k5,k6⟩,_⟩:=h3 i hi
  obtain ⟨_,q,ha,hcap,hq,hBq,hql,hp⟩:=h4 i hi
  refine ⟨⟨hc _ _ _ h1 k0,hc _ _ _ h1 k1,hc _ _ _ h1 k2,hc _ _ _ h1 k3,hc _ _ _ h1 k4,hc _ _ _ h1 k5,hc _ _ _ h1 k6⟩,?_⟩
  exact .inr ⟨q,0,ha,Nat.lt_of_lt_of_le hql hM.size,fun j hj=>⟨hc _ _ _ hBq (hp j hj).1,hc _ _ _ hBq (hp j hj).2⟩⟩
 ·obtain ⟨hs,q,ha,hcap,hq,hBq,hql,hp⟩:=h4 i hi
  exact ⟨hs,q,ha,hcap,hq,by omega,Nat.lt_of_lt_of_le hql hM.size,fun j hj=>⟨hc _ _ _ hBq (hp j hj).1,hc _ _ _ hBq (hp j hj).2⟩⟩
theorem zMu {W:World}{r:Nat}{a b c x0 x1 x2:Value}(h0:W.cell? ⟨r,0,none⟩=some x0)(h1:W.cell? ⟨r,1,none⟩=some x1)(h2:W.cell? ⟨r,2,none⟩=some x2) :
  (((W.setCell ⟨r,0,none⟩ a).setCell ⟨r,1,none⟩ b).setCell ⟨r,2,none⟩ c).cell? ⟨r,0,none⟩=some a ∧
  (((W.setCell ⟨r,0,none⟩ a).setCell ⟨r,1,none⟩ b).setCell ⟨r,2,none⟩ c).cell? ⟨r,1,none⟩=some b ∧
  (((W.setCell ⟨r,0,none⟩ a).setCell ⟨r,1,none⟩ b).setCell ⟨r,2,none⟩ c).cell? ⟨r,2,none⟩=some c:=by
 have ne:∀ i j:Nat,i≠j→(⟨r,i,none⟩:Addr)≠⟨r,j,none⟩:=fun i j hij h=>hij (by injection h)
 refine ⟨?_,?_,?_⟩
 ·rw [zB (ne 2 0 (by omega)),zB (ne 1 0 (by omega))];exact zG h0
 ·rw [zB (ne 2 1 (by omega))];exact zG (by rw [zB (ne 0 1 (by omega))];exact h1)
 ·exact zG (by rw [zB (ne 1 2 (by omega)),zB (ne 0 2 (by omega))];exact h2)
theorem zD.otherJ {W:World}{r r' n o:Nat}{v:Value}(h:zD W r n)(hr:r'≠r):zD (W.setCell ⟨r',o,none⟩ v) r n:=fun o' ho=>by
 obtain ⟨⟨u,hu⟩,hf⟩:=h o' ho
 exact ⟨⟨u,by rw [zB (fun e=>hr (by injection e))];exact hu⟩,by rw [World.frozen?_setCell];exact hf⟩
theorem resTT (T:Array Value)(Wf:World)(r:Nat)(v0 v1 v2 v3:Value)(hT:T[2]?.getD undef=.pointer (some ⟨r,0,none⟩))(h0:Wf.cell? ⟨r,0,none⟩=some v0)(h1:Wf.cell? ⟨r,1,none⟩=some v1)(h2:Wf.cell? ⟨r,2,none⟩=some v2)(h3:Wf.cell? ⟨r,3,none⟩=some v3) :
  (results Tryz.f160 T).run Tryz.prog Wf=.ok (.agg #[v0,v1,v2,v3]) Wf:=by
 simp [results,Tryz.results160,go_sem,hT,h0,h1,h2,h3]
theorem zIx (z x y:Int)(a:Option Addr)(n cap:Nat)(F:Nat→zS)(w:World)(hp:zDq w a n F)(hmax:n≤1048576)(hall:∀ i,i<n→(F i).n≤1048576) :
  Calls Tryz.prog 160 #[zKu z x y (.slice a n cap)] w fun e w'=>∃ b G,e=.returned (zKu z x y (.slice (some ⟨b,0,none⟩) n n))∧yD w' w.heap.size b n F G∧Bw w w':=by
 have HF:Hid (zDq w a n F):=hp
 have HA:Hid (∀ i,i<n→(F i).n≤1048576):=hall
 clear hp hall
 go_enter Tryz.func160,Tryz.ntmps160
 go_wp2_with fail
 generalize hW:(((w.alloc _).alloc _).alloc _:World)=W
 have hB0:Bw w W:=by subst hW;exact Qb
 have HT:Hid (zD W (w.heap.size+1) 4):=by
  show zD _ _ _
  subst hW
  have:=(zG1 (w.alloc (.cells #[.int .i64 z,.int .i64 x,.int .i64 y,.slice a n cap] 146)) (.int .i64 0) (.int .i64 0) (.int .i64 0) (.slice none 0 0) 151).below (xA (Below.refl _ _) (.cells #[.int .i64 0,.int .i64 0,.int .i64 0,.slice none 0 0] 151))
  simpa using this
 have HU:Hid (zD W (w.heap.size+1+1) 4):=by
  show zD _ _ _
  subst hW
  have:=zG1 ((w.alloc (.cells #[.int .i64 z,.int .i64 x,.int .i64 y,.slice a n cap] 146)).alloc (.cells #[.int .i64 0,.int .i64 0,.int .i64 0,.slice none 0 0] 151)) (.int .i64 0) (.int .i64 0) (.int .i64 0) (.slice none 0 0) 151
  simpa using this
 have c3:W.cell? ⟨w.heap.size,3,none⟩=some (.slice a n cap):=by subst hW;simp [go_sem]
 have hsz:w.heap.size+1+1<W.heap.size:=by subst hW;simp
 clear hW
 refine (zE2 _ _ _ _).mono ?_
 rintro e w1 ⟨rfl,hb1⟩
 have d3:w1.cell? ⟨w.heap.size,3,none⟩=some (.slice a n cap):=yI hb1 c3
 have HT1:Hid (zD w1 (w.heap.size+1) 4):=HT.out.below hb1
 have HU1:Hid (zD w1 (w.heap.size+1+1) 4):=HU.out.below hb1
 have hB1:Bw w w1:=zA hB0 hb1
 have hsz1:w.heap.size+1+1<w1.heap.size:=Nat.lt_of_lt_of_le hsz hb1.size
 clear c3 HT HU hB0 hb1 hsz
 have hT':=HU1.out
 have t0:=hT'.cell 0 (by omega)
 have t1:=hT'.cell 1 (by omega)
 have t2:=hT'.cell 2 (by omega)
 have t3:=hT'.cell 3 (by omega)
 have f0:=(hT' 0 (by omega)).2
 have f1:=(hT' 1 (by omega)).2
 have f2:=(hT' 2 (by omega)).2
 have f3:=(hT' 3 (by omega)).2
 clear hT'
 go_wp2_with fail
 generalize hW2:(((w1.setCell ⟨w.heap.size+1+1,0,none⟩ (.int .i64 z)).setCell ⟨w.heap.size+1+1,1,none⟩ (.int .i64 x)).setCell ⟨w.heap.size+1+1,2,none⟩ (.int .i64 y))=w2
 obtain ⟨g0,g1,g2⟩:w2.cell? ⟨w.heap.size+1+1,0,none⟩=some (.int .i64 z)∧w2.cell? ⟨w.heap.size+1+1,1,none⟩=some (.int .i64 x)∧w2.cell? ⟨w.heap.size+1+1,2,none⟩=some (.int .i64 y):=by
  rw [← hW2]
  exact zMu t0 t1 t2
 have HU2:Hid (zD w2 (w.heap.size+1+1) 4):=by
  show zD _ _ _
  rw [← hW2]
  exact ((HU1.out.set _ _).set _ _).set _ _
 have hM2:vC w.heap.size (w.heap.size+1+1+1) w1 w2:=by
  rw [← hW2]
  exact (((vC.refl _ _ _).set (by omega) (by omega) _ _).set (by omega) (by omega) _ _).set (by omega) (by omega) _ _
 have HT2:Hid (zD w2 (w.heap.size+1) 4):=by
  show zD _ _ _
  rw [← hW2]
  exact ((HT1.out.otherJ (by omega)).otherJ (by omega)).otherJ (by omega)
 have hB2:Bw w w2:=hB1.trans (hM2.below (by omega))
 have hsz2:w.heap.size+1+1<w2.heap.size:=Nat.lt_of_lt_of_le hsz1 hM2.size
 clear hW2 hM2 t0 t1 t2 t3 f0 f1 f2 f3 HU1 HT1 hB1 d3 hsz1
 refine (uO a n cap F _ (HF.out.below hB2) hmax HA.out).mono ?_
 rintro e w3 ⟨b,G,rfl,hO3,hb3⟩
 have k0:=yI hb3 g0
 have k1:=yI hb3 g1
 have k2:=yI hb3 g2
 have hT3:=HT2.out.below hb3
 have hU3:=HU2.out.below hb3
 have hz3:=(hU3 3 (by omega)).2
 obtain ⟨u3,k3⟩:=(hU3 3 (by omega)).1
 have HO3:Hid (yD w3 w2.heap.size b n F G):=hO3
 have hsz3:w.heap.size+1+1<w3.heap.size:=Nat.lt_of_lt_of_le hsz2 hb3.size
 have HB3:Hid (Bw w w3):=zA hB2 hb3
 have hne:∀ i j:Nat,i≠j→(⟨w.heap.size+1+1,i,none⟩:Addr)≠⟨w.heap.size+1+1,j,none⟩:=fun i j hij h=>hij (by injection h)
 have i0:(w3.setCell ⟨w.heap.size+1+1,3,none⟩ (.slice (some ⟨b,0,none⟩) n n)).cell? ⟨w.heap.size+1+1,0,none⟩=some (.int .i64 z):=by rw [zB (hne _ _ (by omega))];exact k0
 have i1:(w3.setCell ⟨w.heap.size+1+1,3,none⟩ (.slice (some ⟨b,0,none⟩) n n)).cell? ⟨w.heap.size+1+1,1,none⟩=some (.int .i64 x):=by rw [zB (hne _ _ (by omega))];exact k1
 have i2:(w3.setCell ⟨w.heap.size+1+1,3,none⟩ (.slice (some ⟨b,0,none⟩) n n)).cell? ⟨w.heap.size+1+1,2,none⟩=some (.int .i64 y):=by rw [zB (hne _ _ (by omega))];exact k2
 have i3:(w3.setCell ⟨w.heap.size+1+1,3,none⟩ (.slice (some ⟨b,0,none⟩) n n)).cell? ⟨w.heap.size+1+1,3,none⟩=some (.slice (some ⟨b,0,none⟩) n n):=zG k3
 have HT4:Hid (zD (w3.setCell ⟨w.heap.size+1+1,3,none⟩ (.slice (some ⟨b,0,none⟩) n n)) (w.heap.size+1) 4):=hT3.otherJ (by omega)
 have hT':=HT4.out
 have t0:=hT'.cell 0 (by omega)
 have t1:=hT'.cell 1 (by omega)
 have t2:=hT'.cell 2 (by omega)
 have t3:=hT'.cell 3 (by omega)
 have f0:=(hT' 0 (by omega)).2
 have f1:=(hT' 1 (by omega)).2
 have f2:=(hT' 2 (by omega)).2
 have f3:=(hT' 3 (by omega)).2
 clear hT' g0 g1 g2 HT2 HU2 hB2 hO3 hb3 hT3 hU3 hne k0 k1 k2 HF HA
 go_wp2_with fail
 refine bodyPost_ret (resTT _ _ _ _ _ _ _ rfl (uB HT4.out).1 (uB HT4.out).2.1 (uB HT4.out).2.2.1 (uB HT4.out).2.2.2) rfl ⟨b,G,rfl,?_,?_⟩
 ·exact HO3.out.midB (lo:=w.heap.size) (hi:=w.heap.size+1+1+1) (((((((vC.refl _ _ _).set (by omega) (by omega) _ _).set (by omega) (by omega) _ _).set (by omega) (by omega) _ _).set (by omega) (by omega) _ _).set (by omega) (by omega) _ _)) (by omega) (by omega)
 ·have HB:=HB3.out
  exact Qb
theorem zJ2 (z x y:Int)(b d n B C:Nat)(F G H:Nat→zS)(w:World)(hg:yD w B b n F G)(hh:yD w C d n F H)(hs:zU n F) :
  Calls Tryz.prog 176 #[zKu z x y (.slice (some ⟨b,0,none⟩) n n),zKu z x y (.slice (some ⟨d,0,none⟩) n n)] w fun e w'=>e=.returned (.bool true)∧Bw w w':=by
 have HG:Hid (yD w B b n F G):=hg
 have HH:Hid (yD w C d n F H):=hh
 have HS:Hid (zU n F):=hs
 clear hg hh hs
 go_enter Tryz.func176,Tryz.ntmps176
 go_wp2_with fail
 generalize hW:((w.alloc _).alloc _:World)=W
 have hB0:Bw w W:=by subst hW;exact Qb
 have c3:W.cell? ⟨w.heap.size,3,none⟩=some (.slice (some ⟨b,0,none⟩) n n):=by subst hW;simp [go_sem]
 have d3:W.cell? ⟨w.heap.size+1,3,none⟩=some (.slice (some ⟨d,0,none⟩) n n):=by subst hW;simp [go_sem]
 clear hW
 refine (zF0 _ _ _ _).mono ?_
 rintro e w1 ⟨rfl,hb1⟩
 have c3':=yI hb1 c3
 have d3':=yI hb1 d3
 have hB1:=zA hB0 hb1
 clear c3 d3 hb1 hB0
 go_wp2_with fail
 refine (uR b d n B C F G H _ (HG.out.below hB1) (HH.out.below hB1) HS.out).mono ?_
 rintro e w2 ⟨rfl,hb2⟩
 go_wp2
 go_ret
 exact ⟨rfl,Qb⟩
end Go.Proofs.YtkjbafcalamgnaaGreat
