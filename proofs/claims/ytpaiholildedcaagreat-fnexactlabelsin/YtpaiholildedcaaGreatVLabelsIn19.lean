/- Texts. -/
import Derived.Test.YtpaiholildedcaaGreatVLabelsIn18
import Derived.Deep.CutBlock
import Derived.Test.YtpaiholildedcaaGreatVLabelsIn2
set_option linter.unusedSimpArgs false
set_option linter.unusedVariables false
set_option maxRecDepth 100000
set_option maxHeartbeats 32000000
namespace Go.Proofs.YtpaiholildedcaaGreat
open Go.RowKit
def yO (f:zS):List Value:=[.int .i64 f.id,.int .i64 f.la,.int .i64 f.ki,.int .i64 f.wi,.slice f.a f.n f.cap,.string f.lab,.int .i64 f.pr]
theorem zA3 (f:zS):(yO f).length=7:=rfl
theorem uU (f:zS):∀ v ∈ yO f,v.oneCell'=true:=fun v hv=>by
 simp [yO] at hv
 rcases hv with rfl | rfl | rfl | rfl | rfl | rfl | rfl <;> rfl
def zR (H:Nat→zS)(l:List Nat):List Value:=l.flatMap fun j=>yO (H j)
theorem xV (H:Nat→zS)(j:Nat)(l:List Nat):zR H (j :: l)=yO (H j) ++ zR H l:=by simp [zR]
theorem xW (H:Nat→zS)(l m:List Nat):zR H (l ++ m)=zR H l ++ zR H m:=by simp [zR]
theorem zBc (H:Nat→zS)(j:Nat):zR H [j]=yO (H j):=by simp [zR]
theorem xU (H:Nat→zS):∀ l:List Nat,(zR H l).length=l.length * 7
 | []=>rfl
 | j :: l=>by rw [xV,List.length_append,xU H l,zA3,List.length_cons];omega
theorem zEx (H:Nat→zS)(l:List Nat):∀ v ∈ zR H l,v.oneCell'=true:=fun v hv=>by
 unfold zR at hv
 rw [List.mem_flatMap] at hv
 obtain ⟨j,_,hj⟩:=hv
 exact uU _ v hj
theorem zEy (H:Nat→zS):∀ (l:List Nat) (i k:Nat),i<l.length→k<7→(zR H l)[i * 7+k]?=(yO (H (l.getD i 0)))[k]?
 | [],i,k,h,_=>absurd h (by simp)
 | j :: l,0,k,h,hk=>by
  rw [xV,Nat.zero_mul,Nat.zero_add,List.getElem?_append_left (by rw [zA3];exact hk)]
  rfl
 | j :: l,i+1,k,h,hk=>by
  rw [xV,List.getElem?_append_right (by rw [zA3];omega),zA3]
  have e:(i+1) * 7+k - 7=i * 7+k:=by omega
  rw [e,zEy H l i k (by simpa using h) hk]
  rfl
def yG (base:Nat)(w:World)(v:Value)(H:Nat→zS)(l:List Nat):Prop:=w.ownsRow base 209 7 v l.length (zR H l)
theorem yG.at {base:Nat}{w:World}{v:Value}{H:Nat→zS}{l:List Nat}(h:yG base w v H l) :
  (v=.slice none 0 0∧l=[])∨∃ g cap,v=.slice (some ⟨g,0,none⟩) l.length cap∧base≤g∧g<w.heap.size∧l.length≤cap∧zD w g (l.length * 7) ∧
   ∀ i,i<l.length→yJ w g (i * 7) (H (l.getD i 0)).id (H (l.getD i 0)).la (H (l.getD i 0)).ki (H (l.getD i 0)).wi (.slice (H (l.getD i 0)).a (H (l.getD i 0)).n (H (l.getD i 0)).cap) (H (l.getD i 0)).lab (H (l.getD i 0)).pr:=by
 obtain ⟨h1,h2 | ⟨g,cp,cur,hv,hg,hh,hkc,hcm,hcs,htk⟩⟩:=h
 ·exact .inl ⟨h2.1,by have:=h2.2;cases l with
   | nil=>rfl
   | cons=>simp at this⟩
 ·right
  have hgl:g<w.heap.size:=yC hh
  have hrow:w.ownsRow base 209 7 (.slice (some ⟨g,0,none⟩) l.length cp) l.length (zR H l):=⟨h1,.inr ⟨g,cp,cur,rfl,hg,hh,hkc,hcm,hcs,htk⟩⟩
  refine ⟨g,cp,hv,hg,hgl,hkc,fun o ho=>⟨?_,hrow.frozenAt o⟩,fun i hi=>?_⟩
  ·rw [hrow.cellAt o ho]
   have hlt:o<(zR H l).length:=by rw [xU];exact ho
   exact ⟨(zR H l)[o],List.getElem?_eq_getElem hlt⟩
  ·have c:=fun k (hk:k<7)=>(hrow.cellAt (i * 7+k) (by omega)).trans (zEy H l i k hi hk)
   exact ⟨c 0 (by omega),c 1 (by omega),c 2 (by omega),c 3 (by omega),c 4 (by omega),c 5 (by omega),c 6 (by omega)⟩
theorem yG.below {base:Nat}{w w':World}{v:Value}{H:Nat→zS}{l:List Nat}(h:yG base w v H l)(hb:Below w.heap.size w w'):yG base w' v H l:=by
 obtain ⟨h1,h2 | ⟨g,cp,cur,hv,hg,hh,hr⟩⟩:=h
 ·exact ⟨h1,.inl h2⟩
 ·exact ⟨h1,.inr ⟨g,cp,cur,hv,hg,(hb.block g (yC hh)).trans hh,hr⟩⟩
theorem zCd {n:Nat}{G:Nat→zS}(h:zV n G=0):n≤12∧zE2 (fun i=>(G i).id) n∧∀ i,i<n→zI (G i).id (G i).la (G i).ki (G i).wi (G i).n (G i).X (G i).Y (G i).lab (G i).pr=0:=by
 unfold zV at h
 by_cases h12:12<n
 ·rw [if_pos h12] at h;cases h
 ·rw [if_neg h12] at h
  have hz:=zIi _ _ _ h
  have hA:∀ i,i<n→zI (G i).id (G i).la (G i).ki (G i).wi (G i).n (G i).X (G i).Y (G i).lab (G i).pr=0∧¬ ∃ j,j<i∧(G j).id=(G i).id:=fun i hi=>by
   have:=hz i (Nat.zero_le _) (by omega)
   unfold yF at this
   by_cases hf:zI (G i).id (G i).la (G i).ki (G i).wi (G i).n (G i).X (G i).Y (G i).lab (G i).pr≠0
   ·rw [if_pos hf] at this;exact absurd this hf
   ·rw [if_neg hf] at this
    by_cases hj:∃ j,j<i∧(G j).id=(G i).id
    ·rw [if_pos hj] at this;cases this
    ·exact ⟨by simpa using hf,hj⟩
  refine ⟨by omega,fun i j hi hj e=>?_,fun i hi=>(hA i hi).1⟩
  rcases Nat.lt_trichotomy i j with h | h | h
  ·exact absurd ⟨i,h,e⟩ (hA j hj).2
  ·exact h
  ·exact absurd ⟨j,h,e.symm⟩ (hA i hi).2
def orI (x y:Int):Int:=if x=0 then y else x
theorem zJt (b c:Nat)(x y:Int)(w:World)(h0:w.cell? ⟨b,0,none⟩=some (.int .i64 x))(h1:w.cell? ⟨b,1,none⟩=some (.int .i64 y)):Calls Tryz.prog 200 #[.slice (some ⟨b,0,none⟩) 2 c] w fun e w'=>e=.returned (.int .i64 (orI x y))∧w'=w:=by
 unfold orI
 by_cases hx:x=0
 ·subst hx
  by_cases hy:y=0
  ·subst hy
   go_enter Tryz.func200,Tryz.ntmps200
   go_wp2
   refine wp_loop_rounds 3 ?_
   rw [rounds_succ]
   go_wp2
   rw [rounds_succ]
   go_wp2
   rw [rounds_succ]
   go_wp2
   go_ret
   exact ⟨by simp,rfl⟩
  ·have hy':(y == 0)=false:=by simpa using hy
   go_enter Tryz.func200,Tryz.ntmps200
   go_wp2
   refine wp_loop_rounds 2 ?_
   rw [rounds_succ]
   go_wp2
   rw [rounds_succ]
   go_wp2
   go_ret
   exact ⟨by simp,rfl⟩
 ·have hx':(x == 0)=false:=by simpa using hx
  rw [if_neg hx]
  go_enter Tryz.func200,Tryz.ntmps200
  go_wp2
  refine wp_loop_rounds 1 ?_
  rw [rounds_succ]
  go_wp2
  go_ret
  exact ⟨rfl,rfl⟩
def cmpF (f g:zS):Int:=orI (zH3 f.la g.la) (zH3 f.id g.id)
theorem zBw (f g:zS)(w:World):Calls Tryz.prog 242 #[.agg (yO f).toArray,.agg (yO g).toArray] w fun e w'=>e=.returned (.int .i64 (cmpF f g))∧Gro w w':=by
 unfold cmpF
 generalize hA:zH3 f.la g.la=A
 generalize hB:zH3 f.id g.id=B
 have H1:Hid (∀ W,Calls Tryz.prog 201 #[.int .i64 f.la,.int .i64 g.la] W fun e w'=>e=.returned (.int .i64 A)∧w'=W):=fun W=>by subst hA;exact xZ _ _ _
 have H2:Hid (∀ W,Calls Tryz.prog 201 #[.int .i64 f.id,.int .i64 g.id] W fun e w'=>e=.returned (.int .i64 B)∧w'=W):=fun W=>by subst hB;exact xZ _ _ _
 clear hA hB
 unfold yO
 go_enter Tryz.func242,Tryz.ntmps242
 go_wp2_with fail
 generalize hV:((w.alloc _).alloc _:World)=V
 have hB0:Gro w V:=by subst hV;exact ((Gro.refl _).alloc _).alloc _
 have c0:∀ W',Gro V W'→W'.cell? ⟨w.heap.size,0,none⟩=some (.int .i64 f.id):=fun W' h=>by
  rw [h.1.cell (by subst hV;simp <;> omega)];subst hV;simp [go_sem]
 have c1:∀ W',Gro V W'→W'.cell? ⟨w.heap.size,1,none⟩=some (.int .i64 f.la):=fun W' h=>by
  rw [h.1.cell (by subst hV;simp <;> omega)];subst hV;simp [go_sem]
 have d0:∀ W',Gro V W'→W'.cell? ⟨w.heap.size+1,0,none⟩=some (.int .i64 g.id):=fun W' h=>by
  rw [h.1.cell (by subst hV;simp <;> omega)];subst hV;simp [go_sem]
 have d1:∀ W',Gro V W'→W'.cell? ⟨w.heap.size+1,1,none⟩=some (.int .i64 g.la):=fun W' h=>by
  rw [h.1.cell (by subst hV;simp <;> omega)];subst hV;simp [go_sem]
 clear hV
 refine wp_region_noPanic ?_
 refine wp_region_held_drew (S:=fun W'=>Gro V W') (by kernel_rfl) ((Gro.refl V).drew) (fun hHeld=>?_)
 have hBd:Gro V V.drew:=hHeld
 refine zC (i:=0) (d:=some 5) rfl rfl ?_
 try simp only [Act.put,Qx,Qy,Qz]
 refine zC (i:=1) (d:=some 6) rfl rfl ?_
 try simp only [Act.put,Qx,Qy,Qz]
 refine zC (i:=2) (d:=some 7) rfl rfl ?_
 try simp only [Act.put,Qx,Qy,Qz]
 refine zC (i:=3) (d:=some 8) rfl rfl ?_
 try simp only [Act.put,Qx,Qy,Qz]
 refine zC (i:=5) (d:=some 10) rfl rfl ?_
 try simp only [Act.put,Qx,Qy,Qz]
 refine zC (i:=6) (d:=some 11) rfl rfl ?_
 try simp only [Act.put,Qx,Qy,Qz]
 refine zC (i:=7) (d:=some 12) rfl rfl ?_
 try simp only [Act.put,Qx,Qy,Qz]
 refine zC (i:=8) (d:=some 13) rfl rfl ?_
 try simp only [Act.put,Qx,Qy,Qz]
 refine zN 4 fun K hK=>?_
 go_simp
 refine (H1.out _).mono ?_
 rintro e w4 ⟨rfl,rfl⟩
 go_wp2_with fail
 refine hK.out _ _ hBd (fun hHeld=>?_)
 clear hK K
 try simp only [Act.put,Qx,Qy,Qz]
 refine zN 9 fun K hK=>?_
 go_simp
 refine (H2.out _).mono ?_
 rintro e w9 ⟨rfl,rfl⟩
 go_wp2_with fail
 refine hK.out _ _ hBd (fun hHeld=>?_)
 clear hK K
 try simp only [Act.put,Qx,Qy,Qz]
 refine zN 10 fun K hK=>?_
 go_simp
 generalize hw9:(World.alloc _ _:World)=w9
 have hb9:Gro V w9:=by subst hw9;exact (Gro.refl _).alloc _
 have g0:w9.cell? ⟨V.heap.size,0,none⟩=some (.int .i64 A):=by subst hw9;simp [go_sem]
 have g1:w9.cell? ⟨V.heap.size,1,none⟩=some (.int .i64 B):=by subst hw9;simp [go_sem]
 have hB9:Gro V w9.drew:=hb9.drew
 replace g0:w9.drew.cell? ⟨V.heap.size,0,none⟩=some (.int .i64 A):=g0
 replace g1:w9.drew.cell? ⟨V.heap.size,1,none⟩=some (.int .i64 B):=g1
 clear hw9
 refine hK.out _ _ hB9 (fun hHeld=>?_)
 clear hK K
 try simp only [Act.put,Qx,Qy,Qz]
 refine zN 11 fun K hK=>?_
 go_simp
 refine (zJt _ _ A B _ g0 g1).mono ?_
 rintro e w11 ⟨rfl,rfl⟩
 go_wp2_with fail
 refine hK.out _ _ hB9 (fun hHeld=>?_)
 clear hK K
 try simp only [Act.put,Qx,Qy,Qz]
 refine zC (i:=12) (d:=some 4) rfl rfl ?_
 try simp only [Act.put,Qx,Qy,Qz]
 refine wpAnyH_done (by kernel_rfl) ?_ _
 refine NoPanic.normal ?_
 go_wp2_with fail
 go_ret
 exact ⟨rfl,hB0.trans hB9⟩
theorem addK (b o i:Nat):(⟨b,o,none⟩:Addr).add i=⟨b,o+i,none⟩:=by unfold Addr.add;split <;> simp_all
def ltF (f g:zS):Bool:=decide (f.la<g.la) || (decide (f.la=g.la) && decide (f.id<g.id))
theorem zK7 (p o p' o':Nat)(f g:zS)(w:World)(h0:w.cell? ⟨p,o,none⟩=some (.int .i64 f.id))(h1:w.cell? ⟨p,o+1,none⟩=some (.int .i64 f.la))(k0:w.cell? ⟨p',o',none⟩=some (.int .i64 g.id))(k1:w.cell? ⟨p',o'+1,none⟩=some (.int .i64 g.la)) :
  Calls Tryz.prog 221 #[.pointer (some ⟨p,o,none⟩),.pointer (some ⟨p',o',none⟩)] w fun e w'=>e=.returned (.bool (ltF f g))∧Bw w w':=by
 by_cases hx:f.la<g.la
 ·have HU:Hid (ltF f g=true):=by show _=_;simp [ltF,hx]
  go_enter Tryz.func221,Tryz.ntmps221
  go_wp2_with fail
  go_region
  go_wp2
  go_ret
  exact ⟨zF HU.out.symm,Qb⟩
 ·have hx':decide (f.la<g.la)=false:=by simpa using hx
  by_cases hy:f.la=g.la
  ·have hy':(f.la == g.la)=true:=by simpa using hy
   by_cases hz:f.id<g.id
   ·have HU:Hid (ltF f g=true):=by show _=_;simp [ltF,hy,hz]
    clear hy hx
    go_enter Tryz.func221,Tryz.ntmps221
    go_wp2_with fail
    go_region
    go_wp2
    go_ret
    exact ⟨zF HU.out.symm,Qb⟩
   ·have hz':decide (f.id<g.id)=false:=by simpa using hz
    have HU:Hid (ltF f g=false):=by show _=_;simp [ltF,hx];omega
    clear hy hx hz
    go_enter Tryz.func221,Tryz.ntmps221
    go_wp2_with fail
    go_region
    go_wp2
    go_ret
    exact ⟨zF HU.out.symm,Qb⟩
  ·have hy':(f.la == g.la)=false:=by simpa using hy
   have HU:Hid (ltF f g=false):=by show _=_;simp [ltF,hx,hy]
   clear hy hx
   go_enter Tryz.func221,Tryz.ntmps221
   go_wp2_with fail
   go_region
   go_wp2
   go_ret
   exact ⟨zF HU.out.symm,Qb⟩
def zKw (n:Nat)(G:Nat→zS):Bool:=decide (∀ i,i<n - 1→ltF (G (i+1)) (G i)=false)
def zFc (n:Nat)(G:Nat→zS):Bool:=decide (∀ i,i<n - 1→ltF (G i) (G (i+1))=true)
theorem zSq (f g:zS):cmpF f g<0 ↔ ltF f g=true:=by
 unfold cmpF orI zH3 ltF
 by_cases h1:f.la<g.la
 ·simp [h1]
 ·by_cases h2:g.la<f.la
  ·have:¬ f.la=g.la:=by omega
   simp [h1,h2,this]
  ·have:f.la=g.la:=by omega
   by_cases h3:f.id<g.id
   ·simp [h1,h2,h3,this]
   ·by_cases h4:g.id<f.id <;> simp [h1,h2,h3,h4,this]
theorem zRs {n:Nat}{G:Nat→zS}(h:zE2 (fun i=>(G i).id) n):zKw n G=zFc n G:=by
 unfold zKw zFc
 rw [decide_eq_decide]
 refine forall_congr' fun i=>forall_congr' fun hi=>?_
 have hne:(G i).id≠(G (i+1)).id:=fun e=>by have:=h i (i+1) (by omega) (by omega) e;omega
 unfold ltF
 simp
 constructor
 ·intro ⟨h1,h2⟩
  omega
 ·intro h1
  omega
theorem zRu {n:Nat}{G:Nat→zS}(i:Nat)(hi:i+1<n)(h:ltF (G (i+1)) (G i)=true):zKw n G=false:=by
 unfold zKw
 rw [decide_eq_false]
 intro hc
 rw [hc i (by omega)] at h
 cases h
theorem zRt {n:Nat}{G:Nat→zS}(i:Nat)(hi:i+1<n)(h:ltF (G i) (G (i+1))=false):zFc n G=false:=by
 unfold zFc
 rw [decide_eq_false]
 intro hc
 rw [hc i (by omega)] at h
 cases h
theorem zCf (f g:zS)(w:World):Calls Tryz.prog 242 #[.agg #[.int .i64 f.id,.int .i64 f.la,.int .i64 f.ki,.int .i64 f.wi,.slice f.a f.n f.cap,.string f.lab,.int .i64 f.pr],.agg #[.int .i64 g.id,.int .i64 g.la,.int .i64 g.ki,.int .i64 g.wi,.slice g.a g.n g.cap,.string g.lab,.int .i64 g.pr]] w fun e w'=>e=.returned (.int .i64 (cmpF f g))∧Bw w w' :=
 (zBw f g w).mono fun e w' ⟨he,hg⟩=>⟨he,hg.1⟩
theorem zDa (b n cap:Nat)(G:Nat→zS)(w:World)(hg:vY w b 0 n G)(hbl:b<w.heap.size)(hn:n≤1048576) :
  Calls Tryz.prog 241 #[.slice (some ⟨b,0,none⟩) n cap,.func (.func 242) #[] #[]] w fun e w'=>e=.returned (.bool (zKw n G))∧Bw w w':=by
 have HG:Hid (vY w b 0 n G):=hg
 clear hg
 by_cases h0:n=0
 ·subst h0
  have HV:Hid (zKw 0 G=true):=by show _=_;simp [zKw]
  go_enter Tryz.func241,Tryz.ntmps241
  go_wp2_with fail
  go_loopw [5] (fun i wr=>i=.int .i64 (-1)∧w=wr) (fun _ _=>0)
  case atStart=>exact ⟨rfl,rfl⟩
  case round =>
   obtain ⟨rfl,rfl⟩:=hrel
   go_wp2
   go_ret
   exact ⟨zF HV.out.symm,Below.refl _ _⟩
 ·obtain ⟨N,rfl⟩:∃ N,n=N+1:=⟨n - 1,by omega⟩
  have e0:IntKind.i64.wrap (((N+1:Nat):Int) - 1)=(N:Int):=by rw [show ((N+1:Nat):Int) - 1=(N:Int) by omega];exact IntWalk.i64_in _ (by omega)
  go_enter Tryz.func241,Tryz.ntmps241
  go_wp2_with fail
  go_loopw [5] (fun i wr=>∃ k:Nat,k≤N∧i=.int .i64 (k:Int)∧(∀ i,k≤i→i<N→ltF (G (i+1)) (G i)=false)∧Bw w wr) (fun i _=>(intOf i).toNat)
  case atStart=>exact ⟨N,by omega,by first | rfl | go_num | (simp;done),fun i h1 h2=>by omega,Below.refl _ _⟩
  case round =>
   obtain ⟨k,hk,rfl,hall,hB⟩:=hrel
   have HALL:Hid (∀ i,k≤i→i<N→ltF (G (i+1)) (G i)=false):=hall
   have HB:Hid (Bw w wr):=hB
   have hbr:b<wr.heap.size:=Nat.lt_of_lt_of_le hbl hB.size
   have hGr:vY wr b 0 (N+1) G:=HG.out.below hB hbl
   clear hall hB
   by_cases h1:k=0
   ·subst h1
    have HV:Hid (zKw (N+1) G=true):=by
     show _=_
     unfold zKw
     rw [decide_eq_true]
     exact fun i hi=>HALL.out i (by omega) (by omega)
    go_wp2
    go_ret
    exact ⟨zF HV.out.symm,HB.out⟩
   ·obtain ⟨M,rfl⟩:∃ M,k=M+1:=⟨k - 1,by omega⟩
    have e1:IntKind.i64.wrap (((M+1:Nat):Int) - 1)=(M:Int):=by rw [show ((M+1:Nat):Int) - 1=(M:Int) by omega];exact IntWalk.i64_in _ (by omega)
    have e2:(0:Int)<((M+1:Nat):Int):=by omega
    have e3:((M+1:Nat):Int)<((N+1:Nat):Int):=by omega
    have e4:(M:Int)<((N+1:Nat):Int):=by omega
    obtain ⟨P,hP⟩:∃ P,M+1=P:=⟨_,rfl⟩
    obtain ⟨T,hT⟩:∃ T,N+1=T:=⟨_,rfl⟩
    have fa:=hGr (M+1) (by omega)
    have fd:=hGr M (by omega)
    have HOI:Hid (ltF (G (M+1)) (G M)=true→zKw (N+1) G=false):=fun h=>zRu M (by omega) h
    have HBR:Hid (Bw w wr):=HB.out
    have HKM:Hid (M+1=P):=hP
    have HKN:Hid (N+1=T):=hT
    rw [hP] at e1 e2 e3 fa HOI
    rw [hT] at e3 e4 HOI
    rw [hT]
    rw [hP]
    have kpos:0≤(P:Int):=by omega
    have mpos:0≤(M:Int):=by omega
    have ra:∀ W',Bw wr W'→yJ W' b (0+P * 7) (G P).id (G P).la (G P).ki (G P).wi (.slice (G P).a (G P).n (G P).cap) (G P).lab (G P).pr:=fun W' h=>fa.1.below h hbr
    have rd:∀ W',Bw wr W'→yJ W' b (0+M * 7) (G M).id (G M).la (G M).ki (G M).wi (.slice (G M).a (G M).n (G M).cap) (G M).lab (G M).pr:=fun W' h=>fd.1.below h hbr
    simp only [Nat.zero_add] at ra rd
    have a0:∀ W',Bw wr W'→W'.cell? ⟨b,P * 7,none⟩=some (.int .i64 (G P).id):=fun W' h=>(ra W' h).1
    have a1:∀ W',Bw wr W'→W'.cell? ⟨b,P * 7+1,none⟩=some (.int .i64 (G P).la):=fun W' h=>(ra W' h).2.1
    have a2:∀ W',Bw wr W'→W'.cell? ⟨b,P * 7+2,none⟩=some (.int .i64 (G P).ki):=fun W' h=>(ra W' h).2.2.1
    have a3:∀ W',Bw wr W'→W'.cell? ⟨b,P * 7+3,none⟩=some (.int .i64 (G P).wi):=fun W' h=>(ra W' h).2.2.2.1
    have a4:∀ W',Bw wr W'→W'.cell? ⟨b,P * 7+4,none⟩=some (.slice (G P).a (G P).n (G P).cap):=fun W' h=>(ra W' h).2.2.2.2.1
    have a5:∀ W',Bw wr W'→W'.cell? ⟨b,P * 7+5,none⟩=some (.string (G P).lab):=fun W' h=>(ra W' h).2.2.2.2.2.1
    have a6:∀ W',Bw wr W'→W'.cell? ⟨b,P * 7+6,none⟩=some (.int .i64 (G P).pr):=fun W' h=>(ra W' h).2.2.2.2.2.2
    have d0:∀ W',Bw wr W'→W'.cell? ⟨b,M * 7,none⟩=some (.int .i64 (G M).id):=fun W' h=>(rd W' h).1
    have d1:∀ W',Bw wr W'→W'.cell? ⟨b,M * 7+1,none⟩=some (.int .i64 (G M).la):=fun W' h=>(rd W' h).2.1
    have d2:∀ W',Bw wr W'→W'.cell? ⟨b,M * 7+2,none⟩=some (.int .i64 (G M).ki):=fun W' h=>(rd W' h).2.2.1
    have d3:∀ W',Bw wr W'→W'.cell? ⟨b,M * 7+3,none⟩=some (.int .i64 (G M).wi):=fun W' h=>(rd W' h).2.2.2.1
    have d4:∀ W',Bw wr W'→W'.cell? ⟨b,M * 7+4,none⟩=some (.slice (G M).a (G M).n (G M).cap):=fun W' h=>(rd W' h).2.2.2.2.1
    have d5:∀ W',Bw wr W'→W'.cell? ⟨b,M * 7+5,none⟩=some (.string (G M).lab):=fun W' h=>(rd W' h).2.2.2.2.2.1
    have d6:∀ W',Bw wr W'→W'.cell? ⟨b,M * 7+6,none⟩=some (.int .i64 (G M).pr):=fun W' h=>(rd W' h).2.2.2.2.2.2
    clear fa fd hGr hP hT ra rd HB
    obtain ⟨C,hC⟩:∃ C,cmpF (G P) (G M)=C:=⟨_,rfl⟩
    have HCM:Hid (∀ W,Calls Tryz.prog 242 #[.agg #[.int .i64 (G P).id,.int .i64 (G P).la,.int .i64 (G P).ki,.int .i64 (G P).wi,.slice (G P).a (G P).n (G P).cap,.string (G P).lab,.int .i64 (G P).pr],.agg #[.int .i64 (G M).id,.int .i64 (G M).la,.int .i64 (G M).ki,.int .i64 (G M).wi,.slice (G M).a (G M).n (G M).cap,.string (G M).lab,.int .i64 (G M).pr]] W fun e w'=>e=.returned (.int .i64 C)∧Bw W w'):=fun W=>by rw [← hC];exact zCf (G P) (G M) W
    have HCI:Hid (C<0 ↔ ltF (G P) (G M)=true):=by show _ ↔ _;rw [← hC];exact zSq _ _
    clear hC
    by_cases hneg:C<0
    ·have HOF:Hid (zKw T G=false):=HOI.out (HCI.out.1 hneg)
     go_wp2_with fail
     go_region_held3 (fun W'=>Bw wr W') ((repeat (first|exact Qr _ _|assumption|refine Qd ?_|refine Qa ?_ _|refine Qt ?_|refine Qs ?_ _|refine Qo ?_ ?_ _ _)))
      (first
       | (go_at_call 242;refine (HCM.out _).mono ?_;rintro e w8 ⟨rfl,hb8⟩))
     have HB8:Hid (Bw w w8):=zA HBR.out (by assumption)
     clear a0 a1 a2 a3 a4 a5 a6 d0 d1 d2 d3 d4 d5 d6
     go_wp2
     go_ret
     exact ⟨by have h:=HOF.out;rw [← HKN.out] at h;exact zF h.symm,HB8.out⟩
    ·have HOK:Hid (ltF (G P) (G M)=false):=by
      show _=_
      cases h:ltF (G P) (G M)
      ·rfl
      ·exact absurd (HCI.out.2 h) hneg
     go_wp2_with fail
     go_region_held3 (fun W'=>Bw wr W') ((repeat (first|exact Qr _ _|assumption|refine Qd ?_|refine Qa ?_ _|refine Qt ?_|refine Qs ?_ _|refine Qo ?_ ?_ _ _)))
      (first
       | (go_at_call 242;refine (HCM.out _).mono ?_;rintro e w8 ⟨rfl,hb8⟩))
     have HB8:Hid (Bw w w8):=zA HBR.out (by assumption)
     clear a0 a1 a2 a3 a4 a5 a6 d0 d1 d2 d3 d4 d5 d6
     go_wp2
     go_roundw
     case rel =>
      have h1:=HKM.out
      refine ⟨M,by omega,by first | rfl | go_num | (simp;done) | omega,fun i h2 h3=>?_,HB8.out⟩
      by_cases h4:i=M
      ·subst h4
       have:=HOK.out
       rw [← h1] at this
       exact this
      ·exact HALL.out i (by omega) h3
     case measure=>have h1:=HKM.out;simp [intOf];omega
theorem zFr (b n cap:Nat)(G:Nat→zS)(w:World)(hg:vY w b 0 n G)(hbl:b<w.heap.size)(hn:n≤1048576) :
  Calls Tryz.prog 207 #[.slice (some ⟨b,0,none⟩) n cap] w fun e w'=>e=.returned (.bool (zKw n G))∧Bw w w':=by
 have HH:Hid (Calls Tryz.prog 241 #[.slice (some ⟨b,0,none⟩) n cap,.func (.func 242) #[] #[]] w fun e w'=>e=.returned (.bool (zKw n G))∧Bw w w'):=zDa b n cap G w hg hbl hn
 clear hg
 obtain ⟨c,hc⟩:∃ c,zKw n G=c:=⟨_,rfl⟩
 rw [hc] at HH
 rw [hc]
 clear hc
 go_enter Tryz.func207,Tryz.ntmps207
 go_wp2_with (go_at_call 241;refine Calls.mono HH.out ?_;rintro e w' ⟨rfl,hb⟩)
 go_ret
 exact ⟨rfl,by assumption⟩
theorem zG9 (b n cap:Nat)(G:Nat→zS)(w:World)(hg:vY w b 0 n G)(hbl:b<w.heap.size)(hn:n≤1048576) :
  Calls Tryz.prog 186 #[.slice (some ⟨b,0,none⟩) n cap] w fun e w'=>e=.returned (.bool (zFc n G))∧Bw w w':=by
 have HG:Hid (vY w b 0 n G):=hg
 clear hg
 go_enter Tryz.func186,Tryz.ntmps186
 go_wp2_with fail
 go_loopw [3] (fun i wr=>∃ k:Nat,(k+1≤n∨k=0)∧i=.int .i64 ((k:Int)+1)∧(∀ i,i<k→ltF (G i) (G (i+1))=true)∧Bw w wr) (fun i _=>n - (intOf i).toNat)
 case atStart=>exact ⟨0,.inr rfl,rfl,fun i h1=>by omega,Below.refl _ _⟩
 case round =>
  obtain ⟨M,hk,rfl,hall,hB⟩:=hrel
  have HALL:Hid (∀ i,i<M→ltF (G i) (G (i+1))=true):=hall
  have HB:Hid (Bw w wr):=hB
  have hbr:b<wr.heap.size:=Nat.lt_of_lt_of_le hbl hB.size
  have hGr:vY wr b 0 n G:=HG.out.below hB hbl
  clear hall hB
  obtain ⟨P,hP⟩:∃ P,M+1=P:=⟨_,rfl⟩
  have ePM:(M:Int)+1=(P:Int):=by omega
  have HKM:Hid (M+1=P):=hP
  rw [ePM]
  by_cases h1:M+1<n
  ·have fa:=hGr (M+1) h1
   have fd:=hGr M (by omega)
   have HOI:Hid (ltF (G M) (G (M+1))=false→zFc n G=false):=fun h=>zRt M h1 h
   have e1:IntKind.i64.wrap ((P:Int) - 1)=(M:Int):=by rw [show (P:Int) - 1=(M:Int) by omega];exact IntWalk.i64_in _ (by omega)
   have e3:(P:Int)<(n:Int):=by omega
   have e4:(M:Int)<(n:Int):=by omega
   rw [hP] at fa HOI
   have kpos:0≤(P:Int):=by omega
   have mpos:0≤(M:Int):=by omega
   obtain ⟨⟨a0,a1,_,_,_,_,_⟩,_⟩:=fa
   obtain ⟨⟨d0,d1,_,_,_,_,_⟩,_⟩:=fd
   simp only [Nat.zero_add] at a0 a1 d0 d1
   obtain ⟨C,hC⟩:∃ C,ltF (G M) (G P)=C:=⟨_,rfl⟩
   have HCM:Hid (∀ W,Bw wr W→Calls Tryz.prog 221 #[.pointer (some ⟨b,M * 7,none⟩),.pointer (some ⟨b,P * 7,none⟩)] W fun e w'=>e=.returned (.bool C)∧Bw W w'):=fun W h=>by
    rw [← hC]
    exact zK7 b (M * 7) b (P * 7) (G M) (G P) W (zH h d0) (zH h d1) (zH h a0) (zH h a1)
   rw [hC] at HOI
   have HC:Hid (ltF (G M) (G P)=C):=hC
   clear hC a0 a1 d0 d1 hGr hP
   cases C with
   | false =>
    have HOF:Hid (zFc n G=false):=HOI.out rfl
    go_wp2_with fail
    go_region_held3 (fun W'=>Bw wr W') ((repeat (first|exact Qr _ _|assumption|refine Qd ?_|refine Qa ?_ _|refine Qt ?_|refine Qs ?_ _|refine Qo ?_ ?_ _ _)))
     (first
      | (go_at_call 221;refine (HCM.out _ (by assumption)).mono ?_;rintro e w8 ⟨rfl,hb8⟩))
    have HB8:Hid (Bw w w8):=zA HB.out (by assumption)
    go_wp2
    go_ret
    exact ⟨zF HOF.out.symm,HB8.out⟩
   | true =>
    go_wp2_with fail
    go_region_held3 (fun W'=>Bw wr W') ((repeat (first|exact Qr _ _|assumption|refine Qd ?_|refine Qa ?_ _|refine Qt ?_|refine Qs ?_ _|refine Qo ?_ ?_ _ _)))
     (first
      | (go_at_call 221;refine (HCM.out _ (by assumption)).mono ?_;rintro e w8 ⟨rfl,hb8⟩))
    have HB8:Hid (Bw w w8):=zA HB.out (by assumption)
    go_wp2
    go_roundw
    case rel =>
     have h1:=HKM.out
     refine ⟨P,by omega,by first | rfl | go_num | (simp;done) | omega,fun i h2=>?_,HB8.out⟩
     by_cases h4:i=M
     ·subst h4
      have:=HC.out
      rw [← h1] at this
      exact this
     ·exact HALL.out i (by omega)
    case measure=>have h1:=HKM.out;simp [intOf];omega
  ·have HV:Hid (zFc n G=true):=by
    show _=_
    unfold zFc
    rw [decide_eq_true]
    exact fun i hi=>HALL.out i (by omega)
   have e3:¬ (P:Int)<(n:Int):=by omega
   go_wp2
   go_ret
   exact ⟨zF HV.out.symm,HB.out⟩
theorem zCz (b n cap:Nat)(G:Nat→zS)(w:World)(hg:vY w b 0 n G)(hbl:b<w.heap.size)(hs:yU n G)(hcap:n≤cap) :
  Calls Tryz.prog 206 #[.slice (some ⟨b,0,none⟩) n cap] w fun e w'=>e=.returned (.int .i64 (zV n G))∧Bw w w':=by
 have HG:Hid (vY w b 0 n G):=hg
 have HS:Hid (yU n G):=hs
 have hn:=hs.1
 clear hg hs
 by_cases h12:(12:Int)<n
 ·have hz:Hid (zV n G=2):=by show _=_;unfold zV;rw [if_pos (by omega)]
  go_enter Tryz.func206,Tryz.ntmps206
  go_wp2
  go_ret
  exact ⟨zE hz.out.symm,Qb⟩
 ·have hz:Hid (zV n G=yR (yF G) 0 n):=by show _=_;unfold zV;rw [if_neg (by omega)]
  go_enter Tryz.func206,Tryz.ntmps206
  go_wp2
  go_loopw [11] (fun v wr=>∃ k:Nat,k≤n∧v=.int .i64 k∧(∀ j,j<k→yF G j=0)∧Bw w wr) (fun v _=>n - (intOf v).toNat)
  case atStart=>exact ⟨0,by omega,rfl,by omega,Below.refl _ _⟩
  case round =>
   obtain ⟨k,hk,rfl,hA,hB⟩:=hrel
   have HB:Hid (Bw w wr):=hB
   have HA:Hid (∀ j,j<k→yF G j=0):=hA
   by_cases hlt:k<n
   ·have HGr:Hid (vY wr b 0 n G):=HG.out.below hB hbl
    have hblr:b<wr.heap.size:=Nat.lt_of_lt_of_le hbl hB.size
    obtain ⟨⟨f0,f1,f2,f3,f4,f5,f6⟩,hP⟩:=HGr.out k hlt
    simp only [Nat.zero_add] at f0 f1 f2 f3 f4 f5 f6
    have HP:Hid (xY wr (G k).a (G k).n (G k).X (G k).Y):=hP
    obtain ⟨z1,z2⟩:=HS.out.2 k hlt
    have HLT:Hid (k<n):=hlt
    clear hB hA hP
    have hi:(k:Int)<(n:Int):=by omega
    have hi0:(0:Int)≤(k:Int):=by omega
    go_wp2_with fail
    generalize hV:(wr.alloc _:World)=V
    have hBV:Bw wr V:=by subst hV;exact Qb
    have v0:∀ W',Bw V W'→W'.cell? ⟨wr.heap.size,0,none⟩=some (.int .i64 (G k).id):=Qc hV
    clear hV
    have HBV:Hid (Bw w V):=zA HB.out hBV
    have HGV:Hid (vY V b 0 n G):=HGr.out.below hBV hblr
    have hblV:b<V.heap.size:=Nat.lt_of_lt_of_le hblr hBV.size
    have HPV:Hid (xY V (G k).a (G k).n (G k).X (G k).Y):=HP.out.below hBV
    clear hBV f0 f1 f2 f3 f4 f5 f6 HP HGr
    refine (zDd _ _ _ _ _ _ _ (G k).X (G k).Y _ _ _ HPV.out z2 z1).mono ?_
    rintro e w1 ⟨rfl,hb1⟩
    by_cases hc:zI (G k).id (G k).la (G k).ki (G k).wi (G k).n (G k).X (G k).Y (G k).lab (G k).pr=0
    ·rw [hc]
     have HC:Hid (zI (G k).id (G k).la (G k).ki (G k).wi (G k).n (G k).X (G k).Y (G k).lab (G k).pr=0):=hc
     have HB1:Hid (Bw V w1):=hb1
     have hr1:Bw V w1:=hb1
     clear hc hb1
     have hk0:(k:Int)≤(n:Int):=by omega
     have hkc:(k:Int)≤(cap:Int):=by omega
     by_cases hx:∃ j,j<k∧(G j).id=(G k).id
     ·have HH:Hid (∀ W',Bw V W'→Calls Tryz.prog 161 #[.slice (some ⟨b,0,none⟩) k cap,.int .i64 (G k).id] W' fun e w'=>e=.returned (.bool true)∧Below W'.heap.size W' w'):=fun W' h=>by
       refine (zEo b k cap n G (G k).id W' (Nat.le_of_lt HLT.out) (HGV.out.below h hblV) (Nat.lt_of_lt_of_le hblV h.size) (by omega)).mono ?_
       rintro e w' ⟨⟨he,_⟩ | ⟨_,hno⟩,hb⟩
       ·exact ⟨he,hb⟩
       ·obtain ⟨j,hj,hje⟩:=hx
        exact absurd hje (hno j hj)
      have htk:Hid (yF G k=6):=zC4 HC.out hx
      have hsc:Hid (zV n G=6):=by
       show _=_
       rw [hz.out,zU (yF G) n 0 k (fun j _ hj=>HA.out j hj) (by omega) (by have:=HLT.out;omega) (by rw [htk.out];decide),htk.out]
      clear hx
      go_wp2_with fail
      go_region_held3 (fun W'=>Bw V W') ((repeat (first|exact Qr _ _|assumption|refine Qd ?_|refine Qa ?_ _|refine Qt ?_|refine Qs ?_ _|refine Qo ?_ ?_ _ _)))
       (first | (go_at_call 161;refine (HH.out _ (by assumption)).mono ?_;rintro e w' ⟨rfl,hb⟩))
      go_wp2
      go_ret
      exact ⟨zE hsc.out.symm,zA HBV.out (by assumption)⟩
     ·have HH:Hid (∀ W',Bw V W'→Calls Tryz.prog 161 #[.slice (some ⟨b,0,none⟩) k cap,.int .i64 (G k).id] W' fun e w'=>e=.returned (.bool false)∧Below W'.heap.size W' w'):=fun W' h=>by
       refine (zEo b k cap n G (G k).id W' (Nat.le_of_lt HLT.out) (HGV.out.below h hblV) (Nat.lt_of_lt_of_le hblV h.size) (by omega)).mono ?_
       rintro e w' ⟨⟨_,hyes⟩ | ⟨he,_⟩,hb⟩
       ·exact absurd hyes hx
       ·exact ⟨he,hb⟩
      have HOK:Hid (yF G k=0):=zJs HC.out hx
      clear hx
      go_wp2_with fail
      go_region_held3 (fun W'=>Bw V W') ((repeat (first|exact Qr _ _|assumption|refine Qd ?_|refine Qa ?_ _|refine Qt ?_|refine Qs ?_ _|refine Qo ?_ ?_ _ _)))
       (first | (go_at_call 161;refine (HH.out _ (by assumption)).mono ?_;rintro e w' ⟨rfl,hb⟩))
      go_wp2
      go_roundw
      case rel=>exact ⟨k+1,by have:=HLT.out;omega,by go_num,fun j hj=>by
        by_cases e:j=k
        ·rw [e];exact HOK.out
        ·exact HA.out j (by omega),zA HBV.out (by assumption)⟩
      case measure=>have:=HLT.out;simp [intOf];omega
    ·have hsc:Hid (zV n G=zI (G k).id (G k).la (G k).ki (G k).wi (G k).n (G k).X (G k).Y (G k).lab (G k).pr):=by
      show _=_
      have h6:=zC5 hc
      rw [hz.out,zU (yF G) n 0 k (fun j _ hj=>HA.out j hj) (by omega) (by have:=HLT.out;omega) (by rw [h6];exact hc),h6]
     have hcb:(zI (G k).id (G k).la (G k).ki (G k).wi (G k).n (G k).X (G k).Y (G k).lab (G k).pr == 0)=false:=by simpa using hc
     have HB1:Hid (Bw w w1):=zA HBV.out hb1
     clear hc hb1
     go_wp2
     go_ret
     exact ⟨zE hsc.out.symm,HB1.out⟩
   ·have hsc:Hid (zV n G=0):=by
     show _=_
     rw [hz.out]
     exact yT _ _ _ (fun j _ hj=>HA.out j (by omega))
    go_wp2
    go_ret
    exact ⟨zE hsc.out.symm,HB.out⟩
def zAm (w:World)(lo hi b n:Nat)(N C q:Nat→Nat):Prop :=
 (lo≤b∧b<hi∧hi≤w.heap.size)∧zD w b (n * 7) ∧
 (∀ i,i<n→(lo≤q i∧q i<hi∧q i≠b)∧zD w (q i) (N i * 2)∧w.cell? ⟨b,i * 7+4,none⟩=some (.slice (some ⟨q i,0,none⟩) (N i) (C i))) ∧
 (∀ i j,i<n→j<n→q i=q j→i=j)
theorem zAm.below {w w':World}{lo hi b n:Nat}{N C q:Nat→Nat}(h:zAm w lo hi b n N C q)(hb:Below w.heap.size w w'):zAm w' lo hi b n N C q:=by
 obtain ⟨⟨h1,h2,h3⟩,h4,h5,h6⟩:=h
 exact ⟨⟨h1,h2,Nat.le_trans h3 hb.size⟩,h4.below hb,fun i hi=>⟨(h5 i hi).1,(h5 i hi).2.1.below hb,zH hb (h5 i hi).2.2⟩,h6⟩
theorem zAm.away {w w':World}{lo hi lo' hi' b n:Nat}{N C q:Nat→Nat}(h:zAm w lo hi b n N C q)(hm:zW lo' hi' w w')(ho:hi'≤lo∨hi≤lo'):zAm w' lo hi b n N C q:=by
 obtain ⟨⟨h1,h2,h3⟩,h4,h5,h6⟩:=h
 exact ⟨⟨h1,h2,Nat.le_trans h3 hm.size⟩,hm.there h4 (by omega),fun i hi=>⟨(h5 i hi).1,hm.there (h5 i hi).2.1 (by have:=(h5 i hi).1;omega),hm.cell (h5 i hi).2.2 (by omega)⟩,h6⟩
def kS (N:Nat→Nat)(k0:Nat):Nat→Nat
 | 0=>k0
 | j+1=>kS N k0 j+6+2 * N j
theorem kS_le (N:Nat→Nat)(k0 n:Nat)(h:∀ i,i<n→N i≤1048576):∀ j,j≤n→kS N k0 j≤k0+j * 2097158
 | 0,_=>by simp [kS]
 | j+1,hj=>by
  have:=kS_le N k0 n h j (by omega)
  have:=h j (by omega)
  rw [kS];omega
def zH1 (w:World)(b q i N C k:Nat):Prop :=
 yJ w b (i * 7) ((k:Nat):Int) ((k+1:Nat):Int) ((k+2:Nat):Int) ((k+3:Nat):Int) (.slice (some ⟨q,0,none⟩) N C) (mTx (k+4+2 * N)) ((k+5+2 * N:Nat):Int)∧zK w q 0 N (mkX (k+4)) (mkY (k+4))
theorem zPr {wr w5 w6:World}{lo hi b n j k:Nat}{N C q:Nat→Nat}(hO:zAm wr lo hi b n N C q)(hj:j<n)(hg:World.grownBy ((((wr.setCell ⟨b,j * 7,none⟩ (.int .i64 (k:Nat))).setCell ⟨b,j * 7+1,none⟩ (.int .i64 ((k+1:Nat):Int))).setCell ⟨b,j * 7+2,none⟩ (.int .i64 ((k+2:Nat):Int))).setCell ⟨b,j * 7+3,none⟩ (.int .i64 ((k+3:Nat):Int))) w5 (some (q j)))(hT5:zD w5 (q j) (N j * 2))(hP5:zK w5 (q j) 0 (N j) (mkX (k+4)) (mkY (k+4)))(h56:Below w5.heap.size w5 w6){N0:Nat→Nat}{k0:Nat}(hM:∀ i,i<j→zH1 wr b (q i) i (N i) (C i) (kS N0 k0 i))(hk:kS N0 k0 j=k) :
  zAm ((w6.setCell ⟨b,j * 7+5,none⟩ (.string (mTx (k+4+2 * N j)))).setCell ⟨b,j * 7+6,none⟩ (.int .i64 ((k+5+2 * N j:Nat):Int))) lo hi b n N C q ∧
  zW lo hi wr ((w6.setCell ⟨b,j * 7+5,none⟩ (.string (mTx (k+4+2 * N j)))).setCell ⟨b,j * 7+6,none⟩ (.int .i64 ((k+5+2 * N j:Nat):Int))) ∧
  ∀ i,i<j+1→zH1 ((w6.setCell ⟨b,j * 7+5,none⟩ (.string (mTx (k+4+2 * N j)))).setCell ⟨b,j * 7+6,none⟩ (.int .i64 ((k+5+2 * N j:Nat):Int))) b (q i) i (N i) (C i) (kS N0 k0 i):=by
 obtain ⟨⟨h1,h2,h3⟩,hTb,hq,hinj⟩:=hO
 have ne:∀ i j:Nat,i≠j→(⟨b,i,none⟩:Addr)≠⟨b,j,none⟩:=fun i j hij h=>hij (by injection h)
 have nb:∀ (p o o':Nat),p≠b→(⟨b,o,none⟩:Addr)≠⟨p,o',none⟩:=fun p o o' hp h=>hp (by injection h with h;exact h.symm)
 obtain ⟨⟨hqj1,hqj2,hqj3⟩,hTj,hcj⟩:=hq j hj
 generalize hW4:((((wr.setCell ⟨b,j * 7,none⟩ (.int .i64 (k:Nat))).setCell ⟨b,j * 7+1,none⟩ (.int .i64 ((k+1:Nat):Int))).setCell ⟨b,j * 7+2,none⟩ (.int .i64 ((k+2:Nat):Int))).setCell ⟨b,j * 7+3,none⟩ (.int .i64 ((k+3:Nat):Int)))=W4 at hg
 have hT4:zD W4 b (n * 7):=by subst hW4;exact ((((hTb.set _ _).set _ _).set _ _).set _ _)
 have hM4:zW lo hi wr W4:=by subst hW4;exact ((((zW.refl lo hi wr).set h1 h2 _ _).set h1 h2 _ _).set h1 h2 _ _).set h1 h2 _ _
 have hT5b:zD w5 b (n * 7):=hT4.grown hg (Ne.symm hqj3)
 have hT6:zD w6 b (n * 7):=hT5b.below h56
 generalize hV:((w6.setCell ⟨b,j * 7+5,none⟩ (.string (mTx (k+4+2 * N j)))).setCell ⟨b,j * 7+6,none⟩ (.int .i64 ((k+5+2 * N j:Nat):Int)))=V
 have hTV:zD V b (n * 7):=by subst hV;exact (hT6.set _ _).set _ _
 have hMV:zW lo hi wr V:=by
  subst hV
  exact ((hM4.trans ((zW.of_grown hg hqj1 hqj2).trans (zW.of_below h56))).set h1 h2 _ _).set h1 h2 _ _
 have hkeep:∀ o v,wr.cell? ⟨b,o,none⟩=some v→(o<j * 7∨o=j * 7+4∨j * 7+6<o)→V.cell? ⟨b,o,none⟩=some v:=fun o v hv ho=>by
  have hv4:W4.cell? ⟨b,o,none⟩=some v:=by
   subst hW4
   rw [zB (ne _ _ (by omega)),zB (ne _ _ (by omega)),zB (ne _ _ (by omega)),zB (ne _ _ (by omega))]
   exact hv
  have hv6:=zH h56 (xF hg hv4 (Ne.symm hqj3))
  subst hV
  rw [zB (ne _ _ (by omega)),zB (ne _ _ (by omega))]
  exact hv6
 have hoth:∀ p,p≠b→p≠q j→∀ o v,wr.cell? ⟨p,o,none⟩=some v→V.cell? ⟨p,o,none⟩=some v:=fun p hp hpq o v hv=>by
  have hv4:W4.cell? ⟨p,o,none⟩=some v:=by
   subst hW4
   rw [zB (nb _ _ _ hp),zB (nb _ _ _ hp),zB (nb _ _ _ hp),zB (nb _ _ _ hp)]
   exact hv
  have hv6:=zH h56 (xF hg hv4 hpq)
  subst hV
  rw [zB (nb _ _ _ hp),zB (nb _ _ _ hp)]
  exact hv6
 have hpt:∀ p m X Y,p≠b→zK w6 p 0 m X Y→zK V p 0 m X Y:=fun p m X Y hp h=>by
  subst hV
  exact (h.store (Ne.symm hp)).store (Ne.symm hp)
 have hth:∀ p m,p≠b→zD w6 p m→zD V p m:=fun p m hp h=>by
  subst hV
  exact (h.store (Ne.symm hp)).store (Ne.symm hp)
 have hql:q j<w5.heap.size:=by have:=hg.size;have:=hM4.size;omega
 refine ⟨⟨⟨h1,h2,Nat.le_trans h3 hMV.size⟩,hTV,fun i hi=>⟨(hq i hi).1,?_,hkeep _ _ (hq i hi).2.2 (by omega)⟩,hinj⟩,hMV,fun i hi=>?_⟩
 ·by_cases e:i=j
  ·subst e
   exact hth _ _ hqj3 (hT5.below h56)
  ·have hne:q i≠q j:=fun h=>e (hinj i j hi hj h)
   have hne':=(hq i hi).1.2.2
   refine hth _ _ hne' ?_
   have h4:zD W4 (q i) (N i * 2):=by
    subst hW4
    exact ((((hq i hi).2.1.store (Ne.symm hne')).store (Ne.symm hne')).store (Ne.symm hne')).store (Ne.symm hne')
   exact (h4.grown hg hne).below h56
 ·by_cases e:i=j
  ·subst e
   rw [hk]
   have c4:∀ o v,W4.cell? ⟨b,o,none⟩=some v→o≠i * 7+5→o≠i * 7+6→V.cell? ⟨b,o,none⟩=some v:=fun o v hv ho ho'=>by
    have hv6:=zH h56 (xF hg hv (Ne.symm hqj3))
    subst hV
    rw [zB (ne _ _ (Ne.symm ho')),zB (ne _ _ (Ne.symm ho))]
    exact hv6
   obtain ⟨u0,g0⟩:=(hTb (i * 7) (by omega)).1
   obtain ⟨u1,g1⟩:=((hTb.set (i * 7) (.int .i64 (k:Nat))) (i * 7+1) (by omega)).1
   obtain ⟨u2,g2⟩:=(((hTb.set (i * 7) (.int .i64 (k:Nat))).set (i * 7+1) (.int .i64 ((k+1:Nat):Int))) (i * 7+2) (by omega)).1
   obtain ⟨u3,g3⟩:=((((hTb.set (i * 7) (.int .i64 (k:Nat))).set (i * 7+1) (.int .i64 ((k+1:Nat):Int))).set (i * 7+2) (.int .i64 ((k+2:Nat):Int))) (i * 7+3) (by omega)).1
   obtain ⟨u5,g5⟩:=(hT6 (i * 7+5) (by omega)).1
   obtain ⟨u6,g6⟩:=((hT6.set (i * 7+5) (.string (mTx (k+4+2 * N i)))) (i * 7+6) (by omega)).1
   refine ⟨⟨c4 _ _ ?_ (by omega) (by omega),c4 _ _ ?_ (by omega) (by omega),c4 _ _ ?_ (by omega) (by omega),c4 _ _ ?_ (by omega) (by omega),hkeep _ _ hcj (by omega),?_,?_⟩,hpt _ _ _ _ hqj3 (hP5.below h56 hql)⟩
   ·subst hW4;rw [zB (ne _ _ (by omega)),zB (ne _ _ (by omega)),zB (ne _ _ (by omega))];exact zG g0
   ·subst hW4;rw [zB (ne _ _ (by omega)),zB (ne _ _ (by omega))];exact zG g1
   ·subst hW4;rw [zB (ne _ _ (by omega))];exact zG g2
   ·subst hW4;exact zG g3
   ·subst hV;rw [zB (ne _ _ (by omega))];exact zG g5
   ·subst hV;exact zG g6
  ·have hi':i<j:=by omega
   obtain ⟨⟨m0,m1,m2,m3,m4,m5,m6⟩,mp⟩:=hM i hi'
   have hne:q i≠q j:=fun h=>e (hinj i j (by omega) hj h)
   have hne':=(hq i (by omega)).1.2.2
   refine ⟨⟨hkeep _ _ m0 (by omega),hkeep _ _ m1 (by omega),hkeep _ _ m2 (by omega),hkeep _ _ m3 (by omega),hkeep _ _ m4 (by omega),hkeep _ _ m5 (by omega),hkeep _ _ m6 (by omega)⟩,fun x hx=>?_⟩
   exact ⟨hoth _ hne' hne _ _ (mp x hx).1,hoth _ hne' hne _ _ (mp x hx).2⟩
def Copies (base:Nat)(w:World)(n:Nat)(G H:Nat→zS):Prop :=
 (∀ i,i<n→(H i).same (G i)∧Row base w (.slice (H i).a (H i).n (H i).cap) (ptsOf (G i).X (G i).Y (List.range (G i).n))) ∧
 ∀ i j,i<n→j<n→(H i).a=(H j).a→i=j
end Go.Proofs.YtpaiholildedcaaGreat
namespace Go.Proofs.YtpaiholildedcaaGreat
open Go.RowKit Go.Sort
end Go.Proofs.YtpaiholildedcaaGreat
namespace Go.Proofs.YtpaiholildedcaaGreat
open Go.RowKit
end Go.Proofs.YtpaiholildedcaaGreat
namespace Go.Proofs.YtpaiholildedcaaGreat
open Go.RowKit Go.Sort Go.Shelf
theorem holds_F {base:Nat}{w:World}{v:Value}{H:Nat→zS}{n g c:Nat}(h:yG base w v H (List.range n))(hv:v=.slice (some ⟨g,0,none⟩) n c):HoldsK (fun i=>yO (H i)) 7 w g 0 (Array.range n):=by
 subst hv
 have hrow:w.ownsRow base 209 7 (.slice (some ⟨g,0,none⟩) n c) n (zR H (List.range n)):=by
  have:=h
  unfold yG at this
  rw [List.length_range] at this
  exact this
 intro t ht
 rw [size_flatK,Array.size_range] at ht
 rw [get_flatK _ _ _ _ (by rw [Array.size_range];exact ht),Nat.zero_add]
 refine ⟨?_,hrow.frozenAt t⟩
 have hi:t / 7<n:=by omega
 have hk:t % 7<7:=by omega
 have e:=zEy H (List.range n) (t / 7) (t % 7) (by simpa using hi) hk
 have et:t / 7 * 7+t % 7=t:=by omega
 rw [et] at e
 rw [hrow.cellAt t ht,e]
 have eg:(List.range n).getD (t / 7) 0=t / 7:=by simp [List.getD_eq_getElem?_getD,hi]
 have ea:(Array.range n)[t / 7]! = t / 7:=by simp [hi]
 rw [eg,ea]
 show (yO (H (t / 7)))[t % 7]?=some (yO (H (t / 7)))[t % 7]!
 have hl:t % 7<(yO (H (t / 7))).length:=by rw [zA3];exact hk
 rw [List.getElem?_eq_getElem hl,getElem!_pos (yO (H (t / 7))) (t % 7) hl]
theorem at_F {w:World}{H:Nat→zS}{g:Nat}{d:Array Nat}(h:HoldsK (fun i=>yO (H i)) 7 w g 0 d){i:Nat}(hi:i<d.size) :
  yJ w g (i * 7) (H d[i]!).id (H d[i]!).la (H d[i]!).ki (H d[i]!).wi (.slice (H d[i]!).a (H d[i]!).n (H d[i]!).cap) (H d[i]!).lab (H d[i]!).pr:=by
 have c:=fun k (hk:k<7)=>(h.cell hi hk).1
 simp only [Nat.zero_add] at c
 exact ⟨c 0 (by omega),c 1 (by omega),c 2 (by omega),c 3 (by omega),c 4 (by omega),c 5 (by omega),c 6 (by omega)⟩
theorem there_F {w:World}{H:Nat→zS}{g:Nat}{d:Array Nat}(h:HoldsK (fun i=>yO (H i)) 7 w g 0 d):zD w g (d.size * 7):=fun o ho=>by
 have:=h.cell (i:=o / 7) (c:=o % 7) (by omega) (by omega)
 have e:0+o / 7 * 7+o % 7=o:=by omega
 rw [e] at this
 exact ⟨⟨_,this.1⟩,this.2⟩
end Go.Proofs.YtpaiholildedcaaGreat
namespace Go.Proofs.YtpaiholildedcaaGreat
open Go.RowKit


end Go.Proofs.YtpaiholildedcaaGreat
