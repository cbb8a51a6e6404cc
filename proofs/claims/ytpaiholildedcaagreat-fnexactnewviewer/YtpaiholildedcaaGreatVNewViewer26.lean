/- Texts. -/
import Derived.Test.YtpaiholildedcaaGreatVNewViewer25
set_option linter.unusedSimpArgs false
set_option linter.unusedVariables false
set_option maxRecDepth 100000
set_option maxHeartbeats 32000000
namespace Go.Proofs.YtpaiholildedcaaGreat
open Go.RowKit
section
variable {P:Program} {ops:Array Oper} {Q:Exit→Act→World→Prop} {md:Region.Mode} {S:World→Prop} {z:Nat}
theorem zA6 {i j:Nat}{o p:Oper}{fuel:Nat}{listed:Array Bool}{a:Act}{w:World}(hr:Region.ready md ops listed=[i,j])(ho:ops[i]?=some o)(hp:ops[j]?=some p)(h1:∀ K':Act→World→Prop,Shut (∀ a w,(i≠z→S w)→yV P md ops Q S z fuel (listed.setIfInBounds i true) a w→K' a w)→if Region.wanted o (yielded ops a.tmps)=true then Oper.wp P o a w K' Q else K' (a.put o.dst undef) w)(h2:∀ K':Act→World→Prop,Shut (∀ a w,(j≠z→S w)→yV P md ops Q S z fuel (listed.setIfInBounds j true) a w→K' a w)→if Region.wanted p (yielded ops a.tmps)=true then Oper.wp P p a w K' Q else K' (a.put p.dst undef) w) :
  yV P md ops Q S z (fuel+1) listed a w:=by
 refine ⟨fun h0=>(by rw [hr] at h0;cases h0),fun k hk=>?_⟩
 rw [hr] at hk
 rcases List.mem_cons.1 hk with rfl | hk
 ·exact wpOp_step ho (fun K' hK=>h1 K' (fun a w hS hW=>hK a w ⟨hS,hW⟩))
 ·obtain rfl:k=j:=by simpa using hk
  exact wpOp_step hp (fun K' hK=>h2 K' (fun a w hS hW=>hK a w ⟨hS,hW⟩))
end
/- MAIN -/
theorem zEt {w:World}{ib io m:Nat}{I:Nat→Int}(h:uC w ib io m I):∀ j u,((List.range m).map (fun i=>Value.int .i64 (I i)))[j]?=some u→w.cell? ((⟨ib,io,none⟩:Addr).add j)=some u:=fun q u hq=>by
 rw [List.getElem?_map] at hq
 have hqn:q<m:=by
  rcases Nat.lt_or_ge q m with h | h
  ·exact h
  ·rw [List.getElem?_eq_none (by simpa using h)] at hq;cases hq
 have h1:=h q hqn
 simp [hqn] at hq
 subst hq
 by_cases hq0:q=0
 ·subst hq0;simpa [Addr.add] using h1
 ·simpa [Addr.add,hq0] using h1
theorem zB6 {w:World}{base g n c:Nat}{I:Nat→Int}(h:w.ownsRow base 2 1 (.slice (some ⟨g,0,none⟩) n c) n ((List.range n).map (fun i=>.int .i64 (I i)))):uC w g 0 n I:=fun i hi=>by
 rw [Nat.zero_add,h.cellAt i (by simpa using hi)]
 simp [hi]
theorem zO {base s n:Nat}{t:TypeId}{w w':World}{v:Value}{xs:List Value}(h:w.ownsRow base t s v n xs)(hb:Below w.heap.size w w'):w'.ownsRow base t s v n xs:=by
 obtain ⟨h1,h2 | ⟨g,cp,cur,hv,hg,hh,h3⟩⟩:=h
 ·exact ⟨h1,.inl h2⟩
 ·exact ⟨h1,.inr ⟨g,cp,cur,hv,hg,(hb.block g (Array.getElem?_eq_some_iff.1 hh).1).trans hh,h3⟩⟩
theorem vC {base s n r o:Nat}{t:TypeId}{w:World}{v u:Value}{xs:List Value}(h:w.ownsRow base t s v n xs)(hr:r<base):(w.setCell ⟨r,o,none⟩ u).ownsRow base t s v n xs:=by
 obtain ⟨h1,h2 | ⟨g,cp,cur,hv,hg,hh,h3⟩⟩:=h
 ·exact ⟨h1,.inl h2⟩
 ·exact ⟨h1,.inr ⟨g,cp,cur,hv,hg,(((zI.refl r (r+1) w).set (Nat.le_refl _) (Nat.lt_succ_self _) o u).block g (Array.getElem?_eq_some_iff.1 hh).1 (.inr (by omega))).trans hh,h3⟩⟩
def zDc (m:Nat)(R:Nat→Kp):List Ag:=(List.range m).map fun i=>agK (R i) 0
theorem zB4 (m:Nat)(R:Nat→Kp):(zDc m R).length=m:=by simp [zDc]
theorem zEn (m:Nat)(R:Nat→Kp)(r:Kp):zDc (m+1) (fun i=>if i=m then r else R i)=zDc m R ++ [agK r 0]:=by
 unfold zDc
 rw [List.range_succ,List.map_append]
 congr 1
 ·apply List.map_congr_left
  intro i hi
  have h1:=List.mem_range.1 hi
  have h2:¬ i=m:=by omega
  simp only [if_neg h2]
 ·simp
structure GrF (B:Nat) (ob:Option Nat) (w W:World):Prop where
 os:W.os=w.os
 tape:W.tape=w.tape
 output:W.output=w.output
 size:w.heap.size≤W.heap.size
 block:∀ j,B≤j→j<w.heap.size→some j≠ob→W.heap[j]?=w.heap[j]?
def zJa (B:Nat)(ob:Option Nat)(w:World)(k r:Kp):Prop:=∀ W,GrF B ob w W→zGp W k r∧zH9 W r∧r.I=k.I
theorem zHy {B gr q:Nat}{u:Value}{wr wi wA w3 w5:World}(hi:Below wr.heap.size wr wi)(hA:Below wi.heap.size wi wA)(h3:wA.grownBy w3 u.ownBlock)(h5:zI q (q+1) w3 w5)(hq:q<B)(hl:u.ownBlock=some gr∨gr=wA.heap.size) :
  (∀ W,GrF B (some gr) w5 W→GrF B u.ownBlock wi W)∧∀ W,GrF B (some gr) w5 W→GrF B u.ownBlock wr W:=by
 have hsi:=hi.size
 have hsA:=hA.size
 have hs3:=h3.size
 have hs5:=h5.size
 have hb:∀ W,GrF B (some gr) w5 W→∀ j,B≤j→j<wA.heap.size→some j≠u.ownBlock→W.heap[j]?=wA.heap[j]?:=fun W h j h1 h2 h3'=>by
  have e1:some j≠some gr:=by
   rcases hl with hl | hl
   ·rw [← hl];exact h3'
   ·intro e;injection e with e;omega
  rw [h.block j h1 (by omega) e1,h5.block j (by omega) (by omega)]
  exact h3.block j h2 h3'
 refine ⟨fun W h=>⟨?_,?_,?_,by have:=h.size;omega,fun j h1 h2 h3'=>?_⟩,fun W h=>⟨?_,?_,?_,by have:=h.size;omega,fun j h1 h2 h3'=>?_⟩⟩
 ·rw [h.os,h5.os,h3.os,hA.os]
 ·rw [h.tape,h5.tape,h3.tape,hA.tape]
 ·rw [h.output,h5.output,h3.output,hA.output]
 ·rw [hb W h j h1 (by omega) h3'];exact hA.block j h2
 ·rw [h.os,h5.os,h3.os,hA.os,hi.os]
 ·rw [h.tape,h5.tape,h3.tape,hA.tape,hi.tape]
 ·rw [h.output,h5.output,h3.output,hA.output,hi.output]
 ·rw [hb W h j h1 (by omega) h3',hA.block j (by omega)];exact hi.block j h2
theorem GrF.mid {B T:Nat}{ob:Option Nat}{w W:World}(h:GrF B ob w W)(hB:B≤T)(ho:∀ j,ob=some j→j<T):zI 0 T w W :=
 ⟨h.os,h.tape,h.output,h.size,fun j hj hk=>h.block j (by omega) hj (fun e=>by have:=ho j e.symm;omega)⟩
theorem zE5 {B T lo hi gi cg:Nat}{ob:Option Nat}{wi:World}{kz kx ky:Int}{kfa:Option Addr}{fn fc cc im ic ci:Nat}{kF CH:Nat→xG}{kia:Option Addr}{kI:Nat→Int}(hB:B≤T)(ho:∀ j,ob=some j→j<T)(hF:uT wi lo hi (some ⟨cg,0,none⟩) fn kF CH)(hcl:cg<wi.heap.size)(hlo:T≤lo)(hN:uC wi gi 0 im kI)(hg:T≤gi)(hgl:gi<wi.heap.size)(h12:fn≤12)(hpos:∀ i,i<fn→0<(kF i).n)(hsm:vX fn kF)(him:im≤1048576) :
  ∀ W,GrF B ob wi W→zGp W ⟨kz,kx,ky,kfa,fn,fc,kF,kia,im,ic,kI⟩ ⟨kz,kx,ky,some ⟨cg,0,none⟩,fn,cc,CH,some ⟨gi,0,none⟩,im,ci,kI⟩∧zH9 W ⟨kz,kx,ky,some ⟨cg,0,none⟩,fn,cc,CH,some ⟨gi,0,none⟩,im,ci,kI⟩∧kI=kI:=fun W h=>by
 have hM:=h.mid hB ho
 have h1:=hF.mid' hM hlo
 have hn:uC W gi 0 im kI:=fun i hi=>hM.cell (hN i hi) (.inr (by omega))
 have hgW:=Nat.lt_of_lt_of_le hgl h.size
 refine ⟨⟨⟨rfl,rfl,rfl⟩,rfl,rfl,⟨h1.1,fun i hi=>(h1.2.1 i hi).1⟩,.inr ⟨gi,0,rfl,hgW,hn⟩⟩,⟨⟨cg,rfl,?_,Nat.lt_of_lt_of_le hcl h.size⟩,h12,fun i hi=>?_,⟨⟨hsm.1,fun i hi=>?_⟩,him⟩,gi,0,rfl,hn,hgW⟩,rfl⟩
 ·rcases h1.1 with h0 | ⟨b,off,e,_,hf⟩
  ·exact fun i hi=>by dsimp only at hi;omega
  ·injection e with e
   injection e with e1 e2
   subst e1 e2
   exact hf
 ·obtain ⟨_,_,_,_,g5,_⟩:=(h1.2.1 i hi).1
  show 0<(CH i).n
  rw [g5];exact hpos i hi
 ·obtain ⟨_,_,_,_,g5,_,_,g8,_⟩:=(h1.2.1 i hi).1
  show (CH i).n≤_∧(CH i).lab.size≤_
  rw [g5,g8];exact hsm.2 i hi
theorem GrF.of_mid {B q:Nat}{ob:Option Nat}{w w' W:World}(h:GrF B ob w' W)(hM:zI q (q+1) w w')(hq:q<B):GrF B ob w W :=
 ⟨h.os.trans hM.os,h.tape.trans hM.tape,h.output.trans hM.output,Nat.le_trans hM.size h.size,fun j h1 h2 h3=>(h.block j h1 (Nat.lt_of_lt_of_le h2 hM.size) h3).trans (hM.block j h2 (.inr (by omega)))⟩
theorem GrF.wide {B B':Nat}{ob:Option Nat}{w W:World}(h:GrF B ob w W)(hb:B≤B'):GrF B' ob w W:=⟨h.os,h.tape,h.output,h.size,fun j h1=>h.block j (Nat.le_trans hb h1)⟩
theorem GrF.none {B:Nat}{ob:Option Nat}{w W:World}(h:GrF B none w W):GrF B ob w W:=⟨h.os,h.tape,h.output,h.size,fun j h1 h2 _=>h.block j h1 h2 (by simp)⟩
def zDu (B:Nat)(w:World)(a:Option Addr)(c m:Nat)(K R:Nat→Kp):Prop:=w.ownsRow B 141 5 (.slice a m c) m (yU (zDc m R))∧∀ i,i<m→zJa B (Value.slice a m c).ownBlock w (K i) (R i)
theorem zDu.sm {B c m:Nat}{w W:World}{a:Option Addr}{K R:Nat→Kp}(h:zDu B w a c m K R)(hGW:GrF B none w W):m=0∨∃ g,a=some ⟨g,0,none⟩∧g<W.heap.size∧∀ i,i<m→zHn W g (i * 5) (R i)∧zGp W (K i) (R i)∧zH9 W (R i)∧(R i).I=(K i).I:=by
 by_cases h0m:m=0
 ·exact .inl h0m
 ·have hOF:=h.1
  rcases hOF.2 with ⟨_,h⟩ | ⟨g,cp,cur,hv,hg,hh,_⟩
  ·exact absurd h h0m
  ·injection hv with e1 _ e3
   subst e1 e3
   have hrow:=zF0 (L:=zDc m R) (KL:=R) (by rw [zB4];show World.ownsRow _ _ _ _ _ _ _;rw [zB4];exact hOF) (fun i a hi=>by
    have him':i<m:=by have:=(List.getElem?_eq_some_iff.1 hi).1;rw [zB4] at this;exact this
    simp [zDc,him'] at hi
    exact ⟨0,hi.symm⟩)
   rw [zB4] at hrow
   have hgl:=(Array.getElem?_eq_some_iff.1 hh).1
   have hbq:=hGW.block g (by omega) hgl (by simp)
   refine .inr ⟨g,rfl,Nat.lt_of_lt_of_le hgl hGW.size,fun i hi=>⟨?_,h.2 i hi _ hGW.none⟩⟩
   obtain ⟨k0,k1,k2,k3,k4⟩:=hrow.1 i hi
   exact ⟨(World.cell?_of_block (a:=⟨g,_,none⟩) hbq).trans k0,(World.cell?_of_block (a:=⟨g,_,none⟩) hbq).trans k1,(World.cell?_of_block (a:=⟨g,_,none⟩) hbq).trans k2,(World.cell?_of_block (a:=⟨g,_,none⟩) hbq).trans k3,(World.cell?_of_block (a:=⟨g,_,none⟩) hbq).trans k4⟩
def LsS (q p b k:Nat)(u:Value)(n cap:Nat)(kz kx ky:Int)(fb fn fc ib io im ic:Nat)(W:World):Prop :=
 W.cell? ⟨q,1,none⟩=some u∧W.cell? ⟨p,1,none⟩=some (.slice (some ⟨b,0,none⟩) n cap)∧W.cell? ⟨b,k * 5,none⟩=some (.int .i64 kz)∧W.cell? ⟨b,k * 5+1,none⟩=some (.int .i64 kx)∧W.cell? ⟨b,k * 5+2,none⟩=some (.int .i64 ky)∧W.cell? ⟨b,k * 5+3,none⟩=some (.slice (some ⟨fb,0,none⟩) fn fc)∧W.cell? ⟨b,k * 5+4,none⟩=some (.slice (some ⟨ib,io,none⟩) im ic)
theorem LsS.keepL2 {B q p b k:Nat}{u:Value}{n cap:Nat}{kz kx ky:Int}{fb fn fc ib io im ic:Nat}{w W:World}(h:LsS q p b k u n cap kz kx ky fb fn fc ib io im ic w)(hb:Below B w W)(hq:q<B)(hp:p<B)(hbB:b<B):LsS q p b k u n cap kz kx ky fb fn fc ib io im ic W:=by
 obtain ⟨h0,h1,h2,h3,h4,h5,h6⟩:=h
 exact ⟨(hb.cell (p:=⟨q,_,none⟩) hq).trans h0,(hb.cell (p:=⟨p,_,none⟩) hp).trans h1,(hb.cell (p:=⟨b,_,none⟩) hbB).trans h2,(hb.cell (p:=⟨b,_,none⟩) hbB).trans h3,(hb.cell (p:=⟨b,_,none⟩) hbB).trans h4,(hb.cell (p:=⟨b,_,none⟩) hbB).trans h5,(hb.cell (p:=⟨b,_,none⟩) hbB).trans h6⟩
theorem LsS.keepL {q p b k:Nat}{u:Value}{n cap:Nat}{kz kx ky:Int}{fb fn fc ib io im ic:Nat}{w W:World}(h:LsS q p b k u n cap kz kx ky fb fn fc ib io im ic w)(hb:Below w.heap.size w W):LsS q p b k u n cap kz kx ky fb fn fc ib io im ic W :=
 h.keepL2 hb (World.block_lt_of_cell? _ _ h.1) (World.block_lt_of_cell? _ _ h.2.1) (World.block_lt_of_cell? _ _ h.2.2.1)
def vI (at_:Int):Nat→List Nat
 | 0=>[]
 | k+1=>if (k:Int)=at_ then vI at_ k else vI at_ k ++ [k]
theorem zEy (at_:Int):∀ k,(vI at_ k).length≤k
 | 0=>Nat.le_refl _
 | k+1=>by
  have:=zEy at_ k
  unfold vI
  split
  ·omega
  ·simp;omega
theorem resLs {T:Array Value}{Wf:World}{r:Nat}{s:Int}{v:Value}(hT:T[4]?.getD undef=.pointer (some ⟨r,0,none⟩))(h0:Wf.cell? ⟨r,0,none⟩=some (.int .i64 s))(h1:Wf.cell? ⟨r,1,none⟩=some v) :
  (results Tryz.f109 T).run Tryz.prog Wf=.ok (.agg #[.int .i64 s,v]) Wf:=by
 simp [results,Tryz.results109,go_sem,hT,h0,h1]
theorem zG8 (s:Int)(b n cap:Nat)(A:Nat→Kp)(at_:Int)(w:World)(ha:zL4 w b n A)(hsrc:∀ i,i<n→zH9 w (A i))(him0:∀ i,i<n→0<(A i).m)(hn:n≤100) :
  Calls Tryz.prog 109 #[caV s (.slice (some ⟨b,0,none⟩) n cap),.int .i64 at_] w fun e w'=>∃ a c R,e=.returned (caV s (.slice a (vI at_ n).length c))∧zDu (w.heap.size+3) w' a c (vI at_ n).length (fun j=>A ((vI at_ n).getD j 0)) R∧Bw w w'∧w.heap.size+3≤w'.heap.size:=by
 obtain ⟨i0,hi,hz0,hz1,hz2⟩:=info_parts zE2
 obtain ⟨j0,hj,hy0,hy1,hy2⟩:=info_parts zG9
 have HA:Hid (zL4 w b n A):=ha
 have hbl:b<w.heap.size:=ha.1
 have HSr:Hid (∀ i,i<n→zH9 w (A i)):=hsrc
 have HIm:Hid (∀ i,i<n→0<(A i).m):=him0
 clear ha hsrc him0
 go_enter Tryz.func109,Tryz.ntmps109
 go_wp2_with fail
 generalize hW:(((w.alloc _).alloc _).alloc _:World)=W
 have HB0:Hid (Bw w W):=by show Below _ _ _;subst hW;exact Qb
 have HTr0:Hid (zC W (w.heap.size+1) 2):=by
  show zC _ _ _
  subst hW
  have:=(zCe (w.alloc (.cells #[.int .i64 s,.slice (some ⟨b,0,none⟩) n cap] 28)) (.int .i64 0) (.slice none 0 0) 28).below (yX (Below.refl _ _) (.cells #[.int .i64 s,.slice none 0 0] 28))
  simpa using this
 have HTq0:Hid (zC W (w.heap.size+2) 2):=by
  show zC _ _ _
  subst hW
  have:=zCe ((w.alloc (.cells #[.int .i64 s,.slice (some ⟨b,0,none⟩) n cap] 28)).alloc (.cells #[.int .i64 0,.slice none 0 0] 28)) (.int .i64 s) (.slice none 0 0) 28
  simpa using this
 have p10:W.cell? ⟨w.heap.size,1,none⟩=some (.slice (some ⟨b,0,none⟩) n cap):=by subst hW;simp [go_sem]
 have q00:W.cell? ⟨w.heap.size+2,0,none⟩=some (.int .i64 s):=by subst hW;simp [go_sem]
 have q10:W.cell? ⟨w.heap.size+2,1,none⟩=some (.slice none 0 0):=by subst hW;simp [go_sem]
 have hsz:w.heap.size+3≤W.heap.size:=by subst hW;simp
 clear hW
 go_loopw [6] (fun v wr=>∃ (k m:Nat) (R:Nat→Kp) (ua:Option Addr) (uc:Nat),k≤n∧v=.int .i64 (k:Int)∧m=(vI at_ k).length∧zC wr (w.heap.size+2) 2∧wr.cell? ⟨w.heap.size+2,0,none⟩=some (.int .i64 s)∧wr.cell? ⟨w.heap.size+2,1,none⟩=some (.slice ua m uc)∧wr.ownsRow (w.heap.size+3) 141 5 (.slice ua m uc) m (yU (zDc m R))∧(∀ i,i<m→zJa (w.heap.size+3) (Value.slice ua m uc).ownBlock wr (A ((vI at_ k).getD i 0)) (R i))∧wr.cell? ⟨w.heap.size,1,none⟩=some (.slice (some ⟨b,0,none⟩) n cap)∧zC wr (w.heap.size+1) 2∧Bw w wr∧w.heap.size+3≤wr.heap.size) (fun v _=>n - (intOf v).toNat)
 case atStart=>exact ⟨0,0,fun _=>⟨0,0,0,none,0,0,fun _=>⟨0,0,0,0,none,0,0,fun _=>0,fun _=>0,⟨#[]⟩,0⟩,none,0,0,fun _=>0⟩,none,0,by omega,rfl,rfl,HTq0.out,q00,q10,World.ownsRow_nil _ _ _ _,fun i hi=>by omega,p10,HTr0.out,HB0.out,hsz⟩
 case round =>
  obtain ⟨k,m,R,ua,uc,hk,rfl,hm,hTq,h0,h1,hO,hF,hp1,hTr,hB,hs3⟩:=hrel
  have HTq:Hid (zC wr (w.heap.size+2) 2):=hTq
  have HTr:Hid (zC wr (w.heap.size+1) 2):=hTr
  have HO:Hid (wr.ownsRow (w.heap.size+3) 141 5 (.slice ua m uc) m (yU (zDc m R))):=hO
  have HFar:Hid (∀ i,i<m→zJa (w.heap.size+3) (Value.slice ua m uc).ownBlock wr (A ((vI at_ k).getD i 0)) (R i)):=hF
  have HBw:Hid (Bw w wr):=hB
  have HM:Hid (m=(vI at_ k).length):=hm
  have hmk:=zEy at_ k
  rw [← hm] at hmk
  clear hTq hTr hO hF hB hm HB0 HTr0 HTq0 p10 q00 q10 hsz
  by_cases hlt:k<n
  ·have HLT:Hid (k<n):=hlt
   have hik:(k:Int)<(n:Int):=by omega
   have hi0:(0:Int)≤(k:Int):=by omega
   by_cases hat:(k:Int)=at_
   ·have hbne:((k:Int) != at_)=false:=by simpa using hat
    have HJ:Hid (vI at_ (k+1)=vI at_ k):=by show _=_;rw [vI,if_pos hat]
    have H0:=(show Hid _ from h0)
    have H1:=(show Hid _ from h1)
    have HP1:=(show Hid _ from hp1)
    clear hat
    go_wp2_with fail
    go_roundw
    case rel=>exact ⟨k+1,m,R,ua,uc,by omega,by go_num,by rw [HJ.out];exact HM.out,HTq.out,H0.out,H1.out,HO.out,by rw [HJ.out];exact HFar.out,HP1.out,HTr.out,HBw.out,hs3⟩
    case measure=>simp [intOf];omega
   ·have hbne:((k:Int) != at_)=true:=by simpa using hat
    have HJ:Hid (vI at_ (k+1)=vI at_ k ++ [k]):=by show _=_;rw [vI,if_neg hat]
    have hkp:=(HA.out.2 k hlt).1
    have hsr:=HSr.out k hlt
    have him:=HIm.out k hlt
    have HAk:Hid (∀ i,i<m+1→A ((vI at_ (k+1)).getD i 0)=if i=m then A k else A ((vI at_ k).getD i 0)):=fun i hi=>by
     rw [HJ.out]
     by_cases e:i=m
     ·rw [if_pos e,e,HM.out];simp
     ·rw [if_neg e];simp only [List.getD];rw [List.getElem?_append_left (by rw [← HM.out];omega)]
    rcases hAk:A k with ⟨kz,kx,ky,kfa,fn,fc,kF,kia,im,ic,kI⟩
    rw [hAk] at hkp hsr him HAk
    obtain ⟨⟨fb,hfa,hft,hfl⟩,h12,hpos,hsm,ib,io,hia,hin,hil⟩:=hsr
    dsimp only at hfa hft h12 hpos hia hin him
    subst hfa hia
    have HIn:Hid (uC w ib io im kI):=hin
    have him1:im≤1048576:=hsm.2
    have HCp:Hid (∀ W,Bw w W→Calls Tryz.prog 110 #[.agg #[.int .i64 kz,.int .i64 kx,.int .i64 ky,.slice (some ⟨fb,0,none⟩) fn fc]] W fun e w'=>∃ g c H,e=.returned (.agg #[.int .i64 kz,.int .i64 kx,.int .i64 ky,.slice (some ⟨g,0,none⟩) fn c])∧g<w'.heap.size∧uT w' W.heap.size w'.heap.size (some ⟨g,0,none⟩) fn kF H∧Bw W w'):=fun W h=>uG kz kx ky fb fn fc kF W (hft.below h hfl) (Nat.lt_of_lt_of_le hfl h.size) h12 hpos hsm.1
    obtain ⟨k0,k1,k2,k3,k4⟩:=hkp
    have hS6:LsS (w.heap.size+2) w.heap.size b k (.slice ua m uc) n cap kz kx ky fb fn fc ib io im ic wr:=⟨h1,hp1,(HBw.out.cell (p:=⟨b,_,none⟩) hbl).trans k0,(HBw.out.cell (p:=⟨b,_,none⟩) hbl).trans k1,(HBw.out.cell (p:=⟨b,_,none⟩) hbl).trans k2,(HBw.out.cell (p:=⟨b,_,none⟩) hbl).trans k3,(HBw.out.cell (p:=⟨b,_,none⟩) hbl).trans k4⟩
    have H0:=(show Hid _ from h0)
    have HP1:=(show Hid _ from hp1)
    have HKp:Hid (fn≤12∧(∀ i,i<fn→0<(kF i).n)∧vX fn kF):=⟨h12,hpos,hsm.1⟩
    clear hat hft hpos hsm hin k0 k1 k2 k3 k4 h0 h1
    go_wp2_with fail
    refine wp_region_noPanic ?_
    refine yP (S:=(LsS (w.heap.size+2) w.heap.size b k (.slice ua m uc) n cap kz kx ky fb fn fc ib io im ic)) (z:=21) (by kernel_rfl) ?_
    have hB0:Bw wr wr.drew:=by have:=Below.refl wr.heap.size wr;exact Qb
    have hSd:LsS (w.heap.size+2) w.heap.size b k (.slice ua m uc) n cap kz kx ky fb fn fc ib io im ic wr.drew:=hS6
    refine zG (i:=0) (v:=?q1) rfl (by kernel_rfl) (by kernel_rfl) (by kernel_rfl) (by kernel_rfl) (fun _ _ _ h=>h) (Or.inl ⟨by rfl,?hq1⟩) hSd ?_
    case hq1=>(intro wz hSw;clear hSw;go_simp <;> with_reducible rfl)
    try simp only [Act.put,Qx,Qy,Qz]
    refine zG (i:=1) (v:=?q2) rfl (by kernel_rfl) (by kernel_rfl) (by kernel_rfl) (by kernel_rfl) (fun _ _ _ h=>h) (Or.inl ⟨by rfl,?hq2⟩) hSd ?_
    case hq2=>(intro wz hSw;have s0:=hSw.1;clear hSw;go_simp <;> with_reducible rfl)
    try simp only [Act.put,Qx,Qy,Qz]
    refine zG (i:=2) (v:=?q3) rfl (by kernel_rfl) (by kernel_rfl) (by kernel_rfl) (by kernel_rfl) (fun _ _ _ h=>h) (Or.inl ⟨by rfl,?hq3⟩) hSd ?_
    case hq3=>(intro wz hSw;clear hSw;go_simp <;> with_reducible rfl)
    try simp only [Act.put,Qx,Qy,Qz]
    refine zG (i:=3) (v:=?q4) rfl (by kernel_rfl) (by kernel_rfl) (by kernel_rfl) (by kernel_rfl) (fun _ _ _ h=>h) (Or.inl ⟨by rfl,?hq4⟩) hSd ?_
    case hq4=>(intro wz hSw;have s1:=hSw.2.1;clear hSw;go_simp <;> with_reducible rfl)
    try simp only [Act.put,Qx,Qy,Qz]
    refine zG (i:=4) (v:=?q5) rfl (by kernel_rfl) (by kernel_rfl) (by kernel_rfl) (by kernel_rfl) (fun _ _ _ h=>h) (Or.inl ⟨by rfl,?hq5⟩) hSd ?_
    case hq5=>(intro wz hSw;clear hSw;go_simp <;> with_reducible rfl)
    try simp only [Act.put,Qx,Qy,Qz]
    refine zG (i:=5) (v:=?q6) rfl (by kernel_rfl) (by kernel_rfl) (by kernel_rfl) (by kernel_rfl) (fun _ _ _ h=>h) (Or.inl ⟨by rfl,?hq6⟩) hSd ?_
    case hq6=>(intro wz hSw;clear hSw;go_simp <;> with_reducible rfl)
    try simp only [Act.put,Qx,Qy,Qz]
    refine zG (i:=6) (v:=?q7) rfl (by kernel_rfl) (by kernel_rfl) (by kernel_rfl) (by kernel_rfl) (fun _ _ _ h=>h) (Or.inl ⟨by rfl,?hq7⟩) hSd ?_
    case hq7=>(intro wz hSw;clear hSw;go_simp <;> with_reducible rfl)
    try simp only [Act.put,Qx,Qy,Qz]
    refine zG (i:=7) (v:=?q8) rfl (by kernel_rfl) (by kernel_rfl) (by kernel_rfl) (by kernel_rfl) (fun _ _ _ h=>h) (Or.inl ⟨by rfl,?hq8⟩) hSd ?_
    case hq8=>(intro wz hSw;have s2:=hSw.2.2.1;have s3:=hSw.2.2.2.1;have s4:=hSw.2.2.2.2.1;have s5:=hSw.2.2.2.2.2.1;clear hSw;go_simp <;> with_reducible rfl)
    try simp only [Act.put,Qx,Qy,Qz]
    refine zG (i:=10) (v:=?q9) rfl (by kernel_rfl) (by kernel_rfl) (by kernel_rfl) (by kernel_rfl) (fun _ _ _ h=>h) (Or.inl ⟨by rfl,?hq9⟩) hSd ?_
    case hq9=>(intro wz hSw;clear hSw;go_simp <;> with_reducible rfl)
    try simp only [Act.put,Qx,Qy,Qz]
    refine zG (i:=11) (v:=?q10) rfl (by kernel_rfl) (by kernel_rfl) (by kernel_rfl) (by kernel_rfl) (fun _ _ _ h=>h) (Or.inl ⟨by rfl,?hq10⟩) hSd ?_
    case hq10=>(intro wz hSw;have s1:=hSw.2.1;clear hSw;go_simp <;> with_reducible rfl)
    try simp only [Act.put,Qx,Qy,Qz]
    refine zG (i:=12) (v:=?q11) rfl (by kernel_rfl) (by kernel_rfl) (by kernel_rfl) (by kernel_rfl) (fun _ _ _ h=>h) (Or.inl ⟨by rfl,?hq11⟩) hSd ?_
    case hq11=>(intro wz hSw;clear hSw;go_simp <;> with_reducible rfl)
    try simp only [Act.put,Qx,Qy,Qz]
    refine zG (i:=13) (v:=?q12) rfl (by kernel_rfl) (by kernel_rfl) (by kernel_rfl) (by kernel_rfl) (fun _ _ _ h=>h) (Or.inl ⟨by rfl,?hq12⟩) hSd ?_
    case hq12=>(intro wz hSw;clear hSw;go_simp <;> with_reducible rfl)
    try simp only [Act.put,Qx,Qy,Qz]
    refine zG (i:=14) (v:=?q13) rfl (by kernel_rfl) (by kernel_rfl) (by kernel_rfl) (by kernel_rfl) (fun _ _ _ h=>h) (Or.inl ⟨by rfl,?hq13⟩) hSd ?_
    case hq13=>(intro wz hSw;clear hSw;go_simp <;> with_reducible rfl)
    try simp only [Act.put,Qx,Qy,Qz]
    refine zG (i:=15) (v:=?q14) rfl (by kernel_rfl) (by kernel_rfl) (by kernel_rfl) (by kernel_rfl) (fun _ _ _ h=>h) (Or.inl ⟨by rfl,?hq14⟩) hSd ?_
    case hq14=>(intro wz hSw;have s6:=hSw.2.2.2.2.2.2;clear hSw;go_simp <;> with_reducible rfl)
    try simp only [Act.put,Qx,Qy,Qz]
    refine zA6 (i:=8) (j:=9) (by kernel_rfl) rfl rfl (fun K hK=>?_) (fun K hK=>?_)
    ·rw [if_pos (by rfl)]
     go_simp
     refine Calls.mono (HCp.out _ (zB HBw.out hB0)) ?_
     rintro e wk1 ⟨cg,cc,CH,rfl,hcg1,hF1,hbk1⟩
     have hBk1:Bw wr wk1:=zB hB0 hbk1
     have hSk1:LsS (w.heap.size+2) w.heap.size b k (.slice ua m uc) n cap kz kx ky fb fn fc ib io im ic wk1:=hS6.keepL hBk1
     go_wp2_with fail
     refine hK.out _ _ (fun _=>hSk1) ?_
     clear hK K
     try simp only [Act.put,Qx,Qy,Qz]
     refine zF (i:=9) (by kernel_rfl) rfl (fun K hK=>?_)
     go_simp
     generalize hwE2:(World.alloc _ _:World)=wE2
     have hbE2:Bw wk1 wE2:=by subst hwE2;exact Qb
     have hOE2:wE2.ownsRow wk1.heap.size 2 1 (.slice (some ⟨wk1.heap.size,0,none⟩) 0 0) 0 []:=by subst hwE2;exact World.ownsRow_lit (base:=wk1.heap.size) wk1 #[] 0 (Nat.le_refl _) (Nat.zero_le _) rfl
     have hzE2:wE2.heap.size=wk1.heap.size+1:=by subst hwE2;simp
     clear hwE2
     have hBE2:Bw wr wE2:=zB hBk1 hbE2
     have hSE2:LsS (w.heap.size+2) w.heap.size b k (.slice ua m uc) n cap kz kx ky fb fn fc ib io im ic wE2:=hS6.keepL hBE2
     refine hK.out _ _ (fun _=>hSE2) ?_
     clear hK K
     try simp only [Act.put,Qx,Qy,Qz]
     refine zF (i:=16) (by kernel_rfl) rfl (fun K hK=>?_)
     have hNc:uC wE2 ib io im kI:=uC.below HIn.out (zB HBw.out hBE2) hil
     have:=hB0.size
     have:=hbk1.size
     have:=hbE2.size
     have:=hBE2.size
     refine step_append_lies _ rfl (.tmp 29) (.tmp 35) 46 rfl wk1.heap.size 2 i0 (.int .i64 0) 1 8 Tryz.underlying46 hi hz0 hz1 hz2 rfl (by decide) (.slice (some ⟨wk1.heap.size,0,none⟩) 0 0) 0 [] rfl hOE2 ⟨ib,io,none⟩ im ic ((List.range im).map (fun i=>.int .i64 (kI i))) rfl ?e0a ?e1a ?e2a him ?e3a ?e4a ?e5a _ rfl ?_
     case e0a=>simp
     case e1a=>exact zEt hNc
     case e2a=>intro u hu;simp at hu;obtain ⟨i,_,rfl⟩:=hu;rfl
     case e3a=>unfold maxLen;omega
     case e4a=>omega
     case e5a=>omega
     intro gi ci wi hOi hgi hli hlti
     have hgi':wE2.grownBy wi (some wk1.heap.size):=hgi
     have hgb:wk1.heap.size≤gi:=by
      rcases hli with h | h
      ·have e:wk1.heap.size=gi:=Option.some.inj h
       omega
      ·omega
     have hBi:Bw wr wi:=hBE2.trans ((Below.refl _ _).grown hgi' hBE2.size (fun j e=>by have e':wk1.heap.size=j:=Option.some.inj e;omega))
     have hSi:LsS (w.heap.size+2) w.heap.size b k (.slice ua m uc) n cap kz kx ky fb fn fc ib io im ic wi:=hS6.keepL hBi
     have hFi:uT wi wr.drew.heap.size wk1.heap.size (some ⟨cg,0,none⟩) fn kF CH:=hF1.keep (hbE2.trans ((Below.refl _ _).grown hgi' hbE2.size (fun j e=>by have e':wk1.heap.size=j:=Option.some.inj e;omega)))
     simp only [Nat.zero_add,List.nil_append] at hOi ⊢
     have hNi:uC wi gi 0 im kI:=zB6 hOi
     refine hK.out _ _ (fun _=>hSi) ?_
     clear hK K
     try simp only [Act.put,Qx,Qy,Qz]
     refine zG (i:=17) (v:=?q15) rfl (by kernel_rfl) (by kernel_rfl) (by kernel_rfl) (by kernel_rfl) (fun _ _ _ h=>h) (Or.inl ⟨by rfl,?hq15⟩) hSi ?_
     case hq15=>(intro wz hSw;clear hSw;go_simp <;> with_reducible rfl)
     try simp only [Act.put,Qx,Qy,Qz]
     refine zF (i:=18) (by kernel_rfl) rfl (fun K hK=>?_)
     go_simp
     generalize hwA:(World.alloc _ _:World)=wA
     have hbA:Bw wi wA:=by subst hwA;exact Qb
     have hzA:wA.heap.size=wi.heap.size+1:=by subst hwA;simp
     have hnew:∀ q v,(zBt (agK ⟨kz,kx,ky,some ⟨cg,0,none⟩,fn,cc,CH,some ⟨gi,0,none⟩,im,ci,kI⟩ 0))[q]?=some v→wA.cell? ((⟨wi.heap.size,0,none⟩:Addr).add q)=some v:=by
      intro q v hq
      have hq5:q<5:=(List.getElem?_eq_some_iff.1 hq).1
      have hc:q=0∨q=1∨q=2∨q=3∨q=4:=by omega
      subst hwA
      rcases hc with rfl | rfl | rfl | rfl | rfl <;> (simp [zBt,agK] at hq;subst hq;simp [Addr.add,go_sem])
     have HOA:wA.ownsRow (w.heap.size+3) 141 5 (.slice ua m uc) m (yU (zDc m R)):=zO (zO HO.out hBi) hbA
     clear hwA
     have hBA:Bw wr wA:=zB hBi hbA
     have hsA:=hBA.size
     have hSA:LsS (w.heap.size+2) w.heap.size b k (.slice ua m uc) n cap kz kx ky fb fn fc ib io im ic wA:=hS6.keepL hBA
     refine hK.out _ _ (fun _=>hSA) ?_
     clear hK K
     try simp only [Act.put,Qx,Qy,Qz]
     refine zF (i:=19) (by kernel_rfl) rfl (fun K hK=>?_)
     refine step_append_lies _ rfl (.tmp 21) (.tmp 38) 26 rfl (w.heap.size+3) 141 j0 (.agg zDv) 5 72 Tryz.underlying26 hj hy0 hy1 hy2 rfl (by decide) (.slice ua m uc) m (yU (zDc m R)) rfl HOA ⟨wi.heap.size,0,none⟩ 1 1 (zBt (agK ⟨kz,kx,ky,some ⟨cg,0,none⟩,fn,cc,CH,some ⟨gi,0,none⟩,im,ci,kI⟩ 0)) rfl rfl hnew (zAy _) (by omega) ?f3a ?f4a ?f5a _ rfl ?_
     case f3a=>unfold maxLen;omega
     case f4a=>omega
     case f5a=>omega
     intro gr cr w3 hO3 hg3 hl3 hlt3
     have hBg:Below (w.heap.size+3) wA w3:=(Below.refl _ _).grown hg3 (by omega) (fun j e=>(HOA.lt j e).1)
     have hB3:Below (w.heap.size+3) wr w3:=(hBA.mono hs3).trans hBg
     have hS3:LsS (w.heap.size+2) w.heap.size b k (.slice ua m uc) n cap kz kx ky fb fn fc ib io im ic w3:=hS6.keepL2 hB3 (by omega) (by omega) (by omega)
     refine hK.out _ _ (fun _=>hS3) ?_
     clear hK K
     try simp only [Act.put,Qx,Qy,Qz]
     refine zG (i:=20) (v:=?q16) rfl (by kernel_rfl) (by kernel_rfl) (by kernel_rfl) (by kernel_rfl) (fun _ _ _ h=>h) (Or.inl ⟨by rfl,?hq16⟩) hS3 ?_
     case hq16=>(intro wz hSw;clear hSw;go_simp <;> with_reducible rfl)
     try simp only [Act.put,Qx,Qy,Qz]
     have HT3:Hid (zC w3 (w.heap.size+2) 2):=HTq.out.belowK hB3 (by omega)
     have z1:=hS3.1
     have y1:=(HT3.out 1 (by omega)).2
     refine zF (i:=21) (by kernel_rfl) rfl (fun K hK=>?_)
     go_simp
     refine hK.out _ _ (fun h=>absurd rfl h) ?_
     clear hK K
     try simp only [Act.put,Qx,Qy,Qz]
     refine zY (by kernel_rfl) ?_ _
     refine NoPanic.normal ?_
     have HLF:=(show Hid _ from zHy (B:=w.heap.size+3) (gr:=gr) (u:=.slice ua m uc) hBi hbA hg3 ((zI.refl (w.heap.size+2) (w.heap.size+2+1) w3).set (Nat.le_refl _) (Nat.lt_succ_self _) 1 (.slice (some ⟨gr,0,none⟩) (m+1) cr)) (by omega) hl3)
     have HNw:=(show Hid _ from zE5 (B:=w.heap.size+3) (T:=wr.heap.size) (ob:=(Value.slice ua m uc).ownBlock) (kz:=kz) (kx:=kx) (ky:=ky) (kfa:=some ⟨fb,0,none⟩) (fc:=fc) (cc:=cc) (ic:=ic) (ci:=ci) (kia:=some ⟨ib,io,none⟩) hs3 (fun j e=>(HO.out.lt j e).2) hFi (Nat.lt_of_lt_of_le hcg1 (by have:=hgi'.size;omega)) (hB0.size) hNi (by omega) hlti HKp.out.1 HKp.out.2.1 HKp.out.2.2 him1)
     have HO3:Hid (w3.ownsRow (w.heap.size+3) 141 5 (.slice (some ⟨gr,0,none⟩) (m+1) cr) (m+1) (yU (zDc (m+1) (fun i=>if i=m then ⟨kz,kx,ky,some ⟨cg,0,none⟩,fn,cc,CH,some ⟨gi,0,none⟩,im,ci,kI⟩ else R i)))):=by
      show World.ownsRow _ _ _ _ _ _ _
      rw [zEn,zAx]
      have e1:yU [agK ⟨kz,kx,ky,some ⟨cg,0,none⟩,fn,cc,CH,some ⟨gi,0,none⟩,im,ci,kI⟩ 0]=zBt (agK ⟨kz,kx,ky,some ⟨cg,0,none⟩,fn,cc,CH,some ⟨gi,0,none⟩,im,ci,kI⟩ 0):=by simp [yU]
      rw [e1]
      exact hO3
     have HB3:Hid (Below (w.heap.size+3) wr w3):=hB3
     have H30:Hid (w3.cell? ⟨w.heap.size+2,0,none⟩=some (.int .i64 s)):=(hB3.cell (p:=⟨w.heap.size+2,0,none⟩) (by first | (simp;done) | (simp;omega))).trans H0.out
     have HP3:Hid (w3.cell? ⟨w.heap.size,1,none⟩=some (.slice (some ⟨b,0,none⟩) n cap)):=(hB3.cell (p:=⟨w.heap.size,1,none⟩) (by first | (simp;done) | (simp;omega))).trans HP1.out
     have HTr3:Hid (zC w3 (w.heap.size+1) 2):=HTr.out.belowK hB3 (by omega)
     have hs33:=hB3.size
     have hz3:∃ v,w3.cell? ⟨w.heap.size+2,1,none⟩=some v:=⟨_,z1⟩
     clear hS3 hSA hSi hnew hO3 hg3 hl3 hFi hNi hgi hgi' hli hOi hNc hS6 y1 HOA hBg hB3 hBA hbA hBi
     go_wp2_with fail
     go_roundw
     case rel =>
      refine ⟨k+1,m+1,_,some ⟨gr,0,none⟩,cr,by have:=HLT.out;omega,by go_num,by rw [HJ.out,List.length_append,← HM.out];rfl,HT3.out.setN _ _,?_,zD z1,vC HO3.out (by omega),fun i hi=>?_,?_,HTr3.out.otherJ (by omega),(HBw.out.trans (HB3.out.mono (by omega))).setCell (by first | (simp;done) | (simp;omega)) _,by simpa [World.setCell] using Nat.le_trans hs3 hs33⟩
      ·rw [zA (fun e=>by injection e with _ e;omega)];exact H30.out
      ·show zJa _ (some gr) _ _ _
       rw [HAk.out i hi]
       intro WW hWW
       by_cases e:i=m
       ·rw [if_pos e,if_pos e];exact HNw.out WW (HLF.out.1 WW hWW)
       ·rw [if_neg e,if_neg e];exact HFar.out i (by omega) WW (HLF.out.2 WW hWW)
      ·rw [zA (fun e=>by injection e with e _;omega)];exact HP3.out
     case measure=>have:=HLT.out;simp [intOf];omega
    ·rw [if_pos (by rfl)]
     go_simp
     generalize hwE3:World.drew (World.alloc _ _)=wE3
     have hbE3:Bw wr wE3:=by subst hwE3;exact Qb
     have hOE3:wE3.ownsRow wr.heap.size 2 1 (.slice (some ⟨wr.heap.size,0,none⟩) 0 0) 0 []:=by subst hwE3;exact World.ownsRow_lit (base:=wr.heap.size) wr #[] 0 (Nat.le_refl _) (Nat.zero_le _) rfl
     have hzE3:wE3.heap.size=wr.heap.size+1:=by subst hwE3;simp
     clear hwE3
     have hBE3:Bw wr wE3:=hbE3
     have hSE3:LsS (w.heap.size+2) w.heap.size b k (.slice ua m uc) n cap kz kx ky fb fn fc ib io im ic wE3:=hS6.keepL hBE3
     refine hK.out _ _ (fun _=>hSE3) ?_
     clear hK K
     try simp only [Act.put,Qx,Qy,Qz]
     refine zF (i:=8) (by kernel_rfl) rfl (fun K hK=>?_)
     go_simp
     refine Calls.mono (HCp.out _ (zB HBw.out hBE3)) ?_
     rintro e wk4 ⟨cg,cc,CH,rfl,hcg4,hF4,hbk4⟩
     have hBk4:Bw wr wk4:=zB hBE3 hbk4
     have hSk4:LsS (w.heap.size+2) w.heap.size b k (.slice ua m uc) n cap kz kx ky fb fn fc ib io im ic wk4:=hS6.keepL hBk4
     go_wp2_with fail
     refine hK.out _ _ (fun _=>hSk4) ?_
     clear hK K
     try simp only [Act.put,Qx,Qy,Qz]
     refine zF (i:=16) (by kernel_rfl) rfl (fun K hK=>?_)
     have hNc:uC wk4 ib io im kI:=uC.below HIn.out (zB HBw.out hBk4) hil
     have:=hB0.size
     have:=hbk4.size
     have:=hbE3.size
     have:=hBk4.size
     refine step_append_lies _ rfl (.tmp 29) (.tmp 35) 46 rfl wr.heap.size 2 i0 (.int .i64 0) 1 8 Tryz.underlying46 hi hz0 hz1 hz2 rfl (by decide) (.slice (some ⟨wr.heap.size,0,none⟩) 0 0) 0 [] rfl (zO hOE3 hbk4) ⟨ib,io,none⟩ im ic ((List.range im).map (fun i=>.int .i64 (kI i))) rfl ?e0b ?e1b ?e2b him ?e3b ?e4b ?e5b _ rfl ?_
     case e0b=>simp
     case e1b=>exact zEt hNc
     case e2b=>intro u hu;simp at hu;obtain ⟨i,_,rfl⟩:=hu;rfl
     case e3b=>unfold maxLen;omega
     case e4b=>omega
     case e5b=>omega
     intro gi ci wi hOi hgi hli hlti
     have hgi':wk4.grownBy wi (some wr.heap.size):=hgi
     have hgb:wr.heap.size≤gi:=by
      rcases hli with h | h
      ·have e:wr.heap.size=gi:=Option.some.inj h
       omega
      ·omega
     have hBi:Bw wr wi:=hBk4.trans ((Below.refl _ _).grown hgi' hBk4.size (fun j e=>by have e':wr.heap.size=j:=Option.some.inj e;omega))
     have hSi:LsS (w.heap.size+2) w.heap.size b k (.slice ua m uc) n cap kz kx ky fb fn fc ib io im ic wi:=hS6.keepL hBi
     have hFi:uT wi wE3.heap.size wk4.heap.size (some ⟨cg,0,none⟩) fn kF CH:=hF4.mid' (zI.of_grown hgi' (Nat.le_refl _) (Nat.lt_succ_self _)) (by omega)
     simp only [Nat.zero_add,List.nil_append] at hOi ⊢
     have hNi:uC wi gi 0 im kI:=zB6 hOi
     refine hK.out _ _ (fun _=>hSi) ?_
     clear hK K
     try simp only [Act.put,Qx,Qy,Qz]
     refine zG (i:=17) (v:=?q17) rfl (by kernel_rfl) (by kernel_rfl) (by kernel_rfl) (by kernel_rfl) (fun _ _ _ h=>h) (Or.inl ⟨by rfl,?hq17⟩) hSi ?_
     case hq17=>(intro wz hSw;clear hSw;go_simp <;> with_reducible rfl)
     try simp only [Act.put,Qx,Qy,Qz]
     refine zF (i:=18) (by kernel_rfl) rfl (fun K hK=>?_)
     go_simp
     generalize hwA:(World.alloc _ _:World)=wA
     have hbA:Bw wi wA:=by subst hwA;exact Qb
     have hzA:wA.heap.size=wi.heap.size+1:=by subst hwA;simp
     have hnew:∀ q v,(zBt (agK ⟨kz,kx,ky,some ⟨cg,0,none⟩,fn,cc,CH,some ⟨gi,0,none⟩,im,ci,kI⟩ 0))[q]?=some v→wA.cell? ((⟨wi.heap.size,0,none⟩:Addr).add q)=some v:=by
      intro q v hq
      have hq5:q<5:=(List.getElem?_eq_some_iff.1 hq).1
      have hc:q=0∨q=1∨q=2∨q=3∨q=4:=by omega
      subst hwA
      rcases hc with rfl | rfl | rfl | rfl | rfl <;> (simp [zBt,agK] at hq;subst hq;simp [Addr.add,go_sem])
     have HOA:wA.ownsRow (w.heap.size+3) 141 5 (.slice ua m uc) m (yU (zDc m R)):=zO (zO HO.out hBi) hbA
     clear hwA
     have hBA:Bw wr wA:=zB hBi hbA
     have hsA:=hBA.size
     have hSA:LsS (w.heap.size+2) w.heap.size b k (.slice ua m uc) n cap kz kx ky fb fn fc ib io im ic wA:=hS6.keepL hBA
     refine hK.out _ _ (fun _=>hSA) ?_
     clear hK K
     try simp only [Act.put,Qx,Qy,Qz]
     refine zF (i:=19) (by kernel_rfl) rfl (fun K hK=>?_)
     refine step_append_lies _ rfl (.tmp 21) (.tmp 38) 26 rfl (w.heap.size+3) 141 j0 (.agg zDv) 5 72 Tryz.underlying26 hj hy0 hy1 hy2 rfl (by decide) (.slice ua m uc) m (yU (zDc m R)) rfl HOA ⟨wi.heap.size,0,none⟩ 1 1 (zBt (agK ⟨kz,kx,ky,some ⟨cg,0,none⟩,fn,cc,CH,some ⟨gi,0,none⟩,im,ci,kI⟩ 0)) rfl rfl hnew (zAy _) (by omega) ?f3b ?f4b ?f5b _ rfl ?_
     case f3b=>unfold maxLen;omega
     case f4b=>omega
     case f5b=>omega
     intro gr cr w3 hO3 hg3 hl3 hlt3
     have hBg:Below (w.heap.size+3) wA w3:=(Below.refl _ _).grown hg3 (by omega) (fun j e=>(HOA.lt j e).1)
     have hB3:Below (w.heap.size+3) wr w3:=(hBA.mono hs3).trans hBg
     have hS3:LsS (w.heap.size+2) w.heap.size b k (.slice ua m uc) n cap kz kx ky fb fn fc ib io im ic w3:=hS6.keepL2 hB3 (by omega) (by omega) (by omega)
     refine hK.out _ _ (fun _=>hS3) ?_
     clear hK K
     try simp only [Act.put,Qx,Qy,Qz]
     refine zG (i:=20) (v:=?q18) rfl (by kernel_rfl) (by kernel_rfl) (by kernel_rfl) (by kernel_rfl) (fun _ _ _ h=>h) (Or.inl ⟨by rfl,?hq18⟩) hS3 ?_
     case hq18=>(intro wz hSw;clear hSw;go_simp <;> with_reducible rfl)
     try simp only [Act.put,Qx,Qy,Qz]
     have HT3:Hid (zC w3 (w.heap.size+2) 2):=HTq.out.belowK hB3 (by omega)
     have z1:=hS3.1
     have y1:=(HT3.out 1 (by omega)).2
     refine zF (i:=21) (by kernel_rfl) rfl (fun K hK=>?_)
     go_simp
     refine hK.out _ _ (fun h=>absurd rfl h) ?_
     clear hK K
     try simp only [Act.put,Qx,Qy,Qz]
     refine zY (by kernel_rfl) ?_ _
     refine NoPanic.normal ?_
     have HLF:=(show Hid _ from zHy (B:=w.heap.size+3) (gr:=gr) (u:=.slice ua m uc) hBi hbA hg3 ((zI.refl (w.heap.size+2) (w.heap.size+2+1) w3).set (Nat.le_refl _) (Nat.lt_succ_self _) 1 (.slice (some ⟨gr,0,none⟩) (m+1) cr)) (by omega) hl3)
     have HNw:=(show Hid _ from zE5 (B:=w.heap.size+3) (T:=wr.heap.size) (ob:=(Value.slice ua m uc).ownBlock) (kz:=kz) (kx:=kx) (ky:=ky) (kfa:=some ⟨fb,0,none⟩) (fc:=fc) (cc:=cc) (ic:=ic) (ci:=ci) (kia:=some ⟨ib,io,none⟩) hs3 (fun j e=>(HO.out.lt j e).2) hFi (Nat.lt_of_lt_of_le hcg4 (by have:=hgi'.size;omega)) (hBE3.size) hNi (by omega) hlti HKp.out.1 HKp.out.2.1 HKp.out.2.2 him1)
     have HO3:Hid (w3.ownsRow (w.heap.size+3) 141 5 (.slice (some ⟨gr,0,none⟩) (m+1) cr) (m+1) (yU (zDc (m+1) (fun i=>if i=m then ⟨kz,kx,ky,some ⟨cg,0,none⟩,fn,cc,CH,some ⟨gi,0,none⟩,im,ci,kI⟩ else R i)))):=by
      show World.ownsRow _ _ _ _ _ _ _
      rw [zEn,zAx]
      have e1:yU [agK ⟨kz,kx,ky,some ⟨cg,0,none⟩,fn,cc,CH,some ⟨gi,0,none⟩,im,ci,kI⟩ 0]=zBt (agK ⟨kz,kx,ky,some ⟨cg,0,none⟩,fn,cc,CH,some ⟨gi,0,none⟩,im,ci,kI⟩ 0):=by simp [yU]
      rw [e1]
      exact hO3
     have HB3:Hid (Below (w.heap.size+3) wr w3):=hB3
     have H30:Hid (w3.cell? ⟨w.heap.size+2,0,none⟩=some (.int .i64 s)):=(hB3.cell (p:=⟨w.heap.size+2,0,none⟩) (by first | (simp;done) | (simp;omega))).trans H0.out
     have HP3:Hid (w3.cell? ⟨w.heap.size,1,none⟩=some (.slice (some ⟨b,0,none⟩) n cap)):=(hB3.cell (p:=⟨w.heap.size,1,none⟩) (by first | (simp;done) | (simp;omega))).trans HP1.out
     have HTr3:Hid (zC w3 (w.heap.size+1) 2):=HTr.out.belowK hB3 (by omega)
     have hs33:=hB3.size
     have hz3:∃ v,w3.cell? ⟨w.heap.size+2,1,none⟩=some v:=⟨_,z1⟩
     clear hS3 hSA hSi hnew hO3 hg3 hl3 hFi hNi hgi hgi' hli hOi hNc hS6 y1 HOA hBg hB3 hBA hbA hBi
     go_wp2_with fail
     go_roundw
     case rel =>
      refine ⟨k+1,m+1,_,some ⟨gr,0,none⟩,cr,by have:=HLT.out;omega,by go_num,by rw [HJ.out,List.length_append,← HM.out];rfl,HT3.out.setN _ _,?_,zD z1,vC HO3.out (by omega),fun i hi=>?_,?_,HTr3.out.otherJ (by omega),(HBw.out.trans (HB3.out.mono (by omega))).setCell (by first | (simp;done) | (simp;omega)) _,by simpa [World.setCell] using Nat.le_trans hs3 hs33⟩
      ·rw [zA (fun e=>by injection e with _ e;omega)];exact H30.out
      ·show zJa _ (some gr) _ _ _
       rw [HAk.out i hi]
       intro WW hWW
       by_cases e:i=m
       ·rw [if_pos e,if_pos e];exact HNw.out WW (HLF.out.1 WW hWW)
       ·rw [if_neg e,if_neg e];exact HFar.out i (by omega) WW (HLF.out.2 WW hWW)
      ·rw [zA (fun e=>by injection e with e _;omega)];exact HP3.out
     case measure=>have:=HLT.out;simp [intOf];omega
  ·obtain rfl:n=k:=by omega
   obtain ⟨t0,t1⟩:(∃ v,wr.cell? ⟨w.heap.size+1,0,none⟩=some v)∧∃ v,wr.cell? ⟨w.heap.size+1,1,none⟩=some v:=⟨(HTr.out 0 (by omega)).1,(HTr.out 1 (by omega)).1⟩
   obtain ⟨v0,t0⟩:=t0
   obtain ⟨v1,t1⟩:=t1
   have f0:=(HTr.out 0 (by omega)).2
   have f1:=(HTr.out 1 (by omega)).2
   go_wp2_with fail
   obtain ⟨z0,z1⟩:=zA8 (W:=wr) (r:=w.heap.size+1) (i:=0) (j:=1) (u:=.int .i64 s) (v:=.slice ua m uc) (by omega) (by rw [t0];rfl) (by rw [t1];rfl)
   have hMF:=(((zI.refl (w.heap.size+1) (w.heap.size+1+1) wr).set (Nat.le_refl _) (Nat.lt_succ_self _) 0 (.int .i64 s)).set (Nat.le_refl _) (Nat.lt_succ_self _) 1 (.slice ua m uc))
   refine bodyPost_ret (resLs rfl z0 z1) rfl ⟨ua,uc,R,by rw [HM.out],?_,(HBw.out.setCell (Nat.le_succ _) _).setCell (Nat.le_succ _) _,by simpa [World.setCell] using hs3⟩
   rw [← HM.out]
   have hOF:=vC (o:=1) (u:=.slice ua m uc) (vC (o:=0) (u:=.int .i64 s) HO.out (show w.heap.size+1<w.heap.size+3 by omega)) (show w.heap.size+1<w.heap.size+3 by omega)
   exact ⟨hOF,fun i hi W hW=>HFar.out i hi W (hW.of_mid hMF (by omega))⟩
def zFd (n:Nat)(A:Nat→Kp)(z x y:Int):List Nat:=xP n A z x y ++ [(atK n A z x y).toNat]
end Go.Proofs.YtpaiholildedcaaGreat
