/- Texts. -/
import Derived.Test.YtpaiholildedcaaGreatVNewViewer26
set_option linter.unusedSimpArgs false
set_option linter.unusedVariables false
set_option maxRecDepth 100000
set_option maxHeartbeats 32000000
namespace Go.Proofs.YtpaiholildedcaaGreat
open Go.RowKit
theorem kC_m {A:Nat→Kp}{i:Nat}(h:kC A i=0):(A i).m=64:=by
 have h1:=(uH h).1
 have h2:=zJo h1
 have h3:(rtL (A i).z (A i).x (A i).y (A i).fn (A i).F).length=64:=by unfold rtL;rw [if_pos h2,zLg]
 by_cases e:(A i).m=64
 ·exact e
 ·have:=zLb h2 (zJu (by rw [h3];exact e))
  rw [h1] at this;cases this
theorem zJ9 {n:Nat}{A:Nat→Kp}{z x y:Int}(h0:∀ j,j<n→kC A j=0)(hat:0≤atK n A z x y):vI (atK n A z x y) n=xP n A z x y:=by
 rcases zC3 n A z x y with h | ⟨i,hi,h,a1,a2,a3⟩
 ·rw [h] at hat;omega
 rw [h]
 have hi1:isK (A i) z x y=true:=xA.2 ⟨a1,a2,a3⟩
 have hno:∀ k,k<n→k≠i→isK (A k) z x y=false:=fun k hk hne=>by
  cases e:isK (A k) z x y
  ·rfl
  ·obtain ⟨b1,b2,b3⟩:=xA.1 e
   rcases Nat.lt_or_ge k i with hl | hl
   ·exact absurd (xF.2 ⟨k,hl,xA.2 ⟨b1.trans a1.symm,b2.trans a2.symm,b3.trans a3.symm⟩⟩) (uH (h0 i hi)).2
   ·exact absurd (xF.2 ⟨i,by omega,xA.2 ⟨a1.trans b1.symm,a2.trans b2.symm,a3.trans b3.symm⟩⟩) (uH (h0 k hk)).2
 have hall:∀ k,k≤n→vI (i:Int) k=(List.range k).filter (fun j=>!isK (A j) z x y):=by
  intro k
  induction k with
  | zero=>intro _;rfl
  | succ k ih =>
   intro hk
   rw [vI,List.range_succ,List.filter_append,ih (by omega)]
   by_cases e:(k:Int)=(i:Int)
   ·have e':k=i:=by omega
    rw [if_pos e,e']
    simp [hi1]
   ·have e':k≠i:=by omega
    rw [if_neg e]
    simp [hno k (by omega) e']
 exact hall n (Nat.le_refl _)
theorem uD.sm {w:World}{B:Nat}{a:Option Addr}{n:Nat}{KL R:Nat→Kp}(h:uD w B a n KL R):zHm w a n KL R:=by
 rcases h with h | ⟨g,M,e,hB,hA,hT,hg,hM,hMn⟩
 ·exact .inl h
 have h0n:=upM (M:=M) (n:=n) (fun j hj=>(hM j hj).1) (Nat.zero_le n) (Nat.le_refl _)
 refine .inr ⟨g,e,by omega,fun i hi=>⟨?_,?_⟩⟩
 ·have:=hA i hi
  rw [if_pos hi] at this
  exact this
 ·have hin:=upM (M:=M) (n:=n) (fun j hj=>(hM j hj).1) (show i+1≤n by omega) (Nat.le_refl _)
  obtain ⟨_,h1,h2,h3,h4,md,h5,h6,⟨f1,f2,_⟩,h8⟩:=hM i hi
  refine ⟨h1,h2,h3,⟨by rw [← h2] at f1 ⊢;exact f1,fun j hj=>(f2 j hj).1⟩,?_⟩
  rcases h8 with h8 | ⟨ib,e1,_,e2,e3,_⟩
  ·exact .inl h8
  ·rw [e1];exact e3.is (by omega)
theorem uD.mid {w w':World}{B:Nat}{a:Option Addr}{n:Nat}{KL R:Nat→Kp}{l h':Nat}(h:uD w B a n KL R)(hM:zI l h' w w')(hh:h'≤B):uD w' B a n KL R:=by
 refine h.imp id (fun ⟨g,M,e,hB,hA,hT,hg,hK,hMn⟩=>⟨g,M,e,hB,fun j hj=>?_,hM.there hT (.inr (by omega)),hg,fun j hj=>⟨(hK j hj).1,(hK j hj).2.mid hM ?_⟩,Nat.le_trans hMn hM.size⟩)
 ·obtain ⟨q0,q1,q2,q3,q4⟩:=hA j hj
  exact ⟨hM.cell q0 (.inr (by omega)),hM.cell q1 (.inr (by omega)),hM.cell q2 (.inr (by omega)),hM.cell q3 (.inr (by omega)),hM.cell q4 (.inr (by omega))⟩
 ·have:=upM (M:=M) (n:=n) (fun j hj=>(hK j hj).1) (Nat.zero_le j) (by omega)
  omega
theorem uD.below {w w':World}{B:Nat}{a:Option Addr}{n:Nat}{KL R:Nat→Kp}(h:uD w B a n KL R)(hb:Below w.heap.size w w'):uD w' B a n KL R:=h.mid (zI.of_below (lo:=0) (hi:=0) hb) (Nat.zero_le _)
theorem uD.small {w:World}{B:Nat}{a:Option Addr}{n:Nat}{KL R:Nat→Kp}(h:uD w B a n KL R)(hs:yE n KL):yE n R:=by
 refine ⟨hs.1,fun i hi=>?_⟩
 rcases h with h | ⟨g,M,e,hB,hA,hT,hg,hM,hMn⟩
 ·omega
 obtain ⟨_,h1,h2,h3,h4,md,h5,h6,⟨f1,f2,_⟩,h8⟩:=hM i hi
 have hk:=hs.2 i hi
 refine ⟨⟨by rw [h2];exact hk.1.1,fun j hj=>?_⟩,by rw [h3];exact hk.2⟩
 rw [h2] at hj
 obtain ⟨_,_,_,_,g5,_,_,g8,_⟩:=(f2 j hj).1
 rw [g5,g8]
 exact hk.1.2 j hj
def CrW (w:World)(B hi:Nat)(a:Option Addr)(n:Nat)(R:Nat→Kp):Prop:=n=0∨∃ g M,a=some ⟨g,0,none⟩∧B≤g∧KsW w g n R M∧M n≤hi
theorem uD.crw {w:World}{B:Nat}{a:Option Addr}{n:Nat}{KL R:Nat→Kp}(h:uD w B a n KL R):CrW w B w.heap.size a n R:=by
 refine h.imp id (fun ⟨g,M,e,hB,hA,hT,hg,hM,hMn⟩=>⟨g,M,e,hB,⟨hT,hg,fun j hj=>⟨(hM j hj).1,?_,?_⟩,hMn⟩,hMn⟩)
 ·have:=hA j hj
  rw [if_pos hj] at this
  exact ⟨this.2.2.2.1,this.2.2.2.2⟩
 ·have hin:=upM (M:=M) (n:=n) (fun j hj=>(hM j hj).1) (show j+1≤n by omega) (Nat.le_refl _)
  obtain ⟨_,h1,h2,h3,h4,md,h5,h6,⟨_,_,f3⟩,h8⟩:=hM j hj
  refine ⟨md,h5,h6,by omega,?_,?_⟩
  ·rw [h2];exact f3
  ·rw [h3];exact h8.imp id (fun ⟨ib,e1,e2,e3,_,e5⟩=>⟨ib,e1,e2,e3,e5⟩)
theorem CrW.mid {w w':World}{B hi:Nat}{a:Option Addr}{n:Nat}{R:Nat→Kp}{l h':Nat}(h:CrW w B hi a n R)(hM:zI l h' w w')(hh:h'≤B):CrW w' B hi a n R:=h.imp id (fun ⟨g,M,e,hB,hK,hMn⟩=>⟨g,M,e,hB,hK.mid hM (.inl (by omega)),hMn⟩)
theorem CrW.below {w w':World}{B hi:Nat}{a:Option Addr}{n:Nat}{R:Nat→Kp}(h:CrW w B hi a n R)(hb:Below w.heap.size w w'):CrW w' B hi a n R:=h.mid (zI.of_below (lo:=0) (hi:=0) hb) (Nat.zero_le _)
theorem zDi (a:Option Addr)(c k:Int)(cap:Nat)(w:World):Calls Tryz.prog 101 #[.slice a 0 cap,.int .i64 k] w fun e w'=>e=.returned (.int .i64 k)∧w=w':=by
 go_enter Tryz.func101,Tryz.ntmps101
 go_wp2_with fail
 go_loopw [1,5] (fun kk i wr=>kk=.int .i64 k∧i=.int .i64 0∧w=wr) (fun _ _ _=>0)
 case atStart=>exact ⟨rfl,rfl,rfl⟩
 case round =>
  obtain ⟨rfl,rfl,rfl⟩:=hrel
  go_wp2
  go_ret
  exact ⟨rfl,rfl⟩
theorem zDn (a:Option Addr)(k:Int)(cap:Nat)(w:World):Calls Tryz.prog 137 #[.slice a 0 cap,.int .i64 k] w fun e w'=>e=.returned (.int .i64 k)∧w=w':=by
 go_enter Tryz.func137,Tryz.ntmps137
 go_wp2_with fail
 go_loopw [1,5] (fun kk i wr=>kk=.int .i64 k∧i=.int .i64 0∧w=wr) (fun _ _ _=>0)
 case atStart=>exact ⟨rfl,rfl,rfl⟩
 case round =>
  obtain ⟨rfl,rfl,rfl⟩:=hrel
  go_wp2
  go_ret
  exact ⟨rfl,rfl⟩
theorem zC.keepB {w w':World}{q n:Nat}(h:zC w q n)(he:w'.heap[q]?=w.heap[q]?):zC w' q n:=fun o hn=>by
 obtain ⟨v,hv⟩:=(h o hn).1
 refine ⟨⟨v,(World.cell?_of_block (a:=⟨q,o,none⟩) he).trans hv⟩,?_⟩
 have hz:=(h o hn).2
 unfold World.frozen? at hz ⊢
 simp only [he]
 exact hz
theorem zFq {base s n r o:Nat}{t:TypeId}{w:World}{v u:Value}{xs:List Value}(h:w.ownsRow base t s v n xs)(hr:∀ g,v.ownBlock=some g→g≠r):(w.setCell ⟨r,o,none⟩ u).ownsRow base t s v n xs:=by
 obtain ⟨h1,h2 | ⟨g,cp,cur,hv,hg,hh,h3⟩⟩:=h
 ·exact ⟨h1,.inl h2⟩
 ·refine ⟨h1,.inr ⟨g,cp,cur,hv,hg,(((zI.refl r (r+1) w).set (Nat.le_refl _) (Nat.lt_succ_self _) o u).block g (Array.getElem?_eq_some_iff.1 hh).1 ?_).trans hh,h3⟩⟩
  have:=hr g (by rw [hv];rfl)
  omega
theorem zMd {B gr q:Nat}{u:Value}{wr wA w3 w5:World}(hA:Below wr.heap.size wr wA)(h3:wA.grownBy w3 u.ownBlock)(h5:zI q (q+1) w3 w5)(hq:wr.heap.size≤q∨q<B)(hl:u.ownBlock=some gr∨gr=wA.heap.size):∀ W,GrF B (some gr) w5 W→GrF B u.ownBlock wr W:=fun W h=>by
 have hsA:=hA.size
 have hs3:=h3.size
 have hs5:=h5.size
 refine ⟨?_,?_,?_,by have:=h.size;omega,fun j h1 h2 h3'=>?_⟩
 ·rw [h.os,h5.os,h3.os,hA.os]
 ·rw [h.tape,h5.tape,h3.tape,hA.tape]
 ·rw [h.output,h5.output,h3.output,hA.output]
 ·have e1:some j≠some gr:=by
   rcases hl with hl | hl
   ·rw [← hl];exact h3'
   ·intro e;injection e with e;omega
  rw [h.block j h1 (by omega) e1,h5.block j (by omega) (by omega)]
  exact (h3.block j (by omega) h3').trans (hA.block j h2)
theorem zDu.add {B T q gr cr:Nat}{w2 wi wA w3:World}{ua:Option Addr}{uc m:Nat}{K R:Nat→Kp}{k0 r:Kp}{v:Value}(h:zDu B w2 ua uc m K R)(hi:Below w2.heap.size w2 wi)(hA:Below wi.heap.size wi wA)(hO3:w3.ownsRow B 141 5 (.slice (some ⟨gr,0,none⟩) (m+1) cr) (m+1) (yU (zDc m R) ++ zBt (agK r 0)))(h3:wA.grownBy w3 (Value.slice ua m uc).ownBlock)(hl:(Value.slice ua m uc).ownBlock=some gr∨gr=wA.heap.size)(hq:w2.heap.size≤q∨q<B)(hqi:q<wi.heap.size)(hqT:q<T)(hBT:B≤T)(hr:zJa T (Value.slice ua m uc).ownBlock wi k0 r) :
  zDu B (w3.setCell ⟨q,1,none⟩ v) (some ⟨gr,0,none⟩) cr (m+1) (fun i=>if i=m then k0 else K i) (fun i=>if i=m then r else R i):=by
 have hM:=(zI.refl q (q+1) w3).set (Nat.le_refl _) (Nat.lt_succ_self _) 1 v
 have hsA:=hA.size
 have hsi:=hi.size
 refine ⟨zFq ?_ (fun g e=>?_),fun i hi' W hW=>?_⟩
 ·rw [zEn,zAx]
  have e1:yU [agK r 0]=zBt (agK r 0):=by simp [yU]
  rw [e1]
  exact hO3
 ·have e':gr=g:=Option.some.inj e
  rcases hl with hl | hl
  ·have:=h.1.lt gr hl;omega
  ·omega
 ·by_cases e:i=m
  ·simp only [if_pos e]
   exact hr W (zMd hA h3 hM (.inr hqT) hl W (hW.wide hBT))
  ·simp only [if_neg e]
   exact h.2 i (by omega) W (zMd (zB hi hA) h3 hM hq hl W hW)
theorem zDu.step {B q c m m':Nat}{w w':World}{a:Option Addr}{K R:Nat→Kp}(h:zDu B w a c m K R)(hM:∀ j,j<w.heap.size→(j<q∨q+1≤j)→w'.heap[j]?=w.heap[j]?)(hg:∀ W,GrF B (Value.slice a m c).ownBlock w' W→GrF B (Value.slice a m c).ownBlock w W)(hq:q<B)(hm:m=m'):zDu B w' a c m' K R:=by
 subst hm
 refine ⟨?_,fun i hi W hW=>h.2 i hi W (hg W hW)⟩
 obtain ⟨h1,h2 | ⟨g,cp,cur,hv,hgB,hh,h3⟩⟩:=h.1
 ·exact ⟨h1,.inl h2⟩
 ·exact ⟨h1,.inr ⟨g,cp,cur,hv,hgB,(hM g (Array.getElem?_eq_some_iff.1 hh).1 (.inr (by omega))).trans hh,h3⟩⟩
theorem zDu.lower {B B' c m:Nat}{w:World}{a:Option Addr}{K R:Nat→Kp}(h:zDu B w a c m K R)(hb:B'≤B):zDu B' w a c m K R:=by
 refine ⟨?_,fun i hi W hW=>h.2 i hi W (hW.wide hb)⟩
 obtain ⟨h1,h2 | ⟨g,cp,cur,hv,hgB,hh,h3⟩⟩:=h.1
 ·exact ⟨h1,.inl h2⟩
 ·exact ⟨h1,.inr ⟨g,cp,cur,hv,Nat.le_trans hb hgB,hh,h3⟩⟩
def ToS (q p:Nat)(u:Value)(kz kx ky:Int)(fb fn fc ib io im ic:Nat)(W:World):Prop :=
 W.cell? ⟨q,1,none⟩=some u∧W.cell? ⟨p,0,none⟩=some (.int .i64 kz)∧W.cell? ⟨p,1,none⟩=some (.int .i64 kx)∧W.cell? ⟨p,2,none⟩=some (.int .i64 ky)∧W.cell? ⟨p,3,none⟩=some (.slice (some ⟨fb,0,none⟩) fn fc)∧W.cell? ⟨p,4,none⟩=some (.slice (some ⟨ib,io,none⟩) im ic)
theorem ToS.keepJ {q p:Nat}{u:Value}{kz kx ky:Int}{fb fn fc ib io im ic:Nat}{w W:World}(h:ToS q p u kz kx ky fb fn fc ib io im ic w)(hb:∀ j,(j=q∨j=p)→W.heap[j]?=w.heap[j]?):ToS q p u kz kx ky fb fn fc ib io im ic W:=by
 obtain ⟨h0,h1,h2,h3,h4,h5⟩:=h
 have hq:=hb q (.inl rfl)
 have hp:=hb p (.inr rfl)
 exact ⟨(World.cell?_of_block (a:=⟨q,_,none⟩) hq).trans h0,(World.cell?_of_block (a:=⟨p,_,none⟩) hp).trans h1,(World.cell?_of_block (a:=⟨p,_,none⟩) hp).trans h2,(World.cell?_of_block (a:=⟨p,_,none⟩) hp).trans h3,(World.cell?_of_block (a:=⟨p,_,none⟩) hp).trans h4,(World.cell?_of_block (a:=⟨p,_,none⟩) hp).trans h5⟩
theorem ToS.keepL {q p:Nat}{u:Value}{kz kx ky:Int}{fb fn fc ib io im ic:Nat}{w W:World}(h:ToS q p u kz kx ky fb fn fc ib io im ic w)(hb:Below w.heap.size w W):ToS q p u kz kx ky fb fn fc ib io im ic W :=
 h.keepJ (fun j hj=>hb.block j (by rcases hj with e | e <;> rw [e] <;> first | exact World.block_lt_of_cell? _ _ h.1 | exact World.block_lt_of_cell? _ _ h.2.1))
theorem resTc {T:Array Value}{Wf:World}{r:Nat}{s:Int}{v:Value}(hT:T[4]?.getD undef=.pointer (some ⟨r,0,none⟩))(h0:Wf.cell? ⟨r,0,none⟩=some (.int .i64 s))(h1:Wf.cell? ⟨r,1,none⟩=some v) :
  (results Tryz.f69 T).run Tryz.prog Wf=.ok (.agg #[.int .i64 s,v]) Wf:=by
 simp [results,Tryz.results69,go_sem,hT,h0,h1]
theorem zFz (s:Int)(b n cap:Nat)(A:Nat→Kp)(qi:Nat)(hqi:qi<n)(w:World)(ha:zL4 w b n A)(hsrc:∀ i,i<n→zH9 w (A i))(him0:∀ i,i<n→0<(A i).m)(hn:n≤100) :
  Calls Tryz.prog 69 #[caV s (.slice (some ⟨b,0,none⟩) n cap),.int .i64 (qi:Int)] w fun e w'=>∃ gr c R,e=.returned (caV s (.slice (some ⟨gr,0,none⟩) ((vI (qi:Int) n).length+1) c))∧zDu (w.heap.size+3) w' (some ⟨gr,0,none⟩) c ((vI (qi:Int) n).length+1) (fun i=>if i=(vI (qi:Int) n).length then A qi else A ((vI (qi:Int) n).getD i 0)) R∧Bw w w':=by
 obtain ⟨i0,hi,hz0,hz1,hz2⟩:=info_parts zE2
 obtain ⟨j0,hj,hy0,hy1,hy2⟩:=info_parts zG9
 have hbl:b<w.heap.size:=ha.1
 have hkp:=(ha.2 qi hqi).1
 have hsr:=hsrc qi hqi
 have him:=him0 qi hqi
 have HLs:Hid (∀ W,Bw w W→Calls Tryz.prog 109 #[caV s (.slice (some ⟨b,0,none⟩) n cap),.int .i64 (qi:Int)] W fun e w'=>∃ a c R,e=.returned (caV s (.slice a (vI (qi:Int) n).length c))∧zDu (W.heap.size+3) w' a c (vI (qi:Int) n).length (fun j=>A ((vI (qi:Int) n).getD j 0)) R∧Bw W w'∧W.heap.size+3≤w'.heap.size):=fun W h =>
  zG8 s b n cap A qi W (ha.below h) (fun i hi=>(hsrc i hi).below h) him0 hn
 have hml:=zEy (qi:Int) n
 clear ha hsrc him0
 rcases hAk:A qi with ⟨kz,kx,ky,kfa,fn,fc,kF,kia,im,ic,kI⟩
 rw [hAk] at hkp hsr him
 obtain ⟨⟨fb,hfa,hft,hfl⟩,h12,hpos,hsm,ib,io,hia,hin,hil⟩:=hsr
 dsimp only at hfa hft h12 hpos hia hin him
 subst hfa hia
 have HIn:Hid (uC w ib io im kI):=hin
 have him1:im≤1048576:=hsm.2
 have HCp:Hid (∀ W,Bw w W→Calls Tryz.prog 110 #[.agg #[.int .i64 kz,.int .i64 kx,.int .i64 ky,.slice (some ⟨fb,0,none⟩) fn fc]] W fun e w'=>∃ g c H,e=.returned (.agg #[.int .i64 kz,.int .i64 kx,.int .i64 ky,.slice (some ⟨g,0,none⟩) fn c])∧g<w'.heap.size∧uT w' W.heap.size w'.heap.size (some ⟨g,0,none⟩) fn kF H∧Bw W w'):=fun W h=>uG kz kx ky fb fn fc kF W (hft.below h hfl) (Nat.lt_of_lt_of_le hfl h.size) h12 hpos hsm.1
 have HKp:Hid (fn≤12∧(∀ i,i<fn→0<(kF i).n)∧vX fn kF):=⟨h12,hpos,hsm.1⟩
 obtain ⟨k0,k1,k2,k3,k4⟩:=hkp
 have HK:Hid (w.cell? ⟨b,qi * 5,none⟩=some (.int .i64 kz)∧w.cell? ⟨b,qi * 5+1,none⟩=some (.int .i64 kx)∧w.cell? ⟨b,qi * 5+2,none⟩=some (.int .i64 ky)∧w.cell? ⟨b,qi * 5+3,none⟩=some (.slice (some ⟨fb,0,none⟩) fn fc)∧w.cell? ⟨b,qi * 5+4,none⟩=some (.slice (some ⟨ib,io,none⟩) im ic)):=⟨k0,k1,k2,k3,k4⟩
 clear hft hpos hsm hin k0 k1 k2 k3 k4
 have HMl:Hid ((vI (qi:Int) n).length=(vI (qi:Int) n).length):=rfl
 obtain ⟨m,hm⟩:∃ m,(vI (qi:Int) n).length=m:=⟨_,rfl⟩
 obtain ⟨KL,hKL⟩:∃ KL:Nat→Kp,(fun j=>A ((vI (qi:Int) n).getD j 0))=KL:=⟨_,rfl⟩
 have eKL:(fun i=>if i=m then (⟨kz,kx,ky,some ⟨fb,0,none⟩,fn,fc,kF,some ⟨ib,io,none⟩,im,ic,kI⟩:Kp) else A ((vI (qi:Int) n).getD i 0))=fun i=>if i=m then ⟨kz,kx,ky,some ⟨fb,0,none⟩,fn,fc,kF,some ⟨ib,io,none⟩,im,ic,kI⟩ else KL i:=by rw [← hKL]
 rw [hm] at HLs hml ⊢
 rw [hKL] at HLs
 rw [eKL]
 clear eKL hKL hm hAk HMl
 have hi0:(0:Int)≤(qi:Int):=by omega
 have hin':(qi:Int)<(n:Int):=by omega
 have k0:∀ o o',((w.alloc o).alloc o').cell? ⟨b,qi * 5,none⟩=some (.int .i64 kz):=fun o o'=>((by exact Qb:Below w.heap.size w ((w.alloc o).alloc o')).cell (p:=⟨b,qi * 5,none⟩) hbl).trans HK.out.1
 have k1:∀ o o',((w.alloc o).alloc o').cell? ⟨b,qi * 5+1,none⟩=some (.int .i64 kx):=fun o o'=>((by exact Qb:Below w.heap.size w ((w.alloc o).alloc o')).cell (p:=⟨b,qi * 5+1,none⟩) hbl).trans HK.out.2.1
 have k2:∀ o o',((w.alloc o).alloc o').cell? ⟨b,qi * 5+2,none⟩=some (.int .i64 ky):=fun o o'=>((by exact Qb:Below w.heap.size w ((w.alloc o).alloc o')).cell (p:=⟨b,qi * 5+2,none⟩) hbl).trans HK.out.2.2.1
 have k3:∀ o o',((w.alloc o).alloc o').cell? ⟨b,qi * 5+3,none⟩=some (.slice (some ⟨fb,0,none⟩) fn fc):=fun o o'=>((by exact Qb:Below w.heap.size w ((w.alloc o).alloc o')).cell (p:=⟨b,qi * 5+3,none⟩) hbl).trans HK.out.2.2.2.1
 have k4:∀ o o',((w.alloc o).alloc o').cell? ⟨b,qi * 5+4,none⟩=some (.slice (some ⟨ib,io,none⟩) im ic):=fun o o'=>((by exact Qb:Below w.heap.size w ((w.alloc o).alloc o')).cell (p:=⟨b,qi * 5+4,none⟩) hbl).trans HK.out.2.2.2.2
 go_enter Tryz.func69,Tryz.ntmps69
 go_wp2_with fail
 generalize hW:(((w.alloc _).alloc _).alloc _:World)=W
 have HB0:Hid (Bw w W):=by show Below _ _ _;subst hW;exact Qb
 have HTr0:Hid (zC W (w.heap.size+1) 2):=by
  show zC _ _ _
  subst hW
  have:=(zCe (w.alloc (.cells #[.int .i64 s,.slice (some ⟨b,0,none⟩) n cap] 28)) (.int .i64 0) (.slice none 0 0) 28).below (yX (Below.refl _ _) (.cells #[.int .i64 kz,.int .i64 kx,.int .i64 ky,.slice (some ⟨fb,0,none⟩) fn fc,.slice (some ⟨ib,io,none⟩) im ic] 141))
  simpa using this
 have HKt:Hid (W.cell? ⟨w.heap.size+2,0,none⟩=some (.int .i64 kz)∧W.cell? ⟨w.heap.size+2,1,none⟩=some (.int .i64 kx)∧W.cell? ⟨w.heap.size+2,2,none⟩=some (.int .i64 ky)∧W.cell? ⟨w.heap.size+2,3,none⟩=some (.slice (some ⟨fb,0,none⟩) fn fc)∧W.cell? ⟨w.heap.size+2,4,none⟩=some (.slice (some ⟨ib,io,none⟩) im ic)):=by
  show _∧_∧_∧_∧_
  subst hW
  refine ⟨?_,?_,?_,?_,?_⟩ <;> simp [go_sem]
 have hszW:W.heap.size=w.heap.size+3:=by subst hW;simp
 clear hW k0 k1 k2 k3 k4
 refine Calls.mono (HLs.out W HB0.out) ?_
 rintro e w2 ⟨ua,uc,R,rfl,hL,hb2,hs2⟩
 have HL:Hid (zDu (W.heap.size+3) w2 ua uc m KL R):=hL
 have HB2:Hid (Bw W w2):=hb2
 have hs2':=hs2
 clear hL hb2 HLs
 go_wp2_with fail
 generalize hwr:(w2.alloc _:World)=wr
 have HB2r:Hid (Bw w2 wr):=by show Below _ _ _;subst hwr;exact Qb
 obtain ⟨q,hq⟩:∃ q,w2.heap.size=q:=⟨_,rfl⟩
 obtain ⟨p,hp⟩:∃ p,w.heap.size+2=p:=⟨_,rfl⟩
 obtain ⟨B,hBe⟩:∃ B,W.heap.size+3=B:=⟨_,rfl⟩
 have HTq:Hid (zC wr q 2):=by show zC _ _ _;subst hwr;rw [← hq];exact zCe _ _ _ _
 have H0:Hid (wr.cell? ⟨q,0,none⟩=some (.int .i64 s)):=by show _=_;subst hwr;rw [← hq];simp [go_sem]
 have h1:wr.cell? ⟨q,1,none⟩=some (.slice ua m uc):=by subst hwr;rw [← hq];simp [go_sem]
 have hzr:wr.heap.size=q+1:=by subst hwr;rw [← hq];simp
 clear hwr
 have hBWr:=HB2.out.trans (HB2r.out.mono HB2.out.size)
 have HBw:Hid (Bw w wr):=zB HB0.out hBWr
 have HBw2:=HBw
 have HTr:Hid (zC wr (w.heap.size+1) 2):=HTr0.out.below hBWr
 rw [hp] at HKt
 rw [hBe] at HL hs2
 have hpW:p<W.heap.size:=by omega
 have hS6:ToS q p (.slice ua m uc) kz kx ky fb fn fc ib io im ic wr:=⟨h1,(hBWr.cell (p:=⟨p,0,none⟩) hpW).trans HKt.out.1,(hBWr.cell (p:=⟨p,1,none⟩) hpW).trans HKt.out.2.1,(hBWr.cell (p:=⟨p,2,none⟩) hpW).trans HKt.out.2.2.1,(hBWr.cell (p:=⟨p,3,none⟩) hpW).trans HKt.out.2.2.2.1,(hBWr.cell (p:=⟨p,4,none⟩) hpW).trans HKt.out.2.2.2.2⟩
 have hq2:w2.heap.size≤q:=by omega
 have hBq:B≤w2.heap.size:=hs2
 have hBw:w.heap.size+3≤B:=by omega
 have hwB:w.heap.size+1<B:=by omega
 have hqr:q<wr.heap.size:=by omega
 have hpr:p<q:=by omega
 clear h1 HTr0 hBWr HKt hzr
 rw [hq,hp]
 trace_state
 refine wp_region_noPanic ?_
 refine yP (S:=ToS q p (.slice ua m uc) kz kx ky fb fn fc ib io im ic) (z:=13) (by kernel_rfl) ?_
 have hB0:Bw wr wr.drew:=by have:=Below.refl wr.heap.size wr;exact Qb
 have hSd:ToS q p (.slice ua m uc) kz kx ky fb fn fc ib io im ic wr.drew:=hS6
 refine zG (i:=0) (v:=?q1) rfl (by kernel_rfl) (by kernel_rfl) (by kernel_rfl) (by kernel_rfl) (fun _ _ _ h=>h) (Or.inl ⟨by rfl,?hq1⟩) hSd ?_
 case hq1=>(intro wz hSw;clear hSw;go_simp <;> with_reducible rfl)
 try simp only [Act.put,Qx,Qy,Qz]
 refine zG (i:=1) (v:=?q2) rfl (by kernel_rfl) (by kernel_rfl) (by kernel_rfl) (by kernel_rfl) (fun _ _ _ h=>h) (Or.inl ⟨by rfl,?hq2⟩) hSd ?_
 case hq2=>(intro wz hSw;have s0:=hSw.1;clear hSw;go_simp <;> with_reducible rfl)
 try simp only [Act.put,Qx,Qy,Qz]
 refine zG (i:=2) (v:=?q3) rfl (by kernel_rfl) (by kernel_rfl) (by kernel_rfl) (by kernel_rfl) (fun _ _ _ h=>h) (Or.inl ⟨by rfl,?hq3⟩) hSd ?_
 case hq3=>(intro wz hSw;clear hSw;go_simp <;> with_reducible rfl)
 try simp only [Act.put,Qx,Qy,Qz]
 refine zG (i:=3) (v:=?q4) rfl (by kernel_rfl) (by kernel_rfl) (by kernel_rfl) (by kernel_rfl) (fun _ _ _ h=>h) (Or.inl ⟨by rfl,?hq4⟩) hSd ?_
 case hq4=>(intro wz hSw;have s1:=hSw.2.1;have s2:=hSw.2.2.1;have s3:=hSw.2.2.2.1;have s4:=hSw.2.2.2.2.1;clear hSw;go_simp <;> with_reducible rfl)
 try simp only [Act.put,Qx,Qy,Qz]
 refine zG (i:=6) (v:=?q5) rfl (by kernel_rfl) (by kernel_rfl) (by kernel_rfl) (by kernel_rfl) (fun _ _ _ h=>h) (Or.inl ⟨by rfl,?hq5⟩) hSd ?_
 case hq5=>(intro wz hSw;clear hSw;go_simp <;> with_reducible rfl)
 try simp only [Act.put,Qx,Qy,Qz]
 refine zG (i:=7) (v:=?q6) rfl (by kernel_rfl) (by kernel_rfl) (by kernel_rfl) (by kernel_rfl) (fun _ _ _ h=>h) (Or.inl ⟨by rfl,?hq6⟩) hSd ?_
 case hq6=>(intro wz hSw;have s5:=hSw.2.2.2.2.2;clear hSw;go_simp <;> with_reducible rfl)
 try simp only [Act.put,Qx,Qy,Qz]
 refine zA6 (i:=4) (j:=5) (by kernel_rfl) rfl rfl (fun K hK=>?_) (fun K hK=>?_)
 ·rw [if_pos (by rfl)]
  go_simp
  refine Calls.mono (HCp.out _ (zB HBw.out hB0)) ?_
  rintro e wk1 ⟨cg,cc,CH,rfl,hcg1,hF1,hbk1⟩
  have hBk1:Bw wr wk1:=zB hB0 hbk1
  have hSk1:ToS q p (.slice ua m uc) kz kx ky fb fn fc ib io im ic wk1:=hS6.keepL hBk1
  go_wp2_with fail
  refine hK.out _ _ (fun _=>hSk1) ?_
  clear hK K
  try simp only [Act.put,Qx,Qy,Qz]
  refine zF (i:=5) (by kernel_rfl) rfl (fun K hK=>?_)
  go_simp
  generalize hwE2:(World.alloc _ _:World)=wE2
  have hbE2:Bw wk1 wE2:=by subst hwE2;exact Qb
  have hOE2:wE2.ownsRow wk1.heap.size 2 1 (.slice (some ⟨wk1.heap.size,0,none⟩) 0 0) 0 []:=by subst hwE2;exact World.ownsRow_lit (base:=wk1.heap.size) wk1 #[] 0 (Nat.le_refl _) (Nat.zero_le _) rfl
  have hzE2:wE2.heap.size=wk1.heap.size+1:=by subst hwE2;simp
  clear hwE2
  have hBE2:Bw wr wE2:=zB hBk1 hbE2
  have hSE2:ToS q p (.slice ua m uc) kz kx ky fb fn fc ib io im ic wE2:=hS6.keepL hBE2
  refine hK.out _ _ (fun _=>hSE2) ?_
  clear hK K
  try simp only [Act.put,Qx,Qy,Qz]
  refine zF (i:=8) (by kernel_rfl) rfl (fun K hK=>?_)
  have hNc:uC wE2 ib io im kI:=uC.below HIn.out (zB HBw.out hBE2) hil
  have:=hB0.size
  have:=hbk1.size
  have:=hbE2.size
  have:=hBE2.size
  refine step_append_lies _ rfl (.tmp 20) (.tmp 22) 46 rfl wk1.heap.size 2 i0 (.int .i64 0) 1 8 Tryz.underlying46 hi hz0 hz1 hz2 rfl (by decide) (.slice (some ⟨wk1.heap.size,0,none⟩) 0 0) 0 [] rfl hOE2 ⟨ib,io,none⟩ im ic ((List.range im).map (fun i=>.int .i64 (kI i))) rfl ?e0a ?e1a ?e2a him ?e3a ?e4a ?e5a _ rfl ?_
  case e0a=>simp
  case e1a=>exact zEt hNc
  case e2a=>intro u hu;simp at hu;obtain ⟨i,_,rfl⟩:=hu;rfl
  case e3a=>unfold maxLen;omega
  case e4a=>omega
  case e5a=>omega
  intro gi ci wi hOi hgi hli hlti
  have hgi':wE2.grownBy wi (some wk1.heap.size):=hgi
  have hgis:=hgi'.size
  have hgb:wk1.heap.size≤gi:=by
   rcases hli with h | h
   ·have e:wk1.heap.size=gi:=Option.some.inj h
    omega
   ·omega
  have hBi:Bw wr wi:=hBE2.trans ((Below.refl _ _).grown hgi' hBE2.size (fun j e=>by have e':wk1.heap.size=j:=Option.some.inj e;omega))
  have hSi:ToS q p (.slice ua m uc) kz kx ky fb fn fc ib io im ic wi:=hS6.keepL hBi
  have hFi:uT wi wr.drew.heap.size wk1.heap.size (some ⟨cg,0,none⟩) fn kF CH:=hF1.keep (hbE2.trans ((Below.refl _ _).grown hgi' hbE2.size (fun j e=>by have e':wk1.heap.size=j:=Option.some.inj e;omega)))
  simp only [Nat.zero_add,List.nil_append] at hOi ⊢
  have hNi:uC wi gi 0 im kI:=zB6 hOi
  refine hK.out _ _ (fun _=>hSi) ?_
  clear hK K
  try simp only [Act.put,Qx,Qy,Qz]
  refine zG (i:=9) (v:=?q7) rfl (by kernel_rfl) (by kernel_rfl) (by kernel_rfl) (by kernel_rfl) (fun _ _ _ h=>h) (Or.inl ⟨by rfl,?hq7⟩) hSi ?_
  case hq7=>(intro wz hSw;clear hSw;go_simp <;> with_reducible rfl)
  try simp only [Act.put,Qx,Qy,Qz]
  refine zF (i:=10) (by kernel_rfl) rfl (fun K hK=>?_)
  go_simp
  generalize hwA:(World.alloc _ _:World)=wA
  have hbA:Bw wi wA:=by subst hwA;exact Qb
  have hzA:wA.heap.size=wi.heap.size+1:=by subst hwA;simp
  have hnew:∀ q v,(zBt (agK ⟨kz,kx,ky,some ⟨cg,0,none⟩,fn,cc,CH,some ⟨gi,0,none⟩,im,ci,kI⟩ 0))[q]?=some v→wA.cell? ((⟨wi.heap.size,0,none⟩:Addr).add q)=some v:=by
   intro q v hq
   have hq5:q<5:=(List.getElem?_eq_some_iff.1 hq).1
   have hc:q=0∨q=1∨q=2∨q=3∨q=4:=by omega
   subst hwA
   rcases hc with rfl | rfl | rfl | rfl | rfl <;> (simp [zBt,agK] at hq;subst hq;simp [Addr.add,go_sem])
  have HOA:wA.ownsRow B 141 5 (.slice ua m uc) m (yU (zDc m R)):=zO (zO (zO HL.out.1 HB2r.out) hBi) hbA
  clear hwA
  have hBA:Bw wr wA:=zB hBi hbA
  have hsA:=hBA.size
  have hSA:ToS q p (.slice ua m uc) kz kx ky fb fn fc ib io im ic wA:=hS6.keepL hBA
  refine hK.out _ _ (fun _=>hSA) ?_
  clear hK K
  try simp only [Act.put,Qx,Qy,Qz]
  refine zF (i:=11) (by kernel_rfl) rfl (fun K hK=>?_)
  refine step_append_lies _ rfl (.tmp 16) (.tmp 25) 26 rfl B 141 j0 (.agg zDv) 5 72 Tryz.underlying26 hj hy0 hy1 hy2 rfl (by decide) (.slice ua m uc) m (yU (zDc m R)) rfl HOA ⟨wi.heap.size,0,none⟩ 1 1 (zBt (agK ⟨kz,kx,ky,some ⟨cg,0,none⟩,fn,cc,CH,some ⟨gi,0,none⟩,im,ci,kI⟩ 0)) rfl rfl hnew (zAy _) (by omega) ?f3a ?f4a ?f5a _ rfl ?_
  case f3a=>unfold maxLen;omega
  case f4a=>omega
  case f5a=>omega
  intro gr cr w3 hO3 hg3 hl3 hlt3
  have hMg:∀ j,(j=q∨j=p)→w3.heap[j]?=wr.heap[j]?:=fun j hj=>by
   have hjl:j<wr.heap.size:=by omega
   have hjo:some j≠(Value.slice ua m uc).ownBlock:=fun e=>by have:=HL.out.1.lt j e.symm;omega
   exact (hg3.block j (by omega) hjo).trans (hBA.block j hjl)
  have hS3:ToS q p (.slice ua m uc) kz kx ky fb fn fc ib io im ic w3:=hS6.keepJ (fun j hj=>hMg j hj)
  refine hK.out _ _ (fun _=>hS3) ?_
  clear hK K
  try simp only [Act.put,Qx,Qy,Qz]
  refine zG (i:=12) (v:=?q8) rfl (by kernel_rfl) (by kernel_rfl) (by kernel_rfl) (by kernel_rfl) (fun _ _ _ h=>h) (Or.inl ⟨by rfl,?hq8⟩) hS3 ?_
  case hq8=>(intro wz hSw;clear hSw;go_simp <;> with_reducible rfl)
  try simp only [Act.put,Qx,Qy,Qz]
  have HT3:Hid (zC w3 q 2):=HTq.out.keepB (hMg q (.inl rfl))
  have z1:=hS3.1
  have y1:=(HT3.out 1 (by omega)).2
  refine zF (i:=13) (by kernel_rfl) rfl (fun K hK=>?_)
  go_simp
  refine hK.out _ _ (fun h=>absurd rfl h) ?_
  clear hK K
  try simp only [Act.put,Qx,Qy,Qz]
  refine zY (by kernel_rfl) ?_ _
  refine NoPanic.normal ?_
  have hf3:=hg3.size
  have HNw:=(show Hid _ from zE5 (B:=q+1) (T:=q+1) (ob:=(Value.slice ua m uc).ownBlock) (kz:=kz) (kx:=kx) (ky:=ky) (kfa:=some ⟨fb,0,none⟩) (fc:=fc) (cc:=cc) (ic:=ic) (ci:=ci) (kia:=some ⟨ib,io,none⟩) (Nat.le_refl _) (fun j e=>by have:=(HL.out.1.lt j e).2;omega) hFi (Nat.lt_of_lt_of_le hcg1 (by omega)) (by have:=hB0.size;omega) hNi (by omega) hlti HKp.out.1 HKp.out.2.1 HKp.out.2.2 him1)
  have HLn:=(show Hid _ from HL.out.add (q:=q) (v:=.slice (some ⟨gr,0,none⟩) (m+1) cr) (HB2r.out.trans (hBi.mono (by omega))) hbA hO3 hg3 hl3 (.inl hq2) (by omega) (Nat.lt_succ_self _) (by omega) HNw.out)
  have HB3:Hid (Below B w2 w3):=((HB2r.out.trans (hBA.mono (by omega))).mono hBq).trans ((Below.refl _ _).grown hg3 (by omega) (fun j e=>(HL.out.1.lt j e).1))
  have H30:Hid (w3.cell? ⟨q,0,none⟩=some (.int .i64 s)):=(World.cell?_of_block (a:=⟨q,0,none⟩) (hMg q (.inl rfl))).trans H0.out
  have HT3r:Hid (zC w3 (w.heap.size+1) 2):=HTr.out.keepB (by
   have hjo:some (w.heap.size+1)≠(Value.slice ua m uc).ownBlock:=fun e=>by have:=HL.out.1.lt _ e.symm;omega
   exact (hg3.block _ (by omega) hjo).trans (hBA.block _ (by omega)))
  have HBr3:Hid (Bw w w3):=HBw2.out.trans ((hBA.mono (by omega)).trans ((Below.refl _ _).grown hg3 (by omega) (fun j e=>by have:=(HL.out.1.lt j e).1;omega)))
  clear hS3 hSA hSi hnew hO3 hg3 hl3 hFi hNi hgi hgi' hli hOi hNc hS6 y1 HOA hBA hbA hBi hMg
  generalize hwS:(World.setCell _ _ _:World)=wS at *
  have hMS:zI q (q+1) w3 wS:=by subst hwS;exact (zI.refl _ _ _).set (Nat.le_refl _) (Nat.lt_succ_self _) _ _
  have c0:wS.cell? ⟨q,0,none⟩=some (.int .i64 s):=by subst hwS;rw [zA (fun e=>by injection e with _ e;omega)];exact H30.out
  have c1:wS.cell? ⟨q,1,none⟩=some (.slice (some ⟨gr,0,none⟩) (m+1) cr):=by subst hwS;exact zD z1
  have hTS:zC wS (w.heap.size+1) 2:=hMS.there HT3r.out (.inl (by omega))
  obtain ⟨v0,t0⟩:=(hTS 0 (by omega)).1
  obtain ⟨v1,t1⟩:=(hTS 1 (by omega)).1
  have f0:=(hTS 0 (by omega)).2
  have f1:=(hTS 1 (by omega)).2
  have HBS:Hid (Bw w wS):=HBr3.out.trans (hMS.below (by omega) |>.mono (by omega))
  clear hwS hMS z1
  go_wp2_with fail
  obtain ⟨z0,z1⟩:=zA8 (W:=wS) (r:=w.heap.size+1) (i:=0) (j:=1) (u:=.int .i64 s) (v:=.slice (some ⟨gr,0,none⟩) (m+1) cr) (by omega) (by rw [t0];rfl) (by rw [t1];rfl)
  have hMF:=(((zI.refl (w.heap.size+1) (w.heap.size+1+1) wS).set (Nat.le_refl _) (Nat.lt_succ_self _) 0 (.int .i64 s)).set (Nat.le_refl _) (Nat.lt_succ_self _) 1 (.slice (some ⟨gr,0,none⟩) (m+1) cr))
  have hLS:=zDu.step (q:=w.heap.size+1) HLn.out (fun j h1 h2=>hMF.block j h1 h2) (fun W hW=>hW.of_mid hMF hwB) hwB rfl
  exact bodyPost_ret (resTc rfl z0 z1) rfl ⟨_,_,rfl,⟨_,zDu.lower hLS hBw⟩,(HBS.out.setCell (Nat.le_succ _) _).setCell (Nat.le_succ _) _⟩
 ·rw [if_pos (by rfl)]
  go_simp
  generalize hwE3:World.drew (World.alloc _ _)=wE3
  have hbE3:Bw wr wE3:=by subst hwE3;exact Qb
  have hOE3:wE3.ownsRow wr.heap.size 2 1 (.slice (some ⟨wr.heap.size,0,none⟩) 0 0) 0 []:=by subst hwE3;exact World.ownsRow_lit (base:=wr.heap.size) wr #[] 0 (Nat.le_refl _) (Nat.zero_le _) rfl
  have hzE3:wE3.heap.size=wr.heap.size+1:=by subst hwE3;simp
  clear hwE3
  have hSE3:ToS q p (.slice ua m uc) kz kx ky fb fn fc ib io im ic wE3:=hS6.keepL hbE3
  refine hK.out _ _ (fun _=>hSE3) ?_
  clear hK K
  try simp only [Act.put,Qx,Qy,Qz]
  refine zF (i:=4) (by kernel_rfl) rfl (fun K hK=>?_)
  go_simp
  refine Calls.mono (HCp.out _ (zB HBw.out hbE3)) ?_
  rintro e wk4 ⟨cg,cc,CH,rfl,hcg4,hF4,hbk4⟩
  have hBk4:Bw wr wk4:=zB hbE3 hbk4
  have hSk4:ToS q p (.slice ua m uc) kz kx ky fb fn fc ib io im ic wk4:=hS6.keepL hBk4
  go_wp2_with fail
  refine hK.out _ _ (fun _=>hSk4) ?_
  clear hK K
  try simp only [Act.put,Qx,Qy,Qz]
  refine zF (i:=8) (by kernel_rfl) rfl (fun K hK=>?_)
  have hNc:uC wk4 ib io im kI:=uC.below HIn.out (zB HBw.out hBk4) hil
  have:=hB0.size
  have:=hbk4.size
  have:=hbE3.size
  have:=hBk4.size
  refine step_append_lies _ rfl (.tmp 20) (.tmp 22) 46 rfl wr.heap.size 2 i0 (.int .i64 0) 1 8 Tryz.underlying46 hi hz0 hz1 hz2 rfl (by decide) (.slice (some ⟨wr.heap.size,0,none⟩) 0 0) 0 [] rfl (zO hOE3 hbk4) ⟨ib,io,none⟩ im ic ((List.range im).map (fun i=>.int .i64 (kI i))) rfl ?e0b ?e1b ?e2b him ?e3b ?e4b ?e5b _ rfl ?_
  case e0b=>simp
  case e1b=>exact zEt hNc
  case e2b=>intro u hu;simp at hu;obtain ⟨i,_,rfl⟩:=hu;rfl
  case e3b=>unfold maxLen;omega
  case e4b=>omega
  case e5b=>omega
  intro gi ci wi hOi hgi hli hlti
  have hgi':wk4.grownBy wi (some wr.heap.size):=hgi
  have hgis:=hgi'.size
  have hgb:wr.heap.size≤gi:=by
   rcases hli with h | h
   ·have e:wr.heap.size=gi:=Option.some.inj h
    omega
   ·omega
  have hBi:Bw wr wi:=hBk4.trans ((Below.refl _ _).grown hgi' hBk4.size (fun j e=>by have e':wr.heap.size=j:=Option.some.inj e;omega))
  have hSi:ToS q p (.slice ua m uc) kz kx ky fb fn fc ib io im ic wi:=hS6.keepL hBi
  have hFi:uT wi wE3.heap.size wk4.heap.size (some ⟨cg,0,none⟩) fn kF CH:=hF4.mid' (zI.of_grown hgi' (Nat.le_refl _) (Nat.lt_succ_self _)) (by omega)
  simp only [Nat.zero_add,List.nil_append] at hOi ⊢
  have hNi:uC wi gi 0 im kI:=zB6 hOi
  refine hK.out _ _ (fun _=>hSi) ?_
  clear hK K
  try simp only [Act.put,Qx,Qy,Qz]
  refine zG (i:=9) (v:=?q9) rfl (by kernel_rfl) (by kernel_rfl) (by kernel_rfl) (by kernel_rfl) (fun _ _ _ h=>h) (Or.inl ⟨by rfl,?hq9⟩) hSi ?_
  case hq9=>(intro wz hSw;clear hSw;go_simp <;> with_reducible rfl)
  try simp only [Act.put,Qx,Qy,Qz]
  refine zF (i:=10) (by kernel_rfl) rfl (fun K hK=>?_)
  go_simp
  generalize hwA:(World.alloc _ _:World)=wA
  have hbA:Bw wi wA:=by subst hwA;exact Qb
  have hzA:wA.heap.size=wi.heap.size+1:=by subst hwA;simp
  have hnew:∀ q v,(zBt (agK ⟨kz,kx,ky,some ⟨cg,0,none⟩,fn,cc,CH,some ⟨gi,0,none⟩,im,ci,kI⟩ 0))[q]?=some v→wA.cell? ((⟨wi.heap.size,0,none⟩:Addr).add q)=some v:=by
   intro q v hq
   have hq5:q<5:=(List.getElem?_eq_some_iff.1 hq).1
   have hc:q=0∨q=1∨q=2∨q=3∨q=4:=by omega
   subst hwA
   rcases hc with rfl | rfl | rfl | rfl | rfl <;> (simp [zBt,agK] at hq;subst hq;simp [Addr.add,go_sem])
  have HOA:wA.ownsRow B 141 5 (.slice ua m uc) m (yU (zDc m R)):=zO (zO (zO HL.out.1 HB2r.out) hBi) hbA
  clear hwA
  have hBA:Bw wr wA:=zB hBi hbA
  have hsA:=hBA.size
  have hSA:ToS q p (.slice ua m uc) kz kx ky fb fn fc ib io im ic wA:=hS6.keepL hBA
  refine hK.out _ _ (fun _=>hSA) ?_
  clear hK K
  try simp only [Act.put,Qx,Qy,Qz]
  refine zF (i:=11) (by kernel_rfl) rfl (fun K hK=>?_)
  refine step_append_lies _ rfl (.tmp 16) (.tmp 25) 26 rfl B 141 j0 (.agg zDv) 5 72 Tryz.underlying26 hj hy0 hy1 hy2 rfl (by decide) (.slice ua m uc) m (yU (zDc m R)) rfl HOA ⟨wi.heap.size,0,none⟩ 1 1 (zBt (agK ⟨kz,kx,ky,some ⟨cg,0,none⟩,fn,cc,CH,some ⟨gi,0,none⟩,im,ci,kI⟩ 0)) rfl rfl hnew (zAy _) (by omega) ?f3b ?f4b ?f5b _ rfl ?_
  case f3b=>unfold maxLen;omega
  case f4b=>omega
  case f5b=>omega
  intro gr cr w3 hO3 hg3 hl3 hlt3
  have hMg:∀ j,(j=q∨j=p)→w3.heap[j]?=wr.heap[j]?:=fun j hj=>by
   have hjl:j<wr.heap.size:=by omega
   have hjo:some j≠(Value.slice ua m uc).ownBlock:=fun e=>by have:=HL.out.1.lt j e.symm;omega
   exact (hg3.block j (by omega) hjo).trans (hBA.block j hjl)
  have hS3:ToS q p (.slice ua m uc) kz kx ky fb fn fc ib io im ic w3:=hS6.keepJ (fun j hj=>hMg j hj)
  refine hK.out _ _ (fun _=>hS3) ?_
  clear hK K
  try simp only [Act.put,Qx,Qy,Qz]
  refine zG (i:=12) (v:=?q10) rfl (by kernel_rfl) (by kernel_rfl) (by kernel_rfl) (by kernel_rfl) (fun _ _ _ h=>h) (Or.inl ⟨by rfl,?hq10⟩) hS3 ?_
  case hq10=>(intro wz hSw;clear hSw;go_simp <;> with_reducible rfl)
  try simp only [Act.put,Qx,Qy,Qz]
  have HT3:Hid (zC w3 q 2):=HTq.out.keepB (hMg q (.inl rfl))
  have z1:=hS3.1
  have y1:=(HT3.out 1 (by omega)).2
  refine zF (i:=13) (by kernel_rfl) rfl (fun K hK=>?_)
  go_simp
  refine hK.out _ _ (fun h=>absurd rfl h) ?_
  clear hK K
  try simp only [Act.put,Qx,Qy,Qz]
  refine zY (by kernel_rfl) ?_ _
  refine NoPanic.normal ?_
  have hf3:=hg3.size
  have HNw:=(show Hid _ from zE5 (B:=q+1) (T:=q+1) (ob:=(Value.slice ua m uc).ownBlock) (kz:=kz) (kx:=kx) (ky:=ky) (kfa:=some ⟨fb,0,none⟩) (fc:=fc) (cc:=cc) (ic:=ic) (ci:=ci) (kia:=some ⟨ib,io,none⟩) (Nat.le_refl _) (fun j e=>by have:=(HL.out.1.lt j e).2;omega) hFi (Nat.lt_of_lt_of_le hcg4 (by omega)) (by have:=hbE3.size;omega) hNi (by omega) hlti HKp.out.1 HKp.out.2.1 HKp.out.2.2 him1)
  have HLn:=(show Hid _ from HL.out.add (q:=q) (v:=.slice (some ⟨gr,0,none⟩) (m+1) cr) (HB2r.out.trans (hBi.mono (by omega))) hbA hO3 hg3 hl3 (.inl hq2) (by omega) (Nat.lt_succ_self _) (by omega) HNw.out)
  have HB3:Hid (Below B w2 w3):=((HB2r.out.trans (hBA.mono (by omega))).mono hBq).trans ((Below.refl _ _).grown hg3 (by omega) (fun j e=>(HL.out.1.lt j e).1))
  have H30:Hid (w3.cell? ⟨q,0,none⟩=some (.int .i64 s)):=(World.cell?_of_block (a:=⟨q,0,none⟩) (hMg q (.inl rfl))).trans H0.out
  have HT3r:Hid (zC w3 (w.heap.size+1) 2):=HTr.out.keepB (by
   have hjo:some (w.heap.size+1)≠(Value.slice ua m uc).ownBlock:=fun e=>by have:=HL.out.1.lt _ e.symm;omega
   exact (hg3.block _ (by omega) hjo).trans (hBA.block _ (by omega)))
  have HBr3:Hid (Bw w w3):=HBw2.out.trans ((hBA.mono (by omega)).trans ((Below.refl _ _).grown hg3 (by omega) (fun j e=>by have:=(HL.out.1.lt j e).1;omega)))
  clear hS3 hSA hSi hnew hO3 hg3 hl3 hFi hNi hgi hgi' hli hOi hNc hS6 y1 HOA hBA hbA hBi hMg
  generalize hwS:(World.setCell _ _ _:World)=wS at *
  have hMS:zI q (q+1) w3 wS:=by subst hwS;exact (zI.refl _ _ _).set (Nat.le_refl _) (Nat.lt_succ_self _) _ _
  have c0:wS.cell? ⟨q,0,none⟩=some (.int .i64 s):=by subst hwS;rw [zA (fun e=>by injection e with _ e;omega)];exact H30.out
  have c1:wS.cell? ⟨q,1,none⟩=some (.slice (some ⟨gr,0,none⟩) (m+1) cr):=by subst hwS;exact zD z1
  have hTS:zC wS (w.heap.size+1) 2:=hMS.there HT3r.out (.inl (by omega))
  obtain ⟨v0,t0⟩:=(hTS 0 (by omega)).1
  obtain ⟨v1,t1⟩:=(hTS 1 (by omega)).1
  have f0:=(hTS 0 (by omega)).2
  have f1:=(hTS 1 (by omega)).2
  have HBS:Hid (Bw w wS):=HBr3.out.trans (hMS.below (by omega) |>.mono (by omega))
  clear hwS hMS z1
  go_wp2_with fail
  obtain ⟨z0,z1⟩:=zA8 (W:=wS) (r:=w.heap.size+1) (i:=0) (j:=1) (u:=.int .i64 s) (v:=.slice (some ⟨gr,0,none⟩) (m+1) cr) (by omega) (by rw [t0];rfl) (by rw [t1];rfl)
  have hMF:=(((zI.refl (w.heap.size+1) (w.heap.size+1+1) wS).set (Nat.le_refl _) (Nat.lt_succ_self _) 0 (.int .i64 s)).set (Nat.le_refl _) (Nat.lt_succ_self _) 1 (.slice (some ⟨gr,0,none⟩) (m+1) cr))
  have hLS:=zDu.step (q:=w.heap.size+1) HLn.out (fun j h1 h2=>hMF.block j h1 h2) (fun W hW=>hW.of_mid hMF hwB) hwB rfl
  exact bodyPost_ret (resTc rfl z0 z1) rfl ⟨_,_,rfl,⟨_,zDu.lower hLS hBw⟩,(HBS.out.setCell (Nat.le_succ _) _).setCell (Nat.le_succ _) _⟩
end Go.Proofs.YtpaiholildedcaaGreat
