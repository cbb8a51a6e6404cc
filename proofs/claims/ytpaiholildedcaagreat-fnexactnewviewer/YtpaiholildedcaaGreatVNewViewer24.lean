/- Texts. -/
import Derived.Test.YtpaiholildedcaaGreatVNewViewer22
set_option linter.unusedSimpArgs false
set_option linter.unusedVariables false
set_option maxRecDepth 100000
set_option maxHeartbeats 32000000
namespace Go.Proofs.YtpaiholildedcaaGreat
open Go.RowKit
def zH9 (w:World)(k:Kp):Prop:=(∃ fb,k.fa=some ⟨fb,0,none⟩∧zJh w fb 0 k.fn k.F∧fb<w.heap.size)∧k.fn≤12∧(∀ i,i<k.fn→0<(k.F i).n)∧zEe k∧∃ ib io,k.ia=some ⟨ib,io,none⟩∧uC w ib io k.m k.I∧ib<w.heap.size
theorem zH9.below {w w':World}{k:Kp}(h:zH9 w k)(hb:Below w.heap.size w w'):zH9 w' k:=by
 obtain ⟨⟨fb,h1,h2,h3⟩,h4,h5,h6,ib,io,h7,h8,h9⟩:=h
 exact ⟨⟨fb,h1,h2.below hb h3,Nat.lt_of_lt_of_le h3 hb.size⟩,h4,h5,h6,ib,io,h7,h8.below hb h9,Nat.lt_of_lt_of_le h9 hb.size⟩
def zK6 (w:World)(lo hi:Nat)(k r:Kp):Prop :=
 (r.z=k.z∧r.x=k.x∧r.y=k.y)∧r.fn=k.fn∧r.m=k.m∧r.I=k.I∧∃ md,lo≤md∧md≤hi∧uT w lo md r.fa k.fn k.F r.F∧(k.m=0∨∃ ib,r.ia=some ⟨ib,0,none⟩∧md≤ib∧ib<hi∧uC w ib 0 k.m k.I∧zC w ib k.m)
theorem zL3.in {w:World}{lo:Nat}{k r:Kp}(h:zL3 w lo k r):zK6 w lo w.heap.size k r:=by
 obtain ⟨h1,h2,h4,h5,md,hlo,hhi,h3,h6⟩:=h
 refine ⟨h1,h2,h4,h5,md,hlo,hhi,h3,?_⟩
 by_cases h0:k.m=0
 ·exact .inl h0
 ·right
  obtain ⟨e1,⟨_,e2⟩ | ⟨g,cp,cur,hv,hg,hb,h7⟩⟩:=id h6
  ·exact absurd e2 h0
  ·injection hv with hv _ _
   have hl:g<w.heap.size:=(Array.getElem?_eq_some_iff.1 hb).1
   rw [hv] at h6
   have hc:∀ i,i<k.m→w.cell? ⟨g,i,none⟩=some (.int .i64 (k.I i)):=fun i hi=>by
    rw [h6.cellAt i (by simpa using hi)]
    simp [hi]
   exact ⟨g,hv,hg,hl,fun i hi=>by rw [Nat.zero_add];exact hc i hi,fun i hi=>⟨⟨_,hc i hi⟩,h6.frozenAt i⟩⟩
theorem zK6.below {w w':World}{lo hi:Nat}{k r:Kp}(h:zK6 w lo hi k r)(hb:Below w.heap.size w w'):zK6 w' lo hi k r:=by
 obtain ⟨h1,h2,h4,h5,md,hlo,hhi,h3,h6⟩:=h
 refine ⟨h1,h2,h4,h5,md,hlo,hhi,h3.keep hb,h6.imp id (fun ⟨ib,e,a1,a2,a3,a4⟩=>?_)⟩
 have hl:k.m=0∨ib<w.heap.size:=by
  by_cases h0:k.m=0
  ·exact .inl h0
  ·exact .inr (World.block_lt_of_cell? _ _ (a3 0 (by omega)))
 rcases hl with h0 | hl
 ·exact ⟨ib,e,a1,a2,fun i hi=>by omega,fun i hi=>by omega⟩
 ·exact ⟨ib,e,a1,a2,a3.below hb hl,a4.below hb⟩
theorem zK6.mid {w w':World}{lo hi l h':Nat}{k r:Kp}(h:zK6 w lo hi k r)(hM:zI l h' w w')(hh:h'≤lo):zK6 w' lo hi k r:=by
 obtain ⟨h1,h2,h4,h5,md,hlo,hhi,h3,h6⟩:=h
 exact ⟨h1,h2,h4,h5,md,hlo,hhi,h3.mid' hM hh,h6.imp id (fun ⟨ib,e,a1,a2,a3,a4⟩=>⟨ib,e,a1,a2,fun i hi=>hM.cell (a3 i hi) (.inr (by omega)),hM.there a4 (.inr (by omega))⟩)⟩
def KsIn (w:World)(g k n:Nat)(KL R:Nat→Kp)(M:Nat→Nat):Prop :=
 (∀ j,j<n→zHn w g (j * 5) (if j<k then R j else KL j))∧zC w g (n * 5)∧g<M 0∧(∀ j,j<k→M j≤M (j+1)∧zK6 w (M j) (M (j+1)) (KL j) (R j))∧M k≤w.heap.size
def uD (w:World)(B:Nat)(a:Option Addr)(n:Nat)(KL R:Nat→Kp):Prop:=n=0∨∃ g M,a=some ⟨g,0,none⟩∧B≤g∧KsIn w g n n KL R M
theorem zEu {w:World}{M:Nat→Nat}{k:Nat}{KL R:Nat→Kp}(h:∀ j,j<k→M j≤M (j+1)∧zK6 w (M j) (M (j+1)) (KL j) (R j)):∀ j,j≤k→M 0≤M j:=by
 intro j
 induction j with
 | zero=>intro _;exact Nat.le_refl _
 | succ j ih=>intro hj;exact Nat.le_trans (ih (by omega)) (h j (by omega)).1
theorem zF0 {base:Nat}{w:World}{L:List Ag}{g c:Nat}(h:zK0 base w (.slice (some ⟨g,0,none⟩) L.length c) L){KL:Nat→Kp}(hK:∀ i a,L[i]?=some a→∃ t,a=agK (KL i) t):(∀ j,j<L.length→zHn w g (j * 5) (KL j))∧zC w g (L.length * 5):=by
 have h':w.ownsRow base 141 5 (.slice (some ⟨g,0,none⟩) L.length c) L.length (yU L):=h
 have hl:(yU L).length=L.length * 5:=h'.1
 refine ⟨fun j hj=>?_,fun o ho=>?_⟩
 ·obtain ⟨a,ha⟩:∃ a,L[j]?=some a:=⟨_,List.getElem?_eq_getElem hj⟩
  obtain ⟨t,rfl⟩:=hK j a ha
  have hc:∀ q,q<5→w.cell? ⟨g,j * 5+q,none⟩=(zBt (agK (KL j) t))[q]?:=fun q hq=>by
   rw [h'.cellAt (j * 5+q) (by omega),zF1 L j q _ ha hq]
  exact ⟨hc 0 (by omega),hc 1 (by omega),hc 2 (by omega),hc 3 (by omega),hc 4 (by omega)⟩
 ·refine ⟨?_,h'.frozenAt o⟩
  rw [h'.cellAt o (by omega)]
  exact ⟨_,List.getElem?_eq_getElem (by omega)⟩
theorem resCa {T:Array Value}{Wf:World}{r:Nat}{s:Int}{v:Value}(hT:T[2]?.getD undef=.pointer (some ⟨r,0,none⟩))(h0:Wf.cell? ⟨r,0,none⟩=some (.int .i64 s))(h1:Wf.cell? ⟨r,1,none⟩=some v) :
  (results Tryz.f84 T).run Tryz.prog Wf=.ok (caV s v) Wf:=by
 simp [results,Tryz.results84,go_sem,hT,h0,h1]
theorem zDb (B p:Nat)(s t:Int)(L:List Ag)(KL:Nat→Kp)(w:World)(h:Shf w B p s t L)(hL:L.length≤100)(hK:∀ i a,L[i]?=some a→∃ t,a=agK (KL i) t)(hsrc:∀ i,i<L.length→zH9 w (KL i)) :
  Calls Tryz.prog 84 #[.pointer (some ⟨p,0,none⟩)] w fun e w'=>∃ a c R,e=.returned (caV s (.slice a L.length c))∧uD w' w.heap.size a L.length KL R∧Bw w w':=by
 have HSh:Hid (Shf w B p s t L):=h
 have HK:Hid (∀ i a,L[i]?=some a→∃ t,a=agK (KL i) t):=hK
 have HSr:Hid (∀ i,i<L.length→zH9 w (KL i)):=hsrc
 have HP:Hid (ShA w p s t h.choose):=h.choose_spec.choose_spec.2.2.1
 have hpl:p<w.heap.size:=World.block_lt_of_cell? _ _ HP.out.1
 have HC0:Hid (w.cell? ⟨p,0,none⟩=some (.int .i64 s)):=HP.out.1
 clear h hK hsrc HP
 go_enter Tryz.func84,Tryz.ntmps84
 go_wp2_with fail
 generalize hU:(w.alloc _:World)=U
 have HBU:Hid (Bw w U):=by show Below _ _ _;subst hU;exact Qb
 have HTU:Hid (zC U w.heap.size 2):=by show zC _ _ _;subst hU;exact zCe _ _ _ _
 have hUl:w.heap.size<U.heap.size:=by subst hU;simp
 clear hU
 refine (zKx B p s t L U (HSh.out.below HBU.out) hL).mono ?_
 rintro e W ⟨v,rfl,hR,hbW⟩
 have HR:Hid (zK0 U.heap.size W v L):=hR
 have HBW:Hid (Bw U W):=hbW
 have HWw:Hid (Bw w W):=zB HBU.out hbW
 have HTW:Hid (zC W w.heap.size 2):=HTU.out.below hbW
 obtain ⟨va,vc,hv⟩:∃ a c,v=.slice a L.length c:=by
  obtain ⟨_,⟨h1,h2⟩ | ⟨g,c,cur,hv,_⟩⟩:=id hR
  ·exact ⟨none,0,by rw [h1,h2]⟩
  ·exact ⟨_,c,hv⟩
 subst hv
 have hWl:=hbW.size
 clear hR hbW HTU HBU
 go_wp2_with fail
 go_loopw [10] (fun i wr=>∃ k:Nat,k≤L.length∧i=.int .i64 (k:Int)∧Bw w wr∧zC wr w.heap.size 2∧(L.length=0∨∃ g R M,va=some ⟨g,0,none⟩∧U.heap.size≤g∧KsIn wr g k L.length KL R M)) (fun i _=>L.length - (intOf i).toNat)
 case atStart =>
  refine ⟨0,by omega,rfl,HWw.out,HTW.out,?_⟩
  by_cases h0:L.length=0
  ·exact .inl h0
  ·right
   obtain ⟨_,⟨_,h2⟩ | ⟨g,c,cur,hv,hg,hb,_⟩⟩:=id HR.out
   ·exact absurd h2 h0
   ·have hgl:g<W.heap.size:=(Array.getElem?_eq_some_iff.1 hb).1
    injection hv with e1 _ e3
    subst e1 e3
    obtain ⟨h1,h2⟩:=zF0 HR.out HK.out
    exact ⟨g,KL,fun _=>W.heap.size,rfl,hg,fun j hj=>by simpa using h1 j hj,h2,hgl,fun j hj=>by omega,Nat.le_refl _⟩
 case round =>
  obtain ⟨k,hk,rfl,hB,hT,hKs⟩:=hrel
  have HB:Hid (Bw w wr):=hB
  have HT:Hid (zC wr w.heap.size 2):=hT
  by_cases hlt:k<L.length
  ·obtain ⟨g,R,M,rfl,hgU,hKs⟩:=hKs.resolve_left (by omega)
   have HKs:Hid (KsIn wr g k L.length KL R M):=hKs
   obtain ⟨q0,q1,q2,q3,q4⟩:=hKs.1 k hlt
   simp only [Nat.lt_irrefl,if_false] at q0 q1 q2 q3 q4
   have HLT:Hid (k<L.length):=hlt
   have hi:(k:Int)<(L.length:Int):=by omega
   have hi0:(0:Int)≤(k:Int):=by omega
   clear hB hT hKs
   go_wp2_with fail
   generalize hV:(wr.alloc _:World)=V
   have HBV:Hid (Bw wr V):=by show Below _ _ _;subst hV;exact Qb
   clear hV q0 q1 q2 q3 q4
   obtain ⟨⟨fb,s1,s2,s3⟩,s4,s5,s6,ib,io,s7,s8,s9⟩:=(HSr.out k hlt).below (zB HB.out HBV.out)
   have HCk:=(show Hid _ from zGb (KL k) fb ib io V s1 s2 s3 s4 s5 s6 s7 s8 s9)
   clear s1 s2 s3 s4 s5 s6 s7 s8 s9
   refine Calls.mono HCk.out ?_
   rintro e w1 ⟨r,rfl,hN,hb1⟩
   have HN:Hid (zK6 w1 V.heap.size w1.heap.size (KL k) r):=hN.in
   have HB1:Hid (Bw wr w1):=zB HBV.out hb1
   have hVs:=HBV.out.size
   have h1s:=hb1.size
   obtain ⟨c1,c2,c3,c4,c5⟩:=HKs.out
   have hgl:g<wr.heap.size:=by have:=zEu c4 k (Nat.le_refl _);omega
   have hTg:=c2.below HB1.out
   have t0:=hTg.cell (k * 5) (by omega)
   have t1:=hTg.cell (k * 5+1) (by omega)
   have t2:=hTg.cell (k * 5+2) (by omega)
   have t3:=hTg.cell (k * 5+3) (by omega)
   have t4:=hTg.cell (k * 5+4) (by omega)
   have f0:=(hTg (k * 5) (by omega)).2
   have f1:=(hTg (k * 5+1) (by omega)).2
   have f2:=(hTg (k * 5+2) (by omega)).2
   have f3:=(hTg (k * 5+3) (by omega)).2
   have f4:=(hTg (k * 5+4) (by omega)).2
   have HTg:Hid (zC w1 g (L.length * 5)):=hTg
   clear hN hb1 hTg c1 c2 c3 c4 c5 HCk HBV
   go_wp2_with fail
   generalize hwF:(World.setCell _ _ _:World)=wF
   have HL:Hid (wF=zKc w1 g (k * 5) r):=by show _=_;subst hwF;rfl
   clear hwF t0 t1 t2 t3 t4 f0 f1 f2 f3 f4
   have HM:Hid (zI g (g+1) w1 wF):=by show zI _ _ _ _;rw [HL.out];exact zHz _ _ _ _
   have HBF:Hid (Bw w wF):=(zB HB.out HB1.out).trans ((HM.out.below (by omega)).mono (by omega))
   have HTF:Hid (zC wF w.heap.size 2):=HM.out.there (HT.out.below HB1.out) (.inl (by omega))
   have HKF:Hid (KsIn wF g (k+1) L.length KL (fun j=>if j=k then r else R j) (fun j=>if j≤k then M j else w1.heap.size)):=by
    obtain ⟨c1,c2,c3,c4,c5⟩:=HKs.out
    have hm0:=zEu c4
    have hsF:wF.heap.size=w1.heap.size:=by rw [HL.out];exact zKa _ _ _ _
    refine ⟨fun j hj=>?_,by rw [HL.out];exact zIs HTg.out,by simpa using c3,fun j hj=>?_,?_⟩
    ·by_cases e:j=k
     ·subst e
      rw [if_pos (Nat.lt_succ_self _)]
      dsimp only
      rw [if_pos rfl,HL.out]
      exact zKb HTg.out (by omega)
     ·have hA:=(c1 j hj).below HB1.out hgl
      have hA2:zHn wF g (j * 5) (if j<k then R j else KL j):=by
       obtain ⟨a0,a1,a2,a3,a4⟩:=hA
       rw [HL.out]
       refine ⟨?_,?_,?_,?_,?_⟩
       ·rw [vM (.inr (by show j * 5<k * 5∨k * 5+4<j * 5;omega))];exact a0
       ·rw [vM (.inr (by show j * 5+1<k * 5∨k * 5+4<j * 5+1;omega))];exact a1
       ·rw [vM (.inr (by show j * 5+2<k * 5∨k * 5+4<j * 5+2;omega))];exact a2
       ·rw [vM (.inr (by show j * 5+3<k * 5∨k * 5+4<j * 5+3;omega))];exact a3
       ·rw [vM (.inr (by show j * 5+4<k * 5∨k * 5+4<j * 5+4;omega))];exact a4
      by_cases hjk:j<k
      ·rw [if_pos (by omega)]
       dsimp only
       rw [if_neg e]
       rw [if_pos hjk] at hA2
       exact hA2
      ·rw [if_neg (by omega)]
       rw [if_neg hjk] at hA2
       exact hA2
    ·by_cases e:j=k
     ·subst e
      dsimp only
      rw [if_pos (Nat.le_refl _),if_neg (by omega),if_pos rfl]
      refine ⟨by omega,?_⟩
      have:=HN.out.mid HM.out (by have:=hm0 0 (by omega);omega)
      obtain ⟨n1,n2,n4,n5,md,m1,m2,n3,n6⟩:=this
      exact ⟨n1,n2,n4,n5,md,by omega,m2,n3.wide (by omega),n6⟩
     ·have hjk:j<k:=by omega
      dsimp only
      rw [if_pos (by omega),if_pos (by omega),if_neg e]
      have hj:=c4 j hjk
      refine ⟨hj.1,(hj.2.below HB1.out).mid HM.out (by have:=hm0 j (by omega);omega)⟩
    ·dsimp only
     rw [if_neg (by omega)];omega
   clear HL HM HN HTg HKs
   go_wp2_with fail
   go_roundw
   case rel=>exact ⟨k+1,by have:=HLT.out;omega,by go_num,HBF.out,HTF.out,.inr ⟨g,_,_,rfl,hgU,HKF.out⟩⟩
   case measure=>have:=HLT.out;simp [intOf];omega
  ·obtain rfl:k=L.length:=by omega
   have c0:wr.cell? ⟨p,0,none⟩=some (.int .i64 s):=(hB.cell (p:=⟨p,0,none⟩) hpl).trans HC0.out
   have t0:=hT.cell 0 (by omega)
   have t1:=hT.cell 1 (by omega)
   have f0:=(hT 0 (by omega)).2
   have f1:=(hT 1 (by omega)).2
   have HKs:Hid (L.length=0∨∃ g R M,va=some ⟨g,0,none⟩∧U.heap.size≤g∧KsIn wr g L.length L.length KL R M):=hKs
   clear hB hT hKs
   go_wp2_with fail
   obtain ⟨q0,q1⟩:=zA8 (W:=wr) (r:=w.heap.size) (i:=0) (j:=1) (u:=.int .i64 s) (v:=.slice va L.length vc) (by omega) (by rw [t0];rfl) (by rw [t1];rfl)
   have hMM:zI w.heap.size (w.heap.size+1) wr ((wr.setCell ⟨w.heap.size,0,none⟩ (.int .i64 s)).setCell ⟨w.heap.size,1,none⟩ (.slice va L.length vc)):=((zI.refl _ _ _).set (Nat.le_refl _) (Nat.lt_succ_self _) _ _).set (Nat.le_refl _) (Nat.lt_succ_self _) _ _
   have hfin:∃ R,uD ((wr.setCell ⟨w.heap.size,0,none⟩ (.int .i64 s)).setCell ⟨w.heap.size,1,none⟩ (.slice va L.length vc)) w.heap.size va L.length KL R:=by
    rcases HKs.out with h0 | ⟨g,R,M,e,hgU,c1,c2,c3,c4,c5⟩
    ·exact ⟨KL,.inl h0⟩
    ·refine ⟨R,.inr ⟨g,M,e,by omega,fun j hj=>?_,hMM.there c2 (.inr (by omega)),c3,fun j hj=>⟨(c4 j hj).1,(c4 j hj).2.mid hMM (by have:=zEu c4 j (by omega);omega)⟩,Nat.le_trans c5 hMM.size⟩⟩
     obtain ⟨a0,a1,a2,a3,a4⟩:=c1 j hj
     exact ⟨hMM.cell a0 (.inr (by omega)),hMM.cell a1 (.inr (by omega)),hMM.cell a2 (.inr (by omega)),hMM.cell a3 (.inr (by omega)),hMM.cell a4 (.inr (by omega))⟩
   obtain ⟨R,hR⟩:=hfin
   exact bodyPost_ret (resCa rfl q0 q1) rfl ⟨va,vc,R,rfl,hR,HB.out.trans (hMM.below HB.out.size)⟩
end Go.Proofs.YtpaiholildedcaaGreat
