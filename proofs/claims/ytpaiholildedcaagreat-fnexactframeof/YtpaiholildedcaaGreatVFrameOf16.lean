/- Texts. -/
import Derived.Test.YtpaiholildedcaaGreatVFrameOf14
set_option linter.unusedSimpArgs false
set_option linter.unusedVariables false
set_option maxRecDepth 100000
set_option maxHeartbeats 32000000
namespace Go.Proofs.YtpaiholildedcaaGreat
open Go.RowKit
structure yD where
 id:Int
 la:Int
 ki:Int
 wi:Int
 a:Option Addr
 n:Nat
 cap:Nat
 X:Nat→Int
 Y:Nat→Int
 lab:ByteArray
 pr:Int
def zAc (w:World)(b off n:Nat)(F:Nat→yD):Prop :=
 ∀ i,i<n→uC w b (off+i * 7) (F i).id (F i).la (F i).ki (F i).wi (.slice (F i).a (F i).n (F i).cap) (F i).lab (F i).pr∧xQ w (F i).a (F i).n (F i).X (F i).Y
theorem zAc.below {w w':World}{b off n:Nat}{F:Nat→yD}(h:zAc w b off n F)(hb:Below w.heap.size w w')(hl:b<w.heap.size):zAc w' b off n F:=fun i hi =>
 ⟨(h i hi).1.below hb hl,(h i hi).2.below hb⟩
def zKn (w:World)(a:Option Addr)(n:Nat)(F:Nat→yD):Prop:=n=0∨∃ b off,a=some ⟨b,off,none⟩∧b<w.heap.size∧zAc w b off n F
theorem zKn.below {w w':World}{a:Option Addr}{n:Nat}{F:Nat→yD}(h:zKn w a n F)(hb:Below w.heap.size w w'):zKn w' a n F:=by
 rcases h with h | ⟨b,off,e,hl,hp⟩
 ·exact .inl h
 ·exact .inr ⟨b,off,e,Nat.lt_of_lt_of_le hl hb.size,hp.below hb hl⟩
def yD.same (f g:yD):Prop:=f.id=g.id∧f.la=g.la∧f.ki=g.ki∧f.wi=g.wi∧f.n=g.n∧f.X=g.X∧f.Y=g.Y∧f.lab=g.lab∧f.pr=g.pr
def xN (w:World)(B b n:Nat)(F G:Nat→yD):Prop :=
 B≤b∧b<w.heap.size∧zAc w b 0 n G∧∀ i,i<n→(G i).same (F i)∧∃ q,(G i).a=some ⟨q,0,none⟩∧(G i).cap=(G i).n∧q≠b∧B≤q∧q<w.heap.size∧zI w q 0 (G i).n (G i).X (G i).Y
theorem xN.below {w w':World}{B b n:Nat}{F G:Nat→yD}(h:xN w B b n F G)(hb:Below w.heap.size w w'):xN w' B b n F G:=by
 obtain ⟨h1,h2,h3,h4⟩:=h
 refine ⟨h1,Nat.lt_of_lt_of_le h2 hb.size,h3.below hb h2,fun i hi=>?_⟩
 obtain ⟨e,q,e1,e2,e3,e4,e5,e6⟩:=h4 i hi
 exact ⟨e,q,e1,e2,e3,e4,Nat.lt_of_lt_of_le e5 hb.size,e6.below hb e5⟩
def zG2 (W:World)(B o:Nat)(f:yD):World:=(((((((W.setCell ⟨B,o,none⟩ (.int .i64 f.id)).setCell ⟨B,o+1,none⟩ (.int .i64 f.la)).setCell ⟨B,o+2,none⟩ (.int .i64 f.ki)).setCell ⟨B,o+3,none⟩ (.int .i64 f.wi)).setCell ⟨B,o+4,none⟩ (.slice f.a f.n f.cap)).setCell ⟨B,o+5,none⟩ (.string f.lab)).setCell ⟨B,o+6,none⟩ (.int .i64 f.pr))
theorem zEu {W:World}{B o:Nat}{f:yD}{p:Addr}(h:p.block≠B∨p.off<o∨o+6<p.off):(zG2 W B o f).cell? p=W.cell? p:=by
 have ne:∀ k:Nat,k≤6→(⟨B,o+k,none⟩:Addr)≠p:=fun k hk e=>by subst e;simp at h;omega
 have ne0:(⟨B,o,none⟩:Addr)≠p:=ne 0 (by omega)
 unfold zG2
 rw [zB (ne 6 (by omega)),zB (ne 5 (by omega)),zB (ne 4 (by omega)),zB (ne 3 (by omega)),zB (ne 2 (by omega)),zB (ne 1 (by omega)),zB ne0]
theorem zEt {W:World}{B o m:Nat}{f:yD}(h:zC W B m):zC (zG2 W B o f) B m:=by
 unfold zG2
 exact ((((((h.set _ _).set _ _).set _ _).set _ _).set _ _).set _ _).set _ _
theorem zNk {W:World}{B o m:Nat}{f:yD}(h:zC W B m)(ho:o+6<m):uC (zG2 W B o f) B o f.id f.la f.ki f.wi (.slice f.a f.n f.cap) f.lab f.pr:=by
 have ne:∀ i j:Nat,i≠j→(⟨B,i,none⟩:Addr)≠⟨B,j,none⟩:=fun i j hij h=>hij (by injection h)
 obtain ⟨u0,g0⟩:=(h (o) (by omega)).1
 obtain ⟨u1,g1⟩:=((h.set (o) (.int .i64 f.id)) (o+1) (by omega)).1
 obtain ⟨u2,g2⟩:=(((h.set (o) (.int .i64 f.id)).set (o+1) (.int .i64 f.la)) (o+2) (by omega)).1
 obtain ⟨u3,g3⟩:=((((h.set (o) (.int .i64 f.id)).set (o+1) (.int .i64 f.la)).set (o+2) (.int .i64 f.ki)) (o+3) (by omega)).1
 obtain ⟨u4,g4⟩:=(((((h.set (o) (.int .i64 f.id)).set (o+1) (.int .i64 f.la)).set (o+2) (.int .i64 f.ki)).set (o+3) (.int .i64 f.wi)) (o+4) (by omega)).1
 obtain ⟨u5,g5⟩:=((((((h.set (o) (.int .i64 f.id)).set (o+1) (.int .i64 f.la)).set (o+2) (.int .i64 f.ki)).set (o+3) (.int .i64 f.wi)).set (o+4) (.slice f.a f.n f.cap)) (o+5) (by omega)).1
 obtain ⟨u6,g6⟩:=(((((((h.set (o) (.int .i64 f.id)).set (o+1) (.int .i64 f.la)).set (o+2) (.int .i64 f.ki)).set (o+3) (.int .i64 f.wi)).set (o+4) (.slice f.a f.n f.cap)).set (o+5) (.string f.lab)) (o+6) (by omega)).1
 unfold zG2
 refine ⟨?_,?_,?_,?_,?_,?_,?_⟩
 ·rw [zB (ne _ _ (by omega)),zB (ne _ _ (by omega)),zB (ne _ _ (by omega)),zB (ne _ _ (by omega)),zB (ne _ _ (by omega)),zB (ne _ _ (by omega))];exact zG g0
 ·rw [zB (ne _ _ (by omega)),zB (ne _ _ (by omega)),zB (ne _ _ (by omega)),zB (ne _ _ (by omega)),zB (ne _ _ (by omega))];exact zG g1
 ·rw [zB (ne _ _ (by omega)),zB (ne _ _ (by omega)),zB (ne _ _ (by omega)),zB (ne _ _ (by omega))];exact zG g2
 ·rw [zB (ne _ _ (by omega)),zB (ne _ _ (by omega)),zB (ne _ _ (by omega))];exact zG g3
 ·rw [zB (ne _ _ (by omega)),zB (ne _ _ (by omega))];exact zG g4
 ·rw [zB (ne _ _ (by omega))];exact zG g5
 ·exact zG g6
theorem vW (W:World)(B o:Nat)(f:yD):(zG2 W B o f).heap.size=W.heap.size:=by unfold zG2;simp
theorem zLi {V W:World}{n B o:Nat}{f:yD}(h:Below n V W)(hB:n≤B):Below n V (zG2 W B o f):=by
 unfold zG2
 exact ((((((h.setCell hB _).setCell hB _).setCell hB _).setCell hB _).setCell hB _).setCell hB _).setCell hB _
theorem zI.lay {W:World}{b off n:Nat}{X Y:Nat→Int}(h:zI W b off n X Y){B o:Nat}{f:yD}(hne:B≠b):zI (zG2 W B o f) b off n X Y:=by
 unfold zG2
 exact ((((((h.store hne).store hne).store hne).store hne).store hne).store hne).store hne
theorem info_if:(Tryz.prog.info? 209).map (fun i=>(i.zero,i.size,i.bytes))=some (some (.agg #[.int .i64 0,.int .i64 0,.int .i64 0,.int .i64 0,.slice none 0 0,.string ⟨#[]⟩,.int .i64 0]),7,80):=by kernel_rfl
abbrev zOn:Array Value:=#[.int .i64 0,.int .i64 0,.int .i64 0,.int .i64 0,.slice none 0 0,.string ⟨#[]⟩,.int .i64 0]
theorem zLg (n:Nat)(h:n≤1048576)(w:World) :
  (Instr.makeSlice 137 (.int .i64 (n:Int)) (.int .i64 (n:Int))).run Tryz.prog w=.ok (.slice (some ⟨w.heap.size,0,none⟩) n n) (w.alloc (.cells (madeCells zOn (n * 7)) 209)):=by
 obtain ⟨i,hi,hz,hs,hb⟩:=info_parts info_if
 have hr:=run_make (P:=Tryz.prog) w 137 209 i _ Tryz.underlying137 hi hz .i64 .i64 (n:Int) (n:Int) (by omega) (Int.le_refl _) (by rw [hb];omega) (by omega)
 simp only [Int.toNat_natCast,hs] at hr
 exact hr
theorem zIj (n:Nat)(w:World)(t:TypeId):zC (w.alloc (.cells (madeCells zOn n) t)) w.heap.size n:=fun o ho=>by
 have hz:=size_madeCells zOn n
 refine ⟨⟨(madeCells zOn n)[o]'(by rw [hz];exact ho),?_⟩,World.frozen?_alloc_at _ _ _ _ rfl⟩
 rw [World.cell?_alloc_at _ _ _ _ rfl]
 exact Array.getElem?_eq_getElem _
theorem own_lay {W:World}{B n k q:Nat}{F G:Nat→yD}(h:xN W B B k F G)(hT:zC W B (n * 7))(hk:k<n)(hqB:B≤q)(hq:q<W.heap.size)(hp:zI W q 0 (F k).n (F k).X (F k).Y)(hne:q≠B) :
  xN (zG2 W B (k * 7) { F k with a:=some ⟨q,0,none⟩,cap:=(F k).n }) B B (k+1) F (fun i=>if i=k then { F k with a:=some ⟨q,0,none⟩,cap:=(F k).n } else G i):=by
 obtain ⟨h1,h2,h3,h4⟩:=h
 refine ⟨h1,by rw [vW];exact h2,fun i hi=>?_,fun i hi=>?_⟩
 ·by_cases e:i=k
  ·subst e
   simp only [if_pos,Nat.zero_add]
   refine ⟨zNk hT (by omega),.inr ⟨q,0,rfl,by rw [vW];exact hq,hp.lay (fun h=>hne h.symm)⟩⟩
  ·simp only [if_neg e]
   obtain ⟨c,ip⟩:=h3 i (by omega)
   obtain ⟨_,q',e1,e2,e3,e4,e5,e6⟩:=h4 i (by omega)
   refine ⟨?_,?_⟩
   ·obtain ⟨c0,c1,c2,c3,c4,c5,c6⟩:=c
    refine ⟨?_,?_,?_,?_,?_,?_,?_⟩ <;> (rw [zEu (by right;left;simp;omega)];assumption)
   ·exact .inr ⟨q',0,e1,by rw [vW];exact e5,e6.lay (fun h=>e3 h.symm)⟩
 ·by_cases e:i=k
  ·subst e
   simp only [if_pos]
   exact ⟨⟨rfl,rfl,rfl,rfl,rfl,rfl,rfl,rfl,rfl⟩,q,by first | rfl | trivial,by first | trivial | rfl,hne,hqB,by rw [vW];exact hq,hp.lay (fun h=>hne h.symm)⟩
  ·simp only [if_neg e]
   obtain ⟨sm,q',e1,e2,e3,e4,e5,e6⟩:=h4 i (by omega)
   exact ⟨sm,q',e1,e2,e3,e4,by rw [vW];exact e5,e6.lay (fun h=>e3 h.symm)⟩
def yL (n:Nat)(F:Nat→yD):Prop:=n≤1048576∧∀ i,i<n→(F i).n≤1048576∧(F i).lab.size≤1048576
def zE7 (n:Nat)(F:Nat→yD):Prop:=n≤maxLen∧∀ i,i<n→(F i).n≤maxLen∧(F i).lab.size≤maxLen
theorem zMz (left n s:Nat)(hl:left≤1048576):szF left n s=-1∨∃ m:Nat,szF left n s=(m:Int)∧m≤left∧n≤1048576∧s≤1048576:=by
 unfold szF
 by_cases h:left<n+s
 ·left;rw [if_pos h]
 ·right;rw [if_neg h];exact ⟨left - n - s,by omega,by omega,by omega,by omega⟩
theorem zD1 (a:Option Addr)(n cap:Nat)(F:Nat→yD)(left:Nat)(w:World)(hl:left≤1048576)(hf:zKn w a n F)(hc:zE7 n F) :
  Calls Tryz.prog 219 #[.slice a n cap,.int .i64 left] w fun e w'=>(e=.returned (.int .i64 (-1))∨∃ m:Nat,m≤left∧yL n F∧e=.returned (.int .i64 m))∧Bw w w':=by
 obtain ⟨hc1,hc2⟩:=hc
 unfold maxLen at hc1
 have HC:Hid (∀ i,i<n→(F i).n≤maxLen∧(F i).lab.size≤maxLen):=hc2
 have HF:Hid (zKn w a n F):=hf
 clear hc2 hf
 by_cases h0:left<n
 ·have hneg:(left:Int) - (n:Int)<0:=by omega
  go_enter Tryz.func219,Tryz.ntmps219
  go_wp2
  go_ret
  exact ⟨.inl rfl,Qb⟩
 ·have hneg:¬ (left:Int) - (n:Int)<0:=by omega
  have hn:n≤1048576:=by omega
  clear hc1
  go_enter Tryz.func219,Tryz.ntmps219
  go_wp2
  go_loopw [1,5] (fun v i wr=>∃ k m:Nat,k≤n∧v=.int .i64 m∧i=.int .i64 k∧m≤left∧(∀ j,j<k→(F j).n≤1048576∧(F j).lab.size≤1048576)∧Bw w wr) (fun _ i _=>n - (intOf i).toNat)
  case atStart=>exact ⟨0,left - n,by omega,by congr 1;omega,rfl,by omega,by omega,Below.refl _ _⟩
  case round =>
   obtain ⟨k,m,hk,rfl,rfl,hm,hA,hB⟩:=hrel
   by_cases hlt:k<n
   ·rcases HF.out with hz | ⟨b,off,rfl,hbl,hpt⟩
    ·omega
    ·obtain ⟨⟨f0,f1,f2,f3,f4,f5,f6⟩,_⟩:=(hpt.below hB hbl) k hlt
     obtain ⟨g1,g2⟩:=HC.out k hlt
     have HG:Hid ((F k).n≤maxLen∧(F k).lab.size≤maxLen):=⟨g1,g2⟩
     have HB:Hid (Bw w wr):=hB
     have HA:Hid (∀ j,j<k→(F j).n≤1048576∧(F j).lab.size≤1048576):=hA
     clear hB hA hpt g1 g2
     have hi:(k:Int)<(n:Int):=by omega
     have hi0:(0:Int)≤(k:Int):=by omega
     have hm1:m≤1048576:=by omega
     go_wp2_with fail
     refine (zFe _ _ _ _ _ _ _ _ _ m _ hm1 HG.out.1 HG.out.2).mono ?_
     rintro e w' ⟨rfl,hb⟩
     have HBn:Hid (Bw w w'):=zA HB.out hb
     clear hb f0 f1 f2 f3 f4 f5 f6
     rcases zMz m (F k).n (F k).lab.size hm1 with h | ⟨m',h,h1,h2,h3⟩
     ·rw [h]
      go_wp2
      go_ret
      exact ⟨.inl rfl,HBn.out⟩
     ·rw [h]
      have hneg':¬ ((m':Nat):Int)<0:=by omega
      go_wp2
      go_roundw
      case rel=>exact ⟨k+1,m',by omega,rfl,by go_num,by omega,fun j hj=>by
        by_cases e:j=k
        ·rw [e];exact ⟨h2,h3⟩
        ·exact HA.out j (by omega),HBn.out⟩
      case measure=>simp [intOf];omega
   ·go_wp2
    go_ret
    exact ⟨.inr ⟨m,hm,⟨hn,fun i hi=>hA i (by omega)⟩,rfl⟩,hB⟩
theorem zEd (b d n B C:Nat)(F G H:Nat→yD)(w:World)(hg:xN w B b n F G)(hh:xN w C d n F H)(hs:yL n F) :
  Calls Tryz.prog 225 #[.slice (some ⟨b,0,none⟩) n n,.slice (some ⟨d,0,none⟩) n n] w fun e w'=>e=.returned (.bool true)∧Bw w w':=by
 have HG:Hid (xN w B b n F G):=hg
 have HH:Hid (xN w C d n F H):=hh
 have hbl:b<w.heap.size:=hg.2.1
 have hdl:d<w.heap.size:=hh.2.1
 have HS:Hid (yL n F):=hs
 clear hg hh hs
 go_enter Tryz.func225,Tryz.ntmps225
 go_wp2
 go_loopw [5] (fun i wr=>∃ k:Nat,k≤n∧i=.int .i64 k∧Bw w wr) (fun i _=>n - (intOf i).toNat)
 case atStart=>exact ⟨0,by omega,rfl,Below.refl _ _⟩
 case round =>
  obtain ⟨k,hk,rfl,hB⟩:=hrel
  by_cases hlt:k<n
  ·have hFG:=HG.out.2.2.1
   have hFH:=HH.out.2.2.1
   have c0:∀ W',Bw wr W'→W'.cell? ⟨b,k * 7,none⟩=some (.int .i64 (G k).id):=fun W' h=>by simpa using ((hFG.below hB hbl).below h (Nat.lt_of_lt_of_le hbl hB.size) k hlt).1.1
   have c1:∀ W',Bw wr W'→W'.cell? ⟨b,k * 7+1,none⟩=some (.int .i64 (G k).la):=fun W' h=>by simpa using ((hFG.below hB hbl).below h (Nat.lt_of_lt_of_le hbl hB.size) k hlt).1.2.1
   have c2:∀ W',Bw wr W'→W'.cell? ⟨b,k * 7+2,none⟩=some (.int .i64 (G k).ki):=fun W' h=>by simpa using ((hFG.below hB hbl).below h (Nat.lt_of_lt_of_le hbl hB.size) k hlt).1.2.2.1
   have c3:∀ W',Bw wr W'→W'.cell? ⟨b,k * 7+3,none⟩=some (.int .i64 (G k).wi):=fun W' h=>by simpa using ((hFG.below hB hbl).below h (Nat.lt_of_lt_of_le hbl hB.size) k hlt).1.2.2.2.1
   have c4:∀ W',Bw wr W'→W'.cell? ⟨b,k * 7+4,none⟩=some (.slice (G k).a (G k).n (G k).cap):=fun W' h=>by simpa using ((hFG.below hB hbl).below h (Nat.lt_of_lt_of_le hbl hB.size) k hlt).1.2.2.2.2.1
   have c5:∀ W',Bw wr W'→W'.cell? ⟨b,k * 7+5,none⟩=some (.string (G k).lab):=fun W' h=>by simpa using ((hFG.below hB hbl).below h (Nat.lt_of_lt_of_le hbl hB.size) k hlt).1.2.2.2.2.2.1
   have c6:∀ W',Bw wr W'→W'.cell? ⟨b,k * 7+6,none⟩=some (.int .i64 (G k).pr):=fun W' h=>by simpa using ((hFG.below hB hbl).below h (Nat.lt_of_lt_of_le hbl hB.size) k hlt).1.2.2.2.2.2.2
   have d0:∀ W',Bw wr W'→W'.cell? ⟨d,k * 7,none⟩=some (.int .i64 (H k).id):=fun W' h=>by simpa using ((hFH.below hB hdl).below h (Nat.lt_of_lt_of_le hdl hB.size) k hlt).1.1
   have d1:∀ W',Bw wr W'→W'.cell? ⟨d,k * 7+1,none⟩=some (.int .i64 (H k).la):=fun W' h=>by simpa using ((hFH.below hB hdl).below h (Nat.lt_of_lt_of_le hdl hB.size) k hlt).1.2.1
   have d2:∀ W',Bw wr W'→W'.cell? ⟨d,k * 7+2,none⟩=some (.int .i64 (H k).ki):=fun W' h=>by simpa using ((hFH.below hB hdl).below h (Nat.lt_of_lt_of_le hdl hB.size) k hlt).1.2.2.1
   have d3:∀ W',Bw wr W'→W'.cell? ⟨d,k * 7+3,none⟩=some (.int .i64 (H k).wi):=fun W' h=>by simpa using ((hFH.below hB hdl).below h (Nat.lt_of_lt_of_le hdl hB.size) k hlt).1.2.2.2.1
   have d4:∀ W',Bw wr W'→W'.cell? ⟨d,k * 7+4,none⟩=some (.slice (H k).a (H k).n (H k).cap):=fun W' h=>by simpa using ((hFH.below hB hdl).below h (Nat.lt_of_lt_of_le hdl hB.size) k hlt).1.2.2.2.2.1
   have d5:∀ W',Bw wr W'→W'.cell? ⟨d,k * 7+5,none⟩=some (.string (H k).lab):=fun W' h=>by simpa using ((hFH.below hB hdl).below h (Nat.lt_of_lt_of_le hdl hB.size) k hlt).1.2.2.2.2.2.1
   have d6:∀ W',Bw wr W'→W'.cell? ⟨d,k * 7+6,none⟩=some (.int .i64 (H k).pr):=fun W' h=>by simpa using ((hFH.below hB hdl).below h (Nat.lt_of_lt_of_le hdl hB.size) k hlt).1.2.2.2.2.2.2
   obtain ⟨sg,q,e1,e2,_,_,e5,e6⟩:=HG.out.2.2.2 k hlt
   obtain ⟨sh,r,g1,g2,_,_,g5,g6⟩:=HH.out.2.2.2 k hlt
   obtain ⟨s1,s2,s3,s4,s5,s6,s7,s8,s9⟩:=sg
   obtain ⟨t1,t2,t3,t4,t5,t6,t7,t8,t9⟩:=sh
   rw [s1] at c0;rw [s2] at c1;rw [s3] at c2;rw [s4] at c3;rw [e1,e2,s5] at c4;rw [s8] at c5;rw [s9] at c6
   rw [t1] at d0;rw [t2] at d1;rw [t3] at d2;rw [t4] at d3;rw [g1,g2,t5] at d4;rw [t8] at d5;rw [t9] at d6
   rw [s5,s6,s7] at e6
   rw [t5,t6,t7] at g6
   have KE:Hid (zI wr q 0 (F k).n (F k).X (F k).Y):=e6.below hB e5
   have KG:Hid (zI wr r 0 (F k).n (F k).X (F k).Y):=g6.below hB g5
   have hql:q<wr.heap.size:=Nat.lt_of_lt_of_le e5 hB.size
   have hrl:r<wr.heap.size:=Nat.lt_of_lt_of_le g5 hB.size
   have HLT:Hid (k<n):=hlt
   have hnn:=HS.out.1
   have hnk:=(HS.out.2 k hlt).1
   have HB:Hid (Bw w wr):=hB
   clear hB hFG hFH s1 s2 s3 s4 s5 s6 s7 s8 s9 t1 t2 t3 t4 t5 t6 t7 t8 t9 e1 e2 e5 e6 g1 g2 g5 g6
   have hi:(k:Int)<(n:Int):=by omega
   have hi0:(0:Int)≤(k:Int):=by omega
   go_wp2
   go_region_held3 (fun W'=>Bw wr W') ((repeat (first|exact Qr _ _|assumption|refine Qd ?_|refine Qa ?_ _|refine Qt ?_|refine Qs ?_ _|refine Qo ?_ ?_ _ _)))
    (first
     | (go_at_call 261;refine (zF4 _ _ _ _ (F k).n (F k).X (F k).Y _ _ q r _ (KE.out.below (by assumption) hql) (KG.out.below (by assumption) hrl) (Nat.lt_of_lt_of_le hql (Below.size (by assumption))) (Nat.lt_of_lt_of_le hrl (Below.size (by assumption))) hnk).mono ?_;rintro e w' ⟨rfl,hb⟩))
   go_wp2
   go_roundw
   case rel=>exact ⟨k+1,by have:=HLT.out;omega,by go_num,zA HB.out (by assumption)⟩
   case measure=>have:=HLT.out;simp [intOf];omega
  ·go_wp2
   go_ret
   exact ⟨rfl,hB⟩
theorem zPc (b n cap:Nat)(G:Nat→yD)(i:Nat)(w:World)(hi:i<n)(hg:zAc w b 0 n G)(hbl:b<w.heap.size)(hn:n≤1048576) :
  Calls Tryz.prog 154 #[.slice (some ⟨b,0,none⟩) n cap,.int .i64 (G i).id] w fun e w'=>(∃ r:Nat,r≤i∧(G r).id=(G i).id∧(∀ j,j<r→(G j).id≠(G i).id)∧e=.returned (.int .i64 r))∧Bw w w':=by
 have HG:Hid (zAc w b 0 n G):=hg
 clear hg
 have HI:Hid (i<n):=hi
 clear hi
 generalize hid:(G i).id=t
 have HT:Hid ((G i).id=t):=hid
 clear hid
 go_enter Tryz.func154,Tryz.ntmps154
 go_wp2
 go_loopw [5] (fun v wr=>∃ k:Nat,k≤i∧v=.int .i64 k∧(∀ j,j<k→(G j).id≠t)∧Bw w wr) (fun v _=>n - (intOf v).toNat)
 case atStart=>exact ⟨0,by omega,rfl,by omega,Below.refl _ _⟩
 case round =>
  obtain ⟨k,hk,rfl,hA,hB⟩:=hrel
  have hlt:k<n:=Nat.lt_of_le_of_lt hk HI.out
  have f0:wr.cell? ⟨b,k * 7,none⟩=some (.int .i64 (G k).id):=by simpa using ((HG.out.below hB hbl) k hlt).1.1
  have HB:Hid (Bw w wr):=hB
  have HA:Hid (∀ j,j<k→(G j).id≠t):=hA
  clear hB hA
  have hi:(k:Int)<(n:Int):=by omega
  have hi0:(0:Int)≤(k:Int):=by omega
  by_cases he:(G k).id=t
  ·rw [he] at f0
   go_wp2
   go_ret
   exact ⟨⟨k,hk,he,HA.out,rfl⟩,HB.out⟩
  ·have he':((G k).id == t)=false:=by simpa using he
   have HE:Hid ((G k).id≠t):=he
   have hki:k≠i:=fun e=>he (by rw [e];exact HT.out)
   clear he
   go_wp2
   go_roundw
   case rel=>exact ⟨k+1,by omega,by go_num,fun j hj=>by
     by_cases e:j=k
     ·rw [e];exact HE.out
     ·exact HA.out j (by omega),HB.out⟩
   case measure=>simp [intOf];omega
theorem zHi (b n cap N:Nat)(G:Nat→yD)(t:Int)(w:World)(hnN:n≤N)(hg:zAc w b 0 N G)(hbl:b<w.heap.size)(hn:n≤1048576) :
  Calls Tryz.prog 161 #[.slice (some ⟨b,0,none⟩) n cap,.int .i64 t] w fun e w'=>((e=.returned (.bool true)∧∃ j,j<n∧(G j).id=t)∨(e=.returned (.bool false)∧∀ j,j<n→(G j).id≠t))∧Bw w w':=by
 have HG:Hid (zAc w b 0 N G):=hg
 clear hg
 go_enter Tryz.func161,Tryz.ntmps161
 go_wp2
 go_loopw [9] (fun v wr=>∃ k:Nat,k≤n∧v=.int .i64 k∧(∀ j,j<k→(G j).id≠t)∧Bw w wr) (fun v _=>n - (intOf v).toNat)
 case atStart=>exact ⟨0,by omega,rfl,by omega,Below.refl _ _⟩
 case round =>
  obtain ⟨k,hk,rfl,hA,hB⟩:=hrel
  have HB:Hid (Bw w wr):=hB
  have HA:Hid (∀ j,j<k→(G j).id≠t):=hA
  by_cases hlt:k<n
  ·obtain ⟨⟨f0,f1,f2,f3,f4,f5,f6⟩,_⟩:=(HG.out.below hB hbl) k (by omega)
   simp only [Nat.zero_add] at f0 f1 f2 f3 f4 f5 f6
   clear hB hA
   have hi:(k:Int)<(n:Int):=by omega
   have hi0:(0:Int)≤(k:Int):=by omega
   by_cases he:(G k).id=t
   ·have he':((G k).id == t)=true:=by simpa using he
    have HE:Hid ((G k).id=t):=he
    clear he
    go_wp2
    go_ret
    exact ⟨.inl ⟨rfl,k,hlt,HE.out⟩,by have HB':=HB.out;exact Qb⟩
   ·have he':((G k).id == t)=false:=by simpa using he
    have HE:Hid ((G k).id≠t):=he
    clear he
    go_wp2
    go_roundw
    case rel=>exact ⟨k+1,by omega,by go_num,fun j hj=>by
      by_cases e:j=k
      ·rw [e];exact HE.out
      ·exact HA.out j (by omega),by have HB':=HB.out;exact Qb⟩
    case measure=>simp [intOf];omega
  ·go_wp2
   go_ret
   exact ⟨.inr ⟨rfl,fun j hj=>hA j (by omega)⟩,hB⟩

end Go.Proofs.YtpaiholildedcaaGreat
