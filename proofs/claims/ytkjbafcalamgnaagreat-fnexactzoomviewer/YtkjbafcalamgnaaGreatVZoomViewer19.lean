/- Texts. -/
import Derived.Test.YtkjbafcalamgnaaGreatVZoomViewer16
import Derived.Test.YtkjbafcalamgnaaGreatVZoomViewer17
set_option linter.unusedSimpArgs false
set_option linter.unusedVariables false
set_option maxRecDepth 100000
set_option maxHeartbeats 32000000
namespace Go.Proofs.YtkjbafcalamgnaaGreat
open Go.RowKit
structure yE where
 id:Int
 la:Int
 ki:Int
 wi:Int
 a:Option Addr
 n:Nat
 cap:Nat
 X:Nat→Int
 Y:Nat→Int
 lab:ByteArray
 pr:Int
def zA5 (w:World)(b off n:Nat)(F:Nat→yE):Prop :=
 ∀ i,i<n→zAh w b (off+i * 7) (F i).id (F i).la (F i).ki (F i).wi (.slice (F i).a (F i).n (F i).cap) (F i).lab (F i).pr∧xR w (F i).a (F i).n (F i).X (F i).Y
theorem zA5.below {w w':World}{b off n:Nat}{F:Nat→yE}(h:zA5 w b off n F)(hb:Below w.heap.size w w')(hl:b<w.heap.size):zA5 w' b off n F:=fun i hi =>
 ⟨(h i hi).1.below hb hl,(h i hi).2.below hb⟩
def zGu (w:World)(a:Option Addr)(n:Nat)(F:Nat→yE):Prop:=n=0∨∃ b off,a=some ⟨b,off,none⟩∧b<w.heap.size∧zA5 w b off n F
theorem zGu.below {w w':World}{a:Option Addr}{n:Nat}{F:Nat→yE}(h:zGu w a n F)(hb:Below w.heap.size w w'):zGu w' a n F:=by
 rcases h with h | ⟨b,off,e,hl,hp⟩
 ·exact .inl h
 ·exact .inr ⟨b,off,e,Nat.lt_of_lt_of_le hl hb.size,hp.below hb hl⟩
def yE.same (f g:yE):Prop:=f.id=g.id∧f.la=g.la∧f.ki=g.ki∧f.wi=g.wi∧f.n=g.n∧f.X=g.X∧f.Y=g.Y∧f.lab=g.lab∧f.pr=g.pr
def uH (w:World)(B b n:Nat)(F G:Nat→yE):Prop :=
 B≤b∧b<w.heap.size∧zA5 w b 0 n G∧∀ i,i<n→(G i).same (F i)∧∃ q,(G i).a=some ⟨q,0,none⟩∧(G i).cap=(G i).n∧q≠b∧B≤q∧q<w.heap.size∧zL w q 0 (G i).n (G i).X (G i).Y
theorem uH.below {w w':World}{B b n:Nat}{F G:Nat→yE}(h:uH w B b n F G)(hb:Below w.heap.size w w'):uH w' B b n F G:=by
 obtain ⟨h1,h2,h3,h4⟩:=h
 refine ⟨h1,Nat.lt_of_lt_of_le h2 hb.size,h3.below hb h2,fun i hi=>?_⟩
 obtain ⟨e,q,e1,e2,e3,e4,e5,e6⟩:=h4 i hi
 exact ⟨e,q,e1,e2,e3,e4,Nat.lt_of_lt_of_le e5 hb.size,e6.below hb e5⟩
def zMy (W:World)(B o:Nat)(f:yE):World:=(((((((W.setCell ⟨B,o,none⟩ (.int .i64 f.id)).setCell ⟨B,o+1,none⟩ (.int .i64 f.la)).setCell ⟨B,o+2,none⟩ (.int .i64 f.ki)).setCell ⟨B,o+3,none⟩ (.int .i64 f.wi)).setCell ⟨B,o+4,none⟩ (.slice f.a f.n f.cap)).setCell ⟨B,o+5,none⟩ (.string f.lab)).setCell ⟨B,o+6,none⟩ (.int .i64 f.pr))
theorem zJk {W:World}{B o:Nat}{f:yE}{p:Addr}(h:p.block≠B∨p.off<o∨o+6<p.off):(zMy W B o f).cell? p=W.cell? p:=by
 have ne:∀ k:Nat,k≤6→(⟨B,o+k,none⟩:Addr)≠p:=fun k hk e=>by subst e;simp at h;omega
 have ne0:(⟨B,o,none⟩:Addr)≠p:=ne 0 (by omega)
 unfold zMy
 rw [zB (ne 6 (by omega)),zB (ne 5 (by omega)),zB (ne 4 (by omega)),zB (ne 3 (by omega)),zB (ne 2 (by omega)),zB (ne 1 (by omega)),zB ne0]
theorem zJj {W:World}{B o m:Nat}{f:yE}(h:zC W B m):zC (zMy W B o f) B m:=by
 unfold zMy
 exact ((((((h.set _ _).set _ _).set _ _).set _ _).set _ _).set _ _).set _ _
theorem zUp {W:World}{B o m:Nat}{f:yE}(h:zC W B m)(ho:o+6<m):zAh (zMy W B o f) B o f.id f.la f.ki f.wi (.slice f.a f.n f.cap) f.lab f.pr:=by
 have ne:∀ i j:Nat,i≠j→(⟨B,i,none⟩:Addr)≠⟨B,j,none⟩:=fun i j hij h=>hij (by injection h)
 obtain ⟨u0,g0⟩:=(h (o) (by omega)).1
 obtain ⟨u1,g1⟩:=((h.set (o) (.int .i64 f.id)) (o+1) (by omega)).1
 obtain ⟨u2,g2⟩:=(((h.set (o) (.int .i64 f.id)).set (o+1) (.int .i64 f.la)) (o+2) (by omega)).1
 obtain ⟨u3,g3⟩:=((((h.set (o) (.int .i64 f.id)).set (o+1) (.int .i64 f.la)).set (o+2) (.int .i64 f.ki)) (o+3) (by omega)).1
 obtain ⟨u4,g4⟩:=(((((h.set (o) (.int .i64 f.id)).set (o+1) (.int .i64 f.la)).set (o+2) (.int .i64 f.ki)).set (o+3) (.int .i64 f.wi)) (o+4) (by omega)).1
 obtain ⟨u5,g5⟩:=((((((h.set (o) (.int .i64 f.id)).set (o+1) (.int .i64 f.la)).set (o+2) (.int .i64 f.ki)).set (o+3) (.int .i64 f.wi)).set (o+4) (.slice f.a f.n f.cap)) (o+5) (by omega)).1
 obtain ⟨u6,g6⟩:=(((((((h.set (o) (.int .i64 f.id)).set (o+1) (.int .i64 f.la)).set (o+2) (.int .i64 f.ki)).set (o+3) (.int .i64 f.wi)).set (o+4) (.slice f.a f.n f.cap)).set (o+5) (.string f.lab)) (o+6) (by omega)).1
 unfold zMy
 refine ⟨?_,?_,?_,?_,?_,?_,?_⟩
 ·rw [zB (ne _ _ (by omega)),zB (ne _ _ (by omega)),zB (ne _ _ (by omega)),zB (ne _ _ (by omega)),zB (ne _ _ (by omega)),zB (ne _ _ (by omega))];exact zE g0
 ·rw [zB (ne _ _ (by omega)),zB (ne _ _ (by omega)),zB (ne _ _ (by omega)),zB (ne _ _ (by omega)),zB (ne _ _ (by omega))];exact zE g1
 ·rw [zB (ne _ _ (by omega)),zB (ne _ _ (by omega)),zB (ne _ _ (by omega)),zB (ne _ _ (by omega))];exact zE g2
 ·rw [zB (ne _ _ (by omega)),zB (ne _ _ (by omega)),zB (ne _ _ (by omega))];exact zE g3
 ·rw [zB (ne _ _ (by omega)),zB (ne _ _ (by omega))];exact zE g4
 ·rw [zB (ne _ _ (by omega))];exact zE g5
 ·exact zE g6
theorem zBb (W:World)(B o:Nat)(f:yE):(zMy W B o f).heap.size=W.heap.size:=by unfold zMy;simp
theorem zSd {V W:World}{n B o:Nat}{f:yE}(h:Below n V W)(hB:n≤B):Below n V (zMy W B o f):=by
 unfold zMy
 exact ((((((h.setCell hB _).setCell hB _).setCell hB _).setCell hB _).setCell hB _).setCell hB _).setCell hB _
theorem zL.lay {W:World}{b off n:Nat}{X Y:Nat→Int}(h:zL W b off n X Y){B o:Nat}{f:yE}(hne:B≠b):zL (zMy W B o f) b off n X Y:=by
 unfold zMy
 exact ((((((h.store hne).store hne).store hne).store hne).store hne).store hne).store hne
theorem zPl:(Tryz.prog.info? 138).map (fun i=>(i.zero,i.size,i.bytes))=some (some (.agg #[.int .i64 0,.int .i64 0,.int .i64 0,.int .i64 0,.slice none 0 0,.string ⟨#[]⟩,.int .i64 0]),7,80):=by kernel_rfl
abbrev zV2:Array Value:=#[.int .i64 0,.int .i64 0,.int .i64 0,.int .i64 0,.slice none 0 0,.string ⟨#[]⟩,.int .i64 0]
theorem zSb (n:Nat)(h:n≤1048576)(w:World) :
  (Instr.makeSlice 55 (.int .i64 (n:Int)) (.int .i64 (n:Int))).run Tryz.prog w=.ok (.slice (some ⟨w.heap.size,0,none⟩) n n) (w.alloc (.cells (madeCells zV2 (n * 7)) 138)):=by
 obtain ⟨i,hi,hz,hs,hb⟩:=info_parts zPl
 have hr:=run_make (P:=Tryz.prog) w 55 138 i _ Tryz.underlying55 hi hz .i64 .i64 (n:Int) (n:Int) (by omega) (Int.le_refl _) (by rw [hb];omega) (by omega)
 simp only [Int.toNat_natCast,hs] at hr
 exact hr
theorem zOs (n:Nat)(w:World)(t:TypeId):zC (w.alloc (.cells (madeCells zV2 n) t)) w.heap.size n:=fun o ho=>by
 have hz:=size_madeCells zV2 n
 refine ⟨⟨(madeCells zV2 n)[o]'(by rw [hz];exact ho),?_⟩,World.frozen?_alloc_at _ _ _ _ rfl⟩
 rw [World.cell?_alloc_at _ _ _ _ rfl]
 exact Array.getElem?_eq_getElem _
theorem own_lay {W:World}{B n k q:Nat}{F G:Nat→yE}(h:uH W B B k F G)(hT:zC W B (n * 7))(hk:k<n)(hqB:B≤q)(hq:q<W.heap.size)(hp:zL W q 0 (F k).n (F k).X (F k).Y)(hne:q≠B) :
  uH (zMy W B (k * 7) { F k with a:=some ⟨q,0,none⟩,cap:=(F k).n }) B B (k+1) F (fun i=>if i=k then { F k with a:=some ⟨q,0,none⟩,cap:=(F k).n } else G i):=by
 obtain ⟨h1,h2,h3,h4⟩:=h
 refine ⟨h1,by rw [zBb];exact h2,fun i hi=>?_,fun i hi=>?_⟩
 ·by_cases e:i=k
  ·subst e
   simp only [if_pos,Nat.zero_add]
   refine ⟨zUp hT (by omega),.inr ⟨q,0,rfl,by rw [zBb];exact hq,hp.lay (fun h=>hne h.symm)⟩⟩
  ·simp only [if_neg e]
   obtain ⟨c,ip⟩:=h3 i (by omega)
   obtain ⟨_,q',e1,e2,e3,e4,e5,e6⟩:=h4 i (by omega)
   refine ⟨?_,?_⟩
   ·obtain ⟨c0,c1,c2,c3,c4,c5,c6⟩:=c
    refine ⟨?_,?_,?_,?_,?_,?_,?_⟩ <;> (rw [zJk (by right;left;simp;omega)];assumption)
   ·exact .inr ⟨q',0,e1,by rw [zBb];exact e5,e6.lay (fun h=>e3 h.symm)⟩
 ·by_cases e:i=k
  ·subst e
   simp only [if_pos]
   exact ⟨⟨rfl,rfl,rfl,rfl,rfl,rfl,rfl,rfl,rfl⟩,q,by first | rfl | trivial,by first | trivial | rfl,hne,hqB,by rw [zBb];exact hq,hp.lay (fun h=>hne h.symm)⟩
  ·simp only [if_neg e]
   obtain ⟨sm,q',e1,e2,e3,e4,e5,e6⟩:=h4 i (by omega)
   exact ⟨sm,q',e1,e2,e3,e4,by rw [zBb];exact e5,e6.lay (fun h=>e3 h.symm)⟩
def yO (n:Nat)(F:Nat→yE):Prop:=n≤1048576∧∀ i,i<n→(F i).n≤1048576∧(F i).lab.size≤1048576
def zJ9 (n:Nat)(F:Nat→yE):Prop:=n≤maxLen∧∀ i,i<n→(F i).n≤maxLen∧(F i).lab.size≤maxLen
theorem zTy (left n s:Nat)(hl:left≤1048576):szF left n s=-1∨∃ m:Nat,szF left n s=(m:Int)∧m≤left∧n≤1048576∧s≤1048576:=by
 unfold szF
 by_cases h:left<n+s
 ·left;rw [if_pos h]
 ·right;rw [if_neg h];exact ⟨left - n - s,by omega,by omega,by omega,by omega⟩
theorem zIe (a:Option Addr)(n cap:Nat)(F:Nat→yE)(left:Nat)(w:World)(hl:left≤1048576)(hf:zGu w a n F)(hc:zJ9 n F) :
  Calls Tryz.prog 50 #[.slice a n cap,.int .i64 left] w fun e w'=>(e=.returned (.int .i64 (-1))∨∃ m:Nat,m≤left∧yO n F∧e=.returned (.int .i64 m))∧Bw w w':=by
 obtain ⟨hc1,hc2⟩:=hc
 unfold maxLen at hc1
 have HC:Hid (∀ i,i<n→(F i).n≤maxLen∧(F i).lab.size≤maxLen):=hc2
 have HF:Hid (zGu w a n F):=hf
 clear hc2 hf
 by_cases h0:left<n
 ·have hneg:(left:Int) - (n:Int)<0:=by omega
  go_enter Tryz.func50,Tryz.ntmps50
  go_wp2
  go_ret
  exact ⟨.inl rfl,Qb⟩
 ·have hneg:¬ (left:Int) - (n:Int)<0:=by omega
  have hn:n≤1048576:=by omega
  clear hc1
  go_enter Tryz.func50,Tryz.ntmps50
  go_wp2
  go_loopw [1,5] (fun v i wr=>∃ k m:Nat,k≤n∧v=.int .i64 m∧i=.int .i64 k∧m≤left∧(∀ j,j<k→(F j).n≤1048576∧(F j).lab.size≤1048576)∧Bw w wr) (fun _ i _=>n - (intOf i).toNat)
  case atStart=>exact ⟨0,left - n,by omega,by congr 1;omega,rfl,by omega,by omega,Below.refl _ _⟩
  case round =>
   obtain ⟨k,m,hk,rfl,rfl,hm,hA,hB⟩:=hrel
   by_cases hlt:k<n
   ·rcases HF.out with hz | ⟨b,off,rfl,hbl,hpt⟩
    ·omega
    ·obtain ⟨⟨f0,f1,f2,f3,f4,f5,f6⟩,_⟩:=(hpt.below hB hbl) k hlt
     obtain ⟨g1,g2⟩:=HC.out k hlt
     have HG:Hid ((F k).n≤maxLen∧(F k).lab.size≤maxLen):=⟨g1,g2⟩
     have HB:Hid (Bw w wr):=hB
     have HA:Hid (∀ j,j<k→(F j).n≤1048576∧(F j).lab.size≤1048576):=hA
     clear hB hA hpt g1 g2
     have hi:(k:Int)<(n:Int):=by omega
     have hi0:(0:Int)≤(k:Int):=by omega
     have hm1:m≤1048576:=by omega
     go_wp2_with fail
     refine (zKi _ _ _ _ _ _ _ _ _ m _ hm1 HG.out.1 HG.out.2).mono ?_
     rintro e w' ⟨rfl,hb⟩
     have HBn:Hid (Bw w w'):=zA HB.out hb
     clear hb f0 f1 f2 f3 f4 f5 f6
     rcases zTy m (F k).n (F k).lab.size hm1 with h | ⟨m',h,h1,h2,h3⟩
     ·rw [h]
      go_wp2
      go_ret
      exact ⟨.inl rfl,HBn.out⟩
     ·rw [h]
      have hneg':¬ ((m':Nat):Int)<0:=by omega
      go_wp2
      go_roundw
      case rel=>exact ⟨k+1,m',by omega,rfl,by go_num,by omega,fun j hj=>by
        by_cases e:j=k
        ·rw [e];exact ⟨h2,h3⟩
        ·exact HA.out j (by omega),HBn.out⟩
      case measure=>simp [intOf];omega
   ·go_wp2
    go_ret
    exact ⟨.inr ⟨m,hm,⟨hn,fun i hi=>hA i (by omega)⟩,rfl⟩,hB⟩
theorem zI0 (b d n B C:Nat)(F G H:Nat→yE)(w:World)(hg:uH w B b n F G)(hh:uH w C d n F H)(hs:yO n F) :
  Calls Tryz.prog 56 #[.slice (some ⟨b,0,none⟩) n n,.slice (some ⟨d,0,none⟩) n n] w fun e w'=>e=.returned (.bool true)∧Bw w w':=by
 have HG:Hid (uH w B b n F G):=hg
 have HH:Hid (uH w C d n F H):=hh
 have hbl:b<w.heap.size:=hg.2.1
 have hdl:d<w.heap.size:=hh.2.1
 have HS:Hid (yO n F):=hs
 clear hg hh hs
 go_enter Tryz.func56,Tryz.ntmps56
 go_wp2
 go_loopw [5] (fun i wr=>∃ k:Nat,k≤n∧i=.int .i64 k∧Bw w wr) (fun i _=>n - (intOf i).toNat)
 case atStart=>exact ⟨0,by omega,rfl,Below.refl _ _⟩
 case round =>
  obtain ⟨k,hk,rfl,hB⟩:=hrel
  by_cases hlt:k<n
  ·have hFG:=HG.out.2.2.1
   have hFH:=HH.out.2.2.1
   have c0:∀ W',Bw wr W'→W'.cell? ⟨b,k * 7,none⟩=some (.int .i64 (G k).id):=fun W' h=>by simpa using ((hFG.below hB hbl).below h (Nat.lt_of_lt_of_le hbl hB.size) k hlt).1.1
   have c1:∀ W',Bw wr W'→W'.cell? ⟨b,k * 7+1,none⟩=some (.int .i64 (G k).la):=fun W' h=>by simpa using ((hFG.below hB hbl).below h (Nat.lt_of_lt_of_le hbl hB.size) k hlt).1.2.1
   have c2:∀ W',Bw wr W'→W'.cell? ⟨b,k * 7+2,none⟩=some (.int .i64 (G k).ki):=fun W' h=>by simpa using ((hFG.below hB hbl).below h (Nat.lt_of_lt_of_le hbl hB.size) k hlt).1.2.2.1
   have c3:∀ W',Bw wr W'→W'.cell? ⟨b,k * 7+3,none⟩=some (.int .i64 (G k).wi):=fun W' h=>by simpa using ((hFG.below hB hbl).below h (Nat.lt_of_lt_of_le hbl hB.size) k hlt).1.2.2.2.1
   have c4:∀ W',Bw wr W'→W'.cell? ⟨b,k * 7+4,none⟩=some (.slice (G k).a (G k).n (G k).cap):=fun W' h=>by simpa using ((hFG.below hB hbl).below h (Nat.lt_of_lt_of_le hbl hB.size) k hlt).1.2.2.2.2.1
   have c5:∀ W',Bw wr W'→W'.cell? ⟨b,k * 7+5,none⟩=some (.string (G k).lab):=fun W' h=>by simpa using ((hFG.below hB hbl).below h (Nat.lt_of_lt_of_le hbl hB.size) k hlt).1.2.2.2.2.2.1
   have c6:∀ W',Bw wr W'→W'.cell? ⟨b,k * 7+6,none⟩=some (.int .i64 (G k).pr):=fun W' h=>by simpa using ((hFG.below hB hbl).below h (Nat.lt_of_lt_of_le hbl hB.size) k hlt).1.2.2.2.2.2.2
   have d0:∀ W',Bw wr W'→W'.cell? ⟨d,k * 7,none⟩=some (.int .i64 (H k).id):=fun W' h=>by simpa using ((hFH.below hB hdl).below h (Nat.lt_of_lt_of_le hdl hB.size) k hlt).1.1
   have d1:∀ W',Bw wr W'→W'.cell? ⟨d,k * 7+1,none⟩=some (.int .i64 (H k).la):=fun W' h=>by simpa using ((hFH.below hB hdl).below h (Nat.lt_of_lt_of_le hdl hB.size) k hlt).1.2.1
   have d2:∀ W',Bw wr W'→W'.cell? ⟨d,k * 7+2,none⟩=some (.int .i64 (H k).ki):=fun W' h=>by simpa using ((hFH.below hB hdl).below h (Nat.lt_of_lt_of_le hdl hB.size) k hlt).1.2.2.1
   have d3:∀ W',Bw wr W'→W'.cell? ⟨d,k * 7+3,none⟩=some (.int .i64 (H k).wi):=fun W' h=>by simpa using ((hFH.below hB hdl).below h (Nat.lt_of_lt_of_le hdl hB.size) k hlt).1.2.2.2.1
   have d4:∀ W',Bw wr W'→W'.cell? ⟨d,k * 7+4,none⟩=some (.slice (H k).a (H k).n (H k).cap):=fun W' h=>by simpa using ((hFH.below hB hdl).below h (Nat.lt_of_lt_of_le hdl hB.size) k hlt).1.2.2.2.2.1
   have d5:∀ W',Bw wr W'→W'.cell? ⟨d,k * 7+5,none⟩=some (.string (H k).lab):=fun W' h=>by simpa using ((hFH.below hB hdl).below h (Nat.lt_of_lt_of_le hdl hB.size) k hlt).1.2.2.2.2.2.1
   have d6:∀ W',Bw wr W'→W'.cell? ⟨d,k * 7+6,none⟩=some (.int .i64 (H k).pr):=fun W' h=>by simpa using ((hFH.below hB hdl).below h (Nat.lt_of_lt_of_le hdl hB.size) k hlt).1.2.2.2.2.2.2
   obtain ⟨sg,q,e1,e2,_,_,e5,e6⟩:=HG.out.2.2.2 k hlt
   obtain ⟨sh,r,g1,g2,_,_,g5,g6⟩:=HH.out.2.2.2 k hlt
   obtain ⟨s1,s2,s3,s4,s5,s6,s7,s8,s9⟩:=sg
   obtain ⟨t1,t2,t3,t4,t5,t6,t7,t8,t9⟩:=sh
   rw [s1] at c0;rw [s2] at c1;rw [s3] at c2;rw [s4] at c3;rw [e1,e2,s5] at c4;rw [s8] at c5;rw [s9] at c6
   rw [t1] at d0;rw [t2] at d1;rw [t3] at d2;rw [t4] at d3;rw [g1,g2,t5] at d4;rw [t8] at d5;rw [t9] at d6
   rw [s5,s6,s7] at e6
   rw [t5,t6,t7] at g6
   have KE:Hid (zL wr q 0 (F k).n (F k).X (F k).Y):=e6.below hB e5
   have KG:Hid (zL wr r 0 (F k).n (F k).X (F k).Y):=g6.below hB g5
   have hql:q<wr.heap.size:=Nat.lt_of_lt_of_le e5 hB.size
   have hrl:r<wr.heap.size:=Nat.lt_of_lt_of_le g5 hB.size
   have HLT:Hid (k<n):=hlt
   have hnn:=HS.out.1
   have hnk:=(HS.out.2 k hlt).1
   have HB:Hid (Bw w wr):=hB
   clear hB hFG hFH s1 s2 s3 s4 s5 s6 s7 s8 s9 t1 t2 t3 t4 t5 t6 t7 t8 t9 e1 e2 e5 e6 g1 g2 g5 g6
   have hi:(k:Int)<(n:Int):=by omega
   have hi0:(0:Int)≤(k:Int):=by omega
   go_wp2
   go_region_held3 (fun W'=>Bw wr W') ((repeat (first|exact Qr _ _|assumption|refine Qd ?_|refine Qa ?_ _|refine Qt ?_|refine Qs ?_ _|refine Qo ?_ ?_ _ _)))
    (first
     | (go_at_call 99;refine (zLr _ _ _ _ (F k).n (F k).X (F k).Y _ _ q r _ (KE.out.below (by assumption) hql) (KG.out.below (by assumption) hrl) (Nat.lt_of_lt_of_le hql (Below.size (by assumption))) (Nat.lt_of_lt_of_le hrl (Below.size (by assumption))) hnk).mono ?_;rintro e w' ⟨rfl,hb⟩))
   go_wp2
   go_roundw
   case rel=>exact ⟨k+1,by have:=HLT.out;omega,by go_num,zA HB.out (by assumption)⟩
   case measure=>have:=HLT.out;simp [intOf];omega
  ·go_wp2
   go_ret
   exact ⟨rfl,hB⟩
theorem zW0 (b n cap:Nat)(G:Nat→yE)(i:Nat)(w:World)(hi:i<n)(hg:zA5 w b 0 n G)(hbl:b<w.heap.size)(hn:n≤1048576) :
  Calls Tryz.prog 144 #[.slice (some ⟨b,0,none⟩) n cap,.int .i64 (G i).id] w fun e w'=>(∃ r:Nat,r≤i∧(G r).id=(G i).id∧(∀ j,j<r→(G j).id≠(G i).id)∧e=.returned (.int .i64 r))∧Bw w w':=by
 have HG:Hid (zA5 w b 0 n G):=hg
 clear hg
 have HI:Hid (i<n):=hi
 clear hi
 generalize hid:(G i).id=t
 have HT:Hid ((G i).id=t):=hid
 clear hid
 go_enter Tryz.func144,Tryz.ntmps144
 go_wp2
 go_loopw [5] (fun v wr=>∃ k:Nat,k≤i∧v=.int .i64 k∧(∀ j,j<k→(G j).id≠t)∧Bw w wr) (fun v _=>n - (intOf v).toNat)
 case atStart=>exact ⟨0,by omega,rfl,by omega,Below.refl _ _⟩
 case round =>
  obtain ⟨k,hk,rfl,hA,hB⟩:=hrel
  have hlt:k<n:=Nat.lt_of_le_of_lt hk HI.out
  have f0:wr.cell? ⟨b,k * 7,none⟩=some (.int .i64 (G k).id):=by simpa using ((HG.out.below hB hbl) k hlt).1.1
  have HB:Hid (Bw w wr):=hB
  have HA:Hid (∀ j,j<k→(G j).id≠t):=hA
  clear hB hA
  have hi:(k:Int)<(n:Int):=by omega
  have hi0:(0:Int)≤(k:Int):=by omega
  by_cases he:(G k).id=t
  ·rw [he] at f0
   go_wp2
   go_ret
   exact ⟨⟨k,hk,he,HA.out,rfl⟩,HB.out⟩
  ·have he':((G k).id == t)=false:=by simpa using he
   have HE:Hid ((G k).id≠t):=he
   have hki:k≠i:=fun e=>he (by rw [e];exact HT.out)
   clear he
   go_wp2
   go_roundw
   case rel=>exact ⟨k+1,by omega,by go_num,fun j hj=>by
     by_cases e:j=k
     ·rw [e];exact HE.out
     ·exact HA.out j (by omega),HB.out⟩
   case measure=>simp [intOf];omega
theorem zNl (b n cap N:Nat)(G:Nat→yE)(t:Int)(w:World)(hnN:n≤N)(hg:zA5 w b 0 N G)(hbl:b<w.heap.size)(hn:n≤1048576) :
  Calls Tryz.prog 98 #[.slice (some ⟨b,0,none⟩) n cap,.int .i64 t] w fun e w'=>((e=.returned (.bool true)∧∃ j,j<n∧(G j).id=t)∨(e=.returned (.bool false)∧∀ j,j<n→(G j).id≠t))∧Bw w w':=by
 have HG:Hid (zA5 w b 0 N G):=hg
 clear hg
 go_enter Tryz.func98,Tryz.ntmps98
 go_wp2
 go_loopw [9] (fun v wr=>∃ k:Nat,k≤n∧v=.int .i64 k∧(∀ j,j<k→(G j).id≠t)∧Bw w wr) (fun v _=>n - (intOf v).toNat)
 case atStart=>exact ⟨0,by omega,rfl,by omega,Below.refl _ _⟩
 case round =>
  obtain ⟨k,hk,rfl,hA,hB⟩:=hrel
  have HB:Hid (Bw w wr):=hB
  have HA:Hid (∀ j,j<k→(G j).id≠t):=hA
  by_cases hlt:k<n
  ·obtain ⟨⟨f0,f1,f2,f3,f4,f5,f6⟩,_⟩:=(HG.out.below hB hbl) k (by omega)
   simp only [Nat.zero_add] at f0 f1 f2 f3 f4 f5 f6
   clear hB hA
   have hi:(k:Int)<(n:Int):=by omega
   have hi0:(0:Int)≤(k:Int):=by omega
   by_cases he:(G k).id=t
   ·have he':((G k).id == t)=true:=by simpa using he
    have HE:Hid ((G k).id=t):=he
    clear he
    go_wp2
    go_ret
    exact ⟨.inl ⟨rfl,k,hlt,HE.out⟩,by have HB':=HB.out;exact Qb⟩
   ·have he':((G k).id == t)=false:=by simpa using he
    have HE:Hid ((G k).id≠t):=he
    clear he
    go_wp2
    go_roundw
    case rel=>exact ⟨k+1,by omega,by go_num,fun j hj=>by
      by_cases e:j=k
      ·rw [e];exact HE.out
      ·exact HA.out j (by omega),by have HB':=HB.out;exact Qb⟩
    case measure=>simp [intOf];omega
  ·go_wp2
   go_ret
   exact ⟨.inr ⟨rfl,fun j hj=>hA j (by omega)⟩,hB⟩
theorem zI1 (id la ki wi:Int)(a a':Option Addr)(n cap cap':Nat)(X Y:Nat→Int)(lab:ByteArray)(pr:Int)(w:World)(hp:xR w a n X Y)(hq:xR w a' n X Y)(hmax:n≤1048576) :
  Calls Tryz.prog 99 #[.agg #[.int .i64 id,.int .i64 la,.int .i64 ki,.int .i64 wi,.slice a n cap,.string lab,.int .i64 pr],.agg #[.int .i64 id,.int .i64 la,.int .i64 ki,.int .i64 wi,.slice a' n cap',.string lab,.int .i64 pr]] w fun e w'=>e=.returned (.bool true)∧Bw w w':=by
 have HP:Hid (xR w a n X Y):=hp
 have HQ:Hid (xR w a' n X Y):=hq
 clear hp hq
 go_enter Tryz.func99,Tryz.ntmps99
 go_wp2_with fail
 generalize hW:((w.alloc _).alloc _:World)=W
 have hB0:Bw w W:=by subst hW;exact Qb
 have hsz:W.heap.size=w.heap.size+1+1:=by subst hW;simp
 have c5:W.cell? ⟨w.heap.size,5,none⟩=some (.string lab):=by subst hW;simp [go_sem]
 have c6:W.cell? ⟨w.heap.size,6,none⟩=some (.int .i64 pr):=by subst hW;simp [go_sem]
 have o5:W.cell? ⟨w.heap.size+1,5,none⟩=some (.string lab):=by subst hW;simp [go_sem]
 have o6:W.cell? ⟨w.heap.size+1,6,none⟩=some (.int .i64 pr):=by subst hW;simp [go_sem]
 clear hW
 refine (zU8 a a' n cap cap' X Y W (HP.out.below hB0) (HQ.out.below hB0) hmax).mono ?_
 rintro e w1 ⟨rfl,hb1⟩
 have d5:=(hb1.cell (p:=⟨w.heap.size,5,none⟩) (show w.heap.size<_ by omega)).trans c5
 have d6:=(hb1.cell (p:=⟨w.heap.size,6,none⟩) (show w.heap.size<_ by omega)).trans c6
 have e5:=(hb1.cell (p:=⟨w.heap.size+1,5,none⟩) (show w.heap.size+1<_ by omega)).trans o5
 have e6:=(hb1.cell (p:=⟨w.heap.size+1,6,none⟩) (show w.heap.size+1<_ by omega)).trans o6
 have HB1:Hid (Bw w w1):=zA hB0 hb1
 clear c5 c6 o5 o6 hb1 hB0 hsz
 go_wp2
 go_ret
 exact ⟨rfl,HB1.out⟩
theorem resC (T:Array Value)(Wf:World)(r:Nat)(v0 v1 v2 v3 v4 v5 v6:Value)(hT:T[2]?.getD undef=.pointer (some ⟨r,0,none⟩))(h0:Wf.cell? ⟨r,0,none⟩=some v0)(h1:Wf.cell? ⟨r,1,none⟩=some v1)(h2:Wf.cell? ⟨r,2,none⟩=some v2)(h3:Wf.cell? ⟨r,3,none⟩=some v3)(h4:Wf.cell? ⟨r,4,none⟩=some v4)(h5:Wf.cell? ⟨r,5,none⟩=some v5)(h6:Wf.cell? ⟨r,6,none⟩=some v6) :
  (results Tryz.f215 T).run Tryz.prog Wf=.ok (.agg #[v0,v1,v2,v3,v4,v5,v6]) Wf:=by
 simp [results,Tryz.results215,go_sem,hT,h0,h1,h2,h3,h4,h5,h6]
set_option maxRecDepth 8000 in
theorem zLa {off:Nat}(id la ki wi:Int)(b n cap:Nat)(X Y:Nat→Int)(lab:ByteArray)(pr:Int)(w:World)(hp:zL w b off n X Y)(hbl:b<w.heap.size)(hn:n≤1048576) :
  Calls Tryz.prog 215 #[.agg #[.int .i64 id,.int .i64 la,.int .i64 ki,.int .i64 wi,.slice (some ⟨b,off,none⟩) n cap,.string lab,.int .i64 pr]] w fun e w'=>∃ a c,e=.returned (.agg #[.int .i64 id,.int .i64 la,.int .i64 ki,.int .i64 wi,.slice a n c,.string lab,.int .i64 pr])∧Row (w.heap.size+1+1) w' (.slice a n c) (vE X Y (List.range n))∧Bw w w':=by
 obtain ⟨i0,hi,hz0,hz1,hz2⟩:=info_parts (show (Tryz.prog.info? 206).map (fun i=>(i.zero,i.size,i.bytes))=some (some (.agg #[.int .i64 0,.int .i64 0]),2,16) by kernel_rfl)
 have HP:Hid (zL w b off n X Y):=hp
 have HLEN:Hid ((vE X Y (List.range n)).length=n):=by show _=_;simp [vE]
 clear hp
 obtain ⟨W,hWd⟩:∃ W,W=(((w.alloc (.cells #[.int .i64 id,.int .i64 la,.int .i64 ki,.int .i64 wi,.slice (some ⟨b,off,none⟩) n cap,.string lab,.int .i64 pr] 138)).alloc (.cells #[.int .i64 0,.int .i64 0,.int .i64 0,.int .i64 0,.slice none 0 0,.string ⟨#[]⟩,.int .i64 0] 138)):World):=⟨_,rfl⟩
 have hB0:Bw w W:=by subst hWd;exact Qb
 have hO:zOc W w.heap.size id la ki wi (.slice (some ⟨b,off,none⟩) n cap) lab pr:=by
  subst hWd
  unfold zOc
  rw [Below.heap_alloc _ _ _ (by simp)]
  exact heap_alloc_new w _
 have hT:zC W (w.heap.size+1) 7:=by
  subst hWd
  have:=there7 (w.alloc (.cells #[.int .i64 id,.int .i64 la,.int .i64 ki,.int .i64 wi,.slice (some ⟨b,off,none⟩) n cap,.string lab,.int .i64 pr] 138)) (.int .i64 0) (.int .i64 0) (.int .i64 0) (.int .i64 0) (.slice none 0 0) (.string ⟨#[]⟩) (.int .i64 0) 138
  simpa using this
 have hsW:W.heap.size=w.heap.size+2:=by subst hWd;simp
 have HB0:=(show Hid _ from hB0)
 have HO:=(show Hid _ from hO)
 have HT:Hid (zC W (w.heap.size+1) 7):=hT
 have HSW:=(show Hid _ from hsW)
 have HWD:=(show Hid _ from hWd)
 clear hB0 hO hT hsW hWd
 go_enter Tryz.func215,Tryz.ntmps215
 go_wp2_with (first
  | (at_builtin;go_must (refine wpList_append_own _ rfl _ _ 136 rfl (w.heap.size+1+1) 206 i0 (.agg #[.int .i64 0,.int .i64 0]) 2 16 Tryz.underlying136 hi hz0 hz1 hz2 rfl (by decide) (.slice (some ⟨w.heap.size+1+1,0,none⟩) 0 0) 0 [] rfl ?c6 ⟨b,off,none⟩ n cap (vP (vE X Y (List.range n))) rfl ?c0 ?c1 ?c2 ?c3 ?c4 ?c5 ?_)))
 case c6 =>
  have:=World.ownsRow_lit (base:=w.heap.size+1+1) (e:=206) (size:=2) W #[] 0 (by rw [HSW.out];exact Nat.le_refl _) (Nat.zero_le _) rfl
  rw [HSW.out,HWD.out] at this
  exact this
 case c0=>rw [zBe,HLEN.out]
 case c1 =>
  intro q u hq
  have hb:Bw w (W.alloc (.cells #[] 206)):=xC HB0.out _
  rw [HWD.out] at hb
  have h1:=zJf (HP.out.below hb hbl) q u hq
  by_cases hq0:q=0
  ·subst hq0;simpa [Addr.add] using h1
  ·simpa [Addr.add,hq0] using h1
 case c2 =>
  intro u hu
  unfold vP at hu
  rw [List.mem_flatMap] at hu
  obtain ⟨p,_,hp⟩:=hu
  simp at hp
  rcases hp with rfl | rfl <;> rfl
 case c3=>unfold maxLen;omega
 case c4=>omega
 case c5=>first | omega | (simp;done) | (simp;omega)
 intro v' w2 hown' hgrow hnil
 clear hnil
 obtain ⟨a',c',hv'⟩:∃ a' c',v'=.slice a' n c':=by
  obtain ⟨_,h2 | ⟨g,cp,cur,hv,_⟩⟩:=hown'
  ·exact ⟨none,0,by have e:=h2.2;have e2:n=0:=(by omega);subst e2;exact h2.1⟩
  ·exact ⟨_,cp,by rw [hv]⟩
 have HOWN:Hid (Row (w.heap.size+1+1) w2 v' (vE X Y (List.range n))):=by
  show Row _ _ _ _
  unfold Row
  rw [HLEN.out]
  simpa using hown'
 have hgb:Below (w.heap.size+1+1) (W.alloc (.cells #[] 206)) w2:=by
  rw [HWD.out]
  exact (Below.refl _ _).grown hgrow (by simp) (fun k hk=>by simp [Value.ownBlock] at hk;omega)
 have hWa:Bw W (W.alloc (.cells #[] 206)):=(Below.refl _ _).alloc (Nat.le_refl _) _
 have hW2:Below (w.heap.size+2) W w2:=(hWa.mono (by rw [HSW.out];exact Nat.le_refl _)).trans hgb
 have hO2:zOc w2 w.heap.size id la ki wi (.slice (some ⟨b,off,none⟩) n cap) lab pr:=(hW2.block _ (by omega)).trans HO.out
 have hT2:zC w2 (w.heap.size+1) 7:=zC.belowB' HT.out hW2 (by omega)
 have hB2:Bw w w2:=HB0.out.trans (hW2.mono (by omega))
 have hs2:w.heap.size+2<w2.heap.size∨True:=.inr trivial
 obtain ⟨⟨u0,u1,u2,u3,u4,u5,u6⟩,f4⟩:=hO2.cells
 have hlw:=hO2.lt
 have t0:=hT2.cell 0 (by omega)
 have t1:=hT2.cell 1 (by omega)
 have t2:=hT2.cell 2 (by omega)
 have t3:=hT2.cell 3 (by omega)
 have t4:=hT2.cell 4 (by omega)
 have t5:=hT2.cell 5 (by omega)
 have t6:=hT2.cell 6 (by omega)
 have z0:=(hT2 0 (by omega)).2
 have z1:=(hT2 1 (by omega)).2
 have z2:=(hT2 2 (by omega)).2
 have z3:=(hT2 3 (by omega)).2
 have z4:=(hT2 4 (by omega)).2
 have z5:=(hT2 5 (by omega)).2
 have z6:=(hT2 6 (by omega)).2
 have HT9:Hid (zC (w2.setCell ⟨w.heap.size,4,none⟩ v') (w.heap.size+1) 7):=zC.out hT2 (by omega)
 have HB9:Hid (Bw w w2):=hB2
 subst hv'
 clear hown' hgrow hgb hWa hW2 hO2 hT2 hB2 hs2
 go_wp2_with fail
 obtain ⟨y0,y1,y2,y3,y4,y5,y6⟩:=zT4 (v0:=.int .i64 id) (v1:=.int .i64 la) (v2:=.int .i64 ki) (v3:=.int .i64 wi) (v4:=.slice a' n c') (v5:=.string lab) (v6:=.int .i64 pr) HT9.out
 exact bodyPost_ret (resC _ _ (w.heap.size+1) _ _ _ _ _ _ _ rfl y0 y1 y2 y3 y4 y5 y6) rfl ⟨a',c',rfl,((((((((HOWN.out.setB (by omega)).setB (by omega)).setB (by omega)).setB (by omega)).setB (by omega)).setB (by omega)).setB (by omega)).setB (by omega)),below7 (HB9.out.setCell (Nat.le_refl _) _) (Nat.le_succ _)⟩
def yV (z x y wd ht rz rx ry:Int):Bool:=hasR (zB1 z x y wd) rz rx ry (uT z x y wd ht)
theorem zCb (z x y wd ht rz rx ry:Int)(w:World):Calls Tryz.prog 127 #[zCo z x y wd ht,vU rz rx ry] w fun e w'=>e=.returned (.bool (yV z x y wd ht rz rx ry))∧Bw w w':=by
 have sV:∀ w,Calls Tryz.prog 131 #[zCo z x y wd ht] w fun e w'=>∃ a cap,e=.returned (.agg #[.int .i64 (uR z x y wd ht),.slice a (uT z x y wd ht) cap])∧zH8 w' a (uT z x y wd ht) (zB1 z x y wd)∧Bw w w':=fun w=>(uQ z x y wd ht w).mono fun e w' ⟨v,h1,h2,h3⟩=>by
  obtain ⟨a,cap,rfl,_,hI⟩:=h2.pts
  exact ⟨a,cap,h1,hI,h3⟩
 have hm:uT z x y wd ht≤1048576:=by have:=zC1 z x y wd ht;omega
 have HC:Hid (∀ a cap w,zH8 w a (uT z x y wd ht) (zB1 z x y wd)→Calls Tryz.prog 169 #[.slice a (uT z x y wd ht) cap,vU rz rx ry] w fun e w'=>e=.returned (.bool (yV z x y wd ht rz rx ry))∧Bw w w'):=fun a cap w h=>zLv a _ cap _ rz rx ry w h hm
 clear hm
 generalize yV z x y wd ht rz rx ry=B at *
 generalize uT z x y wd ht=m at *
 generalize zB1 z x y wd=R at *
 generalize uR z x y wd ht=c at *
 have i1:∀ (a:Option Addr) (cap:Nat) w,(Instr.field 180 (.agg #[.int .i64 c,.slice a m cap]) 1).run Tryz.prog w=.ok (.slice a m cap) w:=fun _ _ _=>by kernel_rfl
 go_enter Tryz.func127,Tryz.ntmps127
 go_wp2_with fail
 generalize hW:((w.alloc _).alloc _:World)=W
 have HB0:Hid (Bw w W):=by show Below _ _ _;subst hW;exact Qb
 have c00:∀ W',Bw W W'→W'.cell? ⟨w.heap.size,0,none⟩=some (.int .i64 z):=Qc hW
 have c01:∀ W',Bw W W'→W'.cell? ⟨w.heap.size,1,none⟩=some (.int .i64 x):=Qc hW
 have c02:∀ W',Bw W W'→W'.cell? ⟨w.heap.size,2,none⟩=some (.int .i64 y):=Qc hW
 have c03:∀ W',Bw W W'→W'.cell? ⟨w.heap.size,3,none⟩=some (.int .i64 wd):=Qc hW
 have c04:∀ W',Bw W W'→W'.cell? ⟨w.heap.size,4,none⟩=some (.int .i64 ht):=Qc hW
 have c10:∀ W',Bw W W'→W'.cell? ⟨w.heap.size+1,0,none⟩=some (.int .i64 rz):=Qc hW
 have c11:∀ W',Bw W W'→W'.cell? ⟨w.heap.size+1,1,none⟩=some (.int .i64 rx):=Qc hW
 have c12:∀ W',Bw W W'→W'.cell? ⟨w.heap.size+1,2,none⟩=some (.int .i64 ry):=Qc hW
 clear hW
 have hr:Bw W W:=Below.refl _ _
 go_region_held3 (fun W'=>Bw W W') ((repeat (first|exact Qr _ _|assumption|refine Qd ?_|refine Qa ?_ _|refine Qt ?_|refine Qs ?_ _|refine Qo ?_ ?_ _ _)))
  (first
   | (go_at_call 131;refine (sV _).mono ?_;rintro e w1 ⟨a,cap,rfl,hI,hb⟩;have HI:Hid (zH8 w1 a m R):=hI;clear hI)
   | (go_at_call 169;refine (HC.out _ _ _ HI.out).mono ?_;rintro e w2 ⟨rfl,hb⟩)
   | fail)
 go_wp2
 go_ret
 exact ⟨rfl,zA HB0.out (by assumption)⟩
end Go.Proofs.YtkjbafcalamgnaaGreat
