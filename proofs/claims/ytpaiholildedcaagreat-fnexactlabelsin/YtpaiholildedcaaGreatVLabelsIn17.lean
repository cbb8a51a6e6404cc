/- Texts. -/
import Derived.Test.YtpaiholildedcaaGreatVLabelsIn15
set_option linter.unusedSimpArgs false
set_option linter.unusedVariables false
set_option maxRecDepth 100000
set_option maxHeartbeats 32000000
namespace Go.Proofs.YtpaiholildedcaaGreat
open Go.RowKit
structure zS where
 id:Int
 la:Int
 ki:Int
 wi:Int
 a:Option Addr
 n:Nat
 cap:Nat
 X:Nat→Int
 Y:Nat→Int
 lab:ByteArray
 pr:Int
def vY (w:World)(b off n:Nat)(F:Nat→zS):Prop :=
 ∀ i,i<n→yJ w b (off+i * 7) (F i).id (F i).la (F i).ki (F i).wi (.slice (F i).a (F i).n (F i).cap) (F i).lab (F i).pr∧xY w (F i).a (F i).n (F i).X (F i).Y
theorem vY.below {w w':World}{b off n:Nat}{F:Nat→zS}(h:vY w b off n F)(hb:Below w.heap.size w w')(hl:b<w.heap.size):vY w' b off n F:=fun i hi =>
 ⟨(h i hi).1.below hb hl,(h i hi).2.below hb⟩
def zMs (w:World)(a:Option Addr)(n:Nat)(F:Nat→zS):Prop:=n=0∨∃ b off,a=some ⟨b,off,none⟩∧b<w.heap.size∧vY w b off n F
theorem zMs.below {w w':World}{a:Option Addr}{n:Nat}{F:Nat→zS}(h:zMs w a n F)(hb:Below w.heap.size w w'):zMs w' a n F:=by
 rcases h with h | ⟨b,off,e,hl,hp⟩
 ·exact .inl h
 ·exact .inr ⟨b,off,e,Nat.lt_of_lt_of_le hl hb.size,hp.below hb hl⟩
def zS.same (f g:zS):Prop:=f.id=g.id∧f.la=g.la∧f.ki=g.ki∧f.wi=g.wi∧f.n=g.n∧f.X=g.X∧f.Y=g.Y∧f.lab=g.lab∧f.pr=g.pr
def xX (w:World)(B b n:Nat)(F G:Nat→zS):Prop :=
 B≤b∧b<w.heap.size∧vY w b 0 n G∧∀ i,i<n→(G i).same (F i)∧∃ q,(G i).a=some ⟨q,0,none⟩∧(G i).cap=(G i).n∧q≠b∧B≤q∧q<w.heap.size∧zK w q 0 (G i).n (G i).X (G i).Y
theorem xX.below {w w':World}{B b n:Nat}{F G:Nat→zS}(h:xX w B b n F G)(hb:Below w.heap.size w w'):xX w' B b n F G:=by
 obtain ⟨h1,h2,h3,h4⟩:=h
 refine ⟨h1,Nat.lt_of_lt_of_le h2 hb.size,h3.below hb h2,fun i hi=>?_⟩
 obtain ⟨e,q,e1,e2,e3,e4,e5,e6⟩:=h4 i hi
 exact ⟨e,q,e1,e2,e3,e4,Nat.lt_of_lt_of_le e5 hb.size,e6.below hb e5⟩
def zIy (W:World)(B o:Nat)(f:zS):World:=(((((((W.setCell ⟨B,o,none⟩ (.int .i64 f.id)).setCell ⟨B,o+1,none⟩ (.int .i64 f.la)).setCell ⟨B,o+2,none⟩ (.int .i64 f.ki)).setCell ⟨B,o+3,none⟩ (.int .i64 f.wi)).setCell ⟨B,o+4,none⟩ (.slice f.a f.n f.cap)).setCell ⟨B,o+5,none⟩ (.string f.lab)).setCell ⟨B,o+6,none⟩ (.int .i64 f.pr))
theorem zF9 {W:World}{B o:Nat}{f:zS}{p:Addr}(h:p.block≠B∨p.off<o∨o+6<p.off):(zIy W B o f).cell? p=W.cell? p:=by
 have ne:∀ k:Nat,k≤6→(⟨B,o+k,none⟩:Addr)≠p:=fun k hk e=>by subst e;simp at h;omega
 have ne0:(⟨B,o,none⟩:Addr)≠p:=ne 0 (by omega)
 unfold zIy
 rw [zB (ne 6 (by omega)),zB (ne 5 (by omega)),zB (ne 4 (by omega)),zB (ne 3 (by omega)),zB (ne 2 (by omega)),zB (ne 1 (by omega)),zB ne0]
theorem zF8 {W:World}{B o m:Nat}{f:zS}(h:zD W B m):zD (zIy W B o f) B m:=by
 unfold zIy
 exact ((((((h.set _ _).set _ _).set _ _).set _ _).set _ _).set _ _).set _ _
theorem zPy {W:World}{B o m:Nat}{f:zS}(h:zD W B m)(ho:o+6<m):yJ (zIy W B o f) B o f.id f.la f.ki f.wi (.slice f.a f.n f.cap) f.lab f.pr:=by
 have ne:∀ i j:Nat,i≠j→(⟨B,i,none⟩:Addr)≠⟨B,j,none⟩:=fun i j hij h=>hij (by injection h)
 obtain ⟨u0,g0⟩:=(h (o) (by omega)).1
 obtain ⟨u1,g1⟩:=((h.set (o) (.int .i64 f.id)) (o+1) (by omega)).1
 obtain ⟨u2,g2⟩:=(((h.set (o) (.int .i64 f.id)).set (o+1) (.int .i64 f.la)) (o+2) (by omega)).1
 obtain ⟨u3,g3⟩:=((((h.set (o) (.int .i64 f.id)).set (o+1) (.int .i64 f.la)).set (o+2) (.int .i64 f.ki)) (o+3) (by omega)).1
 obtain ⟨u4,g4⟩:=(((((h.set (o) (.int .i64 f.id)).set (o+1) (.int .i64 f.la)).set (o+2) (.int .i64 f.ki)).set (o+3) (.int .i64 f.wi)) (o+4) (by omega)).1
 obtain ⟨u5,g5⟩:=((((((h.set (o) (.int .i64 f.id)).set (o+1) (.int .i64 f.la)).set (o+2) (.int .i64 f.ki)).set (o+3) (.int .i64 f.wi)).set (o+4) (.slice f.a f.n f.cap)) (o+5) (by omega)).1
 obtain ⟨u6,g6⟩:=(((((((h.set (o) (.int .i64 f.id)).set (o+1) (.int .i64 f.la)).set (o+2) (.int .i64 f.ki)).set (o+3) (.int .i64 f.wi)).set (o+4) (.slice f.a f.n f.cap)).set (o+5) (.string f.lab)) (o+6) (by omega)).1
 unfold zIy
 refine ⟨?_,?_,?_,?_,?_,?_,?_⟩
 ·rw [zB (ne _ _ (by omega)),zB (ne _ _ (by omega)),zB (ne _ _ (by omega)),zB (ne _ _ (by omega)),zB (ne _ _ (by omega)),zB (ne _ _ (by omega))];exact zG g0
 ·rw [zB (ne _ _ (by omega)),zB (ne _ _ (by omega)),zB (ne _ _ (by omega)),zB (ne _ _ (by omega)),zB (ne _ _ (by omega))];exact zG g1
 ·rw [zB (ne _ _ (by omega)),zB (ne _ _ (by omega)),zB (ne _ _ (by omega)),zB (ne _ _ (by omega))];exact zG g2
 ·rw [zB (ne _ _ (by omega)),zB (ne _ _ (by omega)),zB (ne _ _ (by omega))];exact zG g3
 ·rw [zB (ne _ _ (by omega)),zB (ne _ _ (by omega))];exact zG g4
 ·rw [zB (ne _ _ (by omega))];exact zG g5
 ·exact zG g6
theorem uR (W:World)(B o:Nat)(f:zS):(zIy W B o f).heap.size=W.heap.size:=by unfold zIy;simp
theorem zNm {V W:World}{n B o:Nat}{f:zS}(h:Below n V W)(hB:n≤B):Below n V (zIy W B o f):=by
 unfold zIy
 exact ((((((h.setCell hB _).setCell hB _).setCell hB _).setCell hB _).setCell hB _).setCell hB _).setCell hB _
theorem zK.lay {W:World}{b off n:Nat}{X Y:Nat→Int}(h:zK W b off n X Y){B o:Nat}{f:zS}(hne:B≠b):zK (zIy W B o f) b off n X Y:=by
 unfold zIy
 exact ((((((h.store hne).store hne).store hne).store hne).store hne).store hne).store hne
theorem zEh:(Tryz.prog.info? 209).map (fun i=>(i.zero,i.size,i.bytes))=some (some (.agg #[.int .i64 0,.int .i64 0,.int .i64 0,.int .i64 0,.slice none 0 0,.string ⟨#[]⟩,.int .i64 0]),7,80):=by kernel_rfl
abbrev zQ9:Array Value:=#[.int .i64 0,.int .i64 0,.int .i64 0,.int .i64 0,.slice none 0 0,.string ⟨#[]⟩,.int .i64 0]
theorem zNk (n:Nat)(h:n≤1048576)(w:World) :
  (Instr.makeSlice 137 (.int .i64 (n:Int)) (.int .i64 (n:Int))).run Tryz.prog w=.ok (.slice (some ⟨w.heap.size,0,none⟩) n n) (w.alloc (.cells (madeCells zQ9 (n * 7)) 209)):=by
 obtain ⟨i,hi,hz,hs,hb⟩:=info_parts zEh
 have hr:=run_make (P:=Tryz.prog) w 137 209 i _ Tryz.underlying137 hi hz .i64 .i64 (n:Int) (n:Int) (by omega) (Int.le_refl _) (by rw [hb];omega) (by omega)
 simp only [Int.toNat_natCast,hs] at hr
 exact hr
theorem zKk (n:Nat)(w:World)(t:TypeId):zD (w.alloc (.cells (madeCells zQ9 n) t)) w.heap.size n:=fun o ho=>by
 have hz:=size_madeCells zQ9 n
 refine ⟨⟨(madeCells zQ9 n)[o]'(by rw [hz];exact ho),?_⟩,World.frozen?_alloc_at _ _ _ _ rfl⟩
 rw [World.cell?_alloc_at _ _ _ _ rfl]
 exact Array.getElem?_eq_getElem _
theorem own_lay {W:World}{B n k q:Nat}{F G:Nat→zS}(h:xX W B B k F G)(hT:zD W B (n * 7))(hk:k<n)(hqB:B≤q)(hq:q<W.heap.size)(hp:zK W q 0 (F k).n (F k).X (F k).Y)(hne:q≠B) :
  xX (zIy W B (k * 7) { F k with a:=some ⟨q,0,none⟩,cap:=(F k).n }) B B (k+1) F (fun i=>if i=k then { F k with a:=some ⟨q,0,none⟩,cap:=(F k).n } else G i):=by
 obtain ⟨h1,h2,h3,h4⟩:=h
 refine ⟨h1,by rw [uR];exact h2,fun i hi=>?_,fun i hi=>?_⟩
 ·by_cases e:i=k
  ·subst e
   simp only [if_pos,Nat.zero_add]
   refine ⟨zPy hT (by omega),.inr ⟨q,0,rfl,by rw [uR];exact hq,hp.lay (fun h=>hne h.symm)⟩⟩
  ·simp only [if_neg e]
   obtain ⟨c,ip⟩:=h3 i (by omega)
   obtain ⟨_,q',e1,e2,e3,e4,e5,e6⟩:=h4 i (by omega)
   refine ⟨?_,?_⟩
   ·obtain ⟨c0,c1,c2,c3,c4,c5,c6⟩:=c
    refine ⟨?_,?_,?_,?_,?_,?_,?_⟩ <;> (rw [zF9 (by right;left;simp;omega)];assumption)
   ·exact .inr ⟨q',0,e1,by rw [uR];exact e5,e6.lay (fun h=>e3 h.symm)⟩
 ·by_cases e:i=k
  ·subst e
   simp only [if_pos]
   exact ⟨⟨rfl,rfl,rfl,rfl,rfl,rfl,rfl,rfl,rfl⟩,q,by first | rfl | trivial,by first | trivial | rfl,hne,hqB,by rw [uR];exact hq,hp.lay (fun h=>hne h.symm)⟩
  ·simp only [if_neg e]
   obtain ⟨sm,q',e1,e2,e3,e4,e5,e6⟩:=h4 i (by omega)
   exact ⟨sm,q',e1,e2,e3,e4,by rw [uR];exact e5,e6.lay (fun h=>e3 h.symm)⟩
def yU (n:Nat)(F:Nat→zS):Prop:=n≤1048576∧∀ i,i<n→(F i).n≤1048576∧(F i).lab.size≤1048576
def zGn (n:Nat)(F:Nat→zS):Prop:=n≤maxLen∧∀ i,i<n→(F i).n≤maxLen∧(F i).lab.size≤maxLen
theorem zO2 (left n s:Nat)(hl:left≤1048576):szF left n s=-1∨∃ m:Nat,szF left n s=(m:Int)∧m≤left∧n≤1048576∧s≤1048576:=by
 unfold szF
 by_cases h:left<n+s
 ·left;rw [if_pos h]
 ·right;rw [if_neg h];exact ⟨left - n - s,by omega,by omega,by omega,by omega⟩
theorem zE8 (a:Option Addr)(n cap:Nat)(F:Nat→zS)(left:Nat)(w:World)(hl:left≤1048576)(hf:zMs w a n F)(hc:zGn n F) :
  Calls Tryz.prog 219 #[.slice a n cap,.int .i64 left] w fun e w'=>(e=.returned (.int .i64 (-1))∨∃ m:Nat,m≤left∧yU n F∧e=.returned (.int .i64 m))∧Bw w w':=by
 obtain ⟨hc1,hc2⟩:=hc
 unfold maxLen at hc1
 have HC:Hid (∀ i,i<n→(F i).n≤maxLen∧(F i).lab.size≤maxLen):=hc2
 have HF:Hid (zMs w a n F):=hf
 clear hc2 hf
 by_cases h0:left<n
 ·have hneg:(left:Int) - (n:Int)<0:=by omega
  go_enter Tryz.func219,Tryz.ntmps219
  go_wp2
  go_ret
  exact ⟨.inl rfl,Qb⟩
 ·have hneg:¬ (left:Int) - (n:Int)<0:=by omega
  have hn:n≤1048576:=by omega
  clear hc1
  go_enter Tryz.func219,Tryz.ntmps219
  go_wp2
  go_loopw [1,5] (fun v i wr=>∃ k m:Nat,k≤n∧v=.int .i64 m∧i=.int .i64 k∧m≤left∧(∀ j,j<k→(F j).n≤1048576∧(F j).lab.size≤1048576)∧Bw w wr) (fun _ i _=>n - (intOf i).toNat)
  case atStart=>exact ⟨0,left - n,by omega,by congr 1;omega,rfl,by omega,by omega,Below.refl _ _⟩
  case round =>
   obtain ⟨k,m,hk,rfl,rfl,hm,hA,hB⟩:=hrel
   by_cases hlt:k<n
   ·rcases HF.out with hz | ⟨b,off,rfl,hbl,hpt⟩
    ·omega
    ·obtain ⟨⟨f0,f1,f2,f3,f4,f5,f6⟩,_⟩:=(hpt.below hB hbl) k hlt
     obtain ⟨g1,g2⟩:=HC.out k hlt
     have HG:Hid ((F k).n≤maxLen∧(F k).lab.size≤maxLen):=⟨g1,g2⟩
     have HB:Hid (Bw w wr):=hB
     have HA:Hid (∀ j,j<k→(F j).n≤1048576∧(F j).lab.size≤1048576):=hA
     clear hB hA hpt g1 g2
     have hi:(k:Int)<(n:Int):=by omega
     have hi0:(0:Int)≤(k:Int):=by omega
     have hm1:m≤1048576:=by omega
     go_wp2_with fail
     refine (zGw _ _ _ _ _ _ _ _ _ m _ hm1 HG.out.1 HG.out.2).mono ?_
     rintro e w' ⟨rfl,hb⟩
     have HBn:Hid (Bw w w'):=zA HB.out hb
     clear hb f0 f1 f2 f3 f4 f5 f6
     rcases zO2 m (F k).n (F k).lab.size hm1 with h | ⟨m',h,h1,h2,h3⟩
     ·rw [h]
      go_wp2
      go_ret
      exact ⟨.inl rfl,HBn.out⟩
     ·rw [h]
      have hneg':¬ ((m':Nat):Int)<0:=by omega
      go_wp2
      go_roundw
      case rel=>exact ⟨k+1,m',by omega,rfl,by go_num,by omega,fun j hj=>by
        by_cases e:j=k
        ·rw [e];exact ⟨h2,h3⟩
        ·exact HA.out j (by omega),HBn.out⟩
      case measure=>simp [intOf];omega
   ·go_wp2
    go_ret
    exact ⟨.inr ⟨m,hm,⟨hn,fun i hi=>hA i (by omega)⟩,rfl⟩,hB⟩
theorem zFp (b d n B C:Nat)(F G H:Nat→zS)(w:World)(hg:xX w B b n F G)(hh:xX w C d n F H)(hs:yU n F) :
  Calls Tryz.prog 225 #[.slice (some ⟨b,0,none⟩) n n,.slice (some ⟨d,0,none⟩) n n] w fun e w'=>e=.returned (.bool true)∧Bw w w':=by
 have HG:Hid (xX w B b n F G):=hg
 have HH:Hid (xX w C d n F H):=hh
 have hbl:b<w.heap.size:=hg.2.1
 have hdl:d<w.heap.size:=hh.2.1
 have HS:Hid (yU n F):=hs
 clear hg hh hs
 go_enter Tryz.func225,Tryz.ntmps225
 go_wp2
 go_loopw [5] (fun i wr=>∃ k:Nat,k≤n∧i=.int .i64 k∧Bw w wr) (fun i _=>n - (intOf i).toNat)
 case atStart=>exact ⟨0,by omega,rfl,Below.refl _ _⟩
 case round =>
  obtain ⟨k,hk,rfl,hB⟩:=hrel
  by_cases hlt:k<n
  ·have hFG:=HG.out.2.2.1
   have hFH:=HH.out.2.2.1
   have c0:∀ W',Bw wr W'→W'.cell? ⟨b,k * 7,none⟩=some (.int .i64 (G k).id):=fun W' h=>by simpa using ((hFG.below hB hbl).below h (Nat.lt_of_lt_of_le hbl hB.size) k hlt).1.1
   have c1:∀ W',Bw wr W'→W'.cell? ⟨b,k * 7+1,none⟩=some (.int .i64 (G k).la):=fun W' h=>by simpa using ((hFG.below hB hbl).below h (Nat.lt_of_lt_of_le hbl hB.size) k hlt).1.2.1
   have c2:∀ W',Bw wr W'→W'.cell? ⟨b,k * 7+2,none⟩=some (.int .i64 (G k).ki):=fun W' h=>by simpa using ((hFG.below hB hbl).below h (Nat.lt_of_lt_of_le hbl hB.size) k hlt).1.2.2.1
   have c3:∀ W',Bw wr W'→W'.cell? ⟨b,k * 7+3,none⟩=some (.int .i64 (G k).wi):=fun W' h=>by simpa using ((hFG.below hB hbl).below h (Nat.lt_of_lt_of_le hbl hB.size) k hlt).1.2.2.2.1
   have c4:∀ W',Bw wr W'→W'.cell? ⟨b,k * 7+4,none⟩=some (.slice (G k).a (G k).n (G k).cap):=fun W' h=>by simpa using ((hFG.below hB hbl).below h (Nat.lt_of_lt_of_le hbl hB.size) k hlt).1.2.2.2.2.1
   have c5:∀ W',Bw wr W'→W'.cell? ⟨b,k * 7+5,none⟩=some (.string (G k).lab):=fun W' h=>by simpa using ((hFG.below hB hbl).below h (Nat.lt_of_lt_of_le hbl hB.size) k hlt).1.2.2.2.2.2.1
   have c6:∀ W',Bw wr W'→W'.cell? ⟨b,k * 7+6,none⟩=some (.int .i64 (G k).pr):=fun W' h=>by simpa using ((hFG.below hB hbl).below h (Nat.lt_of_lt_of_le hbl hB.size) k hlt).1.2.2.2.2.2.2
   have d0:∀ W',Bw wr W'→W'.cell? ⟨d,k * 7,none⟩=some (.int .i64 (H k).id):=fun W' h=>by simpa using ((hFH.below hB hdl).below h (Nat.lt_of_lt_of_le hdl hB.size) k hlt).1.1
   have d1:∀ W',Bw wr W'→W'.cell? ⟨d,k * 7+1,none⟩=some (.int .i64 (H k).la):=fun W' h=>by simpa using ((hFH.below hB hdl).below h (Nat.lt_of_lt_of_le hdl hB.size) k hlt).1.2.1
   have d2:∀ W',Bw wr W'→W'.cell? ⟨d,k * 7+2,none⟩=some (.int .i64 (H k).ki):=fun W' h=>by simpa using ((hFH.below hB hdl).below h (Nat.lt_of_lt_of_le hdl hB.size) k hlt).1.2.2.1
   have d3:∀ W',Bw wr W'→W'.cell? ⟨d,k * 7+3,none⟩=some (.int .i64 (H k).wi):=fun W' h=>by simpa using ((hFH.below hB hdl).below h (Nat.lt_of_lt_of_le hdl hB.size) k hlt).1.2.2.2.1
   have d4:∀ W',Bw wr W'→W'.cell? ⟨d,k * 7+4,none⟩=some (.slice (H k).a (H k).n (H k).cap):=fun W' h=>by simpa using ((hFH.below hB hdl).below h (Nat.lt_of_lt_of_le hdl hB.size) k hlt).1.2.2.2.2.1
   have d5:∀ W',Bw wr W'→W'.cell? ⟨d,k * 7+5,none⟩=some (.string (H k).lab):=fun W' h=>by simpa using ((hFH.below hB hdl).below h (Nat.lt_of_lt_of_le hdl hB.size) k hlt).1.2.2.2.2.2.1
   have d6:∀ W',Bw wr W'→W'.cell? ⟨d,k * 7+6,none⟩=some (.int .i64 (H k).pr):=fun W' h=>by simpa using ((hFH.below hB hdl).below h (Nat.lt_of_lt_of_le hdl hB.size) k hlt).1.2.2.2.2.2.2
   obtain ⟨sg,q,e1,e2,_,_,e5,e6⟩:=HG.out.2.2.2 k hlt
   obtain ⟨sh,r,g1,g2,_,_,g5,g6⟩:=HH.out.2.2.2 k hlt
   obtain ⟨s1,s2,s3,s4,s5,s6,s7,s8,s9⟩:=sg
   obtain ⟨t1,t2,t3,t4,t5,t6,t7,t8,t9⟩:=sh
   rw [s1] at c0;rw [s2] at c1;rw [s3] at c2;rw [s4] at c3;rw [e1,e2,s5] at c4;rw [s8] at c5;rw [s9] at c6
   rw [t1] at d0;rw [t2] at d1;rw [t3] at d2;rw [t4] at d3;rw [g1,g2,t5] at d4;rw [t8] at d5;rw [t9] at d6
   rw [s5,s6,s7] at e6
   rw [t5,t6,t7] at g6
   have KE:Hid (zK wr q 0 (F k).n (F k).X (F k).Y):=e6.below hB e5
   have KG:Hid (zK wr r 0 (F k).n (F k).X (F k).Y):=g6.below hB g5
   have hql:q<wr.heap.size:=Nat.lt_of_lt_of_le e5 hB.size
   have hrl:r<wr.heap.size:=Nat.lt_of_lt_of_le g5 hB.size
   have HLT:Hid (k<n):=hlt
   have hnn:=HS.out.1
   have hnk:=(HS.out.2 k hlt).1
   have HB:Hid (Bw w wr):=hB
   clear hB hFG hFH s1 s2 s3 s4 s5 s6 s7 s8 s9 t1 t2 t3 t4 t5 t6 t7 t8 t9 e1 e2 e5 e6 g1 g2 g5 g6
   have hi:(k:Int)<(n:Int):=by omega
   have hi0:(0:Int)≤(k:Int):=by omega
   go_wp2
   go_region_held3 (fun W'=>Bw wr W') ((repeat (first|exact Qr _ _|assumption|refine Qd ?_|refine Qa ?_ _|refine Qt ?_|refine Qs ?_ _|refine Qo ?_ ?_ _ _)))
    (first
     | (go_at_call 261;refine (zHu _ _ _ _ (F k).n (F k).X (F k).Y _ _ q r _ (KE.out.below (by assumption) hql) (KG.out.below (by assumption) hrl) (Nat.lt_of_lt_of_le hql (Below.size (by assumption))) (Nat.lt_of_lt_of_le hrl (Below.size (by assumption))) hnk).mono ?_;rintro e w' ⟨rfl,hb⟩))
   go_wp2
   go_roundw
   case rel=>exact ⟨k+1,by have:=HLT.out;omega,by go_num,zA HB.out (by assumption)⟩
   case measure=>have:=HLT.out;simp [intOf];omega
  ·go_wp2
   go_ret
   exact ⟨rfl,hB⟩
theorem zR6 (b n cap:Nat)(G:Nat→zS)(i:Nat)(w:World)(hi:i<n)(hg:vY w b 0 n G)(hbl:b<w.heap.size)(hn:n≤1048576) :
  Calls Tryz.prog 154 #[.slice (some ⟨b,0,none⟩) n cap,.int .i64 (G i).id] w fun e w'=>(∃ r:Nat,r≤i∧(G r).id=(G i).id∧(∀ j,j<r→(G j).id≠(G i).id)∧e=.returned (.int .i64 r))∧Bw w w':=by
 have HG:Hid (vY w b 0 n G):=hg
 clear hg
 have HI:Hid (i<n):=hi
 clear hi
 generalize hid:(G i).id=t
 have HT:Hid ((G i).id=t):=hid
 clear hid
 go_enter Tryz.func154,Tryz.ntmps154
 go_wp2
 go_loopw [5] (fun v wr=>∃ k:Nat,k≤i∧v=.int .i64 k∧(∀ j,j<k→(G j).id≠t)∧Bw w wr) (fun v _=>n - (intOf v).toNat)
 case atStart=>exact ⟨0,by omega,rfl,by omega,Below.refl _ _⟩
 case round =>
  obtain ⟨k,hk,rfl,hA,hB⟩:=hrel
  have hlt:k<n:=Nat.lt_of_le_of_lt hk HI.out
  have f0:wr.cell? ⟨b,k * 7,none⟩=some (.int .i64 (G k).id):=by simpa using ((HG.out.below hB hbl) k hlt).1.1
  have HB:Hid (Bw w wr):=hB
  have HA:Hid (∀ j,j<k→(G j).id≠t):=hA
  clear hB hA
  have hi:(k:Int)<(n:Int):=by omega
  have hi0:(0:Int)≤(k:Int):=by omega
  by_cases he:(G k).id=t
  ·rw [he] at f0
   go_wp2
   go_ret
   exact ⟨⟨k,hk,he,HA.out,rfl⟩,HB.out⟩
  ·have he':((G k).id == t)=false:=by simpa using he
   have HE:Hid ((G k).id≠t):=he
   have hki:k≠i:=fun e=>he (by rw [e];exact HT.out)
   clear he
   go_wp2
   go_roundw
   case rel=>exact ⟨k+1,by omega,by go_num,fun j hj=>by
     by_cases e:j=k
     ·rw [e];exact HE.out
     ·exact HA.out j (by omega),HB.out⟩
   case measure=>simp [intOf];omega
theorem zEo (b n cap N:Nat)(G:Nat→zS)(t:Int)(w:World)(hnN:n≤N)(hg:vY w b 0 N G)(hbl:b<w.heap.size)(hn:n≤1048576) :
  Calls Tryz.prog 161 #[.slice (some ⟨b,0,none⟩) n cap,.int .i64 t] w fun e w'=>((e=.returned (.bool true)∧∃ j,j<n∧(G j).id=t)∨(e=.returned (.bool false)∧∀ j,j<n→(G j).id≠t))∧Bw w w':=by
 have HG:Hid (vY w b 0 N G):=hg
 clear hg
 go_enter Tryz.func161,Tryz.ntmps161
 go_wp2
 go_loopw [9] (fun v wr=>∃ k:Nat,k≤n∧v=.int .i64 k∧(∀ j,j<k→(G j).id≠t)∧Bw w wr) (fun v _=>n - (intOf v).toNat)
 case atStart=>exact ⟨0,by omega,rfl,by omega,Below.refl _ _⟩
 case round =>
  obtain ⟨k,hk,rfl,hA,hB⟩:=hrel
  have HB:Hid (Bw w wr):=hB
  have HA:Hid (∀ j,j<k→(G j).id≠t):=hA
  by_cases hlt:k<n
  ·obtain ⟨⟨f0,f1,f2,f3,f4,f5,f6⟩,_⟩:=(HG.out.below hB hbl) k (by omega)
   simp only [Nat.zero_add] at f0 f1 f2 f3 f4 f5 f6
   clear hB hA
   have hi:(k:Int)<(n:Int):=by omega
   have hi0:(0:Int)≤(k:Int):=by omega
   by_cases he:(G k).id=t
   ·have he':((G k).id == t)=true:=by simpa using he
    have HE:Hid ((G k).id=t):=he
    clear he
    go_wp2
    go_ret
    exact ⟨.inl ⟨rfl,k,hlt,HE.out⟩,by have HB':=HB.out;exact Qb⟩
   ·have he':((G k).id == t)=false:=by simpa using he
    have HE:Hid ((G k).id≠t):=he
    clear he
    go_wp2
    go_roundw
    case rel=>exact ⟨k+1,by omega,by go_num,fun j hj=>by
      by_cases e:j=k
      ·rw [e];exact HE.out
      ·exact HA.out j (by omega),by have HB':=HB.out;exact Qb⟩
    case measure=>simp [intOf];omega
  ·go_wp2
   go_ret
   exact ⟨.inr ⟨rfl,fun j hj=>hA j (by omega)⟩,hB⟩


theorem l1Min_a (a b:Int)(w:World):Calls Tryz.prog 227 #[.int .i64 a,.int .i64 b] w fun e w'=>e=.returned (.int .i64 (min a b))∧w=w':=by
 by_cases h:a<b
 ·have e:min a b=a:=by omega
  rw [e]
  go_enter Tryz.func227,Tryz.ntmps227
  go_wp2
  go_ret
  exact ⟨rfl,rfl⟩
 ·have e:min a b=b:=by omega
  rw [e]
  go_enter Tryz.func227,Tryz.ntmps227
  go_wp2
  go_ret
  exact ⟨rfl,rfl⟩
theorem Reg.store2 {B r n:Nat}{W W1:World}(h:Reg B W r n W1)(hr:B≤r){v0 v1:Value}:Reg B W r n ((W1.setCell ⟨r,0,none⟩ v0).setCell ⟨r,1,none⟩ v1):=(h.store hr _ _).store hr _ _
theorem zHf {off o:Nat}(q:Nat)(id la ki wi z:Int)(b n cap:Nat)(X Y:Nat→Int)(lab:ByteArray)(pr:Int)(w:World)(hf:yJ w q o id la ki wi (.slice (some ⟨b,off,none⟩) n cap) lab pr)(hp:zK w b off n X Y)(hbl:b<w.heap.size)(hn0:0<n)(hin:inW (X 0) (Y 0)=true)(hz:yH z=true) :
  Calls Tryz.prog 196 #[.pointer (some ⟨q,o,none⟩),.int .i64 z] w fun e w'=>e=.returned (.agg #[.int .i64 (zCh z (X 0)),.int .i64 (zCh z (Y 0))])∧Bw w w':=by
 have sU:=fun w=>zCq z w hz
 have sN:=fun w=>zD9 z w hz
 have hu:=zLx hz
 have hm:=xJ hz
 have hx:(0≤X 0∧X 0≤1024)∧(0≤Y 0∧Y 0≤1024):=by simpa [inW,inB] using hin
 unfold zCh
 generalize yI z=u at *
 generalize zAp z=m at *
 have d1:(X 0).tdiv u=X 0 / u:=Int.tdiv_eq_ediv_of_nonneg hx.1.1
 have d2:(Y 0).tdiv u=Y 0 / u:=Int.tdiv_eq_ediv_of_nonneg hx.2.1
 have d3:0≤X 0 / u∧X 0 / u≤1024:=⟨Int.ediv_nonneg hx.1.1 (by omega),Int.le_trans (Int.ediv_le_self _ hx.1.1) hx.1.2⟩
 have d4:0≤Y 0 / u∧Y 0 / u≤1024:=⟨Int.ediv_nonneg hx.2.1 (by omega),Int.le_trans (Int.ediv_le_self _ hx.2.1) hx.2.2⟩
 have x1:IntKind.i64.wrap (X 0 / u)=X 0 / u:=IntWalk.i64_in _ (by omega)
 have x2:IntKind.i64.wrap (Y 0 / u)=Y 0 / u:=IntWalk.i64_in _ (by omega)
 have hn1:(0:Int)<(n:Int):=by omega
 have p0:=(hp 0 hn0).1
 have p1:=(hp 0 hn0).2
 simp only [Nat.zero_mul,Nat.add_zero,Nat.mul_zero] at p0 p1
 have p4:=hf.2.2.2.2.1
 have hql:q<w.heap.size:=World.block_lt_of_cell? _ _ p4
 clear hz hin hf hp
 go_enter Tryz.func196,Tryz.ntmps196
 go_wp2_with (first
  | (go_at_call 226;refine (sU _).mono ?_;rintro e w1 ⟨rfl,rfl⟩)
  | (go_at_call 65;refine (sN _).mono ?_;rintro e w1 ⟨rfl,rfl⟩))
 generalize hW:(w.alloc _:World)=W
 have HB0:Hid (Bw w W):=by show Below _ _ _;subst hW;exact Qb
 have hReg:Reg w.heap.size W w.heap.size 2 W:=Reg.start (by subst hW;simp) (by subst hW;exact zDq w _ _ _)
 have c4:∀ W',Reg w.heap.size W w.heap.size 2 W'→W'.cell? ⟨q,o+4,none⟩=some (.slice (some ⟨b,off,none⟩) n cap):=fun W' h=>by
  rw [h.bel.cell (p:=⟨q,o+4,none⟩) hql,HB0.out.cell (p:=⟨q,o+4,none⟩) hql];exact p4
 have e0:∀ W',Reg w.heap.size W w.heap.size 2 W'→W'.cell? ⟨b,off,none⟩=some (.int .i64 (X 0)):=fun W' h=>by
  rw [h.bel.cell (p:=⟨b,off,none⟩) hbl,HB0.out.cell (p:=⟨b,off,none⟩) hbl];exact p0
 have e1:∀ W',Reg w.heap.size W w.heap.size 2 W'→W'.cell? ⟨b,off+1,none⟩=some (.int .i64 (Y 0)):=fun W' h=>by
  rw [h.bel.cell (p:=⟨b,off+1,none⟩) hbl,HB0.out.cell (p:=⟨b,off+1,none⟩) hbl];exact p1
 clear hW p0 p1 p4
 have hu0:u≠0:=by omega
 have t0:∀ W',Reg w.heap.size W w.heap.size 2 W'→W'.cell? ⟨w.heap.size,0,none⟩=some (zEz W' w.heap.size 0):=fun W' h=>h.there.cell 0 (by omega)
 have t1:∀ W',Reg w.heap.size W w.heap.size 2 W'→W'.cell? ⟨w.heap.size,1,none⟩=some (zEz W' w.heap.size 1):=fun W' h=>h.there.cell 1 (by omega)
 have f0:∀ W',Reg w.heap.size W w.heap.size 2 W'→W'.frozen? ⟨w.heap.size,0,none⟩=false:=fun W' h=>(h.there 0 (by omega)).2
 have f1:∀ W',Reg w.heap.size W w.heap.size 2 W'→W'.frozen? ⟨w.heap.size,1,none⟩=false:=fun W' h=>(h.there 1 (by omega)).2
 have HR0:Hid (Reg w.heap.size W w.heap.size 2 W):=hReg
 go_region_held3 (Reg w.heap.size W w.heap.size 2) (first | with_reducible assumption | with_reducible exact Reg.drew hReg | with_reducible exact Reg.drew (Reg.store2 hReg (Nat.le_refl _)) | with_reducible exact Reg.store2 (by with_reducible assumption) (Nat.le_refl _) | with_reducible exact Reg.call (by with_reducible assumption) (by with_reducible assumption))
  (first
   | (go_at_call 227;refine (l1Min_a _ _ _).mono ?_;rintro e w' ⟨rfl,rfl⟩)
   | fail)
 go_wp2_with fail
 obtain ⟨z0,z1⟩:=PtA.put (x:=min (X 0 / u) (m - 1)) (y:=min (Y 0 / u) (m - 1)) HR0.out.there
 refine bodyPost_ret (v:=.agg #[.int .i64 (min (X 0 / u) (m - 1)),.int .i64 (min (Y 0 / u) (m - 1))]) (by simp [results,Tryz.results196,go_sem,z0,z1]) rfl ⟨rfl,?_⟩
 have HB:=HB0.out
 exact Below.drew (Below.setCell (Below.setCell HB (Nat.le_refl _) _) (Nat.le_refl _) _)
abbrev lbF (id:Int)(lab:ByteArray)(ax ay:Int):Plc:=⟨id,ax,ay,2 * (lab.size:Int),3⟩
theorem zGr (w:World)(a b c d e:Value)(t:TypeId):zD (w.alloc (.cells #[a,b,c,d,e] t)) w.heap.size 5:=fun o ho=>by
 have:o=0∨o=1∨o=2∨o=3∨o=4:=by omega
 rcases this with rfl | rfl | rfl | rfl | rfl <;> exact ⟨⟨_,by simp [go_sem];rfl⟩,by simp [go_sem]⟩
theorem zD6 {off:Nat}(id la ki wi z:Int)(b n cap:Nat)(X Y:Nat→Int)(lab:ByteArray)(pr:Int)(w:World)(hp:zK w b off n X Y)(hbl:b<w.heap.size)(hn0:0<n)(hin:inW (X 0) (Y 0)=true)(hz:yH z=true)(hl:lab.size≤1048576) :
  Calls Tryz.prog 159 #[.agg #[.int .i64 id,.int .i64 la,.int .i64 ki,.int .i64 wi,.slice (some ⟨b,off,none⟩) n cap,.string lab,.int .i64 pr],.int .i64 z] w fun e w'=>e=.returned (zL2 (lbF id lab (zCh z (X 0)) (zCh z (Y 0))))∧Bw w w':=by
 have HA:Hid (∀ W,Bw w W→Calls Tryz.prog 156 #[.agg #[.int .i64 id,.int .i64 la,.int .i64 ki,.int .i64 wi,.slice (some ⟨b,off,none⟩) n cap,.string lab,.int .i64 pr],.int .i64 z] W fun e w'=>e=.returned (.agg #[.int .i64 (zCh z (X 0)),.int .i64 (zCh z (Y 0))])∧Bw W w'):=fun W h=>zAh id la ki wi z b n cap X Y lab pr W (hp.below h hbl) (Nat.lt_of_lt_of_le hbl h.size) hn0 hin hz
 clear hp hin hz
 generalize zCh z (X 0)=ax at *
 generalize zCh z (Y 0)=ay at *
 show Calls Tryz.prog 159 _ w fun e w'=>e=.returned (.agg #[.int .i64 id,.int .i64 ax,.int .i64 ay,.int .i64 (2 * (lab.size:Int)),.int .i64 3])∧Bw w w'
 go_enter Tryz.func159,Tryz.ntmps159
 go_wp2_with fail
 generalize hW:((w.alloc _).alloc _:World)=W
 have HB0:Hid (Bw w W):=by show Below _ _ _;subst hW;exact Qb
 have HT:Hid (zD W (w.heap.size+1) 5):=by
  show zD _ _ _
  subst hW
  have:=zGr (w.alloc (.cells #[.int .i64 id,.int .i64 la,.int .i64 ki,.int .i64 wi,.slice (some ⟨b,off,none⟩) n cap,.string lab,.int .i64 pr] 209)) (.int .i64 0) (.int .i64 0) (.int .i64 0) (.int .i64 0) (.int .i64 0) 158
  simpa using this
 have HF:Hid (yJ W w.heap.size 0 id la ki wi (.slice (some ⟨b,off,none⟩) n cap) lab pr):=by
  show yJ _ _ _ _ _ _ _ _ _ _
  subst hW
  refine ⟨?_,?_,?_,?_,?_,?_,?_⟩ <;> simp [go_sem]
 have HSZ:Hid (w.heap.size+1<W.heap.size):=by show _<_;subst hW;simp
 have hlW:w.heap.size<W.heap.size:=by subst hW;simp <;> omega
 clear hW
 refine (HA.out _ HB0.out).mono ?_
 rintro e w1 ⟨rfl,hb1⟩
 have hT1:=HT.out.below hb1
 have HT1:Hid (zD w1 (w.heap.size+1) 5):=hT1
 obtain ⟨q0,_,_,_,_,q5,_⟩:=HF.out.below hb1 hlW
 simp only [Nat.zero_add] at q0 q5
 have HB1:Hid (Bw w w1):=zA HB0.out hb1
 have hs1:w.heap.size+1<w1.heap.size:=Nat.lt_of_lt_of_le HSZ.out hb1.size
 have hs0:w.heap.size<w1.heap.size:=by omega
 have t0:=hT1.cell 0 (by omega)
 have t1:=hT1.cell 1 (by omega)
 have t2:=hT1.cell 2 (by omega)
 have t3:=hT1.cell 3 (by omega)
 have t4:=hT1.cell 4 (by omega)
 have f0:=(hT1 0 (by omega)).2
 have f1:=(hT1 1 (by omega)).2
 have f2:=(hT1 2 (by omega)).2
 have f3:=(hT1 3 (by omega)).2
 have f4:=(hT1 4 (by omega)).2
 clear hT1 hb1
 go_wp2_with fail
 have hP:=zK1 (W:=w1) (B:=w.heap.size+1) (o:=0) (m:=5) (e:=lbF id lab ax ay) HT1.out (by omega)
 have hBU:=zF6 (o:=0) (e:=lbF id lab ax ay) HB1.out (Nat.le_succ w.heap.size)
 obtain ⟨g0,g1,g2,g3,g4⟩:=hP
 unfold zR1 at g0 g1 g2 g3 g4 hBU
 simp only [Nat.zero_add] at g0 g1 g2 g3 g4 hBU
 try dsimp only at g0 g1 g2 g3 g4 hBU
 generalize hU:(((((w1.setCell _ _).setCell _ _).setCell _ _).setCell _ _).setCell _ _:World)=U at *
 have hlU:=World.block_lt_of_cell? _ _ g0
 have r0:∀ O,(U.alloc O).cell? ⟨w.heap.size+1,0,none⟩=U.cell? ⟨w.heap.size+1,0,none⟩:=fun O=>World.cell?_alloc_lt _ _ _ hlU
 have r1:∀ O,(U.alloc O).cell? ⟨w.heap.size+1,1,none⟩=U.cell? ⟨w.heap.size+1,1,none⟩:=fun O=>World.cell?_alloc_lt _ _ _ hlU
 have r2:∀ O,(U.alloc O).cell? ⟨w.heap.size+1,2,none⟩=U.cell? ⟨w.heap.size+1,2,none⟩:=fun O=>World.cell?_alloc_lt _ _ _ hlU
 have r3:∀ O,(U.alloc O).cell? ⟨w.heap.size+1,3,none⟩=U.cell? ⟨w.heap.size+1,3,none⟩:=fun O=>World.cell?_alloc_lt _ _ _ hlU
 have r4:∀ O,(U.alloc O).cell? ⟨w.heap.size+1,4,none⟩=U.cell? ⟨w.heap.size+1,4,none⟩:=fun O=>World.cell?_alloc_lt _ _ _ hlU
 refine bodyPost_ret (v:=.agg #[.int .i64 id,.int .i64 ax,.int .i64 ay,.int .i64 (2 * (lab.size:Int)),.int .i64 3]) (by simp [results,Tryz.results159,go_sem,r0,r1,r2,r3,r4,g0,g1,g2,g3,g4]) rfl ⟨rfl,?_⟩
 exact xD hBU _
theorem zNu {off o:Nat}(q:Nat)(id la ki wi z:Int)(b n cap:Nat)(X Y:Nat→Int)(lab:ByteArray)(pr:Int)(w:World)(hf:yJ w q o id la ki wi (.slice (some ⟨b,off,none⟩) n cap) lab pr)(hp:zK w b off n X Y)(hbl:b<w.heap.size)(hn0:0<n)(hin:inW (X 0) (Y 0)=true)(hz:yH z=true)(hl:lab.size≤1048576) :
  Calls Tryz.prog 152 #[.pointer (some ⟨q,o,none⟩),.int .i64 z] w fun e w'=>e=.returned (zL2 (lbF id lab (zCh z (X 0)) (zCh z (Y 0))))∧Bw w w':=by
 have hql:q<w.heap.size:=World.block_lt_of_cell? _ _ hf.1
 have HA:Hid (∀ W,Bw w W→Calls Tryz.prog 196 #[.pointer (some ⟨q,o,none⟩),.int .i64 z] W fun e w'=>e=.returned (.agg #[.int .i64 (zCh z (X 0)),.int .i64 (zCh z (Y 0))])∧Bw W w'):=fun W h=>zHf q id la ki wi z b n cap X Y lab pr W (hf.below h hql) (hp.below h hbl) (Nat.lt_of_lt_of_le hbl h.size) hn0 hin hz
 have HF:Hid (yJ w q o id la ki wi (.slice (some ⟨b,off,none⟩) n cap) lab pr):=hf
 clear hp hin hz hf
 generalize zCh z (X 0)=ax at *
 generalize zCh z (Y 0)=ay at *
 have hw2:IntKind.i64.wrap (2 * (lab.size:Int))=2 * (lab.size:Int):=IntWalk.i64_in _ (by omega)
 show Calls Tryz.prog 152 _ w fun e w'=>e=.returned (.agg #[.int .i64 id,.int .i64 ax,.int .i64 ay,.int .i64 (2 * (lab.size:Int)),.int .i64 3])∧Bw w w'
 go_enter Tryz.func152,Tryz.ntmps152
 go_wp2_with fail
 generalize hW:(w.alloc _:World)=W
 have HB0:Hid (Bw w W):=by show Below _ _ _;subst hW;exact Qb
 have HT:Hid (zD W w.heap.size 5):=by show zD _ _ _;subst hW;exact zGr w _ _ _ _ _ _
 have HSZ:Hid (w.heap.size<W.heap.size):=by show _<_;subst hW;simp
 clear hW
 refine (HA.out _ HB0.out).mono ?_
 rintro e w1 ⟨rfl,hb1⟩
 have HT1:Hid (zD w1 w.heap.size 5):=HT.out.below hb1
 have HB1:Hid (Bw w w1):=zA HB0.out hb1
 have hs1:w.heap.size<w1.heap.size:=Nat.lt_of_lt_of_le HSZ.out hb1.size
 clear hb1
 go_wp2_with fail
 generalize hV:(w1.alloc _:World)=V
 have hbV:Bw w1 V:=by subst hV;exact Qb
 have HP:Hid (PtA V w1.heap.size ax ay):=by show PtA _ _ _ _;subst hV;exact ⟨by simp [go_sem],by simp [go_sem]⟩
 clear hV
 have hTV:=HT1.out.below hbV
 have HTV:Hid (zD V w.heap.size 5):=hTV
 have HBV:Hid (Bw w V):=zA HB1.out hbV
 obtain ⟨p0,p1⟩:=HP.out
 have hFV:=HF.out.below HBV.out hql
 have q0:=hFV.1
 have q5:=hFV.2.2.2.2.2.1
 have hne:w1.heap.size≠w.heap.size:=by omega
 have hne2:q≠w.heap.size:=by omega
 have t0:=hTV.cell 0 (by omega)
 have t1:=hTV.cell 1 (by omega)
 have t2:=hTV.cell 2 (by omega)
 have t3:=hTV.cell 3 (by omega)
 have t4:=hTV.cell 4 (by omega)
 have f0:=(hTV 0 (by omega)).2
 have f1:=(hTV 1 (by omega)).2
 have f2:=(hTV 2 (by omega)).2
 have f3:=(hTV 3 (by omega)).2
 have f4:=(hTV 4 (by omega)).2
 clear hTV hFV hbV
 go_region
 go_wp2_with fail
 have hP:=zK1 (W:=V) (B:=w.heap.size) (o:=0) (m:=5) (e:=lbF id lab ax ay) HTV.out (by omega)
 have hBU:=zF6 (o:=0) (e:=lbF id lab ax ay) HBV.out (Nat.le_refl w.heap.size)
 obtain ⟨g0,g1,g2,g3,g4⟩:=hP
 unfold zR1 at g0 g1 g2 g3 g4 hBU
 simp only [Nat.zero_add] at g0 g1 g2 g3 g4 hBU
 try dsimp only at g0 g1 g2 g3 g4 hBU
 generalize hU:(((((V.setCell _ _).setCell _ _).setCell _ _).setCell _ _).setCell _ _:World)=U at *
 refine bodyPost_ret (v:=.agg #[.int .i64 id,.int .i64 ax,.int .i64 ay,.int .i64 (2 * (lab.size:Int)),.int .i64 3]) (by simp [results,Tryz.results152,go_sem,g0,g1,g2,g3,g4]) rfl ⟨rfl,?_⟩
 exact Below.drew hBU
theorem lab_ne {lab:ByteArray}(h:¬ lab=⟨#[]⟩):lab.toList.isEmpty=false:=by
 cases hb:lab.toList.isEmpty
 ·rfl
 ·have e:lab.toList=[]:=by simpa using hb
  rw [ByteArray.toList_eq] at e
  exact absurd (ByteArray.ext (Array.toList_inj.1 e)) h
end Go.Proofs.YtpaiholildedcaaGreat
