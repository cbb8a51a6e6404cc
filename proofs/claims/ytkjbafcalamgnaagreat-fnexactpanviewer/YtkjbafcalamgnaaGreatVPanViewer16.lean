/- Texts. -/
import Derived.Test.YtkjbafcalamgnaaGreatVPanViewer14
import Derived.Test.YtkjbafcalamgnaaGreatVPanViewer15
set_option linter.unusedSimpArgs false
set_option linter.unusedVariables false
set_option maxRecDepth 100000
set_option maxHeartbeats 32000000
namespace Go.Proofs.YtkjbafcalamgnaaGreat
open Go.RowKit
structure yB where
 id:Int
 la:Int
 ki:Int
 wi:Int
 a:Option Addr
 n:Nat
 cap:Nat
 X:Nat→Int
 Y:Nat→Int
 lab:ByteArray
 pr:Int
def zAw (w:World)(b off n:Nat)(F:Nat→yB):Prop :=
 ∀ i,i<n→zAb w b (off+i * 7) (F i).id (F i).la (F i).ki (F i).wi (.slice (F i).a (F i).n (F i).cap) (F i).lab (F i).pr∧xM w (F i).a (F i).n (F i).X (F i).Y
theorem zAw.below {w w':World}{b off n:Nat}{F:Nat→yB}(h:zAw w b off n F)(hb:Below w.heap.size w w')(hl:b<w.heap.size):zAw w' b off n F:=fun i hi =>
 ⟨(h i hi).1.below hb hl,(h i hi).2.below hb⟩
def zGc (w:World)(a:Option Addr)(n:Nat)(F:Nat→yB):Prop:=n=0∨∃ b off,a=some ⟨b,off,none⟩∧b<w.heap.size∧zAw w b off n F
theorem zGc.below {w w':World}{a:Option Addr}{n:Nat}{F:Nat→yB}(h:zGc w a n F)(hb:Below w.heap.size w w'):zGc w' a n F:=by
 rcases h with h | ⟨b,off,e,hl,hp⟩
 ·exact .inl h
 ·exact .inr ⟨b,off,e,Nat.lt_of_lt_of_le hl hb.size,hp.below hb hl⟩
def yB.same (f g:yB):Prop:=f.id=g.id∧f.la=g.la∧f.ki=g.ki∧f.wi=g.wi∧f.n=g.n∧f.X=g.X∧f.Y=g.Y∧f.lab=g.lab∧f.pr=g.pr
def vY (w:World)(B b n:Nat)(F G:Nat→yB):Prop :=
 B≤b∧b<w.heap.size∧zAw w b 0 n G∧∀ i,i<n→(G i).same (F i)∧∃ q,(G i).a=some ⟨q,0,none⟩∧(G i).cap=(G i).n∧q≠b∧B≤q∧q<w.heap.size∧zL w q 0 (G i).n (G i).X (G i).Y
theorem vY.below {w w':World}{B b n:Nat}{F G:Nat→yB}(h:vY w B b n F G)(hb:Below w.heap.size w w'):vY w' B b n F G:=by
 obtain ⟨h1,h2,h3,h4⟩:=h
 refine ⟨h1,Nat.lt_of_lt_of_le h2 hb.size,h3.below hb h2,fun i hi=>?_⟩
 obtain ⟨e,q,e1,e2,e3,e4,e5,e6⟩:=h4 i hi
 exact ⟨e,q,e1,e2,e3,e4,Nat.lt_of_lt_of_le e5 hb.size,e6.below hb e5⟩
def zMe (W:World)(B o:Nat)(f:yB):World:=(((((((W.setCell ⟨B,o,none⟩ (.int .i64 f.id)).setCell ⟨B,o+1,none⟩ (.int .i64 f.la)).setCell ⟨B,o+2,none⟩ (.int .i64 f.ki)).setCell ⟨B,o+3,none⟩ (.int .i64 f.wi)).setCell ⟨B,o+4,none⟩ (.slice f.a f.n f.cap)).setCell ⟨B,o+5,none⟩ (.string f.lab)).setCell ⟨B,o+6,none⟩ (.int .i64 f.pr))
theorem zI6 {W:World}{B o:Nat}{f:yB}{p:Addr}(h:p.block≠B∨p.off<o∨o+6<p.off):(zMe W B o f).cell? p=W.cell? p:=by
 have ne:∀ k:Nat,k≤6→(⟨B,o+k,none⟩:Addr)≠p:=fun k hk e=>by subst e;simp at h;omega
 have ne0:(⟨B,o,none⟩:Addr)≠p:=ne 0 (by omega)
 unfold zMe
 rw [zB (ne 6 (by omega)),zB (ne 5 (by omega)),zB (ne 4 (by omega)),zB (ne 3 (by omega)),zB (ne 2 (by omega)),zB (ne 1 (by omega)),zB ne0]
theorem zI5 {W:World}{B o m:Nat}{f:yB}(h:zC W B m):zC (zMe W B o f) B m:=by
 unfold zMe
 exact ((((((h.set _ _).set _ _).set _ _).set _ _).set _ _).set _ _).set _ _
theorem zT0 {W:World}{B o m:Nat}{f:yB}(h:zC W B m)(ho:o+6<m):zAb (zMe W B o f) B o f.id f.la f.ki f.wi (.slice f.a f.n f.cap) f.lab f.pr:=by
 have ne:∀ i j:Nat,i≠j→(⟨B,i,none⟩:Addr)≠⟨B,j,none⟩:=fun i j hij h=>hij (by injection h)
 obtain ⟨u0,g0⟩:=(h (o) (by omega)).1
 obtain ⟨u1,g1⟩:=((h.set (o) (.int .i64 f.id)) (o+1) (by omega)).1
 obtain ⟨u2,g2⟩:=(((h.set (o) (.int .i64 f.id)).set (o+1) (.int .i64 f.la)) (o+2) (by omega)).1
 obtain ⟨u3,g3⟩:=((((h.set (o) (.int .i64 f.id)).set (o+1) (.int .i64 f.la)).set (o+2) (.int .i64 f.ki)) (o+3) (by omega)).1
 obtain ⟨u4,g4⟩:=(((((h.set (o) (.int .i64 f.id)).set (o+1) (.int .i64 f.la)).set (o+2) (.int .i64 f.ki)).set (o+3) (.int .i64 f.wi)) (o+4) (by omega)).1
 obtain ⟨u5,g5⟩:=((((((h.set (o) (.int .i64 f.id)).set (o+1) (.int .i64 f.la)).set (o+2) (.int .i64 f.ki)).set (o+3) (.int .i64 f.wi)).set (o+4) (.slice f.a f.n f.cap)) (o+5) (by omega)).1
 obtain ⟨u6,g6⟩:=(((((((h.set (o) (.int .i64 f.id)).set (o+1) (.int .i64 f.la)).set (o+2) (.int .i64 f.ki)).set (o+3) (.int .i64 f.wi)).set (o+4) (.slice f.a f.n f.cap)).set (o+5) (.string f.lab)) (o+6) (by omega)).1
 unfold zMe
 refine ⟨?_,?_,?_,?_,?_,?_,?_⟩
 ·rw [zB (ne _ _ (by omega)),zB (ne _ _ (by omega)),zB (ne _ _ (by omega)),zB (ne _ _ (by omega)),zB (ne _ _ (by omega)),zB (ne _ _ (by omega))];exact zE g0
 ·rw [zB (ne _ _ (by omega)),zB (ne _ _ (by omega)),zB (ne _ _ (by omega)),zB (ne _ _ (by omega)),zB (ne _ _ (by omega))];exact zE g1
 ·rw [zB (ne _ _ (by omega)),zB (ne _ _ (by omega)),zB (ne _ _ (by omega)),zB (ne _ _ (by omega))];exact zE g2
 ·rw [zB (ne _ _ (by omega)),zB (ne _ _ (by omega)),zB (ne _ _ (by omega))];exact zE g3
 ·rw [zB (ne _ _ (by omega)),zB (ne _ _ (by omega))];exact zE g4
 ·rw [zB (ne _ _ (by omega))];exact zE g5
 ·exact zE g6
theorem zA2 (W:World)(B o:Nat)(f:yB):(zMe W B o f).heap.size=W.heap.size:=by unfold zMe;simp
theorem zRm {V W:World}{n B o:Nat}{f:yB}(h:Below n V W)(hB:n≤B):Below n V (zMe W B o f):=by
 unfold zMe
 exact ((((((h.setCell hB _).setCell hB _).setCell hB _).setCell hB _).setCell hB _).setCell hB _).setCell hB _
theorem zL.lay {W:World}{b off n:Nat}{X Y:Nat→Int}(h:zL W b off n X Y){B o:Nat}{f:yB}(hne:B≠b):zL (zMe W B o f) b off n X Y:=by
 unfold zMe
 exact ((((((h.store hne).store hne).store hne).store hne).store hne).store hne).store hne
theorem zO2:(Tryz.prog.info? 138).map (fun i=>(i.zero,i.size,i.bytes))=some (some (.agg #[.int .i64 0,.int .i64 0,.int .i64 0,.int .i64 0,.slice none 0 0,.string ⟨#[]⟩,.int .i64 0]),7,80):=by kernel_rfl
abbrev zVg:Array Value:=#[.int .i64 0,.int .i64 0,.int .i64 0,.int .i64 0,.slice none 0 0,.string ⟨#[]⟩,.int .i64 0]
theorem zRk (n:Nat)(h:n≤1048576)(w:World) :
  (Instr.makeSlice 55 (.int .i64 (n:Int)) (.int .i64 (n:Int))).run Tryz.prog w=.ok (.slice (some ⟨w.heap.size,0,none⟩) n n) (w.alloc (.cells (madeCells zVg (n * 7)) 138)):=by
 obtain ⟨i,hi,hz,hs,hb⟩:=info_parts zO2
 have hr:=run_make (P:=Tryz.prog) w 55 138 i _ Tryz.underlying55 hi hz .i64 .i64 (n:Int) (n:Int) (by omega) (Int.le_refl _) (by rw [hb];omega) (by omega)
 simp only [Int.toNat_natCast,hs] at hr
 exact hr
theorem zN8 (n:Nat)(w:World)(t:TypeId):zC (w.alloc (.cells (madeCells zVg n) t)) w.heap.size n:=fun o ho=>by
 have hz:=size_madeCells zVg n
 refine ⟨⟨(madeCells zVg n)[o]'(by rw [hz];exact ho),?_⟩,World.frozen?_alloc_at _ _ _ _ rfl⟩
 rw [World.cell?_alloc_at _ _ _ _ rfl]
 exact Array.getElem?_eq_getElem _
theorem own_lay {W:World}{B n k q:Nat}{F G:Nat→yB}(h:vY W B B k F G)(hT:zC W B (n * 7))(hk:k<n)(hqB:B≤q)(hq:q<W.heap.size)(hp:zL W q 0 (F k).n (F k).X (F k).Y)(hne:q≠B) :
  vY (zMe W B (k * 7) { F k with a:=some ⟨q,0,none⟩,cap:=(F k).n }) B B (k+1) F (fun i=>if i=k then { F k with a:=some ⟨q,0,none⟩,cap:=(F k).n } else G i):=by
 obtain ⟨h1,h2,h3,h4⟩:=h
 refine ⟨h1,by rw [zA2];exact h2,fun i hi=>?_,fun i hi=>?_⟩
 ·by_cases e:i=k
  ·subst e
   simp only [if_pos,Nat.zero_add]
   refine ⟨zT0 hT (by omega),.inr ⟨q,0,rfl,by rw [zA2];exact hq,hp.lay (fun h=>hne h.symm)⟩⟩
  ·simp only [if_neg e]
   obtain ⟨c,ip⟩:=h3 i (by omega)
   obtain ⟨_,q',e1,e2,e3,e4,e5,e6⟩:=h4 i (by omega)
   refine ⟨?_,?_⟩
   ·obtain ⟨c0,c1,c2,c3,c4,c5,c6⟩:=c
    refine ⟨?_,?_,?_,?_,?_,?_,?_⟩ <;> (rw [zI6 (by right;left;simp;omega)];assumption)
   ·exact .inr ⟨q',0,e1,by rw [zA2];exact e5,e6.lay (fun h=>e3 h.symm)⟩
 ·by_cases e:i=k
  ·subst e
   simp only [if_pos]
   exact ⟨⟨rfl,rfl,rfl,rfl,rfl,rfl,rfl,rfl,rfl⟩,q,by first | rfl | trivial,by first | trivial | rfl,hne,hqB,by rw [zA2];exact hq,hp.lay (fun h=>hne h.symm)⟩
  ·simp only [if_neg e]
   obtain ⟨sm,q',e1,e2,e3,e4,e5,e6⟩:=h4 i (by omega)
   exact ⟨sm,q',e1,e2,e3,e4,by rw [zA2];exact e5,e6.lay (fun h=>e3 h.symm)⟩
theorem zIl (id la ki wi:Int)(a a':Option Addr)(n cap cap':Nat)(X Y:Nat→Int)(lab:ByteArray)(pr:Int)(w:World)(hp:xM w a n X Y)(hq:xM w a' n X Y)(hmax:n≤1048576) :
  Calls Tryz.prog 99 #[.agg #[.int .i64 id,.int .i64 la,.int .i64 ki,.int .i64 wi,.slice a n cap,.string lab,.int .i64 pr],.agg #[.int .i64 id,.int .i64 la,.int .i64 ki,.int .i64 wi,.slice a' n cap',.string lab,.int .i64 pr]] w fun e w'=>e=.returned (.bool true)∧Bw w w':=by
 have HP:Hid (xM w a n X Y):=hp
 have HQ:Hid (xM w a' n X Y):=hq
 clear hp hq
 go_enter Tryz.func99,Tryz.ntmps99
 go_wp2_with fail
 generalize hW:((w.alloc _).alloc _:World)=W
 have hB0:Bw w W:=by subst hW;exact Qb
 have hsz:W.heap.size=w.heap.size+1+1:=by subst hW;simp
 have c5:W.cell? ⟨w.heap.size,5,none⟩=some (.string lab):=by subst hW;simp [go_sem]
 have c6:W.cell? ⟨w.heap.size,6,none⟩=some (.int .i64 pr):=by subst hW;simp [go_sem]
 have o5:W.cell? ⟨w.heap.size+1,5,none⟩=some (.string lab):=by subst hW;simp [go_sem]
 have o6:W.cell? ⟨w.heap.size+1,6,none⟩=some (.int .i64 pr):=by subst hW;simp [go_sem]
 clear hW
 refine (zUl a a' n cap cap' X Y W (HP.out.below hB0) (HQ.out.below hB0) hmax).mono ?_
 rintro e w1 ⟨rfl,hb1⟩
 have d5:=(hb1.cell (p:=⟨w.heap.size,5,none⟩) (show w.heap.size<_ by omega)).trans c5
 have d6:=(hb1.cell (p:=⟨w.heap.size,6,none⟩) (show w.heap.size<_ by omega)).trans c6
 have e5:=(hb1.cell (p:=⟨w.heap.size+1,5,none⟩) (show w.heap.size+1<_ by omega)).trans o5
 have e6:=(hb1.cell (p:=⟨w.heap.size+1,6,none⟩) (show w.heap.size+1<_ by omega)).trans o6
 have HB1:Hid (Bw w w1):=zA hB0 hb1
 clear c5 c6 o5 o6 hb1 hB0 hsz
 go_wp2
 go_ret
 exact ⟨rfl,HB1.out⟩
theorem resC (T:Array Value)(Wf:World)(r:Nat)(v0 v1 v2 v3 v4 v5 v6:Value)(hT:T[2]?.getD undef=.pointer (some ⟨r,0,none⟩))(h0:Wf.cell? ⟨r,0,none⟩=some v0)(h1:Wf.cell? ⟨r,1,none⟩=some v1)(h2:Wf.cell? ⟨r,2,none⟩=some v2)(h3:Wf.cell? ⟨r,3,none⟩=some v3)(h4:Wf.cell? ⟨r,4,none⟩=some v4)(h5:Wf.cell? ⟨r,5,none⟩=some v5)(h6:Wf.cell? ⟨r,6,none⟩=some v6) :
  (results Tryz.f215 T).run Tryz.prog Wf=.ok (.agg #[v0,v1,v2,v3,v4,v5,v6]) Wf:=by
 simp [results,Tryz.results215,go_sem,hT,h0,h1,h2,h3,h4,h5,h6]
set_option maxRecDepth 8000 in
theorem zKr {off:Nat}(id la ki wi:Int)(b n cap:Nat)(X Y:Nat→Int)(lab:ByteArray)(pr:Int)(w:World)(hp:zL w b off n X Y)(hbl:b<w.heap.size)(hn:n≤1048576) :
  Calls Tryz.prog 215 #[.agg #[.int .i64 id,.int .i64 la,.int .i64 ki,.int .i64 wi,.slice (some ⟨b,off,none⟩) n cap,.string lab,.int .i64 pr]] w fun e w'=>∃ a c,e=.returned (.agg #[.int .i64 id,.int .i64 la,.int .i64 ki,.int .i64 wi,.slice a n c,.string lab,.int .i64 pr])∧Row (w.heap.size+1+1) w' (.slice a n c) (vA X Y (List.range n))∧Bw w w':=by
 obtain ⟨i0,hi,hz0,hz1,hz2⟩:=info_parts (show (Tryz.prog.info? 206).map (fun i=>(i.zero,i.size,i.bytes))=some (some (.agg #[.int .i64 0,.int .i64 0]),2,16) by kernel_rfl)
 have HP:Hid (zL w b off n X Y):=hp
 have HLEN:Hid ((vA X Y (List.range n)).length=n):=by show _=_;simp [vA]
 clear hp
 obtain ⟨W,hWd⟩:∃ W,W=(((w.alloc (.cells #[.int .i64 id,.int .i64 la,.int .i64 ki,.int .i64 wi,.slice (some ⟨b,off,none⟩) n cap,.string lab,.int .i64 pr] 138)).alloc (.cells #[.int .i64 0,.int .i64 0,.int .i64 0,.int .i64 0,.slice none 0 0,.string ⟨#[]⟩,.int .i64 0] 138)):World):=⟨_,rfl⟩
 have hB0:Bw w W:=by subst hWd;exact Qb
 have hO:zNt W w.heap.size id la ki wi (.slice (some ⟨b,off,none⟩) n cap) lab pr:=by
  subst hWd
  unfold zNt
  rw [Below.heap_alloc _ _ _ (by simp)]
  exact heap_alloc_new w _
 have hT:zC W (w.heap.size+1) 7:=by
  subst hWd
  have:=there7 (w.alloc (.cells #[.int .i64 id,.int .i64 la,.int .i64 ki,.int .i64 wi,.slice (some ⟨b,off,none⟩) n cap,.string lab,.int .i64 pr] 138)) (.int .i64 0) (.int .i64 0) (.int .i64 0) (.int .i64 0) (.slice none 0 0) (.string ⟨#[]⟩) (.int .i64 0) 138
  simpa using this
 have hsW:W.heap.size=w.heap.size+2:=by subst hWd;simp
 have HB0:=(show Hid _ from hB0)
 have HO:=(show Hid _ from hO)
 have HT:Hid (zC W (w.heap.size+1) 7):=hT
 have HSW:=(show Hid _ from hsW)
 have HWD:=(show Hid _ from hWd)
 clear hB0 hO hT hsW hWd
 go_enter Tryz.func215,Tryz.ntmps215
 go_wp2_with (first
  | (at_builtin;go_must (refine wpList_append_own _ rfl _ _ 136 rfl (w.heap.size+1+1) 206 i0 (.agg #[.int .i64 0,.int .i64 0]) 2 16 Tryz.underlying136 hi hz0 hz1 hz2 rfl (by decide) (.slice (some ⟨w.heap.size+1+1,0,none⟩) 0 0) 0 [] rfl ?c6 ⟨b,off,none⟩ n cap (vJ (vA X Y (List.range n))) rfl ?c0 ?c1 ?c2 ?c3 ?c4 ?c5 ?_)))
 case c6 =>
  have:=World.ownsRow_lit (base:=w.heap.size+1+1) (e:=206) (size:=2) W #[] 0 (by rw [HSW.out];exact Nat.le_refl _) (Nat.zero_le _) rfl
  rw [HSW.out,HWD.out] at this
  exact this
 case c0=>rw [zA5,HLEN.out]
 case c1 =>
  intro q u hq
  have hb:Bw w (W.alloc (.cells #[] 206)):=xA HB0.out _
  rw [HWD.out] at hb
  have h1:=zI1 (HP.out.below hb hbl) q u hq
  by_cases hq0:q=0
  ·subst hq0;simpa [Addr.add] using h1
  ·simpa [Addr.add,hq0] using h1
 case c2 =>
  intro u hu
  unfold vJ at hu
  rw [List.mem_flatMap] at hu
  obtain ⟨p,_,hp⟩:=hu
  simp at hp
  rcases hp with rfl | rfl <;> rfl
 case c3=>unfold maxLen;omega
 case c4=>omega
 case c5=>first | omega | (simp;done) | (simp;omega)
 intro v' w2 hown' hgrow hnil
 clear hnil
 obtain ⟨a',c',hv'⟩:∃ a' c',v'=.slice a' n c':=by
  obtain ⟨_,h2 | ⟨g,cp,cur,hv,_⟩⟩:=hown'
  ·exact ⟨none,0,by have e:=h2.2;have e2:n=0:=(by omega);subst e2;exact h2.1⟩
  ·exact ⟨_,cp,by rw [hv]⟩
 have HOWN:Hid (Row (w.heap.size+1+1) w2 v' (vA X Y (List.range n))):=by
  show Row _ _ _ _
  unfold Row
  rw [HLEN.out]
  simpa using hown'
 have hgb:Below (w.heap.size+1+1) (W.alloc (.cells #[] 206)) w2:=by
  rw [HWD.out]
  exact (Below.refl _ _).grown hgrow (by simp) (fun k hk=>by simp [Value.ownBlock] at hk;omega)
 have hWa:Bw W (W.alloc (.cells #[] 206)):=(Below.refl _ _).alloc (Nat.le_refl _) _
 have hW2:Below (w.heap.size+2) W w2:=(hWa.mono (by rw [HSW.out];exact Nat.le_refl _)).trans hgb
 have hO2:zNt w2 w.heap.size id la ki wi (.slice (some ⟨b,off,none⟩) n cap) lab pr:=(hW2.block _ (by omega)).trans HO.out
 have hT2:zC w2 (w.heap.size+1) 7:=zC.belowB' HT.out hW2 (by omega)
 have hB2:Bw w w2:=HB0.out.trans (hW2.mono (by omega))
 have hs2:w.heap.size+2<w2.heap.size∨True:=.inr trivial
 obtain ⟨⟨u0,u1,u2,u3,u4,u5,u6⟩,f4⟩:=hO2.cells
 have hlw:=hO2.lt
 have t0:=hT2.cell 0 (by omega)
 have t1:=hT2.cell 1 (by omega)
 have t2:=hT2.cell 2 (by omega)
 have t3:=hT2.cell 3 (by omega)
 have t4:=hT2.cell 4 (by omega)
 have t5:=hT2.cell 5 (by omega)
 have t6:=hT2.cell 6 (by omega)
 have z0:=(hT2 0 (by omega)).2
 have z1:=(hT2 1 (by omega)).2
 have z2:=(hT2 2 (by omega)).2
 have z3:=(hT2 3 (by omega)).2
 have z4:=(hT2 4 (by omega)).2
 have z5:=(hT2 5 (by omega)).2
 have z6:=(hT2 6 (by omega)).2
 have HT9:Hid (zC (w2.setCell ⟨w.heap.size,4,none⟩ v') (w.heap.size+1) 7):=zC.out hT2 (by omega)
 have HB9:Hid (Bw w w2):=hB2
 subst hv'
 clear hown' hgrow hgb hWa hW2 hO2 hT2 hB2 hs2
 go_wp2_with fail
 obtain ⟨y0,y1,y2,y3,y4,y5,y6⟩:=zTe (v0:=.int .i64 id) (v1:=.int .i64 la) (v2:=.int .i64 ki) (v3:=.int .i64 wi) (v4:=.slice a' n c') (v5:=.string lab) (v6:=.int .i64 pr) HT9.out
 exact bodyPost_ret (resC _ _ (w.heap.size+1) _ _ _ _ _ _ _ rfl y0 y1 y2 y3 y4 y5 y6) rfl ⟨a',c',rfl,((((((((HOWN.out.setB (by omega)).setB (by omega)).setB (by omega)).setB (by omega)).setB (by omega)).setB (by omega)).setB (by omega)).setB (by omega)),below7 (HB9.out.setCell (Nat.le_refl _) _) (Nat.le_succ _)⟩
theorem zEr {z x y wd ht:Int}(b:Nat)(w:World)(hA:zAe w b z x y wd ht)(hr:zA6 z x y wd ht=true):Calls Tryz.prog 107 #[.pointer (some ⟨b,0,none⟩)] w fun e w'=>∃ v,e=.returned v∧zFd w.heap.size w' v (uM z x y wd ht) (zBs z x y wd)∧Bw w w':=by
 have e2:uM z x y wd ht=zFz y ht * zFz x wd:=by unfold uM;rw [if_pos hr]
 have hin:=zAs hr
 have nx:=zBu (x:=x) hin.1.1
 have ny:=zBu (x:=y) hin.1.2
 rw [e2]
 exact zT3 b w hA hr rfl rfl rfl rfl rfl rfl ⟨⟨nx.1,nx.2.1⟩,by omega⟩ ⟨⟨ny.1,ny.2.1⟩,by omega⟩ rfl
def yS (z x y wd ht rz rx ry:Int):Bool:=hasR (zBs z x y wd) rz rx ry (uM z x y wd ht)
theorem zB2 (z x y wd ht rz rx ry:Int)(w:World):Calls Tryz.prog 127 #[zDi z x y wd ht,vN rz rx ry] w fun e w'=>e=.returned (.bool (yS z x y wd ht rz rx ry))∧Bw w w':=by
 have sV:∀ w,Calls Tryz.prog 131 #[zDi z x y wd ht] w fun e w'=>∃ a cap,e=.returned (.agg #[.int .i64 (uK z x y wd ht),.slice a (uM z x y wd ht) cap])∧zHr w' a (uM z x y wd ht) (zBs z x y wd)∧Bw w w':=fun w=>(uJ z x y wd ht w).mono fun e w' ⟨v,h1,h2,h3⟩=>by
  obtain ⟨a,cap,rfl,_,hI⟩:=h2.pts
  exact ⟨a,cap,h1,hI,h3⟩
 have hm:uM z x y wd ht≤1048576:=by have:=zCr z x y wd ht;omega
 have HC:Hid (∀ a cap w,zHr w a (uM z x y wd ht) (zBs z x y wd)→Calls Tryz.prog 169 #[.slice a (uM z x y wd ht) cap,vN rz rx ry] w fun e w'=>e=.returned (.bool (yS z x y wd ht rz rx ry))∧Bw w w'):=fun a cap w h=>zLc a _ cap _ rz rx ry w h hm
 clear hm
 generalize yS z x y wd ht rz rx ry=B at *
 generalize uM z x y wd ht=m at *
 generalize zBs z x y wd=R at *
 generalize uK z x y wd ht=c at *
 have i1:∀ (a:Option Addr) (cap:Nat) w,(Instr.field 180 (.agg #[.int .i64 c,.slice a m cap]) 1).run Tryz.prog w=.ok (.slice a m cap) w:=fun _ _ _=>by kernel_rfl
 go_enter Tryz.func127,Tryz.ntmps127
 go_wp2_with fail
 generalize hW:((w.alloc _).alloc _:World)=W
 have HB0:Hid (Bw w W):=by show Below _ _ _;subst hW;exact Qb
 have c00:∀ W',Bw W W'→W'.cell? ⟨w.heap.size,0,none⟩=some (.int .i64 z):=Qc hW
 have c01:∀ W',Bw W W'→W'.cell? ⟨w.heap.size,1,none⟩=some (.int .i64 x):=Qc hW
 have c02:∀ W',Bw W W'→W'.cell? ⟨w.heap.size,2,none⟩=some (.int .i64 y):=Qc hW
 have c03:∀ W',Bw W W'→W'.cell? ⟨w.heap.size,3,none⟩=some (.int .i64 wd):=Qc hW
 have c04:∀ W',Bw W W'→W'.cell? ⟨w.heap.size,4,none⟩=some (.int .i64 ht):=Qc hW
 have c10:∀ W',Bw W W'→W'.cell? ⟨w.heap.size+1,0,none⟩=some (.int .i64 rz):=Qc hW
 have c11:∀ W',Bw W W'→W'.cell? ⟨w.heap.size+1,1,none⟩=some (.int .i64 rx):=Qc hW
 have c12:∀ W',Bw W W'→W'.cell? ⟨w.heap.size+1,2,none⟩=some (.int .i64 ry):=Qc hW
 clear hW
 have hr:Bw W W:=Below.refl _ _
 go_region_held3 (fun W'=>Bw W W') ((repeat (first|exact Qr _ _|assumption|refine Qd ?_|refine Qa ?_ _|refine Qt ?_|refine Qs ?_ _|refine Qo ?_ ?_ _ _)))
  (first
   | (go_at_call 131;refine (sV _).mono ?_;rintro e w1 ⟨a,cap,rfl,hI,hb⟩;have HI:Hid (zHr w1 a m R):=hI;clear hI)
   | (go_at_call 169;refine (HC.out _ _ _ HI.out).mono ?_;rintro e w2 ⟨rfl,hb⟩)
   | fail)
 go_wp2
 go_ret
 exact ⟨rfl,zA HB0.out (by assumption)⟩
def zEn (n:Nat)(E:Nat→Req)(z x y now:Int):Int:=or3 (zO n E) (zFg now) (zCy z x y)
theorem zDw {n:Nat}{E:Nat→Req}{z x y now:Int}(h:zEn n E z x y now=0):zO n E=0∧zFg now=0∧zCy z x y=0:=by
 unfold zEn or3 at h
 by_cases h1:zO n E=0
 ·rw [if_pos h1] at h
  by_cases h2:zFg now=0
  ·rw [if_pos h2] at h
   exact ⟨h1,h2,h⟩
  ·rw [if_neg h2] at h
   exact absurd h h2
 ·rw [if_neg h1] at h
  exact absurd h h1
theorem zDu {n:Nat}{E:Nat→Req}(h:zO n E=0):n≤8:=by
 unfold zO at h
 by_cases h8:8<n
 ·rw [if_pos h8] at h;cases h
 ·omega
def zFc (n:Nat)(E:Nat→Req)(z x y now:Int):Int:=if zEn n E z x y now=0 then (if 0≤atW n E z x y then 0 else if 8≤n then 7 else 0) else zEn n E z x y now
def zAa (n:Nat)(E:Nat→Req)(z x y now:Int):List Req:=if zEn n E z x y now=0 then (if 0≤atW n E z x y then zV n E else if 8≤n then [] else zV n E ++ [⟨z,x,y,now+3,1⟩]) else []
def zAv (n:Nat)(E:Nat→Req)(z x y now:Int):List Req:=if zEn n E z x y now=0 then (if 0≤atW n E z x y then [] else if 8≤n then [] else [⟨z,x,y,now+3,1⟩]) else []
theorem zPi {n:Nat}{E:Nat→Req}{z x y now:Int}(h:zEn n E z x y now≠0):zFc n E z x y now=zEn n E z x y now∧zAa n E z x y now=[]∧zAv n E z x y now=[]:=by
 unfold zFc zAa zAv
 rw [if_neg h,if_neg h,if_neg h]
 exact ⟨rfl,rfl,rfl⟩
theorem zNn {n:Nat}{E:Nat→Req}{z x y now:Int}(h:zEn n E z x y now=0)(h2:0≤atW n E z x y):zFc n E z x y now=0∧zAa n E z x y now=zV n E∧zAv n E z x y now=[]:=by
 unfold zFc zAa zAv
 rw [if_pos h,if_pos h,if_pos h,if_pos h2,if_pos h2,if_pos h2]
 exact ⟨rfl,rfl,rfl⟩
theorem zQj {n:Nat}{E:Nat→Req}{z x y now:Int}(h:zEn n E z x y now=0)(h2:¬ 0≤atW n E z x y)(h3:8≤n):zFc n E z x y now=7∧zAa n E z x y now=[]∧zAv n E z x y now=[]:=by
 unfold zFc zAa zAv
 rw [if_pos h,if_pos h,if_pos h,if_neg h2,if_neg h2,if_neg h2,if_pos h3,if_pos h3,if_pos h3]
 exact ⟨rfl,rfl,rfl⟩
theorem zUz {n:Nat}{E:Nat→Req}{z x y now:Int}(h:zEn n E z x y now=0)(h2:¬ 0≤atW n E z x y)(h3:¬ 8≤n):zFc n E z x y now=0∧zAa n E z x y now=zV n E ++ [⟨z,x,y,now+3,1⟩]∧zAv n E z x y now=[⟨z,x,y,now+3,1⟩]:=by
 unfold zFc zAa zAv
 rw [if_pos h,if_pos h,if_pos h,if_neg h2,if_neg h2,if_neg h2,if_neg h3,if_neg h3,if_neg h3]
 exact ⟨rfl,rfl,rfl⟩
theorem zTi (ts:Array TypeId)(t:TypeId)(a b:Int)(w:World):(Builtin.min_ ts t #[.int .i64 a,.int .i64 b]).run Tryz.prog w=.ok (.int .i64 (min a b)) w:=by
 simp only [Builtin.min_,Builtin.min2,List.foldlM]
 by_cases h:b<a
 ·have e:min a b=b:=by omega
  simp [h,e]
 ·have e:min a b=a:=by omega
  simp [h,e]
theorem zOb (V:World)(a b c:Value)(t:TypeId):zC (V.alloc (.cells #[a,b,c] t)) V.heap.size 3:=zCt V a b c t
theorem zBq {W:World}{r:Nat}{a b c:Value}(hT:zC W r 3) :
  (((W.setCell ⟨r,0,none⟩ a).setCell ⟨r,1,none⟩ b).setCell ⟨r,2,none⟩ c).cell? ⟨r,0,none⟩=some a ∧
  (((W.setCell ⟨r,0,none⟩ a).setCell ⟨r,1,none⟩ b).setCell ⟨r,2,none⟩ c).cell? ⟨r,1,none⟩=some b ∧
  (((W.setCell ⟨r,0,none⟩ a).setCell ⟨r,1,none⟩ b).setCell ⟨r,2,none⟩ c).cell? ⟨r,2,none⟩=some c:=by
 obtain ⟨x0,h0⟩:=(hT 0 (by omega)).1
 obtain ⟨x1,h1⟩:=(hT 1 (by omega)).1
 obtain ⟨x2,h2⟩:=(hT 2 (by omega)).1
 have ne:∀ i j:Nat,i≠j→(⟨r,i,none⟩:Addr)≠⟨r,j,none⟩:=fun i j hij h=>hij (by injection h)
 refine ⟨?_,?_,?_⟩
 ·rw [zB (ne 2 0 (by omega)),zB (ne 1 0 (by omega))];exact zE h0
 ·rw [zB (ne 2 1 (by omega))];exact zE (by rw [zB (ne 0 1 (by omega))];exact h1)
 ·exact zE (by rw [zB (ne 1 2 (by omega)),zB (ne 0 2 (by omega))];exact h2)
theorem zGs (w:World)(cs:Array Value)(t:TypeId):∀ j u,cs.toList[j]?=some u→(w.alloc (.cells cs t)).cell? ((⟨w.heap.size,0,none⟩:Addr).add j)=some u:=fun j u h=>by
 have h1:(w.alloc (.cells cs t)).cell? ⟨w.heap.size,j,none⟩=some u:=by
  rw [World.cell?_alloc_at _ _ _ _ rfl]
  simpa using h
 by_cases hj:j=0
 ·subst hj;simpa [Addr.add] using h1
 ·simpa [Addr.add,hj] using h1
theorem zAh {base:Nat}(w:World)(e:Req)(hb:base≤w.heap.size):yP base (w.alloc (.cells #[.int .i64 e.z,.int .i64 e.x,.int .i64 e.y] 104)) (.slice (some ⟨w.heap.size,0,none⟩) 1 1) [e] :=
 World.ownsRow_lit (base:=base) (size:=3) w #[.int .i64 e.z,.int .i64 e.x,.int .i64 e.y] 1 hb (by unfold maxLen;omega) rfl
theorem yO (e:Req):∀ u ∈ xC e,u.oneCell'=true:=fun u hu=>zBi [e] u (by rw [xB];exact hu)
theorem yK.slice {base:Nat}{w:World}{v:Value}{l:List Req}(h:yK base w v l):∃ a c,v=.slice a l.length c:=by
 obtain ⟨a,c,hv,_⟩:=h.own
 exact ⟨a,c,hv⟩
theorem yK.block {base:Nat}{w:World}{v:Value}{l:List Req}(h:yK base w v l):∀ s,v.ownBlock=some s→base≤s:=fun s hs=>by
 obtain ⟨_,h2 | ⟨g,cp,cur,hv,hg,_⟩⟩:=h
 ·rw [h2.1] at hs;cases hs
 ·rw [hv] at hs
  simp [Value.ownBlock] at hs
  omega
theorem yK.set3 {base B r:Nat}{w:World}{v a b c:Value}{l:List Req}(h:yK B w v l)(hr:r<B)(hB:base≤B):yK base (((w.setCell ⟨r,0,none⟩ a).setCell ⟨r,1,none⟩ b).setCell ⟨r,2,none⟩ c) v l :=
 zS (zP (zP (zP h hr) hr) hr) hB
theorem yP.set3 {base B r:Nat}{w:World}{v a b c:Value}{l:List Req}(h:yP B w v l)(hr:r<B)(hB:base≤B):yP base (((w.setCell ⟨r,0,none⟩ a).setCell ⟨r,1,none⟩ b).setCell ⟨r,2,none⟩ c) v l :=
 zS (zP (zP (zP h hr) hr) hr) hB
theorem zQ6 (e:Req)(now:Int)(w:World)(hn:0≤now∧now≤9000)(ht:0≤e.tr∧e.tr≤99):Calls Tryz.prog 174 #[zLj e,.int .i64 now] w fun r w'=>r=.returned (zLj ⟨e.z,e.x,e.y,now+3,min (e.tr+1) 99⟩)∧Bw w w':=by
 obtain ⟨n0,n1⟩:=hn
 obtain ⟨t0,t1⟩:=ht
 have hmin:=zTi
 go_enter Tryz.func174,Tryz.ntmps174
 go_wp2
 exact bodyPost_ret (v:=zLj ⟨e.z,e.x,e.y,now+3,min (e.tr+1) 99⟩) (by simp [results,Tryz.results174,go_sem]) rfl ⟨rfl,Qb⟩
theorem zPx {T:Array Value}{Wf:World}{r:Nat}{c:Int}{v1 v2:Value}(hT:T[6]?.getD undef=.pointer (some ⟨r,0,none⟩))(h0:Wf.cell? ⟨r,0,none⟩=some (.int .i64 c))(h1:Wf.cell? ⟨r,1,none⟩=some v1)(h2:Wf.cell? ⟨r,2,none⟩=some v2) :
  (results Tryz.f133 T).run Tryz.prog Wf=.ok (rqV c v1 v2) Wf:=by
 simp [results,Tryz.results133,go_sem,hT,h0,h1,h2]
theorem zFo (a:Option Addr)(n cap:Nat)(E:Nat→Req)(z x y now:Int)(w:World)(hp:xS w a n E)(hn:n≤1048576)(hcap:n≤cap) :
  Calls Tryz.prog 133 #[.slice a n cap,vN z x y,.int .i64 now] w fun e w'=>∃ v1 v2,e=.returned (rqV (zFc n E z x y now) v1 v2)∧yP w.heap.size w' v1 (zAv n E z x y now)∧yK w.heap.size w' v2 (zAa n E z x y now)∧Bw w w':=by
 obtain ⟨i0,hi,hz0,hz1,hz2⟩:=info_parts zBg
 have HP:Hid (xS w a n E):=hp
 have HT:Hid (∀ W,Calls Tryz.prog 121 #[.int .i64 now] W fun e w'=>e=.returned (.int .i64 (zFg now))∧Bw W w'):=fun W=>zDl now W
 have HR:Hid (∀ W,Calls Tryz.prog 166 #[vN z x y] W fun e w'=>e=.returned (.int .i64 (zCy z x y))∧Bw W w'):=fun W=>zAf z x y W
 have HF0:Hid (∀ W,Bw w W→Calls Tryz.prog 73 #[.slice a n cap] W fun e w'=>e=.returned (.int .i64 (zO n E))∧Bw W w'):=fun W h=>xJ a n cap E W (hp.below h) hn hcap
 have HI:Hid (∀ W,Bw w W→Calls Tryz.prog 126 #[.slice a n cap,vN z x y] W fun e w'=>e=.returned (.int .i64 (atW n E z x y))∧Bw W w'):=fun W h=>zDt a n cap E z x y W (hp.below h) hn
 have HC:Hid (∀ W,Bw w W→Calls Tryz.prog 173 #[.slice a n cap] W fun e w'=>∃ v,e=.returned v∧yK W.heap.size w' v (zV n E)∧Bw W w'):=fun W h=>zEz a n cap E W (hp.below h) hn
 have HPC:Hid (zEn n E z x y now=or3 (zO n E) (zFg now) (zCy z x y)):=rfl
 have HLE:Hid (zEn n E z x y now=0→(0≤now∧now≤9000)∧n≤8):=fun h=>⟨zS2 (zDw h).2.1,zDu (zDw h).1⟩
 clear hp
 generalize zO n E=k1 at *
 generalize zFg now=k2 at *
 generalize zCy z x y=k3 at *
 go_enter Tryz.func133,Tryz.ntmps133
 go_wp2_with fail
 generalize hW:((w.alloc _).alloc _:World)=W
 have HB0:Hid (Bw w W):=by show Below _ _ _;subst hW;exact Qb
 have HSZ:Hid (w.heap.size+1<W.heap.size):=by show _<_;subst hW;simp
 have c0:∀ W',Bw W W'→W'.cell? ⟨w.heap.size,0,none⟩=some (.int .i64 z):=fun W' h=>by rw [h.cell (by subst hW;simp;omega)];subst hW;simp [go_sem]
 have c1:∀ W',Bw W W'→W'.cell? ⟨w.heap.size,1,none⟩=some (.int .i64 x):=fun W' h=>by rw [h.cell (by subst hW;simp;omega)];subst hW;simp [go_sem]
 have c2:∀ W',Bw W W'→W'.cell? ⟨w.heap.size,2,none⟩=some (.int .i64 y):=fun W' h=>by rw [h.cell (by subst hW;simp;omega)];subst hW;simp [go_sem]
 have HTH:Hid (zC W (w.heap.size+1) 3):=by
  show zC _ _ _
  subst hW
  have:=zOb (w.alloc (.cells #[.int .i64 z,.int .i64 x,.int .i64 y] 104)) (.int .i64 0) (.slice none 0 0) (.slice none 0 0) 165
  simpa using this
 clear hW
 have HF:Hid (∀ W',Bw W W'→Calls Tryz.prog 73 #[.slice a n cap] W' fun e w'=>e=.returned (.int .i64 k1)∧Below W'.heap.size W' w'):=fun W' h=>HF0.out W' (zA HB0.out h)
 refine wp_region_noPanic ?_
 refine wp_region_held_drew (S:=fun W'=>Bw W W') (by kernel_rfl) (by exact Qb) (fun hHeld=>?_)
 have hX0:Bw W W.drew:=hHeld
 refine zF (i:=0) (d:=some 9) rfl rfl ?_
 try simp only [Act.put,Qx,Qy,Qz]
 refine zF (i:=2) (d:=some 11) rfl rfl ?_
 try simp only [Act.put,Qx,Qy,Qz]
 refine zF (i:=4) (d:=some 13) rfl rfl ?_
 try simp only [Act.put,Qx,Qy,Qz]
 refine zN 1 fun K hK=>?_
 go_simp
 refine Calls.mono (HF.out _ hX0) ?_
 rintro e wo1 ⟨rfl,hbo1⟩
 have hX1:Bw W wo1:=zA hX0 hbo1
 go_wp2_with fail
 refine hK.out _ _ hX1 (fun hHeld=>?_)
 clear hK K
 try simp only [Act.put,Qx,Qy,Qz]
 refine zN 3 fun K hK=>?_
 go_simp
 refine Calls.mono (HT.out _) ?_
 rintro e wo2 ⟨rfl,hbo2⟩
 have hX2:Bw W wo2:=zA hX1 hbo2
 go_wp2_with fail
 refine hK.out _ _ hX2 (fun hHeld=>?_)
 clear hK K
 try simp only [Act.put,Qx,Qy,Qz]
 refine zN 5 fun K hK=>?_
 go_simp
 refine Calls.mono (HR.out _) ?_
 rintro e wo3 ⟨rfl,hbo3⟩
 have hX3:Bw W wo3:=zA hX2 hbo3
 go_wp2_with fail
 refine hK.out _ _ hX3 (fun hHeld=>?_)
 clear hK K
 try simp only [Act.put,Qx,Qy,Qz]
 refine zN 6 fun K hK=>?_
 go_simp
 generalize hw4:(World.alloc _ _:World)=wo4
 have hb4:Bw wo3 wo4:=by subst hw4;exact Qb
 have g0:wo4.cell? ⟨wo3.heap.size,0,none⟩=some (.int .i64 k1):=by subst hw4;simp [go_sem]
 have g1:wo4.cell? ⟨wo3.heap.size,1,none⟩=some (.int .i64 k2):=by subst hw4;simp [go_sem]
 have g2:wo4.cell? ⟨wo3.heap.size,2,none⟩=some (.int .i64 k3):=by subst hw4;simp [go_sem]
 have hX4:Bw W wo4:=zA hX3 hb4
 clear hw4
 refine hK.out _ _ hX4 (fun hHeld=>?_)
 clear hK K hb4
 try simp only [Act.put,Qx,Qy,Qz]
 refine zN 7 fun K hK=>?_
 go_simp
 refine (zJh _ _ k1 k2 k3 _ g0 g1 g2).mono ?_
 rintro e w5 ⟨rfl,rfl⟩
 go_wp2_with fail
 refine hK.out _ _ hX4 (fun hHeld=>?_)
 clear hK K g0 g1 g2
 try simp only [Act.put,Qx,Qy,Qz]
 refine zF (i:=8) (d:=some 7) rfl rfl ?_
 try simp only [Act.put,Qx,Qy,Qz]
 refine wpAnyH_done (by kernel_rfl) ?_ _
 refine NoPanic.normal ?_
 simp only [Exit.then]
 refine (by assumption:∀ (a:Act) (w:World),_→_) _ _ ?_
 have hB5:Bw W w5:=hX4
 have hT5:=HTH.out.below hB5
 have HSZ5:Hid (w.heap.size+1<w5.heap.size):=by have:=hB5.size;have:=HSZ.out;show _<_;omega
 have HBS:Hid (W.heap.size≤w5.heap.size):=hB5.size
 rw [← HPC.out]
 clear hX0 hX1 hX2 hX3 hX4 hHeld hbo1 hbo2 hbo3 HF HF0 HT HR
 by_cases hp0:zEn n E z x y now=0
 ·rw [hp0]
  obtain ⟨⟨n0,n1⟩,hn8⟩:=HLE.out hp0
  have HP0:Hid (zEn n E z x y now=0):=hp0
  clear hp0 hT5
  go_wp2_with fail
  refine (HC.out _ (zA HB0.out hB5)).mono ?_
  rintro e w6 ⟨v,rfl,hrow,hb6⟩
  obtain ⟨va,vc,hv⟩:=hrow.slice
  rw [yN] at hv
  subst hv
  have hB6:Bw W w6:=zA hB5 hb6
  have HRW:Hid (yK w5.heap.size w6 (.slice va n vc) (zV n E)):=hrow
  have HS6:Hid (w5.heap.size≤w6.heap.size):=hb6.size
  have m0:=c0 w6 hB6
  have m1:=c1 w6 hB6
  have m2:=c2 w6 hB6
  clear hb6 hrow hB5
  go_wp2_with fail
  refine (HI.out _ (zA HB0.out hB6)).mono ?_
  rintro e w7 ⟨rfl,hb7⟩
  have hB7:Bw W w7:=zA hB6 hb7
  have HRW7:Hid (yK w5.heap.size w7 (.slice va n vc) (zV n E)):=HRW.out.below hb7
  have hT7:=HTH.out.below hB7
  have hs7:w5.heap.size≤w7.heap.size:=Nat.le_trans HS6.out hb7.size
  have k0:=c0 w7 hB7
  have k1':=c1 w7 hB7
  have k2':=c2 w7 hB7
  have t0:=hT7.cell 0 (by omega)
  have t1:=hT7.cell 1 (by omega)
  have t2:=hT7.cell 2 (by omega)
  have f0:=(hT7 0 (by omega)).2
  have f1:=(hT7 1 (by omega)).2
  have f2:=(hT7 2 (by omega)).2
  have HT7:Hid (zC w7 (w.heap.size+1) 3):=hT7
  clear hT7 hb7 HRW HI HC m0 m1 m2
  by_cases hat:0≤atW n E z x y
  ·obtain ⟨ha,hl,hs⟩:=zNn HP0.out hat
   have HA:Hid (zFc n E z x y now=0):=ha
   have HL:Hid (zAa n E z x y now=zV n E):=hl
   have HS:Hid (zAv n E z x y now=[]):=hs
   clear ha hl hs
   generalize atW n E z x y=q at *
   go_wp2_with fail
   obtain ⟨q0,q1,q2⟩:=zBq (a:=.int .i64 0) (b:=.slice none 0 0) (c:=.slice va n vc) HT7.out
   refine bodyPost_ret (zPx rfl q0 q1 q2) rfl ⟨_,_,by rw [HA.out],by rw [HS.out];exact yP.no _ _,by rw [HL.out];exact HRW7.out.set3 HSZ5.out (by have:=HSZ5.out;omega),?_⟩
   exact (((zA HB0.out hB7).setCell (Nat.le_succ _) _).setCell (Nat.le_succ _) _).setCell (Nat.le_succ _) _
  ·by_cases h8:8≤n
   ·obtain ⟨ha,hl,hs⟩:=zQj HP0.out hat h8
    have HA:Hid (zFc n E z x y now=7):=ha
    have HL:Hid (zAa n E z x y now=[]):=hl
    have HS:Hid (zAv n E z x y now=[]):=hs
    obtain rfl:n=8:=by omega
    clear ha hl hs
    generalize atW 8 E z x y=q at *
    go_wp2_with fail
    obtain ⟨q0,q1,q2⟩:=zBq (a:=.int .i64 7) (b:=.slice none 0 0) (c:=.slice none 0 0) HT7.out
    refine bodyPost_ret (zPx rfl q0 q1 q2) rfl ⟨_,_,by rw [HA.out],by rw [HS.out];exact yP.no _ _,by rw [HL.out];exact yK.no _ _,?_⟩
    exact (((zA HB0.out hB7).setCell (Nat.le_succ _) _).setCell (Nat.le_succ _) _).setCell (Nat.le_succ _) _
   ·obtain ⟨ha,hl,hs⟩:=zUz HP0.out hat h8
    have HA:Hid (zFc n E z x y now=0):=ha
    have HL:Hid (zAa n E z x y now=zV n E ++ [⟨z,x,y,now+3,1⟩]):=hl
    have HS:Hid (zAv n E z x y now=[⟨z,x,y,now+3,1⟩]):=hs
    have HLEN:Hid ((zV n E).length=n):=yN n E
    have hn8':((n:Int) == 8)=false:=by simp;omega
    clear ha hl hs t0 t1 t2 f0 f1 f2
    generalize atW n E z x y=q at *
    go_wp2_with fail
    refine (zQ6 ⟨z,x,y,0,0⟩ now _ ⟨n0,n1⟩ ⟨by simp,by simp⟩).mono ?_
    rintro e w8 ⟨rfl,hb8⟩
    have hB8:Bw W w8:=zA hB7 hb8
    have HR8:Hid (yK w5.heap.size w8 (.slice va n vc) (zV n E)):=HRW7.out.below hb8
    have hs8:w5.heap.size≤w8.heap.size:=Nat.le_trans hs7 hb8.size
    clear hb8 k0 k1' k2' HRW7 HT7
    have hm1:min ((0:Int)+1) 99=1:=by decide
    dsimp only
    simp only [hm1]
    go_wp2_with (first
     | (at_builtin;go_must (refine wpList_append_own _ rfl _ _ 36 rfl w5.heap.size 106 i0 (.agg #[.int .i64 0,.int .i64 0,.int .i64 0,.int .i64 0,.int .i64 0]) 5 40 Tryz.underlying36 hi hz0 hz1 hz2 rfl (by decide) (.slice va n vc) n (yH (zV n E)) rfl ?r0 ⟨w8.heap.size,0,none⟩ 1 1 (xC ⟨z,x,y,now+3,1⟩) rfl rfl ?r1 ?r2 ?r3 ?r4 ?r5 ?_)))
    case r0 =>
     have h:=HR8.out
     unfold yK at h
     rw [HLEN.out] at h
     exact World.ownsRow.alloc h _
    case r1=>exact zGs _ _ _
    case r2=>exact yO _
    case r3=>unfold maxLen;omega
    case r4=>omega
    case r5=>simp;omega
    intro v' w9 hown' hgrow hnil
    have HR9:yK w5.heap.size w9 v' (zV n E ++ [⟨z,x,y,now+3,1⟩]):=by
     unfold yK
     rw [xH,xB,List.length_append,HLEN.out]
     exact hown'
    have hB9:Bw W w9:=by
     refine (Below.alloc hB8 hB8.size _).trans (xI hgrow (fun s hs=>?_) (by have:=hB8.size;simp;omega))
     have:=HR8.out.block s hs
     have:=HBS.out
     omega
    have hs9:w5.heap.size≤w9.heap.size:=by have:=hgrow.size;simp at this;omega
    obtain ⟨va',vc',hv'⟩:=yK.slice HR9
    have hl1:(zV n E ++ [(⟨z,x,y,now+3,1⟩:Req)]).length=n+1:=by rw [List.length_append,yN];rfl
    rw [hl1] at hv'
    subst hv'
    have HR9':Hid (yK w5.heap.size w9 (.slice va' (n+1) vc') (zV n E ++ [⟨z,x,y,now+3,1⟩])):=HR9
    clear hl1
    have k0:=c0 w9 hB9
    have k1':=c1 w9 hB9
    have k2':=c2 w9 hB9
    have hT9:=HTH.out.below hB9
    have HT9:Hid (zC (w9.alloc (.cells #[.int .i64 z,.int .i64 x,.int .i64 y] 104)) (w.heap.size+1) 3):=hT9.below (by exact Qb)
    have t0:=HT9.out.cell 0 (by omega)
    have t1:=HT9.out.cell 1 (by omega)
    have t2:=HT9.out.cell 2 (by omega)
    have f0:=(HT9.out 0 (by omega)).2
    have f1:=(HT9.out 1 (by omega)).2
    have f2:=(HT9.out 2 (by omega)).2
    have HB9:Hid (Bw w (w9.alloc (.cells #[.int .i64 z,.int .i64 x,.int .i64 y] 104))):=by
     have h1:Bw w w9:=zA HB0.out hB9
     show Below _ _ _
     exact Qb
    clear hT9 hown' hgrow hnil HR9 HR8 hB8
    go_wp2_with fail
    obtain ⟨q0,q1,q2⟩:=zBq (a:=.int .i64 0) (b:=.slice (some ⟨w9.heap.size,0,none⟩) 1 1) (c:=.slice va' (n+1) vc') HT9.out
    refine bodyPost_ret (zPx rfl q0 q1 q2) rfl ⟨_,_,by rw [HA.out],?_,?_,?_⟩
    ·rw [HS.out];exact (zAh w9 ⟨z,x,y,now+3,1⟩ hs9).set3 HSZ5.out (by have:=HSZ5.out;omega)
    ·rw [HL.out];exact (HR9'.out.below (by exact Qb)).set3 HSZ5.out (by have:=HSZ5.out;omega)
    ·exact ((HB9.out.setCell (Nat.le_succ _) _).setCell (Nat.le_succ _) _).setCell (Nat.le_succ _) _
 ·have hpb:(zEn n E z x y now == 0)=false:=by simpa using hp0
  obtain ⟨ha,hl,hs⟩:=zPi hp0
  have HA:Hid (zFc n E z x y now=zEn n E z x y now):=ha
  have HL:Hid (zAa n E z x y now=[]):=hl
  have HS:Hid (zAv n E z x y now=[]):=hs
  have t0:=hT5.cell 0 (by omega)
  have t1:=hT5.cell 1 (by omega)
  have t2:=hT5.cell 2 (by omega)
  have f0:=(hT5 0 (by omega)).2
  have f1:=(hT5 1 (by omega)).2
  have f2:=(hT5 2 (by omega)).2
  clear hp0 ha hl hs
  have HT5:Hid (zC w5 (w.heap.size+1) 3):=hT5
  clear hT5
  go_wp2_with fail
  obtain ⟨q0,q1,q2⟩:=zBq (a:=.int .i64 (zEn n E z x y now)) (b:=.slice none 0 0) (c:=.slice none 0 0) HT5.out
  refine bodyPost_ret (zPx rfl q0 q1 q2) rfl ⟨_,_,by rw [HA.out],by rw [HS.out];exact yP.no _ _,by rw [HL.out];exact yK.no _ _,?_⟩
  exact (((zA HB0.out hB5).setCell (Nat.le_succ _) _).setCell (Nat.le_succ _) _).setCell (Nat.le_succ _) _
end Go.Proofs.YtkjbafcalamgnaaGreat
