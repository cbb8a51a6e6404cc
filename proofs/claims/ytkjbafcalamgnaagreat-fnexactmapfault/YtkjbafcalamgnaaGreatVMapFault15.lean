/- Texts. -/
import Derived.Test.YtkjbafcalamgnaaGreatVMapFault13
set_option linter.unusedSimpArgs false
set_option linter.unusedVariables false
set_option maxRecDepth 100000
set_option maxHeartbeats 32000000
namespace Go.Proofs.YtkjbafcalamgnaaGreat
open Go.RowKit
structure zS where
 id:Int
 la:Int
 ki:Int
 wi:Int
 a:Option Addr
 n:Nat
 cap:Nat
 X:Nat→Int
 Y:Nat→Int
 lab:ByteArray
 pr:Int
def vS (w:World)(b off n:Nat)(F:Nat→zS):Prop :=
 ∀ i,i<n→vU w b (off+i * 7) (F i).id (F i).la (F i).ki (F i).wi (.slice (F i).a (F i).n (F i).cap) (F i).lab (F i).pr∧xD w (F i).a (F i).n (F i).X (F i).Y
theorem vS.below {w w':World}{b off n:Nat}{F:Nat→zS}(h:vS w b off n F)(hb:Below w.heap.size w w')(hl:b<w.heap.size):vS w' b off n F:=fun i hi =>
 ⟨(h i hi).1.below hb hl,(h i hi).2.below hb⟩
def zDq (w:World)(a:Option Addr)(n:Nat)(F:Nat→zS):Prop:=n=0∨∃ b off,a=some ⟨b,off,none⟩∧b<w.heap.size∧vS w b off n F
theorem zDq.below {w w':World}{a:Option Addr}{n:Nat}{F:Nat→zS}(h:zDq w a n F)(hb:Below w.heap.size w w'):zDq w' a n F:=by
 rcases h with h | ⟨b,off,e,hl,hp⟩
 ·exact .inl h
 ·exact .inr ⟨b,off,e,Nat.lt_of_lt_of_le hl hb.size,hp.below hb hl⟩
def zS.same (f g:zS):Prop:=f.id=g.id∧f.la=g.la∧f.ki=g.ki∧f.wi=g.wi∧f.n=g.n∧f.X=g.X∧f.Y=g.Y∧f.lab=g.lab∧f.pr=g.pr
def yD (w:World)(B b n:Nat)(F G:Nat→zS):Prop :=
 B≤b∧b<w.heap.size∧vS w b 0 n G∧∀ i,i<n→(G i).same (F i)∧∃ q,(G i).a=some ⟨q,0,none⟩∧(G i).cap=(G i).n∧q≠b∧B≤q∧q<w.heap.size∧zI w q 0 (G i).n (G i).X (G i).Y
theorem yD.below {w w':World}{B b n:Nat}{F G:Nat→zS}(h:yD w B b n F G)(hb:Below w.heap.size w w'):yD w' B b n F G:=by
 obtain ⟨h1,h2,h3,h4⟩:=h
 refine ⟨h1,Nat.lt_of_lt_of_le h2 hb.size,h3.below hb h2,fun i hi=>?_⟩
 obtain ⟨e,q,e1,e2,e3,e4,e5,e6⟩:=h4 i hi
 exact ⟨e,q,e1,e2,e3,e4,Nat.lt_of_lt_of_le e5 hb.size,e6.below hb e5⟩
def zJn (W:World)(B o:Nat)(f:zS):World:=(((((((W.setCell ⟨B,o,none⟩ (.int .i64 f.id)).setCell ⟨B,o+1,none⟩ (.int .i64 f.la)).setCell ⟨B,o+2,none⟩ (.int .i64 f.ki)).setCell ⟨B,o+3,none⟩ (.int .i64 f.wi)).setCell ⟨B,o+4,none⟩ (.slice f.a f.n f.cap)).setCell ⟨B,o+5,none⟩ (.string f.lab)).setCell ⟨B,o+6,none⟩ (.int .i64 f.pr))
theorem zJl {W:World}{B o:Nat}{f:zS}{p:Addr}(h:p.block≠B∨p.off<o∨o+6<p.off):(zJn W B o f).cell? p=W.cell? p:=by
 have ne:∀ k:Nat,k≤6→(⟨B,o+k,none⟩:Addr)≠p:=fun k hk e=>by subst e;simp at h;omega
 have ne0:(⟨B,o,none⟩:Addr)≠p:=ne 0 (by omega)
 unfold zJn
 rw [zB (ne 6 (by omega)),zB (ne 5 (by omega)),zB (ne 4 (by omega)),zB (ne 3 (by omega)),zB (ne 2 (by omega)),zB (ne 1 (by omega)),zB ne0]
theorem zJk {W:World}{B o m:Nat}{f:zS}(h:zD W B m):zD (zJn W B o f) B m:=by
 unfold zJn
 exact ((((((h.set _ _).set _ _).set _ _).set _ _).set _ _).set _ _).set _ _
theorem lay7_at {W:World}{B o m:Nat}{f:zS}(h:zD W B m)(ho:o+6<m):vU (zJn W B o f) B o f.id f.la f.ki f.wi (.slice f.a f.n f.cap) f.lab f.pr:=by
 have ne:∀ i j:Nat,i≠j→(⟨B,i,none⟩:Addr)≠⟨B,j,none⟩:=fun i j hij h=>hij (by injection h)
 obtain ⟨u0,g0⟩:=(h (o) (by omega)).1
 obtain ⟨u1,g1⟩:=((h.set (o) (.int .i64 f.id)) (o+1) (by omega)).1
 obtain ⟨u2,g2⟩:=(((h.set (o) (.int .i64 f.id)).set (o+1) (.int .i64 f.la)) (o+2) (by omega)).1
 obtain ⟨u3,g3⟩:=((((h.set (o) (.int .i64 f.id)).set (o+1) (.int .i64 f.la)).set (o+2) (.int .i64 f.ki)) (o+3) (by omega)).1
 obtain ⟨u4,g4⟩:=(((((h.set (o) (.int .i64 f.id)).set (o+1) (.int .i64 f.la)).set (o+2) (.int .i64 f.ki)).set (o+3) (.int .i64 f.wi)) (o+4) (by omega)).1
 obtain ⟨u5,g5⟩:=((((((h.set (o) (.int .i64 f.id)).set (o+1) (.int .i64 f.la)).set (o+2) (.int .i64 f.ki)).set (o+3) (.int .i64 f.wi)).set (o+4) (.slice f.a f.n f.cap)) (o+5) (by omega)).1
 obtain ⟨u6,g6⟩:=(((((((h.set (o) (.int .i64 f.id)).set (o+1) (.int .i64 f.la)).set (o+2) (.int .i64 f.ki)).set (o+3) (.int .i64 f.wi)).set (o+4) (.slice f.a f.n f.cap)).set (o+5) (.string f.lab)) (o+6) (by omega)).1
 unfold zJn
 refine ⟨?_,?_,?_,?_,?_,?_,?_⟩
 ·rw [zB (ne _ _ (by omega)),zB (ne _ _ (by omega)),zB (ne _ _ (by omega)),zB (ne _ _ (by omega)),zB (ne _ _ (by omega)),zB (ne _ _ (by omega))];exact zG g0
 ·rw [zB (ne _ _ (by omega)),zB (ne _ _ (by omega)),zB (ne _ _ (by omega)),zB (ne _ _ (by omega)),zB (ne _ _ (by omega))];exact zG g1
 ·rw [zB (ne _ _ (by omega)),zB (ne _ _ (by omega)),zB (ne _ _ (by omega)),zB (ne _ _ (by omega))];exact zG g2
 ·rw [zB (ne _ _ (by omega)),zB (ne _ _ (by omega)),zB (ne _ _ (by omega))];exact zG g3
 ·rw [zB (ne _ _ (by omega)),zB (ne _ _ (by omega))];exact zG g4
 ·rw [zB (ne _ _ (by omega))];exact zG g5
 ·exact zG g6
theorem uF (W:World)(B o:Nat)(f:zS):(zJn W B o f).heap.size=W.heap.size:=by unfold zJn;simp
theorem zJm {V W:World}{n B o:Nat}{f:zS}(h:Below n V W)(hB:n≤B):Below n V (zJn W B o f):=by
 unfold zJn
 exact ((((((h.setCell hB _).setCell hB _).setCell hB _).setCell hB _).setCell hB _).setCell hB _).setCell hB _
theorem zI.lay {W:World}{b off n:Nat}{X Y:Nat→Int}(h:zI W b off n X Y){B o:Nat}{f:zS}(hne:B≠b):zI (zJn W B o f) b off n X Y:=by
 unfold zJn
 exact ((((((h.store hne).store hne).store hne).store hne).store hne).store hne).store hne
theorem info_if:(Tryz.prog.info? 138).map (fun i=>(i.zero,i.size,i.bytes))=some (some (.agg #[.int .i64 0,.int .i64 0,.int .i64 0,.int .i64 0,.slice none 0 0,.string ⟨#[]⟩,.int .i64 0]),7,80):=by kernel_rfl
abbrev zMl:Array Value:=#[.int .i64 0,.int .i64 0,.int .i64 0,.int .i64 0,.slice none 0 0,.string ⟨#[]⟩,.int .i64 0]
theorem zJi (n:Nat)(h:n≤1048576)(w:World) :
  (Instr.makeSlice 55 (.int .i64 (n:Int)) (.int .i64 (n:Int))).run Tryz.prog w=.ok (.slice (some ⟨w.heap.size,0,none⟩) n n) (w.alloc (.cells (madeCells zMl (n * 7)) 138)):=by
 obtain ⟨i,hi,hz,hs,hb⟩:=info_parts info_if
 have hr:=run_make (P:=Tryz.prog) w 55 138 i _ Tryz.underlying55 hi hz .i64 .i64 (n:Int) (n:Int) (by omega) (Int.le_refl _) (by rw [hb];omega) (by omega)
 simp only [Int.toNat_natCast,hs] at hr
 exact hr
theorem zGz (n:Nat)(w:World)(t:TypeId):zD (w.alloc (.cells (madeCells zMl n) t)) w.heap.size n:=fun o ho=>by
 have hz:=size_madeCells zMl n
 refine ⟨⟨(madeCells zMl n)[o]'(by rw [hz];exact ho),?_⟩,World.frozen?_alloc_at _ _ _ _ rfl⟩
 rw [World.cell?_alloc_at _ _ _ _ rfl]
 exact Array.getElem?_eq_getElem _
theorem own_lay {W:World}{B n k q:Nat}{F G:Nat→zS}(h:yD W B B k F G)(hT:zD W B (n * 7))(hk:k<n)(hqB:B≤q)(hq:q<W.heap.size)(hp:zI W q 0 (F k).n (F k).X (F k).Y)(hne:q≠B) :
  yD (zJn W B (k * 7) { F k with a:=some ⟨q,0,none⟩,cap:=(F k).n }) B B (k+1) F (fun i=>if i=k then { F k with a:=some ⟨q,0,none⟩,cap:=(F k).n } else G i):=by
 obtain ⟨h1,h2,h3,h4⟩:=h
 refine ⟨h1,by rw [uF];exact h2,fun i hi=>?_,fun i hi=>?_⟩
 ·by_cases e:i=k
  ·subst e
   simp only [if_pos,Nat.zero_add]
   refine ⟨lay7_at hT (by omega),.inr ⟨q,0,rfl,by rw [uF];exact hq,hp.lay (fun h=>hne h.symm)⟩⟩
  ·simp only [if_neg e]
   obtain ⟨c,ip⟩:=h3 i (by omega)
   obtain ⟨_,q',e1,e2,e3,e4,e5,e6⟩:=h4 i (by omega)
   refine ⟨?_,?_⟩
   ·obtain ⟨c0,c1,c2,c3,c4,c5,c6⟩:=c
    refine ⟨?_,?_,?_,?_,?_,?_,?_⟩ <;> (rw [zJl (by right;left;simp;omega)];assumption)
   ·exact .inr ⟨q',0,e1,by rw [uF];exact e5,e6.lay (fun h=>e3 h.symm)⟩
 ·by_cases e:i=k
  ·subst e
   simp only [if_pos]
   exact ⟨⟨rfl,rfl,rfl,rfl,rfl,rfl,rfl,rfl,rfl⟩,q,by first | rfl | trivial,by first | trivial | rfl,hne,hqB,by rw [uF];exact hq,hp.lay (fun h=>hne h.symm)⟩
  ·simp only [if_neg e]
   obtain ⟨sm,q',e1,e2,e3,e4,e5,e6⟩:=h4 i (by omega)
   exact ⟨sm,q',e1,e2,e3,e4,by rw [uF];exact e5,e6.lay (fun h=>e3 h.symm)⟩
theorem uO (a:Option Addr)(n cap:Nat)(F:Nat→zS)(w:World)(hp:zDq w a n F)(hmax:n≤1048576)(hall:∀ i,i<n→(F i).n≤1048576) :
  Calls Tryz.prog 52 #[.slice a n cap] w fun e w'=>∃ b G,e=.returned (.slice (some ⟨b,0,none⟩) n n)∧yD w' w.heap.size b n F G∧Bw w w':=by
 have hmk:=zJi n hmax
 have HP:Hid (zDq w a n F):=hp
 have HA:Hid (∀ i,i<n→(F i).n≤1048576):=hall
 clear hp hall
 go_enter Tryz.func52,Tryz.ntmps52
 go_wp2
 generalize hW:(w.alloc _:World)=W
 have HB0:Hid (Bw w W):=by show Below _ _ _;subst hW;exact Qb
 have HT0:Hid (zD W w.heap.size (n * 7)):=by show zD _ _ _;subst hW;exact zGz _ _ _
 have HL0:Hid (w.heap.size<W.heap.size):=by show _<_;subst hW;simp
 clear hW hmk
 go_loopw [4] (fun i wr=>∃ (k:Nat) (G:Nat→zS),k≤n∧i=.int .i64 k∧Bw w wr∧zD wr w.heap.size (n * 7)∧yD wr w.heap.size w.heap.size k F G) (fun i _=>n - (intOf i).toNat)
 case atStart=>exact ⟨0,F,by omega,rfl,HB0.out,HT0.out,Nat.le_refl _,HL0.out,fun i hi=>by omega,fun i hi=>by omega⟩
 case round =>
  obtain ⟨k,G,hk,rfl,hB,hT,hO⟩:=hrel
  by_cases hlt:k<n
  ·rcases HP.out with h0 | ⟨b,off,rfl,hbl,hpt⟩
   ·omega
   ·obtain ⟨⟨f0,f1,f2,f3,f4,f5,f6⟩,hIP⟩:=(hpt.below hB hbl) k hlt
    have HB:Hid (Bw w wr):=hB
    have HT:Hid (zD wr w.heap.size (n * 7)):=hT
    have HO:Hid (yD wr w.heap.size w.heap.size k F G):=hO
    have HIP:Hid (xD wr (F k).a (F k).n (F k).X (F k).Y):=hIP
    have hnk:=HA.out k hlt
    have hlw:w.heap.size<wr.heap.size:=hO.2.1
    clear hB hT hO hpt hIP
    have hi:(k:Int)<(n:Int):=by omega
    have hi0:(0:Int)≤(k:Int):=by omega
    go_wp2_with fail
    refine (zDt _ _ _ _ _ _ _ (F k).X (F k).Y _ _ _ HIP.out hnk).mono ?_
    rintro e w' ⟨q,rfl,hq1,hq2,hq3,hb⟩
    have hT':=HT.out.below hb
    have t0:=hT'.cell (k * 7) (by omega)
    have t1:=hT'.cell (k * 7+1) (by omega)
    have t2:=hT'.cell (k * 7+2) (by omega)
    have t3:=hT'.cell (k * 7+3) (by omega)
    have t4:=hT'.cell (k * 7+4) (by omega)
    have t5:=hT'.cell (k * 7+5) (by omega)
    have t6:=hT'.cell (k * 7+6) (by omega)
    have y0:=(hT' (k * 7) (by omega)).2
    have y1:=(hT' (k * 7+1) (by omega)).2
    have y2:=(hT' (k * 7+2) (by omega)).2
    have y3:=(hT' (k * 7+3) (by omega)).2
    have y4:=(hT' (k * 7+4) (by omega)).2
    have y5:=(hT' (k * 7+5) (by omega)).2
    have y6:=(hT' (k * 7+6) (by omega)).2
    have HT':Hid (zD w' w.heap.size (n * 7)):=hT'
    have HQ3:Hid (zI w' q 0 (F k).n (F k).X (F k).Y):=hq3
    have HBn:Hid (Bw wr w'):=hb
    clear hT' hq3 hb f0 f1 f2 f3 f4 f5 f6
    go_wp2
    go_roundw
    case rel =>
     refine ⟨k+1,fun i=>if i=k then { F k with a:=some ⟨q,0,none⟩,cap:=(F k).n } else G i,by omega,by go_num,?_,?_,?_⟩
     ·exact zJm (f:={ F k with a:=some ⟨q,0,none⟩,cap:=(F k).n }) (B:=w.heap.size) (o:=k * 7) (HB.out.trans (HBn.out.mono HB.out.size)) (Nat.le_refl _)
     ·exact zJk (f:={ F k with a:=some ⟨q,0,none⟩,cap:=(F k).n }) (B:=w.heap.size) (o:=k * 7) HT'.out
     ·exact own_lay (HO.out.below HBn.out) HT'.out (by omega) (by omega) hq2 HQ3.out (by omega)
    case measure=>simp [intOf];omega
  ·go_wp2
   go_ret
   have hkn:k=n:=by omega
   subst hkn
   exact ⟨_,G,rfl,hO,hB⟩

end Go.Proofs.YtkjbafcalamgnaaGreat
