/- Texts. -/
import Derived.Test.YtkjbafcalamgnaaGreatVMapFault17
set_option linter.unusedSimpArgs false
set_option linter.unusedVariables false
set_option maxRecDepth 100000
set_option maxHeartbeats 32000000
namespace Go.Proofs.YtkjbafcalamgnaaGreat
open Go.RowKit
structure Kp where
 z:Int
 x:Int
 y:Int
 fa:Option Addr
 fn:Nat
 fc:Nat
 F:Nat→zS
 ia:Option Addr
 m:Nat
 ic:Nat
 I:Nat→Int
abbrev kpV (k:Kp):Value:=.agg #[.int .i64 k.z,.int .i64 k.x,.int .i64 k.y,.slice k.fa k.fn k.fc,.slice k.ia k.m k.ic]
def zMf (w:World)(p o:Nat)(k:Kp):Prop:=w.cell? ⟨p,o,none⟩=some (.int .i64 k.z)∧w.cell? ⟨p,o+1,none⟩=some (.int .i64 k.x)∧w.cell? ⟨p,o+2,none⟩=some (.int .i64 k.y)∧w.cell? ⟨p,o+3,none⟩=some (.slice k.fa k.fn k.fc)∧w.cell? ⟨p,o+4,none⟩=some (.slice k.ia k.m k.ic)
theorem zMf.below {w w':World}{p o B:Nat}{k:Kp}(h:zMf w p o k)(hb:Below B w w')(hp:p<B):zMf w' p o k:=by
 obtain ⟨h0,h1,h2,h3,h4⟩:=h
 exact ⟨(hb.cell (p:=⟨p,o,none⟩) hp).trans h0,(hb.cell (p:=⟨p,o+1,none⟩) hp).trans h1,(hb.cell (p:=⟨p,o+2,none⟩) hp).trans h2,(hb.cell (p:=⟨p,o+3,none⟩) hp).trans h3,(hb.cell (p:=⟨p,o+4,none⟩) hp).trans h4⟩
def zKd (w:World)(k:Kp):Prop:=zDq w k.fa k.fn k.F∧zAv w k.ia k.m k.I
theorem zKd.below {w w':World}{k:Kp}(h:zKd w k)(hb:Below w.heap.size w w'):zKd w' k:=⟨h.1.below hb,h.2.below hb⟩
def KsAt (w:World)(b off n:Nat)(K:Nat→Kp):Prop:=∀ i,i<n→zMf w b (off+i * 5) (K i)∧zKd w (K i)
theorem KsAt.below {w w':World}{b off n:Nat}{K:Nat→Kp}(h:KsAt w b off n K)(hb:Below w.heap.size w w')(hl:b<w.heap.size):KsAt w' b off n K:=fun i hi=>⟨(h i hi).1.below hb hl,(h i hi).2.below hb⟩
def zBc (w:World)(a:Option Addr)(n:Nat)(K:Nat→Kp):Prop:=n=0∨∃ b off,a=some ⟨b,off,none⟩∧b<w.heap.size∧KsAt w b off n K
theorem zBc.below {w w':World}{a:Option Addr}{n:Nat}{K:Nat→Kp}(h:zBc w a n K)(hb:Below w.heap.size w w'):zBc w' a n K:=by
 rcases h with h | ⟨b,off,e,hl,hp⟩
 ·exact .inl h
 ·exact .inr ⟨b,off,e,Nat.lt_of_lt_of_le hl hb.size,hp.below hb hl⟩
def vL (k:Kp):Prop:=zU k.fn k.F∧k.m≤1048576
def zM (n:Nat)(K:Nat→Kp):Prop:=n≤1048576∧∀ i,i<n→vL (K i)
def zKe (k:Kp):Prop:=uT k.fn k.F∧k.m≤maxLen
def vV (n:Nat)(K:Nat→Kp):Prop:=n≤maxLen∧∀ i,i<n→zKe (K i)
def xT (w:World)(B:Nat)(k a:Kp):Prop :=
 (a.z=k.z∧a.x=k.x∧a.y=k.y)∧(∃ fb,a.fa=some ⟨fb,0,none⟩∧a.fn=k.fn∧a.fc=k.fn∧yD w B fb k.fn k.F a.F) ∧
 ∃ ib,a.ia=some ⟨ib,0,none⟩∧a.m=k.m∧a.ic=k.m∧a.I=k.I∧B≤ib∧ib<w.heap.size∧zKc w ib 0 k.m k.I
theorem xT.below {w w':World}{B:Nat}{k a:Kp}(h:xT w B k a)(hb:Below w.heap.size w w'):xT w' B k a:=by
 obtain ⟨h1,⟨fb,e1,e2,e3,h2⟩,ib,e4,e5,e6,e7,h3,h4,h5⟩:=h
 exact ⟨h1,⟨fb,e1,e2,e3,h2.below hb⟩,ib,e4,e5,e6,e7,h3,Nat.lt_of_lt_of_le h4 hb.size,h5.below hb h4⟩
theorem xT.mid {w w':World}{B C lo hi:Nat}{k a:Kp}(h:xT w B k a)(hM:vC lo hi w w')(hh:hi≤B)(hC:C≤B):xT w' C k a:=by
 obtain ⟨h1,⟨fb,e1,e2,e3,h2⟩,ib,e4,e5,e6,e7,h3,h4,h5⟩:=h
 exact ⟨h1,⟨fb,e1,e2,e3,h2.midB hM hh hC⟩,ib,e4,e5,e6,e7,by omega,Nat.lt_of_lt_of_le h4 hM.size,fun i hi=>hM.cell (h5 i hi) (.inr (by omega))⟩
theorem xT.is {w:World}{B:Nat}{k a:Kp}(h:xT w B k a):zKd w a:=by
 obtain ⟨_,⟨fb,e1,e2,e3,h2⟩,ib,e4,e5,e6,e7,h3,h4,h5⟩:=h
 refine ⟨.inr ⟨fb,0,e1,h2.2.1,?_⟩,.inr ⟨ib,0,e4,h4,?_⟩⟩
 ·rw [e2];exact h2.2.2.1
 ·rw [e5,e7];exact h5
def yA (w:World)(B b n:Nat)(K A:Nat→Kp):Prop:=b<B∧b<w.heap.size∧∀ i,i<n→zMf w b (i * 5) (A i)∧xT w B (K i) (A i)
theorem yA.below {w w':World}{B b n:Nat}{K A:Nat→Kp}(h:yA w B b n K A)(hb:Below w.heap.size w w'):yA w' B b n K A :=
 ⟨h.1,Nat.lt_of_lt_of_le h.2.1 hb.size,fun i hi=>⟨(h.2.2 i hi).1.below hb h.2.1,(h.2.2 i hi).2.below hb⟩⟩
def zD6 (W:World)(B o:Nat)(k:Kp):World:=(((((W.setCell ⟨B,o,none⟩ (.int .i64 k.z)).setCell ⟨B,o+1,none⟩ (.int .i64 k.x)).setCell ⟨B,o+2,none⟩ (.int .i64 k.y)).setCell ⟨B,o+3,none⟩ (.slice k.fa k.fn k.fc)).setCell ⟨B,o+4,none⟩ (.slice k.ia k.m k.ic))
theorem zM7 (W:World)(B o:Nat)(k:Kp):vC B (B+1) W (zD6 W B o k) :=
 (((((vC.refl B (B+1) W).set (Nat.le_refl _) (Nat.lt_succ_self _) _ _).set (Nat.le_refl _) (Nat.lt_succ_self _) _ _).set (Nat.le_refl _) (Nat.lt_succ_self _) _ _).set (Nat.le_refl _) (Nat.lt_succ_self _) _ _).set (Nat.le_refl _) (Nat.lt_succ_self _) _ _
theorem zJj {W:World}{B o m:Nat}{k:Kp}(h:zD W B m):zD (zD6 W B o k) B m:=by
 unfold zD6
 exact (((((h.set _ _).set _ _).set _ _).set _ _).set _ _)
theorem zLi (W:World)(B o:Nat)(k:Kp):(zD6 W B o k).heap.size=W.heap.size:=by unfold zD6;simp
theorem vG {W:World}{B o:Nat}{k:Kp}{p:Addr}(h:p.block≠B∨p.off<o∨o+4<p.off):(zD6 W B o k).cell? p=W.cell? p:=by
 have ne:∀ k:Nat,k≤4→(⟨B,o+k,none⟩:Addr)≠p:=fun k hk e=>by subst e;simp at h;omega
 have ne0:(⟨B,o,none⟩:Addr)≠p:=ne 0 (by omega)
 unfold zD6
 rw [zB (ne 4 (by omega)),zB (ne 3 (by omega)),zB (ne 2 (by omega)),zB (ne 1 (by omega)),zB ne0]
theorem zLj {W:World}{B o m:Nat}{k:Kp}(h:zD W B m)(ho:o+4<m):zMf (zD6 W B o k) B o k:=by
 have ne:∀ i j:Nat,i≠j→(⟨B,i,none⟩:Addr)≠⟨B,j,none⟩:=fun i j hij h=>hij (by injection h)
 obtain ⟨u0,g0⟩:=(h (o) (by omega)).1
 obtain ⟨u1,g1⟩:=((h.set (o) (.int .i64 k.z)) (o+1) (by omega)).1
 obtain ⟨u2,g2⟩:=(((h.set (o) (.int .i64 k.z)).set (o+1) (.int .i64 k.x)) (o+2) (by omega)).1
 obtain ⟨u3,g3⟩:=((((h.set (o) (.int .i64 k.z)).set (o+1) (.int .i64 k.x)).set (o+2) (.int .i64 k.y)) (o+3) (by omega)).1
 obtain ⟨u4,g4⟩:=(((((h.set (o) (.int .i64 k.z)).set (o+1) (.int .i64 k.x)).set (o+2) (.int .i64 k.y)).set (o+3) (.slice k.fa k.fn k.fc)) (o+4) (by omega)).1
 unfold zD6
 refine ⟨?_,?_,?_,?_,?_⟩
 ·rw [zB (ne (o+4) (o) (by omega)),zB (ne (o+3) (o) (by omega)),zB (ne (o+2) (o) (by omega)),zB (ne (o+1) (o) (by omega))];exact zG g0
 ·rw [zB (ne (o+4) (o+1) (by omega)),zB (ne (o+3) (o+1) (by omega)),zB (ne (o+2) (o+1) (by omega))];exact zG g1
 ·rw [zB (ne (o+4) (o+2) (by omega)),zB (ne (o+3) (o+2) (by omega))];exact zG g2
 ·rw [zB (ne (o+4) (o+3) (by omega))];exact zG g3
 ·exact zG g4
abbrev zEw:Array Value:=#[.int .i64 0,.int .i64 0,.int .i64 0,.slice none 0 0,.slice none 0 0]
theorem info_kp:(Tryz.prog.info? 153).map (fun i=>(i.zero,i.size,i.bytes))=some (some (.agg zEw),5,72):=by kernel_rfl
theorem zKv (V:World)(a b c d e:Value)(t:TypeId):zD (V.alloc (.cells #[a,b,c,d,e] t)) V.heap.size 5:=fun o ho=>by
 have hc:o=0∨o=1∨o=2∨o=3∨o=4:=by omega
 rcases hc with rfl | rfl | rfl | rfl | rfl <;> exact ⟨⟨_,by simp [go_sem];rfl⟩,by simp [go_sem]⟩
theorem zJh (n:Nat)(h:n≤1048576)(w:World) :
  (Instr.makeSlice 33 (.int .i64 (n:Int)) (.int .i64 (n:Int))).run Tryz.prog w=.ok (.slice (some ⟨w.heap.size,0,none⟩) n n) (w.alloc (.cells (madeCells zEw (n * 5)) 153)):=by
 obtain ⟨i,hi,hz,hs,hb⟩:=info_parts info_kp
 have hr:=run_make (P:=Tryz.prog) w 33 153 i _ Tryz.underlying33 hi hz .i64 .i64 (n:Int) (n:Int) (by omega) (Int.le_refl _) (by rw [hb];omega) (by omega)
 simp only [Int.toNat_natCast,hs] at hr
 exact hr
theorem zGy (n:Nat)(w:World)(t:TypeId):zD (w.alloc (.cells (madeCells zEw n) t)) w.heap.size n:=fun o ho=>by
 have hz:=size_madeCells zEw n
 refine ⟨⟨(madeCells zEw n)[o]'(by rw [hz];exact ho),?_⟩,World.frozen?_alloc_at _ _ _ _ rfl⟩
 rw [World.cell?_alloc_at _ _ _ _ rfl]
 exact Array.getElem?_eq_getElem _
theorem resTK (T:Array Value)(Wf:World)(r:Nat)(k:Kp)(hT:T[2]?.getD undef=.pointer (some ⟨r,0,none⟩))(h:zMf Wf r 0 k) :
  (results Tryz.f115 T).run Tryz.prog Wf=.ok (kpV k) Wf:=by
 obtain ⟨h0,h1,h2,h3,h4⟩:=h
 simp only [Nat.zero_add] at h0 h1 h2 h3 h4
 simp [results,Tryz.results115,go_sem,hT,h0,h1,h2,h3,h4]
theorem zIz (k:Kp)(w:World)(hp:zKd w k)(hs:vL k):Calls Tryz.prog 115 #[kpV k] w fun e w'=>∃ a,e=.returned (kpV a)∧xT w' w.heap.size k a∧Bw w w':=by
 have HP:Hid (zKd w k):=hp
 have HS:Hid (vL k):=hs
 clear hp hs
 go_enter Tryz.func115,Tryz.ntmps115
 go_wp2_with fail
 generalize hW:(((w.alloc _).alloc _).alloc _:World)=W
 have hB0:Bw w W:=by subst hW;exact Qb
 have HT:Hid (zD W (w.heap.size+1) 5):=by
  show zD _ _ _
  subst hW
  have:=(zKv (w.alloc (.cells #[.int .i64 k.z,.int .i64 k.x,.int .i64 k.y,.slice k.fa k.fn k.fc,.slice k.ia k.m k.ic] 148)) (.int .i64 0) (.int .i64 0) (.int .i64 0) (.slice none 0 0) (.slice none 0 0) 153).below (xA (Below.refl _ _) (.cells #[.int .i64 0,.int .i64 0,.int .i64 0,.slice none 0 0,.slice none 0 0] 153))
  simpa using this
 have HU:Hid (zD W (w.heap.size+1+1) 5):=by
  show zD _ _ _
  subst hW
  have:=zKv ((w.alloc (.cells #[.int .i64 k.z,.int .i64 k.x,.int .i64 k.y,.slice k.fa k.fn k.fc,.slice k.ia k.m k.ic] 148)).alloc (.cells #[.int .i64 0,.int .i64 0,.int .i64 0,.slice none 0 0,.slice none 0 0] 153)) (.int .i64 0) (.int .i64 0) (.int .i64 0) (.slice none 0 0) (.slice none 0 0) 153
  simpa using this
 have c4:W.cell? ⟨w.heap.size,4,none⟩=some (.slice k.ia k.m k.ic):=by subst hW;simp [go_sem]
 have hsz:w.heap.size+1+1<W.heap.size:=by subst hW;simp
 clear hW
 refine (zIx k.z k.x k.y k.fa k.fn k.fc k.F W (HP.out.below hB0).1 HS.out.1.1 (fun i hi=>(HS.out.1.2 i hi).1)).mono ?_
 rintro e w1 ⟨fb,G,rfl,hO1,hb1⟩
 have d4:w1.cell? ⟨w.heap.size,4,none⟩=some (.slice k.ia k.m k.ic):=yI hb1 c4
 have HO1:Hid (yD w1 W.heap.size fb k.fn k.F G):=hO1
 have HT1:Hid (zD w1 (w.heap.size+1) 5):=HT.out.below hb1
 have HU1:Hid (zD w1 (w.heap.size+1+1) 5):=HU.out.below hb1
 have hB1:Bw w w1:=zA hB0 hb1
 have hsz1:w.heap.size+1+1<w1.heap.size:=Nat.lt_of_lt_of_le hsz hb1.size
 clear c4 HT HU hB0 hb1 hO1
 have hT':=HU1.out
 have t0:=hT'.cell 0 (by omega)
 have t1:=hT'.cell 1 (by omega)
 have t2:=hT'.cell 2 (by omega)
 have t3:=hT'.cell 3 (by omega)
 have t4:=hT'.cell 4 (by omega)
 have f0:=(hT' 0 (by omega)).2
 have f1:=(hT' 1 (by omega)).2
 have f2:=(hT' 2 (by omega)).2
 have f3:=(hT' 3 (by omega)).2
 have f4:=(hT' 4 (by omega)).2
 clear hT'
 go_wp2_with fail
 generalize hW2:((((w1.setCell ⟨w.heap.size+1+1,0,none⟩ (.int .i64 k.z)).setCell ⟨w.heap.size+1+1,1,none⟩ (.int .i64 k.x)).setCell ⟨w.heap.size+1+1,2,none⟩ (.int .i64 k.y)).setCell ⟨w.heap.size+1+1,3,none⟩ (.slice (some ⟨fb,0,none⟩) k.fn k.fn))=w2
 obtain ⟨g0,g1,g2,g3⟩:w2.cell? ⟨w.heap.size+1+1,0,none⟩=some (.int .i64 k.z)∧w2.cell? ⟨w.heap.size+1+1,1,none⟩=some (.int .i64 k.x)∧w2.cell? ⟨w.heap.size+1+1,2,none⟩=some (.int .i64 k.y)∧w2.cell? ⟨w.heap.size+1+1,3,none⟩=some (.slice (some ⟨fb,0,none⟩) k.fn k.fn):=by
  rw [← hW2]
  exact uB (fun o ho=>HU1.out o (by omega))
 have HU2:Hid (zD w2 (w.heap.size+1+1) 5):=by
  show zD _ _ _
  rw [← hW2]
  exact (((HU1.out.set _ _).set _ _).set _ _).set _ _
 have hM2:vC w.heap.size (w.heap.size+1+1+1) w1 w2:=by
  rw [← hW2]
  exact ((((vC.refl _ _ _).set (by omega) (by omega) _ _).set (by omega) (by omega) _ _).set (by omega) (by omega) _ _).set (by omega) (by omega) _ _
 have HT2:Hid (zD w2 (w.heap.size+1) 5):=by
  show zD _ _ _
  rw [← hW2]
  exact (((HT1.out.otherJ (by omega)).otherJ (by omega)).otherJ (by omega)).otherJ (by omega)
 have HO2:Hid (yD w2 W.heap.size fb k.fn k.F G):=HO1.out.midB hM2 (by omega) (Nat.le_refl _)
 have hB2:Bw w w2:=hB1.trans (hM2.below (by omega))
 have hsz2:w.heap.size+1+1<w2.heap.size:=Nat.lt_of_lt_of_le hsz1 hM2.size
 have hsW:W.heap.size≤w2.heap.size:=Nat.le_trans (Nat.le_of_lt (Nat.lt_of_le_of_lt HO1.out.1 HO1.out.2.1)) hM2.size
 clear hW2 hM2 t0 t1 t2 t3 t4 f0 f1 f2 f3 f4 HU1 HT1 hB1 d4 hsz1 HO1
 refine (zE4 k.ia k.m k.ic k.I w2 (HP.out.2.below hB2) HS.out.2).mono ?_
 rintro e w3 ⟨ib,rfl,hge3,hlt3,hN3,_,hb3⟩
 have k0:=yI hb3 g0
 have k1:=yI hb3 g1
 have k2:=yI hb3 g2
 have k3:=yI hb3 g3
 have hT3:=HT2.out.below hb3
 have hU3:=HU2.out.below hb3
 have hz4:=(hU3 4 (by omega)).2
 obtain ⟨u4,k4⟩:=(hU3 4 (by omega)).1
 have HO3:Hid (yD w3 W.heap.size fb k.fn k.F G):=HO2.out.below hb3
 have HN3:Hid (zKc w3 ib 0 k.m k.I):=hN3
 have HB3:Hid (Bw w w3):=zA hB2 hb3
 have hne:∀ i j:Nat,i≠j→(⟨w.heap.size+1+1,i,none⟩:Addr)≠⟨w.heap.size+1+1,j,none⟩:=fun i j hij h=>hij (by injection h)
 have i0:(w3.setCell ⟨w.heap.size+1+1,4,none⟩ (.slice (some ⟨ib,0,none⟩) k.m k.m)).cell? ⟨w.heap.size+1+1,0,none⟩=some (.int .i64 k.z):=by rw [zB (hne _ _ (by omega))];exact k0
 have i1:(w3.setCell ⟨w.heap.size+1+1,4,none⟩ (.slice (some ⟨ib,0,none⟩) k.m k.m)).cell? ⟨w.heap.size+1+1,1,none⟩=some (.int .i64 k.x):=by rw [zB (hne _ _ (by omega))];exact k1
 have i2:(w3.setCell ⟨w.heap.size+1+1,4,none⟩ (.slice (some ⟨ib,0,none⟩) k.m k.m)).cell? ⟨w.heap.size+1+1,2,none⟩=some (.int .i64 k.y):=by rw [zB (hne _ _ (by omega))];exact k2
 have i3:(w3.setCell ⟨w.heap.size+1+1,4,none⟩ (.slice (some ⟨ib,0,none⟩) k.m k.m)).cell? ⟨w.heap.size+1+1,3,none⟩=some (.slice (some ⟨fb,0,none⟩) k.fn k.fn):=by rw [zB (hne _ _ (by omega))];exact k3
 have i4:(w3.setCell ⟨w.heap.size+1+1,4,none⟩ (.slice (some ⟨ib,0,none⟩) k.m k.m)).cell? ⟨w.heap.size+1+1,4,none⟩=some (.slice (some ⟨ib,0,none⟩) k.m k.m):=zG k4
 have HT4:Hid (zD (w3.setCell ⟨w.heap.size+1+1,4,none⟩ (.slice (some ⟨ib,0,none⟩) k.m k.m)) (w.heap.size+1) 5):=hT3.otherJ (by omega)
 have hT':=HT4.out
 have t0:=hT'.cell 0 (by omega)
 have t1:=hT'.cell 1 (by omega)
 have t2:=hT'.cell 2 (by omega)
 have t3:=hT'.cell 3 (by omega)
 have t4:=hT'.cell 4 (by omega)
 have f0:=(hT' 0 (by omega)).2
 have f1:=(hT' 1 (by omega)).2
 have f2:=(hT' 2 (by omega)).2
 have f3:=(hT' 3 (by omega)).2
 have f4:=(hT' 4 (by omega)).2
 clear hT' g0 g1 g2 g3 HT2 HU2 hB2 hN3 hb3 hT3 hU3 hne k0 k1 k2 k3 HP HO2
 go_wp2_with fail
 have hat:=zLj (W:=w3.setCell ⟨w.heap.size+1+1,4,none⟩ (.slice (some ⟨ib,0,none⟩) k.m k.m)) (B:=w.heap.size+1) (o:=0) (k:=⟨k.z,k.x,k.y,some ⟨fb,0,none⟩,k.fn,k.fn,G,some ⟨ib,0,none⟩,k.m,k.m,k.I⟩) HT4.out (by omega)
 have hMM:vC w.heap.size (w.heap.size+1+1+1) w3 (zD6 (w3.setCell ⟨w.heap.size+1+1,4,none⟩ (.slice (some ⟨ib,0,none⟩) k.m k.m)) (w.heap.size+1) 0 ⟨k.z,k.x,k.y,some ⟨fb,0,none⟩,k.fn,k.fn,G,some ⟨ib,0,none⟩,k.m,k.m,k.I⟩):=by
  unfold zD6
  exact ((((((vC.refl _ _ _).set (by omega) (by omega) _ _).set (by omega) (by omega) _ _).set (by omega) (by omega) _ _).set (by omega) (by omega) _ _).set (by omega) (by omega) _ _).set (by omega) (by omega) _ _
 have hown:xT w3 W.heap.size k ⟨k.z,k.x,k.y,some ⟨fb,0,none⟩,k.fn,k.fn,G,some ⟨ib,0,none⟩,k.m,k.m,k.I⟩:=⟨⟨rfl,rfl,rfl⟩,⟨fb,rfl,rfl,rfl,HO3.out⟩,ib,rfl,rfl,rfl,rfl,by omega,hlt3,HN3.out⟩
 have hown':=hown.mid hMM (by omega) (C:=w.heap.size) (by omega)
 have hbl:Bw w (zD6 (w3.setCell ⟨w.heap.size+1+1,4,none⟩ (.slice (some ⟨ib,0,none⟩) k.m k.m)) (w.heap.size+1) 0 ⟨k.z,k.x,k.y,some ⟨fb,0,none⟩,k.fn,k.fn,G,some ⟨ib,0,none⟩,k.m,k.m,k.I⟩):=HB3.out.trans (hMM.below (by omega))
 simp only [zD6,Nat.zero_add] at hat hown' hbl
 exact bodyPost_ret (resTK _ _ _ ⟨k.z,k.x,k.y,some ⟨fb,0,none⟩,k.fn,k.fn,G,some ⟨ib,0,none⟩,k.m,k.m,k.I⟩ rfl hat) rfl ⟨_,rfl,hown',hbl⟩
theorem zGu (a:Option Addr)(n cap:Nat)(K:Nat→Kp)(w:World)(hp:zBc w a n K)(hs:zM n K) :
  Calls Tryz.prog 67 #[.slice a n cap] w fun e w'=>∃ b A,e=.returned (.slice (some ⟨b,0,none⟩) n n)∧w.heap.size≤b∧yA w' (b+1) b n K A∧Bw w w':=by
 have hmk:=zJh n hs.1
 have HP:Hid (zBc w a n K):=hp
 have HS:Hid (zM n K):=hs
 have hmax:=hs.1
 clear hp hs
 go_enter Tryz.func67,Tryz.ntmps67
 go_wp2
 generalize hW:(w.alloc _:World)=W
 have HB0:Hid (Bw w W):=by show Below _ _ _;subst hW;exact Qb
 have HT0:Hid (zD W w.heap.size (n * 5)):=by show zD _ _ _;subst hW;exact zGy _ _ _
 have HL0:Hid (w.heap.size<W.heap.size):=by show _<_;subst hW;simp
 clear hW hmk
 go_loopw [4] (fun i wr=>∃ (k:Nat) (A:Nat→Kp),k≤n∧i=.int .i64 k∧Bw w wr∧zD wr w.heap.size (n * 5)∧yA wr (w.heap.size+1) w.heap.size k K A) (fun i _=>n - (intOf i).toNat)
 case atStart=>exact ⟨0,fun _=>⟨0,0,0,none,0,0,fun _=>⟨0,0,0,0,none,0,0,fun _=>0,fun _=>0,⟨#[]⟩,0⟩,none,0,0,fun _=>0⟩,by omega,rfl,HB0.out,HT0.out,Nat.lt_succ_self _,HL0.out,fun i hi=>absurd hi (Nat.not_lt_zero _)⟩
 case round =>
  obtain ⟨k,A,hk,rfl,hB,hT,hO⟩:=hrel
  by_cases hlt:k<n
  ·rcases HP.out with h0 | ⟨b,off,rfl,hbl,hpt⟩
   ·omega
   obtain ⟨⟨f0,f1,f2,f3,f4⟩,hkis⟩:=(hpt.below hB hbl) k hlt
   have HKI:Hid (zKd wr (K k)):=hkis
   have HB:Hid (Bw w wr):=hB
   have HT:Hid (zD wr w.heap.size (n * 5)):=hT
   have HO:Hid (yA wr (w.heap.size+1) w.heap.size k K A):=hO
   have hsr:w.heap.size<wr.heap.size:=hO.2.1
   clear hB hT hO hpt hkis
   have hi:(k:Int)<(n:Int):=by omega
   have hi0:(0:Int)≤(k:Int):=by omega
   go_wp2_with fail
   refine (zIz (K k) _ HKI.out (HS.out.2 k hlt)).mono ?_
   rintro e w' ⟨c,rfl,hc,hb⟩
   have hT':=HT.out.below hb
   have t0:=hT'.cell (k * 5+0) (by omega)
   have t1:=hT'.cell (k * 5+1) (by omega)
   have t2:=hT'.cell (k * 5+2) (by omega)
   have t3:=hT'.cell (k * 5+3) (by omega)
   have t4:=hT'.cell (k * 5+4) (by omega)
   have y0:=(hT' (k * 5+0) (by omega)).2
   have y1:=(hT' (k * 5+1) (by omega)).2
   have y2:=(hT' (k * 5+2) (by omega)).2
   have y3:=(hT' (k * 5+3) (by omega)).2
   have y4:=(hT' (k * 5+4) (by omega)).2
   simp only [Nat.add_zero] at t0 y0
   have HT':Hid (zD w' w.heap.size (n * 5)):=hT'
   have HBn:Hid (Bw wr w'):=hb
   have HC:Hid (xT w' wr.heap.size (K k) c):=hc
   have HO':Hid (yA w' (w.heap.size+1) w.heap.size k K A):=HO.out.below hb
   clear hT' hb hc f0 f1 f2 f3 f4
   go_wp2
   go_roundw
   case rel =>
    have hM:=zM7 w' w.heap.size (k * 5) c
    refine ⟨k+1,fun i=>if i=k then c else A i,by omega,by go_num,?_,?_,?_⟩
    ·exact (HB.out.trans (HBn.out.mono HB.out.size)).trans ((hM.below (by have:=HBn.out.size;omega)))
    ·exact zJj (k:=c) (B:=w.heap.size) (o:=k * 5) HT'.out
    ·refine ⟨Nat.lt_succ_self _,by show _<(zD6 w' w.heap.size (k * 5) c).heap.size;rw [zLi];exact HO'.out.2.1,fun i hi=>?_⟩
     by_cases e:i=k
     ·subst e
      dsimp only
      rw [if_pos rfl]
      exact ⟨zLj HT'.out (by omega),HC.out.mid hM (by omega) (by omega)⟩
     ·dsimp only
      rw [if_neg e]
      obtain ⟨h1,h2⟩:=HO'.out.2.2 i (by omega)
      refine ⟨?_,h2.mid hM (Nat.le_refl _) (Nat.le_refl _)⟩
      unfold zMf at h1 ⊢
      show (zD6 w' w.heap.size (k * 5) c).cell? _=_∧(zD6 w' w.heap.size (k * 5) c).cell? _=_∧(zD6 w' w.heap.size (k * 5) c).cell? _=_∧(zD6 w' w.heap.size (k * 5) c).cell? _=_∧(zD6 w' w.heap.size (k * 5) c).cell? _=_
      rw [vG (.inr (.inl (by simp;omega))),vG (.inr (.inl (by simp;omega))),vG (.inr (.inl (by simp;omega))),vG (.inr (.inl (by simp;omega))),vG (.inr (.inl (by simp;omega)))]
      exact h1
   case measure=>simp [intOf];omega
  ·go_wp2
   go_ret
   have hkn:k=n:=by omega
   subst hkn
   exact ⟨_,A,rfl,Nat.le_refl _,hO,hB⟩
theorem zJ3 (B C:Nat)(k a c:Kp)(w:World)(ha:xT w B k a)(hc:xT w C k c)(hs:vL k) :
  Calls Tryz.prog 137 #[kpV a,kpV c] w fun e w'=>e=.returned (.bool true)∧Bw w w':=by
 obtain ⟨⟨e1,e2,e3⟩,⟨fb,e4,e5,e6,hF⟩,ib,e7,e8,e9,e10,_,hib,hN⟩:=ha
 obtain ⟨⟨d1,d2,d3⟩,⟨fd,d4,d5,d6,hG⟩,id,d7,d8,d9,d10,_,hid,hM⟩:=hc
 unfold kpV
 rw [e1,e2,e3,e4,e5,e6,e7,e8,e9,d1,d2,d3,d4,d5,d6,d7,d8,d9]
 have HF:Hid (yD w B fb k.fn k.F a.F):=hF
 have HG:Hid (yD w C fd k.fn k.F c.F):=hG
 have HN:Hid (zAv w (some ⟨ib,0,none⟩) k.m k.I):=hN.is hib
 have HM:Hid (zAv w (some ⟨id,0,none⟩) k.m k.I):=hM.is hid
 have HS:Hid (vL k):=hs
 clear hF hG hN hM hs e1 e2 e3 e4 e5 e6 e7 e8 e9 e10 d1 d2 d3 d4 d5 d6 d7 d8 d9 d10 hib hid
 go_enter Tryz.func137,Tryz.ntmps137
 go_wp2_with fail
 generalize hW:((w.alloc _).alloc _:World)=W
 have hB0:Bw w W:=by subst hW;exact Qb
 have c4:∀ W',Bw W W'→W'.cell? ⟨w.heap.size,4,none⟩=some (.slice (some ⟨ib,0,none⟩) k.m k.m):=fun W' h=>by rw [h.cell (by subst hW;simp;omega)];subst hW;simp [go_sem]
 have d4:∀ W',Bw W W'→W'.cell? ⟨w.heap.size+1,4,none⟩=some (.slice (some ⟨id,0,none⟩) k.m k.m):=fun W' h=>by rw [h.cell (by subst hW;simp)];subst hW;simp [go_sem]
 clear hW
 refine (zJ2 k.z k.x k.y fb fd k.fn B C k.F a.F c.F W (HF.out.below hB0) (HG.out.below hB0) HS.out.1).mono ?_
 rintro e w1 ⟨rfl,hb1⟩
 have g4:=c4 w1 hb1
 have l4:=d4 w1 hb1
 have hB1:Bw w w1:=zA hB0 hb1
 clear c4 d4 hb1 hB0
 go_wp2_with fail
 refine (zF2 _ _ k.m _ _ k.I _ (HN.out.below hB1) (HM.out.below hB1) HS.out.2).mono ?_
 rintro e w2 ⟨rfl,hb2⟩
 have HB2:Hid (Bw w w2):=zA hB1 hb2
 clear hb2
 go_wp2
 go_ret
 exact ⟨rfl,HB2.out⟩

end Go.Proofs.YtkjbafcalamgnaaGreat
