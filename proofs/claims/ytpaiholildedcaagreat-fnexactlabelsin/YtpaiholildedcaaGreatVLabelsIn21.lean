/- Texts. -/
import Derived.Test.YtpaiholildedcaaGreatVLabelsIn20
import Derived.RangeFuncNested
import Derived.RangeFuncBound
import Derived.Shelf.RegionOpen
import Derived.OwnWalkIn
import Derived.LoopNIn
import Derived.LoopIn
set_option linter.unusedSimpArgs false
set_option linter.unusedVariables false
set_option maxRecDepth 100000
set_option maxHeartbeats 32000000
namespace Go.Proofs.YtpaiholildedcaaGreat
open Go.RowKit
noncomputable def rtC (z x y:Int)(n:Nat)(G:Nat→zS):Int:=if zE4 z x y=0 then (if zV n G=0 then (if zFc n G=true then 0 else 1) else zV n G) else zE4 z x y
noncomputable def rtL (z x y:Int)(n:Nat)(G:Nat→zS):List Int:=if rtC z x y n G=0 then zDw (yE G n z) (x * 8) (y * 8) 64 else []
theorem there2t (w:World)(x y:Value)(t:TypeId):zD (w.alloc (.cells #[x,y] t)) w.heap.size 2:=fun o ho=>by
 have:o=0∨o=1:=by omega
 rcases this with rfl | rfl <;> exact ⟨⟨_,by simp [go_sem];rfl⟩,by simp [go_sem]⟩
theorem set2t {W:World}{r:Nat}{a b:Value}(hT:zD W r 2) :
  ((W.setCell ⟨r,0,none⟩ a).setCell ⟨r,1,none⟩ b).cell? ⟨r,0,none⟩=some a∧((W.setCell ⟨r,0,none⟩ a).setCell ⟨r,1,none⟩ b).cell? ⟨r,1,none⟩=some b:=by
 obtain ⟨u0,h0⟩:=(hT 0 (by omega)).1
 obtain ⟨u1,h1⟩:=(hT 1 (by omega)).1
 have ne:∀ i j:Nat,i≠j→(⟨r,i,none⟩:Addr)≠⟨r,j,none⟩:=fun i j hij h=>hij (by injection h)
 refine ⟨?_,?_⟩
 ·rw [zB (ne 1 0 (by omega))];exact zG h0
 ·exact zG (by rw [zB (ne 0 1 (by omega))];exact h1)
theorem zIs (w:World)(base:Nat):OwnN w base (.slice none 0 0) ([]:List Int).length (nz []):=⟨none,0,rfl,Nat.le_refl _,.inl rfl⟩
theorem zGz {z x y:Int}{n:Nat}{G:Nat→zS}(h:rtC z x y n G=0):zAv z x y=true∧zV n G=0∧zFc n G=true:=by
 unfold rtC at h
 rcases uM z x y with ⟨hc,hr⟩ | ⟨hc,hr⟩
 ·rw [if_pos hc] at h
  by_cases hf:zV n G=0
  ·rw [if_pos hf] at h
   cases ho:zFc n G
   ·rw [ho] at h;simp at h
   ·exact ⟨hr,hf,rfl⟩
  ·rw [if_neg hf] at h;exact absurd h hf
 ·rw [hc] at h;simp at h
abbrev zOx (z x y:Int)(v:Value):Value:=.agg #[.int .i64 z,.int .i64 x,.int .i64 y,v]
theorem xX.midB {w w':World}{B C b n lo hi:Nat}{F G:Nat→zS}(h:xX w B b n F G)(hM:zW lo hi w w')(hh:hi≤B)(hC:C≤B):xX w' C b n F G:=by
 obtain ⟨h1,h2,h3,h4⟩:=h
 have hc:∀ (p o:Nat) (u:Value),B≤p→w.cell? ⟨p,o,none⟩=some u→w'.cell? ⟨p,o,none⟩=some u:=fun p o u hp e=>hM.cell e (.inr (by omega))
 refine ⟨by omega,Nat.lt_of_lt_of_le h2 hM.size,fun i hi=>?_,fun i hi=>?_⟩
 ·obtain ⟨⟨k0,k1,k2,k3,k4,k5,k6⟩,_⟩:=h3 i hi
  obtain ⟨_,q,ha,hcap,hq,hBq,hql,hp⟩:=h4 i hi
  refine ⟨⟨hc _ _ _ h1 k0,hc _ _ _ h1 k1,hc _ _ _ h1 k2,hc _ _ _ h1 k3,hc _ _ _ h1 k4,hc _ _ _ h1 k5,hc _ _ _ h1 k6⟩,?_⟩
  exact .inr ⟨q,0,ha,Nat.lt_of_lt_of_le hql hM.size,fun j hj=>⟨hc _ _ _ hBq (hp j hj).1,hc _ _ _ hBq (hp j hj).2⟩⟩
 ·obtain ⟨hs,q,ha,hcap,hq,hBq,hql,hp⟩:=h4 i hi
  exact ⟨hs,q,ha,hcap,hq,by omega,Nat.lt_of_lt_of_le hql hM.size,fun j hj=>⟨hc _ _ _ hBq (hp j hj).1,hc _ _ _ hBq (hp j hj).2⟩⟩
theorem zRk {W:World}{r:Nat}{a b c x0 x1 x2:Value}(h0:W.cell? ⟨r,0,none⟩=some x0)(h1:W.cell? ⟨r,1,none⟩=some x1)(h2:W.cell? ⟨r,2,none⟩=some x2) :
  (((W.setCell ⟨r,0,none⟩ a).setCell ⟨r,1,none⟩ b).setCell ⟨r,2,none⟩ c).cell? ⟨r,0,none⟩=some a ∧
  (((W.setCell ⟨r,0,none⟩ a).setCell ⟨r,1,none⟩ b).setCell ⟨r,2,none⟩ c).cell? ⟨r,1,none⟩=some b ∧
  (((W.setCell ⟨r,0,none⟩ a).setCell ⟨r,1,none⟩ b).setCell ⟨r,2,none⟩ c).cell? ⟨r,2,none⟩=some c:=by
 have ne:∀ i j:Nat,i≠j→(⟨r,i,none⟩:Addr)≠⟨r,j,none⟩:=fun i j hij h=>hij (by injection h)
 refine ⟨?_,?_,?_⟩
 ·rw [zB (ne 2 0 (by omega)),zB (ne 1 0 (by omega))];exact zG h0
 ·rw [zB (ne 2 1 (by omega))];exact zG (by rw [zB (ne 0 1 (by omega))];exact h1)
 ·exact zG (by rw [zB (ne 1 2 (by omega)),zB (ne 0 2 (by omega))];exact h2)
theorem zD.otherJ {W:World}{r r' n o:Nat}{v:Value}(h:zD W r n)(hr:r'≠r):zD (W.setCell ⟨r',o,none⟩ v) r n:=fun o' ho=>by
 obtain ⟨⟨u,hu⟩,hf⟩:=h o' ho
 exact ⟨⟨u,by rw [zB (fun e=>hr (by injection e))];exact hu⟩,by rw [World.frozen?_setCell];exact hf⟩
theorem resTT (T:Array Value)(Wf:World)(r:Nat)(v0 v1 v2 v3:Value)(hT:T[2]?.getD undef=.pointer (some ⟨r,0,none⟩))(h0:Wf.cell? ⟨r,0,none⟩=some v0)(h1:Wf.cell? ⟨r,1,none⟩=some v1)(h2:Wf.cell? ⟨r,2,none⟩=some v2)(h3:Wf.cell? ⟨r,3,none⟩=some v3) :
  (results Tryz.f188 T).run Tryz.prog Wf=.ok (.agg #[v0,v1,v2,v3]) Wf:=by
 simp [results,Tryz.results188,go_sem,hT,h0,h1,h2,h3]
theorem zN6 (z x y:Int)(b d n B C:Nat)(F G H:Nat→zS)(w:World)(hg:xX w B b n F G)(hh:xX w C d n F H)(hs:yU n F) :
  Calls Tryz.prog 192 #[zOx z x y (.slice (some ⟨b,0,none⟩) n n),zOx z x y (.slice (some ⟨d,0,none⟩) n n)] w fun e w'=>e=.returned (.bool true)∧Bw w w':=by
 have HG:Hid (xX w B b n F G):=hg
 have HH:Hid (xX w C d n F H):=hh
 have HS:Hid (yU n F):=hs
 clear hg hh hs
 go_enter Tryz.func192,Tryz.ntmps192
 go_wp2_with fail
 generalize hW:((w.alloc _).alloc _:World)=W
 have hB0:Bw w W:=by subst hW;exact Qb
 have c3:W.cell? ⟨w.heap.size,3,none⟩=some (.slice (some ⟨b,0,none⟩) n n):=by subst hW;simp [go_sem]
 have d3:W.cell? ⟨w.heap.size+1,3,none⟩=some (.slice (some ⟨d,0,none⟩) n n):=by subst hW;simp [go_sem]
 clear hW
 refine (zJk _ _ _ _).mono ?_
 rintro e w1 ⟨rfl,hb1⟩
 have c3':=zH hb1 c3
 have d3':=zH hb1 d3
 have hB1:=zA hB0 hb1
 clear c3 d3 hb1 hB0
 go_wp2_with fail
 refine (zFp b d n B C F G H _ (HG.out.below hB1) (HH.out.below hB1) HS.out).mono ?_
 rintro e w2 ⟨rfl,hb2⟩
 go_wp2
 go_ret
 exact ⟨rfl,Qb⟩
structure Kp where
 z:Int
 x:Int
 y:Int
 fa:Option Addr
 fn:Nat
 fc:Nat
 F:Nat→zS
 ia:Option Addr
 m:Nat
 ic:Nat
 I:Nat→Int
abbrev kpV (k:Kp):Value:=.agg #[.int .i64 k.z,.int .i64 k.x,.int .i64 k.y,.slice k.fa k.fn k.fc,.slice k.ia k.m k.ic]
def zQ4 (w:World)(p o:Nat)(k:Kp):Prop:=w.cell? ⟨p,o,none⟩=some (.int .i64 k.z)∧w.cell? ⟨p,o+1,none⟩=some (.int .i64 k.x)∧w.cell? ⟨p,o+2,none⟩=some (.int .i64 k.y)∧w.cell? ⟨p,o+3,none⟩=some (.slice k.fa k.fn k.fc)∧w.cell? ⟨p,o+4,none⟩=some (.slice k.ia k.m k.ic)
theorem zQ4.below {w w':World}{p o B:Nat}{k:Kp}(h:zQ4 w p o k)(hb:Below B w w')(hp:p<B):zQ4 w' p o k:=by
 obtain ⟨h0,h1,h2,h3,h4⟩:=h
 exact ⟨(hb.cell (p:=⟨p,o,none⟩) hp).trans h0,(hb.cell (p:=⟨p,o+1,none⟩) hp).trans h1,(hb.cell (p:=⟨p,o+2,none⟩) hp).trans h2,(hb.cell (p:=⟨p,o+3,none⟩) hp).trans h3,(hb.cell (p:=⟨p,o+4,none⟩) hp).trans h4⟩
def zOh (w:World)(k:Kp):Prop:=zMs w k.fa k.fn k.F∧zCi w k.ia k.m k.I
theorem zOh.below {w w':World}{k:Kp}(h:zOh w k)(hb:Below w.heap.size w w'):zOh w' k:=⟨h.1.below hb,h.2.below hb⟩
def KsAt (w:World)(b off n:Nat)(K:Nat→Kp):Prop:=∀ i,i<n→zQ4 w b (off+i * 5) (K i)∧zOh w (K i)
theorem KsAt.below {w w':World}{b off n:Nat}{K:Nat→Kp}(h:KsAt w b off n K)(hb:Below w.heap.size w w')(hl:b<w.heap.size):KsAt w' b off n K:=fun i hi=>⟨(h i hi).1.below hb hl,(h i hi).2.below hb⟩
def zDn (w:World)(a:Option Addr)(n:Nat)(K:Nat→Kp):Prop:=n=0∨∃ b off,a=some ⟨b,off,none⟩∧b<w.heap.size∧KsAt w b off n K
theorem zDn.below {w w':World}{a:Option Addr}{n:Nat}{K:Nat→Kp}(h:zDn w a n K)(hb:Below w.heap.size w w'):zDn w' a n K:=by
 rcases h with h | ⟨b,off,e,hl,hp⟩
 ·exact .inl h
 ·exact .inr ⟨b,off,e,Nat.lt_of_lt_of_le hl hb.size,hp.below hb hl⟩
def vV (k:Kp):Prop:=yU k.fn k.F∧k.m≤1048576
def zL (n:Nat)(K:Nat→Kp):Prop:=n≤1048576∧∀ i,i<n→vV (K i)
def zOi (k:Kp):Prop:=zGn k.fn k.F∧k.m≤maxLen
def zA5 (n:Nat)(K:Nat→Kp):Prop:=n≤maxLen∧∀ i,i<n→zOi (K i)
def vX (w:World)(B:Nat)(k a:Kp):Prop :=
 (a.z=k.z∧a.x=k.x∧a.y=k.y)∧(∃ fb,a.fa=some ⟨fb,0,none⟩∧a.fn=k.fn∧a.fc=k.fn∧xX w B fb k.fn k.F a.F) ∧
 ∃ ib,a.ia=some ⟨ib,0,none⟩∧a.m=k.m∧a.ic=k.m∧a.I=k.I∧B≤ib∧ib<w.heap.size∧zGm w ib 0 k.m k.I
theorem vX.below {w w':World}{B:Nat}{k a:Kp}(h:vX w B k a)(hb:Below w.heap.size w w'):vX w' B k a:=by
 obtain ⟨h1,⟨fb,e1,e2,e3,h2⟩,ib,e4,e5,e6,e7,h3,h4,h5⟩:=h
 exact ⟨h1,⟨fb,e1,e2,e3,h2.below hb⟩,ib,e4,e5,e6,e7,h3,Nat.lt_of_lt_of_le h4 hb.size,h5.below hb h4⟩
theorem vX.mid {w w':World}{B C lo hi:Nat}{k a:Kp}(h:vX w B k a)(hM:zW lo hi w w')(hh:hi≤B)(hC:C≤B):vX w' C k a:=by
 obtain ⟨h1,⟨fb,e1,e2,e3,h2⟩,ib,e4,e5,e6,e7,h3,h4,h5⟩:=h
 exact ⟨h1,⟨fb,e1,e2,e3,h2.midB hM hh hC⟩,ib,e4,e5,e6,e7,by omega,Nat.lt_of_lt_of_le h4 hM.size,fun i hi=>hM.cell (h5 i hi) (.inr (by omega))⟩
theorem vX.is {w:World}{B:Nat}{k a:Kp}(h:vX w B k a):zOh w a:=by
 obtain ⟨_,⟨fb,e1,e2,e3,h2⟩,ib,e4,e5,e6,e7,h3,h4,h5⟩:=h
 refine ⟨.inr ⟨fb,0,e1,h2.2.1,?_⟩,.inr ⟨ib,0,e4,h4,?_⟩⟩
 ·rw [e2];exact h2.2.2.1
 ·rw [e5,e7];exact h5
def yB (w:World)(B b n:Nat)(K A:Nat→Kp):Prop:=b<B∧b<w.heap.size∧∀ i,i<n→zQ4 w b (i * 5) (A i)∧vX w B (K i) (A i)
theorem yB.below {w w':World}{B b n:Nat}{K A:Nat→Kp}(h:yB w B b n K A)(hb:Below w.heap.size w w'):yB w' B b n K A :=
 ⟨h.1,Nat.lt_of_lt_of_le h.2.1 hb.size,fun i hi=>⟨(h.2.2 i hi).1.below hb h.2.1,(h.2.2 i hi).2.below hb⟩⟩
def zF7 (W:World)(B o:Nat)(k:Kp):World:=(((((W.setCell ⟨B,o,none⟩ (.int .i64 k.z)).setCell ⟨B,o+1,none⟩ (.int .i64 k.x)).setCell ⟨B,o+2,none⟩ (.int .i64 k.y)).setCell ⟨B,o+3,none⟩ (.slice k.fa k.fn k.fc)).setCell ⟨B,o+4,none⟩ (.slice k.ia k.m k.ic))
theorem zL4 (W:World)(B o:Nat)(k:Kp):zW B (B+1) W (zF7 W B o k) :=
 (((((zW.refl B (B+1) W).set (Nat.le_refl _) (Nat.lt_succ_self _) _ _).set (Nat.le_refl _) (Nat.lt_succ_self _) _ _).set (Nat.le_refl _) (Nat.lt_succ_self _) _ _).set (Nat.le_refl _) (Nat.lt_succ_self _) _ _).set (Nat.le_refl _) (Nat.lt_succ_self _) _ _
theorem zNl {W:World}{B o m:Nat}{k:Kp}(h:zD W B m):zD (zF7 W B o k) B m:=by
 unfold zF7
 exact (((((h.set _ _).set _ _).set _ _).set _ _).set _ _)
theorem zIx (W:World)(B o:Nat)(k:Kp):(zF7 W B o k).heap.size=W.heap.size:=by unfold zF7;simp
theorem uQ {W:World}{B o:Nat}{k:Kp}{p:Addr}(h:p.block≠B∨p.off<o∨o+4<p.off):(zF7 W B o k).cell? p=W.cell? p:=by
 have ne:∀ k:Nat,k≤4→(⟨B,o+k,none⟩:Addr)≠p:=fun k hk e=>by subst e;simp at h;omega
 have ne0:(⟨B,o,none⟩:Addr)≠p:=ne 0 (by omega)
 unfold zF7
 rw [zB (ne 4 (by omega)),zB (ne 3 (by omega)),zB (ne 2 (by omega)),zB (ne 1 (by omega)),zB ne0]
theorem zPx {W:World}{B o m:Nat}{k:Kp}(h:zD W B m)(ho:o+4<m):zQ4 (zF7 W B o k) B o k:=by
 have ne:∀ i j:Nat,i≠j→(⟨B,i,none⟩:Addr)≠⟨B,j,none⟩:=fun i j hij h=>hij (by injection h)
 obtain ⟨u0,g0⟩:=(h (o) (by omega)).1
 obtain ⟨u1,g1⟩:=((h.set (o) (.int .i64 k.z)) (o+1) (by omega)).1
 obtain ⟨u2,g2⟩:=(((h.set (o) (.int .i64 k.z)).set (o+1) (.int .i64 k.x)) (o+2) (by omega)).1
 obtain ⟨u3,g3⟩:=((((h.set (o) (.int .i64 k.z)).set (o+1) (.int .i64 k.x)).set (o+2) (.int .i64 k.y)) (o+3) (by omega)).1
 obtain ⟨u4,g4⟩:=(((((h.set (o) (.int .i64 k.z)).set (o+1) (.int .i64 k.x)).set (o+2) (.int .i64 k.y)).set (o+3) (.slice k.fa k.fn k.fc)) (o+4) (by omega)).1
 unfold zF7
 refine ⟨?_,?_,?_,?_,?_⟩
 ·rw [zB (ne (o+4) (o) (by omega)),zB (ne (o+3) (o) (by omega)),zB (ne (o+2) (o) (by omega)),zB (ne (o+1) (o) (by omega))];exact zG g0
 ·rw [zB (ne (o+4) (o+1) (by omega)),zB (ne (o+3) (o+1) (by omega)),zB (ne (o+2) (o+1) (by omega))];exact zG g1
 ·rw [zB (ne (o+4) (o+2) (by omega)),zB (ne (o+3) (o+2) (by omega))];exact zG g2
 ·rw [zB (ne (o+4) (o+3) (by omega))];exact zG g3
 ·exact zG g4
abbrev zH4:Array Value:=#[.int .i64 0,.int .i64 0,.int .i64 0,.slice none 0 0,.slice none 0 0]
theorem info_kp:(Tryz.prog.info? 141).map (fun i=>(i.zero,i.size,i.bytes))=some (some (.agg zH4),5,72):=by kernel_rfl
theorem zOy (V:World)(a b c d e:Value)(t:TypeId):zD (V.alloc (.cells #[a,b,c,d,e] t)) V.heap.size 5:=fun o ho=>by
 have hc:o=0∨o=1∨o=2∨o=3∨o=4:=by omega
 rcases hc with rfl | rfl | rfl | rfl | rfl <;> exact ⟨⟨_,by simp [go_sem];rfl⟩,by simp [go_sem]⟩
theorem zNj (n:Nat)(h:n≤1048576)(w:World) :
  (Instr.makeSlice 26 (.int .i64 (n:Int)) (.int .i64 (n:Int))).run Tryz.prog w=.ok (.slice (some ⟨w.heap.size,0,none⟩) n n) (w.alloc (.cells (madeCells zH4 (n * 5)) 141)):=by
 obtain ⟨i,hi,hz,hs,hb⟩:=info_parts info_kp
 have hr:=run_make (P:=Tryz.prog) w 26 141 i _ Tryz.underlying26 hi hz .i64 .i64 (n:Int) (n:Int) (by omega) (Int.le_refl _) (by rw [hb];omega) (by omega)
 simp only [Int.toNat_natCast,hs] at hr
 exact hr
theorem zKj (n:Nat)(w:World)(t:TypeId):zD (w.alloc (.cells (madeCells zH4 n) t)) w.heap.size n:=fun o ho=>by
 have hz:=size_madeCells zH4 n
 refine ⟨⟨(madeCells zH4 n)[o]'(by rw [hz];exact ho),?_⟩,World.frozen?_alloc_at _ _ _ _ rfl⟩
 rw [World.cell?_alloc_at _ _ _ _ rfl]
 exact Array.getElem?_eq_getElem _
theorem resTK (T:Array Value)(Wf:World)(r:Nat)(k:Kp)(hT:T[2]?.getD undef=.pointer (some ⟨r,0,none⟩))(h:zQ4 Wf r 0 k) :
  (results Tryz.f143 T).run Tryz.prog Wf=.ok (kpV k) Wf:=by
 obtain ⟨h0,h1,h2,h3,h4⟩:=h
 simp only [Nat.zero_add] at h0 h1 h2 h3 h4
 simp [results,Tryz.results143,go_sem,hT,h0,h1,h2,h3,h4]
theorem zN7 (B C:Nat)(k a c:Kp)(w:World)(ha:vX w B k a)(hc:vX w C k c)(hs:vV k) :
  Calls Tryz.prog 149 #[kpV a,kpV c] w fun e w'=>e=.returned (.bool true)∧Bw w w':=by
 obtain ⟨⟨e1,e2,e3⟩,⟨fb,e4,e5,e6,hF⟩,ib,e7,e8,e9,e10,_,hib,hN⟩:=ha
 obtain ⟨⟨d1,d2,d3⟩,⟨fd,d4,d5,d6,hG⟩,id,d7,d8,d9,d10,_,hid,hM⟩:=hc
 unfold kpV
 rw [e1,e2,e3,e4,e5,e6,e7,e8,e9,d1,d2,d3,d4,d5,d6,d7,d8,d9]
 have HF:Hid (xX w B fb k.fn k.F a.F):=hF
 have HG:Hid (xX w C fd k.fn k.F c.F):=hG
 have HN:Hid (zCi w (some ⟨ib,0,none⟩) k.m k.I):=hN.is hib
 have HM:Hid (zCi w (some ⟨id,0,none⟩) k.m k.I):=hM.is hid
 have HS:Hid (vV k):=hs
 clear hF hG hN hM hs e1 e2 e3 e4 e5 e6 e7 e8 e9 e10 d1 d2 d3 d4 d5 d6 d7 d8 d9 d10 hib hid
 go_enter Tryz.func149,Tryz.ntmps149
 go_wp2_with fail
 generalize hW:((w.alloc _).alloc _:World)=W
 have hB0:Bw w W:=by subst hW;exact Qb
 have c4:∀ W',Bw W W'→W'.cell? ⟨w.heap.size,4,none⟩=some (.slice (some ⟨ib,0,none⟩) k.m k.m):=fun W' h=>by rw [h.cell (by subst hW;simp;omega)];subst hW;simp [go_sem]
 have d4:∀ W',Bw W W'→W'.cell? ⟨w.heap.size+1,4,none⟩=some (.slice (some ⟨id,0,none⟩) k.m k.m):=fun W' h=>by rw [h.cell (by subst hW;simp)];subst hW;simp [go_sem]
 clear hW
 refine (zN6 k.z k.x k.y fb fd k.fn B C k.F a.F c.F W (HF.out.below hB0) (HG.out.below hB0) HS.out.1).mono ?_
 rintro e w1 ⟨rfl,hb1⟩
 have g4:=c4 w1 hb1
 have l4:=d4 w1 hb1
 have hB1:Bw w w1:=zA hB0 hb1
 clear c4 d4 hb1 hB0
 go_wp2_with fail
 refine (zJn _ _ k.m _ _ k.I _ (HN.out.below hB1) (HM.out.below hB1) HS.out.2).mono ?_
 rintro e w2 ⟨rfl,hb2⟩
 have HB2:Hid (Bw w w2):=zA hB1 hb2
 clear hb2
 go_wp2
 go_ret
 exact ⟨rfl,HB2.out⟩
end Go.Proofs.YtpaiholildedcaaGreat
namespace Go.Proofs.YtpaiholildedcaaGreat
open Go.RowKit Go.Shelf
attribute [local go_sem] Oper.semAt_some
def KS (T Bs:Nat)(A B:World):Prop:=Below T A B∧B.heap[Bs]?=A.heap[Bs]?
theorem KS.refl (T Bs:Nat)(A:World):KS T Bs A A:=⟨Below.refl _ _,rfl⟩
theorem KS.trans {T Bs:Nat}{A B C:World}(h:KS T Bs A B)(k:KS T Bs B C):KS T Bs A C:=⟨h.1.trans k.1,k.2.trans h.2⟩
theorem KS.alloc {T Bs:Nat}{A B:World}(h:KS T Bs A B)(hT:T≤A.heap.size)(hB:Bs<A.heap.size)(o:Obj):KS T Bs A (B.alloc o):=⟨h.1.alloc (Nat.le_trans hT h.1.size) o,(Below.heap_alloc B o Bs (Nat.lt_of_lt_of_le hB h.1.size)).trans h.2⟩
theorem KS.cell {T Bs:Nat}{A B:World}(h:KS T Bs A B){v:Value}(hc:A.cell? ⟨Bs,0,none⟩=some v):B.cell? ⟨Bs,0,none⟩=some v:=(World.cell?_of_block (w:=A) (a:=⟨Bs,0,none⟩) h.2).trans hc
theorem KS.put {T Bs:Nat}{w:World}(hT:T≤w.heap.size)(hB:Bs<w.heap.size)(W:World)(l:Nat)(o o':Obj)(hl:w.heap.size≤l)(h1:W.heap[l]?=some o)(h2:o.isCells=false)(h3:o.isWalk=false):KS T Bs W (W.putObj l o'):=⟨belowK_b (w:=w) hT W l o o' hl h1 h2 h3,by
 have:=(belowK_b (w:=w) (n₀:=Bs+1) hB W l o o' hl h1 h2 h3).block Bs (Nat.lt_succ_self _)
 exact this⟩
theorem zAz {W W':World}{row:Option Nat}{b:Nat}{arr:Array Value}{t:TypeId}{fz:Nat × Nat}(h:W.heap[b]?=some (.cells arr t fz))(hg:W.grownBy W' row)(hr:∀ r,row=some r→∃ o:Obj,W.heap[r]?=some o∧o.isCells=false):W'.heap[b]?=some (.cells arr t fz):=by
 rw [hg.block b (yC h) (fun e=>by
  obtain ⟨o,ho,hc⟩:=hr b e.symm
  rw [h] at ho
  cases ho
  cases hc)]
 exact h
theorem zTf {W W':World}(h:Below W.heap.size W W'):KeepsOthers W W':=⟨h.size,fun k o hk _=>(h.block k (yC hk)).trans hk⟩
def uI (n k:Nat):List Nat:=(List.range k).map fun j=>n - 1 - j
theorem zGg (n k:Nat):uI n (k+1)=uI n k ++ [n - 1 - k]:=by simp [uI,List.range_succ]
theorem uV (n k:Nat):(uI n k).length=k:=by simp [uI]
theorem zJp (n k m:Nat)(h:k≤m):uI n k <+: uI n m:=by
 obtain ⟨d,rfl⟩:∃ d,m=k+d:=⟨m - k,by omega⟩
 unfold uI
 rw [List.range_add,List.map_append]
 exact List.prefix_append _ _
theorem zJq {n:Nat}{l:List Nat}(h:l <+: uI n n):l=uI n l.length∧l.length≤n:=by
 have hl:=h.length_le
 rw [uV] at hl
 have h1:=zJp n l.length n hl
 refine ⟨?_,hl⟩
 exact (List.prefix_of_prefix_length_le h h1 (by rw [uV];exact Nat.le_refl _)).eq_of_length (by rw [uV])
abbrev Pl (n:Nat):={ i:Nat // i<n }
theorem zD1 {C:Nat→Bool}{I:Nat→Int}:∀ {n:Nat},(∀ i,i<n→C i=false)→xK C I n=0
 | 0,_=>rfl
 | n+1,h=>by rw [xK,h n (by omega),if_neg (by simp)];exact zD1 fun i hi=>h i (by omega)
theorem zD0 {C:Nat→Bool}{I:Nat→Int}:∀ {n i:Nat},i<n→C i=true→(∀ j,i<j→j<n→C j=false)→xK C I n=I i
 | n+1,i,hi,h,hn=>by
  rw [xK]
  by_cases e:i=n
  ·subst e;rw [h,if_pos rfl]
  ·rw [hn n (by omega) (by omega),if_neg (by simp)]
   exact zD0 (by omega) h fun j h1 h2=>hn j h1 (by omega)
theorem zN2 {C:Nat→Bool}{I:Nat→Int}{n:Nat}{ys:List (Pl n)}(h:ys.map (·.1)=uI n n)(ha:∀ x ∈ ys,C x.1=false):xK C I n=0:=by
 refine zD1 fun i hi=>?_
 have hm:i ∈ ys.map (·.1):=by
  rw [h]
  unfold uI
  exact List.mem_map.2 ⟨n - 1 - i,List.mem_range.2 (by omega),by omega⟩
 obtain ⟨x,hx,rfl⟩:=List.mem_map.1 hm
 exact ha x hx
theorem zN1 {C:Nat→Bool}{I:Nat→Int}{n:Nat}{p:List (Pl n)}{x:Pl n}(h:(p ++ [x]).map (·.1) <+: uI n n)(ha:∀ y ∈ p,C y.1=false)(hx:C x.1=true):xK C I n=I x.1:=by
 obtain ⟨h1,h2⟩:=zJq h
 have hl:((p ++ [x]).map (·.1)).length=p.length+1:=by simp
 rw [hl] at h1 h2
 rw [zGg,List.map_append] at h1
 have e1:p.map (·.1)=uI n p.length:=by
  have:=List.append_inj_left h1 (by rw [uV];simp)
  exact this
 have e2:x.1=n - 1 - p.length:=by
  have:=List.append_inj_right h1 (by rw [uV];simp)
  simpa using this
 refine zD0 x.2 hx fun j h3 h4=>?_
 have hm:j ∈ p.map (·.1):=by
  rw [e1]
  unfold uI
  exact List.mem_map.2 ⟨n - 1 - j,List.mem_range.2 (by omega),by omega⟩
 obtain ⟨y,hy,rfl⟩:=List.mem_map.1 hm
 exact ha y hy
end Go.Proofs.YtpaiholildedcaaGreat
namespace Go.Proofs.YtpaiholildedcaaGreat
open Go.RowKit
end Go.Proofs.YtpaiholildedcaaGreat
namespace Go.Proofs.YtpaiholildedcaaGreat
open Go.RowKit Go.Shelf
attribute [local go_sem] Oper.semAt_some
structure Shp where
 id:Int
 ki:Int
 wi:Int
 g:Nat
 n:Nat
 cg:Nat
 X:Nat→Int
 Y:Nat→Int
abbrev shpV (z:Int)(s:Shp):Value:=.agg #[.int .i64 s.id,.func (.func (byF s.ki)) #[] #[],.slice (some ⟨s.g,0,none⟩) s.n s.cg,.int .i64 (yD s.wi z)]
def ShpC (w:World)(p o:Nat)(z:Int)(s:Shp):Prop:=w.cell? ⟨p,o,none⟩=some (.int .i64 s.id)∧w.cell? ⟨p,o+1,none⟩=some (.func (.func (byF s.ki)) #[] #[])∧w.cell? ⟨p,o+2,none⟩=some (.slice (some ⟨s.g,0,none⟩) s.n s.cg)∧w.cell? ⟨p,o+3,none⟩=some (.int .i64 (yD s.wi z))
def zJ9 (w:World)(T:Nat)(s:Shp):Prop:=s.g<T∧0<s.n∧s.n≤40∧s.n≤s.cg∧zK w s.g 0 s.n (px (xH s.X s.Y s.n)) (py (xH s.X s.Y s.n))
theorem zJ9.below {w w':World}{T:Nat}{s:Shp}(h:zJ9 w T s)(hb:Below T w w'):zJ9 w' T s:=⟨h.1,h.2.1,h.2.2.1,h.2.2.2.1,h.2.2.2.2.below hb h.1⟩
def zQ0 (w:World)(T p n:Nat)(z:Int)(S:Nat→Shp):Prop:=p<T∧∀ i,i<n→ShpC w p (i * 4) z (S i)∧zJ9 w T (S i)
theorem zQ0.below {w w':World}{T p n:Nat}{z:Int}{S:Nat→Shp}(h:zQ0 w T p n z S)(hb:Below T w w'):zQ0 w' T p n z S:=⟨h.1,fun i hi=>by
 obtain ⟨⟨h0,h1,h2,h3⟩,hp⟩:=h.2 i hi
 exact ⟨⟨(hb.cell (p:=⟨p,i * 4,none⟩) h.1).trans h0,(hb.cell (p:=⟨p,i * 4+1,none⟩) h.1).trans h1,(hb.cell (p:=⟨p,i * 4+2,none⟩) h.1).trans h2,(hb.cell (p:=⟨p,i * 4+3,none⟩) h.1).trans h3⟩,hp.below hb⟩⟩
def zS2 (T:Nat)(w:World)(v:Value)(n:Nat)(z:Int)(S:Nat→Shp):Prop:=(v=.slice none 0 0∧n=0)∨∃ p cap,v=.slice (some ⟨p,0,none⟩) n cap∧zQ0 w T p n z S
theorem zS2.below {T:Nat}{w w':World}{v:Value}{n:Nat}{z:Int}{S:Nat→Shp}(h:zS2 T w v n z S)(hb:Below T w w'):zS2 T w' v n z S:=by
 rcases h with h | ⟨p,cap,e,hs⟩
 ·exact .inl h
 ·exact .inr ⟨p,cap,e,hs.below hb⟩
abbrev encS (z:Int)(S:Nat→Shp)(i:Nat):Array Value:=#[.int .i64 (i:Int),shpV z (S i)]
theorem zS0 (l Bs T p n cap:Nat)(z:Int)(S:Nat→Shp)(hn:n≤1048576)(J Jx:List (Pl n)→World→Prop)(W:World)(hY:∀ pre (x:Pl n) W1,J pre W1→pre.length<n→YieldAt Fence.wide 2 Tryz.prog l (encS z S x.1) W1 fun e W'=>(e=.returned (.bool true)∧J (pre ++ [x]) W'∧KS T Bs W1 W')∨(e=.returned (.bool false)∧Jx (pre ++ [x]) W'))(hc:W.cell? ⟨Bs,0,none⟩=some (.slice (some ⟨p,0,none⟩) n cap))(hS:zQ0 W T p n z S)(h0:J [] W) :
  CallsIn Fence.wide 3 Tryz.prog 274 #[.func (.yield l) #[] #[],.pointer (some ⟨Bs,0,none⟩)] W fun e W'=>(∃ v,e=.returned v)∧((∃ ys,ys.map (·.1)=uI n n∧J ys W')∨(∃ pre,pre.map (·.1) <+: uI n n∧Jx pre W')):=by
 refine callsIn_of_wp Tryz.func274 rfl trivial ?_ rfl
 simp only [Tryz.ntmps274,List.size_toArray,List.length_cons,List.length_nil,Nat.reduceAdd,Nat.reduceSub,Array.replicate_succ,Array.replicate_zero,List.push_toArray,List.append_toArray,List.nil_append,List.cons_append]
 have hn0:IntKind.i64.wrap ((n:Int) - 1)=(n:Int) - 1:=IntWalk.i64_in _ (by omega)
 gi_wp2
 gi_loopw [3] (fun i wr=>∃ (k:Nat) (s:List (Pl n)),k≤n∧i=.int .i64 ((n:Int) - 1 - (k:Int))∧s.map (·.1)=uI n k∧J s wr∧KS T Bs W wr) (fun i _=>(intOf i+1).toNat)
 case atStart=>exact ⟨0,[],Nat.zero_le _,by simp [hn0],rfl,h0,KS.refl _ _ _⟩
 case round =>
  obtain ⟨k,s,hk,hi,hs,hJs,hB⟩:=hrel
  have hcr:=hB.cell hc
  by_cases hlt:k<n
  ·obtain ⟨m,hm⟩:∃ m:Nat,m=n - 1 - k:=⟨_,rfl⟩
   have em:(n:Int) - 1 - (k:Int)=(m:Int):=by omega
   rw [em] at hi
   subst hi
   have hmn:m<n:=by omega
   obtain ⟨⟨q0,q1,q2,q3⟩,hP⟩:=(hS.below hB.1).2 m hmn
   have hsl:s.length=k:=by have:=congrArg List.length hs;rw [uV] at this;simpa using this
   obtain ⟨fn,tmps,assign,body,hy,hR⟩:=hY s ⟨m,hmn⟩ wr hJs (by omega)
   have hi1:(m:Int)<(n:Int):=by omega
   have hi0:(0:Int)≤(m:Int):=by omega
   have hm1:IntKind.i64.wrap ((m:Int) - 1)=(m:Int) - 1:=IntWalk.i64_in _ (by omega)
   have HS:Hid ((s ++ [(⟨m,hmn⟩:Pl n)]).map (fun x:Pl n=>x.1)=uI n (k+1)):=by show _=_;rw [zGg,← hm];simp [hs]
   have HM:Hid (m=n - 1 - k):=hm
   clear hm em
   gi_wp2
   refine hR.mono ?_
   rintro e W3 (⟨rfl,hJ3,hk3⟩ | ⟨rfl,hJx3⟩)
   ·gi_wp2
    go_roundw
    case rel=>exact ⟨k+1,s ++ [⟨m,hmn⟩],by omega,by have:=HM.out;first | (rw [hm1];congr 1;omega) | (congr 1;omega),HS.out,hJ3,hB.trans hk3⟩
    case measure=>have:=HM.out;simp [intOf] <;> omega
   ·gi_wp2
    refine bodyPost_ret (results_none rfl _ _ _) rfl ?_
    exact ⟨⟨_,rfl⟩,.inr ⟨_,by rw [HS.out];exact zJp _ _ _ (by omega),hJx3⟩⟩
  ·obtain rfl:k=n:=by omega
   have em:(k:Int) - 1 - (k:Int)=-1:=by omega
   rw [em] at hi
   subst hi
   gi_wp2
   go_end0
   exact ⟨⟨_,rfl⟩,.inl ⟨s,hs,hJs⟩⟩
theorem zQz (l Bs:Nat)(W:World)(hBs:W.cell? ⟨Bs,0,none⟩=some (.slice none 0 0)) :
  CallsIn Fence.wide 3 Tryz.prog 274 #[.func (.yield l) #[] #[],.pointer (some ⟨Bs,0,none⟩)] W fun e W'=>(∃ v,e=.returned v)∧W=W':=by
 refine callsIn_of_wp Tryz.func274 rfl trivial ?_ rfl
 simp only [Tryz.ntmps274,List.size_toArray,List.length_cons,List.length_nil,Nat.reduceAdd,Nat.reduceSub,Array.replicate_succ,Array.replicate_zero,List.push_toArray,List.append_toArray,List.nil_append,List.cons_append]
 gi_wp2
 gi_loopw [3] (fun i wr=>i=.int .i64 (-1)∧W=wr) (fun _ _=>0)
 case atStart=>exact ⟨by first | rfl | (congr 1;decide),rfl⟩
 case round =>
  obtain ⟨rfl,rfl⟩:=hrel
  gi_wp2
  go_end0
  exact ⟨⟨_,rfl⟩,rfl⟩
theorem zOg (Bs T n:Nat)(v:Value)(z:Int)(S:Nat→Shp)(hn:n≤1048576)(w:World)(hBs:Bs<w.heap.size)(hT:T≤w.heap.size)(hc:w.cell? ⟨Bs,0,none⟩=some v)(hS:zS2 T w v n z S) :
  SeqStopsK Fence.wide 3 Tryz.prog 274 #[.pointer (some ⟨Bs,0,none⟩)] (fun x:Pl n=>encS z S x.1) (KS T Bs) (fun ys=>ys.map (·.1)=uI n n) (fun pre=>pre.map (·.1) <+: uI n n) n w:=fun l J Jx W hW hJ hJx hY h0=>by
 have hc':=(hW.cell (p:=⟨Bs,0,none⟩) hBs).trans hc
 rcases hS.below (hW.mono hT) with ⟨rfl,rfl⟩ | ⟨p,cap,rfl,hs⟩
 ·exact (zQz l Bs W hc').mono fun e W' ⟨he,hw⟩=>⟨he,.inl ⟨[],rfl,hw ▸ h0⟩⟩
 ·exact zS0 l Bs T p n cap z S hn J Jx W hY hc' hs h0
theorem zJ1 (a:Option Addr)(n cap:Nat)(w:World):Calls Tryz.prog 246 #[.slice a n cap] w fun e w'=>e=.returned (.func (.func 274) #[] #[.pointer (some ⟨w.heap.size,0,none⟩)])∧w'=w.alloc (.cells #[.slice a n cap] 259):=by
 go_enter Tryz.func246,Tryz.ntmps246
 go_wp2
 go_ret
 exact ⟨rfl,rfl⟩
def zQq (z cx cy:Int)(S:Nat→Shp)(i:Nat):Bool:=uA (S i).ki (S i).wi z cx cy (xH (S i).X (S i).Y (S i).n)
def zOn (w:World)(sv:Value)(cx cy:Int)(C:Nat→Bool){n:Nat}(pre:List (Pl n))(W:World):Prop :=
 (W.heap[w.heap.size]?=some (.cells #[.int .i64 cx,.int .i64 cy] 215 (0,0))∧Boxed W (w.heap.size+1) 2 (.int .i64 0)∧Boxed W (w.heap.size+1+1) 259 sv∧(∀ x ∈ pre,C x.1=false))∧Bw w W
theorem zOn.own (w:World)(sv:Value)(cx cy:Int)(C:Nat→Bool)(n B:Nat)(hB:w.heap.size≤B):OwnFrom B (zOn w sv cx cy C (n:=n)):=fun pre W W' row h hg hr=>by
 obtain ⟨⟨h1,h2,h3,h4⟩,h6⟩:=h
 have hr':=fun r e=>(hr r e).2
 exact ⟨⟨zAz h1 hg hr',zAz h2 hg hr',zAz h3 hg hr',h4⟩,(ownFrom_below (β:=Unit) (Nat.le_refl _) hB) () W W' row h6 hg hr⟩
theorem zOn.below {w W W':World}{sv:Value}{cx cy:Int}{C:Nat→Bool}{n:Nat}{pre:List (Pl n)}(h:zOn w sv cx cy C pre W)(hb:Below W.heap.size W W'):zOn w sv cx cy C pre W':=by
 obtain ⟨⟨h1,h2,h3,h4⟩,h6⟩:=h
 exact ⟨⟨(hb.block _ (yC h1)).trans h1,(hb.block _ (yC h2)).trans h2,(hb.block _ (yC h3)).trans h3,h4⟩,zA h6 hb⟩
theorem zOn.no {w W:World}{sv:Value}{cx cy:Int}{C:Nat→Bool}{n:Nat}{pre:List (Pl n)}{x:Pl n}(h:zOn w sv cx cy C pre W)(hx:C x.1=false):zOn w sv cx cy C (pre ++ [x]) W:=by
 obtain ⟨⟨h1,h2,h3,h4⟩,h6⟩:=h
 refine ⟨⟨h1,h2,h3,fun y hy=>?_⟩,h6⟩
 rcases List.mem_append.1 hy with hy | hy
 ·exact h4 y hy
 ·obtain rfl:y=x:=by simpa using hy
  exact hx
def FrEx (w:World)(C:Nat→Bool)(I:Nat→Int){n:Nat}(c:Code)(pre:List (Pl n))(W:World):Prop :=
 (c=.ret∧∃ (p:List (Pl n)) (x:Pl n),pre=p ++ [x]∧(∀ y ∈ p,C y.1=false)∧C x.1=true∧Boxed W (w.heap.size+1) 2 (.int .i64 (I x.1)))∧Bw w W
theorem zLi (a:Option Addr)(n cap:Nat)(z cx cy:Int)(S:Nat→Shp)(w:World)(hS:zS2 w.heap.size w (.slice a n cap) n z S)(hP:∀ i,i<n→zJ9 w w.heap.size (S i))(hn:n≤1048576) :
  Calls Tryz.prog 211 #[.slice a n cap,.agg #[.int .i64 cx,.int .i64 cy]] w fun e w'=>e=.returned (.int .i64 (xK (zQq z cx cy S) (fun i=>(S i).id) n))∧Bw w w':=by
 refine (callsIn_wide (n:=4)).1 ?_
 refine callsIn_of_wp_marks Tryz.func211 rfl trivial ?_ rfl
 simp only [Tryz.ntmps211,List.size_toArray,List.length_cons,List.length_nil,Nat.reduceAdd,Nat.reduceSub,Array.replicate_succ,Array.replicate_zero,List.push_toArray,List.append_toArray,List.nil_append,List.cons_append]
 gi_wp2_with (refine ⟨trivial,?_⟩;gi_at_call 246;refine (callsIn_wide.2 (zJ1 _ _ _ _)).mono ?_;rintro e w' ⟨rfl,rfl⟩)
 obtain ⟨W0,hW0⟩:∃ W0,(((w.alloc (.cells #[.int .i64 cx,.int .i64 cy] 215)).alloc (.cells #[.int .i64 0] 2)).alloc (.cells #[.slice a n cap] 259):World)=W0:=⟨_,rfl⟩
 have o0:W0.heap[w.heap.size]?=some (.cells #[.int .i64 cx,.int .i64 cy] 215 (0,0)):=by
  rw [← hW0]
  rw [Below.heap_alloc _ _ _ (by simp <;> omega),Below.heap_alloc _ _ _ (by simp)]
  exact World.alloc_heap_new w _
 have b1:Boxed W0 (w.heap.size+1) 2 (.int .i64 0):=by
  rw [← hW0]
  have:=(Boxed.new (w.alloc (.cells #[.int .i64 cx,.int .i64 cy] 215)) 2 (.int .i64 0)).alloc (.cells #[.slice a n cap] 259)
  simpa using this
 have b2:Boxed W0 (w.heap.size+1+1) 259 (.slice a n cap):=by
  rw [← hW0]
  have:=Boxed.new ((w.alloc (.cells #[.int .i64 cx,.int .i64 cy] 215)).alloc (.cells #[.int .i64 0] 2)) 259 (.slice a n cap)
  simpa using this
 have hB0:Bw w W0:=by rw [← hW0];exact Qb
 have hsz:W0.heap.size=w.heap.size+3:=by rw [← hW0];simp
 rw [hW0]
 clear hW0
 have st0:zOn w (.slice a n cap) cx cy (zQq z cx cy S) (n:=n) [] W0:=⟨⟨o0,b1,b2,fun x hx=>by cases hx⟩,hB0⟩
 refine wpIn_rangeFunc_ownH rfl (by omega) (gf:=274) (lb:=#[.pointer (some ⟨w.heap.size+1+1,0,none⟩)]) rfl trivial (enters_of Tryz.func274 (by kernel_rfl) rfl)
  (zOg (w.heap.size+1+1) w.heap.size n (.slice a n cap) z S hn W0 (by omega) (by omega) b2.cell (hS.below hB0)) (fun h k=>KS.trans h k) (KS.put (by omega) (by omega)) (Below.refl _ _) (fun _=>rfl)
  (fun pre W=>zOn w (.slice a n cap) cx cy (zQq z cx cy S) pre W)
  (fun c pre W=>FrEx w (zQq z cx cy S) (fun i=>(S i).id) c pre W)
  (zOn.own w _ cx cy _ n _ (by omega))
  ?hIx
  st0
  (fun x a' W=>∃ Bx,W.heap[Bx]?=some (.cells #[.int .i64 (S x.1).id,.func (.func (byF (S x.1).ki)) #[] #[],.slice (some ⟨(S x.1).g,0,none⟩) (S x.1).n (S x.1).cg,.int .i64 (yD (S x.1).wi z)] 263 (0,0))∧a'={ tmps:=#[.slice a n cap,.agg #[.int .i64 cx,.int .i64 cy],undef,.pointer (some ⟨w.heap.size,0,none⟩),.pointer (some ⟨w.heap.size+1,0,none⟩),undef,.pointer (some ⟨Bx,0,none⟩),.slice a n cap,.func (.func 274) #[] #[.pointer (some ⟨w.heap.size+1+1,0,none⟩)],.int .i64 (x.1:Int),shpV z (S x.1),undef,undef,undef,undef,undef],defers:=[] })
  ?hAx ?assign ?body ?done ?stop
 case hIx =>
  rintro c pre A B row ⟨⟨hc,p,x,e1,e2,e3,e4⟩,hB⟩ hg hr
  exact ⟨⟨hc,p,x,e1,e2,e3,zAz e4 hg (fun r e=>(hr r e).2)⟩,(ownFrom_below (β:=Unit) (Nat.le_refl _) (by omega)) () A B row hB hg hr⟩
 case hAx =>
  rintro x a' _ X Y row ⟨Bx,e1,e2⟩ hg hr
  exact ⟨Bx,zAz e1 hg (fun r e=>(hr r e).2),e2⟩
 case assign =>
  rintro l pre x W K hst hK
  have hK2:=hK { tmps:=#[.slice a n cap,.agg #[.int .i64 cx,.int .i64 cy],undef,.pointer (some ⟨w.heap.size,0,none⟩),.pointer (some ⟨w.heap.size+1,0,none⟩),undef,.pointer (some ⟨W.heap.size,0,none⟩),.slice a n cap,.func (.func 274) #[] #[.pointer (some ⟨w.heap.size+1+1,0,none⟩)],.int .i64 (x.1:Int),shpV z (S x.1),undef,undef,undef,undef,undef],defers:=[] } (W.alloc (.cells #[.int .i64 (S x.1).id,.func (.func (byF (S x.1).ki)) #[] #[],.slice (some ⟨(S x.1).g,0,none⟩) (S x.1).n (S x.1).cg,.int .i64 (yD (S x.1).wi z)] 263))
   ((KeepsOthers.alloc _ _).from _) ((KS.refl _ _ _).alloc hst.2.size hst.1.2.2.1.lt _) (hst.below (xD (Below.refl _ _) _)) ⟨_,World.alloc_heap_new W _,rfl⟩
  have hsf:∀ (ad:Addr) (m:Mode) (w:World),(store ad (.func (.func (byF (S x.1).ki)) #[] #[]) m).run Tryz.prog w=stored Tryz.prog w ad (.func (.func (byF (S x.1).ki)) #[] #[]) m:=fun ad m w=>run_store Tryz.prog w ad _ m rfl
  simp only [encS,shpV] at *
  have hsem:∀ (ρ:Operand→Value) (o:Oper),(∀ c,o.op≠.defer c)→Oper.semAt (some l) ρ o=execOp ρ o:=fun ρ o h=>Oper.semAt_some l ρ o h
  gi_wp2
  exact hK2
 case body =>
  rintro l pre x a' W hl hlr hst ⟨Bx,hE,rfl⟩ hlt
  have HST:Hid (zOn w (.slice a n cap) cx cy (zQq z cx cy S) pre W):=hst
  have hPx:=(hP x.1 x.2).below hst.2
  have e0:W.cell? ⟨Bx,0,none⟩=some (.int .i64 (S x.1).id):=by simp [World.cell?,hE]
  have e1:W.cell? ⟨Bx,1,none⟩=some (.func (.func (byF (S x.1).ki)) #[] #[]):=by simp [World.cell?,hE]
  have e2:W.cell? ⟨Bx,2,none⟩=some (.slice (some ⟨(S x.1).g,0,none⟩) (S x.1).n (S x.1).cg):=by simp [World.cell?,hE]
  have e3:W.cell? ⟨Bx,3,none⟩=some (.int .i64 (yD (S x.1).wi z)):=by simp [World.cell?,hE]
  have b0:W.cell? ⟨w.heap.size,0,none⟩=some (.int .i64 cx):=by simp [World.cell?,hst.1.1]
  have b1:W.cell? ⟨w.heap.size,1,none⟩=some (.int .i64 cy):=by simp [World.cell?,hst.1.1]
  have HSZ:Hid (w.heap.size≤W.heap.size):=hst.2.size
  have HMC:Hid (Calls Tryz.prog 247 #[shpV z (S x.1),.agg #[.int .i64 cx,.int .i64 cy]] W fun e w'=>e=.returned (.bool (zQq z cx cy S x.1))∧Bw W w'):=zN9 (S x.1).id (S x.1).ki (S x.1).wi z cx cy (S x.1).g (S x.1).n (S x.1).cg (S x.1).X (S x.1).Y W hPx.2.2.2.2 (Nat.lt_of_lt_of_le hPx.1 hst.2.size) hPx.2.1 hPx.2.2.1 hPx.2.2.2.1
  clear hst hPx
  obtain ⟨mb,hmb⟩:∃ mb,zQq z cx cy S x.1=mb:=⟨_,rfl⟩
  have HMB:Hid (zQq z cx cy S x.1=mb):=hmb
  rw [hmb] at HMC
  clear hmb
  have hsem:∀ (ρ:Operand→Value) (o:Oper),(∀ c,o.op≠.defer c)→Oper.semAt (some l) ρ o=execOp ρ o:=fun ρ o h=>Oper.semAt_some l ρ o h
  cases mb
  ·gi_wp2_with (refine ⟨trivial,?_⟩;gi_at_call 247;refine ((callsIn_wide.2 HMC.out).inRound l).mono ?_;rintro e W1 ⟨rfl,hbm⟩)
   exact ⟨(zTf hbm).from _,⟨hbm.mono HSZ.out,hbm.block _ HST.out.1.2.2.1.lt⟩,(HST.out.below hbm).no HMB.out⟩
  ·gi_wp2_with (refine ⟨trivial,?_⟩;gi_at_call 247;refine ((callsIn_wide.2 HMC.out).inRound l).mono ?_;rintro e W1 ⟨rfl,hbm⟩;have hE1:=(hbm.block _ (yC hE)).trans hE;have g0:W1.cell? ⟨Bx,0,none⟩=some (.int .i64 (S x.1).id):=(by simp [World.cell?,hE1]);have bR:=(HST.out.below hbm).1.2.1;have cR:=bR.cell;have fR:=bR.frozen)
   exact ⟨((zTf hbm).trans (KeepsOthers.setCell _ _ _)).from _,⟨rfl,pre,x,rfl,HST.out.1.2.2.2,HMB.out,bR.set _⟩,(HST.out.below hbm).2.setCell (p:=⟨w.heap.size+1,0,none⟩) (by simp) _⟩
 case done =>
  rintro D ys W hD hys ⟨⟨o0,bR,bS,hall⟩,hB⟩ hK
  have cR:=bR.cell
  have fR:=bR.frozen
  gi_wp2
  have hK':=(KeepsOthers.setCell W ⟨w.heap.size+1,0,none⟩ (.int .i64 0)).same D _ hK rfl
  refine ⟨by simp,.inl ⟨_,_,rfl,run_takeDeferred hK',?_⟩⟩
  have hc5:=cell_kept (World.cell?_setCell_same' W ⟨w.heap.size+1,0,none⟩ (.int .i64 0) (by rw [cR];rfl)) (grownBy_putObj' _ D (.deferred none)) (fun r e=>by cases e;exact ⟨_,hK',rfl⟩)
  refine ⟨.int .i64 0,?_,by rw [zN2 hys hall],(hB.setCell (p:=⟨w.heap.size+1,0,none⟩) (by simp) _).trans (belowK_b (w:=w) (Nat.le_refl _) _ D _ _ (by omega) hK' rfl rfl)⟩
  simp [results,Tryz.f211,go_sem,hc5]
 case stop =>
  rintro D c pre W hD hpre ⟨⟨rfl,p,x,rfl,hall,hx,bR⟩,hB⟩ hK
  have cR:=bR.cell
  gi_wp2
  refine ⟨by simp,.inl ⟨_,_,rfl,run_takeDeferred hK,?_⟩⟩
  have hc5:=cell_kept cR (grownBy_putObj' _ D (.deferred none)) (fun r e=>by cases e;exact ⟨_,hK,rfl⟩)
  refine ⟨.int .i64 (S x.1).id,?_,by rw [zN1 hpre hall hx],hB.trans (belowK_b (w:=w) (Nat.le_refl _) W D _ _ (by omega) hK rfl rfl)⟩
  simp [results,Tryz.f211,go_sem,hc5]
end Go.Proofs.YtpaiholildedcaaGreat
namespace Go.Proofs.YtpaiholildedcaaGreat
open Go.RowKit
def OwnR (w:World)(lo hi:Nat)(a:Option Addr)(m:Nat)(N C:Nat→Nat):Prop:=m=0∨∃ g q,a=some ⟨g,0,none⟩∧zAm w lo hi g m N C q
theorem OwnR.away {w w':World}{lo hi lo' hi' m:Nat}{a:Option Addr}{N C:Nat→Nat}(h:OwnR w lo hi a m N C)(hm:zW lo' hi' w w')(ho:hi'≤lo∨hi≤lo'):OwnR w' lo hi a m N C:=by
 rcases h with h | ⟨g,q,e,hq⟩
 ·exact .inl h
 ·exact .inr ⟨g,q,e,hq.away hm ho⟩
theorem zKy (a:Option Addr)(cap:Nat)(k:Int)(w:World) :
  Calls Tryz.prog 150 #[.slice a 0 cap,.int .i64 k] w fun e w'=>e=.returned (.int .i64 k)∧w=w':=by
 go_enter Tryz.func150,Tryz.ntmps150
 go_wp2_with fail
 go_loopw [1,5] (fun kk i wr=>kk=.int .i64 k∧i=.int .i64 0∧w=wr) (fun _ _ _=>0)
 case atStart=>exact ⟨rfl,rfl,rfl⟩
 case round =>
  obtain ⟨rfl,rfl,rfl⟩:=hrel
  go_wp2
  go_ret
  exact ⟨rfl,rfl⟩
theorem zAm.wideQ {w:World}{lo hi lo' b n:Nat}{N C q:Nat→Nat}(h:zAm w lo hi b n N C q)(hl:lo'≤lo):zAm w lo' hi b n N C q:=by
 obtain ⟨⟨h1,h2,h3⟩,h4,h5,h6⟩:=h
 exact ⟨⟨by omega,h2,h3⟩,h4,fun i hi=>⟨⟨by have:=(h5 i hi).1;omega,(h5 i hi).1.2⟩,(h5 i hi).2⟩,h6⟩
theorem zAm.atQ {w:World}{lo hi hi' b n:Nat}{N C q:Nat→Nat}(h:zAm w lo hi b n N C q)(e:hi'=hi):zAm w lo hi' b n N C q:=by rw [e];exact h
theorem zMx (z x y:Int)(a:Option Addr)(n cap:Nat)(F:Nat→zS)(w:World)(hp:zMs w a n F)(hmax:n≤1048576)(hall:∀ i,i<n→(F i).n≤1048576) :
  Calls Tryz.prog 188 #[zOx z x y (.slice a n cap)] w fun e w'=>∃ b G,e=.returned (zOx z x y (.slice (some ⟨b,0,none⟩) n n))∧xX w' w.heap.size b n F G∧(∃ q,zAm w' w.heap.size w'.heap.size b n (fun i=>(F i).n) (fun i=>(F i).n) q)∧Bw w w':=by
 have HF:Hid (zMs w a n F):=hp
 have HA:Hid (∀ i,i<n→(F i).n≤1048576):=hall
 clear hp hall
 go_enter Tryz.func188,Tryz.ntmps188
 go_wp2_with fail
 generalize hW:(((w.alloc _).alloc _).alloc _:World)=W
 have hB0:Bw w W:=by subst hW;exact Qb
 have HT:Hid (zD W (w.heap.size+1) 4):=by
  show zD _ _ _
  subst hW
  have:=(zKm (w.alloc (.cells #[.int .i64 z,.int .i64 x,.int .i64 y,.slice a n cap] 189)) (.int .i64 0) (.int .i64 0) (.int .i64 0) (.slice none 0 0) 139).below (xD (Below.refl _ _) (.cells #[.int .i64 0,.int .i64 0,.int .i64 0,.slice none 0 0] 139))
  simpa using this
 have HU:Hid (zD W (w.heap.size+1+1) 4):=by
  show zD _ _ _
  subst hW
  have:=zKm ((w.alloc (.cells #[.int .i64 z,.int .i64 x,.int .i64 y,.slice a n cap] 189)).alloc (.cells #[.int .i64 0,.int .i64 0,.int .i64 0,.slice none 0 0] 139)) (.int .i64 0) (.int .i64 0) (.int .i64 0) (.slice none 0 0) 139
  simpa using this
 have c3:W.cell? ⟨w.heap.size,3,none⟩=some (.slice a n cap):=by subst hW;simp [go_sem]
 have hsz:w.heap.size+1+1<W.heap.size:=by subst hW;simp
 clear hW
 refine (zH9 _ _ _ _).mono ?_
 rintro e w1 ⟨rfl,hb1⟩
 have d3:w1.cell? ⟨w.heap.size,3,none⟩=some (.slice a n cap):=zH hb1 c3
 have HT1:Hid (zD w1 (w.heap.size+1) 4):=HT.out.below hb1
 have HU1:Hid (zD w1 (w.heap.size+1+1) 4):=HU.out.below hb1
 have hB1:Bw w w1:=zA hB0 hb1
 have hsz1:w.heap.size+1+1<w1.heap.size:=Nat.lt_of_lt_of_le hsz hb1.size
 clear c3 HT HU hB0 hb1 hsz
 have hT':=HU1.out
 have t0:=hT'.cell 0 (by omega)
 have t1:=hT'.cell 1 (by omega)
 have t2:=hT'.cell 2 (by omega)
 have t3:=hT'.cell 3 (by omega)
 have f0:=(hT' 0 (by omega)).2
 have f1:=(hT' 1 (by omega)).2
 have f2:=(hT' 2 (by omega)).2
 have f3:=(hT' 3 (by omega)).2
 clear hT'
 go_wp2_with fail
 generalize hW2:(((w1.setCell ⟨w.heap.size+1+1,0,none⟩ (.int .i64 z)).setCell ⟨w.heap.size+1+1,1,none⟩ (.int .i64 x)).setCell ⟨w.heap.size+1+1,2,none⟩ (.int .i64 y))=w2
 obtain ⟨g0,g1,g2⟩:w2.cell? ⟨w.heap.size+1+1,0,none⟩=some (.int .i64 z)∧w2.cell? ⟨w.heap.size+1+1,1,none⟩=some (.int .i64 x)∧w2.cell? ⟨w.heap.size+1+1,2,none⟩=some (.int .i64 y):=by
  rw [← hW2]
  exact zRk t0 t1 t2
 have HU2:Hid (zD w2 (w.heap.size+1+1) 4):=by
  show zD _ _ _
  rw [← hW2]
  exact ((HU1.out.set _ _).set _ _).set _ _
 have hM2:zW w.heap.size (w.heap.size+1+1+1) w1 w2:=by
  rw [← hW2]
  exact (((zW.refl _ _ _).set (by omega) (by omega) _ _).set (by omega) (by omega) _ _).set (by omega) (by omega) _ _
 have HT2:Hid (zD w2 (w.heap.size+1) 4):=by
  show zD _ _ _
  rw [← hW2]
  exact ((HT1.out.otherJ (by omega)).otherJ (by omega)).otherJ (by omega)
 have hB2:Bw w w2:=hB1.trans (hM2.below (by omega))
 have hsz2:w.heap.size+1+1<w2.heap.size:=Nat.lt_of_lt_of_le hsz1 hM2.size
 clear hW2 hM2 t0 t1 t2 t3 f0 f1 f2 f3 HU1 HT1 hB1 d3 hsz1
 refine (zE7 a n cap F _ (HF.out.below hB2) hmax HA.out).mono ?_
 rintro e w3 ⟨b,G,rfl,hO3,⟨q3,hQ3⟩,hb3⟩
 have HQ3:Hid (zAm w3 w2.heap.size w3.heap.size b n (fun i=>(F i).n) (fun i=>(F i).n) q3):=hQ3
 clear hQ3
 have k0:=zH hb3 g0
 have k1:=zH hb3 g1
 have k2:=zH hb3 g2
 have hT3:=HT2.out.below hb3
 have hU3:=HU2.out.below hb3
 have hz3:=(hU3 3 (by omega)).2
 obtain ⟨u3,k3⟩:=(hU3 3 (by omega)).1
 have HO3:Hid (xX w3 w2.heap.size b n F G):=hO3
 have hsz3:w.heap.size+1+1<w3.heap.size:=Nat.lt_of_lt_of_le hsz2 hb3.size
 have HB3:Hid (Bw w w3):=zA hB2 hb3
 have hne:∀ i j:Nat,i≠j→(⟨w.heap.size+1+1,i,none⟩:Addr)≠⟨w.heap.size+1+1,j,none⟩:=fun i j hij h=>hij (by injection h)
 have i0:(w3.setCell ⟨w.heap.size+1+1,3,none⟩ (.slice (some ⟨b,0,none⟩) n n)).cell? ⟨w.heap.size+1+1,0,none⟩=some (.int .i64 z):=by rw [zB (hne _ _ (by omega))];exact k0
 have i1:(w3.setCell ⟨w.heap.size+1+1,3,none⟩ (.slice (some ⟨b,0,none⟩) n n)).cell? ⟨w.heap.size+1+1,1,none⟩=some (.int .i64 x):=by rw [zB (hne _ _ (by omega))];exact k1
 have i2:(w3.setCell ⟨w.heap.size+1+1,3,none⟩ (.slice (some ⟨b,0,none⟩) n n)).cell? ⟨w.heap.size+1+1,2,none⟩=some (.int .i64 y):=by rw [zB (hne _ _ (by omega))];exact k2
 have i3:(w3.setCell ⟨w.heap.size+1+1,3,none⟩ (.slice (some ⟨b,0,none⟩) n n)).cell? ⟨w.heap.size+1+1,3,none⟩=some (.slice (some ⟨b,0,none⟩) n n):=zG k3
 have HT4:Hid (zD (w3.setCell ⟨w.heap.size+1+1,3,none⟩ (.slice (some ⟨b,0,none⟩) n n)) (w.heap.size+1) 4):=hT3.otherJ (by omega)
 have hT':=HT4.out
 have t0:=hT'.cell 0 (by omega)
 have t1:=hT'.cell 1 (by omega)
 have t2:=hT'.cell 2 (by omega)
 have t3:=hT'.cell 3 (by omega)
 have f0:=(hT' 0 (by omega)).2
 have f1:=(hT' 1 (by omega)).2
 have f2:=(hT' 2 (by omega)).2
 have f3:=(hT' 3 (by omega)).2
 clear hT' g0 g1 g2 HT2 HU2 hB2 hO3 hb3 hT3 hU3 hne k0 k1 k2 HF HA
 go_wp2_with fail
 refine bodyPost_ret (resTT _ _ _ _ _ _ _ rfl (zAt HT4.out).1 (zAt HT4.out).2.1 (zAt HT4.out).2.2.1 (zAt HT4.out).2.2.2) rfl ⟨b,G,rfl,?_,?_,?_⟩
 ·exact HO3.out.midB (lo:=w.heap.size) (hi:=w.heap.size+1+1+1) (((((((zW.refl _ _ _).set (by omega) (by omega) _ _).set (by omega) (by omega) _ _).set (by omega) (by omega) _ _).set (by omega) (by omega) _ _).set (by omega) (by omega) _ _)) (by omega) (by omega)
 ·refine ⟨q3,zAm.atQ (hi:=w3.heap.size) (zAm.wideQ (lo:=w2.heap.size) (zAm.away (lo':=w.heap.size) (hi':=w.heap.size+1+1+1) HQ3.out ?_ (.inl (by omega))) (by omega)) (by simp)⟩
  exact (((((((zW.refl _ _ _).set (by omega) (by omega) _ _).set (by omega) (by omega) _ _).set (by omega) (by omega) _ _).set (by omega) (by omega) _ _).set (by omega) (by omega) _ _))
 ·have HB:=HB3.out
  exact Qb
end Go.Proofs.YtpaiholildedcaaGreat
