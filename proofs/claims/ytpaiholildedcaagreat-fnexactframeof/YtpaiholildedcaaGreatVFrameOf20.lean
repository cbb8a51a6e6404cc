/- Texts. -/
import Derived.Test.YtpaiholildedcaaGreatVFrameOf19
set_option linter.unusedSimpArgs false
set_option linter.unusedVariables false
set_option maxRecDepth 100000
set_option maxHeartbeats 32000000
namespace Go.Proofs.YtpaiholildedcaaGreat
open Go.RowKit
noncomputable def rtC (z x y:Int)(n:Nat)(G:Nat→yD):Int:=if zDx z x y=0 then (if zT n G=0 then (if zD5 n G=true then 0 else 1) else zT n G) else zDx z x y
noncomputable def rtL (z x y:Int)(n:Nat)(G:Nat→yD):List Int:=if rtC z x y n G=0 then zC0 (yA G n z) (x * 8) (y * 8) 64 else []
theorem there2t (w:World)(x y:Value)(t:TypeId):zC (w.alloc (.cells #[x,y] t)) w.heap.size 2:=fun o ho=>by
 have:o=0∨o=1:=by omega
 rcases this with rfl | rfl <;> exact ⟨⟨_,by simp [go_sem];rfl⟩,by simp [go_sem]⟩
theorem set2t {W:World}{r:Nat}{a b:Value}(hT:zC W r 2) :
  ((W.setCell ⟨r,0,none⟩ a).setCell ⟨r,1,none⟩ b).cell? ⟨r,0,none⟩=some a∧((W.setCell ⟨r,0,none⟩ a).setCell ⟨r,1,none⟩ b).cell? ⟨r,1,none⟩=some b:=by
 obtain ⟨u0,h0⟩:=(hT 0 (by omega)).1
 obtain ⟨u1,h1⟩:=(hT 1 (by omega)).1
 have ne:∀ i j:Nat,i≠j→(⟨r,i,none⟩:Addr)≠⟨r,j,none⟩:=fun i j hij h=>hij (by injection h)
 refine ⟨?_,?_⟩
 ·rw [zB (ne 1 0 (by omega))];exact zG h0
 ·exact zG (by rw [zB (ne 0 1 (by omega))];exact h1)
theorem zGw (w:World)(base:Nat):uM w base (.slice none 0 0) ([]:List Int).length (nz []):=⟨none,0,rfl,Nat.le_refl _,.inl rfl⟩
theorem zOy {z x y:Int}{n:Nat}{G:Nat→yD}(h:rtC z x y n G=0):xV z x y=true∧zT n G=0∧zD5 n G=true:=by
 unfold rtC at h
 rcases vT z x y with ⟨hc,hr⟩ | ⟨hc,hr⟩
 ·rw [if_pos hc] at h
  by_cases hf:zT n G=0
  ·rw [if_pos hf] at h
   cases ho:zD5 n G
   ·rw [ho] at h;simp at h
   ·exact ⟨hr,hf,rfl⟩
  ·rw [if_neg hf] at h;exact absurd h hf
 ·rw [hc] at h;simp at h
structure Kp where
 z:Int
 x:Int
 y:Int
 fa:Option Addr
 fn:Nat
 fc:Nat
 F:Nat→yD
 ia:Option Addr
 m:Nat
 ic:Nat
 I:Nat→Int
abbrev kpV (k:Kp):Value:=.agg #[.int .i64 k.z,.int .i64 k.x,.int .i64 k.y,.slice k.fa k.fn k.fc,.slice k.ia k.m k.ic]
def zGc (w:World)(p o:Nat)(k:Kp):Prop:=w.cell? ⟨p,o,none⟩=some (.int .i64 k.z)∧w.cell? ⟨p,o+1,none⟩=some (.int .i64 k.x)∧w.cell? ⟨p,o+2,none⟩=some (.int .i64 k.y)∧w.cell? ⟨p,o+3,none⟩=some (.slice k.fa k.fn k.fc)∧w.cell? ⟨p,o+4,none⟩=some (.slice k.ia k.m k.ic)
theorem zGc.below {w w':World}{p o B:Nat}{k:Kp}(h:zGc w p o k)(hb:Below B w w')(hp:p<B):zGc w' p o k:=by
 obtain ⟨h0,h1,h2,h3,h4⟩:=h
 exact ⟨(hb.cell (p:=⟨p,o,none⟩) hp).trans h0,(hb.cell (p:=⟨p,o+1,none⟩) hp).trans h1,(hb.cell (p:=⟨p,o+2,none⟩) hp).trans h2,(hb.cell (p:=⟨p,o+3,none⟩) hp).trans h3,(hb.cell (p:=⟨p,o+4,none⟩) hp).trans h4⟩
def zMb (w:World)(k:Kp):Prop:=zKn w k.fa k.fn k.F∧uE w k.ia k.m k.I
theorem zMb.below {w w':World}{k:Kp}(h:zMb w k)(hb:Below w.heap.size w w'):zMb w' k:=⟨h.1.below hb,h.2.below hb⟩
def KsAt (w:World)(b off n:Nat)(K:Nat→Kp):Prop:=∀ i,i<n→zGc w b (off+i * 5) (K i)∧zMb w (K i)
theorem KsAt.below {w w':World}{b off n:Nat}{K:Nat→Kp}(h:KsAt w b off n K)(hb:Below w.heap.size w w')(hl:b<w.heap.size):KsAt w' b off n K:=fun i hi=>⟨(h i hi).1.below hb hl,(h i hi).2.below hb⟩
def zCf (w:World)(a:Option Addr)(n:Nat)(K:Nat→Kp):Prop:=n=0∨∃ b off,a=some ⟨b,off,none⟩∧b<w.heap.size∧KsAt w b off n K
theorem zCf.below {w w':World}{a:Option Addr}{n:Nat}{K:Nat→Kp}(h:zCf w a n K)(hb:Below w.heap.size w w'):zCf w' a n K:=by
 rcases h with h | ⟨b,off,e,hl,hp⟩
 ·exact .inl h
 ·exact .inr ⟨b,off,e,Nat.lt_of_lt_of_le hl hb.size,hp.below hb hl⟩
def vH (k:Kp):Prop:=yL k.fn k.F∧k.m≤1048576
def zL (n:Nat)(K:Nat→Kp):Prop:=n≤1048576∧∀ i,i<n→vH (K i)
def zMc (k:Kp):Prop:=zE7 k.fn k.F∧k.m≤maxLen
def zAd (n:Nat)(K:Nat→Kp):Prop:=n≤maxLen∧∀ i,i<n→zMc (K i)
def vJ (w:World)(B:Nat)(k a:Kp):Prop :=
 (a.z=k.z∧a.x=k.x∧a.y=k.y)∧(∃ fb,a.fa=some ⟨fb,0,none⟩∧a.fn=k.fn∧a.fc=k.fn∧xN w B fb k.fn k.F a.F) ∧
 ∃ ib,a.ia=some ⟨ib,0,none⟩∧a.m=k.m∧a.ic=k.m∧a.I=k.I∧B≤ib∧ib<w.heap.size∧zBx w ib 0 k.m k.I
theorem vJ.below {w w':World}{B:Nat}{k a:Kp}(h:vJ w B k a)(hb:Below w.heap.size w w'):vJ w' B k a:=by
 obtain ⟨h1,⟨fb,e1,e2,e3,h2⟩,ib,e4,e5,e6,e7,h3,h4,h5⟩:=h
 exact ⟨h1,⟨fb,e1,e2,e3,h2.below hb⟩,ib,e4,e5,e6,e7,h3,Nat.lt_of_lt_of_le h4 hb.size,h5.below hb h4⟩
theorem vJ.mid {w w':World}{B C lo hi:Nat}{k a:Kp}(h:vJ w B k a)(hM:zR lo hi w w')(hh:hi≤B)(hC:C≤B):vJ w' C k a:=by
 obtain ⟨h1,⟨fb,e1,e2,e3,h2⟩,ib,e4,e5,e6,e7,h3,h4,h5⟩:=h
 exact ⟨h1,⟨fb,e1,e2,e3,h2.midB hM hh hC⟩,ib,e4,e5,e6,e7,by omega,Nat.lt_of_lt_of_le h4 hM.size,fun i hi=>hM.cell (h5 i hi) (.inr (by omega))⟩
theorem vJ.is {w:World}{B:Nat}{k a:Kp}(h:vJ w B k a):zMb w a:=by
 obtain ⟨_,⟨fb,e1,e2,e3,h2⟩,ib,e4,e5,e6,e7,h3,h4,h5⟩:=h
 refine ⟨.inr ⟨fb,0,e1,h2.2.1,?_⟩,.inr ⟨ib,0,e4,h4,?_⟩⟩
 ·rw [e2];exact h2.2.2.1
 ·rw [e5,e7];exact h5
def zX (w:World)(B b n:Nat)(K A:Nat→Kp):Prop:=b<B∧b<w.heap.size∧∀ i,i<n→zGc w b (i * 5) (A i)∧vJ w B (K i) (A i)
theorem zX.below {w w':World}{B b n:Nat}{K A:Nat→Kp}(h:zX w B b n K A)(hb:Below w.heap.size w w'):zX w' B b n K A :=
 ⟨h.1,Nat.lt_of_lt_of_le h.2.1 hb.size,fun i hi=>⟨(h.2.2 i hi).1.below hb h.2.1,(h.2.2 i hi).2.below hb⟩⟩
def zCb (W:World)(B o:Nat)(k:Kp):World:=(((((W.setCell ⟨B,o,none⟩ (.int .i64 k.z)).setCell ⟨B,o+1,none⟩ (.int .i64 k.x)).setCell ⟨B,o+2,none⟩ (.int .i64 k.y)).setCell ⟨B,o+3,none⟩ (.slice k.fa k.fn k.fc)).setCell ⟨B,o+4,none⟩ (.slice k.ia k.m k.ic))
theorem uK (W:World)(B o:Nat)(k:Kp):zR B (B+1) W (zCb W B o k) :=
 (((((zR.refl B (B+1) W).set (Nat.le_refl _) (Nat.lt_succ_self _) _ _).set (Nat.le_refl _) (Nat.lt_succ_self _) _ _).set (Nat.le_refl _) (Nat.lt_succ_self _) _ _).set (Nat.le_refl _) (Nat.lt_succ_self _) _ _).set (Nat.le_refl _) (Nat.lt_succ_self _) _ _
theorem zLh {W:World}{B o m:Nat}{k:Kp}(h:zC W B m):zC (zCb W B o k) B m:=by
 unfold zCb
 exact (((((h.set _ _).set _ _).set _ _).set _ _).set _ _)
theorem zG1 (W:World)(B o:Nat)(k:Kp):(zCb W B o k).heap.size=W.heap.size:=by unfold zCb;simp
theorem vV {W:World}{B o:Nat}{k:Kp}{p:Addr}(h:p.block≠B∨p.off<o∨o+4<p.off):(zCb W B o k).cell? p=W.cell? p:=by
 have ne:∀ k:Nat,k≤4→(⟨B,o+k,none⟩:Addr)≠p:=fun k hk e=>by subst e;simp at h;omega
 have ne0:(⟨B,o,none⟩:Addr)≠p:=ne 0 (by omega)
 unfold zCb
 rw [zB (ne 4 (by omega)),zB (ne 3 (by omega)),zB (ne 2 (by omega)),zB (ne 1 (by omega)),zB ne0]
theorem zAt {W:World}{B o m:Nat}{k:Kp}(h:zC W B m)(ho:o+4<m):zGc (zCb W B o k) B o k:=by
 have ne:∀ i j:Nat,i≠j→(⟨B,i,none⟩:Addr)≠⟨B,j,none⟩:=fun i j hij h=>hij (by injection h)
 obtain ⟨u0,g0⟩:=(h (o) (by omega)).1
 obtain ⟨u1,g1⟩:=((h.set (o) (.int .i64 k.z)) (o+1) (by omega)).1
 obtain ⟨u2,g2⟩:=(((h.set (o) (.int .i64 k.z)).set (o+1) (.int .i64 k.x)) (o+2) (by omega)).1
 obtain ⟨u3,g3⟩:=((((h.set (o) (.int .i64 k.z)).set (o+1) (.int .i64 k.x)).set (o+2) (.int .i64 k.y)) (o+3) (by omega)).1
 obtain ⟨u4,g4⟩:=(((((h.set (o) (.int .i64 k.z)).set (o+1) (.int .i64 k.x)).set (o+2) (.int .i64 k.y)).set (o+3) (.slice k.fa k.fn k.fc)) (o+4) (by omega)).1
 unfold zCb
 refine ⟨?_,?_,?_,?_,?_⟩
 ·rw [zB (ne (o+4) (o) (by omega)),zB (ne (o+3) (o) (by omega)),zB (ne (o+2) (o) (by omega)),zB (ne (o+1) (o) (by omega))];exact zG g0
 ·rw [zB (ne (o+4) (o+1) (by omega)),zB (ne (o+3) (o+1) (by omega)),zB (ne (o+2) (o+1) (by omega))];exact zG g1
 ·rw [zB (ne (o+4) (o+2) (by omega)),zB (ne (o+3) (o+2) (by omega))];exact zG g2
 ·rw [zB (ne (o+4) (o+3) (by omega))];exact zG g3
 ·exact zG g4
abbrev zEj:Array Value:=#[.int .i64 0,.int .i64 0,.int .i64 0,.slice none 0 0,.slice none 0 0]
theorem info_kp:(Tryz.prog.info? 141).map (fun i=>(i.zero,i.size,i.bytes))=some (some (.agg zEj),5,72):=by kernel_rfl
theorem zBn (V:World)(a b c d e:Value)(t:TypeId):zC (V.alloc (.cells #[a,b,c,d,e] t)) V.heap.size 5:=fun o ho=>by
 have hc:o=0∨o=1∨o=2∨o=3∨o=4:=by omega
 rcases hc with rfl | rfl | rfl | rfl | rfl <;> exact ⟨⟨_,by simp [go_sem];rfl⟩,by simp [go_sem]⟩
theorem zLf (n:Nat)(h:n≤1048576)(w:World) :
  (Instr.makeSlice 26 (.int .i64 (n:Int)) (.int .i64 (n:Int))).run Tryz.prog w=.ok (.slice (some ⟨w.heap.size,0,none⟩) n n) (w.alloc (.cells (madeCells zEj (n * 5)) 141)):=by
 obtain ⟨i,hi,hz,hs,hb⟩:=info_parts info_kp
 have hr:=run_make (P:=Tryz.prog) w 26 141 i _ Tryz.underlying26 hi hz .i64 .i64 (n:Int) (n:Int) (by omega) (Int.le_refl _) (by rw [hb];omega) (by omega)
 simp only [Int.toNat_natCast,hs] at hr
 exact hr
theorem zIi (n:Nat)(w:World)(t:TypeId):zC (w.alloc (.cells (madeCells zEj n) t)) w.heap.size n:=fun o ho=>by
 have hz:=size_madeCells zEj n
 refine ⟨⟨(madeCells zEj n)[o]'(by rw [hz];exact ho),?_⟩,World.frozen?_alloc_at _ _ _ _ rfl⟩
 rw [World.cell?_alloc_at _ _ _ _ rfl]
 exact Array.getElem?_eq_getElem _
theorem resTK (T:Array Value)(Wf:World)(r:Nat)(k:Kp)(hT:T[2]?.getD undef=.pointer (some ⟨r,0,none⟩))(h:zGc Wf r 0 k) :
  (results Tryz.f143 T).run Tryz.prog Wf=.ok (kpV k) Wf:=by
 obtain ⟨h0,h1,h2,h3,h4⟩:=h
 simp only [Nat.zero_add] at h0 h1 h2 h3 h4
 simp [results,Tryz.results143,go_sem,hT,h0,h1,h2,h3,h4]
theorem zL1 (B C:Nat)(k a c:Kp)(w:World)(ha:vJ w B k a)(hc:vJ w C k c)(hs:vH k) :
  Calls Tryz.prog 149 #[kpV a,kpV c] w fun e w'=>e=.returned (.bool true)∧Bw w w':=by
 obtain ⟨⟨e1,e2,e3⟩,⟨fb,e4,e5,e6,hF⟩,ib,e7,e8,e9,e10,_,hib,hN⟩:=ha
 obtain ⟨⟨d1,d2,d3⟩,⟨fd,d4,d5,d6,hG⟩,id,d7,d8,d9,d10,_,hid,hM⟩:=hc
 unfold kpV
 rw [e1,e2,e3,e4,e5,e6,e7,e8,e9,d1,d2,d3,d4,d5,d6,d7,d8,d9]
 have HF:Hid (xN w B fb k.fn k.F a.F):=hF
 have HG:Hid (xN w C fd k.fn k.F c.F):=hG
 have HN:Hid (uE w (some ⟨ib,0,none⟩) k.m k.I):=hN.is hib
 have HM:Hid (uE w (some ⟨id,0,none⟩) k.m k.I):=hM.is hid
 have HS:Hid (vH k):=hs
 clear hF hG hN hM hs e1 e2 e3 e4 e5 e6 e7 e8 e9 e10 d1 d2 d3 d4 d5 d6 d7 d8 d9 d10 hib hid
 go_enter Tryz.func149,Tryz.ntmps149
 go_wp2_with fail
 generalize hW:((w.alloc _).alloc _:World)=W
 have hB0:Bw w W:=by subst hW;exact Qb
 have c4:∀ W',Bw W W'→W'.cell? ⟨w.heap.size,4,none⟩=some (.slice (some ⟨ib,0,none⟩) k.m k.m):=fun W' h=>by rw [h.cell (by subst hW;simp;omega)];subst hW;simp [go_sem]
 have d4:∀ W',Bw W W'→W'.cell? ⟨w.heap.size+1,4,none⟩=some (.slice (some ⟨id,0,none⟩) k.m k.m):=fun W' h=>by rw [h.cell (by subst hW;simp)];subst hW;simp [go_sem]
 clear hW
 refine (zL0 k.z k.x k.y fb fd k.fn B C k.F a.F c.F W (HF.out.below hB0) (HG.out.below hB0) HS.out.1).mono ?_
 rintro e w1 ⟨rfl,hb1⟩
 have g4:=c4 w1 hb1
 have l4:=d4 w1 hb1
 have hB1:Bw w w1:=zA hB0 hb1
 clear c4 d4 hb1 hB0
 go_wp2_with fail
 refine (zB2 _ _ k.m _ _ k.I _ (HN.out.below hB1) (HM.out.below hB1) HS.out.2).mono ?_
 rintro e w2 ⟨rfl,hb2⟩
 have HB2:Hid (Bw w w2):=zA hB1 hb2
 clear hb2
 go_wp2
 go_ret
 exact ⟨rfl,HB2.out⟩
abbrev caV (s:Int)(v:Value):Value:=.agg #[.int .i64 s,v]
theorem zJk (B C b d n:Nat)(K A H:Nat→Kp)(w:World)(ha:zX w B b n K A)(hh:zX w C d n K H)(hs:zL n K) :
  Calls Tryz.prog 99 #[.slice (some ⟨b,0,none⟩) n n,.slice (some ⟨d,0,none⟩) n n] w fun e w'=>e=.returned (.bool true)∧Bw w w':=by
 have HA:Hid (zX w B b n K A):=ha
 have HH:Hid (zX w C d n K H):=hh
 have HS:Hid (zL n K):=hs
 have hn:=hs.1
 clear ha hh hs
 go_enter Tryz.func99,Tryz.ntmps99
 go_wp2
 go_loopw [5] (fun i wr=>∃ k:Nat,k≤n∧i=.int .i64 k∧Bw w wr) (fun i _=>n - (intOf i).toNat)
 case atStart=>exact ⟨0,by omega,rfl,Below.refl _ _⟩
 case round =>
  obtain ⟨k,hk,rfl,hB⟩:=hrel
  by_cases hlt:k<n
  ·have HAr:Hid (zX wr B b n K A):=HA.out.below hB
   have HHr:Hid (zX wr C d n K H):=HH.out.below hB
   have a0:∀ W',Bw wr W'→W'.cell? ⟨b,k * 5,none⟩=some (.int .i64 (A k).z):=fun W' h=>((HAr.out.below h).2.2 k hlt).1.1
   have a1:∀ W',Bw wr W'→W'.cell? ⟨b,k * 5+1,none⟩=some (.int .i64 (A k).x):=fun W' h=>((HAr.out.below h).2.2 k hlt).1.2.1
   have a2:∀ W',Bw wr W'→W'.cell? ⟨b,k * 5+2,none⟩=some (.int .i64 (A k).y):=fun W' h=>((HAr.out.below h).2.2 k hlt).1.2.2.1
   have a3:∀ W',Bw wr W'→W'.cell? ⟨b,k * 5+3,none⟩=some (.slice (A k).fa (A k).fn (A k).fc):=fun W' h=>((HAr.out.below h).2.2 k hlt).1.2.2.2.1
   have a4:∀ W',Bw wr W'→W'.cell? ⟨b,k * 5+4,none⟩=some (.slice (A k).ia (A k).m (A k).ic):=fun W' h=>((HAr.out.below h).2.2 k hlt).1.2.2.2.2
   have h0:∀ W',Bw wr W'→W'.cell? ⟨d,k * 5,none⟩=some (.int .i64 (H k).z):=fun W' h=>((HHr.out.below h).2.2 k hlt).1.1
   have h1:∀ W',Bw wr W'→W'.cell? ⟨d,k * 5+1,none⟩=some (.int .i64 (H k).x):=fun W' h=>((HHr.out.below h).2.2 k hlt).1.2.1
   have h2:∀ W',Bw wr W'→W'.cell? ⟨d,k * 5+2,none⟩=some (.int .i64 (H k).y):=fun W' h=>((HHr.out.below h).2.2 k hlt).1.2.2.1
   have h3:∀ W',Bw wr W'→W'.cell? ⟨d,k * 5+3,none⟩=some (.slice (H k).fa (H k).fn (H k).fc):=fun W' h=>((HHr.out.below h).2.2 k hlt).1.2.2.2.1
   have h4:∀ W',Bw wr W'→W'.cell? ⟨d,k * 5+4,none⟩=some (.slice (H k).ia (H k).m (H k).ic):=fun W' h=>((HHr.out.below h).2.2 k hlt).1.2.2.2.2
   have HEQ:Hid (∀ W',Bw wr W'→Calls Tryz.prog 149 #[kpV (A k),kpV (H k)] W' fun e w'=>e=.returned (.bool true)∧Below W'.heap.size W' w'):=fun W' h=>zL1 B C (K k) (A k) (H k) W' ((HAr.out.below h).2.2 k hlt).2 ((HHr.out.below h).2.2 k hlt).2 (HS.out.2 k hlt)
   have HB:Hid (Bw w wr):=hB
   have HLT:Hid (k<n):=hlt
   have hr:Bw wr wr:=Below.refl _ _
   clear hB
   have hi:(k:Int)<(n:Int):=by omega
   have hi0:(0:Int)≤(k:Int):=by omega
   go_wp2
   go_region_held3 (fun W'=>Bw wr W') ((repeat (first|exact Qr _ _|assumption|refine Qd ?_|refine Qa ?_ _|refine Qt ?_|refine Qs ?_ _|refine Qo ?_ ?_ _ _)))
    (first
     | (go_at_call 149;refine (HEQ.out _ (by assumption)).mono ?_;rintro e w' ⟨rfl,hb⟩)
     | fail)
   go_wp2
   go_roundw
   case rel=>exact ⟨k+1,by have:=HLT.out;omega,by go_num,zA HB.out (by assumption)⟩
   case measure=>have:=HLT.out;simp [intOf];omega
  ·go_wp2
   go_ret
   exact ⟨rfl,hB⟩
theorem zOu (z x y:Int)(a:Option Addr)(n cap left:Nat)(F:Nat→yD)(w:World)(hl:left≤1048576)(hf:zKn w a n F)(hc:zE7 n F) :
  Calls Tryz.prog 183 #[zMt z x y (.slice a n cap),.int .i64 (left:Int)] w fun e w'=>(e=.returned (.int .i64 (-1))∨∃ m:Nat,m≤left∧yL n F∧e=.returned (.int .i64 m))∧Bw w w':=by
 have HF:Hid (zKn w a n F):=hf
 have HC:Hid (zE7 n F):=hc
 clear hf hc
 go_enter Tryz.func183,Tryz.ntmps183
 go_wp2_with fail
 generalize hW:(w.alloc _:World)=W
 have hB0:Bw w W:=by subst hW;exact Qb
 clear hW
 refine (zD1 a n cap F left _ hl (HF.out.below hB0) HC.out).mono ?_
 rintro e w1 ⟨rfl | ⟨m,hm,hS,rfl⟩,hb1⟩
 ·go_wp2
  go_ret
  exact ⟨.inl rfl,Qb⟩
 ·have hneg:¬ ((m:Nat):Int)<0:=by omega
  have HS:Hid (yL n F):=hS
  clear hS
  go_wp2
  go_ret
  exact ⟨.inr ⟨m,hm,HS.out,rfl⟩,Qb⟩
theorem zK0 (a:Option Addr)(n cap left:Nat)(w:World)(hl:left≤1048576)(hn:n≤maxLen) :
  Calls Tryz.prog 184 #[.slice a n cap,.int .i64 (left:Int)] w fun e w'=>(e=.returned (.int .i64 (-1))∨∃ m:Nat,m≤left∧n≤1048576∧e=.returned (.int .i64 m))∧Bw w w':=by
 unfold maxLen at hn
 by_cases h:left<n
 ·have hneg:(left:Int) - (n:Int)<0:=by omega
  go_enter Tryz.func184,Tryz.ntmps184
  go_wp2
  go_ret
  exact ⟨.inl rfl,Qb⟩
 ·have hneg:¬ (left:Int) - (n:Int)<0:=by omega
  go_enter Tryz.func184,Tryz.ntmps184
  go_wp2
  go_ret
  exact ⟨.inr ⟨left - n,by omega,by omega,zD (by omega)⟩,Qb⟩
theorem zOv (k:Kp)(left:Nat)(w:World)(hl:left≤1048576)(hk:zMb w k)(hc:zMc k) :
  Calls Tryz.prog 138 #[kpV k,.int .i64 (left:Int)] w fun e w'=>(e=.returned (.int .i64 (-1))∨∃ m:Nat,m≤left∧vH k∧e=.returned (.int .i64 m))∧Bw w w':=by
 have HK:Hid (zMb w k):=hk
 have HC:Hid (zMc k):=hc
 clear hk hc
 go_enter Tryz.func138,Tryz.ntmps138
 go_wp2_with fail
 generalize hW:(w.alloc _:World)=W
 have hB0:Bw w W:=by subst hW;exact Qb
 have c4:∀ W',Bw W W'→W'.cell? ⟨w.heap.size,4,none⟩=some (.slice k.ia k.m k.ic):=fun W' h=>by rw [h.cell (by subst hW;simp)];subst hW;simp [go_sem]
 clear hW
 refine (zOu k.z k.x k.y k.fa k.fn k.fc left k.F W hl (HK.out.below hB0).1 HC.out.1).mono ?_
 rintro e w1 ⟨rfl | ⟨m,hm,hS,rfl⟩,hb1⟩
 ·go_wp2
  go_ret
  exact ⟨.inl rfl,zA hB0 hb1⟩
 ·have hneg:¬ ((m:Nat):Int)<0:=by omega
  have g4:=c4 w1 hb1
  have HS:Hid (yL k.fn k.F):=hS
  have hB1:Bw w w1:=zA hB0 hb1
  clear hS hb1 hB0 c4
  go_wp2_with fail
  refine (zK0 k.ia k.m k.ic m w1 (by omega) HC.out.2).mono ?_
  rintro e w2 ⟨rfl | ⟨q,hq,hS2,rfl⟩,hb2⟩
  ·go_wp2
   go_ret
   exact ⟨.inl rfl,zA hB1 hb2⟩
  ·have hneg2:¬ ((q:Nat):Int)<0:=by omega
   have HS2:Hid (k.m≤1048576):=hS2
   clear hS2
   go_wp2
   go_ret
   exact ⟨.inr ⟨q,by omega,⟨HS.out,HS2.out⟩,rfl⟩,zA hB1 hb2⟩
theorem zMy (a:Option Addr)(n cap left:Nat)(K:Nat→Kp)(w:World)(hl:left≤1048576)(hk:zCf w a n K)(hc:zAd n K) :
  Calls Tryz.prog 88 #[.slice a n cap,.int .i64 (left:Int)] w fun e w'=>(e=.returned (.int .i64 (-1))∨∃ m:Nat,m≤left∧zL n K∧e=.returned (.int .i64 m))∧Bw w w':=by
 have HK:Hid (zCf w a n K):=hk
 obtain ⟨hc1,hc2⟩:=hc
 have HC:Hid (∀ i,i<n→zMc (K i)):=hc2
 unfold maxLen at hc1
 clear hk hc2
 by_cases h:left<n
 ·have hneg:(left:Int) - (n:Int)<0:=by omega
  go_enter Tryz.func88,Tryz.ntmps88
  go_wp2
  go_ret
  exact ⟨.inl rfl,Qb⟩
 ·have hneg:¬ (left:Int) - (n:Int)<0:=by omega
  go_enter Tryz.func88,Tryz.ntmps88
  go_wp2_with fail
  go_loopw [1,5] (fun v i wr=>∃ k m:Nat,k≤n∧i=.int .i64 (k:Int)∧v=.int .i64 (m:Int)∧m≤left∧(∀ j,j<k→vH (K j))∧Bw w wr) (fun _ i _=>n - (intOf i).toNat)
  case atStart=>exact ⟨0,left - n,by omega,rfl,by congr 1;omega,by omega,fun j hj=>absurd hj (Nat.not_lt_zero _),Below.refl _ _⟩
  case round =>
   obtain ⟨k,m,hk,rfl,rfl,hm,hS,hB⟩:=hrel
   have HS:Hid (∀ j,j<k→vH (K j)):=hS
   have HB:Hid (Bw w wr):=hB
   clear hS
   by_cases hlt:k<n
   ·rcases HK.out with h0 | ⟨b,off,rfl,hbl,hpt⟩
    ·omega
    obtain ⟨⟨f0,f1,f2,f3,f4⟩,hkis⟩:=(hpt.below hB hbl) k hlt
    have HKI:Hid (zMb wr (K k)):=hkis
    have HLT:Hid (k<n):=hlt
    have hi:(k:Int)<(n:Int):=by omega
    have hi0:(0:Int)≤(k:Int):=by omega
    clear hB hpt hkis
    go_wp2_with fail
    refine (zOv (K k) m _ (by omega) HKI.out (HC.out k hlt)).mono ?_
    rintro e w1 ⟨rfl | ⟨q,hq,hS1,rfl⟩,hb1⟩
    ·go_wp2
     go_ret
     exact ⟨.inl rfl,zA HB.out hb1⟩
    ·have hneg2:¬ ((q:Nat):Int)<0:=by omega
     have HS1:Hid (vH (K k)):=hS1
     have HB1:Hid (Bw w w1):=zA HB.out hb1
     clear hS1 hb1 f0 f1 f2 f3 f4
     go_wp2_with fail
     go_roundw
     case rel=>exact ⟨k+1,q,by have:=HLT.out;omega,by go_num,rfl,by omega,fun j hj=>by
       by_cases e:j=k
       ·rw [e];exact HS1.out
       ·exact HS.out j (by omega),HB1.out⟩
     case measure=>have:=HLT.out;simp [intOf];omega
   ·obtain rfl:n=k:=by omega
    go_wp2
    go_ret
    exact ⟨.inr ⟨m,hm,⟨by omega,HS.out⟩,rfl⟩,HB.out⟩
theorem zX.mid {w w':World}{B C b n lo hi:Nat}{K A:Nat→Kp}(h:zX w B b n K A)(hM:zR lo hi w w')(hh:hi≤b):zX w' B b n K A :=
 ⟨h.1,Nat.lt_of_lt_of_le h.2.1 hM.size,fun i hi'=>by
  obtain ⟨⟨h0,h1,h2,h3,h4⟩,h5⟩:=h.2.2 i hi'
  exact ⟨⟨hM.cell h0 (.inr hh),hM.cell h1 (.inr hh),hM.cell h2 (.inr hh),hM.cell h3 (.inr hh),hM.cell h4 (.inr hh)⟩,h5.mid hM (by have:=h.1;omega) (Nat.le_refl _)⟩⟩
theorem zMu (V:World)(a b:Value)(t:TypeId):zC (V.alloc (.cells #[a,b] t)) V.heap.size 2:=fun o ho=>by
 have hc:o=0∨o=1:=by omega
 rcases hc with rfl | rfl <;> exact ⟨⟨_,by simp [go_sem];rfl⟩,by simp [go_sem]⟩
theorem resTC {T:Array Value}{Wf:World}{r:Nat}{s:Int}{v:Value}(hT:T[2]?.getD undef=.pointer (some ⟨r,0,none⟩))(h0:Wf.cell? ⟨r,0,none⟩=some (.int .i64 s))(h1:Wf.cell? ⟨r,1,none⟩=some v) :
  (results Tryz.f45 T).run Tryz.prog Wf=.ok (caV s v) Wf:=by
 simp [results,Tryz.results45,go_sem,hT,h0,h1]
theorem zJl (s:Int)(B C b d n:Nat)(K A H:Nat→Kp)(w:World)(ha:zX w B b n K A)(hh:zX w C d n K H)(hs:zL n K) :
  Calls Tryz.prog 50 #[caV s (.slice (some ⟨b,0,none⟩) n n),caV s (.slice (some ⟨d,0,none⟩) n n)] w fun e w'=>e=.returned (.bool true)∧Bw w w':=by
 have HA:Hid (zX w B b n K A):=ha
 have HH:Hid (zX w C d n K H):=hh
 clear ha hh
 go_enter Tryz.func50,Tryz.ntmps50
 go_wp2_with fail
 generalize hW:((w.alloc _).alloc _:World)=W
 have hB0:Bw w W:=by subst hW;exact Qb
 clear hW
 refine (zJk B C b d n K A H W (HA.out.below hB0) (HH.out.below hB0) hs).mono ?_
 rintro e w1 ⟨rfl,hb1⟩
 go_wp2
 go_ret
 exact ⟨rfl,zA hB0 hb1⟩
theorem zR.wide {lo hi lo' hi':Nat}{a b:World}(h:zR lo' hi' a b)(h1:lo≤lo')(h2:hi'≤hi):zR lo hi a b:=⟨h.os,h.tape,h.output,h.size,fun k hk ho=>h.block k hk (by omega)⟩
abbrev ptN (r:Kp):Nat→Nat:=fun i=>(r.F i).n
abbrev ptC (r:Kp):Nat→Nat:=fun i=>(r.F i).cap
def kN (r:Kp)(k:Nat):Nat:=kS (ptN r) (k+3) r.fn+r.m
def kK (R:Nat→Kp)(k0:Nat):Nat→Nat
 | 0=>k0
 | j+1=>kN (R j) (kK R k0 j)
theorem kS_ge (N:Nat→Nat)(k0:Nat):∀ i,k0≤kS N k0 i
 | 0=>Nat.le_refl _
 | i+1=>by have:=kS_ge N k0 i;rw [kS];omega
theorem zJ7 {r:Kp}{k:Nat}(h:vH r):k≤kS (ptN r) k r.fn∧kS (ptN r) k r.fn≤k+2199029547008:=by
 refine ⟨kS_ge _ _ _,?_⟩
 have h1:=kS_le (ptN r) k r.fn (fun i hi=>(h.1.2 i hi).1) r.fn (Nat.le_refl _)
 have h2:=h.1.1
 omega
theorem kN_le {r:Kp}{k:Nat}(h:vH r):k≤kN r k∧kN r k≤k+2199030595587:=by
 have h1:=zJ7 (k:=k+3) h
 have h2:=h.2
 unfold kN
 omega
theorem kK_le {R:Nat→Kp}{k0 n:Nat}(h:zL n R):∀ j,j≤n→k0≤kK R k0 j∧kK R k0 j≤k0+j * 2199030595587
 | 0,_=>by simp [kK]
 | j+1,hj=>by
  have h1:=kK_le (k0:=k0) h j (by omega)
  have h2:=kN_le (k:=kK R k0 j) (h.2 j (by omega))
  rw [kK];omega
theorem zFt {R:Nat→Kp}{k0 n:Nat}(h:zL n R)(h0:k0≤1000000000){j:Nat}(hj:j≤n):k0≤kK R k0 j∧kK R k0 j≤2400000000000000000:=by
 have h1:=kK_le (k0:=k0) h j hj
 have h2:=h.1
 omega
theorem zGb.mid {w w':World}{b q i N C k l h:Nat}(hm:zGb w b q i N C k)(hM:zR l h w w')(hb:b<l∨h≤b)(hq:q<l∨h≤q):zGb w' b q i N C k:=by
 obtain ⟨⟨a0,a1,a2,a3,a4,a5,a6⟩,hp⟩:=hm
 exact ⟨⟨hM.cell a0 hb,hM.cell a1 hb,hM.cell a2 hb,hM.cell a3 hb,hM.cell a4 hb,hM.cell a5 hb,hM.cell a6 hb⟩,fun i hi=>⟨hM.cell (hp i hi).1 hq,hM.cell (hp i hi).2 hq⟩⟩
def MkR (w:World)(lo md:Nat)(a:Option Addr)(m:Nat)(N C:Nat→Nat)(k:Nat):Prop:=m=0∨∃ (g:Nat) (q:Nat→Nat),a=some ⟨g,0,none⟩∧(lo≤g∧g<md)∧(∀ i,i<m→lo≤q i∧q i<md)∧∀ i,i<m→zGb w g (q i) i (N i) (C i) (kS N k i)
def TlW (w:World)(lo hi:Nat)(r:Kp):Prop:=∃ md,lo≤md∧md≤hi∧hi≤w.heap.size∧OwnR w lo md r.fa r.fn (ptN r) (ptC r)∧(r.m=0∨∃ ib,r.ia=some ⟨ib,0,none⟩∧md≤ib∧ib<hi∧zC w ib r.m)
def TlM (w:World)(lo hi:Nat)(r:Kp)(k:Nat):Prop:=∃ md,lo≤md∧md≤hi∧hi≤w.heap.size∧MkR w lo md r.fa r.fn (ptN r) (ptC r) (k+3)∧(r.m=0∨∃ ib,r.ia=some ⟨ib,0,none⟩∧md≤ib∧ib<hi∧zBx w ib 0 r.m (mkN (kS (ptN r) (k+3) r.fn)))
theorem TlW.mid {w w':World}{lo hi l h:Nat}{r:Kp}(hT:TlW w lo hi r)(hM:zR l h w w')(ho:h≤lo∨hi≤l):TlW w' lo hi r:=by
 obtain ⟨md,h1,h2,h3,h4,h5⟩:=hT
 refine ⟨md,h1,h2,Nat.le_trans h3 hM.size,h4.away hM (by omega),h5.imp id (fun ⟨ib,e,a,b,c⟩=>⟨ib,e,a,b,hM.there c (by omega)⟩)⟩
theorem MkR.mid {w w':World}{lo md l h:Nat}{a:Option Addr}{m:Nat}{N C:Nat→Nat}{k:Nat}(hT:MkR w lo md a m N C k)(hM:zR l h w w')(ho:h≤lo∨md≤l):MkR w' lo md a m N C k :=
 hT.imp id (fun ⟨g,q,e,h1,h2,h3⟩=>⟨g,q,e,h1,h2,fun i hi=>(h3 i hi).mid hM (by omega) (by have:=h2 i hi;omega)⟩)
theorem TlM.mid {w w':World}{lo hi l h:Nat}{r:Kp}{k:Nat}(hT:TlM w lo hi r k)(hM:zR l h w w')(ho:h≤lo∨hi≤l):TlM w' lo hi r k:=by
 obtain ⟨md,h1,h2,h3,h4,h5⟩:=hT
 refine ⟨md,h1,h2,Nat.le_trans h3 hM.size,h4.mid hM (by omega),h5.imp id (fun ⟨ib,e,a,b,c⟩=>⟨ib,e,a,b,fun i hi=>hM.cell (c i hi) (by omega)⟩)⟩
def Sl2 (w:World)(g j:Nat)(r:Kp):Prop:=w.cell? ⟨g,j * 5+3,none⟩=some (.slice r.fa r.fn r.fc)∧w.cell? ⟨g,j * 5+4,none⟩=some (.slice r.ia r.m r.ic)
def Rf3 (w:World)(g j k:Nat):Prop:=w.cell? ⟨g,j * 5,none⟩=some (.int .i64 ((k:Nat):Int))∧w.cell? ⟨g,j * 5+1,none⟩=some (.int .i64 ((k+1:Nat):Int))∧w.cell? ⟨g,j * 5+2,none⟩=some (.int .i64 ((k+2:Nat):Int))
theorem Sl2.mid {w w':World}{g j l h:Nat}{r:Kp}(hS:Sl2 w g j r)(hM:zR l h w w')(ho:g<l∨h≤g):Sl2 w' g j r:=⟨hM.cell hS.1 ho,hM.cell hS.2 ho⟩
theorem Rf3.mid {w w':World}{g j l h k:Nat}(hS:Rf3 w g j k)(hM:zR l h w w')(ho:g<l∨h≤g):Rf3 w' g j k:=⟨hM.cell hS.1 ho,hM.cell hS.2.1 ho,hM.cell hS.2.2 ho⟩
def KsW (w:World)(g n:Nat)(R:Nat→Kp)(M:Nat→Nat):Prop:=zC w g (n * 5)∧g<M 0∧(∀ j,j<n→M j≤M (j+1)∧Sl2 w g j (R j)∧TlW w (M j) (M (j+1)) (R j))∧M n≤w.heap.size
def KsM (w:World)(g n:Nat)(R:Nat→Kp)(M:Nat→Nat)(k0:Nat):Prop:=g<M 0∧M n≤w.heap.size∧∀ j,j<n→M j≤M (j+1)∧Sl2 w g j (R j)∧Rf3 w g j (kK R k0 j)∧TlM w (M j) (M (j+1)) (R j) (kK R k0 j)
theorem upM {M:Nat→Nat}{n:Nat}(h:∀ j,j<n→M j≤M (j+1)):∀ {i j},i≤j→j≤n→M i≤M j:=by
 intro i j hij
 induction j with
 | zero=>exact fun _=>by rw [show i=0 by omega];exact Nat.le_refl _
 | succ j ih =>
  intro hj
  by_cases e:i=j+1
  ·subst e;exact Nat.le_refl _
  ·exact Nat.le_trans (ih (by omega) (by omega)) (h j (by omega))
theorem zIx (lo md:Nat)(a:Option Addr)(m cap k:Nat)(N C:Nat→Nat)(w:World)(h:OwnR w lo md a m N C)(hm:m≤1048576)(hN:∀ i,i<m→N i≤1048576)(h0:0<k)(hk:k≤5000000000000000000) :
  Calls Tryz.prog 150 #[.slice a m cap,.int .i64 (k:Int)] w fun e w'=>e=.returned (.int .i64 ((kS N k m:Nat):Int))∧zR lo md w w'∧MkR w' lo md a m N C k:=by
 rcases h with rfl | ⟨g,q,rfl,hO⟩
 ·refine (zIw a cap _ w).mono ?_
  rintro e w' ⟨rfl,rfl⟩
  exact ⟨rfl,zR.refl _ _ _,.inl rfl⟩
 ·refine (zLe lo md g m cap k N C q w hO hm hN h0 hk).mono ?_
  rintro e w' ⟨rfl,h1,h2,h3⟩
  exact ⟨rfl,h2,.inr ⟨g,q,rfl,⟨h1.1.1,h1.1.2.1⟩,fun i hi=>⟨(h1.2.2.1 i hi).1.1,(h1.2.2.1 i hi).1.2.1⟩,h3⟩⟩
theorem zIv (md hi:Nat)(a:Option Addr)(m cap k:Nat)(w:World)(h:m=0∨∃ ib,a=some ⟨ib,0,none⟩∧md≤ib∧ib<hi∧zC w ib m)(hh:hi≤w.heap.size)(hm:m≤1048576)(hk:k≤6000000000000000000) :
  Calls Tryz.prog 54 #[.slice a m cap,.int .i64 (k:Int)] w fun e w'=>e=.returned (.int .i64 ((k+m:Nat):Int))∧zR md hi w w'∧(m=0∨∃ ib,a=some ⟨ib,0,none⟩∧md≤ib∧ib<hi∧zBx w' ib 0 m (mkN k)):=by
 rcases h with rfl | ⟨ib,rfl,h1,h2,h3⟩
 ·refine (uX a cap _ w).mono ?_
  rintro e w' ⟨rfl,rfl⟩
  exact ⟨rfl,zR.refl _ _ _,.inl rfl⟩
 ·refine (zAm ib m cap k w h3 (by omega) hm hk).mono ?_
  rintro e w' ⟨rfl,h4,h5,h6⟩
  exact ⟨rfl,zR.of_grown h4 h1 h2,.inr ⟨ib,rfl,h1,h2,h6⟩⟩
def zMf (W:World)(g j k:Nat):World:=((W.setCell ⟨g,j * 5,none⟩ (.int .i64 (k:Nat))).setCell ⟨g,j * 5+1,none⟩ (.int .i64 ((k+1:Nat):Int))).setCell ⟨g,j * 5+2,none⟩ (.int .i64 ((k+2:Nat):Int))
theorem zJ5 (W:World)(g j k:Nat):zR g (g+1) W (zMf W g j k):=(((zR.refl g (g+1) W).set (Nat.le_refl _) (Nat.lt_succ_self _) _ _).set (Nat.le_refl _) (Nat.lt_succ_self _) _ _).set (Nat.le_refl _) (Nat.lt_succ_self _) _ _
theorem zLk {W:World}{g j k m:Nat}(h:zC W g m):zC (zMf W g j k) g m:=((h.set _ _).set _ _).set _ _
theorem xW {W:World}{g j k:Nat}{p:Addr}(h:p.block≠g∨p.off<j * 5∨j * 5+2<p.off):(zMf W g j k).cell? p=W.cell? p:=by
 have ne:∀ i:Nat,i≤2→(⟨g,j * 5+i,none⟩:Addr)≠p:=fun i hi e=>by subst e;simp at h;omega
 have ne0:(⟨g,j * 5,none⟩:Addr)≠p:=ne 0 (by omega)
 unfold zMf
 rw [zB (ne 2 (by omega)),zB (ne 1 (by omega)),zB ne0]
theorem lay3_at {W:World}{g j k m:Nat}(h:zC W g m)(ho:j * 5+2<m):Rf3 (zMf W g j k) g j k:=by
 have ne:∀ a b:Nat,a≠b→(⟨g,a,none⟩:Addr)≠⟨g,b,none⟩:=fun a b hab e=>hab (by injection e)
 obtain ⟨u0,g0⟩:=(h (j * 5) (by omega)).1
 obtain ⟨u1,g1⟩:=((h.set (j * 5) (.int .i64 (k:Nat))) (j * 5+1) (by omega)).1
 obtain ⟨u2,g2⟩:=(((h.set (j * 5) (.int .i64 (k:Nat))).set (j * 5+1) (.int .i64 ((k+1:Nat):Int))) (j * 5+2) (by omega)).1
 unfold zMf
 refine ⟨?_,?_,?_⟩
 ·rw [zB (ne _ _ (by omega)),zB (ne _ _ (by omega))];exact zG g0
 ·rw [zB (ne _ _ (by omega))];exact zG g1
 ·exact zG g2
def MkAt (w:World)(g n j:Nat)(R:Nat→Kp)(M:Nat→Nat)(k0:Nat):Prop:=zC w g (n * 5)∧M n≤w.heap.size∧(∀ i,i<n→Sl2 w g i (R i))∧(∀ i,j≤i→i<n→TlW w (M i) (M (i+1)) (R i))∧∀ i,i<j→Rf3 w g i (kK R k0 i)∧TlM w (M i) (M (i+1)) (R i) (kK R k0 i)
theorem zLd {wr w5 w6:World}{g n j k0 md:Nat}{R:Nat→Kp}{M:Nat→Nat}(hA:MkAt wr g n j R M k0)(hj:j<n)(hg:g<M 0)(hM:∀ j,j<n→M j≤M (j+1))(hm:M j≤md∧md≤M (j+1))(h5:zR (M j) md (zMf wr g j (kK R k0 j)) w5)(hR:MkR w5 (M j) md (R j).fa (R j).fn (ptN (R j)) (ptC (R j)) (kK R k0 j+3))(h6:zR md (M (j+1)) w5 w6)(hI:(R j).m=0∨∃ ib,(R j).ia=some ⟨ib,0,none⟩∧md≤ib∧ib<M (j+1)∧zBx w6 ib 0 (R j).m (mkN (kS (ptN (R j)) (kK R k0 j+3) (R j).fn))) :
  MkAt w6 g n (j+1) R M k0∧zR g (M n) wr w6:=by
 obtain ⟨a1,a2,a3,a4,a5⟩:=hA
 have hu:=fun i j (a:i≤j) (b:j≤n)=>upM hM a b
 have u0:=hu 0 j (Nat.zero_le _) (by omega)
 have u1:=hu (j+1) n (by omega) (Nat.le_refl _)
 have hl:=zJ5 wr g j (kK R k0 j)
 have hw:∀ {lo hi lo' hi':Nat} {a b:World},zR lo' hi' a b→lo≤lo'→hi'≤hi→zR lo hi a b:=fun h h1 h2=>⟨h.os,h.tape,h.output,h.size,fun k hk ho=>h.block k hk (by omega)⟩
 have hall:zR g (M n) wr w6:=(hw hl (Nat.le_refl _) (by omega)).trans ((hw h5 (by omega) (by omega)).trans (hw h6 (by omega) (by omega)))
 have h56:zR (M j) (M (j+1)) (zMf wr g j (kK R k0 j)) w6:=(hw h5 (Nat.le_refl _) hm.2).trans (hw h6 hm.1 (Nat.le_refl _))
 refine ⟨⟨h56.there (zLk a1) (.inl (by omega)),Nat.le_trans a2 hall.size,fun i hi=>?_,fun i hi hin=>?_,fun i hi=>?_⟩,hall⟩
 ·have h:=a3 i hi
  refine Sl2.mid (w:=zMf wr g j (kK R k0 j)) ⟨?_,?_⟩ h56 (.inl (by omega))
  ·rw [xW (by simp;omega)];exact h.1
  ·rw [xW (by simp;omega)];exact h.2
 ·have:=hu (j+1) i hi (by omega)
  exact ((a4 i (by omega) hin).mid hl (.inl (by have:=hu 0 i (Nat.zero_le _) (by omega);omega))).mid h56 (.inl (by omega))
 ·by_cases e:i=j
  ·subst e
   refine ⟨(lay3_at a1 (by omega)).mid h56 (.inl (by omega)),md,hm.1,hm.2,?_,hR.mid h6 (.inr (Nat.le_refl _)),hI⟩
   exact Nat.le_trans u1 (Nat.le_trans a2 hall.size)
  ·have hij:i<j:=by omega
   have:=hu (i+1) j (by omega) (by omega)
   have u2:=hu 0 i (Nat.zero_le _) (by omega)
   refine ⟨?_,((a5 i hij).2.mid hl (.inl (by omega))).mid h56 (.inr (by omega))⟩
   have h:=(a5 i hij).1
   refine Rf3.mid (w:=zMf wr g j (kK R k0 j)) ⟨?_,?_,?_⟩ h56 (.inl (by omega))
   ·rw [xW (by simp;omega)];exact h.1
   ·rw [xW (by simp;omega)];exact h.2.1
   ·rw [xW (by simp;omega)];exact h.2.2
theorem zFn (g n cap k0:Nat)(R:Nat→Kp)(M:Nat→Nat)(w:World)(hW:KsW w g n R M)(hs:zL n R)(h0:0<k0)(hk0:k0≤1000000000) :
  Calls Tryz.prog 101 #[.slice (some ⟨g,0,none⟩) n cap,.int .i64 (k0:Int)] w fun e w'=>e=.returned (.int .i64 ((kK R k0 n:Nat):Int))∧KsM w' g n R M k0∧zR g (M n) w w':=by
 obtain ⟨hT,hg,hall,hMn⟩:=hW
 have HS:Hid (zL n R):=hs
 have hn:n≤1048576:=hs.1
 have HMl:Hid (∀ j,j<n→M j≤M (j+1)):=fun j hj=>(hall j hj).1
 have HA0:Hid (MkAt w g n 0 R M k0):=⟨hT,hMn,fun i hi=>(hall i hi).2.1,fun i _ hi=>(hall i hi).2.2,fun i hi=>by omega⟩
 have hgl:g<w.heap.size:=by have:=upM HMl.out (Nat.zero_le n) (Nat.le_refl _);omega
 clear hT hall hs hMn
 go_enter Tryz.func101,Tryz.ntmps101
 go_wp2_with fail
 go_loopw [1,5] (fun kk i wr=>∃ j K:Nat,j≤n∧Hid (K=kK R k0 j)∧kk=.int .i64 (K:Int)∧i=.int .i64 (j:Int)∧MkAt wr g n j R M k0∧zR g (M n) w wr) (fun _ i _=>n - (intOf i).toNat)
 case atStart=>exact ⟨0,k0,by omega,rfl,rfl,rfl,HA0.out,zR.refl _ _ _⟩
 case round =>
  obtain ⟨j,K,hj,HK,rfl,rfl,hA,hMd⟩:=hrel
  have HA:Hid (MkAt wr g n j R M k0):=hA
  have HMd:Hid (zR g (M n) w wr):=hMd
  by_cases hlt:j<n
  ·have hKb:K≤2400000000000000000:=by have:=HK.out;have:=(zFt HS.out hk0 (j:=j) (by omega)).2;omega
   have hK0:0<K:=by have:=HK.out;have:=(zFt HS.out hk0 (j:=j) (by omega)).1;omega
   have hsm:=HS.out.2 j hlt
   obtain ⟨md,m1,m2,m3,m4,m5⟩:=hA.2.2.2.1 j (Nat.le_refl _) hlt
   have hT:=hA.1
   have t0:=hT.cell (j * 5) (by omega)
   have t1:=hT.cell (j * 5+1) (by omega)
   have t2:=hT.cell (j * 5+2) (by omega)
   have f0:=(hT (j * 5) (by omega)).2
   have f1:=(hT (j * 5+1) (by omega)).2
   have f2:=(hT (j * 5+2) (by omega)).2
   have hS2:=hA.2.2.1 j hlt
   have HLT:Hid (j<n):=hlt
   have hi:(j:Int)<(n:Int):=by omega
   have hi0:(0:Int)≤(j:Int):=by omega
   have hgr:g<wr.heap.size:=Nat.lt_of_lt_of_le hgl hMd.size
   have e3:(K:Int)+1+1+1=((K+3:Nat):Int):=by omega
   have e2:(K:Int)+1+1=((K+2:Nat):Int):=by omega
   have e1:(K:Int)+1=((K+1:Nat):Int):=by omega
   have E:=(show Hid _ from (⟨e3,e2,e1⟩:_∧_∧_))
   have hu0:=upM HMl.out (Nat.zero_le j) (by omega)
   have HF:Hid (∀ W,zR g (g+1) wr W→Calls Tryz.prog 150 #[.slice (R j).fa (R j).fn (R j).fc,.int .i64 ((K+3:Nat):Int)] W fun e w'=>e=.returned (.int .i64 ((kS (ptN (R j)) (K+3) (R j).fn:Nat):Int))∧zR (M j) md W w'∧MkR w' (M j) md (R j).fa (R j).fn (ptN (R j)) (ptC (R j)) (K+3)):=fun W h =>
    zIx (M j) md _ _ _ (K+3) _ _ W (m4.away h (.inl (by omega))) hsm.1.1 (fun i hi=>(hsm.1.2 i hi).1) (by omega) (by omega)
   have HI:Hid (∀ (W:World) (k:Nat),k≤6000000000000000000→zR g md wr W→Calls Tryz.prog 54 #[.slice (R j).ia (R j).m (R j).ic,.int .i64 (k:Int)] W fun e w'=>e=.returned (.int .i64 ((k+(R j).m:Nat):Int))∧zR md (M (j+1)) W w'∧((R j).m=0∨∃ ib,(R j).ia=some ⟨ib,0,none⟩∧md≤ib∧ib<M (j+1)∧zBx w' ib 0 (R j).m (mkN k))):=fun W k hk h =>
    zIv md (M (j+1)) _ _ _ k W (m5.imp id (fun ⟨ib,e,a,b,c⟩=>⟨ib,e,a,b,h.there c (.inr a)⟩)) (Nat.le_trans m3 h.size) hsm.2 hk
   have HSS:Hid (kS (ptN (R j)) (K+3) (R j).fn≤6000000000000000000):=by show _≤_;have:=(zJ7 (k:=K+3) hsm).2;omega
   have HNx:Hid (kS (ptN (R j)) (K+3) (R j).fn+(R j).m=kK R k0 (j+1)):=by show _=_;rw [kK,← HK.out];rfl
   have Hm:Hid (M j≤md∧md≤M (j+1)):=⟨m1,m2⟩
   have HS2:Hid (Sl2 wr g j (R j)):=hS2
   have HT:Hid (zC wr g (n * 5)):=hT
   have c3:=hS2.1
   have hgj:g<M j:=by omega
   clear hA hMd hT e3 e2 e1 m3 m4 m5 m1 m2 hS2 hsm hu0 hj
   go_wp2_with fail
   rw [E.out.1,E.out.2.1,E.out.2.2]
   have hL:((wr.setCell ⟨g,j * 5,none⟩ (.int .i64 (K:Nat))).setCell ⟨g,j * 5+1,none⟩ (.int .i64 ((K+1:Nat):Int))).setCell ⟨g,j * 5+2,none⟩ (.int .i64 ((K+2:Nat):Int))=zMf wr g j K:=rfl
   rw [hL]
   have HL:=zJ5 wr g j K
   refine (HF.out _ HL).mono ?_
   rintro e w5 ⟨rfl,hM5,hR5⟩
   have hs5:=hM5.size
   have HM5:Hid (zR (M j) md (zMf wr g j K) w5):=hM5
   have HR5:Hid (MkR w5 (M j) md (R j).fa (R j).fn (ptN (R j)) (ptC (R j)) (K+3)):=hR5
   have HgM:Hid (g<M j):=hgj
   have d4:w5.cell? ⟨g,j * 5+4,none⟩=some (.slice (R j).ia (R j).m (R j).ic):=hM5.cell (by rw [xW (by simp)];exact HS2.out.2) (.inl hgj)
   have hS6:=HSS.out
   have HI5:=(show Hid _ from HI.out w5 _ hS6 ((zR.wide HL (Nat.le_refl _) (by have:=Hm.out;omega)).trans (hM5.wide (by omega) (Nat.le_refl _))))
   clear hM5 hR5 HF HI t0 t1 t2 f0 f1 f2 c3 hL HL
   generalize hQ:kS (ptN (R j)) (K+3) (R j).fn=Q at *
   go_wp2_with fail
   refine Calls.mono HI5.out ?_
   rintro e w6 ⟨rfl,hM6,hI6⟩
   have HM6:Hid (zR md (M (j+1)) w5 w6):=hM6
   have HI6:=(show Hid _ from hI6)
   have hm3:=HS.out.2 j HLT.out
   clear hM6 hI6 HI5 d4
   generalize hmm:(R j).m=mm at *
   go_wp2_with fail
   go_roundw
   case rel =>
    have hst:=zLd (k0:=k0) HA.out HLT.out hg HMl.out Hm.out (by rw [← HK.out];exact HM5.out) (by rw [← HK.out];exact HR5.out) HM6.out (by rw [← HK.out,hmm,hQ];exact HI6.out)
    exact ⟨j+1,Q+mm,by omega,by show _=_;exact HNx.out,rfl,by go_num,hst.1,HMd.out.trans hst.2⟩
   case measure=>have:=HLT.out;simp [intOf];omega
  ·go_wp2
   go_ret
   have hjn:j=n:=by omega
   subst hjn
   refine ⟨zD (by have:=HK.out;omega),⟨hg,hA.2.1,fun i hi=>⟨HMl.out i hi,hA.2.2.1 i hi,(hA.2.2.2.2 i hi).1,(hA.2.2.2.2 i hi).2⟩⟩,hMd⟩
theorem uP.wideQ {w:World}{lo hi lo' b n:Nat}{N C q:Nat→Nat}(h:uP w lo hi b n N C q)(hl:lo'≤lo):uP w lo' hi b n N C q:=by
 obtain ⟨⟨h1,h2,h3⟩,h4,h5,h6⟩:=h
 exact ⟨⟨by omega,h2,h3⟩,h4,fun i hi=>⟨⟨by have:=(h5 i hi).1;omega,(h5 i hi).1.2⟩,(h5 i hi).2⟩,h6⟩
theorem uP.atQ {w:World}{lo hi hi' b n:Nat}{N C q:Nat→Nat}(h:uP w lo hi b n N C q)(e:hi'=hi):uP w lo hi' b n N C q:=by rw [e];exact h
theorem zKt (z x y:Int)(a:Option Addr)(n cap:Nat)(F:Nat→yD)(w:World)(hp:zKn w a n F)(hmax:n≤1048576)(hall:∀ i,i<n→(F i).n≤1048576) :
  Calls Tryz.prog 188 #[zMt z x y (.slice a n cap)] w fun e w'=>∃ b G,e=.returned (zMt z x y (.slice (some ⟨b,0,none⟩) n n))∧xN w' w.heap.size b n F G∧(∃ q,uP w' w.heap.size w'.heap.size b n (fun i=>(F i).n) (fun i=>(F i).n) q)∧Bw w w':=by
 have HF:Hid (zKn w a n F):=hp
 have HA:Hid (∀ i,i<n→(F i).n≤1048576):=hall
 clear hp hall
 go_enter Tryz.func188,Tryz.ntmps188
 go_wp2_with fail
 generalize hW:(((w.alloc _).alloc _).alloc _:World)=W
 have hB0:Bw w W:=by subst hW;exact Qb
 have HT:Hid (zC W (w.heap.size+1) 4):=by
  show zC _ _ _
  subst hW
  have:=(zIk (w.alloc (.cells #[.int .i64 z,.int .i64 x,.int .i64 y,.slice a n cap] 189)) (.int .i64 0) (.int .i64 0) (.int .i64 0) (.slice none 0 0) 139).below (xI (Below.refl _ _) (.cells #[.int .i64 0,.int .i64 0,.int .i64 0,.slice none 0 0] 139))
  simpa using this
 have HU:Hid (zC W (w.heap.size+1+1) 4):=by
  show zC _ _ _
  subst hW
  have:=zIk ((w.alloc (.cells #[.int .i64 z,.int .i64 x,.int .i64 y,.slice a n cap] 189)).alloc (.cells #[.int .i64 0,.int .i64 0,.int .i64 0,.slice none 0 0] 139)) (.int .i64 0) (.int .i64 0) (.int .i64 0) (.slice none 0 0) 139
  simpa using this
 have c3:W.cell? ⟨w.heap.size,3,none⟩=some (.slice a n cap):=by subst hW;simp [go_sem]
 have hsz:w.heap.size+1+1<W.heap.size:=by subst hW;simp
 clear hW
 refine (zGj _ _ _ _).mono ?_
 rintro e w1 ⟨rfl,hb1⟩
 have d3:w1.cell? ⟨w.heap.size,3,none⟩=some (.slice a n cap):=zY hb1 c3
 have HT1:Hid (zC w1 (w.heap.size+1) 4):=HT.out.below hb1
 have HU1:Hid (zC w1 (w.heap.size+1+1) 4):=HU.out.below hb1
 have hB1:Bw w w1:=zA hB0 hb1
 have hsz1:w.heap.size+1+1<w1.heap.size:=Nat.lt_of_lt_of_le hsz hb1.size
 clear c3 HT HU hB0 hb1 hsz
 have hT':=HU1.out
 have t0:=hT'.cell 0 (by omega)
 have t1:=hT'.cell 1 (by omega)
 have t2:=hT'.cell 2 (by omega)
 have t3:=hT'.cell 3 (by omega)
 have f0:=(hT' 0 (by omega)).2
 have f1:=(hT' 1 (by omega)).2
 have f2:=(hT' 2 (by omega)).2
 have f3:=(hT' 3 (by omega)).2
 clear hT'
 go_wp2_with fail
 generalize hW2:(((w1.setCell ⟨w.heap.size+1+1,0,none⟩ (.int .i64 z)).setCell ⟨w.heap.size+1+1,1,none⟩ (.int .i64 x)).setCell ⟨w.heap.size+1+1,2,none⟩ (.int .i64 y))=w2
 obtain ⟨g0,g1,g2⟩:w2.cell? ⟨w.heap.size+1+1,0,none⟩=some (.int .i64 z)∧w2.cell? ⟨w.heap.size+1+1,1,none⟩=some (.int .i64 x)∧w2.cell? ⟨w.heap.size+1+1,2,none⟩=some (.int .i64 y):=by
  rw [← hW2]
  exact zOw t0 t1 t2
 have HU2:Hid (zC w2 (w.heap.size+1+1) 4):=by
  show zC _ _ _
  rw [← hW2]
  exact ((HU1.out.set _ _).set _ _).set _ _
 have hM2:zR w.heap.size (w.heap.size+1+1+1) w1 w2:=by
  rw [← hW2]
  exact (((zR.refl _ _ _).set (by omega) (by omega) _ _).set (by omega) (by omega) _ _).set (by omega) (by omega) _ _
 have HT2:Hid (zC w2 (w.heap.size+1) 4):=by
  show zC _ _ _
  rw [← hW2]
  exact ((HT1.out.otherJ (by omega)).otherJ (by omega)).otherJ (by omega)
 have hB2:Bw w w2:=hB1.trans (hM2.below (by omega))
 have hsz2:w.heap.size+1+1<w2.heap.size:=Nat.lt_of_lt_of_le hsz1 hM2.size
 clear hW2 hM2 t0 t1 t2 t3 f0 f1 f2 f3 HU1 HT1 hB1 d3 hsz1
 refine (zD0 a n cap F _ (HF.out.below hB2) hmax HA.out).mono ?_
 rintro e w3 ⟨b,G,rfl,hO3,⟨q3,hQ3⟩,hb3⟩
 have HQ3:Hid (uP w3 w2.heap.size w3.heap.size b n (fun i=>(F i).n) (fun i=>(F i).n) q3):=hQ3
 clear hQ3
 have k0:=zY hb3 g0
 have k1:=zY hb3 g1
 have k2:=zY hb3 g2
 have hT3:=HT2.out.below hb3
 have hU3:=HU2.out.below hb3
 have hz3:=(hU3 3 (by omega)).2
 obtain ⟨u3,k3⟩:=(hU3 3 (by omega)).1
 have HO3:Hid (xN w3 w2.heap.size b n F G):=hO3
 have hsz3:w.heap.size+1+1<w3.heap.size:=Nat.lt_of_lt_of_le hsz2 hb3.size
 have HB3:Hid (Bw w w3):=zA hB2 hb3
 have hne:∀ i j:Nat,i≠j→(⟨w.heap.size+1+1,i,none⟩:Addr)≠⟨w.heap.size+1+1,j,none⟩:=fun i j hij h=>hij (by injection h)
 have i0:(w3.setCell ⟨w.heap.size+1+1,3,none⟩ (.slice (some ⟨b,0,none⟩) n n)).cell? ⟨w.heap.size+1+1,0,none⟩=some (.int .i64 z):=by rw [zB (hne _ _ (by omega))];exact k0
 have i1:(w3.setCell ⟨w.heap.size+1+1,3,none⟩ (.slice (some ⟨b,0,none⟩) n n)).cell? ⟨w.heap.size+1+1,1,none⟩=some (.int .i64 x):=by rw [zB (hne _ _ (by omega))];exact k1
 have i2:(w3.setCell ⟨w.heap.size+1+1,3,none⟩ (.slice (some ⟨b,0,none⟩) n n)).cell? ⟨w.heap.size+1+1,2,none⟩=some (.int .i64 y):=by rw [zB (hne _ _ (by omega))];exact k2
 have i3:(w3.setCell ⟨w.heap.size+1+1,3,none⟩ (.slice (some ⟨b,0,none⟩) n n)).cell? ⟨w.heap.size+1+1,3,none⟩=some (.slice (some ⟨b,0,none⟩) n n):=zG k3
 have HT4:Hid (zC (w3.setCell ⟨w.heap.size+1+1,3,none⟩ (.slice (some ⟨b,0,none⟩) n n)) (w.heap.size+1) 4):=hT3.otherJ (by omega)
 have hT':=HT4.out
 have t0:=hT'.cell 0 (by omega)
 have t1:=hT'.cell 1 (by omega)
 have t2:=hT'.cell 2 (by omega)
 have t3:=hT'.cell 3 (by omega)
 have f0:=(hT' 0 (by omega)).2
 have f1:=(hT' 1 (by omega)).2
 have f2:=(hT' 2 (by omega)).2
 have f3:=(hT' 3 (by omega)).2
 clear hT' g0 g1 g2 HT2 HU2 hB2 hO3 hb3 hT3 hU3 hne k0 k1 k2 HF HA
 go_wp2_with fail
 refine bodyPost_ret (resTT _ _ _ _ _ _ _ rfl (uT HT4.out).1 (uT HT4.out).2.1 (uT HT4.out).2.2.1 (uT HT4.out).2.2.2) rfl ⟨b,G,rfl,?_,?_,?_⟩
 ·exact HO3.out.midB (lo:=w.heap.size) (hi:=w.heap.size+1+1+1) (((((((zR.refl _ _ _).set (by omega) (by omega) _ _).set (by omega) (by omega) _ _).set (by omega) (by omega) _ _).set (by omega) (by omega) _ _).set (by omega) (by omega) _ _)) (by omega) (by omega)
 ·refine ⟨q3,uP.atQ (hi:=w3.heap.size) (uP.wideQ (lo:=w2.heap.size) (uP.away (lo':=w.heap.size) (hi':=w.heap.size+1+1+1) HQ3.out ?_ (.inl (by omega))) (by omega)) (by simp)⟩
  exact (((((((zR.refl _ _ _).set (by omega) (by omega) _ _).set (by omega) (by omega) _ _).set (by omega) (by omega) _ _).set (by omega) (by omega) _ _).set (by omega) (by omega) _ _))
 ·have HB:=HB3.out
  exact Qb
end Go.Proofs.YtpaiholildedcaaGreat
