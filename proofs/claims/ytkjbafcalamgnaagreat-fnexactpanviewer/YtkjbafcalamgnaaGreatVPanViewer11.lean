/- Texts. -/
import Derived.Test.YtkjbafcalamgnaaGreatVPanViewer7
import Derived.Test.YtkjbafcalamgnaaGreatVPanViewer9
import Derived.Test.YtkjbafcalamgnaaGreatVPanViewer8
set_option linter.unusedSimpArgs false
set_option linter.unusedVariables false
set_option maxRecDepth 100000
set_option maxHeartbeats 32000000
namespace Go.Proofs.YtkjbafcalamgnaaGreat
open Go.RowKit
def byB (cx cy r:Int)(X Y:Nat→Int):Nat→Bool
 | 0=>false
 | k+1=>byB cx cy r X Y k || yG cx cy (X (k - 1)) (Y (k - 1)) (X k) (Y k) r
def zIv (cx cy r:Int)(X Y:Nat→Int):Nat→Bool
 | 0=>false
 | k+1=>zIv cx cy r X Y k || yG cx cy (X k) (Y k) (X (k+1)) (Y (k+1)) r
theorem zUx (cx cy r:Int)(X Y:Nat→Int):∀ k,byB cx cy r X Y (k+1)=(yG cx cy (X 0) (Y 0) (X 0) (Y 0) r || zIv cx cy r X Y k)
 | 0=>by simp [byB,zIv]
 | k+1=>by
  rw [byB,zUx cx cy r X Y k,zIv,Bool.or_assoc]
  rfl
theorem zTs {px py ax ay bx by' r:Int}(h:yG px py ax ay ax ay r=true)(hb:okP bx by'=true):yG px py ax ay bx by' r=true:=by
 simp only [yG,Bool.and_eq_true] at h ⊢
 obtain ⟨h1,h2,h3,h4,h5⟩:=h
 refine ⟨h1,h2,hb,h4,zTt ?_⟩
 have:=of_decide_eq_true h5
 have ha:vD px py ax ay ax ay=0:=by simp [vD]
 simp only [zEp,vZ,ha,Int.le_refl,if_true] at this
 omega
theorem zIu (cx cy r:Int)(X Y:Nat→Int)(h:yG cx cy (X 0) (Y 0) (X 1) (Y 1) r=true):∀ k,zIv cx cy r X Y (k+1)=true
 | 0=>by simp [zIv,h]
 | k+1=>by rw [zIv,zIu cx cy r X Y h k];rfl
theorem zXb (cx cy r:Int)(X Y:Nat→Int)(n:Nat)(hn:2≤n)(h1:okP (X 1) (Y 1)=true):byB cx cy r X Y n=zIv cx cy r X Y (n - 1):=by
 obtain ⟨k,rfl⟩:∃ k,n=k+2:=⟨n - 2,by omega⟩
 rw [zUx]
 show _=zIv cx cy r X Y (k+1)
 cases h:yG cx cy (X 0) (Y 0) (X 0) (Y 0) r
 ·rfl
 ·rw [zIu cx cy r X Y (zTs h h1) k];rfl
theorem zXa {cx cy r:Int}{X Y:Nat→Int}(k:Nat)(h:byB cx cy r X Y k=true):∀ n,k≤n→byB cx cy r X Y n=true:=by
 intro n hn
 induction n with
 | zero=>rw [show k=0 by omega] at h;exact h
 | succ m ih =>
  by_cases e:k=m+1
  ·rw [← e];exact h
  ·rw [byB,ih (by omega)];rfl
theorem zTg {cx cy r:Int}{X Y:Nat→Int}(k:Nat)(h:zIv cx cy r X Y k=true):∀ n,k≤n→zIv cx cy r X Y n=true:=by
 intro n hn
 induction n with
 | zero=>rw [show k=0 by omega] at h;exact h
 | succ m ih =>
  by_cases e:k=m+1
  ·rw [← e];exact h
  ·rw [zIv,ih (by omega)];rfl
theorem zMx (cx cy r:Int)(b n cap:Nat)(X Y:Nat→Int)(w:World)(hp:zL w b 0 n X Y)(hbl:b<w.heap.size)(hn:0<n)(hmax:n≤1048576)(hcap:n≤cap) :
  Calls Tryz.prog 239 #[.agg #[.int .i64 cx,.int .i64 cy],.slice (some ⟨b,0,none⟩) n cap,.int .i64 r] w fun e w'=>e=.returned (.bool (byB cx cy r X Y n))∧Bw w w':=by
 have HP:Hid (zL w b 0 n X Y):=hp
 obtain ⟨e0,e1⟩:=hp 0 hn
 simp only [Nat.zero_add,Nat.zero_mul] at e0 e1
 clear hp
 have hni:(0:Int)<(n:Int):=by omega
 go_enter Tryz.func239,Tryz.ntmps239
 go_wp2_with fail
 generalize hW:((w.alloc _).alloc _:World)=W
 have HB0:Hid (Bw w W):=by show Below _ _ _;subst hW;exact Qb
 have hT:zC W (w.heap.size+1) 2:=by
  subst hW
  have:=there2 (w.alloc (.cells #[.int .i64 cx,.int .i64 cy] 206)) (.int .i64 (X 0)) (.int .i64 (Y 0)) 206
  simpa using this
 have c00:∀ W',Bw W W'→W'.cell? ⟨w.heap.size,0,none⟩=some (.int .i64 cx):=Qc hW
 have c01:∀ W',Bw W W'→W'.cell? ⟨w.heap.size,1,none⟩=some (.int .i64 cy):=Qc hW
 have c10:∀ W',Bw W W'→W'.cell? ⟨w.heap.size+1,0,none⟩=some (.int .i64 (X 0)):=Qc hW
 have c11:∀ W',Bw W W'→W'.cell? ⟨w.heap.size+1,1,none⟩=some (.int .i64 (Y 0)):=Qc hW
 have hszW:W.heap.size=w.heap.size+1+1:=by subst hW;simp
 clear hW
 have q0:=c00 W (Below.refl _ _)
 have q1:=c01 W (Below.refl _ _)
 have q2:=c10 W (Below.refl _ _)
 have q3:=c11 W (Below.refl _ _)
 clear c00 c01 c10 c11
 go_loopw [15] (fun i wr=>∃ k:Nat,k≤n∧i=.int .i64 (k:Int)∧byB cx cy r X Y k=false∧Below (w.heap.size+1) W wr∧zC wr (w.heap.size+1) 2∧wr.cell? ⟨w.heap.size+1,0,none⟩=some (.int .i64 (X (k - 1)))∧wr.cell? ⟨w.heap.size+1,1,none⟩=some (.int .i64 (Y (k - 1)))) (fun i _=>n - (intOf i).toNat)
 case atStart=>exact ⟨0,by omega,rfl,rfl,Below.refl _ _,hT,q2,q3⟩
 case round =>
  obtain ⟨k,hk,rfl,hF,hB,hT',f0,f1⟩:=hrel
  have HB:Hid (Below (w.heap.size+1) W wr):=hB
  have HBw:Hid (Bw w wr):=HB0.out.trans (hB.mono (by omega))
  have HF:Hid (byB cx cy r X Y k=false):=hF
  have hszr:=hB.size
  have g0:=(hB.cell (p:=⟨w.heap.size,0,none⟩) (by show w.heap.size<_;omega)).trans q0
  have g1:=(hB.cell (p:=⟨w.heap.size,1,none⟩) (by show w.heap.size<_;omega)).trans q1
  clear hB hF
  by_cases hlt:k<n
  ·obtain ⟨hx,hy⟩:=(HP.out.below HBw.out hbl) k hlt
   simp only [Nat.zero_add] at hx hy
   have hi':(k:Int)<(n:Int):=by omega
   have hbw:b<wr.heap.size:=by omega
   have HT:Hid (zC wr (w.heap.size+1) 2):=hT'
   have hl0:w.heap.size<wr.heap.size:=by omega
   have hl1:w.heap.size+1<wr.heap.size:=by omega
   clear hT'
   go_wp2_with fail
   generalize hV:(wr.alloc _:World)=V
   have hbV:Bw wr V:=by subst hV;exact Qb
   have d0:∀ W',Bw V W'→W'.cell? ⟨wr.heap.size,0,none⟩=some (.int .i64 (X k)):=Qc hV
   have d1:∀ W',Bw V W'→W'.cell? ⟨wr.heap.size,1,none⟩=some (.int .i64 (Y k)):=Qc hV
   have hszV:wr.heap.size<V.heap.size:=by subst hV;simp
   clear hV hx hy
   refine (zG7 _ _ _ _ _ _ _ _).mono ?_
   rintro e w1 ⟨rfl,hb1⟩
   have hbr1:=zA hbV hb1
   have HB1:Hid (Bw w w1):=zA HBw.out hbr1
   cases hq:yG cx cy (X (k - 1)) (Y (k - 1)) (X k) (Y k) r
   ·have hT1:=HT.out.below hbr1
    have t0:=hT1.cell 0 (by omega)
    have t1:=hT1.cell 1 (by omega)
    have z0:=(hT1 0 (by omega)).2
    have z1:=(hT1 1 (by omega)).2
    have p0:=d0 w1 hb1
    have p1:=d1 w1 hb1
    have HT1:Hid (zC w1 (w.heap.size+1) 2):=hT1
    have HBW1:Hid (Below (w.heap.size+1) W w1):=HB.out.trans (hbr1.mono (by omega))
    have hsz1:=hbr1.size
    have HK:Hid (byB cx cy r X Y (k+1)=false):=by show _=_;rw [byB,HF.out,hq];rfl
    clear hT1 d0 d1 hbr1 hb1 hbV f0 f1 g0 g1
    go_wp2_with fail
    go_roundw
    case rel =>
     refine ⟨k+1,by omega,by go_num,HK.out,(HBW1.out.setCell (by show w.heap.size+1≤w.heap.size+1;omega) _).setCell (by show w.heap.size+1≤w.heap.size+1;omega) _,?_,zXs (Option.isSome_iff_exists.2 ⟨_,t0⟩),zXr (Option.isSome_iff_exists.2 ⟨_,t1⟩)⟩
     exact (HT1.out.set 0 _).set 1 _
    case measure=>simp [intOf];omega
   ·have HK:Hid (byB cx cy r X Y n=true):=zXa (k+1) (by rw [byB,hq];simp) n (by omega)
    go_wp2_with fail
    go_ret
    exact ⟨zG (by rw [HK.out]),HB1.out⟩
  ·have hkn:k=n:=by omega
   subst hkn
   go_wp2_with fail
   go_ret
   exact ⟨zG (by rw [HF.out]),HBw.out⟩
theorem zMu (cx cy r:Int)(b n cap:Nat)(X Y:Nat→Int)(w:World)(hp:zL w b 0 n X Y)(hbl:b<w.heap.size)(hmax:n≤1048576)(hcap:n≤cap) :
  Calls Tryz.prog 238 #[.agg #[.int .i64 cx,.int .i64 cy],.slice (some ⟨b,0,none⟩) n cap,.int .i64 r] w fun e w'=>e=.returned (.bool (xE cx cy n X Y))∧Bw w w':=by
 have HP:Hid (zL w b 0 n X Y):=hp
 clear hp
 go_enter Tryz.func238,Tryz.ntmps238
 go_wp2_with fail
 generalize hW:(w.alloc _:World)=W
 have hB0:Bw w W:=by subst hW;exact Qb
 clear hW
 refine (zEw _ _ b n cap X Y W (HP.out.below hB0 hbl) (Nat.lt_of_lt_of_le hbl hB0.size) hcap hmax).mono ?_
 rintro e w1 ⟨rfl,hb1⟩
 go_wp2_with fail
 go_ret
 exact ⟨rfl,zA hB0 hb1⟩
structure Req where
 z:Int
 x:Int
 y:Int
 du:Int
 tr:Int
abbrev zLj (e:Req):Value:=.agg #[.int .i64 e.z,.int .i64 e.x,.int .i64 e.y,.int .i64 e.du,.int .i64 e.tr]
def zNr (w:World)(p o:Nat)(e:Req):Prop:=w.cell? ⟨p,o,none⟩=some (.int .i64 e.z)∧w.cell? ⟨p,o+1,none⟩=some (.int .i64 e.x)∧w.cell? ⟨p,o+2,none⟩=some (.int .i64 e.y)∧w.cell? ⟨p,o+3,none⟩=some (.int .i64 e.du)∧w.cell? ⟨p,o+4,none⟩=some (.int .i64 e.tr)
theorem zNr.below {w w':World}{p o B:Nat}{e:Req}(h:zNr w p o e)(hb:Below B w w')(hp:p<B):zNr w' p o e:=by
 obtain ⟨h0,h1,h2,h3,h4⟩:=h
 exact ⟨(hb.cell (p:=⟨p,o,none⟩) hp).trans h0,(hb.cell (p:=⟨p,o+1,none⟩) hp).trans h1,(hb.cell (p:=⟨p,o+2,none⟩) hp).trans h2,(hb.cell (p:=⟨p,o+3,none⟩) hp).trans h3,(hb.cell (p:=⟨p,o+4,none⟩) hp).trans h4⟩
def zAc (w:World)(p off n:Nat)(E:Nat→Req):Prop:=∀ i,i<n→zNr w p (off+i * 5) (E i)
theorem zAc.below {w w':World}{p off n B:Nat}{E:Nat→Req}(h:zAc w p off n E)(hb:Below B w w')(hp:p<B):zAc w' p off n E:=fun i hi=>(h i hi).below hb hp
def xS (w:World)(a:Option Addr)(n:Nat)(E:Nat→Req):Prop:=n=0∨∃ b off,a=some ⟨b,off,none⟩∧b<w.heap.size∧zAc w b off n E
theorem xS.below {w w':World}{a:Option Addr}{n:Nat}{E:Nat→Req}(h:xS w a n E)(hb:Below w.heap.size w w'):xS w' a n E:=by
 rcases h with h | ⟨b,off,e,hl,hp⟩
 ·exact .inl h
 ·exact .inr ⟨b,off,e,Nat.lt_of_lt_of_le hl hb.size,hp.below hb hl⟩
theorem zC.outW {w:World}{O r n o:Nat}{x:Value}(h:zC w r n)(hne:O≠r):zC (w.setCell ⟨O,o,none⟩ x) r n:=fun i hi=>by
 obtain ⟨u,hu⟩:=(h i hi).1
 refine ⟨⟨u,?_⟩,?_⟩
 ·rw [zB (fun e=>hne (by injection e))];exact hu
 ·rw [World.frozen?_setCell];exact (h i hi).2
def zC1 (W:World)(B o:Nat)(e:Req):World:=(((((W.setCell ⟨B,o,none⟩ (.int .i64 e.z)).setCell ⟨B,o+1,none⟩ (.int .i64 e.x)).setCell ⟨B,o+2,none⟩ (.int .i64 e.y)).setCell ⟨B,o+3,none⟩ (.int .i64 e.du)).setCell ⟨B,o+4,none⟩ (.int .i64 e.tr))
theorem uT {W:World}{B o:Nat}{e:Req}{p:Addr}(h:p.block≠B∨p.off<o∨o+4<p.off):(zC1 W B o e).cell? p=W.cell? p:=by
 have ne:∀ k:Nat,k≤4→(⟨B,o+k,none⟩:Addr)≠p:=fun k hk e=>by subst e;simp at h;omega
 have ne0:(⟨B,o,none⟩:Addr)≠p:=ne 0 (by omega)
 unfold zC1
 rw [zB (ne 4 (by omega)),zB (ne 3 (by omega)),zB (ne 2 (by omega)),zB (ne 1 (by omega)),zB ne0]
theorem zGu {W:World}{B o m:Nat}{e:Req}(h:zC W B m):zC (zC1 W B o e) B m:=by
 unfold zC1
 exact (((((h.set _ _).set _ _).set _ _).set _ _).set _ _)
theorem zI7 (W:World)(B o:Nat)(e:Req):(zC1 W B o e).heap.size=W.heap.size:=by unfold zC1;simp
theorem zGv {V W:World}{n B o:Nat}{e:Req}(h:Below n V W)(hB:n≤B):Below n V (zC1 W B o e):=by
 unfold zC1
 exact (((((h.setCell hB _).setCell hB _).setCell hB _).setCell hB _).setCell hB _)
theorem zP0 {W:World}{B o m:Nat}{e:Req}(h:zC W B m)(ho:o+4<m):zNr (zC1 W B o e) B o e:=by
 have ne:∀ i j:Nat,i≠j→(⟨B,i,none⟩:Addr)≠⟨B,j,none⟩:=fun i j hij h=>hij (by injection h)
 obtain ⟨u0,g0⟩:=(h (o) (by omega)).1
 obtain ⟨u1,g1⟩:=((h.set (o) (.int .i64 e.z)) (o+1) (by omega)).1
 obtain ⟨u2,g2⟩:=(((h.set (o) (.int .i64 e.z)).set (o+1) (.int .i64 e.x)) (o+2) (by omega)).1
 obtain ⟨u3,g3⟩:=((((h.set (o) (.int .i64 e.z)).set (o+1) (.int .i64 e.x)).set (o+2) (.int .i64 e.y)) (o+3) (by omega)).1
 obtain ⟨u4,g4⟩:=(((((h.set (o) (.int .i64 e.z)).set (o+1) (.int .i64 e.x)).set (o+2) (.int .i64 e.y)).set (o+3) (.int .i64 e.du)) (o+4) (by omega)).1
 unfold zC1
 refine ⟨?_,?_,?_,?_,?_⟩
 ·rw [zB (ne (o+4) (o) (by omega)),zB (ne (o+3) (o) (by omega)),zB (ne (o+2) (o) (by omega)),zB (ne (o+1) (o) (by omega))];exact zE g0
 ·rw [zB (ne (o+4) (o+1) (by omega)),zB (ne (o+3) (o+1) (by omega)),zB (ne (o+2) (o+1) (by omega))];exact zE g1
 ·rw [zB (ne (o+4) (o+2) (by omega)),zB (ne (o+3) (o+2) (by omega))];exact zE g2
 ·rw [zB (ne (o+4) (o+3) (by omega))];exact zE g3
 ·exact zE g4
theorem zAc.lay {W:World}{B n k:Nat}{E:Nat→Req}(h:zAc W B 0 k E)(hT:zC W B (n * 5))(hk:k<n):zAc (zC1 W B (k * 5) (E k)) B 0 (k+1) E:=fun i hi=>by
 by_cases e:i=k
 ·subst e
  rw [Nat.zero_add]
  exact zP0 hT (by omega)
 ·have h':=h i (by omega)
  unfold zNr at h' ⊢
  rw [uT (.inr (.inl (by simp;omega))),uT (.inr (.inl (by simp;omega))),uT (.inr (.inl (by simp;omega))),uT (.inr (.inl (by simp;omega))),uT (.inr (.inl (by simp;omega)))]
  exact h'
abbrev zSu:Array Value:=#[.int .i64 0,.int .i64 0,.int .i64 0,.int .i64 0,.int .i64 0]
theorem info_iw:(Tryz.prog.info? 106).map (fun i=>(i.zero,i.size,i.bytes))=some (some (.agg zSu),5,40):=by kernel_rfl
theorem zTw (n:Nat)(h:n≤1048576)(w:World) :
  (Instr.makeSlice 36 (.int .i64 (n:Int)) (.int .i64 (n:Int))).run Tryz.prog w=.ok (.slice (some ⟨w.heap.size,0,none⟩) n n) (w.alloc (.cells (madeCells zSu (n * 5)) 106)):=by
 obtain ⟨i,hi,hz,hs,hb⟩:=info_parts info_iw
 have hr:=run_make (P:=Tryz.prog) w 36 106 i _ Tryz.underlying36 hi hz .i64 .i64 (n:Int) (n:Int) (by omega) (Int.le_refl _) (by rw [hb];omega) (by omega)
 simp only [Int.toNat_natCast,hs] at hr
 exact hr
theorem zN5 (n:Nat)(w:World)(t:TypeId):zC (w.alloc (.cells (madeCells zSu n) t)) w.heap.size n:=fun o ho=>by
 have hz:=size_madeCells zSu n
 refine ⟨⟨(madeCells zSu n)[o]'(by rw [hz];exact ho),?_⟩,World.frozen?_alloc_at _ _ _ _ rfl⟩
 rw [World.cell?_alloc_at _ _ _ _ rfl]
 exact Array.getElem?_eq_getElem _
theorem zJw (e:Req)(w:World):Calls Tryz.prog 68 #[zLj e] w fun r w'=>r=.returned (zLj e)∧Bw w w':=by
 go_enter Tryz.func68,Tryz.ntmps68
 go_wp2_with fail
 generalize hW:(((w.alloc _).alloc _).alloc _:World)=W
 have hB0:Bw w W:=by subst hW;exact Qb
 have hT1:zC W (w.heap.size+1) 5:=fun o ho=>by
  subst hW
  have hc:o=0∨o=1∨o=2∨o=3∨o=4:=by omega
  rcases hc with rfl | rfl | rfl | rfl | rfl <;> exact ⟨⟨_,by simp [go_sem];rfl⟩,by simp [go_sem]⟩
 have hT2:zC W (w.heap.size+1+1) 5:=fun o ho=>by
  subst hW
  have hc:o=0∨o=1∨o=2∨o=3∨o=4:=by omega
  rcases hc with rfl | rfl | rfl | rfl | rfl <;> exact ⟨⟨_,by simp [go_sem];rfl⟩,by simp [go_sem]⟩
 have c3:W.cell? ⟨w.heap.size,3,none⟩=some (.int .i64 e.du):=by subst hW;simp [go_sem]
 have c4:W.cell? ⟨w.heap.size,4,none⟩=some (.int .i64 e.tr):=by subst hW;simp [go_sem]
 have hsz:w.heap.size+1+1<W.heap.size:=by subst hW;simp
 clear hW
 refine (zLr _ _ _ _).mono ?_
 rintro r w1 ⟨rfl,hb1⟩
 have hT1':=hT1.below hb1
 have hT2':=hT2.below hb1
 have c3':w1.cell? ⟨w.heap.size,3,none⟩=some (.int .i64 e.du):=(hb1.cell (p:=⟨w.heap.size,3,none⟩) (by show w.heap.size<_;omega)).trans c3
 have c4':w1.cell? ⟨w.heap.size,4,none⟩=some (.int .i64 e.tr):=(hb1.cell (p:=⟨w.heap.size,4,none⟩) (by show w.heap.size<_;omega)).trans c4
 have HB1:Hid (Bw w w1):=zA hB0 hb1
 have s0:=hT1'.cell 0 (by omega)
 have s1:=hT1'.cell 1 (by omega)
 have s2:=hT1'.cell 2 (by omega)
 have s3:=hT1'.cell 3 (by omega)
 have s4:=hT1'.cell 4 (by omega)
 have y0:=(hT1' 0 (by omega)).2
 have y1:=(hT1' 1 (by omega)).2
 have y2:=(hT1' 2 (by omega)).2
 have y3:=(hT1' 3 (by omega)).2
 have y4:=(hT1' 4 (by omega)).2
 have t0:=hT2'.cell 0 (by omega)
 have t1:=hT2'.cell 1 (by omega)
 have t2:=hT2'.cell 2 (by omega)
 have t3:=hT2'.cell 3 (by omega)
 have t4:=hT2'.cell 4 (by omega)
 have z0:=(hT2' 0 (by omega)).2
 have z1:=(hT2' 1 (by omega)).2
 have z2:=(hT2' 2 (by omega)).2
 have z3:=(hT2' 3 (by omega)).2
 have z4:=(hT2' 4 (by omega)).2
 have HT1:Hid (zC w1 (w.heap.size+1) 5):=hT1'
 clear hT1 hT2 c3 c4 hb1 hB0 hT1' hT2'
 have hsz':=hsz
 clear hsz
 go_wp2_with fail
 have key:∀ (T:Array Value) (Wf:World),T[2]?.getD undef=.pointer (some ⟨w.heap.size+1,0,none⟩)→zNr Wf (w.heap.size+1) 0 e→(results Tryz.f68 T).run Tryz.prog Wf=.ok (zLj e) Wf:=fun T Wf hT ⟨h0,h1,h2,h3,h4⟩=>by
  simp only [Nat.zero_add] at h0 h1 h2 h3 h4
  simp [results,Tryz.results68,go_sem,hT,h0,h1,h2,h3,h4]
 have hL:∀ V:World,zC V (w.heap.size+1) 5→zNr (zC1 V (w.heap.size+1) 0 e) (w.heap.size+1) 0 e:=fun V hV=>zP0 hV (by omega)
 refine bodyPost_ret (key _ _ rfl (hL _ ?_)) rfl ⟨rfl,?_⟩
 ·exact (((((HT1.out.outW (by omega)).outW (by omega)).outW (by omega)).outW (by omega)).outW (by omega))
 ·exact ((((((((((HB1.out.setCell (by simp;omega) _).setCell (by simp;omega) _).setCell (by simp;omega) _).setCell (by simp;omega) _).setCell (by simp;omega) _).setCell (by simp) _).setCell (by simp) _).setCell (by simp) _).setCell (by simp) _).setCell (by simp) _)
theorem zHw (a:Option Addr)(n cap:Nat)(E:Nat→Req)(w:World)(hp:xS w a n E)(hmax:n≤1048576) :
  Calls Tryz.prog 33 #[.slice a n cap] w fun e w'=>∃ b,e=.returned (.slice (some ⟨b,0,none⟩) n n)∧w.heap.size≤b∧b<w'.heap.size∧zAc w' b 0 n E∧zC w' b (n * 5)∧Bw w w':=by
 have hmk:=zTw n hmax
 have HP:Hid (xS w a n E):=hp
 clear hp
 go_enter Tryz.func33,Tryz.ntmps33
 go_wp2
 generalize hW:(w.alloc _:World)=W
 have HB0:Hid (Bw w W):=by show Below _ _ _;subst hW;exact Qb
 have HT0:Hid (zC W w.heap.size (n * 5)):=by show zC _ _ _;subst hW;exact zN5 _ _ _
 have HL0:Hid (w.heap.size<W.heap.size):=by show _<_;subst hW;simp
 clear hW hmk
 go_loopw [4] (fun i wr=>∃ (k:Nat),k≤n∧i=.int .i64 k∧Bw w wr∧zC wr w.heap.size (n * 5)∧zAc wr w.heap.size 0 k E∧w.heap.size<wr.heap.size) (fun i _=>n - (intOf i).toNat)
 case atStart=>exact ⟨0,by omega,rfl,HB0.out,HT0.out,fun i hi=>by omega,HL0.out⟩
 case round =>
  obtain ⟨k,hk,rfl,hB,hT,hO,hlw⟩:=hrel
  by_cases hlt:k<n
  ·rcases HP.out with h0 | ⟨b,off,rfl,hbl,hpt⟩
   ·omega
   ·obtain ⟨f0,f1,f2,f3,f4⟩:=(hpt.below hB hbl) k hlt
    have HB:Hid (Bw w wr):=hB
    have HT:Hid (zC wr w.heap.size (n * 5)):=hT
    have HO:Hid (zAc wr w.heap.size 0 k E):=hO
    clear hB hT hO hpt
    have hi:(k:Int)<(n:Int):=by omega
    have hi0:(0:Int)≤(k:Int):=by omega
    go_wp2_with fail
    refine (zJw (E k) _).mono ?_
    rintro e w' ⟨rfl,hb⟩
    have hT':=HT.out.below hb
    have t0:=hT'.cell (k * 5+0) (by omega)
    have t1:=hT'.cell (k * 5+1) (by omega)
    have t2:=hT'.cell (k * 5+2) (by omega)
    have t3:=hT'.cell (k * 5+3) (by omega)
    have t4:=hT'.cell (k * 5+4) (by omega)
    have y0:=(hT' (k * 5+0) (by omega)).2
    have y1:=(hT' (k * 5+1) (by omega)).2
    have y2:=(hT' (k * 5+2) (by omega)).2
    have y3:=(hT' (k * 5+3) (by omega)).2
    have y4:=(hT' (k * 5+4) (by omega)).2
    simp only [Nat.add_zero] at t0 y0
    have HT':Hid (zC w' w.heap.size (n * 5)):=hT'
    have HBn:Hid (Bw wr w'):=hb
    clear hT' hb f0 f1 f2 f3 f4
    go_wp2
    go_roundw
    case rel =>
     refine ⟨k+1,by omega,by go_num,?_,?_,?_,?_⟩
     ·exact zGv (e:=E k) (B:=w.heap.size) (o:=k * 5) (HB.out.trans (HBn.out.mono HB.out.size)) (Nat.le_refl _)
     ·exact zGu (e:=E k) (B:=w.heap.size) (o:=k * 5) HT'.out
     ·exact zAc.lay (HO.out.below HBn.out hlw) HT'.out hlt
     ·have:=HBn.out.size
      show _<(zC1 w' w.heap.size (k * 5) (E k)).heap.size
      rw [zI7];omega
    case measure=>simp [intOf];omega
  ·go_wp2
   go_ret
   have hkn:k=n:=by omega
   subst hkn
   exact ⟨_,rfl,Nat.le_refl _,hlw,hO,hT,hB⟩
theorem zK6 (e:Req)(w:World):Calls Tryz.prog 83 #[zLj e,zLj e] w fun r w'=>r=.returned (.bool true)∧Bw w w':=by
 go_enter Tryz.func83,Tryz.ntmps83
 go_wp2_with fail
 generalize hW:((w.alloc _).alloc _:World)=W
 have hB0:Bw w W:=by subst hW;exact Qb
 have c3:∀ W',Bw W W'→W'.cell? ⟨w.heap.size,3,none⟩=some (.int .i64 e.du):=fun W' h=>by rw [h.cell (by subst hW;simp;omega)];subst hW;simp [go_sem]
 have c4:∀ W',Bw W W'→W'.cell? ⟨w.heap.size,4,none⟩=some (.int .i64 e.tr):=fun W' h=>by rw [h.cell (by subst hW;simp;omega)];subst hW;simp [go_sem]
 have d3:∀ W',Bw W W'→W'.cell? ⟨w.heap.size+1,3,none⟩=some (.int .i64 e.du):=fun W' h=>by rw [h.cell (by subst hW;simp)];subst hW;simp [go_sem]
 have d4:∀ W',Bw W W'→W'.cell? ⟨w.heap.size+1,4,none⟩=some (.int .i64 e.tr):=fun W' h=>by rw [h.cell (by subst hW;simp)];subst hW;simp [go_sem]
 clear hW
 refine (zEd _ _ _ _).mono ?_
 rintro r w1 ⟨rfl,hb1⟩
 have k3:=c3 w1 hb1
 have k4:=c4 w1 hb1
 have l3:=d3 w1 hb1
 have l4:=d4 w1 hb1
 have HB1:Hid (Bw w w1):=zA hB0 hb1
 clear c3 c4 d3 d4 hb1 hB0
 go_wp2
 go_ret
 exact ⟨rfl,HB1.out⟩
theorem zCo (a a':Option Addr)(n cap cap':Nat)(E:Nat→Req)(w:World)(hp:xS w a n E)(hq:xS w a' n E)(hmax:n≤1048576) :
  Calls Tryz.prog 40 #[.slice a n cap,.slice a' n cap'] w fun e w'=>e=.returned (.bool true)∧Bw w w':=by
 have HP:Hid (xS w a n E):=hp
 have HQ:Hid (xS w a' n E):=hq
 clear hp hq
 go_enter Tryz.func40,Tryz.ntmps40
 go_wp2
 go_loopw [5] (fun i wr=>∃ k:Nat,k≤n∧i=.int .i64 k∧Bw w wr) (fun i _=>n - (intOf i).toNat)
 case atStart=>exact ⟨0,by omega,rfl,Below.refl _ _⟩
 case round =>
  obtain ⟨k,hk,rfl,hB⟩:=hrel
  by_cases hlt:k<n
  ·rcases HP.out with h0 | ⟨b,off,rfl,hb,hpt⟩
   ·omega
   rcases HQ.out with h0 | ⟨d,off',rfl,hd,hqt⟩
   ·omega
   have hpr:=hpt.below hB hb
   have hqr:=hqt.below hB hd
   have hbr:b<wr.heap.size:=Nat.lt_of_lt_of_le hb hB.size
   have hdr:d<wr.heap.size:=Nat.lt_of_lt_of_le hd hB.size
   have c0:∀ W',Bw wr W'→W'.cell? ⟨b,off+k * 5,none⟩=some (.int .i64 (E k).z):=fun W' h=>(hpr.below h hbr k hlt).1
   have c1:∀ W',Bw wr W'→W'.cell? ⟨b,off+k * 5+1,none⟩=some (.int .i64 (E k).x):=fun W' h=>(hpr.below h hbr k hlt).2.1
   have c2:∀ W',Bw wr W'→W'.cell? ⟨b,off+k * 5+2,none⟩=some (.int .i64 (E k).y):=fun W' h=>(hpr.below h hbr k hlt).2.2.1
   have c3:∀ W',Bw wr W'→W'.cell? ⟨b,off+k * 5+3,none⟩=some (.int .i64 (E k).du):=fun W' h=>(hpr.below h hbr k hlt).2.2.2.1
   have c4:∀ W',Bw wr W'→W'.cell? ⟨b,off+k * 5+4,none⟩=some (.int .i64 (E k).tr):=fun W' h=>(hpr.below h hbr k hlt).2.2.2.2
   have d0:∀ W',Bw wr W'→W'.cell? ⟨d,off'+k * 5,none⟩=some (.int .i64 (E k).z):=fun W' h=>(hqr.below h hdr k hlt).1
   have d1:∀ W',Bw wr W'→W'.cell? ⟨d,off'+k * 5+1,none⟩=some (.int .i64 (E k).x):=fun W' h=>(hqr.below h hdr k hlt).2.1
   have d2:∀ W',Bw wr W'→W'.cell? ⟨d,off'+k * 5+2,none⟩=some (.int .i64 (E k).y):=fun W' h=>(hqr.below h hdr k hlt).2.2.1
   have d3:∀ W',Bw wr W'→W'.cell? ⟨d,off'+k * 5+3,none⟩=some (.int .i64 (E k).du):=fun W' h=>(hqr.below h hdr k hlt).2.2.2.1
   have d4:∀ W',Bw wr W'→W'.cell? ⟨d,off'+k * 5+4,none⟩=some (.int .i64 (E k).tr):=fun W' h=>(hqr.below h hdr k hlt).2.2.2.2
   have HB:Hid (Bw w wr):=hB
   have HLT:Hid (k<n):=hlt
   clear hB hpt hqt hpr hqr
   have hi:(k:Int)<(n:Int):=by omega
   have hi0:(0:Int)≤(k:Int):=by omega
   go_wp2
   go_region_held3 (fun W'=>Bw wr W') ((repeat (first|exact Qr _ _|assumption|refine Qd ?_|refine Qa ?_ _|refine Qt ?_|refine Qs ?_ _|refine Qo ?_ ?_ _ _)))
    (first
     | (go_at_call 83;refine (zK6 (E k) _).mono ?_;rintro e w' ⟨rfl,hb⟩)
     | fail)
   go_wp2
   go_roundw
   case rel=>exact ⟨k+1,by have:=HLT.out;omega,by go_num,zA HB.out (by assumption)⟩
   case measure=>have:=HLT.out;simp [intOf];omega
  ·go_wp2
   go_ret
   exact ⟨rfl,hB⟩
theorem zJ0 (a:Option Addr)(n cap left:Nat)(w:World)(hl:left≤1048576)(hn:left<n)(hm:n≤maxLen) :
  Calls Tryz.prog 26 #[.slice a n cap,.int .i64 (left:Int)] w fun e w'=>e=.returned (.int .i64 (-1))∧Bw w w':=by
 unfold maxLen at hm
 have hneg:(left:Int) - (n:Int)<0:=by omega
 go_enter Tryz.func26,Tryz.ntmps26
 go_wp2
 go_ret
 exact ⟨rfl,Qb⟩
theorem zJz (a:Option Addr)(n cap left:Nat)(w:World)(hl:left≤1048576)(hn:n≤left) :
  Calls Tryz.prog 26 #[.slice a n cap,.int .i64 (left:Int)] w fun e w'=>e=.returned (.int .i64 ((left:Int) - (n:Int)))∧Bw w w':=by
 have hneg:¬ (left:Int) - (n:Int)<0:=by omega
 go_enter Tryz.func26,Tryz.ntmps26
 go_wp2
 go_ret
 exact ⟨rfl,Qb⟩
theorem zKy:(Tryz.prog.info? 104).map (fun i=>(i.zero,i.size,i.bytes))=some (some (.agg #[.int .i64 0,.int .i64 0,.int .i64 0]),3,24):=by kernel_rfl
def yE (R:Rfs)(n:Nat):List Value:=(List.range n).flatMap fun i=>[.int .i64 (R.z i),.int .i64 (R.x i),.int .i64 (R.y i)]
theorem zCf (R:Rfs)(n:Nat):yE R (n+1)=yE R n ++ [.int .i64 (R.z n),.int .i64 (R.x n),.int .i64 (R.y n)]:=by simp [yE,List.range_succ]
theorem uQ (R:Rfs):∀ n,(yE R n).length=n * 3
 | 0=>rfl
 | n+1=>by rw [zCf,List.length_append,uQ R n];simp;omega
theorem zNk (R:Rfs):∀ (n i:Nat),i<n→(yE R n)[i * 3]?=some (.int .i64 (R.z i))∧(yE R n)[i * 3+1]?=some (.int .i64 (R.x i))∧(yE R n)[i * 3+2]?=some (.int .i64 (R.y i))
 | 0,i,h=>absurd h (by omega)
 | n+1,i,h=>by
  rw [zCf]
  by_cases e:i=n
  ·subst e
   have hl:=uQ R i
   rw [List.getElem?_append_right (by omega),List.getElem?_append_right (by omega),List.getElem?_append_right (by omega),hl]
   have e1:i * 3+1 - i * 3=1:=by omega
   have e2:i * 3+2 - i * 3=2:=by omega
   rw [Nat.sub_self,e1,e2]
   exact ⟨rfl,rfl,rfl⟩
  ·have hl:=uQ R n
   rw [List.getElem?_append_left (by omega),List.getElem?_append_left (by omega),List.getElem?_append_left (by omega)]
   exact zNk R n i (by omega)
def zFd (base:Nat)(w:World)(v:Value)(n:Nat)(R:Rfs):Prop:=w.ownsRow base 104 3 v n (yE R n)
theorem zFd.no (base:Nat)(w:World)(R:Rfs):zFd base w (.slice none 0 0) 0 R:=World.ownsRow_nil _ _ _ _
theorem zFd.own {base:Nat}{w:World}{v:Value}{n:Nat}{R:Rfs}(h:zFd base w v n R):zNs w base v n R:=by
 obtain ⟨h1,h2 | ⟨g,cp,cur,hv,hg,hh,hkc,hcm,hcs,htk⟩⟩:=h
 ·obtain ⟨rfl,h0⟩:=h2
  rw [h0]
  exact ⟨none,0,rfl,Nat.le_refl _,.inl rfl⟩
 ·have hgl:g<w.heap.size:=by
   rcases Nat.lt_or_ge g w.heap.size with h' | h'
   ·exact h'
   ·rw [Array.getElem?_eq_none h'] at hh;cases hh
  have hrow:w.ownsRow base 104 3 (.slice (some ⟨g,0,none⟩) n cp) n (yE R n):=⟨h1,.inr ⟨g,cp,cur,rfl,hg,hh,hkc,hcm,hcs,htk⟩⟩
  refine ⟨some ⟨g,0,none⟩,cp,hv,hkc,.inr ⟨g,rfl,hg,hgl,fun i hi=>?_,fun o ho=>⟨?_,hrow.frozenAt o⟩⟩⟩
  ·obtain ⟨e1,e2,e3⟩:=zNk R n i hi
   simp only [Nat.zero_add]
   exact ⟨(hrow.cellAt _ (by omega)).trans e1,(hrow.cellAt _ (by omega)).trans e2,(hrow.cellAt _ (by omega)).trans e3⟩
  ·rw [hrow.cellAt o ho]
   have hlt:o<(yE R n).length:=by rw [uQ];exact ho
   exact ⟨(yE R n)[o],List.getElem?_eq_getElem hlt⟩
theorem zS5 (V:World)(a b:Value)(t:TypeId):zC (V.alloc (.cells #[a,b] t)) V.heap.size 2:=fun o ho=>by
 have:o=0∨o=1:=by omega
 rcases this with rfl | rfl <;> exact ⟨⟨_,by simp [go_sem];rfl⟩,by simp [go_sem]⟩
theorem zNs.set {w:World}{base B r o:Nat}{v u:Value}{n:Nat}{R:Rfs}(h:zNs w base v n R)(hr:r<base)(hB:B≤base):zNs (w.setCell ⟨r,o,none⟩ u) B v n R:=by
 obtain ⟨a,cap,hv,hc,h0 | ⟨b,ha,hbb,hl,hp,ht⟩⟩:=h
 ·exact ⟨a,cap,hv,hc,.inl h0⟩
 ·have hne:∀ i:Nat,(⟨r,o,none⟩:Addr)≠⟨b,i,none⟩:=fun i e=>by injection e with e;omega
  refine ⟨a,cap,hv,hc,.inr ⟨b,ha,by omega,by simpa [World.setCell] using hl,fun i hi=>?_,fun o' ho'=>?_⟩⟩
  ·obtain ⟨h0,h1,h2⟩:=hp i hi
   exact ⟨by rw [zB (hne _)];exact h0,by rw [zB (hne _)];exact h1,by rw [zB (hne _)];exact h2⟩
  ·obtain ⟨⟨x,hx⟩,hf⟩:=ht o' ho'
   exact ⟨⟨x,by rw [zB (hne _)];exact hx⟩,by rw [World.frozen?_setCell];exact hf⟩
def zAl (w:World)(b:Nat)(z x y:Int):Prop:=w.cell? ⟨b,0,none⟩=some (.int .i64 z)∧w.cell? ⟨b,1,none⟩=some (.int .i64 x)∧w.cell? ⟨b,2,none⟩=some (.int .i64 y)
theorem zAl.lt {w:World}{b:Nat}{z x y:Int}(h:zAl w b z x y):b<w.heap.size:=World.block_lt_of_cell? _ _ h.1
theorem zAl.below {w w':World}{b:Nat}{z x y:Int}(h:zAl w b z x y)(hb:Below w.heap.size w w'):zAl w' b z x y :=
 ⟨(hb.cell (p:=⟨b,0,none⟩) h.lt).trans h.1,(hb.cell (p:=⟨b,1,none⟩) h.lt).trans h.2.1,(hb.cell (p:=⟨b,2,none⟩) h.lt).trans h.2.2⟩
theorem zAl.apart {w:World}{b r o:Nat}{v:Value}{z x y:Int}(h:zAl w b z x y)(hr:r≠b):zAl (w.setCell ⟨r,o,none⟩ v) b z x y :=
 ⟨(zB (fun e=>hr (by injection e))).trans h.1,(zB (fun e=>hr (by injection e))).trans h.2.1,(zB (fun e=>hr (by injection e))).trans h.2.2⟩
theorem zAl.put {W:World}{r:Nat}{z x y:Int}(hT:zC W r 3):zAl (((W.setCell ⟨r,0,none⟩ (.int .i64 z)).setCell ⟨r,1,none⟩ (.int .i64 x)).setCell ⟨r,2,none⟩ (.int .i64 y)) r z x y:=by
 obtain ⟨x0,h0⟩:=(hT 0 (by omega)).1
 obtain ⟨x1,h1⟩:=(hT 1 (by omega)).1
 obtain ⟨x2,h2⟩:=(hT 2 (by omega)).1
 have ne:∀ i j:Nat,i≠j→(⟨r,i,none⟩:Addr)≠⟨r,j,none⟩:=fun i j hij h=>hij (by injection h)
 refine ⟨?_,?_,?_⟩
 ·rw [zB (ne 2 0 (by omega)),zB (ne 1 0 (by omega))];exact zE h0
 ·rw [zB (ne 2 1 (by omega))];exact zE (by rw [zB (ne 0 1 (by omega))];exact h1)
 ·exact zE (by rw [zB (ne 1 2 (by omega)),zB (ne 0 2 (by omega))];exact h2)
theorem zC.putV {W:World}{r n o r':Nat}{v:Value}(h:zC W r n):zC (W.setCell ⟨r',o,none⟩ v) r n:=fun o' ho=>by
 obtain ⟨⟨u,hu⟩,hf⟩:=h o' ho
 refine ⟨?_,by rw [World.frozen?_setCell];exact hf⟩
 by_cases e:(⟨r',o,none⟩:Addr)=⟨r,o',none⟩
 ·rw [e];exact ⟨v,World.cell?_setCell_same _ _ _ (by rw [hu])⟩
 ·exact ⟨u,by rw [zB e];exact hu⟩
theorem zC.lt3 {W:World}{r:Nat}(h:zC W r 3):r<W.heap.size:=by
 obtain ⟨v,hv⟩:=(h 0 (by omega)).1
 exact World.block_lt_of_cell? _ _ hv
theorem Reg.store3 {B r n:Nat}{W W1:World}{a b c:Value}(h:Reg B W r n W1)(hr:B≤r):Reg B W r n (((W1.setCell ⟨r,0,none⟩ a).setCell ⟨r,1,none⟩ b).setCell ⟨r,2,none⟩ c) :=
 ((h.store hr _ _).store hr _ _).store hr _ _
def zFz (x wd:Int):Nat:=((x+wd - 1) / 8 - x / 8+1).toNat
def zBs (z x y wd:Int):Rfs:=⟨fun _=>z,fun i=>x / 8+(i % zFz x wd:Nat),fun i=>y / 8+(i / zFz x wd:Nat)⟩
def uM (z x y wd ht:Int):Nat:=if zA6 z x y wd ht=true then zFz y ht * zFz x wd else 0
theorem zBu {x wd:Int}(h:1≤wd∧wd≤8):1≤zFz x wd∧zFz x wd≤2∧((zFz x wd:Nat):Int)=(x+wd - 1) / 8 - x / 8+1:=by
 unfold zFz
 omega
theorem zCr (z x y wd ht:Int):uM z x y wd ht≤4:=by
 unfold uM
 split
 ·rename_i h
  have hi:=zAs h
  have h1:=zBu (x:=x) hi.1.1
  have h2:=zBu (x:=y) hi.1.2
  exact Nat.mul_le_mul h2.2.1 h1.2.1
 ·omega
theorem zIt (z x y wd ht a b:Int)(w:World)(h:zA8 z a b=true):Calls Tryz.prog 172 #[zDi z x y wd ht,pxV a b] w fun e w'=>e=.returned (vN z (a / 8) (b / 8))∧Bw w w':=by
 have hz:=uA h
 have hp:=zCz h
 have hn:=vG hz
 have sX:=fun w=>zOm a b w (by omega) (by omega)
 have sY:=fun w=>zOl a b w (by omega) (by omega)
 have sR:=fun w=>zIe z a b w
 have hv:atV z a b=rrV 0 z (a / 8) (b / 8):=by simp [atV,h]
 simp only [hv] at sR
 clear hv hz hp hn h
 generalize a / 8=u at *
 generalize b / 8=v at *
 have i1:∀ w,(Instr.field 269 (.agg #[.int .i64 0,.int .i64 z,.int .i64 u,.int .i64 v]) 1).run Tryz.prog w=.ok (.agg #[.int .i64 z,.int .i64 u,.int .i64 v]) w:=fun _=>by kernel_rfl
 go_enter Tryz.func172,Tryz.ntmps172
 go_wp2_with fail
 generalize hW:((w.alloc _).alloc _:World)=W
 have HB0:Hid (Bw w W):=by show Below _ _ _;subst hW;exact Qb
 have hL:w.heap.size+1<W.heap.size:=by subst hW;simp
 have HT:Hid (zC W (w.heap.size+1) 3):=by
  show zC _ _ _
  subst hW
  have:=zCt (w.alloc (.cells #[.int .i64 z,.int .i64 x,.int .i64 y,.int .i64 wd,.int .i64 ht] 32)) (.int .i64 0) (.int .i64 0) (.int .i64 0) 104
  simpa using this
 have c0:W.cell? ⟨w.heap.size,0,none⟩=some (.int .i64 z):=by subst hW;simp [go_sem]
 clear hW
 have hreg:Reg (w.heap.size+1) W (w.heap.size+1) 3 W:=Reg.start (Nat.le_of_lt hL) HT.out
 have d0:∀ W',Reg (w.heap.size+1) W (w.heap.size+1) 3 W'→W'.cell? ⟨w.heap.size,0,none⟩=some (.int .i64 z):=fun W' h=>(h.bel.cell (p:=⟨w.heap.size,0,none⟩) (by simp <;> omega)).trans c0
 have t0:∀ W',Reg (w.heap.size+1) W (w.heap.size+1) 3 W'→W'.cell? ⟨w.heap.size+1,0,none⟩=some (zB6 W' (w.heap.size+1) 0):=fun W' h=>h.there.cell 0 (by omega)
 have t1:∀ W',Reg (w.heap.size+1) W (w.heap.size+1) 3 W'→W'.cell? ⟨w.heap.size+1,1,none⟩=some (zB6 W' (w.heap.size+1) 1):=fun W' h=>h.there.cell 1 (by omega)
 have t2:∀ W',Reg (w.heap.size+1) W (w.heap.size+1) 3 W'→W'.cell? ⟨w.heap.size+1,2,none⟩=some (zB6 W' (w.heap.size+1) 2):=fun W' h=>h.there.cell 2 (by omega)
 have f0:∀ W',Reg (w.heap.size+1) W (w.heap.size+1) 3 W'→W'.frozen? ⟨w.heap.size+1,0,none⟩=false:=fun W' h=>(h.there 0 (by omega)).2
 have f1:∀ W',Reg (w.heap.size+1) W (w.heap.size+1) 3 W'→W'.frozen? ⟨w.heap.size+1,1,none⟩=false:=fun W' h=>(h.there 1 (by omega)).2
 have f2:∀ W',Reg (w.heap.size+1) W (w.heap.size+1) 3 W'→W'.frozen? ⟨w.heap.size+1,2,none⟩=false:=fun W' h=>(h.there 2 (by omega)).2
 clear c0
 go_region_held3 (Reg (w.heap.size+1) W (w.heap.size+1) 3) (first | with_reducible assumption | with_reducible exact Reg.drew hreg | with_reducible exact Reg.store3 (by with_reducible assumption) (Nat.le_refl _) | with_reducible exact Reg.call (by with_reducible assumption) (by with_reducible assumption))
  (first
   | (go_at_call 119;refine (sX _).mono ?_;rintro e w' ⟨rfl,rfl⟩)
   | (go_at_call 120;refine (sY _).mono ?_;rintro e w' ⟨rfl,rfl⟩)
   | (go_at_call 203;refine (sR _).mono ?_;rintro e w' ⟨rfl,hb⟩;have hk:Reg (w.heap.size+1) W (w.heap.size+1) 3 w':=Reg.call (by assumption) hb)
   | fail)
 go_wp2
 obtain ⟨q0,q1,q2⟩:=zAl.put (z:=z) (x:=u) (y:=v) hk.there
 exact bodyPost_ret (v:=vN z u v) (by simp [results,Tryz.results172,go_sem,q0,q1,q2]) rfl ⟨rfl,(((HB0.out.trans (hk.bel.mono (Nat.le_succ _))).setCell (Nat.le_succ _) _).setCell (Nat.le_succ _) _).setCell (Nat.le_succ _) _⟩

end Go.Proofs.YtkjbafcalamgnaaGreat
