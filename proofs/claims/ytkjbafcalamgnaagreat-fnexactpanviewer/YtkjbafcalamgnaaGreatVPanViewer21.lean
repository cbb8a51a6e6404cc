/- Texts. -/
import Derived.Test.YtkjbafcalamgnaaGreatVPanViewer19
set_option linter.unusedSimpArgs false
set_option linter.unusedVariables false
set_option maxRecDepth 100000
set_option maxHeartbeats 32000000
namespace Go.Proofs.YtkjbafcalamgnaaGreat
open Go.RowKit
def zBp (w:World)(lo hi b n:Nat)(N C q:Nat→Nat):Prop :=
 (lo≤b∧b<hi∧hi≤w.heap.size)∧zC w b (n * 7) ∧
 (∀ i,i<n→(lo≤q i∧q i<hi∧q i≠b)∧zC w (q i) (N i * 2)∧w.cell? ⟨b,i * 7+4,none⟩=some (.slice (some ⟨q i,0,none⟩) (N i) (C i))) ∧
 (∀ i j,i<n→j<n→q i=q j→i=j)
theorem zBp.below {w w':World}{lo hi b n:Nat}{N C q:Nat→Nat}(h:zBp w lo hi b n N C q)(hb:Below w.heap.size w w'):zBp w' lo hi b n N C q:=by
 obtain ⟨⟨h1,h2,h3⟩,h4,h5,h6⟩:=h
 exact ⟨⟨h1,h2,Nat.le_trans h3 hb.size⟩,h4.below hb,fun i hi=>⟨(h5 i hi).1,(h5 i hi).2.1.below hb,zT hb (h5 i hi).2.2⟩,h6⟩
theorem zBp.away {w w':World}{lo hi lo' hi' b n:Nat}{N C q:Nat→Nat}(h:zBp w lo hi b n N C q)(hm:zK lo' hi' w w')(ho:hi'≤lo∨hi≤lo'):zBp w' lo hi b n N C q:=by
 obtain ⟨⟨h1,h2,h3⟩,h4,h5,h6⟩:=h
 exact ⟨⟨h1,h2,Nat.le_trans h3 hm.size⟩,hm.there h4 (by omega),fun i hi=>⟨(h5 i hi).1,hm.there (h5 i hi).2.1 (by have:=(h5 i hi).1;omega),hm.cell (h5 i hi).2.2 (by omega)⟩,h6⟩
def kS (N:Nat→Nat)(k0:Nat):Nat→Nat
 | 0=>k0
 | j+1=>kS N k0 j+6+2 * N j
theorem zWo (N:Nat→Nat)(k0 n:Nat)(h:∀ i,i<n→N i≤1048576):∀ j,j≤n→kS N k0 j≤k0+j * 2097158
 | 0,_=>by simp [kS]
 | j+1,hj=>by
  have:=zWo N k0 n h j (by omega)
  have:=h j (by omega)
  rw [kS];omega
def zDg (w:World)(b q i N C k:Nat):Prop :=
 zAb w b (i * 7) ((k:Nat):Int) ((k+1:Nat):Int) ((k+2:Nat):Int) ((k+3:Nat):Int) (.slice (some ⟨q,0,none⟩) N C) (mTx (k+4+2 * N)) ((k+5+2 * N:Nat):Int)∧zL w q 0 N (mkX (k+4)) (mkY (k+4))
theorem zDg.below {w w':World}{b q i N C k:Nat}(h:zDg w b q i N C k)(hb:Below w.heap.size w w')(h1:b<w.heap.size)(h2:q<w.heap.size):zDg w' b q i N C k:=⟨h.1.below hb h1,h.2.below hb h2⟩
theorem zTv {wr w5 w6:World}{lo hi b n j k:Nat}{N C q:Nat→Nat}(hO:zBp wr lo hi b n N C q)(hj:j<n)(hg:World.grownBy ((((wr.setCell ⟨b,j * 7,none⟩ (.int .i64 (k:Nat))).setCell ⟨b,j * 7+1,none⟩ (.int .i64 ((k+1:Nat):Int))).setCell ⟨b,j * 7+2,none⟩ (.int .i64 ((k+2:Nat):Int))).setCell ⟨b,j * 7+3,none⟩ (.int .i64 ((k+3:Nat):Int))) w5 (some (q j)))(hT5:zC w5 (q j) (N j * 2))(hP5:zL w5 (q j) 0 (N j) (mkX (k+4)) (mkY (k+4)))(h56:Below w5.heap.size w5 w6){N0:Nat→Nat}{k0:Nat}(hM:∀ i,i<j→zDg wr b (q i) i (N i) (C i) (kS N0 k0 i))(hk:kS N0 k0 j=k) :
  zBp ((w6.setCell ⟨b,j * 7+5,none⟩ (.string (mTx (k+4+2 * N j)))).setCell ⟨b,j * 7+6,none⟩ (.int .i64 ((k+5+2 * N j:Nat):Int))) lo hi b n N C q ∧
  zK lo hi wr ((w6.setCell ⟨b,j * 7+5,none⟩ (.string (mTx (k+4+2 * N j)))).setCell ⟨b,j * 7+6,none⟩ (.int .i64 ((k+5+2 * N j:Nat):Int))) ∧
  ∀ i,i<j+1→zDg ((w6.setCell ⟨b,j * 7+5,none⟩ (.string (mTx (k+4+2 * N j)))).setCell ⟨b,j * 7+6,none⟩ (.int .i64 ((k+5+2 * N j:Nat):Int))) b (q i) i (N i) (C i) (kS N0 k0 i):=by
 obtain ⟨⟨h1,h2,h3⟩,hTb,hq,hinj⟩:=hO
 have ne:∀ i j:Nat,i≠j→(⟨b,i,none⟩:Addr)≠⟨b,j,none⟩:=fun i j hij h=>hij (by injection h)
 have nb:∀ (p o o':Nat),p≠b→(⟨b,o,none⟩:Addr)≠⟨p,o',none⟩:=fun p o o' hp h=>hp (by injection h with h;exact h.symm)
 obtain ⟨⟨hqj1,hqj2,hqj3⟩,hTj,hcj⟩:=hq j hj
 generalize hW4:((((wr.setCell ⟨b,j * 7,none⟩ (.int .i64 (k:Nat))).setCell ⟨b,j * 7+1,none⟩ (.int .i64 ((k+1:Nat):Int))).setCell ⟨b,j * 7+2,none⟩ (.int .i64 ((k+2:Nat):Int))).setCell ⟨b,j * 7+3,none⟩ (.int .i64 ((k+3:Nat):Int)))=W4 at hg
 have hT4:zC W4 b (n * 7):=by subst hW4;exact ((((hTb.set _ _).set _ _).set _ _).set _ _)
 have hM4:zK lo hi wr W4:=by subst hW4;exact ((((zK.refl lo hi wr).set h1 h2 _ _).set h1 h2 _ _).set h1 h2 _ _).set h1 h2 _ _
 have hT5b:zC w5 b (n * 7):=hT4.grown hg (Ne.symm hqj3)
 have hT6:zC w6 b (n * 7):=hT5b.below h56
 generalize hV:((w6.setCell ⟨b,j * 7+5,none⟩ (.string (mTx (k+4+2 * N j)))).setCell ⟨b,j * 7+6,none⟩ (.int .i64 ((k+5+2 * N j:Nat):Int)))=V
 have hTV:zC V b (n * 7):=by subst hV;exact (hT6.set _ _).set _ _
 have hMV:zK lo hi wr V:=by
  subst hV
  exact ((hM4.trans ((zK.of_grown hg hqj1 hqj2).trans (zK.of_below h56))).set h1 h2 _ _).set h1 h2 _ _
 have hkeep:∀ o v,wr.cell? ⟨b,o,none⟩=some v→(o<j * 7∨o=j * 7+4∨j * 7+6<o)→V.cell? ⟨b,o,none⟩=some v:=fun o v hv ho=>by
  have hv4:W4.cell? ⟨b,o,none⟩=some v:=by
   subst hW4
   rw [zB (ne _ _ (by omega)),zB (ne _ _ (by omega)),zB (ne _ _ (by omega)),zB (ne _ _ (by omega))]
   exact hv
  have hv6:=zT h56 (yW hg hv4 (Ne.symm hqj3))
  subst hV
  rw [zB (ne _ _ (by omega)),zB (ne _ _ (by omega))]
  exact hv6
 have hoth:∀ p,p≠b→p≠q j→∀ o v,wr.cell? ⟨p,o,none⟩=some v→V.cell? ⟨p,o,none⟩=some v:=fun p hp hpq o v hv=>by
  have hv4:W4.cell? ⟨p,o,none⟩=some v:=by
   subst hW4
   rw [zB (nb _ _ _ hp),zB (nb _ _ _ hp),zB (nb _ _ _ hp),zB (nb _ _ _ hp)]
   exact hv
  have hv6:=zT h56 (yW hg hv4 hpq)
  subst hV
  rw [zB (nb _ _ _ hp),zB (nb _ _ _ hp)]
  exact hv6
 have hpt:∀ p m X Y,p≠b→zL w6 p 0 m X Y→zL V p 0 m X Y:=fun p m X Y hp h=>by
  subst hV
  exact (h.store (Ne.symm hp)).store (Ne.symm hp)
 have hth:∀ p m,p≠b→zC w6 p m→zC V p m:=fun p m hp h=>by
  subst hV
  exact (h.store (Ne.symm hp)).store (Ne.symm hp)
 have hql:q j<w5.heap.size:=by have:=hg.size;have:=hM4.size;omega
 refine ⟨⟨⟨h1,h2,Nat.le_trans h3 hMV.size⟩,hTV,fun i hi=>⟨(hq i hi).1,?_,hkeep _ _ (hq i hi).2.2 (by omega)⟩,hinj⟩,hMV,fun i hi=>?_⟩
 ·by_cases e:i=j
  ·subst e
   exact hth _ _ hqj3 (hT5.below h56)
  ·have hne:q i≠q j:=fun h=>e (hinj i j hi hj h)
   have hne':=(hq i hi).1.2.2
   refine hth _ _ hne' ?_
   have h4:zC W4 (q i) (N i * 2):=by
    subst hW4
    exact ((((hq i hi).2.1.store (Ne.symm hne')).store (Ne.symm hne')).store (Ne.symm hne')).store (Ne.symm hne')
   exact (h4.grown hg hne).below h56
 ·by_cases e:i=j
  ·subst e
   rw [hk]
   have c4:∀ o v,W4.cell? ⟨b,o,none⟩=some v→o≠i * 7+5→o≠i * 7+6→V.cell? ⟨b,o,none⟩=some v:=fun o v hv ho ho'=>by
    have hv6:=zT h56 (yW hg hv (Ne.symm hqj3))
    subst hV
    rw [zB (ne _ _ (Ne.symm ho')),zB (ne _ _ (Ne.symm ho))]
    exact hv6
   obtain ⟨u0,g0⟩:=(hTb (i * 7) (by omega)).1
   obtain ⟨u1,g1⟩:=((hTb.set (i * 7) (.int .i64 (k:Nat))) (i * 7+1) (by omega)).1
   obtain ⟨u2,g2⟩:=(((hTb.set (i * 7) (.int .i64 (k:Nat))).set (i * 7+1) (.int .i64 ((k+1:Nat):Int))) (i * 7+2) (by omega)).1
   obtain ⟨u3,g3⟩:=((((hTb.set (i * 7) (.int .i64 (k:Nat))).set (i * 7+1) (.int .i64 ((k+1:Nat):Int))).set (i * 7+2) (.int .i64 ((k+2:Nat):Int))) (i * 7+3) (by omega)).1
   obtain ⟨u5,g5⟩:=(hT6 (i * 7+5) (by omega)).1
   obtain ⟨u6,g6⟩:=((hT6.set (i * 7+5) (.string (mTx (k+4+2 * N i)))) (i * 7+6) (by omega)).1
   refine ⟨⟨c4 _ _ ?_ (by omega) (by omega),c4 _ _ ?_ (by omega) (by omega),c4 _ _ ?_ (by omega) (by omega),c4 _ _ ?_ (by omega) (by omega),hkeep _ _ hcj (by omega),?_,?_⟩,hpt _ _ _ _ hqj3 (hP5.below h56 hql)⟩
   ·subst hW4;rw [zB (ne _ _ (by omega)),zB (ne _ _ (by omega)),zB (ne _ _ (by omega))];exact zE g0
   ·subst hW4;rw [zB (ne _ _ (by omega)),zB (ne _ _ (by omega))];exact zE g1
   ·subst hW4;rw [zB (ne _ _ (by omega))];exact zE g2
   ·subst hW4;exact zE g3
   ·subst hV;rw [zB (ne _ _ (by omega))];exact zE g5
   ·subst hV;exact zE g6
  ·have hi':i<j:=by omega
   obtain ⟨⟨m0,m1,m2,m3,m4,m5,m6⟩,mp⟩:=hM i hi'
   have hne:q i≠q j:=fun h=>e (hinj i j (by omega) hj h)
   have hne':=(hq i (by omega)).1.2.2
   refine ⟨⟨hkeep _ _ m0 (by omega),hkeep _ _ m1 (by omega),hkeep _ _ m2 (by omega),hkeep _ _ m3 (by omega),hkeep _ _ m4 (by omega),hkeep _ _ m5 (by omega),hkeep _ _ m6 (by omega)⟩,fun x hx=>?_⟩
   exact ⟨hoth _ hne' hne _ _ (mp x hx).1,hoth _ hne' hne _ _ (mp x hx).2⟩
theorem zC.lay {W:World}{b n:Nat}(h:zC W b n){B o:Nat}{f:yB}(hne:B≠b):zC (zMe W B o f) b n:=by
 unfold zMe
 exact ((((((h.store hne).store hne).store hne).store hne).store hne).store hne).store hne
theorem zV0 {W:World}{B n k q0 hi:Nat}{F:Nat→yB}{q:Nat→Nat}{f:yB}(h:zBp W B hi B k (fun i=>(F i).n) (fun i=>(F i).n) q)(hT:zC W B (n * 7))(hk:k<n)(hfa:f.a=some ⟨q0,0,none⟩)(hfn:f.n=(F k).n)(hfc:f.cap=(F k).n)(h0:hi≤q0)(h1:q0<W.heap.size)(hTq:zC W q0 ((F k).n * 2)) :
  zBp (zMe W B (k * 7) f) B (zMe W B (k * 7) f).heap.size B (k+1) (fun i=>(F i).n) (fun i=>(F i).n) (fun i=>if i=k then q0 else q i):=by
 obtain ⟨⟨a1,a2,a3⟩,a4,a5,a6⟩:=h
 have hsz:=zA2 W B (k * 7) f
 refine ⟨⟨a1,by rw [hsz];omega,Nat.le_refl _⟩,fun o ho=>zI5 hT o (by omega),fun i hi=>?_,fun i j hi hj e=>?_⟩
 ·by_cases e:i=k
  ·subst e
   show (B≤(if i=i then q0 else q i)∧(if i=i then q0 else q i)<_∧(if i=i then q0 else q i)≠B)∧zC _ (if i=i then q0 else q i) ((F i).n * 2)∧_=some (Value.slice (some ⟨(if i=i then q0 else q i),0,none⟩) (F i).n (F i).n)
   rw [if_pos rfl]
   refine ⟨⟨by omega,by rw [hsz];exact h1,by omega⟩,hTq.lay (by omega),?_⟩
   have:=(zT0 (f:=f) (o:=i * 7) hT (by omega)).2.2.2.2.1
   rw [this,hfa,hfn,hfc]
  ·show (B≤(if i=k then q0 else q i)∧(if i=k then q0 else q i)<_∧(if i=k then q0 else q i)≠B)∧zC _ (if i=k then q0 else q i) ((F i).n * 2)∧_=some (Value.slice (some ⟨(if i=k then q0 else q i),0,none⟩) (F i).n (F i).n)
   rw [if_neg e]
   obtain ⟨b1,b2,b3⟩:=a5 i (by omega)
   refine ⟨⟨b1.1,by rw [hsz];omega,b1.2.2⟩,b2.lay (Ne.symm b1.2.2),?_⟩
   rw [zI6 (p:=⟨B,i * 7+4,none⟩) (.inr (.inl (by show i * 7+4<k * 7;omega)))]
   exact b3
 ·by_cases ei:i=k <;> by_cases ej:j=k
  ·omega
  ·simp only [if_pos ei,if_neg ej] at e
   have:=(a5 j (by omega)).1
   omega
  ·simp only [if_neg ei,if_pos ej] at e
   have:=(a5 i (by omega)).1
   omega
  ·simp only [if_neg ei,if_neg ej] at e
   exact a6 i j (by omega) (by omega) e
theorem zHx (a:Option Addr)(n cap:Nat)(F:Nat→yB)(w:World)(hp:zGc w a n F)(hmax:n≤1048576)(hall:∀ i,i<n→(F i).n≤1048576) :
  Calls Tryz.prog 52 #[.slice a n cap] w fun e w'=>∃ b G,e=.returned (.slice (some ⟨b,0,none⟩) n n)∧vY w' w.heap.size b n F G∧(∃ q,zBp w' w.heap.size w'.heap.size b n (fun i=>(F i).n) (fun i=>(F i).n) q)∧Bw w w':=by
 have hmk:=zRk n hmax
 have HP:Hid (zGc w a n F):=hp
 have HA:Hid (∀ i,i<n→(F i).n≤1048576):=hall
 clear hp hall
 go_enter Tryz.func52,Tryz.ntmps52
 go_wp2
 generalize hW:(w.alloc _:World)=W
 have HB0:Hid (Bw w W):=by show Below _ _ _;subst hW;exact Qb
 have HT0:Hid (zC W w.heap.size (n * 7)):=by show zC _ _ _;subst hW;exact zN8 _ _ _
 have HL0:Hid (w.heap.size<W.heap.size):=by show _<_;subst hW;simp
 clear hW hmk
 go_loopw [4] (fun i wr=>∃ (k:Nat) (G:Nat→yB),k≤n∧i=.int .i64 k∧Bw w wr∧zC wr w.heap.size (n * 7)∧vY wr w.heap.size w.heap.size k F G∧∃ q,zBp wr w.heap.size wr.heap.size w.heap.size k (fun i=>(F i).n) (fun i=>(F i).n) q) (fun i _=>n - (intOf i).toNat)
 case atStart=>exact ⟨0,F,by omega,rfl,HB0.out,HT0.out,⟨Nat.le_refl _,HL0.out,fun i hi=>by omega,fun i hi=>by omega⟩,fun _=>0,⟨Nat.le_refl _,HL0.out,Nat.le_refl _⟩,(fun o ho=>by omega),(fun i hi=>by omega),fun i j hi=>by omega⟩
 case round =>
  obtain ⟨k,G,hk,rfl,hB,hT,hO,qq,hQ⟩:=hrel
  by_cases hlt:k<n
  ·rcases HP.out with h0 | ⟨b,off,rfl,hbl,hpt⟩
   ·omega
   ·obtain ⟨⟨f0,f1,f2,f3,f4,f5,f6⟩,hIP⟩:=(hpt.below hB hbl) k hlt
    have HB:Hid (Bw w wr):=hB
    have HT:Hid (zC wr w.heap.size (n * 7)):=hT
    have HO:Hid (vY wr w.heap.size w.heap.size k F G):=hO
    have HIP:Hid (xM wr (F k).a (F k).n (F k).X (F k).Y):=hIP
    have hnk:=HA.out k hlt
    have hlw:w.heap.size<wr.heap.size:=hO.2.1
    have HQ:Hid (zBp wr w.heap.size wr.heap.size w.heap.size k (fun i=>(F i).n) (fun i=>(F i).n) qq):=hQ
    clear hB hT hO hpt hIP hQ
    have hi:(k:Int)<(n:Int):=by omega
    have hi0:(0:Int)≤(k:Int):=by omega
    go_wp2_with fail
    refine (zJx _ _ _ _ _ _ _ (F k).X (F k).Y _ _ _ HIP.out hnk).mono ?_
    rintro e w' ⟨q,rfl,hq1,hq2,hq3,hqT,hb⟩
    have HQT:Hid (zC w' q ((F k).n * 2)):=hqT
    clear hqT
    have hT':=HT.out.below hb
    have t0:=hT'.cell (k * 7) (by omega)
    have t1:=hT'.cell (k * 7+1) (by omega)
    have t2:=hT'.cell (k * 7+2) (by omega)
    have t3:=hT'.cell (k * 7+3) (by omega)
    have t4:=hT'.cell (k * 7+4) (by omega)
    have t5:=hT'.cell (k * 7+5) (by omega)
    have t6:=hT'.cell (k * 7+6) (by omega)
    have y0:=(hT' (k * 7) (by omega)).2
    have y1:=(hT' (k * 7+1) (by omega)).2
    have y2:=(hT' (k * 7+2) (by omega)).2
    have y3:=(hT' (k * 7+3) (by omega)).2
    have y4:=(hT' (k * 7+4) (by omega)).2
    have y5:=(hT' (k * 7+5) (by omega)).2
    have y6:=(hT' (k * 7+6) (by omega)).2
    have HT':Hid (zC w' w.heap.size (n * 7)):=hT'
    have HQ3:Hid (zL w' q 0 (F k).n (F k).X (F k).Y):=hq3
    have HBn:Hid (Bw wr w'):=hb
    clear hT' hq3 hb f0 f1 f2 f3 f4 f5 f6
    go_wp2
    go_roundw
    case rel =>
     refine ⟨k+1,fun i=>if i=k then { F k with a:=some ⟨q,0,none⟩,cap:=(F k).n } else G i,by omega,by go_num,?_,?_,?_,?_⟩
     ·exact zRm (f:={ F k with a:=some ⟨q,0,none⟩,cap:=(F k).n }) (B:=w.heap.size) (o:=k * 7) (HB.out.trans (HBn.out.mono HB.out.size)) (Nat.le_refl _)
     ·exact zI5 (f:={ F k with a:=some ⟨q,0,none⟩,cap:=(F k).n }) (B:=w.heap.size) (o:=k * 7) HT'.out
     ·exact own_lay (HO.out.below HBn.out) HT'.out (by omega) (by omega) hq2 HQ3.out (by omega)
     ·exact ⟨_,zV0 (f:={ F k with a:=some ⟨q,0,none⟩,cap:=(F k).n }) (HQ.out.below HBn.out) HT'.out (by omega) rfl rfl rfl hq1 hq2 HQT.out⟩
    case measure=>simp [intOf];omega
  ·go_wp2
   go_ret
   have hkn:k=n:=by omega
   subst hkn
   exact ⟨_,G,rfl,hO,⟨qq,hQ⟩,hB⟩
end Go.Proofs.YtkjbafcalamgnaaGreat
