/- Texts. -/
import Derived.Test.YtpaiholildedcaaGreatVFrameOf15
import Derived.Test.YtpaiholildedcaaGreatVFrameOf12
import Derived.Test.YtpaiholildedcaaGreatVFrameOf18
set_option linter.unusedSimpArgs false
set_option linter.unusedVariables false
set_option maxRecDepth 100000
set_option maxHeartbeats 32000000
namespace Go.Proofs.YtpaiholildedcaaGreat
open Go.RowKit
def zL4 (z cx cy:Int)(f:yD):Bool:=vL f.ki f.wi z cx cy (xA f.X f.Y f.n)
def xF (C:Nat→Bool)(I:Nat→Int):Nat→Int
 | 0=>0
 | n+1=>if C n=true then I n else xF C I n
def yA (G:Nat→yD)(n:Nat)(z x y:Int):Int:=xF (fun i=>zL4 z (zV z x) (zV z y) (G i)) (fun i=>(G i).id) n
theorem zLa {G:Nat→yD}{n:Nat}{z x y:Int}(h:zL4 z (zV z x) (zV z y) (G n)=true):yA G (n+1) z x y=(G n).id:=by
 unfold yA;rw [xF,if_pos h]
theorem zNd {G:Nat→yD}{n:Nat}{z x y:Int}(h:zL4 z (zV z x) (zV z y) (G n)=false):yA G (n+1) z x y=yA G n z x y:=by
 unfold yA;rw [xF,if_neg (by rw [h];simp)]
structure OkF (f:yD):Prop where
 kn:kindN f.ki f.n
 n0:0<f.n
 n12:f.n≤12
 inw:∀ i,i<f.n→inW (f.X i) (f.Y i)=true
 wid:0≤f.wi∧f.wi≤3
theorem okF_of {f:yD}(h:zH f.id f.la f.ki f.wi f.n f.X f.Y f.lab f.pr=0):OkF f:=by
 obtain ⟨hk,h0,h12,hkn,hin,_⟩:=zLy h
 refine ⟨?_,h0,h12,hin,(zN3 h).2.2.1⟩
 rcases hk with hk | hk | hk
 ·rw [hk] at h
  exact .inl ⟨hk,zJh h⟩
 ·exact .inr (.inl ⟨hk,by omega⟩)
 ·exact .inr (.inr ⟨hk,by omega⟩)
theorem zHm {n:Nat}{G:Nat→yD}(h:zT n G=0):n≤12∧∀ i,i<n→OkF (G i):=⟨(zDl h).1,fun i hi=>okF_of ((zDl h).2.2 i hi)⟩
theorem zAc.pts {w:World}{b off n i:Nat}{G:Nat→yD}(h:zAc w b off n G)(hi:i<n)(h0:0<(G i).n):∃ q o,(G i).a=some ⟨q,o,none⟩∧q<w.heap.size∧zI w q o (G i).n (G i).X (G i).Y:=by
 rcases (h i hi).2 with h' | ⟨q,o,e,hl,hp⟩
 ·omega
 ·exact ⟨q,o,e,hl,hp⟩
theorem uF {w:World}{base:Nat}{t:TypeId}{s:Nat}{v:Value}{n:Nat}{l:List Value}(h:w.ownsRow base t s v (n+1) l):∃ a c,v=.slice a (n+1) c:=by
 obtain ⟨_,h2 | ⟨g,cp,cur,hv,_⟩⟩:=h
 ·exact absurd h2.2 (by omega)
 ·exact ⟨_,_,hv⟩
def zC0 (G:Int→Int→Int)(x y:Int)(k:Nat):List Int:=(List.range k).map fun (k:Nat)=>G (x+((k % 8:Nat):Int)) (y+((k / 8:Nat):Int))
theorem rasK_64 (G:Int→Int→Int)(x y:Int):xL G x y 8 8=zC0 G x y 64:=rfl
theorem zO0 (G:Int→Int→Int)(x y:Int)(k:Nat):zC0 G x y (k+1)=zC0 G x y k ++ [G (x+((k % 8:Nat):Int)) (y+((k / 8:Nat):Int))]:=by simp [zC0,List.range_succ]
theorem zJy (G:Int→Int→Int)(x y:Int)(k:Nat):(zC0 G x y k).length=k:=by simp [zC0]
theorem zEq {z x y:Int}(h:xV z x y=true)(m q:Nat)(hm:m<8)(hq:q<8):xZ z (x * 8+(m:Int)) (y * 8+(q:Int))=true:=by
 have hz:yM z=true:=by simp [xV] at h;exact h.1
 unfold xV at h
 rcases zK hz with rfl | rfl | rfl | rfl <;> simp [inB,vC] at h <;> simp [xZ,inB,zAj,hz] <;> omega
theorem zFr (b n cap:Nat)(G:Nat→yD)(z x y:Int)(w:World)(hg:zAc w b 0 n G)(hbl:b<w.heap.size)(hn:n≤12)(hok:∀ i,i<n→OkF (G i))(hpx:xZ z x y=true) :
  Calls Tryz.prog 187 #[.slice (some ⟨b,0,none⟩) n cap,.int .i64 z,.int .i64 x,.int .i64 y] w fun e w'=>e=.returned (.int .i64 (yA G n z x y))∧Bw w w':=by
 have HG:Hid (zAc w b 0 n G):=hg
 have HOK:Hid (∀ i,i<n→OkF (G i)):=hok
 have HPX:Hid (xZ z x y=true):=hpx
 clear hg hok hpx
 have hn0:IntKind.i64.wrap ((n:Int) - 1)=(n:Int) - 1:=IntWalk.i64_in _ (by omega)
 go_enter Tryz.func187,Tryz.ntmps187
 go_wp2_with fail
 go_loopw [9] (fun i wr=>∃ k:Nat,k≤n∧i=.int .i64 ((k:Int) - 1)∧yA G n z x y=yA G k z x y∧Bw w wr) (fun i _=>(intOf i+1).toNat)
 case atStart=>exact ⟨n,Nat.le_refl _,by first | rfl | rw [hn0],rfl,Below.refl _ _⟩
 case round =>
  obtain ⟨k,hk,hi,hE,hB⟩:=hrel
  cases k with
  | zero =>
   have HE:Hid (yA G n z x y=0):=hE
   clear hE
   subst hi
   go_wp2
   go_ret
   exact ⟨zD HE.out.symm,hB⟩
  | succ m =>
   have em:(((m+1:Nat):Int) - 1)=(m:Int):=by omega
   rw [em] at hi
   subst hi
   have HE:Hid (yA G n z x y=yA G (m+1) z x y):=hE
   have HB:Hid (Bw w wr):=hB
   have hlt:m<n:=by omega
   have hOK:=HOK.out m hlt
   have hGr:=HG.out.below hB hbl
   obtain ⟨q,o,ea,hql,hpt⟩:=hGr.pts hlt hOK.n0
   have hf:=(hGr m hlt).1
   rw [ea,Nat.zero_add] at hf
   have q0:=hf.1
   have sC:∀ W,Bw wr W→Calls Tryz.prog 222 #[.pointer (some ⟨b,m * 7,none⟩),.int .i64 z,.int .i64 x,.int .i64 y] W fun e w'=>e=.returned (.bool (zL4 z (zV z x) (zV z y) (G m)))∧Bw W w':=fun W hW =>
    zG5 b (m * 7) (G m).id (G m).la (G m).ki (G m).wi z x y q o (G m).n (G m).cap (G m).X (G m).Y (G m).lab (G m).pr W (hf.below hW (Nat.lt_of_lt_of_le hbl hB.size)) (hpt.below hW hql) (Nat.lt_of_lt_of_le hql hW.size) (by have:=hOK.n12;omega) hOK.kn hOK.inw hOK.wid HPX.out
   have SC:=(show Hid _ from sC)
   have hi1:(m:Int)<(n:Int):=by omega
   have hi0:(0:Int)≤(m:Int):=by omega
   have hm1:IntKind.i64.wrap ((m:Int) - 1)=(m:Int) - 1:=IntWalk.i64_in _ (by omega)
   clear hE hB hGr hf hpt sC
   cases hc:zL4 z (zV z x) (zV z y) (G m)
   ·have HE2:Hid (yA G n z x y=yA G m z x y):=by show _=_;rw [HE.out,zNd hc]
    rw [hc] at SC
    clear hc q0
    go_wp2_with fail
    refine (SC.out _ (Below.refl _ _)).mono ?_
    rintro e w1 ⟨rfl,hb1⟩
    go_wp2_with fail
    exact ⟨⟨m,by omega,by first | rfl | rw [hm1],HE2.out,zA HB.out hb1⟩,by simp [intOf] <;> omega⟩
   ·have HE2:Hid (yA G n z x y=(G m).id):=by show _=_;rw [HE.out,zLa hc]
    rw [hc] at SC
    clear hc
    have HQ0:Hid (wr.cell? ⟨b,m * 7,none⟩=some (.int .i64 (G m).id)):=q0
    clear q0
    go_wp2_with fail
    refine (SC.out _ (Below.refl _ _)).mono ?_
    rintro e w1 ⟨rfl,hb1⟩
    have q1:w1.cell? ⟨b,m * 7,none⟩=some (.int .i64 (G m).id):=(hb1.cell (p:=⟨b,m * 7,none⟩) (World.block_lt_of_cell? _ _ HQ0.out)).trans HQ0.out
    go_wp2
    go_ret
    exact ⟨zD HE2.out.symm,zA HB.out hb1⟩
def zH4 (w:World)(q:Nat)(z x y:Int)(v:Value):Prop:=w.cell? ⟨q,0,none⟩=some (.int .i64 z)∧w.cell? ⟨q,1,none⟩=some (.int .i64 x)∧w.cell? ⟨q,2,none⟩=some (.int .i64 y)∧w.cell? ⟨q,3,none⟩=some v
theorem zH4.below {w w':World}{q B:Nat}{z x y:Int}{v:Value}(h:zH4 w q z x y v)(hb:Below B w w')(hq:q<B):zH4 w' q z x y v :=
 ⟨(hb.cell (p:=⟨q,0,none⟩) hq).trans h.1,(hb.cell (p:=⟨q,1,none⟩) hq).trans h.2.1,(hb.cell (p:=⟨q,2,none⟩) hq).trans h.2.2.1,(hb.cell (p:=⟨q,3,none⟩) hq).trans h.2.2.2⟩
theorem zLe (lo hi b n cap k0:Nat)(N C q:Nat→Nat)(w:World)(hO:uP w lo hi b n N C q)(hn:n≤1048576)(hN:∀ i,i<n→N i≤1048576)(h0:0<k0)(hk0:k0≤5000000000000000000) :
  Calls Tryz.prog 150 #[.slice (some ⟨b,0,none⟩) n cap,.int .i64 (k0:Int)] w fun e w'=>e=.returned (.int .i64 ((kS N k0 n:Nat):Int))∧uP w' lo hi b n N C q∧zR lo hi w w'∧∀ i,i<n→zGb w' b (q i) i (N i) (C i) (kS N k0 i):=by
 have HO0:Hid (uP w lo hi b n N C q):=hO
 have HN:Hid (∀ i,i<n→N i≤1048576):=hN
 clear hO hN
 go_enter Tryz.func150,Tryz.ntmps150
 go_wp2_with fail
 go_loopw [1,5] (fun kk i wr=>∃ j K:Nat,j≤n∧Hid (K=kS N k0 j)∧kk=.int .i64 (K:Int)∧i=.int .i64 (j:Int)∧uP wr lo hi b n N C q∧zR lo hi w wr∧∀ i,i<j→zGb wr b (q i) i (N i) (C i) (kS N k0 i)) (fun _ i _=>n - (intOf i).toNat)
 case atStart=>exact ⟨0,k0,by omega,rfl,rfl,rfl,HO0.out,zR.refl _ _ _,fun i hi=>by omega⟩
 case round =>
  obtain ⟨j,K,hj,HK,rfl,rfl,hO,hM,hF⟩:=hrel
  by_cases hlt:j<n
  ·have hKb:K≤5000002200000000000:=by
    have:=HK.out
    have:=kS_le N k0 n HN.out j (by omega)
    omega
   have hK0:0<K:=by
    have h1:=HK.out
    have h2:∀ i,k0≤kS N k0 i:=fun i=>by
     induction i with
     | zero=>exact Nat.le_refl _
     | succ i ih=>rw [kS];omega
    have:=h2 j
    omega
   have hNj:=HN.out j hlt
   obtain ⟨hqj,hTj,hcj⟩:=hO.2.2.1 j hlt
   have hT:=hO.2.1
   have t0:=hT.cell (j * 7) (by omega)
   have t1:=hT.cell (j * 7+1) (by omega)
   have t2:=hT.cell (j * 7+2) (by omega)
   have t3:=hT.cell (j * 7+3) (by omega)
   have f0:=(hT (j * 7) (by omega)).2
   have f1:=(hT (j * 7+1) (by omega)).2
   have f2:=(hT (j * 7+2) (by omega)).2
   have f3:=(hT (j * 7+3) (by omega)).2
   have HO:Hid (uP wr lo hi b n N C q):=hO
   have HM:Hid (zR lo hi w wr):=hM
   have HF:Hid (∀ i,i<j→zGb wr b (q i) i (N i) (C i) (kS N k0 i)):=hF
   have HLT:Hid (j<n):=hlt
   clear hO hM hF hT
   have hi:(j:Int)<(n:Int):=by omega
   have hi0:(0:Int)≤(j:Int):=by omega
   have e4:(K:Int)+1+1+1+1=((K+4:Nat):Int):=by omega
   have e3:(K:Int)+1+1+1=((K+3:Nat):Int):=by omega
   have e2:(K:Int)+1+1=((K+2:Nat):Int):=by omega
   have e1:(K:Int)+1=((K+1:Nat):Int):=by omega
   have E:=(show Hid _ from (⟨e4,e3,e2,e1⟩:_∧_∧_∧_))
   clear e4 e3 e2 e1
   go_wp2_with fail
   rw [E.out.1,E.out.2.1,E.out.2.2.1,E.out.2.2.2]
   have hb1:=HO.out.1
   have hql:q j<wr.heap.size:=by omega
   have hne:b≠q j:=fun e=>hqj.2.2 e.symm
   refine (zD7 (q j) (N j) (C j) (K+4) _ ((((hTj.store hne).store hne).store hne).store hne) (by simp only [World.size_setCell];exact hql) hNj (by omega)).mono ?_
   rintro e w5 ⟨rfl,hG5,hT5,hP5⟩
   have hTb5:zC w5 b (n * 7):=(((((HO.out.2.1.set _ _).set _ _).set _ _).set _ _).grown hG5 hne)
   have HG5:=(show Hid _ from hG5)
   have HT5:Hid (zC w5 (q j) (N j * 2)):=hT5
   have HP5:Hid (zI w5 (q j) 0 (N j) (mkX (K+4)) (mkY (K+4))):=hP5
   have HTb5:Hid (zC w5 b (n * 7)):=hTb5
   clear hG5 hT5 hP5 hTb5 t0 t1 t2 t3 f0 f1 f2 f3 hcj
   have hkt:0<K+4+2 * N j:=by omega
   go_wp2_with fail
   refine (zGy (K+4+2 * N j) w5 hkt (by omega)).mono ?_
   rintro e w6 ⟨rfl,hb6⟩
   have hT6:=HTb5.out.below hb6
   have t5:=hT6.cell (j * 7+5) (by omega)
   have t6:=hT6.cell (j * 7+6) (by omega)
   have f5:=(hT6 (j * 7+5) (by omega)).2
   have f6:=(hT6 (j * 7+6) (by omega)).2
   have HB6:Hid (Bw w5 w6):=hb6
   clear hT6 hb6
   have hKb2:((K+4+2 * N j:Nat):Int)≤5000002300000000000:=by omega
   have hKb0:(0:Int)≤((K+4+2 * N j:Nat):Int):=by omega
   have HKE:Hid (((K+4+2 * N j:Nat):Int)+1=((K+5+2 * N j:Nat):Int)∧((K+4+2 * N j:Nat):Int)+1+1=((K+6+2 * N j:Nat):Int)):=⟨by omega,by omega⟩
   have HM2:Hid (∀ m:Nat,m=K+4+2 * N j→m=K+4+2 * N j):=fun _ h=>h
   obtain ⟨M,hMd⟩:∃ M:Nat,M=K+4+2 * N j:=⟨_,rfl⟩
   have HMD:Hid (M=K+4+2 * N j):=hMd
   rw [← hMd] at hKb2 hKb0 ⊢
   clear hMd
   go_wp2
   go_roundw
   case rel =>
    have hMd:=HMD.out
    subst hMd
    have hst:=zNh HO.out HLT.out HG5.out HT5.out HP5.out HB6.out HF.out HK.out.symm
    rw [← HKE.out.1] at hst
    obtain ⟨s1,s2,s3⟩:=hst
    refine ⟨j+1,K+6+2 * N j,by have:=HLT.out;omega,by show _=_;rw [kS,← HK.out],by congr 1;omega,by go_num,s1,HM.out.trans s2,s3⟩
   case measure=>have:=HLT.out;simp [intOf];omega
  ·go_wp2
   go_ret
   have hjn:j=n:=by omega
   subst hjn
   exact ⟨zD (by have:=HK.out;omega),hO,hM,hF⟩
abbrev zMt (z x y:Int)(v:Value):Value:=.agg #[.int .i64 z,.int .i64 x,.int .i64 y,v]
theorem xN.midB {w w':World}{B C b n lo hi:Nat}{F G:Nat→yD}(h:xN w B b n F G)(hM:zR lo hi w w')(hh:hi≤B)(hC:C≤B):xN w' C b n F G:=by
 obtain ⟨h1,h2,h3,h4⟩:=h
 have hc:∀ (p o:Nat) (u:Value),B≤p→w.cell? ⟨p,o,none⟩=some u→w'.cell? ⟨p,o,none⟩=some u:=fun p o u hp e=>hM.cell e (.inr (by omega))
 refine ⟨by omega,Nat.lt_of_lt_of_le h2 hM.size,fun i hi=>?_,fun i hi=>?_⟩
 ·obtain ⟨⟨k0,k1,k2,k3,k4,k5,k6⟩,_⟩:=h3 i hi
  obtain ⟨_,q,ha,hcap,hq,hBq,hql,hp⟩:=h4 i hi
  refine ⟨⟨hc _ _ _ h1 k0,hc _ _ _ h1 k1,hc _ _ _ h1 k2,hc _ _ _ h1 k3,hc _ _ _ h1 k4,hc _ _ _ h1 k5,hc _ _ _ h1 k6⟩,?_⟩
  exact .inr ⟨q,0,ha,Nat.lt_of_lt_of_le hql hM.size,fun j hj=>⟨hc _ _ _ hBq (hp j hj).1,hc _ _ _ hBq (hp j hj).2⟩⟩
 ·obtain ⟨hs,q,ha,hcap,hq,hBq,hql,hp⟩:=h4 i hi
  exact ⟨hs,q,ha,hcap,hq,by omega,Nat.lt_of_lt_of_le hql hM.size,fun j hj=>⟨hc _ _ _ hBq (hp j hj).1,hc _ _ _ hBq (hp j hj).2⟩⟩
theorem zOw {W:World}{r:Nat}{a b c x0 x1 x2:Value}(h0:W.cell? ⟨r,0,none⟩=some x0)(h1:W.cell? ⟨r,1,none⟩=some x1)(h2:W.cell? ⟨r,2,none⟩=some x2) :
  (((W.setCell ⟨r,0,none⟩ a).setCell ⟨r,1,none⟩ b).setCell ⟨r,2,none⟩ c).cell? ⟨r,0,none⟩=some a ∧
  (((W.setCell ⟨r,0,none⟩ a).setCell ⟨r,1,none⟩ b).setCell ⟨r,2,none⟩ c).cell? ⟨r,1,none⟩=some b ∧
  (((W.setCell ⟨r,0,none⟩ a).setCell ⟨r,1,none⟩ b).setCell ⟨r,2,none⟩ c).cell? ⟨r,2,none⟩=some c:=by
 have ne:∀ i j:Nat,i≠j→(⟨r,i,none⟩:Addr)≠⟨r,j,none⟩:=fun i j hij h=>hij (by injection h)
 refine ⟨?_,?_,?_⟩
 ·rw [zB (ne 2 0 (by omega)),zB (ne 1 0 (by omega))];exact zG h0
 ·rw [zB (ne 2 1 (by omega))];exact zG (by rw [zB (ne 0 1 (by omega))];exact h1)
 ·exact zG (by rw [zB (ne 1 2 (by omega)),zB (ne 0 2 (by omega))];exact h2)
theorem zC.otherJ {W:World}{r r' n o:Nat}{v:Value}(h:zC W r n)(hr:r'≠r):zC (W.setCell ⟨r',o,none⟩ v) r n:=fun o' ho=>by
 obtain ⟨⟨u,hu⟩,hf⟩:=h o' ho
 exact ⟨⟨u,by rw [zB (fun e=>hr (by injection e))];exact hu⟩,by rw [World.frozen?_setCell];exact hf⟩
theorem resTT (T:Array Value)(Wf:World)(r:Nat)(v0 v1 v2 v3:Value)(hT:T[2]?.getD undef=.pointer (some ⟨r,0,none⟩))(h0:Wf.cell? ⟨r,0,none⟩=some v0)(h1:Wf.cell? ⟨r,1,none⟩=some v1)(h2:Wf.cell? ⟨r,2,none⟩=some v2)(h3:Wf.cell? ⟨r,3,none⟩=some v3) :
  (results Tryz.f188 T).run Tryz.prog Wf=.ok (.agg #[v0,v1,v2,v3]) Wf:=by
 simp [results,Tryz.results188,go_sem,hT,h0,h1,h2,h3]
theorem zL0 (z x y:Int)(b d n B C:Nat)(F G H:Nat→yD)(w:World)(hg:xN w B b n F G)(hh:xN w C d n F H)(hs:yL n F) :
  Calls Tryz.prog 192 #[zMt z x y (.slice (some ⟨b,0,none⟩) n n),zMt z x y (.slice (some ⟨d,0,none⟩) n n)] w fun e w'=>e=.returned (.bool true)∧Bw w w':=by
 have HG:Hid (xN w B b n F G):=hg
 have HH:Hid (xN w C d n F H):=hh
 have HS:Hid (yL n F):=hs
 clear hg hh hs
 go_enter Tryz.func192,Tryz.ntmps192
 go_wp2_with fail
 generalize hW:((w.alloc _).alloc _:World)=W
 have hB0:Bw w W:=by subst hW;exact Qb
 have c3:W.cell? ⟨w.heap.size,3,none⟩=some (.slice (some ⟨b,0,none⟩) n n):=by subst hW;simp [go_sem]
 have d3:W.cell? ⟨w.heap.size+1,3,none⟩=some (.slice (some ⟨d,0,none⟩) n n):=by subst hW;simp [go_sem]
 clear hW
 refine (zHp _ _ _ _).mono ?_
 rintro e w1 ⟨rfl,hb1⟩
 have c3':=zY hb1 c3
 have d3':=zY hb1 d3
 have hB1:=zA hB0 hb1
 clear c3 d3 hb1 hB0
 go_wp2_with fail
 refine (zEd b d n B C F G H _ (HG.out.below hB1) (HH.out.below hB1) HS.out).mono ?_
 rintro e w2 ⟨rfl,hb2⟩
 go_wp2
 go_ret
 exact ⟨rfl,Qb⟩
def OwnR (w:World)(lo hi:Nat)(a:Option Addr)(m:Nat)(N C:Nat→Nat):Prop:=m=0∨∃ g q,a=some ⟨g,0,none⟩∧uP w lo hi g m N C q
theorem OwnR.away {w w':World}{lo hi lo' hi' m:Nat}{a:Option Addr}{N C:Nat→Nat}(h:OwnR w lo hi a m N C)(hm:zR lo' hi' w w')(ho:hi'≤lo∨hi≤lo'):OwnR w' lo hi a m N C:=by
 rcases h with h | ⟨g,q,e,hq⟩
 ·exact .inl h
 ·exact .inr ⟨g,q,e,hq.away hm ho⟩
theorem zIw (a:Option Addr)(cap:Nat)(k:Int)(w:World) :
  Calls Tryz.prog 150 #[.slice a 0 cap,.int .i64 k] w fun e w'=>e=.returned (.int .i64 k)∧w=w':=by
 go_enter Tryz.func150,Tryz.ntmps150
 go_wp2_with fail
 go_loopw [1,5] (fun kk i wr=>kk=.int .i64 k∧i=.int .i64 0∧w=wr) (fun _ _ _=>0)
 case atStart=>exact ⟨rfl,rfl,rfl⟩
 case round =>
  obtain ⟨rfl,rfl,rfl⟩:=hrel
  go_wp2
  go_ret
  exact ⟨rfl,rfl⟩
end Go.Proofs.YtpaiholildedcaaGreat
