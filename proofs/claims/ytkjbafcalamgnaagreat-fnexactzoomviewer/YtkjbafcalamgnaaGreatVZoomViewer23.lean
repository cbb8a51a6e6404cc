/- Texts. -/
import Derived.Test.YtkjbafcalamgnaaGreatVZoomViewer22
set_option linter.unusedSimpArgs false
set_option linter.unusedVariables false
set_option maxRecDepth 100000
set_option maxHeartbeats 32000000
namespace Go.Proofs.YtkjbafcalamgnaaGreat
open Go.RowKit
def zS3 (z cx cy:Int)(f:yE):Bool:=zAt f.ki f.wi z cx cy (vR f.X f.Y f.n)
def vV (C:Nat→Bool)(I:Nat→Int):Nat→Int
 | 0=>0
 | n+1=>if C n=true then I n else vV C I n
def xA (G:Nat→yE)(n:Nat)(z x y:Int):Int:=vV (fun i=>zS3 z (yT z x) (yT z y) (G i)) (fun i=>(G i).id) n
theorem zR5 {G:Nat→yE}{n:Nat}{z x y:Int}(h:zS3 z (yT z x) (yT z y) (G n)=true):xA G (n+1) z x y=(G n).id:=by
 unfold xA;rw [vV,if_pos h]
theorem zUg {G:Nat→yE}{n:Nat}{z x y:Int}(h:zS3 z (yT z x) (yT z y) (G n)=false):xA G (n+1) z x y=xA G n z x y:=by
 unfold xA;rw [vV,if_neg (by rw [h];simp)]
structure OkF (f:yE):Prop where
 kn:kindN f.ki f.n
 n0:0<f.n
 n12:f.n≤12
 inw:∀ i,i<f.n→inW (f.X i) (f.Y i)=true
 wid:0≤f.wi∧f.wi≤3
theorem okF_of {f:yE}(h:zM f.id f.la f.ki f.wi f.n f.X f.Y f.lab f.pr=0):OkF f:=by
 obtain ⟨hk,h0,h12,hkn,hin,_⟩:=zSv h
 refine ⟨?_,h0,h12,hin,(zU6 h).2.2.1⟩
 rcases hk with hk | hk | hk
 ·rw [hk] at h
  exact .inl ⟨hk,zPv h⟩
 ·exact .inr (.inl ⟨hk,by omega⟩)
 ·exact .inr (.inr ⟨hk,by omega⟩)
theorem zNo {n:Nat}{G:Nat→yE}(h:yM n G=0):n≤12∧∀ i,i<n→OkF (G i):=⟨(zEn h).1,fun i hi=>okF_of ((zEn h).2.2 i hi)⟩
theorem zA5.pts {w:World}{b off n i:Nat}{G:Nat→yE}(h:zA5 w b off n G)(hi:i<n)(h0:0<(G i).n):∃ q o,(G i).a=some ⟨q,o,none⟩∧q<w.heap.size∧zL w q o (G i).n (G i).X (G i).Y:=by
 rcases (h i hi).2 with h' | ⟨q,o,e,hl,hp⟩
 ·omega
 ·exact ⟨q,o,e,hl,hp⟩
theorem zEa {w:World}{base:Nat}{t:TypeId}{s:Nat}{v:Value}{n:Nat}{l:List Value}(h:w.ownsRow base t s v (n+1) l):∃ a c,v=.slice a (n+1) c:=by
 obtain ⟨_,h2 | ⟨g,cp,cur,hv,_⟩⟩:=h
 ·exact absurd h2.2 (by omega)
 ·exact ⟨_,_,hv⟩
def zG3 (G:Int→Int→Int)(x y:Int)(k:Nat):List Int:=(List.range k).map fun (k:Nat)=>G (x+((k % 8:Nat):Int)) (y+((k / 8:Nat):Int))
theorem rasK_64 (G:Int→Int→Int)(x y:Int):zD4 G x y 8 8=zG3 G x y 64:=rfl
theorem zWi (G:Int→Int→Int)(x y:Int)(k:Nat):zG3 G x y (k+1)=zG3 G x y k ++ [G (x+((k % 8:Nat):Int)) (y+((k / 8:Nat):Int))]:=by simp [zG3,List.range_succ]
theorem zKt (G:Int→Int→Int)(x y:Int)(k:Nat):(zG3 G x y k).length=k:=by simp [zG3]
theorem zJg {z x y:Int}(h:zCu z x y=true)(m q:Nat)(hm:m<8)(hq:q<8):zBg z (x * 8+(m:Int)) (y * 8+(q:Int))=true:=by
 have hz:xD z=true:=by simp [zCu] at h;exact h.1
 unfold zCu at h
 rcases zT hz with rfl | rfl | rfl | rfl <;> simp [inB,zAx] at h <;> simp [zBg,inB,xQ,hz] <;> omega
theorem zK8 (b n cap:Nat)(G:Nat→yE)(z x y:Int)(w:World)(hg:zA5 w b 0 n G)(hbl:b<w.heap.size)(hn:n≤12)(hok:∀ i,i<n→OkF (G i))(hpx:zBg z x y=true) :
  Calls Tryz.prog 155 #[.slice (some ⟨b,0,none⟩) n cap,.int .i64 z,.int .i64 x,.int .i64 y] w fun e w'=>e=.returned (.int .i64 (xA G n z x y))∧Bw w w':=by
 have HG:Hid (zA5 w b 0 n G):=hg
 have HOK:Hid (∀ i,i<n→OkF (G i)):=hok
 have HPX:Hid (zBg z x y=true):=hpx
 clear hg hok hpx
 have hn0:IntKind.i64.wrap ((n:Int) - 1)=(n:Int) - 1:=IntWalk.i64_in _ (by omega)
 go_enter Tryz.func155,Tryz.ntmps155
 go_wp2_with fail
 go_loopw [9] (fun i wr=>∃ k:Nat,k≤n∧i=.int .i64 ((k:Int) - 1)∧xA G n z x y=xA G k z x y∧Bw w wr) (fun i _=>(intOf i+1).toNat)
 case atStart=>exact ⟨n,Nat.le_refl _,by first | rfl | rw [hn0],rfl,Below.refl _ _⟩
 case round =>
  obtain ⟨k,hk,hi,hE,hB⟩:=hrel
  cases k with
  | zero =>
   have HE:Hid (xA G n z x y=0):=hE
   clear hE
   subst hi
   go_wp2
   go_ret
   exact ⟨zD HE.out.symm,hB⟩
  | succ m =>
   have em:(((m+1:Nat):Int) - 1)=(m:Int):=by omega
   rw [em] at hi
   subst hi
   have HE:Hid (xA G n z x y=xA G (m+1) z x y):=hE
   have HB:Hid (Bw w wr):=hB
   have hlt:m<n:=by omega
   have hOK:=HOK.out m hlt
   have hGr:=HG.out.below hB hbl
   obtain ⟨q,o,ea,hql,hpt⟩:=hGr.pts hlt hOK.n0
   have hf:=(hGr m hlt).1
   rw [ea,Nat.zero_add] at hf
   have q0:=hf.1
   have sC:∀ W,Bw wr W→Calls Tryz.prog 191 #[.pointer (some ⟨b,m * 7,none⟩),.int .i64 z,.int .i64 x,.int .i64 y] W fun e w'=>e=.returned (.bool (zS3 z (yT z x) (yT z y) (G m)))∧Bw W w':=fun W hW =>
    zM0 b (m * 7) (G m).id (G m).la (G m).ki (G m).wi z x y q o (G m).n (G m).cap (G m).X (G m).Y (G m).lab (G m).pr W (hf.below hW (Nat.lt_of_lt_of_le hbl hB.size)) (hpt.below hW hql) (Nat.lt_of_lt_of_le hql hW.size) (by have:=hOK.n12;omega) hOK.kn hOK.inw hOK.wid HPX.out
   have SC:=(show Hid _ from sC)
   have hi1:(m:Int)<(n:Int):=by omega
   have hi0:(0:Int)≤(m:Int):=by omega
   have hm1:IntKind.i64.wrap ((m:Int) - 1)=(m:Int) - 1:=IntWalk.i64_in _ (by omega)
   clear hE hB hGr hf hpt sC
   cases hc:zS3 z (yT z x) (yT z y) (G m)
   ·have HE2:Hid (xA G n z x y=xA G m z x y):=by show _=_;rw [HE.out,zUg hc]
    rw [hc] at SC
    clear hc q0
    go_wp2_with fail
    refine (SC.out _ (Below.refl _ _)).mono ?_
    rintro e w1 ⟨rfl,hb1⟩
    go_wp2_with fail
    exact ⟨⟨m,by omega,by first | rfl | rw [hm1],HE2.out,zA HB.out hb1⟩,by simp [intOf] <;> omega⟩
   ·have HE2:Hid (xA G n z x y=(G m).id):=by show _=_;rw [HE.out,zR5 hc]
    rw [hc] at SC
    clear hc
    have HQ0:Hid (wr.cell? ⟨b,m * 7,none⟩=some (.int .i64 (G m).id)):=q0
    clear q0
    go_wp2_with fail
    refine (SC.out _ (Below.refl _ _)).mono ?_
    rintro e w1 ⟨rfl,hb1⟩
    have q1:w1.cell? ⟨b,m * 7,none⟩=some (.int .i64 (G m).id):=(hb1.cell (p:=⟨b,m * 7,none⟩) (World.block_lt_of_cell? _ _ HQ0.out)).trans HQ0.out
    go_wp2
    go_ret
    exact ⟨zD HE2.out.symm,zA HB.out hb1⟩
def zN9 (w:World)(q:Nat)(z x y:Int)(v:Value):Prop:=w.cell? ⟨q,0,none⟩=some (.int .i64 z)∧w.cell? ⟨q,1,none⟩=some (.int .i64 x)∧w.cell? ⟨q,2,none⟩=some (.int .i64 y)∧w.cell? ⟨q,3,none⟩=some v
theorem zN9.below {w w':World}{q B:Nat}{z x y:Int}{v:Value}(h:zN9 w q z x y v)(hb:Below B w w')(hq:q<B):zN9 w' q z x y v :=
 ⟨(hb.cell (p:=⟨q,0,none⟩) hq).trans h.1,(hb.cell (p:=⟨q,1,none⟩) hq).trans h.2.1,(hb.cell (p:=⟨q,2,none⟩) hq).trans h.2.2.1,(hb.cell (p:=⟨q,3,none⟩) hq).trans h.2.2.2⟩
theorem zC.lay {W:World}{b n:Nat}(h:zC W b n){B o:Nat}{f:yE}(hne:B≠b):zC (zMy W B o f) b n:=by
 unfold zMy
 exact ((((((h.store hne).store hne).store hne).store hne).store hne).store hne).store hne
theorem zWm {W:World}{B n k q0 hi:Nat}{F:Nat→yE}{q:Nat→Nat}{f:yE}(h:zBy W B hi B k (fun i=>(F i).n) (fun i=>(F i).n) q)(hT:zC W B (n * 7))(hk:k<n)(hfa:f.a=some ⟨q0,0,none⟩)(hfn:f.n=(F k).n)(hfc:f.cap=(F k).n)(h0:hi≤q0)(h1:q0<W.heap.size)(hTq:zC W q0 ((F k).n * 2)) :
  zBy (zMy W B (k * 7) f) B (zMy W B (k * 7) f).heap.size B (k+1) (fun i=>(F i).n) (fun i=>(F i).n) (fun i=>if i=k then q0 else q i):=by
 obtain ⟨⟨a1,a2,a3⟩,a4,a5,a6⟩:=h
 have hsz:=zBb W B (k * 7) f
 refine ⟨⟨a1,by rw [hsz];omega,Nat.le_refl _⟩,fun o ho=>zJj hT o (by omega),fun i hi=>?_,fun i j hi hj e=>?_⟩
 ·by_cases e:i=k
  ·subst e
   show (B≤(if i=i then q0 else q i)∧(if i=i then q0 else q i)<_∧(if i=i then q0 else q i)≠B)∧zC _ (if i=i then q0 else q i) ((F i).n * 2)∧_=some (Value.slice (some ⟨(if i=i then q0 else q i),0,none⟩) (F i).n (F i).n)
   rw [if_pos rfl]
   refine ⟨⟨by omega,by rw [hsz];exact h1,by omega⟩,hTq.lay (by omega),?_⟩
   have:=(zUp (f:=f) (o:=i * 7) hT (by omega)).2.2.2.2.1
   rw [this,hfa,hfn,hfc]
  ·show (B≤(if i=k then q0 else q i)∧(if i=k then q0 else q i)<_∧(if i=k then q0 else q i)≠B)∧zC _ (if i=k then q0 else q i) ((F i).n * 2)∧_=some (Value.slice (some ⟨(if i=k then q0 else q i),0,none⟩) (F i).n (F i).n)
   rw [if_neg e]
   obtain ⟨b1,b2,b3⟩:=a5 i (by omega)
   refine ⟨⟨b1.1,by rw [hsz];omega,b1.2.2⟩,b2.lay (Ne.symm b1.2.2),?_⟩
   rw [zJk (p:=⟨B,i * 7+4,none⟩) (.inr (.inl (by show i * 7+4<k * 7;omega)))]
   exact b3
 ·by_cases ei:i=k <;> by_cases ej:j=k
  ·omega
  ·simp only [if_pos ei,if_neg ej] at e
   have:=(a5 j (by omega)).1
   omega
  ·simp only [if_neg ei,if_pos ej] at e
   have:=(a5 i (by omega)).1
   omega
  ·simp only [if_neg ei,if_neg ej] at e
   exact a6 i j (by omega) (by omega) e
theorem zId (a:Option Addr)(n cap:Nat)(F:Nat→yE)(w:World)(hp:zGu w a n F)(hmax:n≤1048576)(hall:∀ i,i<n→(F i).n≤1048576) :
  Calls Tryz.prog 52 #[.slice a n cap] w fun e w'=>∃ b G,e=.returned (.slice (some ⟨b,0,none⟩) n n)∧uH w' w.heap.size b n F G∧(∃ q,zBy w' w.heap.size w'.heap.size b n (fun i=>(F i).n) (fun i=>(F i).n) q)∧Bw w w':=by
 have hmk:=zSb n hmax
 have HP:Hid (zGu w a n F):=hp
 have HA:Hid (∀ i,i<n→(F i).n≤1048576):=hall
 clear hp hall
 go_enter Tryz.func52,Tryz.ntmps52
 go_wp2
 generalize hW:(w.alloc _:World)=W
 have HB0:Hid (Bw w W):=by show Below _ _ _;subst hW;exact Qb
 have HT0:Hid (zC W w.heap.size (n * 7)):=by show zC _ _ _;subst hW;exact zOs _ _ _
 have HL0:Hid (w.heap.size<W.heap.size):=by show _<_;subst hW;simp
 clear hW hmk
 go_loopw [4] (fun i wr=>∃ (k:Nat) (G:Nat→yE),k≤n∧i=.int .i64 k∧Bw w wr∧zC wr w.heap.size (n * 7)∧uH wr w.heap.size w.heap.size k F G∧∃ q,zBy wr w.heap.size wr.heap.size w.heap.size k (fun i=>(F i).n) (fun i=>(F i).n) q) (fun i _=>n - (intOf i).toNat)
 case atStart=>exact ⟨0,F,by omega,rfl,HB0.out,HT0.out,⟨Nat.le_refl _,HL0.out,fun i hi=>by omega,fun i hi=>by omega⟩,fun _=>0,⟨Nat.le_refl _,HL0.out,Nat.le_refl _⟩,(fun o ho=>by omega),(fun i hi=>by omega),fun i j hi=>by omega⟩
 case round =>
  obtain ⟨k,G,hk,rfl,hB,hT,hO,qq,hQ⟩:=hrel
  by_cases hlt:k<n
  ·rcases HP.out with h0 | ⟨b,off,rfl,hbl,hpt⟩
   ·omega
   ·obtain ⟨⟨f0,f1,f2,f3,f4,f5,f6⟩,hIP⟩:=(hpt.below hB hbl) k hlt
    have HB:Hid (Bw w wr):=hB
    have HT:Hid (zC wr w.heap.size (n * 7)):=hT
    have HO:Hid (uH wr w.heap.size w.heap.size k F G):=hO
    have HIP:Hid (xR wr (F k).a (F k).n (F k).X (F k).Y):=hIP
    have hnk:=HA.out k hlt
    have hlw:w.heap.size<wr.heap.size:=hO.2.1
    have HQ:Hid (zBy wr w.heap.size wr.heap.size w.heap.size k (fun i=>(F i).n) (fun i=>(F i).n) qq):=hQ
    clear hB hT hO hpt hIP hQ
    have hi:(k:Int)<(n:Int):=by omega
    have hi0:(0:Int)≤(k:Int):=by omega
    go_wp2_with fail
    refine (zKe _ _ _ _ _ _ _ (F k).X (F k).Y _ _ _ HIP.out hnk).mono ?_
    rintro e w' ⟨q,rfl,hq1,hq2,hq3,hqT,hb⟩
    have HQT:Hid (zC w' q ((F k).n * 2)):=hqT
    clear hqT
    have hT':=HT.out.below hb
    have t0:=hT'.cell (k * 7) (by omega)
    have t1:=hT'.cell (k * 7+1) (by omega)
    have t2:=hT'.cell (k * 7+2) (by omega)
    have t3:=hT'.cell (k * 7+3) (by omega)
    have t4:=hT'.cell (k * 7+4) (by omega)
    have t5:=hT'.cell (k * 7+5) (by omega)
    have t6:=hT'.cell (k * 7+6) (by omega)
    have y0:=(hT' (k * 7) (by omega)).2
    have y1:=(hT' (k * 7+1) (by omega)).2
    have y2:=(hT' (k * 7+2) (by omega)).2
    have y3:=(hT' (k * 7+3) (by omega)).2
    have y4:=(hT' (k * 7+4) (by omega)).2
    have y5:=(hT' (k * 7+5) (by omega)).2
    have y6:=(hT' (k * 7+6) (by omega)).2
    have HT':Hid (zC w' w.heap.size (n * 7)):=hT'
    have HQ3:Hid (zL w' q 0 (F k).n (F k).X (F k).Y):=hq3
    have HBn:Hid (Bw wr w'):=hb
    clear hT' hq3 hb f0 f1 f2 f3 f4 f5 f6
    go_wp2
    go_roundw
    case rel =>
     refine ⟨k+1,fun i=>if i=k then { F k with a:=some ⟨q,0,none⟩,cap:=(F k).n } else G i,by omega,by go_num,?_,?_,?_,?_⟩
     ·exact zSd (f:={ F k with a:=some ⟨q,0,none⟩,cap:=(F k).n }) (B:=w.heap.size) (o:=k * 7) (HB.out.trans (HBn.out.mono HB.out.size)) (Nat.le_refl _)
     ·exact zJj (f:={ F k with a:=some ⟨q,0,none⟩,cap:=(F k).n }) (B:=w.heap.size) (o:=k * 7) HT'.out
     ·exact own_lay (HO.out.below HBn.out) HT'.out (by omega) (by omega) hq2 HQ3.out (by omega)
     ·exact ⟨_,zWm (f:={ F k with a:=some ⟨q,0,none⟩,cap:=(F k).n }) (HQ.out.below HBn.out) HT'.out (by omega) rfl rfl rfl hq1 hq2 HQT.out⟩
    case measure=>simp [intOf];omega
  ·go_wp2
   go_ret
   have hkn:k=n:=by omega
   subst hkn
   exact ⟨_,G,rfl,hO,⟨qq,hQ⟩,hB⟩
theorem zR9 (lo hi b n cap k0:Nat)(N C q:Nat→Nat)(w:World)(hO:zBy w lo hi b n N C q)(hn:n≤1048576)(hN:∀ i,i<n→N i≤1048576)(h0:0<k0)(hk0:k0≤5000000000000000000) :
  Calls Tryz.prog 138 #[.slice (some ⟨b,0,none⟩) n cap,.int .i64 (k0:Int)] w fun e w'=>e=.returned (.int .i64 ((kS N k0 n:Nat):Int))∧zBy w' lo hi b n N C q∧zK lo hi w w'∧∀ i,i<n→zDw w' b (q i) i (N i) (C i) (kS N k0 i):=by
 have HO0:Hid (zBy w lo hi b n N C q):=hO
 have HN:Hid (∀ i,i<n→N i≤1048576):=hN
 clear hO hN
 go_enter Tryz.func138,Tryz.ntmps138
 go_wp2_with fail
 go_loopw [1,5] (fun kk i wr=>∃ j K:Nat,j≤n∧Hid (K=kS N k0 j)∧kk=.int .i64 (K:Int)∧i=.int .i64 (j:Int)∧zBy wr lo hi b n N C q∧zK lo hi w wr∧∀ i,i<j→zDw wr b (q i) i (N i) (C i) (kS N k0 i)) (fun _ i _=>n - (intOf i).toNat)
 case atStart=>exact ⟨0,k0,by omega,rfl,rfl,rfl,HO0.out,zK.refl _ _ _,fun i hi=>by omega⟩
 case round =>
  obtain ⟨j,K,hj,HK,rfl,rfl,hO,hM,hF⟩:=hrel
  by_cases hlt:j<n
  ·have hKb:K≤5000002200000000000:=by
    have:=HK.out
    have:=zXa N k0 n HN.out j (by omega)
    omega
   have hK0:0<K:=by
    have h1:=HK.out
    have h2:∀ i,k0≤kS N k0 i:=fun i=>by
     induction i with
     | zero=>exact Nat.le_refl _
     | succ i ih=>rw [kS];omega
    have:=h2 j
    omega
   have hNj:=HN.out j hlt
   obtain ⟨hqj,hTj,hcj⟩:=hO.2.2.1 j hlt
   have hT:=hO.2.1
   have t0:=hT.cell (j * 7) (by omega)
   have t1:=hT.cell (j * 7+1) (by omega)
   have t2:=hT.cell (j * 7+2) (by omega)
   have t3:=hT.cell (j * 7+3) (by omega)
   have f0:=(hT (j * 7) (by omega)).2
   have f1:=(hT (j * 7+1) (by omega)).2
   have f2:=(hT (j * 7+2) (by omega)).2
   have f3:=(hT (j * 7+3) (by omega)).2
   have HO:Hid (zBy wr lo hi b n N C q):=hO
   have HM:Hid (zK lo hi w wr):=hM
   have HF:Hid (∀ i,i<j→zDw wr b (q i) i (N i) (C i) (kS N k0 i)):=hF
   have HLT:Hid (j<n):=hlt
   clear hO hM hF hT
   have hi:(j:Int)<(n:Int):=by omega
   have hi0:(0:Int)≤(j:Int):=by omega
   have e4:(K:Int)+1+1+1+1=((K+4:Nat):Int):=by omega
   have e3:(K:Int)+1+1+1=((K+3:Nat):Int):=by omega
   have e2:(K:Int)+1+1=((K+2:Nat):Int):=by omega
   have e1:(K:Int)+1=((K+1:Nat):Int):=by omega
   have E:=(show Hid _ from (⟨e4,e3,e2,e1⟩:_∧_∧_∧_))
   clear e4 e3 e2 e1
   go_wp2_with fail
   rw [E.out.1,E.out.2.1,E.out.2.2.1,E.out.2.2.2]
   have hb1:=HO.out.1
   have hql:q j<wr.heap.size:=by omega
   have hne:b≠q j:=fun e=>hqj.2.2 e.symm
   refine (zIp (q j) (N j) (C j) (K+4) _ ((((hTj.store hne).store hne).store hne).store hne) (by simp only [World.size_setCell];exact hql) hNj (by omega)).mono ?_
   rintro e w5 ⟨rfl,hG5,hT5,hP5⟩
   have hTb5:zC w5 b (n * 7):=(((((HO.out.2.1.set _ _).set _ _).set _ _).set _ _).grown hG5 hne)
   have HG5:=(show Hid _ from hG5)
   have HT5:Hid (zC w5 (q j) (N j * 2)):=hT5
   have HP5:Hid (zL w5 (q j) 0 (N j) (mkX (K+4)) (mkY (K+4))):=hP5
   have HTb5:Hid (zC w5 b (n * 7)):=hTb5
   clear hG5 hT5 hP5 hTb5 t0 t1 t2 t3 f0 f1 f2 f3 hcj
   have hkt:0<K+4+2 * N j:=by omega
   go_wp2_with fail
   refine (zFi (K+4+2 * N j) w5 hkt (by omega)).mono ?_
   rintro e w6 ⟨rfl,hb6⟩
   have hT6:=HTb5.out.below hb6
   have t5:=hT6.cell (j * 7+5) (by omega)
   have t6:=hT6.cell (j * 7+6) (by omega)
   have f5:=(hT6 (j * 7+5) (by omega)).2
   have f6:=(hT6 (j * 7+6) (by omega)).2
   have HB6:Hid (Bw w5 w6):=hb6
   clear hT6 hb6
   have hKb2:((K+4+2 * N j:Nat):Int)≤5000002300000000000:=by omega
   have hKb0:(0:Int)≤((K+4+2 * N j:Nat):Int):=by omega
   have HKE:Hid (((K+4+2 * N j:Nat):Int)+1=((K+5+2 * N j:Nat):Int)∧((K+4+2 * N j:Nat):Int)+1+1=((K+6+2 * N j:Nat):Int)):=⟨by omega,by omega⟩
   have HM2:Hid (∀ m:Nat,m=K+4+2 * N j→m=K+4+2 * N j):=fun _ h=>h
   obtain ⟨M,hMd⟩:∃ M:Nat,M=K+4+2 * N j:=⟨_,rfl⟩
   have HMD:Hid (M=K+4+2 * N j):=hMd
   rw [← hMd] at hKb2 hKb0 ⊢
   clear hMd
   go_wp2
   go_roundw
   case rel =>
    have hMd:=HMD.out
    subst hMd
    have hst:=zUk HO.out HLT.out HG5.out HT5.out HP5.out HB6.out HF.out HK.out.symm
    rw [← HKE.out.1] at hst
    obtain ⟨s1,s2,s3⟩:=hst
    refine ⟨j+1,K+6+2 * N j,by have:=HLT.out;omega,by show _=_;rw [kS,← HK.out],by congr 1;omega,by go_num,s1,HM.out.trans s2,s3⟩
   case measure=>have:=HLT.out;simp [intOf];omega
  ·go_wp2
   go_ret
   have hjn:j=n:=by omega
   subst hjn
   exact ⟨zD (by have:=HK.out;omega),hO,hM,hF⟩
theorem zSn (b n cap k0:Nat)(N C q:Nat→Nat)(w:World)(hF:∀ i,i<n→zDw w b (q i) i (N i) (C i) (kS N k0 i))(hb:b<w.heap.size)(hq:∀ i,i<n→q i<w.heap.size)(hn:n≤1048576)(hN:∀ i,i<n→N i≤1048576)(h0:0<k0)(hk0:k0≤5000000000000000000) :
  Calls Tryz.prog 180 #[.slice (some ⟨b,0,none⟩) n cap,.int .i64 (k0:Int)] w fun e w'=>e=.returned (.int .i64 ((kS N k0 n:Nat):Int))∧Bw w w':=by
 have HF:Hid (∀ i,i<n→zDw w b (q i) i (N i) (C i) (kS N k0 i)):=hF
 have HN:Hid (∀ i,i<n→N i≤1048576):=hN
 have HQ:Hid (∀ i,i<n→q i<w.heap.size):=hq
 clear hF hN hq
 go_enter Tryz.func180,Tryz.ntmps180
 go_wp2_with fail
 go_loopw [1,5] (fun kk i wr=>∃ j K:Nat,j≤n∧Hid (K=kS N k0 j)∧kk=.int .i64 (K:Int)∧i=.int .i64 (j:Int)∧Bw w wr) (fun _ i _=>n - (intOf i).toNat)
 case atStart=>exact ⟨0,k0,by omega,rfl,rfl,rfl,Below.refl _ _⟩
 case round =>
  obtain ⟨j,K,hj,HK,rfl,rfl,hB⟩:=hrel
  by_cases hlt:j<n
  ·have hKb:K≤5000002200000000000:=by
    have:=HK.out
    have:=zXa N k0 n HN.out j (by omega)
    omega
   have hK0:0<K:=by
    have h1:=HK.out
    have h2:∀ i,k0≤kS N k0 i:=fun i=>by
     induction i with
     | zero=>exact Nat.le_refl _
     | succ i ih=>rw [kS];omega
    have:=h2 j
    omega
   have hNj:=HN.out j hlt
   have hMF:=(HF.out j hlt).below hB hb (HQ.out j hlt)
   rw [← HK.out] at hMF
   have hql:q j<wr.heap.size:=Nat.lt_of_lt_of_le (HQ.out j hlt) hB.size
   have e3:((K+3:Nat):Int)=(K:Int)+1+1+1:=by omega
   have e2:((K+2:Nat):Int)=(K:Int)+1+1:=by omega
   have e1:((K+1:Nat):Int)=(K:Int)+1:=by omega
   have hHM:Hid (zDw wr b (q j) j (N j) (C j) K):=hMF
   obtain ⟨⟨m0,m1,m2,m3,m4,m5,m6⟩,mp⟩:=hMF
   rw [e1] at m1
   rw [e2] at m2
   rw [e3] at m3
   have HP:Hid (zL wr (q j) 0 (N j) (mkX (K+4)) (mkY (K+4))):=mp
   have HB:Hid (Bw w wr):=hB
   have HLT:Hid (j<n):=hlt
   have hbr:b<wr.heap.size:=Nat.lt_of_lt_of_le hb hB.size
   clear hB mp e1 e2 e3
   have hi:(j:Int)<(n:Int):=by omega
   have hi0:(0:Int)≤(j:Int):=by omega
   have e4:Hid ((K:Int)+1+1+1+1=((K+4:Nat):Int)):=by show _=_;omega
   go_wp2_with fail
   rw [e4.out]
   refine (zIw (q j) (N j) (C j) (K+4) _ HP.out hql hNj (by omega)).mono ?_
   rintro e w5 ⟨rfl,hb5⟩
   obtain ⟨⟨_,_,_,_,_,x5,x6⟩,_⟩:=hHM.out.below hb5 hbr hql
   have Hb5:Hid (Bw wr w5):=hb5
   have hbl5:b<w5.heap.size:=Nat.lt_of_lt_of_le hbr hb5.size
   clear hb5 m0 m1 m2 m3 m4 m5 m6
   have hneg:¬ ((K+4+2 * N j:Nat):Int)<0:=by omega
   have hKb2:((K+4+2 * N j:Nat):Int)≤5000002300000000000:=by omega
   have hKb0:(0:Int)≤((K+4+2 * N j:Nat):Int):=by omega
   have hkt:0<K+4+2 * N j:=by omega
   have e5:((K+5+2 * N j:Nat):Int)=((K+4+2 * N j:Nat):Int)+1:=by omega
   have HKE:Hid (((K+4+2 * N j:Nat):Int)+1+1=((K+6+2 * N j:Nat):Int)):=by show _=_;omega
   rw [e5] at x6
   clear e5
   have HTX:Hid (∀ W,Calls Tryz.prog 179 #[.int .i64 ((K+4+2 * N j:Nat):Int)] W fun e w'=>e=.returned (.string (mTx (K+4+2 * N j)))∧Bw W w'):=fun W=>zFi (K+4+2 * N j) W hkt (by omega)
   generalize mTx (K+4+2 * N j)=tx at x5 HTX
   clear hkt
   obtain ⟨M,hMd⟩:∃ M:Nat,M=K+4+2 * N j:=⟨_,rfl⟩
   have HMD:Hid (M=K+4+2 * N j):=hMd
   rw [← hMd] at hKb2 hKb0 hneg x6 HTX ⊢
   clear hMd
   have y5:∀ W',Bw w5 W'→W'.cell? ⟨b,j * 7+5,none⟩=some (.string tx):=fun W' h=>zU h x5
   have y6:∀ W',Bw w5 W'→W'.cell? ⟨b,j * 7+6,none⟩=some (.int .i64 ((M:Int)+1)):=fun W' h=>zU h x6
   clear x5 x6
   have hr5:Bw w5 w5:=Below.refl _ _
   have htx:(tx.toList == tx.toList)=true:=beq_self_eq_true _
   go_wp2_with fail
   go_region_held3 (fun W'=>Bw w5 W') ((repeat (first|exact Qr _ _|assumption|refine Qd ?_|refine Qa ?_ _|refine Qt ?_|refine Qs ?_ _|refine Qo ?_ ?_ _ _)))
    (first | (go_at_call 179;refine (HTX.out _).mono ?_;rintro e w' ⟨rfl,hb⟩) | fail)
   go_wp2
   go_roundw
   case rel =>
    have hMd:=HMD.out
    refine ⟨j+1,K+6+2 * N j,by have:=HLT.out;omega,by show _=_;rw [kS,← HK.out],by congr 1;omega,by go_num,zA HB.out (zA Hb5.out (by assumption))⟩
   case measure=>have:=HLT.out;simp [intOf];omega
  ·go_wp2
   go_ret
   have hjn:j=n:=by omega
   subst hjn
   exact ⟨zD (by have:=HK.out;omega),hB⟩
theorem zSi (b n cap:Nat)(G:Nat→yE)(w:World)(hg:zA5 w b 0 n G)(hbl:b<w.heap.size)(hn:n≤12)(hpos:∀ i,i<n→0<(G i).n)(hs:yO n G) :
  Calls Tryz.prog 192 #[.slice (some ⟨b,0,none⟩) n cap] w fun e w'=>∃ v H,e=.returned v∧v≠.slice none 0 0∧zEv w.heap.size w' v H (List.range n)∧zCh w.heap.size w' n G H∧Bw w w':=by
 obtain ⟨i0,hi,hz0,hz1,hz2⟩:=info_parts zPl
 have HG:Hid (zA5 w b 0 n G):=hg
 have HPOS:Hid (∀ i,i<n→0<(G i).n):=hpos
 have HS:Hid (yO n G):=hs
 clear hg hpos hs
 go_enter Tryz.func192,Tryz.ntmps192
 go_wp2_with fail
 generalize hS0:(w.alloc _:World)=S0
 have hB0:Bw w S0:=by subst hS0;exact Qb
 have hO0:zEv w.heap.size S0 (.slice (some ⟨w.heap.size,0,none⟩) 0 0) G (List.range 0):=by
  subst hS0
  exact World.ownsRow_lit (base:=w.heap.size) (e:=138) (size:=7) w #[] 0 (Nat.le_refl _) (Nat.zero_le _) rfl
 clear hS0
 go_loopw [3,4] (fun v i wr=>∃ (k:Nat) (H:Nat→yE),k≤n∧i=.int .i64 (k:Int)∧v≠.slice none 0 0∧zEv w.heap.size wr v H (List.range k)∧zCh w.heap.size wr k G H∧Bw w wr) (fun _ i _=>n - (intOf i).toNat)
 case atStart=>exact ⟨0,G,by omega,rfl,(by intro h;injection h with h;cases h),hO0,⟨fun i hi=>by omega,fun i j hi=>by omega⟩,hB0⟩
 case round =>
  obtain ⟨k,H,hk,rfl,hnn,hO,hC,hB⟩:=hrel
  have HNN:Hid (u3≠.slice none 0 0):=hnn
  clear hnn
  by_cases hlt:k<n
  ·have hblr:b<wr.heap.size:=Nat.lt_of_lt_of_le hbl hB.size
   obtain ⟨⟨f0,f1,f2,f3,f4,f5,f6⟩,hP⟩:=(HG.out.below hB hbl) k hlt
   simp only [Nat.zero_add] at f0 f1 f2 f3 f4 f5 f6
   have hp0:=HPOS.out k hlt
   obtain ⟨z1,z2⟩:=HS.out.2 k hlt
   obtain ⟨b',off',ha',hbl',hpt⟩:=hP.resolve_left (by omega)
   rw [ha'] at f4
   have HP:Hid (zL wr b' off' (G k).n (G k).X (G k).Y):=hpt
   have HO:Hid (zEv w.heap.size wr u3 H (List.range k)):=hO
   have HC:Hid (zCh w.heap.size wr k G H):=hC
   have HB:Hid (Bw w wr):=hB
   have HLT:Hid (k<n):=hlt
   clear hO hC hB hP hpt
   have hi':(k:Int)<(n:Int):=by omega
   go_wp2_with fail
   clear f0 f1 f2 f3 f4 f5 f6
   refine (zLa _ _ _ _ b' _ _ (G k).X (G k).Y _ _ wr HP.out hbl' z1).mono ?_
   rintro e w1 ⟨a1,c1,rfl,hR1,hb1⟩
   have hrV:Bw wr w1:=hb1
   have HR1:Hid (Row (wr.heap.size+1+1) w1 (.slice a1 (G k).n c1) (vE (G k).X (G k).Y (List.range (G k).n))):=hR1
   have HO1:Hid (zEv w.heap.size w1 u3 H (List.range k)):=HO.out.below hb1
   have HB1:Hid (Bw w w1):=zA HB.out hrV
   have HrV:Hid (Bw wr w1):=hrV
   have hszw:=HB.out.size
   have hsz1:=hb1.size
   clear hR1 hrV hb1 HO HB
   have hlenr:(List.range k).length=k:=by simp
   go_wp2_with (first
    | (at_builtin;go_must (refine wpList_append_own _ rfl _ _ 55 rfl w.heap.size 138 i0 (.agg #[.int .i64 0,.int .i64 0,.int .i64 0,.int .i64 0,.slice none 0 0,.string ⟨#[]⟩,.int .i64 0]) 7 80 Tryz.underlying55 hi hz0 hz1 hz2 rfl (by decide) u3 k (xX H (List.range k)) rfl ?c6 ⟨w1.heap.size,0,none⟩ 1 1 (zCp { G k with a:=a1,cap:=c1 }) rfl ?c0 ?c1 ?c2 ?c3 ?c4 ?c5 ?_)))
   case c6 =>
    have:=HO1.out.below (by exact Qb:Below w1.heap.size w1 (w1.alloc (.cells #[.int .i64 (G k).id,.int .i64 (G k).la,.int .i64 (G k).ki,.int .i64 (G k).wi,.slice a1 (G k).n c1,.string (G k).lab,.int .i64 (G k).pr] 138)))
    unfold zEv at this
    rw [hlenr] at this
    exact this
   case c0=>rfl
   case c1 =>
    intro q u hq
    have hq7:q<7:=(List.getElem?_eq_some_iff.1 hq).1
    have hc:q=0∨q=1∨q=2∨q=3∨q=4∨q=5∨q=6:=by omega
    rcases hc with rfl | rfl | rfl | rfl | rfl | rfl | rfl <;> (simp [zCp] at hq;subst hq;simp [Addr.add,go_sem])
   case c2=>exact zNp _
   case c3=>unfold maxLen;omega
   case c4=>omega
   case c5=>simp;omega
   intro v' w3 hown' hgrow hnil
   have HN':Hid (v'≠.slice none 0 0):=hnil
   clear hnil
   have hO2:zEv w.heap.size (w1.alloc (.cells #[.int .i64 (G k).id,.int .i64 (G k).la,.int .i64 (G k).ki,.int .i64 (G k).wi,.slice a1 (G k).n c1,.string (G k).lab,.int .i64 (G k).pr] 138)) u3 H (List.range k):=HO1.out.below (by exact Qb)
   have hR2:=HR1.out.below (by exact Qb:Below w1.heap.size w1 (w1.alloc (.cells #[.int .i64 (G k).id,.int .i64 (G k).la,.int .i64 (G k).ki,.int .i64 (G k).wi,.slice a1 (G k).n c1,.string (G k).lab,.int .i64 (G k).pr] 138)))
   have hb2:Bw wr (w1.alloc (.cells #[.int .i64 (G k).id,.int .i64 (G k).la,.int .i64 (G k).ki,.int .i64 (G k).wi,.slice a1 (G k).n c1,.string (G k).lab,.int .i64 (G k).pr] 138)):=HrV.out.alloc (by omega) _
   obtain ⟨hC1,hC2⟩:=HC.out
   have HF:Hid (zEv w.heap.size w3 v' (fun i=>if i=k then { G k with a:=a1,cap:=c1 } else H i) (List.range (k+1))):=by
    show zEv _ _ _ _ _
    unfold zEv
    have e1:xX (fun i=>if i=k then { G k with a:=a1,cap:=c1 } else H i) (List.range (k+1))=xX H (List.range k) ++ zCp { G k with a:=a1,cap:=c1 }:=by
     rw [List.range_succ,zJ3,zJ1,if_pos rfl]
     rw [zCe (H':=H) (List.range k) (fun j hj=>by rw [if_neg];have:=List.mem_range.1 hj;omega)]
    rw [e1,List.length_range]
    exact hown'
   have HCn:Hid (zCh w.heap.size w3 (k+1) G (fun i=>if i=k then { G k with a:=a1,cap:=c1 } else H i)):=by
    show zCh _ _ _ _ _
    obtain ⟨g1,hg1,hg1',_⟩:=HR1.out.atP hp0
    refine ⟨fun i hi=>?_,fun i j hi hj e=>?_⟩
    ·by_cases e:i=k
     ·subst e
      simp only [if_pos]
      exact ⟨⟨rfl,rfl,rfl,rfl,rfl,rfl,rfl,rfl,rfl⟩,(hR2.keptF hO2 hgrow).wideB (by omega)⟩
     ·simp only [if_neg e]
      obtain ⟨s1,r1⟩:=hC1 i (by omega)
      exact ⟨s1,(r1.below hb2).keptF hO2 hgrow⟩
    ·have old:∀ i,i<k→(H i).a≠a1:=fun i hi e=>by
      obtain ⟨s1,r1⟩:=hC1 i hi
      have hnn:(H i).n=(G i).n:=s1.2.2.2.2.1
      rw [hnn] at r1
      obtain ⟨g,hg,_,hgl,_⟩:=r1.atP (HPOS.out i (by omega))
      rw [hg,hg1] at e
      injection e with e
      injection e with e
      omega
     by_cases ei:i=k <;> by_cases ej:j=k
     ·omega
     ·simp only [if_pos ei,if_neg ej] at e
      exact absurd e.symm (old j (by omega))
     ·simp only [if_neg ei,if_pos ej] at e
      exact absurd e (old i (by omega))
     ·simp only [if_neg ei,if_neg ej] at e
      exact hC2 i j (by omega) (by omega) e
   have HB3:Hid (Bw w w3):=(HB1.out.alloc (by omega) _).grown hgrow (by simp;omega) (fun g hg=>((World.ownsRow.lt (show World.ownsRow _ _ _ _ _ _ _ from hO2)) g hg).1)
   clear hown' hgrow hO2 hR2 hb2 hC1 hC2
   go_wp2
   go_roundw
   case rel=>exact ⟨k+1,_,by have:=HLT.out;omega,by go_num,HN'.out,HF.out,HCn.out,HB3.out⟩
   case measure=>have:=HLT.out;simp [intOf];omega
  ·go_wp2
   go_ret
   have hkn:k=n:=by omega
   subst hkn
   exact ⟨_,H,rfl,HNN.out,hO,hC,hB⟩
end Go.Proofs.YtkjbafcalamgnaaGreat
