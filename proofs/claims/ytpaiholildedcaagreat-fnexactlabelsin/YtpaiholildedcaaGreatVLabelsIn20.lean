/- Texts. -/
import Derived.Test.YtpaiholildedcaaGreatVLabelsIn19
set_option linter.unusedSimpArgs false
set_option linter.unusedVariables false
set_option maxRecDepth 100000
set_option maxHeartbeats 32000000
namespace Go.Proofs.YtpaiholildedcaaGreat
open Go.RowKit
def zOa (z cx cy:Int)(f:zS):Bool:=uA f.ki f.wi z cx cy (xH f.X f.Y f.n)
def xK (C:Nat→Bool)(I:Nat→Int):Nat→Int
 | 0=>0
 | n+1=>if C n=true then I n else xK C I n
def yE (G:Nat→zS)(n:Nat)(z x y:Int):Int:=xK (fun i=>zOa z (zZ z x) (zZ z y) (G i)) (fun i=>(G i).id) n
theorem zNe {G:Nat→zS}{n:Nat}{z x y:Int}(h:zOa z (zZ z x) (zZ z y) (G n)=true):yE G (n+1) z x y=(G n).id:=by
 unfold yE;rw [xK,if_pos h]
theorem zPk {G:Nat→zS}{n:Nat}{z x y:Int}(h:zOa z (zZ z x) (zZ z y) (G n)=false):yE G (n+1) z x y=yE G n z x y:=by
 unfold yE;rw [xK,if_neg (by rw [h];simp)]
structure OkF (f:zS):Prop where
 kn:kindN f.ki f.n
 n0:0<f.n
 n12:f.n≤12
 inw:∀ i,i<f.n→inW (f.X i) (f.Y i)=true
 wid:0≤f.wi∧f.wi≤3
theorem okF_of {f:zS}(h:zI f.id f.la f.ki f.wi f.n f.X f.Y f.lab f.pr=0):OkF f:=by
 obtain ⟨hk,h0,h12,hkn,hin,_⟩:=zN3 h
 refine ⟨?_,h0,h12,hin,(zQi h).2.2.1⟩
 rcases hk with hk | hk | hk
 ·rw [hk] at h
  exact .inl ⟨hk,zLk h⟩
 ·exact .inr (.inl ⟨hk,by omega⟩)
 ·exact .inr (.inr ⟨hk,by omega⟩)
theorem zEp {n:Nat}{G:Nat→zS}(h:zV n G=0):n≤12∧∀ i,i<n→OkF (G i):=⟨(zCd h).1,fun i hi=>okF_of ((zCd h).2.2 i hi)⟩
theorem vY.pts {w:World}{b off n i:Nat}{G:Nat→zS}(h:vY w b off n G)(hi:i<n)(h0:0<(G i).n):∃ q o,(G i).a=some ⟨q,o,none⟩∧q<w.heap.size∧zK w q o (G i).n (G i).X (G i).Y:=by
 rcases (h i hi).2 with h' | ⟨q,o,e,hl,hp⟩
 ·omega
 ·exact ⟨q,o,e,hl,hp⟩
theorem zB8 {w:World}{base:Nat}{t:TypeId}{s:Nat}{v:Value}{n:Nat}{l:List Value}(h:w.ownsRow base t s v (n+1) l):∃ a c,v=.slice a (n+1) c:=by
 obtain ⟨_,h2 | ⟨g,cp,cur,hv,_⟩⟩:=h
 ·exact absurd h2.2 (by omega)
 ·exact ⟨_,_,hv⟩
def zDw (G:Int→Int→Int)(x y:Int)(k:Nat):List Int:=(List.range k).map fun (k:Nat)=>G (x+((k % 8:Nat):Int)) (y+((k / 8:Nat):Int))
theorem rasK_64 (G:Int→Int→Int)(x y:Int):zB4 G x y 8 8=zDw G x y 64:=rfl
theorem zRq (G:Int→Int→Int)(x y:Int)(k:Nat):zDw G x y (k+1)=zDw G x y k ++ [G (x+((k % 8:Nat):Int)) (y+((k / 8:Nat):Int))]:=by simp [zDw,List.range_succ]
theorem zRp (G:Int→Int→Int)(x y:Int)(k:Nat):(zDw G x y k).length=k:=by simp [zDw]
theorem zF4 {z x y:Int}(h:zAv z x y=true)(m q:Nat)(hm:m<8)(hq:q<8):uW z (x * 8+(m:Int)) (y * 8+(q:Int))=true:=by
 have hz:yH z=true:=by simp [zAv] at h;exact h.1
 unfold zAv at h
 rcases zP hz with rfl | rfl | rfl | rfl <;> simp [inB,uF] at h <;> simp [uW,inB,zAp,hz] <;> omega
theorem zHa (b n cap:Nat)(G:Nat→zS)(z x y:Int)(w:World)(hg:vY w b 0 n G)(hbl:b<w.heap.size)(hn:n≤12)(hok:∀ i,i<n→OkF (G i))(hpx:uW z x y=true) :
  Calls Tryz.prog 187 #[.slice (some ⟨b,0,none⟩) n cap,.int .i64 z,.int .i64 x,.int .i64 y] w fun e w'=>e=.returned (.int .i64 (yE G n z x y))∧Bw w w':=by
 have HG:Hid (vY w b 0 n G):=hg
 have HOK:Hid (∀ i,i<n→OkF (G i)):=hok
 have HPX:Hid (uW z x y=true):=hpx
 clear hg hok hpx
 have hn0:IntKind.i64.wrap ((n:Int) - 1)=(n:Int) - 1:=IntWalk.i64_in _ (by omega)
 go_enter Tryz.func187,Tryz.ntmps187
 go_wp2_with fail
 go_loopw [9] (fun i wr=>∃ k:Nat,k≤n∧i=.int .i64 ((k:Int) - 1)∧yE G n z x y=yE G k z x y∧Bw w wr) (fun i _=>(intOf i+1).toNat)
 case atStart=>exact ⟨n,Nat.le_refl _,by first | rfl | rw [hn0],rfl,Below.refl _ _⟩
 case round =>
  obtain ⟨k,hk,hi,hE,hB⟩:=hrel
  cases k with
  | zero =>
   have HE:Hid (yE G n z x y=0):=hE
   clear hE
   subst hi
   go_wp2
   go_ret
   exact ⟨zE HE.out.symm,hB⟩
  | succ m =>
   have em:(((m+1:Nat):Int) - 1)=(m:Int):=by omega
   rw [em] at hi
   subst hi
   have HE:Hid (yE G n z x y=yE G (m+1) z x y):=hE
   have HB:Hid (Bw w wr):=hB
   have hlt:m<n:=by omega
   have hOK:=HOK.out m hlt
   have hGr:=HG.out.below hB hbl
   obtain ⟨q,o,ea,hql,hpt⟩:=hGr.pts hlt hOK.n0
   have hf:=(hGr m hlt).1
   rw [ea,Nat.zero_add] at hf
   have q0:=hf.1
   have sC:∀ W,Bw wr W→Calls Tryz.prog 222 #[.pointer (some ⟨b,m * 7,none⟩),.int .i64 z,.int .i64 x,.int .i64 y] W fun e w'=>e=.returned (.bool (zOa z (zZ z x) (zZ z y) (G m)))∧Bw W w':=fun W hW =>
    zI0 b (m * 7) (G m).id (G m).la (G m).ki (G m).wi z x y q o (G m).n (G m).cap (G m).X (G m).Y (G m).lab (G m).pr W (hf.below hW (Nat.lt_of_lt_of_le hbl hB.size)) (hpt.below hW hql) (Nat.lt_of_lt_of_le hql hW.size) (by have:=hOK.n12;omega) hOK.kn hOK.inw hOK.wid HPX.out
   have SC:=(show Hid _ from sC)
   have hi1:(m:Int)<(n:Int):=by omega
   have hi0:(0:Int)≤(m:Int):=by omega
   have hm1:IntKind.i64.wrap ((m:Int) - 1)=(m:Int) - 1:=IntWalk.i64_in _ (by omega)
   clear hE hB hGr hf hpt sC
   cases hc:zOa z (zZ z x) (zZ z y) (G m)
   ·have HE2:Hid (yE G n z x y=yE G m z x y):=by show _=_;rw [HE.out,zPk hc]
    rw [hc] at SC
    clear hc q0
    go_wp2_with fail
    refine (SC.out _ (Below.refl _ _)).mono ?_
    rintro e w1 ⟨rfl,hb1⟩
    go_wp2_with fail
    exact ⟨⟨m,by omega,by first | rfl | rw [hm1],HE2.out,zA HB.out hb1⟩,by simp [intOf] <;> omega⟩
   ·have HE2:Hid (yE G n z x y=(G m).id):=by show _=_;rw [HE.out,zNe hc]
    rw [hc] at SC
    clear hc
    have HQ0:Hid (wr.cell? ⟨b,m * 7,none⟩=some (.int .i64 (G m).id)):=q0
    clear q0
    go_wp2_with fail
    refine (SC.out _ (Below.refl _ _)).mono ?_
    rintro e w1 ⟨rfl,hb1⟩
    have q1:w1.cell? ⟨b,m * 7,none⟩=some (.int .i64 (G m).id):=(hb1.cell (p:=⟨b,m * 7,none⟩) (World.block_lt_of_cell? _ _ HQ0.out)).trans HQ0.out
    go_wp2
    go_ret
    exact ⟨zE HE2.out.symm,zA HB.out hb1⟩
def zJ5 (w:World)(q:Nat)(z x y:Int)(v:Value):Prop:=w.cell? ⟨q,0,none⟩=some (.int .i64 z)∧w.cell? ⟨q,1,none⟩=some (.int .i64 x)∧w.cell? ⟨q,2,none⟩=some (.int .i64 y)∧w.cell? ⟨q,3,none⟩=some v
theorem zJ5.below {w w':World}{q B:Nat}{z x y:Int}{v:Value}(h:zJ5 w q z x y v)(hb:Below B w w')(hq:q<B):zJ5 w' q z x y v :=
 ⟨(hb.cell (p:=⟨q,0,none⟩) hq).trans h.1,(hb.cell (p:=⟨q,1,none⟩) hq).trans h.2.1,(hb.cell (p:=⟨q,2,none⟩) hq).trans h.2.2.1,(hb.cell (p:=⟨q,3,none⟩) hq).trans h.2.2.2⟩
theorem zD.lay {W:World}{b n:Nat}(h:zD W b n){B o:Nat}{f:zS}(hne:B≠b):zD (zIy W B o f) b n:=by
 unfold zIy
 exact ((((((h.store hne).store hne).store hne).store hne).store hne).store hne).store hne
theorem zRr {W:World}{B n k q0 hi:Nat}{F:Nat→zS}{q:Nat→Nat}{f:zS}(h:zAm W B hi B k (fun i=>(F i).n) (fun i=>(F i).n) q)(hT:zD W B (n * 7))(hk:k<n)(hfa:f.a=some ⟨q0,0,none⟩)(hfn:f.n=(F k).n)(hfc:f.cap=(F k).n)(h0:hi≤q0)(h1:q0<W.heap.size)(hTq:zD W q0 ((F k).n * 2)) :
  zAm (zIy W B (k * 7) f) B (zIy W B (k * 7) f).heap.size B (k+1) (fun i=>(F i).n) (fun i=>(F i).n) (fun i=>if i=k then q0 else q i):=by
 obtain ⟨⟨a1,a2,a3⟩,a4,a5,a6⟩:=h
 have hsz:=uR W B (k * 7) f
 refine ⟨⟨a1,by rw [hsz];omega,Nat.le_refl _⟩,fun o ho=>zF8 hT o (by omega),fun i hi=>?_,fun i j hi hj e=>?_⟩
 ·by_cases e:i=k
  ·subst e
   show (B≤(if i=i then q0 else q i)∧(if i=i then q0 else q i)<_∧(if i=i then q0 else q i)≠B)∧zD _ (if i=i then q0 else q i) ((F i).n * 2)∧_=some (Value.slice (some ⟨(if i=i then q0 else q i),0,none⟩) (F i).n (F i).n)
   rw [if_pos rfl]
   refine ⟨⟨by omega,by rw [hsz];exact h1,by omega⟩,hTq.lay (by omega),?_⟩
   have:=(zPy (f:=f) (o:=i * 7) hT (by omega)).2.2.2.2.1
   rw [this,hfa,hfn,hfc]
  ·show (B≤(if i=k then q0 else q i)∧(if i=k then q0 else q i)<_∧(if i=k then q0 else q i)≠B)∧zD _ (if i=k then q0 else q i) ((F i).n * 2)∧_=some (Value.slice (some ⟨(if i=k then q0 else q i),0,none⟩) (F i).n (F i).n)
   rw [if_neg e]
   obtain ⟨b1,b2,b3⟩:=a5 i (by omega)
   refine ⟨⟨b1.1,by rw [hsz];omega,b1.2.2⟩,b2.lay (Ne.symm b1.2.2),?_⟩
   rw [zF9 (p:=⟨B,i * 7+4,none⟩) (.inr (.inl (by show i * 7+4<k * 7;omega)))]
   exact b3
 ·by_cases ei:i=k <;> by_cases ej:j=k
  ·omega
  ·simp only [if_pos ei,if_neg ej] at e
   have:=(a5 j (by omega)).1
   omega
  ·simp only [if_neg ei,if_pos ej] at e
   have:=(a5 i (by omega)).1
   omega
  ·simp only [if_neg ei,if_neg ej] at e
   exact a6 i j (by omega) (by omega) e
theorem zE7 (a:Option Addr)(n cap:Nat)(F:Nat→zS)(w:World)(hp:zMs w a n F)(hmax:n≤1048576)(hall:∀ i,i<n→(F i).n≤1048576) :
  Calls Tryz.prog 223 #[.slice a n cap] w fun e w'=>∃ b G,e=.returned (.slice (some ⟨b,0,none⟩) n n)∧xX w' w.heap.size b n F G∧(∃ q,zAm w' w.heap.size w'.heap.size b n (fun i=>(F i).n) (fun i=>(F i).n) q)∧Bw w w':=by
 have hmk:=zNk n hmax
 have HP:Hid (zMs w a n F):=hp
 have HA:Hid (∀ i,i<n→(F i).n≤1048576):=hall
 clear hp hall
 go_enter Tryz.func223,Tryz.ntmps223
 go_wp2
 generalize hW:(w.alloc _:World)=W
 have HB0:Hid (Bw w W):=by show Below _ _ _;subst hW;exact Qb
 have HT0:Hid (zD W w.heap.size (n * 7)):=by show zD _ _ _;subst hW;exact zKk _ _ _
 have HL0:Hid (w.heap.size<W.heap.size):=by show _<_;subst hW;simp
 clear hW hmk
 go_loopw [4] (fun i wr=>∃ (k:Nat) (G:Nat→zS),k≤n∧i=.int .i64 k∧Bw w wr∧zD wr w.heap.size (n * 7)∧xX wr w.heap.size w.heap.size k F G∧∃ q,zAm wr w.heap.size wr.heap.size w.heap.size k (fun i=>(F i).n) (fun i=>(F i).n) q) (fun i _=>n - (intOf i).toNat)
 case atStart=>exact ⟨0,F,by omega,rfl,HB0.out,HT0.out,⟨Nat.le_refl _,HL0.out,fun i hi=>by omega,fun i hi=>by omega⟩,fun _=>0,⟨Nat.le_refl _,HL0.out,Nat.le_refl _⟩,(fun o ho=>by omega),(fun i hi=>by omega),fun i j hi=>by omega⟩
 case round =>
  obtain ⟨k,G,hk,rfl,hB,hT,hO,qq,hQ⟩:=hrel
  by_cases hlt:k<n
  ·rcases HP.out with h0 | ⟨b,off,rfl,hbl,hpt⟩
   ·omega
   ·obtain ⟨⟨f0,f1,f2,f3,f4,f5,f6⟩,hIP⟩:=(hpt.below hB hbl) k hlt
    have HB:Hid (Bw w wr):=hB
    have HT:Hid (zD wr w.heap.size (n * 7)):=hT
    have HO:Hid (xX wr w.heap.size w.heap.size k F G):=hO
    have HIP:Hid (xY wr (F k).a (F k).n (F k).X (F k).Y):=hIP
    have hnk:=HA.out k hlt
    have hlw:w.heap.size<wr.heap.size:=hO.2.1
    have HQ:Hid (zAm wr w.heap.size wr.heap.size w.heap.size k (fun i=>(F i).n) (fun i=>(F i).n) qq):=hQ
    clear hB hT hO hpt hIP hQ
    have hi:(k:Int)<(n:Int):=by omega
    have hi0:(0:Int)≤(k:Int):=by omega
    go_wp2_with fail
    refine (zGp _ _ _ _ _ _ _ (F k).X (F k).Y _ _ _ HIP.out hnk).mono ?_
    rintro e w' ⟨q,rfl,hq1,hq2,hq3,hqT,hb⟩
    have HQT:Hid (zD w' q ((F k).n * 2)):=hqT
    clear hqT
    have hT':=HT.out.below hb
    have t0:=hT'.cell (k * 7) (by omega)
    have t1:=hT'.cell (k * 7+1) (by omega)
    have t2:=hT'.cell (k * 7+2) (by omega)
    have t3:=hT'.cell (k * 7+3) (by omega)
    have t4:=hT'.cell (k * 7+4) (by omega)
    have t5:=hT'.cell (k * 7+5) (by omega)
    have t6:=hT'.cell (k * 7+6) (by omega)
    have y0:=(hT' (k * 7) (by omega)).2
    have y1:=(hT' (k * 7+1) (by omega)).2
    have y2:=(hT' (k * 7+2) (by omega)).2
    have y3:=(hT' (k * 7+3) (by omega)).2
    have y4:=(hT' (k * 7+4) (by omega)).2
    have y5:=(hT' (k * 7+5) (by omega)).2
    have y6:=(hT' (k * 7+6) (by omega)).2
    have HT':Hid (zD w' w.heap.size (n * 7)):=hT'
    have HQ3:Hid (zK w' q 0 (F k).n (F k).X (F k).Y):=hq3
    have HBn:Hid (Bw wr w'):=hb
    clear hT' hq3 hb f0 f1 f2 f3 f4 f5 f6
    go_wp2
    go_roundw
    case rel =>
     refine ⟨k+1,fun i=>if i=k then { F k with a:=some ⟨q,0,none⟩,cap:=(F k).n } else G i,by omega,by go_num,?_,?_,?_,?_⟩
     ·exact zNm (f:={ F k with a:=some ⟨q,0,none⟩,cap:=(F k).n }) (B:=w.heap.size) (o:=k * 7) (HB.out.trans (HBn.out.mono HB.out.size)) (Nat.le_refl _)
     ·exact zF8 (f:={ F k with a:=some ⟨q,0,none⟩,cap:=(F k).n }) (B:=w.heap.size) (o:=k * 7) HT'.out
     ·exact own_lay (HO.out.below HBn.out) HT'.out (by omega) (by omega) hq2 HQ3.out (by omega)
     ·exact ⟨_,zRr (f:={ F k with a:=some ⟨q,0,none⟩,cap:=(F k).n }) (HQ.out.below HBn.out) HT'.out (by omega) rfl rfl rfl hq1 hq2 HQT.out⟩
    case measure=>simp [intOf];omega
  ·go_wp2
   go_ret
   have hkn:k=n:=by omega
   subst hkn
   exact ⟨_,G,rfl,hO,⟨qq,hQ⟩,hB⟩
theorem zNi (lo hi b n cap k0:Nat)(N C q:Nat→Nat)(w:World)(hO:zAm w lo hi b n N C q)(hn:n≤1048576)(hN:∀ i,i<n→N i≤1048576)(h0:0<k0)(hk0:k0≤5000000000000000000) :
  Calls Tryz.prog 150 #[.slice (some ⟨b,0,none⟩) n cap,.int .i64 (k0:Int)] w fun e w'=>e=.returned (.int .i64 ((kS N k0 n:Nat):Int))∧zAm w' lo hi b n N C q∧zW lo hi w w'∧∀ i,i<n→zH1 w' b (q i) i (N i) (C i) (kS N k0 i):=by
 have HO0:Hid (zAm w lo hi b n N C q):=hO
 have HN:Hid (∀ i,i<n→N i≤1048576):=hN
 clear hO hN
 go_enter Tryz.func150,Tryz.ntmps150
 go_wp2_with fail
 go_loopw [1,5] (fun kk i wr=>∃ j K:Nat,j≤n∧Hid (K=kS N k0 j)∧kk=.int .i64 (K:Int)∧i=.int .i64 (j:Int)∧zAm wr lo hi b n N C q∧zW lo hi w wr∧∀ i,i<j→zH1 wr b (q i) i (N i) (C i) (kS N k0 i)) (fun _ i _=>n - (intOf i).toNat)
 case atStart=>exact ⟨0,k0,by omega,rfl,rfl,rfl,HO0.out,zW.refl _ _ _,fun i hi=>by omega⟩
 case round =>
  obtain ⟨j,K,hj,HK,rfl,rfl,hO,hM,hF⟩:=hrel
  by_cases hlt:j<n
  ·have hKb:K≤5000002200000000000:=by
    have:=HK.out
    have:=kS_le N k0 n HN.out j (by omega)
    omega
   have hK0:0<K:=by
    have h1:=HK.out
    have h2:∀ i,k0≤kS N k0 i:=fun i=>by
     induction i with
     | zero=>exact Nat.le_refl _
     | succ i ih=>rw [kS];omega
    have:=h2 j
    omega
   have hNj:=HN.out j hlt
   obtain ⟨hqj,hTj,hcj⟩:=hO.2.2.1 j hlt
   have hT:=hO.2.1
   have t0:=hT.cell (j * 7) (by omega)
   have t1:=hT.cell (j * 7+1) (by omega)
   have t2:=hT.cell (j * 7+2) (by omega)
   have t3:=hT.cell (j * 7+3) (by omega)
   have f0:=(hT (j * 7) (by omega)).2
   have f1:=(hT (j * 7+1) (by omega)).2
   have f2:=(hT (j * 7+2) (by omega)).2
   have f3:=(hT (j * 7+3) (by omega)).2
   have HO:Hid (zAm wr lo hi b n N C q):=hO
   have HM:Hid (zW lo hi w wr):=hM
   have HF:Hid (∀ i,i<j→zH1 wr b (q i) i (N i) (C i) (kS N k0 i)):=hF
   have HLT:Hid (j<n):=hlt
   clear hO hM hF hT
   have hi:(j:Int)<(n:Int):=by omega
   have hi0:(0:Int)≤(j:Int):=by omega
   have e4:(K:Int)+1+1+1+1=((K+4:Nat):Int):=by omega
   have e3:(K:Int)+1+1+1=((K+3:Nat):Int):=by omega
   have e2:(K:Int)+1+1=((K+2:Nat):Int):=by omega
   have e1:(K:Int)+1=((K+1:Nat):Int):=by omega
   have E:=(show Hid _ from (⟨e4,e3,e2,e1⟩:_∧_∧_∧_))
   clear e4 e3 e2 e1
   go_wp2_with fail
   rw [E.out.1,E.out.2.1,E.out.2.2.1,E.out.2.2.2]
   have hb1:=HO.out.1
   have hql:q j<wr.heap.size:=by omega
   have hne:b≠q j:=fun e=>hqj.2.2 e.symm
   refine (zFe (q j) (N j) (C j) (K+4) _ ((((hTj.store hne).store hne).store hne).store hne) (by simp only [World.size_setCell];exact hql) hNj (by omega)).mono ?_
   rintro e w5 ⟨rfl,hG5,hT5,hP5⟩
   have hTb5:zD w5 b (n * 7):=(((((HO.out.2.1.set _ _).set _ _).set _ _).set _ _).grown hG5 hne)
   have HG5:=(show Hid _ from hG5)
   have HT5:Hid (zD w5 (q j) (N j * 2)):=hT5
   have HP5:Hid (zK w5 (q j) 0 (N j) (mkX (K+4)) (mkY (K+4))):=hP5
   have HTb5:Hid (zD w5 b (n * 7)):=hTb5
   clear hG5 hT5 hP5 hTb5 t0 t1 t2 t3 f0 f1 f2 f3 hcj
   have hkt:0<K+4+2 * N j:=by omega
   go_wp2_with fail
   refine (zIu (K+4+2 * N j) w5 hkt (by omega)).mono ?_
   rintro e w6 ⟨rfl,hb6⟩
   have hT6:=HTb5.out.below hb6
   have t5:=hT6.cell (j * 7+5) (by omega)
   have t6:=hT6.cell (j * 7+6) (by omega)
   have f5:=(hT6 (j * 7+5) (by omega)).2
   have f6:=(hT6 (j * 7+6) (by omega)).2
   have HB6:Hid (Bw w5 w6):=hb6
   clear hT6 hb6
   have hKb2:((K+4+2 * N j:Nat):Int)≤5000002300000000000:=by omega
   have hKb0:(0:Int)≤((K+4+2 * N j:Nat):Int):=by omega
   have HKE:Hid (((K+4+2 * N j:Nat):Int)+1=((K+5+2 * N j:Nat):Int)∧((K+4+2 * N j:Nat):Int)+1+1=((K+6+2 * N j:Nat):Int)):=⟨by omega,by omega⟩
   have HM2:Hid (∀ m:Nat,m=K+4+2 * N j→m=K+4+2 * N j):=fun _ h=>h
   obtain ⟨M,hMd⟩:∃ M:Nat,M=K+4+2 * N j:=⟨_,rfl⟩
   have HMD:Hid (M=K+4+2 * N j):=hMd
   rw [← hMd] at hKb2 hKb0 ⊢
   clear hMd
   go_wp2
   go_roundw
   case rel =>
    have hMd:=HMD.out
    subst hMd
    have hst:=zPr HO.out HLT.out HG5.out HT5.out HP5.out HB6.out HF.out HK.out.symm
    rw [← HKE.out.1] at hst
    obtain ⟨s1,s2,s3⟩:=hst
    refine ⟨j+1,K+6+2 * N j,by have:=HLT.out;omega,by show _=_;rw [kS,← HK.out],by congr 1;omega,by go_num,s1,HM.out.trans s2,s3⟩
   case measure=>have:=HLT.out;simp [intOf];omega
  ·go_wp2
   go_ret
   have hjn:j=n:=by omega
   subst hjn
   exact ⟨zE (by have:=HK.out;omega),hO,hM,hF⟩
end Go.Proofs.YtpaiholildedcaaGreat
namespace Go.Proofs.YtpaiholildedcaaGreat
open Go.RowKit Go.Sort Go.Shelf
def cmpL (f g:zS):Int:=orI (zH3 f.pr g.pr) (zH3 f.id g.id)
theorem zCx (f g:zS)(w:World):Calls Tryz.prog 158 #[.agg (yO f).toArray,.agg (yO g).toArray] w fun e w'=>e=.returned (.int .i64 (cmpL f g))∧Gro w w':=by
 unfold cmpL
 generalize hA:zH3 f.pr g.pr=A
 generalize hB:zH3 f.id g.id=B
 have H1:Hid (∀ W,Calls Tryz.prog 201 #[.int .i64 f.pr,.int .i64 g.pr] W fun e w'=>e=.returned (.int .i64 A)∧w'=W):=fun W=>by subst hA;exact xZ _ _ _
 have H2:Hid (∀ W,Calls Tryz.prog 201 #[.int .i64 f.id,.int .i64 g.id] W fun e w'=>e=.returned (.int .i64 B)∧w'=W):=fun W=>by subst hB;exact xZ _ _ _
 clear hA hB
 unfold yO
 go_enter Tryz.func158,Tryz.ntmps158
 go_wp2_with fail
 generalize hV:((w.alloc _).alloc _:World)=V
 have hB0:Gro w V:=by subst hV;exact ((Gro.refl _).alloc _).alloc _
 have c0:∀ W',Gro V W'→W'.cell? ⟨w.heap.size,0,none⟩=some (.int .i64 f.id):=fun W' h=>by
  rw [h.1.cell (by subst hV;simp <;> omega)];subst hV;simp [go_sem]
 have c1:∀ W',Gro V W'→W'.cell? ⟨w.heap.size,6,none⟩=some (.int .i64 f.pr):=fun W' h=>by
  rw [h.1.cell (by subst hV;simp <;> omega)];subst hV;simp [go_sem]
 have d0:∀ W',Gro V W'→W'.cell? ⟨w.heap.size+1,0,none⟩=some (.int .i64 g.id):=fun W' h=>by
  rw [h.1.cell (by subst hV;simp <;> omega)];subst hV;simp [go_sem]
 have d1:∀ W',Gro V W'→W'.cell? ⟨w.heap.size+1,6,none⟩=some (.int .i64 g.pr):=fun W' h=>by
  rw [h.1.cell (by subst hV;simp <;> omega)];subst hV;simp [go_sem]
 clear hV
 refine wp_region_noPanic ?_
 refine wp_region_held_drew (S:=fun W'=>Gro V W') (by kernel_rfl) ((Gro.refl V).drew) (fun hHeld=>?_)
 have hBd:Gro V V.drew:=hHeld
 refine zC (i:=0) (d:=some 5) rfl rfl ?_
 try simp only [Act.put,Qx,Qy,Qz]
 refine zC (i:=1) (d:=some 6) rfl rfl ?_
 try simp only [Act.put,Qx,Qy,Qz]
 refine zC (i:=2) (d:=some 7) rfl rfl ?_
 try simp only [Act.put,Qx,Qy,Qz]
 refine zC (i:=3) (d:=some 8) rfl rfl ?_
 try simp only [Act.put,Qx,Qy,Qz]
 refine zC (i:=5) (d:=some 10) rfl rfl ?_
 try simp only [Act.put,Qx,Qy,Qz]
 refine zC (i:=6) (d:=some 11) rfl rfl ?_
 try simp only [Act.put,Qx,Qy,Qz]
 refine zC (i:=7) (d:=some 12) rfl rfl ?_
 try simp only [Act.put,Qx,Qy,Qz]
 refine zC (i:=8) (d:=some 13) rfl rfl ?_
 try simp only [Act.put,Qx,Qy,Qz]
 refine zN 4 fun K hK=>?_
 go_simp
 refine (H1.out _).mono ?_
 rintro e w4 ⟨rfl,rfl⟩
 go_wp2_with fail
 refine hK.out _ _ hBd (fun hHeld=>?_)
 clear hK K
 try simp only [Act.put,Qx,Qy,Qz]
 refine zN 9 fun K hK=>?_
 go_simp
 refine (H2.out _).mono ?_
 rintro e w9 ⟨rfl,rfl⟩
 go_wp2_with fail
 refine hK.out _ _ hBd (fun hHeld=>?_)
 clear hK K
 try simp only [Act.put,Qx,Qy,Qz]
 refine zN 10 fun K hK=>?_
 go_simp
 generalize hw9:(World.alloc _ _:World)=w9
 have hb9:Gro V w9:=by subst hw9;exact (Gro.refl _).alloc _
 have g0:w9.cell? ⟨V.heap.size,0,none⟩=some (.int .i64 A):=by subst hw9;simp [go_sem]
 have g1:w9.cell? ⟨V.heap.size,1,none⟩=some (.int .i64 B):=by subst hw9;simp [go_sem]
 have hB9:Gro V w9.drew:=hb9.drew
 replace g0:w9.drew.cell? ⟨V.heap.size,0,none⟩=some (.int .i64 A):=g0
 replace g1:w9.drew.cell? ⟨V.heap.size,1,none⟩=some (.int .i64 B):=g1
 clear hw9
 refine hK.out _ _ hB9 (fun hHeld=>?_)
 clear hK K
 try simp only [Act.put,Qx,Qy,Qz]
 refine zN 11 fun K hK=>?_
 go_simp
 refine (zJt _ _ A B _ g0 g1).mono ?_
 rintro e w11 ⟨rfl,rfl⟩
 go_wp2_with fail
 refine hK.out _ _ hB9 (fun hHeld=>?_)
 clear hK K
 try simp only [Act.put,Qx,Qy,Qz]
 refine zC (i:=12) (d:=some 4) rfl rfl ?_
 try simp only [Act.put,Qx,Qy,Qz]
 refine wpAnyH_done (by kernel_rfl) ?_ _
 refine NoPanic.normal ?_
 go_wp2_with fail
 go_ret
 exact ⟨rfl,hB0.trans hB9⟩
theorem zCy (f g:zS)(w:World):Calls Tryz.prog 158 #[.agg (yO f).toArray,.agg (yO g).toArray] w fun e w'=>e=.returned (.int .i64 (cmpL f g))∧∃ q os',w'=grow (w.drewN q) os' :=
 (zCx f g w).mono fun e w' ⟨he,hg⟩=>⟨he,hg.grow⟩
theorem zG7 (H:Nat→zS)(i j:Nat):ltOf (fun i j=>cmpL (H i) (H j)) i j=ltK (fun i=>(H i).pr) (fun i=>(H i).id) i j:=by
 show decide (orI (zH3 (H i).pr (H j).pr) (zH3 (H i).id (H j).id)<0)=(decide ((H i).pr<(H j).pr) || (decide ((H i).pr=(H j).pr) && decide ((H i).id<(H j).id)))
 unfold orI
 by_cases h:zH3 (H i).pr (H j).pr=0
 ·rw [if_pos h]
  have h':=(zJu _ _).1 h
  simp [zQt,h']
 ·rw [if_neg h]
  have h':(H i).pr≠(H j).pr:=fun e=>h ((zJu _ _).2 e)
  simp [zQt,h']
theorem zRj (H:Nat→zS):SWO (ltOf (fun i j=>cmpL (H i) (H j))) where
 irrefl x:=by rw [zG7,zL3];omega
 trans x y z h1 h2:=by rw [zG7,zD5] at *;omega
 ntrans x y z h1 h2:=by rw [zG7,zL3] at *;omega
theorem zQs (H:Nat→zS)(blk off size:Nat)(w:World):CmpLays Tryz.prog 158 #[] (fun i=>yO (H i)) 7 (fun i j=>cmpL (H i) (H j)) blk off size w :=
 fun _ _ _ _ x y=>zCy (H x) (H y) _
theorem zO5 (n base:Nat)(v:Value)(H:Nat→zS)(w:World)(hR:yG base w v H (List.range n))(hn:n≤1048576) :
  Calls Tryz.prog 157 #[v,.func (.func 158) #[] #[]] w fun e w'=>e=.returned (.tuple #[]) ∧
   ((n=0∧w'=w)∨∃ (g c:Nat) (l:List Nat),v=.slice (some ⟨g,0,none⟩) n c∧base≤g∧g<w.heap.size∧l.Perm (List.range n)∧l.Pairwise (fun a b=>ltK (fun i=>(H i).pr) (fun i=>(H i).id) b a=false)∧w.grownBy w' (some g)∧zD w' g (n * 7) ∧
    ∀ i,i<n→yJ w' g (i * 7) (H (l.getD i 0)).id (H (l.getD i 0)).la (H (l.getD i 0)).ki (H (l.getD i 0)).wi (.slice (H (l.getD i 0)).a (H (l.getD i 0)).n (H (l.getD i 0)).cap) (H (l.getD i 0)).lab (H (l.getD i 0)).pr):=by
 rcases hR.at with ⟨hv,hl⟩ | ⟨g,c,hv,hg,hgl,hc,hT,hF⟩
 ·have hn0:n=0:=by simpa using congrArg List.length hl
  subst hv
  have hcon:=AnyF.slices_SortFunc_none Tryz.sortF none 0 (.func (.func 158) #[] #[]) w
  exact hcon.mono fun e w' ⟨he,hw⟩=>⟨he,.inl ⟨hn0,hw⟩⟩
 ·rw [List.length_range] at hv hc hT
  have eg:∀ args w,(callFunc 158 args).run Tryz.prog w=.ok (.enter 158 args) w:=enters_of Tryz.func158 (by kernel_rfl) rfl
  have hH:=holds_F hR hv
  have hcon:=AnyQ.slices_SortFunc Tryz.sortF 7 Tryz.isAgg209 Tryz.sizeOf209 (fun i=>yO (H i)) (fun _=>rfl) (fun i=>uU (H i)) (fun i j=>cmpL (H i) (H j)) (zRj H) 158 #[] g 0 c (Array.range n) w eg (zQs H g 0 _ w) hH hgl (by rw [Array.size_range];omega)
  rw [Array.size_range] at hcon
  subst hv
  refine Calls.mono (show Calls Tryz.prog 157 _ _ _ from hcon) ?_
  rintro e w' ⟨he,d',m,os,hp,hs,rfl⟩
  obtain ⟨hp1,hp2,hp3⟩:=hp
  rw [Array.size_range] at hp1
  have hH':=holdsK_sortWorldK_c (fun i=>yO (H i)) 7 w g 0 (Array.range n) d' m os hH hgl (by rw [hp1,Array.size_range])
  have hget:∀ i,i<n→d'[i]! = d'.toList.getD i 0:=fun i hi=>by
   rw [List.getD_eq_getElem?_getD,Array.getElem?_toList,getElem!_pos d' i (by omega),Array.getElem?_eq_getElem (by omega)]
   rfl
  refine ⟨he,.inr ⟨g,c,d'.toList,rfl,hg,hgl,?_,?_,zLf _ _ _ _ _ _ _ _,?_,fun i hi=>?_⟩⟩
  ·have h3:d'.extract 0 n=d':=by rw [← hp1];exact Array.extract_size
   have h4:(Array.range n).extract 0 n=Array.range n:=by
    have:=Array.extract_size (xs:=Array.range n)
    rw [Array.size_range] at this
    exact this
   rw [h3,h4] at hp3
   simpa using hp3
  ·rw [List.pairwise_iff_getElem]
   intro i j hi hj hij
   have hi':i<d'.size:=by simpa using hi
   have hj':j<d'.size:=by simpa using hj
   have:=hs i j (Nat.zero_le _) hij (by omega)
   rw [zG7,getElem!_pos d' i hi',getElem!_pos d' j hj'] at this
   simpa using this
  ·have:=there_F hH'
   rw [hp1] at this
   exact this
  ·have:=at_F hH' (i:=i) (by omega)
   rw [hget i hi] at this
   exact this
end Go.Proofs.YtpaiholildedcaaGreat
namespace Go.Proofs.YtpaiholildedcaaGreat
open Go.RowKit


def zY (n:Nat)(G:Nat→zS):List Nat:=zJ7 (fun i=>(G i).pr) (fun i=>(G i).id) n
theorem srtL_lt (n:Nat)(G:Nat→zS)(i:Nat)(hi:i<n):(zY n G).getD i 0<n:=by
 have hl:(zY n G).length=n:=zB3 _ _ n
 refine (uX (fun i=>(G i).pr) (fun i=>(G i).id) n _).1 ?_
 rw [List.getD_eq_getElem?_getD,List.getElem?_eq_getElem (by rw [hl];exact hi)]
 exact List.getElem_mem _
def ltL (f g:zS):Bool:=decide (f.pr<g.pr) || (decide (f.pr=g.pr) && decide (f.id<g.id))
theorem zHe (p o p' o':Nat)(f g:zS)(w:World)(h0:w.cell? ⟨p,o,none⟩=some (.int .i64 f.id))(h1:w.cell? ⟨p,o+6,none⟩=some (.int .i64 f.pr))(k0:w.cell? ⟨p',o',none⟩=some (.int .i64 g.id))(k1:w.cell? ⟨p',o'+6,none⟩=some (.int .i64 g.pr)) :
  Calls Tryz.prog 195 #[.pointer (some ⟨p,o,none⟩),.pointer (some ⟨p',o',none⟩)] w fun e w'=>e=.returned (.bool (ltL f g))∧Bw w w':=by
 by_cases hx:f.pr<g.pr
 ·have HU:Hid (ltL f g=true):=by show _=_;simp [ltL,hx]
  go_enter Tryz.func195,Tryz.ntmps195
  go_wp2_with fail
  go_region
  go_wp2
  go_ret
  exact ⟨zF HU.out.symm,Qb⟩
 ·have hx':decide (f.pr<g.pr)=false:=by simpa using hx
  by_cases hy:f.pr=g.pr
  ·have hy':(f.pr == g.pr)=true:=by simpa using hy
   by_cases hz:f.id<g.id
   ·have HU:Hid (ltL f g=true):=by show _=_;simp [ltL,hy,hz]
    clear hy hx
    go_enter Tryz.func195,Tryz.ntmps195
    go_wp2_with fail
    go_region
    go_wp2
    go_ret
    exact ⟨zF HU.out.symm,Qb⟩
   ·have hz':decide (f.id<g.id)=false:=by simpa using hz
    have HU:Hid (ltL f g=false):=by show _=_;simp [ltL,hx];omega
    clear hy hx hz
    go_enter Tryz.func195,Tryz.ntmps195
    go_wp2_with fail
    go_region
    go_wp2
    go_ret
    exact ⟨zF HU.out.symm,Qb⟩
  ·have hy':(f.pr == g.pr)=false:=by simpa using hy
   have HU:Hid (ltL f g=false):=by show _=_;simp [ltL,hx,hy]
   clear hy hx
   go_enter Tryz.func195,Tryz.ntmps195
   go_wp2_with fail
   go_region
   go_wp2
   go_ret
   exact ⟨zF HU.out.symm,Qb⟩
theorem zK9 (b n cap:Nat)(G:Nat→zS)(w:World)(hg:vY w b 0 n G)(hbl:b<w.heap.size)(hn:n≤1000) :
  Calls Tryz.prog 151 #[.slice (some ⟨b,0,none⟩) n cap] w fun e w'=>∃ g c,e=.returned (.slice (some ⟨g,0,none⟩) n c)∧yG w.heap.size w' (.slice (some ⟨g,0,none⟩) n c) G (zY n G)∧Bw w w':=by
 obtain ⟨i0,hi,hz0,hz1,hz2⟩:=info_parts zEh
 have HG:Hid (vY w b 0 n G):=hg
 clear hg
 go_enter Tryz.func151,Tryz.ntmps151
 go_wp2_with fail
 generalize hW:(w.alloc _:World)=W
 have HB0:Hid (Bw w W):=by show Below _ _ _;subst hW;exact Qb
 have HO0:Hid (yG w.heap.size W (.slice (some ⟨w.heap.size,0,none⟩) 0 0) G []):=by
  show yG _ _ _ _ _
  subst hW
  exact World.ownsRow_lit (base:=w.heap.size) w #[] 0 (Nat.le_refl _) (Nat.zero_le _) rfl
 clear hW
 go_loopw [3,4] (fun v i wr=>∃ (k:Nat),k≤n∧i=.int .i64 (k:Int)∧(∃ g c,v=.slice (some ⟨g,0,none⟩) k c)∧yG w.heap.size wr v G (zY k G)∧Bw w wr) (fun _ i _=>n - (intOf i).toNat)
 case atStart=>exact ⟨0,by omega,rfl,⟨_,_,rfl⟩,HO0.out,HB0.out⟩
 case round =>
  obtain ⟨k,hk,rfl,⟨g,c,rfl⟩,hO,hB⟩:=hrel
  by_cases hlt:k<n
  ·have hblr:b<wr.heap.size:=Nat.lt_of_lt_of_le hbl hB.size
   have HGr:Hid (vY wr b 0 n G):=HG.out.below hB hbl
   have HO:Hid (yG w.heap.size wr (.slice (some ⟨g,0,none⟩) k c) G (zY k G)):=hO
   have HB:Hid (Bw w wr):=hB
   have HLT:Hid (k<n):=hlt
   have hlen:(zY k G).length=k:=zB3 _ _ _
   have HAT:Hid (∀ i,i<k→yJ wr g (i * 7) (G ((zY k G).getD i 0)).id (G ((zY k G).getD i 0)).la (G ((zY k G).getD i 0)).ki (G ((zY k G).getD i 0)).wi (.slice (G ((zY k G).getD i 0)).a (G ((zY k G).getD i 0)).n (G ((zY k G).getD i 0)).cap) (G ((zY k G).getD i 0)).lab (G ((zY k G).getD i 0)).pr):=by
    show ∀ i,i<k→_
    rcases hO.at with ⟨hv,hl⟩ | ⟨g',c',hv,_,_,_,_,hF⟩
    ·cases hv
    ·injection hv with e1 e2 e3
     injection e1 with e1
     injection e1 with e1
     subst e1
     intro i hi
     exact hF i (by rw [hlen];exact hi)
   have hgw:g<wr.heap.size:=by
    rcases hO.at with ⟨hv,hl⟩ | ⟨g',c',hv,_,hgl,_⟩
    ·cases hv
    ·injection hv with e1 e2 e3
     injection e1 with e1
     injection e1 with e1
     omega
   clear hO hB
   have hi':(k:Int)<(n:Int):=by omega
   have hi0:(0:Int)≤(k:Int):=by omega
   generalize wr=wA at *
   go_upto_block 2 with fail
   go_cut [5] (fun v wc=>∃ t:Nat,t≤k∧v=.int .i64 (t:Int)∧(∀ j,j<t→ltK (fun i=>(G i).pr) (fun i=>(G i).id) ((zY k G).getD j 0) k=true)∧(t=k∨ltK (fun i=>(G i).pr) (fun i=>(G i).id) ((zY k G).getD t 0) k=false)∧Bw wA wc)
   case first =>
    go_wp2_with fail
    go_loopw [5] (fun v wr=>∃ t:Nat,t≤k∧v=.int .i64 (t:Int)∧(∀ j,j<t→ltK (fun i=>(G i).pr) (fun i=>(G i).id) ((zY k G).getD j 0) k=true)∧Bw wA wr) (fun v _=>k - (intOf v).toNat)
    case atStart=>exact ⟨0,by omega,rfl,fun j hj=>by omega,Below.refl _ _⟩
    case round =>
     obtain ⟨t,ht,rfl,hA,hBt⟩:=hrel
     have HA:Hid (∀ j,j<t→ltK (fun i=>(G i).pr) (fun i=>(G i).id) ((zY k G).getD j 0) k=true):=hA
     have HBt:Hid (Bw wA wr):=hBt
     clear hA
     have hgr:g<wr.heap.size:=Nat.lt_of_lt_of_le hgw hBt.size
     by_cases htk:t<k
     ·have ht':(t:Int)<(k:Int):=by omega
      have ht0:(0:Int)≤(t:Int):=by omega
      have HL:Hid (∀ W',Bw wr W'→Calls Tryz.prog 195 #[.pointer (some ⟨g,t * 7,none⟩),.pointer (some ⟨b,k * 7,none⟩)] W' fun e w'=>e=.returned (.bool (ltK (fun i=>(G i).pr) (fun i=>(G i).id) ((zY k G).getD t 0) k))∧Below W'.heap.size W' w'):=fun W' h=>by
       have hb':Bw wA W':=zA HBt.out h
       obtain ⟨a0,_,_,_,_,_,a1⟩:=(HAT.out t htk).below hb' hgw
       obtain ⟨b0,_,_,_,_,_,b1⟩:=(HGr.out.below hb' hblr k HLT.out).1
       rw [Nat.zero_add] at b0 b1
       have:=zHe g (t * 7) b (k * 7) (G ((zY k G).getD t 0)) (G k) W' a0 a1 b0 b1
       unfold ltL at this
       exact this
      cases hq:ltK (fun i=>(G i).pr) (fun i=>(G i).id) ((zY k G).getD t 0) k
      ·rw [hq] at HL
       have HQ:=(show Hid _ from hq)
       clear hBt hq
       go_wp2_with fail
       go_region_held3 (fun W'=>Bw wr W') ((repeat (first|exact Qr _ _|assumption|refine Qd ?_|refine Qa ?_ _|refine Qt ?_|refine Qs ?_ _|refine Qo ?_ ?_ _ _)))
        (first | (go_at_call 195;refine (HL.out _ (by assumption)).mono ?_;rintro e w' ⟨rfl,hb⟩) | fail)
       go_wp2_with fail
       go_meet
       case rel=>exact ⟨t,ht,rfl,HA.out,.inr HQ.out,zA HBt.out (by assumption)⟩
      ·rw [hq] at HL
       have HQ:=(show Hid _ from hq)
       clear hBt hq
       go_wp2_with fail
       go_region_held3 (fun W'=>Bw wr W') ((repeat (first|exact Qr _ _|assumption|refine Qd ?_|refine Qa ?_ _|refine Qt ?_|refine Qs ?_ _|refine Qo ?_ ?_ _ _)))
        (first | (go_at_call 195;refine (HL.out _ (by assumption)).mono ?_;rintro e w' ⟨rfl,hb⟩) | fail)
       go_wp2_with fail
       go_roundw
       case rel=>exact ⟨t+1,by omega,by go_num,fun j hj=>by
         by_cases e:j=t
         ·rw [e];exact HQ.out
         ·exact HA.out j (by omega),zA HBt.out (by assumption)⟩
       case measure=>simp [intOf];omega
     ·have htk':t=k:=by omega
      subst htk'
      have hno:decide ((t:Int)<(t:Int))=false:=by simp
      clear hBt
      go_wp2_with fail
      go_region
      go_wp2_with fail
      go_meet
      case rel=>exact ⟨t,ht,rfl,HA.out,.inl rfl,by have HB1:=HBt.out;exact Qb⟩
   case rest =>
    obtain ⟨t,ht,rfl,hA,hE,hBc⟩:=hcut
    have HINS:Hid (zY (k+1) G=(zY k G).take t ++ k :: (zY k G).drop t):=by
     show zJ7 _ _ (k+1)=_
     rw [zJ7]
     have hlen':(zJ7 (fun i=>(G i).pr) (fun i=>(G i).id) k).length=k:=hlen
     exact zP5 _ _ k _ t (by rw [hlen'];exact ht) hA (by rw [hlen'];exact hE)
    have HBc:Hid (Bw wA wc):=hBc
    have HOc:Hid (yG w.heap.size wc (.slice (some ⟨g,0,none⟩) k c) G (zY k G)):=HO.out.below hBc
    have hgc:g<wc.heap.size:=Nat.lt_of_lt_of_le hgw hBc.size
    have hkc:k≤c:=by
     rcases HO.out.at with ⟨hv,hl⟩ | ⟨g',c',hv,_,_,hc',_⟩
     ·cases hv
     ·injection hv with e1 e2 e3
      omega
    have hwc:w.heap.size≤wc.heap.size:=Nat.le_trans HB.out.size hBc.size
    have hblc:b<wc.heap.size:=Nat.lt_of_lt_of_le hbl hwc
    clear hA hE hBc HO HAT
    have htc:(t:Int)≤(c:Int):=by omega
    have ht0:(0:Int)≤(t:Int):=by omega
    have htk:(t:Int)≤(k:Int):=by omega
    have hlt1:((zY k G).take t).length=t:=by rw [List.length_take,hlen];omega
    go_wp2_with (first
     | (at_builtin;go_must (refine wpList_append_own _ rfl _ _ 137 rfl wc.heap.size 209 i0 (.agg #[.int .i64 0,.int .i64 0,.int .i64 0,.int .i64 0,.slice none 0 0,.string ⟨#[]⟩,.int .i64 0]) 7 80 Tryz.underlying137 hi hz0 hz1 hz2 rfl (by decide) (.slice (some ⟨wc.heap.size,0,none⟩) 0 0) 0 [] rfl (World.ownsRow_lit (base:=wc.heap.size) wc #[] 0 (Nat.le_refl _) (Nat.zero_le _) rfl) ⟨g,0,none⟩ t c (zR G ((zY k G).take t)) rfl ?c0 ?c1 ?c2 ?c3 ?c4 ?c5 ?_)))
    case c0=>rw [xU,hlt1]
    case c1 =>
     intro q u hq
     have h1:(zR G (zY k G))[q]?=some u:=by
      have e:zY k G=(zY k G).take t ++ (zY k G).drop t:=(List.take_append_drop t _).symm
      rw [e,xW,List.getElem?_append_left (List.getElem?_eq_some_iff.1 hq).1]
      exact hq
     exact World.ownsRow.cells (HOc.out.below (by exact Qb:Below wc.heap.size wc (wc.alloc (.cells #[] 209)))) (g:=g) rfl q u h1
    case c2=>exact zEx _ _
    case c3=>unfold maxLen;omega
    case c4=>omega
    case c5=>simp
    intro v6 w3 hown6 hgrow6 hnil6
    have hnn:v6≠.slice none 0 0:=hnil6
    clear hnil6
    obtain ⟨g6,c6,hv6⟩:∃ g6 c6,v6=.slice (some ⟨g6,0,none⟩) t c6:=by
     obtain ⟨_,h2 | ⟨g',cp,cur,hv,_⟩⟩:=hown6
     ·exact absurd h2.1 hnn
     ·exact ⟨g',cp,by rw [hv]⟩
    subst hv6
    have hL3:yG wc.heap.size w3 (.slice (some ⟨g6,0,none⟩) t c6) G ((zY k G).take t):=by
     unfold yG
     rw [hlt1]
     simpa using hown6
    have hB3:Bw wc w3:=((Below.refl _ _).alloc (Nat.le_refl _) _).trans ((Below.refl _ _).grown hgrow6 (by simp) (fun k hk=>by simp [Value.ownBlock] at hk;omega))
    have HL3:Hid (yG wc.heap.size w3 (.slice (some ⟨g6,0,none⟩) t c6) G ((zY k G).take t)):=hL3
    have HB3:Hid (Bw wc w3):=hB3
    clear hown6 hgrow6 hnn hL3 hB3
    have cc:∀ W',Bw w W'→yJ W' b (k * 7) (G k).id (G k).la (G k).ki (G k).wi (.slice (G k).a (G k).n (G k).cap) (G k).lab (G k).pr:=fun W' h=>by
     have:=(HG.out.below h hbl k HLT.out).1
     rw [Nat.zero_add] at this
     exact this
    have q0:∀ W',Bw w W'→W'.cell? ⟨b,k * 7,none⟩=some (.int .i64 (G k).id):=fun W' h=>(cc W' h).1
    have q1:∀ W',Bw w W'→W'.cell? ⟨b,k * 7+1,none⟩=some (.int .i64 (G k).la):=fun W' h=>(cc W' h).2.1
    have q2:∀ W',Bw w W'→W'.cell? ⟨b,k * 7+2,none⟩=some (.int .i64 (G k).ki):=fun W' h=>(cc W' h).2.2.1
    have q3:∀ W',Bw w W'→W'.cell? ⟨b,k * 7+3,none⟩=some (.int .i64 (G k).wi):=fun W' h=>(cc W' h).2.2.2.1
    have q4:∀ W',Bw w W'→W'.cell? ⟨b,k * 7+4,none⟩=some (.slice (G k).a (G k).n (G k).cap):=fun W' h=>(cc W' h).2.2.2.2.1
    have q5:∀ W',Bw w W'→W'.cell? ⟨b,k * 7+5,none⟩=some (.string (G k).lab):=fun W' h=>(cc W' h).2.2.2.2.2.1
    have q6:∀ W',Bw w W'→W'.cell? ⟨b,k * 7+6,none⟩=some (.int .i64 (G k).pr):=fun W' h=>(cc W' h).2.2.2.2.2.2
    clear cc
    have HBw3:Hid (Bw w w3):=(zA HB.out HBc.out).trans (HB3.out.mono hwc)
    obtain ⟨ad,had⟩:∃ ad:Addr,ad=if c=t then ⟨g,0,none⟩ else ⟨g,t * 7,none⟩:=⟨_,rfl⟩
    have HAD:=(show Hid _ from had)
    clear had
    go_wp2_with fail
    refine wp_region_noPanic ?_
    refine wp_region_held_drew (S:=fun W'=>Bw w W') (by kernel_rfl) (HBw3.out.drew) (fun hHeld=>?_)
    refine zC (i:=0) (d:=some 34) rfl rfl ?_
    try simp only [Act.put,Qx,Qy,Qz]
    refine zC (i:=1) (d:=some 35) rfl rfl ?_
    try simp only [Act.put,Qx,Qy,Qz]
    refine zC (i:=2) (d:=some 36) rfl rfl ?_
    try simp only [Act.put,Qx,Qy,Qz]
    refine zC (i:=3) (d:=some 37) rfl rfl ?_
    try simp only [Act.put,Qx,Qy,Qz]
    refine zC (i:=4) (d:=some 38) rfl rfl ?_
    try simp only [Act.put,Qx,Qy,Qz]
    refine zC (i:=7) (d:=some 41) rfl rfl ?_
    try simp only [Act.put,Qx,Qy,Qz]
    refine zC (i:=8) (d:=some 42) rfl rfl ?_
    try simp only [Act.put,Qx,Qy,Qz]
    refine takeD (i:=9) (d:=some 43) (v:=.slice (some ad) (k - t) (c - t)) rfl rfl (by kernel_rfl) (by kernel_rfl) (by kernel_rfl) (fun _ _ _ h=>h) (Or.inl ⟨by rfl,?hyt7⟩) (by assumption) ?_
    case hyt7 =>
     intro w hSw
     (try dsimp only at hSw)
     go_simp
     rw [HAD.out]
     split <;> rfl
    try simp only [Act.put,Qx,Qy,Qz]
    have hb5:Bw w3 w3.drew:=by have:=Below.refl w3.heap.size w3;exact Qb
    have hB5:Bw w w3.drew:=zA HBw3.out hb5
    have Hb5:Hid (Bw w3 w3.drew):=hb5
    have hL5:yG wc.heap.size w3.drew (.slice (some ⟨g6,0,none⟩) t c6) G ((zY k G).take t):=HL3.out.below hb5
    clear hb5
    generalize w3.drew=w5 at *
    refine zN 5 fun K hK=>?_
    go_simp
    generalize hw6:(World.alloc w5 _:World)=w6
    have hb6:Bw w5 w6:=by subst hw6;exact Qb
    have hnew:∀ q u,(yO (G k))[q]?=some u→w6.cell? ((⟨w5.heap.size,0,none⟩:Addr).add q)=some u:=fun q u hq=>by
     have hq7:q<7:=(List.getElem?_eq_some_iff.1 hq).1
     have hc:q=0∨q=1∨q=2∨q=3∨q=4∨q=5∨q=6:=by omega
     subst hw6
     rcases hc with rfl | rfl | rfl | rfl | rfl | rfl | rfl <;> (simp [yO] at hq;subst hq;simp [Addr.add,go_sem])
    have hl6:w5.heap.size<w6.heap.size:=by subst hw6;simp
    clear hw6
    have hB6:Bw w w6:=zA hB5 hb6
    refine hK.out _ _ hB6 (fun hHeld=>?_)
    clear hK K
    try simp only [Act.put,Qx,Qy,Qz]
    refine zN 6 fun K hK=>?_
    have hL6:yG wc.heap.size w6 (.slice (some ⟨g6,0,none⟩) t c6) G ((zY k G).take t):=hL5.below hb6
    have hg6:wc.heap.size≤g6:=by
     rcases hL6.at with ⟨hv,hl⟩ | ⟨g',c',hv,hg',_⟩
     ·cases hv
     ·injection hv with e1 e2 e3
      injection e1 with e1
      injection e1 with e1
      omega
    have hwc6:wc.heap.size≤w6.heap.size:=Nat.le_trans HB3.out.size (Nat.le_trans Hb5.out.size hb6.size)
    refine yS rfl (.tmp 34) (.tmp 39) 137 rfl wc.heap.size 209 i0 (.agg #[.int .i64 0,.int .i64 0,.int .i64 0,.int .i64 0,.slice none 0 0,.string ⟨#[]⟩,.int .i64 0]) 7 80 Tryz.underlying137 hi hz0 hz1 hz2 rfl (by decide) (.slice (some ⟨g6,0,none⟩) t c6) t (zR G ((zY k G).take t)) rfl (by have h:=hL6;unfold yG at h;rw [hlt1] at h;exact h) ⟨w5.heap.size,0,none⟩ 1 1 (yO (G k)) rfl rfl hnew (uU _) (by unfold maxLen;omega) (by omega) hwc6 ?_
    intro v7 w7 hown7 hgrow7 hnil7
    obtain ⟨g7,c7,hv7⟩:∃ g7 c7,v7=.slice (some ⟨g7,0,none⟩) (t+1) c7:=by
     obtain ⟨_,h2 | ⟨g',cp,cur,hv,_⟩⟩:=hown7
     ·have:=hnil7.1 h2.1;simp at this
     ·exact ⟨g',cp,hv⟩
    subst hv7
    have hmem:∀ j,j ∈ zY k G→j<k:=fun j hj=>(uX _ _ k j).1 hj
    have hL7:yG wc.heap.size w7 (.slice (some ⟨g7,0,none⟩) (t+1) c7) G ((zY k G).take t ++ [k]):=by
     unfold yG
     have e1:zR G ((zY k G).take t ++ [k])=zR G ((zY k G).take t) ++ yO (G k):=by rw [xW,zBc]
     rw [e1,List.length_append,hlt1]
     exact hown7
    have hO6:yG w.heap.size w6 (.slice (some ⟨g,0,none⟩) k c) G (zY k G):=((HOc.out.below HB3.out).below Hb5.out).below hb6
    have hO7:yG w.heap.size w7 (.slice (some ⟨g,0,none⟩) k c) G (zY k G):=World.ownsRow.kept hO6 hgrow7 (.inr (by simp [Value.ownBlock];omega))
    have hB7:Bw w w7:=hB6.grown hgrow7 hB6.size (fun q hq=>by simp [Value.ownBlock] at hq;omega)
    have hw7:wc.heap.size≤w7.heap.size:=Nat.le_trans hwc6 hgrow7.size
    have Hg7:Hid (w6.grownBy w7 (Value.slice (some ⟨g6,0,none⟩) t c6).ownBlock):=hgrow7
    refine hK.out _ _ hB7 (fun hHeld=>?_)
    clear hK K
    try simp only [Act.put,Qx,Qy,Qz]
    refine zN 10 fun K hK=>?_
    have hdl:((zY k G).drop t).length=k - t:=by rw [List.length_drop,hlen]
    refine yS rfl (.tmp 40) (.tmp 43) 137 rfl wc.heap.size 209 i0 (.agg #[.int .i64 0,.int .i64 0,.int .i64 0,.int .i64 0,.slice none 0 0,.string ⟨#[]⟩,.int .i64 0]) 7 80 Tryz.underlying137 hi hz0 hz1 hz2 rfl (by decide) (.slice (some ⟨g7,0,none⟩) (t+1) c7) (t+1) (zR G ((zY k G).take t) ++ yO (G k)) rfl hown7 ad (k - t) (c - t) (zR G ((zY k G).drop t)) rfl (by rw [xU,hdl]) ?hcl (zEx _ _) (by unfold maxLen;omega) (by omega) hw7 ?_
    case hcl =>
     intro j u hj
     by_cases hct:c=t
     ·have:(zR G ((zY k G).drop t)).length=0:=by rw [xU,hdl];omega
      have:=(List.getElem?_eq_some_iff.1 hj).1
      omega
     ·have h1:(zR G (zY k G))[t * 7+j]?=some u:=by
       have e:zY k G=(zY k G).take t ++ (zY k G).drop t:=(List.take_append_drop t _).symm
       rw [e,xW,List.getElem?_append_right (by rw [xU,hlt1];omega),xU,hlt1]
       rw [Nat.add_sub_cancel_left]
       exact hj
      have h2:=World.ownsRow.cells hO7 (g:=g) rfl (t * 7+j) u h1
      rw [addK,Nat.zero_add] at h2
      rw [HAD.out,if_neg hct,addK]
      exact h2
    intro v8 w8 hown8 hgrow8 hnil8
    obtain ⟨g8,c8,hv8⟩:∃ g8 c8,v8=.slice (some ⟨g8,0,none⟩) (k+1) c8:=by
     obtain ⟨_,h2 | ⟨g',cp,cur,hv,_⟩⟩:=hown8
     ·have:=hnil8.1 h2.1;simp at this
     ·exact ⟨g',cp,by rw [hv];congr 1;omega⟩
    subst hv8
    have HF8:Hid (yG w.heap.size w8 (.slice (some ⟨g8,0,none⟩) (k+1) c8) G (zY (k+1) G)):=by
     show yG _ _ _ _ _
     unfold yG
     have hl1:(zY (k+1) G).length=k+1:=zB3 _ _ _
     have e1:zR G (zY (k+1) G)=zR G ((zY k G).take t) ++ yO (G k) ++ zR G ((zY k G).drop t):=by rw [HINS.out,xW,xV,List.append_assoc]
     rw [e1,hl1]
     have e2:t+1+(k - t)=k+1:=by omega
     rw [e2] at hown8
     obtain ⟨y1,y2 | ⟨y3,y4,y5,y6,y7,y8⟩⟩:=hown8
     ·exact ⟨y1,.inl y2⟩
     ·exact ⟨y1,.inr ⟨y3,y4,y5,y6,by omega,y8⟩⟩
    have hg7:wc.heap.size≤g7:=by
     rcases hL7.at with ⟨hv,hl⟩ | ⟨g',c',hv,hg',_⟩
     ·cases hv
     ·injection hv with e1 e2 e3
      injection e1 with e1
      injection e1 with e1
      omega
    have hB8:Bw w w8:=hB7.grown hgrow8 hB7.size (fun q hq=>by simp [Value.ownBlock] at hq;omega)
    have HB8:Hid (Bw w w8):=hB8
    refine hK.out _ _ hB8 (fun hHeld=>?_)
    clear hK K
    try simp only [Act.put,Qx,Qy,Qz]
    refine zC (i:=11) (d:=some 3) rfl rfl ?_
    try simp only [Act.put,Qx,Qy,Qz]
    refine wpAnyH_done (by kernel_rfl) ?_ _
    refine NoPanic.normal ?_
    clear hown7 hgrow7 hnil7 hown8 hgrow8 hnil8 hL5 hL6 hL7 hO6 hO7 hB5 hB6 hB7 hB8 hb6 hnew
    go_wp2_with fail
    go_roundw
    case rel=>exact ⟨k+1,by have:=HLT.out;omega,by go_num,⟨_,_,rfl⟩,HF8.out,HB8.out⟩
    case measure=>have:=HLT.out;simp [intOf];omega
  ·go_wp2
   go_ret
   have hkn:k=n:=by omega
   subst hkn
   exact ⟨g,c,rfl,hO,hB⟩
end Go.Proofs.YtpaiholildedcaaGreat
