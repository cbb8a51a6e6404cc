/- Texts. -/
import Derived.Test.YtkjbafcalamgnaaGreatVPanViewer20
import Derived.Test.YtkjbafcalamgnaaGreatVPanViewer21
import Derived.RangeFuncNested
import Derived.RangeFuncBound
import Derived.Shelf.RegionOpen
import Derived.OwnWalkIn
import Derived.LoopNIn
import Derived.LoopIn
set_option linter.unusedSimpArgs false
set_option linter.unusedVariables false
set_option maxRecDepth 100000
set_option maxHeartbeats 32000000
namespace Go.Proofs.YtkjbafcalamgnaaGreat
open Go.RowKit
def zSd (z cx cy:Int)(f:yB):Bool:=zAk f.ki f.wi z cx cy (vK f.X f.Y f.n)
def vP (C:Nat→Bool)(I:Nat→Int):Nat→Int
 | 0=>0
 | n+1=>if C n=true then I n else vP C I n
def yY (G:Nat→yB)(n:Nat)(z x y:Int):Int:=vP (fun i=>zSd z (yQ z x) (yQ z y) (G i)) (fun i=>(G i).id) n
theorem zRe {G:Nat→yB}{n:Nat}{z x y:Int}(h:zSd z (yQ z x) (yQ z y) (G n)=true):yY G (n+1) z x y=(G n).id:=by
 unfold yY;rw [vP,if_pos h]
theorem zTq {G:Nat→yB}{n:Nat}{z x y:Int}(h:zSd z (yQ z x) (yQ z y) (G n)=false):yY G (n+1) z x y=yY G n z x y:=by
 unfold yY;rw [vP,if_neg (by rw [h];simp)]
structure OkF (f:yB):Prop where
 kn:kindN f.ki f.n
 n0:0<f.n
 n12:f.n≤12
 inw:∀ i,i<f.n→inW (f.X i) (f.Y i)=true
 wid:0≤f.wi∧f.wi≤3
theorem okF_of {f:yB}(h:zM f.id f.la f.ki f.wi f.n f.X f.Y f.lab f.pr=0):OkF f:=by
 obtain ⟨hk,h0,h12,hkn,hin,_⟩:=zR5 h
 refine ⟨?_,h0,h12,hin,(zUj h).2.2.1⟩
 rcases hk with hk | hk | hk
 ·rw [hk] at h
  exact .inl ⟨hk,zPa h⟩
 ·exact .inr (.inl ⟨hk,by omega⟩)
 ·exact .inr (.inr ⟨hk,by omega⟩)
theorem zM5 {n:Nat}{G:Nat→yB}(h:yJ n G=0):n≤12∧∀ i,i<n→OkF (G i):=⟨(zEb h).1,fun i hi=>okF_of ((zEb h).2.2 i hi)⟩
theorem zAw.pts {w:World}{b off n i:Nat}{G:Nat→yB}(h:zAw w b off n G)(hi:i<n)(h0:0<(G i).n):∃ q o,(G i).a=some ⟨q,o,none⟩∧q<w.heap.size∧zL w q o (G i).n (G i).X (G i).Y:=by
 rcases (h i hi).2 with h' | ⟨q,o,e,hl,hp⟩
 ·omega
 ·exact ⟨q,o,e,hl,hp⟩
theorem zDx {w:World}{base:Nat}{t:TypeId}{s:Nat}{v:Value}{n:Nat}{l:List Value}(h:w.ownsRow base t s v (n+1) l):∃ a c,v=.slice a (n+1) c:=by
 obtain ⟨_,h2 | ⟨g,cp,cur,hv,_⟩⟩:=h
 ·exact absurd h2.2 (by omega)
 ·exact ⟨_,_,hv⟩
def zGl (G:Int→Int→Int)(x y:Int)(k:Nat):List Int:=(List.range k).map fun (k:Nat)=>G (x+((k % 8:Nat):Int)) (y+((k / 8:Nat):Int))
theorem rasK_64 (G:Int→Int→Int)(x y:Int):zDr G x y 8 8=zGl G x y 64:=rfl
theorem zVw (G:Int→Int→Int)(x y:Int)(k:Nat):zGl G x y (k+1)=zGl G x y k ++ [G (x+((k % 8:Nat):Int)) (y+((k / 8:Nat):Int))]:=by simp [zGl,List.range_succ]
theorem zKb (G:Int→Int→Int)(x y:Int)(k:Nat):(zGl G x y k).length=k:=by simp [zGl]
theorem zI2 {z x y:Int}(h:zCm z x y=true)(m q:Nat)(hm:m<8)(hq:q<8):zA8 z (x * 8+(m:Int)) (y * 8+(q:Int))=true:=by
 have hz:xK z=true:=by simp [zCm] at h;exact h.1
 unfold zCm at h
 rcases yC hz with rfl | rfl | rfl | rfl <;> simp [inB,zAn] at h <;> simp [zA8,inB,vO,hz] <;> omega
theorem zKp (b n cap:Nat)(G:Nat→yB)(z x y:Int)(w:World)(hg:zAw w b 0 n G)(hbl:b<w.heap.size)(hn:n≤12)(hok:∀ i,i<n→OkF (G i))(hpx:zA8 z x y=true) :
  Calls Tryz.prog 155 #[.slice (some ⟨b,0,none⟩) n cap,.int .i64 z,.int .i64 x,.int .i64 y] w fun e w'=>e=.returned (.int .i64 (yY G n z x y))∧Bw w w':=by
 have HG:Hid (zAw w b 0 n G):=hg
 have HOK:Hid (∀ i,i<n→OkF (G i)):=hok
 have HPX:Hid (zA8 z x y=true):=hpx
 clear hg hok hpx
 have hn0:IntKind.i64.wrap ((n:Int) - 1)=(n:Int) - 1:=IntWalk.i64_in _ (by omega)
 go_enter Tryz.func155,Tryz.ntmps155
 go_wp2_with fail
 go_loopw [9] (fun i wr=>∃ k:Nat,k≤n∧i=.int .i64 ((k:Int) - 1)∧yY G n z x y=yY G k z x y∧Bw w wr) (fun i _=>(intOf i+1).toNat)
 case atStart=>exact ⟨n,Nat.le_refl _,by first | rfl | rw [hn0],rfl,Below.refl _ _⟩
 case round =>
  obtain ⟨k,hk,hi,hE,hB⟩:=hrel
  cases k with
  | zero =>
   have HE:Hid (yY G n z x y=0):=hE
   clear hE
   subst hi
   go_wp2
   go_ret
   exact ⟨zD HE.out.symm,hB⟩
  | succ m =>
   have em:(((m+1:Nat):Int) - 1)=(m:Int):=by omega
   rw [em] at hi
   subst hi
   have HE:Hid (yY G n z x y=yY G (m+1) z x y):=hE
   have HB:Hid (Bw w wr):=hB
   have hlt:m<n:=by omega
   have hOK:=HOK.out m hlt
   have hGr:=HG.out.below hB hbl
   obtain ⟨q,o,ea,hql,hpt⟩:=hGr.pts hlt hOK.n0
   have hf:=(hGr m hlt).1
   rw [ea,Nat.zero_add] at hf
   have q0:=hf.1
   have sC:∀ W,Bw wr W→Calls Tryz.prog 191 #[.pointer (some ⟨b,m * 7,none⟩),.int .i64 z,.int .i64 x,.int .i64 y] W fun e w'=>e=.returned (.bool (zSd z (yQ z x) (yQ z y) (G m)))∧Bw W w':=fun W hW =>
    zMg b (m * 7) (G m).id (G m).la (G m).ki (G m).wi z x y q o (G m).n (G m).cap (G m).X (G m).Y (G m).lab (G m).pr W (hf.below hW (Nat.lt_of_lt_of_le hbl hB.size)) (hpt.below hW hql) (Nat.lt_of_lt_of_le hql hW.size) (by have:=hOK.n12;omega) hOK.kn hOK.inw hOK.wid HPX.out
   have SC:=(show Hid _ from sC)
   have hi1:(m:Int)<(n:Int):=by omega
   have hi0:(0:Int)≤(m:Int):=by omega
   have hm1:IntKind.i64.wrap ((m:Int) - 1)=(m:Int) - 1:=IntWalk.i64_in _ (by omega)
   clear hE hB hGr hf hpt sC
   cases hc:zSd z (yQ z x) (yQ z y) (G m)
   ·have HE2:Hid (yY G n z x y=yY G m z x y):=by show _=_;rw [HE.out,zTq hc]
    rw [hc] at SC
    clear hc q0
    go_wp2_with fail
    refine (SC.out _ (Below.refl _ _)).mono ?_
    rintro e w1 ⟨rfl,hb1⟩
    go_wp2_with fail
    exact ⟨⟨m,by omega,by first | rfl | rw [hm1],HE2.out,zA HB.out hb1⟩,by simp [intOf] <;> omega⟩
   ·have HE2:Hid (yY G n z x y=(G m).id):=by show _=_;rw [HE.out,zRe hc]
    rw [hc] at SC
    clear hc
    have HQ0:Hid (wr.cell? ⟨b,m * 7,none⟩=some (.int .i64 (G m).id)):=q0
    clear q0
    go_wp2_with fail
    refine (SC.out _ (Below.refl _ _)).mono ?_
    rintro e w1 ⟨rfl,hb1⟩
    have q1:w1.cell? ⟨b,m * 7,none⟩=some (.int .i64 (G m).id):=(hb1.cell (p:=⟨b,m * 7,none⟩) (World.block_lt_of_cell? _ _ HQ0.out)).trans HQ0.out
    go_wp2
    go_ret
    exact ⟨zD HE2.out.symm,zA HB.out hb1⟩
def zNq (w:World)(q:Nat)(z x y:Int)(v:Value):Prop:=w.cell? ⟨q,0,none⟩=some (.int .i64 z)∧w.cell? ⟨q,1,none⟩=some (.int .i64 x)∧w.cell? ⟨q,2,none⟩=some (.int .i64 y)∧w.cell? ⟨q,3,none⟩=some v
theorem zNq.below {w w':World}{q B:Nat}{z x y:Int}{v:Value}(h:zNq w q z x y v)(hb:Below B w w')(hq:q<B):zNq w' q z x y v :=
 ⟨(hb.cell (p:=⟨q,0,none⟩) hq).trans h.1,(hb.cell (p:=⟨q,1,none⟩) hq).trans h.2.1,(hb.cell (p:=⟨q,2,none⟩) hq).trans h.2.2.1,(hb.cell (p:=⟨q,3,none⟩) hq).trans h.2.2.2⟩
noncomputable def rtC (z x y:Int)(n:Nat)(G:Nat→yB):Int:=if zCy z x y=0 then (if yJ n G=0 then (if zH5 n G=true then 0 else 1) else yJ n G) else zCy z x y
noncomputable def rtL (z x y:Int)(n:Nat)(G:Nat→yB):List Int:=if rtC z x y n G=0 then zGl (yY G n z) (x * 8) (y * 8) 64 else []
theorem there2t (w:World)(x y:Value)(t:TypeId):zC (w.alloc (.cells #[x,y] t)) w.heap.size 2:=fun o ho=>by
 have:o=0∨o=1:=by omega
 rcases this with rfl | rfl <;> exact ⟨⟨_,by simp [go_sem];rfl⟩,by simp [go_sem]⟩
theorem set2t {W:World}{r:Nat}{a b:Value}(hT:zC W r 2) :
  ((W.setCell ⟨r,0,none⟩ a).setCell ⟨r,1,none⟩ b).cell? ⟨r,0,none⟩=some a∧((W.setCell ⟨r,0,none⟩ a).setCell ⟨r,1,none⟩ b).cell? ⟨r,1,none⟩=some b:=by
 obtain ⟨u0,h0⟩:=(hT 0 (by omega)).1
 obtain ⟨u1,h1⟩:=(hT 1 (by omega)).1
 have ne:∀ i j:Nat,i≠j→(⟨r,i,none⟩:Addr)≠⟨r,j,none⟩:=fun i j hij h=>hij (by injection h)
 refine ⟨?_,?_⟩
 ·rw [zB (ne 1 0 (by omega))];exact zE h0
 ·exact zE (by rw [zB (ne 0 1 (by omega))];exact h1)
theorem zL6 (w:World)(base:Nat):OwnN w base (.slice none 0 0) ([]:List Int).length (nz []):=⟨none,0,rfl,Nat.le_refl _,.inl rfl⟩
theorem zPv {z x y:Int}{n:Nat}{G:Nat→yB}(h:rtC z x y n G=0):zCm z x y=true∧yJ n G=0∧zH5 n G=true:=by
 unfold rtC at h
 rcases zAy z x y with ⟨hc,hr⟩ | ⟨hc,hr⟩
 ·rw [if_pos hc] at h
  by_cases hf:yJ n G=0
  ·rw [if_pos hf] at h
   cases ho:zH5 n G
   ·rw [ho] at h;simp at h
   ·exact ⟨hr,hf,rfl⟩
  ·rw [if_neg hf] at h;exact absurd h hf
 ·rw [hc] at h;simp at h
theorem zRi (lo hi b n cap k0:Nat)(N C q:Nat→Nat)(w:World)(hO:zBp w lo hi b n N C q)(hn:n≤1048576)(hN:∀ i,i<n→N i≤1048576)(h0:0<k0)(hk0:k0≤5000000000000000000) :
  Calls Tryz.prog 138 #[.slice (some ⟨b,0,none⟩) n cap,.int .i64 (k0:Int)] w fun e w'=>e=.returned (.int .i64 ((kS N k0 n:Nat):Int))∧zBp w' lo hi b n N C q∧zK lo hi w w'∧∀ i,i<n→zDg w' b (q i) i (N i) (C i) (kS N k0 i):=by
 have HO0:Hid (zBp w lo hi b n N C q):=hO
 have HN:Hid (∀ i,i<n→N i≤1048576):=hN
 clear hO hN
 go_enter Tryz.func138,Tryz.ntmps138
 go_wp2_with fail
 go_loopw [1,5] (fun kk i wr=>∃ j K:Nat,j≤n∧Hid (K=kS N k0 j)∧kk=.int .i64 (K:Int)∧i=.int .i64 (j:Int)∧zBp wr lo hi b n N C q∧zK lo hi w wr∧∀ i,i<j→zDg wr b (q i) i (N i) (C i) (kS N k0 i)) (fun _ i _=>n - (intOf i).toNat)
 case atStart=>exact ⟨0,k0,by omega,rfl,rfl,rfl,HO0.out,zK.refl _ _ _,fun i hi=>by omega⟩
 case round =>
  obtain ⟨j,K,hj,HK,rfl,rfl,hO,hM,hF⟩:=hrel
  by_cases hlt:j<n
  ·have hKb:K≤5000002200000000000:=by
    have:=HK.out
    have:=zWo N k0 n HN.out j (by omega)
    omega
   have hK0:0<K:=by
    have h1:=HK.out
    have h2:∀ i,k0≤kS N k0 i:=fun i=>by
     induction i with
     | zero=>exact Nat.le_refl _
     | succ i ih=>rw [kS];omega
    have:=h2 j
    omega
   have hNj:=HN.out j hlt
   obtain ⟨hqj,hTj,hcj⟩:=hO.2.2.1 j hlt
   have hT:=hO.2.1
   have t0:=hT.cell (j * 7) (by omega)
   have t1:=hT.cell (j * 7+1) (by omega)
   have t2:=hT.cell (j * 7+2) (by omega)
   have t3:=hT.cell (j * 7+3) (by omega)
   have f0:=(hT (j * 7) (by omega)).2
   have f1:=(hT (j * 7+1) (by omega)).2
   have f2:=(hT (j * 7+2) (by omega)).2
   have f3:=(hT (j * 7+3) (by omega)).2
   have HO:Hid (zBp wr lo hi b n N C q):=hO
   have HM:Hid (zK lo hi w wr):=hM
   have HF:Hid (∀ i,i<j→zDg wr b (q i) i (N i) (C i) (kS N k0 i)):=hF
   have HLT:Hid (j<n):=hlt
   clear hO hM hF hT
   have hi:(j:Int)<(n:Int):=by omega
   have hi0:(0:Int)≤(j:Int):=by omega
   have e4:(K:Int)+1+1+1+1=((K+4:Nat):Int):=by omega
   have e3:(K:Int)+1+1+1=((K+3:Nat):Int):=by omega
   have e2:(K:Int)+1+1=((K+2:Nat):Int):=by omega
   have e1:(K:Int)+1=((K+1:Nat):Int):=by omega
   have E:=(show Hid _ from (⟨e4,e3,e2,e1⟩:_∧_∧_∧_))
   clear e4 e3 e2 e1
   go_wp2_with fail
   rw [E.out.1,E.out.2.1,E.out.2.2.1,E.out.2.2.2]
   have hb1:=HO.out.1
   have hql:q j<wr.heap.size:=by omega
   have hne:b≠q j:=fun e=>hqj.2.2 e.symm
   refine (zH9 (q j) (N j) (C j) (K+4) _ ((((hTj.store hne).store hne).store hne).store hne) (by simp only [World.size_setCell];exact hql) hNj (by omega)).mono ?_
   rintro e w5 ⟨rfl,hG5,hT5,hP5⟩
   have hTb5:zC w5 b (n * 7):=(((((HO.out.2.1.set _ _).set _ _).set _ _).set _ _).grown hG5 hne)
   have HG5:=(show Hid _ from hG5)
   have HT5:Hid (zC w5 (q j) (N j * 2)):=hT5
   have HP5:Hid (zL w5 (q j) 0 (N j) (mkX (K+4)) (mkY (K+4))):=hP5
   have HTb5:Hid (zC w5 b (n * 7)):=hTb5
   clear hG5 hT5 hP5 hTb5 t0 t1 t2 t3 f0 f1 f2 f3 hcj
   have hkt:0<K+4+2 * N j:=by omega
   go_wp2_with fail
   refine (zE3 (K+4+2 * N j) w5 hkt (by omega)).mono ?_
   rintro e w6 ⟨rfl,hb6⟩
   have hT6:=HTb5.out.below hb6
   have t5:=hT6.cell (j * 7+5) (by omega)
   have t6:=hT6.cell (j * 7+6) (by omega)
   have f5:=(hT6 (j * 7+5) (by omega)).2
   have f6:=(hT6 (j * 7+6) (by omega)).2
   have HB6:Hid (Bw w5 w6):=hb6
   clear hT6 hb6
   have hKb2:((K+4+2 * N j:Nat):Int)≤5000002300000000000:=by omega
   have hKb0:(0:Int)≤((K+4+2 * N j:Nat):Int):=by omega
   have HKE:Hid (((K+4+2 * N j:Nat):Int)+1=((K+5+2 * N j:Nat):Int)∧((K+4+2 * N j:Nat):Int)+1+1=((K+6+2 * N j:Nat):Int)):=⟨by omega,by omega⟩
   have HM2:Hid (∀ m:Nat,m=K+4+2 * N j→m=K+4+2 * N j):=fun _ h=>h
   obtain ⟨M,hMd⟩:∃ M:Nat,M=K+4+2 * N j:=⟨_,rfl⟩
   have HMD:Hid (M=K+4+2 * N j):=hMd
   rw [← hMd] at hKb2 hKb0 ⊢
   clear hMd
   go_wp2
   go_roundw
   case rel =>
    have hMd:=HMD.out
    subst hMd
    have hst:=zTv HO.out HLT.out HG5.out HT5.out HP5.out HB6.out HF.out HK.out.symm
    rw [← HKE.out.1] at hst
    obtain ⟨s1,s2,s3⟩:=hst
    refine ⟨j+1,K+6+2 * N j,by have:=HLT.out;omega,by show _=_;rw [kS,← HK.out],by congr 1;omega,by go_num,s1,HM.out.trans s2,s3⟩
   case measure=>have:=HLT.out;simp [intOf];omega
  ·go_wp2
   go_ret
   have hjn:j=n:=by omega
   subst hjn
   exact ⟨zD (by have:=HK.out;omega),hO,hM,hF⟩
theorem zRx (b n cap k0:Nat)(N C q:Nat→Nat)(w:World)(hF:∀ i,i<n→zDg w b (q i) i (N i) (C i) (kS N k0 i))(hb:b<w.heap.size)(hq:∀ i,i<n→q i<w.heap.size)(hn:n≤1048576)(hN:∀ i,i<n→N i≤1048576)(h0:0<k0)(hk0:k0≤5000000000000000000) :
  Calls Tryz.prog 180 #[.slice (some ⟨b,0,none⟩) n cap,.int .i64 (k0:Int)] w fun e w'=>e=.returned (.int .i64 ((kS N k0 n:Nat):Int))∧Bw w w':=by
 have HF:Hid (∀ i,i<n→zDg w b (q i) i (N i) (C i) (kS N k0 i)):=hF
 have HN:Hid (∀ i,i<n→N i≤1048576):=hN
 have HQ:Hid (∀ i,i<n→q i<w.heap.size):=hq
 clear hF hN hq
 go_enter Tryz.func180,Tryz.ntmps180
 go_wp2_with fail
 go_loopw [1,5] (fun kk i wr=>∃ j K:Nat,j≤n∧Hid (K=kS N k0 j)∧kk=.int .i64 (K:Int)∧i=.int .i64 (j:Int)∧Bw w wr) (fun _ i _=>n - (intOf i).toNat)
 case atStart=>exact ⟨0,k0,by omega,rfl,rfl,rfl,Below.refl _ _⟩
 case round =>
  obtain ⟨j,K,hj,HK,rfl,rfl,hB⟩:=hrel
  by_cases hlt:j<n
  ·have hKb:K≤5000002200000000000:=by
    have:=HK.out
    have:=zWo N k0 n HN.out j (by omega)
    omega
   have hK0:0<K:=by
    have h1:=HK.out
    have h2:∀ i,k0≤kS N k0 i:=fun i=>by
     induction i with
     | zero=>exact Nat.le_refl _
     | succ i ih=>rw [kS];omega
    have:=h2 j
    omega
   have hNj:=HN.out j hlt
   have hMF:=(HF.out j hlt).below hB hb (HQ.out j hlt)
   rw [← HK.out] at hMF
   have hql:q j<wr.heap.size:=Nat.lt_of_lt_of_le (HQ.out j hlt) hB.size
   have e3:((K+3:Nat):Int)=(K:Int)+1+1+1:=by omega
   have e2:((K+2:Nat):Int)=(K:Int)+1+1:=by omega
   have e1:((K+1:Nat):Int)=(K:Int)+1:=by omega
   have hHM:Hid (zDg wr b (q j) j (N j) (C j) K):=hMF
   obtain ⟨⟨m0,m1,m2,m3,m4,m5,m6⟩,mp⟩:=hMF
   rw [e1] at m1
   rw [e2] at m2
   rw [e3] at m3
   have HP:Hid (zL wr (q j) 0 (N j) (mkX (K+4)) (mkY (K+4))):=mp
   have HB:Hid (Bw w wr):=hB
   have HLT:Hid (j<n):=hlt
   have hbr:b<wr.heap.size:=Nat.lt_of_lt_of_le hb hB.size
   clear hB mp e1 e2 e3
   have hi:(j:Int)<(n:Int):=by omega
   have hi0:(0:Int)≤(j:Int):=by omega
   have e4:Hid ((K:Int)+1+1+1+1=((K+4:Nat):Int)):=by show _=_;omega
   go_wp2_with fail
   rw [e4.out]
   refine (zIg (q j) (N j) (C j) (K+4) _ HP.out hql hNj (by omega)).mono ?_
   rintro e w5 ⟨rfl,hb5⟩
   obtain ⟨⟨_,_,_,_,_,x5,x6⟩,_⟩:=hHM.out.below hb5 hbr hql
   have Hb5:Hid (Bw wr w5):=hb5
   have hbl5:b<w5.heap.size:=Nat.lt_of_lt_of_le hbr hb5.size
   clear hb5 m0 m1 m2 m3 m4 m5 m6
   have hneg:¬ ((K+4+2 * N j:Nat):Int)<0:=by omega
   have hKb2:((K+4+2 * N j:Nat):Int)≤5000002300000000000:=by omega
   have hKb0:(0:Int)≤((K+4+2 * N j:Nat):Int):=by omega
   have hkt:0<K+4+2 * N j:=by omega
   have e5:((K+5+2 * N j:Nat):Int)=((K+4+2 * N j:Nat):Int)+1:=by omega
   have HKE:Hid (((K+4+2 * N j:Nat):Int)+1+1=((K+6+2 * N j:Nat):Int)):=by show _=_;omega
   rw [e5] at x6
   clear e5
   have HTX:Hid (∀ W,Calls Tryz.prog 179 #[.int .i64 ((K+4+2 * N j:Nat):Int)] W fun e w'=>e=.returned (.string (mTx (K+4+2 * N j)))∧Bw W w'):=fun W=>zE3 (K+4+2 * N j) W hkt (by omega)
   generalize mTx (K+4+2 * N j)=tx at x5 HTX
   clear hkt
   obtain ⟨M,hMd⟩:∃ M:Nat,M=K+4+2 * N j:=⟨_,rfl⟩
   have HMD:Hid (M=K+4+2 * N j):=hMd
   rw [← hMd] at hKb2 hKb0 hneg x6 HTX ⊢
   clear hMd
   have y5:∀ W',Bw w5 W'→W'.cell? ⟨b,j * 7+5,none⟩=some (.string tx):=fun W' h=>zT h x5
   have y6:∀ W',Bw w5 W'→W'.cell? ⟨b,j * 7+6,none⟩=some (.int .i64 ((M:Int)+1)):=fun W' h=>zT h x6
   clear x5 x6
   have hr5:Bw w5 w5:=Below.refl _ _
   have htx:(tx.toList == tx.toList)=true:=beq_self_eq_true _
   go_wp2_with fail
   go_region_held3 (fun W'=>Bw w5 W') ((repeat (first|exact Qr _ _|assumption|refine Qd ?_|refine Qa ?_ _|refine Qt ?_|refine Qs ?_ _|refine Qo ?_ ?_ _ _)))
    (first | (go_at_call 179;refine (HTX.out _).mono ?_;rintro e w' ⟨rfl,hb⟩) | fail)
   go_wp2
   go_roundw
   case rel =>
    have hMd:=HMD.out
    refine ⟨j+1,K+6+2 * N j,by have:=HLT.out;omega,by show _=_;rw [kS,← HK.out],by congr 1;omega,by go_num,zA HB.out (zA Hb5.out (by assumption))⟩
   case measure=>have:=HLT.out;simp [intOf];omega
  ·go_wp2
   go_ret
   have hjn:j=n:=by omega
   subst hjn
   exact ⟨zD (by have:=HK.out;omega),hB⟩
abbrev zS3 (z x y:Int)(v:Value):Value:=.agg #[.int .i64 z,.int .i64 x,.int .i64 y,v]
theorem vY.midB {w w':World}{B C b n lo hi:Nat}{F G:Nat→yB}(h:vY w B b n F G)(hM:zK lo hi w w')(hh:hi≤B)(hC:C≤B):vY w' C b n F G:=by
 obtain ⟨h1,h2,h3,h4⟩:=h
 have hc:∀ (p o:Nat) (u:Value),B≤p→w.cell? ⟨p,o,none⟩=some u→w'.cell? ⟨p,o,none⟩=some u:=fun p o u hp e=>hM.cell e (.inr (by omega))
 refine ⟨by omega,Nat.lt_of_lt_of_le h2 hM.size,fun i hi=>?_,fun i hi=>?_⟩
 ·obtain ⟨⟨k0,k1,k2,k3,k4,k5,k6⟩,_⟩:=h3 i hi
  obtain ⟨_,q,ha,hcap,hq,hBq,hql,hp⟩:=h4 i hi
  refine ⟨⟨hc _ _ _ h1 k0,hc _ _ _ h1 k1,hc _ _ _ h1 k2,hc _ _ _ h1 k3,hc _ _ _ h1 k4,hc _ _ _ h1 k5,hc _ _ _ h1 k6⟩,?_⟩
  exact .inr ⟨q,0,ha,Nat.lt_of_lt_of_le hql hM.size,fun j hj=>⟨hc _ _ _ hBq (hp j hj).1,hc _ _ _ hBq (hp j hj).2⟩⟩
 ·obtain ⟨hs,q,ha,hcap,hq,hBq,hql,hp⟩:=h4 i hi
  exact ⟨hs,q,ha,hcap,hq,by omega,Nat.lt_of_lt_of_le hql hM.size,fun j hj=>⟨hc _ _ _ hBq (hp j hj).1,hc _ _ _ hBq (hp j hj).2⟩⟩
theorem zVs {W:World}{r:Nat}{a b c x0 x1 x2:Value}(h0:W.cell? ⟨r,0,none⟩=some x0)(h1:W.cell? ⟨r,1,none⟩=some x1)(h2:W.cell? ⟨r,2,none⟩=some x2) :
  (((W.setCell ⟨r,0,none⟩ a).setCell ⟨r,1,none⟩ b).setCell ⟨r,2,none⟩ c).cell? ⟨r,0,none⟩=some a ∧
  (((W.setCell ⟨r,0,none⟩ a).setCell ⟨r,1,none⟩ b).setCell ⟨r,2,none⟩ c).cell? ⟨r,1,none⟩=some b ∧
  (((W.setCell ⟨r,0,none⟩ a).setCell ⟨r,1,none⟩ b).setCell ⟨r,2,none⟩ c).cell? ⟨r,2,none⟩=some c:=by
 have ne:∀ i j:Nat,i≠j→(⟨r,i,none⟩:Addr)≠⟨r,j,none⟩:=fun i j hij h=>hij (by injection h)
 refine ⟨?_,?_,?_⟩
 ·rw [zB (ne 2 0 (by omega)),zB (ne 1 0 (by omega))];exact zE h0
 ·rw [zB (ne 2 1 (by omega))];exact zE (by rw [zB (ne 0 1 (by omega))];exact h1)
 ·exact zE (by rw [zB (ne 1 2 (by omega)),zB (ne 0 2 (by omega))];exact h2)
theorem zC.otherJ {W:World}{r r' n o:Nat}{v:Value}(h:zC W r n)(hr:r'≠r):zC (W.setCell ⟨r',o,none⟩ v) r n:=fun o' ho=>by
 obtain ⟨⟨u,hu⟩,hf⟩:=h o' ho
 exact ⟨⟨u,by rw [zB (fun e=>hr (by injection e))];exact hu⟩,by rw [World.frozen?_setCell];exact hf⟩
theorem resTT (T:Array Value)(Wf:World)(r:Nat)(v0 v1 v2 v3:Value)(hT:T[2]?.getD undef=.pointer (some ⟨r,0,none⟩))(h0:Wf.cell? ⟨r,0,none⟩=some v0)(h1:Wf.cell? ⟨r,1,none⟩=some v1)(h2:Wf.cell? ⟨r,2,none⟩=some v2)(h3:Wf.cell? ⟨r,3,none⟩=some v3) :
  (results Tryz.f160 T).run Tryz.prog Wf=.ok (.agg #[v0,v1,v2,v3]) Wf:=by
 simp [results,Tryz.results160,go_sem,hT,h0,h1,h2,h3]
theorem zR8 (z x y:Int)(b d n B C:Nat)(F G H:Nat→yB)(w:World)(hg:vY w B b n F G)(hh:vY w C d n F H)(hs:yM n F) :
  Calls Tryz.prog 176 #[zS3 z x y (.slice (some ⟨b,0,none⟩) n n),zS3 z x y (.slice (some ⟨d,0,none⟩) n n)] w fun e w'=>e=.returned (.bool true)∧Bw w w':=by
 have HG:Hid (vY w B b n F G):=hg
 have HH:Hid (vY w C d n F H):=hh
 have HS:Hid (yM n F):=hs
 clear hg hh hs
 go_enter Tryz.func176,Tryz.ntmps176
 go_wp2_with fail
 generalize hW:((w.alloc _).alloc _:World)=W
 have hB0:Bw w W:=by subst hW;exact Qb
 have c3:W.cell? ⟨w.heap.size,3,none⟩=some (.slice (some ⟨b,0,none⟩) n n):=by subst hW;simp [go_sem]
 have d3:W.cell? ⟨w.heap.size+1,3,none⟩=some (.slice (some ⟨d,0,none⟩) n n):=by subst hW;simp [go_sem]
 clear hW
 refine (zEd _ _ _ _).mono ?_
 rintro e w1 ⟨rfl,hb1⟩
 have c3':=zT hb1 c3
 have d3':=zT hb1 d3
 have hB1:=zA hB0 hb1
 clear c3 d3 hb1 hB0
 go_wp2_with fail
 refine (zIk b d n B C F G H _ (HG.out.below hB1) (HH.out.below hB1) HS.out).mono ?_
 rintro e w2 ⟨rfl,hb2⟩
 go_wp2
 go_ret
 exact ⟨rfl,Qb⟩
end Go.Proofs.YtkjbafcalamgnaaGreat
namespace Go.Proofs.YtkjbafcalamgnaaGreat
open Go.RowKit Go.Shelf
attribute [local go_sem] Oper.semAt_some
def KS (T Bs:Nat)(A B:World):Prop:=Below T A B∧B.heap[Bs]?=A.heap[Bs]?
theorem KS.refl (T Bs:Nat)(A:World):KS T Bs A A:=⟨Below.refl _ _,rfl⟩
theorem KS.trans {T Bs:Nat}{A B C:World}(h:KS T Bs A B)(k:KS T Bs B C):KS T Bs A C:=⟨h.1.trans k.1,k.2.trans h.2⟩
theorem KS.alloc {T Bs:Nat}{A B:World}(h:KS T Bs A B)(hT:T≤A.heap.size)(hB:Bs<A.heap.size)(o:Obj):KS T Bs A (B.alloc o):=⟨h.1.alloc (Nat.le_trans hT h.1.size) o,(Below.heap_alloc B o Bs (Nat.lt_of_lt_of_le hB h.1.size)).trans h.2⟩
theorem KS.cell {T Bs:Nat}{A B:World}(h:KS T Bs A B){v:Value}(hc:A.cell? ⟨Bs,0,none⟩=some v):B.cell? ⟨Bs,0,none⟩=some v:=(World.cell?_of_block (w:=A) (a:=⟨Bs,0,none⟩) h.2).trans hc
theorem KS.put {T Bs:Nat}{w:World}(hT:T≤w.heap.size)(hB:Bs<w.heap.size)(W:World)(l:Nat)(o o':Obj)(hl:w.heap.size≤l)(h1:W.heap[l]?=some o)(h2:o.isCells=false)(h3:o.isWalk=false):KS T Bs W (W.putObj l o'):=⟨belowK_b (w:=w) hT W l o o' hl h1 h2 h3,by
 have:=(belowK_b (w:=w) (n₀:=Bs+1) hB W l o o' hl h1 h2 h3).block Bs (Nat.lt_succ_self _)
 exact this⟩
theorem zBy {W W':World}{row:Option Nat}{b:Nat}{arr:Array Value}{t:TypeId}{fz:Nat × Nat}(h:W.heap[b]?=some (.cells arr t fz))(hg:W.grownBy W' row)(hr:∀ r,row=some r→∃ o:Obj,W.heap[r]?=some o∧o.isCells=false):W'.heap[b]?=some (.cells arr t fz):=by
 rw [hg.block b (yT h) (fun e=>by
  obtain ⟨o,ho,hc⟩:=hr b e.symm
  rw [h] at ho
  cases ho
  cases hc)]
 exact h
theorem zXw {W W':World}(h:Below W.heap.size W W'):KeepsOthers W W':=⟨h.size,fun k o hk _=>(h.block k (yT hk)).trans hk⟩
def zAq (n k:Nat):List Nat:=(List.range k).map fun j=>n - 1 - j
theorem zJg (n k:Nat):zAq n (k+1)=zAq n k ++ [n - 1 - k]:=by simp [zAq,List.range_succ]
theorem zA4 (n k:Nat):(zAq n k).length=k:=by simp [zAq]
theorem zNb (n k m:Nat)(h:k≤m):zAq n k <+: zAq n m:=by
 obtain ⟨d,rfl⟩:∃ d,m=k+d:=⟨m - k,by omega⟩
 unfold zAq
 rw [List.range_add,List.map_append]
 exact List.prefix_append _ _
theorem zNc {n:Nat}{l:List Nat}(h:l <+: zAq n n):l=zAq n l.length∧l.length≤n:=by
 have hl:=h.length_le
 rw [zA4] at hl
 have h1:=zNb n l.length n hl
 refine ⟨?_,hl⟩
 exact (List.prefix_of_prefix_length_le h h1 (by rw [zA4];exact Nat.le_refl _)).eq_of_length (by rw [zA4])
abbrev Pl (n:Nat):={ i:Nat // i<n }
theorem zGo {C:Nat→Bool}{I:Nat→Int}:∀ {n:Nat},(∀ i,i<n→C i=false)→vP C I n=0
 | 0,_=>rfl
 | n+1,h=>by rw [vP,h n (by omega),if_neg (by simp)];exact zGo fun i hi=>h i (by omega)
theorem zGn {C:Nat→Bool}{I:Nat→Int}:∀ {n i:Nat},i<n→C i=true→(∀ j,i<j→j<n→C j=false)→vP C I n=I i
 | n+1,i,hi,h,hn=>by
  rw [vP]
  by_cases e:i=n
  ·subst e;rw [h,if_pos rfl]
  ·rw [hn n (by omega) (by omega),if_neg (by simp)]
   exact zGn (by omega) h fun j h1 h2=>hn j h1 (by omega)
theorem zR3 {C:Nat→Bool}{I:Nat→Int}{n:Nat}{ys:List (Pl n)}(h:ys.map (·.1)=zAq n n)(ha:∀ x ∈ ys,C x.1=false):vP C I n=0:=by
 refine zGo fun i hi=>?_
 have hm:i ∈ ys.map (·.1):=by
  rw [h]
  unfold zAq
  exact List.mem_map.2 ⟨n - 1 - i,List.mem_range.2 (by omega),by omega⟩
 obtain ⟨x,hx,rfl⟩:=List.mem_map.1 hm
 exact ha x hx
theorem zR2 {C:Nat→Bool}{I:Nat→Int}{n:Nat}{p:List (Pl n)}{x:Pl n}(h:(p ++ [x]).map (·.1) <+: zAq n n)(ha:∀ y ∈ p,C y.1=false)(hx:C x.1=true):vP C I n=I x.1:=by
 obtain ⟨h1,h2⟩:=zNc h
 have hl:((p ++ [x]).map (·.1)).length=p.length+1:=by simp
 rw [hl] at h1 h2
 rw [zJg,List.map_append] at h1
 have e1:p.map (·.1)=zAq n p.length:=by
  have:=List.append_inj_left h1 (by rw [zA4];simp)
  exact this
 have e2:x.1=n - 1 - p.length:=by
  have:=List.append_inj_right h1 (by rw [zA4];simp)
  simpa using this
 refine zGn x.2 hx fun j h3 h4=>?_
 have hm:j ∈ p.map (·.1):=by
  rw [e1]
  unfold zAq
  exact List.mem_map.2 ⟨n - 1 - j,List.mem_range.2 (by omega),by omega⟩
 obtain ⟨y,hy,rfl⟩:=List.mem_map.1 hm
 exact ha y hy
end Go.Proofs.YtkjbafcalamgnaaGreat
namespace Go.Proofs.YtkjbafcalamgnaaGreat
open Go.RowKit
def OwnR (w:World)(lo hi:Nat)(a:Option Addr)(m:Nat)(N C:Nat→Nat):Prop:=m=0∨∃ g q,a=some ⟨g,0,none⟩∧zBp w lo hi g m N C q
theorem OwnR.away {w w':World}{lo hi lo' hi' m:Nat}{a:Option Addr}{N C:Nat→Nat}(h:OwnR w lo hi a m N C)(hm:zK lo' hi' w w')(ho:hi'≤lo∨hi≤lo'):OwnR w' lo hi a m N C:=by
 rcases h with h | ⟨g,q,e,hq⟩
 ·exact .inl h
 ·exact .inr ⟨g,q,e,hq.away hm ho⟩
theorem zOq (a:Option Addr)(cap:Nat)(k:Int)(w:World) :
  Calls Tryz.prog 138 #[.slice a 0 cap,.int .i64 k] w fun e w'=>e=.returned (.int .i64 k)∧w=w':=by
 go_enter Tryz.func138,Tryz.ntmps138
 go_wp2_with fail
 go_loopw [1,5] (fun kk i wr=>kk=.int .i64 k∧i=.int .i64 0∧w=wr) (fun _ _ _=>0)
 case atStart=>exact ⟨rfl,rfl,rfl⟩
 case round =>
  obtain ⟨rfl,rfl,rfl⟩:=hrel
  go_wp2
  go_ret
  exact ⟨rfl,rfl⟩
theorem zO3 (a:Option Addr)(cap:Nat)(k:Int)(w:World) :
  Calls Tryz.prog 180 #[.slice a 0 cap,.int .i64 k] w fun e w'=>e=.returned (.int .i64 k)∧w=w':=by
 go_enter Tryz.func180,Tryz.ntmps180
 go_wp2_with fail
 go_loopw [1,5] (fun kk i wr=>kk=.int .i64 k∧i=.int .i64 0∧w=wr) (fun _ _ _=>0)
 case atStart=>exact ⟨rfl,rfl,rfl⟩
 case round =>
  obtain ⟨rfl,rfl,rfl⟩:=hrel
  go_wp2
  go_ret
  exact ⟨rfl,rfl⟩
end Go.Proofs.YtkjbafcalamgnaaGreat
