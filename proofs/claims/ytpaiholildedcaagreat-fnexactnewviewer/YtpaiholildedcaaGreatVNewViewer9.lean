/- Texts. -/
import Derived.Test.YtpaiholildedcaaGreatVNewViewer6
import Derived.Test.YtpaiholildedcaaGreatVNewViewer5
set_option linter.unusedSimpArgs false
set_option linter.unusedVariables false
set_option maxRecDepth 100000
set_option maxHeartbeats 32000000
namespace Go.Proofs.YtpaiholildedcaaGreat
open Go.RowKit

theorem zIq (lo hi b n cap k0:Nat)(N C q:Nat→Nat)(w:World)(hO:zHl w lo hi b n N C q)(hn:n≤1048576)(hN:∀ i,i<n→N i≤1048576)(h0:0<k0)(hk0:k0≤5000000000000000000) :
  Calls Tryz.prog 150 #[.slice (some ⟨b,0,none⟩) n cap,.int .i64 (k0:Int)] w fun e w'=>e=.returned (.int .i64 ((kS N k0 n:Nat):Int))∧zHl w' lo hi b n N C q∧zI lo hi w w'∧∀ i,i<n→zAi w' b (q i) i (N i) (C i) (kS N k0 i):=by
 have HO0:Hid (zHl w lo hi b n N C q):=hO
 have HN:Hid (∀ i,i<n→N i≤1048576):=hN
 clear hO hN
 go_enter Tryz.func150,Tryz.ntmps150
 go_wp2_with fail
 go_loopw [1,5] (fun kk i wr=>∃ j K:Nat,j≤n∧Hid (K=kS N k0 j)∧kk=.int .i64 (K:Int)∧i=.int .i64 (j:Int)∧zHl wr lo hi b n N C q∧zI lo hi w wr∧∀ i,i<j→zAi wr b (q i) i (N i) (C i) (kS N k0 i)) (fun _ i _=>n - (intOf i).toNat)
 case atStart=>exact ⟨0,k0,by omega,rfl,rfl,rfl,HO0.out,zI.refl _ _ _,fun i hi=>by omega⟩
 case round =>
  obtain ⟨j,K,hj,HK,rfl,rfl,hO,hM,hF⟩:=hrel
  by_cases hlt:j<n
  ·have hKb:K≤5000002200000000000:=by
    have:=HK.out
    have:=zLq N k0 n HN.out j (by omega)
    omega
   have hK0:0<K:=by
    have h1:=HK.out
    have h2:∀ i,k0≤kS N k0 i:=fun i=>by
     induction i with
     | zero=>exact Nat.le_refl _
     | succ i ih=>rw [kS];omega
    have:=h2 j
    omega
   have hNj:=HN.out j hlt
   obtain ⟨hqj,hTj,hcj⟩:=hO.2.2.1 j hlt
   have hT:=hO.2.1
   have t0:=hT.cell (j * 7) (by omega)
   have t1:=hT.cell (j * 7+1) (by omega)
   have t2:=hT.cell (j * 7+2) (by omega)
   have t3:=hT.cell (j * 7+3) (by omega)
   have f0:=(hT (j * 7) (by omega)).2
   have f1:=(hT (j * 7+1) (by omega)).2
   have f2:=(hT (j * 7+2) (by omega)).2
   have f3:=(hT (j * 7+3) (by omega)).2
   have HO:Hid (zHl wr lo hi b n N C q):=hO
   have HM:Hid (zI lo hi w wr):=hM
   have HF:Hid (∀ i,i<j→zAi wr b (q i) i (N i) (C i) (kS N k0 i)):=hF
   have HLT:Hid (j<n):=hlt
   clear hO hM hF hT
   have hi:(j:Int)<(n:Int):=by omega
   have hi0:(0:Int)≤(j:Int):=by omega
   have e4:(K:Int)+1+1+1+1=((K+4:Nat):Int):=by omega
   have e3:(K:Int)+1+1+1=((K+3:Nat):Int):=by omega
   have e2:(K:Int)+1+1=((K+2:Nat):Int):=by omega
   have e1:(K:Int)+1=((K+1:Nat):Int):=by omega
   have E:=(show Hid _ from (⟨e4,e3,e2,e1⟩:_∧_∧_∧_))
   clear e4 e3 e2 e1
   go_wp2_with fail
   rw [E.out.1,E.out.2.1,E.out.2.2.1,E.out.2.2.2]
   have hb1:=HO.out.1
   have hql:q j<wr.heap.size:=by omega
   have hne:b≠q j:=fun e=>hqj.2.2 e.symm
   refine (zDh (q j) (N j) (C j) (K+4) _ ((((hTj.store hne).store hne).store hne).store hne) (by simp only [World.size_setCell];exact hql) hNj (by omega)).mono ?_
   rintro e w5 ⟨rfl,hG5,hT5,hP5⟩
   have hTb5:zC w5 b (n * 7):=(((((HO.out.2.1.set _ _).set _ _).set _ _).set _ _).grown hG5 hne)
   have HG5:=(show Hid _ from hG5)
   have HT5:Hid (zC w5 (q j) (N j * 2)):=hT5
   have HP5:Hid (yW w5 (q j) 0 (N j) (mkX (K+4)) (mkY (K+4))):=hP5
   have HTb5:Hid (zC w5 b (n * 7)):=hTb5
   clear hG5 hT5 hP5 hTb5 t0 t1 t2 t3 f0 f1 f2 f3 hcj
   have hkt:0<K+4+2 * N j:=by omega
   go_wp2_with fail
   refine (zBj (K+4+2 * N j) w5 hkt (by omega)).mono ?_
   rintro e w6 ⟨rfl,hb6⟩
   have hT6:=HTb5.out.below hb6
   have t5:=hT6.cell (j * 7+5) (by omega)
   have t6:=hT6.cell (j * 7+6) (by omega)
   have f5:=(hT6 (j * 7+5) (by omega)).2
   have f6:=(hT6 (j * 7+6) (by omega)).2
   have HB6:Hid (Bw w5 w6):=hb6
   clear hT6 hb6
   have hKb2:((K+4+2 * N j:Nat):Int)≤5000002300000000000:=by omega
   have hKb0:(0:Int)≤((K+4+2 * N j:Nat):Int):=by omega
   have HKE:Hid (((K+4+2 * N j:Nat):Int)+1=((K+5+2 * N j:Nat):Int)∧((K+4+2 * N j:Nat):Int)+1+1=((K+6+2 * N j:Nat):Int)):=⟨by omega,by omega⟩
   have HM2:Hid (∀ m:Nat,m=K+4+2 * N j→m=K+4+2 * N j):=fun _ h=>h
   obtain ⟨M,hMd⟩:∃ M:Nat,M=K+4+2 * N j:=⟨_,rfl⟩
   have HMD:Hid (M=K+4+2 * N j):=hMd
   rw [← hMd] at hKb2 hKb0 ⊢
   clear hMd
   go_wp2
   go_roundw
   case rel =>
    have hMd:=HMD.out
    subst hMd
    have hst:=zJ5 HO.out HLT.out HG5.out HT5.out HP5.out HB6.out HF.out HK.out.symm
    rw [← HKE.out.1] at hst
    obtain ⟨s1,s2,s3⟩:=hst
    refine ⟨j+1,K+6+2 * N j,by have:=HLT.out;omega,by show _=_;rw [kS,← HK.out],by congr 1;omega,by go_num,s1,HM.out.trans s2,s3⟩
   case measure=>have:=HLT.out;simp [intOf];omega
  ·go_wp2
   go_ret
   have hjn:j=n:=by omega
   subst hjn
   exact ⟨zH (by have:=HK.out;omega),hO,hM,hF⟩
theorem zI1 (b n cap k0:Nat)(N C q:Nat→Nat)(w:World)(hF:∀ i,i<n→zAi w b (q i) i (N i) (C i) (kS N k0 i))(hb:b<w.heap.size)(hq:∀ i,i<n→q i<w.heap.size)(hn:n≤1048576)(hN:∀ i,i<n→N i≤1048576)(h0:0<k0)(hk0:k0≤5000000000000000000) :
  Calls Tryz.prog 182 #[.slice (some ⟨b,0,none⟩) n cap,.int .i64 (k0:Int)] w fun e w'=>e=.returned (.int .i64 ((kS N k0 n:Nat):Int))∧Bw w w':=by
 have HF:Hid (∀ i,i<n→zAi w b (q i) i (N i) (C i) (kS N k0 i)):=hF
 have HN:Hid (∀ i,i<n→N i≤1048576):=hN
 have HQ:Hid (∀ i,i<n→q i<w.heap.size):=hq
 clear hF hN hq
 go_enter Tryz.func182,Tryz.ntmps182
 go_wp2_with fail
 go_loopw [1,5] (fun kk i wr=>∃ j K:Nat,j≤n∧Hid (K=kS N k0 j)∧kk=.int .i64 (K:Int)∧i=.int .i64 (j:Int)∧Bw w wr) (fun _ i _=>n - (intOf i).toNat)
 case atStart=>exact ⟨0,k0,by omega,rfl,rfl,rfl,Below.refl _ _⟩
 case round =>
  obtain ⟨j,K,hj,HK,rfl,rfl,hB⟩:=hrel
  by_cases hlt:j<n
  ·have hKb:K≤5000002200000000000:=by
    have:=HK.out
    have:=zLq N k0 n HN.out j (by omega)
    omega
   have hK0:0<K:=by
    have h1:=HK.out
    have h2:∀ i,k0≤kS N k0 i:=fun i=>by
     induction i with
     | zero=>exact Nat.le_refl _
     | succ i ih=>rw [kS];omega
    have:=h2 j
    omega
   have hNj:=HN.out j hlt
   have hMF:=(HF.out j hlt).below hB hb (HQ.out j hlt)
   rw [← HK.out] at hMF
   have hql:q j<wr.heap.size:=Nat.lt_of_lt_of_le (HQ.out j hlt) hB.size
   have e3:((K+3:Nat):Int)=(K:Int)+1+1+1:=by omega
   have e2:((K+2:Nat):Int)=(K:Int)+1+1:=by omega
   have e1:((K+1:Nat):Int)=(K:Int)+1:=by omega
   have hHM:Hid (zAi wr b (q j) j (N j) (C j) K):=hMF
   obtain ⟨⟨m0,m1,m2,m3,m4,m5,m6⟩,mp⟩:=hMF
   rw [e1] at m1
   rw [e2] at m2
   rw [e3] at m3
   have HP:Hid (yW wr (q j) 0 (N j) (mkX (K+4)) (mkY (K+4))):=mp
   have HB:Hid (Bw w wr):=hB
   have HLT:Hid (j<n):=hlt
   have hbr:b<wr.heap.size:=Nat.lt_of_lt_of_le hb hB.size
   clear hB mp e1 e2 e3
   have hi:(j:Int)<(n:Int):=by omega
   have hi0:(0:Int)≤(j:Int):=by omega
   have e4:Hid ((K:Int)+1+1+1+1=((K+4:Nat):Int)):=by show _=_;omega
   go_wp2_with fail
   rw [e4.out]
   refine (zDm (q j) (N j) (C j) (K+4) _ HP.out hql hNj (by omega)).mono ?_
   rintro e w5 ⟨rfl,hb5⟩
   obtain ⟨⟨_,_,_,_,_,x5,x6⟩,_⟩:=hHM.out.below hb5 hbr hql
   have Hb5:Hid (Bw wr w5):=hb5
   have hbl5:b<w5.heap.size:=Nat.lt_of_lt_of_le hbr hb5.size
   clear hb5 m0 m1 m2 m3 m4 m5 m6
   have hneg:¬ ((K+4+2 * N j:Nat):Int)<0:=by omega
   have hKb2:((K+4+2 * N j:Nat):Int)≤5000002300000000000:=by omega
   have hKb0:(0:Int)≤((K+4+2 * N j:Nat):Int):=by omega
   have hkt:0<K+4+2 * N j:=by omega
   have e5:((K+5+2 * N j:Nat):Int)=((K+4+2 * N j:Nat):Int)+1:=by omega
   have HKE:Hid (((K+4+2 * N j:Nat):Int)+1+1=((K+6+2 * N j:Nat):Int)):=by show _=_;omega
   rw [e5] at x6
   clear e5
   have HTX:Hid (∀ W,Calls Tryz.prog 194 #[.int .i64 ((K+4+2 * N j:Nat):Int)] W fun e w'=>e=.returned (.string (mTx (K+4+2 * N j)))∧Bw W w'):=fun W=>zBj (K+4+2 * N j) W hkt (by omega)
   generalize mTx (K+4+2 * N j)=tx at x5 HTX
   clear hkt
   obtain ⟨M,hMd⟩:∃ M:Nat,M=K+4+2 * N j:=⟨_,rfl⟩
   have HMD:Hid (M=K+4+2 * N j):=hMd
   rw [← hMd] at hKb2 hKb0 hneg x6 HTX ⊢
   clear hMd
   have y5:∀ W',Bw w5 W'→W'.cell? ⟨b,j * 7+5,none⟩=some (.string tx):=fun W' h=>yH h x5
   have y6:∀ W',Bw w5 W'→W'.cell? ⟨b,j * 7+6,none⟩=some (.int .i64 ((M:Int)+1)):=fun W' h=>yH h x6
   clear x5 x6
   have hr5:Bw w5 w5:=Below.refl _ _
   have htx:(tx.toList == tx.toList)=true:=beq_self_eq_true _
   go_wp2_with fail
   go_region_held3 (fun W'=>Bw w5 W') ((repeat (first|exact Qr _ _|assumption|refine Qd ?_|refine Qa ?_ _|refine Qt ?_|refine Qs ?_ _|refine Qo ?_ ?_ _ _)))
    (first | (go_at_call 194;refine (HTX.out _).mono ?_;rintro e w' ⟨rfl,hb⟩) | fail)
   go_wp2
   go_roundw
   case rel =>
    have hMd:=HMD.out
    refine ⟨j+1,K+6+2 * N j,by have:=HLT.out;omega,by show _=_;rw [kS,← HK.out],by congr 1;omega,by go_num,zB HB.out (zB Hb5.out (by assumption))⟩
   case measure=>have:=HLT.out;simp [intOf];omega
  ·go_wp2
   go_ret
   have hjn:j=n:=by omega
   subst hjn
   exact ⟨zH (by have:=HK.out;omega),hB⟩

def uM (base:Nat)(w:World)(n:Nat)(G H:Nat→xG):Prop :=
 (∀ i,i<n→(H i).same (G i)∧Row base w (.slice (H i).a (H i).n (H i).cap) (yT (G i).X (G i).Y (List.range (G i).n))) ∧
 ∀ i j,i<n→j<n→(H i).a=(H j).a→i=j
theorem zFp (X Y:Nat→Int)(n:Nat):(yT X Y (List.range n)).length=n:=by simp [yT]
theorem zLi (X Y:Nat→Int)(n i:Nat)(hi:i<n):px (yT X Y (List.range n)) i=X i∧py (yT X Y (List.range n)) i=Y i:=by
 simp [px,py,yT,List.getD_eq_getElem?_getD,hi]
theorem Row.atP {base:Nat}{w:World}{a:Option Addr}{n c:Nat}{X Y:Nat→Int}(h:Row base w (.slice a n c) (yT X Y (List.range n)))(hn:0<n) :
  ∃ g,a=some ⟨g,0,none⟩∧base≤g∧g<w.heap.size∧yW w g 0 n X Y∧zC w g (n * 2):=by
 obtain ⟨a',cap',hv,hc,h0 | ⟨b,ha,hb,hl,hp,ht⟩⟩:=h.own
 ·rw [zFp] at h0;omega
 ·rw [zFp] at hp ht
  injection hv with e1 e2 e3
  refine ⟨b,e1.trans ha,hb,hl,fun i hi=>?_,ht⟩
  obtain ⟨x1,x2⟩:=zLi X Y n i hi
  have:=hp i hi
  rw [x1,x2] at this
  exact this
theorem Row.keptF {base base':Nat}{w w':World}{u v:Value}{l:List (Int × Int)}{H:Nat→xG}{m:List Nat}(h:Row base w u l)(h':zA5 base' w v H m)(hg:w.grownBy w' v.ownBlock):Row base w' u l:=by
 refine World.ownsRow.kept h hg ?_
 cases hu:u.ownBlock with
 | none=>exact .inl rfl
 | some g =>
  right
  intro e
  obtain ⟨c1,h1⟩:=vT h g hu
  obtain ⟨c2,h2⟩:=vT h' g e.symm
  rw [h1] at h2
  injection h2 with h2
  injection h2 with _ h2
  exact absurd h2 (by decide)
theorem zBx (b n cap:Nat)(G:Nat→xG)(w:World)(hg:zJh w b 0 n G)(hbl:b<w.heap.size)(hn:n≤12)(hpos:∀ i,i<n→0<(G i).n)(hs:vX n G) :
  Calls Tryz.prog 180 #[.slice (some ⟨b,0,none⟩) n cap] w fun e w'=>∃ v H,e=.returned v∧zA5 w.heap.size w' v H (List.range n)∧uM w.heap.size w' n G H∧Bw w w':=by
 obtain ⟨i0,hi,hz0,hz1,hz2⟩:=info_parts zKh
 have HG:Hid (zJh w b 0 n G):=hg
 have HPOS:Hid (∀ i,i<n→0<(G i).n):=hpos
 have HS:Hid (vX n G):=hs
 clear hg hpos hs
 go_enter Tryz.func180,Tryz.ntmps180
 go_wp2_with fail
 go_loopw [3,8] (fun v i wr=>∃ (k:Nat) (H:Nat→xG),k≤n∧i=.int .i64 (k:Int)∧zA5 w.heap.size wr v H (List.range k)∧uM w.heap.size wr k G H∧Bw w wr) (fun _ i _=>n - (intOf i).toNat)
 case atStart=>exact ⟨0,G,by omega,rfl,World.ownsRow_nil _ _ _ _,⟨fun i hi=>by omega,fun i j hi=>by omega⟩,Below.refl _ _⟩
 case round =>
  obtain ⟨k,H,hk,rfl,hO,hC,hB⟩:=hrel
  by_cases hlt:k<n
  ·have hblr:b<wr.heap.size:=Nat.lt_of_lt_of_le hbl hB.size
   obtain ⟨⟨f0,f1,f2,f3,f4,f5,f6⟩,hP⟩:=(HG.out.below hB hbl) k hlt
   simp only [Nat.zero_add] at f0 f1 f2 f3 f4 f5 f6
   have hp0:=HPOS.out k hlt
   obtain ⟨z1,z2⟩:=HS.out.2 k hlt
   obtain ⟨b',off',ha',hbl',hpt⟩:=hP.resolve_left (by omega)
   rw [ha'] at f4
   have HP:Hid (yW wr b' off' (G k).n (G k).X (G k).Y):=hpt
   have HO:Hid (zA5 w.heap.size wr u3 H (List.range k)):=hO
   have HC:Hid (uM w.heap.size wr k G H):=hC
   have HB:Hid (Bw w wr):=hB
   have HLT:Hid (k<n):=hlt
   clear hO hC hB hP hpt
   have hi':(k:Int)<(n:Int):=by omega
   go_wp2_with fail
   generalize hV:(wr.alloc _:World)=V
   have hBV:Bw wr V:=by subst hV;exact Qb
   clear hV f0 f1 f2 f3 f4 f5 f6
   have hOV:zA5 w.heap.size V u3 H (List.range k):=HO.out.below hBV
   refine (zCy _ _ _ _ b' _ _ (G k).X (G k).Y _ _ V (HP.out.below hBV hbl') (Nat.lt_of_lt_of_le hbl' hBV.size) z1 z2).mono ?_
   rintro e w1 ⟨a1,c1,rfl,hR1,hb1⟩
   have hrV:Bw wr w1:=zB hBV hb1
   have HR1:Hid (Row V.heap.size w1 (.slice a1 (G k).n c1) (yT (G k).X (G k).Y (List.range (G k).n))):=hR1
   have HO1:Hid (zA5 w.heap.size w1 u3 H (List.range k)):=hOV.below hb1
   have HB1:Hid (Bw w w1):=zB HB.out hrV
   have HrV:Hid (Bw wr w1):=hrV
   have hszV:=hBV.size
   have hszw:=HB.out.size
   have hsz1:=hb1.size
   clear hR1 hrV hOV hBV hb1 HO HB
   have hlenr:(List.range k).length=k:=by simp
   go_wp2_with (first
    | (at_builtin;go_must (refine wpList_append_own _ rfl _ _ 137 rfl w.heap.size 209 i0 (.agg #[.int .i64 0,.int .i64 0,.int .i64 0,.int .i64 0,.slice none 0 0,.string ⟨#[]⟩,.int .i64 0]) 7 80 Tryz.underlying137 hi hz0 hz1 hz2 rfl (by decide) u3 k (yR H (List.range k)) rfl ?c6 ⟨w1.heap.size,0,none⟩ 1 1 (zBe { G k with a:=a1,cap:=c1 }) rfl ?c0 ?c1 ?c2 ?c3 ?c4 ?c5 ?_)))
   case c6 =>
    have:=HO1.out.below (by exact Qb:Below w1.heap.size w1 (w1.alloc (.cells #[.int .i64 (G k).id,.int .i64 (G k).la,.int .i64 (G k).ki,.int .i64 (G k).wi,.slice a1 (G k).n c1,.string (G k).lab,.int .i64 (G k).pr] 209)))
    unfold zA5 at this
    rw [hlenr] at this
    exact this
   case c0=>rfl
   case c1 =>
    intro q u hq
    have hq7:q<7:=(List.getElem?_eq_some_iff.1 hq).1
    have hc:q=0∨q=1∨q=2∨q=3∨q=4∨q=5∨q=6:=by omega
    rcases hc with rfl | rfl | rfl | rfl | rfl | rfl | rfl <;> (simp [zBe] at hq;subst hq;simp [Addr.add,go_sem])
   case c2=>exact zF7 _
   case c3=>unfold maxLen;omega
   case c4=>omega
   case c5=>simp;omega
   intro v' w3 hown' hgrow hnil
   clear hnil
   have hO2:zA5 w.heap.size (w1.alloc (.cells #[.int .i64 (G k).id,.int .i64 (G k).la,.int .i64 (G k).ki,.int .i64 (G k).wi,.slice a1 (G k).n c1,.string (G k).lab,.int .i64 (G k).pr] 209)) u3 H (List.range k):=HO1.out.below (by exact Qb)
   have hR2:=HR1.out.below (by exact Qb:Below w1.heap.size w1 (w1.alloc (.cells #[.int .i64 (G k).id,.int .i64 (G k).la,.int .i64 (G k).ki,.int .i64 (G k).wi,.slice a1 (G k).n c1,.string (G k).lab,.int .i64 (G k).pr] 209)))
   have hb2:Bw wr (w1.alloc (.cells #[.int .i64 (G k).id,.int .i64 (G k).la,.int .i64 (G k).ki,.int .i64 (G k).wi,.slice a1 (G k).n c1,.string (G k).lab,.int .i64 (G k).pr] 209)):=HrV.out.alloc (by omega) _
   obtain ⟨hC1,hC2⟩:=HC.out
   have HF:Hid (zA5 w.heap.size w3 v' (fun i=>if i=k then { G k with a:=a1,cap:=c1 } else H i) (List.range (k+1))):=by
    show zA5 _ _ _ _ _
    unfold zA5
    have e1:yR (fun i=>if i=k then { G k with a:=a1,cap:=c1 } else H i) (List.range (k+1))=yR H (List.range k) ++ zBe { G k with a:=a1,cap:=c1 }:=by
     rw [List.range_succ,zEb,zD9,if_pos rfl]
     rw [uL (H':=H) (List.range k) (fun j hj=>by rw [if_neg];have:=List.mem_range.1 hj;omega)]
    rw [e1,List.length_range]
    exact hown'
   have HCn:Hid (uM w.heap.size w3 (k+1) G (fun i=>if i=k then { G k with a:=a1,cap:=c1 } else H i)):=by
    show uM _ _ _ _ _
    obtain ⟨g1,hg1,hg1',_⟩:=HR1.out.atP hp0
    refine ⟨fun i hi=>?_,fun i j hi hj e=>?_⟩
    ·by_cases e:i=k
     ·subst e
      simp only [if_pos]
      exact ⟨⟨rfl,rfl,rfl,rfl,rfl,rfl,rfl,rfl,rfl⟩,(hR2.keptF hO2 hgrow).wideB (by omega)⟩
     ·simp only [if_neg e]
      obtain ⟨s1,r1⟩:=hC1 i (by omega)
      exact ⟨s1,(r1.below hb2).keptF hO2 hgrow⟩
    ·have old:∀ i,i<k→(H i).a≠a1:=fun i hi e=>by
      obtain ⟨s1,r1⟩:=hC1 i hi
      have hnn:(H i).n=(G i).n:=s1.2.2.2.2.1
      rw [hnn] at r1
      obtain ⟨g,hg,_,hgl,_⟩:=r1.atP (HPOS.out i (by omega))
      rw [hg,hg1] at e
      injection e with e
      injection e with e
      omega
     by_cases ei:i=k <;> by_cases ej:j=k
     ·omega
     ·simp only [if_pos ei,if_neg ej] at e
      exact absurd e.symm (old j (by omega))
     ·simp only [if_neg ei,if_pos ej] at e
      exact absurd e (old i (by omega))
     ·simp only [if_neg ei,if_neg ej] at e
      exact hC2 i j (by omega) (by omega) e
   have HB3:Hid (Bw w w3):=(HB1.out.alloc (by omega) _).grown hgrow (by simp;omega) (fun g hg=>((World.ownsRow.lt (show World.ownsRow _ _ _ _ _ _ _ from hO2)) g hg).1)
   clear hown' hgrow hO2 hR2 hb2 hC1 hC2
   go_wp2
   go_roundw
   case rel=>exact ⟨k+1,_,by have:=HLT.out;omega,by go_num,HF.out,HCn.out,HB3.out⟩
   case measure=>have:=HLT.out;simp [intOf];omega
  ·go_wp2
   go_ret
   have hkn:k=n:=by omega
   subst hkn
   exact ⟨_,H,rfl,hO,hC,hB⟩
theorem resC (T:Array Value)(Wf:World)(r:Nat)(v0 v1 v2 v3 v4 v5 v6:Value)(hT:T[2]?.getD undef=.pointer (some ⟨r,0,none⟩))(h0:Wf.cell? ⟨r,0,none⟩=some v0)(h1:Wf.cell? ⟨r,1,none⟩=some v1)(h2:Wf.cell? ⟨r,2,none⟩=some v2)(h3:Wf.cell? ⟨r,3,none⟩=some v3)(h4:Wf.cell? ⟨r,4,none⟩=some v4)(h5:Wf.cell? ⟨r,5,none⟩=some v5)(h6:Wf.cell? ⟨r,6,none⟩=some v6) :
  (results Tryz.f205 T).run Tryz.prog Wf=.ok (.agg #[v0,v1,v2,v3,v4,v5,v6]) Wf:=by
 simp [results,Tryz.results205,go_sem,hT,h0,h1,h2,h3,h4,h5,h6]
set_option maxRecDepth 8000 in
theorem zEz {off:Nat}(id la ki wi:Int)(b n cap:Nat)(X Y:Nat→Int)(lab:ByteArray)(pr:Int)(w:World)(hp:yW w b off n X Y)(hbl:b<w.heap.size)(hn:n≤1048576) :
  Calls Tryz.prog 205 #[.agg #[.int .i64 id,.int .i64 la,.int .i64 ki,.int .i64 wi,.slice (some ⟨b,off,none⟩) n cap,.string lab,.int .i64 pr]] w fun e w'=>∃ a c,e=.returned (.agg #[.int .i64 id,.int .i64 la,.int .i64 ki,.int .i64 wi,.slice a n c,.string lab,.int .i64 pr])∧Row (w.heap.size+1+1) w' (.slice a n c) (yT X Y (List.range n))∧Bw w w':=by
 obtain ⟨i0,hi,hz0,hz1,hz2⟩:=info_parts (show (Tryz.prog.info? 215).map (fun i=>(i.zero,i.size,i.bytes))=some (some (.agg #[.int .i64 0,.int .i64 0]),2,16) by kernel_rfl)
 have HP:Hid (yW w b off n X Y):=hp
 have HLEN:Hid ((yT X Y (List.range n)).length=n):=by show _=_;simp [yT]
 clear hp
 obtain ⟨W,hWd⟩:∃ W,W=(((w.alloc (.cells #[.int .i64 id,.int .i64 la,.int .i64 ki,.int .i64 wi,.slice (some ⟨b,off,none⟩) n cap,.string lab,.int .i64 pr] 209)).alloc (.cells #[.int .i64 0,.int .i64 0,.int .i64 0,.int .i64 0,.slice none 0 0,.string ⟨#[]⟩,.int .i64 0] 209)):World):=⟨_,rfl⟩
 have hB0:Bw w W:=by subst hWd;exact Qb
 have hO:zGl W w.heap.size id la ki wi (.slice (some ⟨b,off,none⟩) n cap) lab pr:=by
  subst hWd
  unfold zGl
  rw [Below.heap_alloc _ _ _ (by simp)]
  exact heap_alloc_new w _
 have hT:zC W (w.heap.size+1) 7:=by
  subst hWd
  have:=there7 (w.alloc (.cells #[.int .i64 id,.int .i64 la,.int .i64 ki,.int .i64 wi,.slice (some ⟨b,off,none⟩) n cap,.string lab,.int .i64 pr] 209)) (.int .i64 0) (.int .i64 0) (.int .i64 0) (.int .i64 0) (.slice none 0 0) (.string ⟨#[]⟩) (.int .i64 0) 209
  simpa using this
 have hsW:W.heap.size=w.heap.size+2:=by subst hWd;simp
 have HB0:=(show Hid _ from hB0)
 have HO:=(show Hid _ from hO)
 have HT:Hid (zC W (w.heap.size+1) 7):=hT
 have HSW:=(show Hid _ from hsW)
 have HWD:=(show Hid _ from hWd)
 clear hB0 hO hT hsW hWd
 go_enter Tryz.func205,Tryz.ntmps205
 go_wp2_with (first
  | (at_builtin;go_must (refine wpList_append_own _ rfl _ _ 207 rfl (w.heap.size+1+1) 215 i0 (.agg #[.int .i64 0,.int .i64 0]) 2 16 Tryz.underlying207 hi hz0 hz1 hz2 rfl (by decide) (.slice (some ⟨w.heap.size+1+1,0,none⟩) 0 0) 0 [] rfl ?c6 ⟨b,off,none⟩ n cap (xZ (yT X Y (List.range n))) rfl ?c0 ?c1 ?c2 ?c3 ?c4 ?c5 ?_)))
 case c6 =>
  have:=World.ownsRow_lit (base:=w.heap.size+1+1) (e:=215) (size:=2) W #[] 0 (by rw [HSW.out];exact Nat.le_refl _) (Nat.zero_le _) rfl
  rw [HSW.out,HWD.out] at this
  exact this
 case c0=>rw [vN,HLEN.out]
 case c1 =>
  intro q u hq
  have hb:Bw w (W.alloc (.cells #[] 215)):=yX HB0.out _
  rw [HWD.out] at hb
  have h1:=zDz (HP.out.below hb hbl) q u hq
  by_cases hq0:q=0
  ·subst hq0;simpa [Addr.add] using h1
  ·simpa [Addr.add,hq0] using h1
 case c2 =>
  intro u hu
  unfold xZ at hu
  rw [List.mem_flatMap] at hu
  obtain ⟨p,_,hp⟩:=hu
  simp at hp
  rcases hp with rfl | rfl <;> rfl
 case c3=>unfold maxLen;omega
 case c4=>omega
 case c5=>first | omega | (simp;done) | (simp;omega)
 intro v' w2 hown' hgrow hnil
 clear hnil
 obtain ⟨a',c',hv'⟩:∃ a' c',v'=.slice a' n c':=by
  obtain ⟨_,h2 | ⟨g,cp,cur,hv,_⟩⟩:=hown'
  ·exact ⟨none,0,by have e:=h2.2;have e2:n=0:=(by omega);subst e2;exact h2.1⟩
  ·exact ⟨_,cp,by rw [hv]⟩
 have HOWN:Hid (Row (w.heap.size+1+1) w2 v' (yT X Y (List.range n))):=by
  show Row _ _ _ _
  unfold Row
  rw [HLEN.out]
  simpa using hown'
 have hgb:Below (w.heap.size+1+1) (W.alloc (.cells #[] 215)) w2:=by
  rw [HWD.out]
  exact (Below.refl _ _).grown hgrow (by simp) (fun k hk=>by simp [Value.ownBlock] at hk;omega)
 have hWa:Bw W (W.alloc (.cells #[] 215)):=(Below.refl _ _).alloc (Nat.le_refl _) _
 have hW2:Below (w.heap.size+2) W w2:=(hWa.mono (by rw [HSW.out];exact Nat.le_refl _)).trans hgb
 have hO2:zGl w2 w.heap.size id la ki wi (.slice (some ⟨b,off,none⟩) n cap) lab pr:=(hW2.block _ (by omega)).trans HO.out
 have hT2:zC w2 (w.heap.size+1) 7:=zC.belowB' HT.out hW2 (by omega)
 have hB2:Bw w w2:=HB0.out.trans (hW2.mono (by omega))
 have hs2:w.heap.size+2<w2.heap.size∨True:=.inr trivial
 obtain ⟨⟨u0,u1,u2,u3,u4,u5,u6⟩,f4⟩:=hO2.cells
 have hlw:=hO2.lt
 have t0:=hT2.cell 0 (by omega)
 have t1:=hT2.cell 1 (by omega)
 have t2:=hT2.cell 2 (by omega)
 have t3:=hT2.cell 3 (by omega)
 have t4:=hT2.cell 4 (by omega)
 have t5:=hT2.cell 5 (by omega)
 have t6:=hT2.cell 6 (by omega)
 have z0:=(hT2 0 (by omega)).2
 have z1:=(hT2 1 (by omega)).2
 have z2:=(hT2 2 (by omega)).2
 have z3:=(hT2 3 (by omega)).2
 have z4:=(hT2 4 (by omega)).2
 have z5:=(hT2 5 (by omega)).2
 have z6:=(hT2 6 (by omega)).2
 have HT9:Hid (zC (w2.setCell ⟨w.heap.size,4,none⟩ v') (w.heap.size+1) 7):=zC.out hT2 (by omega)
 have HB9:Hid (Bw w w2):=hB2
 subst hv'
 clear hown' hgrow hgb hWa hW2 hO2 hT2 hB2 hs2
 go_wp2_with fail
 obtain ⟨y0,y1,y2,y3,y4,y5,y6⟩:=zJt (v0:=.int .i64 id) (v1:=.int .i64 la) (v2:=.int .i64 ki) (v3:=.int .i64 wi) (v4:=.slice a' n c') (v5:=.string lab) (v6:=.int .i64 pr) HT9.out
 exact bodyPost_ret (resC _ _ (w.heap.size+1) _ _ _ _ _ _ _ rfl y0 y1 y2 y3 y4 y5 y6) rfl ⟨a',c',rfl,((((((((HOWN.out.setB (by omega)).setB (by omega)).setB (by omega)).setB (by omega)).setB (by omega)).setB (by omega)).setB (by omega)).setB (by omega)),below7 (HB9.out.setCell (Nat.le_refl _) _) (Nat.le_succ _)⟩
theorem zIv (b n cap:Nat)(G:Nat→xG)(w:World)(hg:zJh w b 0 n G)(hbl:b<w.heap.size)(hn:n≤12)(hpos:∀ i,i<n→0<(G i).n)(hs:vX n G) :
  Calls Tryz.prog 165 #[.slice (some ⟨b,0,none⟩) n cap] w fun e w'=>∃ v H,e=.returned v∧v≠.slice none 0 0∧zA5 w.heap.size w' v H (List.range n)∧uM w.heap.size w' n G H∧Bw w w':=by
 obtain ⟨i0,hi,hz0,hz1,hz2⟩:=info_parts zKh
 have HG:Hid (zJh w b 0 n G):=hg
 have HPOS:Hid (∀ i,i<n→0<(G i).n):=hpos
 have HS:Hid (vX n G):=hs
 clear hg hpos hs
 go_enter Tryz.func165,Tryz.ntmps165
 go_wp2_with fail
 generalize hS0:(w.alloc _:World)=S0
 have hB0:Bw w S0:=by subst hS0;exact Qb
 have hO0:zA5 w.heap.size S0 (.slice (some ⟨w.heap.size,0,none⟩) 0 0) G (List.range 0):=by
  subst hS0
  exact World.ownsRow_lit (base:=w.heap.size) (e:=209) (size:=7) w #[] 0 (Nat.le_refl _) (Nat.zero_le _) rfl
 clear hS0
 go_loopw [3,4] (fun v i wr=>∃ (k:Nat) (H:Nat→xG),k≤n∧i=.int .i64 (k:Int)∧v≠.slice none 0 0∧zA5 w.heap.size wr v H (List.range k)∧uM w.heap.size wr k G H∧Bw w wr) (fun _ i _=>n - (intOf i).toNat)
 case atStart=>exact ⟨0,G,by omega,rfl,(by intro h;injection h with h;cases h),hO0,⟨fun i hi=>by omega,fun i j hi=>by omega⟩,hB0⟩
 case round =>
  obtain ⟨k,H,hk,rfl,hnn,hO,hC,hB⟩:=hrel
  have HNN:Hid (u3≠.slice none 0 0):=hnn
  clear hnn
  by_cases hlt:k<n
  ·have hblr:b<wr.heap.size:=Nat.lt_of_lt_of_le hbl hB.size
   obtain ⟨⟨f0,f1,f2,f3,f4,f5,f6⟩,hP⟩:=(HG.out.below hB hbl) k hlt
   simp only [Nat.zero_add] at f0 f1 f2 f3 f4 f5 f6
   have hp0:=HPOS.out k hlt
   obtain ⟨z1,z2⟩:=HS.out.2 k hlt
   obtain ⟨b',off',ha',hbl',hpt⟩:=hP.resolve_left (by omega)
   rw [ha'] at f4
   have HP:Hid (yW wr b' off' (G k).n (G k).X (G k).Y):=hpt
   have HO:Hid (zA5 w.heap.size wr u3 H (List.range k)):=hO
   have HC:Hid (uM w.heap.size wr k G H):=hC
   have HB:Hid (Bw w wr):=hB
   have HLT:Hid (k<n):=hlt
   clear hO hC hB hP hpt
   have hi':(k:Int)<(n:Int):=by omega
   go_wp2_with fail
   clear f0 f1 f2 f3 f4 f5 f6
   refine (zEz _ _ _ _ b' _ _ (G k).X (G k).Y _ _ wr HP.out hbl' z1).mono ?_
   rintro e w1 ⟨a1,c1,rfl,hR1,hb1⟩
   have hrV:Bw wr w1:=hb1
   have HR1:Hid (Row (wr.heap.size+1+1) w1 (.slice a1 (G k).n c1) (yT (G k).X (G k).Y (List.range (G k).n))):=hR1
   have HO1:Hid (zA5 w.heap.size w1 u3 H (List.range k)):=HO.out.below hb1
   have HB1:Hid (Bw w w1):=zB HB.out hrV
   have HrV:Hid (Bw wr w1):=hrV
   have hszw:=HB.out.size
   have hsz1:=hb1.size
   clear hR1 hrV hb1 HO HB
   have hlenr:(List.range k).length=k:=by simp
   go_wp2_with (first
    | (at_builtin;go_must (refine wpList_append_own _ rfl _ _ 137 rfl w.heap.size 209 i0 (.agg #[.int .i64 0,.int .i64 0,.int .i64 0,.int .i64 0,.slice none 0 0,.string ⟨#[]⟩,.int .i64 0]) 7 80 Tryz.underlying137 hi hz0 hz1 hz2 rfl (by decide) u3 k (yR H (List.range k)) rfl ?c6 ⟨w1.heap.size,0,none⟩ 1 1 (zBe { G k with a:=a1,cap:=c1 }) rfl ?c0 ?c1 ?c2 ?c3 ?c4 ?c5 ?_)))
   case c6 =>
    have:=HO1.out.below (by exact Qb:Below w1.heap.size w1 (w1.alloc (.cells #[.int .i64 (G k).id,.int .i64 (G k).la,.int .i64 (G k).ki,.int .i64 (G k).wi,.slice a1 (G k).n c1,.string (G k).lab,.int .i64 (G k).pr] 209)))
    unfold zA5 at this
    rw [hlenr] at this
    exact this
   case c0=>rfl
   case c1 =>
    intro q u hq
    have hq7:q<7:=(List.getElem?_eq_some_iff.1 hq).1
    have hc:q=0∨q=1∨q=2∨q=3∨q=4∨q=5∨q=6:=by omega
    rcases hc with rfl | rfl | rfl | rfl | rfl | rfl | rfl <;> (simp [zBe] at hq;subst hq;simp [Addr.add,go_sem])
   case c2=>exact zF7 _
   case c3=>unfold maxLen;omega
   case c4=>omega
   case c5=>simp;omega
   intro v' w3 hown' hgrow hnil
   have HN':Hid (v'≠.slice none 0 0):=hnil
   clear hnil
   have hO2:zA5 w.heap.size (w1.alloc (.cells #[.int .i64 (G k).id,.int .i64 (G k).la,.int .i64 (G k).ki,.int .i64 (G k).wi,.slice a1 (G k).n c1,.string (G k).lab,.int .i64 (G k).pr] 209)) u3 H (List.range k):=HO1.out.below (by exact Qb)
   have hR2:=HR1.out.below (by exact Qb:Below w1.heap.size w1 (w1.alloc (.cells #[.int .i64 (G k).id,.int .i64 (G k).la,.int .i64 (G k).ki,.int .i64 (G k).wi,.slice a1 (G k).n c1,.string (G k).lab,.int .i64 (G k).pr] 209)))
   have hb2:Bw wr (w1.alloc (.cells #[.int .i64 (G k).id,.int .i64 (G k).la,.int .i64 (G k).ki,.int .i64 (G k).wi,.slice a1 (G k).n c1,.string (G k).lab,.int .i64 (G k).pr] 209)):=HrV.out.alloc (by omega) _
   obtain ⟨hC1,hC2⟩:=HC.out
   have HF:Hid (zA5 w.heap.size w3 v' (fun i=>if i=k then { G k with a:=a1,cap:=c1 } else H i) (List.range (k+1))):=by
    show zA5 _ _ _ _ _
    unfold zA5
    have e1:yR (fun i=>if i=k then { G k with a:=a1,cap:=c1 } else H i) (List.range (k+1))=yR H (List.range k) ++ zBe { G k with a:=a1,cap:=c1 }:=by
     rw [List.range_succ,zEb,zD9,if_pos rfl]
     rw [uL (H':=H) (List.range k) (fun j hj=>by rw [if_neg];have:=List.mem_range.1 hj;omega)]
    rw [e1,List.length_range]
    exact hown'
   have HCn:Hid (uM w.heap.size w3 (k+1) G (fun i=>if i=k then { G k with a:=a1,cap:=c1 } else H i)):=by
    show uM _ _ _ _ _
    obtain ⟨g1,hg1,hg1',_⟩:=HR1.out.atP hp0
    refine ⟨fun i hi=>?_,fun i j hi hj e=>?_⟩
    ·by_cases e:i=k
     ·subst e
      simp only [if_pos]
      exact ⟨⟨rfl,rfl,rfl,rfl,rfl,rfl,rfl,rfl,rfl⟩,(hR2.keptF hO2 hgrow).wideB (by omega)⟩
     ·simp only [if_neg e]
      obtain ⟨s1,r1⟩:=hC1 i (by omega)
      exact ⟨s1,(r1.below hb2).keptF hO2 hgrow⟩
    ·have old:∀ i,i<k→(H i).a≠a1:=fun i hi e=>by
      obtain ⟨s1,r1⟩:=hC1 i hi
      have hnn:(H i).n=(G i).n:=s1.2.2.2.2.1
      rw [hnn] at r1
      obtain ⟨g,hg,_,hgl,_⟩:=r1.atP (HPOS.out i (by omega))
      rw [hg,hg1] at e
      injection e with e
      injection e with e
      omega
     by_cases ei:i=k <;> by_cases ej:j=k
     ·omega
     ·simp only [if_pos ei,if_neg ej] at e
      exact absurd e.symm (old j (by omega))
     ·simp only [if_neg ei,if_pos ej] at e
      exact absurd e (old i (by omega))
     ·simp only [if_neg ei,if_neg ej] at e
      exact hC2 i j (by omega) (by omega) e
   have HB3:Hid (Bw w w3):=(HB1.out.alloc (by omega) _).grown hgrow (by simp;omega) (fun g hg=>((World.ownsRow.lt (show World.ownsRow _ _ _ _ _ _ _ from hO2)) g hg).1)
   clear hown' hgrow hO2 hR2 hb2 hC1 hC2
   go_wp2
   go_roundw
   case rel=>exact ⟨k+1,_,by have:=HLT.out;omega,by go_num,HN'.out,HF.out,HCn.out,HB3.out⟩
   case measure=>have:=HLT.out;simp [intOf];omega
  ·go_wp2
   go_ret
   have hkn:k=n:=by omega
   subst hkn
   exact ⟨_,H,rfl,HNN.out,hO,hC,hB⟩
end Go.Proofs.YtpaiholildedcaaGreat
