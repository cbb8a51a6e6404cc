/- Texts. -/
import Derived.Test.YtpaiholildedcaaGreatVLabelsIn25
import Derived.Test.YtpaiholildedcaaGreatVLabelsIn26
set_option linter.unusedSimpArgs false
set_option linter.unusedVariables false
set_option maxRecDepth 100000
set_option maxHeartbeats 32000000
namespace Go.Proofs.YtpaiholildedcaaGreat
open Go.RowKit
def CaO (w:World)(q o:Nat)(s:Int)(v:Value):Prop:=w.cell? ⟨q,o,none⟩=some (.int .i64 s)∧w.cell? ⟨q,o+1,none⟩=some v
theorem CaO.below {w w':World}{q o:Nat}{s:Int}{v:Value}(h:CaO w q o s v)(hb:Below w.heap.size w w'):CaO w' q o s v :=
 have hl:=World.block_lt_of_cell? _ _ h.1
 ⟨(hb.cell (p:=⟨q,o,none⟩) hl).trans h.1,(hb.cell (p:=⟨q,o+1,none⟩) hl).trans h.2⟩
theorem zEb (q o:Nat)(s:Int)(a:Option Addr)(n cap:Nat)(K:Nat→Kp)(z x y:Int)(w:World)(hc:CaO w q o s (.slice a n cap))(hp:zDn w a n K)(hn:n≤1048576) :
  Calls Tryz.prog 68 #[.pointer (some ⟨q,o,none⟩),uL z x y] w fun e w'=>e=.returned (.int .i64 (atK n K z x y))∧Bw w w':=by
 have HP:Hid (zDn w a n K):=hp
 have HC:Hid (CaO w q o s (.slice a n cap)):=hc
 clear hp hc
 go_enter Tryz.func68,Tryz.ntmps68
 go_wp2_with fail
 generalize hW:(w.alloc _:World)=W
 have HB0:Hid (Bw w W):=by show Below _ _ _;subst hW;exact Qb
 have HR:Hid (RK W w.heap.size z x y):=by show RK _ _ _ _ _;subst hW;exact ⟨by simp [go_sem],by simp [go_sem],by simp [go_sem]⟩
 clear hW
 go_loopw [5] (fun i wr=>∃ k:Nat,k≤n∧i=.int .i64 (k:Int)∧(∀ j,j<k→isK (K j) z x y=false)∧Bw W wr) (fun i _=>n - (intOf i).toNat)
 case atStart=>exact ⟨0,by omega,rfl,fun j hj=>absurd hj (Nat.not_lt_zero _),Below.refl _ _⟩
 case round =>
  obtain ⟨k,hk,rfl,hno,hB⟩:=hrel
  have HN:Hid (∀ j,j<k→isK (K j) z x y=false):=hno
  have HB:Hid (Bw W wr):=hB
  obtain ⟨m0,m1⟩:=HC.out.below (zA HB0.out hB)
  by_cases hlt:k<n
  ·rcases HP.out with h0 | ⟨b,off,rfl,hb,hpt⟩
   ·omega
   obtain ⟨q0,q1,q2,q3,q4⟩:=((hpt.below (zA HB0.out hB) hb) k hlt).1
   obtain ⟨p0,p1,p2⟩:=HR.out.below hB
   have hi:(k:Int)<(n:Int):=by omega
   have hi0:(0:Int)≤(k:Int):=by omega
   have heq:=fun w=>zEq (K k).z (K k).x (K k).y z x y w
   clear hno hB hpt
   have hE0:((K k).z == z && ((K k).x == x && (K k).y == y))=isK (K k) z x y:=rfl
   simp only [hE0] at heq
   clear hE0
   cases hE:isK (K k) z x y
   ·simp only [hE] at heq
    have HN2:Hid (∀ j,j<k+1→isK (K j) z x y=false):=fun j hj=>by
     by_cases e:j=k
     ·rw [e];exact hE
     ·exact HN.out j (by omega)
    clear hE
    generalize (K k).z=rz at *
    generalize (K k).x=rx at *
    generalize (K k).y=ry at *
    go_wp2_with fail
    go_quiet (fail)
    go_wp2_with fail
    exact ⟨⟨k+1,by omega,by simp,HN2.out,below_drewN HB.out _⟩,by simp [intOf];omega⟩
   ·simp only [hE] at heq
    have HY:Hid (atK n K z x y=(k:Int)):=yP (G:=fun i=>isK (K i) z x y) hlt hE HN.out
    clear hE
    generalize (K k).z=rz at *
    generalize (K k).x=rx at *
    generalize (K k).y=ry at *
    go_wp2_with fail
    go_quiet (fail)
    go_wp2
    go_ret
    exact ⟨zE HY.out.symm,below_drewN (zA HB0.out HB.out) _⟩
  ·obtain rfl:n=k:=by omega
   have HY:Hid (atK n K z x y=-1):=vQ (G:=fun i=>isK (K i) z x y) HN.out
   go_wp2
   go_ret
   exact ⟨zE HY.out.symm,zA HB0.out HB.out⟩
theorem zI6 (q o:Nat)(s:Int)(b n cap:Nat)(A:Nat→Kp)(w:World)(hc:CaO w q o s (.slice (some ⟨b,0,none⟩) n cap))(ha:zB0 w b n A)(hs:zL n A) :
  Calls Tryz.prog 89 #[.pointer (some ⟨q,o,none⟩)] w fun e w'=>e=.returned (.int .i64 (cacheC s n A))∧Bw w w':=by
 have HA:Hid (zB0 w b n A):=ha
 have HC:Hid (CaO w q o s (.slice (some ⟨b,0,none⟩) n cap)):=hc
 have HS:Hid (zL n A):=hs
 have hn:n≤1048576:=hs.1
 obtain ⟨p0,p1⟩:=hc
 clear ha hs
 cases hin:inB s 1 10
 ·have hz:Hid (cacheC s n A=3):=by show _=_;unfold cacheC;rw [hin];rfl
  go_enter Tryz.func89,Tryz.ntmps89
  go_wp2_with (go_at_call 32;refine (zO _ _ _ _).mono ?_;rintro e w' ⟨rfl,h'⟩;subst w')
  go_ret
  exact ⟨zE hz.out.symm,Qb⟩
 by_cases hsn:s<(n:Int)
 ·have hz:Hid (cacheC s n A=2):=by show _=_;unfold cacheC;rw [if_pos hin,if_pos hsn]
  have hw:IntKind.i64.wrap (n:Int)=(n:Int):=IntWalk.i64_in _ (by omega)
  go_enter Tryz.func89,Tryz.ntmps89
  go_wp2_with (go_at_call 32;refine (zO _ _ _ _).mono ?_;rintro e w' ⟨rfl,h'⟩;subst w')
  go_quiet (fail)
  go_wp2
  go_ret
  exact ⟨zE hz.out.symm,below_drewN (Below.refl _ _) _⟩
 ·have hz:Hid (cacheC s n A=yR (kC A) 0 n):=by show _=_;unfold cacheC;rw [if_pos hin,if_neg hsn]
  have hw:IntKind.i64.wrap (n:Int)=(n:Int):=IntWalk.i64_in _ (by omega)
  go_enter Tryz.func89,Tryz.ntmps89
  go_wp2_with (go_at_call 32;refine (zO _ _ _ _).mono ?_;rintro e w' ⟨rfl,h'⟩;subst w')
  go_quiet (fail)
  go_wp2_with fail
  go_loopw [3] (fun v wr=>∃ k:Nat,k≤n∧v=.int .i64 k∧(∀ j,j<k→kC A j=0)∧Bw w wr) (fun v _=>n - (intOf v).toNat)
  case atStart=>exact ⟨0,by omega,rfl,by omega,below_drewN (Below.refl _ _) _⟩
  case round =>
   obtain ⟨k,hk,rfl,hA,hB⟩:=hrel
   have HB:Hid (Bw w wr):=hB
   have HZ:Hid (∀ j,j<k→kC A j=0):=hA
   obtain ⟨m0,m1⟩:=HC.out.below hB
   clear p0 p1 hA
   by_cases hlt:k<n
   ·have HLT:Hid (k<n):=hlt
    have first:Hid (∀ c,kC A k=c→c≠0→cacheC s n A=c):=fun c hc h0=>by
     rw [hz.out,zU (kC A) n 0 k (fun j _ hj=>HZ.out j hj) (by omega) (by have:=HLT.out;omega) (by rw [hc];exact h0),hc]
    have HOK:Hid (kC A k=0→∀ j,j<k+1→kC A j=0):=fun h0 j hj=>by
     by_cases e:j=k
     ·rw [e];exact h0
     ·exact HZ.out j (by omega)
    have HR:Hid (zB0 wr b n A):=HA.out.below hB
    obtain ⟨⟨q0,q1,q2,q3,q4⟩,⟨fb,ef,hfl,hft⟩,hids⟩:=HR.out.2 k hlt
    rw [ef] at q3
    have HL8:Hid (Calls Tryz.prog 139 #[.pointer (some ⟨b,k * 5,none⟩)] wr fun e w'=>e=.returned (.int .i64 (rtC (A k).z (A k).x (A k).y (A k).fn (A k).F))∧Bw wr w') :=
     zNr b (k * 5) _ _ _ fb (A k).fn (A k).fc (A k).F wr ⟨q0,q1,q2,q3⟩ hft hfl (HS.out.2 k hlt).1
    have hi:(k:Int)<(n:Int):=by omega
    have hi0:(0:Int)≤(k:Int):=by omega
    clear hB hft hids
    by_cases hC:rtC (A k).z (A k).x (A k).y (A k).fn (A k).F=0
    ·rw [hC] at HL8
     go_wp2_with fail
     refine HL8.out.mono ?_
     rintro e w1 ⟨rfl,hb1⟩
     have HB1:Hid (Bw w w1):=zA HB.out hb1
     have HR1:Hid (zB0 w1 b n A):=HR.out.below hb1
     have hC0:Hid (rtC (A k).z (A k).x (A k).y (A k).fn (A k).F=0):=hC
     have HRas:Hid (∀ W,Bw w1 W→Calls Tryz.prog 141 #[.pointer (some ⟨b,k * 5,none⟩)] W fun e w'=>∃ v,e=.returned v∧zAq W.heap.size w' v (rtL (A k).z (A k).x (A k).y (A k).fn (A k).F)∧Bw W w'):=fun W hW=>by
      obtain ⟨hr,hf,_⟩:=zGz hC0.out
      obtain ⟨h12,hok⟩:=zEp hf
      obtain ⟨⟨r0,r1,r2,r3,r4⟩,⟨gb,eg,hgl,hgt⟩,_⟩:=(HR1.out.below hW).2 k HLT.out
      rw [eg] at r3
      rw [show rtL (A k).z (A k).x (A k).y (A k).fn (A k).F=_ from if_pos hC0.out]
      exact zIz b (k * 5) _ _ _ gb (A k).fn (A k).fc (A k).F W ⟨r0,r1,r2,r3⟩ hgt hgl h12 hok hr
     obtain ⟨B,hBB0⟩:∃ B,vW (A k).m (rtL (A k).z (A k).x (A k).y (A k).fn (A k).F).length (A k).I (nz (rtL (A k).z (A k).x (A k).y (A k).fn (A k).F))=B:=⟨_,rfl⟩
     have hBB:Hid (vW (A k).m (rtL (A k).z (A k).x (A k).y (A k).fn (A k).F).length (A k).I (nz (rtL (A k).z (A k).x (A k).y (A k).fn (A k).F))=B):=hBB0
     have HSm:Hid (∀ W,Bw w1 W→∀ va vc,zCi W va (rtL (A k).z (A k).x (A k).y (A k).fn (A k).F).length (nz (rtL (A k).z (A k).x (A k).y (A k).fn (A k).F))→Calls Tryz.prog 140 #[.slice (A k).ia (A k).m (A k).ic,.slice va (rtL (A k).z (A k).x (A k).y (A k).fn (A k).F).length vc] W fun e w'=>e=.returned (.bool B)∧Bw W w'):=fun W hW va vc hv=>by
      rw [← hBB.out]
      exact zK8 _ va _ _ _ vc _ _ W ((HR1.out.below hW).2 k HLT.out).2.2 hv (HS.out.2 k HLT.out).2
     have d4:∀ W,Bw w1 W→W.cell? ⟨b,k * 5+4,none⟩=some (.slice (A k).ia (A k).m (A k).ic):=fun W hW=>((HR1.out.below hW).2 k HLT.out).1.2.2.2.2
     clear q0 q1 q2 q3 q4 m0 m1 hC hBB0 HL8 hb1
     go_wp2_with fail
     refine wp_region_noPanic ?_
     refine wp_region_held_drew (S:=fun W'=>Bw w1 W') (by kernel_rfl) (by have:=Below.refl w1.heap.size w1;exact Qb) (fun hHeld=>?_)
     have hSd:Bw w1 w1.drew:=hHeld
     refine zC (i:=0) (d:=some 44) rfl rfl (hS:=hSd) ?_
     try simp only [Act.put,Qx,Qy,Qz]
     refine zC (i:=1) (d:=some 45) rfl rfl (hS:=hSd) ?_
     try simp only [Act.put,Qx,Qy,Qz]
     refine zC (i:=2) (d:=some 46) rfl rfl (hS:=hSd) ?_
     try simp only [Act.put,Qx,Qy,Qz]
     refine zC (i:=3) (d:=some 47) rfl rfl (hS:=hSd) ?_
     try simp only [Act.put,Qx,Qy,Qz]
     refine zC (i:=4) (d:=some 48) rfl rfl (hS:=hSd) ?_
     try simp only [Act.put,Qx,Qy,Qz]
     refine zC (i:=5) (d:=some 49) rfl rfl (hS:=hSd) ?_
     try simp only [Act.put,Qx,Qy,Qz]
     refine zC (i:=6) (d:=some 50) rfl rfl (hS:=hSd) ?_
     try simp only [Act.put,Qx,Qy,Qz]
     refine zN 7 fun K hK=>?_
     rw [if_pos (by rfl)]
     go_simp
     refine Calls.mono (HRas.out _ hSd) ?_
     rintro e wB ⟨v,rfl,hrow,hbB⟩
     have hSB:Bw w1 wB:=zA hSd hbB
     obtain ⟨va,vc,rfl,hvc,hvn⟩:=hrow.own.pts
     have HSm2:=(show Hid _ from HSm.out wB hSB va vc hvn)
     clear hrow hvn hvc
     go_wp2_with fail
     refine hK.out _ _ hSB (fun hHeld=>?_)
     clear hK K hbB
     try simp only [Act.put,Qx,Qy,Qz]
     refine zN 8 fun K hK=>?_
     rw [if_pos (by rfl)]
     go_simp
     refine Calls.mono HSm2.out ?_
     rintro e wC ⟨rfl,hbC⟩
     have hSC:Bw w1 wC:=zA hSB hbC
     go_wp2_with fail
     refine hK.out _ _ hSC (fun hHeld=>?_)
     clear hK K hbC HSm2
     try simp only [Act.put,Qx,Qy,Qz]
     refine zC (i:=9) (d:=some 53) rfl rfl (hS:=hSC) ?_
     try simp only [Act.put,Qx,Qy,Qz]
     refine wpAnyH_done (by kernel_rfl) ?_ _
     refine NoPanic.normal ?_
     have HC3:Hid (Bw w wC):=zA HB1.out hSC
     have HR3:Hid (zB0 wC b n A):=HR1.out.below hSC
     clear d4 HRas HSm hSB hSd hSC
     cases B
     ·have hsc:Hid (cacheC s n A=8):=first.out 8 ((zTg (by rw [zGt hC0.out hBB.out];decide)).trans (zGt hC0.out hBB.out)) (by decide)
      go_wp2
      go_ret
      exact ⟨zE hsc.out.symm,HC3.out⟩
     ·have ht0:Hid (tC (A k)=0):=tC_ok hC0.out hBB.out
      have HH:Hid (Calls Tryz.prog 68 #[.pointer (some ⟨q,o,none⟩),uL (A k).z (A k).x (A k).y] wC fun e w'=>e=.returned (.int .i64 (atK n A (A k).z (A k).x (A k).y))∧Bw wC w') :=
       zEb q o s _ n cap A _ _ _ wC (HC.out.below HC3.out) HR3.out.is hn
      obtain ⟨g0,g1,g2,g3,g4⟩:=(HR3.out.2 k HLT.out).1
      clear g3 g4
      rcases zS1 HLT.out with ⟨hq,hq2⟩ | ⟨hq,i,hik,hq2⟩
      ·have hok:Hid (kC A k=0):=kC_ok ht0.out hq
       rw [hq2] at HH
       clear hq hq2
       generalize (A k).z=rz at *
       generalize (A k).x=rx at *
       generalize (A k).y=ry at *
       go_wp2_with (go_at_call 68;refine HH.out.mono ?_;rintro e w' ⟨rfl,hb⟩)
       go_roundw
       case rel=>exact ⟨k+1,by have:=HLT.out;omega,by go_num,HOK.out hok.out,zA HC3.out (by assumption)⟩
       case measure=>have:=HLT.out;simp [intOf];omega
      ·have hsc:Hid (cacheC s n A=6):=first.out 6 (zSf ht0.out hq) (by decide)
       have hne:((i:Int) == (k:Int))=false:=by simp;omega
       rw [hq2] at HH
       clear hq hq2
       generalize (A k).z=rz at *
       generalize (A k).x=rx at *
       generalize (A k).y=ry at *
       generalize (i:Int)=ii at *
       clear hik
       go_wp2_with (go_at_call 68;refine HH.out.mono ?_;rintro e w' ⟨rfl,hb⟩)
       go_ret
       exact ⟨zE hsc.out.symm,zA HC3.out (by assumption)⟩
    ·have hsc:Hid (cacheC s n A=rtC (A k).z (A k).x (A k).y (A k).fn (A k).F):=first.out _ ((zTg (by rw [zO0 hC];exact hC)).trans (zO0 hC)) hC
     have hcb:(rtC (A k).z (A k).x (A k).y (A k).fn (A k).F == 0)=false:=by simpa using hC
     generalize rtC (A k).z (A k).x (A k).y (A k).fn (A k).F=rc at *
     go_wp2_with fail
     refine HL8.out.mono ?_
     rintro e w1 ⟨rfl,hb1⟩
     go_wp2
     go_ret
     exact ⟨zE hsc.out.symm,zA HB.out hb1⟩
   ·have hsc:Hid (cacheC s n A=0):=by
     show _=_
     rw [hz.out]
     exact yT _ _ _ (fun j _ hj=>HZ.out j (by omega))
    go_wp2
    go_ret
    exact ⟨zE hsc.out.symm,HB.out⟩
def VkW (w:World)(lo hi b n:Nat)(A:Nat→Kp)(rb rn:Nat):Prop:=∃ M,lo≤b∧KsW w b n A M∧M n≤rb∧rb<hi∧hi≤w.heap.size∧zD w rb (rn * 5)
theorem VkW.below {w w':World}{lo hi b n rb rn:Nat}{A:Nat→Kp}(h:VkW w lo hi b n A rb rn)(hb:Below w.heap.size w w'):VkW w' lo hi b n A rb rn:=by
 obtain ⟨M,h1,h2,h3,h4,h5,h6⟩:=h
 exact ⟨M,h1,h2.below hb,h3,h4,Nat.le_trans h5 hb.size,h6.below hb⟩
theorem zH8 (z x y wd ht now s:Int)(a:Option Addr)(n cap:Nat)(K:Nat→Kp)(ra:Option Addr)(rn rc:Nat)(E:Nat→Req)(bad:Int)(w:World)(hk:zDn w a n K)(hs:zL n K)(hr:zAn w ra rn E)(hrn:rn≤1048576) :
  Calls Tryz.prog 15 #[vwV z x y wd ht now s (.slice a n cap) (.slice ra rn rc) bad] w fun e w'=>∃ b A rb,e=.returned (vwV z x y wd ht now s (.slice (some ⟨b,0,none⟩) n n) (.slice (some ⟨rb,0,none⟩) rn rn) bad)∧w.heap.size≤b∧w.heap.size≤rb∧zH0 w' b n K A rb rn E∧VkW w' w.heap.size w'.heap.size b n A rb rn∧Bw w w':=by
 have HP:Hid (zDn w a n K):=hk
 have HS:Hid (zL n K):=hs
 have HR:Hid (zAn w ra rn E):=hr
 clear hk hs hr
 go_enter Tryz.func15,Tryz.ntmps15
 go_wp2_with fail
 generalize hW:(((w.alloc _).alloc _).alloc _:World)=W
 have HB0:Hid (Bw w W):=by show Below _ _ _;subst hW;exact Qb
 have HV:Hid (Blk W w.heap.size [.int .i64 z,.int .i64 x,.int .i64 y,.int .i64 wd,.int .i64 ht,.int .i64 now,.int .i64 s,.slice a n cap,.slice ra rn rc,.int .i64 bad]):=by
  show Blk _ _ _;subst hW
  exact ((Blk.new w _ _).alloc (by simp) _).alloc (by simp;omega) _
 have HU:Hid (Blk W (w.heap.size+1) [.int .i64 0,.int .i64 0,.int .i64 0,.int .i64 0,.int .i64 0,.int .i64 0,.int .i64 0,.slice none 0 0,.slice none 0 0,.int .i64 0]):=by
  show Blk _ _ _;subst hW
  have:=(Blk.new (w.alloc (.cells #[.int .i64 z,.int .i64 x,.int .i64 y,.int .i64 wd,.int .i64 ht,.int .i64 now,.int .i64 s,.slice a n cap,.slice ra rn rc,.int .i64 bad] 44)) [.int .i64 0,.int .i64 0,.int .i64 0,.int .i64 0,.int .i64 0,.int .i64 0,.int .i64 0,.slice none 0 0,.slice none 0 0,.int .i64 0] 31).alloc (by simp) (.cells #[.int .i64 0,.int .i64 0,.int .i64 0,.int .i64 0,.int .i64 0,.int .i64 0,.int .i64 0,.slice none 0 0,.slice none 0 0,.int .i64 0] 31)
  simpa using this
 have HO:Hid (Blk W (w.heap.size+1+1) [.int .i64 0,.int .i64 0,.int .i64 0,.int .i64 0,.int .i64 0,.int .i64 0,.int .i64 0,.slice none 0 0,.slice none 0 0,.int .i64 0]):=by
  show Blk _ _ _;subst hW
  have:=Blk.new ((w.alloc (.cells #[.int .i64 z,.int .i64 x,.int .i64 y,.int .i64 wd,.int .i64 ht,.int .i64 now,.int .i64 s,.slice a n cap,.slice ra rn rc,.int .i64 bad] 44)).alloc (.cells #[.int .i64 0,.int .i64 0,.int .i64 0,.int .i64 0,.int .i64 0,.int .i64 0,.int .i64 0,.slice none 0 0,.slice none 0 0,.int .i64 0] 31)) [.int .i64 0,.int .i64 0,.int .i64 0,.int .i64 0,.int .i64 0,.int .i64 0,.int .i64 0,.slice none 0 0,.slice none 0 0,.int .i64 0] 31
  simpa using this
 clear hW
 refine (zIc z x y wd ht W).mono ?_
 rintro e w1 ⟨rfl,hb1⟩
 have HB1:Hid (Bw w w1):=zA HB0.out hb1
 have HV1:Hid (Blk w1 w.heap.size [.int .i64 z,.int .i64 x,.int .i64 y,.int .i64 wd,.int .i64 ht,.int .i64 now,.int .i64 s,.slice a n cap,.slice ra rn rc,.int .i64 bad]):=HV.out.below HV.out.lt hb1
 have HU1:Hid (Blk w1 (w.heap.size+1) [.int .i64 0,.int .i64 0,.int .i64 0,.int .i64 0,.int .i64 0,.int .i64 0,.int .i64 0,.slice none 0 0,.slice none 0 0,.int .i64 0]):=HU.out.below HU.out.lt hb1
 have hO1:=HO.out.below HO.out.lt hb1
 have HO1:Hid (Blk w1 (w.heap.size+1+1) [.int .i64 0,.int .i64 0,.int .i64 0,.int .i64 0,.int .i64 0,.int .i64 0,.int .i64 0,.slice none 0 0,.slice none 0 0,.int .i64 0]):=hO1
 obtain ⟨d0,d1,d2,d3,d4,d5,d6,d7,d8,d9⟩:=Blk.c10 HV1.out
 obtain ⟨t0,t1,t2,t3,t4,t5,t6,t7,t8,t9⟩:=Blk.c10 hO1
 obtain ⟨f0,f1,f2,f3,f4,f5,f6,f7,f8,f9⟩:=Blk.f10 hO1
 clear hb1 hO1 HV HU HO HB0
 go_wp2_with fail
 generalize hW2:(World.setCell _ _ _:World)=W2
 have HB2:Hid (Bw w W2):=by show Below _ _ _;subst hW2;exact ((((((HB1.out.setCell (le2 _) _).setCell (le2 _) _).setCell (le2 _) _).setCell (le2 _) _).setCell (le2 _) _).setCell (le2 _) _)
 have HV2:Hid (Blk W2 w.heap.size [.int .i64 z,.int .i64 x,.int .i64 y,.int .i64 wd,.int .i64 ht,.int .i64 now,.int .i64 s,.slice a n cap,.slice ra rn rc,.int .i64 bad]):=by show Blk _ _ _;subst hW2;exact ((((((HV1.out.other (by omega)).other (by omega)).other (by omega)).other (by omega)).other (by omega)).other (by omega))
 have HU2:Hid (Blk W2 (w.heap.size+1) [.int .i64 0,.int .i64 0,.int .i64 0,.int .i64 0,.int .i64 0,.int .i64 0,.int .i64 0,.slice none 0 0,.slice none 0 0,.int .i64 0]):=by show Blk _ _ _;subst hW2;exact ((((((HU1.out.other (by omega)).other (by omega)).other (by omega)).other (by omega)).other (by omega)).other (by omega))
 have HO2:Hid (Blk W2 (w.heap.size+1+1) [.int .i64 z,.int .i64 x,.int .i64 y,.int .i64 wd,.int .i64 ht,.int .i64 now,.int .i64 0,.slice none 0 0,.slice none 0 0,.int .i64 0]):=by show Blk _ _ _;subst hW2;exact ((((((HO1.out.set 0 _).set 1 _).set 2 _).set 3 _).set 4 _).set 5 _)
 clear hW2 HV1 HU1 HO1 HB1 d0 t0 f0 d1 t1 f1 d2 t2 f2 d3 t3 f3 d4 t4 f4 d5 t5 f5 d6 t6 f6 d7 t7 f7 d8 t8 f8 d9 t9 f9
 refine (zKg s a n cap K W2 (HP.out.below HB2.out) HS.out).mono ?_
 rintro e w3 ⟨b,A,rfl,hge3,hOK3,⟨M,hKW3⟩,hb3⟩
 have HKW3:Hid (KsW w3 b n A M):=hKW3
 clear hKW3
 have hbb:w.heap.size+1+1<b:=Nat.lt_of_lt_of_le HO2.out.lt hge3
 have HK3:Hid (yB w3 (b+1) b n K A):=hOK3
 have HB3:Hid (Bw w w3):=zA HB2.out hb3
 have HV3:Hid (Blk w3 w.heap.size [.int .i64 z,.int .i64 x,.int .i64 y,.int .i64 wd,.int .i64 ht,.int .i64 now,.int .i64 s,.slice a n cap,.slice ra rn rc,.int .i64 bad]):=HV2.out.below HV2.out.lt hb3
 have HU3:Hid (Blk w3 (w.heap.size+1) [.int .i64 0,.int .i64 0,.int .i64 0,.int .i64 0,.int .i64 0,.int .i64 0,.int .i64 0,.slice none 0 0,.slice none 0 0,.int .i64 0]):=HU2.out.below HU2.out.lt hb3
 have hO3:=HO2.out.below HO2.out.lt hb3
 have HO3:Hid (Blk w3 (w.heap.size+1+1) [.int .i64 z,.int .i64 x,.int .i64 y,.int .i64 wd,.int .i64 ht,.int .i64 now,.int .i64 0,.slice none 0 0,.slice none 0 0,.int .i64 0]):=hO3
 obtain ⟨d0,d1,d2,d3,d4,d5,d6,d7,d8,d9⟩:=Blk.c10 HV3.out
 obtain ⟨t0,t1,t2,t3,t4,t5,t6,t7,t8,t9⟩:=Blk.c10 hO3
 obtain ⟨f0,f1,f2,f3,f4,f5,f6,f7,f8,f9⟩:=Blk.f10 hO3
 clear hb3 hO3 hOK3 HV2 HU2 HO2 HB2 hge3
 go_wp2_with fail
 generalize hW4:(World.setCell _ _ _:World)=W4
 have HB4:Hid (Bw w W4):=by show Below _ _ _;subst hW4;exact ((HB3.out.setCell (le2 _) _).setCell (le2 _) _)
 have HV4:Hid (Blk W4 w.heap.size [.int .i64 z,.int .i64 x,.int .i64 y,.int .i64 wd,.int .i64 ht,.int .i64 now,.int .i64 s,.slice a n cap,.slice ra rn rc,.int .i64 bad]):=by show Blk _ _ _;subst hW4;exact ((HV3.out.other (by omega)).other (by omega))
 have HU4:Hid (Blk W4 (w.heap.size+1) [.int .i64 0,.int .i64 0,.int .i64 0,.int .i64 0,.int .i64 0,.int .i64 0,.int .i64 0,.slice none 0 0,.slice none 0 0,.int .i64 0]):=by show Blk _ _ _;subst hW4;exact ((HU3.out.other (by omega)).other (by omega))
 have HO4:Hid (Blk W4 (w.heap.size+1+1) [.int .i64 z,.int .i64 x,.int .i64 y,.int .i64 wd,.int .i64 ht,.int .i64 now,.int .i64 s,.slice (some ⟨b,0,none⟩) n n,.slice none 0 0,.int .i64 0]):=by show Blk _ _ _;subst hW4;exact ((HO3.out.set 6 _).set 7 _)
 have HM4:Hid (zW w.heap.size (w.heap.size+1+1+1) w3 W4):=by show zW _ _ _ _;subst hW4;exact (((zW.refl _ _ _).set (by omega) (by omega) _ _).set (by omega) (by omega) _ _)
 have HK4:Hid (yB W4 (b+1) b n K A):=HK3.out.mid (C:=0) HM4.out (by omega)
 have HKW4:Hid (KsW W4 b n A M):=HKW3.out.mid HM4.out (.inl (by omega))
 clear hW4 HV3 HU3 HO3 HB3 HK3 HM4 HKW3 d0 t0 f0 d1 t1 f1 d2 t2 f2 d3 t3 f3 d4 t4 f4 d5 t5 f5 d6 t6 f6 d7 t7 f7 d8 t8 f8 d9 t9 f9
 refine (zE6 ra rn rc E W4 (HR.out.below HB4.out) hrn).mono ?_
 rintro e w5 ⟨rb,rfl,hge5,hlt5,hW5,hT5,hb5⟩
 have HT5:Hid (zD w5 rb (rn * 5)):=hT5
 have hMr:M n≤rb:=Nat.le_trans HKW4.out.2.2.2 hge5
 have HKW5:Hid (KsW w5 b n A M):=HKW4.out.below hb5
 clear hT5 HKW4
 have hrb:w.heap.size+1+1<rb:=Nat.lt_of_lt_of_le HO4.out.lt hge5
 have HW5:Hid (zGl w5 rb 0 rn E):=hW5
 have HK5:Hid (yB w5 (b+1) b n K A):=HK4.out.below hb5
 have HB5:Hid (Bw w w5):=zA HB4.out hb5
 have HV5:Hid (Blk w5 w.heap.size [.int .i64 z,.int .i64 x,.int .i64 y,.int .i64 wd,.int .i64 ht,.int .i64 now,.int .i64 s,.slice a n cap,.slice ra rn rc,.int .i64 bad]):=HV4.out.below HV4.out.lt hb5
 have hU5:=HU4.out.below HU4.out.lt hb5
 have HU5:Hid (Blk w5 (w.heap.size+1) [.int .i64 0,.int .i64 0,.int .i64 0,.int .i64 0,.int .i64 0,.int .i64 0,.int .i64 0,.slice none 0 0,.slice none 0 0,.int .i64 0]):=hU5
 have hO5:=HO4.out.below HO4.out.lt hb5
 have HO5:Hid (Blk w5 (w.heap.size+1+1) [.int .i64 z,.int .i64 x,.int .i64 y,.int .i64 wd,.int .i64 ht,.int .i64 now,.int .i64 s,.slice (some ⟨b,0,none⟩) n n,.slice none 0 0,.int .i64 0]):=hO5
 have d9:=HV5.out.cell 9 rfl
 obtain ⟨t0,t1,t2,t3,t4,t5,t6,t7,t8,t9⟩:=Blk.c10 hO5
 obtain ⟨f0,f1,f2,f3,f4,f5,f6,f7,f8,f9⟩:=Blk.f10 hO5
 obtain ⟨u0,u1,u2,u3,u4,u5,u6,u7,u8,u9⟩:=Blk.c10 hU5
 obtain ⟨g0,g1,g2,g3,g4,g5,g6,g7,g8,g9⟩:=Blk.f10 hU5
 clear hb5 hO5 hU5 hW5 HV4 HU4 HO4 HB4 HK4 hge5
 go_wp2_with fail
 generalize hW6:(World.setCell _ _ _:World)=W6
 have HB6:Hid (Bw w W6):=by show Below _ _ _;subst hW6;exact ((((((((((((HB5.out.setCell (le2 _) _).setCell (le2 _) _).setCell (Nat.le_succ _) _).setCell (Nat.le_succ _) _).setCell (Nat.le_succ _) _).setCell (Nat.le_succ _) _).setCell (Nat.le_succ _) _).setCell (Nat.le_succ _) _).setCell (Nat.le_succ _) _).setCell (Nat.le_succ _) _).setCell (Nat.le_succ _) _).setCell (Nat.le_succ _) _)
 have HU6:Hid (Blk W6 (w.heap.size+1) [.int .i64 z,.int .i64 x,.int .i64 y,.int .i64 wd,.int .i64 ht,.int .i64 now,.int .i64 s,.slice (some ⟨b,0,none⟩) n n,.slice (some ⟨rb,0,none⟩) rn rn,.int .i64 bad]):=by show Blk _ _ _;subst hW6;exact ((((((((((((HU5.out.other (by omega)).other (by omega)).set 0 _).set 1 _).set 2 _).set 3 _).set 4 _).set 5 _).set 6 _).set 7 _).set 8 _).set 9 _)
 have HM6:Hid (zW w.heap.size (w.heap.size+1+1+1) w5 W6):=by show zW _ _ _ _;subst hW6;exact (((((((((((((zW.refl _ _ _).set (by omega) (by omega) _ _).set (by omega) (by omega) _ _).set (by omega) (by omega) _ _).set (by omega) (by omega) _ _).set (by omega) (by omega) _ _).set (by omega) (by omega) _ _).set (by omega) (by omega) _ _).set (by omega) (by omega) _ _).set (by omega) (by omega) _ _).set (by omega) (by omega) _ _).set (by omega) (by omega) _ _).set (by omega) (by omega) _ _)
 clear hW6
 refine bodyPost_ret (resTV rfl HU6.out) rfl ⟨b,A,rb,rfl,by omega,by omega,⟨HK5.out.mid (C:=0) HM6.out (by omega),Nat.lt_of_lt_of_le hlt5 HM6.out.size,fun i hi=>?_⟩,⟨M,by omega,HKW5.out.mid HM6.out (.inl (by omega)),hMr,Nat.lt_of_lt_of_le hlt5 HM6.out.size,Nat.le_refl _,HM6.out.there HT5.out (.inr (by omega))⟩,HB6.out⟩
 obtain ⟨q0,q1,q2,q3,q4⟩:=HW5.out i hi
 exact ⟨HM6.out.cell q0 (.inr (by omega)),HM6.out.cell q1 (.inr (by omega)),HM6.out.cell q2 (.inr (by omega)),HM6.out.cell q3 (.inr (by omega)),HM6.out.cell q4 (.inr (by omega))⟩
theorem zFh (s:Int)(g n cap k0:Nat)(R:Nat→Kp)(M:Nat→Nat)(w:World)(hW:KsW w g n R M)(hs:zL n R)(h0:0<k0)(hk0:k0≤1000000000) :
  Calls Tryz.prog 52 #[caV s (.slice (some ⟨g,0,none⟩) n cap),.int .i64 (k0:Int)] w fun e w'=>e=.returned (.int .i64 ((kK R k0 n:Nat):Int))∧KsM w' g n R M k0∧zW g (M n) w w':=by
 have HM:Hid (∀ V,Bw w V→Calls Tryz.prog 101 #[.slice (some ⟨g,0,none⟩) n cap,.int .i64 (k0:Int)] V fun e w'=>e=.returned (.int .i64 ((kK R k0 n:Nat):Int))∧KsM w' g n R M k0∧zW g (M n) V w'):=fun V h=>zG6 g n cap k0 R M V (hW.below h) hs h0 hk0
 clear hW hs h0 hk0
 generalize hq:kK R k0 n=q at *
 go_enter Tryz.func52,Tryz.ntmps52
 go_wp2_with fail
 generalize hV:(w.alloc _:World)=V
 have HB:Hid (Bw w V):=by show Below _ _ _;subst hV;exact Qb
 clear hV
 refine Calls.mono (HM.out V HB.out) ?_
 rintro e w1 ⟨rfl,h1,h2⟩
 have H1:Hid (KsM w1 g n R M k0):=h1
 have H2:Hid (zW g (M n) w w1):=(zW.of_below HB.out).trans h2
 clear h1 h2
 go_wp2
 go_ret
 exact ⟨rfl,H1.out,H2.out⟩
theorem zFd (z x y wd ht now s:Int)(lo hi b n:Nat)(A:Nat→Kp)(rb rn:Nat)(bad:Int)(w:World)(h:VkW w lo hi b n A rb rn)(hs:zL n A)(hrn:rn≤1048576) :
  Calls Tryz.prog 19 #[vwV z x y wd ht now s (.slice (some ⟨b,0,none⟩) n n) (.slice (some ⟨rb,0,none⟩) rn rn) bad,.int .i64 1] w fun e w'=>(∃ q:Nat,e=.returned (.int .i64 (q:Int)))∧zW lo hi w w':=by
 obtain ⟨M,h1,h2,h3,h4,h5,h6⟩:=h
 have hsm:=(zHg (k0:=1) hs (by omega) (Nat.le_refl n)).2
 have hbM:b<M 0∧M 0≤M n:=⟨h2.2.1,upM (fun j hj=>(h2.2.2.1 j hj).1) (Nat.zero_le n) (Nat.le_refl _)⟩
 have HM:Hid (∀ V,Bw w V→Calls Tryz.prog 52 #[caV s (.slice (some ⟨b,0,none⟩) n n),.int .i64 1] V fun e w'=>e=.returned (.int .i64 ((kK A 1 n:Nat):Int))∧KsM w' b n A M 1∧zW b (M n) V w'):=fun V h=>zFh s b n n 1 A M V (h2.below h) hs (by omega) (by omega)
 have HT:Hid (zD w rb (rn * 5)):=h6
 clear h2 h6 hs
 generalize hq:kK A 1 n=Q at *
 clear hq
 go_enter Tryz.func19,Tryz.ntmps19
 go_wp2_with fail
 generalize hV:(w.alloc _:World)=V
 have HB:Hid (Bw w V):=by show Below _ _ _;subst hV;exact Qb
 have HBk:Hid (Blk V w.heap.size [.int .i64 z,.int .i64 x,.int .i64 y,.int .i64 wd,.int .i64 ht,.int .i64 now,.int .i64 s,.slice (some ⟨b,0,none⟩) n n,.slice (some ⟨rb,0,none⟩) rn rn,.int .i64 bad]):=by show Blk _ _ _;subst hV;exact Blk.new _ _ _
 clear hV
 refine Calls.mono (HM.out V HB.out) ?_
 rintro e w1 ⟨rfl,_,h7⟩
 have c8:w1.cell? ⟨w.heap.size,8,none⟩=some (.slice (some ⟨rb,0,none⟩) rn rn):=h7.cell (HBk.out.cell 8 rfl) (.inr (by omega))
 have HT1:Hid (zD w1 rb (rn * 5)):=h7.there (HT.out.below HB.out) (.inr (by omega))
 have HM1:Hid (zW lo hi w w1):=(zW.of_below HB.out).trans (h7.wide h1 (by omega))
 clear h7 HM HBk
 have HR:=(show Hid _ from zD3 rb rn rn Q w1 HT1.out hrn (by omega))
 go_wp2_with fail
 refine Calls.mono HR.out ?_
 rintro e w2 ⟨rfl,hg,_,_⟩
 have HM2:Hid (zW lo hi w w2):=HM1.out.trans (zW.of_grown hg (by omega) h4)
 clear hg HR HM1 c8
 generalize Q+5 * rn=q2 at *
 go_wp2
 go_ret
 exact ⟨⟨q2,rfl⟩,HM2.out⟩
end Go.Proofs.YtpaiholildedcaaGreat
