/- Texts. -/
import Derived.Test.YtpaiholildedcaaGreatVNewViewer8
import Derived.Test.YtpaiholildedcaaGreatVNewViewer11
set_option linter.unusedSimpArgs false
set_option linter.unusedVariables false
set_option maxRecDepth 100000
set_option maxHeartbeats 32000000
namespace Go.Proofs.YtpaiholildedcaaGreat
open Go.RowKit
def hasR (R:Rfs)(z x y:Int):Nat→Bool
 | 0=>false
 | n+1=>hasR R z x y n || ((R.z n == z) && ((R.x n == x) && (R.y n == y)))
theorem zHc {R:Rfs}{z x y:Int}:∀ {n:Nat},(∀ i,i<n→((R.z i == z) && ((R.x i == x) && (R.y i == y)))=false)→hasR R z x y n=false
 | 0,_=>rfl
 | n+1,h=>by rw [hasR,zHc (fun i hi=>h i (by omega)),h n (by omega)];rfl
theorem zE4 {R:Rfs}{z x y:Int}:∀ {n i:Nat},i<n→((R.z i == z) && ((R.x i == x) && (R.y i == y)))=true→hasR R z x y n=true
 | n+1,i,hi,h=>by
  rw [hasR]
  by_cases e:i=n
  ·subst e;rw [h];simp
  ·rw [zE4 (n:=n) (by omega) h];rfl
theorem zI0 (a:Option Addr)(n cap:Nat)(R:Rfs)(z x y:Int)(w:World)(hp:zC4 w a n R)(hn:n≤1048576) :
  Calls Tryz.prog 213 #[.slice a n cap,xK z x y] w fun e w'=>(∃ k:Int,e=.returned (.int .i64 k)∧decide (0≤k)=hasR R z x y n)∧Bw w w':=by
 have HP:Hid (zC4 w a n R):=hp
 clear hp
 go_enter Tryz.func213,Tryz.ntmps213
 go_wp2_with fail
 generalize hW:(w.alloc _:World)=W
 have HB0:Hid (Bw w W):=by show Below _ _ _;subst hW;exact Qb
 have HV:Hid (vH W w.heap.size z x y):=by show vH _ _ _ _ _;subst hW;exact ⟨by simp [go_sem],by simp [go_sem],by simp [go_sem]⟩
 clear hW
 go_loopw [8] (fun i wr=>∃ k:Nat,k≤n∧i=.int .i64 (k:Int)∧(∀ j,j<k→((R.z j == z) && ((R.x j == x) && (R.y j == y)))=false)∧Bw W wr) (fun i _=>n - (intOf i).toNat)
 case atStart=>exact ⟨0,by omega,rfl,fun j hj=>absurd hj (Nat.not_lt_zero _),Below.refl _ _⟩
 case round =>
  obtain ⟨k,hk,rfl,hno,hB⟩:=hrel
  have HN:Hid (∀ j,j<k→((R.z j == z) && ((R.x j == x) && (R.y j == y)))=false):=hno
  have HB:Hid (Bw W wr):=hB
  obtain ⟨p0,p1,p2⟩:=HV.out.below hB
  by_cases hlt:k<n
  ·rcases HP.out with h0 | ⟨b,off,rfl,hb,hpt⟩
   ·omega
   obtain ⟨q0,q1,q2⟩:=(hpt.below (zB HB0.out hB) hb) k hlt
   have hi:(k:Int)<(n:Int):=by omega
   have hi0:(0:Int)≤(k:Int):=by omega
   have heq:=fun w=>zCv z x y (R.z k) (R.x k) (R.y k) w
   rw [zLd] at heq
   clear hno hB hpt
   cases hE:((R.z k == z) && ((R.x k == x) && (R.y k == y)))
   ·rw [hE] at heq
    have HN2:Hid (∀ j,j<k+1→((R.z j == z) && ((R.x j == x) && (R.y j == y)))=false):=fun j hj=>by
     by_cases e:j=k
     ·rw [e];exact hE
     ·exact HN.out j (by omega)
    clear hE
    generalize R.z k=rz at *
    generalize R.x k=rx at *
    generalize R.y k=ry at *
    go_wp2_with fail
    go_quiet (fail)
    go_wp2_with fail
    exact ⟨⟨k+1,by omega,by simp,HN2.out,below_drewN HB.out _⟩,by simp [intOf];omega⟩
   ·rw [hE] at heq
    have HY:Hid (hasR R z x y n=true):=zE4 hlt hE
    clear hE
    generalize R.z k=rz at *
    generalize R.x k=rx at *
    generalize R.y k=ry at *
    go_wp2_with fail
    go_quiet (fail)
    go_wp2
    go_ret
    exact ⟨⟨(k:Int),rfl,by rw [HY.out];simp⟩,below_drewN (zB HB0.out HB.out) _⟩
  ·obtain rfl:n=k:=by omega
   have HY:Hid (hasR R z x y n=false):=zHc HN.out
   go_wp2
   go_ret
   exact ⟨⟨-1,rfl,by rw [HY.out];simp⟩,zB HB0.out HB.out⟩
theorem zFa (a:Option Addr)(n cap:Nat)(R:Rfs)(z x y:Int)(w:World)(hp:zC4 w a n R)(hn:n≤1048576) :
  Calls Tryz.prog 173 #[.slice a n cap,xK z x y] w fun e w'=>e=.returned (.bool (hasR R z x y n))∧Bw w w':=by
 have HI:Hid (∀ W,Bw w W→Calls Tryz.prog 213 #[.slice a n cap,xK z x y] W fun e w'=>(∃ k:Int,e=.returned (.int .i64 k)∧decide (0≤k)=hasR R z x y n)∧Bw W w'):=fun W h=>zI0 a n cap R z x y W (hp.below h) hn
 clear hp
 generalize hasR R z x y n=B at *
 go_enter Tryz.func173,Tryz.ntmps173
 go_wp2_with fail
 generalize hW:(w.alloc _:World)=W
 have HB0:Bw w W:=by subst hW;exact Qb
 clear hW
 refine (HI.out _ HB0).mono ?_
 rintro e w1 ⟨⟨k,rfl,hk⟩,hb1⟩
 have HK:Hid (decide (0≤k)=B):=hk
 clear hk
 go_wp2
 go_ret
 exact ⟨xO HK.out,zB HB0 hb1⟩
theorem zIu (b n:Nat)(R:Rfs)(z x y:Int)(w:World)(hn:n≤1048576)(hL:∀ W,Bw w W→Calls Tryz.prog 67 #[.pointer (some ⟨b,0,none⟩)] W fun e w'=>∃ v,e=.returned v∧zBn W.heap.size w' v n R∧Bw W w') :
  Calls Tryz.prog 91 #[.pointer (some ⟨b,0,none⟩),xK z x y] w fun e w'=>e=.returned (.bool (hasR R z x y n))∧Bw w w':=by
 have HL:Hid (∀ W,Bw w W→Calls Tryz.prog 67 #[.pointer (some ⟨b,0,none⟩)] W fun e w'=>∃ v,e=.returned v∧zBn W.heap.size w' v n R∧Bw W w'):=hL
 clear hL
 go_enter Tryz.func91,Tryz.ntmps91
 go_wp2_with fail
 generalize hW:(w.alloc _:World)=W
 have HB0:Hid (Bw w W):=by show Below _ _ _;subst hW;exact Qb
 have HV:Hid (vH W w.heap.size z x y):=by show vH _ _ _ _ _;subst hW;exact ⟨by simp [go_sem],by simp [go_sem],by simp [go_sem]⟩
 clear hW
 refine (HL.out _ HB0.out).mono ?_
 rintro e w1 ⟨v,rfl,hO,hb1⟩
 obtain ⟨a0,cap0,hv,hc0,hcase⟩:=hO.own
 subst hv
 have HP:Hid (zC4 w1 a0 n R):=by
  rcases hcase with h | ⟨g,ha,h1,h2,h3,_⟩
  ·exact .inl h
  ·exact .inr ⟨g,0,ha,h2,h3⟩
 have HV1:Hid (vH w1 w.heap.size z x y):=HV.out.below hb1
 have HB1:Hid (Bw w w1):=zB HB0.out hb1
 clear hcase hO hb1 HV HB0 HL
 go_wp2_with fail
 go_loopw [6] (fun i wr=>∃ k:Nat,k≤n∧i=.int .i64 (k:Int)∧(∀ j,j<k→((R.z j == z) && ((R.x j == x) && (R.y j == y)))=false)∧Bw w1 wr) (fun i _=>n - (intOf i).toNat)
 case atStart=>exact ⟨0,by omega,rfl,fun j hj=>absurd hj (Nat.not_lt_zero _),Below.refl _ _⟩
 case round =>
  obtain ⟨k,hk,rfl,hno,hB⟩:=hrel
  have HN:Hid (∀ j,j<k→((R.z j == z) && ((R.x j == x) && (R.y j == y)))=false):=hno
  have HB:Hid (Bw w1 wr):=hB
  obtain ⟨p0,p1,p2⟩:=HV1.out.below hB
  by_cases hlt:k<n
  ·rcases HP.out with h0 | ⟨g,off,rfl,hb,hpt⟩
   ·omega
   obtain ⟨q0,q1,q2⟩:=(hpt.below hB hb) k hlt
   have hi:(k:Int)<(n:Int):=by omega
   have hi0:(0:Int)≤(k:Int):=by omega
   have heq:=fun w=>zCv (R.z k) (R.x k) (R.y k) z x y w
   clear hno hB hpt
   cases hE:((R.z k == z) && ((R.x k == x) && (R.y k == y)))
   ·rw [hE] at heq
    have HN2:Hid (∀ j,j<k+1→((R.z j == z) && ((R.x j == x) && (R.y j == y)))=false):=fun j hj=>by
     by_cases e:j=k
     ·rw [e];exact hE
     ·exact HN.out j (by omega)
    clear hE
    generalize R.z k=rz at *
    generalize R.x k=rx at *
    generalize R.y k=ry at *
    go_wp2_with fail
    go_quiet (fail)
    go_wp2_with fail
    exact ⟨⟨k+1,by omega,by simp,HN2.out,below_drewN HB.out _⟩,by simp [intOf];omega⟩
   ·rw [hE] at heq
    have HY:Hid (hasR R z x y n=true):=zE4 hlt hE
    clear hE
    generalize R.z k=rz at *
    generalize R.x k=rx at *
    generalize R.y k=ry at *
    go_wp2_with fail
    go_quiet (fail)
    go_wp2
    go_ret
    exact ⟨xO (by rw [HY.out]),below_drewN (zB HB1.out HB.out) _⟩
  ·obtain rfl:n=k:=by omega
   have HY:Hid (hasR R z x y n=false):=zHc HN.out
   go_wp2
   go_ret
   exact ⟨xO (by rw [HY.out]),zB HB1.out HB.out⟩
theorem zE3 (g n cap k0:Nat)(R:Nat→Kp)(M:Nat→Nat)(w:World)(hW:KsM w g n R M k0)(hs:yE n R)(h0:0<k0)(hk0:k0≤1000000000) :
  Calls Tryz.prog 137 #[.slice (some ⟨g,0,none⟩) n cap,.int .i64 (k0:Int)] w fun e w'=>e=.returned (.int .i64 ((kK R k0 n:Nat):Int))∧Bw w w':=by
 have HS:Hid (yE n R):=hs
 have hn:n≤1048576:=hs.1
 have HW:Hid (KsM w g n R M k0):=hW
 clear hs hW
 go_enter Tryz.func137,Tryz.ntmps137
 go_wp2_with fail
 go_loopw [1,5] (fun kk i wr=>∃ j K:Nat,j≤n∧Hid (K=kK R k0 j)∧kk=.int .i64 (K:Int)∧i=.int .i64 (j:Int)∧Bw w wr) (fun _ i _=>n - (intOf i).toNat)
 case atStart=>exact ⟨0,k0,by omega,rfl,rfl,rfl,Below.refl _ _⟩
 case round =>
  obtain ⟨j,K,hj,HK,rfl,rfl,hB⟩:=hrel
  have HB:Hid (Bw w wr):=hB
  by_cases hlt:j<n
  ·have hKb:K≤2400000000000000000:=by have:=HK.out;have:=(zB8 HS.out hk0 (j:=j) (by omega)).2;omega
   have hK0:0<K:=by have:=HK.out;have:=(zB8 HS.out hk0 (j:=j) (by omega)).1;omega
   have hsm:=HS.out.2 j hlt
   have hWr:=HW.out.below hB
   obtain ⟨_,hS2,hR3,md,m1,m2,m3,m4,m5⟩:=hWr.2.2 j hlt
   rw [← HK.out] at hR3 m4 m5
   obtain ⟨c0,c1,c2⟩:=hR3
   obtain ⟨c3,c4⟩:=hS2
   have hi:(j:Int)<(n:Int):=by omega
   have hi0:(0:Int)≤(j:Int):=by omega
   have e3:(K:Int)+1+1+1=((K+3:Nat):Int):=by omega
   have e2:(K:Int)+1+1=((K+2:Nat):Int):=by omega
   have e1:(K:Int)+1=((K+1:Nat):Int):=by omega
   rw [← e1] at c1
   rw [← e2] at c2
   have E:=(show Hid _ from e3)
   clear e1 e2 e3
   have HF:Hid (∀ W,Bw wr W→Calls Tryz.prog 182 #[.slice (R j).fa (R j).fn (R j).fc,.int .i64 ((K+3:Nat):Int)] W fun e w'=>e=.returned (.int .i64 ((kS (ptN (R j)) (K+3) (R j).fn:Nat):Int))∧Bw W w'):=fun W h =>
    zHb (M j) md _ _ _ (K+3) _ _ W (m4.mid (zI.of_below (lo:=md) (hi:=md) h) (.inr (Nat.le_refl _))) (by have:=h.size;omega) hsm.1.1 (fun i hi=>(hsm.1.2 i hi).1) (by omega) (by omega)
   have HI:Hid (∀ W,Bw wr W→Calls Tryz.prog 55 #[.slice (R j).ia (R j).m (R j).ic,.int .i64 ((kS (ptN (R j)) (K+3) (R j).fn:Nat):Int)] W fun e w'=>e=.returned (.int .i64 ((kS (ptN (R j)) (K+3) (R j).fn+(R j).m:Nat):Int))∧Bw W w'):=fun W h=>by
    refine (zDo (R j).ia (R j).m (R j).ic (kS (ptN (R j)) (K+3) (R j).fn) W ?_ hsm.2 (by have:=(zB7 (k:=K+3) hsm).2;omega)).mono ?_
    ·rcases m5 with h0 | ⟨ib,e,a,b,c⟩
     ·exact .inl h0
     ·exact .inr ⟨ib,0,e,by have:=h.size;omega,c.below h (by omega)⟩
    ·rintro e w' ⟨rfl,hw⟩
     exact ⟨rfl,by first | exact hw | (subst hw;exact Below.refl _ _)⟩
   have HSS:Hid (kS (ptN (R j)) (K+3) (R j).fn≤6000000000000000000):=by show _≤_;have:=(zB7 (k:=K+3) hsm).2;omega
   have HNx:Hid (kS (ptN (R j)) (K+3) (R j).fn+(R j).m=kK R k0 (j+1)):=by show _=_;rw [kK,← HK.out];rfl
   have hm2:(R j).m≤1048576:=hsm.2
   clear hWr m3 m4 m5 m1 m2 hsm hB
   go_wp2_with fail
   rw [E.out]
   refine (HF.out _ (Below.refl _ _)).mono ?_
   rintro e w5 ⟨rfl,hb5⟩
   have HB5:Hid (Bw wr w5):=hb5
   have d4:=zFb hb5 c4
   have hSS:=HSS.out
   have HI5:=(show Hid _ from HI.out w5 hb5)
   clear hb5 c0 c1 c2 c3 c4 HF HI HSS
   generalize kS (ptN (R j)) (K+3) (R j).fn=Q at *
   go_wp2_with fail
   refine Calls.mono HI5.out ?_
   rintro e w6 ⟨rfl,hb6⟩
   have HB6:Hid (Bw w w6):=zB HB.out (zB HB5.out hb6)
   clear hb6 HI5 d4 HB5
   generalize hm:(R j).m=mm at *
   have hq0:¬ (((Q+mm:Nat):Int)<0):=by omega
   go_wp2_with fail
   go_roundw
   case rel=>exact ⟨j+1,Q+mm,by omega,by show _=_;exact HNx.out,rfl,by go_num,HB6.out⟩
   case measure=>simp [intOf];omega
  ·go_wp2
   go_ret
   have hjn:j=n:=by omega
   subst hjn
   exact ⟨zH (by have:=HK.out;omega),HB.out⟩
end Go.Proofs.YtpaiholildedcaaGreat
