/- Texts. -/
import Derived.Test.YtpaiholildedcaaGreatVFrameOf25
set_option linter.unusedSimpArgs false
set_option linter.unusedVariables false
set_option maxRecDepth 100000
set_option maxHeartbeats 32000000
namespace Go.Proofs.YtpaiholildedcaaGreat
open Go.RowKit
theorem zLz (a a':Option Addr)(n m cap cap':Nat)(I J:Nat→Int)(w:World)(hp:uE w a n I)(hq:uE w a' m J)(hn:n≤1048576) :
  Calls Tryz.prog 169 #[.slice a n cap,.slice a' m cap'] w fun e w'=>e=.returned (.bool (vI n m I J))∧Bw w w':=by
 have HP:Hid (uE w a n I):=hp
 have HQ:Hid (uE w a' m J):=hq
 clear hp hq
 by_cases hnm:n=m
 ·subst hnm
  go_enter Tryz.func169,Tryz.ntmps169
  go_wp2_with fail
  go_loopw [13] (fun i wr=>∃ k:Nat,k≤n∧i=.int .i64 (k:Int)∧(∀ j,j<k→I j=J j)∧Bw w wr) (fun i _=>n - (intOf i).toNat)
  case atStart=>exact ⟨0,by omega,rfl,fun j hj=>absurd hj (Nat.not_lt_zero _),Below.refl _ _⟩
  case round =>
   obtain ⟨k,hk,rfl,hno,hB⟩:=hrel
   have HN:Hid (∀ j,j<k→I j=J j):=hno
   have HB:Hid (Bw w wr):=hB
   by_cases hlt:k<n
   ·rcases HP.out with h0 | ⟨b,off,rfl,hb,hpt⟩
    ·omega
    rcases HQ.out with h0 | ⟨b',off',rfl,hb',hpt'⟩
    ·omega
    have q0:wr.cell? ⟨b,off+k,none⟩=some (.int .i64 (I k)):=(hB.cell (p:=⟨b,off+k,none⟩) hb).trans (hpt k hlt)
    have q1:wr.cell? ⟨b',off'+k,none⟩=some (.int .i64 (J k)):=(hB.cell (p:=⟨b',off'+k,none⟩) hb').trans (hpt' k hlt)
    have hi:(k:Int)<(n:Int):=by omega
    have hi0:(0:Int)≤(k:Int):=by omega
    clear hno hB hpt hpt'
    by_cases hE:I k=J k
    ·have HN2:Hid (∀ j,j<k+1→I j=J j):=fun j hj=>by
      by_cases e:j=k
      ·rw [e];exact hE
      ·exact HN.out j (by omega)
     rw [hE] at q0
     clear hE
     generalize J k=v at *
     go_wp2_with fail
     go_quiet (fail)
     go_wp2_with fail
     exact ⟨⟨k+1,by omega,by simp,HN2.out,below_drewN HB.out _⟩,by simp [intOf];omega⟩
    ·have HY:Hid (vI n n I J=false):=zJw hlt hE
     generalize I k=u at *
     generalize J k=v at *
     have hcb:(u == v)=false:=by simpa using hE
     go_wp2_with fail
     go_quiet (fail)
     go_wp2
     go_ret
     exact ⟨zF HY.out.symm,below_drewN HB.out _⟩
   ·obtain rfl:n=k:=by omega
    have HY:Hid (vI n n I J=true):=zGt HN.out
    go_wp2
    go_ret
    exact ⟨zF HY.out.symm,HB.out⟩
 ·have HY:Hid (vI n m I J=false):=zCx hnm
  have hne:((n:Int) == (m:Int))=false:=by simp;omega
  have hne2:¬ ((n:Int)=(m:Int)):=by omega
  go_enter Tryz.func169,Tryz.ntmps169
  go_wp2
  go_ret
  exact ⟨zF HY.out.symm,Below.refl _ _⟩
theorem zOl {z:Int}(h0:-1000000≤z)(h1:z≤1000000):I64 z:=by
 show (decide (_≤_) && decide (_≤_))=true
 rw [Bool.and_eq_true,decide_eq_true_eq,decide_eq_true_eq]
 have e0:IntKind.i64.min=-9223372036854775808:=by decide
 have e1:IntKind.i64.max=9223372036854775807:=by decide
 rw [e0,e1]
 omega
theorem zCz {z x y:Int}(h:xV z x y=true):I64 z∧I64 x∧I64 y:=by
 unfold xV yM inB at h
 simp at h
 obtain ⟨⟨h1,h2⟩,⟨h3,h4⟩,h5,h6⟩:=h
 have hz:z=0∨z=1∨z=2∨z=3:=by omega
 have hl:vC z≤7:=by rcases hz with rfl | rfl | rfl | rfl <;> decide
 exact ⟨zOl (by omega) (by omega),zOl (by omega) (by omega),zOl (by omega) (by omega)⟩
theorem zMw {k:Kp}(h:rtC k.z k.x k.y k.fn k.F=0):xV k.z k.x k.y=true:=by
 rcases vT k.z k.x k.y with ⟨_,h2⟩ | ⟨h1,_⟩
 ·exact h2
 ·unfold rtC at h;simp [h1] at h
noncomputable def fK (D:DataW Value)(k:Kp):Int:=if tC k=0 then (if Maps.has D (zBj k.z k.x k.y)=true then 6 else 0) else tC k
theorem zD3 (p mb n:Nat)(s t:Int)(D:DataW Value)(k:Kp)(fb:Nat)(w:World)(hp:ShA w p s t mb)(hm:w.ownsMap Tryz.prog 111 RV mb n D)(hf:k.fa=some ⟨fb,0,none⟩)(hfl:fb<w.heap.size)(hft:zAc w fb 0 k.fn k.F)(hids:uE w k.ia k.m k.I)(hs:vH k)(hcap:k.fn≤k.fc) :
  Calls Tryz.prog 123 #[.pointer (some ⟨p,0,none⟩),kpV k] w fun e w'=>e=.returned (.int .i64 (fK D k))∧Bw w w':=by
 have HP:Hid (ShA w p s t mb):=hp
 have HM:Hid (w.ownsMap Tryz.prog 111 RV mb n D):=hm
 have HI:Hid (uE w k.ia k.m k.I):=hids
 have hkm:k.m≤1048576:=hs.2
 have HR:Hid (∀ W,Bw w W→Calls Tryz.prog 168 #[.agg #[.int .i64 k.z,.int .i64 k.x,.int .i64 k.y,.slice k.fa k.fn k.fc]] W fun e w'=>∃ v,e=.returned (.agg #[.int .i64 (rtC k.z k.x k.y k.fn k.F),v])∧uM w' W.heap.size v (rtL k.z k.x k.y k.fn k.F).length (nz (rtL k.z k.x k.y k.fn k.F))∧Bw W w'):=fun W h=>by
  rw [hf]
  exact zAy k.z k.x k.y fb k.fn k.fc k.F W (hft.below h hfl) (Nat.lt_of_lt_of_le hfl h.size) hs.1 hcap
 have HRef:Hid (rtC k.z k.x k.y k.fn k.F=0→xV k.z k.x k.y=true):=zMw
 have HV:Hid (∀ B,vI k.m (rtL k.z k.x k.y k.fn k.F).length k.I (nz (rtL k.z k.x k.y k.fn k.F))=B→rtC k.z k.x k.y k.fn k.F=0→fK D k=if B=true then (if Maps.has D (zBj k.z k.x k.y)=true then 6 else 0) else 8):=fun B hB h0=>by
  cases B
  ·unfold fK;rw [zCh h0 hB];rfl
  ·unfold fK;rw [tC_ok h0 hB];rfl
 have HV0:Hid (rtC k.z k.x k.y k.fn k.F≠0→fK D k=rtC k.z k.x k.y k.fn k.F):=fun h=>by unfold fK;rw [zMx h,if_neg h]
 clear hp hm hids hs hft hfl hf hcap
 generalize fK D k=FC at *
 generalize (rtL k.z k.x k.y k.fn k.F).length=RN at *
 generalize nz (rtL k.z k.x k.y k.fn k.F)=RZ at *
 generalize rtC k.z k.x k.y k.fn k.F=rc at *
 obtain ⟨kz,kx,ky,fa,fn,fc,KF,ia,m,ic,KI⟩:=k
 simp only at HI hkm HR HRef HV HV0
 go_enter Tryz.func123,Tryz.ntmps123
 go_wp2_with fail
 generalize hW:(w.alloc _:World)=W
 have HB0:Hid (Bw w W):=by show Below _ _ _;subst hW;exact Qb
 have HK:Hid (RK W w.heap.size kz kx ky∧W.cell? ⟨w.heap.size,4,none⟩=some (.slice ia m ic)):=by
  show _∧_;subst hW;refine ⟨⟨?_,?_,?_⟩,?_⟩ <;> simp [go_sem]
 have hkl:w.heap.size<W.heap.size:=World.block_lt_of_cell? _ _ HK.out.2
 clear hW
 refine Calls.mono (HR.out W HB0.out) ?_
 rintro e w1 ⟨v,rfl,hrow,hb1⟩
 obtain ⟨va,vc,rfl,hvc,hvn⟩:=hrow.pts
 have HN:Hid (uE w1 va RN RZ):=hvn
 have HB1:Hid (Bw W w1):=hb1
 clear hrow hvn hb1 HR
 by_cases h0:rc=0
 ·subst h0
  have HF:Hid (∀ B,vI m RN KI RZ=B→FC=if B=true then (if Maps.has D (zBj kz kx ky)=true then 6 else 0) else 8):=fun B hB=>HV.out B hB rfl
  obtain ⟨iz,ix,iy⟩:=zCz (HRef.out rfl)
  have HIz:Hid (I64 kz∧I64 kx∧I64 ky):=⟨iz,ix,iy⟩
  clear HV HV0 HRef iz ix iy
  have hkl1:w.heap.size<w1.heap.size:=Nat.lt_of_lt_of_le hkl HB1.out.size
  have g4:∀ o,(w1.alloc o).cell? ⟨w.heap.size,4,none⟩=some (.slice ia m ic):=fun o=>by
   rw [World.cell?_alloc_old _ _ _ (Nat.ne_of_lt hkl1)]
   exact (HB1.out.cell (p:=⟨w.heap.size,4,none⟩) hkl).trans HK.out.2
  go_wp2_with fail
  generalize hW2:(w1.alloc _:World)=W2
  have HB2:Hid (Bw w1 W2):=by show Below _ _ _;subst hW2;exact Qb
  clear hW2 g4
  have HBW:Hid (Bw w W2):=zA HB0.out (zA HB1.out HB2.out)
  have HKW:Hid (RK W2 w.heap.size kz kx ky):=HK.out.1.below (zA HB1.out HB2.out)
  refine Calls.mono (zLz ia va m RN ic vc KI RZ W2 (HI.out.below HBW.out) (HN.out.below HB2.out) hkm) ?_
  rintro e w3 ⟨rfl,hb3⟩
  have HB3:Hid (Bw w w3):=zA HBW.out hb3
  obtain ⟨r0,r1,r2⟩:=HKW.out.below hb3
  clear hb3
  obtain ⟨B,hB⟩:∃ B,vI m RN KI RZ=B:=⟨_,rfl⟩
  have hFC:=HF.out B hB
  rw [hB]
  cases B
  ·have HFC:Hid (FC=8):=hFC
   clear hFC
   go_wp2
   go_ret
   exact ⟨zD HFC.out.symm,HB3.out⟩
  ·have HH:Hid (Calls Tryz.prog 81 #[.pointer (some ⟨p,0,none⟩),xD kz kx ky] w3 fun e w'=>e=.returned (.bool (Maps.has D (zBj kz kx ky)))∧Bw w3 w') :=
    uS p mb n s t D kz kx ky w3 (HP.out.below HB3.out) (yN HM.out HB3.out) HIz.out.1 HIz.out.2.1 HIz.out.2.2
   generalize Maps.has D (zBj kz kx ky)=B at *
   cases B
   ·have HFC:Hid (FC=0):=hFC
    clear hFC
    go_wp2_with (go_at_call 81;refine HH.out.mono ?_;rintro e w' ⟨rfl,hb⟩)
    go_ret
    exact ⟨zD HFC.out.symm,zA HB3.out (by assumption)⟩
   ·have HFC:Hid (FC=6):=hFC
    clear hFC
    go_wp2_with (go_at_call 81;refine HH.out.mono ?_;rintro e w' ⟨rfl,hb⟩)
    go_ret
    exact ⟨zD HFC.out.symm,zA HB3.out (by assumption)⟩
 ·have HFC:Hid (FC=rc):=HV0.out h0
  have hcb:(rc == 0)=false:=by simpa using h0
  have HBW:Hid (Bw w w1):=zA HB0.out HB1.out
  clear HV HV0 HRef
  go_wp2
  go_ret
  exact ⟨zD HFC.out.symm,by have:=HBW.out;exact Qb⟩
theorem rt_same {z x y:Int}{n:Nat}{G F:Nat→yD}(h:∀ i,i<n→(G i).same (F i)):rtC z x y n G=rtC z x y n F∧rtL z x y n G=rtL z x y n F:=by
 have e1:zT n G=zT n F:=zJg h
 have e2:zD5 n G=zD5 n F:=by
  unfold zD5
  rw [decide_eq_decide]
  refine forall_congr' fun i=>forall_congr' fun hi=>?_
  have a:=h i (by omega)
  have b:=h (i+1) (by omega)
  have e:ltF (G i) (G (i+1))=ltF (F i) (F (i+1)):=by unfold ltF;rw [a.1,a.2.1,b.1,b.2.1]
  rw [e]
 have e3:rtC z x y n G=rtC z x y n F:=by unfold rtC;rw [e1,e2]
 have e4:yA G n z=yA F n z:=by
  funext X Y
  unfold yA
  have:∀ k,k≤n→xF (fun i=>zL4 z (zV z X) (zV z Y) (G i)) (fun i=>(G i).id) k=xF (fun i=>zL4 z (zV z X) (zV z Y) (F i)) (fun i=>(F i).id) k:=fun k hk=>by
   induction k with
   | zero=>rfl
   | succ k ih =>
    obtain ⟨i1,i2,i3,i4,i5,i6,i7,i8,i9⟩:=h k (by omega)
    have ec:zL4 z (zV z X) (zV z Y) (G k)=zL4 z (zV z X) (zV z Y) (F k):=by unfold zL4;rw [i3,i4,i5,i6,i7]
    rw [xF,xF,ih (by omega),ec,i1]
  exact this n (Nat.le_refl _)
 exact ⟨e3,by unfold rtL;rw [e3,e4]⟩
end Go.Proofs.YtpaiholildedcaaGreat
