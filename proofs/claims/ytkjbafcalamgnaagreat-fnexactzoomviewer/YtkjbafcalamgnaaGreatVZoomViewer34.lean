/- Texts. -/
import Derived.Test.YtkjbafcalamgnaaGreatVZoomViewer33
import Derived.Test.YtkjbafcalamgnaaGreatVZoomViewer30
set_option linter.unusedSimpArgs false
set_option linter.unusedVariables false
set_option maxRecDepth 100000
set_option maxHeartbeats 32000000
namespace Go.Proofs.YtkjbafcalamgnaaGreat
open Go.RowKit
theorem zSx (a a':Option Addr)(n m cap cap':Nat)(I J:Nat→Int)(w:World)(hp:zCq w a n I)(hq:zCq w a' m J)(hn:n≤1048576) :
  Calls Tryz.prog 163 #[.slice a n cap,.slice a' m cap'] w fun e w'=>e=.returned (.bool (uS n m I J))∧Bw w w':=by
 have HP:Hid (zCq w a n I):=hp
 have HQ:Hid (zCq w a' m J):=hq
 clear hp hq
 by_cases hnm:n=m
 ·subst hnm
  go_enter Tryz.func163,Tryz.ntmps163
  go_wp2_with fail
  go_loopw [13] (fun i wr=>∃ k:Nat,k≤n∧i=.int .i64 (k:Int)∧(∀ j,j<k→I j=J j)∧Bw w wr) (fun i _=>n - (intOf i).toNat)
  case atStart=>exact ⟨0,by omega,rfl,fun j hj=>absurd hj (Nat.not_lt_zero _),Below.refl _ _⟩
  case round =>
   obtain ⟨k,hk,rfl,hno,hB⟩:=hrel
   have HN:Hid (∀ j,j<k→I j=J j):=hno
   have HB:Hid (Bw w wr):=hB
   by_cases hlt:k<n
   ·rcases HP.out with h0 | ⟨b,off,rfl,hb,hpt⟩
    ·omega
    rcases HQ.out with h0 | ⟨b',off',rfl,hb',hpt'⟩
    ·omega
    have q0:wr.cell? ⟨b,off+k,none⟩=some (.int .i64 (I k)):=(hB.cell (p:=⟨b,off+k,none⟩) hb).trans (hpt k hlt)
    have q1:wr.cell? ⟨b',off'+k,none⟩=some (.int .i64 (J k)):=(hB.cell (p:=⟨b',off'+k,none⟩) hb').trans (hpt' k hlt)
    have hi:(k:Int)<(n:Int):=by omega
    have hi0:(0:Int)≤(k:Int):=by omega
    clear hno hB hpt hpt'
    by_cases hE:I k=J k
    ·have HN2:Hid (∀ j,j<k+1→I j=J j):=fun j hj=>by
      by_cases e:j=k
      ·rw [e];exact hE
      ·exact HN.out j (by omega)
     rw [hE] at q0
     clear hE
     generalize J k=v at *
     go_wp2_with fail
     go_quiet (fail)
     go_wp2_with fail
     exact ⟨⟨k+1,by omega,by simp,HN2.out,below_drewN HB.out _⟩,by simp [intOf];omega⟩
    ·have HY:Hid (uS n n I J=false):=zQg hlt hE
     generalize I k=u at *
     generalize J k=v at *
     have hcb:(u == v)=false:=by simpa using hE
     go_wp2_with fail
     go_quiet (fail)
     go_wp2
     go_ret
     exact ⟨zI HY.out.symm,below_drewN HB.out _⟩
   ·obtain rfl:n=k:=by omega
    have HY:Hid (uS n n I J=true):=zMm HN.out
    go_wp2
    go_ret
    exact ⟨zI HY.out.symm,HB.out⟩
 ·have HY:Hid (uS n m I J=false):=zGz hnm
  have hne:((n:Int) == (m:Int))=false:=by simp;omega
  have hne2:¬ ((n:Int)=(m:Int)):=by omega
  go_enter Tryz.func163,Tryz.ntmps163
  go_wp2
  go_ret
  exact ⟨zI HY.out.symm,Below.refl _ _⟩
theorem zVx {z:Int}(h0:-1000000≤z)(h1:z≤1000000):I64 z:=by
 show (decide (_≤_) && decide (_≤_))=true
 rw [Bool.and_eq_true,decide_eq_true_eq,decide_eq_true_eq]
 have e0:IntKind.i64.min=-9223372036854775808:=by decide
 have e1:IntKind.i64.max=9223372036854775807:=by decide
 rw [e0,e1]
 omega
theorem zG2 {z x y:Int}(h:zCu z x y=true):I64 z∧I64 x∧I64 y:=by
 unfold zCu xD inB at h
 simp at h
 obtain ⟨⟨h1,h2⟩,⟨h3,h4⟩,h5,h6⟩:=h
 have hz:z=0∨z=1∨z=2∨z=3:=by omega
 have hl:zAx z≤7:=by rcases hz with rfl | rfl | rfl | rfl <;> decide
 exact ⟨zVx (by omega) (by omega),zVx (by omega) (by omega),zVx (by omega) (by omega)⟩
theorem zYc {k:Kp}(h:rtC k.z k.x k.y k.fn k.F=0):zCu k.z k.x k.y=true:=by
 rcases zA7 k.z k.x k.y with ⟨_,h2⟩ | ⟨h1,_⟩
 ·exact h2
 ·unfold rtC at h;simp [h1] at h
noncomputable def fK (D:DataW Value)(k:Kp):Int:=if tC k=0 then (if Maps.has D (zBw k.z k.x k.y)=true then 6 else 0) else tC k
theorem zIh (p mb n:Nat)(s t:Int)(D:DataW Value)(k:Kp)(fb:Nat)(w:World)(hp:ShA w p s t mb)(hm:w.ownsMap Tryz.prog 104 RV mb n D)(hf:k.fa=some ⟨fb,0,none⟩)(hfl:fb<w.heap.size)(hft:zA5 w fb 0 k.fn k.F)(hids:zCq w k.ia k.m k.I)(hs:uA k)(hcap:k.fn≤k.fc) :
  Calls Tryz.prog 123 #[.pointer (some ⟨p,0,none⟩),kpV k] w fun e w'=>e=.returned (.int .i64 (fK D k))∧Bw w w':=by
 have HP:Hid (ShA w p s t mb):=hp
 have HM:Hid (w.ownsMap Tryz.prog 104 RV mb n D):=hm
 have HI:Hid (zCq w k.ia k.m k.I):=hids
 have hkm:k.m≤1048576:=hs.2
 have HR:Hid (∀ W,Bw w W→Calls Tryz.prog 162 #[.agg #[.int .i64 k.z,.int .i64 k.x,.int .i64 k.y,.slice k.fa k.fn k.fc]] W fun e w'=>∃ v,e=.returned (.agg #[.int .i64 (rtC k.z k.x k.y k.fn k.F),v])∧OwnN w' W.heap.size v (rtL k.z k.x k.y k.fn k.F).length (nz (rtL k.z k.x k.y k.fn k.F))∧Bw W w'):=fun W h=>by
  rw [hf]
  exact zDp k.z k.x k.y fb k.fn k.fc k.F W (hft.below h hfl) (Nat.lt_of_lt_of_le hfl h.size) hs.1 hcap
 have HRef:Hid (rtC k.z k.x k.y k.fn k.F=0→zCu k.z k.x k.y=true):=zYc
 have HV:Hid (∀ B,uS k.m (rtL k.z k.x k.y k.fn k.F).length k.I (nz (rtL k.z k.x k.y k.fn k.F))=B→rtC k.z k.x k.y k.fn k.F=0→fK D k=if B=true then (if Maps.has D (zBw k.z k.x k.y)=true then 6 else 0) else 8):=fun B hB h0=>by
  cases B
  ·unfold fK;rw [zGg h0 hB];rfl
  ·unfold fK;rw [tC_ok h0 hB];rfl
 have HV0:Hid (rtC k.z k.x k.y k.fn k.F≠0→fK D k=rtC k.z k.x k.y k.fn k.F):=fun h=>by unfold fK;rw [zTw h,if_neg h]
 clear hp hm hids hs hft hfl hf hcap
 generalize fK D k=FC at *
 generalize (rtL k.z k.x k.y k.fn k.F).length=RN at *
 generalize nz (rtL k.z k.x k.y k.fn k.F)=RZ at *
 generalize rtC k.z k.x k.y k.fn k.F=rc at *
 obtain ⟨kz,kx,ky,fa,fn,fc,KF,ia,m,ic,KI⟩:=k
 simp only at HI hkm HR HRef HV HV0
 go_enter Tryz.func123,Tryz.ntmps123
 go_wp2_with fail
 generalize hW:(w.alloc _:World)=W
 have HB0:Hid (Bw w W):=by show Below _ _ _;subst hW;exact Qb
 have HK:Hid (RK W w.heap.size kz kx ky∧W.cell? ⟨w.heap.size,4,none⟩=some (.slice ia m ic)):=by
  show _∧_;subst hW;refine ⟨⟨?_,?_,?_⟩,?_⟩ <;> simp [go_sem]
 have hkl:w.heap.size<W.heap.size:=World.block_lt_of_cell? _ _ HK.out.2
 clear hW
 refine Calls.mono (HR.out W HB0.out) ?_
 rintro e w1 ⟨v,rfl,hrow,hb1⟩
 obtain ⟨va,vc,rfl,hvc,hvn⟩:=hrow.pts
 have HN:Hid (zCq w1 va RN RZ):=hvn
 have HB1:Hid (Bw W w1):=hb1
 clear hrow hvn hb1 HR
 by_cases h0:rc=0
 ·subst h0
  have HF:Hid (∀ B,uS m RN KI RZ=B→FC=if B=true then (if Maps.has D (zBw kz kx ky)=true then 6 else 0) else 8):=fun B hB=>HV.out B hB rfl
  obtain ⟨iz,ix,iy⟩:=zG2 (HRef.out rfl)
  have HIz:Hid (I64 kz∧I64 kx∧I64 ky):=⟨iz,ix,iy⟩
  clear HV HV0 HRef iz ix iy
  have hkl1:w.heap.size<w1.heap.size:=Nat.lt_of_lt_of_le hkl HB1.out.size
  have g4:∀ o,(w1.alloc o).cell? ⟨w.heap.size,4,none⟩=some (.slice ia m ic):=fun o=>by
   rw [World.cell?_alloc_old _ _ _ (Nat.ne_of_lt hkl1)]
   exact (HB1.out.cell (p:=⟨w.heap.size,4,none⟩) hkl).trans HK.out.2
  go_wp2_with fail
  generalize hW2:(w1.alloc _:World)=W2
  have HB2:Hid (Bw w1 W2):=by show Below _ _ _;subst hW2;exact Qb
  clear hW2 g4
  have HBW:Hid (Bw w W2):=zA HB0.out (zA HB1.out HB2.out)
  have HKW:Hid (RK W2 w.heap.size kz kx ky):=HK.out.1.below (zA HB1.out HB2.out)
  refine Calls.mono (zSx ia va m RN ic vc KI RZ W2 (HI.out.below HBW.out) (HN.out.below HB2.out) hkm) ?_
  rintro e w3 ⟨rfl,hb3⟩
  have HB3:Hid (Bw w w3):=zA HBW.out hb3
  obtain ⟨r0,r1,r2⟩:=HKW.out.below hb3
  clear hb3
  obtain ⟨B,hB⟩:∃ B,uS m RN KI RZ=B:=⟨_,rfl⟩
  have hFC:=HF.out B hB
  rw [hB]
  cases B
  ·have HFC:Hid (FC=8):=hFC
   clear hFC
   go_wp2
   go_ret
   exact ⟨zD HFC.out.symm,HB3.out⟩
  ·have HH:Hid (Calls Tryz.prog 128 #[.pointer (some ⟨p,0,none⟩),vU kz kx ky] w3 fun e w'=>e=.returned (.bool (Maps.has D (zBw kz kx ky)))∧Bw w3 w') :=
    zB5 p mb n s t D kz kx ky w3 (HP.out.below HB3.out) (zZ HM.out HB3.out) HIz.out.1 HIz.out.2.1 HIz.out.2.2
   generalize Maps.has D (zBw kz kx ky)=B at *
   cases B
   ·have HFC:Hid (FC=0):=hFC
    clear hFC
    go_wp2_with (go_at_call 128;refine HH.out.mono ?_;rintro e w' ⟨rfl,hb⟩)
    go_ret
    exact ⟨zD HFC.out.symm,zA HB3.out (by assumption)⟩
   ·have HFC:Hid (FC=6):=hFC
    clear hFC
    go_wp2_with (go_at_call 128;refine HH.out.mono ?_;rintro e w' ⟨rfl,hb⟩)
    go_ret
    exact ⟨zD HFC.out.symm,zA HB3.out (by assumption)⟩
 ·have HFC:Hid (FC=rc):=HV0.out h0
  have hcb:(rc == 0)=false:=by simpa using h0
  have HBW:Hid (Bw w w1):=zA HB0.out HB1.out
  clear HV HV0 HRef
  go_wp2
  go_ret
  exact ⟨zD HFC.out.symm,by have:=HBW.out;exact Qb⟩
theorem uG {n:Nat}{K:Nat→Kp}{z x y:Int}:0≤atK n K z x y ↔ ∃ i,i<n∧isK (K i) z x y=true:=by
 unfold atK
 rcases zCd (fun i=>isK (K i) z x y) n with ⟨h1,h2⟩ | ⟨i,hi,hg,hf,hn⟩
 ·rw [h1]
  exact ⟨fun h=>by omega,fun ⟨i,hi,h⟩=>by have:=h2 i hi;rw [h] at this;cases this⟩
 ·rw [hf]
  exact ⟨fun _=>⟨i,hi,hg⟩,fun _=>by omega⟩
theorem vY {e:Kp}{z x y:Int}:isK e z x y=true ↔ e.z=z∧e.x=x∧e.y=y:=by simp [isK]
def shD (A:Nat→Kp):Nat→DataW Value
 | 0=>.map []
 | k+1=>zJe (shD A k) (A k) ((k:Int)+1)
theorem zKn (A:Nat→Kp):∀ k,Maps.Tidy (shD A k)
 | 0=>Maps.tidy_empty
 | k+1=>(zKn A k).put (zHl _ _ _) _
def Rgt (A:Nat→Kp)(k:Nat):Prop:=∀ j,j<k→I64 (A j).z∧I64 (A j).x∧I64 (A j).y
theorem zKo {A:Nat→Kp}{z x y:Int}(hz:I64 z)(hx:I64 x)(hy:I64 y):∀ k,Rgt A k→Maps.has (shD A k) (zBw z x y)=decide (0≤atK k A z x y)
 | 0,_=>by
  have:¬ (0≤atK 0 A z x y):=fun h=>by obtain ⟨i,hi,_⟩:=uG.1 h;omega
  rw [decide_eq_false this];rfl
 | k+1,h=>by
  have ih:=zKo hz hx hy k (fun j hj=>h j (by omega))
  obtain ⟨az,ax,ay⟩:=h k (by omega)
  by_cases hE:isK (A k) z x y=true
  ·obtain ⟨rfl,rfl,rfl⟩:=vY.1 hE
   rw [decide_eq_true (uG.2 ⟨k,by omega,hE⟩)]
   exact Maps.has_put_same (zKn A k).isMap (zHl _ _ _) _
  ·have hne:zBw z x y≠zBw (A k).z (A k).x (A k).y:=fun e=>by
    obtain ⟨h1,h2,h3⟩:=zUx hz hx hy az ax ay e
    exact hE (vY.2 ⟨h1.symm,h2.symm,h3.symm⟩)
   have e1:Maps.has (shD A (k+1)) (zBw z x y)=Maps.has (shD A k) (zBw z x y):=Maps.has_put_other hne _
   rw [e1,ih,decide_eq_decide]
   constructor
   ·intro h;obtain ⟨i,hi,h⟩:=uG.1 h;exact uG.2 ⟨i,by omega,h⟩
   ·intro h
    obtain ⟨i,hi,h'⟩:=uG.1 h
    refine uG.2 ⟨i,?_,h'⟩
    by_cases e:i=k
    ·exact absurd (e ▸ h') hE
    ·omega
theorem vX {A:Nat→Kp}{k:Nat}(h:kC A k=0):tC (A k)=0∧¬ (0≤atK k A (A k).z (A k).x (A k).y):=by
 unfold kC at h
 split at h
 ·rename_i h0
  refine ⟨h0,fun h'=>?_⟩
  rw [if_pos h'] at h
  cases h
 ·rename_i h0;exact absurd h h0
theorem zOw {k:Kp}(h:tC k=0):rtC k.z k.x k.y k.fn k.F=0:=by
 unfold tC at h
 split at h
 ·rename_i h0;exact h0
 ·rename_i h0;exact absurd h h0
theorem zMg {k:Kp}(h:tC k=0):I64 k.z∧I64 k.x∧I64 k.y:=zG2 (zYc (zOw h))
theorem zVu {A:Nat→Kp}{k:Nat}(h:∀ j,j<k→kC A j=0):Rgt A k:=fun j hj=>zMg (vX (h j hj)).1
theorem fK_kC {A:Nat→Kp}{k:Nat}(h:∀ j,j<k→kC A j=0):fK (shD A k) (A k)=kC A k:=by
 unfold fK kC
 by_cases h0:tC (A k)=0
 ·obtain ⟨a,b,c⟩:=zMg h0
  rw [if_pos h0,if_pos h0,zKo a b c k (zVu h)]
  simp
 ·rw [if_neg h0,if_neg h0]
theorem zQd {A:Nat→Kp}:∀ k,(∀ j,j<k→kC A j=0)→Maps.size (shD A k)=k
 | 0,_=>rfl
 | k+1,h=>by
  have hk:∀ j,j<k→kC A j=0:=fun j hj=>h j (by omega)
  have ih:=zQd k hk
  obtain ⟨h0,h1⟩:=vX (h k (by omega))
  obtain ⟨a,b,c⟩:=zMg h0
  have e:Maps.size (shD A (k+1))=if Maps.has (shD A k) (zBw (A k).z (A k).x (A k).y)=true then Maps.size (shD A k) else Maps.size (shD A k)+1:=Maps.size_put (zKn A k) _
  rw [e,zKo a b c k (zVu hk),decide_eq_false h1,ih]
  rfl
theorem shelf3 (V:World)(a b c:Value)(t:TypeId):zC (V.alloc (.cells #[a,b,c] t)) V.heap.size 3:=fun o ho=>by
 have hc:o=0∨o=1∨o=2:=by omega
 rcases hc with rfl | rfl | rfl <;> exact ⟨⟨_,by simp [go_sem];rfl⟩,by simp [go_sem]⟩
def ShK (w:World)(B p:Nat)(s:Int)(k:Nat)(A:Nat→Kp):Prop:=∃ mb,B≤p∧B≤mb∧ShA w p s (k:Int) mb∧zC w p 3∧w.ownsMap Tryz.prog 104 RV mb k (shD A k)
theorem ShK.below {w w':World}{B p:Nat}{s:Int}{k:Nat}{A:Nat→Kp}(h:ShK w B p s k A)(hb:Below w.heap.size w w'):ShK w' B p s k A:=by
 obtain ⟨mb,h1,h2,h3,h4,h5⟩:=h
 exact ⟨mb,h1,h2,h3.below hb,h4.below hb,zZ h5 hb⟩
theorem zO1 (s:Int)(b n cap:Nat)(A:Nat→Kp)(w:World)(ha:zCy w b n A)(hs:zJ n A)(hcap:∀ i,i<n→(A i).fn≤(A i).fc)(hnc:n≤cap) :
  Calls Tryz.prog 71 #[caV s (.slice (some ⟨b,0,none⟩) n cap)] w fun e w'=>∃ p,e=.returned (.tuple #[.pointer (some ⟨p,0,none⟩),.int .i64 (cacheC s n A)])∧Bw w w'∧(cacheC s n A=0→ShK w' w.heap.size p s n A):=by
 have HA:Hid (zCy w b n A):=ha
 have HS:Hid (zJ n A):=hs
 have HC:Hid (∀ i,i<n→(A i).fn≤(A i).fc):=hcap
 have hn:n≤1048576:=hs.1
 have hmk:=fun (t:TypeId) (w:World)=>run_makeMap (P:=Tryz.prog) t w
 have hI:=fun W=>zSk s W
 clear ha hs hcap
 cases hin:inB s 1 10 <;> simp only [hin] at hI
 ·have hz:Hid (cacheC s n A=3):=by show _=_;unfold cacheC;rw [hin];rfl
  go_enter Tryz.func71,Tryz.ntmps71
  go_wp2_with (go_at_call 122;refine (hI _).mono ?_;rintro e w' ⟨rfl,rfl⟩)
  refine bodyPost_ret (v:=.tuple #[.pointer (some ⟨w.heap.size+2,0,none⟩),.int .i64 3]) (by simp [results,Tryz.results71,go_sem]) rfl ?_
  exact ⟨_,by rw [hz.out],Qb,fun h=>absurd h (by rw [hz.out];decide)⟩
 by_cases hsn:s<(n:Int)
 ·have hz:Hid (cacheC s n A=2):=by show _=_;unfold cacheC;rw [if_pos hin,if_pos hsn]
  go_enter Tryz.func71,Tryz.ntmps71
  go_wp2_with (go_at_call 122;refine (hI _).mono ?_;rintro e w' ⟨rfl,rfl⟩)
  refine bodyPost_ret (v:=.tuple #[.pointer (some ⟨w.heap.size+2,0,none⟩),.int .i64 2]) (by simp [results,Tryz.results71,go_sem]) rfl ?_
  exact ⟨_,by rw [hz.out],Qb,fun h=>absurd h (by rw [hz.out];decide)⟩
 have hz:Hid (cacheC s n A=xP (kC A) 0 n):=by show _=_;unfold cacheC;rw [if_pos hin,if_neg hsn]
 have hs10:s≤10:=by simp [inB] at hin;exact hin.2
 have hn10:n≤10:=by omega
 go_enter Tryz.func71,Tryz.ntmps71
 go_wp2_with (go_at_call 122;refine (hI _).mono ?_;rintro e w' ⟨rfl,rfl⟩)
 generalize hW:(((w.alloc _).alloc _).alloc _:World)=W
 have HB0:Hid (Bw w W):=by show Below _ _ _;subst hW;exact Qb
 have HK0:Hid (ShA W (w.heap.size+2) s 0 (w.heap.size+1)∧zC W (w.heap.size+2) 3∧W.ownsMap Tryz.prog 104 RV (w.heap.size+1) 0 (DataW.map [])):=by
  show _∧_∧_
  subst hW
  refine ⟨⟨?_,?_,?_⟩,?_,?_⟩
  ·simp [go_sem]
  ·simp [go_sem]
  ·simp [go_sem]
  ·have:=shelf3 ((w.alloc (.cells #[.int .i64 s,.slice (some ⟨b,0,none⟩) n cap] 35)).alloc (.map #[] 0)) (.int .i64 s) (.int .i64 0) (.map (some (w.heap.size+1))) 172
   simpa using this
  ·have:=(World.ownsMap_made (w.alloc (.cells #[.int .i64 s,.slice (some ⟨b,0,none⟩) n cap] 35)) Tryz.prog 104 RV).alloc (.cells #[.int .i64 s,.int .i64 0,.map (some (w.heap.size+1))] 172)
   simpa using this
 have hle:w.heap.size+2<W.heap.size:=by subst hW;simp
 clear hW hmk hI
 generalize hp:w.heap.size+2=p at *
 generalize hq:w.heap.size+1=mb at *
 have hpB:w.heap.size≤p:=by omega
 have hmB:w.heap.size≤mb:=by omega
 clear hp hq
 go_loopw [28] (fun v wr=>∃ k:Nat,k≤n∧v=.int .i64 k∧(∀ j,j<k→kC A j=0)∧ShA wr p s (k:Int) mb∧zC wr p 3∧wr.ownsMap Tryz.prog 104 RV mb k (shD A k)∧Bw w wr) (fun v _=>n - (intOf v).toNat)
 case atStart=>exact ⟨0,by omega,rfl,by omega,HK0.out.1,HK0.out.2.1,HK0.out.2.2,HB0.out⟩
 case round =>
  obtain ⟨k,hk,rfl,hA,hS1,hT1,hM1,hB⟩:=hrel
  have HB:Hid (Bw w wr):=hB
  have HZ:Hid (∀ j,j<k→kC A j=0):=hA
  have HSh:Hid (ShA wr p s (k:Int) mb):=hS1
  have HTh:Hid (zC wr p 3):=hT1
  have HMp:Hid (wr.ownsMap Tryz.prog 104 RV mb k (shD A k)):=hM1
  have hpl:p<wr.heap.size:=World.block_lt_of_cell? _ _ hS1.1
  have hml:mb<wr.heap.size:=hM1.lt
  clear hA hS1 hT1 hM1 HK0 HB0 hle
  by_cases hlt:k<n
  ·have HLT:Hid (k<n):=hlt
   have first:Hid (∀ c,kC A k=c→c≠0→cacheC s n A=c):=fun c hc h0=>by
    rw [hz.out,yL (kC A) n 0 k (fun j _ hj=>HZ.out j hj) (by omega) (by have:=HLT.out;omega) (by rw [hc];exact h0),hc]
   have HOK:Hid (kC A k=0→∀ j,j<k+1→kC A j=0):=fun h0 j hj=>by
    by_cases e:j=k
    ·rw [e];exact h0
    ·exact HZ.out j (by omega)
   have HR:Hid (zCy wr b n A):=HA.out.below hB
   have HSm:Hid (uA (A k)):=HS.out.2 k hlt
   have HCp:Hid ((A k).fn≤(A k).fc):=HC.out k hlt
   have HEq:Hid (fK (shD A k) (A k)=kC A k):=fK_kC HZ.out
   have HSz:Hid (kC A k=0→(Maps.size (zJe (shD A k) (A k) ((k:Int)+1)):Int)≤s):=fun h0=>by
    have:Maps.size (zJe (shD A k) (A k) ((k:Int)+1))=k+1:=zQd (k+1) (HOK.out h0)
    rw [this];omega
   obtain ⟨⟨q0,q1,q2,q3,q4⟩,_,_⟩:=HR.out.2 k hlt
   have hi:(k:Int)<(n:Int):=by omega
   have hi0:(0:Int)≤(k:Int):=by omega
   clear hB
   go_wp2_with fail
   generalize hV:(wr.alloc _:World)=V
   have HBV:Hid (Bw wr V):=by show Below _ _ _;subst hV;exact Qb
   have HKV:Hid (zJ8 V wr.heap.size 0 (A k)):=by
    show zJ8 _ _ _ _
    subst hV
    refine ⟨?_,?_,?_,?_,?_⟩ <;> simp [go_sem]
   have hvl:wr.heap.size<V.heap.size:=World.block_lt_of_cell? _ _ HKV.out.1
   clear hV q0 q1 q2 q3 q4
   obtain ⟨_,⟨fb,ef,hfl,hft⟩,hids⟩:=(HR.out.below HBV.out).2 k hlt
   have HF:Hid (Calls Tryz.prog 123 #[.pointer (some ⟨p,0,none⟩),kpV (A k)] V fun e w'=>e=.returned (.int .i64 (kC A k))∧Bw V w'):=by
    have:=zIh p mb k s (k:Int) (shD A k) (A k) fb V (HSh.out.below HBV.out) (zZ HMp.out HBV.out) ef hfl hft hids HSm.out HCp.out
    rw [HEq.out] at this
    exact this
   clear ef hfl hft hids
   refine Calls.mono HF.out ?_
   rintro e w1 ⟨rfl,hb1⟩
   have HB1:Hid (Bw wr w1):=zA HBV.out hb1
   obtain ⟨u0,u1,u2,u3,u4⟩:=HKV.out.below hb1 hvl
   simp only [Nat.zero_add] at u0 u1 u2 u3 u4
   clear hb1 HF HKV HBV
   by_cases h0:kC A k=0
   ·obtain ⟨iz,ix,iy⟩:=zMg (vX h0).1
    have HPut:=(show Hid _ from zO0 p mb k s (k:Int) (shD A k) (A k) w1 (HSh.out.below HB1.out) (HTh.out.below HB1.out) (zZ HMp.out HB1.out) iz ix iy (by omega) (by omega) (by omega) (HSz.out h0))
    have HOk2:Hid (∀ j,j<k+1→kC A j=0):=HOK.out h0
    rw [h0]
    clear h0 iz ix iy first HOK HSz HEq
    go_wp2_with fail
    refine Calls.mono HPut.out ?_
    rintro e w2 ⟨rfl,hs2,ht2,hm2,hb2⟩
    have HB2:Hid (Bw w w2):=(zA HB.out HB1.out).trans (hb2 _ hpB hmB)
    have HE2:Hid (ShA w2 p s ((k+1:Nat):Int) mb∧zC w2 p 3∧w2.ownsMap Tryz.prog 104 RV mb (k+1) (shD A (k+1))):=⟨by rw [show ((k+1:Nat):Int)=(k:Int)+1 by omega];exact hs2,ht2,hm2⟩
    clear hs2 ht2 hm2 hb2
    go_wp2_with fail
    go_roundw
    case rel=>exact ⟨k+1,by have:=HLT.out;omega,by go_num,HOk2.out,HE2.out.1,HE2.out.2.1,HE2.out.2.2,HB2.out⟩
    case measure=>have:=HLT.out;simp [intOf];omega
   ·have hsc:Hid (cacheC s n A=kC A k):=first.out _ rfl h0
    have hcb:(kC A k == 0)=false:=by simpa using h0
    generalize kC A k=rc at *
    go_wp2_with fail
    refine bodyPost_ret (v:=.tuple #[.pointer (some ⟨p,0,none⟩),.int .i64 rc]) (by simp [results,Tryz.results71,go_sem]) rfl ?_
    exact ⟨_,by rw [hsc.out],zA HB.out HB1.out,fun h=>absurd (hsc.out.symm.trans h) h0⟩
  ·have hsc:Hid (cacheC s n A=0):=by
    show _=_
    rw [hz.out]
    exact xT _ _ _ (fun j _ hj=>HZ.out j (by omega))
   obtain rfl:n=k:=by omega
   go_wp2_with fail
   refine bodyPost_ret (v:=.tuple #[.pointer (some ⟨p,0,none⟩),.int .i64 0]) (by simp [results,Tryz.results71,go_sem]) rfl ?_
   exact ⟨_,by rw [hsc.out],HB.out,fun _=>⟨mb,hpB,hmB,HSh.out,HTh.out,HMp.out⟩⟩
theorem vM {s:Int}{n:Nat}{A:Nat→Kp}(h:cacheC s n A=0):∀ j,j<n→kC A j=0:=by
 unfold cacheC at h
 split at h
 ·split at h
  ·cases h
  ·intro j hj
   by_cases h0:kC A j=0
   ·exact h0
   ·exact absurd h (by
     obtain ⟨i,hi,hne,hall⟩:∃ i,i≤j∧kC A i≠0∧∀ l,l<i→kC A l=0:=by
      have:∀ m,(∃ i,i≤m∧kC A i≠0)→∃ i,i≤m∧kC A i≠0∧∀ l,l<i→kC A l=0:=by
       intro m
       induction m with
       | zero=>rintro ⟨i,hi,h⟩;exact ⟨i,hi,h,fun l hl=>by omega⟩
       | succ m ih =>
        rintro ⟨i,hi,h⟩
        by_cases hx:∃ i,i≤m∧kC A i≠0
        ·obtain ⟨i,h1,h2⟩:=ih hx;exact ⟨i,by omega,h2⟩
        ·refine ⟨i,hi,h,fun l hl=>?_⟩
         by_cases e:kC A l=0
         ·exact e
         ·exact absurd ⟨l,by omega,e⟩ hx
      exact this j ⟨j,Nat.le_refl _,h0⟩
     rw [yL (kC A) n 0 i (fun l _ hl=>hall l hl) (by omega) (by omega) hne]
     exact hne)
 ·cases h
theorem rt_same {z x y:Int}{n:Nat}{G F:Nat→yE}(h:∀ i,i<n→(G i).same (F i)):rtC z x y n G=rtC z x y n F∧rtL z x y n G=rtL z x y n F:=by
 have e1:yM n G=yM n F:=zPu h
 have e2:zIl n G=zIl n F:=by
  unfold zIl
  rw [decide_eq_decide]
  refine forall_congr' fun i=>forall_congr' fun hi=>?_
  have a:=h i (by omega)
  have b:=h (i+1) (by omega)
  have e:ltF (G i) (G (i+1))=ltF (F i) (F (i+1)):=by unfold ltF;rw [a.1,a.2.1,b.1,b.2.1]
  rw [e]
 have e3:rtC z x y n G=rtC z x y n F:=by unfold rtC;rw [e1,e2]
 have e4:xA G n z=xA F n z:=by
  funext X Y
  unfold xA
  have:∀ k,k≤n→vV (fun i=>zS3 z (yT z X) (yT z Y) (G i)) (fun i=>(G i).id) k=vV (fun i=>zS3 z (yT z X) (yT z Y) (F i)) (fun i=>(F i).id) k:=fun k hk=>by
   induction k with
   | zero=>rfl
   | succ k ih =>
    obtain ⟨i1,i2,i3,i4,i5,i6,i7,i8,i9⟩:=h k (by omega)
    have ec:zS3 z (yT z X) (yT z Y) (G k)=zS3 z (yT z X) (yT z Y) (F k):=by unfold zS3;rw [i3,i4,i5,i6,i7]
    rw [vV,vV,ih (by omega),ec,i1]
  exact this n (Nat.le_refl _)
 exact ⟨e3,by unfold rtL;rw [e3,e4]⟩
end Go.Proofs.YtkjbafcalamgnaaGreat
