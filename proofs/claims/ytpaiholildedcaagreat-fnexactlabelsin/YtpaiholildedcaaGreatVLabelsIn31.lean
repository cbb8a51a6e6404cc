/- Texts. -/
import Derived.Test.YtpaiholildedcaaGreatVLabelsIn29
set_option linter.unusedSimpArgs false
set_option linter.unusedVariables false
set_option maxRecDepth 100000
set_option maxHeartbeats 32000000
namespace Go.Proofs.YtpaiholildedcaaGreat
open Go.RowKit
theorem zAe {n:Nat}{K:Nat→Kp}{z x y:Int}:0≤atK n K z x y ↔ ∃ i,i<n∧isK (K i) z x y=true:=by
 unfold atK
 rcases uT (fun i=>isK (K i) z x y) n with ⟨h1,h2⟩ | ⟨i,hi,hg,hf,hn⟩
 ·rw [h1]
  exact ⟨fun h=>by omega,fun ⟨i,hi,h⟩=>by have:=h2 i hi;rw [h] at this;cases this⟩
 ·rw [hf]
  exact ⟨fun _=>⟨i,hi,hg⟩,fun _=>by omega⟩
theorem zBo {e:Kp}{z x y:Int}:isK e z x y=true ↔ e.z=z∧e.x=x∧e.y=y:=by simp [isK]
def shD (A:Nat→Kp):Nat→DataW Value
 | 0=>.map []
 | k+1=>zQ6 (shD A k) (A k) ((k:Int)+1)
theorem zDf (A:Nat→Kp):∀ k,Maps.Tidy (shD A k)
 | 0=>Maps.tidy_empty
 | k+1=>(zDf A k).put (zLb _ _ _) _
def Rgt (A:Nat→Kp)(k:Nat):Prop:=∀ j,j<k→I64 (A j).z∧I64 (A j).x∧I64 (A j).y
theorem zGy {A:Nat→Kp}{z x y:Int}(hz:I64 z)(hx:I64 x)(hy:I64 y):∀ k,Rgt A k→Maps.has (shD A k) (zBd z x y)=decide (0≤atK k A z x y)
 | 0,_=>by
  have:¬ (0≤atK 0 A z x y):=fun h=>by obtain ⟨i,hi,_⟩:=zAe.1 h;omega
  rw [decide_eq_false this];rfl
 | k+1,h=>by
  have ih:=zGy hz hx hy k (fun j hj=>h j (by omega))
  obtain ⟨az,ax,ay⟩:=h k (by omega)
  by_cases hE:isK (A k) z x y=true
  ·obtain ⟨rfl,rfl,rfl⟩:=zBo.1 hE
   rw [decide_eq_true (zAe.2 ⟨k,by omega,hE⟩)]
   exact Maps.has_put_same (zDf A k).isMap (zLb _ _ _) _
  ·have hne:zBd z x y≠zBd (A k).z (A k).x (A k).y:=fun e=>by
    obtain ⟨h1,h2,h3⟩:=zLa hz hx hy az ax ay e
    exact hE (zBo.2 ⟨h1.symm,h2.symm,h3.symm⟩)
   have e1:Maps.has (shD A (k+1)) (zBd z x y)=Maps.has (shD A k) (zBd z x y):=Maps.has_put_other hne _
   rw [e1,ih,decide_eq_decide]
   constructor
   ·intro h;obtain ⟨i,hi,h⟩:=zAe.1 h;exact zAe.2 ⟨i,by omega,h⟩
   ·intro h
    obtain ⟨i,hi,h'⟩:=zAe.1 h
    refine zAe.2 ⟨i,?_,h'⟩
    by_cases e:i=k
    ·exact absurd (e ▸ h') hE
    ·omega
theorem zBm {A:Nat→Kp}{k:Nat}(h:kC A k=0):tC (A k)=0∧¬ (0≤atK k A (A k).z (A k).x (A k).y):=by
 unfold kC at h
 split at h
 ·rename_i h0
  refine ⟨h0,fun h'=>?_⟩
  rw [if_pos h'] at h
  cases h
 ·rename_i h0;exact absurd h h0
theorem zKn {k:Kp}(h:tC k=0):rtC k.z k.x k.y k.fn k.F=0:=by
 unfold tC at h
 split at h
 ·rename_i h0;exact h0
 ·rename_i h0;exact absurd h h0
theorem zFy {k:Kp}(h:tC k=0):I64 k.z∧I64 k.x∧I64 k.y:=zDv (zS5 (zKn h))
theorem zQ2 {A:Nat→Kp}{k:Nat}(h:∀ j,j<k→kC A j=0):Rgt A k:=fun j hj=>zFy (zBm (h j hj)).1
theorem fK_kC {A:Nat→Kp}{k:Nat}(h:∀ j,j<k→kC A j=0):fK (shD A k) (A k)=kC A k:=by
 unfold fK kC
 by_cases h0:tC (A k)=0
 ·obtain ⟨a,b,c⟩:=zFy h0
  rw [if_pos h0,if_pos h0,zGy a b c k (zQ2 h)]
  simp
 ·rw [if_neg h0,if_neg h0]
theorem zLy {A:Nat→Kp}:∀ k,(∀ j,j<k→kC A j=0)→Maps.size (shD A k)=k
 | 0,_=>rfl
 | k+1,h=>by
  have hk:∀ j,j<k→kC A j=0:=fun j hj=>h j (by omega)
  have ih:=zLy k hk
  obtain ⟨h0,h1⟩:=zBm (h k (by omega))
  obtain ⟨a,b,c⟩:=zFy h0
  have e:Maps.size (shD A (k+1))=if Maps.has (shD A k) (zBd (A k).z (A k).x (A k).y)=true then Maps.size (shD A k) else Maps.size (shD A k)+1:=Maps.size_put (zDf A k) _
  rw [e,zGy a b c k (zQ2 hk),decide_eq_false h1,ih]
  rfl
theorem shelf3 (V:World)(a b c:Value)(t:TypeId):zD (V.alloc (.cells #[a,b,c] t)) V.heap.size 3:=fun o ho=>by
 have hc:o=0∨o=1∨o=2:=by omega
 rcases hc with rfl | rfl | rfl <;> exact ⟨⟨_,by simp [go_sem];rfl⟩,by simp [go_sem]⟩
def ShK (w:World)(B p:Nat)(s:Int)(k:Nat)(A:Nat→Kp):Prop:=∃ mb,B≤p∧B≤mb∧ShA w p s (k:Int) mb∧zD w p 3∧w.ownsMap Tryz.prog 111 RV mb k (shD A k)
theorem ShK.below {w w':World}{B p:Nat}{s:Int}{k:Nat}{A:Nat→Kp}(h:ShK w B p s k A)(hb:Below w.heap.size w w'):ShK w' B p s k A:=by
 obtain ⟨mb,h1,h2,h3,h4,h5⟩:=h
 exact ⟨mb,h1,h2,h3.below hb,h4.below hb,yW h5 hb⟩
theorem zKr (s:Int)(b n cap:Nat)(A:Nat→Kp)(w:World)(ha:zB0 w b n A)(hs:zL n A)(hcap:∀ i,i<n→(A i).fn≤(A i).fc)(hnc:n≤cap) :
  Calls Tryz.prog 74 #[caV s (.slice (some ⟨b,0,none⟩) n cap)] w fun e w'=>∃ p,e=.returned (.tuple #[.pointer (some ⟨p,0,none⟩),.int .i64 (cacheC s n A)])∧Bw w w'∧(cacheC s n A=0→ShK w' w.heap.size p s n A):=by
 have HA:Hid (zB0 w b n A):=ha
 have HS:Hid (zL n A):=hs
 have HC:Hid (∀ i,i<n→(A i).fn≤(A i).fc):=hcap
 have hn:n≤1048576:=hs.1
 have hmk:=fun (t:TypeId) (w:World)=>run_makeMap (P:=Tryz.prog) t w
 have hI:=fun W=>zNv s W
 clear ha hs hcap
 cases hin:inB s 1 10 <;> simp only [hin] at hI
 ·have hz:Hid (cacheC s n A=3):=by show _=_;unfold cacheC;rw [hin];rfl
  go_enter Tryz.func74,Tryz.ntmps74
  go_wp2_with (go_at_call 122;refine (hI _).mono ?_;rintro e w' ⟨rfl,rfl⟩)
  refine bodyPost_ret (v:=.tuple #[.pointer (some ⟨w.heap.size+2,0,none⟩),.int .i64 3]) (by simp [results,Tryz.results74,go_sem]) rfl ?_
  exact ⟨_,by rw [hz.out],Qb,fun h=>absurd h (by rw [hz.out];decide)⟩
 by_cases hsn:s<(n:Int)
 ·have hz:Hid (cacheC s n A=2):=by show _=_;unfold cacheC;rw [if_pos hin,if_pos hsn]
  go_enter Tryz.func74,Tryz.ntmps74
  go_wp2_with (go_at_call 122;refine (hI _).mono ?_;rintro e w' ⟨rfl,rfl⟩)
  refine bodyPost_ret (v:=.tuple #[.pointer (some ⟨w.heap.size+2,0,none⟩),.int .i64 2]) (by simp [results,Tryz.results74,go_sem]) rfl ?_
  exact ⟨_,by rw [hz.out],Qb,fun h=>absurd h (by rw [hz.out];decide)⟩
 have hz:Hid (cacheC s n A=yR (kC A) 0 n):=by show _=_;unfold cacheC;rw [if_pos hin,if_neg hsn]
 have hs10:s≤10:=by simp [inB] at hin;exact hin.2
 have hn10:n≤10:=by omega
 go_enter Tryz.func74,Tryz.ntmps74
 go_wp2_with (go_at_call 122;refine (hI _).mono ?_;rintro e w' ⟨rfl,rfl⟩)
 generalize hW:(((w.alloc _).alloc _).alloc _:World)=W
 have HB0:Hid (Bw w W):=by show Below _ _ _;subst hW;exact Qb
 have HK0:Hid (ShA W (w.heap.size+2) s 0 (w.heap.size+1)∧zD W (w.heap.size+2) 3∧W.ownsMap Tryz.prog 111 RV (w.heap.size+1) 0 (DataW.map [])):=by
  show _∧_∧_
  subst hW
  refine ⟨⟨?_,?_,?_⟩,?_,?_⟩
  ·simp [go_sem]
  ·simp [go_sem]
  ·simp [go_sem]
  ·have:=shelf3 ((w.alloc (.cells #[.int .i64 s,.slice (some ⟨b,0,none⟩) n cap] 28)).alloc (.map #[] 0)) (.int .i64 s) (.int .i64 0) (.map (some (w.heap.size+1))) 173
   simpa using this
  ·have:=(World.ownsMap_made (w.alloc (.cells #[.int .i64 s,.slice (some ⟨b,0,none⟩) n cap] 28)) Tryz.prog 111 RV).alloc (.cells #[.int .i64 s,.int .i64 0,.map (some (w.heap.size+1))] 173)
   simpa using this
 have hle:w.heap.size+2<W.heap.size:=by subst hW;simp
 clear hW hmk hI
 generalize hp:w.heap.size+2=p at *
 generalize hq:w.heap.size+1=mb at *
 have hpB:w.heap.size≤p:=by omega
 have hmB:w.heap.size≤mb:=by omega
 clear hp hq
 go_loopw [28] (fun v wr=>∃ k:Nat,k≤n∧v=.int .i64 k∧(∀ j,j<k→kC A j=0)∧ShA wr p s (k:Int) mb∧zD wr p 3∧wr.ownsMap Tryz.prog 111 RV mb k (shD A k)∧Bw w wr) (fun v _=>n - (intOf v).toNat)
 case atStart=>exact ⟨0,by omega,rfl,by omega,HK0.out.1,HK0.out.2.1,HK0.out.2.2,HB0.out⟩
 case round =>
  obtain ⟨k,hk,rfl,hA,hS1,hT1,hM1,hB⟩:=hrel
  have HB:Hid (Bw w wr):=hB
  have HZ:Hid (∀ j,j<k→kC A j=0):=hA
  have HSh:Hid (ShA wr p s (k:Int) mb):=hS1
  have HTh:Hid (zD wr p 3):=hT1
  have HMp:Hid (wr.ownsMap Tryz.prog 111 RV mb k (shD A k)):=hM1
  have hpl:p<wr.heap.size:=World.block_lt_of_cell? _ _ hS1.1
  have hml:mb<wr.heap.size:=hM1.lt
  clear hA hS1 hT1 hM1 HK0 HB0 hle
  by_cases hlt:k<n
  ·have HLT:Hid (k<n):=hlt
   have first:Hid (∀ c,kC A k=c→c≠0→cacheC s n A=c):=fun c hc h0=>by
    rw [hz.out,zU (kC A) n 0 k (fun j _ hj=>HZ.out j hj) (by omega) (by have:=HLT.out;omega) (by rw [hc];exact h0),hc]
   have HOK:Hid (kC A k=0→∀ j,j<k+1→kC A j=0):=fun h0 j hj=>by
    by_cases e:j=k
    ·rw [e];exact h0
    ·exact HZ.out j (by omega)
   have HR:Hid (zB0 wr b n A):=HA.out.below hB
   have HSm:Hid (vV (A k)):=HS.out.2 k hlt
   have HCp:Hid ((A k).fn≤(A k).fc):=HC.out k hlt
   have HEq:Hid (fK (shD A k) (A k)=kC A k):=fK_kC HZ.out
   have HSz:Hid (kC A k=0→(Maps.size (zQ6 (shD A k) (A k) ((k:Int)+1)):Int)≤s):=fun h0=>by
    have:Maps.size (zQ6 (shD A k) (A k) ((k:Int)+1))=k+1:=zLy (k+1) (HOK.out h0)
    rw [this];omega
   obtain ⟨⟨q0,q1,q2,q3,q4⟩,_,_⟩:=HR.out.2 k hlt
   have hi:(k:Int)<(n:Int):=by omega
   have hi0:(0:Int)≤(k:Int):=by omega
   clear hB
   go_wp2_with fail
   generalize hV:(wr.alloc _:World)=V
   have HBV:Hid (Bw wr V):=by show Below _ _ _;subst hV;exact Qb
   have HKV:Hid (zQ4 V wr.heap.size 0 (A k)):=by
    show zQ4 _ _ _ _
    subst hV
    refine ⟨?_,?_,?_,?_,?_⟩ <;> simp [go_sem]
   have hvl:wr.heap.size<V.heap.size:=World.block_lt_of_cell? _ _ HKV.out.1
   clear hV q0 q1 q2 q3 q4
   obtain ⟨_,⟨fb,ef,hfl,hft⟩,hids⟩:=(HR.out.below HBV.out).2 k hlt
   have HF:Hid (Calls Tryz.prog 123 #[.pointer (some ⟨p,0,none⟩),kpV (A k)] V fun e w'=>e=.returned (.int .i64 (kC A k))∧Bw V w'):=by
    have:=zFa p mb k s (k:Int) (shD A k) (A k) fb V (HSh.out.below HBV.out) (yW HMp.out HBV.out) ef hfl hft hids HSm.out HCp.out
    rw [HEq.out] at this
    exact this
   clear ef hfl hft hids
   refine Calls.mono HF.out ?_
   rintro e w1 ⟨rfl,hb1⟩
   have HB1:Hid (Bw wr w1):=zA HBV.out hb1
   obtain ⟨u0,u1,u2,u3,u4⟩:=HKV.out.below hb1 hvl
   simp only [Nat.zero_add] at u0 u1 u2 u3 u4
   clear hb1 HF HKV HBV
   by_cases h0:kC A k=0
   ·obtain ⟨iz,ix,iy⟩:=zFy (zBm h0).1
    have HPut:=(show Hid _ from zKq p mb k s (k:Int) (shD A k) (A k) w1 (HSh.out.below HB1.out) (HTh.out.below HB1.out) (yW HMp.out HB1.out) iz ix iy (by omega) (by omega) (by omega) (HSz.out h0))
    have HOk2:Hid (∀ j,j<k+1→kC A j=0):=HOK.out h0
    rw [h0]
    clear h0 iz ix iy first HOK HSz HEq
    go_wp2_with fail
    refine Calls.mono HPut.out ?_
    rintro e w2 ⟨rfl,hs2,ht2,hm2,hb2⟩
    have HB2:Hid (Bw w w2):=(zA HB.out HB1.out).trans (hb2 _ hpB hmB)
    have HE2:Hid (ShA w2 p s ((k+1:Nat):Int) mb∧zD w2 p 3∧w2.ownsMap Tryz.prog 111 RV mb (k+1) (shD A (k+1))):=⟨by rw [show ((k+1:Nat):Int)=(k:Int)+1 by omega];exact hs2,ht2,hm2⟩
    clear hs2 ht2 hm2 hb2
    go_wp2_with fail
    go_roundw
    case rel=>exact ⟨k+1,by have:=HLT.out;omega,by go_num,HOk2.out,HE2.out.1,HE2.out.2.1,HE2.out.2.2,HB2.out⟩
    case measure=>have:=HLT.out;simp [intOf];omega
   ·have hsc:Hid (cacheC s n A=kC A k):=first.out _ rfl h0
    have hcb:(kC A k == 0)=false:=by simpa using h0
    generalize kC A k=rc at *
    go_wp2_with fail
    refine bodyPost_ret (v:=.tuple #[.pointer (some ⟨p,0,none⟩),.int .i64 rc]) (by simp [results,Tryz.results74,go_sem]) rfl ?_
    exact ⟨_,by rw [hsc.out],zA HB.out HB1.out,fun h=>absurd (hsc.out.symm.trans h) h0⟩
  ·have hsc:Hid (cacheC s n A=0):=by
    show _=_
    rw [hz.out]
    exact yT _ _ _ (fun j _ hj=>HZ.out j (by omega))
   obtain rfl:n=k:=by omega
   go_wp2_with fail
   refine bodyPost_ret (v:=.tuple #[.pointer (some ⟨p,0,none⟩),.int .i64 0]) (by simp [results,Tryz.results74,go_sem]) rfl ?_
   exact ⟨_,by rw [hsc.out],HB.out,fun _=>⟨mb,hpB,hmB,HSh.out,HTh.out,HMp.out⟩⟩
theorem vU {s:Int}{n:Nat}{A:Nat→Kp}(h:cacheC s n A=0):∀ j,j<n→kC A j=0:=by
 unfold cacheC at h
 split at h
 ·split at h
  ·cases h
  ·intro j hj
   by_cases h0:kC A j=0
   ·exact h0
   ·exact absurd h (by
     obtain ⟨i,hi,hne,hall⟩:∃ i,i≤j∧kC A i≠0∧∀ l,l<i→kC A l=0:=by
      have:∀ m,(∃ i,i≤m∧kC A i≠0)→∃ i,i≤m∧kC A i≠0∧∀ l,l<i→kC A l=0:=by
       intro m
       induction m with
       | zero=>rintro ⟨i,hi,h⟩;exact ⟨i,hi,h,fun l hl=>by omega⟩
       | succ m ih =>
        rintro ⟨i,hi,h⟩
        by_cases hx:∃ i,i≤m∧kC A i≠0
        ·obtain ⟨i,h1,h2⟩:=ih hx;exact ⟨i,by omega,h2⟩
        ·refine ⟨i,hi,h,fun l hl=>?_⟩
         by_cases e:kC A l=0
         ·exact e
         ·exact absurd ⟨l,by omega,e⟩ hx
      exact this j ⟨j,Nat.le_refl _,h0⟩
     rw [zU (kC A) n 0 i (fun l _ hl=>hall l hl) (by omega) (by omega) hne]
     exact hne)
 ·cases h
end Go.Proofs.YtpaiholildedcaaGreat
