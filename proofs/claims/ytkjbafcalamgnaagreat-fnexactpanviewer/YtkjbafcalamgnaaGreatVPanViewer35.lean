/- Texts. -/
import Derived.Test.YtkjbafcalamgnaaGreatVPanViewer33
set_option linter.unusedSimpArgs false
set_option linter.unusedVariables false
set_option maxRecDepth 100000
set_option maxHeartbeats 32000000
namespace Go.Proofs.YtkjbafcalamgnaaGreat
open Go.RowKit
theorem zHo (n:Nat)(K:Nat→Kp)(z x y:Int):atK n K z x y=-1∨∃ i:Nat,i<n∧atK n K z x y=(i:Int)∧(K i).z=z∧(K i).x=x∧(K i).y=y:=by
 unfold atK
 rcases zB4 (fun i=>isK (K i) z x y) n with ⟨h1,h2⟩ | ⟨i,hi,hg,hf,hn⟩
 ·exact .inl h1
 ·exact .inr ⟨i,hi,hf,vR.1 hg⟩


theorem zAd.feats {w:World}{B:Nat}{k a:Kp}(h:zAd w B k a):∀ i,i<k.fn→(a.F i).same (k.F i):=by
 obtain ⟨_,⟨fb,_,_,_,ho⟩,_⟩:=h
 exact fun i hi=>(ho.2.2.2 i hi).1
theorem zAd.rt {w:World}{B:Nat}{k a:Kp}(h:zAd w B k a):rtC a.z a.x a.y a.fn a.F=rtC k.z k.x k.y k.fn k.F∧rtL a.z a.x a.y a.fn a.F=rtL k.z k.x k.y k.fn k.F:=by
 have hf:=h.feats
 obtain ⟨⟨e1,e2,e3⟩,⟨fb,_,e4,_⟩,_⟩:=h
 rw [e1,e2,e3,e4]
 exact rt_same hf
theorem zAd.tC {w:World}{B:Nat}{k a:Kp}(h:zAd w B k a):Go.Proofs.YtkjbafcalamgnaaGreat.tC a=Go.Proofs.YtkjbafcalamgnaaGreat.tC k:=by
 obtain ⟨r1,r2⟩:=h.rt
 obtain ⟨_,_,ib,_,e5,_,e7,_⟩:=h
 unfold Go.Proofs.YtkjbafcalamgnaaGreat.tC
 rw [r1,r2,e5,e7]
theorem zAd.small {w:World}{B:Nat}{k a:Kp}(h:zAd w B k a)(hs:vS k):vS a:=by
 have hf:=h.feats
 obtain ⟨_,⟨fb,_,e4,_⟩,ib,_,e5,_⟩:=h
 refine ⟨⟨by rw [e4];exact hs.1.1,fun i hi=>?_⟩,by rw [e5];exact hs.2⟩
 rw [e4] at hi
 obtain ⟨_,_,_,_,f5,_,_,f8,_⟩:=hf i hi
 rw [f5,f8]
 exact hs.1.2 i hi
theorem yU.small {w:World}{B b n:Nat}{K A:Nat→Kp}(h:yU w B b n K A)(hs:zJ n K):zJ n A:=⟨hs.1,fun i hi=>(h.2.2 i hi).2.small (hs.2 i hi)⟩
theorem yU.caps {w:World}{B b n:Nat}{K A:Nat→Kp}(h:yU w B b n K A):∀ i,i<n→(A i).fn≤(A i).fc:=fun i hi=>by
 obtain ⟨_,⟨fb,_,e4,e6,_⟩,_⟩:=(h.2.2 i hi).2
 rw [e4,e6];exact Nat.le_refl _
theorem yU.ref {w:World}{B b n:Nat}{K A:Nat→Kp}(h:yU w B b n K A){i:Nat}(hi:i<n):(A i).z=(K i).z∧(A i).x=(K i).x∧(A i).y=(K i).y:=(h.2.2 i hi).2.1
theorem yU.atK {w:World}{B b n:Nat}{K A:Nat→Kp}(h:yU w B b n K A)(z x y:Int):∀ m,m≤n→Go.Proofs.YtkjbafcalamgnaaGreat.atK m A z x y=Go.Proofs.YtkjbafcalamgnaaGreat.atK m K z x y:=fun m hm=>by
 have e:∀ i,i<m→isK (A i) z x y=isK (K i) z x y:=fun i hi=>by
  obtain ⟨e1,e2,e3⟩:=h.ref (show i<n by omega)
  unfold isK;rw [e1,e2,e3]
 unfold Go.Proofs.YtkjbafcalamgnaaGreat.atK
 rcases zB4 (fun i=>isK (A i) z x y) m with ⟨h1,h2⟩ | ⟨i,hi,hg,hf,hn⟩
 ·rw [h1]
  exact (zA3 (fun i hi=>(e i hi).symm.trans (h2 i hi))).symm
 ·rw [hf]
  exact (xW hi ((e i hi).symm.trans hg) (fun j hj=>(e j (by omega)).symm.trans (hn j hj))).symm
theorem yU.kC {w:World}{B b n:Nat}{K A:Nat→Kp}(h:yU w B b n K A):∀ i,i<n→Go.Proofs.YtkjbafcalamgnaaGreat.kC A i=Go.Proofs.YtkjbafcalamgnaaGreat.kC K i:=fun i hi=>by
 obtain ⟨e1,e2,e3⟩:=h.ref hi
 unfold Go.Proofs.YtkjbafcalamgnaaGreat.kC
 rw [(h.2.2 i hi).2.tC,e1,e2,e3,h.atK _ _ _ i (by omega)]
theorem yU.cacheC {w:World}{B b n:Nat}{K A:Nat→Kp}(h:yU w B b n K A)(s:Int):Go.Proofs.YtkjbafcalamgnaaGreat.cacheC s n A=Go.Proofs.YtkjbafcalamgnaaGreat.cacheC s n K:=by
 have e:xL (Go.Proofs.YtkjbafcalamgnaaGreat.kC A) 0 n=xL (Go.Proofs.YtkjbafcalamgnaaGreat.kC K) 0 n:=by
  by_cases hall:∀ j,j<n→Go.Proofs.YtkjbafcalamgnaaGreat.kC K j=0
  ·rw [xO _ _ _ (fun j _ hj=>hall j (by omega)),xO _ _ _ (fun j _ hj=>(h.kC j (by omega)).trans (hall j (by omega)))]
  ·obtain ⟨k,hk,hne,hno⟩:∃ k,k<n∧Go.Proofs.YtkjbafcalamgnaaGreat.kC K k≠0∧∀ l,l<k→Go.Proofs.YtkjbafcalamgnaaGreat.kC K l=0:=by
    have:∀ m,(∃ i,i<m∧Go.Proofs.YtkjbafcalamgnaaGreat.kC K i≠0)→∃ i,i<m∧Go.Proofs.YtkjbafcalamgnaaGreat.kC K i≠0∧∀ l,l<i→Go.Proofs.YtkjbafcalamgnaaGreat.kC K l=0:=by
     intro m
     induction m with
     | zero=>rintro ⟨i,hi,_⟩;omega
     | succ m ih =>
      rintro ⟨i,hi,h⟩
      by_cases hx:∃ i,i<m∧Go.Proofs.YtkjbafcalamgnaaGreat.kC K i≠0
      ·obtain ⟨i,h1,h2⟩:=ih hx;exact ⟨i,by omega,h2⟩
      ·refine ⟨i,hi,h,fun l hl=>?_⟩
       by_cases e:Go.Proofs.YtkjbafcalamgnaaGreat.kC K l=0
       ·exact e
       ·exact absurd ⟨l,by omega,e⟩ hx
    refine this n ?_
    by_cases hx:∃ i,i<n∧Go.Proofs.YtkjbafcalamgnaaGreat.kC K i≠0
    ·exact hx
    ·exact absurd (fun j hj=>by
      by_cases e:Go.Proofs.YtkjbafcalamgnaaGreat.kC K j=0
      ·exact e
      ·exact absurd ⟨j,hj,e⟩ hx) hall
   rw [yI (Go.Proofs.YtkjbafcalamgnaaGreat.kC K) n 0 k (fun l _ hl=>hno l hl) (by omega) (by omega) hne,
    yI (Go.Proofs.YtkjbafcalamgnaaGreat.kC A) n 0 k (fun l _ hl=>(h.kC l (by omega)).trans (hno l hl)) (by omega) (by omega) (by rw [h.kC k hk];exact hne),h.kC k hk]
 unfold Go.Proofs.YtkjbafcalamgnaaGreat.cacheC
 rw [e]
end Go.Proofs.YtkjbafcalamgnaaGreat
