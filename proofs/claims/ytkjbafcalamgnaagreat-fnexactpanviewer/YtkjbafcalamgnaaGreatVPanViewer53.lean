/- Texts. -/
import Derived.Test.YtkjbafcalamgnaaGreatVPanViewer52
import Derived.Test.YtkjbafcalamgnaaGreatVPanViewer47
set_option linter.unusedSimpArgs false
set_option linter.unusedVariables false
set_option maxRecDepth 100000
set_option maxHeartbeats 32000000
namespace Go.Proofs.YtkjbafcalamgnaaGreat
open Go.RowKit
theorem zQu {n:Nat}{K K':Nat→Kp}(h:∀ i,i<n→(K i).z=(K' i).z∧(K i).x=(K' i).x∧(K i).y=(K' i).y)(z x y:Int):zHt n K z x y=zHt n K' z x y:=by
 unfold zHt
 rw [zOt h,zEh h z x y n (Nat.le_refl _)]
theorem zJ3 {n:Nat}{R:Rfs}{K K':Nat→Kp}(h:∀ i,i<n→(K i).z=(K' i).z∧(K i).x=(K' i).x∧(K i).y=(K' i).y):∀ k,∃ p:Nat→Nat,∀ i,i<n→p i<n∧stK n R K k i=K (p i)∧stK n R K' k i=K' (p i)
 | 0=>⟨id,fun i hi=>⟨hi,rfl,rfl⟩⟩
 | k+1=>by
  obtain ⟨p,hp⟩:=zJ3 (R:=R) h k
  have hk:∀ i,i<n→(stK n R K k i).z=(stK n R K' k i).z∧(stK n R K k i).x=(stK n R K' k i).x∧(stK n R K k i).y=(stK n R K' k i).y:=fun i hi=>by
   obtain ⟨h1,h2,h3⟩:=hp i hi
   rw [h2,h3]
   exact h _ h1
  have ha:=zEh hk (R.z k) (R.x k) (R.y k) n (Nat.le_refl _)
  unfold stK
  rw [ha]
  split
  ·rename_i h0
   refine ⟨fun j=>p ((zHt n (stK n R K' k) (R.z k) (R.x k) (R.y k)).getD j 0),fun i hi=>?_⟩
   have ht:=zEm h0 i hi
   obtain ⟨h1,h2,h3⟩:=hp _ ht
   refine ⟨h1,?_,?_⟩
   ·unfold zPn
    rw [zQu hk]
    exact h2
   ·unfold zPn
    exact h3
  ·exact ⟨p,hp⟩
theorem zJ2 {n:Nat}{R:Rfs}{K K':Nat→Kp}{now:Int}{Q:List Req}(h:∀ i,i<n→(K i).z=(K' i).z∧(K i).x=(K' i).x∧(K i).y=(K' i).y):∀ k,stQ n R K now Q k=stQ n R K' now Q k∧stS n R K now Q k=stS n R K' now Q k
 | 0=>⟨rfl,rfl⟩
 | k+1=>by
  obtain ⟨e1,e2⟩:=zJ2 (now:=now) (Q:=Q) h k
  obtain ⟨p,hp⟩:=zJ3 (R:=R) h k
  have hk:∀ i,i<n→(stK n R K k i).z=(stK n R K' k i).z∧(stK n R K k i).x=(stK n R K' k i).x∧(stK n R K k i).y=(stK n R K' k i).y:=fun i hi=>by
   obtain ⟨h1,h2,h3⟩:=hp i hi
   rw [h2,h3]
   exact h _ h1
  have ha:=zEh hk (R.z k) (R.x k) (R.y k) n (Nat.le_refl _)
  unfold stQ stS
  rw [ha,e1,e2]
  exact ⟨rfl,rfl⟩
theorem zT7 {n:Nat}{K K':Nat→Kp}(hs:∀ i,i<n→(K i).z=(K' i).z∧(K i).x=(K' i).x∧(K i).y=(K' i).y∧(K i).fn=(K' i).fn∧(K i).m=(K' i).m∧(K i).I=(K' i).I∧∀ j,j<(K i).fn→((K i).F j).same ((K' i).F j)):∀ i,i<n→(K i).z=(K' i).z∧(K i).x=(K' i).x∧(K i).y=(K' i).y:=fun i hi=>⟨(hs i hi).1,(hs i hi).2.1,(hs i hi).2.2.1⟩
theorem zTa {n:Nat}{R:Rfs}{K K':Nat→Kp}(hs:∀ i,i<n→(K i).z=(K' i).z∧(K i).x=(K' i).x∧(K i).y=(K' i).y∧(K i).fn=(K' i).fn∧(K i).m=(K' i).m∧(K i).I=(K' i).I∧∀ j,j<(K i).fn→((K i).F j).same ((K' i).F j))(k:Nat):∀ i,i<n→(stK n R K k i).z=(stK n R K' k i).z∧(stK n R K k i).x=(stK n R K' k i).x∧(stK n R K k i).y=(stK n R K' k i).y∧(stK n R K k i).fn=(stK n R K' k i).fn∧(stK n R K k i).m=(stK n R K' k i).m∧(stK n R K k i).I=(stK n R K' k i).I∧∀ j,j<(stK n R K k i).fn→((stK n R K k i).F j).same ((stK n R K' k i).F j):=fun i hi=>by
 obtain ⟨p,hp⟩:=zJ3 (R:=R) (zT7 hs) k
 obtain ⟨h1,h2,h3⟩:=hp i hi
 rw [h2,h3]
 exact hs _ h1
theorem zHp {z x y wd ht now s:Int}{n:Nat}{K K':Nat→Kp}{Q:List Req}{bad:Int}(hs:∀ i,i<n→(K i).z=(K' i).z∧(K i).x=(K' i).x∧(K i).y=(K' i).y∧(K i).fn=(K' i).fn∧(K i).m=(K' i).m∧(K i).I=(K' i).I∧∀ j,j<(K i).fn→((K i).F j).same ((K' i).F j)):zVd z x y wd ht now s n K Q bad={ zVd z x y wd ht now s n K' Q bad with K:=stK n (zBs z x y wd) K (uM z x y wd ht) }:=by
 unfold zVd
 rw [(zJ2 (zT7 hs) _).1,(zJ2 (zT7 hs) _).2]
theorem zSi (v:Value)(VC now s:Int)(n:Nat)(K:Nat→Kp)(rn:Nat)(E:Nat→Req)(bad:Int)(hs:zJ n K)(hn:VC=0→n≤10∧rn≤8):zU3 (zHv v VC now s n K rn E bad):=by
 unfold zHv
 split
 ·rename_i h0
  unfold zL8
  split
  ·have hq8:(zBb rn E (crK v 1) (crK v 2) (crK v 3) (crK v 4) (crK v 5)).length≤8:=by
    unfold zBb
    split
    ·exact Nat.le_trans (zBf _ _ _) (hn h0).2
    ·exact Nat.zero_le _
   have hm4:uM (crK v 1) (crK v 2) (crK v 3) (crK v 4) (crK v 5)≤4:=zCr _ _ _ _ _
   have hl:=zCw n (zBs (crK v 1) (crK v 2) (crK v 3) (crK v 4)) K now (zBb rn E (crK v 1) (crK v 2) (crK v 3) (crK v 4) (crK v 5)) (uM (crK v 1) (crK v 2) (crK v 3) (crK v 4) (crK v 5))
   refine ⟨?_,?_,⟨hs.1,?_⟩,?_⟩
   ·show (stS _ _ _ _ _ _).length≤1048576
    omega
   ·show n≤100
    have:=(hn h0).1
    omega
   ·exact zPo (fun k=>vS k) n _ K hs.2 _
   ·show (stQ _ _ _ _ _ _).length≤1048576
    omega
  ·exact zU3.zero _
 ·exact zU3.zero _
theorem zW9 {w:World}{v:Value}{VC now s:Int}{n:Nat}{K K':Nat→Kp}{rn:Nat}{E:Nat→Req}{bad:Int}{u:Vm}(h:zFf w (zHv v VC now s n K rn E bad) u)(hs:∀ i,i<n→(K i).z=(K' i).z∧(K i).x=(K' i).x∧(K i).y=(K' i).y∧(K i).fn=(K' i).fn∧(K i).m=(K' i).m∧(K i).I=(K' i).I∧∀ j,j<(K i).fn→((K i).F j).same ((K' i).F j)):zFf w (zHv v VC now s n K' rn E bad) u:=by
 unfold zHv at h ⊢
 split
 ·rename_i h0
  rw [if_pos h0] at h
  unfold zL8 at h ⊢
  split
  ·rename_i h1
   rw [if_pos h1,zHp hs] at h
   exact ⟨h.1,h.2.1.of_same (zTa hs _),h.2.2⟩
  ·rename_i h1
   rw [if_neg h1] at h
   exact h
 ·rename_i h0
  rw [if_neg h0] at h
  exact h
theorem zW8 {lo hi:Nat}{w:World}{v:Value}{VC now s:Int}{n:Nat}{K K':Nat→Kp}{rn:Nat}{E:Nat→Req}{bad:Int}{u:Vm}(h:zA7 lo hi w (zHv v VC now s n K rn E bad) u)(hs:∀ i,i<n→(K i).z=(K' i).z∧(K i).x=(K' i).x∧(K i).y=(K' i).y∧(K i).fn=(K' i).fn∧(K i).m=(K' i).m∧(K i).I=(K' i).I∧∀ j,j<(K i).fn→((K i).F j).same ((K' i).F j)):zA7 lo hi w (zHv v VC now s n K' rn E bad) u:=by
 unfold zHv at h ⊢
 split
 ·rename_i h0
  rw [if_pos h0] at h
  unfold zL8 at h ⊢
  split
  ·rename_i h1
   rw [if_pos h1,zHp hs] at h
   unfold zVd at h ⊢
   exact h.ofK (zTa hs _)
  ·rename_i h1
   rw [if_neg h1] at h
   exact h
 ·rename_i h0
  rw [if_neg h0] at h
  exact h
theorem zQg {v:Value}{VC now s:Int}{n:Nat}{K K':Nat→Kp}{rn:Nat}{E:Nat→Req}{bad:Int}(u:Vm)(hs:∀ i,i<n→(K i).z=(K' i).z∧(K i).x=(K' i).x∧(K i).y=(K' i).y∧(K i).fn=(K' i).fn∧(K i).m=(K' i).m∧(K i).I=(K' i).I∧∀ j,j<(K i).fn→((K i).F j).same ((K' i).F j)):vaV (zHv v VC now s n K rn E bad) u=vaV (zHv v VC now s n K' rn E bad) u:=by
 unfold zHv
 split
 ·unfold zL8
  split
  ·rw [zHp hs]
  ·rfl
 ·rfl
theorem FnExactPanViewer_walk (z x y wd ht now s:Int)(a:Option Addr)(n cap:Nat)(K:Nat→Kp)(ra:Option Addr)(rn rc:Nat)(E:Nat→Req)(bad dx dy:Int)(w:World)(h:(zFx w a n K∧zB9 n K)∧xS w ra rn E∧rn≤rc∧rc≤maxLen) :
  Calls Tryz.prog 3 #[vwV z x y wd ht now s (.slice a n cap) (.slice ra rn rc) bad,.int .i64 dx,.int .i64 dy] w fun e w'=>e=.returned (.bool true)∧Bw w w' :=
 zCj (zHv (zFk z x y wd ht dx dy) (viewC z x y wd ht now s n K rn E bad) now s n K rn E bad) z x y wd ht now s a n cap K ra rn rc E bad dx dy w h
  (fun hS hn=>⟨zSi _ _ now s n K rn E bad hS (fun h0=>⟨(zCg (zDk h0).2.1).1,zDu (zDk h0).2.2.1⟩),fun W b rb A hO=>by
   have:=zDm z x y wd ht now s b n n A ⟨rb,0,none⟩ rn rn E bad dx dy W hO.1.ko (hO.1.small hS) (.inr ⟨rb,0,rfl,hO.2.1,hO.2.2⟩) hn
   rw [hO.1.viewC] at this
   exact this.mono fun e w' ⟨u,he,hI,hb⟩=>⟨u,by rw [he,zQg u (fun i hi=>hO.1.sameK hi)],zW9 hI (fun i hi=>hO.1.sameK hi),hb⟩⟩)
  (fun hS hn W b rb A hO=>by
   have:=zD7 z x y wd ht now s b n n A (some ⟨rb,0,none⟩) rn rn E bad dx dy W hO.1.ko (hO.1.small hS) hO.1.caps (Nat.le_refl _) (.inr ⟨rb,0,rfl,hO.2.1,hO.2.2⟩) hn (Nat.le_refl _)
   rw [hO.1.viewC] at this
   exact this.mono fun e w' ⟨u,he,hI,hb⟩=>⟨u,by rw [he,zQg u (fun i hi=>hO.1.sameK hi)],zW8 hI (fun i hi=>hO.1.sameK hi),hb⟩)
end Go.Proofs.YtkjbafcalamgnaaGreat
