/- Texts. -/
import Derived.Test.YtkjbafcalamgnaaGreatVSizeViewer51
import Derived.Test.YtkjbafcalamgnaaGreatVSizeViewer46
set_option linter.unusedSimpArgs false
set_option linter.unusedVariables false
set_option maxRecDepth 100000
set_option maxHeartbeats 32000000
namespace Go.Proofs.YtkjbafcalamgnaaGreat
open Go.RowKit
theorem zQ7 {n:Nat}{K K':Nat→Kp}(h:∀ i,i<n→(K i).z=(K' i).z∧(K i).x=(K' i).x∧(K i).y=(K' i).y)(z x y:Int):zH6 n K z x y=zH6 n K' z x y:=by
 unfold zH6
 rw [zO5 h,zEr h z x y n (Nat.le_refl _)]
theorem zKf {n:Nat}{R:Rfs}{K K':Nat→Kp}(h:∀ i,i<n→(K i).z=(K' i).z∧(K i).x=(K' i).x∧(K i).y=(K' i).y):∀ k,∃ p:Nat→Nat,∀ i,i<n→p i<n∧stK n R K k i=K (p i)∧stK n R K' k i=K' (p i)
 | 0=>⟨id,fun i hi=>⟨hi,rfl,rfl⟩⟩
 | k+1=>by
  obtain ⟨p,hp⟩:=zKf (R:=R) h k
  have hk:∀ i,i<n→(stK n R K k i).z=(stK n R K' k i).z∧(stK n R K k i).x=(stK n R K' k i).x∧(stK n R K k i).y=(stK n R K' k i).y:=fun i hi=>by
   obtain ⟨h1,h2,h3⟩:=hp i hi
   rw [h2,h3]
   exact h _ h1
  have ha:=zEr hk (R.z k) (R.x k) (R.y k) n (Nat.le_refl _)
  unfold stK
  rw [ha]
  split
  ·rename_i h0
   refine ⟨fun j=>p ((zH6 n (stK n R K' k) (R.z k) (R.x k) (R.y k)).getD j 0),fun i hi=>?_⟩
   have ht:=zEw h0 i hi
   obtain ⟨h1,h2,h3⟩:=hp _ ht
   refine ⟨h1,?_,?_⟩
   ·unfold zPy
    rw [zQ7 hk]
    exact h2
   ·unfold zPy
    exact h3
  ·exact ⟨p,hp⟩
theorem zKe {n:Nat}{R:Rfs}{K K':Nat→Kp}{now:Int}{Q:List Req}(h:∀ i,i<n→(K i).z=(K' i).z∧(K i).x=(K' i).x∧(K i).y=(K' i).y):∀ k,stQ n R K now Q k=stQ n R K' now Q k∧stS n R K now Q k=stS n R K' now Q k
 | 0=>⟨rfl,rfl⟩
 | k+1=>by
  obtain ⟨e1,e2⟩:=zKe (now:=now) (Q:=Q) h k
  obtain ⟨p,hp⟩:=zKf (R:=R) h k
  have hk:∀ i,i<n→(stK n R K k i).z=(stK n R K' k i).z∧(stK n R K k i).x=(stK n R K' k i).x∧(stK n R K k i).y=(stK n R K' k i).y:=fun i hi=>by
   obtain ⟨h1,h2,h3⟩:=hp i hi
   rw [h2,h3]
   exact h _ h1
  have ha:=zEr hk (R.z k) (R.x k) (R.y k) n (Nat.le_refl _)
  unfold stQ stS
  rw [ha,e1,e2]
  exact ⟨rfl,rfl⟩
theorem zUg {n:Nat}{K K':Nat→Kp}(hs:∀ i,i<n→(K i).z=(K' i).z∧(K i).x=(K' i).x∧(K i).y=(K' i).y∧(K i).fn=(K' i).fn∧(K i).m=(K' i).m∧(K i).I=(K' i).I∧∀ j,j<(K i).fn→((K i).F j).same ((K' i).F j)):∀ i,i<n→(K i).z=(K' i).z∧(K i).x=(K' i).x∧(K i).y=(K' i).y:=fun i hi=>⟨(hs i hi).1,(hs i hi).2.1,(hs i hi).2.2.1⟩
theorem zTk {n:Nat}{R:Rfs}{K K':Nat→Kp}(hs:∀ i,i<n→(K i).z=(K' i).z∧(K i).x=(K' i).x∧(K i).y=(K' i).y∧(K i).fn=(K' i).fn∧(K i).m=(K' i).m∧(K i).I=(K' i).I∧∀ j,j<(K i).fn→((K i).F j).same ((K' i).F j))(k:Nat):∀ i,i<n→(stK n R K k i).z=(stK n R K' k i).z∧(stK n R K k i).x=(stK n R K' k i).x∧(stK n R K k i).y=(stK n R K' k i).y∧(stK n R K k i).fn=(stK n R K' k i).fn∧(stK n R K k i).m=(stK n R K' k i).m∧(stK n R K k i).I=(stK n R K' k i).I∧∀ j,j<(stK n R K k i).fn→((stK n R K k i).F j).same ((stK n R K' k i).F j):=fun i hi=>by
 obtain ⟨p,hp⟩:=zKf (R:=R) (zUg hs) k
 obtain ⟨h1,h2,h3⟩:=hp i hi
 rw [h2,h3]
 exact hs _ h1
theorem zH3 {z x y wd ht now s:Int}{n:Nat}{K K':Nat→Kp}{Q:List Req}{bad:Int}(hs:∀ i,i<n→(K i).z=(K' i).z∧(K i).x=(K' i).x∧(K i).y=(K' i).y∧(K i).fn=(K' i).fn∧(K i).m=(K' i).m∧(K i).I=(K' i).I∧∀ j,j<(K i).fn→((K i).F j).same ((K' i).F j)):zVl z x y wd ht now s n K Q bad={ zVl z x y wd ht now s n K' Q bad with K:=stK n (zB0 z x y wd) K (uS z x y wd ht) }:=by
 unfold zVl
 rw [(zKe (zUg hs) _).1,(zKe (zUg hs) _).2]
theorem zSs (v:Value)(VC now s:Int)(n:Nat)(K:Nat→Kp)(rn:Nat)(E:Nat→Req)(bad:Int)(hs:zI n K)(hn:VC=0→n≤10∧rn≤8):zVb (zCw v VC now s n K rn E bad):=by
 unfold zCw
 split
 ·rename_i h0
  unfold zKs
  split
  ·have hq8:(zBj rn E (crK v 1) (crK v 2) (crK v 3) (crK v 4) (crK v 5)).length≤8:=by
    unfold zBj
    split
    ·exact Nat.le_trans (zBn _ _ _) (hn h0).2
    ·exact Nat.zero_le _
   have hm4:uS (crK v 1) (crK v 2) (crK v 3) (crK v 4) (crK v 5)≤4:=zC0 _ _ _ _ _
   have hl:=zC5 n (zB0 (crK v 1) (crK v 2) (crK v 3) (crK v 4)) K now (zBj rn E (crK v 1) (crK v 2) (crK v 3) (crK v 4) (crK v 5)) (uS (crK v 1) (crK v 2) (crK v 3) (crK v 4) (crK v 5))
   refine ⟨?_,?_,⟨hs.1,?_⟩,?_⟩
   ·show (stS _ _ _ _ _ _).length≤1048576
    omega
   ·show n≤100
    have:=(hn h0).1
    omega
   ·exact zPz (fun k=>vY k) n _ K hs.2 _
   ·show (stQ _ _ _ _ _ _).length≤1048576
    omega
  ·exact zVb.zero _
 ·exact zVb.zero _
theorem zXh {w:World}{v:Value}{VC now s:Int}{n:Nat}{K K':Nat→Kp}{rn:Nat}{E:Nat→Req}{bad:Int}{u:Vm}(h:zEs w (zCw v VC now s n K rn E bad) u)(hs:∀ i,i<n→(K i).z=(K' i).z∧(K i).x=(K' i).x∧(K i).y=(K' i).y∧(K i).fn=(K' i).fn∧(K i).m=(K' i).m∧(K i).I=(K' i).I∧∀ j,j<(K i).fn→((K i).F j).same ((K' i).F j)):zEs w (zCw v VC now s n K' rn E bad) u:=by
 unfold zCw at h ⊢
 split
 ·rename_i h0
  rw [if_pos h0] at h
  unfold zKs at h ⊢
  split
  ·rename_i h1
   rw [if_pos h1,zH3 hs] at h
   exact ⟨h.1,h.2.1.of_same (zTk hs _),h.2.2⟩
  ·rename_i h1
   rw [if_neg h1] at h
   exact h
 ·rename_i h0
  rw [if_neg h0] at h
  exact h
theorem zXg {lo hi:Nat}{w:World}{v:Value}{VC now s:Int}{n:Nat}{K K':Nat→Kp}{rn:Nat}{E:Nat→Req}{bad:Int}{u:Vm}(h:zAk lo hi w (zCw v VC now s n K rn E bad) u)(hs:∀ i,i<n→(K i).z=(K' i).z∧(K i).x=(K' i).x∧(K i).y=(K' i).y∧(K i).fn=(K' i).fn∧(K i).m=(K' i).m∧(K i).I=(K' i).I∧∀ j,j<(K i).fn→((K i).F j).same ((K' i).F j)):zAk lo hi w (zCw v VC now s n K' rn E bad) u:=by
 unfold zCw at h ⊢
 split
 ·rename_i h0
  rw [if_pos h0] at h
  unfold zKs at h ⊢
  split
  ·rename_i h1
   rw [if_pos h1,zH3 hs] at h
   unfold zVl at h ⊢
   exact h.ofK (zTk hs _)
  ·rename_i h1
   rw [if_neg h1] at h
   exact h
 ·rename_i h0
  rw [if_neg h0] at h
  exact h
theorem zQt {v:Value}{VC now s:Int}{n:Nat}{K K':Nat→Kp}{rn:Nat}{E:Nat→Req}{bad:Int}(u:Vm)(hs:∀ i,i<n→(K i).z=(K' i).z∧(K i).x=(K' i).x∧(K i).y=(K' i).y∧(K i).fn=(K' i).fn∧(K i).m=(K' i).m∧(K i).I=(K' i).I∧∀ j,j<(K i).fn→((K i).F j).same ((K' i).F j)):vaV (zCw v VC now s n K rn E bad) u=vaV (zCw v VC now s n K' rn E bad) u:=by
 unfold zCw
 split
 ·unfold zKs
  split
  ·rw [zH3 hs]
  ·rfl
 ·rfl
theorem FnExactSizeViewer_walk (z x y wd ht now s:Int)(a:Option Addr)(n cap:Nat)(K:Nat→Kp)(ra:Option Addr)(rn rc:Nat)(E:Nat→Req)(bad dx dy:Int)(w:World)(h:(zF9 w a n K∧zCg n K)∧xL w ra rn E∧rn≤rc∧rc≤maxLen) :
  Calls Tryz.prog 5 #[vwV z x y wd ht now s (.slice a n cap) (.slice ra rn rc) bad,.int .i64 dx,.int .i64 dy] w fun e w'=>e=.returned (.bool true)∧Bw w w' :=
 zCe (zCw (zFv z x y wd ht dx dy) (viewC z x y wd ht now s n K rn E bad) now s n K rn E bad) z x y wd ht now s a n cap K ra rn rc E bad dx dy w h
  (fun hS hn=>⟨zSs _ _ now s n K rn E bad hS (fun h0=>⟨(uC (zAm h0).2.1).1,zBh (zAm h0).2.2.1⟩),fun W b rb A hO=>by
   have:=zC6 z x y wd ht now s b n n A ⟨rb,0,none⟩ rn rn E bad dx dy W hO.1.ko (hO.1.small hS) (.inr ⟨rb,0,rfl,hO.2.1,hO.2.2⟩) hn
   rw [hO.1.viewC] at this
   exact this.mono fun e w' ⟨u,he,hI,hb⟩=>⟨u,by rw [he,zQt u (fun i hi=>hO.1.sameK hi)],zXh hI (fun i hi=>hO.1.sameK hi),hb⟩⟩)
  (fun hS hn W b rb A hO=>by
   have:=zDm z x y wd ht now s b n n A (some ⟨rb,0,none⟩) rn rn E bad dx dy W hO.1.ko (hO.1.small hS) hO.1.caps (Nat.le_refl _) (.inr ⟨rb,0,rfl,hO.2.1,hO.2.2⟩) hn (Nat.le_refl _)
   rw [hO.1.viewC] at this
   exact this.mono fun e w' ⟨u,he,hI,hb⟩=>⟨u,by rw [he,zQt u (fun i hi=>hO.1.sameK hi)],zXg hI (fun i hi=>hO.1.sameK hi),hb⟩)
end Go.Proofs.YtkjbafcalamgnaaGreat
