/- Texts. -/
import Derived.Test.YtiephlohemphjaaGreatVTickViewer51
set_option linter.unusedSimpArgs false
set_option linter.unusedVariables false
set_option maxRecDepth 100000
set_option maxHeartbeats 32000000
namespace Go.Proofs.YtiephlohemphjaaGreat
open Go.RowKit
theorem tickV_small (VC z x y wd ht now s : Int) (n : Nat) (K : Nat → Kp) (rn : Nat) (E : Nat → Req) (bad k : Int) (hs : SmallKs n K) (hn : VC = 0 → n ≤ 10) (hrn : rn ≤ 1048576) : SmVa (tickV VC z x y wd ht now s n K rn E bad k) := by
 unfold tickV
 split
 ·rename_i h
  have h0 : VC = 0 := by
   unfold tickC at h
   split at h
   ·assumption
   ·exact h
  refine ⟨Nat.le_trans (keptL_le _ _ _) hrn,by have := hn h0; show n ≤ 100; omega,hs,hrn⟩
 ·exact SmVa.zero _
theorem tickV_isK {w : World} {VC z x y wd ht now s : Int} {n : Nat} {K K' : Nat → Kp} {rn : Nat} {E : Nat → Req} {bad k : Int} {u : Vm} (h : IsVa w (tickV VC z x y wd ht now s n K rn E bad k) u) (hs : ∀ i,i < n → (K i).z = (K' i).z ∧ (K i).x = (K' i).x ∧ (K i).y = (K' i).y ∧ (K i).fn = (K' i).fn ∧ (K i).m = (K' i).m ∧ (K i).I = (K' i).I ∧ ∀ j,j < (K i).fn → ((K i).F j).same ((K' i).F j)) : IsVa w (tickV VC z x y wd ht now s n K' rn E bad k) u := by
 unfold tickV at h ⊢
 split
 ·rename_i h0
  rw [if_pos h0] at h
  exact ⟨h.1,h.2.1.of_same hs,h.2.2⟩
 ·rename_i h0
  rw [if_neg h0] at h
  exact h
theorem tickV_owK {lo hi : Nat} {w : World} {VC z x y wd ht now s : Int} {n : Nat} {K K' : Nat → Kp} {rn : Nat} {E : Nat → Req} {bad k : Int} {u : Vm} (h : OwVa lo hi w (tickV VC z x y wd ht now s n K rn E bad k) u) (hs : ∀ i,i < n → (K i).z = (K' i).z ∧ (K i).x = (K' i).x ∧ (K i).y = (K' i).y ∧ (K i).fn = (K' i).fn ∧ (K i).m = (K' i).m ∧ (K i).I = (K' i).I ∧ ∀ j,j < (K i).fn → ((K i).F j).same ((K' i).F j)) : OwVa lo hi w (tickV VC z x y wd ht now s n K' rn E bad k) u := by
 unfold tickV at h ⊢
 split
 ·rename_i h0
  rw [if_pos h0] at h
  exact h.ofK hs
 ·rename_i h0
  rw [if_neg h0] at h
  exact h
theorem tickV_val (VC z x y wd ht now s : Int) (n : Nat) (K K' : Nat → Kp) (rn : Nat) (E : Nat → Req) (bad k : Int) (u : Vm) : vaV (tickV VC z x y wd ht now s n K rn E bad k) u = vaV (tickV VC z x y wd ht now s n K' rn E bad k) u := by
 unfold tickV
 split <;> rfl
theorem FnExactTickViewer_walk (z x y wd ht now s : Int) (a : Option Addr) (n cap : Nat) (K : Nat → Kp) (ra : Option Addr) (rn rc : Nat) (E : Nat → Req) (bad k : Int) (w : World) (h : (IsKs w a n K ∧ CameKs n K) ∧ IsWs w ra rn E ∧ rn ≤ rc ∧ rc ≤ maxLen) :
  Calls Tryz.prog 3 #[vwV z x y wd ht now s (.slice a n cap) (.slice ra rn rc) bad, .int .i64 k] w fun e w' => e = .returned (.bool true) ∧ Below w.heap.size w w' :=
 FnExactTickViewer_law (tickV (viewC z x y wd ht now s n K rn E bad) z x y wd ht now s n K rn E bad k) z x y wd ht now s a n cap K ra rn rc E bad k w h
  (fun hS hn => ⟨tickV_small _ z x y wd ht now s n K rn E bad k hS (fun h0 => (cacheC_ten (viewC_ok h0).2.1).1) hn,fun W b rb A hO => by
   have := spec_TickViewer_any z x y wd ht now s b n n A ⟨rb,0,none⟩ rn rn E bad k W hO.1.ko (hO.1.small hS) (.inr ⟨rb,0,rfl,hO.2.1,hO.2.2⟩) hn
   rw [hO.1.viewC] at this
   exact this.mono fun e w' ⟨u,he,hI,hb⟩ => ⟨u,by rw [he,tickV_val _ z x y wd ht now s n A K],tickV_isK hI (fun i hi => hO.1.sameK hi),hb⟩⟩)
  (fun hS hn W b rb A hO => by
   have := impl_TickViewer_any z x y wd ht now s b n n A (some ⟨rb,0,none⟩) rn rn E bad k W hO.1.ko (hO.1.small hS) hO.1.caps (Nat.le_refl _) (.inr ⟨rb,0,rfl,hO.2.1,hO.2.2⟩) hn (Nat.le_refl _)
   rw [hO.1.viewC] at this
   exact this.mono fun e w' ⟨u,he,hI,hb⟩ => ⟨u,by rw [he,tickV_val _ z x y wd ht now s n A K],tickV_owK hI (fun i hi => hO.1.sameK hi),hb⟩)
end Go.Proofs.YtiephlohemphjaaGreat
