/- Texts. -/
import Derived.Test.YtfkonhagjahgnaaGreatWTiles47
import Derived.Test.YtfkonhagjahgnaaGreatWTiles27
set_option linter.unusedSimpArgs false
set_option linter.unusedVariables false
set_option maxRecDepth 100000
set_option maxHeartbeats 32000000
namespace Go.Proofs.YtfkonhagjahgnaaGreat
open Go.RowKit
noncomputable def bF (z : Int) (f : Feat) : Feat := ⟨f.id,f.la,f.ki,f.wi,none,(simL z f).length,0,px (simL z f),py (simL z f),f.lab,f.pr⟩
theorem bF_sim {z : Int} {f t : Feat} (h : simOf z f t) : t.same (bF z f) := by
 obtain ⟨h1,h2,h3,h4,h5,h6,h7,h8,h9⟩ := h
 exact ⟨h1,h2,h3,h4,h5,h6,h7,h8,h9⟩
theorem srtF_memB {n : Nat} {G : Nat → Feat} {j : Nat} (hj : j ∈ srtF n G) : j < n := by
 have hlen : (srtF n G).length = n := srtK_len _ _ _
 obtain ⟨i,hi,e⟩ := List.getElem_of_mem hj
 have := srtF_lt n G i (by omega)
 rw [List.getD_eq_getElem?_getD,List.getElem?_eq_getElem hi] at this
 simp at this
 omega
theorem chs_lt {z x y : Int} {n : Nat} {G : Nat → Feat} (i : Nat) (hi : i < (chs z x y n G).length) : (chs z x y n G).getD i 0 < n := by
 have e : (chs z x y n G).getD i 0 = (chs z x y n G)[i] := by simp [List.getD_eq_getElem?_getD,hi]
 rw [e]
 have hm : (chs z x y n G)[i] ∈ chs z x y n G := List.getElem_mem hi
 exact srtF_memB (List.mem_filter.1 hm).1
theorem chs_le {z x y : Int} {n : Nat} {G : Nat → Feat} : (chs z x y n G).length ≤ n := by
 rw [← chsM_all]; exact chsM_le
open Classical in
noncomputable def btM (z x y : Int) (n : Nat) (G : Nat → Feat) : Nat := if btC z x y n G = 0 then (chs z x y n G).length else 0
noncomputable def btG (z x y : Int) (n : Nat) (G : Nat → Feat) (i : Nat) : Feat := bF z (G ((chs z x y n G).getD i 0))
noncomputable def btK (z x y : Int) (n : Nat) (G : Nat → Feat) (v : Int) : Int := if btC z x y n G = 0 then v else 0
theorem btC_zero {z x y : Int} {n : Nat} {G : Nat → Feat} (h : btC z x y n G = 0) : refB z x y = true ∧ featsC n G = 0 := by
 unfold btC at h
 split at h
 ·rename_i hr; exact ⟨hr,h⟩
 ·exact absurd h (by decide)
theorem btM_ok (z x y : Int) (n : Nat) (G : Nat → Feat) : btM z x y n G ≤ 12 ∧ ∀ i,i < btM z x y n G → (btG z x y n G i).n ≤ 12 := by
 unfold btM
 split
 ·rename_i h
  obtain ⟨hr,hf⟩ := btC_zero h
  have hz : zoomB z = true := by simp [refB] at hr; exact hr.1
  obtain ⟨h12,_,hok⟩ := featsC_ok hf
  exact ⟨Nat.le_trans chs_le h12,fun i hi => (simL_facts (hok _ (chs_lt i hi)) hz).2.1⟩
 ·exact ⟨by omega,fun i hi => absurd hi (Nat.not_lt_zero _)⟩
def BtAns (C z x y : Int) (m : Nat) (G : Nat → Feat) (w : World) (e : Ending) (w' : World) : Prop :=
 ∃ a cap T,e = .returned (trV C z x y (.slice a m cap)) ∧ SrcB w.heap.size w'.heap.size w' a m T ∧ (∀ i,i < m → (T i).same (G i)) ∧ OwnR w' w.heap.size w'.heap.size a m (fun i => (T i).n) (fun i => (T i).cap) ∧ m ≤ cap ∧ Below w.heap.size w w'
def BsAns (C z x y : Int) (m : Nat) (G : Nat → Feat) (w : World) (e : Ending) (w' : World) : Prop :=
 ∃ a cap T,e = .returned (trV C z x y (.slice a m cap)) ∧ SrcB w.heap.size w'.heap.size w' a m T ∧ (∀ i,i < m → (T i).same (G i)) ∧ m ≤ cap ∧ Below w.heap.size w w'
theorem SfRow.own {base k : Nat} {w : World} {v : Value} {z : Int} {H T : Nat → Feat} (h : SfRow base w v k z H T) (hok : ∀ i,i < k → 0 < (simL z (H i)).length) :
  ∃ a cap,v = .slice a k cap ∧ k ≤ cap ∧ SrcB base w.heap.size w a k T ∧ OwnR w base w.heap.size a k (fun i => (T i).n) (fun i => (T i).cap) := by
 rcases h.1.at with ⟨hv,hl⟩ | ⟨g,c,hv,hg,hgl,hc,hT,hF⟩
 ·have hk : k = 0 := by simpa using congrArg List.length hl
  subst hk
  exact ⟨none,0,hv,Nat.le_refl _, .inl rfl, .inl rfl⟩
 ·rw [List.length_range] at hv hc hT hF
  have hat : ∀ i,i < k → ∃ q,(T i).a = some ⟨q,0,none⟩ ∧ (base ≤ q ∧ q < w.heap.size) ∧ q ≠ g ∧ There w q ((T i).n * 2) ∧ PtsAt w q 0 (T i).n (T i).X (T i).Y := fun i hi => by
   obtain ⟨⟨_,_,_,_,e5,e6,e7,_,_⟩,r⟩ := h.2.1 i hi
   have hp := hok i hi
   have r' := r
   obtain ⟨a',c',hv2,_,h3 | ⟨q,ha,hq,hql,hpt,hqT⟩⟩ := r'.own
   ·omega
   injection hv2 with k1 k2 k3
   have hai : (T i).a = some ⟨q,0,none⟩ := k1.trans ha
   refine ⟨q,hai,⟨hq,hql⟩,?_,?_,?_⟩
   ·intro e'
    obtain ⟨c1,h1⟩ := heap_of_row r q (by rw [hai]; rfl)
    obtain ⟨c2,h2⟩ := heap_of_row h.1 g (by rw [hv]; rfl)
    rw [e',h2] at h1
    injection h1 with h1
    injection h1 with _ h1
    exact absurd h1 (by decide)
   ·rw [e5]; exact hqT
   ·rw [e5,e6,e7]; exact hpt
  have hFi : ∀ i,i < k → FeatAt w g (i * 7) (T i).id (T i).la (T i).ki (T i).wi (.slice (T i).a (T i).n (T i).cap) (T i).lab (T i).pr := fun i hi => by
   have hF' := hF i hi
   have er : (List.range k).getD i 0 = i := by simp [List.getD,hi]
   rw [er] at hF'
   exact hF'
  refine ⟨_,c,hv,hc, .inr ⟨g,rfl,⟨hg,hgl⟩,fun i hi => ⟨hFi i hi,?_⟩⟩, .inr ⟨g,fun i => (((T i).a).map (·.block)).getD 0,rfl,⟨hg,hgl,Nat.le_refl _⟩,hT,fun i hi => ?_,fun i j hi hj hij => ?_⟩⟩
  ·obtain ⟨q,ea,hq,_,_,hp⟩ := hat i hi
   exact ⟨q,0,ea,hq,hp⟩
  ·obtain ⟨q,ea,hq,hne,hTq,_⟩ := hat i hi
   simp only [ea,Option.map_some,Option.getD_some]
   refine ⟨⟨hq.1,hq.2,hne⟩,hTq,?_⟩
   have := (hFi i hi).2.2.2.2.1
   rw [ea] at this
   exact this
  ·obtain ⟨q1,e1,_⟩ := hat i hi
   obtain ⟨q2,e2,_⟩ := hat j hj
   simp only [e1,e2,Option.map_some,Option.getD_some] at hij
   subst hij
   exact h.2.2 i j hi hj (e1.trans e2.symm)
theorem SrcB.wide {lo lo' base n : Nat} {w : World} {a : Option Addr} {T : Nat → Feat} (h : SrcB lo base w a n T) (hl : lo' ≤ lo) : SrcB lo' base w a n T := by
 rcases h with h | ⟨g,ea,⟨g1,g2⟩,h⟩
 ·exact .inl h
 ·refine .inr ⟨g,ea,⟨by omega,g2⟩,fun i hi => ?_⟩
  obtain ⟨hF,q,o,eq,⟨q1,q2⟩,hp⟩ := h i hi
  exact ⟨hF,q,o,eq,⟨by omega,q2⟩,hp⟩
theorem OwnR.wide {lo lo' hi m : Nat} {w : World} {a : Option Addr} {N C : Nat → Nat} (h : OwnR w lo hi a m N C) (hl : lo' ≤ lo) : OwnR w lo' hi a m N C := by
 rcases h with h | ⟨g,q,e,⟨h1,h2,h3⟩,h4,h5,h6⟩
 ·exact .inl h
 ·exact .inr ⟨g,q,e,⟨by omega,h2,h3⟩,h4,fun i hi => ⟨⟨by have := (h5 i hi).1.1; omega,(h5 i hi).1.2⟩,(h5 i hi).2⟩,h6⟩
theorem impl_BuildTile_any (z x y : Int) (b n cap : Nat) (G : Nat → Feat) (w : World) (hg : FsAt w b 0 n G) (hbl : b < w.heap.size) (hs : SmallFs n G) (hcap : n ≤ cap) :
  Calls Tryz.prog 6 #[.slice (some ⟨b,0,none⟩) n cap,refV z x y] w (BtAns (btC z x y n G) (btK z x y n G z) (btK z x y n G x) (btK z x y n G y) (btM z x y n G) (btG z x y n G) w) := by
 cases hr : refB z x y
 ·have hc : btC z x y n G = 3 := by unfold btC; rw [hr]; rfl
  have hm : btM z x y n G = 0 := by unfold btM; rw [hc]; rfl
  have hk : ∀ v,btK z x y n G v = 0 := fun v => by unfold btK; rw [hc]; rfl
  rw [hc,hm,hk,hk,hk]
  refine (impl_BuildTile_ref z x y _ _ _ _ rfl w hr).mono ?_
  rintro e w' ⟨rfl,hb⟩
  exact ⟨none,0,G,rfl, .inl rfl,fun i hi => absurd hi (Nat.not_lt_zero _), .inl rfl,Nat.le_refl _,hb⟩
 ·have hc : btC z x y n G = featsC n G := by unfold btC; rw [hr]; rfl
  by_cases hf : featsC n G = 0
  ·have hm : btM z x y n G = (chs z x y n G).length := by unfold btM; rw [hc,if_pos hf]
   have hk : ∀ v,btK z x y n G v = v := fun v => by unfold btK; rw [hc,if_pos hf]
   have hz : zoomB z = true := by simp [refB] at hr; exact hr.1
   rw [hc,hm,hk,hk,hk,hf]
   refine (impl_BuildTile_ok z x y b n cap G w hg hbl hs hcap hf hr).mono ?_
   rintro e w' ⟨base,a,c,T,rfl,hS,hB,hb⟩
   obtain ⟨a',c',hv,hle,h1,h2⟩ := hS.own (fun i hi => (simL_facts ((featsC_ok hf).2.2 _ (chs_lt i hi)) hz).2.2.2)
   injection hv with e1 e2 e3
   subst e1 e3
   exact ⟨a,c,T,rfl,h1.wide hB,fun i hi => bF_sim (hS.2.1 i hi).1,h2.wide hB,hle,hb⟩
  ·have hm : btM z x y n G = 0 := by unfold btM; rw [hc,if_neg hf]
   have hk : ∀ v,btK z x y n G v = 0 := fun v => by unfold btK; rw [hc,if_neg hf]
   rw [hc,hm,hk,hk,hk]
   refine (impl_BuildTile_fts z x y b n cap G w hg hbl hs hcap hf hr).mono ?_
   rintro e w' ⟨rfl,hb⟩
   exact ⟨none,0,G,rfl, .inl rfl,fun i hi => absurd hi (Nat.not_lt_zero _), .inl rfl,Nat.le_refl _,hb⟩
end Go.Proofs.YtfkonhagjahgnaaGreat
