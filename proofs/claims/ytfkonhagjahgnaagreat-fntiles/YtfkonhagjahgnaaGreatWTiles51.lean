/- Texts. -/
import Derived.Test.YtfkonhagjahgnaaGreatWTiles49
import Derived.Test.YtfkonhagjahgnaaGreatWTiles33
import Derived.Test.YtfkonhagjahgnaaGreatWTiles19
import Derived.Test.YtfkonhagjahgnaaGreatWTiles39
set_option linter.unusedSimpArgs false
set_option linter.unusedVariables false
set_option maxRecDepth 100000
set_option maxHeartbeats 32000000
namespace Go.Proofs.YtfkonhagjahgnaaGreat
open Go.RowKit
noncomputable def covT (z cx cy : Int) (f : Feat) : Bool := coverB f.ki f.wi z cx cy (dblL (px (simL z f)) (py (simL z f)) (simL z f).length)
theorem unit_pos {z : Int} (hz : zoomB z = true) : 0 < unitI z := by rcases zoomB_cases hz with rfl | rfl | rfl | rfl <;> simp [unitI]
theorem cent_mono {z a b : Int} (hz : zoomB z = true) (h : a ≤ b) : centI z a ≤ centI z b := by
 unfold centI
 exact Int.mul_le_mul_of_nonneg_right (by omega) (Int.le_of_lt (unit_pos hz))
theorem cov_reach {z x y : Int} {f : Feat} (hf : okC f) (hz : zoomB z = true) (a b : Int) (ha : 0 ≤ a ∧ a ≤ 7) (hb : 0 ≤ b ∧ b ≤ 7) (h : covT z (centI z (x * 8 + a)) (centI z (y * 8 + b)) f = true) : rchF z x y f = true := by
 have hwi := (featC_rng hf).2.2.1
 have hr0 : 0 ≤ reachI f.wi z := by unfold reachI; exact Int.mul_nonneg (by omega) (Int.le_of_lt (unit_pos hz))
 have hc := cover_box hr0 h
 have c1 := cent_mono hz (show x * 8 ≤ x * 8 + a by omega)
 have c2 := cent_mono hz (show x * 8 + a ≤ x * 8 + 7 by omega)
 have c3 := cent_mono hz (show y * 8 ≤ y * 8 + b by omega)
 have c4 := cent_mono hz (show y * 8 + b ≤ y * 8 + 7 by omega)
 unfold rchF rchB rb1 rb2 rb3 rb4
 have e0 : ∀ v : Int,zI 0 v = v := fun v => if_pos rfl
 simp only [e0]
 simp [meetB]
 obtain ⟨h1,h2,h3,h4⟩ := hc
 refine ⟨⟨⟨?_,?_⟩,?_⟩,?_⟩ <;> (first | exact Int.le_trans h1 c2 | exact Int.le_trans c1 h2 | exact Int.le_trans h3 c4 | exact Int.le_trans c3 h4)
theorem chs_pair {z x y : Int} {n : Nat} {G : Nat → Feat} (h : featsC n G = 0) : (chs z x y n G).Pairwise (fun a b => ltK (fun i => (G i).la) (fun i => (G i).id) a b = true) := (srtK_sorted _ _ n (featsC_ok h).2.1).filter _
theorem chs_at {z x y : Int} {n : Nat} {G : Nat → Feat} (i : Nat) (hi : i < (chs z x y n G).length) : (chs z x y n G).getD i 0 = (chs z x y n G)[i] := by simp [List.getD_eq_getElem?_getD,hi]
theorem chs_lt2 {z x y : Int} {n : Nat} {G : Nat → Feat} (h : featsC n G = 0) (i j : Nat) (hij : i < j) (hj : j < (chs z x y n G).length) : ltK (fun i => (G i).la) (fun i => (G i).id) ((chs z x y n G).getD i 0) ((chs z x y n G).getD j 0) = true := by
 have hp := chs_pair (z := z) (x := x) (y := y) h
 rw [List.pairwise_iff_getElem] at hp
 rw [chs_at i (by omega),chs_at j hj]
 exact hp i j (by omega) hj hij
theorem chs_has {z x y : Int} {n : Nat} {G : Nat → Feat} (j : Nat) (hj : j < n) (h : rchF z x y (G j) = true) : ∃ i,i < (chs z x y n G).length ∧ (chs z x y n G).getD i 0 = j := by
 have hm : j ∈ chs z x y n G := List.mem_filter.2 ⟨(srtK_mem _ _ n j).2 hj,h⟩
 obtain ⟨i,hi,e⟩ := List.getElem_of_mem hm
 exact ⟨i,hi,by rw [chs_at i hi]; exact e⟩
theorem bt_feats {z x y : Int} {n : Nat} {G : Nat → Feat} (hc : btC z x y n G = 0) : featsC (btM z x y n G) (btG z x y n G) = 0 ∧ ordS (btM z x y n G) (btG z x y n G) = true := by
 obtain ⟨hr,hf⟩ := btC_zero hc
 have hz : zoomB z = true := by simp [refB] at hr; exact hr.1
 obtain ⟨h12,hap,hok⟩ := featsC_ok hf
 have hM : btM z x y n G = (chs z x y n G).length := by unfold btM; rw [if_pos hc]
 rw [hM]
 have hlt := chs_lt2 (z := z) (x := x) (y := y) hf
 refine ⟨featsC_zero (Nat.le_trans chs_le h12) (fun i j hi hj e => ?_) (fun i hi => ?_),?_⟩
 ·have e' : (chs z x y n G).getD i 0 = (chs z x y n G).getD j 0 := hap _ _ (chs_lt i hi) (chs_lt j hj) e
  rcases Nat.lt_trichotomy i j with h | h | h
  ·have := hlt i j h hj
   rw [e'] at this
   simp [ltK] at this
  ·exact h
  ·have := hlt j i h hi
   rw [e'] at this
   simp [ltK] at this
 ·have h0 := hok _ (chs_lt i hi)
  obtain ⟨k1,k2,k3,k4⟩ := simL_facts h0 hz
  exact featC_again h0 k1 k2 (fun i => k3.at i)
 ·unfold ordS
  rw [decide_eq_true_eq]
  intro i hi
  have := hlt i (i + 1) (by omega) (by omega)
  rw [ltK_iff] at this
  show ltF (bF z (G ((chs z x y n G).getD i 0))) (bF z (G ((chs z x y n G).getD (i + 1) 0))) = true
  simp [ltF,bF]
  exact this
theorem fL_len68 {f : Feat} (h : Okf f) : (fL f).length ≤ 68 := by
 obtain ⟨i,l,k,v,p,e1,e2,e3,e4,e5,g1,g2,g3,g4,g5,gn,gn',hin,hs⟩ := feat_ok h
 have hp := ptsL_len hin f.n (Nat.le_refl _)
 have b1 := putI_len2 f.id.toNat (by omega)
 have b2 := putI_len2 f.la.toNat (by omega)
 have b3 := putI_len2 f.ki.toNat (by omega)
 have b4 := putI_len2 f.wi.toNat (by omega)
 have b5 := putI_len2 f.pr.toNat (by omega)
 have b6 := putI_len2 f.lab.size (by omega)
 have b7 := putI_len2 f.n (by omega)
 simp [fL,featL,hd,labL]
 omega
theorem catL_len68 {n : Nat} {G : Nat → Feat} (h : ∀ i,i < n → Okf (G i)) : ∀ k,k ≤ n → (catL G k).length ≤ 68 * k
 | 0,_ => by simp [catL]
 | k + 1,hk => by
  have h1 := catL_len68 h k (by omega)
  have h2 := fL_len68 (h k (by omega))
  simp [catL]
  omega
theorem dat_fit {n : Nat} {G : Nat → Feat} (h : featsC n G = 0) : (datL n G).length + 2 ≤ 900 := by
 obtain ⟨h12,_,hok⟩ := featsC_ok h
 have h1 := catL_len68 hok n (Nat.le_refl _)
 have h2 := putI_len2 n (by omega)
 simp [datL]
 omega
theorem bt_pl {z x y : Int} {n : Nat} {G : Nat → Feat} (hc : btC z x y n G = 0) : plC (btM z x y n G) (btG z x y n G) = 0 ∧ plL (btM z x y n G) (btG z x y n G) = endL (datL (btM z x y n G) (btG z x y n G)) := by
 obtain ⟨h1,h2⟩ := bt_feats hc
 have h3 := dat_fit h1
 have h0 : plC (btM z x y n G) (btG z x y n G) = 0 := by
  unfold plC
  rw [if_pos h1,if_pos h2,if_neg (by omega)]
 exact ⟨h0,by unfold plL; rw [if_pos h0]⟩
noncomputable def btX (z x y : Int) (n : Nat) (G : Nat → Feat) : List Fx := (List.range (btM z x y n G)).map fun i => fxOf (btG z x y n G i) (simL z (G ((chs z x y n G).getD i 0)))
theorem btX_len (z x y : Int) (n : Nat) (G : Nat → Feat) : (btX z x y n G).length = btM z x y n G := by simp [btX]
theorem btX_same {z x y : Int} {n : Nat} {G : Nat → Feat} (hc : btC z x y n G = 0) (i : Nat) (hi : i < btM z x y n G) : (btG z x y n G i).same (fxG (btX z x y n G) i) := by
 have hok : Okf (btG z x y n G i) := (featsC_ok (bt_feats hc).1).2.2 i hi
 have e : fxAt (btX z x y n G) i = fxOf (btG z x y n G i) (simL z (G ((chs z x y n G).getD i 0))) := by
  unfold fxAt btX
  simp [List.getD_eq_getElem?_getD,hi]
 unfold fxG
 rw [e]
 exact fxOf_same hok rfl rfl rfl none 0
theorem bt_up {z x y : Int} {n : Nat} {G : Nat → Feat} (hc : btC z x y n G = 0) : upG (zz (plL (btM z x y n G) (btG z x y n G))) (plL (btM z x y n G) (btG z x y n G)).length = some (btX z x y n G) := by
 obtain ⟨h1,h2⟩ := bt_feats hc
 obtain ⟨p1,p2⟩ := bt_pl hc
 have hsame : ∀ i,i < btM z x y n G → (fxG (btX z x y n G) i).same (btG z x y n G i) := fun i hi => Feat.same_symm (btX_same hc i hi)
 have hl := btX_len z x y n G
 have hz : ∀ i,0 ≤ zz (plL (btM z x y n G) (btG z x y n G)) i ∧ zz (plL (btM z x y n G) (btG z x y n G)) i ≤ 255 := zz_byt (plL_byt _ _)
 refine upG_pack hz (btX z x y n G) (fun f hf => ?_) ?_ ?_ ?_
 ·unfold btX at hf
  obtain ⟨i,hi,rfl⟩ := List.mem_map.1 hf
  exact fxOf_ok ((featsC_ok h1).2.2 i (List.mem_range.1 hi)) rfl rfl rfl
 ·unfold fxC
  rw [hl,featsC_same hsame]
  exact h1
 ·unfold fxO
  rw [hl,ord_same (featsC_ok (by rw [featsC_same hsame]; exact h1)).2.1,ord_congr hsame]
  exact h2
 ·have e : datL (btX z x y n G).length (fxG (btX z x y n G)) = datL (btM z x y n G) (btG z x y n G) := by
   rw [hl]
   unfold datL
   rw [catL_fx2 hsame _ (Nat.le_refl _)]
  rw [e, ← p2]
  exact ⟨rfl,fun j _ => by rw [Nat.add_zero]⟩
end Go.Proofs.YtfkonhagjahgnaaGreat
