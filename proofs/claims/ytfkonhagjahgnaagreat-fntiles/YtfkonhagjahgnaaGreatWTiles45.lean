/- Texts. -/
import Derived.Test.YtfkonhagjahgnaaGreatWTiles44
set_option linter.unusedSimpArgs false
set_option linter.unusedVariables false
set_option maxRecDepth 100000
set_option maxHeartbeats 32000000
namespace Go.Proofs.YtfkonhagjahgnaaGreat
open Go.RowKit
theorem filt_parts {l : List Nat} {m : Nat} (h : m < l.length) : l = l.take m ++ l.getD m 0 :: l.drop (m + 1) := by
 have e : l.getD m 0 = l[m] := by simp [List.getD_eq_getElem?_getD,h]
 rw [e,List.getElem_cons_drop h,List.take_append_drop]
theorem filt_succ {l : List Nat} {p : Nat → Bool} {m : Nat} (h : m < l.length) : (l.take (m + 1)).filter p = (l.take m).filter p ++ (if p (l.getD m 0) = true then [l.getD m 0] else []) := by
 have e : l.getD m 0 = l[m] := by simp [List.getD_eq_getElem?_getD,h]
 rw [List.take_succ_eq_append_getElem h,List.filter_append,e]
 by_cases hp : p l[m] = true
 ·rw [if_pos hp]; simp [hp]
 ·rw [if_neg hp]; simp [hp]
theorem filt_getD {l : List Nat} {p : Nat → Bool} {m : Nat} (h : m < l.length) (hp : p (l.getD m 0) = true) : (l.filter p).getD ((l.take m).filter p).length 0 = l.getD m 0 := by
 have e := filt_parts h
 have e2 : l.filter p = (l.take m).filter p ++ l.getD m 0 :: (l.drop (m + 1)).filter p := by
  conv => lhs; rw [e]
  rw [List.filter_append,List.filter_cons_of_pos hp]
 rw [e2,List.getD_eq_getElem?_getD,List.getElem?_append_right (Nat.le_refl _),Nat.sub_self]
 rfl
noncomputable def rchF (z x y : Int) (f : Feat) : Bool := rchB 0 f.wi z x y (dblR (simL z f))
noncomputable def chs (z x y : Int) (n : Nat) (G : Nat → Feat) : List Nat := (srtF n G).filter fun j => rchF z x y (G j)
noncomputable def chsM (z x y : Int) (n : Nat) (G : Nat → Feat) (m : Nat) : List Nat := ((srtF n G).take m).filter fun j => rchF z x y (G j)
theorem chsM_yes {z x y : Int} {n m : Nat} {G : Nat → Feat} (h : m < n) (hp : rchF z x y (G ((srtF n G).getD m 0)) = true) : (chsM z x y n G (m + 1)).length = (chsM z x y n G m).length + 1 ∧ (chs z x y n G).getD (chsM z x y n G m).length 0 = (srtF n G).getD m 0 := by
 have hl : m < (srtF n G).length := by have : (srtF n G).length = n := srtK_len _ _ _; omega
 constructor
 ·unfold chsM
  rw [filt_succ hl,if_pos hp]
  simp
 ·exact filt_getD (p := fun j => rchF z x y (G j)) hl hp
theorem chsM_no {z x y : Int} {n m : Nat} {G : Nat → Feat} (h : m < n) (hp : rchF z x y (G ((srtF n G).getD m 0)) = false) : (chsM z x y n G (m + 1)).length = (chsM z x y n G m).length := by
 have hl : m < (srtF n G).length := by have : (srtF n G).length = n := srtK_len _ _ _; omega
 unfold chsM
 rw [filt_succ hl,if_neg (by rw [hp]; decide)]
 simp
theorem chsM_all {z x y : Int} {n : Nat} {G : Nat → Feat} : chsM z x y n G n = chs z x y n G := by
 unfold chsM chs
 have : (srtF n G).length = n := srtK_len _ _ _
 rw [List.take_of_length_le (by omega)]
theorem chsM_le {z x y : Int} {n m : Nat} {G : Nat → Feat} : (chsM z x y n G m).length ≤ n := by
 have : (srtF n G).length = n := srtK_len _ _ _
 refine Nat.le_trans (List.length_filter_le _ _) ?_
 rw [List.length_take]
 omega
end Go.Proofs.YtfkonhagjahgnaaGreat
