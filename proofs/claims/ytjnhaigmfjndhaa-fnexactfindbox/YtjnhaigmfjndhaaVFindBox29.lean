/- Ids of what meets a box: those found Id by Id are those sorted. -/
import Derived.Test.YtjnhaigmfjndhaaVFindBox28
import Derived.Test.YtjnhaigmfjndhaaVFindBox9
namespace Go.Proofs.Ytjnhaigmfjndhaa
open Go.RowKit
set_option linter.unusedSimpArgs false
set_option linter.unusedVariables false

/-- Those of n that are wanted and whose number is from 1 to k, number by number. -/
def scanM (I : Nat → Int) (M : Nat → Bool) (n : Nat) : Nat → List Nat
  | 0 => []
  | k + 1 => scanM I M n k ++ (List.range n).filter (fun i => decide (I i = ((k + 1 : Nat) : Int)) && M i)
theorem scanM_mem (I : Nat → Int) (M : Nat → Bool) (n i : Nat) : ∀ k, i ∈ scanM I M n k ↔ i < n ∧ M i = true ∧ 1 ≤ I i ∧ I i ≤ (k : Int)
  | 0 => by simp [scanM]; omega
  | k + 1 => by
    rw [scanM, List.mem_append, scanM_mem I M n i k, List.mem_filter]
    cases hM : M i <;> simp <;> omega
theorem scanM_pair (I : Nat → Int) (M : Nat → Bool) (n : Nat) : ∀ k, (scanM I M n k).Pairwise (fun a b => I a < I b ∨ (I a = I b ∧ a < b))
  | 0 => by simp [scanM]
  | k + 1 => by
    rw [scanM, List.pairwise_append]
    refine ⟨scanM_pair I M n k, ?_, fun a ha b hb => ?_⟩
    · refine ((List.pairwise_lt_range (n := n)).filter _).imp_of_mem fun {a b} ha hb h => ?_
      rw [List.mem_filter, Bool.and_eq_true] at ha hb
      have h1 := of_decide_eq_true ha.2.1
      have h2 := of_decide_eq_true hb.2.1
      exact .inr ⟨by omega, h⟩
    · have h1 := (scanM_mem I M n a k).1 ha
      rw [List.mem_filter, Bool.and_eq_true] at hb
      have h2 := of_decide_eq_true hb.2.1
      exact .inl (by omega)
theorem scanM_nodup (I : Nat → Int) (M : Nat → Bool) (n k : Nat) : (scanM I M n k).Nodup := (scanM_pair I M n k).imp fun {a b} hab e => by subst e; omega
theorem scanM_len (I : Nat → Int) (M : Nat → Bool) (n k : Nat) : (scanM I M n k).length ≤ n := by
  have h2 : scanM I M n k ⊆ List.range n := fun i hi => List.mem_range.2 ((scanM_mem I M n i k).1 hi).1
  simpa using (scanM_nodup I M n k).length_le_of_subset h2
theorem scanM_sort (I : Nat → Int) (M : Nat → Bool) (n m : Nat) (hin : ∀ i, i < n → 1 ≤ I i ∧ I i ≤ (m : Int)) : (scanM I M n m).map I = (((List.range n).filter M).map I).mergeSort (fun x y => decide (x ≤ y)) := by
  have hp : (scanM I M n m).Perm ((List.range n).filter M) := by
    rw [List.perm_ext_iff_of_nodup (scanM_nodup I M n m) (List.nodup_range.filter _)]
    intro a
    rw [scanM_mem, List.mem_filter, List.mem_range]
    exact ⟨fun h => ⟨h.1, h.2.1⟩, fun h => ⟨h.1, h.2, hin a h.1⟩⟩
  refine List.Perm.eq_of_pairwise (le := fun x y : Int => decide (x ≤ y) = true) (fun a b _ _ h1 h2 => ?_) ?_ ?_ ((hp.map I).trans (List.mergeSort_perm _ _).symm)
  · have := of_decide_eq_true h1
    have := of_decide_eq_true h2
    omega
  · rw [List.pairwise_map]
    exact (scanM_pair I M n m).imp fun {a b} h => decide_eq_true (by omega)
  · exact List.pairwise_mergeSort (fun a b c h1 h2 => by simp at *; omega) (fun a b => by simp; omega) _
/-- What meets a box. -/
def entM (E : Nat → Ent) (x0 x1 x2 x3 : Int) (i : Nat) : Bool := meetB (E i).a (E i).b (E i).c (E i).d x0 x1 x2 x3
/-- Their Ids, as they come. -/
def rawI (E : Nat → Ent) (m : Nat) (x0 x1 x2 x3 : Int) : List Int := ((List.range m).filter (entM E x0 x1 x2 x3)).map fun i => (E i).id
noncomputable def fbC (Q : Nat → Qd) (n : Nat) (x0 x1 x2 x3 : Int) : Int := if quadsC Q n = 0 then boxC x0 x1 x2 x3 else quadsC Q n
noncomputable def fbL (Q : Nat → Qd) (n : Nat) (x0 x1 x2 x3 : Int) : List Int := if fbC Q n x0 x1 x2 x3 = 0 then (rawI (entAt (esOf Q n)) (esOf Q n).length x0 x1 x2 x3).mergeSort (fun x y => decide (x ≤ y)) else []
theorem fbL_len (Q : Nat → Qd) (n : Nat) (x0 x1 x2 x3 : Int) : (fbL Q n x0 x1 x2 x3).length ≤ 24 := by
  unfold fbL
  split
  · rename_i h
    have hq : quadsC Q n = 0 := by
      unfold fbC at h
      split at h
      · assumption
      · contradiction
    have h1 := (ents_ok hq).1
    rw [List.length_mergeSort]
    unfold rawI
    rw [List.length_map]
    have h2 := List.length_filter_le (entM (entAt (esOf Q n)) x0 x1 x2 x3) (List.range (esOf Q n).length)
    rw [List.length_range] at h2
    omega
  · simp
end Go.Proofs.Ytjnhaigmfjndhaa
