/- Entries in order of their Ids: those found Id by Id are those sorted. -/
import Derived.Test.YtjnhaigmfjndhaaVFindBox1
import Derived.Test.YtjnhaigmfjndhaaVFindBox27
namespace Go.Proofs.Ytjnhaigmfjndhaa
open Go.RowKit
set_option linter.unusedSimpArgs false
set_option linter.unusedVariables false

/-- Those of n whose number is from 1 to k, number by number. -/
def scanI (I : Nat → Int) (n : Nat) : Nat → List Nat
  | 0 => []
  | k + 1 => scanI I n k ++ (List.range n).filter (fun i => decide (I i = ((k + 1 : Nat) : Int)))
theorem scanI_mem (I : Nat → Int) (n i : Nat) : ∀ k, i ∈ scanI I n k ↔ i < n ∧ 1 ≤ I i ∧ I i ≤ (k : Int)
  | 0 => by simp [scanI]; omega
  | k + 1 => by
    rw [scanI, List.mem_append, scanI_mem I n i k, List.mem_filter]
    simp
    omega
theorem scanI_pair (I : Nat → Int) (n : Nat) : ∀ k, (scanI I n k).Pairwise (fun a b => I a < I b ∨ (I a = I b ∧ a < b))
  | 0 => by simp [scanI]
  | k + 1 => by
    rw [scanI, List.pairwise_append]
    refine ⟨scanI_pair I n k, ?_, fun a ha b hb => ?_⟩
    · refine ((List.pairwise_lt_range (n := n)).filter _).imp_of_mem fun {a b} ha hb h => ?_
      rw [List.mem_filter] at ha hb
      have h1 := of_decide_eq_true ha.2
      have h2 := of_decide_eq_true hb.2
      exact .inr ⟨by omega, h⟩
    · have h1 := (scanI_mem I n a k).1 ha
      rw [List.mem_filter] at hb
      have h2 := of_decide_eq_true hb.2
      exact .inl (by omega)
theorem scanI_srt (I : Nat → Int) (n m : Nat) (h : apartK I n) (hin : ∀ i, i < n → 1 ≤ I i ∧ I i ≤ (m : Int)) : scanI I n m = srtK (fun _ => 0) I n := by
  refine srtK_unique _ _ n h _ ?_ ((scanI_pair I n m).imp fun {a b} hab => ?_)
  · rw [List.perm_ext_iff_of_nodup]
    · intro a
      rw [scanI_mem, List.mem_range]
      exact ⟨fun h => h.1, fun ha => ⟨ha, hin a ha⟩⟩
    · exact (scanI_pair I n m).imp fun {a b} hab e => by subst e; omega
    · exact List.nodup_range
  · rw [ltK_no]
    omega
theorem scanI_len (I : Nat → Int) (n : Nat) (h : apartK I n) (k : Nat) : (scanI I n k).length ≤ n := by
  have h1 : (scanI I n k).Nodup := (scanI_pair I n k).imp fun {a b} hab e => by subst e; omega
  have h2 : scanI I n k ⊆ List.range n := fun i hi => List.mem_range.2 ((scanI_mem I n i k).1 hi).1
  simpa using h1.length_le_of_subset h2
/-- The entries of quads without a fault. -/
theorem ents_ok {Q : Nat → Qd} {n : Nat} (h : quadsC Q n = 0) : (esOf Q n).length ≤ 24 ∧ apartK (fun i => (entAt (esOf Q n) i).id) (esOf Q n).length ∧ ∀ i, i < (esOf Q n).length → 1 ≤ (entAt (esOf Q n) i).id ∧ (entAt (esOf Q n) i).id ≤ 999 := by
  have he : entsC (esOf Q n).length (entAt (esOf Q n)) = 0 := by
    unfold quadsC at h
    split at h
    · cases h
    · split at h
      · rename_i h2
        exact absurd h h2
      · split at h
        · rename_i h3
          exact absurd h h3
        · rename_i h3
          simpa using h3
  generalize entAt (esOf Q n) = E at *
  generalize (esOf Q n).length = m at *
  unfold entsC at he
  split at he
  · cases he
  · rename_i h24
    have hz := fun i (hi : i < m) => scan_zero (eCode E) m 0 he i (Nat.zero_le _) (by omega)
    have hid : ∀ i, i < m → 1 ≤ (E i).id ∧ (E i).id ≤ 999 := fun i hi => by
      have := hz i hi
      cases hb : inB (E i).id 1 999
      · rw [eCode_id hb] at this
        cases this
      · simpa [inB] using hb
    refine ⟨by omega, ?_, hid⟩
    have hno : ∀ i j, i < m → j < i → (E j).id ≠ (E i).id := fun i j hi hj e => by
      have := hz i hi
      unfold eCode at this
      split at this
      · cases this
      · split at this
        · contradiction
        · split at this
          · cases this
          · rename_i hn
            exact hn ⟨j, hj, e⟩
    intro i j hi hj e
    rcases Nat.lt_trichotomy i j with hl | he' | hl
    · exact absurd e (hno j i hj hl)
    · exact he'
    · exact absurd e.symm (hno i j hi hl)
/-- In order of their Ids. -/
def srtE (E : Nat → Ent) (n : Nat) : List Nat := srtK (fun _ => 0) (fun i => (E i).id) n
noncomputable def eiN (Q : Nat → Qd) (n : Nat) : Nat := if quadsC Q n = 0 then (esOf Q n).length else 0
def eiE (Q : Nat → Qd) (n : Nat) (i : Nat) : Ent := entAt (esOf Q n) ((srtE (entAt (esOf Q n)) (esOf Q n).length).getD i 0)
theorem eiN_le (Q : Nat → Qd) (n : Nat) : eiN Q n ≤ 24 := by
  unfold eiN
  split
  · exact (ents_ok (by assumption)).1
  · omega
end Go.Proofs.Ytjnhaigmfjndhaa
