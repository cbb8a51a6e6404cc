/- Several texts in one. -/
import Derived.Test.YtjnhaigmfjndhaaVEntriesIn3
import Derived.Test.YtjnhaigmfjndhaaVEntriesIn28
import Derived.Test.YtjnhaigmfjndhaaVEntriesIn14

/- Entries in order of their Ids: those found Id by Id are those sorted. -/

namespace Go.Proofs.Ytjnhaigmfjndhaa
open Go.RowKit
set_option linter.unusedSimpArgs false
set_option linter.unusedVariables false

/-- Those of n whose number is from 1 to k, number by number. -/
def scanI (I : Nat → Int) (n : Nat) : Nat → List Nat
  | 0 => []
  | k + 1 => scanI I n k ++ (List.range n).filter (fun i => decide (I i = ((k + 1 : Nat) : Int)))
theorem scanI_mem (I : Nat → Int) (n i : Nat) : ∀ k, i ∈ scanI I n k ↔ i < n ∧ 1 ≤ I i ∧ I i ≤ (k : Int)
  | 0 => by simp [scanI]; omega
  | k + 1 => by
    rw [scanI, List.mem_append, scanI_mem I n i k, List.mem_filter]
    simp
    omega
theorem scanI_pair (I : Nat → Int) (n : Nat) : ∀ k, (scanI I n k).Pairwise (fun a b => I a < I b ∨ (I a = I b ∧ a < b))
  | 0 => by simp [scanI]
  | k + 1 => by
    rw [scanI, List.pairwise_append]
    refine ⟨scanI_pair I n k, ?_, fun a ha b hb => ?_⟩
    · refine ((List.pairwise_lt_range (n := n)).filter _).imp_of_mem fun {a b} ha hb h => ?_
      rw [List.mem_filter] at ha hb
      have h1 := of_decide_eq_true ha.2
      have h2 := of_decide_eq_true hb.2
      exact .inr ⟨by omega, h⟩
    · have h1 := (scanI_mem I n a k).1 ha
      rw [List.mem_filter] at hb
      have h2 := of_decide_eq_true hb.2
      exact .inl (by omega)
theorem scanI_srt (I : Nat → Int) (n m : Nat) (h : apartK I n) (hin : ∀ i, i < n → 1 ≤ I i ∧ I i ≤ (m : Int)) : scanI I n m = srtK (fun _ => 0) I n := by
  refine srtK_unique _ _ n h _ ?_ ((scanI_pair I n m).imp fun {a b} hab => ?_)
  · rw [List.perm_ext_iff_of_nodup]
    · intro a
      rw [scanI_mem, List.mem_range]
      exact ⟨fun h => h.1, fun ha => ⟨ha, hin a ha⟩⟩
    · exact (scanI_pair I n m).imp fun {a b} hab e => by subst e; omega
    · exact List.nodup_range
  · rw [ltK_no]
    omega
theorem scanI_len (I : Nat → Int) (n : Nat) (h : apartK I n) (k : Nat) : (scanI I n k).length ≤ n := by
  have h1 : (scanI I n k).Nodup := (scanI_pair I n k).imp fun {a b} hab e => by subst e; omega
  have h2 : scanI I n k ⊆ List.range n := fun i hi => List.mem_range.2 ((scanI_mem I n i k).1 hi).1
  simpa using h1.length_le_of_subset h2
/-- The entries of quads without a fault. -/
theorem ents_ok {Q : Nat → Qd} {n : Nat} (h : quadsC Q n = 0) : (esOf Q n).length ≤ 24 ∧ apartK (fun i => (entAt (esOf Q n) i).id) (esOf Q n).length ∧ ∀ i, i < (esOf Q n).length → 1 ≤ (entAt (esOf Q n) i).id ∧ (entAt (esOf Q n) i).id ≤ 999 := by
  have he : entsC (esOf Q n).length (entAt (esOf Q n)) = 0 := by
    unfold quadsC at h
    split at h
    · cases h
    · split at h
      · rename_i h2
        exact absurd h h2
      · split at h
        · rename_i h3
          exact absurd h h3
        · rename_i h3
          simpa using h3
  generalize entAt (esOf Q n) = E at *
  generalize (esOf Q n).length = m at *
  unfold entsC at he
  split at he
  · cases he
  · rename_i h24
    have hz := fun i (hi : i < m) => scan_zero (eCode E) m 0 he i (Nat.zero_le _) (by omega)
    have hid : ∀ i, i < m → 1 ≤ (E i).id ∧ (E i).id ≤ 999 := fun i hi => by
      have := hz i hi
      cases hb : inB (E i).id 1 999
      · rw [eCode_id hb] at this
        cases this
      · simpa [inB] using hb
    refine ⟨by omega, ?_, hid⟩
    have hno : ∀ i j, i < m → j < i → (E j).id ≠ (E i).id := fun i j hi hj e => by
      have := hz i hi
      unfold eCode at this
      split at this
      · cases this
      · split at this
        · contradiction
        · split at this
          · cases this
          · rename_i hn
            exact hn ⟨j, hj, e⟩
    intro i j hi hj e
    rcases Nat.lt_trichotomy i j with hl | he' | hl
    · exact absurd e (hno j i hj hl)
    · exact he'
    · exact absurd e.symm (hno i j hi hl)
/-- In order of their Ids. -/
def srtE (E : Nat → Ent) (n : Nat) : List Nat := srtK (fun _ => 0) (fun i => (E i).id) n
noncomputable def eiN (Q : Nat → Qd) (n : Nat) : Nat := if quadsC Q n = 0 then (esOf Q n).length else 0
def eiE (Q : Nat → Qd) (n : Nat) (i : Nat) : Ent := entAt (esOf Q n) ((srtE (entAt (esOf Q n)) (esOf Q n).length).getD i 0)
theorem eiN_le (Q : Nat → Qd) (n : Nat) : eiN Q n ≤ 24 := by
  unfold eiN
  split
  · exact (ents_ok (by assumption)).1
  · omega
end Go.Proofs.Ytjnhaigmfjndhaa
/- Which blocks are written, and what stays. -/

namespace Go.Proofs.Ytjnhaigmfjndhaa
open Go.RowKit
set_option linter.unusedSimpArgs false
set_option linter.unusedVariables false
set_option maxRecDepth 100000

/-- Only blocks from lo to hi are written. -/
structure MidB (lo hi : Nat) (w w' : World) : Prop where
  os : w'.os = w.os
  tape : w'.tape = w.tape
  output : w'.output = w.output
  size : w.heap.size ≤ w'.heap.size
  block : ∀ k, k < w.heap.size → (k < lo ∨ hi ≤ k) → w'.heap[k]? = w.heap[k]?
theorem MidB.refl (lo hi : Nat) (w : World) : MidB lo hi w w := ⟨rfl, rfl, rfl, Nat.le_refl _, fun _ _ _ => rfl⟩
theorem MidB.trans {lo hi : Nat} {a b c : World} (h : MidB lo hi a b) (k : MidB lo hi b c) : MidB lo hi a c :=
  ⟨k.os.trans h.os, k.tape.trans h.tape, k.output.trans h.output, Nat.le_trans h.size k.size, fun i hi ho => (k.block i (Nat.lt_of_lt_of_le hi h.size) ho).trans (h.block i hi ho)⟩
theorem MidB.of_below {lo hi : Nat} {a b : World} (h : Below a.heap.size a b) : MidB lo hi a b := ⟨h.os, h.tape, h.output, h.size, fun i hi _ => h.block i hi⟩
theorem MidB.of_grown {lo hi s : Nat} {a b : World} (h : a.grownBy b (some s)) (h1 : lo ≤ s) (h2 : s < hi) : MidB lo hi a b :=
  ⟨h.os, h.tape, h.output, h.size, fun j hj ho => h.block j hj (fun e => by injection e with e; omega)⟩
theorem MidB.set {lo hi s : Nat} {a b : World} (h : MidB lo hi a b) (h1 : lo ≤ s) (h2 : s < hi) (o : Nat) (v : Value) : MidB lo hi a (b.setCell ⟨s, o, none⟩ v) :=
  h.trans (MidB.of_grown (grown_set (grown_refl b (some s)) o v) h1 h2)
theorem MidB.below {lo hi : Nat} {a b : World} (h : MidB lo hi a b) (hl : lo ≤ a.heap.size) : Below lo a b := ⟨h.os, h.tape, h.output, h.size, fun k hk => h.block k (by omega) (.inl hk)⟩
theorem MidB.cell {lo hi : Nat} {a b : World} (h : MidB lo hi a b) {p o : Nat} {v : Value} (hc : a.cell? ⟨p, o, none⟩ = some v) (ho : p < lo ∨ hi ≤ p) : b.cell? ⟨p, o, none⟩ = some v := by
  have hp := World.block_lt_of_cell? _ _ hc
  have he := h.block p hp ho
  have hg : a.grownBy (b) none ∨ True := .inr trivial
  unfold World.cell? at hc ⊢
  simp only [he]
  exact hc
theorem MidB.there {lo hi : Nat} {a b : World} (h : MidB lo hi a b) {p n : Nat} (hT : There a p n) (ho : p < lo ∨ hi ≤ p) : There b p n := fun o hn => by
  obtain ⟨v, hv⟩ := (hT o hn).1
  refine ⟨⟨v, h.cell hv ho⟩, ?_⟩
  have he := h.block p (World.block_lt_of_cell? _ _ hv) ho
  have hz := (hT o hn).2
  unfold World.frozen? at hz ⊢
  simp only [he]
  exact hz
theorem There.grown {w w' : World} {p n s : Nat} (h : There w p n) (hg : w.grownBy w' (some s)) (hs : p ≠ s) : There w' p n := fun o hn => by
  obtain ⟨v, hv⟩ := (h o hn).1
  refine ⟨⟨v, gr_cell hg hv hs⟩, ?_⟩
  have he := hg.block p (World.block_lt_of_cell? _ _ hv) (fun e => hs (by injection e))
  have hz := (h o hn).2
  unfold World.frozen? at hz ⊢
  simp only [he]
  exact hz
end Go.Proofs.Ytjnhaigmfjndhaa
