/- The order by layer, of the same by id: places are sorted, and there is one sorted list alone. No program in sight. -/
import Derived.WalkKit
namespace Go.Proofs.YtiheemnjfihhfaaGreat

/-- Place i is ahead of place j: by layer, of the same by id. -/
def ltK (L I : Nat → Int) (i j : Nat) : Bool := decide (L i < L j) || (decide (L i = L j) && decide (I i < I j))
theorem ltK_iff (L I : Nat → Int) (i j : Nat) : ltK L I i j = true ↔ L i < L j ∨ (L i = L j ∧ I i < I j) := by simp [ltK]
theorem ltK_no (L I : Nat → Int) (i j : Nat) : ltK L I i j = false ↔ ¬ (L i < L j ∨ (L i = L j ∧ I i < I j)) := by
  rw [← ltK_iff]; simp
def insK (L I : Nat → Int) (i : Nat) : List Nat → List Nat
  | [] => [i]
  | j :: r => if ltK L I j i = true then j :: insK L I i r else i :: j :: r
def srtK (L I : Nat → Int) : Nat → List Nat
  | 0 => []
  | n + 1 => insK L I n (srtK L I n)
theorem insK_perm (L I : Nat → Int) (i : Nat) : ∀ l, (insK L I i l).Perm (i :: l)
  | [] => .refl _
  | j :: r => by
    rw [insK]
    split
    · exact ((insK_perm L I i r).cons j).trans (.swap i j r)
    · exact .refl _
theorem srtK_perm (L I : Nat → Int) : ∀ n, (srtK L I n).Perm (List.range n)
  | 0 => .refl _
  | n + 1 => by
    rw [srtK, List.range_succ]
    exact (insK_perm L I n _).trans (((srtK_perm L I n).cons n).trans (List.perm_append_singleton n _).symm)
theorem srtK_len (L I : Nat → Int) (n : Nat) : (srtK L I n).length = n := by simpa using (srtK_perm L I n).length_eq
theorem srtK_mem (L I : Nat → Int) (n i : Nat) : i ∈ srtK L I n ↔ i < n := by rw [(srtK_perm L I n).mem_iff]; simp
/-- No two places have the same id. -/
def apartK (I : Nat → Int) (n : Nat) : Prop := ∀ i j, i < n → j < n → I i = I j → i = j
theorem insK_sorted (L I : Nat → Int) (i : Nat) : ∀ l : List Nat, l.Pairwise (fun a b => ltK L I a b = true) → (∀ j ∈ l, I j ≠ I i) → (insK L I i l).Pairwise (fun a b => ltK L I a b = true)
  | [], _, _ => by simp [insK]
  | j :: r, h, hd => by
    rw [List.pairwise_cons] at h
    rw [insK]
    split
    · rename_i hji
      rw [List.pairwise_cons]
      refine ⟨fun x hx => ?_, insK_sorted L I i r h.2 (fun x hx => hd x (List.mem_cons_of_mem _ hx))⟩
      rcases List.mem_cons.1 ((insK_perm L I i r).mem_iff.1 hx) with rfl | hx
      · exact hji
      · exact h.1 x hx
    · rename_i hji
      have hij : ltK L I i j = true := by
        have hne := hd j (List.mem_cons_self ..)
        rw [ltK_iff] at hji ⊢
        omega
      refine List.pairwise_cons.2 ⟨fun x hx => ?_, List.pairwise_cons.2 h⟩
      rcases List.mem_cons.1 hx with rfl | hx
      · exact hij
      · have := h.1 x hx
        rw [ltK_iff] at this hij ⊢
        omega
theorem srtK_sorted (L I : Nat → Int) : ∀ n, apartK I n → (srtK L I n).Pairwise (fun a b => ltK L I a b = true)
  | 0, _ => by simp [srtK]
  | n + 1, h => by
    rw [srtK]
    refine insK_sorted L I n _ (srtK_sorted L I n (fun i j hi hj e => h i j (by omega) (by omega) e)) (fun j hj e => ?_)
    have hj' := (srtK_mem L I n j).1 hj
    have := h j n (by omega) (by omega) e
    omega
theorem srtK_unique (L I : Nat → Int) (n : Nat) (h : apartK I n) (l : List Nat) (hp : l.Perm (List.range n)) (hs : l.Pairwise (fun a b => ltK L I b a = false)) : l = srtK L I n := by
  refine List.Perm.eq_of_pairwise (le := fun a b => ltK L I b a = false) (fun a b ha hb h1 h2 => ?_) hs ((srtK_sorted L I n h).imp (fun {a b} hab => ?_)) (hp.trans (srtK_perm L I n).symm)
  · have ha' : a < n := by simpa using hp.mem_iff.1 ha
    have hb' := (srtK_mem L I n b).1 hb
    rw [ltK_no] at h1 h2
    exact h a b ha' hb' (by omega)
  · rw [ltK_iff] at hab
    rw [ltK_no]
    omega
theorem ltK_congr {L I L' I' : Nat → Int} {i j : Nat} (h1 : L i = L' i) (h2 : L j = L' j) (h3 : I i = I' i) (h4 : I j = I' j) : ltK L I i j = ltK L' I' i j := by
  unfold ltK; rw [h1, h2, h3, h4]
theorem insK_congr {L I L' I' : Nat → Int} {i : Nat} : ∀ l : List Nat, (∀ j, (j = i ∨ j ∈ l) → L j = L' j ∧ I j = I' j) → insK L I i l = insK L' I' i l
  | [], _ => rfl
  | j :: r, h => by
    obtain ⟨a1, a2⟩ := h j (.inr (List.mem_cons_self ..))
    obtain ⟨b1, b2⟩ := h i (.inl rfl)
    rw [insK, insK, ltK_congr a1 b1 a2 b2, insK_congr r (fun k hk => h k (hk.imp id (List.mem_cons_of_mem _)))]
theorem srtK_congr {L I L' I' : Nat → Int} : ∀ n : Nat, (∀ j, j < n → L j = L' j ∧ I j = I' j) → srtK L I n = srtK L' I' n
  | 0, _ => rfl
  | n + 1, h => by
    rw [srtK, srtK, srtK_congr n (fun j hj => h j (by omega))]
    refine insK_congr _ (fun j hj => ?_)
    rcases hj with rfl | hj
    · exact h j (by omega)
    · exact h j (by have := (srtK_mem L' I' n j).1 hj; omega)
/-- The place at which a new one is laid. -/
theorem insK_at (L I : Nat → Int) (i : Nat) : ∀ (l : List Nat) (k : Nat), k ≤ l.length → (∀ j, j < k → ltK L I (l.getD j 0) i = true) → (k = l.length ∨ ltK L I (l.getD k 0) i = false) → insK L I i l = l.take k ++ i :: l.drop k
  | [], k, hk, _, _ => by have : k = 0 := by simpa using hk
                          subst this; rfl
  | j :: r, 0, _, _, h2 => by
    have h3 : ltK L I j i = false := by simpa using h2
    rw [insK, if_neg (by simp [h3])]; rfl
  | j :: r, k + 1, hk, h1, h2 => by
    have h3 : ltK L I j i = true := by simpa using h1 0 (by omega)
    rw [insK, if_pos h3, insK_at L I i r k (by simpa using hk) (fun q hq => by simpa using h1 (q + 1) (by omega)) (by simpa using h2)]
    rfl
end Go.Proofs.YtiheemnjfihhfaaGreat
