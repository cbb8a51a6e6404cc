/- What a range over a list from its last on down needs. -/
import Derived.Test.YthidgolnajggpaaGreatVNearestIn27
import Derived.RangeFuncNested
import Derived.RangeFuncBound
import Derived.RangeFuncCalls
import Derived.RangeFuncLeaves
import Derived.RangeFuncBox
import Derived.Shelf.Abstract
import Derived.Shelf.RegionOpen
import Derived.OwnWalkIn
import Derived.TacticsInMore
import Derived.LoopNIn
import Derived.LoopIn
namespace Go.Proofs.YthidgolnajggpaaGreat
open Go.RowKit Go.Shelf
attribute [local go_sem] Oper.semAt_some
set_option linter.unusedSimpArgs false
set_option linter.unusedVariables false
set_option maxRecDepth 100000

/-- What lies below T stays, and block Bs. -/
def KS (T Bs : Nat) (A B : World) : Prop := Below T A B ∧ B.heap[Bs]? = A.heap[Bs]?
theorem KS.refl (T Bs : Nat) (A : World) : KS T Bs A A := ⟨Below.refl _ _, rfl⟩
theorem KS.trans {T Bs : Nat} {A B C : World} (h : KS T Bs A B) (k : KS T Bs B C) : KS T Bs A C := ⟨h.1.trans k.1, k.2.trans h.2⟩
theorem KS.alloc {T Bs : Nat} {A B : World} (h : KS T Bs A B) (hT : T ≤ A.heap.size) (hB : Bs < A.heap.size) (o : Obj) : KS T Bs A (B.alloc o) := ⟨h.1.alloc (Nat.le_trans hT h.1.size) o, (Below.heap_alloc B o Bs (Nat.lt_of_lt_of_le hB h.1.size)).trans h.2⟩
theorem KS.cell {T Bs : Nat} {A B : World} (h : KS T Bs A B) {v : Value} (hc : A.cell? ⟨Bs, 0, none⟩ = some v) : B.cell? ⟨Bs, 0, none⟩ = some v := (World.cell?_of_block (w := A) (a := ⟨Bs, 0, none⟩) h.2).trans hc
theorem KS.put {T Bs : Nat} {w : World} (hT : T ≤ w.heap.size) (hB : Bs < w.heap.size) (W : World) (l : Nat) (o o' : Obj) (hl : w.heap.size ≤ l) (h1 : W.heap[l]? = some o) (h2 : o.isCells = false) (h3 : o.isWalk = false) : KS T Bs W (W.putObj l o') := ⟨belowK_b (w := w) hT W l o o' hl h1 h2 h3, by
  have := (belowK_b (w := w) (n₀ := Bs + 1) hB W l o o' hl h1 h2 h3).block Bs (Nat.lt_succ_self _)
  exact this⟩
theorem objS_keep {W W' : World} {row : Option Nat} {b : Nat} {arr : Array Value} {t : TypeId} {fz : Nat × Nat} (h : W.heap[b]? = some (.cells arr t fz)) (hg : W.grownBy W' row) (hr : ∀ r, row = some r → ∃ o : Obj, W.heap[r]? = some o ∧ o.isCells = false) : W'.heap[b]? = some (.cells arr t fz) := by
  rw [hg.block b (lt_of_heap h) (fun e => by
    obtain ⟨o, ho, hc⟩ := hr b e.symm
    rw [h] at ho
    cases ho
    cases hc)]
  exact h
theorem keepsS {W W' : World} (h : Below W.heap.size W W') : KeepsOthers W W' := ⟨h.size, fun k o hk _ => (h.block k (lt_of_heap hk)).trans hk⟩
/-- From the last on down. -/
def downN (n k : Nat) : List Nat := (List.range k).map fun j => n - 1 - j
theorem downN_succ (n k : Nat) : downN n (k + 1) = downN n k ++ [n - 1 - k] := by simp [downN, List.range_succ]
theorem downN_len (n k : Nat) : (downN n k).length = k := by simp [downN]
theorem downN_pre (n k m : Nat) (h : k ≤ m) : downN n k <+: downN n m := by
  obtain ⟨d, rfl⟩ : ∃ d, m = k + d := ⟨m - k, by omega⟩
  unfold downN
  rw [List.range_add, List.map_append]
  exact List.prefix_append _ _
theorem downN_of_pre {n : Nat} {l : List Nat} (h : l <+: downN n n) : l = downN n l.length ∧ l.length ≤ n := by
  have hl := h.length_le
  rw [downN_len] at hl
  have h1 := downN_pre n l.length n hl
  refine ⟨?_, hl⟩
  exact (List.prefix_of_prefix_length_le h h1 (by rw [downN_len]; exact Nat.le_refl _)).eq_of_length (by rw [downN_len])
/-- A place of a list of n. -/
abbrev Pl (n : Nat) := { i : Nat // i < n }
theorem paintI_none {C : Nat → Bool} {I : Nat → Int} : ∀ {n : Nat}, (∀ i, i < n → C i = false) → paintI C I n = 0
  | 0, _ => rfl
  | n + 1, h => by rw [paintI, h n (by omega), if_neg (by simp)]; exact paintI_none fun i hi => h i (by omega)
theorem paintI_some {C : Nat → Bool} {I : Nat → Int} : ∀ {n i : Nat}, i < n → C i = true → (∀ j, i < j → j < n → C j = false) → paintI C I n = I i
  | n + 1, i, hi, h, hn => by
    rw [paintI]
    by_cases e : i = n
    · subst e; rw [h, if_pos rfl]
    · rw [hn n (by omega) (by omega), if_neg (by simp)]
      exact paintI_some (by omega) h fun j h1 h2 => hn j h1 (by omega)
theorem front_done {C : Nat → Bool} {I : Nat → Int} {n : Nat} {ys : List (Pl n)} (h : ys.map (·.1) = downN n n) (ha : ∀ x ∈ ys, C x.1 = false) : paintI C I n = 0 := by
  refine paintI_none fun i hi => ?_
  have hm : i ∈ ys.map (·.1) := by
    rw [h]
    unfold downN
    exact List.mem_map.2 ⟨n - 1 - i, List.mem_range.2 (by omega), by omega⟩
  obtain ⟨x, hx, rfl⟩ := List.mem_map.1 hm
  exact ha x hx
theorem front_stop {C : Nat → Bool} {I : Nat → Int} {n : Nat} {p : List (Pl n)} {x : Pl n} (h : (p ++ [x]).map (·.1) <+: downN n n) (ha : ∀ y ∈ p, C y.1 = false) (hx : C x.1 = true) : paintI C I n = I x.1 := by
  obtain ⟨h1, h2⟩ := downN_of_pre h
  have hl : ((p ++ [x]).map (·.1)).length = p.length + 1 := by simp
  rw [hl] at h1 h2
  rw [downN_succ, List.map_append] at h1
  have e1 : p.map (·.1) = downN n p.length := by
    have := List.append_inj_left h1 (by rw [downN_len]; simp)
    exact this
  have e2 : x.1 = n - 1 - p.length := by
    have := List.append_inj_right h1 (by rw [downN_len]; simp)
    simpa using this
  refine paintI_some x.2 hx fun j h3 h4 => ?_
  have hm : j ∈ p.map (·.1) := by
    rw [e1]
    unfold downN
    exact List.mem_map.2 ⟨n - 1 - j, List.mem_range.2 (by omega), by omega⟩
  obtain ⟨y, hy, rfl⟩ := List.mem_map.1 hm
  exact ha y hy
end Go.Proofs.YthidgolnajggpaaGreat
