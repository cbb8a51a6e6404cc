/- What goes of a line is near what stays. No program in sight. -/
import Derived.Test.YtdmlgfifiicmpaaTh0
namespace Go.Proofs.Ytdmlgfifiicmpaa
set_option linter.unusedVariables false

/-- Point i is near one of the segments of the places of a list. -/
def Close (X Y : Nat → Int) (r : Int) (i : Nat) (l : List Nat) : Prop := ∃ k, k + 1 < l.length ∧ nearI X Y r (l.getD k 0) (l.getD (k + 1) 0) i = true
theorem Close.left {X Y : Nat → Int} {r : Int} {i : Nat} {l : List Nat} (l' : List Nat) (h : Close X Y r i l) : Close X Y r i (l ++ l') := by
  obtain ⟨k, hk, hn⟩ := h
  refine ⟨k, by simp; omega, ?_⟩
  rw [List.getD_eq_getElem?_getD, List.getD_eq_getElem?_getD, List.getElem?_append_left (by omega), List.getElem?_append_left (by omega), ← List.getD_eq_getElem?_getD, ← List.getD_eq_getElem?_getD]
  exact hn
theorem Close.right {X Y : Nat → Int} {r : Int} {i : Nat} {l : List Nat} (l' : List Nat) (h : Close X Y r i l) : Close X Y r i (l' ++ l) := by
  obtain ⟨k, hk, hn⟩ := h
  refine ⟨l'.length + k, by simp; omega, ?_⟩
  rw [List.getD_eq_getElem?_getD, List.getD_eq_getElem?_getD, List.getElem?_append_right (by omega), List.getElem?_append_right (by omega), show l'.length + k - l'.length = k by omega, show l'.length + k + 1 - l'.length = k + 1 by omega, ← List.getD_eq_getElem?_getD, ← List.getD_eq_getElem?_getD]
  exact hn
theorem Thin.head {X Y : Nat → Int} {r : Int} {f t : Nat} {l : List Nat} (h : Thin X Y r f t l) : ∃ l', l = f :: l' := by
  induction h with
  | near f t h0 => exact ⟨[], rfl⟩
  | split f t m l1 l2 h1 hm t1 t2 i1 i2 =>
    obtain ⟨l', rfl⟩ := i1
    exact ⟨l' ++ l2, rfl⟩
theorem Thin.close {X Y : Nat → Int} {r : Int} {f t : Nat} {l : List Nat} (h : Thin X Y r f t l) : ∀ i, f ≤ i → i ≤ t → f < t → Close X Y r i (l ++ [t]) := by
  induction h with
  | near f t h0 =>
    intro i h1 h2 h3
    refine ⟨0, by simp, ?_⟩
    simp
    by_cases e1 : i = f
    · subst e1; exact near_first _ _ _ _ _
    · by_cases e2 : i = t
      · subst e2; exact near_last _ _ _ _ _
      · cases hn : nearI X Y r f t i
        · have := (farB_iff X Y r f t).2 ⟨i, by omega, by omega, hn⟩
          rw [h0] at this; cases this
        · rfl
  | split f t m l1 l2 h1 hm t1 t2 i1 i2 =>
    intro i h2 h3 h4
    have a1 := hm.lo
    have a2 := hm.hi
    by_cases hi : i ≤ m
    · obtain ⟨l', rfl⟩ := t2.head
      have := (i1 i h2 hi (by omega)).left (l' ++ [t])
      simpa using this
    · have := (i2 i (by omega) h3 (by omega)).right l1
      simpa using this
end Go.Proofs.Ytdmlgfifiicmpaa
