/- Rows of words of the call's own; words that may be read. -/
import Derived.Test.YtbijdoddalfedaaRows
import Derived.Test.YtbijdoddalfedaaPlain
import Derived.Laws.OwnMore
import Derived.Deep.OwnRows
namespace Go.Proofs.Ytbijdoddalfedaa
open Go.RowKit
set_option linter.unusedSimpArgs false
set_option linter.unusedVariables false
set_option maxRecDepth 100000

def RowB (base : Nat) (w : World) (v : Value) (l : List ByteArray) : Prop := w.ownsRow base 9 1 v l.length (l.map (.string ·))
theorem rowB_form {v : Value} {base : Nat} {w : World} {l : List ByteArray} (h : RowB base w v l) (hl : 0 < l.length) : ∃ g c, v = .slice (some ⟨g, 0, none⟩) l.length c ∧ l.length ≤ c := by
  obtain ⟨_, h2 | ⟨g, cp, cur, hv, _, _, hkc, _⟩⟩ := h
  · omega
  · exact ⟨g, cp, hv, hkc⟩
theorem rowB_but {base : Nat} {w w' : World} {v : Value} {l : List ByteArray} (h : RowB base w v l) (hb : Below w.heap.size w w') : RowB base w' v l := by
  obtain ⟨h1, h2 | ⟨g, cp, cur, hv, hg, hh, hr⟩⟩ := h
  · exact ⟨h1, .inl h2⟩
  · refine ⟨h1, .inr ⟨g, cp, cur, hv, hg, ?_, hr⟩⟩
    rw [hb.block g ?_]
    · exact hh
    · rcases Nat.lt_or_ge g w.heap.size with h | h
      · exact h
      · rw [Array.getElem?_eq_none h] at hh; cases hh
theorem info_strL : ∃ i, Try.prog.info? 9 = some i ∧ i.zero = some (.string ⟨#[]⟩) ∧ i.size = 1 ∧ i.bytes = 16 := by
  refine ⟨_, rfl, ?_, ?_, ?_⟩ <;> kernel_rfl
theorem add_plainB (g j : Nat) : (⟨g, 0, none⟩ : Addr).add j = ⟨g, j, none⟩ := by
  unfold Addr.add
  by_cases h : j = 0
  · subst h; rfl
  · simp [h]
/-- Words that may be read. -/
def IsSt (w : World) (v : Value) (l : List ByteArray) : Prop := ∃ a c, v = .slice a l.length c ∧ (l = [] ∨ ∃ g, a = some ⟨g, 0, none⟩ ∧ g < w.heap.size ∧ ∀ j x, l[j]? = some x → w.cell? ⟨g, j, none⟩ = some (.string x))
theorem IsSt.below {w w' : World} {v : Value} {l : List ByteArray} (h : IsSt w v l) (hb : Below w.heap.size w w') : IsSt w' v l := by
  obtain ⟨a, c, e, h | ⟨g, e2, h1, h2⟩⟩ := h
  · exact ⟨a, c, e, .inl h⟩
  · exact ⟨a, c, e, .inr ⟨g, e2, Nat.lt_of_lt_of_le h1 hb.size, fun j x hj => (hb.cell (p := ⟨g, j, none⟩) h1).trans (h2 j x hj)⟩⟩
theorem RowB.is {base : Nat} {w : World} {v : Value} {l : List ByteArray} (h : RowB base w v l) : IsSt w v l := by
  rcases Nat.eq_zero_or_pos l.length with h0 | h0
  · have h' := h
    obtain ⟨_, h2 | ⟨g, cp, cur, hv, _⟩⟩ := h
    · refine ⟨none, 0, by rw [h2.1, h0], .inl (List.length_eq_zero_iff.1 h0)⟩
    · exact ⟨_, cp, hv, .inl (List.length_eq_zero_iff.1 h0)⟩
  · obtain ⟨g, c, hv, _⟩ := rowB_form h h0
    subst hv
    refine ⟨_, c, rfl, .inr ⟨g, rfl, (World.ownsRow.lt h g rfl).2, fun j x hj => ?_⟩⟩
    have := World.ownsRow.cells h (g := g) rfl j (.string x) (by simp [hj])
    rw [add_plainB] at this
    exact this
end Go.Proofs.Ytbijdoddalfedaa
