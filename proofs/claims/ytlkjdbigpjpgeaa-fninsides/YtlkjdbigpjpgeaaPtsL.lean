/- A row of points that was appended to. -/
import Derived.Test.YtlkjdbigpjpgeaaDrawIn
namespace Go.Proofs.Ytlkjdbigpjpgeaa
open Go.RowKit
/-- The cells of the first n points. -/
def ptsL (X Y : Nat → Int) : Nat → List Value
  | 0 => []
  | n + 1 => ptsL X Y n ++ [.int .i64 (X n), .int .i64 (Y n)]
theorem ptsL_len (X Y : Nat → Int) : ∀ n, (ptsL X Y n).length = n * 2
  | 0 => rfl
  | n + 1 => by rw [ptsL, List.length_append, ptsL_len X Y n]; simp; omega
theorem ptsL_at (X Y : Nat → Int) : ∀ n i, i < n → (ptsL X Y n)[i * 2]? = some (.int .i64 (X i)) ∧ (ptsL X Y n)[i * 2 + 1]? = some (.int .i64 (Y i))
  | 0, i, h => absurd h (by omega)
  | n + 1, i, h => by
    rw [ptsL]
    by_cases e : i = n
    · subst e
      rw [List.getElem?_append_right (by rw [ptsL_len]; omega), List.getElem?_append_right (by rw [ptsL_len]; omega), ptsL_len]
      simp
    · obtain ⟨h1, h2⟩ := ptsL_at X Y n i (by omega)
      rw [List.getElem?_append_left (by rw [ptsL_len]; omega), List.getElem?_append_left (by rw [ptsL_len]; omega)]
      exact ⟨h1, h2⟩
theorem pts_of {w : World} {base : Nat} {e : TypeId} {v : Value} {k : Nat} {X Y : Nat → Int} (h : w.ownsRow base e 2 v k (ptsL X Y k)) (hne : v ≠ .slice none 0 0) :
    ∃ (b cp : Nat), v = .slice (some ⟨b, 0, none⟩) k cp ∧ base ≤ b ∧ b < w.heap.size ∧ k ≤ cp ∧ PtsAt w b 0 k X Y := by
  obtain ⟨h1, h2 | ⟨g, cp, cur, rfl, hg, hh, hkc, hcm, hcs, htk⟩⟩ := h
  · exact absurd h2.1 hne
  · have hgl : g < w.heap.size := by
      rcases Nat.lt_or_ge g w.heap.size with h' | h'
      · exact h'
      · rw [Array.getElem?_eq_none h'] at hh; cases hh
    refine ⟨g, cp, rfl, hg, hgl, hkc, fun i hi => ?_⟩
    have hc := fun j hj => World.ownsRow.cellAt (w := w) (base := base) (e := e) (size := 2) (g := g) (cap := cp) (n := k) (xs := ptsL X Y k) ⟨h1, .inr ⟨g, cp, cur, rfl, hg, hh, hkc, hcm, hcs, htk⟩⟩ j hj
    obtain ⟨e1, e2⟩ := ptsL_at X Y k i hi
    simp only [Nat.zero_add]
    exact ⟨(hc _ (by omega)).trans e1, (hc _ (by omega)).trans e2⟩
end Go.Proofs.Ytlkjdbigpjpgeaa
