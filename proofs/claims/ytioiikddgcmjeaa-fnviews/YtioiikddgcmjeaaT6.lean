/- The kids of a ref: the model. -/
import Derived.Test.YtioiikddgcmjeaaT5
namespace Go.Proofs.Ytioiikddgcmjeaa
open Go.RowKit
set_option linter.unusedSimpArgs false
set_option linter.unusedVariables false
set_option maxRecDepth 100000

theorem RowT.set {base r o : Nat} {w : World} {v u : Value} {n : Nat} {R : Rfs} (h : RowT base w v n R) (hr : r < base) : RowT base (w.setCell ⟨r, o, none⟩ u) v n R := by
  obtain ⟨h1, h2 | ⟨g, cp, cur, hv, hg, hh, hr'⟩⟩ := h
  · exact ⟨h1, .inl h2⟩
  · refine ⟨h1, .inr ⟨g, cp, cur, hv, hg, ?_, hr'⟩⟩
    rw [Below.heap_setCell _ _ _ _ (by simp; omega)]
    exact hh
theorem There.belowR {W W' : World} {r n B : Nat} (h : There W r n) (hb : Below B W W') (hr : r < B) : There W' r n := fun o ho => by
  obtain ⟨u, hu⟩ := (h o ho).1
  exact ⟨⟨u, (hb.cell (p := ⟨r, o, none⟩) hr).trans hu⟩, (hb.frozen (p := ⟨r, o, none⟩) hr).trans (h o ho).2⟩
end Go.Proofs.Ytioiikddgcmjeaa
