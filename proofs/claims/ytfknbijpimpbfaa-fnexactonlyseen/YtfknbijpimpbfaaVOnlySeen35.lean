/- Several texts in one. -/
import Derived.Test.YtfknbijpimpbfaaVOnlySeen15
import Derived.Test.YtfknbijpimpbfaaVOnlySeen29
import Derived.Test.YtfknbijpimpbfaaVOnlySeen30
import Derived.Test.YtfknbijpimpbfaaVOnlySeen34

/- The kids of a ref: the model. -/

namespace Go.Proofs.Ytfknbijpimpbfaa
open Go.RowKit
set_option linter.unusedSimpArgs false
set_option linter.unusedVariables false
set_option maxRecDepth 100000

theorem RowT.set {base r o : Nat} {w : World} {v u : Value} {n : Nat} {R : Rfs} (h : RowT base w v n R) (hr : r < base) : RowT base (w.setCell ⟨r, o, none⟩ u) v n R := by
  obtain ⟨h1, h2 | ⟨g, cp, cur, hv, hg, hh, hr'⟩⟩ := h
  · exact ⟨h1, .inl h2⟩
  · refine ⟨h1, .inr ⟨g, cp, cur, hv, hg, ?_, hr'⟩⟩
    rw [Below.heap_setCell _ _ _ _ (by simp; omega)]
    exact hh
theorem There.belowR {W W' : World} {r n B : Nat} (h : There W r n) (hb : Below B W W') (hr : r < B) : There W' r n := fun o ho => by
  obtain ⟨u, hu⟩ := (h o ho).1
  exact ⟨⟨u, (hb.cell (p := ⟨r, o, none⟩) hr).trans hu⟩, (hb.frozen (p := ⟨r, o, none⟩) hr).trans (h o ho).2⟩
end Go.Proofs.Ytfknbijpimpbfaa
/- VisibleRefs: the model, and the law's steps. -/

namespace Go.Proofs.Ytfknbijpimpbfaa
open Go.RowKit
set_option linter.unusedSimpArgs false
set_option linter.unusedVariables false
set_option maxRecDepth 100000

theorem l9Refs_any {z x y wd ht : Int} (b : Nat) (w : World) (hA : CamAt w b z x y wd ht) (hr : camB z x y wd ht = true) : Calls Try.prog 71 #[.pointer (some ⟨b, 0, none⟩)] w fun e w' => ∃ v, e = .returned v ∧ RowT w.heap.size w' v (visM z x y wd ht) (visR z x y wd) ∧ Below w.heap.size w w' := by
  have e2 : visM z x y wd ht = visN y ht * visN x wd := by unfold visM; rw [if_pos hr]
  have hin := camB_in hr
  have nx := visN_bd (x := x) hin.1.1
  have ny := visN_bd (x := y) hin.1.2
  rw [e2]
  exact l9Refs_ok b w hA hr rfl rfl rfl rfl rfl rfl ⟨⟨nx.1, nx.2.1⟩, by omega⟩ ⟨⟨ny.1, ny.2.1⟩, by omega⟩ rfl
end Go.Proofs.Ytfknbijpimpbfaa
