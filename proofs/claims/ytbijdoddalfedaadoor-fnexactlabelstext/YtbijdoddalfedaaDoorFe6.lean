/- The law of FeatureFault: what it calls besides. -/
import Derived.Test.YtbijdoddalfedaaDoorFe4
import Derived.Test.YtbijdoddalfedaaDoorSz
namespace Go.Proofs.YtbijdoddalfedaaDoor
open Go.RowKit
set_option linter.unusedSimpArgs false
set_option linter.unusedVariables false
set_option maxRecDepth 100000

/-- The value of a feature. -/
abbrev featV (id la ki wi : Int) (pts : Value) (lab : ByteArray) (pr : Int) : Value := .agg #[.int .i64 id, .int .i64 la, .int .i64 ki, .int .i64 wi, pts, .string lab, .int .i64 pr]

theorem PtsAt.store {W : World} {b off n : Nat} {X Y : Nat → Int} (h : PtsAt W b off n X Y) {r o : Nat} {v : Value} (hne : r ≠ b) : PtsAt (W.setCell ⟨r, o, none⟩ v) b off n X Y := fun i hi => by
  obtain ⟨h1, h2⟩ := h i hi
  refine ⟨?_, ?_⟩
  · rw [World.cell?_setCell_other]
    · exact h1
    · simp [hne]
  · rw [World.cell?_setCell_other]
    · exact h2
    · simp [hne]

theorem There.store {W : World} {b n : Nat} (h : There W b n) {r o : Nat} {v : Value} (hne : r ≠ b) : There (W.setCell ⟨r, o, none⟩ v) b n := fun i hi => by
  obtain ⟨u, hu⟩ := (h i hi).1
  refine ⟨⟨u, ?_⟩, by rw [World.frozen?_setCell]; exact (h i hi).2⟩
  rw [World.cell?_setCell_other]
  · exact hu
  · simp [hne]
/-- What is left behind a feature; -1: nothing. -/
def szF (left n s : Nat) : Int := if left < n + s then -1 else (left : Int) - (n : Int) - (s : Int)
end Go.Proofs.YtbijdoddalfedaaDoor
