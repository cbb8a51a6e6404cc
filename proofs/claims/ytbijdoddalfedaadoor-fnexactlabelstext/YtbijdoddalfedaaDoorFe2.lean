/- Labels: the program and the model tell the same ones. -/
import Derived.Test.YtbijdoddalfedaaDoorFe1
namespace Go.Proofs.YtbijdoddalfedaaDoor
open Go.RowKit
set_option linter.unusedSimpArgs false
set_option linter.unusedVariables false
set_option maxRecDepth 100000

/-- A byte of a text. -/
def byteI (s : ByteArray) (i : Nat) : Int := if h : i < s.size then ((s[i]'h).toNat : Int) else 0
theorem byteI_at (s : ByteArray) (i : Nat) (h : i < s.size) : byteI s i = ((s[i]'h).toNat : Int) := by simp [byteI, h]
/-- All its bytes are letters. -/
def allLet (s : ByteArray) : Bool := decide (∀ i, i < s.size → letB (byteI s i) = true)
def labB (s : ByteArray) : Bool := decide (s.size ≤ 6) && allLet s
theorem labB_long {s : ByteArray} (h : 6 < s.size) : labB s = false := by simp [labB]; omega
theorem labB_bad {s : ByteArray} (k : Nat) (hk : k < s.size) (h : letB (byteI s k) = false) : labB s = false := by
  have : allLet s = false := by
    unfold allLet
    rw [decide_eq_false]
    intro hc
    have := hc k hk
    rw [h] at this; cases this
  simp [labB, this]
theorem labB_all {s : ByteArray} (h : ∀ i, i < s.size → letB (byteI s i) = true) : labB s = decide (s.size ≤ 6) := by
  have : allLet s = true := decide_eq_true h
  simp [labB, this]

end Go.Proofs.YtbijdoddalfedaaDoor
