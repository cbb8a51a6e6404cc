/- faultIn answers the fault of the first point of a list that has one. -/
import Derived.Test.YtbijdoddalfedaaDoorFault
import Derived.Deep.LoopGhost
namespace Go.Proofs.YtbijdoddalfedaaDoor
open Go.RowKit
set_option linter.unusedSimpArgs false
set_option linter.unusedVariables false

/-- From the address on lie n points. -/
def PtsAt (w : World) (b off n : Nat) (X Y : Nat → Int) : Prop :=
  ∀ i, i < n → w.cell? ⟨b, off + i * 2, none⟩ = some (.int .i64 (X i)) ∧ w.cell? ⟨b, off + i * 2 + 1, none⟩ = some (.int .i64 (Y i))
theorem PtsAt.lt {w : World} {b off n : Nat} {X Y : Nat → Int} (h : PtsAt w b off n X Y) (hn : 0 < n) : b < w.heap.size :=
  World.block_lt_of_cell? w ⟨b, off + 0 * 2, none⟩ (h 0 hn).1
theorem PtsAt.below {w w' : World} {b off n B : Nat} {X Y : Nat → Int} (h : PtsAt w b off n X Y) (hb : Below B w w') (hB : b < B) : PtsAt w' b off n X Y := fun i hi =>
  ⟨(hb.cell (p := ⟨b, off + i * 2, none⟩) hB).trans (h i hi).1, (hb.cell (p := ⟨b, off + i * 2 + 1, none⟩) hB).trans (h i hi).2⟩
/-- No point has a fault. -/
def allOk (n : Nat) (X Y : Nat → Int) : Bool := decide (∀ i, i < n → okP (X i) (Y i) = true)
def codeN (n : Nat) (X Y : Nat → Int) : Int := if allOk n X Y = true then 0 else 3
theorem codeN_no {n : Nat} {X Y : Nat → Int} (k : Nat) (hk : k < n) (h : okP (X k) (Y k) = false) : codeN n X Y = 3 := by
  unfold codeN allOk
  rw [if_neg]
  intro hc
  have := of_decide_eq_true hc k hk
  rw [h] at this
  cases this
theorem codeN_ok {n : Nat} {X Y : Nat → Int} (h : ∀ i, i < n → okP (X i) (Y i) = true) : codeN n X Y = 0 := by
  unfold codeN allOk
  rw [if_pos (decide_eq_true h)]

end Go.Proofs.YtbijdoddalfedaaDoor
