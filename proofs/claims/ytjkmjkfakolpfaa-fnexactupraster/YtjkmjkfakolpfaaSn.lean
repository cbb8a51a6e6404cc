/- The point of the grid that is nearest. -/
import Derived.Test.YtjkmjkfakolpfaaUn
import Derived.Test.YtjkmjkfakolpfaaFault
import Derived.Test.YtjkmjkfakolpfaaSet2
import Derived.Deep.RegionHeld3
namespace Go.Proofs.Ytjkmjkfakolpfaa
open Go.RowKit
set_option linter.unusedSimpArgs false
set_option linter.unusedVariables false

/-- The grid of a zoom. -/
def gridI (z : Int) : Int := if z = 0 then 32 else if z = 1 then 16 else if z = 2 then 8 else 4
/-- The nearest multiple of the grid. -/
def snapI (z v : Int) : Int := (v + gridI z / 2) / gridI z * gridI z
/-- The answer of SnapPoint. -/
def snapV (x y z : Int) : Value := if (zoomB z && inW x y) = true then .agg #[.int .i64 0, .int .i64 (snapI z x), .int .i64 (snapI z y)] else .agg #[.int .i64 3, .int .i64 0, .int .i64 0]
theorem inW_bd {x y : Int} (h : inW x y = true) : (0 ≤ x ∧ x ≤ 1024) ∧ (0 ≤ y ∧ y ≤ 1024) := by
  simp [inW, inB] at h
  omega
theorem inW_ok {x y : Int} (h : inW x y = true) : okP x y = true := by
  rw [okP_iff]
  have := inW_bd h
  omega
theorem tdiv_nn {a b : Int} (h : 0 ≤ a) : a.tdiv b = a / b := Int.tdiv_eq_ediv_of_nonneg h

theorem unit_bd {z : Int} (h : zoomB z = true) : 0 ≤ unitI z ∧ unitI z ≤ 128 ∧ unitI z / 4 = gridI z := by
  rcases zoomB_cases h with rfl | rfl | rfl | rfl <;> decide
/-- Three stores into one block, read back. -/
theorem set3_at {W : World} {r : Nat} {a b c : Value} (hT : There W r 3) :
    (((W.setCell ⟨r, 0, none⟩ a).setCell ⟨r, 1, none⟩ b).setCell ⟨r, 2, none⟩ c).cell? ⟨r, 0, none⟩ = some a ∧
    (((W.setCell ⟨r, 0, none⟩ a).setCell ⟨r, 1, none⟩ b).setCell ⟨r, 2, none⟩ c).cell? ⟨r, 1, none⟩ = some b ∧
    (((W.setCell ⟨r, 0, none⟩ a).setCell ⟨r, 1, none⟩ b).setCell ⟨r, 2, none⟩ c).cell? ⟨r, 2, none⟩ = some c := by
  obtain ⟨x0, h0⟩ := (hT 0 (by omega)).1
  obtain ⟨x1, h1⟩ := (hT 1 (by omega)).1
  obtain ⟨x2, h2⟩ := (hT 2 (by omega)).1
  have ne : ∀ i j : Nat, i ≠ j → (⟨r, i, none⟩ : Addr) ≠ ⟨r, j, none⟩ := fun i j hij h => hij (by injection h)
  refine ⟨?_, ?_, ?_⟩
  · rw [set1_other (ne 2 0 (by omega)), set1_other (ne 1 0 (by omega))]; exact set1_same h0
  · rw [set1_other (ne 2 1 (by omega))]; exact set1_same (by rw [set1_other (ne 0 1 (by omega))]; exact h1)
  · exact set1_same (by rw [set1_other (ne 1 2 (by omega)), set1_other (ne 0 2 (by omega))]; exact h2)
theorem there3 (V : World) (a b c : Value) (t : TypeId) : There (V.alloc (.cells #[a, b, c] t)) V.heap.size 3 := fun o ho => by
  refine ⟨⟨#[a, b, c][o]'(by simpa using ho), ?_⟩, World.frozen?_alloc_at _ _ _ _ rfl⟩
  rw [World.cell?_alloc_at _ _ _ _ rfl]
  exact Array.getElem?_eq_getElem _

theorem there2 (V : World) (a b : Value) (t : TypeId) : There (V.alloc (.cells #[a, b] t)) V.heap.size 2 := fun o ho => by
  refine ⟨⟨#[a, b][o]'(by simpa using ho), ?_⟩, World.frozen?_alloc_at _ _ _ _ rfl⟩
  rw [World.cell?_alloc_at _ _ _ _ rfl]
  exact Array.getElem?_eq_getElem _

end Go.Proofs.Ytjkmjkfakolpfaa
