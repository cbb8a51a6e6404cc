/- Two stores, read back. -/
import Derived.Test.YtbijdoddalfedaaDoorReg
namespace Go.Proofs.YtbijdoddalfedaaDoor
open Go.RowKit
theorem set1_other {W : World} {a p : Addr} {u : Value} (h : a ≠ p) : (W.setCell a u).cell? p = W.cell? p := World.cell?_setCell_other _ _ _ _ h
theorem set1_same {W : World} {a : Addr} {u x : Value} (h : W.cell? a = some x) : (W.setCell a u).cell? a = some u := World.cell?_setCell_same _ _ _ h
theorem set2_other {W : World} {a a' p : Addr} {u v : Value} (h : a ≠ p) (h' : a' ≠ p) : ((W.setCell a u).setCell a' v).cell? p = W.cell? p := by
  rw [set1_other h', set1_other h]
theorem set2_at {W : World} {r i j : Nat} {u v : Value} (hij : i ≠ j) (h0 : (W.cell? ⟨r, i, none⟩).isSome = true) (h1 : (W.cell? ⟨r, j, none⟩).isSome = true) :
    ((W.setCell ⟨r, i, none⟩ u).setCell ⟨r, j, none⟩ v).cell? ⟨r, i, none⟩ = some u ∧ ((W.setCell ⟨r, i, none⟩ u).setCell ⟨r, j, none⟩ v).cell? ⟨r, j, none⟩ = some v := by
  obtain ⟨x, hx⟩ := Option.isSome_iff_exists.1 h0
  obtain ⟨y, hy⟩ := Option.isSome_iff_exists.1 h1
  have n1 : (⟨r, i, none⟩ : Addr) ≠ ⟨r, j, none⟩ := fun h => hij (by injection h)
  have n2 : (⟨r, j, none⟩ : Addr) ≠ ⟨r, i, none⟩ := fun h => n1 h.symm
  refine ⟨?_, ?_⟩
  · rw [set1_other n2]; exact set1_same hx
  · exact set1_same (by rw [set1_other n1]; exact hy)
/-- Four stores into one block, read back. -/
theorem set4_at {W : World} {r : Nat} {a b c d : Value} (hT : There W r 4) :
    ((((W.setCell ⟨r, 0, none⟩ a).setCell ⟨r, 1, none⟩ b).setCell ⟨r, 2, none⟩ c).setCell ⟨r, 3, none⟩ d).cell? ⟨r, 0, none⟩ = some a ∧
    ((((W.setCell ⟨r, 0, none⟩ a).setCell ⟨r, 1, none⟩ b).setCell ⟨r, 2, none⟩ c).setCell ⟨r, 3, none⟩ d).cell? ⟨r, 1, none⟩ = some b ∧
    ((((W.setCell ⟨r, 0, none⟩ a).setCell ⟨r, 1, none⟩ b).setCell ⟨r, 2, none⟩ c).setCell ⟨r, 3, none⟩ d).cell? ⟨r, 2, none⟩ = some c ∧
    ((((W.setCell ⟨r, 0, none⟩ a).setCell ⟨r, 1, none⟩ b).setCell ⟨r, 2, none⟩ c).setCell ⟨r, 3, none⟩ d).cell? ⟨r, 3, none⟩ = some d := by
  obtain ⟨x0, h0⟩ := (hT 0 (by omega)).1
  obtain ⟨x1, h1⟩ := (hT 1 (by omega)).1
  obtain ⟨x2, h2⟩ := (hT 2 (by omega)).1
  obtain ⟨x3, h3⟩ := (hT 3 (by omega)).1
  have ne : ∀ i j : Nat, i ≠ j → (⟨r, i, none⟩ : Addr) ≠ ⟨r, j, none⟩ := fun i j hij h => hij (by injection h)
  refine ⟨?_, ?_, ?_, ?_⟩
  · rw [set1_other (ne 3 0 (by omega)), set1_other (ne 2 0 (by omega)), set1_other (ne 1 0 (by omega))]; exact set1_same h0
  · rw [set1_other (ne 3 1 (by omega)), set1_other (ne 2 1 (by omega))]; exact set1_same (by rw [set1_other (ne 0 1 (by omega))]; exact h1)
  · rw [set1_other (ne 3 2 (by omega))]; exact set1_same (by rw [set1_other (ne 1 2 (by omega)), set1_other (ne 0 2 (by omega))]; exact h2)
  · exact set1_same (by rw [set1_other (ne 2 3 (by omega)), set1_other (ne 1 3 (by omega)), set1_other (ne 0 3 (by omega))]; exact h3)
end Go.Proofs.YtbijdoddalfedaaDoor
