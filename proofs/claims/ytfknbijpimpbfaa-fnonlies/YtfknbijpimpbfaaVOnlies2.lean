/- Several texts in one. -/
import Derived.Test.YtfknbijpimpbfaaVOnlies1
import Derived.Deep.RegionHeld3

/- A region that stores into one block of its own while it calls: what is kept. -/

namespace Go.Proofs.Ytfknbijpimpbfaa
open Go.RowKit

/-- Block r has n cells that may be written. -/
def There (W : World) (r n : Nat) : Prop := ∀ o, o < n → (∃ v, W.cell? ⟨r, o, none⟩ = some v) ∧ W.frozen? ⟨r, o, none⟩ = false
/-- What a cell holds. -/
def cellOr (W : World) (r o : Nat) : Value := (W.cell? ⟨r, o, none⟩).getD undef
theorem There.cell {W : World} {r n : Nat} (h : There W r n) (o : Nat) (ho : o < n) : W.cell? ⟨r, o, none⟩ = some (cellOr W r o) := by
  obtain ⟨v, hv⟩ := (h o ho).1
  simp [cellOr, hv]
theorem There.below {W W' : World} {r n : Nat} (h : There W r n) (hb : Below W.heap.size W W') : There W' r n := fun o ho => by
  obtain ⟨v, hv⟩ := (h o ho).1
  have hlt : r < W.heap.size := World.block_lt_of_cell? W ⟨r, o, none⟩ hv
  exact ⟨⟨v, (hb.cell (p := ⟨r, o, none⟩) hlt).trans hv⟩, (hb.frozen (p := ⟨r, o, none⟩) hlt).trans (h o ho).2⟩
/-- Below B all is as in W, and block r may be written. -/
structure Reg (B : Nat) (W : World) (r n : Nat) (W' : World) : Prop where
  le : B ≤ W.heap.size
  bel : Below B W W'
  there : There W' r n
theorem Reg.call {B r n : Nat} {W W1 w' : World} (h : Reg B W r n W1) (hb : Below W1.heap.size W1 w') : Reg B W r n w' :=
  ⟨h.le, h.bel.trans (hb.mono (Nat.le_trans h.le h.bel.size)), h.there.below hb⟩
theorem Reg.drew {B r n : Nat} {W W1 : World} (h : Reg B W r n W1) : Reg B W r n W1.drew := ⟨h.le, h.bel.drew, h.there⟩
theorem Reg.alloc {B r n : Nat} {W W1 : World} (h : Reg B W r n W1) (o : Obj) : Reg B W r n (W1.alloc o) :=
  h.call (Below.alloc (Below.refl _ _) (Nat.le_refl _) o)
theorem Reg.start {B r n : Nat} {W : World} (hB : B ≤ W.heap.size) (ht : There W r n) : Reg B W r n W := ⟨hB, Below.refl _ _, ht⟩
theorem Reg.store {B r n : Nat} {W W1 : World} (h : Reg B W r n W1) (hr : B ≤ r) (o : Nat) (v : Value) : Reg B W r n (W1.setCell ⟨r, o, none⟩ v) :=
  ⟨h.le, h.bel.setCell hr v, fun o' ho => by
    obtain ⟨u, hu⟩ := (h.there o' ho).1
    refine ⟨?_, ?_⟩
    · by_cases e : o = o'
      · subst e
        exact ⟨v, World.cell?_setCell_same _ _ _ (by rw [hu])⟩
      · exact ⟨u, by rw [World.cell?_setCell_other]; exact hu; intro hc; exact e (by simpa using hc.symm)⟩
    · rw [World.frozen?_setCell]; exact (h.there o' ho).2⟩
/-- Two stores into one block, read back. -/
theorem set2_0 {W : World} {b : Nat} {v0 v1 : Value} (h0 : (W.cell? ⟨b, 0, none⟩).isSome = true) : ((W.setCell ⟨b, 0, none⟩ v0).setCell ⟨b, 1, none⟩ v1).cell? ⟨b, 0, none⟩ = some v0 := by
  obtain ⟨u, hu⟩ := Option.isSome_iff_exists.1 h0
  rw [World.cell?_setCell_other]
  · exact World.cell?_setCell_same _ _ _ (by rw [hu])
  · simp
theorem set2_1 {W : World} {b : Nat} {v0 v1 : Value} (h1 : (W.cell? ⟨b, 1, none⟩).isSome = true) : ((W.setCell ⟨b, 0, none⟩ v0).setCell ⟨b, 1, none⟩ v1).cell? ⟨b, 1, none⟩ = some v1 := by
  obtain ⟨u, hu⟩ := Option.isSome_iff_exists.1 h1
  refine World.cell?_setCell_same (u := u) _ _ _ ?_
  rw [World.cell?_setCell_other]
  · exact hu
  · simp
end Go.Proofs.Ytfknbijpimpbfaa
/- Two stores, read back. -/

namespace Go.Proofs.Ytfknbijpimpbfaa
open Go.RowKit
theorem set1_other {W : World} {a p : Addr} {u : Value} (h : a ≠ p) : (W.setCell a u).cell? p = W.cell? p := World.cell?_setCell_other _ _ _ _ h
theorem set1_same {W : World} {a : Addr} {u x : Value} (h : W.cell? a = some x) : (W.setCell a u).cell? a = some u := World.cell?_setCell_same _ _ _ h
theorem set2_other {W : World} {a a' p : Addr} {u v : Value} (h : a ≠ p) (h' : a' ≠ p) : ((W.setCell a u).setCell a' v).cell? p = W.cell? p := by
  rw [set1_other h', set1_other h]
theorem set2_at {W : World} {r i j : Nat} {u v : Value} (hij : i ≠ j) (h0 : (W.cell? ⟨r, i, none⟩).isSome = true) (h1 : (W.cell? ⟨r, j, none⟩).isSome = true) :
    ((W.setCell ⟨r, i, none⟩ u).setCell ⟨r, j, none⟩ v).cell? ⟨r, i, none⟩ = some u ∧ ((W.setCell ⟨r, i, none⟩ u).setCell ⟨r, j, none⟩ v).cell? ⟨r, j, none⟩ = some v := by
  obtain ⟨x, hx⟩ := Option.isSome_iff_exists.1 h0
  obtain ⟨y, hy⟩ := Option.isSome_iff_exists.1 h1
  have n1 : (⟨r, i, none⟩ : Addr) ≠ ⟨r, j, none⟩ := fun h => hij (by injection h)
  have n2 : (⟨r, j, none⟩ : Addr) ≠ ⟨r, i, none⟩ := fun h => n1 h.symm
  refine ⟨?_, ?_⟩
  · rw [set1_other n2]; exact set1_same hx
  · exact set1_same (by rw [set1_other n1]; exact hy)
/-- Four stores into one block, read back. -/
theorem set4_at {W : World} {r : Nat} {a b c d : Value} (hT : There W r 4) :
    ((((W.setCell ⟨r, 0, none⟩ a).setCell ⟨r, 1, none⟩ b).setCell ⟨r, 2, none⟩ c).setCell ⟨r, 3, none⟩ d).cell? ⟨r, 0, none⟩ = some a ∧
    ((((W.setCell ⟨r, 0, none⟩ a).setCell ⟨r, 1, none⟩ b).setCell ⟨r, 2, none⟩ c).setCell ⟨r, 3, none⟩ d).cell? ⟨r, 1, none⟩ = some b ∧
    ((((W.setCell ⟨r, 0, none⟩ a).setCell ⟨r, 1, none⟩ b).setCell ⟨r, 2, none⟩ c).setCell ⟨r, 3, none⟩ d).cell? ⟨r, 2, none⟩ = some c ∧
    ((((W.setCell ⟨r, 0, none⟩ a).setCell ⟨r, 1, none⟩ b).setCell ⟨r, 2, none⟩ c).setCell ⟨r, 3, none⟩ d).cell? ⟨r, 3, none⟩ = some d := by
  obtain ⟨x0, h0⟩ := (hT 0 (by omega)).1
  obtain ⟨x1, h1⟩ := (hT 1 (by omega)).1
  obtain ⟨x2, h2⟩ := (hT 2 (by omega)).1
  obtain ⟨x3, h3⟩ := (hT 3 (by omega)).1
  have ne : ∀ i j : Nat, i ≠ j → (⟨r, i, none⟩ : Addr) ≠ ⟨r, j, none⟩ := fun i j hij h => hij (by injection h)
  refine ⟨?_, ?_, ?_, ?_⟩
  · rw [set1_other (ne 3 0 (by omega)), set1_other (ne 2 0 (by omega)), set1_other (ne 1 0 (by omega))]; exact set1_same h0
  · rw [set1_other (ne 3 1 (by omega)), set1_other (ne 2 1 (by omega))]; exact set1_same (by rw [set1_other (ne 0 1 (by omega))]; exact h1)
  · rw [set1_other (ne 3 2 (by omega))]; exact set1_same (by rw [set1_other (ne 1 2 (by omega)), set1_other (ne 0 2 (by omega))]; exact h2)
  · exact set1_same (by rw [set1_other (ne 2 3 (by omega)), set1_other (ne 1 3 (by omega)), set1_other (ne 0 3 (by omega))]; exact h3)
end Go.Proofs.Ytfknbijpimpbfaa
/- The point of the grid that is nearest. -/

namespace Go.Proofs.Ytfknbijpimpbfaa
open Go.RowKit
set_option linter.unusedSimpArgs false
set_option linter.unusedVariables false

/-- The grid of a zoom. -/
def gridI (z : Int) : Int := if z = 0 then 32 else if z = 1 then 16 else if z = 2 then 8 else 4
/-- The nearest multiple of the grid. -/
def snapI (z v : Int) : Int := (v + gridI z / 2) / gridI z * gridI z
/-- The answer of SnapPoint. -/
def snapV (x y z : Int) : Value := if (zoomB z && inW x y) = true then .agg #[.int .i64 0, .int .i64 (snapI z x), .int .i64 (snapI z y)] else .agg #[.int .i64 3, .int .i64 0, .int .i64 0]
theorem inW_bd {x y : Int} (h : inW x y = true) : (0 ≤ x ∧ x ≤ 1024) ∧ (0 ≤ y ∧ y ≤ 1024) := by
  simp [inW, inB] at h
  omega
theorem inW_ok {x y : Int} (h : inW x y = true) : okP x y = true := by
  rw [okP_iff]
  have := inW_bd h
  omega
theorem tdiv_nn {a b : Int} (h : 0 ≤ a) : a.tdiv b = a / b := Int.tdiv_eq_ediv_of_nonneg h

theorem unit_bd {z : Int} (h : zoomB z = true) : 0 ≤ unitI z ∧ unitI z ≤ 128 ∧ unitI z / 4 = gridI z := by
  rcases zoomB_cases h with rfl | rfl | rfl | rfl <;> decide
/-- Three stores into one block, read back. -/
theorem set3_at {W : World} {r : Nat} {a b c : Value} (hT : There W r 3) :
    (((W.setCell ⟨r, 0, none⟩ a).setCell ⟨r, 1, none⟩ b).setCell ⟨r, 2, none⟩ c).cell? ⟨r, 0, none⟩ = some a ∧
    (((W.setCell ⟨r, 0, none⟩ a).setCell ⟨r, 1, none⟩ b).setCell ⟨r, 2, none⟩ c).cell? ⟨r, 1, none⟩ = some b ∧
    (((W.setCell ⟨r, 0, none⟩ a).setCell ⟨r, 1, none⟩ b).setCell ⟨r, 2, none⟩ c).cell? ⟨r, 2, none⟩ = some c := by
  obtain ⟨x0, h0⟩ := (hT 0 (by omega)).1
  obtain ⟨x1, h1⟩ := (hT 1 (by omega)).1
  obtain ⟨x2, h2⟩ := (hT 2 (by omega)).1
  have ne : ∀ i j : Nat, i ≠ j → (⟨r, i, none⟩ : Addr) ≠ ⟨r, j, none⟩ := fun i j hij h => hij (by injection h)
  refine ⟨?_, ?_, ?_⟩
  · rw [set1_other (ne 2 0 (by omega)), set1_other (ne 1 0 (by omega))]; exact set1_same h0
  · rw [set1_other (ne 2 1 (by omega))]; exact set1_same (by rw [set1_other (ne 0 1 (by omega))]; exact h1)
  · exact set1_same (by rw [set1_other (ne 1 2 (by omega)), set1_other (ne 0 2 (by omega))]; exact h2)
theorem there3 (V : World) (a b c : Value) (t : TypeId) : There (V.alloc (.cells #[a, b, c] t)) V.heap.size 3 := fun o ho => by
  refine ⟨⟨#[a, b, c][o]'(by simpa using ho), ?_⟩, World.frozen?_alloc_at _ _ _ _ rfl⟩
  rw [World.cell?_alloc_at _ _ _ _ rfl]
  exact Array.getElem?_eq_getElem _

theorem there2 (V : World) (a b : Value) (t : TypeId) : There (V.alloc (.cells #[a, b] t)) V.heap.size 2 := fun o ho => by
  refine ⟨⟨#[a, b][o]'(by simpa using ho), ?_⟩, World.frozen?_alloc_at _ _ _ _ rfl⟩
  rw [World.cell?_alloc_at _ _ _ _ rfl]
  exact Array.getElem?_eq_getElem _

end Go.Proofs.Ytfknbijpimpbfaa
