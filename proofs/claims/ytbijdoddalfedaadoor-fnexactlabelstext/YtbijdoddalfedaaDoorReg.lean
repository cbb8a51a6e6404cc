/- A region that stores into one block of its own while it calls: what is kept. -/
import Derived.Test.YtbijdoddalfedaaDoorPlain
namespace Go.Proofs.YtbijdoddalfedaaDoor
open Go.RowKit

/-- Block r has n cells that may be written. -/
def There (W : World) (r n : Nat) : Prop := ∀ o, o < n → (∃ v, W.cell? ⟨r, o, none⟩ = some v) ∧ W.frozen? ⟨r, o, none⟩ = false
/-- What a cell holds. -/
def cellOr (W : World) (r o : Nat) : Value := (W.cell? ⟨r, o, none⟩).getD undef
theorem There.cell {W : World} {r n : Nat} (h : There W r n) (o : Nat) (ho : o < n) : W.cell? ⟨r, o, none⟩ = some (cellOr W r o) := by
  obtain ⟨v, hv⟩ := (h o ho).1
  simp [cellOr, hv]
theorem There.below {W W' : World} {r n : Nat} (h : There W r n) (hb : Below W.heap.size W W') : There W' r n := fun o ho => by
  obtain ⟨v, hv⟩ := (h o ho).1
  have hlt : r < W.heap.size := World.block_lt_of_cell? W ⟨r, o, none⟩ hv
  exact ⟨⟨v, (hb.cell (p := ⟨r, o, none⟩) hlt).trans hv⟩, (hb.frozen (p := ⟨r, o, none⟩) hlt).trans (h o ho).2⟩
/-- Below B all is as in W, and block r may be written. -/
structure Reg (B : Nat) (W : World) (r n : Nat) (W' : World) : Prop where
  le : B ≤ W.heap.size
  bel : Below B W W'
  there : There W' r n
theorem Reg.call {B r n : Nat} {W W1 w' : World} (h : Reg B W r n W1) (hb : Below W1.heap.size W1 w') : Reg B W r n w' :=
  ⟨h.le, h.bel.trans (hb.mono (Nat.le_trans h.le h.bel.size)), h.there.below hb⟩
theorem Reg.drew {B r n : Nat} {W W1 : World} (h : Reg B W r n W1) : Reg B W r n W1.drew := ⟨h.le, h.bel.drew, h.there⟩
theorem Reg.alloc {B r n : Nat} {W W1 : World} (h : Reg B W r n W1) (o : Obj) : Reg B W r n (W1.alloc o) :=
  h.call (Below.alloc (Below.refl _ _) (Nat.le_refl _) o)
theorem Reg.start {B r n : Nat} {W : World} (hB : B ≤ W.heap.size) (ht : There W r n) : Reg B W r n W := ⟨hB, Below.refl _ _, ht⟩
theorem Reg.store {B r n : Nat} {W W1 : World} (h : Reg B W r n W1) (hr : B ≤ r) (o : Nat) (v : Value) : Reg B W r n (W1.setCell ⟨r, o, none⟩ v) :=
  ⟨h.le, h.bel.setCell hr v, fun o' ho => by
    obtain ⟨u, hu⟩ := (h.there o' ho).1
    refine ⟨?_, ?_⟩
    · by_cases e : o = o'
      · subst e
        exact ⟨v, World.cell?_setCell_same _ _ _ (by rw [hu])⟩
      · exact ⟨u, by rw [World.cell?_setCell_other]; exact hu; intro hc; exact e (by simpa using hc.symm)⟩
    · rw [World.frozen?_setCell]; exact (h.there o' ho).2⟩
/-- Two stores into one block, read back. -/
theorem set2_0 {W : World} {b : Nat} {v0 v1 : Value} (h0 : (W.cell? ⟨b, 0, none⟩).isSome = true) : ((W.setCell ⟨b, 0, none⟩ v0).setCell ⟨b, 1, none⟩ v1).cell? ⟨b, 0, none⟩ = some v0 := by
  obtain ⟨u, hu⟩ := Option.isSome_iff_exists.1 h0
  rw [World.cell?_setCell_other]
  · exact World.cell?_setCell_same _ _ _ (by rw [hu])
  · simp
theorem set2_1 {W : World} {b : Nat} {v0 v1 : Value} (h1 : (W.cell? ⟨b, 1, none⟩).isSome = true) : ((W.setCell ⟨b, 0, none⟩ v0).setCell ⟨b, 1, none⟩ v1).cell? ⟨b, 1, none⟩ = some v1 := by
  obtain ⟨u, hu⟩ := Option.isSome_iff_exists.1 h1
  refine World.cell?_setCell_same (u := u) _ _ _ ?_
  rw [World.cell?_setCell_other]
  · exact hu
  · simp
end Go.Proofs.YtbijdoddalfedaaDoor
