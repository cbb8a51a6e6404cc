/- Features as answers: they are compared, marked, and the marks are found again. -/
import Derived.Test.YtijegoheilmmpaaVSorts13
import Derived.Test.YtijegoheilmmpaaVSorts21
namespace Go.Proofs.Ytijegoheilmmpaa
open Go.RowKit
set_option linter.unusedSimpArgs false
set_option linter.unusedVariables false
set_option maxRecDepth 100000
/-- Block p holds an answer with a feature. -/
def RAt (w : World) (p : Nat) (c id la ki wi : Int) (v : Value) (lab : ByteArray) (pr : Int) : Prop :=
  w.cell? ⟨p, 0, none⟩ = some (.int .i64 c) ∧ w.cell? ⟨p, 1, none⟩ = some (.int .i64 id) ∧ w.cell? ⟨p, 2, none⟩ = some (.int .i64 la) ∧ w.cell? ⟨p, 3, none⟩ = some (.int .i64 ki) ∧ w.cell? ⟨p, 4, none⟩ = some (.int .i64 wi) ∧
  w.cell? ⟨p, 5, none⟩ = some v ∧ w.cell? ⟨p, 6, none⟩ = some (.string lab) ∧ w.cell? ⟨p, 7, none⟩ = some (.int .i64 pr)
theorem RAt.row {w w' : World} {p : Nat} {row : Option Nat} {c id la ki wi pr : Int} {v : Value} {lab : ByteArray} (h : RAt w p c id la ki wi v lab pr) (hg : w.grownBy w' row) (hs : ∀ s, row = some s → p ≠ s) : RAt w' p c id la ki wi v lab pr := by
  obtain ⟨h0, h1, h2, h3, h4, h5, h6, h7⟩ := h
  exact ⟨ro_cell hg h0 hs, ro_cell hg h1 hs, ro_cell hg h2 hs, ro_cell hg h3 hs, ro_cell hg h4 hs, ro_cell hg h5 hs, ro_cell hg h6 hs, ro_cell hg h7 hs⟩
theorem RAt.below {w w' : World} {p : Nat} {c id la ki wi pr : Int} {v : Value} {lab : ByteArray} (h : RAt w p c id la ki wi v lab pr) (hb : Below w.heap.size w w') : RAt w' p c id la ki wi v lab pr := h.row (grown_below (r := none) hb) (fun s hs => by cases hs)
theorem RAt.lt {w : World} {p : Nat} {c id la ki wi pr : Int} {v : Value} {lab : ByteArray} (h : RAt w p c id la ki wi v lab pr) : p < w.heap.size := World.block_lt_of_cell? _ _ h.1
theorem RAt.new (w : World) (c id la ki wi : Int) (v : Value) (lab : ByteArray) (pr : Int) (t : TypeId) : RAt (w.alloc (.cells #[.int .i64 c, .int .i64 id, .int .i64 la, .int .i64 ki, .int .i64 wi, v, .string lab, .int .i64 pr] t)) w.heap.size c id la ki wi v lab pr := by
  refine ⟨?_, ?_, ?_, ?_, ?_, ?_, ?_, ?_⟩ <;> simp [go_sem]
theorem FeatAt.row {w w' : World} {p o : Nat} {row : Option Nat} {id la ki wi pr : Int} {v : Value} {lab : ByteArray} (h : FeatAt w p o id la ki wi v lab pr) (hg : w.grownBy w' row) (hs : ∀ s, row = some s → p ≠ s) : FeatAt w' p o id la ki wi v lab pr := by
  obtain ⟨h0, h1, h2, h3, h4, h5, h6⟩ := h
  exact ⟨ro_cell hg h0 hs, ro_cell hg h1 hs, ro_cell hg h2 hs, ro_cell hg h3 hs, ro_cell hg h4 hs, ro_cell hg h5 hs, ro_cell hg h6 hs⟩
theorem FeatAt.new (w : World) (id la ki wi : Int) (v : Value) (lab : ByteArray) (pr : Int) (t : TypeId) : FeatAt (w.alloc (.cells #[.int .i64 id, .int .i64 la, .int .i64 ki, .int .i64 wi, v, .string lab, .int .i64 pr] t)) w.heap.size 0 id la ki wi v lab pr := by
  refine ⟨?_, ?_, ?_, ?_, ?_, ?_, ?_⟩ <;> simp [go_sem]
theorem FeatAt.lt {w : World} {p o : Nat} {id la ki wi pr : Int} {v : Value} {lab : ByteArray} (h : FeatAt w p o id la ki wi v lab pr) : p < w.heap.size := World.block_lt_of_cell? _ _ h.1
end Go.Proofs.Ytijegoheilmmpaa
