/- Which blocks are written, and what stays. -/
import Derived.Test.YtfknbijpimpbfaaVOnlies2
import Derived.Laws.OwnMore
namespace Go.Proofs.Ytfknbijpimpbfaa
open Go.RowKit
set_option linter.unusedSimpArgs false
set_option linter.unusedVariables false
set_option maxRecDepth 100000

/-- Only blocks from lo to hi are written. -/
structure MidB (lo hi : Nat) (w w' : World) : Prop where
  os : w'.os = w.os
  tape : w'.tape = w.tape
  output : w'.output = w.output
  size : w.heap.size ≤ w'.heap.size
  block : ∀ k, k < w.heap.size → (k < lo ∨ hi ≤ k) → w'.heap[k]? = w.heap[k]?
theorem MidB.refl (lo hi : Nat) (w : World) : MidB lo hi w w := ⟨rfl, rfl, rfl, Nat.le_refl _, fun _ _ _ => rfl⟩
theorem MidB.trans {lo hi : Nat} {a b c : World} (h : MidB lo hi a b) (k : MidB lo hi b c) : MidB lo hi a c :=
  ⟨k.os.trans h.os, k.tape.trans h.tape, k.output.trans h.output, Nat.le_trans h.size k.size, fun i hi ho => (k.block i (Nat.lt_of_lt_of_le hi h.size) ho).trans (h.block i hi ho)⟩
theorem MidB.of_below {lo hi : Nat} {a b : World} (h : Below a.heap.size a b) : MidB lo hi a b := ⟨h.os, h.tape, h.output, h.size, fun i hi _ => h.block i hi⟩
theorem MidB.of_grown {lo hi s : Nat} {a b : World} (h : a.grownBy b (some s)) (h1 : lo ≤ s) (h2 : s < hi) : MidB lo hi a b :=
  ⟨h.os, h.tape, h.output, h.size, fun j hj ho => h.block j hj (fun e => by injection e with e; omega)⟩
theorem MidB.set {lo hi s : Nat} {a b : World} (h : MidB lo hi a b) (h1 : lo ≤ s) (h2 : s < hi) (o : Nat) (v : Value) : MidB lo hi a (b.setCell ⟨s, o, none⟩ v) :=
  h.trans ⟨rfl, rfl, rfl, by simp [World.setCell], fun j _ ho => Below.heap_setCell _ _ _ _ (fun e => by simp at e; omega)⟩
theorem MidB.below {lo hi : Nat} {a b : World} (h : MidB lo hi a b) (hl : lo ≤ a.heap.size) : Below lo a b := ⟨h.os, h.tape, h.output, h.size, fun k hk => h.block k (by omega) (.inl hk)⟩
theorem MidB.cell {lo hi : Nat} {a b : World} (h : MidB lo hi a b) {p o : Nat} {v : Value} (hc : a.cell? ⟨p, o, none⟩ = some v) (ho : p < lo ∨ hi ≤ p) : b.cell? ⟨p, o, none⟩ = some v := by
  have hp := World.block_lt_of_cell? _ _ hc
  have he := h.block p hp ho
  unfold World.cell? at hc ⊢
  simp only [he]
  exact hc
theorem MidB.there {lo hi : Nat} {a b : World} (h : MidB lo hi a b) {p n : Nat} (hT : There a p n) (ho : p < lo ∨ hi ≤ p) : There b p n := fun o hn => by
  obtain ⟨v, hv⟩ := (hT o hn).1
  refine ⟨⟨v, h.cell hv ho⟩, ?_⟩
  have he := h.block p (World.block_lt_of_cell? _ _ hv) ho
  have hz := (hT o hn).2
  unfold World.frozen? at hz ⊢
  simp only [he]
  exact hz
end Go.Proofs.Ytfknbijpimpbfaa
