/- All but one block is as it was. -/
import Derived.Test.YtjkmjkfakolpfaaPlain
namespace Go.Proofs.Ytjkmjkfakolpfaa
open Go.RowKit
set_option linter.unusedVariables false

/-- All that was there but block s is as it was. -/
structure Keeps (s : Nat) (w w' : World) : Prop where
  os : w'.os = w.os
  tape : w'.tape = w.tape
  output : w'.output = w.output
  size : w.heap.size ≤ w'.heap.size
  block : ∀ k, k < w.heap.size → k ≠ s → w'.heap[k]? = w.heap[k]?
theorem Keeps.refl (s : Nat) (w : World) : Keeps s w w := ⟨rfl, rfl, rfl, Nat.le_refl _, fun _ _ _ => rfl⟩
theorem Keeps.trans {s : Nat} {a b c : World} (h : Keeps s a b) (k : Keeps s b c) : Keeps s a c :=
  ⟨k.os.trans h.os, k.tape.trans h.tape, k.output.trans h.output, Nat.le_trans h.size k.size, fun j hj hs => (k.block j (Nat.lt_of_lt_of_le hj h.size) hs).trans (h.block j hj hs)⟩
theorem Keeps.of_below {s : Nat} {w w' : World} (h : Below w.heap.size w w') : Keeps s w w' := ⟨h.os, h.tape, h.output, h.size, fun k hk _ => h.block k hk⟩
theorem Keeps.cell {s : Nat} {w w' : World} (h : Keeps s w w') {p : Addr} (hp : p.block < w.heap.size) (hs : p.block ≠ s) : w'.cell? p = w.cell? p := World.cell?_of_block (w := w) (h.block _ hp hs)
theorem Keeps.frozen {s : Nat} {w w' : World} (h : Keeps s w w') {p : Addr} (hp : p.block < w.heap.size) (hs : p.block ≠ s) : w'.frozen? p = w.frozen? p := World.frozen?_of_block (w := w) (h.block _ hp hs)
theorem Keeps.drew {s : Nat} {a w : World} (h : Keeps s a w) : Keeps s a w.drew := ⟨h.os, h.tape, h.output, h.size, h.block⟩
theorem Keeps.set {s : Nat} {a w : World} (h : Keeps s a w) (o : Nat) (v : Value) : Keeps s a (w.setCell ⟨s, o, none⟩ v) := by
  refine h.trans ?_
  have hb : Below s w (w.setCell ⟨s, o, none⟩ v) := (Below.refl s w).setCell (Nat.le_refl _) v
  exact ⟨hb.os, hb.tape, hb.output, hb.size, fun k _ hk => Below.heap_setCell w ⟨s, o, none⟩ v k hk⟩
theorem Keeps.below {s B : Nat} {w w' : World} (h : Keeps s w w') (hB : B ≤ s) (hBw : B ≤ w.heap.size) : Below B w w' := ⟨h.os, h.tape, h.output, h.size, fun k hk => h.block k (by omega) (by omega)⟩
end Go.Proofs.Ytjkmjkfakolpfaa
