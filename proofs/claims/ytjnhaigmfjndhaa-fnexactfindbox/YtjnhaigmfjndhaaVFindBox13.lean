/- Answers with a code and a list of points: they are compared, marked, and the marks are found again. -/
import Derived.Test.YtjnhaigmfjndhaaVFindBox12
namespace Go.Proofs.Ytjnhaigmfjndhaa
open Go.RowKit
set_option linter.unusedSimpArgs false
set_option linter.unusedVariables false

/-- The block of a list, if it has one. -/
theorem Own.block {w : World} {base : Nat} {v : Value} {n : Nat} {X Y : Nat → Int} (h : Own w base v n X Y) : ∃ a cap, v = .slice a n cap ∧ n ≤ cap ∧ (n = 0 ∨ ∃ b, a = some ⟨b, 0, none⟩ ∧ base ≤ b ∧ b < w.heap.size ∧ PtsAt w b 0 n X Y ∧ There w b (n * 2)) := h
theorem Own.below {w w' : World} {base : Nat} {v : Value} {n : Nat} {X Y : Nat → Int} (h : Own w base v n X Y) (hb : Below w.heap.size w w') : Own w' base v n X Y := by
  obtain ⟨a, cap, hv, hc, h0 | ⟨b, ha, hbb, hl, hp, ht⟩⟩ := h
  · exact ⟨a, cap, hv, hc, .inl h0⟩
  · exact ⟨a, cap, hv, hc, .inr ⟨b, ha, hbb, Nat.lt_of_lt_of_le hl hb.size, hp.below hb hl, ht.below hb⟩⟩

theorem Own.is {w : World} {base : Nat} {a : Option Addr} {n cap : Nat} {X Y : Nat → Int} (h : Own w base (.slice a n cap) n X Y) : IsPts w a n X Y := by
  obtain ⟨a', cap', hv, hc, hi⟩ := h.pts
  injection hv with h1 h2 h3
  subst h1
  exact hi

/-- A list that lies below block T. -/
def Under (T : Nat) (w : World) (a : Option Addr) (n : Nat) (X Y : Nat → Int) : Prop := n = 0 ∨ ∃ b off, a = some ⟨b, off, none⟩ ∧ b < T ∧ PtsAt w b off n X Y
theorem Under.is {T : Nat} {w : World} {a : Option Addr} {n : Nat} {X Y : Nat → Int} (h : Under T w a n X Y) (hT : T ≤ w.heap.size) : IsPts w a n X Y := by
  rcases h with h | ⟨b, off, e, hl, hp⟩
  · exact .inl h
  · exact .inr ⟨b, off, e, by omega, hp⟩
theorem Under.below {T B : Nat} {w w' : World} {a : Option Addr} {n : Nat} {X Y : Nat → Int} (h : Under T w a n X Y) (hb : Below B w w') (hB : T ≤ B) : Under T w' a n X Y := by
  rcases h with h | ⟨b, off, e, hl, hp⟩
  · exact .inl h
  · exact .inr ⟨b, off, e, hl, hp.below hb (by omega)⟩
theorem Under.grown {T s : Nat} {w w' : World} {a : Option Addr} {n : Nat} {X Y : Nat → Int} (h : Under T w a n X Y) (hg : w.grownBy w' (some s)) (hs : T ≤ s) : Under T w' a n X Y := by
  rcases h with h | ⟨b, off, e, hl, hp⟩
  · exact .inl h
  · exact .inr ⟨b, off, e, hl, hp.grown hg (by omega)⟩
theorem bl_cell {w w' : World} {p : Addr} {v : Value} (hb : Below w.heap.size w w') (h : w.cell? p = some v) : w'.cell? p = some v := (hb.cell (World.block_lt_of_cell? _ _ h)).trans h
theorem gr_cell {w w' : World} {b o s : Nat} {v : Value} (hg : w.grownBy w' (some s)) (h : w.cell? ⟨b, o, none⟩ = some v) (hs : b ≠ s) : w'.cell? ⟨b, o, none⟩ = some v := hg.cell h (fun e => hs (by injection e))

theorem ro_cell {w w' : World} {b o : Nat} {row : Option Nat} {v : Value} (hg : w.grownBy w' row) (h : w.cell? ⟨b, o, none⟩ = some v) (hs : ∀ s, row = some s → b ≠ s) : w'.cell? ⟨b, o, none⟩ = some v := hg.cell h (fun e => hs _ e.symm rfl)
theorem Under.row {T : Nat} {row : Option Nat} {w w' : World} {a : Option Addr} {n : Nat} {X Y : Nat → Int} (h : Under T w a n X Y) (hg : w.grownBy w' row) (hs : ∀ s, row = some s → T ≤ s) : Under T w' a n X Y := by
  rcases h with h | ⟨b, off, e, hl, hp⟩
  · exact .inl h
  · exact .inr ⟨b, off, e, hl, fun i hi => ⟨ro_cell hg (hp i hi).1 (fun s e => by have := hs s e; omega), ro_cell hg (hp i hi).2 (fun s e => by have := hs s e; omega)⟩⟩
theorem below_row {B : Nat} {row : Option Nat} {a b : World} (h : a.grownBy b row) (hs : ∀ s, row = some s → B ≤ s) (hl : B ≤ a.heap.size) : Below B a b :=
  ⟨h.os, h.tape, h.output, h.size, fun k hk => h.block k (by omega) (fun e => by have := hs k e.symm; omega)⟩
theorem Own.grown {w w' : World} {base s : Nat} {v : Value} {n : Nat} {X Y : Nat → Int} (h : Own w base v n X Y) (hg : w.grownBy w' (some s)) (hs : s < base ∨ w.heap.size ≤ s) : Own w' base v n X Y := by
  obtain ⟨a, cap, hv, hc, h0 | ⟨b, ha, hbb, hl, hp, ht⟩⟩ := h
  · exact ⟨a, cap, hv, hc, .inl h0⟩
  · refine ⟨a, cap, hv, hc, .inr ⟨b, ha, hbb, Nat.lt_of_lt_of_le hl hg.size, hp.grown hg (by omega), fun o ho => ?_⟩⟩
    obtain ⟨⟨u, hu⟩, hf⟩ := ht o ho
    have hne : some b ≠ some s := fun e => by injection e with e; omega
    exact ⟨⟨u, hg.cell hu hne⟩, (World.frozen?_of_block (a := ⟨b, o, none⟩) (hg.block b hl hne)).trans hf⟩
end Go.Proofs.Ytjnhaigmfjndhaa
