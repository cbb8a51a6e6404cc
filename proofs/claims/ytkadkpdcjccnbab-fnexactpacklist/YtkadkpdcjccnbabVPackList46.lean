/- The law of PutNumber returns true at every number. -/
import Derived.Test.YtkadkpdcjccnbabVPackList19
namespace Go.Proofs.Ytkadkpdcjccnbab
open Go.RowKit
set_option linter.unusedSimpArgs false
set_option linter.unusedVariables false
set_option maxRecDepth 100000

theorem OwnB.row {w w' : World} {base : Nat} {v : Value} {n : Nat} {Z : Nat → Int} {row : Option Nat} (h : OwnB w base v n Z) (hg : w.grownBy w' row) (hs : ∀ s, row = some s → s < base) : OwnB w' base v n Z := by
  obtain ⟨a, cap, hv, hc, h0 | ⟨b, ha, hbb, hl, hp, ht⟩⟩ := h
  · exact ⟨a, cap, hv, hc, .inl h0⟩
  · have hne : some b ≠ row := fun e => by have := hs b e.symm; omega
    refine ⟨a, cap, hv, hc, .inr ⟨b, ha, hbb, Nat.lt_of_lt_of_le hl hg.size, fun i hi => hg.cell (hp i hi) hne, fun o ho => ?_⟩⟩
    obtain ⟨⟨u, hu⟩, hf⟩ := ht o ho
    exact ⟨⟨u, hg.cell hu hne⟩, (World.frozen?_of_block (a := ⟨b, o, none⟩) (hg.block b hl hne)).trans hf⟩

end Go.Proofs.Ytkadkpdcjccnbab
