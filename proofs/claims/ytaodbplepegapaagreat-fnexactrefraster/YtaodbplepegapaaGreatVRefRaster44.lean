/- Helpers for the law of a function of a list of features and a struct of numbers. -/
import Derived.Test.YtaodbplepegapaaGreatVRefRaster15
import Derived.Test.YtaodbplepegapaaGreatVRefRaster43
import Derived.Test.YtaodbplepegapaaGreatVRefRaster18
import Derived.Test.YtaodbplepegapaaGreatVRefRaster2
import Derived.Deep.DeepCutAuto
namespace Go.Proofs.YtaodbplepegapaaGreat
open Go.RowKit
set_option linter.unusedSimpArgs false
set_option linter.unusedVariables false
set_option maxRecDepth 100000

theorem OwnN.mid {w w' : World} {base lo hi : Nat} {v : Value} {n : Nat} {Z : Nat → Int} (h : OwnN w base v n Z) (hM : MidB lo hi w w') (hh : hi ≤ base) : OwnN w' base v n Z := by
  obtain ⟨a, cap, hv, hc, h0 | ⟨b, ha, hbb, hl, hp, ht⟩⟩ := h
  · exact ⟨a, cap, hv, hc, .inl h0⟩
  · exact ⟨a, cap, hv, hc, .inr ⟨b, ha, hbb, Nat.lt_of_lt_of_le hl hM.size, fun i hi => hM.cell (hp i hi) (.inr (by omega)), hM.there ht (.inr (by omega))⟩⟩
theorem UnderN.mid {T lo hi : Nat} {w w' : World} {a : Option Addr} {n : Nat} {Z : Nat → Int} (h : UnderN T w a n Z) (hM : MidB lo hi w w') (hT : T ≤ lo) : UnderN T w' a n Z := by
  rcases h with h | ⟨b, off, e, hl, hp⟩
  · exact .inl h
  · exact .inr ⟨b, off, e, hl, fun i hi => hM.cell (hp i hi) (.inl (by omega))⟩
theorem OwnN.wide {w : World} {base B : Nat} {v : Value} {n : Nat} {Z : Nat → Int} (h : OwnN w base v n Z) (hB : B ≤ base) : OwnN w B v n Z := by
  obtain ⟨a, cap, hv, hc, h0 | ⟨b, ha, hbb, hr⟩⟩ := h
  · exact ⟨a, cap, hv, hc, .inl h0⟩
  · exact ⟨a, cap, hv, hc, .inr ⟨b, ha, by omega, hr⟩⟩
theorem There.lt2z {W : World} {r : Nat} (h : There W r 2) : r < W.heap.size := by
  obtain ⟨⟨v, hv⟩, _⟩ := h 0 (by omega)
  exact World.block_lt_of_cell? _ _ hv
theorem OwnN.setZ {w : World} {base B r o : Nat} {v u : Value} {n : Nat} {Z : Nat → Int} (h : OwnN w base v n Z) (hr : r < base) (hB : B ≤ base) : OwnN (w.setCell ⟨r, o, none⟩ u) B v n Z := by
  obtain ⟨a, cap, hv, hc, h0 | ⟨b, ha, hbb, hl, hp, ht⟩⟩ := h
  · exact ⟨a, cap, hv, hc, .inl h0⟩
  · have hne : ∀ i : Nat, (⟨r, o, none⟩ : Addr) ≠ ⟨b, i, none⟩ := fun i e => by injection e with e; omega
    refine ⟨a, cap, hv, hc, .inr ⟨b, ha, by omega, by simpa [World.setCell] using hl, fun i hi => ?_, fun o' ho' => ?_⟩⟩
    · rw [set1_other (hne _)]; exact hp i hi
    · obtain ⟨⟨x, hx⟩, hf⟩ := ht o' ho'
      exact ⟨⟨x, by rw [set1_other (hne _)]; exact hx⟩, by rw [World.frozen?_setCell]; exact hf⟩
theorem there2z (V : World) (a b : Value) (t : TypeId) : There (V.alloc (.cells #[a, b] t)) V.heap.size 2 := fun o ho => by
  have : o = 0 ∨ o = 1 := by omega
  rcases this with rfl | rfl <;> exact ⟨⟨_, by simp [go_sem]; rfl⟩, by simp [go_sem]⟩
end Go.Proofs.YtaodbplepegapaaGreat
