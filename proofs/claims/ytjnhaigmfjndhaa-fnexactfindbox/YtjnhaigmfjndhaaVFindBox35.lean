/- Lists of entries beside other blocks. -/
import Derived.Test.YtjnhaigmfjndhaaVFindBox34
namespace Go.Proofs.Ytjnhaigmfjndhaa
open Go.RowKit
set_option linter.unusedSimpArgs false
set_option linter.unusedVariables false
set_option maxRecDepth 100000

theorem OwnE.set {w : World} {base B r o : Nat} {v u : Value} {n : Nat} {E : Nat → Ent} (h : OwnE w base v n E) (hr : r < base) (hB : B ≤ base) : OwnE (w.setCell ⟨r, o, none⟩ u) B v n E := by
  obtain ⟨a, cap, hv, hc, h0 | ⟨b, ha, hbb, hl, hp, ht⟩⟩ := h
  · exact ⟨a, cap, hv, hc, .inl h0⟩
  · have hne : ∀ i : Nat, (⟨r, o, none⟩ : Addr) ≠ ⟨b, i, none⟩ := fun i e => by injection e with e; omega
    refine ⟨a, cap, hv, hc, .inr ⟨b, ha, by omega, by simpa [World.setCell] using hl, fun i hi => ?_, fun o' ho' => ?_⟩⟩
    · obtain ⟨h0, h1, h2, h3, h4⟩ := hp i hi
      exact ⟨by rw [set1_other (hne _)]; exact h0, by rw [set1_other (hne _)]; exact h1, by rw [set1_other (hne _)]; exact h2, by rw [set1_other (hne _)]; exact h3, by rw [set1_other (hne _)]; exact h4⟩
    · obtain ⟨⟨x, hx⟩, hf⟩ := ht o' ho'
      exact ⟨⟨x, by rw [set1_other (hne _)]; exact hx⟩, by rw [World.frozen?_setCell]; exact hf⟩
theorem there2e (V : World) (a b : Value) (t : TypeId) : There (V.alloc (.cells #[a, b] t)) V.heap.size 2 := fun o ho => by
  have : o = 0 ∨ o = 1 := by omega
  rcases this with rfl | rfl <;> exact ⟨⟨_, by simp [go_sem]; rfl⟩, by simp [go_sem]⟩
theorem There.belowE {W W' : World} {r n B : Nat} (h : There W r n) (hb : Below B W W') (hr : r < B) : There W' r n := fun o ho => by
  obtain ⟨u, hu⟩ := (h o ho).1
  exact ⟨⟨u, (hb.cell (p := ⟨r, o, none⟩) hr).trans hu⟩, (hb.frozen (p := ⟨r, o, none⟩) hr).trans (h o ho).2⟩
end Go.Proofs.Ytjnhaigmfjndhaa
