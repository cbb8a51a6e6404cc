/- Lists of numbers that grow: rows of their own. -/
import Derived.Test.YtjkmjkfakolpfaaNn
import Derived.Test.YtjkmjkfakolpfaaStepOwn
namespace Go.Proofs.Ytjkmjkfakolpfaa
open Go.RowKit
set_option linter.unusedSimpArgs false
set_option linter.unusedVariables false
set_option maxRecDepth 100000

theorem info_n64 : (Try.prog.info? 2).map (fun i => (i.zero, i.size, i.bytes)) = some (some (.int .i64 0), 1, 8) := by kernel_rfl
/-- v is a row of its own with these numbers. -/
def RowN (base : Nat) (w : World) (v : Value) (l : List Int) : Prop := w.ownsRow base 2 1 v l.length (l.map (.int .i64 ·))
def nz (l : List Int) (i : Nat) : Int := l.getD i 0
theorem RowN.own {base : Nat} {w : World} {v : Value} {l : List Int} (h : RowN base w v l) : OwnN w base v l.length (nz l) := by
  obtain ⟨h1, h2 | ⟨g, cp, cur, hv, hg, hh, hkc, hcm, hcs, htk⟩⟩ := id h
  · obtain ⟨rfl, h0⟩ := h2
    rw [h0]
    exact ⟨none, 0, rfl, Nat.le_refl _, .inl rfl⟩
  · have hgl : g < w.heap.size := by
      rcases Nat.lt_or_ge g w.heap.size with h' | h'
      · exact h'
      · rw [Array.getElem?_eq_none h'] at hh; cases hh
    have hrow : w.ownsRow base 2 1 (.slice (some ⟨g, 0, none⟩) l.length cp) l.length (l.map (.int .i64 ·)) := ⟨h1, .inr ⟨g, cp, cur, rfl, hg, hh, hkc, hcm, hcs, htk⟩⟩
    refine ⟨some ⟨g, 0, none⟩, cp, hv, hkc, .inr ⟨g, rfl, hg, hgl, fun i hi => ?_, fun o ho => ⟨?_, hrow.frozenAt o⟩⟩⟩
    · rw [Nat.zero_add, hrow.cellAt i (by omega), List.getElem?_map]
      simp [nz, List.getD_eq_getElem?_getD, hi]
    · rw [hrow.cellAt o (by omega), List.getElem?_map]
      simp [ho]
theorem RowN.below {base : Nat} {w w' : World} {v : Value} {l : List Int} (h : RowN base w v l) (hb : Below w.heap.size w w') : RowN base w' v l := by
  obtain ⟨h1, h2 | ⟨g, cp, cur, hv, hg, hh, hr⟩⟩ := h
  · exact ⟨h1, .inl h2⟩
  · refine ⟨h1, .inr ⟨g, cp, cur, hv, hg, ?_, hr⟩⟩
    have hgl : g < w.heap.size := by
      rcases Nat.lt_or_ge g w.heap.size with h' | h'
      · exact h'
      · rw [Array.getElem?_eq_none h'] at hh; cases hh
    rw [hb.block g hgl]
    exact hh
theorem RowN.no (base : Nat) (w : World) : RowN base w (.slice none 0 0) [] := World.ownsRow_nil _ _ _ _
theorem RowN.wide {base B : Nat} {w : World} {v : Value} {l : List Int} (h : RowN base w v l) (hB : B ≤ base) : RowN B w v l := by
  obtain ⟨h1, h2 | ⟨g, cp, cur, hv, hg, hr⟩⟩ := h
  · exact ⟨h1, .inl h2⟩
  · exact ⟨h1, .inr ⟨g, cp, cur, hv, by omega, hr⟩⟩
theorem RowN.other {base r o : Nat} {w : World} {v u : Value} {l : List Int} (h : RowN base w v l) (hr : r < base) : RowN base (w.setCell ⟨r, o, none⟩ u) v l := by
  obtain ⟨h1, h2 | ⟨g, cp, cur, hv, hg, hh, hr'⟩⟩ := h
  · exact ⟨h1, .inl h2⟩
  · exact ⟨h1, .inr ⟨g, cp, cur, hv, hg, by rw [Below.heap_setCell _ _ _ _ (by simp; omega)]; exact hh, hr'⟩⟩
end Go.Proofs.Ytjkmjkfakolpfaa
