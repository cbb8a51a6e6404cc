/- The kids of a ref: the program and the model. -/
import Derived.Test.YtfknbijpimpbfaaVOnlies6
import Derived.Test.YtfknbijpimpbfaaVOnlies12
namespace Go.Proofs.Ytfknbijpimpbfaa
open Go.RowKit
set_option linter.unusedSimpArgs false
set_option linter.unusedVariables false
set_option maxRecDepth 100000

theorem info_rf : (Try.prog.info? 35).map (fun i => (i.zero, i.size, i.bytes)) = some (some (.agg #[.int .i64 0, .int .i64 0, .int .i64 0]), 3, 24) := by kernel_rfl
/-- What the kids have. -/
def kidR (z x y : Int) : Rfs := ⟨fun _ => z + 1, fun i => 2 * x + (i % 2 : Nat), fun i => 2 * y + (i / 2 : Nat)⟩
def cellsR (R : Rfs) (n : Nat) : List Value := (List.range n).flatMap fun i => [.int .i64 (R.z i), .int .i64 (R.x i), .int .i64 (R.y i)]
theorem cellsR_add (R : Rfs) (n : Nat) : cellsR R (n + 1) = cellsR R n ++ [.int .i64 (R.z n), .int .i64 (R.x n), .int .i64 (R.y n)] := by simp [cellsR, List.range_succ]
theorem cellsR_len (R : Rfs) : ∀ n, (cellsR R n).length = n * 3
  | 0 => rfl
  | n + 1 => by rw [cellsR_add, List.length_append, cellsR_len R n]; simp; omega
theorem cellsR_at (R : Rfs) : ∀ (n i : Nat), i < n → (cellsR R n)[i * 3]? = some (.int .i64 (R.z i)) ∧ (cellsR R n)[i * 3 + 1]? = some (.int .i64 (R.x i)) ∧ (cellsR R n)[i * 3 + 2]? = some (.int .i64 (R.y i))
  | 0, i, h => absurd h (by omega)
  | n + 1, i, h => by
    rw [cellsR_add]
    by_cases e : i = n
    · subst e
      have hl := cellsR_len R i
      rw [List.getElem?_append_right (by omega), List.getElem?_append_right (by omega), List.getElem?_append_right (by omega), hl]
      have e1 : i * 3 + 1 - i * 3 = 1 := by omega
      have e2 : i * 3 + 2 - i * 3 = 2 := by omega
      rw [Nat.sub_self, e1, e2]
      exact ⟨rfl, rfl, rfl⟩
    · have hl := cellsR_len R n
      rw [List.getElem?_append_left (by omega), List.getElem?_append_left (by omega), List.getElem?_append_left (by omega)]
      exact cellsR_at R n i (by omega)
/-- v is a row of its own with n refs. -/
def RowT (base : Nat) (w : World) (v : Value) (n : Nat) (R : Rfs) : Prop := w.ownsRow base 35 3 v n (cellsR R n)
theorem RowT.no (base : Nat) (w : World) (R : Rfs) : RowT base w (.slice none 0 0) 0 R := World.ownsRow_nil _ _ _ _
theorem RowT.own {base : Nat} {w : World} {v : Value} {n : Nat} {R : Rfs} (h : RowT base w v n R) : OwnT w base v n R := by
  obtain ⟨h1, h2 | ⟨g, cp, cur, hv, hg, hh, hkc, hcm, hcs, htk⟩⟩ := h
  · obtain ⟨rfl, h0⟩ := h2
    rw [h0]
    exact ⟨none, 0, rfl, Nat.le_refl _, .inl rfl⟩
  · have hgl : g < w.heap.size := by
      rcases Nat.lt_or_ge g w.heap.size with h' | h'
      · exact h'
      · rw [Array.getElem?_eq_none h'] at hh; cases hh
    have hrow : w.ownsRow base 35 3 (.slice (some ⟨g, 0, none⟩) n cp) n (cellsR R n) := ⟨h1, .inr ⟨g, cp, cur, rfl, hg, hh, hkc, hcm, hcs, htk⟩⟩
    refine ⟨some ⟨g, 0, none⟩, cp, hv, hkc, .inr ⟨g, rfl, hg, hgl, fun i hi => ?_, fun o ho => ⟨?_, hrow.frozenAt o⟩⟩⟩
    · obtain ⟨e1, e2, e3⟩ := cellsR_at R n i hi
      simp only [Nat.zero_add]
      exact ⟨(hrow.cellAt _ (by omega)).trans e1, (hrow.cellAt _ (by omega)).trans e2, (hrow.cellAt _ (by omega)).trans e3⟩
    · rw [hrow.cellAt o ho]
      have hlt : o < (cellsR R n).length := by rw [cellsR_len]; exact ho
      exact ⟨(cellsR R n)[o], List.getElem?_eq_getElem hlt⟩
theorem there2r (V : World) (a b : Value) (t : TypeId) : There (V.alloc (.cells #[a, b] t)) V.heap.size 2 := fun o ho => by
  have : o = 0 ∨ o = 1 := by omega
  rcases this with rfl | rfl <;> exact ⟨⟨_, by simp [go_sem]; rfl⟩, by simp [go_sem]⟩
def kidC (z x y : Int) : Int := if refB z x y = true then (if z = 3 then 4 else 0) else 3
def kidN (z x y : Int) : Nat := if refB z x y = true then (if z = 3 then 0 else 4) else 0
/-- A list stays where another block is written. -/
theorem OwnT.set {w : World} {base B r o : Nat} {v u : Value} {n : Nat} {R : Rfs} (h : OwnT w base v n R) (hr : r < base) (hB : B ≤ base) : OwnT (w.setCell ⟨r, o, none⟩ u) B v n R := by
  obtain ⟨a, cap, hv, hc, h0 | ⟨b, ha, hbb, hl, hp, ht⟩⟩ := h
  · exact ⟨a, cap, hv, hc, .inl h0⟩
  · have hne : ∀ i : Nat, (⟨r, o, none⟩ : Addr) ≠ ⟨b, i, none⟩ := fun i e => by injection e with e; omega
    refine ⟨a, cap, hv, hc, .inr ⟨b, ha, by omega, by simpa [World.setCell] using hl, fun i hi => ?_, fun o' ho' => ?_⟩⟩
    · obtain ⟨h0, h1, h2⟩ := hp i hi
      exact ⟨by rw [set1_other (hne _)]; exact h0, by rw [set1_other (hne _)]; exact h1, by rw [set1_other (hne _)]; exact h2⟩
    · obtain ⟨⟨x, hx⟩, hf⟩ := ht o' ho'
      exact ⟨⟨x, by rw [set1_other (hne _)]; exact hx⟩, by rw [World.frozen?_setCell]; exact hf⟩
end Go.Proofs.Ytfknbijpimpbfaa
