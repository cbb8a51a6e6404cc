/- A tile is asked for: the model. -/
import Derived.Test.YtfknbijpimpbfaaVOnlySeen20
import Derived.Test.YtfknbijpimpbfaaVOnlySeen15
namespace Go.Proofs.Ytfknbijpimpbfaa
open Go.RowKit
set_option linter.unusedSimpArgs false
set_option linter.unusedVariables false
set_option maxRecDepth 100000

/-- A request that was laid as a literal. -/
def LitW (w : World) (b : Nat) (e : Req) : Prop := ∀ j u, (reqCells e)[j]? = some u → w.cell? ((⟨b, 0, none⟩ : Addr).add j) = some u
theorem LitW.below {w w' : World} {b : Nat} {e : Req} (h : LitW w b e) (hb : Below w.heap.size w w') : LitW w' b e := fun j u hj => bl_cellR hb (h j u hj)
theorem LitW.of (w : World) (e : Req) : LitW (w.alloc (.cells #[.int .i64 e.z, .int .i64 e.x, .int .i64 e.y, .int .i64 e.du, .int .i64 e.tr] 37)) w.heap.size e := lit_cells w _ _
/-- Rows of refs stay where requests are appended. -/
theorem RowS.grown {base base' : Nat} {w w' : World} {v v' : Value} {l l' : List Req} (h : RowS base w v l) (h' : RowW base' w v' l') (hg : w.grownBy w' v'.ownBlock) : RowS base w' v l := by
  have hap := rows_apart h h' (by decide)
  obtain ⟨h1, h2 | ⟨g, cp, cur, hv, hg', hh, hk⟩⟩ := h
  · exact ⟨h1, .inl h2⟩
  · refine ⟨h1, .inr ⟨g, cp, cur, hv, hg', ?_, hk⟩⟩
    have hgl : g < w.heap.size := by
      rcases Nat.lt_or_ge g w.heap.size with h' | h'
      · exact h'
      · rw [Array.getElem?_eq_none h'] at hh; cases hh
    rw [hg.block g hgl (fun e => ?_)]
    · exact hh
    · obtain ⟨a', c', hv'⟩ := h'.slice
      cases a' with
      | none => rw [hv'] at e; simp [Value.ownBlock] at e
      | some p =>
        rw [hv'] at e
        simp [Value.ownBlock] at e
        exact hap ⟨g, 0, none⟩ _ cp p _ c' hv hv' e
theorem RowW.grown {base base' : Nat} {w w' : World} {v v' : Value} {l l' : List Req} (h : RowW base w v l) (h' : RowS base' w v' l') (hg : w.grownBy w' v'.ownBlock) : RowW base w' v l := by
  have hap := rows_apart h h' (by decide)
  obtain ⟨h1, h2 | ⟨g, cp, cur, hv, hg', hh, hk⟩⟩ := h
  · exact ⟨h1, .inl h2⟩
  · refine ⟨h1, .inr ⟨g, cp, cur, hv, hg', ?_, hk⟩⟩
    have hgl : g < w.heap.size := by
      rcases Nat.lt_or_ge g w.heap.size with h' | h'
      · exact h'
      · rw [Array.getElem?_eq_none h'] at hh; cases hh
    rw [hg.block g hgl (fun e => ?_)]
    · exact hh
    · obtain ⟨a', c', hv'⟩ := h'.slice
      cases a' with
      | none => rw [hv'] at e; simp [Value.ownBlock] at e
      | some p =>
        rw [hv'] at e
        simp [Value.ownBlock] at e
        exact hap ⟨g, 0, none⟩ _ cp p _ c' hv hv' e
theorem l12Bad_any (c : Int) (w : World) : Calls Try.prog 29 #[.int .i64 c] w fun e w' => e = .returned (rqV c (.slice none 0 0) (.slice none 0 0)) ∧ Below w.heap.size w w' := by
  go_enter Try.func29, Try.ntmps29
  go_wp2
  exact bodyPost_ret (v := rqV c (.slice none 0 0) (.slice none 0 0)) (by simp [results, Try.results29, go_sem]) rfl ⟨rfl, by (repeat (first | exact Below.refl _ _ | assumption | refine Below.drew ?_ | refine bl_alloc ?_ _ | refine bl_then ?_ (by assumption) | refine Below.setCell ?_ (by first | omega | (simp; done) | (simp; omega)) _ | refine bl_store ?_ ?_ _ _))⟩
end Go.Proofs.Ytfknbijpimpbfaa
