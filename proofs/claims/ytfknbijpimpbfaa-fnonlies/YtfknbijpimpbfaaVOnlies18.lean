/- Several texts in one. -/
import Derived.Test.YtfknbijpimpbfaaVOnlies11
import Derived.Test.YtfknbijpimpbfaaVOnlies14
import Derived.Test.YtfknbijpimpbfaaVOnlies16
import Derived.Test.YtfknbijpimpbfaaVOnlies17
import Derived.Test.YtfknbijpimpbfaaVOnlies12

/- A tile is asked for: the program. -/

namespace Go.Proofs.Ytfknbijpimpbfaa
open Go.RowKit
set_option linter.unusedSimpArgs false
set_option linter.unusedVariables false
set_option maxRecDepth 100000

/-- A time that is not right. -/
def timC (now : Int) : Int := if inB now 0 9000 = true then 0 else 3
theorem timC_in {now : Int} (h : timC now = 0) : 0 ≤ now ∧ now ≤ 9000 := by
  unfold timC at h
  cases hb : inB now 0 9000
  · simp [hb] at h
  · simpa [inB] using hb
/-- What comes ahead of asking. -/
def preC (n : Nat) (E : Nat → Req) (z x y now : Int) : Int := or3 (reqsC n E) (timC now) (refC z x y)
theorem preC_zero {n : Nat} {E : Nat → Req} {z x y now : Int} (h : preC n E z x y now = 0) : reqsC n E = 0 ∧ timC now = 0 ∧ refC z x y = 0 := by
  unfold preC or3 at h
  by_cases h1 : reqsC n E = 0
  · rw [if_pos h1] at h
    by_cases h2 : timC now = 0
    · rw [if_pos h2] at h
      exact ⟨h1, h2, h⟩
    · rw [if_neg h2] at h
      exact absurd h h2
  · rw [if_neg h1] at h
    exact absurd h h1
theorem reqsC_le {n : Nat} {E : Nat → Req} (h : reqsC n E = 0) : n ≤ 8 := by
  unfold reqsC at h
  by_cases h8 : 8 < n
  · rw [if_pos h8] at h; cases h
  · omega
/-- What AskTile tells. -/
def askC (n : Nat) (E : Nat → Req) (z x y now : Int) : Int := if preC n E z x y now = 0 then (if 0 ≤ atW n E z x y then 0 else if 8 ≤ n then 7 else 0) else preC n E z x y now
def askL (n : Nat) (E : Nat → Req) (z x y now : Int) : List Req := if preC n E z x y now = 0 then (if 0 ≤ atW n E z x y then listW n E else if 8 ≤ n then [] else listW n E ++ [⟨z, x, y, now + 3, 1⟩]) else []
def askS (n : Nat) (E : Nat → Req) (z x y now : Int) : List Req := if preC n E z x y now = 0 then (if 0 ≤ atW n E z x y then [] else if 8 ≤ n then [] else [⟨z, x, y, now + 3, 1⟩]) else []
theorem ask_bad {n : Nat} {E : Nat → Req} {z x y now : Int} (h : preC n E z x y now ≠ 0) : askC n E z x y now = preC n E z x y now ∧ askL n E z x y now = [] ∧ askS n E z x y now = [] := by
  unfold askC askL askS
  rw [if_neg h, if_neg h, if_neg h]
  exact ⟨rfl, rfl, rfl⟩
theorem ask_there {n : Nat} {E : Nat → Req} {z x y now : Int} (h : preC n E z x y now = 0) (h2 : 0 ≤ atW n E z x y) : askC n E z x y now = 0 ∧ askL n E z x y now = listW n E ∧ askS n E z x y now = [] := by
  unfold askC askL askS
  rw [if_pos h, if_pos h, if_pos h, if_pos h2, if_pos h2, if_pos h2]
  exact ⟨rfl, rfl, rfl⟩
theorem ask_full {n : Nat} {E : Nat → Req} {z x y now : Int} (h : preC n E z x y now = 0) (h2 : ¬ 0 ≤ atW n E z x y) (h3 : 8 ≤ n) : askC n E z x y now = 7 ∧ askL n E z x y now = [] ∧ askS n E z x y now = [] := by
  unfold askC askL askS
  rw [if_pos h, if_pos h, if_pos h, if_neg h2, if_neg h2, if_neg h2, if_pos h3, if_pos h3, if_pos h3]
  exact ⟨rfl, rfl, rfl⟩
theorem ask_new {n : Nat} {E : Nat → Req} {z x y now : Int} (h : preC n E z x y now = 0) (h2 : ¬ 0 ≤ atW n E z x y) (h3 : ¬ 8 ≤ n) : askC n E z x y now = 0 ∧ askL n E z x y now = listW n E ++ [⟨z, x, y, now + 3, 1⟩] ∧ askS n E z x y now = [⟨z, x, y, now + 3, 1⟩] := by
  unfold askC askL askS
  rw [if_pos h, if_pos h, if_pos h, if_neg h2, if_neg h2, if_neg h2, if_neg h3, if_neg h3, if_neg h3]
  exact ⟨rfl, rfl, rfl⟩
theorem run_iminq (ts : Array TypeId) (t : TypeId) (a b : Int) (w : World) : (Builtin.min_ ts t #[.int .i64 a, .int .i64 b]).run Try.prog w = .ok (.int .i64 (min a b)) w := by
  simp only [Builtin.min_, Builtin.min2, List.foldlM]
  by_cases h : b < a
  · have e : min a b = b := by omega
    simp [h, e]
  · have e : min a b = a := by omega
    simp [h, e]
theorem there3q (V : World) (a b c : Value) (t : TypeId) : There (V.alloc (.cells #[a, b, c] t)) V.heap.size 3 := there3r V a b c t
theorem there5q (V : World) (a b c d e : Value) (t : TypeId) : There (V.alloc (.cells #[a, b, c, d, e] t)) V.heap.size 5 := fun o ho => by
  have hc : o = 0 ∨ o = 1 ∨ o = 2 ∨ o = 3 ∨ o = 4 := by omega
  rcases hc with rfl | rfl | rfl | rfl | rfl <;> exact ⟨⟨_, by simp [go_sem]; rfl⟩, by simp [go_sem]⟩
theorem set3q {W : World} {r : Nat} {a b c : Value} (hT : There W r 3) :
    (((W.setCell ⟨r, 0, none⟩ a).setCell ⟨r, 1, none⟩ b).setCell ⟨r, 2, none⟩ c).cell? ⟨r, 0, none⟩ = some a ∧
    (((W.setCell ⟨r, 0, none⟩ a).setCell ⟨r, 1, none⟩ b).setCell ⟨r, 2, none⟩ c).cell? ⟨r, 1, none⟩ = some b ∧
    (((W.setCell ⟨r, 0, none⟩ a).setCell ⟨r, 1, none⟩ b).setCell ⟨r, 2, none⟩ c).cell? ⟨r, 2, none⟩ = some c := by
  obtain ⟨x0, h0⟩ := (hT 0 (by omega)).1
  obtain ⟨x1, h1⟩ := (hT 1 (by omega)).1
  obtain ⟨x2, h2⟩ := (hT 2 (by omega)).1
  have ne : ∀ i j : Nat, i ≠ j → (⟨r, i, none⟩ : Addr) ≠ ⟨r, j, none⟩ := fun i j hij h => hij (by injection h)
  refine ⟨?_, ?_, ?_⟩
  · rw [set1_other (ne 2 0 (by omega)), set1_other (ne 1 0 (by omega))]; exact set1_same h0
  · rw [set1_other (ne 2 1 (by omega))]; exact set1_same (by rw [set1_other (ne 0 1 (by omega))]; exact h1)
  · exact set1_same (by rw [set1_other (ne 1 2 (by omega)), set1_other (ne 0 2 (by omega))]; exact h2)
theorem lit_cells (w : World) (cs : Array Value) (t : TypeId) : ∀ j u, cs.toList[j]? = some u → (w.alloc (.cells cs t)).cell? ((⟨w.heap.size, 0, none⟩ : Addr).add j) = some u := fun j u h => by
  have h1 : (w.alloc (.cells cs t)).cell? ⟨w.heap.size, j, none⟩ = some u := by
    rw [World.cell?_alloc_at _ _ _ _ rfl]
    simpa using h
  by_cases hj : j = 0
  · subst hj; simpa [Addr.add] using h1
  · simpa [Addr.add, hj] using h1
theorem lit_refs {base : Nat} (w : World) (e : Req) (hb : base ≤ w.heap.size) : RowS base (w.alloc (.cells #[.int .i64 e.z, .int .i64 e.x, .int .i64 e.y] 35)) (.slice (some ⟨w.heap.size, 0, none⟩) 1 1) [e] :=
  World.ownsRow_lit (base := base) (size := 3) w #[.int .i64 e.z, .int .i64 e.x, .int .i64 e.y] 1 hb (by unfold maxLen; omega) rfl
theorem reqCells_one (e : Req) : ∀ u ∈ reqCells e, u.oneCell' = true := fun u hu => cellsW_cell [e] u (by rw [cellsW_one]; exact hu)
theorem RowW.slice {base : Nat} {w : World} {v : Value} {l : List Req} (h : RowW base w v l) : ∃ a c, v = .slice a l.length c := by
  obtain ⟨a, c, hv, _⟩ := h.own
  exact ⟨a, c, hv⟩
theorem RowS.slice {base : Nat} {w : World} {v : Value} {l : List Req} (h : RowS base w v l) : ∃ a c, v = .slice a l.length c := by
  obtain ⟨a, c, hv, _⟩ := h.own
  exact ⟨a, c, hv⟩
theorem RowW.block {base : Nat} {w : World} {v : Value} {l : List Req} (h : RowW base w v l) : ∀ s, v.ownBlock = some s → base ≤ s := fun s hs => by
  obtain ⟨_, h2 | ⟨g, cp, cur, hv, hg, _⟩⟩ := h
  · rw [h2.1] at hs; cases hs
  · rw [hv] at hs
    simp [Value.ownBlock] at hs
    omega
theorem RowS.block {base : Nat} {w : World} {v : Value} {l : List Req} (h : RowS base w v l) : ∀ s, v.ownBlock = some s → base ≤ s := fun s hs => by
  obtain ⟨_, h2 | ⟨g, cp, cur, hv, hg, _⟩⟩ := h
  · rw [h2.1] at hs; cases hs
  · rw [hv] at hs
    simp [Value.ownBlock] at hs
    omega
theorem RowW.set3 {base B r : Nat} {w : World} {v a b c : Value} {l : List Req} (h : RowW B w v l) (hr : r < B) (hB : base ≤ B) : RowW base (((w.setCell ⟨r, 0, none⟩ a).setCell ⟨r, 1, none⟩ b).setCell ⟨r, 2, none⟩ c) v l :=
  ownsRow_wideW (ownsRow_setW (ownsRow_setW (ownsRow_setW h hr) hr) hr) hB
theorem RowS.set3 {base B r : Nat} {w : World} {v a b c : Value} {l : List Req} (h : RowS B w v l) (hr : r < B) (hB : base ≤ B) : RowS base (((w.setCell ⟨r, 0, none⟩ a).setCell ⟨r, 1, none⟩ b).setCell ⟨r, 2, none⟩ c) v l :=
  ownsRow_wideW (ownsRow_setW (ownsRow_setW (ownsRow_setW h hr) hr) hr) hB
end Go.Proofs.Ytfknbijpimpbfaa
/- A tile is asked for: the model. -/

namespace Go.Proofs.Ytfknbijpimpbfaa
open Go.RowKit
set_option linter.unusedSimpArgs false
set_option linter.unusedVariables false
set_option maxRecDepth 100000

/-- A request that was laid as a literal. -/
def LitW (w : World) (b : Nat) (e : Req) : Prop := ∀ j u, (reqCells e)[j]? = some u → w.cell? ((⟨b, 0, none⟩ : Addr).add j) = some u
theorem LitW.below {w w' : World} {b : Nat} {e : Req} (h : LitW w b e) (hb : Below w.heap.size w w') : LitW w' b e := fun j u hj => bl_cellR hb (h j u hj)
theorem LitW.of (w : World) (e : Req) : LitW (w.alloc (.cells #[.int .i64 e.z, .int .i64 e.x, .int .i64 e.y, .int .i64 e.du, .int .i64 e.tr] 37)) w.heap.size e := lit_cells w _ _
/-- Rows of refs stay where requests are appended. -/
theorem RowS.grown {base base' : Nat} {w w' : World} {v v' : Value} {l l' : List Req} (h : RowS base w v l) (h' : RowW base' w v' l') (hg : w.grownBy w' v'.ownBlock) : RowS base w' v l := by
  have hap := rows_apart h h' (by decide)
  obtain ⟨h1, h2 | ⟨g, cp, cur, hv, hg', hh, hk⟩⟩ := h
  · exact ⟨h1, .inl h2⟩
  · refine ⟨h1, .inr ⟨g, cp, cur, hv, hg', ?_, hk⟩⟩
    have hgl : g < w.heap.size := by
      rcases Nat.lt_or_ge g w.heap.size with h' | h'
      · exact h'
      · rw [Array.getElem?_eq_none h'] at hh; cases hh
    rw [hg.block g hgl (fun e => ?_)]
    · exact hh
    · obtain ⟨a', c', hv'⟩ := h'.slice
      cases a' with
      | none => rw [hv'] at e; simp [Value.ownBlock] at e
      | some p =>
        rw [hv'] at e
        simp [Value.ownBlock] at e
        exact hap ⟨g, 0, none⟩ _ cp p _ c' hv hv' e
theorem RowW.grown {base base' : Nat} {w w' : World} {v v' : Value} {l l' : List Req} (h : RowW base w v l) (h' : RowS base' w v' l') (hg : w.grownBy w' v'.ownBlock) : RowW base w' v l := by
  have hap := rows_apart h h' (by decide)
  obtain ⟨h1, h2 | ⟨g, cp, cur, hv, hg', hh, hk⟩⟩ := h
  · exact ⟨h1, .inl h2⟩
  · refine ⟨h1, .inr ⟨g, cp, cur, hv, hg', ?_, hk⟩⟩
    have hgl : g < w.heap.size := by
      rcases Nat.lt_or_ge g w.heap.size with h' | h'
      · exact h'
      · rw [Array.getElem?_eq_none h'] at hh; cases hh
    rw [hg.block g hgl (fun e => ?_)]
    · exact hh
    · obtain ⟨a', c', hv'⟩ := h'.slice
      cases a' with
      | none => rw [hv'] at e; simp [Value.ownBlock] at e
      | some p =>
        rw [hv'] at e
        simp [Value.ownBlock] at e
        exact hap ⟨g, 0, none⟩ _ cp p _ c' hv hv' e
theorem l12Bad_any (c : Int) (w : World) : Calls Try.prog 29 #[.int .i64 c] w fun e w' => e = .returned (rqV c (.slice none 0 0) (.slice none 0 0)) ∧ Below w.heap.size w w' := by
  go_enter Try.func29, Try.ntmps29
  go_wp2
  exact bodyPost_ret (v := rqV c (.slice none 0 0) (.slice none 0 0)) (by simp [results, Try.results29, go_sem]) rfl ⟨rfl, by (repeat (first | exact Below.refl _ _ | assumption | refine Below.drew ?_ | refine bl_alloc ?_ _ | refine bl_then ?_ (by assumption) | refine Below.setCell ?_ (by first | omega | (simp; done) | (simp; omega)) _ | refine bl_store ?_ ?_ _ _))⟩
end Go.Proofs.Ytfknbijpimpbfaa
