/- Numbers are sorted by the library; rows and blocks beside a range over a function. -/
import Derived.Test.YtjnhaigmfjndhaaVFindBox32
import Derived.Test.YtjnhaigmfjndhaaVFindBox33
import Derived.Test.YtjnhaigmfjndhaaVFindBox16
import Derived.Test.YtjnhaigmfjndhaaVFindBox35
import Derived.Sort.OwnSortedInts
namespace Go.Proofs.Ytjnhaigmfjndhaa
open Go.RowKit Go.Sort Go.Shelf
set_option linter.unusedSimpArgs false
set_option linter.unusedVariables false
set_option maxRecDepth 100000

theorem sortN_any (base : Nat) (v : Value) (zs : List Int) (w : World) (hR : RowN base w v zs) (hn : zs.length ≤ 1048576) :
    Calls Try.prog 31 #[v] w fun e w' => e = .returned (.tuple #[]) ∧ RowN base w' v (zs.mergeSort fun x y => decide (x ≤ y)) ∧ w.grownBy w' v.ownBlock := by
  obtain ⟨h1, h2 | ⟨g, c, cur, hv, hg, hh, hkc, hcm, hcs, htk⟩⟩ := id hR
  · obtain ⟨hv, hn0⟩ := h2
    subst hv
    have hz : zs = [] := List.eq_nil_of_length_eq_zero hn0
    subst hz
    have hcon := AnyM.slices_Sort_int_none Try.sortN none 0 w
    refine Calls.mono (show Calls Try.prog 31 _ _ _ from hcon) ?_
    rintro e w' ⟨he, rfl⟩
    exact ⟨he, by simpa using hR, grown_refl _ _⟩
  · have hgl : g < w.heap.size := lt_of_heap hh
    subst hv
    have hH : Holds (Value.int .i64) w g 0 zs.toArray := holds_of_blockI hh (by simpa using htk)
    have hcon := AnyM.slices_Sort_int Try.sortN g 0 c zs w hH hgl (by omega)
    refine Calls.mono (show Calls Try.prog 31 _ _ _ from hcon) ?_
    rintro e w' ⟨he, k, os, rfl⟩
    have hl : (zs.mergeSort fun x y => decide (x ≤ y)).length = zs.length := List.length_mergeSort _
    refine ⟨he, ?_, grownBy_sortedI _⟩
    have := ownsRow_sortedI (n := k) (os := os) hl hg hh hkc hcm hcs
    show World.ownsRow _ _ _ _ _ _ _
    rw [hl]
    exact this
/-- An object of other cells is no block of a row. -/
theorem obj_not_row {W : World} {b base size k : Nat} {e t : TypeId} {arr : Array Value} {fz : Nat × Nat} {v : Value} {xs : List Value} (h : W.heap[b]? = some (.cells arr t fz)) (hte : t ≠ e) (hr : W.ownsRow base e size v k xs) : some b ≠ v.ownBlock := fun eq => by
  obtain ⟨_, h2 | ⟨g, c, cur, rfl, _, hh, _⟩⟩ := hr
  · rw [h2.1] at eq; cases eq
  · simp [Value.ownBlock] at eq
    subst eq
    rw [hh] at h
    injection h with h
    injection h with _ h _
    exact hte h.symm
theorem ownsRow_keepNC {W W' : World} {row : Option Nat} {base size k : Nat} {e : TypeId} {v : Value} {xs : List Value} (h : W.ownsRow base e size v k xs) (hg : W.grownBy W' row) (hr : ∀ r, row = some r → ∃ o : Obj, W.heap[r]? = some o ∧ o.isCells = false) : W'.ownsRow base e size v k xs := by
  obtain ⟨h1, h2 | ⟨g, c, cur, hv, hg', hh, h3⟩⟩ := h
  · exact ⟨h1, .inl h2⟩
  · refine ⟨h1, .inr ⟨g, c, cur, hv, hg', ?_, h3⟩⟩
    rw [hg.block g (lt_of_heap hh) (fun e => by
      obtain ⟨o, ho, hc⟩ := hr g e.symm
      rw [hh] at ho
      cases ho
      cases hc)]
    exact hh
theorem obj_keepNC {W W' : World} {row : Option Nat} {b : Nat} {arr : Array Value} {t : TypeId} {fz : Nat × Nat} (h : W.heap[b]? = some (.cells arr t fz)) (hg : W.grownBy W' row) (hr : ∀ r, row = some r → ∃ o : Obj, W.heap[r]? = some o ∧ o.isCells = false) : W'.heap[b]? = some (.cells arr t fz) := by
  rw [hg.block b (lt_of_heap h) (fun e => by
    obtain ⟨o, ho, hc⟩ := hr b e.symm
    rw [h] at ho
    cases ho
    cases hc)]
  exact h
/-- The Ids of what meets a box, of entries as they are told. -/
def rawP (x0 x1 x2 x3 : Int) (pre : List (Nat × Ent)) : List Int := (pre.filter fun x => meetB x.2.a x.2.b x.2.c x.2.d x0 x1 x2 x3).map fun x => x.2.id
theorem rawP_add (x0 x1 x2 x3 : Int) (pre : List (Nat × Ent)) (x : Nat × Ent) : rawP x0 x1 x2 x3 (pre ++ [x]) = rawP x0 x1 x2 x3 pre ++ (if meetB x.2.a x.2.b x.2.c x.2.d x0 x1 x2 x3 = true then [x.2.id] else []) := by
  unfold rawP
  rw [List.filter_append, List.map_append]
  congr 1
  cases h : meetB x.2.a x.2.b x.2.c x.2.d x0 x1 x2 x3 <;> simp [h]
theorem rawP_len (x0 x1 x2 x3 : Int) (pre : List (Nat × Ent)) : (rawP x0 x1 x2 x3 pre).length ≤ pre.length := by
  unfold rawP
  rw [List.length_map]
  exact List.length_filter_le _ _
theorem rawP_all (Q : Nat → Qd) (n : Nat) (x0 x1 x2 x3 : Int) : rawP x0 x1 x2 x3 (allE Q n) = rawI (entAt (esOf Q n)) (esOf Q n).length x0 x1 x2 x3 := by
  have e : (List.range (esOf Q n).length).map (entAt (esOf Q n)) = esOf Q n := by
    apply List.ext_getElem?
    intro i
    by_cases hi : i < (esOf Q n).length
    · simp [entAt, hi]
    · simp [hi]
  have e2 : rawI (entAt (esOf Q n)) (esOf Q n).length x0 x1 x2 x3 = ((((List.range (esOf Q n).length).map (entAt (esOf Q n))).filter fun y => meetB y.a y.b y.c y.d x0 x1 x2 x3).map fun y => y.id) := by
    unfold rawI
    rw [List.filter_map, List.map_map]
    rfl
  rw [e2, e]
  unfold rawP esOf
  rw [List.filter_map, List.map_map]
  rfl
def FState (w : World) (M p off n cap : Nat) (x0 x1 x2 x3 : Int) (pre : List (Nat × Ent)) (W : World) : Prop :=
  (∃ v, Boxed W M 28 v ∧ RowN w.heap.size W v (rawP x0 x1 x2 x3 pre)) ∧ Boxed W (M + 1) 32 (.slice (some ⟨p, off, none⟩) n cap) ∧ W.heap[w.heap.size]? = some (.cells #[.int .i64 x0, .int .i64 x1, .int .i64 x2, .int .i64 x3] 36 (0, 0)) ∧ W.heap[w.heap.size + 1]? = some (.cells #[.int .i64 0, .slice none 0 0] 30 (0, 0)) ∧ Below w.heap.size w W
theorem FState.own (w : World) (M p off n cap B : Nat) (x0 x1 x2 x3 : Int) (hB : w.heap.size ≤ B) : OwnFrom B (FState w M p off n cap x0 x1 x2 x3) := fun pre W W' row h hg hr => by
  obtain ⟨⟨v, h1, h2⟩, h3, h4, h5, h6⟩ := h
  have hr' := fun r e => (hr r e).2
  exact ⟨⟨v, obj_keepNC h1 hg hr', ownsRow_keepNC h2 hg hr'⟩, obj_keepNC h3 hg hr', obj_keepNC h4 hg hr', obj_keepNC h5 hg hr', (ownFrom_below (β := Unit) (Nat.le_refl _) hB) () W W' row h6 hg hr⟩
theorem FState.below {w W W' : World} {M p off n cap : Nat} {x0 x1 x2 x3 : Int} {pre : List (Nat × Ent)} (h : FState w M p off n cap x0 x1 x2 x3 pre W) (hb : Below W.heap.size W W') : FState w M p off n cap x0 x1 x2 x3 pre W' := by
  obtain ⟨⟨v, h1, h2⟩, h3, h4, h5, h6⟩ := h
  exact ⟨⟨v, (hb.block _ (lt_of_heap h1)).trans h1, h2.below hb⟩, (hb.block _ (lt_of_heap h3)).trans h3, (hb.block _ (lt_of_heap h4)).trans h4, (hb.block _ (lt_of_heap h5)).trans h5, bl_then h6 hb⟩
end Go.Proofs.Ytjnhaigmfjndhaa
