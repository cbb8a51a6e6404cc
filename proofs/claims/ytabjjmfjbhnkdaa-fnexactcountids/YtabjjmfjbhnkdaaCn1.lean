/- Numbers are sorted, and each is kept once, by the library. -/
import Derived.Test.YtabjjmfjbhnkdaaRw0
import Derived.Test.YtabjjmfjbhnkdaaLayC
import Derived.Sort.OwnSortedInts
import Derived.Lib.RowBridge
namespace Go.Proofs.Ytabjjmfjbhnkdaa
open Go.RowKit Go.Sort Go.Shelf
set_option linter.unusedSimpArgs false
set_option linter.unusedVariables false
set_option maxRecDepth 100000

theorem lt_of_heapC {w : World} {b : Nat} {o : Obj} (h : w.heap[b]? = some o) : b < w.heap.size := (Array.getElem?_eq_some_iff.1 h).1
theorem sortC_any (base : Nat) (v : Value) (zs : List Int) (w : World) (hR : RowN base w v zs) (hn : zs.length ≤ 1048576) :
    Calls Try.prog 52 #[v] w fun e w' => e = .returned (.tuple #[]) ∧ RowN base w' v (zs.mergeSort fun x y => decide (x ≤ y)) ∧ w.grownBy w' v.ownBlock := by
  obtain ⟨h1, h2 | ⟨g, c, cur, hv, hg, hh, hkc, hcm, hcs, htk⟩⟩ := id hR
  · obtain ⟨hv, hn0⟩ := h2
    subst hv
    have hz : zs = [] := List.eq_nil_of_length_eq_zero hn0
    subst hz
    have hcon := AnyM.slices_Sort_int_none Try.sortN none 0 w
    refine Calls.mono (show Calls Try.prog 52 _ _ _ from hcon) ?_
    rintro e w' ⟨he, rfl⟩
    exact ⟨he, by simpa using hR, grown_reflN _ _⟩
  · have hgl : g < w.heap.size := lt_of_heapC hh
    subst hv
    have hH : Holds (Value.int .i64) w g 0 zs.toArray := holds_of_blockI hh (by simpa using htk)
    have hcon := AnyM.slices_Sort_int Try.sortN g 0 c zs w hH hgl (by omega)
    refine Calls.mono (show Calls Try.prog 52 _ _ _ from hcon) ?_
    rintro e w' ⟨he, k, os, rfl⟩
    have hl : (zs.mergeSort fun x y => decide (x ≤ y)).length = zs.length := List.length_mergeSort _
    refine ⟨he, ?_, grownBy_sortedI _⟩
    have := ownsRow_sortedI (n := k) (os := os) hl hg hh hkc hcm hcs
    show World.ownsRow _ _ _ _ _ _ _
    rw [hl]
    exact this
theorem compactC_any (base : Nat) (v : Value) (zs : List Int) (w : World) (hR : RowN base w v zs) (hn : zs.length ≤ 1048576) :
    Calls Try.prog 50 #[v] w fun e w' => ∃ v', e = .returned v' ∧ OwnN w' base v' (Lib.compact zs).length (nz (Lib.compact zs)) ∧ w.grownBy w' v.ownBlock := by
  obtain ⟨h1, h2 | ⟨g, c, cur, hv, hg, hh, hkc, hcm, hcs, htk⟩⟩ := id hR
  · obtain ⟨hv, hn0⟩ := h2
    subst hv
    have hz : zs = [] := List.eq_nil_of_length_eq_zero hn0
    subst hz
    have hcon := AnyG.slices_Compact_int_empty Try.compN none 0 w
    refine Calls.mono (show Calls Try.prog 50 _ _ _ from hcon) ?_
    rintro e w' ⟨he, rfl⟩
    exact ⟨_, he, ⟨none, 0, rfl, Nat.le_refl _, .inl rfl⟩, grown_reflN _ _⟩
  · have hgl : g < w.heap.size := lt_of_heapC hh
    subst hv
    have hH : Holds (Value.int .i64) w g 0 zs.toArray := holds_of_blockI hh (by simpa using htk)
    have hcon := AnyG.slices_Compact_int Try.compN g 0 c zs w hH (by omega) hkc
    refine Calls.mono (show Calls Try.prog 50 _ _ _ from hcon) ?_
    rintro e w' ⟨he, q, rfl⟩
    have hle := Lib.compact_length_le zs
    generalize hL : Lib.compact zs = L at *
    have hl : (L ++ List.replicate (zs.length - L.length) 0).length = zs.length := by simp; omega
    have hrow := ownsRow_sortedI (n := q) (os := #[]) hl hg hh hkc hcm hcs
    have hgr := grownBy_sortedI (w := w) (g := g) (n := q) (os := #[]) (L ++ List.replicate (zs.length - L.length) 0).toArray
    rw [grow_empty] at hrow hgr
    have hR' : RowN base (putRow (Value.int .i64) (Sort.ahead w q) g 0 (L ++ List.replicate (zs.length - L.length) 0).toArray) (.slice (some ⟨g, 0, none⟩) zs.length c) (L ++ List.replicate (zs.length - L.length) 0) := by
      show World.ownsRow _ _ _ _ _ _ _
      rw [hl]
      exact hrow
    refine ⟨_, he, ?_, hgr⟩
    obtain ⟨a', c', hv', hc', h0 | ⟨b, ha, hb, hbl, hN, hT⟩⟩ := hR'.own
    · rw [hl] at h0
      have hL0 : L.length = 0 := by omega
      exact ⟨_, c, rfl, by omega, .inl hL0⟩
    · injection hv' with e1 e2 e3
      subst e1
      injection ha with ha
      injection ha with ha
      subst ha
      refine ⟨_, c, rfl, by omega, .inr ⟨g, rfl, hb, hbl, fun i hi => ?_, fun o ho => hT o (by omega)⟩⟩
      rw [hN i (by omega)]
      simp only [nz, List.getD_eq_getElem?_getD]
      rw [List.getElem?_append_left hi]
/-- Two rising lists with the same numbers are one. -/
theorem rise_eq : ∀ {l m : List Int}, l.Pairwise (· < ·) → m.Pairwise (· < ·) → (∀ x, x ∈ l ↔ x ∈ m) → l = m
  | [], [], _, _, _ => rfl
  | [], y :: m, _, _, h => by have := (h y).2 (by simp); cases this
  | x :: l, [], _, _, h => by have := (h x).1 (by simp); cases this
  | x :: l, y :: m, hl, hm, h => by
    rw [List.pairwise_cons] at hl hm
    have hxy : x = y := by
      have h1 := (h x).1 (by simp)
      have h2 := (h y).2 (by simp)
      rcases List.mem_cons.1 h1 with e | e
      · exact e
      · rcases List.mem_cons.1 h2 with e' | e'
        · exact e'.symm
        · have := hl.1 y e'
          have := hm.1 x e
          omega
    subst hxy
    congr 1
    refine rise_eq hl.2 hm.2 fun z => ?_
    have hz := h z
    constructor
    · intro hz1
      rcases List.mem_cons.1 (hz.1 (by simp [hz1])) with e | e
      · have := hl.1 z hz1; omega
      · exact e
    · intro hz1
      rcases List.mem_cons.1 (hz.2 (by simp [hz1])) with e | e
      · have := hm.1 z hz1; omega
      · exact e
/-- What is kept of a list that does not fall rises, and has the same numbers. -/
theorem compactUpTo_rise (d : Array Int) : ∀ m, m ≤ d.size → (∀ i j, i < j → j < m → d[i]! ≤ d[j]!) → (Lib.compactUpTo d m).Pairwise (· < ·) ∧ (∀ x ∈ Lib.compactUpTo d m, 0 < m ∧ x ≤ d[m - 1]!) ∧ (∀ i, i < m → d[i]! ∈ Lib.compactUpTo d m) ∧ (∀ x ∈ Lib.compactUpTo d m, ∃ i, i < m ∧ d[i]! = x)
  | 0, _, _ => by simp [Lib.compactUpTo]
  | m + 1, hm, hs => by
    obtain ⟨h1, h2, h3, h4⟩ := compactUpTo_rise d m (by omega) (fun i j hij hj => hs i j hij (by omega))
    rw [Lib.compactUpTo_succ]
    by_cases hk : Lib.keeps d m = true
    · rw [if_pos hk]
      have hk' : m = 0 ∨ d[m]! ≠ d[m - 1]! := by simpa [Lib.keeps] using hk
      have hlt : ∀ x ∈ Lib.compactUpTo d m, x < d[m]! := fun x hx => by
        obtain ⟨h0, hle⟩ := h2 x hx
        have := hs (m - 1) m (by omega) (by omega)
        rcases hk' with h | h
        · omega
        · omega
      refine ⟨?_, ?_, ?_, ?_⟩
      · rw [List.pairwise_append]
        exact ⟨h1, by simp, fun x hx y hy => by simp at hy; subst hy; exact hlt x hx⟩
      · intro x hx
        refine ⟨by omega, ?_⟩
        rcases List.mem_append.1 hx with h | h
        · have := hlt x h
          simp only [Nat.add_sub_cancel]
          omega
        · simp at h
          subst h
          simp
      · intro i hi
        by_cases e : i = m
        · subst e; simp
        · exact List.mem_append_left _ (h3 i (by omega))
      · intro x hx
        rcases List.mem_append.1 hx with h | h
        · obtain ⟨i, hi, e⟩ := h4 x h
          exact ⟨i, by omega, e⟩
        · simp at h
          exact ⟨m, by omega, h.symm⟩
    · rw [if_neg hk, List.append_nil]
      have hk' : m ≠ 0 ∧ d[m]! = d[m - 1]! := by
        have : ¬ (m = 0 ∨ d[m]! ≠ d[m - 1]!) := fun h => hk (by simpa [Lib.keeps] using h)
        constructor
        · exact fun e => this (.inl e)
        · exact Classical.byContradiction fun e => this (.inr e)
      refine ⟨h1, ?_, ?_, ?_⟩
      · intro x hx
        obtain ⟨h0, hle⟩ := h2 x hx
        refine ⟨by omega, ?_⟩
        simp only [Nat.add_sub_cancel]
        rw [hk'.2]
        exact hle
      · intro i hi
        by_cases e : i = m
        · subst e
          rw [hk'.2]
          exact h3 _ (by omega)
        · exact h3 i (by omega)
      · intro x hx
        obtain ⟨i, hi, e⟩ := h4 x hx
        exact ⟨i, by omega, e⟩
theorem compact_rise {zs : List Int} (h : zs.Pairwise (· ≤ ·)) : (Lib.compact zs).Pairwise (· < ·) ∧ ∀ x, x ∈ Lib.compact zs ↔ x ∈ zs := by
  have hg : ∀ i, (hi : i < zs.length) → zs.toArray[i]! = zs[i] := fun i hi => by simp [hi]
  obtain ⟨h1, h2, h3, h4⟩ := compactUpTo_rise zs.toArray zs.length (by simp) (fun i j hij hj => by
    rw [hg i (by omega), hg j hj]
    exact List.pairwise_iff_getElem.1 h i j (by omega) hj hij)
  refine ⟨h1, fun x => ⟨fun hx => ?_, fun hx => ?_⟩⟩
  · obtain ⟨i, hi, e⟩ := h4 x hx
    rw [hg i hi] at e
    rw [← e]
    exact List.getElem_mem hi
  · obtain ⟨i, hi, e⟩ := List.getElem_of_mem hx
    have := h3 i hi
    rw [hg i hi, e] at this
    exact this
/-- The Ids above 0 of a raster, rising: as the model finds them. -/
def cntL (Z : Nat → Int) (k : Nat) : List Int := ((List.range k).map fun (i : Nat) => ((i + 1 : Nat) : Int)).filter fun x => (List.range 64).any fun j => decide (Z j = x)
theorem cntL_rise (Z : Nat → Int) (k : Nat) : (cntL Z k).Pairwise (· < ·) := by
  unfold cntL
  refine List.Pairwise.filter _ ?_
  rw [List.pairwise_map]
  exact List.pairwise_lt_range.imp fun {a b} h => by omega
theorem cntL_mem (Z : Nat → Int) (k : Nat) (x : Int) : x ∈ cntL Z k ↔ (1 ≤ x ∧ x ≤ (k : Int)) ∧ ∃ j, j < 64 ∧ Z j = x := by
  unfold cntL
  rw [List.mem_filter]
  constructor
  · rintro ⟨h1, h2⟩
    obtain ⟨i, hi, e⟩ := List.mem_map.1 h1
    simp at hi
    refine ⟨by omega, ?_⟩
    simp at h2
    exact h2
  · rintro ⟨h1, j, hj, e⟩
    refine ⟨List.mem_map.2 ⟨(x - 1).toNat, by simp; omega, by omega⟩, ?_⟩
    simp
    exact ⟨j, hj, e⟩
/-- The Ids above 0 of the first k pixels, as they stand. -/
def seenL (Z : Nat → Int) (k : Nat) : List Int := ((List.range k).map Z).filter fun x => decide (0 < x)
theorem seenL_add (Z : Nat → Int) (k : Nat) : seenL Z (k + 1) = seenL Z k ++ (if 0 < Z k then [Z k] else []) := by
  unfold seenL
  rw [List.range_succ, List.map_append, List.filter_append]
  congr 1
  by_cases h : 0 < Z k <;> simp [h]
theorem seenL_len (Z : Nat → Int) (k : Nat) : (seenL Z k).length ≤ k := by
  unfold seenL
  exact Nat.le_trans (List.length_filter_le _ _) (by simp)
theorem cnt_eq {Z : Nat → Int} (h : ∀ i, i < 64 → 0 ≤ Z i ∧ Z i ≤ 999) : Lib.compact ((seenL Z 64).mergeSort fun x y => decide (x ≤ y)) = cntL Z 999 := by
  have hs : ((seenL Z 64).mergeSort fun x y => decide (x ≤ y)).Pairwise (· ≤ ·) := by
    have := List.pairwise_mergeSort (le := fun x y : Int => decide (x ≤ y)) (fun a b c h1 h2 => by simp at *; omega) (fun a b => by simp; omega) (seenL Z 64)
    exact this.imp fun {a b} h => by simpa using h
  obtain ⟨h1, h2⟩ := compact_rise hs
  refine rise_eq h1 (cntL_rise Z 999) fun x => ?_
  rw [h2, List.mem_mergeSort, cntL_mem]
  unfold seenL
  rw [List.mem_filter, List.mem_map]
  constructor
  · rintro ⟨⟨i, hi, e⟩, hx⟩
    simp at hi hx
    have := h i hi
    exact ⟨by omega, i, hi, e⟩
  · rintro ⟨hx, j, hj, e⟩
    exact ⟨⟨j, by simpa using hj, e⟩, by simp; omega⟩
end Go.Proofs.Ytabjjmfjbhnkdaa
