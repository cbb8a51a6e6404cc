/- A stack of its own: what is put on it, what is on top, what is dropped. -/
import Derived.Test.YtdohlnnbibnnbaaGreatVPlaceLabels22
import Derived.Test.YtdohlnnbibnnbaaGreatVPlaceLabels12
import Derived.Test.YtdohlnnbibnnbaaGreatVPlaceLabels23
import Derived.OwnWalk
import Derived.Deep.DeepMust
namespace Go.Proofs.YtdohlnnbibnnbaaGreat
open Go.RowKit
set_option linter.unusedSimpArgs false
set_option linter.unusedVariables false

/-- The cells of numbers. -/
def intsL (st : List Nat) : List Value := st.map fun k : Nat => Value.int .i64 (k : Int)
/-- Block S is a stack with the numbers st, the top one last. -/
structure StackAt (w : World) (S base : Nat) (v : Value) (st : List Nat) : Prop where
  blk : w.heap[S]? = some (.cells #[v] 167 (0, 0))
  row : World.ownsRow w base 3 1 v st.length (intsL st)
theorem StackAt.lt {w : World} {S base : Nat} {v : Value} {st : List Nat} (h : StackAt w S base v st) : S < w.heap.size := by
  rcases Nat.lt_or_ge S w.heap.size with h' | h'
  · exact h'
  · have := h.blk; rw [Array.getElem?_eq_none h'] at this; cases this
theorem StackAt.cell {w : World} {S base : Nat} {v : Value} {st : List Nat} (h : StackAt w S base v st) : w.cell? ⟨S, 0, none⟩ = some v := by
  simp [World.cell?, h.blk]
theorem StackAt.frozen {w : World} {S base : Nat} {v : Value} {st : List Nat} (h : StackAt w S base v st) : w.frozen? ⟨S, 0, none⟩ = false := by
  simp [World.frozen?, h.blk]
theorem info_int : (Tryz.prog.info? 3).map (fun i => (i.zero, i.size, i.bytes)) = some (some (.int .i64 0), 1, 8) := by kernel_rfl

/-- All blocks are as they were but for block S and the row's. -/
structure Kept2 (S : Nat) (row : Option Nat) (w w' : World) : Prop where
  os : w'.os = w.os
  tape : w'.tape = w.tape
  output : w'.output = w.output
  size : w.heap.size ≤ w'.heap.size
  block : ∀ k, k < w.heap.size → k ≠ S → some k ≠ row → w'.heap[k]? = w.heap[k]?
theorem Kept2.below {S B : Nat} {row : Option Nat} {w w' : World} (h : Kept2 S row w w') (hS : B ≤ S) (hr : ∀ g, row = some g → B ≤ g) (hl : B ≤ w.heap.size) : Below B w w' :=
  ⟨h.os, h.tape, h.output, h.size, fun k hk => h.block k (by omega) (by omega) (fun e => by have := hr k e.symm; omega)⟩
/-- A row of points is not written where the stack is. -/
theorem Row.kept2 {S b1 b2 : Nat} {w w' : World} {v sv : Value} {st : List Nat} {l : List (Int × Int)} (hS : StackAt w S b1 v st) (hR : Row b2 w sv l) (hk : Kept2 S v.ownBlock w w') : Row b2 w' sv l := by
  refine ownsRow_of hR fun g hg => ?_
  obtain ⟨cur, hcur⟩ := heap_of_row hR g hg
  have hlt := (hR.lt g hg).2
  refine hk.block g hlt (fun e => ?_) (fun e => ?_)
  · subst e
    rw [hS.blk] at hcur
    simp at hcur
  · obtain ⟨cur', hcur'⟩ := heap_of_row hS.row g e.symm
    rw [hcur] at hcur'
    simp at hcur'
/-- The stack is as it was where a row of points was written. -/
theorem StackAt.grown {S b1 b2 : Nat} {w w' : World} {v sv : Value} {st : List Nat} {l : List (Int × Int)} (hS : StackAt w S b1 v st) (hR : Row b2 w sv l) (hg : w.grownBy w' sv.ownBlock) : StackAt w' S b1 v st := by
  have hne : ∀ g, sv.ownBlock = some g → ∃ cur, w.heap[g]? = some (.cells cur 111 (0, 0)) := heap_of_row hR
  refine ⟨?_, ownsRow_of hS.row fun g hgv => ?_⟩
  · rw [hg.block S hS.lt (fun e => by
      obtain ⟨cur, hc⟩ := hne S e.symm
      rw [hS.blk] at hc
      simp at hc)]
    exact hS.blk
  · refine hg.block g (hS.row.lt g hgv).2 (fun e => ?_)
    obtain ⟨cur, hc⟩ := hne g e.symm
    obtain ⟨cur', hc'⟩ := heap_of_row hS.row g hgv
    rw [hc] at hc'
    simp at hc'
theorem StackAt.below {S b1 : Nat} {w w' : World} {v : Value} {st : List Nat} (hS : StackAt w S b1 v st) (hb : Below w.heap.size w w') : StackAt w' S b1 v st :=
  ⟨(hb.block S hS.lt).trans hS.blk, ownsRow_of hS.row fun g hg => hb.block g (hS.row.lt g hg).2⟩
/-- The stack with another slice in it. -/
theorem stack_set {S b1 : Nat} {w : World} {v v' : Value} {st st' : List Nat} (hS : StackAt w S b1 v st) (hr : w.ownsRow b1 3 1 v' st'.length (intsL st')) : StackAt (w.setCell ⟨S, 0, none⟩ v') S b1 v' st' ∧ w.grownBy (w.setCell ⟨S, 0, none⟩ v') (some S) := by
  refine ⟨⟨?_, ownsRow_of hr fun g hg => ?_⟩, grown_set (grown_refl _ _) 0 v'⟩
  · have := heap_setCell_same w S 0 #[v] 167 v' hS.blk
    simpa using this
  · refine Below.heap_setCell _ _ _ _ (fun e => ?_)
    obtain ⟨cur, hc⟩ := heap_of_row hr g hg
    simp at e
    subst e
    rw [hS.blk] at hc
    simp at hc
theorem intsL_add (st : List Nat) (k : Nat) : intsL (st ++ [k]) = intsL st ++ [.int .i64 (k : Int)] := by simp [intsL]

set_option maxRecDepth 8000 in
set_option maxHeartbeats 1000000 in
theorem push_any (S base k : Nat) (v : Value) (st : List Nat) (w : World) (h : StackAt w S base v st) (hl : st.length ≤ 100) (hb : base ≤ w.heap.size) :
    Calls Tryz.prog 128 #[.pointer (some ⟨S, 0, none⟩), .int .i64 (k : Int)] w fun e w' => (∃ u, e = .returned u) ∧ (∃ v', StackAt w' S base v' (st ++ [k])) ∧ Kept2 S v.ownBlock w w' := by
  obtain ⟨i0, hi, hz0, hz1, hz2⟩ := info_parts info_int
  have c0 := h.cell
  have f0 := h.frozen
  have hSl := h.lt
  have HS : Hid (StackAt w S base v st) := h
  clear h
  go_enter Tryz.func128, Tryz.ntmps128
  go_wp2_with (first
    | (at_builtin; go_must (refine wpList_append_own _ rfl _ _ 165 rfl base 3 i0 (.int .i64 0) 1 8 Tryz.underlying165 hi hz0 hz1 hz2 rfl (by decide) _ st.length (intsL st) rfl (World.ownsRow.alloc HS.out.row _) ⟨w.heap.size, 0, none⟩ 1 1 [.int .i64 (k : Int)] rfl rfl ?c1 ?c2 ?c3 ?c4 ?c5 ?_)))
  case c1 =>
    intro q u hq
    match q, hq with
    | 0, hq => simp at hq; subst hq; simp [Addr.add, go_sem]
    | q + 1, hq => simp at hq
  case c2 => first | (intro u hu; simp at hu; subst hu; rfl) | rfl
  case c3 => unfold maxLen; omega
  case c4 => omega
  case c5 => first | omega | (simp; omega)
  intro v' w3 hown' hgrow hnil
  clear hnil
  have hw1 : Below w.heap.size w (w.alloc (.cells #[.int .i64 (k : Int)] 3)) := (Below.refl _ _).alloc (Nat.le_refl _) _
  have hS1 : StackAt (w.alloc (.cells #[.int .i64 (k : Int)] 3)) S base v st := HS.out.below hw1
  have hSr : (w.alloc (.cells #[.int .i64 (k : Int)] 3)).heap[S]? = w3.heap[S]? := by
    refine (hgrow.block S hS1.lt (fun e => ?_)).symm
    obtain ⟨cur, hc⟩ := heap_of_row hS1.row S e.symm
    rw [hS1.blk] at hc
    simp at hc
  have blk3 : w3.heap[S]? = some (.cells #[v] 167 (0, 0)) := hSr.symm.trans hS1.blk
  have c3 : w3.cell? ⟨S, 0, none⟩ = some v := by simp [World.cell?, blk3]
  have f3 : w3.frozen? ⟨S, 0, none⟩ = false := by simp [World.frozen?, blk3]
  have hrow3 : w3.ownsRow base 3 1 v' (st ++ [k]).length (intsL (st ++ [k])) := by
    rw [intsL_add, List.length_append]
    exact hown'
  have HB3 : Hid (w3.heap[S]? = some (.cells #[v] 167 (0, 0))) := blk3
  have HR3 : Hid (w3.ownsRow base 3 1 v' (st ++ [k]).length (intsL (st ++ [k]))) := hrow3
  have HG : Hid ((w.alloc (.cells #[.int .i64 (k : Int)] 3)).grownBy w3 v.ownBlock) := hgrow
  have HW1 : Hid (Below w.heap.size w (w.alloc (.cells #[.int .i64 (k : Int)] 3))) := hw1
  obtain ⟨a', n', cap', hv'⟩ : ∃ a' n' cap', v' = .slice a' n' cap' := by
    obtain ⟨_, h2 | ⟨g, cp, cur, hv, _⟩⟩ := hrow3
    · exact ⟨none, 0, 0, h2.1⟩
    · exact ⟨_, _, _, hv⟩
  subst hv'
  clear hown' hgrow hS1 hSr blk3 hrow3 hw1 c0 f0
  go_wp2
  have hr : w3.ownsRow base 3 1 (.slice a' n' cap') (st ++ [k]).length (intsL (st ++ [k])) := HR3.out
  have h4 : StackAt (w3.setCell ⟨S, 0, none⟩ (.slice a' n' cap')) S base (.slice a' n' cap') (st ++ [k]) := by
    refine ⟨?_, ownsRow_of hr fun g hg => ?_⟩
    · have := heap_setCell_same w3 S 0 #[v] 167 (.slice a' n' cap') HB3.out
      simpa using this
    · refine Below.heap_setCell _ _ _ _ (fun e => ?_)
      obtain ⟨cur, hc⟩ := heap_of_row hr g hg
      simp at e
      subst e
      rw [HB3.out] at hc
      simp at hc
  refine bodyPost_end (v := .tuple #[]) (by simp [results, Tryz.results128, go_sem]) rfl ⟨⟨_, rfl⟩, ⟨_, h4⟩, ?_⟩
  have hg := HG.out
  have hw := HW1.out
  exact ⟨hg.os.trans hw.os, hg.tape.trans hw.tape, hg.output.trans hw.output, Nat.le_trans hw.size (Nat.le_trans hg.size (by simp [World.setCell])), fun j hj hS hr => (Below.heap_setCell _ _ _ _ (by simpa using hS)).trans ((hg.block j (Nat.lt_of_lt_of_le hj hw.size) hr).trans (hw.block j hj))⟩

set_option maxHeartbeats 1000000 in
theorem top_none (S base : Nat) (v : Value) (w : World) (h : StackAt w S base v []) :
    Calls Tryz.prog 129 #[.pointer (some ⟨S, 0, none⟩)] w fun e w' => e = .returned (.tuple #[.int .i64 0, .bool false]) ∧ Below w.heap.size w w' := by
  have c0 := h.cell
  obtain ⟨a, cap, hv⟩ : ∃ a cap, v = .slice a 0 cap := by
    obtain ⟨_, h2 | ⟨g, cp, cur, rfl, _⟩⟩ := h.row
    · exact ⟨none, 0, h2.1⟩
    · exact ⟨_, _, rfl⟩
  subst hv
  clear h
  go_enter Tryz.func129, Tryz.ntmps129
  go_wp2
  refine bodyPost_ret (v := .tuple #[.int .i64 0, .bool false]) (by simp [results, Tryz.results129, go_sem]) rfl ⟨rfl, by (repeat (first | exact Below.refl _ _ | assumption | refine Below.drew ?_ | refine bl_alloc ?_ _ | refine bl_then ?_ (by assumption) | refine Below.setCell ?_ (by first | omega | (simp; done) | (simp; omega)) _ | refine bl_store ?_ ?_ _ _))⟩

/-- A stack that is not empty: where its top lies. -/
theorem StackAt.last {w : World} {S base k : Nat} {v : Value} {st : List Nat} (h : StackAt w S base v (st ++ [k])) :
    ∃ g cap, v = .slice (some ⟨g, 0, none⟩) (st.length + 1) cap ∧ st.length + 1 ≤ cap ∧ w.cell? ⟨g, st.length, none⟩ = some (.int .i64 (k : Int)) := by
  have hr := h.row
  obtain ⟨h1, h2 | ⟨g, cp, cur, hv, hg, hh, hkc, hcm, hcs, htk⟩⟩ := h.row
  · have := h2.2; simp at this
  · refine ⟨g, cp, by rw [hv]; simp, by simpa using hkc, ?_⟩
    rw [hv] at hr
    rw [hr.cellAt st.length (by simp)]
    simp [intsL]

set_option maxHeartbeats 1000000 in
theorem top_some (S base k : Nat) (v : Value) (st : List Nat) (w : World) (h : StackAt w S base v (st ++ [k])) (hl : st.length ≤ 100) :
    Calls Tryz.prog 129 #[.pointer (some ⟨S, 0, none⟩)] w fun e w' => e = .returned (.tuple #[.int .i64 (k : Int), .bool true]) ∧ Below w.heap.size w w' := by
  obtain ⟨g, cap, rfl, hcap, hk⟩ := h.last
  have c0 : ∀ W', Below w.heap.size w W' → W'.cell? ⟨S, 0, none⟩ = some (.slice (some ⟨g, 0, none⟩) (st.length + 1) cap) := fun W' hb => bl_cell hb h.cell
  have c1 : ∀ W', Below w.heap.size w W' → W'.cell? ⟨g, st.length, none⟩ = some (.int .i64 (k : Int)) := fun W' hb => bl_cell hb hk
  have hr : Below w.heap.size w w := Below.refl _ _
  have e0 := h.cell
  clear h hk
  obtain ⟨L, hL⟩ : ∃ L, L = st.length + 1 := ⟨_, rfl⟩
  generalize st.length = M at *
  rw [← hL] at c0 e0 hcap
  have hw : IntKind.i64.wrap ((L : Int) - 1) = (M : Int) := by
    have e : (L : Int) - 1 = (M : Int) := by omega
    rw [e]
    exact IntWalk.i64_in _ (by omega)
  have hMl : (M : Int) < (L : Int) := by omega
  have hM0 : (0 : Int) ≤ (M : Int) := by omega
  have hL0 : ((L : Int) == 0) = false := by simp; omega
  clear hL
  go_enter Tryz.func129, Tryz.ntmps129
  go_wp2_with fail
  go_region_held3 (fun W' => Below w.heap.size w W') ((repeat (first | exact Below.refl _ _ | assumption | refine Below.drew ?_ | refine bl_alloc ?_ _ | refine bl_then ?_ (by assumption) | refine Below.setCell ?_ (by first | omega | (simp; done) | (simp; omega)) _ | refine bl_store ?_ ?_ _ _))) (fail)
  go_wp2_with fail
  refine bodyPost_ret (v := .tuple #[.int .i64 (k : Int), .bool true]) (by simp [results, Tryz.results129, go_sem]) rfl ⟨rfl, by assumption⟩

set_option maxHeartbeats 1000000 in
theorem drop_any (S base k : Nat) (v : Value) (st : List Nat) (w : World) (h : StackAt w S base v (st ++ [k])) (hl : st.length ≤ 100) :
    Calls Tryz.prog 132 #[.pointer (some ⟨S, 0, none⟩)] w fun e w' => (∃ u, e = .returned u) ∧ (∃ v', StackAt w' S base v' st) ∧ Kept2 S v.ownBlock w w' := by
  obtain ⟨g, cap, hv, hcap, hk⟩ := h.last
  have HS : Hid (StackAt w S base v (st ++ [k])) := h
  have c0 := h.cell
  have f0 := h.frozen
  subst hv
  clear h hk
  obtain ⟨L, hL⟩ : ∃ L, L = st.length + 1 := ⟨_, rfl⟩
  obtain ⟨M, hM⟩ : ∃ M, M = st.length := ⟨_, rfl⟩
  rw [← hM] at hL hcap hl
  rw [← hL] at hcap
  have HM : Hid (M = st.length) := hM
  have HL : Hid (L = M + 1) := hL
  rw [← hM, ← hL] at c0
  have hw : IntKind.i64.wrap ((L : Int) - 1) = (M : Int) := by
    have e : (L : Int) - 1 = (M : Int) := by omega
    rw [e]
    exact IntWalk.i64_in _ (by omega)
  have hMc : (M : Int) ≤ (cap : Int) := by omega
  have hM0 : (0 : Int) ≤ (M : Int) := by omega
  clear hL hM
  go_enter Tryz.func132, Tryz.ntmps132
  refine wp_region_noPanic ?_
  refine wp_region_L (S := fun W' => W' = w.drew) (z := 14) (by kernel_rfl) ?_
  have hSt : (fun W' => W' = w.drew) w.drew := rfl
  refine wpAnyL_take (i := 0) (v := ?v0) rfl (by kernel_rfl) (by kernel_rfl) (by kernel_rfl) (by kernel_rfl) (fun _ _ _ h => h) (Or.inl ⟨by rfl, ?hy0⟩) (by rfl) ?_
  case hy0 => (intro w hSw; go_simp <;> with_reducible rfl)
  try simp only [Act.put, List.setIfInBounds_toArray, List.set_cons_zero, List.set_cons_succ]
  refine wpAnyL_take (i := 1) (v := ?v1) rfl (by kernel_rfl) (by kernel_rfl) (by kernel_rfl) (by kernel_rfl) (fun _ _ _ h => h) (Or.inl ⟨by rfl, ?hy1⟩) (by rfl) ?_
  case hy1 => (intro w hSw; go_simp <;> with_reducible rfl)
  try simp only [Act.put, List.setIfInBounds_toArray, List.set_cons_zero, List.set_cons_succ]
  refine wpAnyL_take (i := 2) (v := ?v2) rfl (by kernel_rfl) (by kernel_rfl) (by kernel_rfl) (by kernel_rfl) (fun _ _ _ h => h) (Or.inl ⟨by rfl, ?hy2⟩) (by rfl) ?_
  case hy2 => (intro w hSw; go_simp <;> with_reducible rfl)
  try simp only [Act.put, List.setIfInBounds_toArray, List.set_cons_zero, List.set_cons_succ]
  refine wpAnyL_take (i := 3) (v := ?v3) rfl (by kernel_rfl) (by kernel_rfl) (by kernel_rfl) (by kernel_rfl) (fun _ _ _ h => h) (Or.inl ⟨by rfl, ?hy3⟩) (by rfl) ?_
  case hy3 => (intro w hSw; go_simp <;> with_reducible rfl)
  try simp only [Act.put, List.setIfInBounds_toArray, List.set_cons_zero, List.set_cons_succ]
  refine wpAnyL_take (i := 4) (v := ?v4) rfl (by kernel_rfl) (by kernel_rfl) (by kernel_rfl) (by kernel_rfl) (fun _ _ _ h => h) (Or.inl ⟨by rfl, ?hy4⟩) (by rfl) ?_
  case hy4 => (intro w hSw; go_simp <;> with_reducible rfl)
  try simp only [Act.put, List.setIfInBounds_toArray, List.set_cons_zero, List.set_cons_succ]
  refine wpAnyL_take (i := 5) (v := ?v5) rfl (by kernel_rfl) (by kernel_rfl) (by kernel_rfl) (by kernel_rfl) (fun _ _ _ h => h) (Or.inl ⟨by rfl, ?hy5⟩) (by rfl) ?_
  case hy5 => (intro w hSw; go_simp <;> with_reducible rfl)
  try simp only [Act.put, List.setIfInBounds_toArray, List.set_cons_zero, List.set_cons_succ]
  refine wpAnyL_take (i := 6) (v := ?v6) rfl (by kernel_rfl) (by kernel_rfl) (by kernel_rfl) (by kernel_rfl) (fun _ _ _ h => h) (Or.inl ⟨by rfl, ?hy6⟩) (by rfl) ?_
  case hy6 => (intro w hSw; go_simp <;> with_reducible rfl)
  try simp only [Act.put, List.setIfInBounds_toArray, List.set_cons_zero, List.set_cons_succ]
  refine wpAnyL_take (i := 7) (v := ?v7) rfl (by kernel_rfl) (by kernel_rfl) (by kernel_rfl) (by kernel_rfl) (fun _ _ _ h => h) (Or.inl ⟨by rfl, ?hy7⟩) (by rfl) ?_
  case hy7 => (intro w hSw; go_simp <;> with_reducible rfl)
  try simp only [Act.put, List.setIfInBounds_toArray, List.set_cons_zero, List.set_cons_succ]
  refine wpAnyL_take (i := 8) (v := ?v8) rfl (by kernel_rfl) (by kernel_rfl) (by kernel_rfl) (by kernel_rfl) (fun _ _ _ h => h) (Or.inl ⟨by rfl, ?hy8⟩) (by rfl) ?_
  case hy8 => (intro w hSw; go_simp <;> with_reducible rfl)
  try simp only [Act.put, List.setIfInBounds_toArray, List.set_cons_zero, List.set_cons_succ]
  refine wpAnyL_take (i := 9) (v := ?v9) rfl (by kernel_rfl) (by kernel_rfl) (by kernel_rfl) (by kernel_rfl) (fun _ _ _ h => h) (Or.inl ⟨by rfl, ?hy9⟩) (by rfl) ?_
  case hy9 => (intro w hSw; go_simp <;> with_reducible rfl)
  try simp only [Act.put, List.setIfInBounds_toArray, List.set_cons_zero, List.set_cons_succ]
  refine wpAnyL_take (i := 10) (v := ?v10) rfl (by kernel_rfl) (by kernel_rfl) (by kernel_rfl) (by kernel_rfl) (fun _ _ _ h => h) (Or.inl ⟨by rfl, ?hy10⟩) (by rfl) ?_
  case hy10 => (intro w hSw; go_simp <;> with_reducible rfl)
  try simp only [Act.put, List.setIfInBounds_toArray, List.set_cons_zero, List.set_cons_succ]
  refine wpAnyL_take (i := 11) (v := ?v11) rfl (by kernel_rfl) (by kernel_rfl) (by kernel_rfl) (by kernel_rfl) (fun _ _ _ h => h) (Or.inl ⟨by rfl, ?hy11⟩) (by rfl) ?_
  case hy11 => (intro w hSw; go_simp <;> with_reducible rfl)
  try simp only [Act.put, List.setIfInBounds_toArray, List.set_cons_zero, List.set_cons_succ]
  refine wpAnyL_one (i := 12) (by kernel_rfl) rfl (fun K hK => ?_)
  go_simp
  refine hK.out _ _ (fun _ => by rfl) ?_
  clear hK K
  try simp only [Act.put, List.setIfInBounds_toArray, List.set_cons_zero, List.set_cons_succ]
  refine wpAnyL_take (i := 13) (v := ?v13) rfl (by kernel_rfl) (by kernel_rfl) (by kernel_rfl) (by kernel_rfl) (fun _ _ _ h => h) (Or.inl ⟨by rfl, ?hy13⟩) (by rfl) ?_
  case hy13 => (intro w hSw; go_simp <;> with_reducible rfl)
  try simp only [Act.put, List.setIfInBounds_toArray, List.set_cons_zero, List.set_cons_succ]
  refine wpAnyL_one (i := 14) (by kernel_rfl) rfl (fun K hK => ?_)
  go_simp
  refine hK.out _ _ (fun h => absurd rfl h) ?_
  clear hK K
  try simp only [Act.put, List.setIfInBounds_toArray, List.set_cons_zero, List.set_cons_succ]
  refine wpAnyL_done (by kernel_rfl) ?_ _
  refine NoPanic.normal ?_
  have hT : w.ownsRow base 3 1 (.slice (some ⟨g, 0, none⟩) M cap) st.length (intsL st) := by
    have hr := HS.out.row
    obtain ⟨h1, h2 | ⟨g', cp, cur, hv, hg, hh, hkc, hcm, hcs, htk⟩⟩ := hr
    · cases h2.1
    · injection hv with e1 e2 e3
      injection e1 with e1
      injection e1 with e1
      subst e1 e3
      refine ⟨by simp [intsL], .inr ⟨g, cap, cur, by rw [HM.out], hg, hh, by have := HM.out; have := HL.out; omega, hcm, hcs, ?_⟩⟩
      have : (cur.toList.take ((st ++ [k]).length * 1)).take (st.length * 1) = (intsL (st ++ [k])).take (st.length * 1) := by rw [htk]
      rw [List.take_take] at this
      simp [intsL] at this ⊢
      exact this
  obtain ⟨r1, r2⟩ := stack_set (v' := .slice (some ⟨g, 0, none⟩) M cap) (st' := st) HS.out hT
  refine bodyPost_end (v := .tuple #[]) (by simp [results, Tryz.results132, go_sem]) rfl ⟨⟨_, rfl⟩, ⟨_, ⟨r1.blk, r1.row⟩⟩, ?_⟩
  exact ⟨r2.os, r2.tape, r2.output, r2.size, fun k hk hS _ => r2.block k hk (fun e => hS (by injection e))⟩
end Go.Proofs.YtdohlnnbibnnbaaGreat
