/- How many entries there are at each depth: the program's way. -/
import Derived.Test.YtkadkpdcjccnbaaQ18
import Derived.Test.YtkadkpdcjccnbaaQ1T
namespace Go.Proofs.Ytkadkpdcjccnbaa
open Go.RowKit Go.Shelf
set_option linter.unusedSimpArgs false
set_option linter.unusedVariables false
set_option maxRecDepth 100000

/-- A block of cells. -/
def IsC (W : World) (M : Nat) : Prop := ∃ arr t fz, W.heap[M]? = some (.cells arr t fz)
theorem IsC.lt {W : World} {M : Nat} (h : IsC W M) : M < W.heap.size := by obtain ⟨arr, t, fz, h⟩ := h; exact lt_of_heap h
theorem IsC.keep {W W' : World} {M : Nat} {row : Option Nat} (h : IsC W M) (hg : W.grownBy W' row) (hr : ∀ r, row = some r → ∃ o : Obj, W.heap[r]? = some o ∧ o.isCells = false) : W'.heap[M]? = W.heap[M]? :=
  hg.block M h.lt (fun e => by
    obtain ⟨o, ho, hc⟩ := hr M e.symm
    obtain ⟨arr, t, fz, h⟩ := h
    rw [h] at ho
    cases ho
    cases hc)
theorem IsC.of {W W' : World} {M : Nat} (h : IsC W M) (e : W'.heap[M]? = W.heap[M]?) : IsC W' M := by obtain ⟨arr, t, fz, h⟩ := h; exact ⟨arr, t, fz, e.trans h⟩
theorem IsC.set {W : World} {M : Nat} (h : IsC W M) (p o : Nat) (v : Value) : IsC (W.setCell ⟨p, o, none⟩ v) M := by
  obtain ⟨arr, t, fz, h⟩ := h
  by_cases e : p = M
  · subst e
    refine ⟨arr.setIfInBounds o v, t, fz, ?_⟩
    obtain ⟨hlt, hk⟩ := Array.getElem?_eq_some_iff.1 h
    show (W.heap.modify p _)[p]? = _
    rw [Array.getElem?_eq_getElem (by rw [Array.size_modify]; exact hlt), Array.getElem_modify_self, hk]
    rfl
  · exact ⟨arr, t, fz, (Below.heap_setCell _ _ _ _ (fun h => e h.symm)).trans h⟩
theorem CntAt.of {W W' : World} {r n : Nat} {f : Nat → Nat} (h : CntAt W r n f) (e : W'.heap[r]? = W.heap[r]?) : CntAt W' r n f := fun j hj =>
  ⟨(World.cell?_of_block (w := W) (a := ⟨r, j, none⟩) e).trans (h j hj).1, (World.frozen?_of_block (w := W) (a := ⟨r, j, none⟩) e).trans (h j hj).2⟩
theorem There.of {W W' : World} {r n : Nat} (h : There W r n) (e : W'.heap[r]? = W.heap[r]?) : There W' r n := fun o ho => by
  obtain ⟨v, hv⟩ := (h o ho).1
  exact ⟨⟨v, (World.cell?_of_block (w := W) (a := ⟨r, o, none⟩) e).trans hv⟩, (World.frozen?_of_block (w := W) (a := ⟨r, o, none⟩) e).trans (h o ho).2⟩
/-- The state of the count: block M the counts, block M + 1 their variable, block r the answer. -/
def CState (w : World) (M n : Nat) (Q : Nat → Qd) (pre : List (QE n)) (W : World) : Prop :=
  (CntAt W M 5 (cntL Q (pre.map (·.1))) ∧ IsC W M) ∧ Boxed W (M + 1) 51 (.slice (some ⟨M, 0, none⟩) 5 5) ∧ (There W w.heap.size 2 ∧ IsC W w.heap.size) ∧ Below w.heap.size w W
theorem CState.own (w : World) (M n B : Nat) (Q : Nat → Qd) (hB : w.heap.size ≤ B) : OwnFrom B (CState w M n Q) := fun pre W W' row h hg hr => by
  obtain ⟨⟨h1, h2⟩, h3, ⟨h4, h5⟩, h6⟩ := h
  have k2 := h2.keep hg (fun r e => (hr r e).2)
  have k5 := h5.keep hg (fun r e => (hr r e).2)
  exact ⟨⟨h1.of k2, h2.of k2⟩, boxed_own (M + 1) 51 (fun (_ : Unit) => Value.slice (some ⟨M, 0, none⟩) 5 5) () W W' row h3 hg (fun r e => (hr r e).2), ⟨h4.of k5, h5.of k5⟩, (ownFrom_below (β := Unit) (Nat.le_refl _) hB) () W W' row h6 hg hr⟩
theorem CState.step {w W : World} {M n dd : Nat} {Q : Nat → Qd} {pre : List (QE n)} {x : QE n} (h : CState w M n Q pre W) (hM : w.heap.size < M) (hd : (Q x.1.1).dp = (dd : Int)) (hd5 : dd < 5) :
    KeepsOthers W (W.drew.setCell ⟨M, dd, none⟩ (.int .i64 ((cntL Q (pre.map (·.1)) dd : Int) + 1))) ∧ KQ w.heap.size (M + 1 + 1) W (W.drew.setCell ⟨M, dd, none⟩ (.int .i64 ((cntL Q (pre.map (·.1)) dd : Int) + 1))) ∧ CState w M n Q (pre ++ [x]) (W.drew.setCell ⟨M, dd, none⟩ (.int .i64 ((cntL Q (pre.map (·.1)) dd : Int) + 1))) := by
  obtain ⟨⟨h1, h2⟩, h3, ⟨h4, h5⟩, h6⟩ := h
  have h1' : CntAt W.drew M 5 (cntL Q (pre.map (·.1))) := h1
  have h2' : IsC W.drew M := h2
  have h3' : Boxed W.drew (M + 1) 51 (.slice (some ⟨M, 0, none⟩) 5 5) := h3
  have h4' : There W.drew w.heap.size 2 := h4
  have h5' : IsC W.drew w.heap.size := h5
  have h6' : Below w.heap.size w W.drew := h6.drew
  have ko := KeepsOthers.setCell W.drew ⟨M, dd, none⟩ (.int .i64 ((cntL Q (pre.map (·.1)) dd : Int) + 1))
  have kq := (KQ.refl w.heap.size (M + 1 + 1) W.drew).setCell (a := ⟨M, dd, none⟩) (show w.heap.size ≤ M by omega) (show M ≠ M + 1 + 1 by omega) (.int .i64 ((cntL Q (pre.map (·.1)) dd : Int) + 1))
  refine ⟨⟨ko.size, ko.same⟩, ⟨⟨kq.1.os, kq.1.tape, kq.1.output, kq.1.size, kq.1.block⟩, kq.2⟩, ⟨h1'.step hd5 (fun j _ => by rw [List.map_append]; exact cntL_one Q _ x.1 j dd hd), h2'.set _ _ _⟩, ?_, ⟨h4'.out' (by omega), h5'.set _ _ _⟩, h6'.setCell (p := ⟨M, dd, none⟩) (show w.heap.size ≤ M by omega) _⟩
  exact (Below.heap_setCell _ _ _ _ (show M + 1 ≠ M by omega)).trans h3'
set_option maxHeartbeats 8000000 in
theorem impl_CountQuads_ok (p off n cap : Nat) (Q : Nat → Qd) (w : World) (hQ : QsAt w w.heap.size p off n Q) (hn : n ≤ 1048576) (hcap : n ≤ cap) (hen : ∀ i, i < n → (Q i).en ≤ 1048576) (hall : (allE Q n).length ≤ 1048576) (hc : quadsC Q n = 0) :
    Calls Try.prog 35 #[.slice (some ⟨p, off, none⟩) n cap] w fun e w' => ∃ v, e = .returned (.agg #[.int .i64 0, v]) ∧ OwnN w' w.heap.size v 5 (cqZ Q n) ∧ Below w.heap.size w w' := by
  obtain ⟨⟨hn1, hn2, h24⟩, hdp⟩ := quadsC_ok hc
  have HQF : Hid (∀ W, Below w.heap.size w W → Calls Try.prog 32 #[.slice (some ⟨p, off, none⟩) n cap] W fun e w' => e = .returned (.int .i64 0) ∧ Below W.heap.size W w') := fun W hb => hc ▸ impl_QuadsFault_any p off n cap Q W (hQ.now hb) hn hcap hen hall
  have hmk : ∀ w : World, (Instr.makeSlice 51 (.int .i64 5) (.int .i64 5)).run Try.prog w = .ok (.slice (some ⟨w.heap.size, 0, none⟩) 5 5) (w.alloc (.cells (madeCells #[.int .i64 0] 5) 2)) := fun w => by
    obtain ⟨i, hi, hz, hs, hb⟩ := info_parts info_i64
    have hr := run_make (P := Try.prog) w 51 2 i _ Try.underlying51 hi hz .i64 .i64 5 5 (by omega) (Int.le_refl _) (by rw [hb]; omega) (by omega)
    simpa [hs, Value.cells] using hr
  refine (callsIn_wide (n := 4)).1 ?_
  refine callsIn_of_wp_marks Try.func35 rfl trivial ?_ rfl
  simp only [Try.ntmps35, List.size_toArray, List.length_cons, List.length_nil, Nat.reduceAdd, Nat.reduceSub, Array.replicate_succ, Array.replicate_zero, List.push_toArray, List.append_toArray, List.nil_append, List.cons_append]
  gi_wp2_with (refine ⟨trivial, ?_⟩; gi_at_call 32; refine (callsIn_wide.2 (HQF.out _ (by (repeat (first | exact Below.refl _ _ | assumption | refine Below.drew ?_ | refine bl_alloc ?_ _ | refine bl_then ?_ (by assumption) | refine Below.setCell ?_ (by first | omega | (simp; done) | (simp; omega)) _ | refine bl_store ?_ ?_ _ _))))).mono ?_; rintro e w1 ⟨rfl, hb1⟩)
  have hB1 : Below w.heap.size w w1 := bl_then (by (repeat (first | exact Below.refl _ _ | assumption | refine Below.drew ?_ | refine bl_alloc ?_ _ | refine bl_then ?_ (by assumption) | refine Below.setCell ?_ (by first | omega | (simp; done) | (simp; omega)) _ | refine bl_store ?_ ?_ _ _))) hb1
  have hl1 : w.heap.size < w1.heap.size := Nat.lt_of_lt_of_le (by simp) hb1.size
  have hr1 : There w1 w.heap.size 2 ∧ IsC w1 w.heap.size := by
    have e := hb1.block w.heap.size (by simp)
    have hn := World.alloc_heap_new w (.cells #[.int .i64 0, .slice none 0 0] 53)
    refine ⟨?_, (IsC.of (W := w.alloc (.cells #[.int .i64 0, .slice none 0 0] 53)) ⟨_, _, _, hn⟩ e)⟩
    refine There.of (W := w.alloc (.cells #[.int .i64 0, .slice none 0 0] 53)) (fun o ho => ?_) e
    match o, ho with
    | 0, _ => exact ⟨⟨_, by simp [go_sem]; rfl⟩, by simp [go_sem]⟩
    | 1, _ => exact ⟨⟨_, by simp [go_sem]; rfl⟩, by simp [go_sem]⟩
  gi_wp2_with (refine ⟨trivial, ?_⟩; gi_at_call 87; refine (callsIn_wide.2 (entriesOf_any _ _ _ _)).mono ?_; rintro e w' ⟨rfl, rfl⟩)
  obtain ⟨M, hM⟩ : ∃ M, w1.heap.size = M := ⟨_, rfl⟩
  obtain ⟨W0, hW0⟩ : ∃ W0, (((w1.alloc (.cells (madeCells #[.int .i64 0] 5) 2)).alloc (.cells #[.slice (some ⟨w1.heap.size, 0, none⟩) 5 5] 51)).alloc (.cells #[.slice (some ⟨p, off, none⟩) n cap] 47) : World) = W0 := ⟨_, rfl⟩
  have hb10 : Below w1.heap.size w1 W0 := by rw [← hW0]; (repeat (first | exact Below.refl _ _ | assumption | refine Below.drew ?_ | refine bl_alloc ?_ _ | refine bl_then ?_ (by assumption) | refine Below.setCell ?_ (by first | omega | (simp; done) | (simp; omega)) _ | refine bl_store ?_ ?_ _ _))
  have b2 : Boxed W0 (M + 1 + 1) 47 (.slice (some ⟨p, off, none⟩) n cap) := by
    rw [← hW0, ← hM]
    have := Boxed.new ((w1.alloc (.cells (madeCells #[.int .i64 0] 5) 2)).alloc (.cells #[.slice (some ⟨w1.heap.size, 0, none⟩) 5 5] 51)) 47 (.slice (some ⟨p, off, none⟩) n cap)
    simpa using this
  have b1 : Boxed W0 (M + 1) 51 (.slice (some ⟨M, 0, none⟩) 5 5) := by
    rw [← hW0, ← hM]
    have := (Boxed.new (w1.alloc (.cells (madeCells #[.int .i64 0] 5) 2)) 51 (.slice (some ⟨w1.heap.size, 0, none⟩) 5 5)).alloc (.cells #[.slice (some ⟨p, off, none⟩) n cap] 47)
    simpa using this
  have eM : W0.heap[M]? = (w1.alloc (.cells (madeCells #[.int .i64 0] 5) 2)).heap[M]? := by
    rw [← hW0, ← hM]
    exact (Below.heap_alloc _ _ _ (by simp; omega)).trans (Below.heap_alloc _ _ _ (by simp))
  have cM : CntAt W0 M 5 (cntL Q (List.map (·.1) ([] : List (QE n)))) := by
    refine CntAt.of ?_ eM
    rw [← hM]
    exact cnt_made 5 w1 2
  have iM : IsC W0 M := IsC.of (W := w1.alloc (.cells (madeCells #[.int .i64 0] 5) 2)) (by rw [← hM]; exact ⟨_, _, _, World.alloc_heap_new w1 _⟩) eM
  have hsz : W0.heap.size = M + 3 := by rw [← hW0, ← hM]; simp
  have st0 : CState w M n Q [] W0 := ⟨⟨cM, iM⟩, b1, ⟨hr1.1.of (hb10.block _ hl1), hr1.2.of (hb10.block _ hl1)⟩, bl_then hB1 hb10⟩
  rw [hW0]
  rw [hM] at hl1 ⊢
  clear hW0 cM iM eM b1 hr1 hb10
  refine wpIn_rangeFunc_ownF rfl (by omega) (gf := 126) (lb := #[.pointer (some ⟨M + 1 + 1, 0, none⟩)]) rfl trivial (enters_of Try.func126 (by kernel_rfl) rfl)
    (entriesOf_stopsT (M + 1 + 1) w.heap.size p off n cap Q hn hen W0 (by omega) (by omega) b2.cell (hQ.below st0.2.2.2)) (fun h k => KQ.trans h k) (KQ.put (by omega) (by omega)) (Below.refl _ _) (fun _ => rfl)
    (fun pre W => CState w M n Q pre W) (fun c pre W => False)
    ?hI ?hIx ?h0 (fun x => { tmps := #[.slice (some ⟨p, off, none⟩) n cap, undef, .pointer (some ⟨w.heap.size, 0, none⟩), .int .i64 0, .pointer (some ⟨M + 1, 0, none⟩), .pointer (some ⟨p, off + x.1.1 * 7, none⟩), .slice (some ⟨p, off, none⟩) n cap, .int .i64 0, .int .i64 0, .bool false, undef, undef, .slice (some ⟨M, 0, none⟩) 5 5, .slice (some ⟨p, off, none⟩) n cap, .func (.func 126) #[] #[.pointer (some ⟨M + 1 + 1, 0, none⟩)], .pointer (some ⟨p, off + x.1.1 * 7, none⟩), entV x.1.2, undef, undef, undef, undef, undef, undef, undef, undef, undef, undef, undef], defers := [] }) ?assign ?body ?done ?stop
  case hI => exact CState.own w M n _ Q (by omega)
  case hIx => exact fun c pre A B row hs _ _ => hs.elim
  case h0 => exact st0
  case assign =>
    intro l x W K hK
    simp only [encQ] at *
    have hsem : ∀ (ρ : Operand → Value) (o : Oper), (∀ c, o.op ≠ .defer c) → Oper.semAt (some l) ρ o = execOp ρ o := fun ρ o h => Oper.semAt_some l ρ o h
    gi_wp2
    exact hK
  case body =>
    rintro l pre x W hst hlt
    obtain ⟨⟨hC, hIC⟩, bC, ⟨hT, hIT⟩, hB⟩ := hst
    obtain ⟨dd, hd, hd5⟩ := hdp x.1.1 x.2
    have q4 := ((hQ.below hB).2 x.1.1 x.2).1.2.2.2.2.1
    rw [hd] at q4
    obtain ⟨x0, x1⟩ := hC dd hd5
    have cC := bC.cell
    have HST : Hid (KeepsOthers W (W.drew.setCell ⟨M, dd, none⟩ (.int .i64 ((cntL Q (pre.map (·.1)) dd : Int) + 1))) ∧ KQ w.heap.size (M + 1 + 1) W (W.drew.setCell ⟨M, dd, none⟩ (.int .i64 ((cntL Q (pre.map (·.1)) dd : Int) + 1))) ∧ CState w M n Q (pre ++ [x]) (W.drew.setCell ⟨M, dd, none⟩ (.int .i64 ((cntL Q (pre.map (·.1)) dd : Int) + 1)))) := CState.step ⟨⟨hC, hIC⟩, bC, ⟨hT, hIT⟩, hB⟩ hl1 hd hd5
    have hle : cntL Q (pre.map (·.1)) dd ≤ 24 := by have := cntL_le Q (pre.map (·.1)) dd; simp at this; omega
    have hd1 : (dd : Int) < 5 := by omega
    have hd0 : (0 : Int) ≤ (dd : Int) := by omega
    generalize cntL Q (pre.map (·.1)) dd = C at *
    clear hd
    have hwr : IntKind.i64.wrap ((C : Int) + 1) = (C : Int) + 1 := IntWalk.i64_in _ (by omega)
    have hmo : Try.prog.follows .mixedOrders = true := by kernel_rfl
    have hsem : ∀ (ρ : Operand → Value) (o : Oper), (∀ c, o.op ≠ .defer c) → Oper.semAt (some l) ρ o = execOp ρ o := fun ρ o h => Oper.semAt_some l ρ o h
    gi_wp2
    gi_region_elder_o
    all_goals try gi_wp2
    all_goals exact HST.out
  case done =>
    rintro D ys W hD hys ⟨⟨hC, hIC⟩, bC, ⟨hT, hIT⟩, hB⟩ hK
    rw [hys] at hC
    have cC := bC.cell
    have c0 := hT.cell 0 (by omega)
    have c1 := hT.cell 1 (by omega)
    have f0 := (hT 0 (by omega)).2
    have f1 := (hT 1 (by omega)).2
    gi_wp2
    obtain ⟨Y, hY⟩ : ∃ Y, (W.setCell ⟨w.heap.size, 0, none⟩ (.int .i64 0)).setCell ⟨w.heap.size, 1, none⟩ (.slice (some ⟨M, 0, none⟩) 5 5) = Y := ⟨_, rfl⟩
    have hK' : Y.heap[D]? = some (Obj.deferred (some [])) := by rw [← hY]; exact ((KeepsOthers.setCell W ⟨w.heap.size, 0, none⟩ (.int .i64 0)).trans (KeepsOthers.setCell _ ⟨w.heap.size, 1, none⟩ _)).same D _ hK rfl
    have s0 : Y.cell? ⟨w.heap.size, 0, none⟩ = some (.int .i64 0) := by rw [← hY]; exact set2_0 (by rw [c0]; rfl)
    have s1 : Y.cell? ⟨w.heap.size, 1, none⟩ = some (.slice (some ⟨M, 0, none⟩) 5 5) := by rw [← hY]; exact set2_1 (by rw [c1]; rfl)
    have hBY : Below w.heap.size w Y := by rw [← hY]; exact (hB.setCell (p := ⟨w.heap.size, 0, none⟩) (Nat.le_refl _) _).setCell (p := ⟨w.heap.size, 1, none⟩) (Nat.le_refl _) _
    have eY : Y.heap[M]? = W.heap[M]? := by rw [← hY]; exact (Below.heap_setCell _ _ _ _ (show M ≠ w.heap.size by omega)).trans (Below.heap_setCell _ _ _ _ (show M ≠ w.heap.size by omega))
    have hCY : CntAt Y M 5 (cntL Q (allE Q n)) := hC.of eY
    have hIY : IsC Y M := hIC.of eY
    have hlY : M < Y.heap.size := hIY.lt
    rw [hY]
    clear hY
    refine ⟨by simp, .inl ⟨_, _, rfl, run_takeDeferred hK', ?_⟩⟩
    have hg := grownBy_putObj' Y D (.deferred none)
    have g0 := cell_kept s0 hg (fun r e => by cases e; exact ⟨_, hK', rfl⟩)
    have g1 := cell_kept s1 hg (fun r e => by cases e; exact ⟨_, hK', rfl⟩)
    have eP := hIY.keep hg (fun r e => by cases e; exact ⟨_, hK', rfl⟩)
    refine ⟨.agg #[.int .i64 0, .slice (some ⟨M, 0, none⟩) 5 5], by simp [results, Try.f35, go_sem, g0, g1], _, rfl, ?_, hBY.trans (belowK_b (w := w) (Nat.le_refl _) Y D _ _ (by omega) hK' rfl rfl)⟩
    exact ⟨_, 5, rfl, Nat.le_refl _, .inr ⟨M, rfl, by omega, Nat.lt_of_lt_of_le hlY hg.size, (hCY.of eP).ns, (hCY.of eP).there⟩⟩
  case stop =>
    rintro D c pre W _ _ h _
    exact h.elim
end Go.Proofs.Ytkadkpdcjccnbaa
