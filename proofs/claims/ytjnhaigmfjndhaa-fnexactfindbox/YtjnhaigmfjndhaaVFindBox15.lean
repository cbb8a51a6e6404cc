/- How many entries there are; all entries as one list. -/
import Derived.Test.YtjnhaigmfjndhaaVFindBox14
namespace Go.Proofs.Ytjnhaigmfjndhaa
open Go.RowKit Go.Shelf
attribute [local go_sem] Oper.semAt_some
set_option linter.unusedSimpArgs false
set_option linter.unusedVariables false
set_option maxRecDepth 100000

theorem KQ.setCell {T Bs : Nat} {A B : World} (h : KQ T Bs A B) {a : Addr} (ha : T ≤ a.block) (hne : a.block ≠ Bs) (u : Value) : KQ T Bs A (B.setCell a u) := ⟨h.1.setCell ha u, (Below.heap_setCell _ _ _ _ (fun e => hne e.symm)).trans h.2⟩

set_option maxHeartbeats 4000000 in
theorem areTooMany_any (p off n cap : Nat) (Q : Nat → Qd) (w : World) (hQ : QsAt w w.heap.size p off n Q) (hn : n ≤ 1048576) (hen : ∀ i, i < n → (Q i).en ≤ 1048576) :
    Calls Try.prog 49 #[.slice (some ⟨p, off, none⟩) n cap] w fun e w' => e = .returned (.bool (decide (24 < (allE Q n).length))) ∧ Below w.heap.size w w' := by
  refine (callsIn_wide (n := 4)).1 ?_
  refine callsIn_of_wp_marks Try.func49 rfl trivial ?_ rfl
  simp only [Try.ntmps49, List.size_toArray, List.length_cons, List.length_nil, Nat.reduceAdd, Nat.reduceSub, Array.replicate_succ, Array.replicate_zero, List.push_toArray, List.append_toArray, List.nil_append, List.cons_append]
  gi_wp2_with (refine ⟨trivial, ?_⟩; gi_at_call 29; refine (callsIn_wide.2 (entriesOf_any _ _ _ _)).mono ?_; rintro e w' ⟨rfl, rfl⟩)
  obtain ⟨W0, hW0⟩ : ∃ W0, (((w.alloc (.cells #[.bool false] 4)).alloc (.cells #[.int .i64 0] 3)).alloc (.cells #[.slice (some ⟨p, off, none⟩) n cap] 32) : World) = W0 := ⟨_, rfl⟩
  have b0 : Boxed W0 w.heap.size 4 (.bool false) := by rw [← hW0]; exact ((Boxed.new w 4 (.bool false)).alloc _).alloc _
  have b1 : Boxed W0 (w.heap.size + 1) 3 (.int .i64 0) := by
    rw [← hW0]
    have := (Boxed.new (w.alloc (.cells #[.bool false] 4)) 3 (.int .i64 0)).alloc (.cells #[.slice (some ⟨p, off, none⟩) n cap] 32)
    simpa using this
  have b2 : Boxed W0 (w.heap.size + 1 + 1) 32 (.slice (some ⟨p, off, none⟩) n cap) := by
    rw [← hW0]
    have := Boxed.new ((w.alloc (.cells #[.bool false] 4)).alloc (.cells #[.int .i64 0] 3)) 32 (.slice (some ⟨p, off, none⟩) n cap)
    simpa using this
  have hB0 : Below w.heap.size w W0 := by rw [← hW0]; (repeat (first | exact Below.refl _ _ | assumption | refine Below.drew ?_ | refine bl_alloc ?_ _ | refine bl_then ?_ (by assumption) | refine Below.setCell ?_ (by first | omega | (simp; done) | (simp; omega)) _ | refine bl_store ?_ ?_ _ _))
  have hsz : W0.heap.size = w.heap.size + 3 := by rw [← hW0]; simp
  rw [hW0]
  clear hW0
  refine wpIn_rangeFunc_ownF rfl (by omega) (gf := 55) (lb := #[.pointer (some ⟨w.heap.size + 1 + 1, 0, none⟩)]) rfl trivial (enters_of Try.func55 (by kernel_rfl) rfl)
    (entriesOf_stops (w.heap.size + 1 + 1) w.heap.size p off n cap Q hn hen W0 (by omega) (by omega) b2.cell (hQ.below hB0)) (fun h k => KQ.trans h k) (KQ.put (by omega) (by omega)) (Below.refl _ _) (fun _ => rfl)
    (fun pre W => (Boxed W (w.heap.size + 1) 3 (.int .i64 (pre.length : Int)) ∧ Boxed W w.heap.size 4 (.bool false) ∧ pre.length ≤ 24) ∧ Below w.heap.size w W)
    (fun c pre W => (c = .ret ∧ 24 < pre.length ∧ Boxed W w.heap.size 4 (.bool true)) ∧ Below w.heap.size w W)
    ?hI ?hIx ?h0 (fun x => { tmps := #[.slice (some ⟨p, off, none⟩) n cap, undef, .pointer (some ⟨w.heap.size, 0, none⟩), .pointer (some ⟨w.heap.size + 1, 0, none⟩), .slice (some ⟨p, off, none⟩) n cap, .func (.func 55) #[] #[.pointer (some ⟨w.heap.size + 1 + 1, 0, none⟩)], .pointer (some ⟨p, off + x.1 * 7, none⟩), entV x.2, undef, undef, undef, undef], defers := [] }) ?assign ?body ?done ?stop
  case hI => exact fun pre A B row hs hg hr => ⟨⟨boxed_own (w.heap.size + 1) 3 (fun (_ : Unit) => Value.int .i64 (pre.length : Int)) () A B row hs.1.1 hg (fun r e => (hr r e).2), boxed_own w.heap.size 4 (fun (_ : Unit) => Value.bool false) () A B row hs.1.2.1 hg (fun r e => (hr r e).2), hs.1.2.2⟩, (ownFrom_below (β := Unit) (Nat.le_refl _) (by omega)) () A B row hs.2 hg hr⟩
  case hIx => exact fun c pre A B row hs hg hr => ⟨⟨hs.1.1, hs.1.2.1, boxed_own w.heap.size 4 (fun (_ : Unit) => Value.bool true) () A B row hs.1.2.2 hg (fun r e => (hr r e).2)⟩, (ownFrom_below (β := Unit) (Nat.le_refl _) (by omega)) () A B row hs.2 hg hr⟩
  case h0 => exact ⟨⟨by simpa using b1, b0, by simp⟩, hB0⟩
  case assign =>
    intro l x W K hK
    gi_wp2
    first | exact hK | simpa [encQ] using hK
  case body =>
    rintro l pre x W ⟨⟨bC, bR, hle⟩, hB⟩ hlt
    have cC := bC.cell
    have fC := bC.frozen
    have cR := bR.cell
    have fR := bR.frozen
    gi_wp2
    · rename_i h24
      exact ⟨(KeepsOthers.setCell _ _ _).trans (KeepsOthers.setCell _ _ _), ⟨rfl, by simp; omega, (bR.other (by omega) _).set _⟩, (hB.setCell (p := ⟨w.heap.size + 1, 0, none⟩) (by simp) _).setCell (p := ⟨w.heap.size, 0, none⟩) (by simp) _⟩
    · rename_i h24
      refine ⟨KeepsOthers.setCell _ _ _, (KQ.refl _ _ _).setCell (by simp) (by simp) _, ⟨?_, bR.other (by omega) _, by simp; omega⟩, hB.setCell (p := ⟨w.heap.size + 1, 0, none⟩) (by simp) _⟩
      have := bC.set (.int .i64 ((pre.length : Int) + 1))
      simpa using this
  case done =>
    rintro D ys W hD rfl ⟨⟨bC, bR, hle⟩, hB⟩ hK
    have cR := bR.cell
    have fR := bR.frozen
    gi_wp2
    have hK' := (KeepsOthers.setCell W ⟨w.heap.size, 0, none⟩ (.bool false)).same D _ hK rfl
    refine ⟨by simp, .inl ⟨_, _, rfl, run_takeDeferred hK', ?_⟩⟩
    have hc5 := cell_kept (World.cell?_setCell_same' W ⟨w.heap.size, 0, none⟩ (.bool false) (by rw [cR]; rfl)) (grownBy_putObj' _ D (.deferred none)) (fun r e => by cases e; exact ⟨_, hK', rfl⟩)
    refine ⟨.bool false, ?_, by rw [decide_eq_false (by omega)], (hB.setCell (p := ⟨w.heap.size, 0, none⟩) (by simp) _).trans (belowK_b (w := w) (Nat.le_refl _) _ D _ _ (by omega) hK' rfl rfl)⟩
    simp [results, Try.f49, go_sem, hc5]
  case stop =>
    rintro D c pre W hD hpre ⟨⟨rfl, hin, bR⟩, hB⟩ hK
    have cR := bR.cell
    gi_wp2
    refine ⟨by simp, .inl ⟨_, _, rfl, run_takeDeferred hK, ?_⟩⟩
    have hc5 := cell_kept cR (grownBy_putObj' _ D (.deferred none)) (fun r e => by cases e; exact ⟨_, hK, rfl⟩)
    refine ⟨.bool true, ?_, by rw [decide_eq_true (Nat.lt_of_lt_of_le hin hpre.length_le)], hB.trans (belowK_b (w := w) (Nat.le_refl _) W D _ _ (by omega) hK rfl rfl)⟩
    simp [results, Try.f49, go_sem, hc5]
end Go.Proofs.Ytjnhaigmfjndhaa
