/- All entries as one list. -/
import Derived.Test.YtjnhaigmfjndhaaVFindBox15
namespace Go.Proofs.Ytjnhaigmfjndhaa
open Go.RowKit Go.Shelf
attribute [local go_sem] Oper.semAt_some
set_option linter.unusedSimpArgs false
set_option linter.unusedVariables false
set_option maxRecDepth 100000

def entCs (e : Ent) : List Value := [.int .i64 e.id, .int .i64 e.a, .int .i64 e.b, .int .i64 e.c, .int .i64 e.d]
def entsCs (es : List Ent) : List Value := es.flatMap entCs
theorem entsCs_length (es : List Ent) : (entsCs es).length = es.length * 5 := by
  induction es with
  | nil => rfl
  | cons e es ih => simp only [entsCs, List.flatMap_cons, List.length_append, List.length_cons] at ih ⊢; rw [ih]; simp [entCs]; omega
/-- The block holds an entry. -/
def EBox (W : World) (B : Nat) (e : Ent) : Prop := W.heap[B]? = some (.cells #[.int .i64 e.id, .int .i64 e.a, .int .i64 e.b, .int .i64 e.c, .int .i64 e.d] 69 (0, 0))
theorem EBox.at {W : World} {B : Nat} {e : Ent} (h : EBox W B e) : EntAt W B 0 e := by
  have h' : W.heap[B]? = _ := h
  exact ⟨by simp [World.cell?, h'], by simp [World.cell?, h'], by simp [World.cell?, h'], by simp [World.cell?, h'], by simp [World.cell?, h']⟩

set_option maxHeartbeats 4000000 in
theorem listOf_any (p off n cap : Nat) (Q : Nat → Qd) (w : World) (hQ : QsAt w w.heap.size p off n Q) (hn : n ≤ 1048576) (hen : ∀ i, i < n → (Q i).en ≤ 1048576) (hall : (allE Q n).length ≤ 1048576) :
    Calls Try.prog 37 #[.slice (some ⟨p, off, none⟩) n cap] w fun e w' => ∃ v, e = .returned v ∧ w'.ownsRow w.heap.size 69 5 v (allE Q n).length (entsCs ((allE Q n).map (·.2))) ∧ Below w.heap.size w w' := by
  obtain ⟨i0, hi, hz0, hz1, hz2⟩ := info_parts info_ie
  refine (callsIn_wide (n := 4)).1 ?_
  refine callsIn_of_wp_marks Try.func37 rfl trivial ?_ rfl
  simp only [Try.ntmps37, List.size_toArray, List.length_cons, List.length_nil, Nat.reduceAdd, Nat.reduceSub, Array.replicate_succ, Array.replicate_zero, List.push_toArray, List.append_toArray, List.nil_append, List.cons_append]
  gi_wp2_with (refine ⟨trivial, ?_⟩; gi_at_call 29; refine (callsIn_wide.2 (entriesOf_any _ _ _ _)).mono ?_; rintro e w' ⟨rfl, rfl⟩)
  obtain ⟨W0, hW0⟩ : ∃ W0, ((w.alloc (.cells #[.slice none 0 0] 43)).alloc (.cells #[.slice (some ⟨p, off, none⟩) n cap] 32) : World) = W0 := ⟨_, rfl⟩
  have b0 : Boxed W0 w.heap.size 43 (.slice none 0 0) := by rw [← hW0]; exact (Boxed.new w 43 (.slice none 0 0)).alloc _
  have b1 : Boxed W0 (w.heap.size + 1) 32 (.slice (some ⟨p, off, none⟩) n cap) := by
    rw [← hW0]
    have := Boxed.new (w.alloc (.cells #[.slice none 0 0] 43)) 32 (.slice (some ⟨p, off, none⟩) n cap)
    simpa using this
  have hB0 : Below w.heap.size w W0 := by rw [← hW0]; (repeat (first | exact Below.refl _ _ | assumption | refine Below.drew ?_ | refine bl_alloc ?_ _ | refine bl_then ?_ (by assumption) | refine Below.setCell ?_ (by first | omega | (simp; done) | (simp; omega)) _ | refine bl_store ?_ ?_ _ _))
  have hsz : W0.heap.size = w.heap.size + 2 := by rw [← hW0]; simp
  rw [hW0]
  clear hW0
  refine wpIn_rangeFunc_ownH rfl (by omega) (gf := 55) (lb := #[.pointer (some ⟨w.heap.size + 1, 0, none⟩)]) rfl trivial (enters_of Try.func55 (by kernel_rfl) rfl)
    (entriesOf_stops (w.heap.size + 1) w.heap.size p off n cap Q hn hen W0 (by omega) (by omega) b1.cell (hQ.below hB0)) (fun h k => KQ.trans h k) (KQ.put (by omega) (by omega)) (Below.refl _ _) (fun _ => rfl)
    (fun pre W => ((∃ v, Boxed W w.heap.size 43 v ∧ W.ownsRow w.heap.size 69 5 v pre.length (entsCs (pre.map (·.2))) ∧ True) ∧ Boxed W (w.heap.size + 1) 32 (.slice (some ⟨p, off, none⟩) n cap)) ∧ Below w.heap.size w W)
    (fun _ _ _ => False)
    (OwnFrom.and (OwnFrom.and (Own.from (holdsRow_own w.heap.size w.heap.size 43 69 5 (fun (pre : List (Nat × Ent)) => pre.length) (fun pre => entsCs (pre.map (·.2))) (fun _ _ => True)) _) (Own.from (boxed_own _ _ _) _)) (ownFrom_below (Nat.le_refl _) (by omega)))
    (fun _ _ _ _ _ hs _ _ => hs)
    ⟨⟨⟨_, b0, World.ownsRow_nil _ _ _ _, trivial⟩, b1⟩, hB0⟩
    (fun x a' W => ∃ Bx, EBox W Bx x.2 ∧ a' = { tmps := #[.slice (some ⟨p, off, none⟩) n cap, undef, .slice none 0 0, .pointer (some ⟨w.heap.size, 0, none⟩), undef, .pointer (some ⟨Bx, 0, none⟩), .slice (some ⟨p, off, none⟩) n cap, .func (.func 55) #[] #[.pointer (some ⟨w.heap.size + 1, 0, none⟩)], .pointer (some ⟨p, off + x.1 * 7, none⟩), entV x.2, undef, undef, undef, undef, undef], defers := [] })
    ?hAx ?assign ?body ?done ?stop
  case hAx =>
    rintro x a' _ X Y row ⟨Bx, e1, e2⟩ hg hr
    exact ⟨Bx, (hg.block Bx (Array.getElem?_eq_some_iff.1 e1).1 (fun e' => by obtain ⟨_, o, ho, hc⟩ := hr Bx e'.symm; rw [show X.heap[Bx]? = _ from e1] at ho; cases ho; cases hc)).trans e1, e2⟩
  case assign =>
    rintro l pre x W K ⟨⟨⟨v, hv, hrow, _⟩, bQ⟩, hB⟩ hK
    have hK2 := hK { tmps := #[.slice (some ⟨p, off, none⟩) n cap, undef, .slice none 0 0, .pointer (some ⟨w.heap.size, 0, none⟩), undef, .pointer (some ⟨W.heap.size, 0, none⟩), .slice (some ⟨p, off, none⟩) n cap, .func (.func 55) #[] #[.pointer (some ⟨w.heap.size + 1, 0, none⟩)], .pointer (some ⟨p, off + x.1 * 7, none⟩), entV x.2, undef, undef, undef, undef, undef], defers := [] } (W.alloc (.cells #[.int .i64 x.2.id, .int .i64 x.2.a, .int .i64 x.2.b, .int .i64 x.2.c, .int .i64 x.2.d] 69))
      ((KeepsOthers.alloc _ _).from _) ((KQ.refl _ _ _).alloc hB.size bQ.lt _) ⟨⟨⟨v, hv.alloc _, hrow.alloc _, trivial⟩, bQ.alloc _⟩, hB.alloc hB.size _⟩ ⟨_, World.alloc_heap_new W _, rfl⟩
    simp only [encQ] at *
    gi_wp2
    exact hK2
  case body =>
    rintro l pre x a' W hl hlr ⟨⟨⟨v, hv, hrow, _⟩, bQ⟩, hB⟩ ⟨Bx, hE, rfl⟩ hlt
    obtain ⟨e0, e1, e2, e3, e4⟩ := hE.at
    have hc := hv.cell
    have hmx : 1048577 ≤ maxLen := by decide
    have hce : ∀ j u, (entCs x.2)[j]? = some u → (W.alloc (.cells #[.int .i64 x.2.id, .int .i64 x.2.a, .int .i64 x.2.b, .int .i64 x.2.c, .int .i64 x.2.d] 69)).cell? ((⟨W.heap.size, 0, none⟩ : Addr).add j) = some u := by
      have hN : EBox (W.alloc (.cells #[.int .i64 x.2.id, .int .i64 x.2.a, .int .i64 x.2.b, .int .i64 x.2.c, .int .i64 x.2.d] 69)) W.heap.size x.2 := World.alloc_heap_new W _
      obtain ⟨n0, n1, n2, n3, n4⟩ := hN.at
      intro j u hj
      match j, hj with
      | 0, hj => exact (Option.some.inj hj) ▸ n0
      | 1, hj => exact (Option.some.inj hj) ▸ n1
      | 2, hj => exact (Option.some.inj hj) ▸ n2
      | 3, hj => exact (Option.some.inj hj) ▸ n3
      | 4, hj => exact (Option.some.inj hj) ▸ n4
      | j + 5, hj => cases (show (none : Option Value) = some u from hj)
    gi_wp2_with (gi_at_builtin; refine wpListIn_append_own _ rfl _ _ 43 rfl w.heap.size 69 i0 (.agg zeroE) 5 40 Try.underlying43 hi hz0 hz1 hz2 rfl (by decide) _ _ _ rfl (hrow.alloc _) ⟨W.heap.size, 0, none⟩ 1 1 (entCs x.2) rfl rfl hce (by simp [entCs, Value.oneCell']) (by omega) (by omega) (by have := hB.size; simp; omega) ?_; intro v' w1 hown' hgrow _; obtain ⟨g', cap', rfl⟩ := ownsRow_succ hown'; obtain ⟨hv1, hv2, hr2, hk2, hb2⟩ := hv.appended (by decide) hrow hB.size (Nat.le_refl _) hown' hgrow; have hc1 := hv1.cell; have hf1 := hv1.frozen)
    have bQ2 := ((bQ.alloc _).kept hgrow (bQ.not_row (by decide) hrow)).other (B' := w.heap.size) (by omega) (.slice (some ⟨g', 0, none⟩) (pre.length + 1) cap')
    refine ⟨hk2.from _, ⟨hb2, bQ2.trans bQ.symm⟩, ⟨⟨_, hv2, ?_, trivial⟩, bQ2⟩, hB.trans hb2⟩
    simpa [entsCs] using hr2
  case done =>
    rintro D ys W hD rfl ⟨⟨⟨v, hv, hrow, _⟩, bQ⟩, hB⟩ hK
    have hc := hv.cell
    gi_wp2
    refine ⟨by simp, .inl ⟨_, _, rfl, run_takeDeferred hK, ?_⟩⟩
    exact ⟨_, results_tmp rfl _ _ _, v, rfl, ownsRow_putObj hrow _ hK rfl, hB.trans (belowK_b (w := w) (Nat.le_refl _) W D _ _ (by omega) hK rfl rfl)⟩
  case stop =>
    rintro D c pre W _ _ h _
    exact h.elim
end Go.Proofs.Ytjnhaigmfjndhaa
