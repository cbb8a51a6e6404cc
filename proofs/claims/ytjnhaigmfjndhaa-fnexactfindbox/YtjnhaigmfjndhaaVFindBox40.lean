/- The program's FindBox. -/
import Derived.Test.YtjnhaigmfjndhaaVFindBox36
import Derived.Test.YtjnhaigmfjndhaaVFindBox39
namespace Go.Proofs.Ytjnhaigmfjndhaa
open Go.RowKit Go.Shelf
set_option linter.unusedSimpArgs false
set_option linter.unusedVariables false
set_option maxRecDepth 100000

theorem keepsO {W W' : World} (h : Below W.heap.size W W') : KeepsOthers W W' := ⟨h.size, fun k o hk _ => (h.block k (lt_of_heap hk)).trans hk⟩
theorem one_cell (W : World) (t : TypeId) (v : Value) : ∀ j u, [v][j]? = some u → (W.alloc (.cells #[v] t)).cell? ((⟨W.heap.size, 0, none⟩ : Addr).add j) = some u := fun j u hj => by
  match j, hj with
  | 0, hj => simp at hj; subst hj; simp [Addr.add, go_sem]
  | j + 1, hj => simp at hj
theorem FState.no {w W : World} {M p off n cap : Nat} {x0 x1 x2 x3 : Int} {pre : List (Nat × Ent)} {x : Nat × Ent} (h : FState w M p off n cap x0 x1 x2 x3 pre W) (hm : meetB x.2.a x.2.b x.2.c x.2.d x0 x1 x2 x3 = false) : FState w M p off n cap x0 x1 x2 x3 (pre ++ [x]) W := by
  unfold FState
  rw [rawP_add, hm]
  simpa [FState] using h
theorem fb_start {w w1 : World} {x0 x1 x2 x3 : Int} (hb1 : Below (World.heap ((w.alloc (.cells #[.int .i64 x0, .int .i64 x1, .int .i64 x2, .int .i64 x3] 36)).alloc (.cells #[.int .i64 0, .slice none 0 0] 30))).size ((w.alloc (.cells #[.int .i64 x0, .int .i64 x1, .int .i64 x2, .int .i64 x3] 36)).alloc (.cells #[.int .i64 0, .slice none 0 0] 30)) w1) :
    w1.heap[w.heap.size]? = some (.cells #[.int .i64 x0, .int .i64 x1, .int .i64 x2, .int .i64 x3] 36 (0, 0)) ∧ w1.heap[w.heap.size + 1]? = some (.cells #[.int .i64 0, .slice none 0 0] 30 (0, 0)) ∧
    w1.cell? ⟨w.heap.size, 0, none⟩ = some (.int .i64 x0) ∧ w1.cell? ⟨w.heap.size, 1, none⟩ = some (.int .i64 x1) ∧ w1.cell? ⟨w.heap.size, 2, none⟩ = some (.int .i64 x2) ∧ w1.cell? ⟨w.heap.size, 3, none⟩ = some (.int .i64 x3) ∧ Below w.heap.size w w1 ∧ w.heap.size + 1 < w1.heap.size := by
  obtain ⟨W, hW⟩ : ∃ W, ((w.alloc (.cells #[.int .i64 x0, .int .i64 x1, .int .i64 x2, .int .i64 x3] 36)).alloc (.cells #[.int .i64 0, .slice none 0 0] 30) : World) = W := ⟨_, rfl⟩
  have o0 : W.heap[w.heap.size]? = some (.cells #[.int .i64 x0, .int .i64 x1, .int .i64 x2, .int .i64 x3] 36 (0, 0)) := by
    rw [← hW]
    exact (Below.heap_alloc _ _ _ (by simp)).trans (World.alloc_heap_new w _)
  have o1 : W.heap[w.heap.size + 1]? = some (.cells #[.int .i64 0, .slice none 0 0] 30 (0, 0)) := by
    rw [← hW]
    have := World.alloc_heap_new (w.alloc (.cells #[.int .i64 x0, .int .i64 x1, .int .i64 x2, .int .i64 x3] 36)) (.cells #[.int .i64 0, .slice none 0 0] 30)
    simpa using this
  have hB0 : Below w.heap.size w W := by rw [← hW]; (repeat (first | exact Below.refl _ _ | assumption | refine Below.drew ?_ | refine bl_alloc ?_ _ | refine bl_then ?_ (by assumption) | refine Below.setCell ?_ (by first | omega | (simp; done) | (simp; omega)) _ | refine bl_store ?_ ?_ _ _))
  rw [hW] at hb1
  have p0 := (hb1.block _ (lt_of_heap o0)).trans o0
  have p1 := (hb1.block _ (lt_of_heap o1)).trans o1
  exact ⟨p0, p1, by simp [World.cell?, p0], by simp [World.cell?, p0], by simp [World.cell?, p0], by simp [World.cell?, p0], bl_then hB0 hb1, lt_of_heap p1⟩
set_option maxHeartbeats 2000000 in
theorem impl_FindBox_ok (p off n cap : Nat) (Q : Nat → Qd) (x0 x1 x2 x3 : Int) (w : World) (hQ : QsAt w w.heap.size p off n Q) (hn : n ≤ 1048576) (hcap : n ≤ cap) (hen : ∀ i, i < n → (Q i).en ≤ 1048576) (hall : (allE Q n).length ≤ 1048576) (hc : quadsC Q n = 0) (hbc : boxC x0 x1 x2 x3 = 0) :
    Calls Try.prog 9 #[.slice (some ⟨p, off, none⟩) n cap, .agg #[.int .i64 x0, .int .i64 x1, .int .i64 x2, .int .i64 x3]] w fun e w' => ∃ v, e = .returned (.agg #[.int .i64 0, v]) ∧ RowN w.heap.size w' v ((rawP x0 x1 x2 x3 (allE Q n)).mergeSort fun x y => decide (x ≤ y)) ∧ Below w.heap.size w w' := by
  obtain ⟨i0, hi, hz0, hz1, hz2⟩ := info_parts info_n64
  have HQF : Hid (∀ W, Below w.heap.size w W → Calls Try.prog 27 #[.slice (some ⟨p, off, none⟩) n cap] W fun e w' => e = .returned (.int .i64 0) ∧ Below W.heap.size W w') := fun W hb => hc ▸ impl_QuadsFault_any p off n cap Q W (hQ.now hb) hn hcap hen hall
  have HBF : Hid (∀ W, Calls Try.prog 28 #[.agg #[.int .i64 x0, .int .i64 x1, .int .i64 x2, .int .i64 x3]] W fun e w' => e = .returned (.int .i64 0) ∧ Below W.heap.size W w') := fun W => hbc ▸ boxFault_any x0 x1 x2 x3 W
  have h24 := (ents_ok hc).1
  have hlen : (allE Q n).length = (esOf Q n).length := by simp [esOf]
  refine (callsIn_wide (n := 4)).1 ?_
  refine callsIn_of_wp_marks Try.func9 rfl trivial ?_ rfl
  simp only [Try.ntmps9, List.size_toArray, List.length_cons, List.length_nil, Nat.reduceAdd, Nat.reduceSub, Array.replicate_succ, Array.replicate_zero, List.push_toArray, List.append_toArray, List.nil_append, List.cons_append]
  gi_wp2_with (first
    | (refine ⟨trivial, ?_⟩; gi_at_call 27; refine (callsIn_wide.2 (HQF.out _ (by (repeat (first | exact Below.refl _ _ | assumption | refine Below.drew ?_ | refine bl_alloc ?_ _ | refine bl_then ?_ (by assumption) | refine Below.setCell ?_ (by first | omega | (simp; done) | (simp; omega)) _ | refine bl_store ?_ ?_ _ _))))).mono ?_; rintro e w1 ⟨rfl, hb1⟩; obtain ⟨p0, p1, c0, c1, c2, c3, hB1, hl1⟩ := fb_start hb1)
    | (refine ⟨trivial, ?_⟩; gi_at_call 28; refine (callsIn_wide.2 (HBF.out _)).mono ?_; rintro e w2 ⟨rfl, hb2⟩)
    | (refine ⟨trivial, ?_⟩; gi_at_call 29; refine (callsIn_wide.2 (entriesOf_any _ _ _ _)).mono ?_; rintro e w' ⟨rfl, rfl⟩))
  have hB2 : Below w.heap.size w w2 := bl_then hB1 hb2
  have q0 := (hb2.block _ (lt_of_heap p0)).trans p0
  have q1 := (hb2.block _ (lt_of_heap p1)).trans p1
  have hl2 : w.heap.size + 1 < w2.heap.size := lt_of_heap q1
  clear p0 p1 hb1 hb2 hB1 c0 c1 c2 c3 HBF HQF hl1
  obtain ⟨M, hM⟩ : ∃ M, w2.heap.size = M := ⟨_, rfl⟩
  obtain ⟨W0, hW0⟩ : ∃ W0, ((w2.alloc (.cells #[.slice none 0 0] 28)).alloc (.cells #[.slice (some ⟨p, off, none⟩) n cap] 32) : World) = W0 := ⟨_, rfl⟩
  have hb20 : Below w2.heap.size w2 W0 := by rw [← hW0]; (repeat (first | exact Below.refl _ _ | assumption | refine Below.drew ?_ | refine bl_alloc ?_ _ | refine bl_then ?_ (by assumption) | refine Below.setCell ?_ (by first | omega | (simp; done) | (simp; omega)) _ | refine bl_store ?_ ?_ _ _))
  have b0 : Boxed W0 M 28 (.slice none 0 0) := by rw [← hW0, ← hM]; exact (Boxed.new w2 28 (.slice none 0 0)).alloc _
  have b1 : Boxed W0 (M + 1) 32 (.slice (some ⟨p, off, none⟩) n cap) := by
    rw [← hW0, ← hM]
    have := Boxed.new (w2.alloc (.cells #[.slice none 0 0] 28)) 32 (.slice (some ⟨p, off, none⟩) n cap)
    simpa using this
  have hsz : W0.heap.size = M + 2 := by rw [← hW0, ← hM]; simp
  have st0 : FState w M p off n cap x0 x1 x2 x3 [] W0 := ⟨⟨_, b0, World.ownsRow_nil _ _ _ _⟩, b1, (hb20.block _ (by omega)).trans q0, (hb20.block _ (by omega)).trans q1, bl_then hB2 hb20⟩
  rw [hW0]
  rw [hM] at hl2 ⊢
  clear hW0 hb20 q0 q1 b0
  refine wpIn_rangeFunc_ownH rfl (by omega) (gf := 55) (lb := #[.pointer (some ⟨M + 1, 0, none⟩)]) rfl trivial (enters_of Try.func55 (by kernel_rfl) rfl)
    (entriesOf_stops (M + 1) w.heap.size p off n cap Q hn hen W0 (by omega) (by omega) b1.cell (hQ.below st0.2.2.2.2)) (fun h k => KQ.trans h k) (KQ.put (by omega) (by omega)) (Below.refl _ _) (fun _ => rfl)
    (fun pre W => FState w M p off n cap x0 x1 x2 x3 pre W)
    (fun _ _ _ => False)
    (FState.own w M p off n cap _ x0 x1 x2 x3 (by omega))
    (fun _ _ _ _ _ hs _ _ => hs.elim)
    st0
    (fun x a' W => ∃ Bx, EBox W Bx x.2 ∧ a' = { tmps := #[.slice (some ⟨p, off, none⟩) n cap, .agg #[.int .i64 x0, .int .i64 x1, .int .i64 x2, .int .i64 x3], undef, .pointer (some ⟨w.heap.size, 0, none⟩), .pointer (some ⟨w.heap.size + 1, 0, none⟩), .int .i64 0, .int .i64 0, .pointer (some ⟨M, 0, none⟩), undef, .pointer (some ⟨Bx, 0, none⟩), .slice (some ⟨p, off, none⟩) n cap, .int .i64 0, .int .i64 0, .bool false, undef, undef, .agg #[.int .i64 x0, .int .i64 x1, .int .i64 x2, .int .i64 x3], .int .i64 0, .int .i64 0, .bool false, undef, undef, .slice (some ⟨p, off, none⟩) n cap, .func (.func 55) #[] #[.pointer (some ⟨M + 1, 0, none⟩)], .pointer (some ⟨p, off + x.1 * 7, none⟩), entV x.2, undef, undef, undef, undef, undef, undef, undef, undef, undef, undef, undef, undef, undef], defers := [] })
    ?hAx ?assign ?body ?done ?stop
  case hAx =>
    rintro x a' _ X Y row ⟨Bx, e1, e2⟩ hg hr
    exact ⟨Bx, (hg.block Bx (Array.getElem?_eq_some_iff.1 e1).1 (fun e' => by obtain ⟨_, o, ho, hc⟩ := hr Bx e'.symm; rw [show X.heap[Bx]? = _ from e1] at ho; cases ho; cases hc)).trans e1, e2⟩
  case assign =>
    rintro l pre x W K hst hK
    have hK2 := hK { tmps := #[.slice (some ⟨p, off, none⟩) n cap, .agg #[.int .i64 x0, .int .i64 x1, .int .i64 x2, .int .i64 x3], undef, .pointer (some ⟨w.heap.size, 0, none⟩), .pointer (some ⟨w.heap.size + 1, 0, none⟩), .int .i64 0, .int .i64 0, .pointer (some ⟨M, 0, none⟩), undef, .pointer (some ⟨W.heap.size, 0, none⟩), .slice (some ⟨p, off, none⟩) n cap, .int .i64 0, .int .i64 0, .bool false, undef, undef, .agg #[.int .i64 x0, .int .i64 x1, .int .i64 x2, .int .i64 x3], .int .i64 0, .int .i64 0, .bool false, undef, undef, .slice (some ⟨p, off, none⟩) n cap, .func (.func 55) #[] #[.pointer (some ⟨M + 1, 0, none⟩)], .pointer (some ⟨p, off + x.1 * 7, none⟩), entV x.2, undef, undef, undef, undef, undef, undef, undef, undef, undef, undef, undef, undef, undef], defers := [] } (W.alloc (.cells #[.int .i64 x.2.id, .int .i64 x.2.a, .int .i64 x.2.b, .int .i64 x.2.c, .int .i64 x.2.d] 69))
      ((KeepsOthers.alloc _ _).from _) ((KQ.refl _ _ _).alloc hst.2.2.2.2.size hst.2.1.lt _) (hst.below (bl_alloc (Below.refl _ _) _)) ⟨_, World.alloc_heap_new W _, rfl⟩
    simp only [encQ] at *
    have hsem : ∀ (ρ : Operand → Value) (o : Oper), (∀ c, o.op ≠ .defer c) → Oper.semAt (some l) ρ o = execOp ρ o := fun ρ o h => Oper.semAt_some l ρ o h
    gi_wp2
    exact hK2
  case body =>
    rintro l pre x a' W hl hlr hst ⟨Bx, hE, rfl⟩ hlt
    obtain ⟨e0, e1, e2, e3, e4⟩ := hE.at
    have HST : Hid (FState w M p off n cap x0 x1 x2 x3 pre W) := hst
    have b0 : W.cell? ⟨w.heap.size, 0, none⟩ = some (.int .i64 x0) := by simp [World.cell?, hst.2.2.1]
    have b1 : W.cell? ⟨w.heap.size, 1, none⟩ = some (.int .i64 x1) := by simp [World.cell?, hst.2.2.1]
    have b2 : W.cell? ⟨w.heap.size, 2, none⟩ = some (.int .i64 x2) := by simp [World.cell?, hst.2.2.1]
    have b3 : W.cell? ⟨w.heap.size, 3, none⟩ = some (.int .i64 x3) := by simp [World.cell?, hst.2.2.1]
    clear hst
    obtain ⟨mb, hmb⟩ : ∃ mb, meetB x.2.a x.2.b x.2.c x.2.d x0 x1 x2 x3 = mb := ⟨_, rfl⟩
    have HMB : Hid (meetB x.2.a x.2.b x.2.c x.2.d x0 x1 x2 x3 = mb) := hmb
    have HMC : Hid (∀ W, Calls Try.prog 30 #[.agg #[.int .i64 x.2.a, .int .i64 x.2.b, .int .i64 x.2.c, .int .i64 x.2.d], .agg #[.int .i64 x0, .int .i64 x1, .int .i64 x2, .int .i64 x3]] W fun e w' => e = .returned (.bool mb) ∧ Below W.heap.size W w') := fun W => hmb ▸ implDoMeet_any _ _ _ _ _ _ _ _ W
    clear hmb
    have hsem : ∀ (ρ : Operand → Value) (o : Oper), (∀ c, o.op ≠ .defer c) → Oper.semAt (some l) ρ o = execOp ρ o := fun ρ o h => Oper.semAt_some l ρ o h
    have hrl : (rawP x0 x1 x2 x3 pre).length ≤ 24 := by have := rawP_len x0 x1 x2 x3 pre; omega
    have hmx : 1048577 ≤ maxLen := by decide
    cases mb
    · gi_wp2_with (refine ⟨trivial, ?_⟩; gi_at_call 30; refine ((callsIn_wide.2 (HMC.out _)).inRound l).mono ?_; rintro e W1 ⟨rfl, hbm⟩)
      exact ⟨(keepsO hbm).from _, ⟨hbm.mono HST.out.2.2.2.2.size, hbm.block _ HST.out.2.1.lt⟩, (HST.out.below hbm).no HMB.out⟩
    · gi_wp2_with (first
        | (refine ⟨trivial, ?_⟩; gi_at_call 30; refine ((callsIn_wide.2 (HMC.out _)).inRound l).mono ?_; rintro e W1 ⟨rfl, hbm⟩; obtain ⟨⟨v, hv, hrow⟩, bQ, o0, o1, hB⟩ := HST.out.below hbm; have hcv := hv.cell; have k0 := bl_cell hbm e0; have hl1 := hv.lt)
        | (gi_at_builtin; refine wpListIn_append_own _ rfl _ _ 28 rfl w.heap.size 2 i0 (.int .i64 0) 1 8 Try.underlying28 hi hz0 hz1 hz2 rfl (by decide) _ (rawP x0 x1 x2 x3 pre).length ((rawP x0 x1 x2 x3 pre).map (.int .i64 ·)) rfl (World.ownsRow.alloc hrow _) ⟨W1.heap.size, 0, none⟩ 1 1 [.int .i64 x.2.id] rfl rfl (one_cell _ _ _) (by simp [Value.oneCell']) (by omega) (by omega) (by have := hB.size; simp; omega) ?_; intro v' w3 hown' hgrow _; obtain ⟨g', cap', rfl⟩ := ownsRow_succ hown'; obtain ⟨hv1, hv2, hr2, hk2, hb2⟩ := hv.appended (by decide) hrow hB.size (by omega) hown' hgrow; have hc1 := hv1.cell; have hf1 := hv1.frozen))
      have bQ2 := ((bQ.alloc (.cells #[.int .i64 x.2.id] 2)).kept hgrow (bQ.not_row (by decide) hrow)).other (B' := M) (by omega) (.slice (some ⟨g', 0, none⟩) ((rawP x0 x1 x2 x3 pre).length + 1) cap')
      have kp : ∀ (b : Nat) (arr : Array Value) (t : TypeId), b ≠ M → t ≠ 2 → W1.heap[b]? = some (.cells arr t (0, 0)) → (w3.setCell ⟨M, 0, none⟩ (.slice (some ⟨g', 0, none⟩) ((rawP x0 x1 x2 x3 pre).length + 1) cap')).heap[b]? = some (.cells arr t (0, 0)) := fun b arr t hbM ht ho => by
        rw [Below.heap_setCell _ _ _ _ (by simp; omega)]
        have h1 : (W1.alloc (.cells #[.int .i64 x.2.id] 2)).heap[b]? = some (.cells arr t (0, 0)) := (Below.heap_alloc _ _ _ (lt_of_heap ho)).trans ho
        exact (hgrow.block b (lt_of_heap h1) (obj_not_row ho ht hrow)).trans h1
      refine ⟨((keepsO hbm).trans hk2).from _, ⟨(hbm.mono HST.out.2.2.2.2.size).trans hb2, bQ2.trans HST.out.2.1.symm⟩, ⟨⟨_, hv2, ?_⟩, bQ2, kp _ _ _ (by omega) (by decide) o0, kp _ _ _ (by omega) (by decide) o1, hB.trans hb2⟩⟩
      rw [rawP_add, HMB.out, if_pos rfl]
      show World.ownsRow _ _ _ _ _ _ _
      rw [List.length_append, List.map_append]
      exact hr2
  case done =>
    rintro D ys W hD rfl hst hK
    obtain ⟨⟨v, hv, hrow⟩, bQ, o0, o1, hB⟩ := hst
    have hrl : (rawP x0 x1 x2 x3 (allE Q n)).length ≤ 24 := by have := rawP_len x0 x1 x2 x3 (allE Q n); omega
    obtain ⟨av, cv, hvs, _, _⟩ := hrow.own
    subst hvs
    have HSO : Hid (Calls Try.prog 31 #[.slice av (rawP x0 x1 x2 x3 (allE Q n)).length cv] W fun e w' => e = .returned (.tuple #[]) ∧ RowN w.heap.size w' (.slice av (rawP x0 x1 x2 x3 (allE Q n)).length cv) ((rawP x0 x1 x2 x3 (allE Q n)).mergeSort fun x y => decide (x ≤ y)) ∧ W.grownBy w' (Value.slice av (rawP x0 x1 x2 x3 (allE Q n)).length cv).ownBlock) := sortN_any w.heap.size _ _ W hrow (by omega)
    have hnM := hv.not_row (by decide) hrow
    have hnR := obj_not_row o1 (by decide) hrow
    have HDn : Hid (some D ≠ (Value.slice av (rawP x0 x1 x2 x3 (allE Q n)).length cv).ownBlock) := by
      obtain ⟨_, h2 | ⟨g, c, cur, hv2, _, hh, _⟩⟩ := hrow
      · rw [h2.1]; intro e; cases e
      · rw [hv2]
        intro e
        simp [Value.ownBlock] at e
        subst e
        rw [hh] at hK
        cases hK
    have HLo : Hid (∀ g, (Value.slice av (rawP x0 x1 x2 x3 (allE Q n)).length cv).ownBlock = some g → w.heap.size ≤ g) := fun g e => (World.ownsRow.lt hrow g e).1
    have HF : Hid (∀ W1, RowN w.heap.size W1 (.slice av (rawP x0 x1 x2 x3 (allE Q n)).length cv) ((rawP x0 x1 x2 x3 (allE Q n)).mergeSort fun x y => decide (x ≤ y)) → W.grownBy W1 (Value.slice av (rawP x0 x1 x2 x3 (allE Q n)).length cv).ownBlock → Boxed W1 M 28 (.slice av (rawP x0 x1 x2 x3 (allE Q n)).length cv) ∧ W1.heap[w.heap.size + 1]? = some (.cells #[.int .i64 0, .slice none 0 0] 30 (0, 0)) ∧ W1.heap[D]? = some (Obj.deferred (some [])) ∧ Below w.heap.size w W1) := fun W1 _ hG => ⟨hv.kept hG hnM, (hG.block _ (lt_of_heap o1) hnR).trans o1, (hG.block _ (lt_of_heap hK) HDn.out).trans hK, hB.trans ((Below.refl _ _).grown hG hB.size (fun g e => HLo.out g e))⟩
    have HMx : Hid (∀ W1 v, RowN w.heap.size W1 v ((rawP x0 x1 x2 x3 (allE Q n)).mergeSort fun x y => decide (x ≤ y)) → RowN w.heap.size W1 v ((rawP x0 x1 x2 x3 (allE Q n)).mergeSort fun x y => decide (x ≤ y))) := fun _ _ h => h
    have hcv := hv.cell
    clear hrow hnM hnR HDn HLo hrl o0 bQ
    generalize (rawP x0 x1 x2 x3 (allE Q n)).length = rl at *
    gi_wp2_with (first
      | (refine ⟨trivial, ?_⟩; gi_at_call 31; refine (callsIn_wide.2 HSO.out).mono ?_; rintro e W1 ⟨rfl, hR1, hG1⟩; obtain ⟨hv1, r1, hK1, hB1⟩ := HF.out W1 hR1 hG1; have hc1 := hv1.cell; have t0 : W1.cell? ⟨w.heap.size + 1, 0, none⟩ = some (.int .i64 0) := (by simp [World.cell?, r1]); have t1 : W1.cell? ⟨w.heap.size + 1, 1, none⟩ = some (.slice none 0 0) := (by simp [World.cell?, r1]); have f0 : W1.frozen? ⟨w.heap.size + 1, 0, none⟩ = false := (by simp [World.frozen?, r1]); have f1 : W1.frozen? ⟨w.heap.size + 1, 1, none⟩ = false := (by simp [World.frozen?, r1])))
    have hnY := obj_not_row r1 (by decide) hR1
    obtain ⟨Y, hY⟩ : ∃ Y, (W1.setCell ⟨w.heap.size + 1, 0, none⟩ (.int .i64 0)).setCell ⟨w.heap.size + 1, 1, none⟩ (.slice av rl cv) = Y := ⟨_, rfl⟩
    have hGY : W1.grownBy Y (some (w.heap.size + 1)) := by rw [← hY]; exact grown_set (grown_set (grown_refl _ _) _ _) _ _
    have hK' : Y.heap[D]? = some (Obj.deferred (some [])) := (hGY.block _ (lt_of_heap hK1) (fun e => by injection e with e; subst e; rw [hK1] at r1; cases r1)).trans hK1
    have s0 : Y.cell? ⟨w.heap.size + 1, 0, none⟩ = some (.int .i64 0) := by rw [← hY]; exact (set2_at (show (0 : Nat) ≠ 1 by omega) (by rw [t0]; rfl) (by rw [t1]; rfl)).1
    have s1 : Y.cell? ⟨w.heap.size + 1, 1, none⟩ = some (.slice av rl cv) := by rw [← hY]; exact (set2_at (show (0 : Nat) ≠ 1 by omega) (by rw [t0]; rfl) (by rw [t1]; rfl)).2
    have hBY : Below w.heap.size w Y := by rw [← hY]; exact (hB1.setCell (p := ⟨w.heap.size + 1, 0, none⟩) (by show w.heap.size ≤ w.heap.size + 1; omega) _).setCell (p := ⟨w.heap.size + 1, 1, none⟩) (by show w.heap.size ≤ w.heap.size + 1; omega) _
    have hRY : RowN w.heap.size Y (.slice av rl cv) ((rawP x0 x1 x2 x3 (allE Q n)).mergeSort fun x y => decide (x ≤ y)) := World.ownsRow.kept hR1 hGY (.inr hnY.symm)
    rw [hY]
    clear hY
    refine ⟨by simp, .inl ⟨_, _, rfl, run_takeDeferred hK', ?_⟩⟩
    have hg := grownBy_putObj' Y D (.deferred none)
    have g0 := cell_kept s0 hg (fun r e => by cases e; exact ⟨_, hK', rfl⟩)
    have g1 := cell_kept s1 hg (fun r e => by cases e; exact ⟨_, hK', rfl⟩)
    exact ⟨.agg #[.int .i64 0, .slice av rl cv], by simp [results, Try.f9, go_sem, g0, g1], _, rfl, ownsRow_putObj hRY _ hK' rfl, hBY.trans (belowK_b (w := w) (Nat.le_refl _) Y D _ _ (by omega) hK' rfl rfl)⟩
  case stop =>
    rintro D c pre W _ _ h _
    exact h.elim
end Go.Proofs.Ytjnhaigmfjndhaa
