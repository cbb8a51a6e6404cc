/- Several texts in one. -/
import Derived.Test.YtdohlnnbibnnbaaGreatVPlaceLabels10
import Derived.Test.YtdohlnnbibnnbaaGreatVPlaceLabels12
import Derived.Test.YtdohlnnbibnnbaaGreatVPlaceLabels6
import Derived.Deep.DeepCutAuto
import Derived.Deep.RegionLawGrows
import Derived.OwnWalk
import Derived.Test.YtdohlnnbibnnbaaGreatVPlaceLabels4
import Derived.Laws.OwnMore
import Derived.Test.YtdohlnnbibnnbaaGreatVPlaceLabels9
import Derived.Test.YtdohlnnbibnnbaaGreatVPlaceLabels11

/- The model's copy of a feature. -/

namespace Go.Proofs.YtdohlnnbibnnbaaGreat
open Go.RowKit
set_option linter.unusedSimpArgs false
set_option linter.unusedVariables false
set_option maxRecDepth 100000

theorem resC (T : Array Value) (Wf : World) (r : Nat) (v0 v1 v2 v3 v4 v5 v6 : Value) (hT : T[2]?.getD undef = .pointer (some ⟨r, 0, none⟩)) (h0 : Wf.cell? ⟨r, 0, none⟩ = some v0) (h1 : Wf.cell? ⟨r, 1, none⟩ = some v1) (h2 : Wf.cell? ⟨r, 2, none⟩ = some v2) (h3 : Wf.cell? ⟨r, 3, none⟩ = some v3) (h4 : Wf.cell? ⟨r, 4, none⟩ = some v4) (h5 : Wf.cell? ⟨r, 5, none⟩ = some v5) (h6 : Wf.cell? ⟨r, 6, none⟩ = some v6) :
    (results Tryz.f115 T).run Tryz.prog Wf = .ok (.agg #[v0, v1, v2, v3, v4, v5, v6]) Wf := by
  simp [results, Tryz.results115, go_sem, hT, h0, h1, h2, h3, h4, h5, h6]

set_option maxRecDepth 8000 in
set_option maxHeartbeats 4000000 in
theorem l2CopyOne_row {off : Nat} (id la ki wi : Int) (b n cap : Nat) (X Y : Nat → Int) (lab : ByteArray) (pr : Int) (w : World) (hp : PtsAt w b off n X Y) (hbl : b < w.heap.size) (hn : n ≤ 1048576) :
    Calls Tryz.prog 115 #[.agg #[.int .i64 id, .int .i64 la, .int .i64 ki, .int .i64 wi, .slice (some ⟨b, off, none⟩) n cap, .string lab, .int .i64 pr]] w fun e w' => ∃ a c, e = .returned (.agg #[.int .i64 id, .int .i64 la, .int .i64 ki, .int .i64 wi, .slice a n c, .string lab, .int .i64 pr]) ∧ Row (w.heap.size + 1 + 1) w' (.slice a n c) (ptsOf X Y (List.range n)) ∧ Below w.heap.size w w' := by
  obtain ⟨i0, hi, hz0, hz1, hz2⟩ := info_parts (show (Tryz.prog.info? 111).map (fun i => (i.zero, i.size, i.bytes)) = some (some (.agg #[.int .i64 0, .int .i64 0]), 2, 16) by kernel_rfl)
  have HP : Hid (PtsAt w b off n X Y) := hp
  have HLEN : Hid ((ptsOf X Y (List.range n)).length = n) := by show _ = _; simp [ptsOf]
  clear hp
  obtain ⟨W, hWd⟩ : ∃ W, W = (((w.alloc (.cells #[.int .i64 id, .int .i64 la, .int .i64 ki, .int .i64 wi, .slice (some ⟨b, off, none⟩) n cap, .string lab, .int .i64 pr] 36)).alloc (.cells #[.int .i64 0, .int .i64 0, .int .i64 0, .int .i64 0, .slice none 0 0, .string ⟨#[]⟩, .int .i64 0] 36)) : World) := ⟨_, rfl⟩
  have hB0 : Below w.heap.size w W := by subst hWd; (repeat (first | exact Below.refl _ _ | assumption | refine Below.drew ?_ | refine bl_alloc ?_ _ | refine bl_then ?_ (by assumption) | refine Below.setCell ?_ (by first | omega | (simp; done) | (simp; omega)) _ | refine bl_store ?_ ?_ _ _))
  have hO : OutAt W w.heap.size id la ki wi (.slice (some ⟨b, off, none⟩) n cap) lab pr := by
    subst hWd
    unfold OutAt
    rw [Below.heap_alloc _ _ _ (by simp)]
    exact heap_alloc_new w _
  have hT : There W (w.heap.size + 1) 7 := by
    subst hWd
    have := there7 (w.alloc (.cells #[.int .i64 id, .int .i64 la, .int .i64 ki, .int .i64 wi, .slice (some ⟨b, off, none⟩) n cap, .string lab, .int .i64 pr] 36)) (.int .i64 0) (.int .i64 0) (.int .i64 0) (.int .i64 0) (.slice none 0 0) (.string ⟨#[]⟩) (.int .i64 0) 36
    simpa using this
  have hsW : W.heap.size = w.heap.size + 2 := by subst hWd; simp
  have HB0 := (show Hid _ from hB0)
  have HO := (show Hid _ from hO)
  have HT : Hid (There W (w.heap.size + 1) 7) := hT
  have HSW := (show Hid _ from hsW)
  have HWD := (show Hid _ from hWd)
  clear hB0 hO hT hsW hWd
  go_enter Tryz.func115, Tryz.ntmps115
  go_wp2_with (first
    | (at_builtin; go_must (refine wpList_append_own _ rfl _ _ 34 rfl (w.heap.size + 1 + 1) 111 i0 (.agg #[.int .i64 0, .int .i64 0]) 2 16 Tryz.underlying34 hi hz0 hz1 hz2 rfl (by decide) (.slice (some ⟨w.heap.size + 1 + 1, 0, none⟩) 0 0) 0 [] rfl ?c6 ⟨b, off, none⟩ n cap (cellsL (ptsOf X Y (List.range n))) rfl ?c0 ?c1 ?c2 ?c3 ?c4 ?c5 ?_)))
  case c6 =>
    have := World.ownsRow_lit (base := w.heap.size + 1 + 1) (e := 111) (size := 2) W #[] 0 (by rw [HSW.out]; exact Nat.le_refl _) (Nat.zero_le _) rfl
    rw [HSW.out, HWD.out] at this
    exact this
  case c0 => rw [cellsL_len, HLEN.out]
  case c1 =>
    intro q u hq
    have hb : Below w.heap.size w (W.alloc (.cells #[] 111)) := bl_alloc HB0.out _
    rw [HWD.out] at hb
    have h1 := pts_cellsO (HP.out.below hb hbl) q u hq
    by_cases hq0 : q = 0
    · subst hq0; simpa [Addr.add] using h1
    · simpa [Addr.add, hq0] using h1
  case c2 =>
    intro u hu
    unfold cellsL at hu
    rw [List.mem_flatMap] at hu
    obtain ⟨p, _, hp⟩ := hu
    simp at hp
    rcases hp with rfl | rfl <;> rfl
  case c3 => unfold maxLen; omega
  case c4 => omega
  case c5 => first | omega | (simp; done) | (simp; omega)
  intro v' w2 hown' hgrow hnil
  clear hnil
  obtain ⟨a', c', hv'⟩ : ∃ a' c', v' = .slice a' n c' := by
    obtain ⟨_, h2 | ⟨g, cp, cur, hv, _⟩⟩ := hown'
    · exact ⟨none, 0, by have e := h2.2; have e2 : n = 0 := by omega
                         subst e2; exact h2.1⟩
    · exact ⟨_, cp, by rw [hv]⟩
  have HOWN : Hid (Row (w.heap.size + 1 + 1) w2 v' (ptsOf X Y (List.range n))) := by
    show Row _ _ _ _
    unfold Row
    rw [HLEN.out]
    simpa using hown'
  have hgb : Below (w.heap.size + 1 + 1) (W.alloc (.cells #[] 111)) w2 := by
    rw [HWD.out]
    exact (Below.refl _ _).grown hgrow (by simp) (fun k hk => by simp [Value.ownBlock] at hk; omega)
  have hWa : Below W.heap.size W (W.alloc (.cells #[] 111)) := (Below.refl _ _).alloc (Nat.le_refl _) _
  have hW2 : Below (w.heap.size + 2) W w2 := (hWa.mono (by rw [HSW.out]; exact Nat.le_refl _)).trans hgb
  have hO2 : OutAt w2 w.heap.size id la ki wi (.slice (some ⟨b, off, none⟩) n cap) lab pr := (hW2.block _ (by omega)).trans HO.out
  have hT2 : There w2 (w.heap.size + 1) 7 := There.belowB' HT.out hW2 (by omega)
  have hB2 : Below w.heap.size w w2 := HB0.out.trans (hW2.mono (by omega))
  have hs2 : w.heap.size + 2 < w2.heap.size ∨ True := .inr trivial
  obtain ⟨⟨u0, u1, u2, u3, u4, u5, u6⟩, f4⟩ := hO2.cells
  have hlw := hO2.lt
  have t0 := hT2.cell 0 (by omega)
  have t1 := hT2.cell 1 (by omega)
  have t2 := hT2.cell 2 (by omega)
  have t3 := hT2.cell 3 (by omega)
  have t4 := hT2.cell 4 (by omega)
  have t5 := hT2.cell 5 (by omega)
  have t6 := hT2.cell 6 (by omega)
  have z0 := (hT2 0 (by omega)).2
  have z1 := (hT2 1 (by omega)).2
  have z2 := (hT2 2 (by omega)).2
  have z3 := (hT2 3 (by omega)).2
  have z4 := (hT2 4 (by omega)).2
  have z5 := (hT2 5 (by omega)).2
  have z6 := (hT2 6 (by omega)).2
  have HT9 : Hid (There (w2.setCell ⟨w.heap.size, 4, none⟩ v') (w.heap.size + 1) 7) := There.out hT2 (by omega)
  have HB9 : Hid (Below w.heap.size w w2) := hB2
  subst hv'
  clear hown' hgrow hgb hWa hW2 hO2 hT2 hB2 hs2
  go_wp2_with fail
  obtain ⟨y0, y1, y2, y3, y4, y5, y6⟩ := set7_at (v0 := .int .i64 id) (v1 := .int .i64 la) (v2 := .int .i64 ki) (v3 := .int .i64 wi) (v4 := .slice a' n c') (v5 := .string lab) (v6 := .int .i64 pr) HT9.out
  exact bodyPost_ret (resC _ _ (w.heap.size + 1) _ _ _ _ _ _ _ rfl y0 y1 y2 y3 y4 y5 y6) rfl ⟨a', c', rfl, ((((((((HOWN.out.setB (by omega)).setB (by omega)).setB (by omega)).setB (by omega)).setB (by omega)).setB (by omega)).setB (by omega)).setB (by omega)), below7 (HB9.out.setCell (Nat.le_refl _) _) (Nat.le_succ _)⟩
theorem l2CopyOne_any {off : Nat} (id la ki wi : Int) (b n cap : Nat) (X Y : Nat → Int) (lab : ByteArray) (pr : Int) (w : World) (hp : PtsAt w b off n X Y) (hbl : b < w.heap.size) (hn : n ≤ 1048576) :
    Calls Tryz.prog 115 #[.agg #[.int .i64 id, .int .i64 la, .int .i64 ki, .int .i64 wi, .slice (some ⟨b, off, none⟩) n cap, .string lab, .int .i64 pr]] w fun e w' => ∃ a m c, e = .returned (.agg #[.int .i64 id, .int .i64 la, .int .i64 ki, .int .i64 wi, .slice a m c, .string lab, .int .i64 pr]) ∧ Below w.heap.size w w' :=
  (l2CopyOne_row id la ki wi b n cap X Y lab pr w hp hbl hn).mono fun e w' ⟨a, c, he, _, hb⟩ => ⟨a, n, c, he, hb⟩
end Go.Proofs.YtdohlnnbibnnbaaGreat
/- An append to a row of the call's own, as one step of a region that draws its order. -/

namespace Go.Proofs.YtdohlnnbibnnbaaGreat
open Go

theorem step_append_own {P : Program} {ops : Array Oper} {o : Oper} {a : Act} {w : World} {K : Act → World → Prop} {Q : Exit → Act → World → Prop} {E : Prop}
    (hg : o.guard = none) (s x : Operand) (t : TypeId) (hop : o.op = Op.call { callee := Callee.builtin Builtin.append, args := #[s, x], argTypes := #[t, t] })
    (base : Nat) (e : TypeId) (i : TypeInfo) (z : Value) (size bytes : Nat) (h1 : P.underlying t = some (.slice e)) (h2 : P.info? e = some i) (h3 : i.zero = some z) (h4 : i.size = size) (h5 : i.bytes = bytes) (h6 : z.cells.size = size) (h7 : 0 < size)
    (v : Value) (n : Nat) (xs : List Value) (hs : a.eval s = v) (hown : w.ownsRow base e size v n xs)
    (ad : Addr) (m c : Nat) (news : List Value) (hx : a.eval x = .slice (some ad) m c) (hn : news.length = m * size) (hc : ∀ j u, news[j]? = some u → w.cell? (ad.add j) = some u) (h1c : ∀ u ∈ news, u.oneCell' = true)
    (b1 : n + m ≤ maxLen) (b2 : (n + m) * bytes ≤ 140737488355328) (hbase : base ≤ w.heap.size)
    (hK : ∀ v' w', w'.ownsRow base e size v' (n + m) (xs ++ news) → w.grownBy w' v.ownBlock → (v' = .slice none 0 0 ↔ v = .slice none 0 0 ∧ m = 0) → K (a.put o.dst v') w') :
    if Region.wanted o (yielded ops a.tmps) = true then Oper.wp P o a w K Q else E := by
  have hw : Region.wanted o (yielded ops a.tmps) = true := by simp [Region.wanted, hg]
  rw [if_pos hw]
  obtain ⟨v', w', hrun, r1, r2, r3⟩ := run_append_own (P := P) w base t o.type e i z size bytes h1 h2 h3 h4 h5 h6 h7 v n xs hown ad m c news hn hc h1c b1 b2 hbase
  unfold Oper.wp
  simp [execOp, hop, resolve, invoke, builtin, hs, hx, hrun, Result.andThen]
  exact hK v' w' r1 r2 r3
end Go.Proofs.YtdohlnnbibnnbaaGreat
/- The model's sort of features. -/

namespace Go.Proofs.YtdohlnnbibnnbaaGreat
open Go.RowKit
set_option linter.unusedSimpArgs false
set_option linter.unusedVariables false
set_option maxRecDepth 100000

end Go.Proofs.YtdohlnnbibnnbaaGreat
/- Which blocks are written, and what stays. -/

namespace Go.Proofs.YtdohlnnbibnnbaaGreat
open Go.RowKit
set_option linter.unusedSimpArgs false
set_option linter.unusedVariables false
set_option maxRecDepth 100000

/-- Only blocks from lo to hi are written. -/
structure MidB (lo hi : Nat) (w w' : World) : Prop where
  os : w'.os = w.os
  tape : w'.tape = w.tape
  output : w'.output = w.output
  size : w.heap.size ≤ w'.heap.size
  block : ∀ k, k < w.heap.size → (k < lo ∨ hi ≤ k) → w'.heap[k]? = w.heap[k]?
theorem MidB.refl (lo hi : Nat) (w : World) : MidB lo hi w w := ⟨rfl, rfl, rfl, Nat.le_refl _, fun _ _ _ => rfl⟩
theorem MidB.trans {lo hi : Nat} {a b c : World} (h : MidB lo hi a b) (k : MidB lo hi b c) : MidB lo hi a c :=
  ⟨k.os.trans h.os, k.tape.trans h.tape, k.output.trans h.output, Nat.le_trans h.size k.size, fun i hi ho => (k.block i (Nat.lt_of_lt_of_le hi h.size) ho).trans (h.block i hi ho)⟩
theorem MidB.of_below {lo hi : Nat} {a b : World} (h : Below a.heap.size a b) : MidB lo hi a b := ⟨h.os, h.tape, h.output, h.size, fun i hi _ => h.block i hi⟩
theorem MidB.of_grown {lo hi s : Nat} {a b : World} (h : a.grownBy b (some s)) (h1 : lo ≤ s) (h2 : s < hi) : MidB lo hi a b :=
  ⟨h.os, h.tape, h.output, h.size, fun j hj ho => h.block j hj (fun e => by injection e with e; omega)⟩
theorem MidB.set {lo hi s : Nat} {a b : World} (h : MidB lo hi a b) (h1 : lo ≤ s) (h2 : s < hi) (o : Nat) (v : Value) : MidB lo hi a (b.setCell ⟨s, o, none⟩ v) :=
  h.trans ⟨rfl, rfl, rfl, by simp [World.setCell], fun j _ ho => Below.heap_setCell _ _ _ _ (fun e => by simp at e; omega)⟩
theorem MidB.below {lo hi : Nat} {a b : World} (h : MidB lo hi a b) (hl : lo ≤ a.heap.size) : Below lo a b := ⟨h.os, h.tape, h.output, h.size, fun k hk => h.block k (by omega) (.inl hk)⟩
theorem MidB.cell {lo hi : Nat} {a b : World} (h : MidB lo hi a b) {p o : Nat} {v : Value} (hc : a.cell? ⟨p, o, none⟩ = some v) (ho : p < lo ∨ hi ≤ p) : b.cell? ⟨p, o, none⟩ = some v := by
  have hp := World.block_lt_of_cell? _ _ hc
  have he := h.block p hp ho
  unfold World.cell? at hc ⊢
  simp only [he]
  exact hc
theorem MidB.there {lo hi : Nat} {a b : World} (h : MidB lo hi a b) {p n : Nat} (hT : There a p n) (ho : p < lo ∨ hi ≤ p) : There b p n := fun o hn => by
  obtain ⟨v, hv⟩ := (hT o hn).1
  refine ⟨⟨v, h.cell hv ho⟩, ?_⟩
  have he := h.block p (World.block_lt_of_cell? _ _ hv) ho
  have hz := (hT o hn).2
  unfold World.frozen? at hz ⊢
  simp only [he]
  exact hz
end Go.Proofs.YtdohlnnbibnnbaaGreat
/- Which blocks are written, and what stays. -/

namespace Go.Proofs.YtdohlnnbibnnbaaGreat
open Go.RowKit
set_option linter.unusedSimpArgs false
set_option linter.unusedVariables false
set_option maxRecDepth 100000

theorem There.grown {w w' : World} {p n s : Nat} (h : There w p n) (hg : w.grownBy w' (some s)) (hs : p ≠ s) : There w' p n := fun o hn => by
  obtain ⟨v, hv⟩ := (h o hn).1
  refine ⟨⟨v, gr_cell hg hv hs⟩, ?_⟩
  have he := hg.block p (World.block_lt_of_cell? _ _ hv) (fun e => hs (by injection e))
  have hz := (h o hn).2
  unfold World.frozen? at hz ⊢
  simp only [he]
  exact hz
end Go.Proofs.YtdohlnnbibnnbaaGreat
/- Lists of features in memory of their own: which blocks are written, and what stays. -/

namespace Go.Proofs.YtdohlnnbibnnbaaGreat
open Go.RowKit
set_option linter.unusedSimpArgs false
set_option linter.unusedVariables false
set_option maxRecDepth 100000

/-- A list of features whose blocks lie from lo to hi and may be written, no two alike. -/
def OwnQ (w : World) (lo hi b n : Nat) (N C q : Nat → Nat) : Prop :=
  (lo ≤ b ∧ b < hi ∧ hi ≤ w.heap.size) ∧ There w b (n * 7) ∧
  (∀ i, i < n → (lo ≤ q i ∧ q i < hi ∧ q i ≠ b) ∧ There w (q i) (N i * 2) ∧ w.cell? ⟨b, i * 7 + 4, none⟩ = some (.slice (some ⟨q i, 0, none⟩) (N i) (C i))) ∧
  (∀ i j, i < n → j < n → q i = q j → i = j)
theorem OwnQ.below {w w' : World} {lo hi b n : Nat} {N C q : Nat → Nat} (h : OwnQ w lo hi b n N C q) (hb : Below w.heap.size w w') : OwnQ w' lo hi b n N C q := by
  obtain ⟨⟨h1, h2, h3⟩, h4, h5, h6⟩ := h
  exact ⟨⟨h1, h2, Nat.le_trans h3 hb.size⟩, h4.below hb, fun i hi => ⟨(h5 i hi).1, (h5 i hi).2.1.below hb, bl_cell hb (h5 i hi).2.2⟩, h6⟩
end Go.Proofs.YtdohlnnbibnnbaaGreat
/- The program's SortFeatures: the same features, sorted, in memory of its own. -/

namespace Go.Proofs.YtdohlnnbibnnbaaGreat
open Go.RowKit
set_option linter.unusedSimpArgs false
set_option linter.unusedVariables false
set_option maxRecDepth 100000

/-- The places of a list without a fault, sorted. -/
def srtF (n : Nat) (G : Nat → Feat) : List Nat := srtK (fun i => (G i).la) (fun i => (G i).id) n
theorem srtF_lt (n : Nat) (G : Nat → Feat) (i : Nat) (hi : i < n) : (srtF n G).getD i 0 < n := by
  have hl : (srtF n G).length = n := srtK_len _ _ n
  refine (srtK_mem (fun i => (G i).la) (fun i => (G i).id) n _).1 ?_
  rw [List.getD_eq_getElem?_getD, List.getElem?_eq_getElem (by rw [hl]; exact hi)]
  exact List.getElem_mem _
theorem srtF_inj (n : Nat) (G : Nat → Feat) (i j : Nat) (hi : i < n) (hj : j < n) (h : (srtF n G).getD i 0 = (srtF n G).getD j 0) : i = j := by
  have hl : (srtF n G).length = n := srtK_len _ _ n
  have hnd : (srtF n G).Nodup := (srtK_perm (fun i => (G i).la) (fun i => (G i).id) n).nodup_iff.2 List.nodup_range
  rw [List.getD_eq_getElem?_getD, List.getD_eq_getElem?_getD, List.getElem?_eq_getElem (by rw [hl]; exact hi), List.getElem?_eq_getElem (by rw [hl]; exact hj)] at h
  exact (List.getElem_inj (xs := srtF n G) hnd).1 h
end Go.Proofs.YtdohlnnbibnnbaaGreat
