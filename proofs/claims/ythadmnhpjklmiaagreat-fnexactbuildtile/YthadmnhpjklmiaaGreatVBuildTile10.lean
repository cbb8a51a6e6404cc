/- Several texts in one. -/
import Derived.Test.YthadmnhpjklmiaaGreatVBuildTile7
import Derived.Test.YthadmnhpjklmiaaGreatVBuildTile5
import Derived.Test.YthadmnhpjklmiaaGreatVBuildTile9
import Derived.Deep.DeepCutAuto
import Derived.Deep.RegionLawGrows
import Derived.OwnWalk
import Derived.Test.YthadmnhpjklmiaaGreatVBuildTile3
import Derived.Test.YthadmnhpjklmiaaGreatRows
import Derived.Test.YthadmnhpjklmiaaGreatVBuildTile1
import Derived.WalkKit
import Derived.WalkSpells
import Derived.WalkLawsBesides
import Derived.Outline
import Derived.Test.YthadmnhpjklmiaaGreatVBuildTile8
import Derived.Sort.Grow
import Derived.Shelf.SlSortCmp.NoneTotal

/- Rows of points beside other blocks; a block that holds a feature. -/

namespace Go.Proofs.YthadmnhpjklmiaaGreat
open Go.RowKit
set_option linter.unusedSimpArgs false
set_option linter.unusedVariables false
set_option maxRecDepth 100000

theorem ownsRow_of {w w' : World} {base size n : Nat} {e : TypeId} {v : Value} {xs : List Value} (h : w.ownsRow base e size v n xs) (hk : ∀ g, v.ownBlock = some g → w'.heap[g]? = w.heap[g]?) : w'.ownsRow base e size v n xs := by
  obtain ⟨h1, h2 | ⟨g, cp, cur, hv, hg, hh, hr⟩⟩ := h
  · exact ⟨h1, .inl h2⟩
  · refine ⟨h1, .inr ⟨g, cp, cur, hv, hg, ?_, hr⟩⟩
    rw [hk g (by rw [hv]; rfl)]
    exact hh

theorem there7 (V : World) (v0 v1 v2 v3 v4 v5 v6 : Value) (t : TypeId) : There (V.alloc (.cells #[v0, v1, v2, v3, v4, v5, v6] t)) V.heap.size 7 := fun o ho => by
  refine ⟨⟨#[v0, v1, v2, v3, v4, v5, v6][o]'(by simpa using ho), ?_⟩, World.frozen?_alloc_at _ _ _ _ rfl⟩
  rw [World.cell?_alloc_at _ _ _ _ rfl]
  exact Array.getElem?_eq_getElem _
/-- Block O holds a feature with the points v. -/
def OutAt (w : World) (O : Nat) (id la ki wi : Int) (v : Value) (lab : ByteArray) (pr : Int) : Prop := w.heap[O]? = some (Obj.cells #[.int .i64 id, .int .i64 la, .int .i64 ki, .int .i64 wi, v, .string lab, .int .i64 pr] 55 (0, 0))
theorem OutAt.cells {w : World} {O : Nat} {id la ki wi pr : Int} {v : Value} {lab : ByteArray} (h : OutAt w O id la ki wi v lab pr) :
    (w.cell? ⟨O, 0, none⟩ = some (.int .i64 id) ∧ w.cell? ⟨O, 1, none⟩ = some (.int .i64 la) ∧ w.cell? ⟨O, 2, none⟩ = some (.int .i64 ki) ∧ w.cell? ⟨O, 3, none⟩ = some (.int .i64 wi) ∧ w.cell? ⟨O, 4, none⟩ = some v ∧ w.cell? ⟨O, 5, none⟩ = some (.string lab) ∧ w.cell? ⟨O, 6, none⟩ = some (.int .i64 pr)) ∧ w.frozen? ⟨O, 4, none⟩ = false := by
  unfold OutAt at h
  refine ⟨⟨?_, ?_, ?_, ?_, ?_, ?_, ?_⟩, ?_⟩ <;> simp [World.cell?, World.frozen?, h]
theorem OutAt.lt {w : World} {O : Nat} {id la ki wi pr : Int} {v : Value} {lab : ByteArray} (h : OutAt w O id la ki wi v lab pr) : O < w.heap.size := lt_of_heap h
theorem There.out {w : World} {O r n : Nat} {x : Value} (h : There w r n) (hne : O ≠ r) : There (w.setCell ⟨O, 4, none⟩ x) r n := fun o ho => by
  obtain ⟨u, hu⟩ := (h o ho).1
  exact ⟨⟨u, by rw [set1_other (fun e => hne (by injection e))]; exact hu⟩, by rw [World.frozen?_setCell]; exact (h o ho).2⟩
theorem below7 {B r : Nat} {w W : World} {v0 v1 v2 v3 v4 v5 v6 : Value} (h : Below B w W) (hr : B ≤ r) : Below B w ((((((((W.setCell ⟨r, 0, none⟩ v0).setCell ⟨r, 1, none⟩ v1).setCell ⟨r, 2, none⟩ v2).setCell ⟨r, 3, none⟩ v3).setCell ⟨r, 4, none⟩ v4).setCell ⟨r, 5, none⟩ v5).setCell ⟨r, 6, none⟩ v6)) :=
  (((((((h.setCell (p := ⟨r, 0, none⟩) hr v0).setCell (p := ⟨r, 1, none⟩) hr v1).setCell (p := ⟨r, 2, none⟩) hr v2).setCell (p := ⟨r, 3, none⟩) hr v3).setCell (p := ⟨r, 4, none⟩) hr v4).setCell (p := ⟨r, 5, none⟩) hr v5).setCell (p := ⟨r, 6, none⟩) hr v6)
/-- What holds no points is as it was. -/
def NP (w w' : World) : Prop := ∀ (k : Nat) (cur : Array Value) (t : TypeId) (fz : Nat × Nat), w.heap[k]? = some (Obj.cells cur t fz) → t ≠ 84 → w'.heap[k]? = some (Obj.cells cur t fz)
theorem NP.refl (w : World) : NP w w := fun _ _ _ _ h _ => h
theorem NP.trans {a b c : World} (h : NP a b) (k : NP b c) : NP a c := fun i cur t fz h1 h2 => k i cur t fz (h i cur t fz h1 h2) h2
theorem NP.of_below {w w' : World} (h : Below w.heap.size w w') : NP w w' := fun k cur t fz h1 _ => (h.block k (lt_of_heap h1)).trans h1
theorem NP.of_grown {base : Nat} {w w' : World} {v : Value} {l : List (Int × Int)} (hR : Row base w v l) (hg : w.grownBy w' v.ownBlock) : NP w w' := fun k cur t fz h1 h2 => by
  refine (hg.block k (lt_of_heap h1) (fun e => ?_)).trans h1
  obtain ⟨cur', hc⟩ := heap_of_row hR k e.symm
  rw [h1] at hc
  injection hc with hc
  injection hc with _ hc2
  exact h2 hc2
theorem Row.other {base p o : Nat} {w : World} {v u : Value} {l : List (Int × Int)} {cur : Array Value} {t : TypeId} {fz : Nat × Nat} (h : Row base w v l) (hp : w.heap[p]? = some (Obj.cells cur t fz)) (ht : t ≠ 84) : Row base (w.setCell ⟨p, o, none⟩ u) v l := by
  refine ownsRow_of h fun g hg => Below.heap_setCell _ _ _ _ (fun e => ?_)
  obtain ⟨cur', hc⟩ := heap_of_row h g hg
  simp at e
  subst e
  rw [hp] at hc
  injection hc with hc
  injection hc with _ hc2
  exact ht hc2
theorem OutAt.set {w : World} {O : Nat} {id la ki wi pr : Int} {v v' : Value} {lab : ByteArray} (h : OutAt w O id la ki wi v lab pr) : OutAt (w.setCell ⟨O, 4, none⟩ v') O id la ki wi v' lab pr := by
  have := heap_setCell_same w O 4 _ 55 v' h
  simpa [OutAt] using this
theorem OutAt.below {w w' : World} {O : Nat} {id la ki wi pr : Int} {v : Value} {lab : ByteArray} (h : OutAt w O id la ki wi v lab pr) (hb : Below w.heap.size w w') : OutAt w' O id la ki wi v lab pr := (hb.block O h.lt).trans h
theorem OutAt.np {w w' : World} {O : Nat} {id la ki wi pr : Int} {v : Value} {lab : ByteArray} (h : OutAt w O id la ki wi v lab pr) (hn : NP w w') : OutAt w' O id la ki wi v lab pr := hn _ _ _ _ h (by decide)
theorem Row.out {base : Nat} {w : World} {O : Nat} {id la ki wi pr : Int} {v u x : Value} {lab : ByteArray} {l : List (Int × Int)} (h : Row base w u l) (ho : OutAt w O id la ki wi v lab pr) : Row base (w.setCell ⟨O, 4, none⟩ x) u l := Row.other h ho (by decide)
theorem Row.wide {base B : Nat} {w : World} {v : Value} {l : List (Int × Int)} (h : Row base w v l) (hB : B ≤ base) : Row B w v l := by
  obtain ⟨h1, h2 | ⟨g, cp, cur, hv, hg, hr⟩⟩ := h
  · exact ⟨h1, .inl h2⟩
  · exact ⟨h1, .inr ⟨g, cp, cur, hv, by omega, hr⟩⟩
theorem Row.no (base : Nat) (w : World) : Row base w (.slice none 0 0) [] := World.ownsRow_nil _ _ _ _
/-- A row that is not empty. -/
theorem Row.at {base : Nat} {w : World} {v : Value} {l : List (Int × Int)} (h : Row base w v l) (hne : 0 < l.length) :
    ∃ g cap, v = .slice (some ⟨g, 0, none⟩) l.length cap ∧ base ≤ g ∧ g < w.heap.size ∧ l.length ≤ cap ∧ PtsAt w g 0 l.length (px l) (py l) := by
  obtain ⟨a, cap, hv, hc, h0 | ⟨b, rfl, hb, hl, hp, ht⟩⟩ := h.own
  · omega
  · exact ⟨b, cap, hv, hb, hl, hc, hp⟩
theorem Row.set7 {base B r : Nat} {w : World} {v : Value} {l : List (Int × Int)} {v0 v1 v2 v3 v4 v5 v6 : Value} (h : Row base w v l) (hB : B ≤ base) (hr : r < base) : Row B ((((((((w.setCell ⟨r, 0, none⟩ v0).setCell ⟨r, 1, none⟩ v1).setCell ⟨r, 2, none⟩ v2).setCell ⟨r, 3, none⟩ v3).setCell ⟨r, 4, none⟩ v4).setCell ⟨r, 5, none⟩ v5).setCell ⟨r, 6, none⟩ v6)) v l := by
  obtain ⟨h1, h2 | ⟨g, cp, cur, hv, hg, hh, hr'⟩⟩ := h
  · exact ⟨h1, .inl h2⟩
  · refine ⟨h1, .inr ⟨g, cp, cur, hv, by omega, ?_, hr'⟩⟩
    rw [Below.heap_setCell _ _ _ _ (by simp; omega), Below.heap_setCell _ _ _ _ (by simp; omega), Below.heap_setCell _ _ _ _ (by simp; omega), Below.heap_setCell _ _ _ _ (by simp; omega), Below.heap_setCell _ _ _ _ (by simp; omega), Below.heap_setCell _ _ _ _ (by simp; omega), Below.heap_setCell _ _ _ _ (by simp; omega)]
    exact hh
end Go.Proofs.YthadmnhpjklmiaaGreat
/- The model's copy of a feature. -/

namespace Go.Proofs.YthadmnhpjklmiaaGreat
open Go.RowKit
set_option linter.unusedSimpArgs false
set_option linter.unusedVariables false
set_option maxRecDepth 100000

theorem resC (T : Array Value) (Wf : World) (r : Nat) (v0 v1 v2 v3 v4 v5 v6 : Value) (hT : T[2]?.getD undef = .pointer (some ⟨r, 0, none⟩)) (h0 : Wf.cell? ⟨r, 0, none⟩ = some v0) (h1 : Wf.cell? ⟨r, 1, none⟩ = some v1) (h2 : Wf.cell? ⟨r, 2, none⟩ = some v2) (h3 : Wf.cell? ⟨r, 3, none⟩ = some v3) (h4 : Wf.cell? ⟨r, 4, none⟩ = some v4) (h5 : Wf.cell? ⟨r, 5, none⟩ = some v5) (h6 : Wf.cell? ⟨r, 6, none⟩ = some v6) :
    (results Tryz.f104 T).run Tryz.prog Wf = .ok (.agg #[v0, v1, v2, v3, v4, v5, v6]) Wf := by
  simp [results, Tryz.results104, go_sem, hT, h0, h1, h2, h3, h4, h5, h6]

set_option maxRecDepth 8000 in
set_option maxHeartbeats 4000000 in
theorem l2CopyOne_row {off : Nat} (id la ki wi : Int) (b n cap : Nat) (X Y : Nat → Int) (lab : ByteArray) (pr : Int) (w : World) (hp : PtsAt w b off n X Y) (hbl : b < w.heap.size) (hn : n ≤ 1048576) :
    Calls Tryz.prog 104 #[.agg #[.int .i64 id, .int .i64 la, .int .i64 ki, .int .i64 wi, .slice (some ⟨b, off, none⟩) n cap, .string lab, .int .i64 pr]] w fun e w' => ∃ a c, e = .returned (.agg #[.int .i64 id, .int .i64 la, .int .i64 ki, .int .i64 wi, .slice a n c, .string lab, .int .i64 pr]) ∧ Row (w.heap.size + 1 + 1) w' (.slice a n c) (ptsOf X Y (List.range n)) ∧ Below w.heap.size w w' := by
  obtain ⟨i0, hi, hz0, hz1, hz2⟩ := info_parts (show (Tryz.prog.info? 84).map (fun i => (i.zero, i.size, i.bytes)) = some (some (.agg #[.int .i64 0, .int .i64 0]), 2, 16) by kernel_rfl)
  have HP : Hid (PtsAt w b off n X Y) := hp
  have HLEN : Hid ((ptsOf X Y (List.range n)).length = n) := by show _ = _; simp [ptsOf]
  clear hp
  obtain ⟨W, hWd⟩ : ∃ W, W = (((w.alloc (.cells #[.int .i64 id, .int .i64 la, .int .i64 ki, .int .i64 wi, .slice (some ⟨b, off, none⟩) n cap, .string lab, .int .i64 pr] 55)).alloc (.cells #[.int .i64 0, .int .i64 0, .int .i64 0, .int .i64 0, .slice none 0 0, .string ⟨#[]⟩, .int .i64 0] 55)) : World) := ⟨_, rfl⟩
  have hB0 : Below w.heap.size w W := by subst hWd; (repeat (first | exact Below.refl _ _ | assumption | refine Below.drew ?_ | refine bl_alloc ?_ _ | refine bl_then ?_ (by assumption) | refine Below.setCell ?_ (by first | omega | (simp; done) | (simp; omega)) _ | refine bl_store ?_ ?_ _ _))
  have hO : OutAt W w.heap.size id la ki wi (.slice (some ⟨b, off, none⟩) n cap) lab pr := by
    subst hWd
    unfold OutAt
    rw [Below.heap_alloc _ _ _ (by simp)]
    exact heap_alloc_new w _
  have hT : There W (w.heap.size + 1) 7 := by
    subst hWd
    have := there7 (w.alloc (.cells #[.int .i64 id, .int .i64 la, .int .i64 ki, .int .i64 wi, .slice (some ⟨b, off, none⟩) n cap, .string lab, .int .i64 pr] 55)) (.int .i64 0) (.int .i64 0) (.int .i64 0) (.int .i64 0) (.slice none 0 0) (.string ⟨#[]⟩) (.int .i64 0) 55
    simpa using this
  have hsW : W.heap.size = w.heap.size + 2 := by subst hWd; simp
  have HB0 := (show Hid _ from hB0)
  have HO := (show Hid _ from hO)
  have HT : Hid (There W (w.heap.size + 1) 7) := hT
  have HSW := (show Hid _ from hsW)
  have HWD := (show Hid _ from hWd)
  clear hB0 hO hT hsW hWd
  go_enter Tryz.func104, Tryz.ntmps104
  go_wp2_with (first
    | (at_builtin; go_must (refine wpList_append_own _ rfl _ _ 53 rfl (w.heap.size + 1 + 1) 84 i0 (.agg #[.int .i64 0, .int .i64 0]) 2 16 Tryz.underlying53 hi hz0 hz1 hz2 rfl (by decide) (.slice (some ⟨w.heap.size + 1 + 1, 0, none⟩) 0 0) 0 [] rfl ?c6 ⟨b, off, none⟩ n cap (cellsL (ptsOf X Y (List.range n))) rfl ?c0 ?c1 ?c2 ?c3 ?c4 ?c5 ?_)))
  case c6 =>
    have := World.ownsRow_lit (base := w.heap.size + 1 + 1) (e := 84) (size := 2) W #[] 0 (by rw [HSW.out]; exact Nat.le_refl _) (Nat.zero_le _) rfl
    rw [HSW.out, HWD.out] at this
    exact this
  case c0 => rw [cellsL_len, HLEN.out]
  case c1 =>
    intro q u hq
    have hb : Below w.heap.size w (W.alloc (.cells #[] 84)) := bl_alloc HB0.out _
    rw [HWD.out] at hb
    have h1 := pts_cellsO (HP.out.below hb hbl) q u hq
    by_cases hq0 : q = 0
    · subst hq0; simpa [Addr.add] using h1
    · simpa [Addr.add, hq0] using h1
  case c2 =>
    intro u hu
    unfold cellsL at hu
    rw [List.mem_flatMap] at hu
    obtain ⟨p, _, hp⟩ := hu
    simp at hp
    rcases hp with rfl | rfl <;> rfl
  case c3 => unfold maxLen; omega
  case c4 => omega
  case c5 => first | omega | (simp; done) | (simp; omega)
  intro v' w2 hown' hgrow hnil
  clear hnil
  obtain ⟨a', c', hv'⟩ : ∃ a' c', v' = .slice a' n c' := by
    obtain ⟨_, h2 | ⟨g, cp, cur, hv, _⟩⟩ := hown'
    · exact ⟨none, 0, by have e := h2.2; have e2 : n = 0 := by omega
                         subst e2; exact h2.1⟩
    · exact ⟨_, cp, by rw [hv]⟩
  have HOWN : Hid (Row (w.heap.size + 1 + 1) w2 v' (ptsOf X Y (List.range n))) := by
    show Row _ _ _ _
    unfold Row
    rw [HLEN.out]
    simpa using hown'
  have hgb : Below (w.heap.size + 1 + 1) (W.alloc (.cells #[] 84)) w2 := by
    rw [HWD.out]
    exact (Below.refl _ _).grown hgrow (by simp) (fun k hk => by simp [Value.ownBlock] at hk; omega)
  have hWa : Below W.heap.size W (W.alloc (.cells #[] 84)) := (Below.refl _ _).alloc (Nat.le_refl _) _
  have hW2 : Below (w.heap.size + 2) W w2 := (hWa.mono (by rw [HSW.out]; exact Nat.le_refl _)).trans hgb
  have hO2 : OutAt w2 w.heap.size id la ki wi (.slice (some ⟨b, off, none⟩) n cap) lab pr := (hW2.block _ (by omega)).trans HO.out
  have hT2 : There w2 (w.heap.size + 1) 7 := There.belowB' HT.out hW2 (by omega)
  have hB2 : Below w.heap.size w w2 := HB0.out.trans (hW2.mono (by omega))
  have hs2 : w.heap.size + 2 < w2.heap.size ∨ True := .inr trivial
  obtain ⟨⟨u0, u1, u2, u3, u4, u5, u6⟩, f4⟩ := hO2.cells
  have hlw := hO2.lt
  have t0 := hT2.cell 0 (by omega)
  have t1 := hT2.cell 1 (by omega)
  have t2 := hT2.cell 2 (by omega)
  have t3 := hT2.cell 3 (by omega)
  have t4 := hT2.cell 4 (by omega)
  have t5 := hT2.cell 5 (by omega)
  have t6 := hT2.cell 6 (by omega)
  have z0 := (hT2 0 (by omega)).2
  have z1 := (hT2 1 (by omega)).2
  have z2 := (hT2 2 (by omega)).2
  have z3 := (hT2 3 (by omega)).2
  have z4 := (hT2 4 (by omega)).2
  have z5 := (hT2 5 (by omega)).2
  have z6 := (hT2 6 (by omega)).2
  have HT9 : Hid (There (w2.setCell ⟨w.heap.size, 4, none⟩ v') (w.heap.size + 1) 7) := There.out hT2 (by omega)
  have HB9 : Hid (Below w.heap.size w w2) := hB2
  subst hv'
  clear hown' hgrow hgb hWa hW2 hO2 hT2 hB2 hs2
  go_wp2_with fail
  obtain ⟨y0, y1, y2, y3, y4, y5, y6⟩ := set7_at (v0 := .int .i64 id) (v1 := .int .i64 la) (v2 := .int .i64 ki) (v3 := .int .i64 wi) (v4 := .slice a' n c') (v5 := .string lab) (v6 := .int .i64 pr) HT9.out
  exact bodyPost_ret (resC _ _ (w.heap.size + 1) _ _ _ _ _ _ _ rfl y0 y1 y2 y3 y4 y5 y6) rfl ⟨a', c', rfl, ((((((((HOWN.out.setB (by omega)).setB (by omega)).setB (by omega)).setB (by omega)).setB (by omega)).setB (by omega)).setB (by omega)).setB (by omega)), below7 (HB9.out.setCell (Nat.le_refl _) _) (Nat.le_succ _)⟩
theorem l2CopyOne_any {off : Nat} (id la ki wi : Int) (b n cap : Nat) (X Y : Nat → Int) (lab : ByteArray) (pr : Int) (w : World) (hp : PtsAt w b off n X Y) (hbl : b < w.heap.size) (hn : n ≤ 1048576) :
    Calls Tryz.prog 104 #[.agg #[.int .i64 id, .int .i64 la, .int .i64 ki, .int .i64 wi, .slice (some ⟨b, off, none⟩) n cap, .string lab, .int .i64 pr]] w fun e w' => ∃ a m c, e = .returned (.agg #[.int .i64 id, .int .i64 la, .int .i64 ki, .int .i64 wi, .slice a m c, .string lab, .int .i64 pr]) ∧ Below w.heap.size w w' :=
  (l2CopyOne_row id la ki wi b n cap X Y lab pr w hp hbl hn).mono fun e w' ⟨a, c, he, _, hb⟩ => ⟨a, n, c, he, hb⟩
end Go.Proofs.YthadmnhpjklmiaaGreat
/- An append to a row of the call's own, as one step of a region that draws its order. -/

namespace Go.Proofs.YthadmnhpjklmiaaGreat
open Go

theorem step_append_own {P : Program} {ops : Array Oper} {o : Oper} {a : Act} {w : World} {K : Act → World → Prop} {Q : Exit → Act → World → Prop} {E : Prop}
    (hg : o.guard = none) (s x : Operand) (t : TypeId) (hop : o.op = Op.call { callee := Callee.builtin Builtin.append, args := #[s, x], argTypes := #[t, t] })
    (base : Nat) (e : TypeId) (i : TypeInfo) (z : Value) (size bytes : Nat) (h1 : P.underlying t = some (.slice e)) (h2 : P.info? e = some i) (h3 : i.zero = some z) (h4 : i.size = size) (h5 : i.bytes = bytes) (h6 : z.cells.size = size) (h7 : 0 < size)
    (v : Value) (n : Nat) (xs : List Value) (hs : a.eval s = v) (hown : w.ownsRow base e size v n xs)
    (ad : Addr) (m c : Nat) (news : List Value) (hx : a.eval x = .slice (some ad) m c) (hn : news.length = m * size) (hc : ∀ j u, news[j]? = some u → w.cell? (ad.add j) = some u) (h1c : ∀ u ∈ news, u.oneCell' = true)
    (b1 : n + m ≤ maxLen) (b2 : (n + m) * bytes ≤ 140737488355328) (hbase : base ≤ w.heap.size)
    (hK : ∀ v' w', w'.ownsRow base e size v' (n + m) (xs ++ news) → w.grownBy w' v.ownBlock → (v' = .slice none 0 0 ↔ v = .slice none 0 0 ∧ m = 0) → K (a.put o.dst v') w') :
    if Region.wanted o (yielded ops a.tmps) = true then Oper.wp P o a w K Q else E := by
  have hw : Region.wanted o (yielded ops a.tmps) = true := by simp [Region.wanted, hg]
  rw [if_pos hw]
  obtain ⟨v', w', hrun, r1, r2, r3⟩ := run_append_own (P := P) w base t o.type e i z size bytes h1 h2 h3 h4 h5 h6 h7 v n xs hown ad m c news hn hc h1c b1 b2 hbase
  unfold Oper.wp
  simp [execOp, hop, resolve, invoke, builtin, hs, hx, hrun, Result.andThen]
  exact hK v' w' r1 r2 r3
end Go.Proofs.YthadmnhpjklmiaaGreat
/- The model's sort of features. -/

namespace Go.Proofs.YthadmnhpjklmiaaGreat
open Go.RowKit
set_option linter.unusedSimpArgs false
set_option linter.unusedVariables false
set_option maxRecDepth 100000

end Go.Proofs.YthadmnhpjklmiaaGreat
/- Numbers are compared; only new blocks are laid. -/

namespace Go.Proofs.YthadmnhpjklmiaaGreat
open Go.RowKit
set_option linter.unusedSimpArgs false
set_option linter.unusedVariables false
set_option maxRecDepth 100000

def cmpI (x y : Int) : Int := if x < y then -1 else if y < x then 1 else 0
theorem cmpCompare_any (x y : Int) (w : World) : Calls Tryz.prog 85 #[.int .i64 x, .int .i64 y] w fun e w' => e = .returned (.int .i64 (cmpI x y)) ∧ w' = w := by
  unfold cmpI
  by_cases h1 : x < y
  · rw [if_pos h1]
    go_enter Tryz.func85, Tryz.ntmps85
    go_wp2
    go_ret
    exact ⟨rfl, rfl⟩
  · rw [if_neg h1]
    by_cases h2 : y < x
    · rw [if_pos h2]
      go_enter Tryz.func85, Tryz.ntmps85
      go_wp2
      go_ret
      exact ⟨rfl, rfl⟩
    · rw [if_neg h2]
      go_enter Tryz.func85, Tryz.ntmps85
      go_wp2
      go_ret
      exact ⟨rfl, rfl⟩
/-- Only new blocks, and draws. -/
def Gro (V W' : World) : Prop := Below V.heap.size V W' ∧ V.drawn ≤ W'.drawn
theorem Gro.refl (V : World) : Gro V V := ⟨Below.refl _ _, Nat.le_refl _⟩
theorem Gro.trans {a b c : World} (h : Gro a b) (k : Gro b c) : Gro a c := ⟨bl_then h.1 k.1, Nat.le_trans h.2 k.2⟩
theorem Gro.alloc {a b : World} (h : Gro a b) (o : Obj) : Gro a (b.alloc o) := ⟨bl_alloc h.1 o, h.2⟩
theorem Gro.drew {a b : World} (h : Gro a b) : Gro a b.drew := ⟨h.1.drew, Nat.le_trans h.2 (Nat.le_succ _)⟩
end Go.Proofs.YthadmnhpjklmiaaGreat
/- Features are compared: by layer, of the same by id; only new blocks are laid. -/

namespace Go.Proofs.YthadmnhpjklmiaaGreat
open Go.RowKit
set_option linter.unusedSimpArgs false
set_option linter.unusedVariables false
set_option maxRecDepth 100000

def orI (x y : Int) : Int := if x = 0 then y else x
set_option maxHeartbeats 2000000 in
theorem cmpOr_any (b c : Nat) (x y : Int) (w : World) (h0 : w.cell? ⟨b, 0, none⟩ = some (.int .i64 x)) (h1 : w.cell? ⟨b, 1, none⟩ = some (.int .i64 y)) : Calls Tryz.prog 84 #[.slice (some ⟨b, 0, none⟩) 2 c] w fun e w' => e = .returned (.int .i64 (orI x y)) ∧ w' = w := by
  unfold orI
  by_cases hx : x = 0
  · subst hx
    by_cases hy : y = 0
    · subst hy
      go_enter Tryz.func84, Tryz.ntmps84
      go_wp2
      refine wp_loop_rounds 3 ?_
      rw [rounds_succ]
      go_wp2
      rw [rounds_succ]
      go_wp2
      rw [rounds_succ]
      go_wp2
      go_ret
      exact ⟨by simp, rfl⟩
    · have hy' : (y == 0) = false := by simpa using hy
      go_enter Tryz.func84, Tryz.ntmps84
      go_wp2
      refine wp_loop_rounds 2 ?_
      rw [rounds_succ]
      go_wp2
      rw [rounds_succ]
      go_wp2
      go_ret
      exact ⟨by simp, rfl⟩
  · have hx' : (x == 0) = false := by simpa using hx
    rw [if_neg hx]
    go_enter Tryz.func84, Tryz.ntmps84
    go_wp2
    refine wp_loop_rounds 1 ?_
    rw [rounds_succ]
    go_wp2
    go_ret
    exact ⟨rfl, rfl⟩
/-- What comparing two features tells. -/
def cmpF (f g : Feat) : Int := orI (cmpI f.la g.la) (cmpI f.id g.id)
set_option maxHeartbeats 4000000 in
theorem compareFeatures_gro (f g : Feat) (w : World) : Calls Tryz.prog 56 #[.agg (fcell f).toArray, .agg (fcell g).toArray] w fun e w' => e = .returned (.int .i64 (cmpF f g)) ∧ Gro w w' := by
  unfold cmpF
  generalize hA : cmpI f.la g.la = A
  generalize hB : cmpI f.id g.id = B
  have H1 : Hid (∀ W, Calls Tryz.prog 85 #[.int .i64 f.la, .int .i64 g.la] W fun e w' => e = .returned (.int .i64 A) ∧ w' = W) := fun W => by subst hA; exact cmpCompare_any _ _ _
  have H2 : Hid (∀ W, Calls Tryz.prog 85 #[.int .i64 f.id, .int .i64 g.id] W fun e w' => e = .returned (.int .i64 B) ∧ w' = W) := fun W => by subst hB; exact cmpCompare_any _ _ _
  clear hA hB
  unfold fcell
  go_enter Tryz.func56, Tryz.ntmps56
  go_wp2_with fail
  generalize hV : ((w.alloc _).alloc _ : World) = V
  have hB0 : Gro w V := by subst hV; exact ((Gro.refl _).alloc _).alloc _
  have c0 : ∀ W', Gro V W' → W'.cell? ⟨w.heap.size, 0, none⟩ = some (.int .i64 f.id) := fun W' h => by
    rw [h.1.cell (by subst hV; simp <;> omega)]; subst hV; simp [go_sem]
  have c1 : ∀ W', Gro V W' → W'.cell? ⟨w.heap.size, 1, none⟩ = some (.int .i64 f.la) := fun W' h => by
    rw [h.1.cell (by subst hV; simp <;> omega)]; subst hV; simp [go_sem]
  have d0 : ∀ W', Gro V W' → W'.cell? ⟨w.heap.size + 1, 0, none⟩ = some (.int .i64 g.id) := fun W' h => by
    rw [h.1.cell (by subst hV; simp <;> omega)]; subst hV; simp [go_sem]
  have d1 : ∀ W', Gro V W' → W'.cell? ⟨w.heap.size + 1, 1, none⟩ = some (.int .i64 g.la) := fun W' h => by
    rw [h.1.cell (by subst hV; simp <;> omega)]; subst hV; simp [go_sem]
  clear hV
  refine wp_region_noPanic ?_
  refine wp_region_held_drew (S := fun W' => Gro V W') (by kernel_rfl) ((Gro.refl V).drew) (fun hHeld => ?_)
  have hBd : Gro V V.drew := hHeld
  refine takeD (i := 0) (d := some 5) (v := ?vt1) rfl rfl (by kernel_rfl) (by kernel_rfl) (by kernel_rfl) (fun _ _ _ h => h) (Or.inl ⟨by rfl, ?hyt1⟩) (by assumption) ?_
  case hyt1 => (intro w hSw; (try dsimp only at hSw); go_simp <;> with_reducible rfl)
  try simp only [Act.put, List.setIfInBounds_toArray, List.set_cons_zero, List.set_cons_succ]
  refine takeD (i := 1) (d := some 6) (v := ?vt2) rfl rfl (by kernel_rfl) (by kernel_rfl) (by kernel_rfl) (fun _ _ _ h => h) (Or.inl ⟨by rfl, ?hyt2⟩) (by assumption) ?_
  case hyt2 => (intro w hSw; (try dsimp only at hSw); go_simp <;> with_reducible rfl)
  try simp only [Act.put, List.setIfInBounds_toArray, List.set_cons_zero, List.set_cons_succ]
  refine takeD (i := 2) (d := some 7) (v := ?vt3) rfl rfl (by kernel_rfl) (by kernel_rfl) (by kernel_rfl) (fun _ _ _ h => h) (Or.inl ⟨by rfl, ?hyt3⟩) (by assumption) ?_
  case hyt3 => (intro w hSw; (try dsimp only at hSw); go_simp <;> with_reducible rfl)
  try simp only [Act.put, List.setIfInBounds_toArray, List.set_cons_zero, List.set_cons_succ]
  refine takeD (i := 3) (d := some 8) (v := ?vt4) rfl rfl (by kernel_rfl) (by kernel_rfl) (by kernel_rfl) (fun _ _ _ h => h) (Or.inl ⟨by rfl, ?hyt4⟩) (by assumption) ?_
  case hyt4 => (intro w hSw; (try dsimp only at hSw); go_simp <;> with_reducible rfl)
  try simp only [Act.put, List.setIfInBounds_toArray, List.set_cons_zero, List.set_cons_succ]
  refine takeD (i := 5) (d := some 10) (v := ?vt5) rfl rfl (by kernel_rfl) (by kernel_rfl) (by kernel_rfl) (fun _ _ _ h => h) (Or.inl ⟨by rfl, ?hyt5⟩) (by assumption) ?_
  case hyt5 => (intro w hSw; (try dsimp only at hSw); go_simp <;> with_reducible rfl)
  try simp only [Act.put, List.setIfInBounds_toArray, List.set_cons_zero, List.set_cons_succ]
  refine takeD (i := 6) (d := some 11) (v := ?vt6) rfl rfl (by kernel_rfl) (by kernel_rfl) (by kernel_rfl) (fun _ _ _ h => h) (Or.inl ⟨by rfl, ?hyt6⟩) (by assumption) ?_
  case hyt6 => (intro w hSw; (try dsimp only at hSw); go_simp <;> with_reducible rfl)
  try simp only [Act.put, List.setIfInBounds_toArray, List.set_cons_zero, List.set_cons_succ]
  refine takeD (i := 7) (d := some 12) (v := ?vt7) rfl rfl (by kernel_rfl) (by kernel_rfl) (by kernel_rfl) (fun _ _ _ h => h) (Or.inl ⟨by rfl, ?hyt7⟩) (by assumption) ?_
  case hyt7 => (intro w hSw; (try dsimp only at hSw); go_simp <;> with_reducible rfl)
  try simp only [Act.put, List.setIfInBounds_toArray, List.set_cons_zero, List.set_cons_succ]
  refine takeD (i := 8) (d := some 13) (v := ?vt8) rfl rfl (by kernel_rfl) (by kernel_rfl) (by kernel_rfl) (fun _ _ _ h => h) (Or.inl ⟨by rfl, ?hyt8⟩) (by assumption) ?_
  case hyt8 => (intro w hSw; (try dsimp only at hSw); go_simp <;> with_reducible rfl)
  try simp only [Act.put, List.setIfInBounds_toArray, List.set_cons_zero, List.set_cons_succ]
  refine wpAnyH_ready (rs := [4]) (by kernel_rfl) (by simp) ?_
  refine (AllReadyH.cons rfl (fun K hK => ?_) AllReadyH.nil)
  go_simp
  refine (H1.out _).mono ?_
  rintro e w4 ⟨rfl, rfl⟩
  go_wp2_with fail
  refine hK.out _ _ hBd (fun hHeld => ?_)
  clear hK K
  try simp only [Act.put, List.setIfInBounds_toArray, List.set_cons_zero, List.set_cons_succ]
  refine wpAnyH_ready (rs := [9]) (by kernel_rfl) (by simp) ?_
  refine (AllReadyH.cons rfl (fun K hK => ?_) AllReadyH.nil)
  go_simp
  refine (H2.out _).mono ?_
  rintro e w9 ⟨rfl, rfl⟩
  go_wp2_with fail
  refine hK.out _ _ hBd (fun hHeld => ?_)
  clear hK K
  try simp only [Act.put, List.setIfInBounds_toArray, List.set_cons_zero, List.set_cons_succ]
  refine wpAnyH_ready (rs := [10]) (by kernel_rfl) (by simp) ?_
  refine (AllReadyH.cons rfl (fun K hK => ?_) AllReadyH.nil)
  go_simp
  generalize hw9 : (World.alloc _ _ : World) = w9
  have hb9 : Gro V w9 := by subst hw9; exact (Gro.refl _).alloc _
  have g0 : w9.cell? ⟨V.heap.size, 0, none⟩ = some (.int .i64 A) := by subst hw9; simp [go_sem]
  have g1 : w9.cell? ⟨V.heap.size, 1, none⟩ = some (.int .i64 B) := by subst hw9; simp [go_sem]
  have hB9 : Gro V w9.drew := hb9.drew
  replace g0 : w9.drew.cell? ⟨V.heap.size, 0, none⟩ = some (.int .i64 A) := g0
  replace g1 : w9.drew.cell? ⟨V.heap.size, 1, none⟩ = some (.int .i64 B) := g1
  clear hw9
  refine hK.out _ _ hB9 (fun hHeld => ?_)
  clear hK K
  try simp only [Act.put, List.setIfInBounds_toArray, List.set_cons_zero, List.set_cons_succ]
  refine wpAnyH_ready (rs := [11]) (by kernel_rfl) (by simp) ?_
  refine (AllReadyH.cons rfl (fun K hK => ?_) AllReadyH.nil)
  go_simp
  refine (cmpOr_any _ _ A B _ g0 g1).mono ?_
  rintro e w11 ⟨rfl, rfl⟩
  go_wp2_with fail
  refine hK.out _ _ hB9 (fun hHeld => ?_)
  clear hK K
  try simp only [Act.put, List.setIfInBounds_toArray, List.set_cons_zero, List.set_cons_succ]
  refine takeD (i := 12) (d := some 4) (v := ?vt9) rfl rfl (by kernel_rfl) (by kernel_rfl) (by kernel_rfl) (fun _ _ _ h => h) (Or.inl ⟨by rfl, ?hyt9⟩) (by assumption) ?_
  case hyt9 => (intro w hSw; (try dsimp only at hSw); go_simp <;> with_reducible rfl)
  try simp only [Act.put, List.setIfInBounds_toArray, List.set_cons_zero, List.set_cons_succ]
  refine wpAnyH_done (by kernel_rfl) ?_ _
  refine NoPanic.normal ?_
  go_wp2_with fail
  go_ret
  exact ⟨rfl, hB0.trans hB9⟩
end Go.Proofs.YthadmnhpjklmiaaGreat
/- What a sort of the library lays; how numbers are compared. -/

namespace Go.Proofs.YthadmnhpjklmiaaGreat
open Go.RowKit Go.Sort Go.Shelf
set_option linter.unusedSimpArgs false
set_option linter.unusedVariables false
set_option maxRecDepth 100000

theorem Gro.grow {V W' : World} (h : Gro V W') : ∃ q os', W' = Go.Sort.grow (V.drewN q) os' := by
  obtain ⟨hb, hd⟩ := h
  refine ⟨W'.drawn - V.drawn, W'.heap.extract V.heap.size W'.heap.size, ?_⟩
  obtain ⟨hp, tp, dr, os, ou⟩ := W'
  obtain ⟨h1, h2, h3, h4, h5⟩ := hb
  simp only at h1 h2 h3 h4 h5 hd
  subst h1 h2 h3
  have e1 : V.drawn + (dr - V.drawn) = dr := by omega
  have e2 : V.heap ++ hp.extract V.heap.size hp.size = hp := by
    apply Array.ext
    · simp; omega
    · intro i hi hi'
      by_cases h : i < V.heap.size
      · rw [Array.getElem_append_left h]
        have := h5 i h
        rw [Array.getElem?_eq_getElem hi', Array.getElem?_eq_getElem h] at this
        injection this with this
        exact this.symm
      · rw [Array.getElem_append_right (by omega)]
        simp only [Array.getElem_extract]
        congr 1
        omega
  simp only [Go.Sort.grow, World.drewN, e1, e2]
theorem cmpI_lt (x y : Int) : cmpI x y < 0 ↔ x < y := by
  unfold cmpI
  by_cases h1 : x < y
  · rw [if_pos h1]; simp [h1]
  · rw [if_neg h1]
    by_cases h2 : y < x
    · rw [if_pos h2]; simp [h1]
    · rw [if_neg h2]; simp [h1]
theorem cmpI_zero (x y : Int) : cmpI x y = 0 ↔ x = y := by
  unfold cmpI
  by_cases h1 : x < y
  · rw [if_pos h1]; simp; omega
  · rw [if_neg h1]
    by_cases h2 : y < x
    · rw [if_pos h2]; simp; omega
    · rw [if_neg h2]; simp; omega
theorem grown_sortF (enc : Nat → List Value) (k : Nat) (w : World) (g off m : Nat) (d : Array Nat) (os : Array Obj) : w.grownBy (sortWorldK enc k w g off m d os) (some g) := by
  refine ⟨rfl, rfl, rfl, size_sortWorldK_c _ _ _ _ _ _ _ _, fun j hj hne => ?_⟩
  have hne' : g ≠ j := fun e => hne (by rw [e])
  show ((putRowK enc k (Sort.ahead w m) g off d).heap ++ os)[j]? = _
  have hs : (putRowK enc k (Sort.ahead w m) g off d).heap.size = w.heap.size := by
    show (putRow id (Sort.ahead w m) g off (flatK enc k d)).heap.size = _
    rw [size_putRow]; rfl
  rw [Array.getElem?_append_left (by rw [hs]; exact hj)]
  show (w.heap.modify g _)[j]? = _
  rw [Array.getElem?_modify, if_neg hne']
end Go.Proofs.YthadmnhpjklmiaaGreat
/- Features are compared: by layer, of the same by id; only new blocks are laid. -/

namespace Go.Proofs.YthadmnhpjklmiaaGreat
open Go.RowKit Go.Sort
set_option linter.unusedSimpArgs false
set_option linter.unusedVariables false
set_option maxRecDepth 100000

theorem compareFeatures_any (f g : Feat) (w : World) : Calls Tryz.prog 56 #[.agg (fcell f).toArray, .agg (fcell g).toArray] w fun e w' => e = .returned (.int .i64 (cmpF f g)) ∧ ∃ q os', w' = grow (w.drewN q) os' :=
  (compareFeatures_gro f g w).mono fun e w' ⟨he, hg⟩ => ⟨he, hg.grow⟩
end Go.Proofs.YthadmnhpjklmiaaGreat
