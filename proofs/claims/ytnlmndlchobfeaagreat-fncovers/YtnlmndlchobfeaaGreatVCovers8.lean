/- Several texts in one. -/
import Derived.Test.YtnlmndlchobfeaaGreatVCovers4
import Derived.Test.YtnlmndlchobfeaaGreatVCovers5
import Derived.Test.YtnlmndlchobfeaaGreatVCovers7
import Derived.OwnWalk
import Derived.Deep.DeepMust
import Derived.Test.YtnlmndlchobfeaaGreatVCovers2
import Derived.Test.YtnlmndlchobfeaaGreatVCovers1
import Derived.Deep.RegionHeld3

/- A feature is copied: its points lie in a row of their own. -/

namespace Go.Proofs.YtnlmndlchobfeaaGreat
open Go.RowKit
set_option linter.unusedSimpArgs false
set_option linter.unusedVariables false
set_option maxRecDepth 100000

theorem Row.setB {base r o : Nat} {w : World} {v x : Value} {l : List (Int × Int)} (h : Row base w v l) (hr : r < base) : Row base (w.setCell ⟨r, o, none⟩ x) v l := by
  obtain ⟨h1, h2 | ⟨g, cp, cur, hv, hg, hh, hrest⟩⟩ := h
  · exact ⟨h1, .inl h2⟩
  · refine ⟨h1, .inr ⟨g, cp, cur, hv, hg, ?_, hrest⟩⟩
    rw [Below.heap_setCell _ _ _ _ (by simp; omega)]
    exact hh
theorem Row.wideB {base B : Nat} {w : World} {v : Value} {l : List (Int × Int)} (h : Row base w v l) (hB : B ≤ base) : Row B w v l := by
  obtain ⟨h1, h2 | ⟨g, cp, cur, hv, hg, hrest⟩⟩ := h
  · exact ⟨h1, .inl h2⟩
  · exact ⟨h1, .inr ⟨g, cp, cur, hv, by omega, hrest⟩⟩

set_option maxRecDepth 8000 in
set_option maxHeartbeats 1000000 in
theorem slicesClone_row {off : Nat} (b n cap : Nat) (X Y : Nat → Int) (w : World) (hp : PtsAt w b off n X Y) (hbl : b < w.heap.size) (hn : n ≤ 1048576) :
    Calls Tryz.prog 73 #[.slice (some ⟨b, off, none⟩) n cap] w fun e w' => ∃ a c, e = .returned (.slice a n c) ∧ Row w.heap.size w' (.slice a n c) (ptsOf X Y (List.range n)) ∧ Below w.heap.size w w' := by
  obtain ⟨i0, hi, hz0, hz1, hz2⟩ := info_parts (show (Tryz.prog.info? 31).map (fun i => (i.zero, i.size, i.bytes)) = some (some (.agg #[.int .i64 0, .int .i64 0]), 2, 16) by kernel_rfl)
  have HP : Hid (PtsAt w b off n X Y) := hp
  have HLEN : Hid ((ptsOf X Y (List.range n)).length = n) := by show _ = _; simp [ptsOf]
  clear hp
  have hnl : ∀ w, Sem.run Tryz.prog (binOp BinOp.eql 24 (.slice (some ⟨b, off, none⟩) n cap) (.slice none 0 0)) w = .ok (.bool false) w := fun _ => by kernel_rfl
  go_enter Tryz.func73, Tryz.ntmps73
  go_wp2_with (first
    | (at_builtin; go_must (refine wpList_append_own _ rfl _ _ 24 rfl w.heap.size 31 i0 (.agg #[.int .i64 0, .int .i64 0]) 2 16 Tryz.underlying24 hi hz0 hz1 hz2 rfl (by decide) (.slice (some ⟨w.heap.size, 0, none⟩) 0 0) 0 [] rfl (World.ownsRow_lit (base := w.heap.size) w #[] 0 (Nat.le_refl _) (Nat.zero_le _) rfl) ⟨b, off, none⟩ n cap (cellsL (ptsOf X Y (List.range n))) rfl ?c0 ?c1 ?c2 ?c3 ?c4 ?c5 ?_)))
  case c0 => rw [cellsL_len, HLEN.out]
  case c1 =>
    intro q u hq
    have h1 := pts_cellsO (HP.out.below (by (repeat (first | exact Below.refl _ _ | assumption | refine Below.drew ?_ | refine bl_alloc ?_ _ | refine bl_then ?_ (by assumption) | refine Below.setCell ?_ (by first | omega | (simp; done) | (simp; omega)) _ | refine bl_store ?_ ?_ _ _)) : Below w.heap.size w (w.alloc (.cells #[] 31))) hbl) q u hq
    by_cases hq0 : q = 0
    · subst hq0; simpa [Addr.add] using h1
    · simpa [Addr.add, hq0] using h1
  case c2 =>
    intro u hu
    unfold cellsL at hu
    rw [List.mem_flatMap] at hu
    obtain ⟨p, _, hp⟩ := hu
    simp at hp
    rcases hp with rfl | rfl <;> rfl
  case c3 => unfold maxLen; omega
  case c4 => omega
  case c5 => first | omega | (simp; done) | (simp; omega)
  intro v' w2 hown' hgrow hnil
  clear hnil
  obtain ⟨a, c, hv⟩ : ∃ a c, v' = .slice a n c := by
    obtain ⟨_, h2 | ⟨g, cp, cur, hv, _⟩⟩ := hown'
    · exact ⟨none, 0, by have e := h2.2; have e2 : n = 0 := by omega
                         subst e2; exact h2.1⟩
    · exact ⟨_, cp, by rw [hv]⟩
  have HB2 : Hid (Below w.heap.size w w2) := ((Below.refl _ _).alloc (Nat.le_refl _) _).trans ((Below.refl _ _).grown hgrow (by simp) (fun k hk => by simp [Value.ownBlock] at hk; omega))
  subst hv
  have HOWN : Hid (Row w.heap.size w2 (.slice a n c) (ptsOf X Y (List.range n))) := by
    show Row _ _ _ _
    unfold Row
    rw [HLEN.out]
    simpa using hown'
  clear hown' hgrow
  go_wp2
  go_ret
  exact ⟨a, c, rfl, HOWN.out, HB2.out⟩
set_option maxHeartbeats 4000000 in
theorem copyFeature_row {off : Nat} (id la ki wi : Int) (b n cap : Nat) (X Y : Nat → Int) (lab : ByteArray) (pr : Int) (w : World) (hp : PtsAt w b off n X Y) (hbl : b < w.heap.size) (hn : n ≤ 1048576) (hl : lab.size ≤ 1048576) :
    Calls Tryz.prog 48 #[.agg #[.int .i64 id, .int .i64 la, .int .i64 ki, .int .i64 wi, .slice (some ⟨b, off, none⟩) n cap, .string lab, .int .i64 pr]] w fun e w' => ∃ a c, e = .returned (.agg #[.int .i64 id, .int .i64 la, .int .i64 ki, .int .i64 wi, .slice a n c, .string lab, .int .i64 pr]) ∧ Row w.heap.size w' (.slice a n c) (ptsOf X Y (List.range n)) ∧ Below w.heap.size w w' := by
  have HP : Hid (PtsAt w b off n X Y) := hp
  clear hp
  go_enter Tryz.func48, Tryz.ntmps48
  go_wp2_with fail
  generalize hW : ((w.alloc _).alloc _ : World) = W
  have hB0 : Below w.heap.size w W := by subst hW; (repeat (first | exact Below.refl _ _ | assumption | refine Below.drew ?_ | refine bl_alloc ?_ _ | refine bl_then ?_ (by assumption) | refine Below.setCell ?_ (by first | omega | (simp; done) | (simp; omega)) _ | refine bl_store ?_ ?_ _ _))
  have q0 : W.cell? ⟨w.heap.size, 0, none⟩ = some (.int .i64 id) := by subst hW; simp [go_sem]
  have q1 : W.cell? ⟨w.heap.size, 1, none⟩ = some (.int .i64 la) := by subst hW; simp [go_sem]
  have q2 : W.cell? ⟨w.heap.size, 2, none⟩ = some (.int .i64 ki) := by subst hW; simp [go_sem]
  have q3 : W.cell? ⟨w.heap.size, 3, none⟩ = some (.int .i64 wi) := by subst hW; simp [go_sem]
  have q4 : W.cell? ⟨w.heap.size, 4, none⟩ = some (.slice (some ⟨b, off, none⟩) n cap) := by subst hW; simp [go_sem]
  have q5 : W.cell? ⟨w.heap.size, 5, none⟩ = some (.string lab) := by subst hW; simp [go_sem]
  have q6 : W.cell? ⟨w.heap.size, 6, none⟩ = some (.int .i64 pr) := by subst hW; simp [go_sem]
  have fz : ∀ o, W.frozen? ⟨w.heap.size, o, none⟩ = false := fun o => by subst hW; simp [go_sem]
  have hT : There W (w.heap.size + 1) 7 := fun o ho => by
    subst hW
    have hc : o = 0 ∨ o = 1 ∨ o = 2 ∨ o = 3 ∨ o = 4 ∨ o = 5 ∨ o = 6 := by omega
    rcases hc with rfl | rfl | rfl | rfl | rfl | rfl | rfl <;> exact ⟨⟨_, by simp [go_sem]; rfl⟩, by simp [go_sem]⟩
  have hsz : w.heap.size + 1 < W.heap.size := by subst hW; simp
  clear hW
  refine (slicesClone_row b n cap X Y W (HP.out.below hB0 hbl) (Nat.lt_of_lt_of_le hbl hB0.size) hn).mono ?_
  rintro e w1 ⟨a1, c1, rfl, hR1, hb1⟩
  have HR1 : Hid (Row W.heap.size w1 (.slice a1 n c1) (ptsOf X Y (List.range n))) := hR1
  clear hR1
  have hB1 : Below w.heap.size w w1 := bl_then hB0 hb1
  have p0 := bl_cell hb1 q0
  have p1 := bl_cell hb1 q1
  have p2 := bl_cell hb1 q2
  have p3 := bl_cell hb1 q3
  have p4 := bl_cell hb1 q4
  have p5 := bl_cell hb1 q5
  have p6 := bl_cell hb1 q6
  have f1 : w1.frozen? ⟨w.heap.size, 4, none⟩ = false := (hb1.frozen (p := ⟨w.heap.size, 4, none⟩) (by show w.heap.size < _; omega)).trans (fz 4)
  have f2 : w1.frozen? ⟨w.heap.size, 5, none⟩ = false := (hb1.frozen (p := ⟨w.heap.size, 5, none⟩) (by show w.heap.size < _; omega)).trans (fz 5)
  have hT1 := hT.below hb1
  have hsz1 := hb1.size
  clear q0 q1 q2 q3 q4 q5 q6 fz hT hb1 hB0
  have HT1 : Hid (There w1 (w.heap.size + 1) 7) := hT1
  clear hT1
  go_wp2_with fail
  generalize hW2 : (w1.setCell _ _ : World) = W2
  have g0 : W2.cell? ⟨w.heap.size, 0, none⟩ = some (.int .i64 id) := by subst hW2; rw [set1_other (by simp)]; exact p0
  have g1 : W2.cell? ⟨w.heap.size, 1, none⟩ = some (.int .i64 la) := by subst hW2; rw [set1_other (by simp)]; exact p1
  have g2 : W2.cell? ⟨w.heap.size, 2, none⟩ = some (.int .i64 ki) := by subst hW2; rw [set1_other (by simp)]; exact p2
  have g3 : W2.cell? ⟨w.heap.size, 3, none⟩ = some (.int .i64 wi) := by subst hW2; rw [set1_other (by simp)]; exact p3
  have g4 : W2.cell? ⟨w.heap.size, 4, none⟩ = some (.slice a1 n c1) := by subst hW2; exact set1_same p4
  have g5 : W2.cell? ⟨w.heap.size, 5, none⟩ = some (.string lab) := by subst hW2; rw [set1_other (by simp)]; exact p5
  have g6 : W2.cell? ⟨w.heap.size, 6, none⟩ = some (.int .i64 pr) := by subst hW2; rw [set1_other (by simp)]; exact p6
  have ff : W2.frozen? ⟨w.heap.size, 5, none⟩ = false := by subst hW2; rw [World.frozen?_setCell]; exact f2
  have hT2 : There W2 (w.heap.size + 1) 7 := fun o ho => by
    subst hW2
    obtain ⟨u, hu⟩ := (HT1.out o ho).1
    exact ⟨⟨u, by rw [set1_other (by simp)]; exact hu⟩, by rw [World.frozen?_setCell]; exact (HT1.out o ho).2⟩
  have hB2 : Below w.heap.size w W2 := by subst hW2; exact hB1.setCell (Nat.le_refl _) _
  have hsz2 : w1.heap.size ≤ W2.heap.size := by subst hW2; simp [World.setCell]
  have HR2 : Hid (Row W.heap.size W2 (.slice a1 n c1) (ptsOf X Y (List.range n))) := by show Row _ _ _ _; subst hW2; exact HR1.out.setB (by omega)
  clear hW2 p0 p1 p2 p3 p4 p5 p6 f1 f2 hB1
  refine (stringsClone_any lab W2 hl).mono ?_
  rintro e w3 ⟨rfl, hb3⟩
  have HR3 : Hid (Row W.heap.size w3 (.slice a1 n c1) (ptsOf X Y (List.range n))) := HR2.out.below hb3
  have hB3 : Below w.heap.size w w3 := bl_then hB2 hb3
  have p0 := bl_cell hb3 g0
  have p1 := bl_cell hb3 g1
  have p2 := bl_cell hb3 g2
  have p3 := bl_cell hb3 g3
  have p4 := bl_cell hb3 g4
  have p5 := bl_cell hb3 g5
  have p6 := bl_cell hb3 g6
  have f5 : w3.frozen? ⟨w.heap.size, 5, none⟩ = false := (hb3.frozen (p := ⟨w.heap.size, 5, none⟩) (by show w.heap.size < _; omega)).trans ff
  have hT3 := hT2.below hb3
  have hsz3 := hb3.size
  have t0 := hT3.cell 0 (by omega)
  have t1 := hT3.cell 1 (by omega)
  have t2 := hT3.cell 2 (by omega)
  have t3 := hT3.cell 3 (by omega)
  have t4 := hT3.cell 4 (by omega)
  have t5 := hT3.cell 5 (by omega)
  have t6 := hT3.cell 6 (by omega)
  have z0 := (hT3 0 (by omega)).2
  have z1 := (hT3 1 (by omega)).2
  have z2 := (hT3 2 (by omega)).2
  have z3 := (hT3 3 (by omega)).2
  have z4 := (hT3 4 (by omega)).2
  have z5 := (hT3 5 (by omega)).2
  have z6 := (hT3 6 (by omega)).2
  have HT4 : Hid (There (w3.setCell ⟨w.heap.size, 5, none⟩ (.string lab)) (w.heap.size + 1) 7) := fun o ho => by
    obtain ⟨u, hu⟩ := (hT3 o ho).1
    exact ⟨⟨u, by rw [set1_other (by simp)]; exact hu⟩, by rw [World.frozen?_setCell]; exact (hT3 o ho).2⟩
  have HB3 : Hid (Below w.heap.size w w3) := hB3
  clear g0 g1 g2 g3 g4 g5 g6 ff hT2 hT3 hB2 hB3 hb3
  go_wp2_with fail
  obtain ⟨y0, y1, y2, y3, y4, y5, y6⟩ := set7_at (v0 := .int .i64 id) (v1 := .int .i64 la) (v2 := .int .i64 ki) (v3 := .int .i64 wi) (v4 := .slice a1 n c1) (v5 := .string lab) (v6 := .int .i64 pr) HT4.out
  have key : ∀ (T : Array Value) (Wf : World), T[2]?.getD undef = .pointer (some ⟨w.heap.size + 1, 0, none⟩) → Wf.cell? ⟨w.heap.size + 1, 0, none⟩ = some (.int .i64 id) → Wf.cell? ⟨w.heap.size + 1, 1, none⟩ = some (.int .i64 la) → Wf.cell? ⟨w.heap.size + 1, 2, none⟩ = some (.int .i64 ki) → Wf.cell? ⟨w.heap.size + 1, 3, none⟩ = some (.int .i64 wi) → Wf.cell? ⟨w.heap.size + 1, 4, none⟩ = some (.slice a1 n c1) → Wf.cell? ⟨w.heap.size + 1, 5, none⟩ = some (.string lab) → Wf.cell? ⟨w.heap.size + 1, 6, none⟩ = some (.int .i64 pr) →
      (results Tryz.f48 T).run Tryz.prog Wf = .ok (.agg #[.int .i64 id, .int .i64 la, .int .i64 ki, .int .i64 wi, .slice a1 n c1, .string lab, .int .i64 pr]) Wf := fun T Wf hT h0 h1 h2 h3 h4 h5 h6 => by
    simp [results, Tryz.results48, go_sem, hT, h0, h1, h2, h3, h4, h5, h6]
  refine bodyPost_ret (key _ _ rfl y0 y1 y2 y3 y4 y5 y6) rfl ⟨a1, c1, rfl, ?_, ?_⟩
  · exact ((((((((((HR3.out.setB (by omega)).setB (by omega)).setB (by omega)).setB (by omega)).setB (by omega)).setB (by omega)).setB (by omega)).setB (by omega)).wideB (by omega)))
  · exact ((((((((HB3.out.setCell (Nat.le_refl _) _).setCell (Nat.le_succ _) _).setCell (Nat.le_succ _) _).setCell (Nat.le_succ _) _).setCell (Nat.le_succ _) _).setCell (Nat.le_succ _) _).setCell (Nat.le_succ _) _).setCell (Nat.le_succ _) _)
end Go.Proofs.YtnlmndlchobfeaaGreat
/- Rows of points beside other blocks; a block that holds a feature. -/

namespace Go.Proofs.YtnlmndlchobfeaaGreat
open Go.RowKit
set_option linter.unusedSimpArgs false
set_option linter.unusedVariables false
set_option maxRecDepth 100000

theorem ownsRow_of {w w' : World} {base size n : Nat} {e : TypeId} {v : Value} {xs : List Value} (h : w.ownsRow base e size v n xs) (hk : ∀ g, v.ownBlock = some g → w'.heap[g]? = w.heap[g]?) : w'.ownsRow base e size v n xs := by
  obtain ⟨h1, h2 | ⟨g, cp, cur, hv, hg, hh, hr⟩⟩ := h
  · exact ⟨h1, .inl h2⟩
  · refine ⟨h1, .inr ⟨g, cp, cur, hv, hg, ?_, hr⟩⟩
    rw [hk g (by rw [hv]; rfl)]
    exact hh

theorem there7 (V : World) (v0 v1 v2 v3 v4 v5 v6 : Value) (t : TypeId) : There (V.alloc (.cells #[v0, v1, v2, v3, v4, v5, v6] t)) V.heap.size 7 := fun o ho => by
  refine ⟨⟨#[v0, v1, v2, v3, v4, v5, v6][o]'(by simpa using ho), ?_⟩, World.frozen?_alloc_at _ _ _ _ rfl⟩
  rw [World.cell?_alloc_at _ _ _ _ rfl]
  exact Array.getElem?_eq_getElem _
/-- Block O holds a feature with the points v. -/
def OutAt (w : World) (O : Nat) (id la ki wi : Int) (v : Value) (lab : ByteArray) (pr : Int) : Prop := w.heap[O]? = some (Obj.cells #[.int .i64 id, .int .i64 la, .int .i64 ki, .int .i64 wi, v, .string lab, .int .i64 pr] 26 (0, 0))
theorem OutAt.cells {w : World} {O : Nat} {id la ki wi pr : Int} {v : Value} {lab : ByteArray} (h : OutAt w O id la ki wi v lab pr) :
    (w.cell? ⟨O, 0, none⟩ = some (.int .i64 id) ∧ w.cell? ⟨O, 1, none⟩ = some (.int .i64 la) ∧ w.cell? ⟨O, 2, none⟩ = some (.int .i64 ki) ∧ w.cell? ⟨O, 3, none⟩ = some (.int .i64 wi) ∧ w.cell? ⟨O, 4, none⟩ = some v ∧ w.cell? ⟨O, 5, none⟩ = some (.string lab) ∧ w.cell? ⟨O, 6, none⟩ = some (.int .i64 pr)) ∧ w.frozen? ⟨O, 4, none⟩ = false := by
  unfold OutAt at h
  refine ⟨⟨?_, ?_, ?_, ?_, ?_, ?_, ?_⟩, ?_⟩ <;> simp [World.cell?, World.frozen?, h]
theorem OutAt.lt {w : World} {O : Nat} {id la ki wi pr : Int} {v : Value} {lab : ByteArray} (h : OutAt w O id la ki wi v lab pr) : O < w.heap.size := lt_of_heap h
theorem There.out {w : World} {O r n : Nat} {x : Value} (h : There w r n) (hne : O ≠ r) : There (w.setCell ⟨O, 4, none⟩ x) r n := fun o ho => by
  obtain ⟨u, hu⟩ := (h o ho).1
  exact ⟨⟨u, by rw [set1_other (fun e => hne (by injection e))]; exact hu⟩, by rw [World.frozen?_setCell]; exact (h o ho).2⟩
theorem below7 {B r : Nat} {w W : World} {v0 v1 v2 v3 v4 v5 v6 : Value} (h : Below B w W) (hr : B ≤ r) : Below B w ((((((((W.setCell ⟨r, 0, none⟩ v0).setCell ⟨r, 1, none⟩ v1).setCell ⟨r, 2, none⟩ v2).setCell ⟨r, 3, none⟩ v3).setCell ⟨r, 4, none⟩ v4).setCell ⟨r, 5, none⟩ v5).setCell ⟨r, 6, none⟩ v6)) :=
  (((((((h.setCell (p := ⟨r, 0, none⟩) hr v0).setCell (p := ⟨r, 1, none⟩) hr v1).setCell (p := ⟨r, 2, none⟩) hr v2).setCell (p := ⟨r, 3, none⟩) hr v3).setCell (p := ⟨r, 4, none⟩) hr v4).setCell (p := ⟨r, 5, none⟩) hr v5).setCell (p := ⟨r, 6, none⟩) hr v6)
/-- What holds no points is as it was. -/
def NP (w w' : World) : Prop := ∀ (k : Nat) (cur : Array Value) (t : TypeId) (fz : Nat × Nat), w.heap[k]? = some (Obj.cells cur t fz) → t ≠ 31 → w'.heap[k]? = some (Obj.cells cur t fz)
theorem NP.refl (w : World) : NP w w := fun _ _ _ _ h _ => h
theorem NP.trans {a b c : World} (h : NP a b) (k : NP b c) : NP a c := fun i cur t fz h1 h2 => k i cur t fz (h i cur t fz h1 h2) h2
theorem NP.of_below {w w' : World} (h : Below w.heap.size w w') : NP w w' := fun k cur t fz h1 _ => (h.block k (lt_of_heap h1)).trans h1
theorem NP.of_grown {base : Nat} {w w' : World} {v : Value} {l : List (Int × Int)} (hR : Row base w v l) (hg : w.grownBy w' v.ownBlock) : NP w w' := fun k cur t fz h1 h2 => by
  refine (hg.block k (lt_of_heap h1) (fun e => ?_)).trans h1
  obtain ⟨cur', hc⟩ := heap_of_row hR k e.symm
  rw [h1] at hc
  injection hc with hc
  injection hc with _ hc2
  exact h2 hc2
theorem Row.other {base p o : Nat} {w : World} {v u : Value} {l : List (Int × Int)} {cur : Array Value} {t : TypeId} {fz : Nat × Nat} (h : Row base w v l) (hp : w.heap[p]? = some (Obj.cells cur t fz)) (ht : t ≠ 31) : Row base (w.setCell ⟨p, o, none⟩ u) v l := by
  refine ownsRow_of h fun g hg => Below.heap_setCell _ _ _ _ (fun e => ?_)
  obtain ⟨cur', hc⟩ := heap_of_row h g hg
  simp at e
  subst e
  rw [hp] at hc
  injection hc with hc
  injection hc with _ hc2
  exact ht hc2
theorem OutAt.set {w : World} {O : Nat} {id la ki wi pr : Int} {v v' : Value} {lab : ByteArray} (h : OutAt w O id la ki wi v lab pr) : OutAt (w.setCell ⟨O, 4, none⟩ v') O id la ki wi v' lab pr := by
  have := heap_setCell_same w O 4 _ 26 v' h
  simpa [OutAt] using this
theorem OutAt.below {w w' : World} {O : Nat} {id la ki wi pr : Int} {v : Value} {lab : ByteArray} (h : OutAt w O id la ki wi v lab pr) (hb : Below w.heap.size w w') : OutAt w' O id la ki wi v lab pr := (hb.block O h.lt).trans h
theorem OutAt.np {w w' : World} {O : Nat} {id la ki wi pr : Int} {v : Value} {lab : ByteArray} (h : OutAt w O id la ki wi v lab pr) (hn : NP w w') : OutAt w' O id la ki wi v lab pr := hn _ _ _ _ h (by decide)
theorem Row.out {base : Nat} {w : World} {O : Nat} {id la ki wi pr : Int} {v u x : Value} {lab : ByteArray} {l : List (Int × Int)} (h : Row base w u l) (ho : OutAt w O id la ki wi v lab pr) : Row base (w.setCell ⟨O, 4, none⟩ x) u l := Row.other h ho (by decide)
theorem Row.wide {base B : Nat} {w : World} {v : Value} {l : List (Int × Int)} (h : Row base w v l) (hB : B ≤ base) : Row B w v l := by
  obtain ⟨h1, h2 | ⟨g, cp, cur, hv, hg, hr⟩⟩ := h
  · exact ⟨h1, .inl h2⟩
  · exact ⟨h1, .inr ⟨g, cp, cur, hv, by omega, hr⟩⟩
theorem Row.no (base : Nat) (w : World) : Row base w (.slice none 0 0) [] := World.ownsRow_nil _ _ _ _
/-- A row that is not empty. -/
theorem Row.at {base : Nat} {w : World} {v : Value} {l : List (Int × Int)} (h : Row base w v l) (hne : 0 < l.length) :
    ∃ g cap, v = .slice (some ⟨g, 0, none⟩) l.length cap ∧ base ≤ g ∧ g < w.heap.size ∧ l.length ≤ cap ∧ PtsAt w g 0 l.length (px l) (py l) := by
  obtain ⟨a, cap, hv, hc, h0 | ⟨b, rfl, hb, hl, hp, ht⟩⟩ := h.own
  · omega
  · exact ⟨b, cap, hv, hb, hl, hc, hp⟩
theorem Row.set7 {base B r : Nat} {w : World} {v : Value} {l : List (Int × Int)} {v0 v1 v2 v3 v4 v5 v6 : Value} (h : Row base w v l) (hB : B ≤ base) (hr : r < base) : Row B ((((((((w.setCell ⟨r, 0, none⟩ v0).setCell ⟨r, 1, none⟩ v1).setCell ⟨r, 2, none⟩ v2).setCell ⟨r, 3, none⟩ v3).setCell ⟨r, 4, none⟩ v4).setCell ⟨r, 5, none⟩ v5).setCell ⟨r, 6, none⟩ v6)) v l := by
  obtain ⟨h1, h2 | ⟨g, cp, cur, hv, hg, hh, hr'⟩⟩ := h
  · exact ⟨h1, .inl h2⟩
  · refine ⟨h1, .inr ⟨g, cp, cur, hv, by omega, ?_, hr'⟩⟩
    rw [Below.heap_setCell _ _ _ _ (by simp; omega), Below.heap_setCell _ _ _ _ (by simp; omega), Below.heap_setCell _ _ _ _ (by simp; omega), Below.heap_setCell _ _ _ _ (by simp; omega), Below.heap_setCell _ _ _ _ (by simp; omega), Below.heap_setCell _ _ _ _ (by simp; omega), Below.heap_setCell _ _ _ _ (by simp; omega)]
    exact hh
end Go.Proofs.YtnlmndlchobfeaaGreat
/- One operation of a region that draws its order, taken first, its slot told: what is wanted yields, what is not wanted is passed by. -/

namespace Go.Proofs.YtnlmndlchobfeaaGreat
open Go.RowKit
section
variable {P : Program} {ops : Array Oper} {Q : Exit → Act → World → Prop} {md : Region.Mode} {S : World → Prop}
theorem takeD {i : Nat} {d : Option Nat} {oi : Oper} {v : Value} {fuel : Nat} {listed : Array Bool} {a : Act} {w : World} (hi : ops[i]? = some oi) (hd : oi.dst = d)
    (hs : Region.noSelect ops = true) (hf : Region.free md ops listed i = true) (hr : (Region.ready md ops listed).contains i = true)
    (hQ : ∀ c a w, Q (.panic c) (a.put oi.dst v) w → Q (.panic c) a w) (hy : YieldsIf P ops S oi v a) (hS : S w)
    (h : wpAnyH P md ops Q S fuel (listed.setIfInBounds i true) (a.put d v) w) : wpAnyH P md ops Q S (fuel + 1) listed a w :=
  wpAnyH_take hi hs hf hr hQ hy hS (hd ▸ h)
theorem passD {i : Nat} {d : Option Nat} {oi : Oper} {fuel : Nat} {listed : Array Bool} {a : Act} {w : World} (hi : ops[i]? = some oi) (hd : oi.dst = d)
    (hs : Region.noSelect ops = true) (hf : Region.free md ops listed i = true) (hr : (Region.ready md ops listed).contains i = true)
    (hQ : ∀ c a w, Q (.panic c) (a.put oi.dst undef) w → Q (.panic c) a w) (hy : Region.wanted oi (yielded ops a.tmps) = false) (hS : S w)
    (h : wpAnyH P md ops Q S fuel (listed.setIfInBounds i true) (a.put d undef) w) : wpAnyH P md ops Q S (fuel + 1) listed a w :=
  wpAnyH_take hi hs hf hr hQ (.inr ⟨hy, rfl⟩) hS (hd ▸ h)
end
end Go.Proofs.YtnlmndlchobfeaaGreat
