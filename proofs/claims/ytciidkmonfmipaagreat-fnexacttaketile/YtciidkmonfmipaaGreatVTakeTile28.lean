/- Several texts in one. -/
import Derived.Test.YtciidkmonfmipaaGreatVTakeTile27
import Derived.Test.YtciidkmonfmipaaGreatVTakeTile8
import Derived.Test.YtciidkmonfmipaaGreatVTakeTile4
import Derived.OwnWalk
import Derived.Deep.DeepMust
import Derived.Test.YtciidkmonfmipaaGreatVTakeTile19

/- A feature is copied: its points lie in a row of their own. -/

namespace Go.Proofs.YtciidkmonfmipaaGreat
open Go.RowKit
set_option linter.unusedSimpArgs false
set_option linter.unusedVariables false
set_option maxRecDepth 100000

theorem Row.setB {base r o : Nat} {w : World} {v x : Value} {l : List (Int × Int)} (h : Row base w v l) (hr : r < base) : Row base (w.setCell ⟨r, o, none⟩ x) v l := by
  obtain ⟨h1, h2 | ⟨g, cp, cur, hv, hg, hh, hrest⟩⟩ := h
  · exact ⟨h1, .inl h2⟩
  · refine ⟨h1, .inr ⟨g, cp, cur, hv, hg, ?_, hrest⟩⟩
    rw [Below.heap_setCell _ _ _ _ (by simp; omega)]
    exact hh
theorem Row.wideB {base B : Nat} {w : World} {v : Value} {l : List (Int × Int)} (h : Row base w v l) (hB : B ≤ base) : Row B w v l := by
  obtain ⟨h1, h2 | ⟨g, cp, cur, hv, hg, hrest⟩⟩ := h
  · exact ⟨h1, .inl h2⟩
  · exact ⟨h1, .inr ⟨g, cp, cur, hv, by omega, hrest⟩⟩

set_option maxRecDepth 8000 in
set_option maxHeartbeats 1000000 in
theorem slicesClone_row {off : Nat} (b n cap : Nat) (X Y : Nat → Int) (w : World) (hp : PtsAt w b off n X Y) (hbl : b < w.heap.size) (hn : n ≤ 1048576) :
    Calls Tryz.prog 147 #[.slice (some ⟨b, off, none⟩) n cap] w fun e w' => ∃ a c, e = .returned (.slice a n c) ∧ Row w.heap.size w' (.slice a n c) (ptsOf X Y (List.range n)) ∧ Below w.heap.size w w' := by
  obtain ⟨i0, hi, hz0, hz1, hz2⟩ := info_parts (show (Tryz.prog.info? 119).map (fun i => (i.zero, i.size, i.bytes)) = some (some (.agg #[.int .i64 0, .int .i64 0]), 2, 16) by kernel_rfl)
  have HP : Hid (PtsAt w b off n X Y) := hp
  have HLEN : Hid ((ptsOf X Y (List.range n)).length = n) := by show _ = _; simp [ptsOf]
  clear hp
  have hnl : ∀ w, Sem.run Tryz.prog (binOp BinOp.eql 99 (.slice (some ⟨b, off, none⟩) n cap) (.slice none 0 0)) w = .ok (.bool false) w := fun _ => by kernel_rfl
  go_enter Tryz.func147, Tryz.ntmps147
  go_wp2_with (first
    | (at_builtin; go_must (refine wpList_append_own _ rfl _ _ 99 rfl w.heap.size 119 i0 (.agg #[.int .i64 0, .int .i64 0]) 2 16 Tryz.underlying99 hi hz0 hz1 hz2 rfl (by decide) (.slice (some ⟨w.heap.size, 0, none⟩) 0 0) 0 [] rfl (World.ownsRow_lit (base := w.heap.size) w #[] 0 (Nat.le_refl _) (Nat.zero_le _) rfl) ⟨b, off, none⟩ n cap (cellsL (ptsOf X Y (List.range n))) rfl ?c0 ?c1 ?c2 ?c3 ?c4 ?c5 ?_)))
  case c0 => rw [cellsL_len, HLEN.out]
  case c1 =>
    intro q u hq
    have h1 := pts_cellsO (HP.out.below (by (repeat (first | exact Below.refl _ _ | assumption | refine Below.drew ?_ | refine bl_alloc ?_ _ | refine bl_then ?_ (by assumption) | refine Below.setCell ?_ (by first | omega | (simp; done) | (simp; omega)) _ | refine bl_store ?_ ?_ _ _)) : Below w.heap.size w (w.alloc (.cells #[] 119))) hbl) q u hq
    by_cases hq0 : q = 0
    · subst hq0; simpa [Addr.add] using h1
    · simpa [Addr.add, hq0] using h1
  case c2 =>
    intro u hu
    unfold cellsL at hu
    rw [List.mem_flatMap] at hu
    obtain ⟨p, _, hp⟩ := hu
    simp at hp
    rcases hp with rfl | rfl <;> rfl
  case c3 => unfold maxLen; omega
  case c4 => omega
  case c5 => first | omega | (simp; done) | (simp; omega)
  intro v' w2 hown' hgrow hnil
  clear hnil
  obtain ⟨a, c, hv⟩ : ∃ a c, v' = .slice a n c := by
    obtain ⟨_, h2 | ⟨g, cp, cur, hv, _⟩⟩ := hown'
    · exact ⟨none, 0, by have e := h2.2; have e2 : n = 0 := by omega
                         subst e2; exact h2.1⟩
    · exact ⟨_, cp, by rw [hv]⟩
  have HB2 : Hid (Below w.heap.size w w2) := ((Below.refl _ _).alloc (Nat.le_refl _) _).trans ((Below.refl _ _).grown hgrow (by simp) (fun k hk => by simp [Value.ownBlock] at hk; omega))
  subst hv
  have HOWN : Hid (Row w.heap.size w2 (.slice a n c) (ptsOf X Y (List.range n))) := by
    show Row _ _ _ _
    unfold Row
    rw [HLEN.out]
    simpa using hown'
  clear hown' hgrow
  go_wp2
  go_ret
  exact ⟨a, c, rfl, HOWN.out, HB2.out⟩
set_option maxHeartbeats 4000000 in
theorem copyFeature_row {off : Nat} (id la ki wi : Int) (b n cap : Nat) (X Y : Nat → Int) (lab : ByteArray) (pr : Int) (w : World) (hp : PtsAt w b off n X Y) (hbl : b < w.heap.size) (hn : n ≤ 1048576) (hl : lab.size ≤ 1048576) :
    Calls Tryz.prog 131 #[.agg #[.int .i64 id, .int .i64 la, .int .i64 ki, .int .i64 wi, .slice (some ⟨b, off, none⟩) n cap, .string lab, .int .i64 pr]] w fun e w' => ∃ a c, e = .returned (.agg #[.int .i64 id, .int .i64 la, .int .i64 ki, .int .i64 wi, .slice a n c, .string lab, .int .i64 pr]) ∧ Row w.heap.size w' (.slice a n c) (ptsOf X Y (List.range n)) ∧ Below w.heap.size w w' := by
  have HP : Hid (PtsAt w b off n X Y) := hp
  clear hp
  go_enter Tryz.func131, Tryz.ntmps131
  go_wp2_with fail
  generalize hW : ((w.alloc _).alloc _ : World) = W
  have hB0 : Below w.heap.size w W := by subst hW; (repeat (first | exact Below.refl _ _ | assumption | refine Below.drew ?_ | refine bl_alloc ?_ _ | refine bl_then ?_ (by assumption) | refine Below.setCell ?_ (by first | omega | (simp; done) | (simp; omega)) _ | refine bl_store ?_ ?_ _ _))
  have q0 : W.cell? ⟨w.heap.size, 0, none⟩ = some (.int .i64 id) := by subst hW; simp [go_sem]
  have q1 : W.cell? ⟨w.heap.size, 1, none⟩ = some (.int .i64 la) := by subst hW; simp [go_sem]
  have q2 : W.cell? ⟨w.heap.size, 2, none⟩ = some (.int .i64 ki) := by subst hW; simp [go_sem]
  have q3 : W.cell? ⟨w.heap.size, 3, none⟩ = some (.int .i64 wi) := by subst hW; simp [go_sem]
  have q4 : W.cell? ⟨w.heap.size, 4, none⟩ = some (.slice (some ⟨b, off, none⟩) n cap) := by subst hW; simp [go_sem]
  have q5 : W.cell? ⟨w.heap.size, 5, none⟩ = some (.string lab) := by subst hW; simp [go_sem]
  have q6 : W.cell? ⟨w.heap.size, 6, none⟩ = some (.int .i64 pr) := by subst hW; simp [go_sem]
  have fz : ∀ o, W.frozen? ⟨w.heap.size, o, none⟩ = false := fun o => by subst hW; simp [go_sem]
  have hT : There W (w.heap.size + 1) 7 := fun o ho => by
    subst hW
    have hc : o = 0 ∨ o = 1 ∨ o = 2 ∨ o = 3 ∨ o = 4 ∨ o = 5 ∨ o = 6 := by omega
    rcases hc with rfl | rfl | rfl | rfl | rfl | rfl | rfl <;> exact ⟨⟨_, by simp [go_sem]; rfl⟩, by simp [go_sem]⟩
  have hsz : w.heap.size + 1 < W.heap.size := by subst hW; simp
  clear hW
  refine (slicesClone_row b n cap X Y W (HP.out.below hB0 hbl) (Nat.lt_of_lt_of_le hbl hB0.size) hn).mono ?_
  rintro e w1 ⟨a1, c1, rfl, hR1, hb1⟩
  have HR1 : Hid (Row W.heap.size w1 (.slice a1 n c1) (ptsOf X Y (List.range n))) := hR1
  clear hR1
  have hB1 : Below w.heap.size w w1 := bl_then hB0 hb1
  have p0 := bl_cell hb1 q0
  have p1 := bl_cell hb1 q1
  have p2 := bl_cell hb1 q2
  have p3 := bl_cell hb1 q3
  have p4 := bl_cell hb1 q4
  have p5 := bl_cell hb1 q5
  have p6 := bl_cell hb1 q6
  have f1 : w1.frozen? ⟨w.heap.size, 4, none⟩ = false := (hb1.frozen (p := ⟨w.heap.size, 4, none⟩) (by show w.heap.size < _; omega)).trans (fz 4)
  have f2 : w1.frozen? ⟨w.heap.size, 5, none⟩ = false := (hb1.frozen (p := ⟨w.heap.size, 5, none⟩) (by show w.heap.size < _; omega)).trans (fz 5)
  have hT1 := hT.below hb1
  have hsz1 := hb1.size
  clear q0 q1 q2 q3 q4 q5 q6 fz hT hb1 hB0
  have HT1 : Hid (There w1 (w.heap.size + 1) 7) := hT1
  clear hT1
  go_wp2_with fail
  generalize hW2 : (w1.setCell _ _ : World) = W2
  have g0 : W2.cell? ⟨w.heap.size, 0, none⟩ = some (.int .i64 id) := by subst hW2; rw [set1_other (by simp)]; exact p0
  have g1 : W2.cell? ⟨w.heap.size, 1, none⟩ = some (.int .i64 la) := by subst hW2; rw [set1_other (by simp)]; exact p1
  have g2 : W2.cell? ⟨w.heap.size, 2, none⟩ = some (.int .i64 ki) := by subst hW2; rw [set1_other (by simp)]; exact p2
  have g3 : W2.cell? ⟨w.heap.size, 3, none⟩ = some (.int .i64 wi) := by subst hW2; rw [set1_other (by simp)]; exact p3
  have g4 : W2.cell? ⟨w.heap.size, 4, none⟩ = some (.slice a1 n c1) := by subst hW2; exact set1_same p4
  have g5 : W2.cell? ⟨w.heap.size, 5, none⟩ = some (.string lab) := by subst hW2; rw [set1_other (by simp)]; exact p5
  have g6 : W2.cell? ⟨w.heap.size, 6, none⟩ = some (.int .i64 pr) := by subst hW2; rw [set1_other (by simp)]; exact p6
  have ff : W2.frozen? ⟨w.heap.size, 5, none⟩ = false := by subst hW2; rw [World.frozen?_setCell]; exact f2
  have hT2 : There W2 (w.heap.size + 1) 7 := fun o ho => by
    subst hW2
    obtain ⟨u, hu⟩ := (HT1.out o ho).1
    exact ⟨⟨u, by rw [set1_other (by simp)]; exact hu⟩, by rw [World.frozen?_setCell]; exact (HT1.out o ho).2⟩
  have hB2 : Below w.heap.size w W2 := by subst hW2; exact hB1.setCell (Nat.le_refl _) _
  have hsz2 : w1.heap.size ≤ W2.heap.size := by subst hW2; simp [World.setCell]
  have HR2 : Hid (Row W.heap.size W2 (.slice a1 n c1) (ptsOf X Y (List.range n))) := by show Row _ _ _ _; subst hW2; exact HR1.out.setB (by omega)
  clear hW2 p0 p1 p2 p3 p4 p5 p6 f1 f2 hB1
  refine (stringsClone_any lab W2 hl).mono ?_
  rintro e w3 ⟨rfl, hb3⟩
  have HR3 : Hid (Row W.heap.size w3 (.slice a1 n c1) (ptsOf X Y (List.range n))) := HR2.out.below hb3
  have hB3 : Below w.heap.size w w3 := bl_then hB2 hb3
  have p0 := bl_cell hb3 g0
  have p1 := bl_cell hb3 g1
  have p2 := bl_cell hb3 g2
  have p3 := bl_cell hb3 g3
  have p4 := bl_cell hb3 g4
  have p5 := bl_cell hb3 g5
  have p6 := bl_cell hb3 g6
  have f5 : w3.frozen? ⟨w.heap.size, 5, none⟩ = false := (hb3.frozen (p := ⟨w.heap.size, 5, none⟩) (by show w.heap.size < _; omega)).trans ff
  have hT3 := hT2.below hb3
  have hsz3 := hb3.size
  have t0 := hT3.cell 0 (by omega)
  have t1 := hT3.cell 1 (by omega)
  have t2 := hT3.cell 2 (by omega)
  have t3 := hT3.cell 3 (by omega)
  have t4 := hT3.cell 4 (by omega)
  have t5 := hT3.cell 5 (by omega)
  have t6 := hT3.cell 6 (by omega)
  have z0 := (hT3 0 (by omega)).2
  have z1 := (hT3 1 (by omega)).2
  have z2 := (hT3 2 (by omega)).2
  have z3 := (hT3 3 (by omega)).2
  have z4 := (hT3 4 (by omega)).2
  have z5 := (hT3 5 (by omega)).2
  have z6 := (hT3 6 (by omega)).2
  have HT4 : Hid (There (w3.setCell ⟨w.heap.size, 5, none⟩ (.string lab)) (w.heap.size + 1) 7) := fun o ho => by
    obtain ⟨u, hu⟩ := (hT3 o ho).1
    exact ⟨⟨u, by rw [set1_other (by simp)]; exact hu⟩, by rw [World.frozen?_setCell]; exact (hT3 o ho).2⟩
  have HB3 : Hid (Below w.heap.size w w3) := hB3
  clear g0 g1 g2 g3 g4 g5 g6 ff hT2 hT3 hB2 hB3 hb3
  go_wp2_with fail
  obtain ⟨y0, y1, y2, y3, y4, y5, y6⟩ := set7_at (v0 := .int .i64 id) (v1 := .int .i64 la) (v2 := .int .i64 ki) (v3 := .int .i64 wi) (v4 := .slice a1 n c1) (v5 := .string lab) (v6 := .int .i64 pr) HT4.out
  have key : ∀ (T : Array Value) (Wf : World), T[2]?.getD undef = .pointer (some ⟨w.heap.size + 1, 0, none⟩) → Wf.cell? ⟨w.heap.size + 1, 0, none⟩ = some (.int .i64 id) → Wf.cell? ⟨w.heap.size + 1, 1, none⟩ = some (.int .i64 la) → Wf.cell? ⟨w.heap.size + 1, 2, none⟩ = some (.int .i64 ki) → Wf.cell? ⟨w.heap.size + 1, 3, none⟩ = some (.int .i64 wi) → Wf.cell? ⟨w.heap.size + 1, 4, none⟩ = some (.slice a1 n c1) → Wf.cell? ⟨w.heap.size + 1, 5, none⟩ = some (.string lab) → Wf.cell? ⟨w.heap.size + 1, 6, none⟩ = some (.int .i64 pr) →
      (results Tryz.f131 T).run Tryz.prog Wf = .ok (.agg #[.int .i64 id, .int .i64 la, .int .i64 ki, .int .i64 wi, .slice a1 n c1, .string lab, .int .i64 pr]) Wf := fun T Wf hT h0 h1 h2 h3 h4 h5 h6 => by
    simp [results, Tryz.results131, go_sem, hT, h0, h1, h2, h3, h4, h5, h6]
  refine bodyPost_ret (key _ _ rfl y0 y1 y2 y3 y4 y5 y6) rfl ⟨a1, c1, rfl, ?_, ?_⟩
  · exact ((((((((((HR3.out.setB (by omega)).setB (by omega)).setB (by omega)).setB (by omega)).setB (by omega)).setB (by omega)).setB (by omega)).setB (by omega)).wideB (by omega)))
  · exact ((((((((HB3.out.setCell (Nat.le_refl _) _).setCell (Nat.le_succ _) _).setCell (Nat.le_succ _) _).setCell (Nat.le_succ _) _).setCell (Nat.le_succ _) _).setCell (Nat.le_succ _) _).setCell (Nat.le_succ _) _).setCell (Nat.le_succ _) _)
end Go.Proofs.YtciidkmonfmipaaGreat
/- The features of a list are copied into memory of their own. -/

namespace Go.Proofs.YtciidkmonfmipaaGreat
open Go.RowKit
set_option linter.unusedSimpArgs false
set_option linter.unusedVariables false
set_option maxRecDepth 100000

/-- The first n of H are those of G, each with a row of points of its own. -/
def Copies (base : Nat) (w : World) (n : Nat) (G H : Nat → Feat) : Prop :=
  (∀ i, i < n → (H i).same (G i) ∧ Row base w (.slice (H i).a (H i).n (H i).cap) (ptsOf (G i).X (G i).Y (List.range (G i).n))) ∧
  ∀ i j, i < n → j < n → (H i).a = (H j).a → i = j
theorem ptsOf_len (X Y : Nat → Int) (n : Nat) : (ptsOf X Y (List.range n)).length = n := by simp [ptsOf]
theorem ptsOf_px (X Y : Nat → Int) (n i : Nat) (hi : i < n) : px (ptsOf X Y (List.range n)) i = X i ∧ py (ptsOf X Y (List.range n)) i = Y i := by
  simp [px, py, ptsOf, List.getD_eq_getElem?_getD, hi]
theorem Row.atP {base : Nat} {w : World} {a : Option Addr} {n c : Nat} {X Y : Nat → Int} (h : Row base w (.slice a n c) (ptsOf X Y (List.range n))) (hn : 0 < n) :
    ∃ g, a = some ⟨g, 0, none⟩ ∧ base ≤ g ∧ g < w.heap.size ∧ PtsAt w g 0 n X Y ∧ There w g (n * 2) := by
  obtain ⟨a', cap', hv, hc, h0 | ⟨b, ha, hb, hl, hp, ht⟩⟩ := h.own
  · rw [ptsOf_len] at h0; omega
  · rw [ptsOf_len] at hp ht
    injection hv with e1 e2 e3
    refine ⟨b, e1.trans ha, hb, hl, fun i hi => ?_, ht⟩
    obtain ⟨x1, x2⟩ := ptsOf_px X Y n i hi
    have := hp i hi
    rw [x1, x2] at this
    exact this
theorem Row.keptF {base base' : Nat} {w w' : World} {u v : Value} {l : List (Int × Int)} {H : Nat → Feat} {m : List Nat} (h : Row base w u l) (h' : FRow base' w v H m) (hg : w.grownBy w' v.ownBlock) : Row base w' u l := by
  refine World.ownsRow.kept h hg ?_
  cases hu : u.ownBlock with
  | none => exact .inl rfl
  | some g =>
    right
    intro e
    obtain ⟨c1, h1⟩ := heap_of_row h g hu
    obtain ⟨c2, h2⟩ := heap_of_row h' g e.symm
    rw [h1] at h2
    injection h2 with h2
    injection h2 with _ h2
    exact absurd h2 (by decide)

set_option maxHeartbeats 4000000 in
theorem copyFeatures_any (b n cap : Nat) (G : Nat → Feat) (w : World) (hg : FsAt w b 0 n G) (hbl : b < w.heap.size) (hn : n ≤ 12) (hpos : ∀ i, i < n → 0 < (G i).n) (hs : SmallFs n G) :
    Calls Tryz.prog 106 #[.slice (some ⟨b, 0, none⟩) n cap] w fun e w' => ∃ v H, e = .returned v ∧ FRow w.heap.size w' v H (List.range n) ∧ Copies w.heap.size w' n G H ∧ Below w.heap.size w w' := by
  obtain ⟨i0, hi, hz0, hz1, hz2⟩ := info_parts info_if
  have HG : Hid (FsAt w b 0 n G) := hg
  have HPOS : Hid (∀ i, i < n → 0 < (G i).n) := hpos
  have HS : Hid (SmallFs n G) := hs
  clear hg hpos hs
  go_enter Tryz.func106, Tryz.ntmps106
  go_wp2_with fail
  go_loopw [3, 8] (fun v i wr => ∃ (k : Nat) (H : Nat → Feat), k ≤ n ∧ i = .int .i64 (k : Int) ∧ FRow w.heap.size wr v H (List.range k) ∧ Copies w.heap.size wr k G H ∧ Below w.heap.size w wr) (fun _ i _ => n - (intOf i).toNat)
  case atStart => exact ⟨0, G, by omega, rfl, World.ownsRow_nil _ _ _ _, ⟨fun i hi => by omega, fun i j hi => by omega⟩, Below.refl _ _⟩
  case round =>
    obtain ⟨k, H, hk, rfl, hO, hC, hB⟩ := hrel
    by_cases hlt : k < n
    · have hblr : b < wr.heap.size := Nat.lt_of_lt_of_le hbl hB.size
      obtain ⟨⟨f0, f1, f2, f3, f4, f5, f6⟩, hP⟩ := (HG.out.below hB hbl) k hlt
      simp only [Nat.zero_add] at f0 f1 f2 f3 f4 f5 f6
      have hp0 := HPOS.out k hlt
      obtain ⟨z1, z2⟩ := HS.out.2 k hlt
      obtain ⟨b', off', ha', hbl', hpt⟩ := hP.resolve_left (by omega)
      rw [ha'] at f4
      have HP : Hid (PtsAt wr b' off' (G k).n (G k).X (G k).Y) := hpt
      have HO : Hid (FRow w.heap.size wr u3 H (List.range k)) := hO
      have HC : Hid (Copies w.heap.size wr k G H) := hC
      have HB : Hid (Below w.heap.size w wr) := hB
      have HLT : Hid (k < n) := hlt
      clear hO hC hB hP hpt
      have hi' : (k : Int) < (n : Int) := by omega
      go_wp2_with fail
      generalize hV : (wr.alloc _ : World) = V
      have hBV : Below wr.heap.size wr V := by subst hV; (repeat (first | exact Below.refl _ _ | assumption | refine Below.drew ?_ | refine bl_alloc ?_ _ | refine bl_then ?_ (by assumption) | refine Below.setCell ?_ (by first | omega | (simp; done) | (simp; omega)) _ | refine bl_store ?_ ?_ _ _))
      clear hV f0 f1 f2 f3 f4 f5 f6
      have hOV : FRow w.heap.size V u3 H (List.range k) := HO.out.below hBV
      refine (copyFeature_row _ _ _ _ b' _ _ (G k).X (G k).Y _ _ V (HP.out.below hBV hbl') (Nat.lt_of_lt_of_le hbl' hBV.size) z1 z2).mono ?_
      rintro e w1 ⟨a1, c1, rfl, hR1, hb1⟩
      have hrV : Below wr.heap.size wr w1 := bl_then hBV hb1
      have HR1 : Hid (Row V.heap.size w1 (.slice a1 (G k).n c1) (ptsOf (G k).X (G k).Y (List.range (G k).n))) := hR1
      have HO1 : Hid (FRow w.heap.size w1 u3 H (List.range k)) := hOV.below hb1
      have HB1 : Hid (Below w.heap.size w w1) := bl_then HB.out hrV
      have HrV : Hid (Below wr.heap.size wr w1) := hrV
      have hszV := hBV.size
      have hszw := HB.out.size
      have hsz1 := hb1.size
      clear hR1 hrV hOV hBV hb1 HO HB
      have hlenr : (List.range k).length = k := by simp
      go_wp2_with (first
        | (at_builtin; go_must (refine wpList_append_own _ rfl _ _ 40 rfl w.heap.size 101 i0 (.agg #[.int .i64 0, .int .i64 0, .int .i64 0, .int .i64 0, .slice none 0 0, .string ⟨#[]⟩, .int .i64 0]) 7 80 Tryz.underlying40 hi hz0 hz1 hz2 rfl (by decide) u3 k (cellsF H (List.range k)) rfl ?c6 ⟨w1.heap.size, 0, none⟩ 1 1 (fcell { G k with a := a1, cap := c1 }) rfl ?c0 ?c1 ?c2 ?c3 ?c4 ?c5 ?_)))
      case c6 =>
        have := HO1.out.below (by (repeat (first | exact Below.refl _ _ | assumption | refine Below.drew ?_ | refine bl_alloc ?_ _ | refine bl_then ?_ (by assumption) | refine Below.setCell ?_ (by first | omega | (simp; done) | (simp; omega)) _ | refine bl_store ?_ ?_ _ _)) : Below w1.heap.size w1 (w1.alloc (.cells #[.int .i64 (G k).id, .int .i64 (G k).la, .int .i64 (G k).ki, .int .i64 (G k).wi, .slice a1 (G k).n c1, .string (G k).lab, .int .i64 (G k).pr] 101)))
        unfold FRow at this
        rw [hlenr] at this
        exact this
      case c0 => rfl
      case c1 =>
        intro q u hq
        have hq7 : q < 7 := (List.getElem?_eq_some_iff.1 hq).1
        have hc : q = 0 ∨ q = 1 ∨ q = 2 ∨ q = 3 ∨ q = 4 ∨ q = 5 ∨ q = 6 := by omega
        rcases hc with rfl | rfl | rfl | rfl | rfl | rfl | rfl <;> (simp [fcell] at hq; subst hq; simp [Addr.add, go_sem])
      case c2 => exact fcell_one _
      case c3 => unfold maxLen; omega
      case c4 => omega
      case c5 => simp; omega
      intro v' w3 hown' hgrow hnil
      clear hnil
      have hO2 : FRow w.heap.size (w1.alloc (.cells #[.int .i64 (G k).id, .int .i64 (G k).la, .int .i64 (G k).ki, .int .i64 (G k).wi, .slice a1 (G k).n c1, .string (G k).lab, .int .i64 (G k).pr] 101)) u3 H (List.range k) := HO1.out.below (by (repeat (first | exact Below.refl _ _ | assumption | refine Below.drew ?_ | refine bl_alloc ?_ _ | refine bl_then ?_ (by assumption) | refine Below.setCell ?_ (by first | omega | (simp; done) | (simp; omega)) _ | refine bl_store ?_ ?_ _ _)))
      have hR2 := HR1.out.below (by (repeat (first | exact Below.refl _ _ | assumption | refine Below.drew ?_ | refine bl_alloc ?_ _ | refine bl_then ?_ (by assumption) | refine Below.setCell ?_ (by first | omega | (simp; done) | (simp; omega)) _ | refine bl_store ?_ ?_ _ _)) : Below w1.heap.size w1 (w1.alloc (.cells #[.int .i64 (G k).id, .int .i64 (G k).la, .int .i64 (G k).ki, .int .i64 (G k).wi, .slice a1 (G k).n c1, .string (G k).lab, .int .i64 (G k).pr] 101)))
      have hb2 : Below wr.heap.size wr (w1.alloc (.cells #[.int .i64 (G k).id, .int .i64 (G k).la, .int .i64 (G k).ki, .int .i64 (G k).wi, .slice a1 (G k).n c1, .string (G k).lab, .int .i64 (G k).pr] 101)) := HrV.out.alloc (by omega) _
      obtain ⟨hC1, hC2⟩ := HC.out
      have HF : Hid (FRow w.heap.size w3 v' (fun i => if i = k then { G k with a := a1, cap := c1 } else H i) (List.range (k + 1))) := by
        show FRow _ _ _ _ _
        unfold FRow
        have e1 : cellsF (fun i => if i = k then { G k with a := a1, cap := c1 } else H i) (List.range (k + 1)) = cellsF H (List.range k) ++ fcell { G k with a := a1, cap := c1 } := by
          rw [List.range_succ, cellsF_app, cellsF_one, if_pos rfl]
          rw [cellsF_congr (H' := H) (List.range k) (fun j hj => by rw [if_neg]; have := List.mem_range.1 hj; omega)]
        rw [e1, List.length_range]
        exact hown'
      have HCn : Hid (Copies w.heap.size w3 (k + 1) G (fun i => if i = k then { G k with a := a1, cap := c1 } else H i)) := by
        show Copies _ _ _ _ _
        obtain ⟨g1, hg1, hg1', _⟩ := HR1.out.atP hp0
        refine ⟨fun i hi => ?_, fun i j hi hj e => ?_⟩
        · by_cases e : i = k
          · subst e
            simp only [if_pos]
            exact ⟨⟨rfl, rfl, rfl, rfl, rfl, rfl, rfl, rfl, rfl⟩, (hR2.keptF hO2 hgrow).wideB (by omega)⟩
          · simp only [if_neg e]
            obtain ⟨s1, r1⟩ := hC1 i (by omega)
            exact ⟨s1, (r1.below hb2).keptF hO2 hgrow⟩
        · have old : ∀ i, i < k → (H i).a ≠ a1 := fun i hi e => by
            obtain ⟨s1, r1⟩ := hC1 i hi
            have hnn : (H i).n = (G i).n := s1.2.2.2.2.1
            rw [hnn] at r1
            obtain ⟨g, hg, _, hgl, _⟩ := r1.atP (HPOS.out i (by omega))
            rw [hg, hg1] at e
            injection e with e
            injection e with e
            omega
          by_cases ei : i = k <;> by_cases ej : j = k
          · omega
          · simp only [if_pos ei, if_neg ej] at e
            exact absurd e.symm (old j (by omega))
          · simp only [if_neg ei, if_pos ej] at e
            exact absurd e (old i (by omega))
          · simp only [if_neg ei, if_neg ej] at e
            exact hC2 i j (by omega) (by omega) e
      have HB3 : Hid (Below w.heap.size w w3) := (HB1.out.alloc (by omega) _).grown hgrow (by simp; omega) (fun g hg => ((World.ownsRow.lt (show World.ownsRow _ _ _ _ _ _ _ from hO2)) g hg).1)
      clear hown' hgrow hO2 hR2 hb2 hC1 hC2
      go_wp2
      go_roundw
      case rel => exact ⟨k + 1, _, by have := HLT.out; omega, by go_num, HF.out, HCn.out, HB3.out⟩
      case measure => have := HLT.out; simp [intOf]; omega
    · go_wp2
      go_ret
      have hkn : k = n := by omega
      subst hkn
      exact ⟨_, H, rfl, hO, hC, hB⟩
end Go.Proofs.YtciidkmonfmipaaGreat
