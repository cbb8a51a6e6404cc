/- Texts. -/
import Derived.Test.YtfkonhagjahgnaaGreatWTiles6
import Derived.Test.YtfkonhagjahgnaaGreatWTiles9
import Derived.OwnWalk
import Derived.Deep.DeepMust
set_option linter.unusedSimpArgs false
set_option linter.unusedVariables false
set_option maxRecDepth 100000
set_option maxHeartbeats 32000000
namespace Go.Proofs.YtfkonhagjahgnaaGreat
open Go.RowKit
theorem Row.setB {base r o : Nat} {w : World} {v x : Value} {l : List (Int × Int)} (h : Row base w v l) (hr : r < base) : Row base (w.setCell ⟨r, o, none⟩ x) v l := by
  obtain ⟨h1, h2 | ⟨g, cp, cur, hv, hg, hh, hrest⟩⟩ := h
  · exact ⟨h1, .inl h2⟩
  · refine ⟨h1, .inr ⟨g, cp, cur, hv, hg, ?_, hrest⟩⟩
    rw [Below.heap_setCell _ _ _ _ (by simp; omega)]
    exact hh
theorem Row.wideB {base B : Nat} {w : World} {v : Value} {l : List (Int × Int)} (h : Row base w v l) (hB : B ≤ base) : Row B w v l := by
  obtain ⟨h1, h2 | ⟨g, cp, cur, hv, hg, hrest⟩⟩ := h
  · exact ⟨h1, .inl h2⟩
  · exact ⟨h1, .inr ⟨g, cp, cur, hv, by omega, hrest⟩⟩
set_option maxRecDepth 8000 in
theorem slicesClone_row {off : Nat} (b n cap : Nat) (X Y : Nat → Int) (w : World) (hp : PtsAt w b off n X Y) (hbl : b < w.heap.size) (hn : n ≤ 1048576) :
    Calls Tryz.prog 107 #[.slice (some ⟨b, off, none⟩) n cap] w fun e w' => ∃ a c, e = .returned (.slice a n c) ∧ Row w.heap.size w' (.slice a n c) (ptsOf X Y (List.range n)) ∧ Below w.heap.size w w' := by
  obtain ⟨i0, hi, hz0, hz1, hz2⟩ := info_parts (show (Tryz.prog.info? 67).map (fun i => (i.zero, i.size, i.bytes)) = some (some (.agg #[.int .i64 0, .int .i64 0]), 2, 16) by kernel_rfl)
  have HP : Hid (PtsAt w b off n X Y) := hp
  have HLEN : Hid ((ptsOf X Y (List.range n)).length = n) := by show _ = _; simp [ptsOf]
  clear hp
  have hnl : ∀ w, Sem.run Tryz.prog (binOp BinOp.eql 37 (.slice (some ⟨b, off, none⟩) n cap) (.slice none 0 0)) w = .ok (.bool false) w := fun _ => by kernel_rfl
  go_enter Tryz.func107, Tryz.ntmps107
  go_wp2_with (first
    | (at_builtin; go_must (refine wpList_append_own _ rfl _ _ 37 rfl w.heap.size 67 i0 (.agg #[.int .i64 0, .int .i64 0]) 2 16 Tryz.underlying37 hi hz0 hz1 hz2 rfl (by decide) (.slice (some ⟨w.heap.size, 0, none⟩) 0 0) 0 [] rfl (World.ownsRow_lit (base := w.heap.size) w #[] 0 (Nat.le_refl _) (Nat.zero_le _) rfl) ⟨b, off, none⟩ n cap (cellsL (ptsOf X Y (List.range n))) rfl ?c0 ?c1 ?c2 ?c3 ?c4 ?c5 ?_)))
  case c0 => rw [cellsL_len, HLEN.out]
  case c1 =>
    intro q u hq
    have h1 := pts_cellsO (HP.out.below (by (repeat (first|exact Qr _ _|assumption|refine Qd ?_|refine Qa ?_ _|refine Qt ?_|refine Qs ?_ _|refine Qo ?_ ?_ _ _)) : Below w.heap.size w (w.alloc (.cells #[] 67))) hbl) q u hq
    by_cases hq0 : q = 0
    · subst hq0; simpa [Addr.add] using h1
    · simpa [Addr.add, hq0] using h1
  case c2 =>
    intro u hu
    unfold cellsL at hu
    rw [List.mem_flatMap] at hu
    obtain ⟨p, _, hp⟩ := hu
    simp at hp
    rcases hp with rfl | rfl <;> rfl
  case c3 => unfold maxLen; omega
  case c4 => omega
  case c5 => first | omega | (simp; done) | (simp; omega)
  intro v' w2 hown' hgrow hnil
  clear hnil
  obtain ⟨a, c, hv⟩ : ∃ a c, v' = .slice a n c := by
    obtain ⟨_, h2 | ⟨g, cp, cur, hv, _⟩⟩ := hown'
    · exact ⟨none, 0, by have e := h2.2; have e2 : n = 0 := by omega
                         subst e2; exact h2.1⟩
    · exact ⟨_, cp, by rw [hv]⟩
  have HB2 : Hid (Below w.heap.size w w2) := ((Below.refl _ _).alloc (Nat.le_refl _) _).trans ((Below.refl _ _).grown hgrow (by simp) (fun k hk => by simp [Value.ownBlock] at hk; omega))
  subst hv
  have HOWN : Hid (Row w.heap.size w2 (.slice a n c) (ptsOf X Y (List.range n))) := by
    show Row _ _ _ _
    unfold Row
    rw [HLEN.out]
    simpa using hown'
  clear hown' hgrow
  go_wp2
  go_ret
  exact ⟨a, c, rfl, HOWN.out, HB2.out⟩
theorem copyFeature_row {off : Nat} (id la ki wi : Int) (b n cap : Nat) (X Y : Nat → Int) (lab : ByteArray) (pr : Int) (w : World) (hp : PtsAt w b off n X Y) (hbl : b < w.heap.size) (hn : n ≤ 1048576) (hl : lab.size ≤ 1048576) :
    Calls Tryz.prog 67 #[.agg #[.int .i64 id, .int .i64 la, .int .i64 ki, .int .i64 wi, .slice (some ⟨b, off, none⟩) n cap, .string lab, .int .i64 pr]] w fun e w' => ∃ a c, e = .returned (.agg #[.int .i64 id, .int .i64 la, .int .i64 ki, .int .i64 wi, .slice a n c, .string lab, .int .i64 pr]) ∧ Row w.heap.size w' (.slice a n c) (ptsOf X Y (List.range n)) ∧ Below w.heap.size w w' := by
  have HP : Hid (PtsAt w b off n X Y) := hp
  clear hp
  go_enter Tryz.func67, Tryz.ntmps67
  go_wp2_with fail
  generalize hW : ((w.alloc _).alloc _ : World) = W
  have hB0 : Below w.heap.size w W := by subst hW; (repeat (first|exact Qr _ _|assumption|refine Qd ?_|refine Qa ?_ _|refine Qt ?_|refine Qs ?_ _|refine Qo ?_ ?_ _ _))
  have q0 : W.cell? ⟨w.heap.size, 0, none⟩ = some (.int .i64 id) := by subst hW; simp [go_sem]
  have q1 : W.cell? ⟨w.heap.size, 1, none⟩ = some (.int .i64 la) := by subst hW; simp [go_sem]
  have q2 : W.cell? ⟨w.heap.size, 2, none⟩ = some (.int .i64 ki) := by subst hW; simp [go_sem]
  have q3 : W.cell? ⟨w.heap.size, 3, none⟩ = some (.int .i64 wi) := by subst hW; simp [go_sem]
  have q4 : W.cell? ⟨w.heap.size, 4, none⟩ = some (.slice (some ⟨b, off, none⟩) n cap) := by subst hW; simp [go_sem]
  have q5 : W.cell? ⟨w.heap.size, 5, none⟩ = some (.string lab) := by subst hW; simp [go_sem]
  have q6 : W.cell? ⟨w.heap.size, 6, none⟩ = some (.int .i64 pr) := by subst hW; simp [go_sem]
  have fz : ∀ o, W.frozen? ⟨w.heap.size, o, none⟩ = false := fun o => by subst hW; simp [go_sem]
  have hT : There W (w.heap.size + 1) 7 := fun o ho => by
    subst hW
    have hc : o = 0 ∨ o = 1 ∨ o = 2 ∨ o = 3 ∨ o = 4 ∨ o = 5 ∨ o = 6 := by omega
    rcases hc with rfl | rfl | rfl | rfl | rfl | rfl | rfl <;> exact ⟨⟨_, by simp [go_sem]; rfl⟩, by simp [go_sem]⟩
  have hsz : w.heap.size + 1 < W.heap.size := by subst hW; simp
  clear hW
  refine (slicesClone_row b n cap X Y W (HP.out.below hB0 hbl) (Nat.lt_of_lt_of_le hbl hB0.size) hn).mono ?_
  rintro e w1 ⟨a1, c1, rfl, hR1, hb1⟩
  have HR1 : Hid (Row W.heap.size w1 (.slice a1 n c1) (ptsOf X Y (List.range n))) := hR1
  clear hR1
  have hB1 : Below w.heap.size w w1 := bl_then hB0 hb1
  have p0 := bl_cell hb1 q0
  have p1 := bl_cell hb1 q1
  have p2 := bl_cell hb1 q2
  have p3 := bl_cell hb1 q3
  have p4 := bl_cell hb1 q4
  have p5 := bl_cell hb1 q5
  have p6 := bl_cell hb1 q6
  have f1 : w1.frozen? ⟨w.heap.size, 4, none⟩ = false := (hb1.frozen (p := ⟨w.heap.size, 4, none⟩) (by show w.heap.size < _; omega)).trans (fz 4)
  have f2 : w1.frozen? ⟨w.heap.size, 5, none⟩ = false := (hb1.frozen (p := ⟨w.heap.size, 5, none⟩) (by show w.heap.size < _; omega)).trans (fz 5)
  have hT1 := hT.below hb1
  have hsz1 := hb1.size
  clear q0 q1 q2 q3 q4 q5 q6 fz hT hb1 hB0
  have HT1 : Hid (There w1 (w.heap.size + 1) 7) := hT1
  clear hT1
  go_wp2_with fail
  generalize hW2 : (w1.setCell _ _ : World) = W2
  have g0 : W2.cell? ⟨w.heap.size, 0, none⟩ = some (.int .i64 id) := by subst hW2; rw [set1_other (by simp)]; exact p0
  have g1 : W2.cell? ⟨w.heap.size, 1, none⟩ = some (.int .i64 la) := by subst hW2; rw [set1_other (by simp)]; exact p1
  have g2 : W2.cell? ⟨w.heap.size, 2, none⟩ = some (.int .i64 ki) := by subst hW2; rw [set1_other (by simp)]; exact p2
  have g3 : W2.cell? ⟨w.heap.size, 3, none⟩ = some (.int .i64 wi) := by subst hW2; rw [set1_other (by simp)]; exact p3
  have g4 : W2.cell? ⟨w.heap.size, 4, none⟩ = some (.slice a1 n c1) := by subst hW2; exact set1_same p4
  have g5 : W2.cell? ⟨w.heap.size, 5, none⟩ = some (.string lab) := by subst hW2; rw [set1_other (by simp)]; exact p5
  have g6 : W2.cell? ⟨w.heap.size, 6, none⟩ = some (.int .i64 pr) := by subst hW2; rw [set1_other (by simp)]; exact p6
  have ff : W2.frozen? ⟨w.heap.size, 5, none⟩ = false := by subst hW2; rw [World.frozen?_setCell]; exact f2
  have hT2 : There W2 (w.heap.size + 1) 7 := fun o ho => by
    subst hW2
    obtain ⟨u, hu⟩ := (HT1.out o ho).1
    exact ⟨⟨u, by rw [set1_other (by simp)]; exact hu⟩, by rw [World.frozen?_setCell]; exact (HT1.out o ho).2⟩
  have hB2 : Below w.heap.size w W2 := by subst hW2; exact hB1.setCell (Nat.le_refl _) _
  have hsz2 : w1.heap.size ≤ W2.heap.size := by subst hW2; simp [World.setCell]
  have HR2 : Hid (Row W.heap.size W2 (.slice a1 n c1) (ptsOf X Y (List.range n))) := by show Row _ _ _ _; subst hW2; exact HR1.out.setB (by omega)
  clear hW2 p0 p1 p2 p3 p4 p5 p6 f1 f2 hB1
  refine (stringsClone_any lab W2 hl).mono ?_
  rintro e w3 ⟨rfl, hb3⟩
  have HR3 : Hid (Row W.heap.size w3 (.slice a1 n c1) (ptsOf X Y (List.range n))) := HR2.out.below hb3
  have hB3 : Below w.heap.size w w3 := bl_then hB2 hb3
  have p0 := bl_cell hb3 g0
  have p1 := bl_cell hb3 g1
  have p2 := bl_cell hb3 g2
  have p3 := bl_cell hb3 g3
  have p4 := bl_cell hb3 g4
  have p5 := bl_cell hb3 g5
  have p6 := bl_cell hb3 g6
  have f5 : w3.frozen? ⟨w.heap.size, 5, none⟩ = false := (hb3.frozen (p := ⟨w.heap.size, 5, none⟩) (by show w.heap.size < _; omega)).trans ff
  have hT3 := hT2.below hb3
  have hsz3 := hb3.size
  have t0 := hT3.cell 0 (by omega)
  have t1 := hT3.cell 1 (by omega)
  have t2 := hT3.cell 2 (by omega)
  have t3 := hT3.cell 3 (by omega)
  have t4 := hT3.cell 4 (by omega)
  have t5 := hT3.cell 5 (by omega)
  have t6 := hT3.cell 6 (by omega)
  have z0 := (hT3 0 (by omega)).2
  have z1 := (hT3 1 (by omega)).2
  have z2 := (hT3 2 (by omega)).2
  have z3 := (hT3 3 (by omega)).2
  have z4 := (hT3 4 (by omega)).2
  have z5 := (hT3 5 (by omega)).2
  have z6 := (hT3 6 (by omega)).2
  have HT4 : Hid (There (w3.setCell ⟨w.heap.size, 5, none⟩ (.string lab)) (w.heap.size + 1) 7) := fun o ho => by
    obtain ⟨u, hu⟩ := (hT3 o ho).1
    exact ⟨⟨u, by rw [set1_other (by simp)]; exact hu⟩, by rw [World.frozen?_setCell]; exact (hT3 o ho).2⟩
  have HB3 : Hid (Below w.heap.size w w3) := hB3
  clear g0 g1 g2 g3 g4 g5 g6 ff hT2 hT3 hB2 hB3 hb3
  go_wp2_with fail
  obtain ⟨y0, y1, y2, y3, y4, y5, y6⟩ := set7_at (v0 := .int .i64 id) (v1 := .int .i64 la) (v2 := .int .i64 ki) (v3 := .int .i64 wi) (v4 := .slice a1 n c1) (v5 := .string lab) (v6 := .int .i64 pr) HT4.out
  have key : ∀ (T : Array Value) (Wf : World), T[2]?.getD undef = .pointer (some ⟨w.heap.size + 1, 0, none⟩) → Wf.cell? ⟨w.heap.size + 1, 0, none⟩ = some (.int .i64 id) → Wf.cell? ⟨w.heap.size + 1, 1, none⟩ = some (.int .i64 la) → Wf.cell? ⟨w.heap.size + 1, 2, none⟩ = some (.int .i64 ki) → Wf.cell? ⟨w.heap.size + 1, 3, none⟩ = some (.int .i64 wi) → Wf.cell? ⟨w.heap.size + 1, 4, none⟩ = some (.slice a1 n c1) → Wf.cell? ⟨w.heap.size + 1, 5, none⟩ = some (.string lab) → Wf.cell? ⟨w.heap.size + 1, 6, none⟩ = some (.int .i64 pr) →
      (results Tryz.f67 T).run Tryz.prog Wf = .ok (.agg #[.int .i64 id, .int .i64 la, .int .i64 ki, .int .i64 wi, .slice a1 n c1, .string lab, .int .i64 pr]) Wf := fun T Wf hT h0 h1 h2 h3 h4 h5 h6 => by
    simp [results, Tryz.results67, go_sem, hT, h0, h1, h2, h3, h4, h5, h6]
  refine bodyPost_ret (key _ _ rfl y0 y1 y2 y3 y4 y5 y6) rfl ⟨a1, c1, rfl, ?_, ?_⟩
  · exact ((((((((((HR3.out.setB (by omega)).setB (by omega)).setB (by omega)).setB (by omega)).setB (by omega)).setB (by omega)).setB (by omega)).setB (by omega)).wideB (by omega)))
  · exact ((((((((HB3.out.setCell (Nat.le_refl _) _).setCell (Nat.le_succ _) _).setCell (Nat.le_succ _) _).setCell (Nat.le_succ _) _).setCell (Nat.le_succ _) _).setCell (Nat.le_succ _) _).setCell (Nat.le_succ _) _).setCell (Nat.le_succ _) _)
theorem dist_nonneg (ax ay bx by' : Int) : 0 ≤ distI ax ay bx by' := by
 have s1 := sq_nonneg (bx - ax)
 have s2 := sq_nonneg (by' - ay)
 unfold distI; omega
theorem dist_eq_zero {ax ay bx by' : Int} (h : distI ax ay bx by' = 0) : ax = bx ∧ ay = by' := by
 have s1 := sq_nonneg (bx - ax)
 have s2 := sq_nonneg (by' - ay)
 unfold distI at h
 have h1 : (bx - ax) * (bx - ax) = 0 := by omega
 have h2 : (by' - ay) * (by' - ay) = 0 := by omega
 have := Int.mul_eq_zero.1 h1
 have := Int.mul_eq_zero.1 h2
 omega
def aboveB (a b c d : Int) : Bool := decide (c * b < a * d)
theorem frac_le_lt {a b c d e f : Int} (hb : 0 < b) (hd : 0 < d) (hf : 0 < f) (h1 : a * d ≤ c * b) (h2 : c * f < e * d) : a * f < e * b := by
 have h3 : a * d * f ≤ c * b * f := Int.mul_le_mul_of_nonneg_right h1 (by omega)
 have h4 : c * f * b < e * d * b := Int.mul_lt_mul_of_pos_right h2 hb
 have h5 : a * f * d < e * b * d := by
  have e1 : a * f * d = a * d * f := by grind
  have e2 : c * b * f = c * f * b := by grind
  have e3 : e * b * d = e * d * b := by grind
  omega
 exact Int.lt_of_mul_lt_mul_right h5 (by omega)
theorem frac_lt_le {a b c d e f : Int} (hb : 0 < b) (hd : 0 < d) (hf : 0 < f) (h1 : a * d < c * b) (h2 : c * f ≤ e * d) : a * f < e * b := by
 have h3 : a * d * f < c * b * f := Int.mul_lt_mul_of_pos_right h1 hf
 have h4 : c * f * b ≤ e * d * b := Int.mul_le_mul_of_nonneg_right h2 (by omega)
 have h5 : a * f * d < e * b * d := by
  have e1 : a * f * d = a * d * f := by grind
  have e2 : c * b * f = c * f * b := by grind
  have e3 : e * b * d = e * d * b := by grind
  omega
 exact Int.lt_of_mul_lt_mul_right h5 (by omega)
theorem frac_le_le {a b c d e f : Int} (hb : 0 < b) (hd : 0 < d) (hf : 0 < f) (h1 : a * d ≤ c * b) (h2 : c * f ≤ e * d) : a * f ≤ e * b := by
 have h3 : a * d * f ≤ c * b * f := Int.mul_le_mul_of_nonneg_right h1 (by omega)
 have h4 : c * f * b ≤ e * d * b := Int.mul_le_mul_of_nonneg_right h2 (by omega)
 have h5 : a * f * d ≤ e * b * d := by
  have e1 : a * f * d = a * d * f := by grind
  have e2 : c * b * f = c * f * b := by grind
  have e3 : e * b * d = e * d * b := by grind
  omega
 exact Int.le_of_mul_le_mul_right h5 hd
section
variable (X Y : Nat → Int)
def gO (f t i : Nat) : Int := overI (X i) (Y i) (X f) (Y f) (X t) (Y t)
def gU (f t i : Nat) : Int := underI (X i) (Y i) (X f) (Y f) (X t) (Y t)
theorem gU_pos (f t i : Nat) : 0 < gU X Y f t i := by
 unfold gU underI
 split
 ·omega
 ·split
  ·omega
  ·rename_i h1 h2; omega
theorem gO_first (f t : Nat) : gO X Y f t f = 0 ∧ gU X Y f t f = 1 := by
 have h : alongI (X f) (Y f) (X f) (Y f) (X t) (Y t) = 0 := by simp [alongI]
 have hd : distI (X f) (Y f) (X f) (Y f) = 0 := by simp [distI]
 unfold gO gU overI underI
 rw [h]
 simp [hd]
theorem gO_last (f t : Nat) : gO X Y f t t = 0 ∧ gU X Y f t t = 1 := by
 have h : alongI (X t) (Y t) (X f) (Y f) (X t) (Y t) = distI (X f) (Y f) (X t) (Y t) := by simp [alongI,distI]
 have hd : distI (X t) (Y t) (X t) (Y t) = 0 := by simp [distI]
 have hn := dist_nonneg (X f) (Y f) (X t) (Y t)
 unfold gO gU overI underI
 rw [h]
 by_cases h0 : distI (X f) (Y f) (X t) (Y t) ≤ 0
 ·have e : distI (X f) (Y f) (X t) (Y t) = 0 := by omega
  obtain ⟨e1,e2⟩ := dist_eq_zero e
  rw [if_pos h0,if_pos h0,e1,e2]
  simp [hd]
 ·rw [if_neg h0,if_neg h0,if_pos (Int.le_refl _),if_pos (Int.le_refl _)]
  exact ⟨hd,rfl⟩
theorem gO_nonneg (f t i : Nat) : 0 ≤ gO X Y f t i := by
 unfold gO overI
 split
 ·exact dist_nonneg _ _ _ _
 ·split
  ·exact dist_nonneg _ _ _ _
  ·exact sq_nonneg _
def gA (f t i j : Nat) : Bool := aboveB (gO X Y f t i) (gU X Y f t i) (gO X Y f t j) (gU X Y f t j)
structure Far (f t a b i : Nat) : Prop where
 lo : a ≤ i
 hi : i < b
 top : ∀ j,a ≤ j → j < b → gA X Y f t j i = false
 first : ∀ j,a ≤ j → j < i → gA X Y f t i j = true
theorem Far.one (f t i : Nat) : Far X Y f t i (i + 1) i := by
 refine ⟨Nat.le_refl _,by omega,fun j h1 h2 => ?_,fun j h1 h2 => by omega⟩
 have : j = i := by omega
 subst this
 simp [gA,aboveB]
theorem Far.step {f t lo hi i : Nat} (h : Far X Y f t lo hi i) : Far X Y f t lo (hi + 1) (if gA X Y f t hi i = true then hi else i) := by
 have p1 := gU_pos X Y f t hi
 have p2 := gU_pos X Y f t i
 by_cases hc : gA X Y f t hi i = true
 ·rw [if_pos hc]
  have hc' : gO X Y f t i * gU X Y f t hi < gO X Y f t hi * gU X Y f t i := by simpa [gA,aboveB] using hc
  have hless : ∀ j,lo ≤ j → j < hi → gO X Y f t j * gU X Y f t hi < gO X Y f t hi * gU X Y f t j := fun j h1 h2 => by
   have h3 : gO X Y f t j * gU X Y f t i ≤ gO X Y f t i * gU X Y f t j := by
    have := h.top j h1 h2
    simp [gA,aboveB] at this
    exact this
   exact frac_le_lt (gU_pos X Y f t j) p2 p1 h3 hc'
  have hlo := h.lo
  have hhi := h.hi
  refine ⟨by omega,by omega,fun j h1 h2 => ?_,fun j h1 h2 => ?_⟩
  ·by_cases e : j = hi
   ·subst e; simp [gA,aboveB]
   ·have := hless j h1 (by omega)
    simp [gA,aboveB]
    omega
  ·have := hless j h1 h2
   simpa [gA,aboveB] using this
 ·rw [if_neg hc]
  have hhi := h.hi
  refine ⟨h.lo,by omega,fun j h1 h2 => ?_,h.first⟩
  by_cases e : j = hi
  ·subst e; simpa using hc
  ·exact h.top j h1 (by omega)
theorem Far.uniq {f t lo hi i j : Nat} (h : Far X Y f t lo hi i) (k : Far X Y f t lo hi j) : i = j := by
 rcases Nat.lt_trichotomy i j with h1 | h1 | h1
 ·have := k.first i h.lo h1
  rw [h.top j k.lo k.hi] at this
  cases this
 ·exact h1
 ·have := h.first j k.lo h1
  rw [k.top i h.lo h.hi] at this
  cases this
def nearI (r : Int) (f t i : Nat) : Bool := nearB (X i) (Y i) (X f) (Y f) (X t) (Y t) r
theorem nearI_iff (r : Int) (f t i : Nat) : nearI X Y r f t i = true ↔ gO X Y f t i ≤ r * r * gU X Y f t i := by simp [nearI,nearB,gO,gU]
def farB (r : Int) (f t : Nat) : Bool := decide (∃ i,i < t ∧ f < i ∧ nearI X Y r f t i = false)
theorem farB_iff (r : Int) (f t : Nat) : farB X Y r f t = true ↔ ∃ i,i < t ∧ f < i ∧ nearI X Y r f t i = false := by simp [farB]
theorem not_near {r : Int} {f t i j : Nat} (hn : nearI X Y r f t i = false) (h : gA X Y f t i j = false) : nearI X Y r f t j = false := by
 have hn' : ¬ gO X Y f t i ≤ r * r * gU X Y f t i := fun hc => by rw [(nearI_iff X Y r f t i).2 hc] at hn; cases hn
 have h' : gO X Y f t i * gU X Y f t j ≤ gO X Y f t j * gU X Y f t i := by simp [gA,aboveB] at h; exact h
 have p1 := gU_pos X Y f t i
 have p2 := gU_pos X Y f t j
 cases hj : nearI X Y r f t j
 ·rfl
 ·have hj' := (nearI_iff X Y r f t j).1 hj
  have h3 : gO X Y f t j * 1 ≤ r * r * gU X Y f t j := by omega
  have := frac_le_le p1 p2 (by omega : (0 : Int) < 1) h' h3
  omega
theorem near_far {r : Int} {f t p : Nat} (h : Far X Y f t f (t + 1) p) : nearI X Y r f t p = !farB X Y r f t := by
 cases hn : nearI X Y r f t p
 ·have hp : f < p ∧ p < t := by
   have h0 := sq_nonneg r
   have h1 := h.lo
   have h2 := h.hi
   refine ⟨?_,?_⟩
   ·rcases Nat.lt_or_ge f p with h3 | h3
    ·exact h3
    ·have e : p = f := by omega
     subst e
     have : nearI X Y r p t p = true := (nearI_iff X Y r p t p).2 (by rw [(gO_first X Y p t).1,(gO_first X Y p t).2]; omega)
     rw [this] at hn; cases hn
   ·rcases Nat.lt_or_ge p t with h3 | h3
    ·exact h3
    ·have e : p = t := by omega
     subst e
     have : nearI X Y r f p p = true := (nearI_iff X Y r f p p).2 (by rw [(gO_last X Y f p).1,(gO_last X Y f p).2]; omega)
     rw [this] at hn; cases hn
  rw [(farB_iff X Y r f t).2 ⟨p,hp.2,hp.1,hn⟩]
  rfl
 ·cases hf : farB X Y r f t
  ·rfl
  ·obtain ⟨i,h1,h2,h3⟩ := (farB_iff X Y r f t).1 hf
   rw [not_near X Y h3 (h.top i (by omega) (by omega))] at hn
   cases hn
theorem far_mid {r : Int} {f t p : Nat} (h : Far X Y f t f (t + 1) p) (hf : farB X Y r f t = true) : Far X Y f t (f + 1) t p := by
 have hn : nearI X Y r f t p = false := by rw [near_far X Y h,hf]; rfl
 have h0 := sq_nonneg r
 have h1 := h.lo
 have h2 := h.hi
 have a1 : f < p := by
  rcases Nat.lt_or_ge f p with h3 | h3
  ·exact h3
  ·have e : p = f := by omega
   subst e
   have : nearI X Y r p t p = true := (nearI_iff X Y r p t p).2 (by rw [(gO_first X Y p t).1,(gO_first X Y p t).2]; omega)
   rw [this] at hn; cases hn
 have a2 : p < t := by
  rcases Nat.lt_or_ge p t with h3 | h3
  ·exact h3
  ·have e : p = t := by omega
   subst e
   have : nearI X Y r f p p = true := (nearI_iff X Y r f p p).2 (by rw [(gO_last X Y f p).1,(gO_last X Y f p).2]; omega)
   rw [this] at hn; cases hn
 exact ⟨by omega,a2,fun j k1 k2 => h.top j (by omega) (by omega),fun j k1 k2 => h.first j (by omega) k2⟩
inductive Thin (r : Int) : Nat → Nat → List Nat → Prop
 | near (f t : Nat) : farB X Y r f t = false → Thin r f t [f]
 | split (f t m : Nat) (l1 l2 : List Nat) : farB X Y r f t = true → Far X Y f t (f + 1) t m → Thin r f m l1 → Thin r m t l2 → Thin r f t (l1 ++ l2)
theorem Thin.uniq {r : Int} {f t : Nat} {l : List Nat} (h : Thin X Y r f t l) : ∀ {l' : List Nat},Thin X Y r f t l' → l = l' := by
 induction h with
 | near f t h0 =>
  intro l' h'
  cases h' with
  | near _ _ _ => rfl
  | split _ _ m l1 l2 h1 _ _ _ => rw [h0] at h1; cases h1
 | split f t m l1 l2 h1 hm t1 t2 i1 i2 =>
  intro l' h'
  cases h' with
  | near _ _ h0 => rw [h0] at h1; cases h1
  | split _ _ m' l1' l2' h1' hm' t1' t2' =>
   have e := hm.uniq X Y hm'
   subst e
   rw [i1 t1',i2 t2']
theorem far_exists (f t : Nat) : ∀ d lo,Far X Y f t lo (lo + 1) lo → ∃ i,Far X Y f t lo (lo + 1 + d) i
 | 0,lo,h => ⟨lo,h⟩
 | d + 1,lo,h => by
  obtain ⟨i,hi⟩ := far_exists f t d lo h
  exact ⟨_,hi.step X Y⟩
theorem Thin.exists (r : Int) : ∀ d f t,f < t → t - f ≤ d → ∃ l,Thin X Y r f t l
 | 0,f,t,h,hd => by omega
 | d + 1,f,t,h,hd => by
  cases hf : farB X Y r f t
  ·exact ⟨[f], .near f t hf⟩
  ·obtain ⟨i,k1,k2,_⟩ := (farB_iff X Y r f t).1 hf
   obtain ⟨m,hm⟩ := far_exists X Y f t (t - (f + 2)) (f + 1) (Far.one X Y f t (f + 1))
   have e : f + 1 + 1 + (t - (f + 2)) = t := by omega
   rw [e] at hm
   have h1 := hm.lo
   have h2 := hm.hi
   obtain ⟨l1,t1⟩ := Thin.exists r d f m (by omega) (by omega)
   obtain ⟨l2,t2⟩ := Thin.exists r d m t (by omega) (by omega)
   exact ⟨l1 ++ l2, .split f t m l1 l2 hf hm t1 t2⟩
theorem Thin.len {r : Int} {f t : Nat} {l : List Nat} (h : Thin X Y r f t l) : f < t → l.length + f ≤ t ∧ (∀ i ∈ l,f ≤ i ∧ i < t) ∧ l ≠ [] := by
 induction h with
 | near f t h0 => intro h; simp; omega
 | split f t m l1 l2 h1 hm t1 t2 i1 i2 =>
  intro h
  have a1 := hm.lo
  have a2 := hm.hi
  obtain ⟨b1,b2,b3⟩ := i1 (by omega)
  obtain ⟨c1,c2,c3⟩ := i2 (by omega)
  refine ⟨by simp; omega,fun i hi => ?_,by simp [b3]⟩
  rcases List.mem_append.1 hi with hi | hi
  ·have := b2 i hi; omega
  ·have := c2 i hi; omega
inductive Rest (r : Int) : Nat → List Nat → List Nat → Prop
 | done (f : Nat) : Rest r f [] [f]
 | seg (f t : Nat) (st l R : List Nat) : Thin X Y r f t l → Rest r t st R → Rest r f (t :: st) (l ++ R)
def Rise : Nat → List Nat → Nat → Prop
 | f, [],n => f < n
 | f,t :: st,n => f < t ∧ Rise t st n
theorem Rise.len : ∀ (st : List Nat) (f n : Nat),Rise f st n → st.length + f < n
 | [],f,n,h => by simpa [Rise] using h
 | t :: st,f,n,h => by
  have := Rise.len st t n h.2
  have := h.1
  simp
  omega
theorem Rise.lt : ∀ (st : List Nat) (f n : Nat),Rise f st n → f < n
 | [],f,n,h => by simpa [Rise] using h
 | t :: st,f,n,h => by
  have := Rise.lt st t n h.2
  have := h.1
  omega
end
theorem under_bd {px py ax ay bx by' : Int} (ha : okP ax ay = true) (hb : okP bx by' = true) : 0 ≤ underI px py ax ay bx by' ∧ underI px py ax ay bx by' ≤ 52428800 := by
 obtain ⟨d1,d2⟩ := dist_bd ha hb
 unfold underI
 split
 ·omega
 ·split <;> omega
theorem isNearB_no {px py ax ay bx by' r : Int} (h : r < 0 ∨ 4096 < r) : isNearB px py ax ay bx by' r = false := by
 have hr : inB r 0 4096 = false := by
  rcases h with h | h <;> simp [inB] <;> omega
 simp [isNearB,hr]
theorem impl_IsNear_neg (px py ax ay bx by' r : Int) (w : World) (h : r < 0) :
  Calls Tryz.prog 146 #[.agg #[.int .i64 px, .int .i64 py], .agg #[.int .i64 ax, .int .i64 ay], .agg #[.int .i64 bx, .int .i64 by'], .int .i64 r] w fun e w' => e = .returned (.bool (isNearB px py ax ay bx by' r)) ∧ Below w.heap.size w w' := by
 have HE : Hid _ := isNearB_no (px := px) (py := py) (ax := ax) (ay := ay) (bx := bx) (by' := by') (.inl h)
 go_enter Tryz.func146,Tryz.ntmps146
 go_wp2
 go_ret
 exact ⟨ret_bool HE.out.symm,by (repeat (first|exact Qr _ _|assumption|refine Qd ?_|refine Qa ?_ _|refine Qt ?_|refine Qs ?_ _|refine Qo ?_ ?_ _ _))⟩
theorem impl_IsNear_far (px py ax ay bx by' r : Int) (w : World) (h : 4096 < r) :
  Calls Tryz.prog 146 #[.agg #[.int .i64 px, .int .i64 py], .agg #[.int .i64 ax, .int .i64 ay], .agg #[.int .i64 bx, .int .i64 by'], .int .i64 r] w fun e w' => e = .returned (.bool (isNearB px py ax ay bx by' r)) ∧ Below w.heap.size w w' := by
 have HE : Hid _ := isNearB_no (px := px) (py := py) (ax := ax) (ay := ay) (bx := bx) (by' := by') (.inr h)
 have h2 : decide (r < 0) = false := by simp; omega
 go_enter Tryz.func146,Tryz.ntmps146
 go_wp2
 go_ret
 exact ⟨ret_bool HE.out.symm,by (repeat (first|exact Qr _ _|assumption|refine Qd ?_|refine Qa ?_ _|refine Qt ?_|refine Qs ?_ _|refine Qo ?_ ?_ _ _))⟩
theorem impl_IsNear_0 (px py ax ay bx by' r : Int) (w : World) (hr0 : 0 ≤ r) (hr1 : r ≤ 4096) (h : okP px py = false) :
  Calls Tryz.prog 146 #[.agg #[.int .i64 px, .int .i64 py], .agg #[.int .i64 ax, .int .i64 ay], .agg #[.int .i64 bx, .int .i64 by'], .int .i64 r] w fun e w' => e = .returned (.bool (isNearB px py ax ay bx by' r)) ∧ Below w.heap.size w w' := by
 have HN : Hid _ := codeN3_0 px py ax ay bx by' h
 have HE : Hid (isNearB px py ax ay bx by' r = false) := by
  show _ = _
  simp [isNearB,h]
 clear h
 go_enter Tryz.func146,Tryz.ntmps146
 go_wp2_with fail
 generalize hV : ((((w.alloc _).alloc _).alloc _).alloc _ : World) = V
 have hB0 : Below w.heap.size w V := by subst hV; (repeat (first|exact Qr _ _|assumption|refine Qd ?_|refine Qa ?_ _|refine Qt ?_|refine Qs ?_ _|refine Qo ?_ ?_ _ _))
 have g0 : V.cell? ⟨w.heap.size + 1 + 1 + 1,0,none⟩ = some (.int .i64 px) := by subst hV; simp [go_sem]
 have g1 : V.cell? ⟨w.heap.size + 1 + 1 + 1,1,none⟩ = some (.int .i64 py) := by subst hV; simp [go_sem]
 have g2 : V.cell? ⟨w.heap.size + 1 + 1 + 1,2,none⟩ = some (.int .i64 ax) := by subst hV; simp [go_sem]
 have g3 : V.cell? ⟨w.heap.size + 1 + 1 + 1,3,none⟩ = some (.int .i64 ay) := by subst hV; simp [go_sem]
 have g4 : V.cell? ⟨w.heap.size + 1 + 1 + 1,4,none⟩ = some (.int .i64 bx) := by subst hV; simp [go_sem]
 have g5 : V.cell? ⟨w.heap.size + 1 + 1 + 1,5,none⟩ = some (.int .i64 by') := by subst hV; simp [go_sem]
 clear hV
 have HB0 : Hid (Below w.heap.size w V) := hB0
 clear hB0
 refine (faultIn3 _ _ px py ax ay bx by' _ _ g0 g1 g2 g3 g4 g5 (by omega) HN.out).mono ?_
 rintro e W ⟨rfl,hbW⟩
 clear g0 g1 g2 g3 g4 g5
 go_wp2
 go_ret
 exact ⟨ret_bool HE.out.symm,bl_then HB0.out hbW⟩
theorem impl_IsNear_1 (px py ax ay bx by' r : Int) (w : World) (hr0 : 0 ≤ r) (hr1 : r ≤ 4096) (h : okP ax ay = false) :
  Calls Tryz.prog 146 #[.agg #[.int .i64 px, .int .i64 py], .agg #[.int .i64 ax, .int .i64 ay], .agg #[.int .i64 bx, .int .i64 by'], .int .i64 r] w fun e w' => e = .returned (.bool (isNearB px py ax ay bx by' r)) ∧ Below w.heap.size w w' := by
 have HN : Hid _ := codeN3_1 px py ax ay bx by' h
 have HE : Hid (isNearB px py ax ay bx by' r = false) := by
  show _ = _
  simp [isNearB,h]
 clear h
 go_enter Tryz.func146,Tryz.ntmps146
 go_wp2_with fail
 generalize hV : ((((w.alloc _).alloc _).alloc _).alloc _ : World) = V
 have hB0 : Below w.heap.size w V := by subst hV; (repeat (first|exact Qr _ _|assumption|refine Qd ?_|refine Qa ?_ _|refine Qt ?_|refine Qs ?_ _|refine Qo ?_ ?_ _ _))
 have g0 : V.cell? ⟨w.heap.size + 1 + 1 + 1,0,none⟩ = some (.int .i64 px) := by subst hV; simp [go_sem]
 have g1 : V.cell? ⟨w.heap.size + 1 + 1 + 1,1,none⟩ = some (.int .i64 py) := by subst hV; simp [go_sem]
 have g2 : V.cell? ⟨w.heap.size + 1 + 1 + 1,2,none⟩ = some (.int .i64 ax) := by subst hV; simp [go_sem]
 have g3 : V.cell? ⟨w.heap.size + 1 + 1 + 1,3,none⟩ = some (.int .i64 ay) := by subst hV; simp [go_sem]
 have g4 : V.cell? ⟨w.heap.size + 1 + 1 + 1,4,none⟩ = some (.int .i64 bx) := by subst hV; simp [go_sem]
 have g5 : V.cell? ⟨w.heap.size + 1 + 1 + 1,5,none⟩ = some (.int .i64 by') := by subst hV; simp [go_sem]
 clear hV
 have HB0 : Hid (Below w.heap.size w V) := hB0
 clear hB0
 refine (faultIn3 _ _ px py ax ay bx by' _ _ g0 g1 g2 g3 g4 g5 (by omega) HN.out).mono ?_
 rintro e W ⟨rfl,hbW⟩
 clear g0 g1 g2 g3 g4 g5
 go_wp2
 go_ret
 exact ⟨ret_bool HE.out.symm,bl_then HB0.out hbW⟩
theorem impl_IsNear_2 (px py ax ay bx by' r : Int) (w : World) (hr0 : 0 ≤ r) (hr1 : r ≤ 4096) (h : okP bx by' = false) :
  Calls Tryz.prog 146 #[.agg #[.int .i64 px, .int .i64 py], .agg #[.int .i64 ax, .int .i64 ay], .agg #[.int .i64 bx, .int .i64 by'], .int .i64 r] w fun e w' => e = .returned (.bool (isNearB px py ax ay bx by' r)) ∧ Below w.heap.size w w' := by
 have HN : Hid _ := codeN3_2 px py ax ay bx by' h
 have HE : Hid (isNearB px py ax ay bx by' r = false) := by
  show _ = _
  simp [isNearB,h]
 clear h
 go_enter Tryz.func146,Tryz.ntmps146
 go_wp2_with fail
 generalize hV : ((((w.alloc _).alloc _).alloc _).alloc _ : World) = V
 have hB0 : Below w.heap.size w V := by subst hV; (repeat (first|exact Qr _ _|assumption|refine Qd ?_|refine Qa ?_ _|refine Qt ?_|refine Qs ?_ _|refine Qo ?_ ?_ _ _))
 have g0 : V.cell? ⟨w.heap.size + 1 + 1 + 1,0,none⟩ = some (.int .i64 px) := by subst hV; simp [go_sem]
 have g1 : V.cell? ⟨w.heap.size + 1 + 1 + 1,1,none⟩ = some (.int .i64 py) := by subst hV; simp [go_sem]
 have g2 : V.cell? ⟨w.heap.size + 1 + 1 + 1,2,none⟩ = some (.int .i64 ax) := by subst hV; simp [go_sem]
 have g3 : V.cell? ⟨w.heap.size + 1 + 1 + 1,3,none⟩ = some (.int .i64 ay) := by subst hV; simp [go_sem]
 have g4 : V.cell? ⟨w.heap.size + 1 + 1 + 1,4,none⟩ = some (.int .i64 bx) := by subst hV; simp [go_sem]
 have g5 : V.cell? ⟨w.heap.size + 1 + 1 + 1,5,none⟩ = some (.int .i64 by') := by subst hV; simp [go_sem]
 clear hV
 have HB0 : Hid (Below w.heap.size w V) := hB0
 clear hB0
 refine (faultIn3 _ _ px py ax ay bx by' _ _ g0 g1 g2 g3 g4 g5 (by omega) HN.out).mono ?_
 rintro e W ⟨rfl,hbW⟩
 clear g0 g1 g2 g3 g4 g5
 go_wp2
 go_ret
 exact ⟨ret_bool HE.out.symm,bl_then HB0.out hbW⟩
theorem impl_IsNear_ok (px py ax ay bx by' r : Int) (w : World) (hr0 : 0 ≤ r) (hr1 : r ≤ 4096) (hp : okP px py = true) (ha : okP ax ay = true) (hb : okP bx by' = true) :
  Calls Tryz.prog 146 #[.agg #[.int .i64 px, .int .i64 py], .agg #[.int .i64 ax, .int .i64 ay], .agg #[.int .i64 bx, .int .i64 by'], .int .i64 r] w fun e w' => e = .returned (.bool (isNearB px py ax ay bx by' r)) ∧ Below w.heap.size w w' := by
 have HN : Hid _ := codeN3_ok px py ax ay bx by' hp ha hb
 have HE : Hid (isNearB px py ax ay bx by' r = decide (overI px py ax ay bx by' ≤ r * r * underI px py ax ay bx by')) := by
  show _ = _
  have hr : inB r 0 4096 = true := by simp [inB]; omega
  simp [isNearB,hp,ha,hb,hr,nearB]
 obtain ⟨s1,s2⟩ := sq_bd hr0 hr1
 obtain ⟨d1,d2⟩ := under_bd (px := px) (py := py) ha hb
 obtain ⟨x5,x6⟩ := mul_bd (a := r * r) (b := underI px py ax ay bx by') (B := 16777216) (C := 52428800) (by omega) (by omega) (by omega) (by omega) (by omega)
 have HP : Hid _ := hp
 have HA : Hid _ := ha
 have HB : Hid _ := hb
 clear hp ha hb
 go_enter Tryz.func146,Tryz.ntmps146
 go_wp2_with fail
 generalize hV : ((((w.alloc _).alloc _).alloc _).alloc _ : World) = V
 have hB0 : Below w.heap.size w V := by subst hV; (repeat (first|exact Qr _ _|assumption|refine Qd ?_|refine Qa ?_ _|refine Qt ?_|refine Qs ?_ _|refine Qo ?_ ?_ _ _))
 have g0 : V.cell? ⟨w.heap.size + 1 + 1 + 1,0,none⟩ = some (.int .i64 px) := by subst hV; simp [go_sem]
 have g1 : V.cell? ⟨w.heap.size + 1 + 1 + 1,1,none⟩ = some (.int .i64 py) := by subst hV; simp [go_sem]
 have g2 : V.cell? ⟨w.heap.size + 1 + 1 + 1,2,none⟩ = some (.int .i64 ax) := by subst hV; simp [go_sem]
 have g3 : V.cell? ⟨w.heap.size + 1 + 1 + 1,3,none⟩ = some (.int .i64 ay) := by subst hV; simp [go_sem]
 have g4 : V.cell? ⟨w.heap.size + 1 + 1 + 1,4,none⟩ = some (.int .i64 bx) := by subst hV; simp [go_sem]
 have g5 : V.cell? ⟨w.heap.size + 1 + 1 + 1,5,none⟩ = some (.int .i64 by') := by subst hV; simp [go_sem]
 have c00 : ∀ W',Below V.heap.size V W' → W'.cell? ⟨w.heap.size,0,none⟩ = some (.int .i64 px) := fun W' h => by
  rw [h.cell (by subst hV; simp <;> omega)]; subst hV; simp [go_sem]
 have c01 : ∀ W',Below V.heap.size V W' → W'.cell? ⟨w.heap.size,1,none⟩ = some (.int .i64 py) := fun W' h => by
  rw [h.cell (by subst hV; simp <;> omega)]; subst hV; simp [go_sem]
 have c10 : ∀ W',Below V.heap.size V W' → W'.cell? ⟨w.heap.size + 1,0,none⟩ = some (.int .i64 ax) := fun W' h => by
  rw [h.cell (by subst hV; simp <;> omega)]; subst hV; simp [go_sem]
 have c11 : ∀ W',Below V.heap.size V W' → W'.cell? ⟨w.heap.size + 1,1,none⟩ = some (.int .i64 ay) := fun W' h => by
  rw [h.cell (by subst hV; simp <;> omega)]; subst hV; simp [go_sem]
 have c20 : ∀ W',Below V.heap.size V W' → W'.cell? ⟨w.heap.size + 1 + 1,0,none⟩ = some (.int .i64 bx) := fun W' h => by
  rw [h.cell (by subst hV; simp <;> omega)]; subst hV; simp [go_sem]
 have c21 : ∀ W',Below V.heap.size V W' → W'.cell? ⟨w.heap.size + 1 + 1,1,none⟩ = some (.int .i64 by') := fun W' h => by
  rw [h.cell (by subst hV; simp <;> omega)]; subst hV; simp [go_sem]
 clear hV
 have HB0 : Hid (Below w.heap.size w V) := hB0
 clear hB0
 refine (faultIn3 _ _ px py ax ay bx by' _ _ g0 g1 g2 g3 g4 g5 (by omega) HN.out).mono ?_
 rintro e W ⟨rfl,hbW⟩
 clear g0 g1 g2 g3 g4 g5
 replace HB0 : Hid (Below w.heap.size w W) := bl_then HB0.out hbW
 have HVW : Hid (∀ W',Below W.heap.size W W' → Below V.heap.size V W') := fun W' h => bl_then hbW h
 replace c00 := fun W' h => c00 W' (HVW.out W' h)
 replace c01 := fun W' h => c01 W' (HVW.out W' h)
 replace c10 := fun W' h => c10 W' (HVW.out W' h)
 replace c11 := fun W' h => c11 W' (HVW.out W' h)
 replace c20 := fun W' h => c20 W' (HVW.out W' h)
 replace c21 := fun W' h => c21 W' (HVW.out W' h)
 clear hbW
 go_wp2
 go_region_held3 (fun W' => Below W.heap.size W W') ((repeat (first|exact Qr _ _|assumption|refine Qd ?_|refine Qa ?_ _|refine Qt ?_|refine Qs ?_ _|refine Qo ?_ ?_ _ _)))
  (first
   | (go_at_call 158; refine (pairOf_any _ _ _).mono ?_; rintro e w1 ⟨rfl,hb⟩)
   | (go_at_call 162; refine (gapOf_any _ _ _ _ _ _ _ HP.out HA.out HB.out).mono ?_; rintro e w1 ⟨rfl,hb⟩))
 go_wp2
 go_ret
 exact ⟨ret_bool HE.out.symm,bl_then HB0.out (by assumption)⟩
theorem impl_IsNear_any (px py ax ay bx by' r : Int) (w : World) : Calls Tryz.prog 146 #[.agg #[.int .i64 px, .int .i64 py], .agg #[.int .i64 ax, .int .i64 ay], .agg #[.int .i64 bx, .int .i64 by'], .int .i64 r] w fun e w' => e = .returned (.bool (isNearB px py ax ay bx by' r)) ∧ Below w.heap.size w w' := by
 by_cases h0 : r < 0
 ·exact impl_IsNear_neg _ _ _ _ _ _ _ _ h0
 by_cases h1 : 4096 < r
 ·exact impl_IsNear_far _ _ _ _ _ _ _ _ h1
 have hr0 : 0 ≤ r := by omega
 have hr1 : r ≤ 4096 := by omega
 cases hp : okP px py
 ·exact impl_IsNear_0 _ _ _ _ _ _ _ _ hr0 hr1 hp
 cases ha : okP ax ay
 ·exact impl_IsNear_1 _ _ _ _ _ _ _ _ hr0 hr1 ha
 cases hb : okP bx by'
 ·exact impl_IsNear_2 _ _ _ _ _ _ _ _ hr0 hr1 hb
 exact impl_IsNear_ok _ _ _ _ _ _ _ _ hr0 hr1 hp ha hb
end Go.Proofs.YtfkonhagjahgnaaGreat
