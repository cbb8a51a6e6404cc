/- Quads that came in: they are copied, compared and measured. -/
import Derived.Test.YtjnhaigmfjndhaaVFindBox27
namespace Go.Proofs.Ytjnhaigmfjndhaa
open Go.RowKit Go.Shelf
set_option linter.unusedSimpArgs false
set_option linter.unusedVariables false
set_option maxRecDepth 100000

/-- Quads that came in. -/
def IsQs (w : World) (a : Option Addr) (n : Nat) (Q : Nat → Qd) : Prop := n = 0 ∨ ∃ b off, a = some ⟨b, off, none⟩ ∧ QsAt w w.heap.size b off n Q
theorem IsQs.below {w w' : World} {a : Option Addr} {n : Nat} {Q : Nat → Qd} (h : IsQs w a n Q) (hb : Below w.heap.size w w') : IsQs w' a n Q := by
  rcases h with h | ⟨b, off, e, hq⟩
  · exact .inl h
  · exact .inr ⟨b, off, e, hq.now hb⟩
/-- The same quads, their entries elsewhere. -/
def reQ (Q : Nat → Qd) (A : Nat → Option Addr) : Nat → Qd := fun i => { Q i with ea := A i, ec := (Q i).en }
theorem cntQ_re (Q : Nat → Qd) (A : Nat → Option Addr) (j : Nat) : ∀ k, cntQ (reQ Q A) k j = cntQ Q k j
  | 0 => rfl
  | k + 1 => by
    show cntQ (reQ Q A) k j + _ = cntQ Q k j + _
    rw [cntQ_re Q A j k]
    rfl
theorem allE_re (Q : Nat → Qd) (A : Nat → Option Addr) (n : Nat) : allE (reQ Q A) n = allE Q n := rfl
theorem quadsC_re (Q : Nat → Qd) (A : Nat → Option Addr) (n : Nat) : quadsC (reQ Q A) n = quadsC Q n := by
  have h1 : oneC (reQ Q A) n = oneC Q n := rfl
  have h2 : oneT (reQ Q A) n = oneT Q n := by
    unfold oneT
    congr 1
    congr 1
    exact propext ⟨fun h j hj => by rw [← cntQ_re Q A j n]; exact h j hj, fun h j hj => by rw [cntQ_re Q A j n]; exact h j hj⟩
  have h3 : esOf (reQ Q A) n = esOf Q n := rfl
  unfold quadsC
  rw [h1, h2, h3, allE_re]
abbrev quadV (q : Qd) : Value := .agg #[.int .i64 q.a, .int .i64 q.b, .int .i64 q.c, .int .i64 q.d, .int .i64 q.dp, .int .i64 q.fi, .slice q.ea q.en q.ec]
/-- The cells of a quad. -/
def qVs (q : Qd) : List Value := [.int .i64 q.a, .int .i64 q.b, .int .i64 q.c, .int .i64 q.d, .int .i64 q.dp, .int .i64 q.fi, .slice q.ea q.en q.ec]
theorem lays_other {r : Nat} {vs : List Value} : ∀ {W : World} (o : Nat) (p : Addr), p.block ≠ r → (lays W r o vs).cell? p = W.cell? p := by
  induction vs with
  | nil => intro W o p h; rfl
  | cons v vs ih => intro W o p h; exact (ih (W := W.setCell ⟨r, o, none⟩ v) (o + 1) p h).trans (World.cell?_setCell_other _ _ _ _ (by intro e; exact h (by rw [← e])))
theorem lays_size {r : Nat} {vs : List Value} : ∀ {W : World} (o : Nat), (lays W r o vs).heap.size = W.heap.size := by
  induction vs with
  | nil => intro W o; rfl
  | cons v vs ih => intro W o; exact (ih (W := W.setCell ⟨r, o, none⟩ v) (o + 1)).trans (by simp)
theorem QAt.lays {W : World} {r o m : Nat} {q : Qd} (h : There W r m) (ho : o + 7 ≤ m) : QAt (lays W r o (qVs q)) r o q := by
  have h' : There W r (o + (qVs q).length) := fun j hj => h j (by simp [qVs] at hj; omega)
  have k := lays_at (W := W) (r := r) (vs := qVs q) o h'
  exact ⟨k 0 (by simp [qVs]), k 1 (by simp [qVs]), k 2 (by simp [qVs]), k 3 (by simp [qVs]), k 4 (by simp [qVs]), k 5 (by simp [qVs]), k 6 (by simp [qVs])⟩
theorem EsAt.lays {W : World} {g o n r o' : Nat} {E : Nat → Ent} {vs : List Value} (h : EsAt W g o n E) (hne : g ≠ r) : EsAt (lays W r o' vs) g o n E := fun i hi => by
  obtain ⟨h0, h1, h2, h3, h4⟩ := h i hi
  exact ⟨(lays_other o' _ hne).trans h0, (lays_other o' _ hne).trans h1, (lays_other o' _ hne).trans h2, (lays_other o' _ hne).trans h3, (lays_other o' _ hne).trans h4⟩

theorem There.laysO {g n r : Nat} {vs : List Value} : ∀ {W : World} {o : Nat}, There W g n → g ≠ r → There (Go.Proofs.Ytjnhaigmfjndhaa.lays W r o vs) g n := by
  induction vs with
  | nil => intro W o h hne; exact h
  | cons v vs ih => intro W o h hne; exact ih (W := W.setCell ⟨r, o, none⟩ v) (o := o + 1) (h.out' (fun e => hne e.symm)) hne

set_option maxHeartbeats 4000000 in
theorem toQuad_any (q : Qd) (w : World) (hp : IsEs w q.ea q.en q.E) (hn : q.en ≤ 1048576) : Calls Try.prog 25 #[quadV q] w fun r w' => ∃ g, r = .returned (quadV { q with ea := some ⟨g, 0, none⟩, ec := q.en }) ∧ w.heap.size ≤ g ∧ g < w'.heap.size ∧ EsAt w' g 0 q.en q.E ∧ There w' g (q.en * 5) ∧ Below w.heap.size w w' := by
  have HP : Hid (IsEs w q.ea q.en q.E) := hp
  clear hp
  go_enter Try.func25, Try.ntmps25
  go_wp2_with fail
  generalize hW : (((w.alloc _).alloc _).alloc _ : World) = W
  have hB0 : Below w.heap.size w W := by subst hW; (repeat (first | exact Below.refl _ _ | assumption | refine Below.drew ?_ | refine bl_alloc ?_ _ | refine bl_then ?_ (by assumption) | refine Below.setCell ?_ (by first | omega | (simp; done) | (simp; omega)) _ | refine bl_store ?_ ?_ _ _))
  have hT1 : There W (w.heap.size + 1) 7 := fun o ho => by
    subst hW
    have hc : o = 0 ∨ o = 1 ∨ o = 2 ∨ o = 3 ∨ o = 4 ∨ o = 5 ∨ o = 6 := by omega
    rcases hc with rfl | rfl | rfl | rfl | rfl | rfl | rfl <;> exact ⟨⟨_, by simp [go_sem]; rfl⟩, by simp [go_sem]⟩
  have hT2 : There W (w.heap.size + 1 + 1) 7 := fun o ho => by
    subst hW
    have hc : o = 0 ∨ o = 1 ∨ o = 2 ∨ o = 3 ∨ o = 4 ∨ o = 5 ∨ o = 6 := by omega
    rcases hc with rfl | rfl | rfl | rfl | rfl | rfl | rfl <;> exact ⟨⟨_, by simp [go_sem]; rfl⟩, by simp [go_sem]⟩
  have p4 : W.cell? ⟨w.heap.size, 4, none⟩ = some (.int .i64 q.dp) := by subst hW; simp [go_sem]
  have p5 : W.cell? ⟨w.heap.size, 5, none⟩ = some (.int .i64 q.fi) := by subst hW; simp [go_sem]
  have p6 : W.cell? ⟨w.heap.size, 6, none⟩ = some (.slice q.ea q.en q.ec) := by subst hW; simp [go_sem]
  have hsz : w.heap.size + 1 + 1 < W.heap.size := by subst hW; simp
  clear hW
  refine (toBox_any _ _ _ _ _).mono ?_
  rintro r w1 ⟨rfl, hb1⟩
  have hT1' := hT1.below hb1
  have hT2' := hT2.below hb1
  have r4 := bl_cell hb1 p4
  have r5 := bl_cell hb1 p5
  have r6 := bl_cell hb1 p6
  have HB1 : Hid (Below w.heap.size w w1) := bl_then hB0 hb1
  have hsz1 : w.heap.size + 1 + 1 < w1.heap.size := Nat.lt_of_lt_of_le hsz hb1.size
  have t0 := hT2'.cell 0 (by omega)
  have t1 := hT2'.cell 1 (by omega)
  have t2 := hT2'.cell 2 (by omega)
  have t3 := hT2'.cell 3 (by omega)
  have t4 := hT2'.cell 4 (by omega)
  have t5 := hT2'.cell 5 (by omega)
  have t6 := hT2'.cell 6 (by omega)
  have z0 := (hT2' 0 (by omega)).2
  have z1 := (hT2' 1 (by omega)).2
  have z2 := (hT2' 2 (by omega)).2
  have z3 := (hT2' 3 (by omega)).2
  have z4 := (hT2' 4 (by omega)).2
  have z5 := (hT2' 5 (by omega)).2
  have z6 := (hT2' 6 (by omega)).2
  have HT1 : Hid (There w1 (w.heap.size + 1) 7) := hT1'
  have HT2 : Hid (There w1 (w.heap.size + 1 + 1) 7) := hT2'
  clear hT1 hT2 hb1 hB0 hT1' hT2' p4 p5 p6 hsz
  go_wp2_with fail
  obtain ⟨X, hX⟩ : ∃ X, lays w1 (w.heap.size + 1 + 1) 0 [.int .i64 q.a, .int .i64 q.b, .int .i64 q.c, .int .i64 q.d, .int .i64 q.dp, .int .i64 q.fi] = X := ⟨_, rfl⟩
  have HB2 : Hid (Below w.heap.size w X) := by show Below _ _ _; rw [← hX]; exact lays_below HB1.out (by omega)
  have hT1x : There X (w.heap.size + 1) 7 := by
    rw [← hX]
    intro o ho
    obtain ⟨u, hu⟩ := (HT1.out o ho).1
    refine ⟨⟨u, (lays_other _ _ (show w.heap.size + 1 ≠ w.heap.size + 1 + 1 by omega)).trans hu⟩, ?_⟩
    have hb : Below (w.heap.size + 1 + 1) w1 (lays w1 (w.heap.size + 1 + 1) 0 [.int .i64 q.a, .int .i64 q.b, .int .i64 q.c, .int .i64 q.d, .int .i64 q.dp, .int .i64 q.fi]) := lays_below (Below.refl _ _) (Nat.le_refl _)
    exact (hb.frozen (p := ⟨w.heap.size + 1, o, none⟩) (show w.heap.size + 1 < _ by omega)).trans (HT1.out o ho).2
  have hT2x : There X (w.heap.size + 1 + 1) 7 := by rw [← hX]; exact lays_there 0 HT2.out
  have hl := lays_at (W := w1) (r := w.heap.size + 1 + 1) (vs := [.int .i64 q.a, .int .i64 q.b, .int .i64 q.c, .int .i64 q.d, .int .i64 q.dp, .int .i64 q.fi]) 0 (fun o ho => HT2.out o (by simp at ho; omega))
  rw [hX] at hl
  have m0 : X.cell? ⟨w.heap.size + 1 + 1, 0, none⟩ = some (.int .i64 q.a) := hl 0 (by simp)
  have m1 : X.cell? ⟨w.heap.size + 1 + 1, 1, none⟩ = some (.int .i64 q.b) := hl 1 (by simp)
  have m2 : X.cell? ⟨w.heap.size + 1 + 1, 2, none⟩ = some (.int .i64 q.c) := hl 2 (by simp)
  have m3 : X.cell? ⟨w.heap.size + 1 + 1, 3, none⟩ = some (.int .i64 q.d) := hl 3 (by simp)
  have m4 : X.cell? ⟨w.heap.size + 1 + 1, 4, none⟩ = some (.int .i64 q.dp) := hl 4 (by simp)
  have m5 : X.cell? ⟨w.heap.size + 1 + 1, 5, none⟩ = some (.int .i64 q.fi) := hl 5 (by simp)
  have hszx : w.heap.size + 1 + 1 < X.heap.size := by rw [← hX, lays_size]; exact hsz1
  have hX' : (((((w1.setCell ⟨w.heap.size + 1 + 1, 0, none⟩ (.int .i64 q.a)).setCell ⟨w.heap.size + 1 + 1, 1, none⟩ (.int .i64 q.b)).setCell ⟨w.heap.size + 1 + 1, 2, none⟩ (.int .i64 q.c)).setCell ⟨w.heap.size + 1 + 1, 3, none⟩ (.int .i64 q.d)).setCell ⟨w.heap.size + 1 + 1, 4, none⟩ (.int .i64 q.dp)).setCell ⟨w.heap.size + 1 + 1, 5, none⟩ (.int .i64 q.fi) = X := hX
  rw [hX']
  clear hX hX' hl t0 t1 t2 t3 t4 t5 t6 z0 z1 z2 z3 z4 z5 z6 r4 r5 r6 HT1 HT2 HB1 hsz1
  refine (toEntryS_any q.ea q.en q.ec q.E X (HP.out.below HB2.out) hn).mono ?_
  rintro r w2 ⟨g, rfl, hg1, hg2, hE, hTe, hb2⟩
  have HTe : Hid (There w2 g (q.en * 5)) := hTe
  clear hTe
  have hT1' := hT1x.below hb2
  have hT2' := hT2x.below hb2
  have n0 := bl_cell hb2 m0
  have n1 := bl_cell hb2 m1
  have n2 := bl_cell hb2 m2
  have n3 := bl_cell hb2 m3
  have n4 := bl_cell hb2 m4
  have n5 := bl_cell hb2 m5
  have t6 := hT2'.cell 6 (by omega)
  have z6 := (hT2' 6 (by omega)).2
  have s0 := hT1'.cell 0 (by omega)
  have s1 := hT1'.cell 1 (by omega)
  have s2 := hT1'.cell 2 (by omega)
  have s3 := hT1'.cell 3 (by omega)
  have s4 := hT1'.cell 4 (by omega)
  have s5 := hT1'.cell 5 (by omega)
  have s6 := hT1'.cell 6 (by omega)
  have y0 := (hT1' 0 (by omega)).2
  have y1 := (hT1' 1 (by omega)).2
  have y2 := (hT1' 2 (by omega)).2
  have y3 := (hT1' 3 (by omega)).2
  have y4 := (hT1' 4 (by omega)).2
  have y5 := (hT1' 5 (by omega)).2
  have y6 := (hT1' 6 (by omega)).2
  have HB3 : Hid (Below w.heap.size w w2) := bl_then HB2.out hb2
  have HT1 : Hid (There w2 (w.heap.size + 1) 7) := hT1'
  have HE : Hid (EsAt w2 g 0 q.en q.E) := hE
  have hs2 := hb2.size
  clear hT1' hT2' hT1x hT2x m0 m1 m2 m3 m4 m5 hb2 hE HB2
  go_wp2_with fail
  obtain ⟨Y, hY⟩ : ∃ Y, lays (w2.setCell ⟨w.heap.size + 1 + 1, 6, none⟩ (.slice (some ⟨g, 0, none⟩) q.en q.en)) (w.heap.size + 1) 0 (qVs { q with ea := some ⟨g, 0, none⟩, ec := q.en }) = Y := ⟨_, rfl⟩
  have hQ : QAt Y (w.heap.size + 1) 0 { q with ea := some ⟨g, 0, none⟩, ec := q.en } := by rw [← hY]; exact QAt.lays (HT1.out.out' (by omega)) (by omega)
  have hBY : Below w.heap.size w Y := by rw [← hY]; exact lays_below (HB3.out.setCell (by simp; omega) _) (by omega)
  have hEY : EsAt Y g 0 q.en q.E := by
    rw [← hY]
    refine EsAt.lays (fun i hi => ?_) (by omega)
    have ne : ∀ o : Nat, (⟨w.heap.size + 1 + 1, 6, none⟩ : Addr) ≠ ⟨g, o, none⟩ := fun o h => by injection h with h; omega
    obtain ⟨h0, h1, h2, h3, h4⟩ := HE.out i hi
    exact ⟨(World.cell?_setCell_other _ _ _ _ (ne _)).trans h0, (World.cell?_setCell_other _ _ _ _ (ne _)).trans h1, (World.cell?_setCell_other _ _ _ _ (ne _)).trans h2, (World.cell?_setCell_other _ _ _ _ (ne _)).trans h3, (World.cell?_setCell_other _ _ _ _ (ne _)).trans h4⟩
  have hTY : There Y g (q.en * 5) := by rw [← hY]; exact There.laysO (HTe.out.out' (by omega)) (by omega)
  have hgY : g < Y.heap.size := by rw [← hY, lays_size]; simpa using hg2
  have hY' : (((((((w2.setCell ⟨w.heap.size + 1 + 1, 6, none⟩ (.slice (some ⟨g, 0, none⟩) q.en q.en)).setCell ⟨w.heap.size + 1, 0, none⟩ (.int .i64 q.a)).setCell ⟨w.heap.size + 1, 1, none⟩ (.int .i64 q.b)).setCell ⟨w.heap.size + 1, 2, none⟩ (.int .i64 q.c)).setCell ⟨w.heap.size + 1, 3, none⟩ (.int .i64 q.d)).setCell ⟨w.heap.size + 1, 4, none⟩ (.int .i64 q.dp)).setCell ⟨w.heap.size + 1, 5, none⟩ (.int .i64 q.fi)).setCell ⟨w.heap.size + 1, 6, none⟩ (.slice (some ⟨g, 0, none⟩) q.en q.en) = Y := hY
  rw [hY']
  clear hY hY'
  have key : ∀ (T : Array Value), T[2]?.getD undef = .pointer (some ⟨w.heap.size + 1, 0, none⟩) → (results Try.f25 T).run Try.prog Y = .ok (quadV { q with ea := some ⟨g, 0, none⟩, ec := q.en }) Y := fun T hT => by
    obtain ⟨h0, h1, h2, h3, h4, h5, h6⟩ := hQ
    simp only [Nat.zero_add] at h0 h1 h2 h3 h4 h5 h6
    simp [results, Try.results25, go_sem, hT, h0, h1, h2, h3, h4, h5, h6]
  exact bodyPost_ret (key _ rfl) rfl ⟨g, rfl, by have := HB3.out.size; omega, hgY, hEY, hTY, hBY⟩
end Go.Proofs.Ytjnhaigmfjndhaa
