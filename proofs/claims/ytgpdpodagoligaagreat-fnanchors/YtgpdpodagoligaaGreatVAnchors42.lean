/- Several texts in one. -/
import Derived.Test.YtgpdpodagoligaaGreatVAnchors1
import Derived.Test.YtgpdpodagoligaaGreatVAnchors5
import Derived.Deep.RegionHeld3
import Derived.Deep.OwnRows
import Derived.Deep.LoopGhost
import Derived.Laws.OwnMore
import Derived.Test.YtgpdpodagoligaaGreatVAnchors6
import Derived.Test.YtgpdpodagoligaaGreatVAnchors10
import Derived.Test.YtgpdpodagoligaaGreatVAnchors41
import Derived.Test.YtgpdpodagoligaaGreatVAnchors17

/- Boxes of labels: how lists of them lie in memory; they are copied and compared. -/

namespace Go.Proofs.YtgpdpodagoligaaGreat
open Go.RowKit
set_option linter.unusedSimpArgs false
set_option linter.unusedVariables false
set_option maxRecDepth 100000

/-- A box of a label: its Id, X, Y, W and H. -/
structure Plc where
  id : Int
  a : Int
  b : Int
  c : Int
  d : Int
abbrev plcV (e : Plc) : Value := .agg #[.int .i64 e.id, .int .i64 e.a, .int .i64 e.b, .int .i64 e.c, .int .i64 e.d]
def PlcAt (w : World) (p o : Nat) (e : Plc) : Prop := w.cell? ⟨p, o, none⟩ = some (.int .i64 e.id) ∧ w.cell? ⟨p, o + 1, none⟩ = some (.int .i64 e.a) ∧ w.cell? ⟨p, o + 2, none⟩ = some (.int .i64 e.b) ∧ w.cell? ⟨p, o + 3, none⟩ = some (.int .i64 e.c) ∧ w.cell? ⟨p, o + 4, none⟩ = some (.int .i64 e.d)
theorem PlcAt.below {w w' : World} {p o B : Nat} {e : Plc} (h : PlcAt w p o e) (hb : Below B w w') (hp : p < B) : PlcAt w' p o e := by
  obtain ⟨h0, h1, h2, h3, h4⟩ := h
  exact ⟨(hb.cell (p := ⟨p, o, none⟩) hp).trans h0, (hb.cell (p := ⟨p, o + 1, none⟩) hp).trans h1, (hb.cell (p := ⟨p, o + 2, none⟩) hp).trans h2, (hb.cell (p := ⟨p, o + 3, none⟩) hp).trans h3, (hb.cell (p := ⟨p, o + 4, none⟩) hp).trans h4⟩
/-- From the address on lie n entries. -/
def LbAt (w : World) (p off n : Nat) (E : Nat → Plc) : Prop := ∀ i, i < n → PlcAt w p (off + i * 5) (E i)
theorem LbAt.below {w w' : World} {p off n B : Nat} {E : Nat → Plc} (h : LbAt w p off n E) (hb : Below B w w') (hp : p < B) : LbAt w' p off n E := fun i hi => (h i hi).below hb hp
def IsLb (w : World) (a : Option Addr) (n : Nat) (E : Nat → Plc) : Prop := n = 0 ∨ ∃ b off, a = some ⟨b, off, none⟩ ∧ b < w.heap.size ∧ LbAt w b off n E
theorem IsLb.below {w w' : World} {a : Option Addr} {n : Nat} {E : Nat → Plc} (h : IsLb w a n E) (hb : Below w.heap.size w w') : IsLb w' a n E := by
  rcases h with h | ⟨b, off, e, hl, hp⟩
  · exact .inl h
  · exact .inr ⟨b, off, e, Nat.lt_of_lt_of_le hl hb.size, hp.below hb hl⟩
theorem There.setP {W : World} {r n : Nat} (h : There W r n) (o : Nat) (v : Value) : There (W.setCell ⟨r, o, none⟩ v) r n := fun o' ho => by
  obtain ⟨u, hu⟩ := (h o' ho).1
  refine ⟨?_, ?_⟩
  · by_cases e : o = o'
    · subst e
      exact ⟨v, World.cell?_setCell_same _ _ _ (by rw [hu])⟩
    · exact ⟨u, by rw [World.cell?_setCell_other]; exact hu; simp [e]⟩
  · rw [World.frozen?_setCell]; exact (h o' ho).2
theorem There.outP {w : World} {O r n o : Nat} {x : Value} (h : There w r n) (hne : O ≠ r) : There (w.setCell ⟨O, o, none⟩ x) r n := fun i hi => by
  obtain ⟨u, hu⟩ := (h i hi).1
  refine ⟨⟨u, ?_⟩, ?_⟩
  · rw [set1_other (fun e => hne (by injection e))]; exact hu
  · rw [World.frozen?_setCell]; exact (h i hi).2
/-- Five stores: an entry is laid. -/
def layP (W : World) (B o : Nat) (e : Plc) : World := (((((W.setCell ⟨B, o, none⟩ (.int .i64 e.id)).setCell ⟨B, o + 1, none⟩ (.int .i64 e.a)).setCell ⟨B, o + 2, none⟩ (.int .i64 e.b)).setCell ⟨B, o + 3, none⟩ (.int .i64 e.c)).setCell ⟨B, o + 4, none⟩ (.int .i64 e.d))
theorem layP_other {W : World} {B o : Nat} {e : Plc} {p : Addr} (h : p.block ≠ B ∨ p.off < o ∨ o + 4 < p.off) : (layP W B o e).cell? p = W.cell? p := by
  have ne : ∀ k : Nat, k ≤ 4 → (⟨B, o + k, none⟩ : Addr) ≠ p := fun k hk e => by subst e; simp at h; omega
  have ne0 : (⟨B, o, none⟩ : Addr) ≠ p := ne 0 (by omega)
  unfold layP
  rw [set1_other (ne 4 (by omega)), set1_other (ne 3 (by omega)), set1_other (ne 2 (by omega)), set1_other (ne 1 (by omega)), set1_other ne0]
theorem layP_there {W : World} {B o m : Nat} {e : Plc} (h : There W B m) : There (layP W B o e) B m := by
  unfold layP
  exact (((((h.setP _ _).setP _ _).setP _ _).setP _ _).setP _ _)
theorem layP_size (W : World) (B o : Nat) (e : Plc) : (layP W B o e).heap.size = W.heap.size := by unfold layP; simp
theorem layP_below {V W : World} {n B o : Nat} {e : Plc} (h : Below n V W) (hB : n ≤ B) : Below n V (layP W B o e) := by
  unfold layP
  exact (((((h.setCell hB _).setCell hB _).setCell hB _).setCell hB _).setCell hB _)
theorem layP_at {W : World} {B o m : Nat} {e : Plc} (h : There W B m) (ho : o + 4 < m) : PlcAt (layP W B o e) B o e := by
  have ne : ∀ i j : Nat, i ≠ j → (⟨B, i, none⟩ : Addr) ≠ ⟨B, j, none⟩ := fun i j hij h => hij (by injection h)
  obtain ⟨u0, g0⟩ := (h (o) (by omega)).1
  obtain ⟨u1, g1⟩ := ((h.setP (o) (.int .i64 e.id)) (o + 1) (by omega)).1
  obtain ⟨u2, g2⟩ := (((h.setP (o) (.int .i64 e.id)).setP (o + 1) (.int .i64 e.a)) (o + 2) (by omega)).1
  obtain ⟨u3, g3⟩ := ((((h.setP (o) (.int .i64 e.id)).setP (o + 1) (.int .i64 e.a)).setP (o + 2) (.int .i64 e.b)) (o + 3) (by omega)).1
  obtain ⟨u4, g4⟩ := (((((h.setP (o) (.int .i64 e.id)).setP (o + 1) (.int .i64 e.a)).setP (o + 2) (.int .i64 e.b)).setP (o + 3) (.int .i64 e.c)) (o + 4) (by omega)).1
  unfold layP
  refine ⟨?_, ?_, ?_, ?_, ?_⟩
  · rw [set1_other (ne (o + 4) (o) (by omega)), set1_other (ne (o + 3) (o) (by omega)), set1_other (ne (o + 2) (o) (by omega)), set1_other (ne (o + 1) (o) (by omega))]; exact set1_same g0
  · rw [set1_other (ne (o + 4) (o + 1) (by omega)), set1_other (ne (o + 3) (o + 1) (by omega)), set1_other (ne (o + 2) (o + 1) (by omega))]; exact set1_same g1
  · rw [set1_other (ne (o + 4) (o + 2) (by omega)), set1_other (ne (o + 3) (o + 2) (by omega))]; exact set1_same g2
  · rw [set1_other (ne (o + 4) (o + 3) (by omega))]; exact set1_same g3
  · exact set1_same g4
theorem LbAt.lay {W : World} {B n k : Nat} {E : Nat → Plc} (h : LbAt W B 0 k E) (hT : There W B (n * 5)) (hk : k < n) : LbAt (layP W B (k * 5) (E k)) B 0 (k + 1) E := fun i hi => by
  by_cases e : i = k
  · subst e
    rw [Nat.zero_add]
    exact layP_at hT (by omega)
  · have h' := h i (by omega)
    unfold PlcAt at h' ⊢
    rw [layP_other (.inr (.inl (by simp; omega))), layP_other (.inr (.inl (by simp; omega))), layP_other (.inr (.inl (by simp; omega))), layP_other (.inr (.inl (by simp; omega))), layP_other (.inr (.inl (by simp; omega)))]
    exact h'
abbrev zeroP : Array Value := #[.int .i64 0, .int .i64 0, .int .i64 0, .int .i64 0, .int .i64 0]
theorem info_pl : (Tryz.prog.info? 50).map (fun i => (i.zero, i.size, i.bytes)) = some (some (.agg zeroP), 5, 40) := by kernel_rfl
end Go.Proofs.YtgpdpodagoligaaGreat
/- Answers with a code and a list of boxes: they are compared, marked, and the marks are found again. -/

namespace Go.Proofs.YtgpdpodagoligaaGreat
open Go.RowKit
set_option linter.unusedSimpArgs false
set_option linter.unusedVariables false
set_option maxRecDepth 100000

/-- The marks from k0 on. -/
def mkP (k0 : Nat) (i : Nat) : Plc := ⟨((k0 + 5 * i : Nat) : Int), ((k0 + 5 * i + 1 : Nat) : Int), ((k0 + 5 * i + 2 : Nat) : Int), ((k0 + 5 * i + 3 : Nat) : Int), ((k0 + 5 * i + 4 : Nat) : Int)⟩
/-- v is a list of n boxes in a block from base on. -/
def OwnP (w : World) (base : Nat) (v : Value) (n : Nat) (E : Nat → Plc) : Prop :=
  ∃ a cap, v = .slice a n cap ∧ n ≤ cap ∧ (n = 0 ∨ ∃ b, a = some ⟨b, 0, none⟩ ∧ base ≤ b ∧ b < w.heap.size ∧ LbAt w b 0 n E ∧ There w b (n * 5))
theorem OwnP.below {w w' : World} {base : Nat} {v : Value} {n : Nat} {E : Nat → Plc} (h : OwnP w base v n E) (hb : Below w.heap.size w w') : OwnP w' base v n E := by
  obtain ⟨a, cap, hv, hc, h0 | ⟨b, ha, hbb, hl, hp, ht⟩⟩ := h
  · exact ⟨a, cap, hv, hc, .inl h0⟩
  · exact ⟨a, cap, hv, hc, .inr ⟨b, ha, hbb, Nat.lt_of_lt_of_le hl hb.size, hp.below hb hl, ht.below hb⟩⟩
theorem OwnP.pts {w : World} {base : Nat} {v : Value} {n : Nat} {E : Nat → Plc} (h : OwnP w base v n E) : ∃ a cap, v = .slice a n cap ∧ n ≤ cap ∧ IsLb w a n E := by
  obtain ⟨a, cap, hv, hc, h0 | ⟨b, ha, hb, hl, hp, ht⟩⟩ := h
  · exact ⟨a, cap, hv, hc, .inl h0⟩
  · exact ⟨a, cap, hv, hc, .inr ⟨b, 0, ha, hl, hp⟩⟩
theorem OwnP.is {w : World} {base : Nat} {a : Option Addr} {n cap : Nat} {E : Nat → Plc} (h : OwnP w base (.slice a n cap) n E) : IsLb w a n E := by
  obtain ⟨a', cap', hv, hc, hi⟩ := h.pts
  injection hv with h1 h2 h3
  subst h1
  exact hi
theorem OwnP.mid {w w' : World} {base lo hi : Nat} {v : Value} {n : Nat} {E : Nat → Plc} (h : OwnP w base v n E) (hM : MidB lo hi w w') (hh : hi ≤ base) : OwnP w' base v n E := by
  obtain ⟨a, cap, hv, hc, h0 | ⟨b, ha, hbb, hl, hp, ht⟩⟩ := h
  · exact ⟨a, cap, hv, hc, .inl h0⟩
  · refine ⟨a, cap, hv, hc, .inr ⟨b, ha, hbb, Nat.lt_of_lt_of_le hl hM.size, fun i hi => ?_, hM.there ht (.inr (by omega))⟩⟩
    obtain ⟨h0, h1, h2, h3, h4⟩ := hp i hi
    exact ⟨hM.cell h0 (.inr (by omega)), hM.cell h1 (.inr (by omega)), hM.cell h2 (.inr (by omega)), hM.cell h3 (.inr (by omega)), hM.cell h4 (.inr (by omega))⟩
/-- Boxes that lie below block T. -/
def UnderP (T : Nat) (w : World) (a : Option Addr) (n : Nat) (E : Nat → Plc) : Prop := n = 0 ∨ ∃ b off, a = some ⟨b, off, none⟩ ∧ b < T ∧ LbAt w b off n E
theorem UnderP.is {T : Nat} {w : World} {a : Option Addr} {n : Nat} {E : Nat → Plc} (h : UnderP T w a n E) (hT : T ≤ w.heap.size) : IsLb w a n E := by
  rcases h with h | ⟨b, off, e, hl, hp⟩
  · exact .inl h
  · exact .inr ⟨b, off, e, by omega, hp⟩
theorem UnderP.below {T B : Nat} {w w' : World} {a : Option Addr} {n : Nat} {E : Nat → Plc} (h : UnderP T w a n E) (hb : Below B w w') (hB : T ≤ B) : UnderP T w' a n E := by
  rcases h with h | ⟨b, off, e, hl, hp⟩
  · exact .inl h
  · exact .inr ⟨b, off, e, hl, hp.below hb (by omega)⟩
theorem UnderP.mid {T lo hi : Nat} {w w' : World} {a : Option Addr} {n : Nat} {E : Nat → Plc} (h : UnderP T w a n E) (hM : MidB lo hi w w') (hT : T ≤ lo) : UnderP T w' a n E := by
  rcases h with h | ⟨b, off, e, hl, hp⟩
  · exact .inl h
  · refine .inr ⟨b, off, e, hl, fun i hi => ?_⟩
    obtain ⟨h0, h1, h2, h3, h4⟩ := hp i hi
    exact ⟨hM.cell h0 (.inl (by omega)), hM.cell h1 (.inl (by omega)), hM.cell h2 (.inl (by omega)), hM.cell h3 (.inl (by omega)), hM.cell h4 (.inl (by omega))⟩
theorem UnderP.row {T : Nat} {row : Option Nat} {w w' : World} {a : Option Addr} {n : Nat} {E : Nat → Plc} (h : UnderP T w a n E) (hg : w.grownBy w' row) (hs : ∀ s, row = some s → T ≤ s) : UnderP T w' a n E := by
  rcases h with h | ⟨b, off, e, hl, hp⟩
  · exact .inl h
  · refine .inr ⟨b, off, e, hl, fun i hi => ?_⟩
    obtain ⟨h0, h1, h2, h3, h4⟩ := hp i hi
    have hne : ∀ s, row = some s → b ≠ s := fun s e => by have := hs s e; omega
    exact ⟨ro_cell hg h0 hne, ro_cell hg h1 hne, ro_cell hg h2 hne, ro_cell hg h3 hne, ro_cell hg h4 hne⟩
end Go.Proofs.YtgpdpodagoligaaGreat
/- The box of a feature's label: the program and the model. -/

namespace Go.Proofs.YtgpdpodagoligaaGreat
open Go.RowKit
set_option linter.unusedSimpArgs false
set_option linter.unusedVariables false
set_option maxRecDepth 100000

/-- The box of a label. -/
abbrev lbF (id : Int) (lab : ByteArray) (ax ay : Int) : Plc := ⟨id, ax, ay, 2 * (lab.size : Int), 3⟩
theorem there5a (w : World) (a b c d e : Value) (t : TypeId) : There (w.alloc (.cells #[a, b, c, d, e] t)) w.heap.size 5 := fun o ho => by
  have : o = 0 ∨ o = 1 ∨ o = 2 ∨ o = 3 ∨ o = 4 := by omega
  rcases this with rfl | rfl | rfl | rfl | rfl <;> exact ⟨⟨_, by simp [go_sem]; rfl⟩, by simp [go_sem]⟩
theorem there1a (w : World) (a b : Value) (t : TypeId) : There (w.alloc (.cells #[a, b] t)) w.heap.size 2 := fun o ho => by
  have : o = 0 ∨ o = 1 := by omega
  rcases this with rfl | rfl <;> exact ⟨⟨_, by simp [go_sem]; rfl⟩, by simp [go_sem]⟩
set_option maxHeartbeats 4000000 in
theorem labelAsItIs_any {off : Nat} (id la ki wi z : Int) (b n cap : Nat) (X Y : Nat → Int) (lab : ByteArray) (pr : Int) (w : World) (hp : PtsAt w b off n X Y) (hbl : b < w.heap.size) (hn0 : 0 < n) (hin : inW (X 0) (Y 0) = true) (hz : zoomB z = true) (hl : lab.size ≤ 1048576) :
    Calls Tryz.prog 23 #[.agg #[.int .i64 id, .int .i64 la, .int .i64 ki, .int .i64 wi, .slice (some ⟨b, off, none⟩) n cap, .string lab, .int .i64 pr], .int .i64 z] w fun e w' => e = .returned (plcV (lbF id lab (ancI z (X 0)) (ancI z (Y 0)))) ∧ Below w.heap.size w w' := by
  have HA : Hid (∀ W, Below w.heap.size w W → Calls Tryz.prog 13 #[.agg #[.int .i64 id, .int .i64 la, .int .i64 ki, .int .i64 wi, .slice (some ⟨b, off, none⟩) n cap, .string lab, .int .i64 pr], .int .i64 z] W fun e w' => e = .returned (.agg #[.int .i64 (ancI z (X 0)), .int .i64 (ancI z (Y 0))]) ∧ Below W.heap.size W w') := fun W h => anchorAsItIs_any id la ki wi z b n cap X Y lab pr W (hp.below h hbl) (Nat.lt_of_lt_of_le hbl h.size) hn0 hin hz
  clear hp hin hz
  generalize ancI z (X 0) = ax at *
  generalize ancI z (Y 0) = ay at *
  show Calls Tryz.prog 23 _ w fun e w' => e = .returned (.agg #[.int .i64 id, .int .i64 ax, .int .i64 ay, .int .i64 (2 * (lab.size : Int)), .int .i64 3]) ∧ Below w.heap.size w w'
  go_enter Tryz.func23, Tryz.ntmps23
  go_wp2_with fail
  generalize hW : ((w.alloc _).alloc _ : World) = W
  have HB0 : Hid (Below w.heap.size w W) := by show Below _ _ _; subst hW; (repeat (first | exact Below.refl _ _ | assumption | refine Below.drew ?_ | refine bl_alloc ?_ _ | refine bl_then ?_ (by assumption) | refine Below.setCell ?_ (by first | omega | (simp; done) | (simp; omega)) _ | refine bl_store ?_ ?_ _ _))
  have HT : Hid (There W (w.heap.size + 1) 5) := by
    show There _ _ _
    subst hW
    have := there5a (w.alloc (.cells #[.int .i64 id, .int .i64 la, .int .i64 ki, .int .i64 wi, .slice (some ⟨b, off, none⟩) n cap, .string lab, .int .i64 pr] 26)) (.int .i64 0) (.int .i64 0) (.int .i64 0) (.int .i64 0) (.int .i64 0) 50
    simpa using this
  have HF : Hid (FeatAt W w.heap.size 0 id la ki wi (.slice (some ⟨b, off, none⟩) n cap) lab pr) := by
    show FeatAt _ _ _ _ _ _ _ _ _ _
    subst hW
    refine ⟨?_, ?_, ?_, ?_, ?_, ?_, ?_⟩ <;> simp [go_sem]
  have HSZ : Hid (w.heap.size + 1 < W.heap.size) := by show _ < _; subst hW; simp
  have hlW : w.heap.size < W.heap.size := by subst hW; simp <;> omega
  clear hW
  refine (HA.out _ HB0.out).mono ?_
  rintro e w1 ⟨rfl, hb1⟩
  have hT1 := HT.out.below hb1
  have HT1 : Hid (There w1 (w.heap.size + 1) 5) := hT1
  obtain ⟨q0, _, _, _, _, q5, _⟩ := HF.out.below hb1 hlW
  simp only [Nat.zero_add] at q0 q5
  have HB1 : Hid (Below w.heap.size w w1) := bl_then HB0.out hb1
  have hs1 : w.heap.size + 1 < w1.heap.size := Nat.lt_of_lt_of_le HSZ.out hb1.size
  have hs0 : w.heap.size < w1.heap.size := by omega
  have t0 := hT1.cell 0 (by omega)
  have t1 := hT1.cell 1 (by omega)
  have t2 := hT1.cell 2 (by omega)
  have t3 := hT1.cell 3 (by omega)
  have t4 := hT1.cell 4 (by omega)
  have f0 := (hT1 0 (by omega)).2
  have f1 := (hT1 1 (by omega)).2
  have f2 := (hT1 2 (by omega)).2
  have f3 := (hT1 3 (by omega)).2
  have f4 := (hT1 4 (by omega)).2
  clear hT1 hb1
  go_wp2_with fail
  have hP := layP_at (W := w1) (B := w.heap.size + 1) (o := 0) (m := 5) (e := lbF id lab ax ay) HT1.out (by omega)
  have hBU := layP_below (o := 0) (e := lbF id lab ax ay) HB1.out (Nat.le_succ w.heap.size)
  obtain ⟨g0, g1, g2, g3, g4⟩ := hP
  unfold layP at g0 g1 g2 g3 g4 hBU
  simp only [Nat.zero_add] at g0 g1 g2 g3 g4 hBU
  try dsimp only at g0 g1 g2 g3 g4 hBU
  generalize hU : (((((w1.setCell _ _).setCell _ _).setCell _ _).setCell _ _).setCell _ _ : World) = U at *
  have hlU := World.block_lt_of_cell? _ _ g0
  have r0 : ∀ O, (U.alloc O).cell? ⟨w.heap.size + 1, 0, none⟩ = U.cell? ⟨w.heap.size + 1, 0, none⟩ := fun O => World.cell?_alloc_lt _ _ _ hlU
  have r1 : ∀ O, (U.alloc O).cell? ⟨w.heap.size + 1, 1, none⟩ = U.cell? ⟨w.heap.size + 1, 1, none⟩ := fun O => World.cell?_alloc_lt _ _ _ hlU
  have r2 : ∀ O, (U.alloc O).cell? ⟨w.heap.size + 1, 2, none⟩ = U.cell? ⟨w.heap.size + 1, 2, none⟩ := fun O => World.cell?_alloc_lt _ _ _ hlU
  have r3 : ∀ O, (U.alloc O).cell? ⟨w.heap.size + 1, 3, none⟩ = U.cell? ⟨w.heap.size + 1, 3, none⟩ := fun O => World.cell?_alloc_lt _ _ _ hlU
  have r4 : ∀ O, (U.alloc O).cell? ⟨w.heap.size + 1, 4, none⟩ = U.cell? ⟨w.heap.size + 1, 4, none⟩ := fun O => World.cell?_alloc_lt _ _ _ hlU
  refine bodyPost_ret (v := .agg #[.int .i64 id, .int .i64 ax, .int .i64 ay, .int .i64 (2 * (lab.size : Int)), .int .i64 3]) (by simp [results, Tryz.results23, go_sem, r0, r1, r2, r3, r4, g0, g1, g2, g3, g4]) rfl ⟨rfl, ?_⟩
  exact bl_alloc hBU _
end Go.Proofs.YtgpdpodagoligaaGreat
/- The law of LabelBox returns true, where the program and the model answer the same code and the same list in memory of their own. -/

namespace Go.Proofs.YtgpdpodagoligaaGreat
open Go.RowKit
set_option linter.unusedSimpArgs false
set_option linter.unusedVariables false
set_option maxRecDepth 100000

/-- Block p holds a code and a list. -/
def R2P (w : World) (p : Nat) (c : Int) (v : Value) : Prop := w.cell? ⟨p, 0, none⟩ = some (.int .i64 c) ∧ w.cell? ⟨p, 1, none⟩ = some v
theorem R2P.row {w w' : World} {p : Nat} {row : Option Nat} {c : Int} {v : Value} (h : R2P w p c v) (hg : w.grownBy w' row) (hs : ∀ s, row = some s → p ≠ s) : R2P w' p c v := ⟨hg.cell h.1 (fun e => hs _ e.symm rfl), hg.cell h.2 (fun e => hs _ e.symm rfl)⟩
theorem R2P.below {w w' : World} {p : Nat} {c : Int} {v : Value} (h : R2P w p c v) (hb : Below w.heap.size w w') : R2P w' p c v := ⟨(hb.cell (World.block_lt_of_cell? _ _ h.1)).trans h.1, (hb.cell (World.block_lt_of_cell? _ _ h.2)).trans h.2⟩
theorem below_rowP {B : Nat} {row : Option Nat} {a b : World} (h : a.grownBy b row) (hs : ∀ s, row = some s → B ≤ s) (hl : B ≤ a.heap.size) : Below B a b :=
  ⟨h.os, h.tape, h.output, h.size, fun k hk => h.block k (by omega) (fun e => by have := hs k e.symm; omega)⟩
theorem OwnP.row {w w' : World} {base : Nat} {v : Value} {n : Nat} {E : Nat → Plc} {row : Option Nat} (h : OwnP w base v n E) (hg : w.grownBy w' row) (hs : ∀ s, row = some s → s < base) : OwnP w' base v n E := by
  obtain ⟨a, cap, hv, hc, h0 | ⟨b, ha, hbb, hl, hp, ht⟩⟩ := h
  · exact ⟨a, cap, hv, hc, .inl h0⟩
  · have hne : ∀ s, row = some s → b ≠ s := fun s e => by have := hs s e; omega
    refine ⟨a, cap, hv, hc, .inr ⟨b, ha, hbb, Nat.lt_of_lt_of_le hl hg.size, fun i hi => ?_, fun o ho => ?_⟩⟩
    · obtain ⟨h0, h1, h2, h3, h4⟩ := hp i hi
      exact ⟨ro_cell hg h0 hne, ro_cell hg h1 hne, ro_cell hg h2 hne, ro_cell hg h3 hne, ro_cell hg h4 hne⟩
    · obtain ⟨u, hu⟩ := (ht o ho).1
      refine ⟨⟨u, ro_cell hg hu hne⟩, ?_⟩
      have hb := hg.block b hl (fun e => hne b e.symm rfl)
      have h2 := (ht o ho).2
      unfold World.frozen? at h2 ⊢
      simp only [hb]
      exact h2
theorem R2P.lt {w : World} {p : Nat} {c : Int} {v : Value} (h : R2P w p c v) : p < w.heap.size := World.block_lt_of_cell? _ _ h.1
theorem R2P.new (w : World) (c : Int) (v : Value) (t : TypeId) : R2P (w.alloc (.cells #[.int .i64 c, v] t)) w.heap.size c v := by
  refine ⟨?_, ?_⟩ <;> simp [go_sem]

end Go.Proofs.YtgpdpodagoligaaGreat
/- The law of SnapPoint returns true at every point and number. -/

namespace Go.Proofs.YtgpdpodagoligaaGreat
open Go.RowKit
set_option linter.unusedSimpArgs false
set_option linter.unusedVariables false
end Go.Proofs.YtgpdpodagoligaaGreat
/- The law of AnchorOf: its steps. -/

namespace Go.Proofs.YtgpdpodagoligaaGreat
open Go.RowKit
set_option linter.unusedSimpArgs false
set_option linter.unusedVariables false
set_option maxRecDepth 100000
end Go.Proofs.YtgpdpodagoligaaGreat
/- The law of AnchorOf returns true at every feature and number. -/

namespace Go.Proofs.YtgpdpodagoligaaGreat
open Go.RowKit
set_option linter.unusedVariables false
/-- Which points of a line stay. -/
theorem thin_exA (X Y : Nat → Int) (z : Int) (n : Nat) : ∃ L, 3 ≤ (snapL X Y z n).length → Thin (px (snapL X Y z n)) (py (snapL X Y z n)) (gridI z) 0 ((snapL X Y z n).length - 1) L := by
  by_cases h3 : 3 ≤ (snapL X Y z n).length
  · obtain ⟨L, hL⟩ := Thin.exists (px (snapL X Y z n)) (py (snapL X Y z n)) (gridI z) ((snapL X Y z n).length - 1) 0 ((snapL X Y z n).length - 1) (by omega) (by omega)
    exact ⟨L, fun _ => hL⟩
  · exact ⟨[], fun h => absurd h h3⟩
end Go.Proofs.YtgpdpodagoligaaGreat
