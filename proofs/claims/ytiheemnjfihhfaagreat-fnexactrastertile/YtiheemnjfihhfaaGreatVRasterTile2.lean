/- Several texts in one. -/
import Derived.Test.YtiheemnjfihhfaaGreatVRasterTile1

/- What the small functions of points answer, and that they write nothing that was there. -/

namespace Go.Proofs.YtiheemnjfihhfaaGreat
open Go.RowKit
set_option linter.unusedSimpArgs false
set_option linter.unusedVariables false

theorem l1Cross_any (ax ay bx by' cx cy : Int) (w : World) (ha : okP ax ay = true) (hb : okP bx by' = true) (hc : okP cx cy = true) :
    Calls Tryz.prog 93 #[.agg #[.int .i64 ax, .int .i64 ay], .agg #[.int .i64 bx, .int .i64 by'], .agg #[.int .i64 cx, .int .i64 cy]] w fun e w' => e = .returned (.int .i64 (crossI ax ay bx by' cx cy)) ∧ Below w.heap.size w w' := by
  obtain ⟨⟨a1, a2⟩, a3, a4⟩ := okP_bd ha
  obtain ⟨⟨b1, b2⟩, b3, b4⟩ := okP_bd hb
  obtain ⟨⟨c1, c2⟩, c3, c4⟩ := okP_bd hc
  clear ha hb hc
  unfold crossI
  obtain ⟨p1, p2⟩ := mul_bd (a := bx - ax) (b := cy - ay) (B := 5120) (C := 5120) (by omega) (by omega) (by omega) (by omega) (by omega)
  obtain ⟨q1, q2⟩ := mul_bd (a := by' - ay) (b := cx - ax) (B := 5120) (C := 5120) (by omega) (by omega) (by omega) (by omega) (by omega)
  go_enter Tryz.func93, Tryz.ntmps93
  go_wp2
  go_ret
  exact ⟨rfl, by (repeat (first | exact Below.refl _ _ | assumption | refine Below.drew ?_ | refine bl_alloc ?_ _ | refine bl_then ?_ (by assumption) | refine Below.setCell ?_ (by first | omega | (simp; done) | (simp; omega)) _ | refine bl_store ?_ ?_ _ _))⟩

theorem l1Distance_any (ax ay bx by' : Int) (w : World) (ha : okP ax ay = true) (hb : okP bx by' = true) :
    Calls Tryz.prog 92 #[.agg #[.int .i64 ax, .int .i64 ay], .agg #[.int .i64 bx, .int .i64 by']] w fun e w' => e = .returned (.int .i64 (distI ax ay bx by')) ∧ Below w.heap.size w w' := by
  obtain ⟨⟨a1, a2⟩, a3, a4⟩ := okP_bd ha
  obtain ⟨⟨b1, b2⟩, b3, b4⟩ := okP_bd hb
  clear ha hb
  have hd : Hid (distI ax ay bx by' = (ax - bx) * (ax - bx) + (ay - by') * (ay - by')) := by
    show _ = _
    unfold distI
    rw [← Int.neg_sub ax bx, ← Int.neg_sub ay by', Int.neg_mul_neg, Int.neg_mul_neg]
  obtain ⟨p1, p2⟩ := mul_bd (a := ax - bx) (b := ax - bx) (B := 5120) (C := 5120) (by omega) (by omega) (by omega) (by omega) (by omega)
  obtain ⟨q1, q2⟩ := mul_bd (a := ay - by') (b := ay - by') (B := 5120) (C := 5120) (by omega) (by omega) (by omega) (by omega) (by omega)
  go_enter Tryz.func92, Tryz.ntmps92
  go_wp2
  go_ret
  exact ⟨ret_int hd.out.symm, by (repeat (first | exact Below.refl _ _ | assumption | refine Below.drew ?_ | refine bl_alloc ?_ _ | refine bl_then ?_ (by assumption) | refine Below.setCell ?_ (by first | omega | (simp; done) | (simp; omega)) _ | refine bl_store ?_ ?_ _ _))⟩

/-- Both within 5120, either way. -/
def Df (x y : Int) : Prop := (-5120 ≤ x ∧ x ≤ 5120) ∧ (-5120 ≤ y ∧ y ≤ 5120)

theorem wayOf_any (ax ay bx by' : Int) (w : World) (ha : okP ax ay = true) (hb : okP bx by' = true) :
    Calls Tryz.prog 101 #[.agg #[.int .i64 ax, .int .i64 ay], .agg #[.int .i64 bx, .int .i64 by']] w fun e w' => e = .returned (.agg #[.int .i64 (bx - ax), .int .i64 (by' - ay)]) ∧ Below w.heap.size w w' := by
  obtain ⟨⟨a1, a2⟩, a3, a4⟩ := okP_bd ha
  obtain ⟨⟨b1, b2⟩, b3, b4⟩ := okP_bd hb
  clear ha hb
  go_enter Tryz.func101, Tryz.ntmps101
  go_wp2
  exact bodyPost_ret (v := .agg #[.int .i64 (bx - ax), .int .i64 (by' - ay)]) (by simp [results, Tryz.results101, go_sem]) rfl ⟨rfl, by (repeat (first | exact Below.refl _ _ | assumption | refine Below.drew ?_ | refine bl_alloc ?_ _ | refine bl_then ?_ (by assumption) | refine Below.setCell ?_ (by first | omega | (simp; done) | (simp; omega)) _ | refine bl_store ?_ ?_ _ _))⟩

theorem dotOf_any (ax ay bx by' : Int) (w : World) (ha : Df ax ay) (hb : Df bx by') :
    Calls Tryz.prog 102 #[.agg #[.int .i64 ax, .int .i64 ay], .agg #[.int .i64 bx, .int .i64 by']] w fun e w' => e = .returned (.int .i64 (ax * bx + ay * by')) ∧ Below w.heap.size w w' := by
  obtain ⟨⟨a1, a2⟩, a3, a4⟩ := ha
  obtain ⟨⟨b1, b2⟩, b3, b4⟩ := hb
  obtain ⟨p1, p2⟩ := mul_bd (a := ax) (b := bx) (B := 5120) (C := 5120) (by omega) (by omega) (by omega) (by omega) (by omega)
  obtain ⟨q1, q2⟩ := mul_bd (a := ay) (b := by') (B := 5120) (C := 5120) (by omega) (by omega) (by omega) (by omega) (by omega)
  go_enter Tryz.func102, Tryz.ntmps102
  go_wp2
  go_ret
  exact ⟨rfl, by (repeat (first | exact Below.refl _ _ | assumption | refine Below.drew ?_ | refine bl_alloc ?_ _ | refine bl_then ?_ (by assumption) | refine Below.setCell ?_ (by first | omega | (simp; done) | (simp; omega)) _ | refine bl_store ?_ ?_ _ _))⟩

theorem squareOf_any (ax ay : Int) (w : World) (ha : Df ax ay) :
    Calls Tryz.prog 100 #[.agg #[.int .i64 ax, .int .i64 ay]] w fun e w' => e = .returned (.int .i64 (ax * ax + ay * ay)) ∧ Below w.heap.size w w' := by
  have HA : Hid (Df ax ay) := ha
  clear ha
  go_enter Tryz.func100, Tryz.ntmps100
  go_wp2_with (go_at_call 102; refine (dotOf_any _ _ _ _ _ HA.out HA.out).mono ?_; rintro e w' ⟨rfl, hb1⟩)
  go_ret
  exact ⟨rfl, by (repeat (first | exact Below.refl _ _ | assumption | refine Below.drew ?_ | refine bl_alloc ?_ _ | refine bl_then ?_ (by assumption) | refine Below.setCell ?_ (by first | omega | (simp; done) | (simp; omega)) _ | refine bl_store ?_ ?_ _ _))⟩

/-- Whether a is above b neither in X nor in Y. -/
def upB (ax ay bx by' : Int) : Bool := decide (ax ≤ bx) && decide (ay ≤ by')
theorem eqPoint_any (ax ay : Int) (w : World) :
    Calls Tryz.prog 89 #[.agg #[.int .i64 ax, .int .i64 ay], .agg #[.int .i64 ax, .int .i64 ay]] w fun e w' => e = .returned (.bool true) ∧ Below w.heap.size w w' := by
  go_enter Tryz.func89, Tryz.ntmps89
  go_wp2
  go_ret
  exact ⟨rfl, by (repeat (first | exact Below.refl _ _ | assumption | refine Below.drew ?_ | refine bl_alloc ?_ _ | refine bl_then ?_ (by assumption) | refine Below.setCell ?_ (by first | omega | (simp; done) | (simp; omega)) _ | refine bl_store ?_ ?_ _ _))⟩

end Go.Proofs.YtiheemnjfihhfaaGreat
/- A region that stores into one block of its own while it calls: what is kept. -/

namespace Go.Proofs.YtiheemnjfihhfaaGreat
open Go.RowKit

/-- Block r has n cells that may be written. -/
def There (W : World) (r n : Nat) : Prop := ∀ o, o < n → (∃ v, W.cell? ⟨r, o, none⟩ = some v) ∧ W.frozen? ⟨r, o, none⟩ = false
/-- What a cell holds. -/
def cellOr (W : World) (r o : Nat) : Value := (W.cell? ⟨r, o, none⟩).getD undef
theorem There.cell {W : World} {r n : Nat} (h : There W r n) (o : Nat) (ho : o < n) : W.cell? ⟨r, o, none⟩ = some (cellOr W r o) := by
  obtain ⟨v, hv⟩ := (h o ho).1
  simp [cellOr, hv]
theorem There.below {W W' : World} {r n : Nat} (h : There W r n) (hb : Below W.heap.size W W') : There W' r n := fun o ho => by
  obtain ⟨v, hv⟩ := (h o ho).1
  have hlt : r < W.heap.size := World.block_lt_of_cell? W ⟨r, o, none⟩ hv
  exact ⟨⟨v, (hb.cell (p := ⟨r, o, none⟩) hlt).trans hv⟩, (hb.frozen (p := ⟨r, o, none⟩) hlt).trans (h o ho).2⟩
/-- Below B all is as in W, and block r may be written. -/
structure Reg (B : Nat) (W : World) (r n : Nat) (W' : World) : Prop where
  le : B ≤ W.heap.size
  bel : Below B W W'
  there : There W' r n
theorem Reg.call {B r n : Nat} {W W1 w' : World} (h : Reg B W r n W1) (hb : Below W1.heap.size W1 w') : Reg B W r n w' :=
  ⟨h.le, h.bel.trans (hb.mono (Nat.le_trans h.le h.bel.size)), h.there.below hb⟩
theorem Reg.drew {B r n : Nat} {W W1 : World} (h : Reg B W r n W1) : Reg B W r n W1.drew := ⟨h.le, h.bel.drew, h.there⟩
theorem Reg.alloc {B r n : Nat} {W W1 : World} (h : Reg B W r n W1) (o : Obj) : Reg B W r n (W1.alloc o) :=
  h.call (Below.alloc (Below.refl _ _) (Nat.le_refl _) o)
theorem Reg.start {B r n : Nat} {W : World} (hB : B ≤ W.heap.size) (ht : There W r n) : Reg B W r n W := ⟨hB, Below.refl _ _, ht⟩
theorem Reg.store {B r n : Nat} {W W1 : World} (h : Reg B W r n W1) (hr : B ≤ r) (o : Nat) (v : Value) : Reg B W r n (W1.setCell ⟨r, o, none⟩ v) :=
  ⟨h.le, h.bel.setCell hr v, fun o' ho => by
    obtain ⟨u, hu⟩ := (h.there o' ho).1
    refine ⟨?_, ?_⟩
    · by_cases e : o = o'
      · subst e
        exact ⟨v, World.cell?_setCell_same _ _ _ (by rw [hu])⟩
      · exact ⟨u, by rw [World.cell?_setCell_other]; exact hu; intro hc; exact e (by simpa using hc.symm)⟩
    · rw [World.frozen?_setCell]; exact (h.there o' ho).2⟩
/-- Two stores into one block, read back. -/
theorem set2_0 {W : World} {b : Nat} {v0 v1 : Value} (h0 : (W.cell? ⟨b, 0, none⟩).isSome = true) : ((W.setCell ⟨b, 0, none⟩ v0).setCell ⟨b, 1, none⟩ v1).cell? ⟨b, 0, none⟩ = some v0 := by
  obtain ⟨u, hu⟩ := Option.isSome_iff_exists.1 h0
  rw [World.cell?_setCell_other]
  · exact World.cell?_setCell_same _ _ _ (by rw [hu])
  · simp
theorem set2_1 {W : World} {b : Nat} {v0 v1 : Value} (h1 : (W.cell? ⟨b, 1, none⟩).isSome = true) : ((W.setCell ⟨b, 0, none⟩ v0).setCell ⟨b, 1, none⟩ v1).cell? ⟨b, 1, none⟩ = some v1 := by
  obtain ⟨u, hu⟩ := Option.isSome_iff_exists.1 h1
  refine World.cell?_setCell_same (u := u) _ _ _ ?_
  rw [World.cell?_setCell_other]
  · exact hu
  · simp
end Go.Proofs.YtiheemnjfihhfaaGreat
