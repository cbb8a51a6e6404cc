/- What the small functions of points answer, and that they write nothing that was there. -/
import Derived.Test.YtjnglencgkhhaaaVSimples5
namespace Go.Proofs.Ytjnglencgkhhaaa
open Go.RowKit
set_option linter.unusedSimpArgs false
set_option linter.unusedVariables false

theorem l1Cross_any (ax ay bx by' cx cy : Int) (w : World) (ha : okP ax ay = true) (hb : okP bx by' = true) (hc : okP cx cy = true) :
    Calls Try.prog 110 #[.agg #[.int .i64 ax, .int .i64 ay], .agg #[.int .i64 bx, .int .i64 by'], .agg #[.int .i64 cx, .int .i64 cy]] w fun e w' => e = .returned (.int .i64 (crossI ax ay bx by' cx cy)) ∧ Below w.heap.size w w' := by
  obtain ⟨⟨a1, a2⟩, a3, a4⟩ := okP_bd ha
  obtain ⟨⟨b1, b2⟩, b3, b4⟩ := okP_bd hb
  obtain ⟨⟨c1, c2⟩, c3, c4⟩ := okP_bd hc
  clear ha hb hc
  unfold crossI
  obtain ⟨p1, p2⟩ := mul_bd (a := bx - ax) (b := cy - ay) (B := 5120) (C := 5120) (by omega) (by omega) (by omega) (by omega) (by omega)
  obtain ⟨q1, q2⟩ := mul_bd (a := by' - ay) (b := cx - ax) (B := 5120) (C := 5120) (by omega) (by omega) (by omega) (by omega) (by omega)
  go_enter Try.func110, Try.ntmps110
  go_wp2
  go_ret
  exact ⟨rfl, by (repeat (first | exact Below.refl _ _ | assumption | refine Below.drew ?_ | refine bl_alloc ?_ _ | refine bl_then ?_ (by assumption) | refine Below.setCell ?_ (by first | omega | (simp; done) | (simp; omega)) _ | refine bl_store ?_ ?_ _ _))⟩

theorem l1Distance_any (ax ay bx by' : Int) (w : World) (ha : okP ax ay = true) (hb : okP bx by' = true) :
    Calls Try.prog 109 #[.agg #[.int .i64 ax, .int .i64 ay], .agg #[.int .i64 bx, .int .i64 by']] w fun e w' => e = .returned (.int .i64 (distI ax ay bx by')) ∧ Below w.heap.size w w' := by
  obtain ⟨⟨a1, a2⟩, a3, a4⟩ := okP_bd ha
  obtain ⟨⟨b1, b2⟩, b3, b4⟩ := okP_bd hb
  clear ha hb
  have hd : Hid (distI ax ay bx by' = (ax - bx) * (ax - bx) + (ay - by') * (ay - by')) := by
    show _ = _
    unfold distI
    rw [← Int.neg_sub ax bx, ← Int.neg_sub ay by', Int.neg_mul_neg, Int.neg_mul_neg]
  obtain ⟨p1, p2⟩ := mul_bd (a := ax - bx) (b := ax - bx) (B := 5120) (C := 5120) (by omega) (by omega) (by omega) (by omega) (by omega)
  obtain ⟨q1, q2⟩ := mul_bd (a := ay - by') (b := ay - by') (B := 5120) (C := 5120) (by omega) (by omega) (by omega) (by omega) (by omega)
  go_enter Try.func109, Try.ntmps109
  go_wp2
  go_ret
  exact ⟨ret_int hd.out.symm, by (repeat (first | exact Below.refl _ _ | assumption | refine Below.drew ?_ | refine bl_alloc ?_ _ | refine bl_then ?_ (by assumption) | refine Below.setCell ?_ (by first | omega | (simp; done) | (simp; omega)) _ | refine bl_store ?_ ?_ _ _))⟩

/-- Both within 5120, either way. -/
def Df (x y : Int) : Prop := (-5120 ≤ x ∧ x ≤ 5120) ∧ (-5120 ≤ y ∧ y ≤ 5120)

theorem wayOf_any (ax ay bx by' : Int) (w : World) (ha : okP ax ay = true) (hb : okP bx by' = true) :
    Calls Try.prog 105 #[.agg #[.int .i64 ax, .int .i64 ay], .agg #[.int .i64 bx, .int .i64 by']] w fun e w' => e = .returned (.agg #[.int .i64 (bx - ax), .int .i64 (by' - ay)]) ∧ Below w.heap.size w w' := by
  obtain ⟨⟨a1, a2⟩, a3, a4⟩ := okP_bd ha
  obtain ⟨⟨b1, b2⟩, b3, b4⟩ := okP_bd hb
  clear ha hb
  go_enter Try.func105, Try.ntmps105
  go_wp2
  exact bodyPost_ret (v := .agg #[.int .i64 (bx - ax), .int .i64 (by' - ay)]) (by simp [results, Try.results105, go_sem]) rfl ⟨rfl, by (repeat (first | exact Below.refl _ _ | assumption | refine Below.drew ?_ | refine bl_alloc ?_ _ | refine bl_then ?_ (by assumption) | refine Below.setCell ?_ (by first | omega | (simp; done) | (simp; omega)) _ | refine bl_store ?_ ?_ _ _))⟩

theorem dotOf_any (ax ay bx by' : Int) (w : World) (ha : Df ax ay) (hb : Df bx by') :
    Calls Try.prog 106 #[.agg #[.int .i64 ax, .int .i64 ay], .agg #[.int .i64 bx, .int .i64 by']] w fun e w' => e = .returned (.int .i64 (ax * bx + ay * by')) ∧ Below w.heap.size w w' := by
  obtain ⟨⟨a1, a2⟩, a3, a4⟩ := ha
  obtain ⟨⟨b1, b2⟩, b3, b4⟩ := hb
  obtain ⟨p1, p2⟩ := mul_bd (a := ax) (b := bx) (B := 5120) (C := 5120) (by omega) (by omega) (by omega) (by omega) (by omega)
  obtain ⟨q1, q2⟩ := mul_bd (a := ay) (b := by') (B := 5120) (C := 5120) (by omega) (by omega) (by omega) (by omega) (by omega)
  go_enter Try.func106, Try.ntmps106
  go_wp2
  go_ret
  exact ⟨rfl, by (repeat (first | exact Below.refl _ _ | assumption | refine Below.drew ?_ | refine bl_alloc ?_ _ | refine bl_then ?_ (by assumption) | refine Below.setCell ?_ (by first | omega | (simp; done) | (simp; omega)) _ | refine bl_store ?_ ?_ _ _))⟩

theorem squareOf_any (ax ay : Int) (w : World) (ha : Df ax ay) :
    Calls Try.prog 104 #[.agg #[.int .i64 ax, .int .i64 ay]] w fun e w' => e = .returned (.int .i64 (ax * ax + ay * ay)) ∧ Below w.heap.size w w' := by
  have HA : Hid (Df ax ay) := ha
  clear ha
  go_enter Try.func104, Try.ntmps104
  go_wp2_with (go_at_call 106; refine (dotOf_any _ _ _ _ _ HA.out HA.out).mono ?_; rintro e w' ⟨rfl, hb1⟩)
  go_ret
  exact ⟨rfl, by (repeat (first | exact Below.refl _ _ | assumption | refine Below.drew ?_ | refine bl_alloc ?_ _ | refine bl_then ?_ (by assumption) | refine Below.setCell ?_ (by first | omega | (simp; done) | (simp; omega)) _ | refine bl_store ?_ ?_ _ _))⟩

/-- Whether a is above b neither in X nor in Y. -/
def upB (ax ay bx by' : Int) : Bool := decide (ax ≤ bx) && decide (ay ≤ by')
end Go.Proofs.Ytjnglencgkhhaaa
