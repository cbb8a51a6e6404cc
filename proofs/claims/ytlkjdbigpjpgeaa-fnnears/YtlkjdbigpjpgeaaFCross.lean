/- FnCrosses: the law out of what is called. -/
import Derived.Test.YtlkjdbigpjpgeaaDraw4
import Derived.Test.YtlkjdbigpjpgeaaCrossSpec
import Derived.Test.YtlkjdbigpjpgeaaCrossImpl
import Derived.Test.YtlkjdbigpjpgeaaGap
import Derived.Laws.StructEq
namespace Go.Proofs.Ytlkjdbigpjpgeaa
open Go.RowKit
set_option linter.unusedSimpArgs false
set_option linter.unusedVariables false

theorem equalIn_point (n : Nat) (a b c d : Int) (w : World) : (Op.equalIn (n + 2) 25 (.agg #[.int .i64 a, .int .i64 b]) (.agg #[.int .i64 c, .int .i64 d])).run Try.prog w = .ok ((a == c) && (b == d)) w := by
  have hp0 : ∀ (x y : Int) (w : World), (part 2 #[.int .i64 x, .int .i64 y] 0).run Try.prog w = .ok (.int .i64 x) w := fun _ _ _ => by kernel_rfl
  have hp1 : ∀ (x y : Int) (w : World), (part 2 #[.int .i64 x, .int .i64 y] 1).run Try.prog w = .ok (.int .i64 y) w := fun _ _ _ => by kernel_rfl
  have hi := fun (a b : Int) (w : World) => run_equalIn_int (P := Try.prog) w n 2 .i64 .i64 a b Try.underlying2
  rw [run_equalIn_struct w (n + 1) 25 _ _ (by kernel_rfl) (by kernel_rfl)]
  simp [Op.eqFields, Program.fieldsOf, Try.underlying25, hp0, hp1, hi]
  by_cases h1 : a = c <;> by_cases h2 : b = d <;> simp [h1, h2]

theorem lwBig_any (a : Option Addr) (n cap : Nat) (w : World) : Calls Try.prog 8 #[.slice a n cap] w fun e w' => e = .returned (.bool (decide (1048576 < (n : Int)))) ∧ w' = w := by
  go_enter Try.func8, Try.ntmps8
  go_wp2
  go_ret
  exact ⟨rfl, rfl⟩

theorem cross_turn (ax ay bx by' cx cy : Int) : crossI bx by' cx cy ax ay = crossI ax ay bx by' cx cy := by
  unfold crossI; grind
theorem cross_back (ax ay bx by' cx cy : Int) : crossI ax ay cx cy bx by' = - crossI ax ay bx by' cx cy := by
  unfold crossI; grind
theorem cross_flat (ax ay bx by' : Int) : crossI ax ay bx by' bx by' = 0 := by
  unfold crossI; grind
theorem dist_zero (ax ay bx by' : Int) : (distI ax ay bx by' == 0) = ((ax == bx) && (ay == by')) := by
  have s1 := sq_nonneg (bx - ax)
  have s2 := sq_nonneg (by' - ay)
  by_cases h1 : ax = bx
  · by_cases h2 : ay = by'
    · subst h1 h2; simp [distI]
    · have : ¬ distI ax ay bx by' = 0 := by
        unfold distI; intro h
        have : (by' - ay) * (by' - ay) = 0 := by omega
        have := Int.mul_eq_zero.1 this
        omega
      rw [beq_eq_false_iff_ne.2 this, beq_eq_false_iff_ne.2 h2, Bool.and_false]
  · have : ¬ distI ax ay bx by' = 0 := by
      unfold distI; intro h
      have : (bx - ax) * (bx - ax) = 0 := by omega
      have := Int.mul_eq_zero.1 this
      omega
    rw [beq_eq_false_iff_ne.2 this, beq_eq_false_iff_ne.2 h1, Bool.false_and]

set_option maxHeartbeats 1000000 in
theorem FnCrosses_big (a : Option Addr) (n cap : Nat) (w : World) (h : 1048576 < n) : Calls Try.prog 3 #[.slice a n cap] w fun e w' => e = .returned (.bool true) ∧ Below w.heap.size w w' := by
  have hb : decide (1048576 < (n : Int)) = true := by simp; omega
  go_enter Try.func3, Try.ntmps3
  go_wp2_with (go_at_call 8; refine (lwBig_any _ _ _ _).mono ?_; rintro e w' ⟨rfl, rfl⟩)
  go_ret
  exact ⟨rfl, by (repeat (first | exact Below.refl _ _ | assumption | refine Below.drew ?_ | refine bl_alloc ?_ _ | refine bl_then ?_ (by assumption) | refine Below.setCell ?_ (by first | omega | (simp; done) | (simp; omega)) _ | refine bl_store ?_ ?_ _ _))⟩

/-- What is called of three points, one of which has a fault. -/
theorem bad3 {ax ay bx by' cx cy : Int} (h : okP ax ay = false ∨ okP bx by' = false ∨ okP cx cy = false) :
    (∀ w, Calls Try.prog 10 #[.agg #[.int .i64 ax, .int .i64 ay], .agg #[.int .i64 bx, .int .i64 by'], .agg #[.int .i64 cx, .int .i64 cy]] w fun e w' => e = .returned (.agg #[.int .i64 3, .int .i64 0]) ∧ Below w.heap.size w w') ∧ (∀ w, Calls Try.prog 11 #[.agg #[.int .i64 ax, .int .i64 ay], .agg #[.int .i64 bx, .int .i64 by'], .agg #[.int .i64 cx, .int .i64 cy]] w fun e w' => e = .returned (.agg #[.int .i64 3, .int .i64 0]) ∧ Below w.heap.size w w') := by
  cases h0 : okP ax ay
  · exact ⟨fun w => impl_CrossOf_0 _ _ _ _ _ _ w h0, fun w => spec_CrossOf_0 _ _ _ _ _ _ w h0⟩
  cases h1 : okP bx by'
  · exact ⟨fun w => impl_CrossOf_1 _ _ _ _ _ _ w h1, fun w => spec_CrossOf_1 _ _ _ _ _ _ w h0 h1⟩
  cases h2 : okP cx cy
  · exact ⟨fun w => impl_CrossOf_2 _ _ _ _ _ _ w h2, fun w => spec_CrossOf_2 _ _ _ _ _ _ w h0 h1 h2⟩
  rw [h0, h1, h2] at h
  rcases h with h | h | h <;> cases h

set_option maxHeartbeats 20000000 in
set_option maxRecDepth 100000 in
theorem FnCrosses_walk (a : Option Addr) (n cap : Nat) (Z : Nat → Int) (w : World) (h : IsBytes w a n Z ∧ (∀ i, 0 ≤ Z i ∧ Z i ≤ 255) ∧ n ≤ cap) :
    Calls Try.prog 3 #[.slice a n cap] w fun e w' => e = .returned (.bool true) ∧ Below w.heap.size w w' := by
  obtain ⟨hI, hR, hcap⟩ := h
  by_cases hbig : 1048576 < n
  · exact FnCrosses_big a n cap w hbig
  have hn1 : n ≤ 1048576 := by omega
  have HI : Hid (IsBytes w a n Z) := hI
  have HR : Hid (∀ i, 0 ≤ Z i ∧ Z i ≤ 255) := hR
  have hn : decide (1048576 < (n : Int)) = false := by simp; omega
  clear hI hR hbig
  have hfl0 : ∀ (x y : Int) (w : World), (Instr.field 29 (.agg #[.int .i64 x, .int .i64 y]) 0).run Try.prog w = .ok (.int .i64 x) w := fun _ _ _ => by kernel_rfl
  have hfl1 : ∀ (x y : Int) (w : World), (Instr.field 29 (.agg #[.int .i64 x, .int .i64 y]) 1).run Try.prog w = .ok (.int .i64 y) w := fun _ _ _ => by kernel_rfl
  go_enter Try.func3, Try.ntmps3
  go_wp2_with fail
  refine (lwBig_any _ _ _ _).mono ?_
  rintro e w0 ⟨rfl, hw0⟩
  have hw0' := hw0.symm
  subst hw0'
  clear hw0
  go_wp2_with fail
  refine (DrawCrossOf_any a n cap Z _ HI.out HR.out hn1 hcap).mono ?_
  rintro e w1 ⟨ax, ay, bx, by', cx, cy, rfl, hb1⟩
  clear HI HR
  by_cases hbd : okP ax ay = false ∨ okP bx by' = false ∨ okP cx cy = false
  · obtain ⟨him, hsp⟩ := bad3 hbd
    clear hbd
    have Him := (show Hid _ from him)
    have Hsp := (show Hid _ from hsp)
    clear him hsp
    have HB1 : Hid (Below w.heap.size w w1) := hb1
    clear hb1
    go_wp2_with fail
    generalize hW : (((w1.alloc _).alloc _).alloc _ : World) = W
    have hB0 : Below w1.heap.size w1 W := by subst hW; (repeat (first | exact Below.refl _ _ | assumption | refine Below.drew ?_ | refine bl_alloc ?_ _ | refine bl_then ?_ (by assumption) | refine Below.setCell ?_ (by first | omega | (simp; done) | (simp; omega)) _ | refine bl_store ?_ ?_ _ _))
    have c00 : ∀ W', Below W.heap.size W W' → W'.cell? ⟨w1.heap.size, 0, none⟩ = some (.int .i64 ax) := fun W' h => by
      rw [h.cell (by subst hW; simp <;> omega)]; subst hW; simp [go_sem]
    have c01 : ∀ W', Below W.heap.size W W' → W'.cell? ⟨w1.heap.size, 1, none⟩ = some (.int .i64 ay) := fun W' h => by
      rw [h.cell (by subst hW; simp <;> omega)]; subst hW; simp [go_sem]
    have c10 : ∀ W', Below W.heap.size W W' → W'.cell? ⟨w1.heap.size + 1, 0, none⟩ = some (.int .i64 bx) := fun W' h => by
      rw [h.cell (by subst hW; simp <;> omega)]; subst hW; simp [go_sem]
    have c11 : ∀ W', Below W.heap.size W W' → W'.cell? ⟨w1.heap.size + 1, 1, none⟩ = some (.int .i64 by') := fun W' h => by
      rw [h.cell (by subst hW; simp <;> omega)]; subst hW; simp [go_sem]
    have c20 : ∀ W', Below W.heap.size W W' → W'.cell? ⟨w1.heap.size + 1 + 1, 0, none⟩ = some (.int .i64 cx) := fun W' h => by
      rw [h.cell (by subst hW; simp <;> omega)]; subst hW; simp [go_sem]
    have c21 : ∀ W', Below W.heap.size W W' → W'.cell? ⟨w1.heap.size + 1 + 1, 1, none⟩ = some (.int .i64 cy) := fun W' h => by
      rw [h.cell (by subst hW; simp <;> omega)]; subst hW; simp [go_sem]
    clear hW
    have HBW : Hid (Below w.heap.size w W) := bl_then HB1.out hB0
    clear hB0 HB1
    refine (Him.out _).mono ?_
    rintro e w2 ⟨rfl, hb2⟩
    go_wp2
    generalize hV : (w2.alloc _ : World) = V
    have hBV : Below W.heap.size W V := by subst hV; (repeat (first | exact Below.refl _ _ | assumption | refine Below.drew ?_ | refine bl_alloc ?_ _ | refine bl_then ?_ (by assumption) | refine Below.setCell ?_ (by first | omega | (simp; done) | (simp; omega)) _ | refine bl_store ?_ ?_ _ _))
    have r0 : ∀ W', Below V.heap.size V W' → W'.cell? ⟨w2.heap.size, 0, none⟩ = some (.int .i64 3) := fun W' h => by
      rw [h.cell (by subst hV; simp)]; subst hV; simp [go_sem]
    clear hV hb2
    replace c00 := fun W' (h : Below V.heap.size V W') => c00 W' (bl_then hBV h)
    replace c01 := fun W' (h : Below V.heap.size V W') => c01 W' (bl_then hBV h)
    replace c10 := fun W' (h : Below V.heap.size V W') => c10 W' (bl_then hBV h)
    replace c11 := fun W' (h : Below V.heap.size V W') => c11 W' (bl_then hBV h)
    replace c20 := fun W' (h : Below V.heap.size V W') => c20 W' (bl_then hBV h)
    replace c21 := fun W' (h : Below V.heap.size V W') => c21 W' (bl_then hBV h)
    have HBV : Hid (Below w.heap.size w V) := bl_then HBW.out hBV
    clear hBV
    go_region_held3 (fun W' => Below V.heap.size V W') ((repeat (first | exact Below.refl _ _ | assumption | refine Below.drew ?_ | refine bl_alloc ?_ _ | refine bl_then ?_ (by assumption) | refine Below.setCell ?_ (by first | omega | (simp; done) | (simp; omega)) _ | refine bl_store ?_ ?_ _ _)))
      (first | (go_at_call 11; refine (Hsp.out _).mono ?_; rintro e w' ⟨rfl, hb⟩))
    go_wp2
    go_ret
    exact ⟨rfl, bl_then HBV.out (by assumption)⟩
  · have h0 : okP ax ay = true := by cases h : okP ax ay; exact absurd (Or.inl h) hbd; rfl
    have h1 : okP bx by' = true := by cases h : okP bx by'; exact absurd (Or.inr (Or.inl h)) hbd; rfl
    have h2 : okP cx cy = true := by cases h : okP cx cy; exact absurd (Or.inr (Or.inr h)) hbd; rfl
    obtain ⟨hv1, hv2⟩ := cross_bd h0 h1 h2
    obtain ⟨hd, _⟩ := dist_bd h0 h1
    have hE := dist_zero ax ay bx by'
    have heq := fun (w : World) => equalIn_point 9998 ax ay bx by' w
    have him := fun (w : World) => impl_CrossOf_3 ax ay bx by' cx cy w h0 h1 h2
    have hdab := fun (w : World) => impl_DistanceOf_2 ax ay bx by' w h0 h1
    have e1 := cross_turn ax ay bx by' cx cy
    have e2 := cross_back ax ay bx by' cx cy
    have e3 := cross_flat ax ay bx by'
    have d1 := dist_comm bx by' ax ay
    have k1 := codeP_ok h0
    have H0 : Hid (okP ax ay = true) := h0
    have H1 : Hid (okP bx by' = true) := h1
    have H2 : Hid (okP cx cy = true) := h2
    generalize e0 : crossI ax ay bx by' cx cy = v at *
    generalize d0 : distI ax ay bx by' = d at *
    generalize ((ax == bx) && (ay == by')) = E at *
    clear h0 h1 h2 hbd
    have Him := (show Hid _ from him)
    have Hdab := (show Hid _ from hdab)
    clear him hdab
    have hneg : IntKind.i64.wrap (-v) = -v := IntWalk.i64_in _ (by omega)
    have HB1 : Hid (Below w.heap.size w w1) := hb1
    clear hb1
    go_wp2_with fail
    generalize hW : (((w1.alloc _).alloc _).alloc _ : World) = W
    have hB0 : Below w1.heap.size w1 W := by subst hW; (repeat (first | exact Below.refl _ _ | assumption | refine Below.drew ?_ | refine bl_alloc ?_ _ | refine bl_then ?_ (by assumption) | refine Below.setCell ?_ (by first | omega | (simp; done) | (simp; omega)) _ | refine bl_store ?_ ?_ _ _))
    have c00 : ∀ W', Below W.heap.size W W' → W'.cell? ⟨w1.heap.size, 0, none⟩ = some (.int .i64 ax) := fun W' h => by
      rw [h.cell (by subst hW; simp <;> omega)]; subst hW; simp [go_sem]
    have c01 : ∀ W', Below W.heap.size W W' → W'.cell? ⟨w1.heap.size, 1, none⟩ = some (.int .i64 ay) := fun W' h => by
      rw [h.cell (by subst hW; simp <;> omega)]; subst hW; simp [go_sem]
    have c10 : ∀ W', Below W.heap.size W W' → W'.cell? ⟨w1.heap.size + 1, 0, none⟩ = some (.int .i64 bx) := fun W' h => by
      rw [h.cell (by subst hW; simp <;> omega)]; subst hW; simp [go_sem]
    have c11 : ∀ W', Below W.heap.size W W' → W'.cell? ⟨w1.heap.size + 1, 1, none⟩ = some (.int .i64 by') := fun W' h => by
      rw [h.cell (by subst hW; simp <;> omega)]; subst hW; simp [go_sem]
    have c20 : ∀ W', Below W.heap.size W W' → W'.cell? ⟨w1.heap.size + 1 + 1, 0, none⟩ = some (.int .i64 cx) := fun W' h => by
      rw [h.cell (by subst hW; simp <;> omega)]; subst hW; simp [go_sem]
    have c21 : ∀ W', Below W.heap.size W W' → W'.cell? ⟨w1.heap.size + 1 + 1, 1, none⟩ = some (.int .i64 cy) := fun W' h => by
      rw [h.cell (by subst hW; simp <;> omega)]; subst hW; simp [go_sem]
    clear hW
    have HBW : Hid (Below w.heap.size w W) := bl_then HB1.out hB0
    clear hB0 HB1
    refine (Him.out _).mono ?_
    rintro e w2 ⟨rfl, hb2⟩
    have p00 := c00 w2 hb2
    have p01 := c01 w2 hb2
    have p10 := c10 w2 hb2
    have p11 := c11 w2 hb2
    have p20 := c20 w2 hb2
    have p21 := c21 w2 hb2
    have ml := World.block_lt_of_cell? _ _ p20
    have ml0 : w1.heap.size < w2.heap.size := by have : w1.heap.size + 1 + 1 < w2.heap.size := ml; omega
    have ml1 : w1.heap.size + 1 < w2.heap.size := by have : w1.heap.size + 1 + 1 < w2.heap.size := ml; omega
    have ml2 : w1.heap.size + 1 + 1 < w2.heap.size := ml
    clear ml
    go_wp2_with fail
    generalize hV2 : (w2.alloc _ : World) = V2
    have hBV2 : Below W.heap.size W V2 := by subst hV2; (repeat (first | exact Below.refl _ _ | assumption | refine Below.drew ?_ | refine bl_alloc ?_ _ | refine bl_then ?_ (by assumption) | refine Below.setCell ?_ (by first | omega | (simp; done) | (simp; omega)) _ | refine bl_store ?_ ?_ _ _))
    have r0 : ∀ W', Below V2.heap.size V2 W' → W'.cell? ⟨w2.heap.size, 0, none⟩ = some (.int .i64 0) := fun W' h => by
      rw [h.cell (by subst hV2; simp)]; subst hV2; simp [go_sem]
    have r1 : ∀ W', Below V2.heap.size V2 W' → W'.cell? ⟨w2.heap.size, 1, none⟩ = some (.int .i64 v) := fun W' h => by
      rw [h.cell (by subst hV2; simp)]; subst hV2; simp [go_sem]
    clear hV2 hb2 p00 p01 p10 p11 p20 p21 ml0 ml1 ml2
    have hr2 : Below V2.heap.size V2 V2 := Below.refl _ _
    replace c00 := fun W' (h : Below V2.heap.size V2 W') => c00 W' (bl_then hBV2 h)
    replace c01 := fun W' (h : Below V2.heap.size V2 W') => c01 W' (bl_then hBV2 h)
    replace c10 := fun W' (h : Below V2.heap.size V2 W') => c10 W' (bl_then hBV2 h)
    replace c11 := fun W' (h : Below V2.heap.size V2 W') => c11 W' (bl_then hBV2 h)
    replace c20 := fun W' (h : Below V2.heap.size V2 W') => c20 W' (bl_then hBV2 h)
    replace c21 := fun W' (h : Below V2.heap.size V2 W') => c21 W' (bl_then hBV2 h)
    have HBV2 : Hid (Below w.heap.size w V2) := bl_then HBW.out hBV2
    clear hBV2
    refine (Hdab.out _).mono ?_
    rintro e w3 ⟨rfl, hb3⟩
    have hBV2w : Below V2.heap.size V2 w3 := hb3
    have q00 := c00 w3 hb3
    have q01 := c01 w3 hb3
    have q10 := c10 w3 hb3
    have q11 := c11 w3 hb3
    have q20 := c20 w3 hb3
    have q21 := c21 w3 hb3
    have hl := World.block_lt_of_cell? _ _ q20
    have hl0 : w1.heap.size < w3.heap.size := by have : w1.heap.size + 1 + 1 < w3.heap.size := hl; omega
    have hl1 : w1.heap.size + 1 < w3.heap.size := by have : w1.heap.size + 1 + 1 < w3.heap.size := hl; omega
    have hl2 : w1.heap.size + 1 + 1 < w3.heap.size := hl
    clear hl
    go_wp2_with fail
    generalize hV : (w3.alloc _ : World) = V
    have hBV : Below V2.heap.size V2 V := by subst hV; (repeat (first | exact Below.refl _ _ | assumption | refine Below.drew ?_ | refine bl_alloc ?_ _ | refine bl_then ?_ (by assumption) | refine Below.setCell ?_ (by first | omega | (simp; done) | (simp; omega)) _ | refine bl_store ?_ ?_ _ _))
    have s0 : ∀ W', Below V.heap.size V W' → W'.cell? ⟨w3.heap.size, 0, none⟩ = some (.int .i64 0) := fun W' h => by
      rw [h.cell (by subst hV; simp)]; subst hV; simp [go_sem]
    have s1 : ∀ W', Below V.heap.size V W' → W'.cell? ⟨w3.heap.size, 1, none⟩ = some (.int .i64 d) := fun W' h => by
      rw [h.cell (by subst hV; simp)]; subst hV; simp [go_sem]
    clear hV hb3 hBV2w q00 q01 q10 q11 q20 q21 hr2
    replace c00 := fun W' (h : Below V.heap.size V W') => c00 W' (bl_then hBV h)
    replace c01 := fun W' (h : Below V.heap.size V W') => c01 W' (bl_then hBV h)
    replace c10 := fun W' (h : Below V.heap.size V W') => c10 W' (bl_then hBV h)
    replace c11 := fun W' (h : Below V.heap.size V W') => c11 W' (bl_then hBV h)
    replace c20 := fun W' (h : Below V.heap.size V W') => c20 W' (bl_then hBV h)
    replace c21 := fun W' (h : Below V.heap.size V W') => c21 W' (bl_then hBV h)
    replace r0 := fun W' (h : Below V.heap.size V W') => r0 W' (bl_then hBV h)
    replace r1 := fun W' (h : Below V.heap.size V W') => r1 W' (bl_then hBV h)
    have HBV : Hid (Below w.heap.size w V) := bl_then HBV2.out hBV
    clear hBV
    have hr3 : Below V.heap.size V V := Below.refl _ _
    clear hr3
    simp only [List.append_eq, List.cons_append, List.nil_append]
    go_region_held3 (fun W' => Below V.heap.size V W') ((repeat (first | exact Below.refl _ _ | assumption | refine Below.drew ?_ | refine bl_alloc ?_ _ | refine bl_then ?_ (by assumption) | refine Below.setCell ?_ (by first | omega | (simp; done) | (simp; omega)) _ | refine bl_store ?_ ?_ _ _)))
      (first
        | (go_at_call 10; refine (impl_CrossOf_3 _ _ _ _ _ _ _ (by first | exact H0.out | exact H1.out | exact H2.out) (by first | exact H0.out | exact H1.out | exact H2.out) (by first | exact H0.out | exact H1.out | exact H2.out)).mono ?_; rintro e w' ⟨rfl, hb⟩)
        | (go_at_call 11; refine (spec_CrossOf_3 _ _ _ _ _ _ _ (by first | exact H0.out | exact H1.out | exact H2.out) (by first | exact H0.out | exact H1.out | exact H2.out) (by first | exact H0.out | exact H1.out | exact H2.out)).mono ?_; rintro e w' ⟨rfl, hb⟩)
        | (go_at_call 12; refine (impl_DistanceOf_2 _ _ _ _ _ (by first | exact H0.out | exact H1.out | exact H2.out) (by first | exact H0.out | exact H1.out | exact H2.out)).mono ?_; rintro e w' ⟨rfl, hb⟩)
        | (go_at_call 14; refine (spec_DistanceOf_2 _ _ _ _ _ (by first | exact H0.out | exact H1.out | exact H2.out) (by first | exact H0.out | exact H1.out | exact H2.out)).mono ?_; rintro e w' ⟨rfl, hb⟩)
        | (go_at_call 13; refine (PointFault_any _ _ _).mono ?_; rintro e w' ⟨rfl, hb⟩))
    go_wp2
    go_ret
    exact ⟨rfl, bl_then HBV.out (by assumption)⟩
end Go.Proofs.Ytlkjdbigpjpgeaa
