/- FnNears: the law out of what is called. -/
import Derived.Test.YtlkjdbigpjpgeaaDraw5
import Derived.Test.YtlkjdbigpjpgeaaNearMath
import Derived.Test.YtlkjdbigpjpgeaaNearImpl
import Derived.Test.YtlkjdbigpjpgeaaCrossImpl
import Derived.Test.YtlkjdbigpjpgeaaLwBig
namespace Go.Proofs.Ytlkjdbigpjpgeaa
open Go.RowKit
set_option linter.unusedSimpArgs false
set_option linter.unusedVariables false

set_option maxHeartbeats 1000000 in
theorem FnNears_big (a : Option Addr) (n cap : Nat) (w : World) (h : 1048576 < n) : Calls Try.prog 4 #[.slice a n cap] w fun e w' => e = .returned (.bool true) ∧ Below w.heap.size w w' := by
  have hb : decide (1048576 < (n : Int)) = true := by simp; omega
  go_enter Try.func4, Try.ntmps4
  go_wp2_with (go_at_call 8; refine (lwBig_any _ _ _ _).mono ?_; rintro e w' ⟨rfl, rfl⟩)
  go_ret
  exact ⟨rfl, by (repeat (first | exact Below.refl _ _ | assumption | refine Below.drew ?_ | refine bl_alloc ?_ _ | refine bl_then ?_ (by assumption) | refine Below.setCell ?_ (by first | omega | (simp; done) | (simp; omega)) _ | refine bl_store ?_ ?_ _ _))⟩

set_option maxHeartbeats 8000000 in
theorem FnNears_walk (a : Option Addr) (n cap : Nat) (Z : Nat → Int) (w : World) (h : IsBytes w a n Z ∧ (∀ i, 0 ≤ Z i ∧ Z i ≤ 255) ∧ n ≤ cap) :
    Calls Try.prog 4 #[.slice a n cap] w fun e w' => e = .returned (.bool true) ∧ Below w.heap.size w w' := by
  obtain ⟨hI, hR, hcap⟩ := h
  by_cases hbig : 1048576 < n
  · exact FnNears_big a n cap w hbig
  have hn1 : n ≤ 1048576 := by omega
  have HI : Hid (IsBytes w a n Z) := hI
  have HR : Hid (∀ i, 0 ≤ Z i ∧ Z i ≤ 255) := hR
  have hn : decide (1048576 < (n : Int)) = false := by simp; omega
  clear hI hR hbig
  go_enter Try.func4, Try.ntmps4
  go_wp2_with fail
  refine (lwBig_any _ _ _ _).mono ?_
  rintro e w0 ⟨rfl, hw0⟩
  have hw0' := hw0.symm
  subst hw0'
  clear hw0
  go_wp2_with fail
  refine (DrawIsNear_any a n cap Z _ HI.out HR.out hn1 hcap).mono ?_
  rintro e w1 ⟨px, py, ax, ay, bx, by', r, rfl, hb1⟩
  clear HI HR
  have hsw := isNear_swap px py ax ay bx by' r
  cases h0 : okP px py
  · have k0 := codeP_no h0
    have hN : isNearB px py ax ay bx by' r = false := by simp [isNearB, h0]
    rw [hN] at hsw
    clear h0
    have HB1 : Hid (Below w.heap.size w w1) := hb1
    clear hb1
    go_wp2_with fail
    generalize hW : (((w1.alloc _).alloc _).alloc _ : World) = W
    have hB0 : Below w1.heap.size w1 W := by subst hW; (repeat (first | exact Below.refl _ _ | assumption | refine Below.drew ?_ | refine bl_alloc ?_ _ | refine bl_then ?_ (by assumption) | refine Below.setCell ?_ (by first | omega | (simp; done) | (simp; omega)) _ | refine bl_store ?_ ?_ _ _))
    have c00 : ∀ W', Below W.heap.size W W' → W'.cell? ⟨w1.heap.size, 0, none⟩ = some (.int .i64 px) := fun W' h => by
      rw [h.cell (by subst hW; simp <;> omega)]; subst hW; simp [go_sem]
    have c01 : ∀ W', Below W.heap.size W W' → W'.cell? ⟨w1.heap.size, 1, none⟩ = some (.int .i64 py) := fun W' h => by
      rw [h.cell (by subst hW; simp <;> omega)]; subst hW; simp [go_sem]
    have c10 : ∀ W', Below W.heap.size W W' → W'.cell? ⟨w1.heap.size + 1, 0, none⟩ = some (.int .i64 ax) := fun W' h => by
      rw [h.cell (by subst hW; simp <;> omega)]; subst hW; simp [go_sem]
    have c11 : ∀ W', Below W.heap.size W W' → W'.cell? ⟨w1.heap.size + 1, 1, none⟩ = some (.int .i64 ay) := fun W' h => by
      rw [h.cell (by subst hW; simp <;> omega)]; subst hW; simp [go_sem]
    have c20 : ∀ W', Below W.heap.size W W' → W'.cell? ⟨w1.heap.size + 1 + 1, 0, none⟩ = some (.int .i64 bx) := fun W' h => by
      rw [h.cell (by subst hW; simp <;> omega)]; subst hW; simp [go_sem]
    have c21 : ∀ W', Below W.heap.size W W' → W'.cell? ⟨w1.heap.size + 1 + 1, 1, none⟩ = some (.int .i64 by') := fun W' h => by
      rw [h.cell (by subst hW; simp <;> omega)]; subst hW; simp [go_sem]
    clear hW
    have HBW : Hid (Below w.heap.size w W) := bl_then HB1.out hB0
    clear hB0 HB1
    have hr : Below W.heap.size W W := Below.refl _ _
    go_wp2_with (first
      | (go_at_call 16; refine (impl_IsNear_any _ _ _ _ _ _ _ _).mono ?_; rintro e w' ⟨rfl, hb⟩; have hbn : Below W.heap.size W w' := (by (repeat (first | exact Below.refl _ _ | assumption | refine Below.drew ?_ | refine bl_alloc ?_ _ | refine bl_then ?_ (by assumption) | refine Below.setCell ?_ (by first | omega | (simp; done) | (simp; omega)) _ | refine bl_store ?_ ?_ _ _))))
      | (go_at_call 17; refine (spec_IsNear_any _ _ _ _ _ _ _ _).mono ?_; rintro e w' ⟨rfl, hb⟩; have hbn : Below W.heap.size W w' := (by (repeat (first | exact Below.refl _ _ | assumption | refine Below.drew ?_ | refine bl_alloc ?_ _ | refine bl_then ?_ (by assumption) | refine Below.setCell ?_ (by first | omega | (simp; done) | (simp; omega)) _ | refine bl_store ?_ ?_ _ _))))
      | (go_at_call 13; refine (PointFault_any _ _ _).mono ?_; rintro e w' ⟨rfl, hb⟩; have hbn : Below W.heap.size W w' := (by (repeat (first | exact Below.refl _ _ | assumption | refine Below.drew ?_ | refine bl_alloc ?_ _ | refine bl_then ?_ (by assumption) | refine Below.setCell ?_ (by first | omega | (simp; done) | (simp; omega)) _ | refine bl_store ?_ ?_ _ _)))))
    go_ret
    exact ⟨ret_bool (by simp), bl_then HBW.out (by assumption)⟩
  have k0 := codeP_ok h0
  cases h1 : okP ax ay
  · have k1 := codeP_no h1
    have hN : isNearB px py ax ay bx by' r = false := by simp [isNearB, h1]
    rw [hN] at hsw
    clear h0 h1
    have HB1 : Hid (Below w.heap.size w w1) := hb1
    clear hb1
    go_wp2_with fail
    generalize hW : (((w1.alloc _).alloc _).alloc _ : World) = W
    have hB0 : Below w1.heap.size w1 W := by subst hW; (repeat (first | exact Below.refl _ _ | assumption | refine Below.drew ?_ | refine bl_alloc ?_ _ | refine bl_then ?_ (by assumption) | refine Below.setCell ?_ (by first | omega | (simp; done) | (simp; omega)) _ | refine bl_store ?_ ?_ _ _))
    have c00 : ∀ W', Below W.heap.size W W' → W'.cell? ⟨w1.heap.size, 0, none⟩ = some (.int .i64 px) := fun W' h => by
      rw [h.cell (by subst hW; simp <;> omega)]; subst hW; simp [go_sem]
    have c01 : ∀ W', Below W.heap.size W W' → W'.cell? ⟨w1.heap.size, 1, none⟩ = some (.int .i64 py) := fun W' h => by
      rw [h.cell (by subst hW; simp <;> omega)]; subst hW; simp [go_sem]
    have c10 : ∀ W', Below W.heap.size W W' → W'.cell? ⟨w1.heap.size + 1, 0, none⟩ = some (.int .i64 ax) := fun W' h => by
      rw [h.cell (by subst hW; simp <;> omega)]; subst hW; simp [go_sem]
    have c11 : ∀ W', Below W.heap.size W W' → W'.cell? ⟨w1.heap.size + 1, 1, none⟩ = some (.int .i64 ay) := fun W' h => by
      rw [h.cell (by subst hW; simp <;> omega)]; subst hW; simp [go_sem]
    have c20 : ∀ W', Below W.heap.size W W' → W'.cell? ⟨w1.heap.size + 1 + 1, 0, none⟩ = some (.int .i64 bx) := fun W' h => by
      rw [h.cell (by subst hW; simp <;> omega)]; subst hW; simp [go_sem]
    have c21 : ∀ W', Below W.heap.size W W' → W'.cell? ⟨w1.heap.size + 1 + 1, 1, none⟩ = some (.int .i64 by') := fun W' h => by
      rw [h.cell (by subst hW; simp <;> omega)]; subst hW; simp [go_sem]
    clear hW
    have HBW : Hid (Below w.heap.size w W) := bl_then HB1.out hB0
    clear hB0 HB1
    have hr : Below W.heap.size W W := Below.refl _ _
    go_wp2_with (first
      | (go_at_call 16; refine (impl_IsNear_any _ _ _ _ _ _ _ _).mono ?_; rintro e w' ⟨rfl, hb⟩; have hbn : Below W.heap.size W w' := (by (repeat (first | exact Below.refl _ _ | assumption | refine Below.drew ?_ | refine bl_alloc ?_ _ | refine bl_then ?_ (by assumption) | refine Below.setCell ?_ (by first | omega | (simp; done) | (simp; omega)) _ | refine bl_store ?_ ?_ _ _))))
      | (go_at_call 17; refine (spec_IsNear_any _ _ _ _ _ _ _ _).mono ?_; rintro e w' ⟨rfl, hb⟩; have hbn : Below W.heap.size W w' := (by (repeat (first | exact Below.refl _ _ | assumption | refine Below.drew ?_ | refine bl_alloc ?_ _ | refine bl_then ?_ (by assumption) | refine Below.setCell ?_ (by first | omega | (simp; done) | (simp; omega)) _ | refine bl_store ?_ ?_ _ _))))
      | (go_at_call 13; refine (PointFault_any _ _ _).mono ?_; rintro e w' ⟨rfl, hb⟩; have hbn : Below W.heap.size W w' := (by (repeat (first | exact Below.refl _ _ | assumption | refine Below.drew ?_ | refine bl_alloc ?_ _ | refine bl_then ?_ (by assumption) | refine Below.setCell ?_ (by first | omega | (simp; done) | (simp; omega)) _ | refine bl_store ?_ ?_ _ _)))))
    go_ret
    exact ⟨ret_bool (by simp), bl_then HBW.out (by assumption)⟩
  have k1 := codeP_ok h1
  cases h2 : okP bx by'
  · have k2 := codeP_no h2
    have hN : isNearB px py ax ay bx by' r = false := by simp [isNearB, h2]
    rw [hN] at hsw
    clear h0 h1 h2
    have HB1 : Hid (Below w.heap.size w w1) := hb1
    clear hb1
    go_wp2_with fail
    generalize hW : (((w1.alloc _).alloc _).alloc _ : World) = W
    have hB0 : Below w1.heap.size w1 W := by subst hW; (repeat (first | exact Below.refl _ _ | assumption | refine Below.drew ?_ | refine bl_alloc ?_ _ | refine bl_then ?_ (by assumption) | refine Below.setCell ?_ (by first | omega | (simp; done) | (simp; omega)) _ | refine bl_store ?_ ?_ _ _))
    have c00 : ∀ W', Below W.heap.size W W' → W'.cell? ⟨w1.heap.size, 0, none⟩ = some (.int .i64 px) := fun W' h => by
      rw [h.cell (by subst hW; simp <;> omega)]; subst hW; simp [go_sem]
    have c01 : ∀ W', Below W.heap.size W W' → W'.cell? ⟨w1.heap.size, 1, none⟩ = some (.int .i64 py) := fun W' h => by
      rw [h.cell (by subst hW; simp <;> omega)]; subst hW; simp [go_sem]
    have c10 : ∀ W', Below W.heap.size W W' → W'.cell? ⟨w1.heap.size + 1, 0, none⟩ = some (.int .i64 ax) := fun W' h => by
      rw [h.cell (by subst hW; simp <;> omega)]; subst hW; simp [go_sem]
    have c11 : ∀ W', Below W.heap.size W W' → W'.cell? ⟨w1.heap.size + 1, 1, none⟩ = some (.int .i64 ay) := fun W' h => by
      rw [h.cell (by subst hW; simp <;> omega)]; subst hW; simp [go_sem]
    have c20 : ∀ W', Below W.heap.size W W' → W'.cell? ⟨w1.heap.size + 1 + 1, 0, none⟩ = some (.int .i64 bx) := fun W' h => by
      rw [h.cell (by subst hW; simp <;> omega)]; subst hW; simp [go_sem]
    have c21 : ∀ W', Below W.heap.size W W' → W'.cell? ⟨w1.heap.size + 1 + 1, 1, none⟩ = some (.int .i64 by') := fun W' h => by
      rw [h.cell (by subst hW; simp <;> omega)]; subst hW; simp [go_sem]
    clear hW
    have HBW : Hid (Below w.heap.size w W) := bl_then HB1.out hB0
    clear hB0 HB1
    have hr : Below W.heap.size W W := Below.refl _ _
    go_wp2_with (first
      | (go_at_call 16; refine (impl_IsNear_any _ _ _ _ _ _ _ _).mono ?_; rintro e w' ⟨rfl, hb⟩; have hbn : Below W.heap.size W w' := (by (repeat (first | exact Below.refl _ _ | assumption | refine Below.drew ?_ | refine bl_alloc ?_ _ | refine bl_then ?_ (by assumption) | refine Below.setCell ?_ (by first | omega | (simp; done) | (simp; omega)) _ | refine bl_store ?_ ?_ _ _))))
      | (go_at_call 17; refine (spec_IsNear_any _ _ _ _ _ _ _ _).mono ?_; rintro e w' ⟨rfl, hb⟩; have hbn : Below W.heap.size W w' := (by (repeat (first | exact Below.refl _ _ | assumption | refine Below.drew ?_ | refine bl_alloc ?_ _ | refine bl_then ?_ (by assumption) | refine Below.setCell ?_ (by first | omega | (simp; done) | (simp; omega)) _ | refine bl_store ?_ ?_ _ _))))
      | (go_at_call 13; refine (PointFault_any _ _ _).mono ?_; rintro e w' ⟨rfl, hb⟩; have hbn : Below W.heap.size W w' := (by (repeat (first | exact Below.refl _ _ | assumption | refine Below.drew ?_ | refine bl_alloc ?_ _ | refine bl_then ?_ (by assumption) | refine Below.setCell ?_ (by first | omega | (simp; done) | (simp; omega)) _ | refine bl_store ?_ ?_ _ _)))))
    go_ret
    exact ⟨ret_bool (by simp), bl_then HBW.out (by assumption)⟩
  have k2 := codeP_ok h2
  by_cases c0 : r < 0
  · have hN : isNearB px py ax ay bx by' r = false := isNearB_no (.inl c0)
    rw [hN] at hsw
    clear h0 h1 h2
    have HB1 : Hid (Below w.heap.size w w1) := hb1
    clear hb1
    go_wp2_with fail
    generalize hW : (((w1.alloc _).alloc _).alloc _ : World) = W
    have hB0 : Below w1.heap.size w1 W := by subst hW; (repeat (first | exact Below.refl _ _ | assumption | refine Below.drew ?_ | refine bl_alloc ?_ _ | refine bl_then ?_ (by assumption) | refine Below.setCell ?_ (by first | omega | (simp; done) | (simp; omega)) _ | refine bl_store ?_ ?_ _ _))
    have c00 : ∀ W', Below W.heap.size W W' → W'.cell? ⟨w1.heap.size, 0, none⟩ = some (.int .i64 px) := fun W' h => by
      rw [h.cell (by subst hW; simp <;> omega)]; subst hW; simp [go_sem]
    have c01 : ∀ W', Below W.heap.size W W' → W'.cell? ⟨w1.heap.size, 1, none⟩ = some (.int .i64 py) := fun W' h => by
      rw [h.cell (by subst hW; simp <;> omega)]; subst hW; simp [go_sem]
    have c10 : ∀ W', Below W.heap.size W W' → W'.cell? ⟨w1.heap.size + 1, 0, none⟩ = some (.int .i64 ax) := fun W' h => by
      rw [h.cell (by subst hW; simp <;> omega)]; subst hW; simp [go_sem]
    have c11 : ∀ W', Below W.heap.size W W' → W'.cell? ⟨w1.heap.size + 1, 1, none⟩ = some (.int .i64 ay) := fun W' h => by
      rw [h.cell (by subst hW; simp <;> omega)]; subst hW; simp [go_sem]
    have c20 : ∀ W', Below W.heap.size W W' → W'.cell? ⟨w1.heap.size + 1 + 1, 0, none⟩ = some (.int .i64 bx) := fun W' h => by
      rw [h.cell (by subst hW; simp <;> omega)]; subst hW; simp [go_sem]
    have c21 : ∀ W', Below W.heap.size W W' → W'.cell? ⟨w1.heap.size + 1 + 1, 1, none⟩ = some (.int .i64 by') := fun W' h => by
      rw [h.cell (by subst hW; simp <;> omega)]; subst hW; simp [go_sem]
    clear hW
    have HBW : Hid (Below w.heap.size w W) := bl_then HB1.out hB0
    clear hB0 HB1
    have hr : Below W.heap.size W W := Below.refl _ _
    go_wp2_with (first
      | (go_at_call 16; refine (impl_IsNear_any _ _ _ _ _ _ _ _).mono ?_; rintro e w' ⟨rfl, hb⟩; have hbn : Below W.heap.size W w' := (by (repeat (first | exact Below.refl _ _ | assumption | refine Below.drew ?_ | refine bl_alloc ?_ _ | refine bl_then ?_ (by assumption) | refine Below.setCell ?_ (by first | omega | (simp; done) | (simp; omega)) _ | refine bl_store ?_ ?_ _ _))))
      | (go_at_call 17; refine (spec_IsNear_any _ _ _ _ _ _ _ _).mono ?_; rintro e w' ⟨rfl, hb⟩; have hbn : Below W.heap.size W w' := (by (repeat (first | exact Below.refl _ _ | assumption | refine Below.drew ?_ | refine bl_alloc ?_ _ | refine bl_then ?_ (by assumption) | refine Below.setCell ?_ (by first | omega | (simp; done) | (simp; omega)) _ | refine bl_store ?_ ?_ _ _))))
      | (go_at_call 13; refine (PointFault_any _ _ _).mono ?_; rintro e w' ⟨rfl, hb⟩; have hbn : Below W.heap.size W w' := (by (repeat (first | exact Below.refl _ _ | assumption | refine Below.drew ?_ | refine bl_alloc ?_ _ | refine bl_then ?_ (by assumption) | refine Below.setCell ?_ (by first | omega | (simp; done) | (simp; omega)) _ | refine bl_store ?_ ?_ _ _)))))
    go_ret
    exact ⟨ret_bool (by simp), bl_then HBW.out (by assumption)⟩
  have c0' : decide (r < 0) = false := by simpa using c0
  by_cases c1 : 4096 < r
  · have hN : isNearB px py ax ay bx by' r = false := isNearB_no (.inr c1)
    have c2 : 4095 < r := by omega
    rw [hN] at hsw
    clear h0 h1 h2
    have HB1 : Hid (Below w.heap.size w w1) := hb1
    clear hb1
    go_wp2_with fail
    generalize hW : (((w1.alloc _).alloc _).alloc _ : World) = W
    have hB0 : Below w1.heap.size w1 W := by subst hW; (repeat (first | exact Below.refl _ _ | assumption | refine Below.drew ?_ | refine bl_alloc ?_ _ | refine bl_then ?_ (by assumption) | refine Below.setCell ?_ (by first | omega | (simp; done) | (simp; omega)) _ | refine bl_store ?_ ?_ _ _))
    have c00 : ∀ W', Below W.heap.size W W' → W'.cell? ⟨w1.heap.size, 0, none⟩ = some (.int .i64 px) := fun W' h => by
      rw [h.cell (by subst hW; simp <;> omega)]; subst hW; simp [go_sem]
    have c01 : ∀ W', Below W.heap.size W W' → W'.cell? ⟨w1.heap.size, 1, none⟩ = some (.int .i64 py) := fun W' h => by
      rw [h.cell (by subst hW; simp <;> omega)]; subst hW; simp [go_sem]
    have c10 : ∀ W', Below W.heap.size W W' → W'.cell? ⟨w1.heap.size + 1, 0, none⟩ = some (.int .i64 ax) := fun W' h => by
      rw [h.cell (by subst hW; simp <;> omega)]; subst hW; simp [go_sem]
    have c11 : ∀ W', Below W.heap.size W W' → W'.cell? ⟨w1.heap.size + 1, 1, none⟩ = some (.int .i64 ay) := fun W' h => by
      rw [h.cell (by subst hW; simp <;> omega)]; subst hW; simp [go_sem]
    have c20 : ∀ W', Below W.heap.size W W' → W'.cell? ⟨w1.heap.size + 1 + 1, 0, none⟩ = some (.int .i64 bx) := fun W' h => by
      rw [h.cell (by subst hW; simp <;> omega)]; subst hW; simp [go_sem]
    have c21 : ∀ W', Below W.heap.size W W' → W'.cell? ⟨w1.heap.size + 1 + 1, 1, none⟩ = some (.int .i64 by') := fun W' h => by
      rw [h.cell (by subst hW; simp <;> omega)]; subst hW; simp [go_sem]
    clear hW
    have HBW : Hid (Below w.heap.size w W) := bl_then HB1.out hB0
    clear hB0 HB1
    have hr : Below W.heap.size W W := Below.refl _ _
    go_wp2_with (first
      | (go_at_call 16; refine (impl_IsNear_any _ _ _ _ _ _ _ _).mono ?_; rintro e w' ⟨rfl, hb⟩; have hbn : Below W.heap.size W w' := (by (repeat (first | exact Below.refl _ _ | assumption | refine Below.drew ?_ | refine bl_alloc ?_ _ | refine bl_then ?_ (by assumption) | refine Below.setCell ?_ (by first | omega | (simp; done) | (simp; omega)) _ | refine bl_store ?_ ?_ _ _))))
      | (go_at_call 17; refine (spec_IsNear_any _ _ _ _ _ _ _ _).mono ?_; rintro e w' ⟨rfl, hb⟩; have hbn : Below W.heap.size W w' := (by (repeat (first | exact Below.refl _ _ | assumption | refine Below.drew ?_ | refine bl_alloc ?_ _ | refine bl_then ?_ (by assumption) | refine Below.setCell ?_ (by first | omega | (simp; done) | (simp; omega)) _ | refine bl_store ?_ ?_ _ _))))
      | (go_at_call 13; refine (PointFault_any _ _ _).mono ?_; rintro e w' ⟨rfl, hb⟩; have hbn : Below W.heap.size W w' := (by (repeat (first | exact Below.refl _ _ | assumption | refine Below.drew ?_ | refine bl_alloc ?_ _ | refine bl_then ?_ (by assumption) | refine Below.setCell ?_ (by first | omega | (simp; done) | (simp; omega)) _ | refine bl_store ?_ ?_ _ _)))))
    go_ret
    exact ⟨ret_bool (by simp), bl_then HBW.out (by assumption)⟩
  by_cases c2 : 4095 < r
  · have c3 : r = 4096 := by omega
    subst c3
    clear h0 h1 h2 c0 c0' c1 c2
    cases hN : isNearB px py ax ay bx by' 4096
    all_goals
      rw [hN] at hsw
      have HB1 : Hid (Below w.heap.size w w1) := hb1
      clear hb1
      go_wp2_with fail
      generalize hW : (((w1.alloc _).alloc _).alloc _ : World) = W
      have hB0 : Below w1.heap.size w1 W := by subst hW; (repeat (first | exact Below.refl _ _ | assumption | refine Below.drew ?_ | refine bl_alloc ?_ _ | refine bl_then ?_ (by assumption) | refine Below.setCell ?_ (by first | omega | (simp; done) | (simp; omega)) _ | refine bl_store ?_ ?_ _ _))
      have c00 : ∀ W', Below W.heap.size W W' → W'.cell? ⟨w1.heap.size, 0, none⟩ = some (.int .i64 px) := fun W' h => by
        rw [h.cell (by subst hW; simp <;> omega)]; subst hW; simp [go_sem]
      have c01 : ∀ W', Below W.heap.size W W' → W'.cell? ⟨w1.heap.size, 1, none⟩ = some (.int .i64 py) := fun W' h => by
        rw [h.cell (by subst hW; simp <;> omega)]; subst hW; simp [go_sem]
      have c10 : ∀ W', Below W.heap.size W W' → W'.cell? ⟨w1.heap.size + 1, 0, none⟩ = some (.int .i64 ax) := fun W' h => by
        rw [h.cell (by subst hW; simp <;> omega)]; subst hW; simp [go_sem]
      have c11 : ∀ W', Below W.heap.size W W' → W'.cell? ⟨w1.heap.size + 1, 1, none⟩ = some (.int .i64 ay) := fun W' h => by
        rw [h.cell (by subst hW; simp <;> omega)]; subst hW; simp [go_sem]
      have c20 : ∀ W', Below W.heap.size W W' → W'.cell? ⟨w1.heap.size + 1 + 1, 0, none⟩ = some (.int .i64 bx) := fun W' h => by
        rw [h.cell (by subst hW; simp <;> omega)]; subst hW; simp [go_sem]
      have c21 : ∀ W', Below W.heap.size W W' → W'.cell? ⟨w1.heap.size + 1 + 1, 1, none⟩ = some (.int .i64 by') := fun W' h => by
        rw [h.cell (by subst hW; simp <;> omega)]; subst hW; simp [go_sem]
      clear hW
      have HBW : Hid (Below w.heap.size w W) := bl_then HB1.out hB0
      clear hB0 HB1
      have hr : Below W.heap.size W W := Below.refl _ _
      go_wp2_with (first
        | (go_at_call 16; refine (impl_IsNear_any _ _ _ _ _ _ _ _).mono ?_; rintro e w' ⟨rfl, hb⟩; have hbn : Below W.heap.size W w' := (by (repeat (first | exact Below.refl _ _ | assumption | refine Below.drew ?_ | refine bl_alloc ?_ _ | refine bl_then ?_ (by assumption) | refine Below.setCell ?_ (by first | omega | (simp; done) | (simp; omega)) _ | refine bl_store ?_ ?_ _ _))))
        | (go_at_call 17; refine (spec_IsNear_any _ _ _ _ _ _ _ _).mono ?_; rintro e w' ⟨rfl, hb⟩; have hbn : Below W.heap.size W w' := (by (repeat (first | exact Below.refl _ _ | assumption | refine Below.drew ?_ | refine bl_alloc ?_ _ | refine bl_then ?_ (by assumption) | refine Below.setCell ?_ (by first | omega | (simp; done) | (simp; omega)) _ | refine bl_store ?_ ?_ _ _))))
        | (go_at_call 13; refine (PointFault_any _ _ _).mono ?_; rintro e w' ⟨rfl, hb⟩; have hbn : Below W.heap.size W w' := (by (repeat (first | exact Below.refl _ _ | assumption | refine Below.drew ?_ | refine bl_alloc ?_ _ | refine bl_then ?_ (by assumption) | refine Below.setCell ?_ (by first | omega | (simp; done) | (simp; omega)) _ | refine bl_store ?_ ?_ _ _)))))
      go_ret
      exact ⟨ret_bool (by simp), bl_then HBW.out (by assumption)⟩
  have HG : Hid (okP px py = true ∧ okP ax ay = true ∧ okP bx by' = true ∧ 0 ≤ r ∧ r ≤ 4095) := ⟨h0, h1, h2, by omega, by omega⟩
  have n1 : isNearB ax ay ax ay bx by' r = true := by
    have hin : inB r 0 4096 = true := by simp [inB]; omega
    simp [isNearB, h1, h2, hin, near_first]
  have n2 : isNearB bx by' ax ay bx by' r = true := by
    have hin : inB r 0 4096 = true := by simp [inB]; omega
    simp [isNearB, h1, h2, hin, near_last]
  have hNd : isNearB px py ax ay bx by' r = nearB px py ax ay bx by' r := by
    have hin : inB r 0 4096 = true := by simp [inB]; omega
    simp [isNearB, h0, h1, h2, hin]
  have hNe : isNearB px py ax ay bx by' (r + 1) = nearB px py ax ay bx by' (r + 1) := by
    have hin : inB (r + 1) 0 4096 = true := by simp [inB]; omega
    simp [isNearB, h0, h1, h2, hin]
  have c2' : decide (4095 < r) = false := by simpa using c2
  obtain ⟨s1, s2⟩ := sq_bd (r := r) (by omega) (by omega)
  have wr1 : IntKind.i64.wrap (r + 1) = r + 1 := IntWalk.i64_in _ (by omega)
  have wr2 : IntKind.i64.wrap (r * r) = r * r := IntWalk.i64_in _ (by omega)
  have hor : isNearB px py ax ay bx by' r = true ∧ isNearB px py ax ay bx by' (r + 1) = true ∨ isNearB px py ax ay bx by' r = false ∧ r * r < distI px py ax ay := by
    cases hq : nearB px py ax ay bx by' r
    · right
      refine ⟨by rw [hNd, hq], ?_⟩
      by_cases hd : distI px py ax ay ≤ r * r
      · rw [near_dist hd] at hq; cases hq
      · omega
    · left
      exact ⟨by rw [hNd, hq], by rw [hNe]; exact near_more (by omega) hq⟩
  clear hNd hNe h0 h1 h2 c0 c1 c2
  rcases hor with ⟨hN, n3⟩ | ⟨hN, hgt⟩
  all_goals
    rw [hN] at hsw
    have HB1 : Hid (Below w.heap.size w w1) := hb1
    clear hb1
    go_wp2_with fail
    generalize hW : (((w1.alloc _).alloc _).alloc _ : World) = W
    have hB0 : Below w1.heap.size w1 W := by subst hW; (repeat (first | exact Below.refl _ _ | assumption | refine Below.drew ?_ | refine bl_alloc ?_ _ | refine bl_then ?_ (by assumption) | refine Below.setCell ?_ (by first | omega | (simp; done) | (simp; omega)) _ | refine bl_store ?_ ?_ _ _))
    have c00 : ∀ W', Below W.heap.size W W' → W'.cell? ⟨w1.heap.size, 0, none⟩ = some (.int .i64 px) := fun W' h => by
      rw [h.cell (by subst hW; simp <;> omega)]; subst hW; simp [go_sem]
    have c01 : ∀ W', Below W.heap.size W W' → W'.cell? ⟨w1.heap.size, 1, none⟩ = some (.int .i64 py) := fun W' h => by
      rw [h.cell (by subst hW; simp <;> omega)]; subst hW; simp [go_sem]
    have c10 : ∀ W', Below W.heap.size W W' → W'.cell? ⟨w1.heap.size + 1, 0, none⟩ = some (.int .i64 ax) := fun W' h => by
      rw [h.cell (by subst hW; simp <;> omega)]; subst hW; simp [go_sem]
    have c11 : ∀ W', Below W.heap.size W W' → W'.cell? ⟨w1.heap.size + 1, 1, none⟩ = some (.int .i64 ay) := fun W' h => by
      rw [h.cell (by subst hW; simp <;> omega)]; subst hW; simp [go_sem]
    have c20 : ∀ W', Below W.heap.size W W' → W'.cell? ⟨w1.heap.size + 1 + 1, 0, none⟩ = some (.int .i64 bx) := fun W' h => by
      rw [h.cell (by subst hW; simp <;> omega)]; subst hW; simp [go_sem]
    have c21 : ∀ W', Below W.heap.size W W' → W'.cell? ⟨w1.heap.size + 1 + 1, 1, none⟩ = some (.int .i64 by') := fun W' h => by
      rw [h.cell (by subst hW; simp <;> omega)]; subst hW; simp [go_sem]
    clear hW
    have HBW : Hid (Below w.heap.size w W) := bl_then HB1.out hB0
    clear hB0 HB1
    have hr : Below W.heap.size W W := Below.refl _ _
    go_wp2_with (first
      | (go_at_call 16; refine (impl_IsNear_any _ _ _ _ _ _ _ _).mono ?_; rintro e w' ⟨rfl, hb⟩; have hbn : Below W.heap.size W w' := (by (repeat (first | exact Below.refl _ _ | assumption | refine Below.drew ?_ | refine bl_alloc ?_ _ | refine bl_then ?_ (by assumption) | refine Below.setCell ?_ (by first | omega | (simp; done) | (simp; omega)) _ | refine bl_store ?_ ?_ _ _))))
      | (go_at_call 17; refine (spec_IsNear_any _ _ _ _ _ _ _ _).mono ?_; rintro e w' ⟨rfl, hb⟩; have hbn : Below W.heap.size W w' := (by (repeat (first | exact Below.refl _ _ | assumption | refine Below.drew ?_ | refine bl_alloc ?_ _ | refine bl_then ?_ (by assumption) | refine Below.setCell ?_ (by first | omega | (simp; done) | (simp; omega)) _ | refine bl_store ?_ ?_ _ _))))
      | (go_at_call 13; refine (PointFault_any _ _ _).mono ?_; rintro e w' ⟨rfl, hb⟩; have hbn : Below W.heap.size W w' := (by (repeat (first | exact Below.refl _ _ | assumption | refine Below.drew ?_ | refine bl_alloc ?_ _ | refine bl_then ?_ (by assumption) | refine Below.setCell ?_ (by first | omega | (simp; done) | (simp; omega)) _ | refine bl_store ?_ ?_ _ _)))))
    refine (impl_DistanceOf_2 _ _ _ _ _ HG.out.1 HG.out.2.1).mono ?_
    rintro e w2 ⟨rfl, hb2⟩
    have hB2 : Below W.heap.size W w2 := by (repeat (first | exact Below.refl _ _ | assumption | refine Below.drew ?_ | refine bl_alloc ?_ _ | refine bl_then ?_ (by assumption) | refine Below.setCell ?_ (by first | omega | (simp; done) | (simp; omega)) _ | refine bl_store ?_ ?_ _ _))
    have q00 := c00 w2 hB2
    have q01 := c01 w2 hB2
    have q10 := c10 w2 hB2
    have q11 := c11 w2 hB2
    have q20 := c20 w2 hB2
    have q21 := c21 w2 hB2
    have hl := World.block_lt_of_cell? _ _ q20
    have hl0 : w1.heap.size < w2.heap.size := by have : w1.heap.size + 1 + 1 < w2.heap.size := hl; omega
    have hl1 : w1.heap.size + 1 < w2.heap.size := by have : w1.heap.size + 1 + 1 < w2.heap.size := hl; omega
    have hl2 : w1.heap.size + 1 + 1 < w2.heap.size := hl
    clear hl
    go_wp2_with fail
    generalize hV : (w2.alloc _ : World) = V
    have hBV : Below W.heap.size W V := by subst hV; (repeat (first | exact Below.refl _ _ | assumption | refine Below.drew ?_ | refine bl_alloc ?_ _ | refine bl_then ?_ (by assumption) | refine Below.setCell ?_ (by first | omega | (simp; done) | (simp; omega)) _ | refine bl_store ?_ ?_ _ _))
    have s1' : ∀ W', Below V.heap.size V W' → W'.cell? ⟨w2.heap.size, 1, none⟩ = some (.int .i64 (distI px py ax ay)) := fun W' h => by
      rw [h.cell (by subst hV; simp)]; subst hV; simp [go_sem]
    clear hV hb2 hB2 q00 q01 q10 q11 q20 q21 hl0 hl1 hl2 hr
    replace c00 := fun W' (h : Below V.heap.size V W') => c00 W' (bl_then hBV h)
    replace c01 := fun W' (h : Below V.heap.size V W') => c01 W' (bl_then hBV h)
    replace c10 := fun W' (h : Below V.heap.size V W') => c10 W' (bl_then hBV h)
    replace c11 := fun W' (h : Below V.heap.size V W') => c11 W' (bl_then hBV h)
    replace c20 := fun W' (h : Below V.heap.size V W') => c20 W' (bl_then hBV h)
    replace c21 := fun W' (h : Below V.heap.size V W') => c21 W' (bl_then hBV h)
    have HBV : Hid (Below w.heap.size w V) := bl_then HBW.out hBV
    clear hBV
    refine (impl_IsNear_any _ _ _ _ _ _ _ _).mono ?_
    rintro e u ⟨rfl, hb⟩
    have hbn0 : Below V.heap.size V u := hb
    clear hb
    go_wp2_with (first
      | (go_at_call 16; refine (impl_IsNear_any _ _ _ _ _ _ _ _).mono ?_; rintro e w' ⟨rfl, hb⟩; have hbn : Below V.heap.size V w' := (by (repeat (first | exact Below.refl _ _ | assumption | refine Below.drew ?_ | refine bl_alloc ?_ _ | refine bl_then ?_ (by assumption) | refine Below.setCell ?_ (by first | omega | (simp; done) | (simp; omega)) _ | refine bl_store ?_ ?_ _ _))))
      | (go_at_call 17; refine (spec_IsNear_any _ _ _ _ _ _ _ _).mono ?_; rintro e w' ⟨rfl, hb⟩; have hbn : Below V.heap.size V w' := (by (repeat (first | exact Below.refl _ _ | assumption | refine Below.drew ?_ | refine bl_alloc ?_ _ | refine bl_then ?_ (by assumption) | refine Below.setCell ?_ (by first | omega | (simp; done) | (simp; omega)) _ | refine bl_store ?_ ?_ _ _))))
      | (go_at_call 13; refine (PointFault_any _ _ _).mono ?_; rintro e w' ⟨rfl, hb⟩; have hbn : Below V.heap.size V w' := (by (repeat (first | exact Below.refl _ _ | assumption | refine Below.drew ?_ | refine bl_alloc ?_ _ | refine bl_then ?_ (by assumption) | refine Below.setCell ?_ (by first | omega | (simp; done) | (simp; omega)) _ | refine bl_store ?_ ?_ _ _)))))
    all_goals
      go_ret
      exact ⟨ret_bool (by simp), bl_then HBV.out (by assumption)⟩
end Go.Proofs.Ytlkjdbigpjpgeaa
