/- IsSeen: the program and the model, and the law's steps. -/
import Derived.Test.YtioiikddgcmjeaaVr4
import Derived.Test.YtioiikddgcmjeaaVs1
namespace Go.Proofs.Ytioiikddgcmjeaa
open Go.RowKit
set_option linter.unusedSimpArgs false
set_option linter.unusedVariables false
set_option maxRecDepth 100000

/-- Whether a ref is seen. -/
def seenB (z x y wd ht rz rx ry : Int) : Bool := hasR (visR z x y wd) rz rx ry (visM z x y wd ht)
set_option maxHeartbeats 4000000 in
theorem impl_IsSeen_any (z x y wd ht rz rx ry : Int) (w : World) : Calls Try.prog 12 #[camV z x y wd ht, refV rz rx ry] w fun e w' => e = .returned (.bool (seenB z x y wd ht rz rx ry)) ∧ Below w.heap.size w w' := by
  have sV : ∀ w, Calls Try.prog 8 #[camV z x y wd ht] w fun e w' => ∃ a cap, e = .returned (.agg #[.int .i64 (camC z x y wd ht), .slice a (visM z x y wd ht) cap]) ∧ IsRs w' a (visM z x y wd ht) (visR z x y wd) ∧ Below w.heap.size w w' := fun w => (impl_VisibleRefs_any z x y wd ht w).mono fun e w' ⟨v, h1, h2, h3⟩ => by
    obtain ⟨a, cap, rfl, _, hI⟩ := h2.pts
    exact ⟨a, cap, h1, hI, h3⟩
  have hm : visM z x y wd ht ≤ 1048576 := by have := visM_le z x y wd ht; omega
  have HC : Hid (∀ a cap w, IsRs w a (visM z x y wd ht) (visR z x y wd) → Calls Try.prog 29 #[.slice a (visM z x y wd ht) cap, refV rz rx ry] w fun e w' => e = .returned (.bool (seenB z x y wd ht rz rx ry)) ∧ Below w.heap.size w w') := fun a cap w h => containsR_any a _ cap _ rz rx ry w h hm
  clear hm
  generalize seenB z x y wd ht rz rx ry = B at *
  generalize visM z x y wd ht = m at *
  generalize visR z x y wd = R at *
  generalize camC z x y wd ht = c at *
  have i1 : ∀ (a : Option Addr) (cap : Nat) w, (Instr.field 29 (.agg #[.int .i64 c, .slice a m cap]) 1).run Try.prog w = .ok (.slice a m cap) w := fun _ _ _ => by kernel_rfl
  go_enter Try.func12, Try.ntmps12
  go_wp2_with fail
  generalize hW : ((w.alloc _).alloc _ : World) = W
  have HB0 : Hid (Below w.heap.size w W) := by show Below _ _ _; subst hW; (repeat (first | exact Below.refl _ _ | assumption | refine Below.drew ?_ | refine bl_alloc ?_ _ | refine bl_then ?_ (by assumption) | refine Below.setCell ?_ (by first | omega | (simp; done) | (simp; omega)) _ | refine bl_store ?_ ?_ _ _))
  have c00 : ∀ W', Below W.heap.size W W' → W'.cell? ⟨w.heap.size, 0, none⟩ = some (.int .i64 z) := fun W' h => by
    rw [h.cell (by subst hW; simp <;> omega)]; subst hW; simp [go_sem]
  have c01 : ∀ W', Below W.heap.size W W' → W'.cell? ⟨w.heap.size, 1, none⟩ = some (.int .i64 x) := fun W' h => by
    rw [h.cell (by subst hW; simp <;> omega)]; subst hW; simp [go_sem]
  have c02 : ∀ W', Below W.heap.size W W' → W'.cell? ⟨w.heap.size, 2, none⟩ = some (.int .i64 y) := fun W' h => by
    rw [h.cell (by subst hW; simp <;> omega)]; subst hW; simp [go_sem]
  have c03 : ∀ W', Below W.heap.size W W' → W'.cell? ⟨w.heap.size, 3, none⟩ = some (.int .i64 wd) := fun W' h => by
    rw [h.cell (by subst hW; simp <;> omega)]; subst hW; simp [go_sem]
  have c04 : ∀ W', Below W.heap.size W W' → W'.cell? ⟨w.heap.size, 4, none⟩ = some (.int .i64 ht) := fun W' h => by
    rw [h.cell (by subst hW; simp <;> omega)]; subst hW; simp [go_sem]
  have c10 : ∀ W', Below W.heap.size W W' → W'.cell? ⟨w.heap.size + 1, 0, none⟩ = some (.int .i64 rz) := fun W' h => by
    rw [h.cell (by subst hW; simp <;> omega)]; subst hW; simp [go_sem]
  have c11 : ∀ W', Below W.heap.size W W' → W'.cell? ⟨w.heap.size + 1, 1, none⟩ = some (.int .i64 rx) := fun W' h => by
    rw [h.cell (by subst hW; simp <;> omega)]; subst hW; simp [go_sem]
  have c12 : ∀ W', Below W.heap.size W W' → W'.cell? ⟨w.heap.size + 1, 2, none⟩ = some (.int .i64 ry) := fun W' h => by
    rw [h.cell (by subst hW; simp <;> omega)]; subst hW; simp [go_sem]
  clear hW
  have hr : Below W.heap.size W W := Below.refl _ _
  go_region_held3 (fun W' => Below W.heap.size W W') ((repeat (first | exact Below.refl _ _ | assumption | refine Below.drew ?_ | refine bl_alloc ?_ _ | refine bl_then ?_ (by assumption) | refine Below.setCell ?_ (by first | omega | (simp; done) | (simp; omega)) _ | refine bl_store ?_ ?_ _ _)))
    (first
      | (go_at_call 8; refine (sV _).mono ?_; rintro e w1 ⟨a, cap, rfl, hI, hb⟩; have HI : Hid (IsRs w1 a m R) := hI; clear hI)
      | (go_at_call 29; refine (HC.out _ _ _ HI.out).mono ?_; rintro e w2 ⟨rfl, hb⟩)
      | fail)
  go_wp2
  go_ret
  exact ⟨rfl, bl_then HB0.out (by assumption)⟩
set_option maxHeartbeats 4000000 in
theorem spec_IsSeen_any (z x y wd ht rz rx ry : Int) (w : World) : Calls Try.prog 14 #[camV z x y wd ht, refV rz rx ry] w fun e w' => e = .returned (.bool (seenB z x y wd ht rz rx ry)) ∧ Below w.heap.size w w' := by
  have hm : visM z x y wd ht ≤ 1048576 := by have := visM_le z x y wd ht; omega
  have HF : Hid (∀ (b : Nat) (w : World), CamAt w b z x y wd ht → Calls Try.prog 26 #[.pointer (some ⟨b, 0, none⟩)] w fun e w' => e = .returned (.int .i64 (camC z x y wd ht)) ∧ Below w.heap.size w w') := fun b w h => l9Fault_any b z x y wd ht w h
  cases hr : camB z x y wd ht
  · have hc : camC z x y wd ht = 3 := by unfold camC; rw [hr]; rfl
    have HS : Hid (seenB z x y wd ht rz rx ry = false) := by
      show _ = _
      unfold seenB visM
      rw [hr]
      rfl
    rw [hc] at HF
    clear hc hr hm
    go_enter Try.func14, Try.ntmps14
    go_wp2_with fail
    refine (HF.out _ _ ⟨by simp [go_sem], by simp [go_sem], by simp [go_sem], by simp [go_sem], by simp [go_sem]⟩).mono ?_
    rintro e w1 ⟨rfl, hb1⟩
    go_wp2
    go_ret
    exact ⟨ret_bool (by rw [HS.out]), by (repeat (first | exact Below.refl _ _ | assumption | refine Below.drew ?_ | refine bl_alloc ?_ _ | refine bl_then ?_ (by assumption) | refine Below.setCell ?_ (by first | omega | (simp; done) | (simp; omega)) _ | refine bl_store ?_ ?_ _ _))⟩
  · have hc : camC z x y wd ht = 0 := by unfold camC; rw [if_pos hr]
    have HL : Hid (∀ (b : Nat) (w : World), CamAt w b z x y wd ht → Calls Try.prog 32 #[.pointer (some ⟨b, 0, none⟩), refV rz rx ry] w fun e w' => e = .returned (.bool (seenB z x y wd ht rz rx ry)) ∧ Below w.heap.size w w') := fun b w h => l9Seen_any b _ _ rz rx ry w hm (fun W hW => l9Refs_any b W (by
      have hB := World.block_lt_of_cell? _ _ h.1
      exact ⟨(hW.cell (p := ⟨b, 0, none⟩) hB).trans h.1, (hW.cell (p := ⟨b, 1, none⟩) hB).trans h.2.1, (hW.cell (p := ⟨b, 2, none⟩) hB).trans h.2.2.1, (hW.cell (p := ⟨b, 3, none⟩) hB).trans h.2.2.2.1, (hW.cell (p := ⟨b, 4, none⟩) hB).trans h.2.2.2.2⟩) hr)
    rw [hc] at HF
    clear hc hr hm
    generalize seenB z x y wd ht rz rx ry = B at *
    go_enter Try.func14, Try.ntmps14
    go_wp2_with fail
    generalize hW : ((w.alloc _).alloc _ : World) = W
    have HB0 : Hid (Below w.heap.size w W) := by show Below _ _ _; subst hW; (repeat (first | exact Below.refl _ _ | assumption | refine Below.drew ?_ | refine bl_alloc ?_ _ | refine bl_then ?_ (by assumption) | refine Below.setCell ?_ (by first | omega | (simp; done) | (simp; omega)) _ | refine bl_store ?_ ?_ _ _))
    have HA : Hid (CamAt W w.heap.size z x y wd ht) := by show CamAt _ _ _ _ _ _ _; subst hW; exact ⟨by simp [go_sem], by simp [go_sem], by simp [go_sem], by simp [go_sem], by simp [go_sem]⟩
    have HV : Hid (RefA W (w.heap.size + 1) rz rx ry) := by show RefA _ _ _ _ _; subst hW; exact ⟨by simp [go_sem], by simp [go_sem], by simp [go_sem]⟩
    clear hW
    refine (HF.out _ _ HA.out).mono ?_
    rintro e w1 ⟨rfl, hb1⟩
    obtain ⟨p0, p1, p2⟩ := HV.out.below hb1
    have HA1 : Hid (CamAt w1 w.heap.size z x y wd ht) := by
      have hB := World.block_lt_of_cell? _ _ HA.out.1
      exact ⟨(hb1.cell (p := ⟨w.heap.size, 0, none⟩) hB).trans HA.out.1, (hb1.cell (p := ⟨w.heap.size, 1, none⟩) hB).trans HA.out.2.1, (hb1.cell (p := ⟨w.heap.size, 2, none⟩) hB).trans HA.out.2.2.1, (hb1.cell (p := ⟨w.heap.size, 3, none⟩) hB).trans HA.out.2.2.2.1, (hb1.cell (p := ⟨w.heap.size, 4, none⟩) hB).trans HA.out.2.2.2.2⟩
    have HB1 : Hid (Below w.heap.size w w1) := bl_then HB0.out hb1
    clear hb1 HA HV HB0
    go_wp2_with fail
    refine (HL.out _ _ HA1.out).mono ?_
    rintro e w2 ⟨rfl, hb2⟩
    go_wp2
    go_ret
    exact ⟨rfl, bl_then HB1.out hb2⟩
set_option maxHeartbeats 4000000 in
theorem FnExactIsSeen_walk (z x y wd ht rz rx ry : Int) (w : World) : Calls Try.prog 5 #[camV z x y wd ht, refV rz rx ry] w fun e w' => e = .returned (.bool true) ∧ Below w.heap.size w w' := by
  have s1 := fun w => spec_IsSeen_any z x y wd ht rz rx ry w
  have s2 := fun w => impl_IsSeen_any z x y wd ht rz rx ry w
  generalize seenB z x y wd ht rz rx ry = B at *
  go_enter Try.func5, Try.ntmps5
  go_wp2_with fail
  generalize hW : ((w.alloc _).alloc _ : World) = W
  have HB0 : Hid (Below w.heap.size w W) := by show Below _ _ _; subst hW; (repeat (first | exact Below.refl _ _ | assumption | refine Below.drew ?_ | refine bl_alloc ?_ _ | refine bl_then ?_ (by assumption) | refine Below.setCell ?_ (by first | omega | (simp; done) | (simp; omega)) _ | refine bl_store ?_ ?_ _ _))
  have c00 : ∀ W', Below W.heap.size W W' → W'.cell? ⟨w.heap.size, 0, none⟩ = some (.int .i64 z) := fun W' h => by
    rw [h.cell (by subst hW; simp <;> omega)]; subst hW; simp [go_sem]
  have c01 : ∀ W', Below W.heap.size W W' → W'.cell? ⟨w.heap.size, 1, none⟩ = some (.int .i64 x) := fun W' h => by
    rw [h.cell (by subst hW; simp <;> omega)]; subst hW; simp [go_sem]
  have c02 : ∀ W', Below W.heap.size W W' → W'.cell? ⟨w.heap.size, 2, none⟩ = some (.int .i64 y) := fun W' h => by
    rw [h.cell (by subst hW; simp <;> omega)]; subst hW; simp [go_sem]
  have c03 : ∀ W', Below W.heap.size W W' → W'.cell? ⟨w.heap.size, 3, none⟩ = some (.int .i64 wd) := fun W' h => by
    rw [h.cell (by subst hW; simp <;> omega)]; subst hW; simp [go_sem]
  have c04 : ∀ W', Below W.heap.size W W' → W'.cell? ⟨w.heap.size, 4, none⟩ = some (.int .i64 ht) := fun W' h => by
    rw [h.cell (by subst hW; simp <;> omega)]; subst hW; simp [go_sem]
  have c10 : ∀ W', Below W.heap.size W W' → W'.cell? ⟨w.heap.size + 1, 0, none⟩ = some (.int .i64 rz) := fun W' h => by
    rw [h.cell (by subst hW; simp <;> omega)]; subst hW; simp [go_sem]
  have c11 : ∀ W', Below W.heap.size W W' → W'.cell? ⟨w.heap.size + 1, 1, none⟩ = some (.int .i64 rx) := fun W' h => by
    rw [h.cell (by subst hW; simp <;> omega)]; subst hW; simp [go_sem]
  have c12 : ∀ W', Below W.heap.size W W' → W'.cell? ⟨w.heap.size + 1, 2, none⟩ = some (.int .i64 ry) := fun W' h => by
    rw [h.cell (by subst hW; simp <;> omega)]; subst hW; simp [go_sem]
  clear hW
  have hr : Below W.heap.size W W := Below.refl _ _
  go_region_held3 (fun W' => Below W.heap.size W W') ((repeat (first | exact Below.refl _ _ | assumption | refine Below.drew ?_ | refine bl_alloc ?_ _ | refine bl_then ?_ (by assumption) | refine Below.setCell ?_ (by first | omega | (simp; done) | (simp; omega)) _ | refine bl_store ?_ ?_ _ _)))
    (first
      | (go_at_call 15; refine (toCamera_any _ _ _ _ _ _).mono ?_; rintro e w1 ⟨rfl, hb⟩)
      | (go_at_call 19; refine (toRef_any _ _ _ _).mono ?_; rintro e w1 ⟨rfl, hb⟩)
      | (go_at_call 14; refine (s1 _).mono ?_; rintro e w1 ⟨rfl, hb⟩)
      | fail)
  go_wp2_with fail
  go_region_held3 (fun W' => Below W.heap.size W W') ((repeat (first | exact Below.refl _ _ | assumption | refine Below.drew ?_ | refine bl_alloc ?_ _ | refine bl_then ?_ (by assumption) | refine Below.setCell ?_ (by first | omega | (simp; done) | (simp; omega)) _ | refine bl_store ?_ ?_ _ _)))
    (first
      | (go_at_call 15; refine (toCamera_any _ _ _ _ _ _).mono ?_; rintro e w1 ⟨rfl, hb⟩)
      | (go_at_call 19; refine (toRef_any _ _ _ _).mono ?_; rintro e w1 ⟨rfl, hb⟩)
      | (go_at_call 12; refine (s2 _).mono ?_; rintro e w1 ⟨rfl, hb⟩)
      | fail)
  go_wp2
  go_ret
  exact ⟨rfl, bl_then HB0.out (by assumption)⟩
end Go.Proofs.Ytioiikddgcmjeaa
