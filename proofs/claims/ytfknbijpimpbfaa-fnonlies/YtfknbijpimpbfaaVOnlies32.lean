/- IsSeen: the program and the model, and the law's steps. -/
import Derived.Test.YtfknbijpimpbfaaVOnlies31
namespace Go.Proofs.Ytfknbijpimpbfaa
open Go.RowKit
set_option linter.unusedSimpArgs false
set_option linter.unusedVariables false
set_option maxRecDepth 100000

/-- Whether a ref is seen. -/
def seenB (z x y wd ht rz rx ry : Int) : Bool := hasR (visR z x y wd) rz rx ry (visM z x y wd ht)
set_option maxHeartbeats 4000000 in
theorem impl_IsSeen_any (z x y wd ht rz rx ry : Int) (w : World) : Calls Try.prog 9 #[camV z x y wd ht, refV rz rx ry] w fun e w' => e = .returned (.bool (seenB z x y wd ht rz rx ry)) ∧ Below w.heap.size w w' := by
  have sV : ∀ w, Calls Try.prog 33 #[camV z x y wd ht] w fun e w' => ∃ a cap, e = .returned (.agg #[.int .i64 (camC z x y wd ht), .slice a (visM z x y wd ht) cap]) ∧ IsRs w' a (visM z x y wd ht) (visR z x y wd) ∧ Below w.heap.size w w' := fun w => (impl_VisibleRefs_any z x y wd ht w).mono fun e w' ⟨v, h1, h2, h3⟩ => by
    obtain ⟨a, cap, rfl, _, hI⟩ := h2.pts
    exact ⟨a, cap, h1, hI, h3⟩
  have hm : visM z x y wd ht ≤ 1048576 := by have := visM_le z x y wd ht; omega
  have HC : Hid (∀ a cap w, IsRs w a (visM z x y wd ht) (visR z x y wd) → Calls Try.prog 32 #[.slice a (visM z x y wd ht) cap, refV rz rx ry] w fun e w' => e = .returned (.bool (seenB z x y wd ht rz rx ry)) ∧ Below w.heap.size w w') := fun a cap w h => containsR_any a _ cap _ rz rx ry w h hm
  clear hm
  generalize seenB z x y wd ht rz rx ry = B at *
  generalize visM z x y wd ht = m at *
  generalize visR z x y wd = R at *
  generalize camC z x y wd ht = c at *
  have i1 : ∀ (a : Option Addr) (cap : Nat) w, (Instr.field 65 (.agg #[.int .i64 c, .slice a m cap]) 1).run Try.prog w = .ok (.slice a m cap) w := fun _ _ _ => by kernel_rfl
  go_enter Try.func9, Try.ntmps9
  go_wp2_with fail
  generalize hW : ((w.alloc _).alloc _ : World) = W
  have HB0 : Hid (Below w.heap.size w W) := by show Below _ _ _; subst hW; (repeat (first | exact Below.refl _ _ | assumption | refine Below.drew ?_ | refine bl_alloc ?_ _ | refine bl_then ?_ (by assumption) | refine Below.setCell ?_ (by first | omega | (simp; done) | (simp; omega)) _ | refine bl_store ?_ ?_ _ _))
  have c00 : ∀ W', Below W.heap.size W W' → W'.cell? ⟨w.heap.size, 0, none⟩ = some (.int .i64 z) := fun W' h => by
    rw [h.cell (by subst hW; simp <;> omega)]; subst hW; simp [go_sem]
  have c01 : ∀ W', Below W.heap.size W W' → W'.cell? ⟨w.heap.size, 1, none⟩ = some (.int .i64 x) := fun W' h => by
    rw [h.cell (by subst hW; simp <;> omega)]; subst hW; simp [go_sem]
  have c02 : ∀ W', Below W.heap.size W W' → W'.cell? ⟨w.heap.size, 2, none⟩ = some (.int .i64 y) := fun W' h => by
    rw [h.cell (by subst hW; simp <;> omega)]; subst hW; simp [go_sem]
  have c03 : ∀ W', Below W.heap.size W W' → W'.cell? ⟨w.heap.size, 3, none⟩ = some (.int .i64 wd) := fun W' h => by
    rw [h.cell (by subst hW; simp <;> omega)]; subst hW; simp [go_sem]
  have c04 : ∀ W', Below W.heap.size W W' → W'.cell? ⟨w.heap.size, 4, none⟩ = some (.int .i64 ht) := fun W' h => by
    rw [h.cell (by subst hW; simp <;> omega)]; subst hW; simp [go_sem]
  have c10 : ∀ W', Below W.heap.size W W' → W'.cell? ⟨w.heap.size + 1, 0, none⟩ = some (.int .i64 rz) := fun W' h => by
    rw [h.cell (by subst hW; simp <;> omega)]; subst hW; simp [go_sem]
  have c11 : ∀ W', Below W.heap.size W W' → W'.cell? ⟨w.heap.size + 1, 1, none⟩ = some (.int .i64 rx) := fun W' h => by
    rw [h.cell (by subst hW; simp <;> omega)]; subst hW; simp [go_sem]
  have c12 : ∀ W', Below W.heap.size W W' → W'.cell? ⟨w.heap.size + 1, 2, none⟩ = some (.int .i64 ry) := fun W' h => by
    rw [h.cell (by subst hW; simp <;> omega)]; subst hW; simp [go_sem]
  clear hW
  have hr : Below W.heap.size W W := Below.refl _ _
  go_region_held3 (fun W' => Below W.heap.size W W') ((repeat (first | exact Below.refl _ _ | assumption | refine Below.drew ?_ | refine bl_alloc ?_ _ | refine bl_then ?_ (by assumption) | refine Below.setCell ?_ (by first | omega | (simp; done) | (simp; omega)) _ | refine bl_store ?_ ?_ _ _)))
    (first
      | (go_at_call 33; refine (sV _).mono ?_; rintro e w1 ⟨a, cap, rfl, hI, hb⟩; have HI : Hid (IsRs w1 a m R) := hI; clear hI)
      | (go_at_call 32; refine (HC.out _ _ _ HI.out).mono ?_; rintro e w2 ⟨rfl, hb⟩)
      | fail)
  go_wp2
  go_ret
  exact ⟨rfl, bl_then HB0.out (by assumption)⟩
end Go.Proofs.Ytfknbijpimpbfaa
