/- Several texts in one. -/
import Derived.Test.YtbdhhclamgmfkaaGreatVFrameOf30
import Derived.Test.YtbdhhclamgmfkaaGreatVFrameOf27
import Derived.BigQuiet

/- Cameras of the program: held in the world, moved, of another size. -/

namespace Go.Proofs.YtbdhhclamgmfkaaGreat
open Go.RowKit
set_option linter.unusedSimpArgs false
set_option linter.unusedVariables false
set_option maxRecDepth 100000

end Go.Proofs.YtbdhhclamgmfkaaGreat
/- Cameras of the model: what is wrong of one, and one held in the world. -/

namespace Go.Proofs.YtbdhhclamgmfkaaGreat
open Go.RowKit
set_option linter.unusedSimpArgs false
set_option linter.unusedVariables false
set_option maxRecDepth 100000

/-- A camera in memory. -/
def CamAt (w : World) (b : Nat) (z x y wd ht : Int) : Prop := w.cell? ⟨b, 0, none⟩ = some (.int .i64 z) ∧ w.cell? ⟨b, 1, none⟩ = some (.int .i64 x) ∧ w.cell? ⟨b, 2, none⟩ = some (.int .i64 y) ∧ w.cell? ⟨b, 3, none⟩ = some (.int .i64 wd) ∧ w.cell? ⟨b, 4, none⟩ = some (.int .i64 ht)
theorem l1In_q (v lo hi : Int) (w : World) : Calls Tryz.prog 46 #[.int .i64 v, .int .i64 lo, .int .i64 hi] w fun e w' => e = .returned (.bool (inB v lo hi)) ∧ ∃ n, w' = w.drewN n :=
  (l1In_any v lo hi w).mono fun e w' ⟨h1, h2⟩ => ⟨h1, 0, h2⟩
set_option maxHeartbeats 4000000 in
theorem l9Fault_any (b : Nat) (z x y wd ht : Int) (w : World) (h : CamAt w b z x y wd ht) : Calls Tryz.prog 45 #[.pointer (some ⟨b, 0, none⟩)] w fun e w' => e = .returned (.int .i64 (camC z x y wd ht)) ∧ Below w.heap.size w w' := by
  obtain ⟨e0, e1, e2, e3, e4⟩ := h
  have hk : Hid (camC z x y wd ht = if camB z x y wd ht = true then 0 else 3) := rfl
  have hb : Hid (camB z x y wd ht = ((zoomB z && (inB wd 1 8 && inB ht 1 8)) && (inB x 0 (pixI z - wd) && inB y 0 (pixI z - ht)))) := rfl
  cases h1 : zoomB z <;> cases h2 : inB wd 1 8 <;> cases h3 : inB ht 1 8
  case true.true.true =>
    rw [h1, h2, h3] at hb
    have sN := fun w => l4Count_any z w h1
    have hn := pixI_bd h1
    have hw : 1 ≤ wd ∧ wd ≤ 8 := by simpa [inB] using h2
    have hh : 1 ≤ ht ∧ ht ≤ 8 := by simpa [inB] using h3
    generalize pixI z = u at *
    cases h4 : inB x 0 (u - wd) <;> cases h5 : inB y 0 (u - ht)
    all_goals
      rw [h4, h5] at hb
      rw [hb.out] at hk
      go_enter Tryz.func45, Tryz.ntmps45
      go_wp2_with (first
        | (go_at_call 73; refine (l3Zoom_any _ _).mono ?_; rintro e w1 ⟨rfl, rfl⟩)
        | (go_at_call 74; refine (sN _).mono ?_; rintro e w1 ⟨rfl, rfl⟩)
        | (go_at_call 46; refine (l1In_any _ _ _ _).mono ?_; rintro e w1 ⟨rfl, rfl⟩))
      go_quiet (first | (go_at_call 46; exact Calls.quiet_of (l1In_q _ _ _ _)))
      go_wp2
      go_ret
      exact ⟨ret_int (by rw [hk.out]; rfl), below_drewN (Below.refl _ _) _⟩
  all_goals
    rw [h1, h2, h3] at hb
    rw [hb.out] at hk
    go_enter Tryz.func45, Tryz.ntmps45
    go_wp2_with (first
      | (go_at_call 73; refine (l3Zoom_any _ _).mono ?_; rintro e w1 ⟨rfl, rfl⟩)
      | (go_at_call 46; refine (l1In_any _ _ _ _).mono ?_; rintro e w1 ⟨rfl, rfl⟩))
    go_ret
    exact ⟨ret_int (by rw [hk.out]; rfl), by (repeat (first | exact Below.refl _ _ | assumption | refine Below.drew ?_ | refine bl_alloc ?_ _ | refine bl_then ?_ (by assumption) | refine Below.setCell ?_ (by first | omega | (simp; done) | (simp; omega)) _ | refine bl_store ?_ ?_ _ _))⟩
end Go.Proofs.YtbdhhclamgmfkaaGreat
