/- Cameras of the model: moved, of another size. -/
import Derived.Test.YtioiikddgcmjeaaCs2
namespace Go.Proofs.Ytioiikddgcmjeaa
open Go.RowKit
set_option linter.unusedSimpArgs false
set_option linter.unusedVariables false
set_option maxRecDepth 100000

theorem CamAt.belowA {w w' : World} {b : Nat} {z x y wd ht : Int} (h : CamAt w b z x y wd ht) (hb : Below w.heap.size w w') : CamAt w' b z x y wd ht := by
  have hB := World.block_lt_of_cell? _ _ h.1
  exact ⟨(hb.cell (p := ⟨b, 0, none⟩) hB).trans h.1, (hb.cell (p := ⟨b, 1, none⟩) hB).trans h.2.1, (hb.cell (p := ⟨b, 2, none⟩) hB).trans h.2.2.1, (hb.cell (p := ⟨b, 3, none⟩) hB).trans h.2.2.2.1, (hb.cell (p := ⟨b, 4, none⟩) hB).trans h.2.2.2.2⟩
theorem impl_CameraFault_any (z x y wd ht : Int) (w : World) : Calls Try.prog 10 #[camV z x y wd ht] w fun e w' => e = .returned (.int .i64 (camC z x y wd ht)) ∧ Below w.heap.size w w' := by
  go_enter Try.func10, Try.ntmps10
  go_wp2_with (go_at_call 22; refine (camFault_any _ _ _ _ _ _).mono ?_; rintro e w1 ⟨rfl, hb1⟩)
  go_ret
  exact ⟨rfl, by (repeat (first | exact Below.refl _ _ | assumption | refine Below.drew ?_ | refine bl_alloc ?_ _ | refine bl_then ?_ (by assumption) | refine Below.setCell ?_ (by first | omega | (simp; done) | (simp; omega)) _ | refine bl_store ?_ ?_ _ _))⟩
end Go.Proofs.Ytioiikddgcmjeaa
