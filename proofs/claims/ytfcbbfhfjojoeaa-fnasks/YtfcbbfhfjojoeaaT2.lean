/- The parent of a ref, the ref of a pixel: the program and the model, and their laws. -/
import Derived.Test.YtfcbbfhfjojoeaaT1
namespace Go.Proofs.Ytfcbbfhfjojoeaa
open Go.RowKit
set_option linter.unusedSimpArgs false
set_option linter.unusedVariables false
set_option maxRecDepth 100000

theorem there4r (V : World) (a b c d : Value) (t : TypeId) : There (V.alloc (.cells #[a, b, c, d] t)) V.heap.size 4 := fun o ho => by
  have : o = 0 ∨ o = 1 ∨ o = 2 ∨ o = 3 := by omega
  rcases this with rfl | rfl | rfl | rfl <;> exact ⟨⟨_, by simp [go_sem]; rfl⟩, by simp [go_sem]⟩
theorem there3r (V : World) (a b c : Value) (t : TypeId) : There (V.alloc (.cells #[a, b, c] t)) V.heap.size 3 := fun o ho => by
  have : o = 0 ∨ o = 1 ∨ o = 2 := by omega
  rcases this with rfl | rfl | rfl <;> exact ⟨⟨_, by simp [go_sem]; rfl⟩, by simp [go_sem]⟩

theorem toRef_any (z x y : Int) (w : World) : Calls Try.prog 21 #[refV z x y] w fun e w' => e = .returned (refV z x y) ∧ Below w.heap.size w w' := by
  go_enter Try.func21, Try.ntmps21
  go_wp2
  exact bodyPost_ret (v := refV z x y) (by simp [results, Try.results21, go_sem]) rfl ⟨rfl, by (repeat (first | exact Below.refl _ _ | assumption | refine Below.drew ?_ | refine bl_alloc ?_ _ | refine bl_then ?_ (by assumption) | refine Below.setCell ?_ (by first | omega | (simp; done) | (simp; omega)) _ | refine bl_store ?_ ?_ _ _))⟩
theorem eqRef_any (z x y : Int) (w : World) : Calls Try.prog 67 #[refV z x y, refV z x y] w fun e w' => e = .returned (.bool true) ∧ Below w.heap.size w w' := by
  go_enter Try.func67, Try.ntmps67
  go_wp2
  go_ret
  exact ⟨rfl, by (repeat (first | exact Below.refl _ _ | assumption | refine Below.drew ?_ | refine bl_alloc ?_ _ | refine bl_then ?_ (by assumption) | refine Below.setCell ?_ (by first | omega | (simp; done) | (simp; omega)) _ | refine bl_store ?_ ?_ _ _))⟩
end Go.Proofs.Ytfcbbfhfjojoeaa
