/- Several texts in one. -/
import Derived.Test.YtbdhhclamgmfkaaGreatVFrameOf16
import Derived.Test.YtbdhhclamgmfkaaGreatVFrameOf27

/- The raster of a tile as far as that of one above it has it: the whole of the program. -/

namespace Go.Proofs.YtbdhhclamgmfkaaGreat
open Go.RowKit
set_option linter.unusedSimpArgs false
set_option linter.unusedVariables false
set_option maxRecDepth 100000

end Go.Proofs.YtbdhhclamgmfkaaGreat
/- The raster of a tile as far as that of one above it has it: the model. -/

namespace Go.Proofs.YtbdhhclamgmfkaaGreat
open Go.RowKit
set_option linter.unusedSimpArgs false
set_option linter.unusedVariables false
set_option maxRecDepth 100000

set_option maxHeartbeats 2000000 in
theorem l8Up_any (b off cap k : Nat) (fz fx fy tz x y : Int) (Z : Nat → Int) (w : World) (hk : k ≤ 3) (htz : tz - fz = (k : Int)) (hfz : 0 ≤ fz ∧ fz ≤ 3)
    (hz : NsAt w b off 64 Z) (hbl : b < w.heap.size) (hfx : 0 ≤ fx ∧ fx ≤ 7) (hfy : 0 ≤ fy ∧ fy ≤ 7) (hx : 0 ≤ x ∧ x ≤ 1000) (hy : 0 ≤ y ∧ y ≤ 1000)
    (hi : 0 ≤ halv x k - fx * 8 ∧ halv x k - fx * 8 ≤ 7) (hj : 0 ≤ halv y k - fy * 8 ∧ halv y k - fy * 8 ≤ 7) :
    Calls Tryz.prog 69 #[.slice (some ⟨b, off, none⟩) 64 cap, refV fz fx fy, .int .i64 tz, .int .i64 x, .int .i64 y] w fun e w' => e = .returned (.int .i64 (upI k fx fy Z x y)) ∧ Below w.heap.size w w' := by
  obtain ⟨xi, hxi⟩ : ∃ i : Int, halv x k - fx * 8 = i := ⟨_, rfl⟩
  obtain ⟨yi, hyi⟩ : ∃ i : Int, halv y k - fy * 8 = i := ⟨_, rfl⟩
  have HU : Hid (upI k fx fy Z x y = Z (yi * 8 + xi).toNat) := by show _ = _; unfold upI; rw [hxi, hyi]
  rw [hxi] at hi
  rw [hyi] at hj
  have e1 : x / 2 ^ k - fx * 8 = xi := by rw [← halv_pow _ hk]; exact hxi
  have e2 : y / 2 ^ k - fy * 8 = yi := by rw [← halv_pow _ hk]; exact hyi
  obtain ⟨xk, hxk⟩ : ∃ i : Int, x / 2 ^ k = i := ⟨_, rfl⟩
  obtain ⟨yk, hyk⟩ : ∃ i : Int, y / 2 ^ k = i := ⟨_, rfl⟩
  rw [hxk] at e1
  rw [hyk] at e2
  have kk : w.cell? ⟨b, off + (yi * 8 + xi).toNat, none⟩ = some (.int .i64 (Z (yi * 8 + xi).toNat)) := hz _ (by omega)
  have hk0 : (0 : Int) ≤ (k : Int) := by omega
  have hk1 : (k : Int) ≤ 64 := by omega
  have s0 : IntKind.i64.wrap xi = xi := IntWalk.i64_in _ (by omega)
  have s1 : IntKind.i64.wrap yi = yi := IntWalk.i64_in _ (by omega)
  have m0 : IntKind.i64.wrap (fx * 8) = fx * 8 := IntWalk.i64_in _ (by omega)
  have m1 : IntKind.i64.wrap (fy * 8) = fy * 8 := IntWalk.i64_in _ (by omega)
  have hix : (0 : Int) ≤ yi * 8 + xi := by omega
  have hix' : yi * 8 + xi < 64 := by omega
  clear hxi hyi hz
  go_enter Tryz.func69, Tryz.ntmps69
  go_wp2
  go_ret
  exact ⟨ret_int HU.out.symm, by (repeat (first | exact Below.refl _ _ | assumption | refine Below.drew ?_ | refine bl_alloc ?_ _ | refine bl_then ?_ (by assumption) | refine Below.setCell ?_ (by first | omega | (simp; done) | (simp; omega)) _ | refine bl_store ?_ ?_ _ _))⟩
end Go.Proofs.YtbdhhclamgmfkaaGreat
