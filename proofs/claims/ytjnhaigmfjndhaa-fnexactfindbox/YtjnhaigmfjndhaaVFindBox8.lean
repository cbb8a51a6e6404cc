/- Several texts in one. -/
import Derived.Test.YtjnhaigmfjndhaaVFindBox5
import Derived.Test.YtjnhaigmfjndhaaVFindBox3
import Derived.Test.YtjnhaigmfjndhaaVFindBox2

/- faultIn at two and at three points. -/

namespace Go.Proofs.Ytjnhaigmfjndhaa
open Go.RowKit
set_option linter.unusedSimpArgs false
set_option linter.unusedVariables false

theorem faultIn2 (b cap : Nat) (mx my nx ny c : Int) (w : World) (g0 : w.cell? ⟨b, 0, none⟩ = some (.int .i64 mx)) (g1 : w.cell? ⟨b, 1, none⟩ = some (.int .i64 my)) (g2 : w.cell? ⟨b, 2, none⟩ = some (.int .i64 nx)) (g3 : w.cell? ⟨b, 3, none⟩ = some (.int .i64 ny)) (hcap : 2 ≤ cap) (hc : codeN 2 (fun i => if i = 0 then mx else nx) (fun i => if i = 0 then my else ny) = c) :
    Calls Try.prog 53 #[.slice (some ⟨b, 0, none⟩) 2 cap] w fun e w' => e = .returned (.int .i64 c) ∧ Below w.heap.size w w' := by
  rw [← hc]
  refine faultIn_any b 0 2 cap (fun i => if i = 0 then mx else nx) (fun i => if i = 0 then my else ny) w (fun i hi => ?_) (World.block_lt_of_cell? w ⟨b, 0, none⟩ g0) hcap (by omega)
  have hcase : i = 0 ∨ i = 1 := by omega
  rcases hcase with rfl | rfl <;> simp [*]
theorem codeN2_ok (mx my nx ny : Int) (h0 : okP mx my = true) (h1 : okP nx ny = true) : codeN 2 (fun i => if i = 0 then mx else nx) (fun i => if i = 0 then my else ny) = 0 := codeN_ok fun i hi => by
  have hcase : i = 0 ∨ i = 1 := by omega
  rcases hcase with rfl | rfl <;> simp [*]
theorem codeN2_0 (mx my nx ny : Int) (h : okP mx my = false) : codeN 2 (fun i => if i = 0 then mx else nx) (fun i => if i = 0 then my else ny) = 3 := codeN_no 0 (by omega) (by simp [h])
theorem codeN2_1 (mx my nx ny : Int) (h : okP nx ny = false) : codeN 2 (fun i => if i = 0 then mx else nx) (fun i => if i = 0 then my else ny) = 3 := codeN_no 1 (by omega) (by simp [h])

theorem faultIn3 (b cap : Nat) (mx my nx ny ox oy c : Int) (w : World) (g0 : w.cell? ⟨b, 0, none⟩ = some (.int .i64 mx)) (g1 : w.cell? ⟨b, 1, none⟩ = some (.int .i64 my)) (g2 : w.cell? ⟨b, 2, none⟩ = some (.int .i64 nx)) (g3 : w.cell? ⟨b, 3, none⟩ = some (.int .i64 ny)) (g4 : w.cell? ⟨b, 4, none⟩ = some (.int .i64 ox)) (g5 : w.cell? ⟨b, 5, none⟩ = some (.int .i64 oy)) (hcap : 3 ≤ cap) (hc : codeN 3 (fun i => if i = 0 then mx else if i = 1 then nx else ox) (fun i => if i = 0 then my else if i = 1 then ny else oy) = c) :
    Calls Try.prog 53 #[.slice (some ⟨b, 0, none⟩) 3 cap] w fun e w' => e = .returned (.int .i64 c) ∧ Below w.heap.size w w' := by
  rw [← hc]
  refine faultIn_any b 0 3 cap (fun i => if i = 0 then mx else if i = 1 then nx else ox) (fun i => if i = 0 then my else if i = 1 then ny else oy) w (fun i hi => ?_) (World.block_lt_of_cell? w ⟨b, 0, none⟩ g0) hcap (by omega)
  have hcase : i = 0 ∨ i = 1 ∨ i = 2 := by omega
  rcases hcase with rfl | rfl | rfl <;> simp [*]
theorem codeN3_ok (mx my nx ny ox oy : Int) (h0 : okP mx my = true) (h1 : okP nx ny = true) (h2 : okP ox oy = true) : codeN 3 (fun i => if i = 0 then mx else if i = 1 then nx else ox) (fun i => if i = 0 then my else if i = 1 then ny else oy) = 0 := codeN_ok fun i hi => by
  have hcase : i = 0 ∨ i = 1 ∨ i = 2 := by omega
  rcases hcase with rfl | rfl | rfl <;> simp [*]
theorem codeN3_0 (mx my nx ny ox oy : Int) (h : okP mx my = false) : codeN 3 (fun i => if i = 0 then mx else if i = 1 then nx else ox) (fun i => if i = 0 then my else if i = 1 then ny else oy) = 3 := codeN_no 0 (by omega) (by simp [h])
theorem codeN3_1 (mx my nx ny ox oy : Int) (h : okP nx ny = false) : codeN 3 (fun i => if i = 0 then mx else if i = 1 then nx else ox) (fun i => if i = 0 then my else if i = 1 then ny else oy) = 3 := codeN_no 1 (by omega) (by simp [h])
theorem codeN3_2 (mx my nx ny ox oy : Int) (h : okP ox oy = false) : codeN 3 (fun i => if i = 0 then mx else if i = 1 then nx else ox) (fun i => if i = 0 then my else if i = 1 then ny else oy) = 3 := codeN_no 2 (by omega) (by simp [h])

theorem way_df {ax ay bx by' : Int} (ha : okP ax ay = true) (hb : okP bx by' = true) : Df (bx - ax) (by' - ay) := by
  obtain ⟨⟨a1, a2⟩, a3, a4⟩ := okP_bd ha
  obtain ⟨⟨b1, b2⟩, b3, b4⟩ := okP_bd hb
  exact ⟨⟨by omega, by omega⟩, by omega, by omega⟩
end Go.Proofs.Ytjnhaigmfjndhaa
/- Whether a number is within bounds, whether a point is in the world. -/

namespace Go.Proofs.Ytjnhaigmfjndhaa
open Go.RowKit
set_option linter.unusedSimpArgs false
set_option linter.unusedVariables false

theorem isWithin_any (v lo hi : Int) (w : World) : Calls Try.prog 65 #[.int .i64 v, .int .i64 lo, .int .i64 hi] w fun e w' => e = .returned (.bool (inB v lo hi)) ∧ w' = w := by
  unfold inB
  go_enter Try.func65, Try.ntmps65
  by_cases h1 : lo ≤ v
  · go_wp2
    all_goals (go_ret; exact ⟨ret_bool (by simp [h1]), rfl⟩)
  · have h2 : decide (lo ≤ v) = false := by simpa using h1
    go_wp2
    all_goals (go_ret; exact ⟨ret_bool (by simp [h1]), rfl⟩)

/-- A point that a feature may have. -/
def inW (x y : Int) : Bool := inB x 0 1024 && inB y 0 1024
end Go.Proofs.Ytjnhaigmfjndhaa
