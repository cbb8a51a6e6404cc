/- Several texts in one. -/
import Derived.Test.YthidgolnajggpaaGreatVNearestIn1
import Derived.Test.YthidgolnajggpaaGreatVNearestIn2
import Derived.Laws.StructEq

/- faultIn at two and at three points. -/

namespace Go.Proofs.YthidgolnajggpaaGreat
open Go.RowKit
set_option linter.unusedSimpArgs false
set_option linter.unusedVariables false

theorem faultIn3 (b cap : Nat) (mx my nx ny ox oy c : Int) (w : World) (g0 : w.cell? ⟨b, 0, none⟩ = some (.int .i64 mx)) (g1 : w.cell? ⟨b, 1, none⟩ = some (.int .i64 my)) (g2 : w.cell? ⟨b, 2, none⟩ = some (.int .i64 nx)) (g3 : w.cell? ⟨b, 3, none⟩ = some (.int .i64 ny)) (g4 : w.cell? ⟨b, 4, none⟩ = some (.int .i64 ox)) (g5 : w.cell? ⟨b, 5, none⟩ = some (.int .i64 oy)) (hcap : 3 ≤ cap) (hc : codeN 3 (fun i => if i = 0 then mx else if i = 1 then nx else ox) (fun i => if i = 0 then my else if i = 1 then ny else oy) = c) :
    Calls Tryz.prog 162 #[.slice (some ⟨b, 0, none⟩) 3 cap] w fun e w' => e = .returned (.int .i64 c) ∧ Below w.heap.size w w' := by
  rw [← hc]
  refine faultIn_any b 0 3 cap (fun i => if i = 0 then mx else if i = 1 then nx else ox) (fun i => if i = 0 then my else if i = 1 then ny else oy) w (fun i hi => ?_) (World.block_lt_of_cell? w ⟨b, 0, none⟩ g0) hcap (by omega)
  have hcase : i = 0 ∨ i = 1 ∨ i = 2 := by omega
  rcases hcase with rfl | rfl | rfl <;> simp [*]
theorem codeN3_ok (mx my nx ny ox oy : Int) (h0 : okP mx my = true) (h1 : okP nx ny = true) (h2 : okP ox oy = true) : codeN 3 (fun i => if i = 0 then mx else if i = 1 then nx else ox) (fun i => if i = 0 then my else if i = 1 then ny else oy) = 0 := codeN_ok fun i hi => by
  have hcase : i = 0 ∨ i = 1 ∨ i = 2 := by omega
  rcases hcase with rfl | rfl | rfl <;> simp [*]
theorem codeN3_0 (mx my nx ny ox oy : Int) (h : okP mx my = false) : codeN 3 (fun i => if i = 0 then mx else if i = 1 then nx else ox) (fun i => if i = 0 then my else if i = 1 then ny else oy) = 3 := codeN_no 0 (by omega) (by simp [h])
theorem codeN3_1 (mx my nx ny ox oy : Int) (h : okP nx ny = false) : codeN 3 (fun i => if i = 0 then mx else if i = 1 then nx else ox) (fun i => if i = 0 then my else if i = 1 then ny else oy) = 3 := codeN_no 1 (by omega) (by simp [h])
theorem codeN3_2 (mx my nx ny ox oy : Int) (h : okP ox oy = false) : codeN 3 (fun i => if i = 0 then mx else if i = 1 then nx else ox) (fun i => if i = 0 then my else if i = 1 then ny else oy) = 3 := codeN_no 2 (by omega) (by simp [h])

theorem way_df {ax ay bx by' : Int} (ha : okP ax ay = true) (hb : okP bx by' = true) : Df (bx - ax) (by' - ay) := by
  obtain ⟨⟨a1, a2⟩, a3, a4⟩ := okP_bd ha
  obtain ⟨⟨b1, b2⟩, b3, b4⟩ := okP_bd hb
  exact ⟨⟨by omega, by omega⟩, by omega, by omega⟩
end Go.Proofs.YthidgolnajggpaaGreat
/- Two pairs are the same just where both numbers are. -/

namespace Go.Proofs.YthidgolnajggpaaGreat
open Go.RowKit
theorem equalIn_pair (n : Nat) (a b c d : Int) (w : World) : (Op.equalIn (n + 2) 218 (.agg #[.int .i64 a, .int .i64 b]) (.agg #[.int .i64 c, .int .i64 d])).run Tryz.prog w = .ok ((a == c) && (b == d)) w := by
  have hp0 : ∀ (x y : Int) (w : World), (part 2 #[.int .i64 x, .int .i64 y] 0).run Tryz.prog w = .ok (.int .i64 x) w := fun _ _ _ => by kernel_rfl
  have hp1 : ∀ (x y : Int) (w : World), (part 2 #[.int .i64 x, .int .i64 y] 1).run Tryz.prog w = .ok (.int .i64 y) w := fun _ _ _ => by kernel_rfl
  have hs : ∀ (w : World), (sizeOf 2).run Tryz.prog w = .ok 1 w := fun _ => by kernel_rfl
  have hi := fun (a b : Int) (w : World) => run_equalIn_int (P := Tryz.prog) w n 2 .i64 .i64 a b Tryz.underlying2
  rw [Op.equalIn]
  simp only [Sem.run_bind, run_underlying Tryz.underlying218, Result.andThen_ok, hs]
  simp [List.range', hp0, hp1, hi]
  by_cases h1 : a = c <;> by_cases h2 : b = d <;> simp [h1, h2]
end Go.Proofs.YthidgolnajggpaaGreat
