/- Several texts in one. -/
import Derived.Test.YtijegoheilmmpaaVSorts6
import Derived.Test.YtijegoheilmmpaaVSorts13

/- lwBig tells whether a code is too long. -/

namespace Go.Proofs.Ytijegoheilmmpaa
open Go.RowKit
set_option linter.unusedSimpArgs false
set_option linter.unusedVariables false

theorem lwBig_any (a : Option Addr) (n cap : Nat) (w : World) : Calls Try.prog 6 #[.slice a n cap] w fun e w' => e = .returned (.bool (decide (1048576 < (n : Int)))) ∧ w' = w := by
  go_enter Try.func6, Try.ntmps6
  go_wp2
  go_ret
  exact ⟨rfl, rfl⟩
end Go.Proofs.Ytijegoheilmmpaa
/- A block that holds an answer with a code and one thing more. -/

namespace Go.Proofs.Ytijegoheilmmpaa
open Go.RowKit
/-- Block p holds an answer. -/
def R2At (w : World) (p : Nat) (c : Int) (v : Value) : Prop := w.cell? ⟨p, 0, none⟩ = some (.int .i64 c) ∧ w.cell? ⟨p, 1, none⟩ = some v
theorem R2At.below {w w' : World} {p : Nat} {c : Int} {v : Value} (h : R2At w p c v) (hb : Below w.heap.size w w') : R2At w' p c v := ⟨bl_cell hb h.1, bl_cell hb h.2⟩
end Go.Proofs.Ytijegoheilmmpaa
