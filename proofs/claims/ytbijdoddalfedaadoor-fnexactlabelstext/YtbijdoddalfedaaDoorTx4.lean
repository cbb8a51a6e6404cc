/- A number in digits by the library. -/
import Derived.Test.YtbijdoddalfedaaDoorTx1
import Derived.Test.YtbijdoddalfedaaDoorLayD
import Derived.Lib.AppendIntMem
namespace Go.Proofs.YtbijdoddalfedaaDoor
open Go.RowKit
set_option linter.unusedSimpArgs false
set_option linter.unusedVariables false
set_option maxRecDepth 100000

/-- The library's table of powers, now and later. -/
def TabB (w : World) : Prop := ∀ W, Below w.heap.size w W → Go.Lib.TabIs Tryd.prog W "internal/strconv.uint64pow10" .u64 Go.Lib.pow10Tab
theorem TabB.below {w w' : World} (h : TabB w) (hb : Below w.heap.size w w') : TabB w' := fun W hW => h W (bl_then hb hW)

theorem below_grown (w : World) (k : Nat) (os : Array Obj) : Below w.heap.size w (Go.Sort.grow (w.drewN k) os) := Go.Lib.below_grow w.heap.size w (Nat.le_refl _) k os
theorem digitsOf_any (n : Int) (w : World) (h0 : 0 ≤ n) (h1 : n ≤ 1048576) (ht : TabB w) :
    Calls Tryd.prog 18 #[.int .i64 n] w fun e w' => e = .returned (.string (digB n)) ∧ Below w.heap.size w w' := by
  have hc := Tryd.formatInt n (by omega) (by omega) w (ht w (Below.refl _ _))
  go_enter Tryd.func18, Tryd.ntmps18
  go_wp2_with (go_at_call 20; refine hc.mono ?_; rintro e w' ⟨rfl, k, os, rfl⟩)
  go_ret
  exact ⟨rfl, below_grown w k os⟩
end Go.Proofs.YtbijdoddalfedaaDoor
