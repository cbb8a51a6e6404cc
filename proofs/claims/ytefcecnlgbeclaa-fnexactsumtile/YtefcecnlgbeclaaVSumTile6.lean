/- Several texts in one. -/
import Derived.Test.YtefcecnlgbeclaaVSumTile4

/- What the small functions of points answer, and that they write nothing that was there. -/

namespace Go.Proofs.Ytefcecnlgbeclaa
open Go.RowKit
set_option linter.unusedSimpArgs false
set_option linter.unusedVariables false

/-- Both within 5120, either way. -/
def Df (x y : Int) : Prop := (-5120 ≤ x ∧ x ≤ 5120) ∧ (-5120 ≤ y ∧ y ≤ 5120)

/-- Whether a is above b neither in X nor in Y. -/
def upB (ax ay bx by' : Int) : Bool := decide (ax ≤ bx) && decide (ay ≤ by')
theorem eqPoint_any (ax ay : Int) (w : World) :
    Calls Try.prog 122 #[.agg #[.int .i64 ax, .int .i64 ay], .agg #[.int .i64 ax, .int .i64 ay]] w fun e w' => e = .returned (.bool true) ∧ Below w.heap.size w w' := by
  go_enter Try.func122, Try.ntmps122
  go_wp2
  go_ret
  exact ⟨rfl, by (repeat (first | exact Below.refl _ _ | assumption | refine Below.drew ?_ | refine bl_alloc ?_ _ | refine bl_then ?_ (by assumption) | refine Below.setCell ?_ (by first | omega | (simp; done) | (simp; omega)) _ | refine bl_store ?_ ?_ _ _))⟩

theorem eqIntResult_any (c v : Int) (w : World) :
    Calls Try.prog 33 #[.agg #[.int .i64 c, .int .i64 v], .agg #[.int .i64 c, .int .i64 v]] w fun e w' => e = .returned (.bool true) ∧ Below w.heap.size w w' := by
  go_enter Try.func33, Try.ntmps33
  go_wp2
  go_ret
  exact ⟨rfl, by (repeat (first | exact Below.refl _ _ | assumption | refine Below.drew ?_ | refine bl_alloc ?_ _ | refine bl_then ?_ (by assumption) | refine Below.setCell ?_ (by first | omega | (simp; done) | (simp; omega)) _ | refine bl_store ?_ ?_ _ _))⟩

end Go.Proofs.Ytefcecnlgbeclaa
/- Numbers on either side of 0 are folded, and unfolded. -/

namespace Go.Proofs.Ytefcecnlgbeclaa
open Go.RowKit
set_option linter.unusedSimpArgs false
set_option linter.unusedVariables false

/-- A number, folded. -/
def foldI (n : Int) : Int := if n < 0 then -2 * n - 1 else 2 * n
/-- A number, unfolded. -/
def unfoldI (n : Int) : Int := if n % 2 = 1 then -(n / 2) - 1 else n / 2
/-- The answer of FoldNumber. -/
def foldV (n : Int) : Value := if inB n (-1073741824) 1073741824 = true then .agg #[.int .i64 0, .int .i64 (foldI n)] else .agg #[.int .i64 3, .int .i64 0]
def unfoldV (n : Int) : Value := if inB n 0 2147483648 = true then .agg #[.int .i64 0, .int .i64 (unfoldI n)] else .agg #[.int .i64 3, .int .i64 0]
theorem unfold_fold (n : Int) : unfoldI (foldI n) = n := by unfold unfoldI foldI; split <;> split <;> omega
theorem fold_unfold (n : Int) (h : 0 ≤ n) : foldI (unfoldI n) = n := by unfold unfoldI foldI; split <;> split <;> omega
theorem foldI_bd {n B : Int} (h : -B ≤ n) (h' : n ≤ B) : 0 ≤ foldI n ∧ foldI n ≤ 2 * B := by unfold foldI; split <;> omega
theorem unfoldI_bd {n B : Int} (h : 0 ≤ n) (h' : n ≤ 2 * B) : -B ≤ unfoldI n ∧ unfoldI n ≤ B := by unfold unfoldI; split <;> omega
theorem inB_bd {n lo hi : Int} (h : inB n lo hi = true) : lo ≤ n ∧ n ≤ hi := by simpa [inB] using h

theorem impl_fold_any (n : Int) (w : World) (h1 : -1099511627776 ≤ n) (h2 : n ≤ 1099511627776) : Calls Try.prog 110 #[.int .i64 n] w fun e w' => e = .returned (.int .u64 (foldI n)) ∧ w = w' := by
  unfold foldI
  by_cases hn : n < 0
  · rw [if_pos hn]
    have e1 : IntKind.u64.wrap (-n) = -n := by rw [IntKind.wrap_u64]; omega
    have e2 : IntKind.u64.wrap (2 * -n) = 2 * -n := by rw [IntKind.wrap_u64]; omega
    have e3 : IntKind.u64.wrap (2 * -n - 1) = 2 * -n - 1 := by rw [IntKind.wrap_u64]; omega
    have e0 : IntKind.i64.wrap (-n) = -n := IntWalk.i64_in _ (by omega)
    go_enter Try.func110, Try.ntmps110
    go_wp2
    go_ret
    exact ⟨ret_int (by omega), rfl⟩
  · rw [if_neg hn]
    have e1 : IntKind.u64.wrap n = n := by rw [IntKind.wrap_u64]; omega
    have e2 : IntKind.u64.wrap (2 * n) = 2 * n := by rw [IntKind.wrap_u64]; omega
    go_enter Try.func110, Try.ntmps110
    go_wp2
    go_ret
    exact ⟨ret_int (by omega), rfl⟩
theorem impl_unfold_any (n : Int) (w : World) (h1 : 0 ≤ n) (h2 : n ≤ 1099511627776) : Calls Try.prog 124 #[.int .u64 n] w fun e w' => e = .returned (.int .i64 (unfoldI n)) ∧ w = w' := by
  unfold unfoldI
  have e1 : IntKind.u64.wrap (n / 2) = n / 2 := by rw [IntKind.wrap_u64]; omega
  have e2 : IntKind.i64.wrap (n / 2) = n / 2 := IntWalk.i64_in _ (by omega)
  have e3 : IntKind.i64.wrap (-(n / 2)) = -(n / 2) := IntWalk.i64_in _ (by omega)
  have e4 : IntKind.i64.wrap (-(n / 2) - 1) = -(n / 2) - 1 := IntWalk.i64_in _ (by omega)
  have e5 : IntKind.u64.wrap (n % 2) = n % 2 := by rw [IntKind.wrap_u64]; omega
  have t1 : n.tdiv 2 = n / 2 := Int.tdiv_eq_ediv_of_nonneg h1
  have t2 : n.tmod 2 = n % 2 := Int.tmod_eq_emod_of_nonneg h1
  by_cases hn : n % 2 = 1
  · rw [if_pos hn]
    go_enter Try.func124, Try.ntmps124
    go_wp2
    go_ret
    exact ⟨ret_int (by omega), rfl⟩
  · rw [if_neg hn]
    go_enter Try.func124, Try.ntmps124
    go_wp2
    go_ret
    exact ⟨ret_int (by omega), rfl⟩
theorem l6Fold_any (n : Int) (w : World) (h1 : -1099511627776 ≤ n) (h2 : n ≤ 1099511627776) : Calls Try.prog 97 #[.int .i64 n] w fun e w' => e = .returned (.int .i64 (foldI n)) ∧ w = w' := by
  unfold foldI
  by_cases hn : n < 0
  · rw [if_pos hn]
    have hn' : ¬ 0 ≤ n := by omega
    go_enter Try.func97, Try.ntmps97
    go_wp2
    go_ret
    exact ⟨ret_int (by omega), rfl⟩
  · rw [if_neg hn]
    have hn' : 0 ≤ n := by omega
    go_enter Try.func97, Try.ntmps97
    go_wp2
    go_ret
    exact ⟨ret_int (by omega), rfl⟩
theorem l6Unfold_any (n : Int) (w : World) (h1 : 0 ≤ n) (h2 : n ≤ 1099511627776) : Calls Try.prog 102 #[.int .i64 n] w fun e w' => e = .returned (.int .i64 (unfoldI n)) ∧ w = w' := by
  unfold unfoldI
  have t1 : n.tdiv 2 = n / 2 := Int.tdiv_eq_ediv_of_nonneg h1
  have t2 : n.tmod 2 = n % 2 := Int.tmod_eq_emod_of_nonneg h1
  have t3 : (-(n + 1)).tdiv 2 = -((n + 1) / 2) := by rw [Int.neg_tdiv, Int.tdiv_eq_ediv_of_nonneg (by omega)]
  by_cases hn : n % 2 = 1
  · rw [if_pos hn]
    have hn' : ¬ n % 2 = 0 := by omega
    go_enter Try.func102, Try.ntmps102
    go_wp2
    go_ret
    exact ⟨ret_int (by omega), rfl⟩
  · rw [if_neg hn]
    have hn' : n % 2 = 0 := by omega
    go_enter Try.func102, Try.ntmps102
    go_wp2
    go_ret
    exact ⟨ret_int (by omega), rfl⟩
end Go.Proofs.Ytefcecnlgbeclaa
/- PointFault answers the fault of a point. -/

namespace Go.Proofs.Ytefcecnlgbeclaa
open Go.RowKit
set_option linter.unusedSimpArgs false
set_option linter.unusedVariables false

end Go.Proofs.Ytefcecnlgbeclaa
