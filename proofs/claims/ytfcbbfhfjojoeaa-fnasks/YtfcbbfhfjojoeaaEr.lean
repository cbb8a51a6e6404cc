/- Two refs compared as structs. -/
import Derived.Test.YtfcbbfhfjojoeaaRows
import Derived.WalkKit
import Derived.Below
namespace Go.Proofs.Ytfcbbfhfjojoeaa
open Go.RowKit
set_option linter.unusedSimpArgs false
set_option linter.unusedVariables false
set_option maxRecDepth 100000

theorem equalIn_ref (n : Nat) (a b c a' b' c' : Int) (w : World) : (Op.equalIn (n + 2) 26 (.agg #[.int .i64 a, .int .i64 b, .int .i64 c]) (.agg #[.int .i64 a', .int .i64 b', .int .i64 c'])).run Try.prog w = .ok ((a == a') && ((b == b') && (c == c'))) w := by
  have hp0 : ∀ (x y z : Int) (w : World), (part 2 #[.int .i64 x, .int .i64 y, .int .i64 z] 0).run Try.prog w = .ok (.int .i64 x) w := fun _ _ _ _ => by kernel_rfl
  have hp1 : ∀ (x y z : Int) (w : World), (part 2 #[.int .i64 x, .int .i64 y, .int .i64 z] 1).run Try.prog w = .ok (.int .i64 y) w := fun _ _ _ _ => by kernel_rfl
  have hp2 : ∀ (x y z : Int) (w : World), (part 2 #[.int .i64 x, .int .i64 y, .int .i64 z] 2).run Try.prog w = .ok (.int .i64 z) w := fun _ _ _ _ => by kernel_rfl
  have hi := fun (a b : Int) (w : World) => run_equalIn_int (P := Try.prog) w n 2 .i64 .i64 a b Try.underlying2
  rw [run_equalIn_struct w (n + 1) 26 _ _ (by kernel_rfl) (by kernel_rfl)]
  simp [Op.eqFields, Program.fieldsOf, Try.underlying26, hp0, hp1, hp2, hi]
  by_cases h1 : a = a' <;> by_cases h2 : b = b' <;> by_cases h3 : c = c' <;> simp [h1, h2, h3]
theorem eql_ref (a b c a' b' c' : Int) (w : World) : (binOp .eql 26 (.agg #[.int .i64 a, .int .i64 b, .int .i64 c]) (.agg #[.int .i64 a', .int .i64 b', .int .i64 c'])).run Try.prog w = .ok (.bool ((a == a') && ((b == b') && (c == c')))) w := by
  rw [run_eql_struct, equalIn_ref 9998]
  rfl
theorem same_ref (a b c a' b' c' : Int) : ((a == a') && ((b == b') && (c == c'))) = ((a' == a) && ((b' == b) && (c' == c))) := by
  rw [Bool.eq_iff_iff]
  simp
  constructor <;> (rintro ⟨h1, h2, h3⟩; exact ⟨h1.symm, h2.symm, h3.symm⟩)
end Go.Proofs.Ytfcbbfhfjojoeaa
