/- The law of ReachBox returns true at every feature and number. -/
import Derived.Test.YtjnglencgkhhaacVReachBox47
import Derived.Test.YtjnglencgkhhaacVReachBox51
namespace Go.Proofs.Ytjnglencgkhhaac
open Go.RowKit
set_option linter.unusedVariables false
theorem FnExactReachBox_walk (id la ki wi : Int) (a : Option Addr) (n cap : Nat) (X Y : Nat → Int) (lab : ByteArray) (pr : Int) (z : Int) (w : World) (h : IsPts w a n X Y ∧ n ≤ cap ∧ cap ≤ maxLen ∧ lab.size ≤ maxLen) :
    Calls Try.prog 3 #[.agg #[.int .i64 id, .int .i64 la, .int .i64 ki, .int .i64 wi, .slice a n cap, .string lab, .int .i64 pr], .int .i64 z] w fun e w' => e = .returned (.bool true) ∧ Below w.heap.size w w' := by
  obtain ⟨hpt, hcap, hmx, hls⟩ := h
  by_cases hbig : 1048576 < n + lab.size
  · exact FnExactReachBox_big id la ki wi a n cap lab pr z w hbig (Nat.le_trans hcap hmx) hls
  · obtain ⟨L, hL⟩ : ∃ L, 3 ≤ (snapL X Y z n).length → Thin (px (snapL X Y z n)) (py (snapL X Y z n)) (gridI z) 0 ((snapL X Y z n).length - 1) L := by
      by_cases h3 : 3 ≤ (snapL X Y z n).length
      · obtain ⟨L, hL⟩ := Thin.exists (px (snapL X Y z n)) (py (snapL X Y z n)) (gridI z) ((snapL X Y z n).length - 1) 0 ((snapL X Y z n).length - 1) (by omega) (by omega)
        exact ⟨L, fun _ => hL⟩
      · exact ⟨[], fun h => absurd h h3⟩
    exact FnExactReachBox_law _ _ _ _ _ id la ki wi a n cap X Y lab pr z w hpt (by omega) (by omega)
      (fun b w hp hb => spec_ReachBox_any id la ki wi z b n n X Y lab pr L w hp hb (by omega) (by omega) hL _ rfl)
      (fun b w hp hb => impl_ReachBox_any id la ki wi z b n n X Y lab pr L w hp hb (by omega) (Nat.le_refl _) (by omega) hL _ rfl)
end Go.Proofs.Ytjnglencgkhhaac
