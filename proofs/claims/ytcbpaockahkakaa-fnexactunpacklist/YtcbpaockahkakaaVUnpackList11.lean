/- A list of points is snapped: the program's and the model's way. -/
import Derived.Test.YtcbpaockahkakaaVUnpackList10
import Derived.Test.YtcbpaockahkakaaVUnpackList9
import Derived.OwnWalk
import Derived.Deep.DeepMust
import Derived.Deep.DeepCutAuto
import Derived.Test.YtcbpaockahkakaaVUnpackList7
namespace Go.Proofs.Ytcbpaockahkakaa
open Go.RowKit
set_option linter.unusedSimpArgs false
set_option linter.unusedVariables false

/-- The first n points, snapped; of those that are alike behind one another the first one. -/
def snapL (X Y : Nat → Int) (z : Int) : Nat → List (Int × Int)
  | 0 => []
  | k + 1 => if (snapL X Y z k).getLast? = some (snapI z (X k), snapI z (Y k)) then snapL X Y z k else snapL X Y z k ++ [(snapI z (X k), snapI z (Y k))]
theorem snapL_len (X Y : Nat → Int) (z : Int) : ∀ n, (snapL X Y z n).length ≤ n
  | 0 => Nat.le_refl _
  | k + 1 => by
    have := snapL_len X Y z k
    unfold snapL
    split
    · omega
    · simp; omega
theorem info_pt : (Try.prog.info? 114).map (fun i => (i.zero, i.size, i.bytes)) = some (some (.agg #[.int .i64 0, .int .i64 0]), 2, 16) := by kernel_rfl
/-- The last point of a row. -/
theorem Row.last {base : Nat} {w : World} {v : Value} {l : List (Int × Int)} (h : Row base w v l) (hne : 0 < l.length) :
    ∃ g cap x y, v = .slice (some ⟨g, 0, none⟩) l.length cap ∧ base ≤ g ∧ g < w.heap.size ∧ l.length ≤ cap ∧ l.getLast? = some (x, y) ∧ w.cell? ⟨g, (l.length - 1) * 2, none⟩ = some (.int .i64 x) ∧ w.cell? ⟨g, (l.length - 1) * 2 + 1, none⟩ = some (.int .i64 y) := by
  obtain ⟨a, cap, hv, hc, h0 | ⟨b, rfl, hb, hl, hp, ht⟩⟩ := h.own
  · omega
  · obtain ⟨e1, e2⟩ := hp (l.length - 1) (by omega)
    simp only [Nat.zero_add] at e1 e2
    refine ⟨b, cap, px l (l.length - 1), py l (l.length - 1), hv, hb, hl, hc, ?_, e1, e2⟩
    rw [List.getLast?_eq_getElem?, List.getElem?_eq_getElem (by omega)]
    simp [px, py, List.getD_eq_getElem?_getD, List.getElem?_eq_getElem (show l.length - 1 < l.length by omega)]

end Go.Proofs.Ytcbpaockahkakaa
