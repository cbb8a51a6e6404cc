/- How a box that came in is read. -/
import Derived.Test.YtkadkpdcjccnbaaOpen
namespace Go.Proofs.Ytkadkpdcjccnbaa
open Go.ChangeShapes Go.WideShapes Go.ChangeAt Go.RowKit
set_option maxRecDepth 100000
theorem cells_lb : Try.prog.cellsOf 101 = 4 := by kernel_rfl

theorem open_box {H : Type} {enc : TypeId × Value → H} {w : World} {base b0 : Nat} {spare : Nat → Bool} {held : Bool} {r : Reach} {v : Value} {d : DataW H} {p : List MemPlace}
    (hv : Value.okWide Try.prog w r b0 101 v) (h : DataW.Trod enc Try.prog w base spare held 101 v d p) :
    ∃ a b c e : Int, v = .agg #[.int .i64 a, .int .i64 b, .int .i64 c, .int .i64 e] := by
  obtain ⟨cs, rfl, hsz⟩ := okWide_struct Try.underlying101 hv
  obtain ⟨n, h⟩ := h
  obtain ⟨y0, y1, m, hx, hl, h0, h1⟩ := trod_struct2 Try.underlying101 h
  simp only [cells_lp] at h0 h1
  obtain ⟨a, b, e0, wa, wb⟩ := trod_point h0
  obtain ⟨c, e, e1, wc, we⟩ := trod_point h1
  refine ⟨a, b, c, e, ?_⟩
  have hz : cs.size = 4 := by rw [hsz]; exact cells_lb
  have : cs = #[.int .i64 a, .int .i64 b, .int .i64 c, .int .i64 e] := by
    apply Array.toList_inj.1
    simp only [Value.cells] at e0 e1
    have hlen : cs.toList.length = 4 := by simpa using hz
    match hcs : cs.toList, hlen with
    | [v0, v1, v2, v3], _ =>
      rw [hcs] at e0 e1
      simp at e0 e1
      simp [e0, e1]
  rw [this]
end Go.Proofs.Ytkadkpdcjccnbaa
