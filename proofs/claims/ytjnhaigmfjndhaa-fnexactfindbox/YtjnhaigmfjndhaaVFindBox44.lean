/- Several texts in one. -/
import Derived.Test.YtjnhaigmfjndhaaRows
import Derived.WalkKit
import Derived.Below
import Derived.ProofKit
import Derived.OpenShut
import Derived.ChangeOld
import Derived.Deep.SlicePairs

/- How a point, a box and a list of points that came in are read. -/

namespace Go.Proofs.Ytjnhaigmfjndhaa
open Go.ChangeShapes Go.WideShapes Go.ChangeAt Go.RowKit
set_option linter.unusedVariables false
set_option maxRecDepth 100000

theorem own : ownKnob Try.prog.godebug = none := by kernel_rfl
theorem laidOut : laidOutB Try.prog = true := by kernel_rfl
theorem cells_lp : Try.prog.cellsOf 24 = 2 := by kernel_rfl
theorem cells_i64 : Try.prog.cellsOf 2 = 1 := by kernel_rfl

/-- Two cells that read as a point. -/
theorem trod_point {H : Type} {enc : TypeId × Value → H} {w : World} {base : Nat} {spare : Nat → Bool} {held : Bool} {n : Nat} {cs : List Value} {x : DataW H × List MemPlace}
    (h : DataW.trod enc Try.prog w base spare held n 24 cs = some x) : ∃ a b : Int, cs = [.int .i64 a, .int .i64 b] ∧ (Lit.int .i64 a).wf = true ∧ (Lit.int .i64 b).wf = true := by
  obtain ⟨y0, y1, m, hx, hl, h0, h1⟩ := trod_struct2 Try.underlying24 h
  rw [cells_lp] at hl
  match cs, hl with
  | [v0, v1], _ =>
    simp [cells_i64] at h0 h1
    obtain ⟨a, e0, _, wa⟩ := DataW.trod_int Try.underlying2 h0
    obtain ⟨b, e1, _, wb⟩ := DataW.trod_int Try.underlying2 h1
    simp at e0 e1
    subst e0 e1
    exact ⟨a, b, rfl, wa, wb⟩

theorem open_point {H : Type} {enc : TypeId × Value → H} {w : World} {base b0 : Nat} {spare : Nat → Bool} {held : Bool} {r : Reach} {v : Value} {d : DataW H} {p : List MemPlace}
    (hv : Value.okWide Try.prog w r b0 24 v) (h : DataW.Trod enc Try.prog w base spare held 24 v d p) :
    ∃ a b : Int, v = .agg #[.int .i64 a, .int .i64 b] ∧ (Lit.int .i64 a).wf = true ∧ (Lit.int .i64 b).wf = true := by
  obtain ⟨cs, rfl, hsz⟩ := okWide_struct Try.underlying24 hv
  obtain ⟨n, h⟩ := h
  obtain ⟨a, b, e, wa, wb⟩ := trod_point h
  refine ⟨a, b, ?_, wa, wb⟩
  have : cs = #[.int .i64 a, .int .i64 b] := by
    apply Array.toList_inj.1
    simpa [Value.cells] using e
  rw [this]
end Go.Proofs.Ytjnhaigmfjndhaa
/- How a box that came in is read. -/

namespace Go.Proofs.Ytjnhaigmfjndhaa
open Go.ChangeShapes Go.WideShapes Go.ChangeAt Go.RowKit
set_option maxRecDepth 100000
theorem cells_lb : Try.prog.cellsOf 26 = 4 := by kernel_rfl

theorem open_box {H : Type} {enc : TypeId × Value → H} {w : World} {base b0 : Nat} {spare : Nat → Bool} {held : Bool} {r : Reach} {v : Value} {d : DataW H} {p : List MemPlace}
    (hv : Value.okWide Try.prog w r b0 26 v) (h : DataW.Trod enc Try.prog w base spare held 26 v d p) :
    ∃ a b c e : Int, v = .agg #[.int .i64 a, .int .i64 b, .int .i64 c, .int .i64 e] := by
  obtain ⟨cs, rfl, hsz⟩ := okWide_struct Try.underlying26 hv
  obtain ⟨n, h⟩ := h
  obtain ⟨y0, y1, m, hx, hl, h0, h1⟩ := trod_struct2 Try.underlying26 h
  simp only [cells_lp] at h0 h1
  obtain ⟨a, b, e0, wa, wb⟩ := trod_point h0
  obtain ⟨c, e, e1, wc, we⟩ := trod_point h1
  refine ⟨a, b, c, e, ?_⟩
  have hz : cs.size = 4 := by rw [hsz]; exact cells_lb
  have : cs = #[.int .i64 a, .int .i64 b, .int .i64 c, .int .i64 e] := by
    apply Array.toList_inj.1
    simp only [Value.cells] at e0 e1
    have hlen : cs.toList.length = 4 := by simpa using hz
    match hcs : cs.toList, hlen with
    | [v0, v1, v2, v3], _ =>
      rw [hcs] at e0 e1
      simp at e0 e1
      simp [e0, e1]
  rw [this]
end Go.Proofs.Ytjnhaigmfjndhaa
