/- Several texts in one. -/
import Derived.Test.YtefcecnlgbeclaaRows
import Derived.WalkKit
import Derived.Below
import Derived.ProofKit
import Derived.OpenShut
import Derived.ChangeOld
import Derived.Deep.SlicePairs
import Derived.Test.YtefcecnlgbeclaaVSumTile8

/- How a point, a box and a list of points that came in are read. -/

namespace Go.Proofs.Ytefcecnlgbeclaa
open Go.ChangeShapes Go.WideShapes Go.ChangeAt Go.RowKit
set_option linter.unusedVariables false
set_option maxRecDepth 100000

theorem own : ownKnob Try.prog.godebug = none := by kernel_rfl
theorem laidOut : laidOutB Try.prog = true := by kernel_rfl
theorem cells_lp : Try.prog.cellsOf 170 = 2 := by kernel_rfl
theorem cells_i64 : Try.prog.cellsOf 2 = 1 := by kernel_rfl

/-- Two cells that read as a point. -/
theorem trod_point {H : Type} {enc : TypeId × Value → H} {w : World} {base : Nat} {spare : Nat → Bool} {held : Bool} {n : Nat} {cs : List Value} {x : DataW H × List MemPlace}
    (h : DataW.trod enc Try.prog w base spare held n 170 cs = some x) : ∃ a b : Int, cs = [.int .i64 a, .int .i64 b] ∧ (Lit.int .i64 a).wf = true ∧ (Lit.int .i64 b).wf = true := by
  obtain ⟨y0, y1, m, hx, hl, h0, h1⟩ := trod_struct2 Try.underlying170 h
  rw [cells_lp] at hl
  match cs, hl with
  | [v0, v1], _ =>
    simp [cells_i64] at h0 h1
    obtain ⟨a, e0, _, wa⟩ := DataW.trod_int Try.underlying2 h0
    obtain ⟨b, e1, _, wb⟩ := DataW.trod_int Try.underlying2 h1
    simp at e0 e1
    subst e0 e1
    exact ⟨a, b, rfl, wa, wb⟩

theorem open_point {H : Type} {enc : TypeId × Value → H} {w : World} {base b0 : Nat} {spare : Nat → Bool} {held : Bool} {r : Reach} {v : Value} {d : DataW H} {p : List MemPlace}
    (hv : Value.okWide Try.prog w r b0 170 v) (h : DataW.Trod enc Try.prog w base spare held 170 v d p) :
    ∃ a b : Int, v = .agg #[.int .i64 a, .int .i64 b] ∧ (Lit.int .i64 a).wf = true ∧ (Lit.int .i64 b).wf = true := by
  obtain ⟨cs, rfl, hsz⟩ := okWide_struct Try.underlying170 hv
  obtain ⟨n, h⟩ := h
  obtain ⟨a, b, e, wa, wb⟩ := trod_point h
  refine ⟨a, b, ?_, wa, wb⟩
  have : cs = #[.int .i64 a, .int .i64 b] := by
    apply Array.toList_inj.1
    simpa [Value.cells] using e
  rw [this]
end Go.Proofs.Ytefcecnlgbeclaa
/- How a list of points that came in is read. -/

namespace Go.Proofs.Ytefcecnlgbeclaa
open Go.ChangeShapes Go.WideShapes Go.ChangeAt Go.RowKit Go.Deep
set_option linter.unusedVariables false
set_option maxRecDepth 100000

theorem open_pts {H : Type} {enc : TypeId × Value → H} {w : World} {base b0 : Nat} {held : Bool} {r : Reach} {v : Value} {d : DataW H} {p : List MemPlace}
    (hv : Value.okWide Try.prog w r b0 131 v) (h : DataW.Trod enc Try.prog w base (fun _ => true) held 131 v d p) :
    ∃ (a : Option Addr) (n cap : Nat) (X Y : Nat → Int), v = .slice a n cap ∧ IsPts w a n X Y ∧ n ≤ cap ∧ cap ≤ maxLen := by
  obtain ⟨a, len, cap, rfl⟩ := okWide_slice Try.underlying131 hv
  obtain ⟨fuel, hf⟩ := h
  rcases open_slice_pairs Try.underlying131 Try.underlying170 cells_lp rfl rfl cells_i64 cells_i64 hf with ⟨hcs, _⟩ | ⟨x, l, c, m, n, V0, V1, D0, D1, P0, P1, hcs, _, hl, hc, hm, _, hx⟩
  · simp [Value.cells] at hcs
    obtain ⟨rfl, rfl, rfl⟩ := hcs
    exact ⟨none, 0, 0, fun _ => 0, fun _ => 0, rfl, .inl rfl, Nat.le_refl _, Nat.zero_le _⟩
  · simp [Value.cells] at hcs
    obtain ⟨rfl, rfl, rfl⟩ := hcs
    simp at hm
    subst hm
    refine ⟨some x, len, _, fun i => intOf (V0 i), fun i => intOf (V1 i), rfl, ?_, hl, hc⟩
    by_cases h0 : len = 0
    · exact .inl h0
    · right
      obtain ⟨b, off, spot⟩ := x
      obtain ⟨e0, _, _, _⟩ := hx 0 (by omega)
      have hspot : spot = none := by simpa [Addr.add] using World.cell?_spot e0
      subst hspot
      refine ⟨b, off, rfl, ?_, fun i hi => ?_⟩
      · have := World.block_lt_of_cell? _ _ e0
        simpa [Addr.add] using this
      · obtain ⟨e0, e1, g0, g1⟩ := hx i (by omega)
        obtain ⟨n0, q0, _, _⟩ := DataW.trod_int Try.underlying2 g0
        obtain ⟨n1, q1, _, _⟩ := DataW.trod_int Try.underlying2 g1
        simp at q0 q1
        rw [q0] at e0
        rw [q1] at e1
        simp only [q0, q1, intOf]
        rw [add_plain] at e0 e1
        exact ⟨e0, by rw [Nat.add_assoc]; exact e1⟩
end Go.Proofs.Ytefcecnlgbeclaa
