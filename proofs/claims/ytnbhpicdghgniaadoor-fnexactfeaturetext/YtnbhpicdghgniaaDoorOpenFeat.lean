/- How a feature that came in is read. -/
import Derived.Test.YtnbhpicdghgniaaDoorOpenPts
import Derived.ChangeMaps5
namespace Go.Proofs.YtnbhpicdghgniaaDoor
open Go.ChangeShapes Go.WideShapes Go.ChangeAt Go.RowKit Go.Deep
set_option linter.unusedVariables false
set_option maxRecDepth 100000

theorem trod_pts {H : Type} {enc : TypeId × Value → H} {w : World} {base fuel : Nat} {held : Bool} {cs : List Value} {y : DataW H × List MemPlace}
    (hf : DataW.trod enc Tryd.prog w base (fun _ => true) held fuel 22 cs = some y) :
    ∃ (a : Option Addr) (n cap : Nat) (X Y : Nat → Int), cs = [.slice a n cap] ∧ IsPts w a n X Y ∧ n ≤ cap ∧ cap ≤ maxLen := by
  rcases open_slice_pairs Tryd.underlying22 Tryd.underlying68 cells_lp rfl rfl cells_i64 cells_i64 hf with ⟨hcs, _⟩ | ⟨x, l, c, m, n, V0, V1, D0, D1, P0, P1, hcs, _, hl, hc, hm, _, hx⟩
  · exact ⟨none, 0, 0, fun _ => 0, fun _ => 0, hcs, .inl rfl, Nat.le_refl _, Nat.zero_le _⟩
  · simp at hm
    subst hm
    refine ⟨some x, l, _, fun i => intOf (V0 i), fun i => intOf (V1 i), hcs, ?_, hl, hc⟩
    by_cases h0 : l = 0
    · exact .inl h0
    · right
      obtain ⟨b, off, spot⟩ := x
      obtain ⟨e0, _, _, _⟩ := hx 0 (by omega)
      have hspot : spot = none := by simpa [Addr.add] using World.cell?_spot e0
      subst hspot
      refine ⟨b, off, rfl, ?_, fun i hi => ?_⟩
      · have := World.block_lt_of_cell? _ _ e0
        simpa [Addr.add] using this
      · obtain ⟨e0, e1, g0, g1⟩ := hx i (by omega)
        obtain ⟨n0, q0, _, _⟩ := DataW.trod_int Tryd.underlying2 g0
        obtain ⟨n1, q1, _, _⟩ := DataW.trod_int Tryd.underlying2 g1
        simp at q0 q1
        rw [q0] at e0
        rw [q1] at e1
        simp only [q0, q1, intOf]
        rw [add_plain] at e0 e1
        exact ⟨e0, by rw [Nat.add_assoc]; exact e1⟩
theorem cells_lf : Tryd.prog.cellsOf 24 = 7 := by kernel_rfl
theorem cells_ls : Tryd.prog.cellsOf 22 = 1 := by kernel_rfl
theorem cells_st : Tryd.prog.cellsOf 9 = 1 := by kernel_rfl

/-- Seven cells that read as a feature. -/
theorem trod_feat {H : Type} {enc : TypeId × Value → H} {w : World} {base fuel : Nat} {held : Bool} {cs : List Value} {y : DataW H × List MemPlace}
    (h : DataW.trod enc Tryd.prog w base (fun _ => true) held fuel 24 cs = some y) :
    ∃ (id la ki wi : Int) (a : Option Addr) (n cap : Nat) (X Y : Nat → Int) (lab : ByteArray) (pr : Int), cs = [.int .i64 id, .int .i64 la, .int .i64 ki, .int .i64 wi, .slice a n cap, .string lab, .int .i64 pr] ∧ IsPts w a n X Y ∧ n ≤ cap ∧ cap ≤ maxLen ∧ lab.size ≤ maxLen := by
  obtain ⟨xs, m, rfl, hx, hl, hxl, hf⟩ := DataW.trod_struct Tryd.underlying24 h
  rw [cells_lf] at hl
  have hxl7 : xs.length = 7 := hxl
  match cs, hl with
  | [v0, v1, v2, v3, v4, v5, v6], _ =>
    match xs, hxl7 with
    | [x0, x1, x2, x3, x4, x5, x6], _ =>
      have h0 := hf 0 _ rfl
      have h1 := hf 1 _ rfl
      have h2 := hf 2 _ rfl
      have h3 := hf 3 _ rfl
      have h4 := hf 4 _ rfl
      have h5 := hf 5 _ rfl
      have h6 := hf 6 _ rfl
      simp [cells_i64, cells_ls, cells_st] at h0 h1 h2 h3 h4 h5 h6
      obtain ⟨id, e0, _, _⟩ := DataW.trod_int Tryd.underlying2 h0
      obtain ⟨la, e1, _, _⟩ := DataW.trod_int Tryd.underlying2 h1
      obtain ⟨ki, e2, _, _⟩ := DataW.trod_int Tryd.underlying2 h2
      obtain ⟨wi, e3, _, _⟩ := DataW.trod_int Tryd.underlying2 h3
      obtain ⟨a, n, cap, X, Y, e4, hp, hn, hc⟩ := trod_pts h4
      obtain ⟨lab, e5, _, hs⟩ := DataW.trod_string Tryd.underlying9 h5
      obtain ⟨pr, e6, _, _⟩ := DataW.trod_int Tryd.underlying2 h6
      simp at e0 e1 e2 e3 e4 e5 e6
      subst e0 e1 e2 e3 e4 e5 e6
      exact ⟨id, la, ki, wi, a, n, cap, X, Y, lab, pr, rfl, hp, hn, hc, hs⟩

theorem open_feat {H : Type} {enc : TypeId × Value → H} {w : World} {base b0 : Nat} {held : Bool} {r : Reach} {v : Value} {d : DataW H} {p : List MemPlace}
    (hv : Value.okWide Tryd.prog w r b0 24 v) (h : DataW.Trod enc Tryd.prog w base (fun _ => true) held 24 v d p) :
    ∃ (id la ki wi : Int) (a : Option Addr) (n cap : Nat) (X Y : Nat → Int) (lab : ByteArray) (pr : Int), v = .agg #[.int .i64 id, .int .i64 la, .int .i64 ki, .int .i64 wi, .slice a n cap, .string lab, .int .i64 pr] ∧ (IsPts w a n X Y ∧ n ≤ cap ∧ cap ≤ maxLen ∧ lab.size ≤ maxLen) := by
  obtain ⟨cs, rfl, hsz⟩ := okWide_struct Tryd.underlying24 hv
  obtain ⟨m, h⟩ := h
  obtain ⟨id, la, ki, wi, a, n, cap, X, Y, lab, pr, e, hp⟩ := trod_feat h
  refine ⟨id, la, ki, wi, a, n, cap, X, Y, lab, pr, ?_, hp⟩
  have : cs = #[.int .i64 id, .int .i64 la, .int .i64 ki, .int .i64 wi, .slice a n cap, .string lab, .int .i64 pr] := by
    apply Array.toList_inj.1
    simpa [Value.cells] using e
  rw [this]
end Go.Proofs.YtnbhpicdghgniaaDoor
