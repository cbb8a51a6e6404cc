/- Several texts in one. -/
import Derived.Test.YthadmnhpjklmiaaGreatRows
import Derived.WalkKit
import Derived.Below
import Derived.ProofKit
import Derived.OpenShut
import Derived.ChangeOld
import Derived.Deep.SlicePairs
import Derived.Test.YthadmnhpjklmiaaGreatVBuildTile2
import Derived.ChangeMaps5
import Derived.Test.YthadmnhpjklmiaaGreatVBuildTile6
import Derived.Deep.Slices

/- How a point, a box and a list of points that came in are read. -/

namespace Go.Proofs.YthadmnhpjklmiaaGreat
open Go.ChangeShapes Go.WideShapes Go.ChangeAt Go.RowKit
set_option linter.unusedVariables false
set_option maxRecDepth 100000

theorem own : ownKnob Tryz.prog.godebug = none := by kernel_rfl
theorem laidOut : laidOutB Tryz.prog = true := by kernel_rfl
theorem cells_lp : Tryz.prog.cellsOf 117 = 2 := by kernel_rfl
theorem cells_i64 : Tryz.prog.cellsOf 2 = 1 := by kernel_rfl

/-- Two cells that read as a point. -/
theorem trod_point {H : Type} {enc : TypeId × Value → H} {w : World} {base : Nat} {spare : Nat → Bool} {held : Bool} {n : Nat} {cs : List Value} {x : DataW H × List MemPlace}
    (h : DataW.trod enc Tryz.prog w base spare held n 117 cs = some x) : ∃ a b : Int, cs = [.int .i64 a, .int .i64 b] ∧ (Lit.int .i64 a).wf = true ∧ (Lit.int .i64 b).wf = true := by
  obtain ⟨y0, y1, m, hx, hl, h0, h1⟩ := trod_struct2 Tryz.underlying117 h
  rw [cells_lp] at hl
  match cs, hl with
  | [v0, v1], _ =>
    simp [cells_i64] at h0 h1
    obtain ⟨a, e0, _, wa⟩ := DataW.trod_int Tryz.underlying2 h0
    obtain ⟨b, e1, _, wb⟩ := DataW.trod_int Tryz.underlying2 h1
    simp at e0 e1
    subst e0 e1
    exact ⟨a, b, rfl, wa, wb⟩

theorem open_point {H : Type} {enc : TypeId × Value → H} {w : World} {base b0 : Nat} {spare : Nat → Bool} {held : Bool} {r : Reach} {v : Value} {d : DataW H} {p : List MemPlace}
    (hv : Value.okWide Tryz.prog w r b0 117 v) (h : DataW.Trod enc Tryz.prog w base spare held 117 v d p) :
    ∃ a b : Int, v = .agg #[.int .i64 a, .int .i64 b] ∧ (Lit.int .i64 a).wf = true ∧ (Lit.int .i64 b).wf = true := by
  obtain ⟨cs, rfl, hsz⟩ := okWide_struct Tryz.underlying117 hv
  obtain ⟨n, h⟩ := h
  obtain ⟨a, b, e, wa, wb⟩ := trod_point h
  refine ⟨a, b, ?_, wa, wb⟩
  have : cs = #[.int .i64 a, .int .i64 b] := by
    apply Array.toList_inj.1
    simpa [Value.cells] using e
  rw [this]
end Go.Proofs.YthadmnhpjklmiaaGreat
/- How a list of points that came in is read. -/

namespace Go.Proofs.YthadmnhpjklmiaaGreat
open Go.ChangeShapes Go.WideShapes Go.ChangeAt Go.RowKit Go.Deep
set_option linter.unusedVariables false
set_option maxRecDepth 100000

theorem open_pts {H : Type} {enc : TypeId × Value → H} {w : World} {base b0 : Nat} {held : Bool} {r : Reach} {v : Value} {d : DataW H} {p : List MemPlace}
    (hv : Value.okWide Tryz.prog w r b0 47 v) (h : DataW.Trod enc Tryz.prog w base (fun _ => true) held 47 v d p) :
    ∃ (a : Option Addr) (n cap : Nat) (X Y : Nat → Int), v = .slice a n cap ∧ IsPts w a n X Y ∧ n ≤ cap ∧ cap ≤ maxLen := by
  obtain ⟨a, len, cap, rfl⟩ := okWide_slice Tryz.underlying47 hv
  obtain ⟨fuel, hf⟩ := h
  rcases open_slice_pairs Tryz.underlying47 Tryz.underlying117 cells_lp rfl rfl cells_i64 cells_i64 hf with ⟨hcs, _⟩ | ⟨x, l, c, m, n, V0, V1, D0, D1, P0, P1, hcs, _, hl, hc, hm, _, hx⟩
  · simp [Value.cells] at hcs
    obtain ⟨rfl, rfl, rfl⟩ := hcs
    exact ⟨none, 0, 0, fun _ => 0, fun _ => 0, rfl, .inl rfl, Nat.le_refl _, Nat.zero_le _⟩
  · simp [Value.cells] at hcs
    obtain ⟨rfl, rfl, rfl⟩ := hcs
    simp at hm
    subst hm
    refine ⟨some x, len, _, fun i => intOf (V0 i), fun i => intOf (V1 i), rfl, ?_, hl, hc⟩
    by_cases h0 : len = 0
    · exact .inl h0
    · right
      obtain ⟨b, off, spot⟩ := x
      obtain ⟨e0, _, _, _⟩ := hx 0 (by omega)
      have hspot : spot = none := by simpa [Addr.add] using World.cell?_spot e0
      subst hspot
      refine ⟨b, off, rfl, ?_, fun i hi => ?_⟩
      · have := World.block_lt_of_cell? _ _ e0
        simpa [Addr.add] using this
      · obtain ⟨e0, e1, g0, g1⟩ := hx i (by omega)
        obtain ⟨n0, q0, _, _⟩ := DataW.trod_int Tryz.underlying2 g0
        obtain ⟨n1, q1, _, _⟩ := DataW.trod_int Tryz.underlying2 g1
        simp at q0 q1
        rw [q0] at e0
        rw [q1] at e1
        simp only [q0, q1, intOf]
        rw [add_plain] at e0 e1
        exact ⟨e0, by rw [Nat.add_assoc]; exact e1⟩
end Go.Proofs.YthadmnhpjklmiaaGreat
/- How a feature that came in is read. -/

namespace Go.Proofs.YthadmnhpjklmiaaGreat
open Go.ChangeShapes Go.WideShapes Go.ChangeAt Go.RowKit Go.Deep
set_option linter.unusedVariables false
set_option maxRecDepth 100000

theorem trod_pts {H : Type} {enc : TypeId × Value → H} {w : World} {base fuel : Nat} {held : Bool} {cs : List Value} {y : DataW H × List MemPlace}
    (hf : DataW.trod enc Tryz.prog w base (fun _ => true) held fuel 47 cs = some y) :
    ∃ (a : Option Addr) (n cap : Nat) (X Y : Nat → Int), cs = [.slice a n cap] ∧ IsPts w a n X Y ∧ n ≤ cap ∧ cap ≤ maxLen := by
  rcases open_slice_pairs Tryz.underlying47 Tryz.underlying117 cells_lp rfl rfl cells_i64 cells_i64 hf with ⟨hcs, _⟩ | ⟨x, l, c, m, n, V0, V1, D0, D1, P0, P1, hcs, _, hl, hc, hm, _, hx⟩
  · exact ⟨none, 0, 0, fun _ => 0, fun _ => 0, hcs, .inl rfl, Nat.le_refl _, Nat.zero_le _⟩
  · simp at hm
    subst hm
    refine ⟨some x, l, _, fun i => intOf (V0 i), fun i => intOf (V1 i), hcs, ?_, hl, hc⟩
    by_cases h0 : l = 0
    · exact .inl h0
    · right
      obtain ⟨b, off, spot⟩ := x
      obtain ⟨e0, _, _, _⟩ := hx 0 (by omega)
      have hspot : spot = none := by simpa [Addr.add] using World.cell?_spot e0
      subst hspot
      refine ⟨b, off, rfl, ?_, fun i hi => ?_⟩
      · have := World.block_lt_of_cell? _ _ e0
        simpa [Addr.add] using this
      · obtain ⟨e0, e1, g0, g1⟩ := hx i (by omega)
        obtain ⟨n0, q0, _, _⟩ := DataW.trod_int Tryz.underlying2 g0
        obtain ⟨n1, q1, _, _⟩ := DataW.trod_int Tryz.underlying2 g1
        simp at q0 q1
        rw [q0] at e0
        rw [q1] at e1
        simp only [q0, q1, intOf]
        rw [add_plain] at e0 e1
        exact ⟨e0, by rw [Nat.add_assoc]; exact e1⟩
theorem cells_lf : Tryz.prog.cellsOf 49 = 7 := by kernel_rfl
theorem cells_ls : Tryz.prog.cellsOf 47 = 1 := by kernel_rfl
theorem cells_st : Tryz.prog.cellsOf 9 = 1 := by kernel_rfl

/-- Seven cells that read as a feature. -/
theorem trod_feat {H : Type} {enc : TypeId × Value → H} {w : World} {base fuel : Nat} {held : Bool} {cs : List Value} {y : DataW H × List MemPlace}
    (h : DataW.trod enc Tryz.prog w base (fun _ => true) held fuel 49 cs = some y) :
    ∃ (id la ki wi : Int) (a : Option Addr) (n cap : Nat) (X Y : Nat → Int) (lab : ByteArray) (pr : Int), cs = [.int .i64 id, .int .i64 la, .int .i64 ki, .int .i64 wi, .slice a n cap, .string lab, .int .i64 pr] ∧ IsPts w a n X Y ∧ n ≤ cap ∧ cap ≤ maxLen ∧ lab.size ≤ maxLen := by
  obtain ⟨xs, m, rfl, hx, hl, hxl, hf⟩ := DataW.trod_struct Tryz.underlying49 h
  rw [cells_lf] at hl
  have hxl7 : xs.length = 7 := hxl
  match cs, hl with
  | [v0, v1, v2, v3, v4, v5, v6], _ =>
    match xs, hxl7 with
    | [x0, x1, x2, x3, x4, x5, x6], _ =>
      have h0 := hf 0 _ rfl
      have h1 := hf 1 _ rfl
      have h2 := hf 2 _ rfl
      have h3 := hf 3 _ rfl
      have h4 := hf 4 _ rfl
      have h5 := hf 5 _ rfl
      have h6 := hf 6 _ rfl
      simp [cells_i64, cells_ls, cells_st] at h0 h1 h2 h3 h4 h5 h6
      obtain ⟨id, e0, _, _⟩ := DataW.trod_int Tryz.underlying2 h0
      obtain ⟨la, e1, _, _⟩ := DataW.trod_int Tryz.underlying2 h1
      obtain ⟨ki, e2, _, _⟩ := DataW.trod_int Tryz.underlying2 h2
      obtain ⟨wi, e3, _, _⟩ := DataW.trod_int Tryz.underlying2 h3
      obtain ⟨a, n, cap, X, Y, e4, hp, hn, hc⟩ := trod_pts h4
      obtain ⟨lab, e5, _, hs⟩ := DataW.trod_string Tryz.underlying9 h5
      obtain ⟨pr, e6, _, _⟩ := DataW.trod_int Tryz.underlying2 h6
      simp at e0 e1 e2 e3 e4 e5 e6
      subst e0 e1 e2 e3 e4 e5 e6
      exact ⟨id, la, ki, wi, a, n, cap, X, Y, lab, pr, rfl, hp, hn, hc, hs⟩

theorem open_feat {H : Type} {enc : TypeId × Value → H} {w : World} {base b0 : Nat} {held : Bool} {r : Reach} {v : Value} {d : DataW H} {p : List MemPlace}
    (hv : Value.okWide Tryz.prog w r b0 49 v) (h : DataW.Trod enc Tryz.prog w base (fun _ => true) held 49 v d p) :
    ∃ (id la ki wi : Int) (a : Option Addr) (n cap : Nat) (X Y : Nat → Int) (lab : ByteArray) (pr : Int), v = .agg #[.int .i64 id, .int .i64 la, .int .i64 ki, .int .i64 wi, .slice a n cap, .string lab, .int .i64 pr] ∧ (IsPts w a n X Y ∧ n ≤ cap ∧ cap ≤ maxLen ∧ lab.size ≤ maxLen) := by
  obtain ⟨cs, rfl, hsz⟩ := okWide_struct Tryz.underlying49 hv
  obtain ⟨m, h⟩ := h
  obtain ⟨id, la, ki, wi, a, n, cap, X, Y, lab, pr, e, hp⟩ := trod_feat h
  refine ⟨id, la, ki, wi, a, n, cap, X, Y, lab, pr, ?_, hp⟩
  have : cs = #[.int .i64 id, .int .i64 la, .int .i64 ki, .int .i64 wi, .slice a n cap, .string lab, .int .i64 pr] := by
    apply Array.toList_inj.1
    simpa [Value.cells] using e
  rw [this]
end Go.Proofs.YthadmnhpjklmiaaGreat
/- How a list of features that came in is read. -/

namespace Go.Proofs.YthadmnhpjklmiaaGreat
open Go.ChangeShapes Go.WideShapes Go.ChangeAt Go.RowKit Go.Deep
set_option linter.unusedVariables false
set_option maxRecDepth 100000

theorem open_feats {H : Type} {enc : TypeId × Value → H} {w : World} {base b0 : Nat} {held : Bool} {r : Reach} {v : Value} {d : DataW H} {p : List MemPlace}
    (hv : Value.okWide Tryz.prog w r b0 22 v) (h : DataW.Trod enc Tryz.prog w base (fun _ => true) held 22 v d p) :
    ∃ (a : Option Addr) (n cap : Nat) (F : Nat → Feat), v = .slice a n cap ∧ (IsFs w a n F ∧ CameFs n F) := by
  obtain ⟨a, len, cap, rfl⟩ := okWide_slice Tryz.underlying22 hv
  obtain ⟨fuel, hf⟩ := h
  rcases open_slice Tryz.underlying22 hf with ⟨hcs, _⟩ | ⟨x, l, c, m, n, D, Pl, hcs, _, hl, hc, hm, _, hx⟩
  · simp [Value.cells] at hcs
    obtain ⟨rfl, rfl, rfl⟩ := hcs
    exact ⟨none, 0, 0, fun _ => ⟨0, 0, 0, 0, none, 0, 0, fun _ => 0, fun _ => 0, ⟨#[]⟩, 0⟩, rfl, .inl rfl, Nat.zero_le _, fun i hi => absurd hi (by omega)⟩
  · simp [Value.cells] at hcs
    obtain ⟨rfl, rfl, rfl⟩ := hcs
    simp at hm
    subst hm
    have each : ∀ i, ∃ f : Feat, i < len → (∀ k, k < 7 → w.cell? (x.add (i * 7 + k)) = [Value.int .i64 f.id, .int .i64 f.la, .int .i64 f.ki, .int .i64 f.wi, .slice f.a f.n f.cap, .string f.lab, .int .i64 f.pr][k]?) ∧ IsPts w f.a f.n f.X f.Y ∧ f.n ≤ maxLen ∧ f.lab.size ≤ maxLen := by
      intro i
      by_cases hi : i < len
      · obtain ⟨cs', h1, h2⟩ := hx i (by omega)
        rw [cells_lf] at h1
        obtain ⟨_, hlen, hcell⟩ := World.cells?_some h1
        obtain ⟨id, la, ki, wi, a', n', cap', X, Y, lab, pr, rfl, hp, hn, hcp, hs⟩ := trod_feat h2
        refine ⟨⟨id, la, ki, wi, a', n', cap', X, Y, lab, pr⟩, fun _ => ⟨fun k hk => ?_, hp, Nat.le_trans hn hcp, hs⟩⟩
        have := hcell k hk
        rw [add_add] at this
        exact this
      · exact ⟨⟨0, 0, 0, 0, none, 0, 0, fun _ => 0, fun _ => 0, ⟨#[]⟩, 0⟩, fun h => absurd h hi⟩
    obtain ⟨F, hF⟩ := Classical.skolem.1 each
    refine ⟨some x, len, _, F, rfl, ?_, Nat.le_trans hl hc, fun i hi => (hF i hi).2.2⟩
    by_cases h0 : len = 0
    · exact .inl h0
    · right
      obtain ⟨b, off, spot⟩ := x
      have e0 := (hF 0 (by omega)).1 0 (by omega)
      simp at e0
      have hspot : spot = none := by simpa [Addr.add] using World.cell?_spot e0
      subst hspot
      refine ⟨b, off, rfl, ?_, fun i hi => ?_⟩
      · have := World.block_lt_of_cell? _ _ e0
        simpa [Addr.add] using this
      · obtain ⟨hc7, hp, _, _⟩ := hF i hi
        refine ⟨?_, hp⟩
        have k0 := hc7 0 (by omega)
        have k1 := hc7 1 (by omega)
        have k2 := hc7 2 (by omega)
        have k3 := hc7 3 (by omega)
        have k4 := hc7 4 (by omega)
        have k5 := hc7 5 (by omega)
        have k6 := hc7 6 (by omega)
        rw [add_plain] at k0 k1 k2 k3 k4 k5 k6
        simp only [← Nat.add_assoc, Nat.add_zero] at k0 k1 k2 k3 k4 k5 k6
        exact ⟨k0, k1, k2, k3, k4, k5, k6⟩
end Go.Proofs.YthadmnhpjklmiaaGreat
/- How a ref and a camera that came in beside features are read. -/

namespace Go.Proofs.YthadmnhpjklmiaaGreat
open Go.ChangeShapes Go.WideShapes Go.ChangeAt Go.RowKit Go.Deep
set_option linter.unusedVariables false
set_option maxRecDepth 100000

theorem cells_lr : Tryz.prog.cellsOf 24 = 3 := by kernel_rfl
/-- Three cells that read as a ref. -/
theorem trod_ref {H : Type} {enc : TypeId × Value → H} {w : World} {base : Nat} {spare : Nat → Bool} {held : Bool} {n : Nat} {cs : List Value} {x : DataW H × List MemPlace}
    (h : DataW.trod enc Tryz.prog w base spare held n 24 cs = some x) : ∃ a b c : Int, cs = [.int .i64 a, .int .i64 b, .int .i64 c] := by
  obtain ⟨xs, m, rfl, hx, hl, hxl, hf⟩ := DataW.trod_struct Tryz.underlying24 h
  rw [cells_lr] at hl
  have hxl3 : xs.length = 3 := hxl
  match cs, hl with
  | [v0, v1, v2], _ =>
    match xs, hxl3 with
    | [x0, x1, x2], _ =>
      have h0 := hf 0 _ rfl
      have h1 := hf 1 _ rfl
      have h2 := hf 2 _ rfl
      simp [cells_i64] at h0 h1 h2
      obtain ⟨a, e0, _, _⟩ := DataW.trod_int Tryz.underlying2 h0
      obtain ⟨b, e1, _, _⟩ := DataW.trod_int Tryz.underlying2 h1
      obtain ⟨c, e2, _, _⟩ := DataW.trod_int Tryz.underlying2 h2
      simp at e0 e1 e2
      subst e0 e1 e2
      exact ⟨a, b, c, rfl⟩
theorem open_ref {H : Type} {enc : TypeId × Value → H} {w : World} {base b0 : Nat} {spare : Nat → Bool} {held : Bool} {r : Reach} {v : Value} {d : DataW H} {p : List MemPlace}
    (hv : Value.okWide Tryz.prog w r b0 24 v) (h : DataW.Trod enc Tryz.prog w base spare held 24 v d p) :
    ∃ a b c : Int, v = .agg #[.int .i64 a, .int .i64 b, .int .i64 c] := by
  obtain ⟨cs, rfl, hsz⟩ := okWide_struct Tryz.underlying24 hv
  obtain ⟨n, h⟩ := h
  obtain ⟨a, b, c, e⟩ := trod_ref h
  refine ⟨a, b, c, ?_⟩
  have : cs = #[.int .i64 a, .int .i64 b, .int .i64 c] := by
    apply Array.toList_inj.1
    simpa [Value.cells] using e
  rw [this]
end Go.Proofs.YthadmnhpjklmiaaGreat
