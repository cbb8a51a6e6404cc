/- How a tile that came in is read. -/
import Derived.Test.YtiheemnjfihhfaaGreatVRasterTile51
namespace Go.Proofs.YtiheemnjfihhfaaGreat
open Go.ChangeShapes Go.WideShapes Go.ChangeAt Go.RowKit Go.Deep
set_option linter.unusedVariables false
set_option linter.unusedSimpArgs false
set_option maxRecDepth 100000

theorem trod_feats {H : Type} {enc : TypeId × Value → H} {w : World} {base fuel : Nat} {held : Bool} {cs : List Value} {y : DataW H × List MemPlace}
    (hf : DataW.trod enc Tryz.prog w base (fun _ => true) held fuel 24 cs = some y) :
    ∃ (a : Option Addr) (n cap : Nat) (F : Nat → Feat), cs = [.slice a n cap] ∧ (IsFs w a n F ∧ CameFs n F) := by
  rcases open_slice Tryz.underlying24 hf with ⟨hcs, _⟩ | ⟨x, len, c, m, n, D, Pl, hcs, _, hl, hc, hm, _, hx⟩
  · exact ⟨none, 0, 0, fun _ => ⟨0, 0, 0, 0, none, 0, 0, fun _ => 0, fun _ => 0, ⟨#[]⟩, 0⟩, hcs, .inl rfl, Nat.zero_le _, fun i hi => absurd hi (by omega)⟩
  · simp at hm
    subst hm
    have each : ∀ i, ∃ f : Feat, i < len → (∀ k, k < 7 → w.cell? (x.add (i * 7 + k)) = [Value.int .i64 f.id, .int .i64 f.la, .int .i64 f.ki, .int .i64 f.wi, .slice f.a f.n f.cap, .string f.lab, .int .i64 f.pr][k]?) ∧ IsPts w f.a f.n f.X f.Y ∧ f.n ≤ maxLen ∧ f.lab.size ≤ maxLen := by
      intro i
      by_cases hi : i < len
      · obtain ⟨cs', h1, h2⟩ := hx i (by omega)
        rw [cells_lf] at h1
        obtain ⟨_, hlen, hcell⟩ := World.cells?_some h1
        obtain ⟨id, la, ki, wi, a', n', cap', X, Y, lab, pr, rfl, hp, hn, hcp, hs⟩ := trod_feat h2
        refine ⟨⟨id, la, ki, wi, a', n', cap', X, Y, lab, pr⟩, fun _ => ⟨fun k hk => ?_, hp, Nat.le_trans hn hcp, hs⟩⟩
        have := hcell k hk
        rw [add_add] at this
        exact this
      · exact ⟨⟨0, 0, 0, 0, none, 0, 0, fun _ => 0, fun _ => 0, ⟨#[]⟩, 0⟩, fun h => absurd h hi⟩
    obtain ⟨F, hF⟩ := Classical.skolem.1 each
    refine ⟨some x, len, _, F, hcs, ?_, Nat.le_trans hl hc, fun i hi => (hF i hi).2.2⟩
    by_cases h0 : len = 0
    · exact .inl h0
    · right
      obtain ⟨b, off, spot⟩ := x
      have e0 := (hF 0 (by omega)).1 0 (by omega)
      simp at e0
      have hspot : spot = none := by simpa [Addr.add] using World.cell?_spot e0
      subst hspot
      refine ⟨b, off, rfl, ?_, fun i hi => ?_⟩
      · have := World.block_lt_of_cell? _ _ e0
        simpa [Addr.add] using this
      · obtain ⟨hc7, hp, _, _⟩ := hF i hi
        refine ⟨?_, hp⟩
        have k0 := hc7 0 (by omega)
        have k1 := hc7 1 (by omega)
        have k2 := hc7 2 (by omega)
        have k3 := hc7 3 (by omega)
        have k4 := hc7 4 (by omega)
        have k5 := hc7 5 (by omega)
        have k6 := hc7 6 (by omega)
        rw [add_plain] at k0 k1 k2 k3 k4 k5 k6
        simp only [← Nat.add_assoc, Nat.add_zero] at k0 k1 k2 k3 k4 k5 k6
        exact ⟨k0, k1, k2, k3, k4, k5, k6⟩
theorem cells_lrT : Tryz.prog.cellsOf 23 = 3 := by kernel_rfl
theorem cells_lfs : Tryz.prog.cellsOf 24 = 1 := by kernel_rfl
theorem cells_lt : Tryz.prog.cellsOf 26 = 4 := by kernel_rfl
theorem trod_refT {H : Type} {enc : TypeId × Value → H} {w : World} {base : Nat} {spare : Nat → Bool} {held : Bool} {n : Nat} {cs : List Value} {x : DataW H × List MemPlace}
    (h : DataW.trod enc Tryz.prog w base spare held n 23 cs = some x) : ∃ a b c : Int, cs = [.int .i64 a, .int .i64 b, .int .i64 c] := by
  obtain ⟨xs, m, rfl, hx, hl, hxl, hf⟩ := DataW.trod_struct Tryz.underlying23 h
  rw [cells_lrT] at hl
  have hxl3 : xs.length = 3 := hxl
  match cs, hl with
  | [v0, v1, v2], _ =>
    match xs, hxl3 with
    | [x0, x1, x2], _ =>
      have h0 := hf 0 _ rfl
      have h1 := hf 1 _ rfl
      have h2 := hf 2 _ rfl
      simp [cells_i64] at h0 h1 h2
      obtain ⟨a, e0, _, _⟩ := DataW.trod_int Tryz.underlying2 h0
      obtain ⟨b, e1, _, _⟩ := DataW.trod_int Tryz.underlying2 h1
      obtain ⟨c, e2, _, _⟩ := DataW.trod_int Tryz.underlying2 h2
      simp at e0 e1 e2
      subst e0 e1 e2
      exact ⟨a, b, c, rfl⟩
theorem open_tile {H : Type} {enc : TypeId × Value → H} {w : World} {base b0 : Nat} {held : Bool} {r : Reach} {v : Value} {d : DataW H} {p : List MemPlace}
    (hv : Value.okWide Tryz.prog w r b0 26 v) (h : DataW.Trod enc Tryz.prog w base (fun _ => true) held 26 v d p) :
    ∃ (z x y : Int) (a : Option Addr) (n cap : Nat) (F : Nat → Feat), v = .agg #[.int .i64 z, .int .i64 x, .int .i64 y, .slice a n cap] ∧ (IsFs w a n F ∧ CameFs n F) := by
  obtain ⟨cs, rfl, hsz⟩ := okWide_struct Tryz.underlying26 hv
  obtain ⟨n, h⟩ := h
  obtain ⟨y0, y1, m, hx, hl, h0, h1⟩ := trod_struct2 Tryz.underlying26 h
  simp only [cells_lrT, cells_lfs] at h0 h1
  obtain ⟨z, x, y, e0⟩ := trod_refT h0
  obtain ⟨a, k, cap, F, e1, hF⟩ := trod_feats h1
  refine ⟨z, x, y, a, k, cap, F, ?_, hF⟩
  have hz : cs.size = 4 := by rw [hsz]; exact cells_lt
  have : cs = #[.int .i64 z, .int .i64 x, .int .i64 y, .slice a k cap] := by
    apply Array.toList_inj.1
    simp only [Value.cells] at e0 e1
    have hlen : cs.toList.length = 4 := by simpa using hz
    match hcs : cs.toList, hlen with
    | [v0, v1, v2, v3], _ =>
      rw [hcs] at e0 e1
      simp at e0 e1
      simp [e0, e1]
  rw [this]
end Go.Proofs.YtiheemnjfihhfaaGreat
