/- How a list of quads that came in is read. -/
import Derived.Test.YtjnhaigmfjndhaaVFindBox45
import Derived.Test.YtjnhaigmfjndhaaVFindBox38
import Derived.ChangeMaps5
namespace Go.Proofs.Ytjnhaigmfjndhaa
open Go.ChangeShapes Go.WideShapes Go.ChangeAt Go.RowKit Go.Deep
set_option linter.unusedVariables false
set_option maxRecDepth 100000

theorem cells_lq : Try.prog.cellsOf 53 = 7 := by kernel_rfl
theorem cells_les : Try.prog.cellsOf 51 = 1 := by kernel_rfl
/-- Seven cells that read as a quad. -/
theorem trod_quad {H : Type} {enc : TypeId × Value → H} {w : World} {base fuel : Nat} {held : Bool} {cs : List Value} {y : DataW H × List MemPlace}
    (h : DataW.trod enc Try.prog w base (fun _ => true) held fuel 53 cs = some y) :
    ∃ q : Qd, cs = [.int .i64 q.a, .int .i64 q.b, .int .i64 q.c, .int .i64 q.d, .int .i64 q.dp, .int .i64 q.fi, .slice q.ea q.en q.ec] ∧ IsEs w q.ea q.en q.E ∧ q.en ≤ maxLen := by
  obtain ⟨xs, m, rfl, hx, hl, hxl, hf⟩ := DataW.trod_struct Try.underlying53 h
  rw [cells_lq] at hl
  have hxl4 : xs.length = 4 := hxl
  match cs, hl with
  | [v0, v1, v2, v3, v4, v5, v6], _ =>
    match xs, hxl4 with
    | [x0, x1, x2, x3], _ =>
      have h0 := hf 0 _ rfl
      have h1 := hf 1 _ rfl
      have h2 := hf 2 _ rfl
      have h3 := hf 3 _ rfl
      simp [cells_i64, cells_les, cells_lb] at h0 h1 h2 h3
      obtain ⟨a, b, c, d, e0⟩ := trod_box h0
      obtain ⟨dp, e1, _, _⟩ := DataW.trod_int Try.underlying2 h1
      obtain ⟨fi, e2, _, _⟩ := DataW.trod_int Try.underlying2 h2
      obtain ⟨ea, en, ec, E, e3, hp, hn, hc⟩ := trod_ents h3
      simp at e0 e1 e2 e3
      obtain ⟨rfl, rfl, rfl, rfl⟩ := e0
      subst e1 e2 e3
      exact ⟨⟨a, b, c, d, dp, fi, ea, en, ec, E⟩, rfl, hp, Nat.le_trans hn hc⟩

theorem open_quads {H : Type} {enc : TypeId × Value → H} {w : World} {base b0 : Nat} {held : Bool} {r : Reach} {v : Value} {d : DataW H} {p : List MemPlace}
    (hv : Value.okWide Try.prog w r b0 22 v) (h : DataW.Trod enc Try.prog w base (fun _ => true) held 22 v d p) :
    ∃ (a : Option Addr) (n cap : Nat) (Q : Nat → Qd), v = .slice a n cap ∧ (IsQs w a n Q ∧ CameQs n Q) := by
  obtain ⟨a, len, cap, rfl⟩ := okWide_slice Try.underlying22 hv
  obtain ⟨fuel, hf⟩ := h
  rcases open_slice Try.underlying22 hf with ⟨hcs, _⟩ | ⟨x, l, c, m, n, D, Pl, hcs, _, hl, hc, hm, _, hx⟩
  · simp [Value.cells] at hcs
    obtain ⟨rfl, rfl, rfl⟩ := hcs
    exact ⟨none, 0, 0, fun _ => ⟨0, 0, 0, 0, 0, 0, none, 0, 0, fun _ => ⟨0, 0, 0, 0, 0⟩⟩, rfl, .inl rfl, Nat.zero_le _, fun i hi => absurd hi (by omega)⟩
  · simp [Value.cells] at hcs
    obtain ⟨rfl, rfl, rfl⟩ := hcs
    simp at hm
    subst hm
    have each : ∀ i, ∃ q : Qd, i < len → (∀ k, k < 7 → w.cell? (x.add (i * 7 + k)) = [Value.int .i64 q.a, .int .i64 q.b, .int .i64 q.c, .int .i64 q.d, .int .i64 q.dp, .int .i64 q.fi, .slice q.ea q.en q.ec][k]?) ∧ IsEs w q.ea q.en q.E ∧ q.en ≤ maxLen := by
      intro i
      by_cases hi : i < len
      · obtain ⟨cs', h1, h2⟩ := hx i (by omega)
        rw [cells_lq] at h1
        obtain ⟨_, hlen, hcell⟩ := World.cells?_some h1
        obtain ⟨q, rfl, hp, hn⟩ := trod_quad h2
        refine ⟨q, fun _ => ⟨fun k hk => ?_, hp, hn⟩⟩
        have := hcell k hk
        rw [add_add] at this
        exact this
      · exact ⟨⟨0, 0, 0, 0, 0, 0, none, 0, 0, fun _ => ⟨0, 0, 0, 0, 0⟩⟩, fun h => absurd h hi⟩
    obtain ⟨Q, hQ⟩ := Classical.skolem.1 each
    refine ⟨some x, len, _, Q, rfl, ?_, Nat.le_trans hl hc, fun i hi => (hQ i hi).2.2⟩
    by_cases h0 : len = 0
    · exact .inl h0
    · right
      obtain ⟨b, off, spot⟩ := x
      have e0 := (hQ 0 (by omega)).1 0 (by omega)
      simp at e0
      have hspot : spot = none := by simpa [Addr.add] using World.cell?_spot e0
      subst hspot
      refine ⟨b, off, rfl, ?_, fun i hi => ?_⟩
      · have := World.block_lt_of_cell? _ _ e0
        simpa [Addr.add] using this
      · obtain ⟨hc7, hp, _⟩ := hQ i hi
        refine ⟨?_, hp⟩
        have k0 := hc7 0 (by omega)
        have k1 := hc7 1 (by omega)
        have k2 := hc7 2 (by omega)
        have k3 := hc7 3 (by omega)
        have k4 := hc7 4 (by omega)
        have k5 := hc7 5 (by omega)
        have k6 := hc7 6 (by omega)
        rw [add_plain] at k0 k1 k2 k3 k4 k5 k6
        simp only [← Nat.add_assoc, Nat.add_zero] at k0 k1 k2 k3 k4 k5 k6
        exact ⟨k0, k1, k2, k3, k4, k5, k6⟩
end Go.Proofs.Ytjnhaigmfjndhaa
