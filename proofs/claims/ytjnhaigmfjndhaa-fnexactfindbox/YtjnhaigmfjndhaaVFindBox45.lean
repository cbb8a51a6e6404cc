/- How a list of entries that came in is read. -/
import Derived.Test.YtjnhaigmfjndhaaVFindBox44
import Derived.Test.YtjnhaigmfjndhaaVFindBox7
import Derived.Deep.Slices
import Derived.Deep.SlicePairs
namespace Go.Proofs.Ytjnhaigmfjndhaa
open Go.ChangeShapes Go.WideShapes Go.ChangeAt Go.RowKit Go.Deep
set_option linter.unusedVariables false
set_option maxRecDepth 100000

theorem cells_le : Try.prog.cellsOf 98 = 5 := by kernel_rfl
theorem trod_box {H : Type} {enc : TypeId × Value → H} {w : World} {base : Nat} {spare : Nat → Bool} {held : Bool} {n : Nat} {cs : List Value} {x : DataW H × List MemPlace}
    (h : DataW.trod enc Try.prog w base spare held n 26 cs = some x) : ∃ a b c d : Int, cs = [.int .i64 a, .int .i64 b, .int .i64 c, .int .i64 d] := by
  obtain ⟨y0, y1, m, hx, hl, h0, h1⟩ := trod_struct2 Try.underlying26 h
  rw [cells_lb] at hl
  match cs, hl with
  | [v0, v1, v2, v3], _ =>
    simp only [cells_lp] at h0 h1
    obtain ⟨a, b, e0, _, _⟩ := trod_point h0
    obtain ⟨c, d, e1, _, _⟩ := trod_point h1
    simp at e0 e1
    exact ⟨a, b, c, d, by simp [e0, e1]⟩
theorem trod_ent {H : Type} {enc : TypeId × Value → H} {w : World} {base : Nat} {spare : Nat → Bool} {held : Bool} {n : Nat} {cs : List Value} {x : DataW H × List MemPlace}
    (h : DataW.trod enc Try.prog w base spare held n 98 cs = some x) : ∃ e : Ent, cs = [.int .i64 e.id, .int .i64 e.a, .int .i64 e.b, .int .i64 e.c, .int .i64 e.d] := by
  obtain ⟨y0, y1, m, hx, hl, h0, h1⟩ := trod_struct2 Try.underlying98 h
  rw [cells_le] at hl
  match cs, hl with
  | [v0, v1, v2, v3, v4], _ =>
    simp only [cells_lb, cells_i64] at h0 h1
    obtain ⟨i, e0, _, _⟩ := DataW.trod_int Try.underlying2 h0
    obtain ⟨a, b, c, d, e1⟩ := trod_box h1
    simp at e0 e1
    exact ⟨⟨i, a, b, c, d⟩, by simp [e0, e1]⟩
theorem trod_ents {H : Type} {enc : TypeId × Value → H} {w : World} {base fuel : Nat} {held : Bool} {cs : List Value} {y : DataW H × List MemPlace}
    (hf : DataW.trod enc Try.prog w base (fun _ => true) held fuel 51 cs = some y) :
    ∃ (a : Option Addr) (n cap : Nat) (E : Nat → Ent), cs = [.slice a n cap] ∧ (IsEs w a n E ∧ n ≤ cap ∧ cap ≤ maxLen) := by
  rcases open_slice Try.underlying51 hf with ⟨hcs, _⟩ | ⟨x, l, c, m, n, D, Pl, hcs, _, hl, hc, hm, _, hx⟩
  · exact ⟨none, 0, 0, fun _ => ⟨0, 0, 0, 0, 0⟩, hcs, .inl rfl, Nat.le_refl _, Nat.zero_le _⟩
  · simp at hm
    subst hm
    have each : ∀ i, ∃ e : Ent, i < l → ∀ k, k < 5 → w.cell? (x.add (i * 5 + k)) = [Value.int .i64 e.id, .int .i64 e.a, .int .i64 e.b, .int .i64 e.c, .int .i64 e.d][k]? := by
      intro i
      by_cases hi : i < l
      · obtain ⟨cs', h1, h2⟩ := hx i (by omega)
        rw [cells_le] at h1
        obtain ⟨_, hlen, hcell⟩ := World.cells?_some h1
        obtain ⟨e, rfl⟩ := trod_ent h2
        refine ⟨e, fun _ k hk => ?_⟩
        have := hcell k hk
        rw [add_add] at this
        exact this
      · exact ⟨⟨0, 0, 0, 0, 0⟩, fun h => absurd h hi⟩
    obtain ⟨E, hE⟩ := Classical.skolem.1 each
    refine ⟨some x, l, _, E, hcs, ?_, hl, hc⟩
    by_cases h0 : l = 0
    · exact .inl h0
    · right
      obtain ⟨b, off, spot⟩ := x
      have e0 := hE 0 (by omega) 0 (by omega)
      simp at e0
      have hspot : spot = none := by simpa [Addr.add] using World.cell?_spot e0
      subst hspot
      refine ⟨b, off, rfl, ?_, fun i hi => ?_⟩
      · have := World.block_lt_of_cell? _ _ e0
        simpa [Addr.add] using this
      · have hc5 := hE i hi
        have k0 := hc5 0 (by omega)
        have k1 := hc5 1 (by omega)
        have k2 := hc5 2 (by omega)
        have k3 := hc5 3 (by omega)
        have k4 := hc5 4 (by omega)
        rw [add_plain] at k0 k1 k2 k3 k4
        simp only [← Nat.add_assoc, Nat.add_zero] at k0 k1 k2 k3 k4
        exact ⟨k0, k1, k2, k3, k4⟩
theorem open_ents {H : Type} {enc : TypeId × Value → H} {w : World} {base b0 : Nat} {held : Bool} {r : Reach} {v : Value} {d : DataW H} {p : List MemPlace}
    (hv : Value.okWide Try.prog w r b0 51 v) (h : DataW.Trod enc Try.prog w base (fun _ => true) held 51 v d p) :
    ∃ (a : Option Addr) (n cap : Nat) (E : Nat → Ent), v = .slice a n cap ∧ (IsEs w a n E ∧ n ≤ cap ∧ cap ≤ maxLen) := by
  obtain ⟨a, len, cap, rfl⟩ := okWide_slice Try.underlying51 hv
  obtain ⟨fuel, hf⟩ := h
  obtain ⟨a', n', cap', E, hcs, hr⟩ := trod_ents hf
  simp [Value.cells] at hcs
  obtain ⟨rfl, rfl, rfl⟩ := hcs
  exact ⟨a, len, cap, E, rfl, hr⟩
end Go.Proofs.Ytjnhaigmfjndhaa
