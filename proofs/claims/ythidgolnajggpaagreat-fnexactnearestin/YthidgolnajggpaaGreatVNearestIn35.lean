/- Several texts in one. -/
import Derived.Test.YthidgolnajggpaaGreatVNearestIn34
import Derived.Maps.OwnSet
import Derived.DeepKeys4
import Derived.Test.YthidgolnajggpaaGreatVNearestIn8

/- Refs as keys of a map. -/

namespace Go.Proofs.YthidgolnajggpaaGreat
open Go.RowKit
set_option linter.unusedSimpArgs false
set_option linter.unusedVariables false
set_option maxRecDepth 100000

theorem laid_k : laidOutB Tryz.prog = true := by kernel_rfl
theorem row_ref : (28 : TypeId) < Tryz.prog.types.size := of_decide_eq_true (by kernel_rfl)
theorem wide_ref : (match Tryz.prog.underlying 28 with | some (.array _ _) | some (.struct _) => true | _ => false) = true := by kernel_rfl
theorem law_ref : WideMaps.KeyLaw Tryz.prog 28 := deep_law_laid laid_k (m := 3) (by omega) row_ref (by kernel_rfl) wide_ref
theorem keyed_ref : Go.Maps.Keyed Tryz.prog 28 := Go.Maps.Keyed.of_law law_ref
/-- A number that an int64 holds. -/
def I64 (z : Int) : Prop := (Lit.int .i64 z).wf = true
theorem cells_ref : Tryz.prog.cellsOf 28 = 3 := by kernel_rfl
theorem cells_i64k : Tryz.prog.cellsOf 2 = 1 := by kernel_rfl
theorem under_i64 : Tryz.prog.underlying 2 = some (.int .i64) := by kernel_rfl
theorem keyT_ref : Tryz.prog.keyType 28 = true := by kernel_rfl
theorem types_succ : ∃ m, Tryz.prog.types.size = m + 1 := ⟨_, (Nat.succ_pred_eq_of_pos (Nat.lt_of_le_of_lt (Nat.zero_le _) row_ref)).symm⟩
/-- What a ref reads as. -/
def keyL (z x y : Int) : Lit := .string (keyBytes [.int .i64 z, .int .i64 x, .int .i64 y])
theorem key_ref {z x y : Int} (hz : I64 z) (hx : I64 x) (hy : I64 y) : keyOf Tryz.prog 28 (refV z x y) = some (keyL z x y) := by
  unfold I64 at hz hx hy
  obtain ⟨m, hm⟩ := types_succ
  have hi : ∀ a : Int, (Lit.int .i64 a).wf = true → Tryz.prog.keyLits (m + 1) 2 [.int .i64 a] = some [.int .i64 a] := fun a ha => by
    simp [Program.keyLits, under_i64, ha]
  have hk : Tryz.prog.keyLits (m + 1 + 1) 28 [.int .i64 z, .int .i64 x, .int .i64 y] = some [.int .i64 z, .int .i64 x, .int .i64 y] := by
    unfold Program.keyLits
    simp [Tryz.underlying28, cells_ref, cells_i64k, hi z hz, hi x hx, hi y hy]
  unfold keyOf
  rw [Tryz.underlying28]
  simp [keyT_ref, Value.formed, Tryz.underlying28, cells_ref, Value.cells, hm, hk, keyL]
theorem key_inj {z x y z' x' y' : Int} (hz : I64 z) (hx : I64 x) (hy : I64 y) (hz' : I64 z') (hx' : I64 x') (hy' : I64 y') (h : keyL z x y = keyL z' x' y') : z = z' ∧ x = x' ∧ y = y' := by
  have := keyed_ref.inj (key_ref hz hx hy) (by rw [h]; exact key_ref hz' hx' hy')
  simpa using this
theorem keyL_is (z x y : Int) : WideAt.IsKeyLit (keyL z x y) := trivial
end Go.Proofs.YthidgolnajggpaaGreat
/- How a cache, and a ref, that came in are read. -/

namespace Go.Proofs.YthidgolnajggpaaGreat
open Go.ChangeShapes Go.WideShapes Go.ChangeAt Go.RowKit Go.Deep
set_option linter.unusedVariables false
set_option linter.unusedSimpArgs false
set_option maxRecDepth 100000

theorem trod_tile {H : Type} {enc : TypeId × Value → H} {w : World} {base fuel : Nat} {held : Bool} {cs : List Value} {y : DataW H × List MemPlace}
    (h : DataW.trod enc Tryz.prog w base (fun _ => true) held fuel 42 cs = some y) :
    ∃ (z x y : Int) (a : Option Addr) (n cap : Nat) (F : Nat → Feat), cs = [.int .i64 z, .int .i64 x, .int .i64 y, .slice a n cap] ∧ (IsFs w a n F ∧ CameFs n F) := by
  obtain ⟨y0, y1, m, hx, hl, h0, h1⟩ := trod_struct2 Tryz.underlying42 h
  simp only [cells_lrT, cells_lfs] at h0 h1
  obtain ⟨z, x, y, e0⟩ := trod_refT h0
  obtain ⟨a, k, cap, F, e1, hF⟩ := trod_feats h1
  refine ⟨z, x, y, a, k, cap, F, ?_, hF⟩
  have hlen : cs.length = 4 := by rw [hl]; exact cells_lt
  match cs, hlen with
  | [v0, v1, v2, v3], _ =>
    simp at e0 e1
    simp [e0, e1]
theorem trod_nums {H : Type} {enc : TypeId × Value → H} {w : World} {base fuel : Nat} {held : Bool} {cs : List Value} {y : DataW H × List MemPlace}
    (h : DataW.trod enc Tryz.prog w base (fun _ => true) held fuel 63 cs = some y) :
    ∃ (a : Option Addr) (n cap : Nat) (Z : Nat → Int), cs = [.slice a n cap] ∧ (IsNs w a n Z ∧ n ≤ maxLen) := by
  rcases open_ints Tryz.underlying63 Tryz.underlying2 (by kernel_rfl) h with ⟨hcs, _⟩ | ⟨x, l, c, zs, hcs, _, hl, hm, hz, _, hcell, hwz⟩
  · exact ⟨none, 0, 0, fun _ => 0, hcs, .inl rfl, Nat.zero_le _⟩
  · have hz' : zs.length = c := by simpa using hz
    refine ⟨some x, l, c, fun i => zs.getD i 0, hcs, ?_, Nat.le_trans hl hm⟩
    by_cases h0 : l = 0
    · exact .inl h0
    · right
      obtain ⟨b, off, spot⟩ := x
      have e0 := hcell 0 (by omega)
      have hspot : spot = none := by simpa [Addr.add] using World.cell?_spot e0
      subst hspot
      refine ⟨b, off, rfl, ?_, fun i hi => ?_⟩
      · have := World.block_lt_of_cell? _ _ e0
        simpa [Addr.add] using this
      · have := hcell i (by omega)
        have e : (⟨b, off, none⟩ : Addr).add i = ⟨b, off + i, none⟩ := by
          unfold Addr.add
          by_cases h : i = 0 <;> simp [h]
        rw [e] at this
        exact this
theorem cells_ns : Tryz.prog.cellsOf 63 = 1 := by kernel_rfl
theorem cells_lk : Tryz.prog.cellsOf 94 = 5 := by kernel_rfl
theorem cells_lks : Tryz.prog.cellsOf 22 = 1 := by kernel_rfl
theorem cells_lc : Tryz.prog.cellsOf 24 = 2 := by kernel_rfl
theorem trod_kept {H : Type} {enc : TypeId × Value → H} {w : World} {base fuel : Nat} {held : Bool} {cs : List Value} {y : DataW H × List MemPlace}
    (h : DataW.trod enc Tryz.prog w base (fun _ => true) held fuel 94 cs = some y) :
    ∃ k : Kp, cs = [.int .i64 k.z, .int .i64 k.x, .int .i64 k.y, .slice k.fa k.fn k.fc, .slice k.ia k.m k.ic] ∧ (KpIs w k ∧ CameK k) := by
  obtain ⟨y0, y1, m, hx, hl, h0, h1⟩ := trod_struct2 Tryz.underlying94 h
  simp only [cells_lt, cells_ns] at h0 h1
  obtain ⟨z, x, y, a, n, cap, F, e0, hF⟩ := trod_tile h0
  obtain ⟨ia, k, ic, Z, e1, hZ⟩ := trod_nums h1
  refine ⟨⟨z, x, y, a, n, cap, F, ia, k, ic, Z⟩, ?_, ⟨hF.1, hZ.1⟩, hF.2, hZ.2⟩
  have hlen : cs.length = 5 := by rw [hl]; exact cells_lk
  match cs, hlen with
  | [v0, v1, v2, v3, v4], _ =>
    simp at e0 e1
    simp [e0, e1]
theorem trod_kepts {H : Type} {enc : TypeId × Value → H} {w : World} {base fuel : Nat} {held : Bool} {cs : List Value} {y : DataW H × List MemPlace}
    (hf : DataW.trod enc Tryz.prog w base (fun _ => true) held fuel 22 cs = some y) :
    ∃ (a : Option Addr) (n cap : Nat) (K : Nat → Kp), cs = [.slice a n cap] ∧ (IsKs w a n K ∧ CameKs n K) := by
  rcases open_slice Tryz.underlying22 hf with ⟨hcs, _⟩ | ⟨x, l, c, m, n, D, Pl, hcs, _, hl, hc, hm, _, hx⟩
  · exact ⟨none, 0, 0, fun _ => ⟨0, 0, 0, none, 0, 0, fun _ => ⟨0, 0, 0, 0, none, 0, 0, fun _ => 0, fun _ => 0, ⟨#[]⟩, 0⟩, none, 0, 0, fun _ => 0⟩, hcs, .inl rfl, Nat.zero_le _, fun i hi => absurd hi (by omega)⟩
  · simp at hm
    subst hm
    have each : ∀ i, ∃ e : Kp, i < l → (∀ k, k < 5 → w.cell? (x.add (i * 5 + k)) = [Value.int .i64 e.z, .int .i64 e.x, .int .i64 e.y, .slice e.fa e.fn e.fc, .slice e.ia e.m e.ic][k]?) ∧ KpIs w e ∧ CameK e := by
      intro i
      by_cases hi : i < l
      · obtain ⟨cs', h1, h2⟩ := hx i (by omega)
        rw [cells_lk] at h1
        obtain ⟨_, hlen, hcell⟩ := World.cells?_some h1
        obtain ⟨e, rfl, hk⟩ := trod_kept h2
        refine ⟨e, fun _ => ⟨fun k hk => ?_, hk⟩⟩
        have := hcell k hk
        rw [add_add] at this
        exact this
      · exact ⟨⟨0, 0, 0, none, 0, 0, fun _ => ⟨0, 0, 0, 0, none, 0, 0, fun _ => 0, fun _ => 0, ⟨#[]⟩, 0⟩, none, 0, 0, fun _ => 0⟩, fun h => absurd h hi⟩
    obtain ⟨K, hK⟩ := Classical.skolem.1 each
    refine ⟨some x, l, _, K, hcs, ?_, Nat.le_trans hl hc, fun i hi => (hK i hi).2.2⟩
    by_cases h0 : l = 0
    · exact .inl h0
    · right
      obtain ⟨b, off, spot⟩ := x
      have e0 := (hK 0 (by omega)).1 0 (by omega)
      simp at e0
      have hspot : spot = none := by simpa [Addr.add] using World.cell?_spot e0
      subst hspot
      refine ⟨b, off, rfl, ?_, fun i hi => ?_⟩
      · have := World.block_lt_of_cell? _ _ e0
        simpa [Addr.add] using this
      · obtain ⟨hc5, hp, _⟩ := hK i hi
        refine ⟨?_, hp⟩
        have k0 := hc5 0 (by omega)
        have k1 := hc5 1 (by omega)
        have k2 := hc5 2 (by omega)
        have k3 := hc5 3 (by omega)
        have k4 := hc5 4 (by omega)
        rw [add_plain] at k0 k1 k2 k3 k4
        simp only [← Nat.add_assoc, Nat.add_zero] at k0 k1 k2 k3 k4
        exact ⟨k0, k1, k2, k3, k4⟩
theorem open_cache {H : Type} {enc : TypeId × Value → H} {w : World} {base b0 : Nat} {held : Bool} {r : Reach} {v : Value} {d : DataW H} {p : List MemPlace}
    (hv : Value.okWide Tryz.prog w r b0 24 v) (h : DataW.Trod enc Tryz.prog w base (fun _ => true) held 24 v d p) :
    ∃ (s : Int) (a : Option Addr) (n cap : Nat) (K : Nat → Kp), v = .agg #[.int .i64 s, .slice a n cap] ∧ (IsKs w a n K ∧ CameKs n K) := by
  obtain ⟨cs, rfl, hsz⟩ := okWide_struct Tryz.underlying24 hv
  obtain ⟨n, h⟩ := h
  obtain ⟨y0, y1, m, hx, hl, h0, h1⟩ := trod_struct2 Tryz.underlying24 h
  simp only [cells_i64, cells_lks] at h0 h1
  obtain ⟨s, e0, _, _⟩ := DataW.trod_int Tryz.underlying2 h0
  obtain ⟨a, k, cap, K, e1, hK⟩ := trod_kepts h1
  refine ⟨s, a, k, cap, K, ?_, hK⟩
  have hz : cs.size = 2 := by rw [hsz]; exact cells_lc
  have : cs = #[.int .i64 s, .slice a k cap] := by
    apply Array.toList_inj.1
    simp only [Value.cells] at e0 e1
    have hlen : cs.toList.length = 2 := by simpa using hz
    match hcs : cs.toList, hlen with
    | [v0, v1], _ =>
      rw [hcs] at e0 e1
      simp at e0 e1
      simp [e0, e1]
  rw [this]
/-- A ref whose numbers are int64s. -/
theorem open_refI {H : Type} {enc : TypeId × Value → H} {w : World} {base b0 : Nat} {spare : Nat → Bool} {held : Bool} {r : Reach} {v : Value} {d : DataW H} {p : List MemPlace}
    (hv : Value.okWide Tryz.prog w r b0 26 v) (h : DataW.Trod enc Tryz.prog w base spare held 26 v d p) :
    ∃ a b c : Int, v = .agg #[.int .i64 a, .int .i64 b, .int .i64 c] ∧ (I64 a ∧ I64 b ∧ I64 c) := by
  obtain ⟨cs, rfl, hsz⟩ := okWide_struct Tryz.underlying26 hv
  obtain ⟨n, h⟩ := h
  obtain ⟨xs, m, e, hx, hl, hxl, hf⟩ := DataW.trod_struct Tryz.underlying26 h
  rw [cells_lrT] at hl
  have hxl3 : xs.length = 3 := hxl
  simp only [Value.cells] at hl hf
  have hsz3 : cs.toList.length = 3 := hl
  match xs, hxl3 with
  | [x0, x1, x2], _ =>
    have h0 := hf 0 _ rfl
    have h1 := hf 1 _ rfl
    have h2 := hf 2 _ rfl
    match hcs : cs.toList, hsz3 with
    | [v0, v1, v2], _ =>
      rw [hcs] at h0 h1 h2
      simp [cells_i64] at h0 h1 h2
      obtain ⟨a, e0, _, w0⟩ := DataW.trod_int Tryz.underlying2 h0
      obtain ⟨b, e1, _, w1⟩ := DataW.trod_int Tryz.underlying2 h1
      obtain ⟨c, e2, _, w2⟩ := DataW.trod_int Tryz.underlying2 h2
      simp at e0 e1 e2
      refine ⟨a, b, c, ?_, w0, w1, w2⟩
      have : cs = #[.int .i64 a, .int .i64 b, .int .i64 c] := by
        apply Array.toList_inj.1
        rw [hcs, e0, e1, e2]
      rw [this]
end Go.Proofs.YthidgolnajggpaaGreat
