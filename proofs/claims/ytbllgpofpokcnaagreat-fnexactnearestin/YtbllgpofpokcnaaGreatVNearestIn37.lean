/- Several texts in one. -/
import Derived.Test.YtbllgpofpokcnaaGreatVNearestIn36
import Derived.Maps.OwnSet
import Derived.DeepKeys4
import Derived.Test.YtbllgpofpokcnaaGreatVNearestIn8
import Derived.Test.YtbllgpofpokcnaaGreatVNearestIn4

/- Refs as keys of a map. -/

namespace Go.Proofs.YtbllgpofpokcnaaGreat
open Go.RowKit
set_option linter.unusedSimpArgs false
set_option linter.unusedVariables false
set_option maxRecDepth 100000

theorem laid_k : laidOutB Tryz.prog = true := by kernel_rfl
theorem row_ref : (36 : TypeId) < Tryz.prog.types.size := of_decide_eq_true (by kernel_rfl)
theorem wide_ref : (match Tryz.prog.underlying 36 with | some (.array _ _) | some (.struct _) => true | _ => false) = true := by kernel_rfl
theorem law_ref : WideMaps.KeyLaw Tryz.prog 36 := deep_law_laid laid_k (m := 3) (by omega) row_ref (by kernel_rfl) wide_ref
theorem keyed_ref : Go.Maps.Keyed Tryz.prog 36 := Go.Maps.Keyed.of_law law_ref
/-- A number that an int64 holds. -/
def I64 (z : Int) : Prop := (Lit.int .i64 z).wf = true
theorem cells_ref : Tryz.prog.cellsOf 36 = 3 := by kernel_rfl
theorem cells_i64k : Tryz.prog.cellsOf 2 = 1 := by kernel_rfl
theorem under_i64 : Tryz.prog.underlying 2 = some (.int .i64) := by kernel_rfl
theorem keyT_ref : Tryz.prog.keyType 36 = true := by kernel_rfl
theorem types_succ : ∃ m, Tryz.prog.types.size = m + 1 := ⟨_, (Nat.succ_pred_eq_of_pos (Nat.lt_of_le_of_lt (Nat.zero_le _) row_ref)).symm⟩
/-- What a ref reads as. -/
def keyL (z x y : Int) : Lit := .string (keyBytes [.int .i64 z, .int .i64 x, .int .i64 y])
theorem key_ref {z x y : Int} (hz : I64 z) (hx : I64 x) (hy : I64 y) : keyOf Tryz.prog 36 (refV z x y) = some (keyL z x y) := by
  unfold I64 at hz hx hy
  obtain ⟨m, hm⟩ := types_succ
  have hi : ∀ a : Int, (Lit.int .i64 a).wf = true → Tryz.prog.keyLits (m + 1) 2 [.int .i64 a] = some [.int .i64 a] := fun a ha => by
    simp [Program.keyLits, under_i64, ha]
  have hk : Tryz.prog.keyLits (m + 1 + 1) 36 [.int .i64 z, .int .i64 x, .int .i64 y] = some [.int .i64 z, .int .i64 x, .int .i64 y] := by
    unfold Program.keyLits
    simp [Tryz.underlying36, cells_ref, cells_i64k, hi z hz, hi x hx, hi y hy]
  unfold keyOf
  rw [Tryz.underlying36]
  simp [keyT_ref, Value.formed, Tryz.underlying36, cells_ref, Value.cells, hm, hk, keyL]
theorem key_inj {z x y z' x' y' : Int} (hz : I64 z) (hx : I64 x) (hy : I64 y) (hz' : I64 z') (hx' : I64 x') (hy' : I64 y') (h : keyL z x y = keyL z' x' y') : z = z' ∧ x = x' ∧ y = y' := by
  have := keyed_ref.inj (key_ref hz hx hy) (by rw [h]; exact key_ref hz' hx' hy')
  simpa using this
theorem keyL_is (z x y : Int) : WideAt.IsKeyLit (keyL z x y) := trivial
end Go.Proofs.YtbllgpofpokcnaaGreat
/- How a cache, and a ref, that came in are read. -/

namespace Go.Proofs.YtbllgpofpokcnaaGreat
open Go.ChangeShapes Go.WideShapes Go.ChangeAt Go.RowKit Go.Deep
set_option linter.unusedVariables false
set_option linter.unusedSimpArgs false
set_option maxRecDepth 100000

theorem trod_tile {H : Type} {enc : TypeId × Value → H} {w : World} {base fuel : Nat} {held : Bool} {cs : List Value} {y : DataW H × List MemPlace}
    (h : DataW.trod enc Tryz.prog w base (fun _ => true) held fuel 45 cs = some y) :
    ∃ (z x y : Int) (a : Option Addr) (n cap : Nat) (F : Nat → Feat), cs = [.int .i64 z, .int .i64 x, .int .i64 y, .slice a n cap] ∧ (IsFs w a n F ∧ CameFs n F) := by
  obtain ⟨y0, y1, m, hx, hl, h0, h1⟩ := trod_struct2 Tryz.underlying45 h
  simp only [cells_lrT, cells_lfs] at h0 h1
  obtain ⟨z, x, y, e0⟩ := trod_refT h0
  obtain ⟨a, k, cap, F, e1, hF⟩ := trod_feats h1
  refine ⟨z, x, y, a, k, cap, F, ?_, hF⟩
  have hlen : cs.length = 4 := by rw [hl]; exact cells_lt
  match cs, hlen with
  | [v0, v1, v2, v3], _ =>
    simp at e0 e1
    simp [e0, e1]
theorem trod_nums {H : Type} {enc : TypeId × Value → H} {w : World} {base fuel : Nat} {held : Bool} {cs : List Value} {y : DataW H × List MemPlace}
    (h : DataW.trod enc Tryz.prog w base (fun _ => true) held fuel 72 cs = some y) :
    ∃ (a : Option Addr) (n cap : Nat) (Z : Nat → Int), cs = [.slice a n cap] ∧ (IsNs w a n Z ∧ n ≤ maxLen) := by
  rcases open_ints Tryz.underlying72 Tryz.underlying2 (by kernel_rfl) h with ⟨hcs, _⟩ | ⟨x, l, c, zs, hcs, _, hl, hm, hz, _, hcell, hwz⟩
  · exact ⟨none, 0, 0, fun _ => 0, hcs, .inl rfl, Nat.zero_le _⟩
  · have hz' : zs.length = c := by simpa using hz
    refine ⟨some x, l, c, fun i => zs.getD i 0, hcs, ?_, Nat.le_trans hl hm⟩
    by_cases h0 : l = 0
    · exact .inl h0
    · right
      obtain ⟨b, off, spot⟩ := x
      have e0 := hcell 0 (by omega)
      have hspot : spot = none := by simpa [Addr.add] using World.cell?_spot e0
      subst hspot
      refine ⟨b, off, rfl, ?_, fun i hi => ?_⟩
      · have := World.block_lt_of_cell? _ _ e0
        simpa [Addr.add] using this
      · have := hcell i (by omega)
        have e : (⟨b, off, none⟩ : Addr).add i = ⟨b, off + i, none⟩ := by
          unfold Addr.add
          by_cases h : i = 0 <;> simp [h]
        rw [e] at this
        exact this
theorem cells_ns : Tryz.prog.cellsOf 72 = 1 := by kernel_rfl
theorem cells_lk : Tryz.prog.cellsOf 97 = 5 := by kernel_rfl
theorem cells_lks : Tryz.prog.cellsOf 22 = 1 := by kernel_rfl
theorem cells_lc : Tryz.prog.cellsOf 24 = 2 := by kernel_rfl
theorem trod_kept {H : Type} {enc : TypeId × Value → H} {w : World} {base fuel : Nat} {held : Bool} {cs : List Value} {y : DataW H × List MemPlace}
    (h : DataW.trod enc Tryz.prog w base (fun _ => true) held fuel 97 cs = some y) :
    ∃ k : Kp, cs = [.int .i64 k.z, .int .i64 k.x, .int .i64 k.y, .slice k.fa k.fn k.fc, .slice k.ia k.m k.ic] ∧ (KpIs w k ∧ CameK k) := by
  obtain ⟨y0, y1, m, hx, hl, h0, h1⟩ := trod_struct2 Tryz.underlying97 h
  simp only [cells_lt, cells_ns] at h0 h1
  obtain ⟨z, x, y, a, n, cap, F, e0, hF⟩ := trod_tile h0
  obtain ⟨ia, k, ic, Z, e1, hZ⟩ := trod_nums h1
  refine ⟨⟨z, x, y, a, n, cap, F, ia, k, ic, Z⟩, ?_, ⟨hF.1, hZ.1⟩, hF.2, hZ.2⟩
  have hlen : cs.length = 5 := by rw [hl]; exact cells_lk
  match cs, hlen with
  | [v0, v1, v2, v3, v4], _ =>
    simp at e0 e1
    simp [e0, e1]
theorem trod_kepts {H : Type} {enc : TypeId × Value → H} {w : World} {base fuel : Nat} {held : Bool} {cs : List Value} {y : DataW H × List MemPlace}
    (hf : DataW.trod enc Tryz.prog w base (fun _ => true) held fuel 22 cs = some y) :
    ∃ (a : Option Addr) (n cap : Nat) (K : Nat → Kp), cs = [.slice a n cap] ∧ (IsKs w a n K ∧ CameKs n K) := by
  rcases open_slice Tryz.underlying22 hf with ⟨hcs, _⟩ | ⟨x, l, c, m, n, D, Pl, hcs, _, hl, hc, hm, _, hx⟩
  · exact ⟨none, 0, 0, fun _ => ⟨0, 0, 0, none, 0, 0, fun _ => ⟨0, 0, 0, 0, none, 0, 0, fun _ => 0, fun _ => 0, ⟨#[]⟩, 0⟩, none, 0, 0, fun _ => 0⟩, hcs, .inl rfl, Nat.zero_le _, fun i hi => absurd hi (by omega)⟩
  · simp at hm
    subst hm
    have each : ∀ i, ∃ e : Kp, i < l → (∀ k, k < 5 → w.cell? (x.add (i * 5 + k)) = [Value.int .i64 e.z, .int .i64 e.x, .int .i64 e.y, .slice e.fa e.fn e.fc, .slice e.ia e.m e.ic][k]?) ∧ KpIs w e ∧ CameK e := by
      intro i
      by_cases hi : i < l
      · obtain ⟨cs', h1, h2⟩ := hx i (by omega)
        rw [cells_lk] at h1
        obtain ⟨_, hlen, hcell⟩ := World.cells?_some h1
        obtain ⟨e, rfl, hk⟩ := trod_kept h2
        refine ⟨e, fun _ => ⟨fun k hk => ?_, hk⟩⟩
        have := hcell k hk
        rw [add_add] at this
        exact this
      · exact ⟨⟨0, 0, 0, none, 0, 0, fun _ => ⟨0, 0, 0, 0, none, 0, 0, fun _ => 0, fun _ => 0, ⟨#[]⟩, 0⟩, none, 0, 0, fun _ => 0⟩, fun h => absurd h hi⟩
    obtain ⟨K, hK⟩ := Classical.skolem.1 each
    refine ⟨some x, l, _, K, hcs, ?_, Nat.le_trans hl hc, fun i hi => (hK i hi).2.2⟩
    by_cases h0 : l = 0
    · exact .inl h0
    · right
      obtain ⟨b, off, spot⟩ := x
      have e0 := (hK 0 (by omega)).1 0 (by omega)
      simp at e0
      have hspot : spot = none := by simpa [Addr.add] using World.cell?_spot e0
      subst hspot
      refine ⟨b, off, rfl, ?_, fun i hi => ?_⟩
      · have := World.block_lt_of_cell? _ _ e0
        simpa [Addr.add] using this
      · obtain ⟨hc5, hp, _⟩ := hK i hi
        refine ⟨?_, hp⟩
        have k0 := hc5 0 (by omega)
        have k1 := hc5 1 (by omega)
        have k2 := hc5 2 (by omega)
        have k3 := hc5 3 (by omega)
        have k4 := hc5 4 (by omega)
        rw [add_plain] at k0 k1 k2 k3 k4
        simp only [← Nat.add_assoc, Nat.add_zero] at k0 k1 k2 k3 k4
        exact ⟨k0, k1, k2, k3, k4⟩
theorem open_cache {H : Type} {enc : TypeId × Value → H} {w : World} {base b0 : Nat} {held : Bool} {r : Reach} {v : Value} {d : DataW H} {p : List MemPlace}
    (hv : Value.okWide Tryz.prog w r b0 24 v) (h : DataW.Trod enc Tryz.prog w base (fun _ => true) held 24 v d p) :
    ∃ (s : Int) (a : Option Addr) (n cap : Nat) (K : Nat → Kp), v = .agg #[.int .i64 s, .slice a n cap] ∧ (IsKs w a n K ∧ CameKs n K) := by
  obtain ⟨cs, rfl, hsz⟩ := okWide_struct Tryz.underlying24 hv
  obtain ⟨n, h⟩ := h
  obtain ⟨y0, y1, m, hx, hl, h0, h1⟩ := trod_struct2 Tryz.underlying24 h
  simp only [cells_i64, cells_lks] at h0 h1
  obtain ⟨s, e0, _, _⟩ := DataW.trod_int Tryz.underlying2 h0
  obtain ⟨a, k, cap, K, e1, hK⟩ := trod_kepts h1
  refine ⟨s, a, k, cap, K, ?_, hK⟩
  have hz : cs.size = 2 := by rw [hsz]; exact cells_lc
  have : cs = #[.int .i64 s, .slice a k cap] := by
    apply Array.toList_inj.1
    simp only [Value.cells] at e0 e1
    have hlen : cs.toList.length = 2 := by simpa using hz
    match hcs : cs.toList, hlen with
    | [v0, v1], _ =>
      rw [hcs] at e0 e1
      simp at e0 e1
      simp [e0, e1]
  rw [this]
/-- A ref whose numbers are int64s. -/
theorem open_refI {H : Type} {enc : TypeId × Value → H} {w : World} {base b0 : Nat} {spare : Nat → Bool} {held : Bool} {r : Reach} {v : Value} {d : DataW H} {p : List MemPlace}
    (hv : Value.okWide Tryz.prog w r b0 34 v) (h : DataW.Trod enc Tryz.prog w base spare held 34 v d p) :
    ∃ a b c : Int, v = .agg #[.int .i64 a, .int .i64 b, .int .i64 c] ∧ (I64 a ∧ I64 b ∧ I64 c) := by
  obtain ⟨cs, rfl, hsz⟩ := okWide_struct Tryz.underlying34 hv
  obtain ⟨n, h⟩ := h
  obtain ⟨xs, m, e, hx, hl, hxl, hf⟩ := DataW.trod_struct Tryz.underlying34 h
  rw [cells_lrT] at hl
  have hxl3 : xs.length = 3 := hxl
  simp only [Value.cells] at hl hf
  have hsz3 : cs.toList.length = 3 := hl
  match xs, hxl3 with
  | [x0, x1, x2], _ =>
    have h0 := hf 0 _ rfl
    have h1 := hf 1 _ rfl
    have h2 := hf 2 _ rfl
    match hcs : cs.toList, hsz3 with
    | [v0, v1, v2], _ =>
      rw [hcs] at h0 h1 h2
      simp [cells_i64] at h0 h1 h2
      obtain ⟨a, e0, _, w0⟩ := DataW.trod_int Tryz.underlying2 h0
      obtain ⟨b, e1, _, w1⟩ := DataW.trod_int Tryz.underlying2 h1
      obtain ⟨c, e2, _, w2⟩ := DataW.trod_int Tryz.underlying2 h2
      simp at e0 e1 e2
      refine ⟨a, b, c, ?_, w0, w1, w2⟩
      have : cs = #[.int .i64 a, .int .i64 b, .int .i64 c] := by
        apply Array.toList_inj.1
        rw [hcs, e0, e1, e2]
      rw [this]
end Go.Proofs.YtbllgpofpokcnaaGreat
/- The shelf: what is in its map. -/

namespace Go.Proofs.YtbllgpofpokcnaaGreat
open Go.RowKit
set_option linter.unusedSimpArgs false
set_option linter.unusedVariables false
set_option maxRecDepth 100000

/-- A tile that is kept, with its turn. -/
abbrev agV (z x y : Int) (fa : Option Addr) (fn fc : Nat) (ia : Option Addr) (m ic : Nat) (t : Int) : Value := .agg #[.int .i64 z, .int .i64 x, .int .i64 y, .slice fa fn fc, .slice ia m ic, .int .i64 t]
/-- How an element of the shelf's map is read: as it is. -/
def RV : Value → Option (DataW Value × List MemPlace)
  | .agg cs => match cs.toList with
    | [.int .i64 _, .int .i64 _, .int .i64 _, .slice _ _ _, .slice _ _ _, .int .i64 _] => some (.held (.agg cs), [])
    | _ => none
  | _ => none
theorem RV_mk (z x y : Int) (fa : Option Addr) (fn fc : Nat) (ia : Option Addr) (m ic : Nat) (t : Int) : RV (agV z x y fa fn fc ia m ic t) = some (.held (agV z x y fa fn fc ia m ic t), []) := rfl
theorem RV_inv {v : Value} {d : DataW Value} {ps : List MemPlace} (h : RV v = some (d, ps)) : d = .held v ∧ ∃ z x y fa fn fc ia m ic t, v = agV z x y fa fn fc ia m ic t := by
  unfold RV at h
  split at h
  · rename_i cs
    split at h
    · rename_i hl
      obtain ⟨l⟩ := cs
      replace hl : l = _ := hl
      subst hl
      injection h with h
      injection h with h1 h2
      exact ⟨h1.symm, _, _, _, _, _, _, _, _, _, _, rfl⟩
    · cases h
  · cases h
theorem ownsMap_below {w w' : World} {P : Program} {k : TypeId} {mb n : Nat} {D : DataW Value} (h : w.ownsMap P k RV mb n D) (hb : Below w.heap.size w w') : w'.ownsMap P k RV mb n D := by
  have hl := h.lt
  obtain ⟨es, c, h1, h2⟩ := h
  exact ⟨es, c, (hb.block mb hl).trans h1, h2⟩
theorem zero_aged (w : World) : (zeroValue 112).run Tryz.prog w = .ok (agV 0 0 0 none 0 0 none 0 0 0) w := by kernel_rfl
/-- Three cells: a shelf. -/
def ShA (w : World) (p : Nat) (s t : Int) (mb : Nat) : Prop := w.cell? ⟨p, 0, none⟩ = some (.int .i64 s) ∧ w.cell? ⟨p, 1, none⟩ = some (.int .i64 t) ∧ w.cell? ⟨p, 2, none⟩ = some (.map (some mb))
theorem ShA.below {w w' : World} {p mb : Nat} {s t : Int} (h : ShA w p s t mb) (hb : Below w.heap.size w w') : ShA w' p s t mb :=
  have hl := World.block_lt_of_cell? _ _ h.1
  ⟨(hb.cell (p := ⟨p, 0, none⟩) hl).trans h.1, (hb.cell (p := ⟨p, 1, none⟩) hl).trans h.2.1, (hb.cell (p := ⟨p, 2, none⟩) hl).trans h.2.2⟩
/-- A look-up, the same in every later world. -/
theorem look_ref {w : World} {mb n : Nat} {D : DataW Value} {z x y : Int} (hm : w.ownsMap Tryz.prog 36 RV mb n D) (hz : I64 z) (hx : I64 x) (hy : I64 y) :
    ∃ a b c fa fn fc ia m ic t, ∀ W, Below w.heap.size w W → (Instr.lookup 103 (.map (some mb)) (refV z x y) true).run Tryz.prog W = .ok (.tuple #[agV a b c fa fn fc ia m ic t, .bool (Maps.has D (keyL z x y))]) W := by
  have key : ∀ W, Below w.heap.size w W → ∃ v, D.atKey (keyL z x y) (.held (agV 0 0 0 none 0 0 none 0 0 0)) = .held v ∧ (∃ a b c fa fn fc ia m ic t, v = agV a b c fa fn fc ia m ic t) ∧ (Instr.lookup 103 (.map (some mb)) (refV z x y) true).run Tryz.prog W = .ok (.tuple #[v, .bool (Maps.has D (keyL z x y))]) W := fun W hW => by
    obtain ⟨v, ps, hr, hv⟩ := (ownsMap_below hm hW).look_ok keyed_ref Tryz.underlying103 (zero_aged _) (RV_mk 0 0 0 none 0 0 none 0 0 0) (key_ref hz hx hy)
    obtain ⟨e, h⟩ := RV_inv hv
    exact ⟨v, e, h, hr⟩
  obtain ⟨v, hv, ⟨a, b, c, fa, fn, fc, ia, m, ic, t, rfl⟩, _⟩ := key w (Below.refl _ _)
  refine ⟨a, b, c, fa, fn, fc, ia, m, ic, t, fun W hW => ?_⟩
  obtain ⟨v', hv', _, hr⟩ := key W hW
  rw [hv] at hv'
  injection hv' with e
  rw [e]; exact hr
set_option maxHeartbeats 1000000 in
theorem shelfHas_any (p mb n : Nat) (s t : Int) (D : DataW Value) (z x y : Int) (w : World) (hp : ShA w p s t mb) (hm : w.ownsMap Tryz.prog 36 RV mb n D) (hz : I64 z) (hx : I64 x) (hy : I64 y) :
    Calls Tryz.prog 45 #[.pointer (some ⟨p, 0, none⟩), refV z x y] w fun e w' => e = .returned (.bool (Maps.has D (keyL z x y))) ∧ Below w.heap.size w w' := by
  obtain ⟨va, vb, vc, fa, fn, fc, ia, m, ic, vt, hL⟩ := look_ref hm hz hx hy
  have HP : Hid (ShA w p s t mb) := hp
  generalize Maps.has D (keyL z x y) = B at *
  clear hm hz hx hy hp
  go_enter Tryz.func45, Tryz.ntmps45
  go_wp2_with fail
  generalize hW : (w.alloc _ : World) = W
  have HB0 : Below w.heap.size w W := by subst hW; (repeat (first | exact Below.refl _ _ | assumption | refine Below.drew ?_ | refine bl_alloc ?_ _ | refine bl_then ?_ (by assumption) | refine Below.setCell ?_ (by first | omega | (simp; done) | (simp; omega)) _ | refine bl_store ?_ ?_ _ _))
  have HR : RK W w.heap.size z x y := by subst hW; refine ⟨?_, ?_, ?_⟩ <;> simp [go_sem]
  have c2 : ∀ W', Below W.heap.size W W' → W'.cell? ⟨p, 2, none⟩ = some (.map (some mb)) := fun W' h => (HP.out.below (bl_then HB0 h)).2.2
  have r0 : ∀ W', Below W.heap.size W W' → W'.cell? ⟨w.heap.size, 0, none⟩ = some (.int .i64 z) := fun W' h => (HR.below h).1
  have r1 : ∀ W', Below W.heap.size W W' → W'.cell? ⟨w.heap.size, 1, none⟩ = some (.int .i64 x) := fun W' h => (HR.below h).2.1
  have r2 : ∀ W', Below W.heap.size W W' → W'.cell? ⟨w.heap.size, 2, none⟩ = some (.int .i64 y) := fun W' h => (HR.below h).2.2
  have l5 : ∀ W', Below W.heap.size W W' → (Instr.lookup 103 (.map (some mb)) (refV z x y) true).run Tryz.prog W' = .ok (.tuple #[agV va vb vc fa fn fc ia m ic vt, .bool B]) W' := fun W' h => hL W' (bl_then HB0 h)
  have HB : Hid (Below w.heap.size w W) := HB0
  clear hW hL HR HB0
  refine wp_region_noPanic ?_
  refine wp_region_held_drew (S := fun W' => Below W.heap.size W W') (by kernel_rfl) (by have := Below.refl W.heap.size W; (repeat (first | exact Below.refl _ _ | assumption | refine Below.drew ?_ | refine bl_alloc ?_ _ | refine bl_then ?_ (by assumption) | refine Below.setCell ?_ (by first | omega | (simp; done) | (simp; omega)) _ | refine bl_store ?_ ?_ _ _))) (fun hHeld => ?_)
  have hSd : Below W.heap.size W W.drew := hHeld
  refine takeD (i := 0) (d := some 8) (v := ?vr0) rfl rfl (by kernel_rfl) (by kernel_rfl) (by kernel_rfl) (fun _ _ _ h => h) (Or.inl ⟨by rfl, ?hyr0⟩) hSd ?_
  case hyr0 => (intro w hSw; (try dsimp only at hSw); go_simp <;> with_reducible rfl)
  try simp only [Act.put, List.setIfInBounds_toArray, List.set_cons_zero, List.set_cons_succ]
  refine takeD (i := 1) (d := some 9) (v := ?vr1) rfl rfl (by kernel_rfl) (by kernel_rfl) (by kernel_rfl) (fun _ _ _ h => h) (Or.inl ⟨by rfl, ?hyr1⟩) hSd ?_
  case hyr1 => (intro w hSw; (try dsimp only at hSw); go_simp <;> with_reducible rfl)
  try simp only [Act.put, List.setIfInBounds_toArray, List.set_cons_zero, List.set_cons_succ]
  refine takeD (i := 2) (d := some 10) (v := ?vr2) rfl rfl (by kernel_rfl) (by kernel_rfl) (by kernel_rfl) (fun _ _ _ h => h) (Or.inl ⟨by rfl, ?hyr2⟩) hSd ?_
  case hyr2 => (intro w hSw; (try dsimp only at hSw); go_simp <;> with_reducible rfl)
  try simp only [Act.put, List.setIfInBounds_toArray, List.set_cons_zero, List.set_cons_succ]
  refine takeD (i := 3) (d := some 11) (v := ?vr3) rfl rfl (by kernel_rfl) (by kernel_rfl) (by kernel_rfl) (fun _ _ _ h => h) (Or.inl ⟨by rfl, ?hyr3⟩) hSd ?_
  case hyr3 => (intro w hSw; (try dsimp only at hSw); go_simp <;> with_reducible rfl)
  try simp only [Act.put, List.setIfInBounds_toArray, List.set_cons_zero, List.set_cons_succ]
  refine takeD (i := 4) (d := some 12) (v := ?vr4) rfl rfl (by kernel_rfl) (by kernel_rfl) (by kernel_rfl) (fun _ _ _ h => h) (Or.inl ⟨by rfl, ?hyr4⟩) hSd ?_
  case hyr4 => (intro w hSw; (try dsimp only at hSw); go_simp <;> with_reducible rfl)
  try simp only [Act.put, List.setIfInBounds_toArray, List.set_cons_zero, List.set_cons_succ]
  refine takeD (i := 5) (d := some 13) (v := ?vr5) rfl rfl (by kernel_rfl) (by kernel_rfl) (by kernel_rfl) (fun _ _ _ h => h) (Or.inl ⟨by rfl, ?hyr5⟩) hSd ?_
  case hyr5 => (intro w hSw; (try dsimp only at hSw); go_simp <;> with_reducible rfl)
  try simp only [Act.put, List.setIfInBounds_toArray, List.set_cons_zero, List.set_cons_succ]
  refine takeD (i := 6) (d := some 7) (v := ?vr6) rfl rfl (by kernel_rfl) (by kernel_rfl) (by kernel_rfl) (fun _ _ _ h => h) (Or.inl ⟨by rfl, ?hyr6⟩) hSd ?_
  case hyr6 => (intro w hSw; (try dsimp only at hSw); go_simp <;> with_reducible rfl)
  try simp only [Act.put, List.setIfInBounds_toArray, List.set_cons_zero, List.set_cons_succ]
  refine takeD (i := 7) (d := some 14) (v := ?vr7) rfl rfl (by kernel_rfl) (by kernel_rfl) (by kernel_rfl) (fun _ _ _ h => h) (Or.inl ⟨by rfl, ?hyr7⟩) hSd ?_
  case hyr7 => (intro w hSw; (try dsimp only at hSw); go_simp <;> with_reducible rfl)
  try simp only [Act.put, List.setIfInBounds_toArray, List.set_cons_zero, List.set_cons_succ]
  refine takeD (i := 8) (d := some 15) (v := ?vr8) rfl rfl (by kernel_rfl) (by kernel_rfl) (by kernel_rfl) (fun _ _ _ h => h) (Or.inl ⟨by rfl, ?hyr8⟩) hSd ?_
  case hyr8 => (intro w hSw; (try dsimp only at hSw); go_simp <;> with_reducible rfl)
  try simp only [Act.put, List.setIfInBounds_toArray, List.set_cons_zero, List.set_cons_succ]
  refine wpAnyH_ready (rs := [9]) (by kernel_rfl) (by simp) ?_
  refine (AllReadyH.cons rfl (fun K hK => ?_) AllReadyH.nil)
  rw [if_pos (by rfl)]
  go_simp
  generalize hwA : (World.drew (World.alloc _ _) : World) = wA
  have hSA : Below W.heap.size W wA := by subst hwA; have := hSd; (repeat (first | exact Below.refl _ _ | assumption | refine Below.drew ?_ | refine bl_alloc ?_ _ | refine bl_then ?_ (by assumption) | refine Below.setCell ?_ (by first | omega | (simp; done) | (simp; omega)) _ | refine bl_store ?_ ?_ _ _))
  have hT : There wA W.heap.size 6 := by
    subst hwA
    intro o ho
    have : o = 0 ∨ o = 1 ∨ o = 2 ∨ o = 3 ∨ o = 4 ∨ o = 5 := by omega
    rcases this with rfl | rfl | rfl | rfl | rfl | rfl <;> exact ⟨⟨_, by simp [go_sem]; rfl⟩, by simp [go_sem]⟩
  clear hwA
  refine hK.out _ _ hSA (fun hHeld => ?_)
  clear hK K
  try simp only [Act.put, List.setIfInBounds_toArray, List.set_cons_zero, List.set_cons_succ]
  refine wpAnyH_ready (rs := [10]) (by kernel_rfl) (by simp) ?_
  refine (AllReadyH.cons rfl (fun K hK => ?_) AllReadyH.nil)
  rw [if_pos (by rfl)]
  have t0 := hT.cell 0 (by omega)
  have t1 := hT.cell 1 (by omega)
  have t2 := hT.cell 2 (by omega)
  have t3 := hT.cell 3 (by omega)
  have t4 := hT.cell 4 (by omega)
  have t5 := hT.cell 5 (by omega)
  have f0 := (hT 0 (by omega)).2
  have f1 := (hT 1 (by omega)).2
  have f2 := (hT 2 (by omega)).2
  have f3 := (hT 3 (by omega)).2
  have f4 := (hT 4 (by omega)).2
  have f5 := (hT 5 (by omega)).2
  go_simp
  generalize hwC : (World.setCell _ _ _ : World) = wC
  have hSC : Below W.heap.size W wC := by subst hwC; exact (((((hSA.setCell (Nat.le_refl _) _).setCell (Nat.le_refl _) _).setCell (Nat.le_refl _) _).setCell (Nat.le_refl _) _).setCell (Nat.le_refl _) _).setCell (Nat.le_refl _) _
  clear hwC
  refine hK.out _ _ hSC (fun hHeld => ?_)
  clear hK K hT
  try simp only [Act.put, List.setIfInBounds_toArray, List.set_cons_zero, List.set_cons_succ]
  refine wpAnyH_ready (rs := [11]) (by kernel_rfl) (by simp) ?_
  refine (AllReadyH.cons rfl (fun K hK => ?_) AllReadyH.nil)
  rw [if_pos (by rfl)]
  go_simp
  refine hK.out _ _ hSC (fun hHeld => ?_)
  clear hK K
  try simp only [Act.put, List.setIfInBounds_toArray, List.set_cons_zero, List.set_cons_succ]
  refine wpAnyH_done (by kernel_rfl) ?_ _
  refine NoPanic.normal ?_
  have HC3 : Hid (Below w.heap.size w wC) := bl_then HB.out hSC
  clear c2 r0 r1 r2 l5 hSA hSd hSC
  go_wp2
  go_ret
  exact ⟨rfl, HC3.out⟩
end Go.Proofs.YtbllgpofpokcnaaGreat
