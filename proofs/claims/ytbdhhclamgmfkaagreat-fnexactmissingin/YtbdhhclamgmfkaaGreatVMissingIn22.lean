/- Several texts in one. -/
import Derived.Test.YtbdhhclamgmfkaaGreatVMissingIn21
import Derived.Maps.OwnSet
import Derived.DeepKeys4
import Derived.Test.YtbdhhclamgmfkaaGreatVMissingIn6
import Derived.Test.YtbdhhclamgmfkaaGreatVMissingIn15
import Derived.Test.YtbdhhclamgmfkaaGreatVMissingIn1
import Derived.Deep.RegionHeld3
import Derived.Deep.OwnRows
import Derived.Deep.LoopGhost
import Derived.Laws.OwnMore

/- Refs as keys of a map. -/

namespace Go.Proofs.YtbdhhclamgmfkaaGreat
open Go.RowKit
set_option linter.unusedSimpArgs false
set_option linter.unusedVariables false
set_option maxRecDepth 100000

theorem laid_k : laidOutB Tryz.prog = true := by kernel_rfl
theorem row_ref : (87 : TypeId) < Tryz.prog.types.size := of_decide_eq_true (by kernel_rfl)
theorem wide_ref : (match Tryz.prog.underlying 87 with | some (.array _ _) | some (.struct _) => true | _ => false) = true := by kernel_rfl
theorem law_ref : WideMaps.KeyLaw Tryz.prog 87 := deep_law_laid laid_k (m := 3) (by omega) row_ref (by kernel_rfl) wide_ref
theorem keyed_ref : Go.Maps.Keyed Tryz.prog 87 := Go.Maps.Keyed.of_law law_ref
/-- A number that an int64 holds. -/
def I64 (z : Int) : Prop := (Lit.int .i64 z).wf = true
theorem cells_ref : Tryz.prog.cellsOf 87 = 3 := by kernel_rfl
theorem cells_i64k : Tryz.prog.cellsOf 2 = 1 := by kernel_rfl
theorem under_i64 : Tryz.prog.underlying 2 = some (.int .i64) := by kernel_rfl
theorem keyT_ref : Tryz.prog.keyType 87 = true := by kernel_rfl
theorem types_succ : ∃ m, Tryz.prog.types.size = m + 1 := ⟨_, (Nat.succ_pred_eq_of_pos (Nat.lt_of_le_of_lt (Nat.zero_le _) row_ref)).symm⟩
/-- What a ref reads as. -/
def keyL (z x y : Int) : Lit := .string (keyBytes [.int .i64 z, .int .i64 x, .int .i64 y])
theorem key_ref {z x y : Int} (hz : I64 z) (hx : I64 x) (hy : I64 y) : keyOf Tryz.prog 87 (refV z x y) = some (keyL z x y) := by
  unfold I64 at hz hx hy
  obtain ⟨m, hm⟩ := types_succ
  have hi : ∀ a : Int, (Lit.int .i64 a).wf = true → Tryz.prog.keyLits (m + 1) 2 [.int .i64 a] = some [.int .i64 a] := fun a ha => by
    simp [Program.keyLits, under_i64, ha]
  have hk : Tryz.prog.keyLits (m + 1 + 1) 87 [.int .i64 z, .int .i64 x, .int .i64 y] = some [.int .i64 z, .int .i64 x, .int .i64 y] := by
    unfold Program.keyLits
    simp [Tryz.underlying87, cells_ref, cells_i64k, hi z hz, hi x hx, hi y hy]
  unfold keyOf
  rw [Tryz.underlying87]
  simp [keyT_ref, Value.formed, Tryz.underlying87, cells_ref, Value.cells, hm, hk, keyL]
theorem key_inj {z x y z' x' y' : Int} (hz : I64 z) (hx : I64 x) (hy : I64 y) (hz' : I64 z') (hx' : I64 x') (hy' : I64 y') (h : keyL z x y = keyL z' x' y') : z = z' ∧ x = x' ∧ y = y' := by
  have := keyed_ref.inj (key_ref hz hx hy) (by rw [h]; exact key_ref hz' hx' hy')
  simpa using this
theorem keyL_is (z x y : Int) : WideAt.IsKeyLit (keyL z x y) := trivial
end Go.Proofs.YtbdhhclamgmfkaaGreat
/- How a cache, and a ref, that came in are read. -/

namespace Go.Proofs.YtbdhhclamgmfkaaGreat
open Go.ChangeShapes Go.WideShapes Go.ChangeAt Go.RowKit Go.Deep
set_option linter.unusedVariables false
set_option linter.unusedSimpArgs false
set_option maxRecDepth 100000

theorem trod_tile {H : Type} {enc : TypeId × Value → H} {w : World} {base fuel : Nat} {held : Bool} {cs : List Value} {y : DataW H × List MemPlace}
    (h : DataW.trod enc Tryz.prog w base (fun _ => true) held fuel 126 cs = some y) :
    ∃ (z x y : Int) (a : Option Addr) (n cap : Nat) (F : Nat → Feat), cs = [.int .i64 z, .int .i64 x, .int .i64 y, .slice a n cap] ∧ (IsFs w a n F ∧ CameFs n F) := by
  obtain ⟨y0, y1, m, hx, hl, h0, h1⟩ := trod_struct2 Tryz.underlying126 h
  simp only [cells_lrT, cells_lfs] at h0 h1
  obtain ⟨z, x, y, e0⟩ := trod_refT h0
  obtain ⟨a, k, cap, F, e1, hF⟩ := trod_feats h1
  refine ⟨z, x, y, a, k, cap, F, ?_, hF⟩
  have hlen : cs.length = 4 := by rw [hl]; exact cells_lt
  match cs, hlen with
  | [v0, v1, v2, v3], _ =>
    simp at e0 e1
    simp [e0, e1]
theorem trod_nums {H : Type} {enc : TypeId × Value → H} {w : World} {base fuel : Nat} {held : Bool} {cs : List Value} {y : DataW H × List MemPlace}
    (h : DataW.trod enc Tryz.prog w base (fun _ => true) held fuel 49 cs = some y) :
    ∃ (a : Option Addr) (n cap : Nat) (Z : Nat → Int), cs = [.slice a n cap] ∧ (IsNs w a n Z ∧ n ≤ maxLen) := by
  rcases open_ints Tryz.underlying49 Tryz.underlying2 (by kernel_rfl) h with ⟨hcs, _⟩ | ⟨x, l, c, zs, hcs, _, hl, hm, hz, _, hcell, hwz⟩
  · exact ⟨none, 0, 0, fun _ => 0, hcs, .inl rfl, Nat.zero_le _⟩
  · have hz' : zs.length = c := by simpa using hz
    refine ⟨some x, l, c, fun i => zs.getD i 0, hcs, ?_, Nat.le_trans hl hm⟩
    by_cases h0 : l = 0
    · exact .inl h0
    · right
      obtain ⟨b, off, spot⟩ := x
      have e0 := hcell 0 (by omega)
      have hspot : spot = none := by simpa [Addr.add] using World.cell?_spot e0
      subst hspot
      refine ⟨b, off, rfl, ?_, fun i hi => ?_⟩
      · have := World.block_lt_of_cell? _ _ e0
        simpa [Addr.add] using this
      · have := hcell i (by omega)
        have e : (⟨b, off, none⟩ : Addr).add i = ⟨b, off + i, none⟩ := by
          unfold Addr.add
          by_cases h : i = 0 <;> simp [h]
        rw [e] at this
        exact this
theorem cells_ns : Tryz.prog.cellsOf 49 = 1 := by kernel_rfl
theorem cells_lk : Tryz.prog.cellsOf 128 = 5 := by kernel_rfl
theorem cells_lks : Tryz.prog.cellsOf 24 = 1 := by kernel_rfl
theorem cells_lc : Tryz.prog.cellsOf 26 = 2 := by kernel_rfl
theorem trod_kept {H : Type} {enc : TypeId × Value → H} {w : World} {base fuel : Nat} {held : Bool} {cs : List Value} {y : DataW H × List MemPlace}
    (h : DataW.trod enc Tryz.prog w base (fun _ => true) held fuel 128 cs = some y) :
    ∃ k : Kp, cs = [.int .i64 k.z, .int .i64 k.x, .int .i64 k.y, .slice k.fa k.fn k.fc, .slice k.ia k.m k.ic] ∧ (KpIs w k ∧ CameK k) := by
  obtain ⟨y0, y1, m, hx, hl, h0, h1⟩ := trod_struct2 Tryz.underlying128 h
  simp only [cells_lt, cells_ns] at h0 h1
  obtain ⟨z, x, y, a, n, cap, F, e0, hF⟩ := trod_tile h0
  obtain ⟨ia, k, ic, Z, e1, hZ⟩ := trod_nums h1
  refine ⟨⟨z, x, y, a, n, cap, F, ia, k, ic, Z⟩, ?_, ⟨hF.1, hZ.1⟩, hF.2, hZ.2⟩
  have hlen : cs.length = 5 := by rw [hl]; exact cells_lk
  match cs, hlen with
  | [v0, v1, v2, v3, v4], _ =>
    simp at e0 e1
    simp [e0, e1]
theorem trod_kepts {H : Type} {enc : TypeId × Value → H} {w : World} {base fuel : Nat} {held : Bool} {cs : List Value} {y : DataW H × List MemPlace}
    (hf : DataW.trod enc Tryz.prog w base (fun _ => true) held fuel 24 cs = some y) :
    ∃ (a : Option Addr) (n cap : Nat) (K : Nat → Kp), cs = [.slice a n cap] ∧ (IsKs w a n K ∧ CameKs n K) := by
  rcases open_slice Tryz.underlying24 hf with ⟨hcs, _⟩ | ⟨x, l, c, m, n, D, Pl, hcs, _, hl, hc, hm, _, hx⟩
  · exact ⟨none, 0, 0, fun _ => ⟨0, 0, 0, none, 0, 0, fun _ => ⟨0, 0, 0, 0, none, 0, 0, fun _ => 0, fun _ => 0, ⟨#[]⟩, 0⟩, none, 0, 0, fun _ => 0⟩, hcs, .inl rfl, Nat.zero_le _, fun i hi => absurd hi (by omega)⟩
  · simp at hm
    subst hm
    have each : ∀ i, ∃ e : Kp, i < l → (∀ k, k < 5 → w.cell? (x.add (i * 5 + k)) = [Value.int .i64 e.z, .int .i64 e.x, .int .i64 e.y, .slice e.fa e.fn e.fc, .slice e.ia e.m e.ic][k]?) ∧ KpIs w e ∧ CameK e := by
      intro i
      by_cases hi : i < l
      · obtain ⟨cs', h1, h2⟩ := hx i (by omega)
        rw [cells_lk] at h1
        obtain ⟨_, hlen, hcell⟩ := World.cells?_some h1
        obtain ⟨e, rfl, hk⟩ := trod_kept h2
        refine ⟨e, fun _ => ⟨fun k hk => ?_, hk⟩⟩
        have := hcell k hk
        rw [add_add] at this
        exact this
      · exact ⟨⟨0, 0, 0, none, 0, 0, fun _ => ⟨0, 0, 0, 0, none, 0, 0, fun _ => 0, fun _ => 0, ⟨#[]⟩, 0⟩, none, 0, 0, fun _ => 0⟩, fun h => absurd h hi⟩
    obtain ⟨K, hK⟩ := Classical.skolem.1 each
    refine ⟨some x, l, _, K, hcs, ?_, Nat.le_trans hl hc, fun i hi => (hK i hi).2.2⟩
    by_cases h0 : l = 0
    · exact .inl h0
    · right
      obtain ⟨b, off, spot⟩ := x
      have e0 := (hK 0 (by omega)).1 0 (by omega)
      simp at e0
      have hspot : spot = none := by simpa [Addr.add] using World.cell?_spot e0
      subst hspot
      refine ⟨b, off, rfl, ?_, fun i hi => ?_⟩
      · have := World.block_lt_of_cell? _ _ e0
        simpa [Addr.add] using this
      · obtain ⟨hc5, hp, _⟩ := hK i hi
        refine ⟨?_, hp⟩
        have k0 := hc5 0 (by omega)
        have k1 := hc5 1 (by omega)
        have k2 := hc5 2 (by omega)
        have k3 := hc5 3 (by omega)
        have k4 := hc5 4 (by omega)
        rw [add_plain] at k0 k1 k2 k3 k4
        simp only [← Nat.add_assoc, Nat.add_zero] at k0 k1 k2 k3 k4
        exact ⟨k0, k1, k2, k3, k4⟩
end Go.Proofs.YtbdhhclamgmfkaaGreat
/- Lists of refs in memory of their own: they are compared, marked, and the marks are found again. -/

namespace Go.Proofs.YtbdhhclamgmfkaaGreat
open Go.RowKit
set_option linter.unusedSimpArgs false
set_option linter.unusedVariables false
set_option maxRecDepth 100000

/-- Three functions as one: what a list of refs has. -/
structure Rfs where
  z : Nat → Int
  x : Nat → Int
  y : Nat → Int
def RsAt (w : World) (b off n : Nat) (R : Rfs) : Prop := ∀ i, i < n → w.cell? ⟨b, off + i * 3, none⟩ = some (.int .i64 (R.z i)) ∧ w.cell? ⟨b, off + i * 3 + 1, none⟩ = some (.int .i64 (R.x i)) ∧ w.cell? ⟨b, off + i * 3 + 2, none⟩ = some (.int .i64 (R.y i))
theorem RsAt.below {w w' : World} {b off n B : Nat} {R : Rfs} (h : RsAt w b off n R) (hb : Below B w w') (hB : b < B) : RsAt w' b off n R := fun i hi =>
  ⟨(hb.cell (p := ⟨b, off + i * 3, none⟩) hB).trans (h i hi).1, (hb.cell (p := ⟨b, off + i * 3 + 1, none⟩) hB).trans (h i hi).2.1, (hb.cell (p := ⟨b, off + i * 3 + 2, none⟩) hB).trans (h i hi).2.2⟩
def IsRs (w : World) (a : Option Addr) (n : Nat) (R : Rfs) : Prop := n = 0 ∨ ∃ b off, a = some ⟨b, off, none⟩ ∧ b < w.heap.size ∧ RsAt w b off n R
theorem IsRs.below {w w' : World} {a : Option Addr} {n : Nat} {R : Rfs} (h : IsRs w a n R) (hb : Below w.heap.size w w') : IsRs w' a n R := by
  rcases h with h | ⟨b, off, e, hl, hz⟩
  · exact .inl h
  · exact .inr ⟨b, off, e, Nat.lt_of_lt_of_le hl hb.size, hz.below hb hl⟩
theorem There.setR {W : World} {r n : Nat} (h : There W r n) (o : Nat) (v : Value) : There (W.setCell ⟨r, o, none⟩ v) r n := fun o' ho => by
  obtain ⟨u, hu⟩ := (h o' ho).1
  refine ⟨?_, ?_⟩
  · by_cases e : o = o'
    · subst e
      exact ⟨v, World.cell?_setCell_same _ _ _ (by rw [hu])⟩
    · exact ⟨u, by rw [World.cell?_setCell_other]; exact hu; simp [e]⟩
  · rw [World.frozen?_setCell]; exact (h o' ho).2
theorem fillR {W : World} {B n k : Nat} {R : Rfs} (hT : There W B (n * 3)) (hk : k < n) (hp : RsAt W B 0 k R) :
    RsAt (((W.setCell ⟨B, k * 3, none⟩ (.int .i64 (R.z k))).setCell ⟨B, k * 3 + 1, none⟩ (.int .i64 (R.x k))).setCell ⟨B, k * 3 + 2, none⟩ (.int .i64 (R.y k))) B 0 (k + 1) R := fun i hi => by
  have ne : ∀ i j : Nat, i ≠ j → (⟨B, i, none⟩ : Addr) ≠ ⟨B, j, none⟩ := fun i j hij h => hij (by injection h)
  simp only [Nat.zero_add]
  by_cases e : i = k
  · subst e
    obtain ⟨u0, h0⟩ := (hT (i * 3) (by omega)).1
    obtain ⟨u1, h1⟩ := (hT (i * 3 + 1) (by omega)).1
    obtain ⟨u2, h2⟩ := (hT (i * 3 + 2) (by omega)).1
    refine ⟨?_, ?_, ?_⟩
    · rw [set1_other (ne _ _ (by omega)), set1_other (ne _ _ (by omega))]; exact set1_same h0
    · rw [set1_other (ne _ _ (by omega))]; exact set1_same (by rw [set1_other (ne _ _ (by omega))]; exact h1)
    · exact set1_same (by rw [set1_other (ne _ _ (by omega)), set1_other (ne _ _ (by omega))]; exact h2)
  · obtain ⟨h0, h1, h2⟩ := hp i (by omega)
    simp only [Nat.zero_add] at h0 h1 h2
    refine ⟨?_, ?_, ?_⟩
    all_goals (rw [set1_other (ne _ _ (by omega)), set1_other (ne _ _ (by omega)), set1_other (ne _ _ (by omega))]; assumption)
theorem grown_setR {w w' : World} {b : Nat} (h : w.grownBy w' (some b)) (o : Nat) (v : Value) : w.grownBy (w'.setCell ⟨b, o, none⟩ v) (some b) := by
  have hb : Below b w' (w'.setCell ⟨b, o, none⟩ v) := (Below.refl b w').setCell (Nat.le_refl _) v
  exact ⟨hb.os.trans h.os, hb.tape.trans h.tape, hb.output.trans h.output, Nat.le_trans h.size hb.size, fun k hk hne => (Below.heap_setCell w' ⟨b, o, none⟩ v k (fun e => hne (by simp at e; rw [e]))).trans (h.block k hk hne)⟩
theorem grown_reflR (w : World) (row : Option Nat) : w.grownBy w row := ⟨rfl, rfl, rfl, Nat.le_refl _, fun _ _ _ => rfl⟩
theorem grown_transR {a b c : World} {r : Option Nat} (h : a.grownBy b r) (k : b.grownBy c r) : a.grownBy c r :=
  ⟨k.os.trans h.os, k.tape.trans h.tape, k.output.trans h.output, Nat.le_trans h.size k.size, fun j hj hs => (k.block j (Nat.lt_of_lt_of_le hj h.size) hs).trans (h.block j hj hs)⟩
theorem grown_belowR {a b : World} {r : Option Nat} (h : Below a.heap.size a b) : a.grownBy b r := ⟨h.os, h.tape, h.output, h.size, fun j hj _ => h.block j hj⟩
set_option maxHeartbeats 1000000 in
theorem eqRefS_any (a c : Option Addr) (n capa capc : Nat) (R : Rfs) (w : World) (hp : IsRs w a n R) (hq : IsRs w c n R) (hmax : n ≤ 1048576) :
    Calls Tryz.prog 31 #[.slice a n capa, .slice c n capc] w fun e w' => e = .returned (.bool true) ∧ Below w.heap.size w w' := by
  have HP : Hid (IsRs w a n R) := hp
  have HQ : Hid (IsRs w c n R) := hq
  clear hp hq
  go_enter Tryz.func31, Tryz.ntmps31
  go_wp2
  go_loopw [5] (fun i wr => ∃ k : Nat, k ≤ n ∧ i = .int .i64 k ∧ Below w.heap.size w wr) (fun i _ => n - (intOf i).toNat)
  case atStart => exact ⟨0, by omega, rfl, Below.refl _ _⟩
  case round =>
    obtain ⟨k, hk, rfl, hB⟩ := hrel
    by_cases hlt : k < n
    · rcases HP.out with h0 | ⟨b, off, rfl, hb, hpt⟩
      · omega
      rcases HQ.out with h0 | ⟨d, off', rfl, hd, hqt⟩
      · omega
      have P1 := fun W' (h : Below wr.heap.size wr W') => ((hpt.below hB hb).below h (Nat.lt_of_lt_of_le hb hB.size)) k hlt
      have Q1 := fun W' (h : Below wr.heap.size wr W') => ((hqt.below hB hd).below h (Nat.lt_of_lt_of_le hd hB.size)) k hlt
      have c0 : ∀ W', Below wr.heap.size wr W' → W'.cell? ⟨b, off + k * 3, none⟩ = some (.int .i64 (R.z k)) := fun W' h => (P1 W' h).1
      have c1 : ∀ W', Below wr.heap.size wr W' → W'.cell? ⟨b, off + k * 3 + 1, none⟩ = some (.int .i64 (R.x k)) := fun W' h => (P1 W' h).2.1
      have c2 : ∀ W', Below wr.heap.size wr W' → W'.cell? ⟨b, off + k * 3 + 2, none⟩ = some (.int .i64 (R.y k)) := fun W' h => (P1 W' h).2.2
      have e0 : ∀ W', Below wr.heap.size wr W' → W'.cell? ⟨d, off' + k * 3, none⟩ = some (.int .i64 (R.z k)) := fun W' h => (Q1 W' h).1
      have e1 : ∀ W', Below wr.heap.size wr W' → W'.cell? ⟨d, off' + k * 3 + 1, none⟩ = some (.int .i64 (R.x k)) := fun W' h => (Q1 W' h).2.1
      have e2 : ∀ W', Below wr.heap.size wr W' → W'.cell? ⟨d, off' + k * 3 + 2, none⟩ = some (.int .i64 (R.y k)) := fun W' h => (Q1 W' h).2.2
      have HB : Hid (Below w.heap.size w wr) := hB
      clear hB hpt hqt P1 Q1
      have hi : (k : Int) < (n : Int) := by omega
      have hi0 : (0 : Int) ≤ (k : Int) := by omega
      go_wp2
      go_region_held3 (fun W' => Below wr.heap.size wr W') ((repeat (first | exact Below.refl _ _ | assumption | refine Below.drew ?_ | refine bl_alloc ?_ _ | refine bl_then ?_ (by assumption) | refine Below.setCell ?_ (by first | omega | (simp; done) | (simp; omega)) _ | refine bl_store ?_ ?_ _ _)))
        (first
          | (go_at_call 63; refine (eqRef_any _ _ _ _).mono ?_; rintro e w' ⟨rfl, hb⟩))
      go_wp2
      go_roundw
      case rel => exact ⟨k + 1, by omega, by go_num, bl_then HB.out (by assumption)⟩
      case measure => simp [intOf]; omega
    · go_wp2
      go_ret
      exact ⟨rfl, hB⟩
/-- The marks from k0 on. -/
def mkR (k0 : Nat) : Rfs := ⟨fun i => ((k0 + 3 * i : Nat) : Int), fun i => ((k0 + 3 * i + 1 : Nat) : Int), fun i => ((k0 + 3 * i + 2 : Nat) : Int)⟩
set_option maxHeartbeats 1000000 in
theorem markRefS_any (b n cap k0 : Nat) (w : World) (hT : There w b (n * 3)) (hb : b < w.heap.size) (hmax : n ≤ 1048576) (hk0 : k0 ≤ 1125899906842624) :
    Calls Tryz.prog 37 #[.slice (some ⟨b, 0, none⟩) n cap, .int .i64 (k0 : Int)] w fun e w' => e = .returned (.int .i64 ((k0 + 3 * n : Nat) : Int)) ∧ w.grownBy w' (some b) ∧ There w' b (n * 3) ∧ RsAt w' b 0 n (mkR k0) := by
  have HT0 : Hid (There w b (n * 3)) := hT
  clear hT
  go_enter Tryz.func37, Tryz.ntmps37
  go_wp2_with fail
  go_loopw [1, 5] (fun kk i wr => ∃ j K : Nat, j ≤ n ∧ Hid (K = k0 + 3 * j) ∧ kk = .int .i64 (K : Int) ∧ i = .int .i64 (j : Int) ∧ w.grownBy wr (some b) ∧ There wr b (n * 3) ∧ RsAt wr b 0 j (mkR k0)) (fun _ i _ => n - (intOf i).toNat)
  case atStart => exact ⟨0, k0, by omega, rfl, rfl, rfl, grown_reflR _ _, HT0.out, fun i hi => by omega⟩
  case round =>
    obtain ⟨j, K, hj, HK, rfl, rfl, hG, hT, hP⟩ := hrel
    by_cases hlt : j < n
    · have hKb : K ≤ 1125899909988352 := by have := HK.out; omega
      have t0 := hT.cell (j * 3) (by omega)
      have t1 := hT.cell (j * 3 + 1) (by omega)
      have t2 := hT.cell (j * 3 + 2) (by omega)
      have f0 := (hT (j * 3) (by omega)).2
      have f1 := (hT (j * 3 + 1) (by omega)).2
      have f2 := (hT (j * 3 + 2) (by omega)).2
      have HT : Hid (There wr b (n * 3)) := hT
      have HG : Hid (w.grownBy wr (some b)) := hG
      have HP : Hid (RsAt wr b 0 j (mkR k0)) := hP
      clear hT hG hP
      have hi : (j : Int) < (n : Int) := by omega
      go_wp2
      go_roundw
      case rel =>
        have hz : (mkR k0).z j = (K : Int) := by have := HK.out; simp [mkR]; omega
        have hx : (mkR k0).x j = (K : Int) + 1 := by have := HK.out; simp [mkR]; omega
        have hy : (mkR k0).y j = (K : Int) + 1 + 1 := by have := HK.out; simp [mkR]; omega
        have hfs := fillR (R := mkR k0) HT.out hlt HP.out
        rw [hz, hx, hy] at hfs
        exact ⟨j + 1, K + 3, by omega, by have := HK.out; show _ = _; omega, by go_num, by go_num, grown_setR (grown_setR (grown_setR HG.out _ _) _ _) _ _, ((HT.out.setR _ _).setR _ _).setR _ _, hfs⟩
      case measure => simp [intOf]; omega
    · go_wp2
      go_ret
      have hjn : j = n := by omega
      subst hjn
      exact ⟨ret_int (by have := HK.out; omega), hG, hT, hP⟩
theorem markRefS_none (a : Option Addr) (cap : Nat) (k : Int) (w : World) : Calls Tryz.prog 37 #[.slice a 0 cap, .int .i64 k] w fun e w' => e = .returned (.int .i64 k) ∧ w = w' := by
  go_enter Tryz.func37, Tryz.ntmps37
  go_wp2_with fail
  go_loopw [1, 5] (fun kk i wr => kk = .int .i64 k ∧ i = .int .i64 0 ∧ w = wr) (fun _ _ _ => 0)
  case atStart => exact ⟨rfl, rfl, rfl⟩
  case round =>
    obtain ⟨rfl, rfl, rfl⟩ := hrel
    go_wp2
    go_ret
    exact ⟨rfl, rfl⟩
set_option maxHeartbeats 1000000 in
theorem heldRefS_any (a : Option Addr) (n cap k0 : Nat) (w : World) (hp : IsRs w a n (mkR k0)) (hmax : n ≤ 1048576) (hk0 : k0 ≤ 1125899906842624) :
    Calls Tryz.prog 38 #[.slice a n cap, .int .i64 (k0 : Int)] w fun e w' => e = .returned (.int .i64 ((k0 + 3 * n : Nat) : Int)) ∧ Below w.heap.size w w' := by
  have HP : Hid (IsRs w a n (mkR k0)) := hp
  clear hp
  go_enter Tryz.func38, Tryz.ntmps38
  go_wp2_with fail
  go_loopw [1, 5] (fun kk i wr => ∃ j K : Nat, j ≤ n ∧ Hid (K = k0 + 3 * j) ∧ kk = .int .i64 (K : Int) ∧ i = .int .i64 (j : Int) ∧ Below w.heap.size w wr) (fun _ i _ => n - (intOf i).toNat)
  case atStart => exact ⟨0, k0, by omega, rfl, rfl, rfl, Below.refl _ _⟩
  case round =>
    obtain ⟨j, K, hj, HK, rfl, rfl, hB⟩ := hrel
    by_cases hlt : j < n
    · rcases HP.out with h0 | ⟨b, off, rfl, hbl, hpt⟩
      · omega
      have hKb : K ≤ 1125899909988352 := by have := HK.out; omega
      have hz : (mkR k0).z j = (K : Int) := by have := HK.out; simp [mkR]; omega
      have hx : (mkR k0).x j = (K : Int) + 1 := by have := HK.out; simp [mkR]; omega
      have hy : (mkR k0).y j = (K : Int) + 1 + 1 := by have := HK.out; simp [mkR]; omega
      obtain ⟨t0, t1, t2⟩ := (hpt.below hB hbl) j hlt
      rw [hz] at t0
      rw [hx] at t1
      rw [hy] at t2
      have HB : Hid (Below w.heap.size w wr) := hB
      clear hB hpt hz hx hy
      have hi : (j : Int) < (n : Int) := by omega
      have hi0 : (0 : Int) ≤ (j : Int) := by omega
      go_wp2
      go_roundw
      case rel => exact ⟨j + 1, K + 3, by omega, by have := HK.out; show _ = _; omega, by go_num, by go_num, HB.out⟩
      case measure => simp [intOf]; omega
    · go_wp2
      go_ret
      have hjn : j = n := by omega
      subst hjn
      exact ⟨ret_int (by have := HK.out; omega), hB⟩
/-- v is a list of n refs in a block from base on. -/
def OwnT (w : World) (base : Nat) (v : Value) (n : Nat) (R : Rfs) : Prop :=
  ∃ a cap, v = .slice a n cap ∧ n ≤ cap ∧ (n = 0 ∨ ∃ b, a = some ⟨b, 0, none⟩ ∧ base ≤ b ∧ b < w.heap.size ∧ RsAt w b 0 n R ∧ There w b (n * 3))
theorem OwnT.below {w w' : World} {base : Nat} {v : Value} {n : Nat} {R : Rfs} (h : OwnT w base v n R) (hb : Below w.heap.size w w') : OwnT w' base v n R := by
  obtain ⟨a, cap, hv, hc, h0 | ⟨b, ha, hbb, hl, hp, ht⟩⟩ := h
  · exact ⟨a, cap, hv, hc, .inl h0⟩
  · exact ⟨a, cap, hv, hc, .inr ⟨b, ha, hbb, Nat.lt_of_lt_of_le hl hb.size, hp.below hb hl, ht.below hb⟩⟩
theorem OwnT.pts {w : World} {base : Nat} {v : Value} {n : Nat} {R : Rfs} (h : OwnT w base v n R) : ∃ a cap, v = .slice a n cap ∧ n ≤ cap ∧ IsRs w a n R := by
  obtain ⟨a, cap, hv, hc, h0 | ⟨b, ha, hb, hl, hp, ht⟩⟩ := h
  · exact ⟨a, cap, hv, hc, .inl h0⟩
  · exact ⟨a, cap, hv, hc, .inr ⟨b, 0, ha, hl, hp⟩⟩
theorem OwnT.is {w : World} {base : Nat} {a : Option Addr} {n cap : Nat} {R : Rfs} (h : OwnT w base (.slice a n cap) n R) : IsRs w a n R := by
  obtain ⟨a', cap', hv, hc, hi⟩ := h.pts
  injection hv with h1 h2 h3
  subst h1
  exact hi
/-- Refs that lie below block T. -/
def UnderT (T : Nat) (w : World) (a : Option Addr) (n : Nat) (R : Rfs) : Prop := n = 0 ∨ ∃ b off, a = some ⟨b, off, none⟩ ∧ b < T ∧ RsAt w b off n R
theorem UnderT.is {T : Nat} {w : World} {a : Option Addr} {n : Nat} {R : Rfs} (h : UnderT T w a n R) (hT : T ≤ w.heap.size) : IsRs w a n R := by
  rcases h with h | ⟨b, off, e, hl, hp⟩
  · exact .inl h
  · exact .inr ⟨b, off, e, by omega, hp⟩
theorem UnderT.below {T B : Nat} {w w' : World} {a : Option Addr} {n : Nat} {R : Rfs} (h : UnderT T w a n R) (hb : Below B w w') (hB : T ≤ B) : UnderT T w' a n R := by
  rcases h with h | ⟨b, off, e, hl, hp⟩
  · exact .inl h
  · exact .inr ⟨b, off, e, hl, hp.below hb (by omega)⟩
theorem bl_cellR {w w' : World} {p : Addr} {v : Value} (hb : Below w.heap.size w w') (h : w.cell? p = some v) : w'.cell? p = some v := (hb.cell (World.block_lt_of_cell? _ _ h)).trans h
theorem ro_cellR {w w' : World} {b o : Nat} {row : Option Nat} {v : Value} (hg : w.grownBy w' row) (h : w.cell? ⟨b, o, none⟩ = some v) (hs : ∀ s, row = some s → b ≠ s) : w'.cell? ⟨b, o, none⟩ = some v := hg.cell h (fun e => hs _ e.symm rfl)
theorem UnderT.row {T : Nat} {row : Option Nat} {w w' : World} {a : Option Addr} {n : Nat} {R : Rfs} (h : UnderT T w a n R) (hg : w.grownBy w' row) (hs : ∀ s, row = some s → T ≤ s) : UnderT T w' a n R := by
  rcases h with h | ⟨b, off, e, hl, hp⟩
  · exact .inl h
  · refine .inr ⟨b, off, e, hl, fun i hi => ?_⟩
    obtain ⟨h0, h1, h2⟩ := hp i hi
    have hne : ∀ s, row = some s → b ≠ s := fun s e => by have := hs s e; omega
    exact ⟨ro_cellR hg h0 hne, ro_cellR hg h1 hne, ro_cellR hg h2 hne⟩
theorem below_rowR {B : Nat} {row : Option Nat} {a b : World} (h : a.grownBy b row) (hs : ∀ s, row = some s → B ≤ s) (hl : B ≤ a.heap.size) : Below B a b :=
  ⟨h.os, h.tape, h.output, h.size, fun k hk => h.block k (by omega) (fun e => by have := hs k e.symm; omega)⟩
set_option maxHeartbeats 1000000 in
theorem eqRefsResult_any (c : Int) (a a' : Option Addr) (n cap cap' : Nat) (R : Rfs) (w : World) (hp : IsRs w a n R) (hq : IsRs w a' n R) (hmax : n ≤ 1048576) :
    Calls Tryz.prog 10 #[.agg #[.int .i64 c, .slice a n cap], .agg #[.int .i64 c, .slice a' n cap']] w fun e w' => e = .returned (.bool true) ∧ Below w.heap.size w w' := by
  have HP : Hid (IsRs w a n R) := hp
  have HQ : Hid (IsRs w a' n R) := hq
  clear hp hq
  go_enter Tryz.func10, Tryz.ntmps10
  go_wp2_with fail
  generalize hW : ((w.alloc _).alloc _ : World) = W
  have HB : Below w.heap.size w W := by subst hW; (repeat (first | exact Below.refl _ _ | assumption | refine Below.drew ?_ | refine bl_alloc ?_ _ | refine bl_then ?_ (by assumption) | refine Below.setCell ?_ (by first | omega | (simp; done) | (simp; omega)) _ | refine bl_store ?_ ?_ _ _))
  clear hW
  refine (eqRefS_any _ _ _ _ _ R _ (HP.out.below HB) (HQ.out.below HB) hmax).mono ?_
  rintro e w' ⟨rfl, hb⟩
  go_wp2
  go_ret
  exact ⟨rfl, by (repeat (first | exact Below.refl _ _ | assumption | refine Below.drew ?_ | refine bl_alloc ?_ _ | refine bl_then ?_ (by assumption) | refine Below.setCell ?_ (by first | omega | (simp; done) | (simp; omega)) _ | refine bl_store ?_ ?_ _ _))⟩
set_option maxHeartbeats 1000000 in
theorem markRefsResult_some (c : Int) (b n cap : Nat) (w : World) (hT : There w b (n * 3)) (hb : b < w.heap.size) (hmax : n ≤ 1048576) :
    Calls Tryz.prog 13 #[.agg #[.int .i64 c, .slice (some ⟨b, 0, none⟩) n cap], .int .i64 1] w fun e w' => e = .returned (.int .i64 ((1 + 3 * n : Nat) : Int)) ∧ w.grownBy w' (some b) ∧ There w' b (n * 3) ∧ RsAt w' b 0 n (mkR 1) := by
  have HT : Hid (There w b (n * 3)) := hT
  clear hT
  go_enter Tryz.func13, Tryz.ntmps13
  go_wp2_with fail
  generalize hW : (w.alloc _ : World) = W
  have HB : Below w.heap.size w W := by subst hW; (repeat (first | exact Below.refl _ _ | assumption | refine Below.drew ?_ | refine bl_alloc ?_ _ | refine bl_then ?_ (by assumption) | refine Below.setCell ?_ (by first | omega | (simp; done) | (simp; omega)) _ | refine bl_store ?_ ?_ _ _))
  clear hW
  refine (markRefS_any b n _ 1 _ (HT.out.below HB) (Nat.lt_of_lt_of_le hb HB.size) hmax (by omega)).mono ?_
  rintro e w' ⟨rfl, hG, hT', hP⟩
  have HG : Hid (w.grownBy w' (some b)) := grown_transR (grown_belowR HB) hG
  have HT' : Hid (There w' b (n * 3)) := hT'
  have HP' : Hid (RsAt w' b 0 n (mkR 1)) := hP
  clear hG hT' hP HB
  go_wp2
  go_ret
  exact ⟨rfl, HG.out, HT'.out, HP'.out⟩
theorem markRefsResult_none (c : Int) (a : Option Addr) (cap : Nat) (w : World) :
    Calls Tryz.prog 13 #[.agg #[.int .i64 c, .slice a 0 cap], .int .i64 1] w fun e w' => e = .returned (.int .i64 ((1 + 3 * 0 : Nat) : Int)) ∧ Below w.heap.size w w' := by
  go_enter Tryz.func13, Tryz.ntmps13
  go_wp2_with (go_at_call 37; refine (markRefS_none _ _ _ _).mono ?_; rintro e w' ⟨rfl, rfl⟩)
  go_ret
  exact ⟨rfl, by (repeat (first | exact Below.refl _ _ | assumption | refine Below.drew ?_ | refine bl_alloc ?_ _ | refine bl_then ?_ (by assumption) | refine Below.setCell ?_ (by first | omega | (simp; done) | (simp; omega)) _ | refine bl_store ?_ ?_ _ _))⟩
theorem heldRefsResult_any (c : Int) (a : Option Addr) (n cap : Nat) (w : World) (hp : IsRs w a n (mkR 1)) (hmax : n ≤ 1048576) :
    Calls Tryz.prog 14 #[.agg #[.int .i64 c, .slice a n cap], .int .i64 1] w fun e w' => e = .returned (.int .i64 ((1 + 3 * n : Nat) : Int)) ∧ Below w.heap.size w w' := by
  have HP : Hid (IsRs w a n (mkR 1)) := hp
  clear hp
  have hneg : ¬ ((1 + 3 * n : Nat) : Int) < 0 := by omega
  have Hhd : Hid (∀ w, IsRs w a n (mkR 1) → Calls Tryz.prog 38 #[.slice a n cap, .int .i64 1] w fun e w' => e = .returned (.int .i64 ((1 + 3 * n : Nat) : Int)) ∧ Below w.heap.size w w') := fun w h1 => heldRefS_any a n cap 1 w h1 hmax (by omega)
  generalize ((1 + 3 * n : Nat) : Int) = q at *
  go_enter Tryz.func14, Tryz.ntmps14
  go_wp2_with fail
  generalize hW : (w.alloc _ : World) = W
  have HB : Below w.heap.size w W := by subst hW; (repeat (first | exact Below.refl _ _ | assumption | refine Below.drew ?_ | refine bl_alloc ?_ _ | refine bl_then ?_ (by assumption) | refine Below.setCell ?_ (by first | omega | (simp; done) | (simp; omega)) _ | refine bl_store ?_ ?_ _ _))
  clear hW
  refine (Hhd.out _ (HP.out.below HB)).mono ?_
  rintro e w' ⟨rfl, hb'⟩
  go_wp2
  go_ret
  exact ⟨rfl, by (repeat (first | exact Below.refl _ _ | assumption | refine Below.drew ?_ | refine bl_alloc ?_ _ | refine bl_then ?_ (by assumption) | refine Below.setCell ?_ (by first | omega | (simp; done) | (simp; omega)) _ | refine bl_store ?_ ?_ _ _))⟩
end Go.Proofs.YtbdhhclamgmfkaaGreat
