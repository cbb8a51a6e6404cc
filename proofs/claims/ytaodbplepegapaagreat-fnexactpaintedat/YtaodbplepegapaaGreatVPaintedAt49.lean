/- Several texts in one. -/
import Derived.Test.YtaodbplepegapaaGreatVPaintedAt48
import Derived.Test.YtaodbplepegapaaGreatVPaintedAt23
import Derived.Test.YtaodbplepegapaaGreatVPaintedAt1
import Derived.Test.YtaodbplepegapaaGreatRows
import Derived.WalkKit
import Derived.Below
import Derived.ProofKit
import Derived.OpenShut
import Derived.ChangeOld
import Derived.Deep.SlicePairs
import Derived.Test.YtaodbplepegapaaGreatVPaintedAt2
import Derived.ChangeMaps5
import Derived.Test.YtaodbplepegapaaGreatVPaintedAt22
import Derived.Deep.Slices

/- The law of PaintedAt returns true at every list of features and all numbers. -/

namespace Go.Proofs.YtaodbplepegapaaGreat
open Go.RowKit
set_option linter.unusedSimpArgs false
set_option linter.unusedVariables false
set_option maxRecDepth 100000

theorem srtF_same {n : Nat} {G F : Nat → Feat} (h : ∀ i, i < n → (G i).same (F i)) : srtF n G = srtF n F := srtK_congr n (fun j hj => ⟨(h j hj).2.1, (h j hj).1⟩)
theorem paintS_same {n : Nat} {G F : Nat → Feat} (h : ∀ i, i < n → (G i).same (F i)) (z x y : Int) : paintS G n z x y = paintS F n z x y := by
  unfold paintS
  rw [srtF_same h]
  refine paintI_congr fun i hi => ?_
  have hs := h _ (srtF_lt n F i hi)
  refine ⟨?_, hs.1⟩
  unfold covL
  rw [simL_same hs, hs.2.2.1, hs.2.2.2.1]
theorem pa_same {z x y : Int} {n : Nat} {G F : Nat → Feat} (h : ∀ i, i < n → (G i).same (F i)) : paC z x y n G = paC z x y n F ∧ paV z x y n G = paV z x y n F := by
  have e1 : paC z x y n G = paC z x y n F := by unfold paC; rw [featsC_same h]
  exact ⟨e1, by unfold paV; rw [e1, paintS_same h]⟩
set_option maxHeartbeats 4000000 in
theorem FnExactPaintedAt_walk (a : Option Addr) (n cap : Nat) (F : Nat → Feat) (z x y : Int) (w : World) (h : IsFs w a n F ∧ CameFs n F) :
    Calls Tryz.prog 3 #[.slice a n cap, .int .i64 z, .int .i64 x, .int .i64 y] w fun e w' => e = .returned (.bool true) ∧ Below w.heap.size w w' := by
  obtain ⟨hf, hc⟩ := h
  have HI : Hid (IsFs w a n F) := hf
  have HC : Hid (CameFs n F) := hc
  clear hf hc
  go_enter Tryz.func3, Tryz.ntmps3
  go_wp2_with fail
  refine (szFeatureS_any a n cap F 1048576 w (by omega) HI.out HC.out).mono ?_
  rintro e w1 ⟨rfl | ⟨m, hm, hS, rfl⟩, hB1⟩
  · go_wp2
    go_ret
    exact ⟨rfl, hB1⟩
  have HS : Hid (SmallFs n F) := hS
  have hall : Hid (∀ i, i < n → (F i).n ≤ 1048576) := fun i hi => (hS.2 i hi).1
  have hn := hS.1
  have hneg : ¬ ((m : Nat) : Int) < 0 := by omega
  clear hS
  obtain ⟨kc, hkc⟩ : ∃ C, C = paC z x y n F := ⟨_, rfl⟩
  obtain ⟨kv, hkv⟩ : ∃ C, C = paV z x y n F := ⟨_, rfl⟩
  have HSP : Hid (∀ b w G B, OwnFs w B b n F G → Calls Tryz.prog 8 #[.slice (some ⟨b, 0, none⟩) n n, .int .i64 z, .int .i64 x, .int .i64 y] w fun e w' => e = .returned (.agg #[.int .i64 kc, .int .i64 kv]) ∧ Below w.heap.size w w') := fun b w G B hO => by
    obtain ⟨e1, e2⟩ := pa_same (z := z) (x := x) (y := y) (fun i hi => (hO.2.2.2 i hi).1)
    rw [hkc, hkv, ← e1, ← e2]
    exact spec_PaintedAt_any z x y b n n G w hO.2.2.1 hO.2.1 (hO.small HS.out)
  have HIM : Hid (∀ b w G B, OwnFs w B b n F G → Calls Tryz.prog 10 #[.slice (some ⟨b, 0, none⟩) n n, .int .i64 z, .int .i64 x, .int .i64 y] w fun e w' => e = .returned (.agg #[.int .i64 kc, .int .i64 kv]) ∧ Below w.heap.size w w') := fun b w G B hO => by
    obtain ⟨e1, e2⟩ := pa_same (z := z) (x := x) (y := y) (fun i hi => (hO.2.2.2 i hi).1)
    rw [hkc, hkv, ← e1, ← e2]
    exact impl_PaintedAt_any z x y b n n G w hO.2.2.1 hO.2.1 (hO.small HS.out) (Nat.le_refl _)
  clear hkc hkv
  go_wp2_with fail
  refine (toFeatureS_any a n cap F _ (HI.out.below hB1) hn hall.out).mono ?_
  rintro e w2 ⟨b2, G2, rfl, hO2, hb2⟩
  have HO2 : Hid (OwnFs w2 w1.heap.size b2 n F G2) := hO2
  have hB2 : Below w.heap.size w w2 := bl_then hB1 hb2
  clear hO2 hb2 hB1
  go_wp2_with fail
  refine (HSP.out b2 _ G2 _ HO2.out).mono ?_
  rintro e w3 ⟨rfl, hb3⟩
  have hB3 : Below w.heap.size w w3 := bl_then hB2 hb3
  clear hb3 hB2 HO2
  go_wp2_with fail
  generalize hV : (w3.alloc _ : World) = V
  have hBV : Below w.heap.size w V := by subst hV; exact bl_alloc hB3 _
  have v0 : ∀ W', Below V.heap.size V W' → W'.cell? ⟨w3.heap.size, 0, none⟩ = some (.int .i64 kc) := fun W' h => by rw [h.cell (by subst hV; simp)]; subst hV; simp [go_sem]
  have v1 : ∀ W', Below V.heap.size V W' → W'.cell? ⟨w3.heap.size, 1, none⟩ = some (.int .i64 kv) := fun W' h => by rw [h.cell (by subst hV; simp)]; subst hV; simp [go_sem]
  have HLV : Hid (w3.heap.size < V.heap.size) := by show _ < _; subst hV; simp
  clear hV hB3
  refine (toFeatureS_any a n cap F _ (HI.out.below hBV) hn hall.out).mono ?_
  rintro e w4 ⟨b4, G4, rfl, hO4, hb4⟩
  have HO4 : Hid (OwnFs w4 V.heap.size b4 n F G4) := hO4
  have HV4 : Hid (Below V.heap.size V w4) := hb4
  clear hO4 hb4
  go_wp2_with fail
  refine (HIM.out b4 _ G4 _ HO4.out).mono ?_
  rintro e w5 ⟨rfl, hb5⟩
  have HO5 : Hid (OwnFs w5 V.heap.size b4 n F G4) := HO4.out.below hb5
  have hV5 : Below V.heap.size V w5 := bl_then HV4.out hb5
  have r0 := v0 w5 hV5
  have r1 := v1 w5 hV5
  have hl5 : w3.heap.size < w5.heap.size := Nat.lt_of_lt_of_le HLV.out hV5.size
  have HV5 : Hid (Below V.heap.size V w5) := hV5
  clear hb5 HO4 hV5 v0 v1
  go_wp2_with fail
  refine (eqIntResult_any kc kv _).mono ?_
  rintro e w6 ⟨rfl, hb6⟩
  have hV6 : Below V.heap.size V w6 := bl_then (bl_alloc HV5.out _) hb6
  have h56 : Below w5.heap.size w5 w6 := bl_then (bl_alloc (Below.refl _ _) _) hb6
  have HO6 : Hid (OwnFs w6 V.heap.size b4 n F G4) := HO5.out.below h56
  have hB6 : Below w.heap.size w w6 := bl_then hBV hV6
  clear hb6 hV6 h56 HO5 r0 r1
  go_wp2_with fail
  refine (toFeatureS_any a n cap F _ (HI.out.below hB6) hn hall.out).mono ?_
  rintro e w7 ⟨b7, G7, rfl, hO7, hb7⟩
  have HO7 : Hid (OwnFs w7 w6.heap.size b7 n F G7) := hO7
  have HO8 : Hid (OwnFs w7 V.heap.size b4 n F G4) := HO6.out.below hb7
  have hB7 : Below w.heap.size w w7 := bl_then hB6 hb7
  clear hO7 hb7 hB6 HO6
  go_wp2_with fail
  refine (eqFeatureS_any b4 b7 n _ _ F G4 G7 _ HO8.out HO7.out HS.out).mono ?_
  rintro e w8 ⟨rfl, hb8⟩
  have HB8 : Hid (Below w.heap.size w w8) := bl_then hB7 hb8
  clear hb8 hB7
  go_wp2
  go_ret
  exact ⟨rfl, HB8.out⟩
end Go.Proofs.YtaodbplepegapaaGreat
/- How a point, a box and a list of points that came in are read. -/

namespace Go.Proofs.YtaodbplepegapaaGreat
open Go.ChangeShapes Go.WideShapes Go.ChangeAt Go.RowKit
set_option linter.unusedVariables false
set_option maxRecDepth 100000

theorem own : ownKnob Tryz.prog.godebug = none := by kernel_rfl
theorem laidOut : laidOutB Tryz.prog = true := by kernel_rfl
theorem cells_lp : Tryz.prog.cellsOf 153 = 2 := by kernel_rfl
theorem cells_i64 : Tryz.prog.cellsOf 2 = 1 := by kernel_rfl

/-- Two cells that read as a point. -/
theorem trod_point {H : Type} {enc : TypeId × Value → H} {w : World} {base : Nat} {spare : Nat → Bool} {held : Bool} {n : Nat} {cs : List Value} {x : DataW H × List MemPlace}
    (h : DataW.trod enc Tryz.prog w base spare held n 153 cs = some x) : ∃ a b : Int, cs = [.int .i64 a, .int .i64 b] ∧ (Lit.int .i64 a).wf = true ∧ (Lit.int .i64 b).wf = true := by
  obtain ⟨y0, y1, m, hx, hl, h0, h1⟩ := trod_struct2 Tryz.underlying153 h
  rw [cells_lp] at hl
  match cs, hl with
  | [v0, v1], _ =>
    simp [cells_i64] at h0 h1
    obtain ⟨a, e0, _, wa⟩ := DataW.trod_int Tryz.underlying2 h0
    obtain ⟨b, e1, _, wb⟩ := DataW.trod_int Tryz.underlying2 h1
    simp at e0 e1
    subst e0 e1
    exact ⟨a, b, rfl, wa, wb⟩

theorem open_point {H : Type} {enc : TypeId × Value → H} {w : World} {base b0 : Nat} {spare : Nat → Bool} {held : Bool} {r : Reach} {v : Value} {d : DataW H} {p : List MemPlace}
    (hv : Value.okWide Tryz.prog w r b0 153 v) (h : DataW.Trod enc Tryz.prog w base spare held 153 v d p) :
    ∃ a b : Int, v = .agg #[.int .i64 a, .int .i64 b] ∧ (Lit.int .i64 a).wf = true ∧ (Lit.int .i64 b).wf = true := by
  obtain ⟨cs, rfl, hsz⟩ := okWide_struct Tryz.underlying153 hv
  obtain ⟨n, h⟩ := h
  obtain ⟨a, b, e, wa, wb⟩ := trod_point h
  refine ⟨a, b, ?_, wa, wb⟩
  have : cs = #[.int .i64 a, .int .i64 b] := by
    apply Array.toList_inj.1
    simpa [Value.cells] using e
  rw [this]
end Go.Proofs.YtaodbplepegapaaGreat
/- How a list of points that came in is read. -/

namespace Go.Proofs.YtaodbplepegapaaGreat
open Go.ChangeShapes Go.WideShapes Go.ChangeAt Go.RowKit Go.Deep
set_option linter.unusedVariables false
set_option maxRecDepth 100000

theorem open_pts {H : Type} {enc : TypeId × Value → H} {w : World} {base b0 : Nat} {held : Bool} {r : Reach} {v : Value} {d : DataW H} {p : List MemPlace}
    (hv : Value.okWide Tryz.prog w r b0 61 v) (h : DataW.Trod enc Tryz.prog w base (fun _ => true) held 61 v d p) :
    ∃ (a : Option Addr) (n cap : Nat) (X Y : Nat → Int), v = .slice a n cap ∧ IsPts w a n X Y ∧ n ≤ cap ∧ cap ≤ maxLen := by
  obtain ⟨a, len, cap, rfl⟩ := okWide_slice Tryz.underlying61 hv
  obtain ⟨fuel, hf⟩ := h
  rcases open_slice_pairs Tryz.underlying61 Tryz.underlying153 cells_lp rfl rfl cells_i64 cells_i64 hf with ⟨hcs, _⟩ | ⟨x, l, c, m, n, V0, V1, D0, D1, P0, P1, hcs, _, hl, hc, hm, _, hx⟩
  · simp [Value.cells] at hcs
    obtain ⟨rfl, rfl, rfl⟩ := hcs
    exact ⟨none, 0, 0, fun _ => 0, fun _ => 0, rfl, .inl rfl, Nat.le_refl _, Nat.zero_le _⟩
  · simp [Value.cells] at hcs
    obtain ⟨rfl, rfl, rfl⟩ := hcs
    simp at hm
    subst hm
    refine ⟨some x, len, _, fun i => intOf (V0 i), fun i => intOf (V1 i), rfl, ?_, hl, hc⟩
    by_cases h0 : len = 0
    · exact .inl h0
    · right
      obtain ⟨b, off, spot⟩ := x
      obtain ⟨e0, _, _, _⟩ := hx 0 (by omega)
      have hspot : spot = none := by simpa [Addr.add] using World.cell?_spot e0
      subst hspot
      refine ⟨b, off, rfl, ?_, fun i hi => ?_⟩
      · have := World.block_lt_of_cell? _ _ e0
        simpa [Addr.add] using this
      · obtain ⟨e0, e1, g0, g1⟩ := hx i (by omega)
        obtain ⟨n0, q0, _, _⟩ := DataW.trod_int Tryz.underlying2 g0
        obtain ⟨n1, q1, _, _⟩ := DataW.trod_int Tryz.underlying2 g1
        simp at q0 q1
        rw [q0] at e0
        rw [q1] at e1
        simp only [q0, q1, intOf]
        rw [add_plain] at e0 e1
        exact ⟨e0, by rw [Nat.add_assoc]; exact e1⟩
end Go.Proofs.YtaodbplepegapaaGreat
/- How a feature that came in is read. -/

namespace Go.Proofs.YtaodbplepegapaaGreat
open Go.ChangeShapes Go.WideShapes Go.ChangeAt Go.RowKit Go.Deep
set_option linter.unusedVariables false
set_option maxRecDepth 100000

theorem trod_pts {H : Type} {enc : TypeId × Value → H} {w : World} {base fuel : Nat} {held : Bool} {cs : List Value} {y : DataW H × List MemPlace}
    (hf : DataW.trod enc Tryz.prog w base (fun _ => true) held fuel 61 cs = some y) :
    ∃ (a : Option Addr) (n cap : Nat) (X Y : Nat → Int), cs = [.slice a n cap] ∧ IsPts w a n X Y ∧ n ≤ cap ∧ cap ≤ maxLen := by
  rcases open_slice_pairs Tryz.underlying61 Tryz.underlying153 cells_lp rfl rfl cells_i64 cells_i64 hf with ⟨hcs, _⟩ | ⟨x, l, c, m, n, V0, V1, D0, D1, P0, P1, hcs, _, hl, hc, hm, _, hx⟩
  · exact ⟨none, 0, 0, fun _ => 0, fun _ => 0, hcs, .inl rfl, Nat.le_refl _, Nat.zero_le _⟩
  · simp at hm
    subst hm
    refine ⟨some x, l, _, fun i => intOf (V0 i), fun i => intOf (V1 i), hcs, ?_, hl, hc⟩
    by_cases h0 : l = 0
    · exact .inl h0
    · right
      obtain ⟨b, off, spot⟩ := x
      obtain ⟨e0, _, _, _⟩ := hx 0 (by omega)
      have hspot : spot = none := by simpa [Addr.add] using World.cell?_spot e0
      subst hspot
      refine ⟨b, off, rfl, ?_, fun i hi => ?_⟩
      · have := World.block_lt_of_cell? _ _ e0
        simpa [Addr.add] using this
      · obtain ⟨e0, e1, g0, g1⟩ := hx i (by omega)
        obtain ⟨n0, q0, _, _⟩ := DataW.trod_int Tryz.underlying2 g0
        obtain ⟨n1, q1, _, _⟩ := DataW.trod_int Tryz.underlying2 g1
        simp at q0 q1
        rw [q0] at e0
        rw [q1] at e1
        simp only [q0, q1, intOf]
        rw [add_plain] at e0 e1
        exact ⟨e0, by rw [Nat.add_assoc]; exact e1⟩
theorem cells_lf : Tryz.prog.cellsOf 63 = 7 := by kernel_rfl
theorem cells_ls : Tryz.prog.cellsOf 61 = 1 := by kernel_rfl
theorem cells_st : Tryz.prog.cellsOf 9 = 1 := by kernel_rfl

/-- Seven cells that read as a feature. -/
theorem trod_feat {H : Type} {enc : TypeId × Value → H} {w : World} {base fuel : Nat} {held : Bool} {cs : List Value} {y : DataW H × List MemPlace}
    (h : DataW.trod enc Tryz.prog w base (fun _ => true) held fuel 63 cs = some y) :
    ∃ (id la ki wi : Int) (a : Option Addr) (n cap : Nat) (X Y : Nat → Int) (lab : ByteArray) (pr : Int), cs = [.int .i64 id, .int .i64 la, .int .i64 ki, .int .i64 wi, .slice a n cap, .string lab, .int .i64 pr] ∧ IsPts w a n X Y ∧ n ≤ cap ∧ cap ≤ maxLen ∧ lab.size ≤ maxLen := by
  obtain ⟨xs, m, rfl, hx, hl, hxl, hf⟩ := DataW.trod_struct Tryz.underlying63 h
  rw [cells_lf] at hl
  have hxl7 : xs.length = 7 := hxl
  match cs, hl with
  | [v0, v1, v2, v3, v4, v5, v6], _ =>
    match xs, hxl7 with
    | [x0, x1, x2, x3, x4, x5, x6], _ =>
      have h0 := hf 0 _ rfl
      have h1 := hf 1 _ rfl
      have h2 := hf 2 _ rfl
      have h3 := hf 3 _ rfl
      have h4 := hf 4 _ rfl
      have h5 := hf 5 _ rfl
      have h6 := hf 6 _ rfl
      simp [cells_i64, cells_ls, cells_st] at h0 h1 h2 h3 h4 h5 h6
      obtain ⟨id, e0, _, _⟩ := DataW.trod_int Tryz.underlying2 h0
      obtain ⟨la, e1, _, _⟩ := DataW.trod_int Tryz.underlying2 h1
      obtain ⟨ki, e2, _, _⟩ := DataW.trod_int Tryz.underlying2 h2
      obtain ⟨wi, e3, _, _⟩ := DataW.trod_int Tryz.underlying2 h3
      obtain ⟨a, n, cap, X, Y, e4, hp, hn, hc⟩ := trod_pts h4
      obtain ⟨lab, e5, _, hs⟩ := DataW.trod_string Tryz.underlying9 h5
      obtain ⟨pr, e6, _, _⟩ := DataW.trod_int Tryz.underlying2 h6
      simp at e0 e1 e2 e3 e4 e5 e6
      subst e0 e1 e2 e3 e4 e5 e6
      exact ⟨id, la, ki, wi, a, n, cap, X, Y, lab, pr, rfl, hp, hn, hc, hs⟩

theorem open_feat {H : Type} {enc : TypeId × Value → H} {w : World} {base b0 : Nat} {held : Bool} {r : Reach} {v : Value} {d : DataW H} {p : List MemPlace}
    (hv : Value.okWide Tryz.prog w r b0 63 v) (h : DataW.Trod enc Tryz.prog w base (fun _ => true) held 63 v d p) :
    ∃ (id la ki wi : Int) (a : Option Addr) (n cap : Nat) (X Y : Nat → Int) (lab : ByteArray) (pr : Int), v = .agg #[.int .i64 id, .int .i64 la, .int .i64 ki, .int .i64 wi, .slice a n cap, .string lab, .int .i64 pr] ∧ (IsPts w a n X Y ∧ n ≤ cap ∧ cap ≤ maxLen ∧ lab.size ≤ maxLen) := by
  obtain ⟨cs, rfl, hsz⟩ := okWide_struct Tryz.underlying63 hv
  obtain ⟨m, h⟩ := h
  obtain ⟨id, la, ki, wi, a, n, cap, X, Y, lab, pr, e, hp⟩ := trod_feat h
  refine ⟨id, la, ki, wi, a, n, cap, X, Y, lab, pr, ?_, hp⟩
  have : cs = #[.int .i64 id, .int .i64 la, .int .i64 ki, .int .i64 wi, .slice a n cap, .string lab, .int .i64 pr] := by
    apply Array.toList_inj.1
    simpa [Value.cells] using e
  rw [this]
end Go.Proofs.YtaodbplepegapaaGreat
/- How a list of features that came in is read. -/

namespace Go.Proofs.YtaodbplepegapaaGreat
open Go.ChangeShapes Go.WideShapes Go.ChangeAt Go.RowKit Go.Deep
set_option linter.unusedVariables false
set_option maxRecDepth 100000

theorem open_feats {H : Type} {enc : TypeId × Value → H} {w : World} {base b0 : Nat} {held : Bool} {r : Reach} {v : Value} {d : DataW H} {p : List MemPlace}
    (hv : Value.okWide Tryz.prog w r b0 22 v) (h : DataW.Trod enc Tryz.prog w base (fun _ => true) held 22 v d p) :
    ∃ (a : Option Addr) (n cap : Nat) (F : Nat → Feat), v = .slice a n cap ∧ (IsFs w a n F ∧ CameFs n F) := by
  obtain ⟨a, len, cap, rfl⟩ := okWide_slice Tryz.underlying22 hv
  obtain ⟨fuel, hf⟩ := h
  rcases open_slice Tryz.underlying22 hf with ⟨hcs, _⟩ | ⟨x, l, c, m, n, D, Pl, hcs, _, hl, hc, hm, _, hx⟩
  · simp [Value.cells] at hcs
    obtain ⟨rfl, rfl, rfl⟩ := hcs
    exact ⟨none, 0, 0, fun _ => ⟨0, 0, 0, 0, none, 0, 0, fun _ => 0, fun _ => 0, ⟨#[]⟩, 0⟩, rfl, .inl rfl, Nat.zero_le _, fun i hi => absurd hi (by omega)⟩
  · simp [Value.cells] at hcs
    obtain ⟨rfl, rfl, rfl⟩ := hcs
    simp at hm
    subst hm
    have each : ∀ i, ∃ f : Feat, i < len → (∀ k, k < 7 → w.cell? (x.add (i * 7 + k)) = [Value.int .i64 f.id, .int .i64 f.la, .int .i64 f.ki, .int .i64 f.wi, .slice f.a f.n f.cap, .string f.lab, .int .i64 f.pr][k]?) ∧ IsPts w f.a f.n f.X f.Y ∧ f.n ≤ maxLen ∧ f.lab.size ≤ maxLen := by
      intro i
      by_cases hi : i < len
      · obtain ⟨cs', h1, h2⟩ := hx i (by omega)
        rw [cells_lf] at h1
        obtain ⟨_, hlen, hcell⟩ := World.cells?_some h1
        obtain ⟨id, la, ki, wi, a', n', cap', X, Y, lab, pr, rfl, hp, hn, hcp, hs⟩ := trod_feat h2
        refine ⟨⟨id, la, ki, wi, a', n', cap', X, Y, lab, pr⟩, fun _ => ⟨fun k hk => ?_, hp, Nat.le_trans hn hcp, hs⟩⟩
        have := hcell k hk
        rw [add_add] at this
        exact this
      · exact ⟨⟨0, 0, 0, 0, none, 0, 0, fun _ => 0, fun _ => 0, ⟨#[]⟩, 0⟩, fun h => absurd h hi⟩
    obtain ⟨F, hF⟩ := Classical.skolem.1 each
    refine ⟨some x, len, _, F, rfl, ?_, Nat.le_trans hl hc, fun i hi => (hF i hi).2.2⟩
    by_cases h0 : len = 0
    · exact .inl h0
    · right
      obtain ⟨b, off, spot⟩ := x
      have e0 := (hF 0 (by omega)).1 0 (by omega)
      simp at e0
      have hspot : spot = none := by simpa [Addr.add] using World.cell?_spot e0
      subst hspot
      refine ⟨b, off, rfl, ?_, fun i hi => ?_⟩
      · have := World.block_lt_of_cell? _ _ e0
        simpa [Addr.add] using this
      · obtain ⟨hc7, hp, _, _⟩ := hF i hi
        refine ⟨?_, hp⟩
        have k0 := hc7 0 (by omega)
        have k1 := hc7 1 (by omega)
        have k2 := hc7 2 (by omega)
        have k3 := hc7 3 (by omega)
        have k4 := hc7 4 (by omega)
        have k5 := hc7 5 (by omega)
        have k6 := hc7 6 (by omega)
        rw [add_plain] at k0 k1 k2 k3 k4 k5 k6
        simp only [← Nat.add_assoc, Nat.add_zero] at k0 k1 k2 k3 k4 k5 k6
        exact ⟨k0, k1, k2, k3, k4, k5, k6⟩
end Go.Proofs.YtaodbplepegapaaGreat
