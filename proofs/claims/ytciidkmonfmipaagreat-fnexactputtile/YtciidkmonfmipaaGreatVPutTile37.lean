/- Tiles and caches that are the same are found equal, whatever memory they have. -/
import Derived.Test.YtciidkmonfmipaaGreatVPutTile21
import Derived.Test.YtciidkmonfmipaaGreatVPutTile16
namespace Go.Proofs.YtciidkmonfmipaaGreat
open Go.RowKit
set_option linter.unusedSimpArgs false
set_option linter.unusedVariables false
set_option maxRecDepth 100000

/-- A kept tile that is the same as another. -/
def KpSm (w : World) (k r : Kp) : Prop := (r.z = k.z ∧ r.x = k.x ∧ r.y = k.y) ∧ r.fn = k.fn ∧ r.m = k.m ∧ (IsFs w r.fa k.fn r.F ∧ ∀ i, i < k.fn → (r.F i).same (k.F i)) ∧ IsNs w r.ia k.m k.I
theorem KpSm.below {w w' : World} {k r : Kp} (h : KpSm w k r) (hb : Below w.heap.size w w') : KpSm w' k r := by
  obtain ⟨h1, h2, h3, ⟨h4, h5⟩, h6⟩ := h
  exact ⟨h1, h2, h3, ⟨h4.below hb, h5⟩, h6.below hb⟩
/-- Kept tiles that are the same as others. -/
def KsSm (w : World) (a : Option Addr) (n : Nat) (K R : Nat → Kp) : Prop := n = 0 ∨ ∃ g, a = some ⟨g, 0, none⟩ ∧ g < w.heap.size ∧ ∀ i, i < n → KpAt w g (i * 5) (R i) ∧ KpSm w (K i) (R i)
theorem KsSm.below {w w' : World} {a : Option Addr} {n : Nat} {K R : Nat → Kp} (h : KsSm w a n K R) (hb : Below w.heap.size w w') : KsSm w' a n K R :=
  h.imp id (fun ⟨g, e, h1, h2⟩ => ⟨g, e, Nat.lt_of_lt_of_le h1 hb.size, fun i hi => ⟨(h2 i hi).1.below hb h1, (h2 i hi).2.below hb⟩⟩)
set_option maxHeartbeats 1000000 in
theorem eqTile_sm (z x y : Int) (a a' : Option Addr) (n cap cap' : Nat) (G H : Nat → Feat) (w : World) (hg : IsFs w a n G) (hh : IsFs w a' n H) (hs : ∀ i, i < n → (G i).same (H i)) (hn : n ≤ 1048576) (hk : ∀ i, i < n → (H i).n ≤ 1048576) :
    Calls Tryz.prog 14 #[.agg #[.int .i64 z, .int .i64 x, .int .i64 y, .slice a n cap], .agg #[.int .i64 z, .int .i64 x, .int .i64 y, .slice a' n cap']] w fun e w' => e = .returned (.bool true) ∧ Below w.heap.size w w' := by
  have HG : Hid (IsFs w a n G) := hg
  have HH : Hid (IsFs w a' n H) := hh
  have HS : Hid (∀ i, i < n → (G i).same (H i)) := hs
  have HK : Hid (∀ i, i < n → (H i).n ≤ 1048576) := hk
  clear hg hh hs hk
  go_enter Tryz.func14, Tryz.ntmps14
  go_wp2_with fail
  generalize hW : ((w.alloc _).alloc _ : World) = W
  have hB : Below w.heap.size w W := by subst hW; (repeat (first | exact Below.refl _ _ | assumption | refine Below.drew ?_ | refine bl_alloc ?_ _ | refine bl_then ?_ (by assumption) | refine Below.setCell ?_ (by first | omega | (simp; done) | (simp; omega)) _ | refine bl_store ?_ ?_ _ _))
  have HB : Hid (Below w.heap.size w W) := hB
  have c0 : W.cell? ⟨w.heap.size, 3, none⟩ = some (.slice a n cap) := by subst hW; simp [go_sem]
  have c1 : W.cell? ⟨w.heap.size + 1, 3, none⟩ = some (.slice a' n cap') := by subst hW; simp [go_sem]
  clear hW hB
  refine (eqRef_any z x y _).mono ?_
  rintro e w1 ⟨rfl, hb1⟩
  have d0 := bl_cellN hb1 c0
  have d1 := bl_cellN hb1 c1
  have hB1 := bl_then HB.out hb1
  have HB1 : Hid (Below w.heap.size w w1) := hB1
  have HC := eqFs_any a a' n cap cap' G H w1 (HG.out.below hB1) (HH.out.below hB1) HS.out hn HK.out
  clear c0 c1 hb1 hB1
  go_wp2_with fail
  refine Calls.mono HC ?_
  rintro e w2 ⟨rfl, hb2⟩
  go_wp2
  go_ret
  exact ⟨rfl, bl_then HB1.out hb2⟩
set_option maxHeartbeats 4000000 in
theorem eqKeptSm_any (k a c : Kp) (w : World) (ha : KpSm w k a) (hc : KpSm w k c) (hs : SmallK k) :
    Calls Tryz.prog 71 #[kpV a, kpV c] w fun e w' => e = .returned (.bool true) ∧ Below w.heap.size w w' := by
  obtain ⟨⟨e1, e2, e3⟩, e4, e5, ⟨hF, hFs⟩, hN⟩ := ha
  obtain ⟨⟨d1, d2, d3⟩, d4, d5, ⟨hG, hGs⟩, hM⟩ := hc
  unfold kpV
  rw [e1, e2, e3, e4, e5, d1, d2, d3, d4, d5]
  have HEt : Hid (∀ W, Below w.heap.size w W → Calls Tryz.prog 14 #[.agg #[.int .i64 k.z, .int .i64 k.x, .int .i64 k.y, .slice a.fa k.fn a.fc], .agg #[.int .i64 k.z, .int .i64 k.x, .int .i64 k.y, .slice c.fa k.fn c.fc]] W fun e w' => e = .returned (.bool true) ∧ Below W.heap.size W w') := fun W h =>
    eqTile_sm k.z k.x k.y a.fa c.fa k.fn a.fc c.fc a.F c.F W (hF.below h) (hG.below h) (fun i hi => Feat.same_trans (hFs i hi) (Feat.same_symm (hGs i hi))) hs.1.1 (fun i hi => by rw [(hGs i hi).2.2.2.2.1]; exact (hs.1.2 i hi).1)
  have HN : Hid (IsNs w a.ia k.m k.I) := hN
  have HM : Hid (IsNs w c.ia k.m k.I) := hM
  have hm := hs.2
  clear hF hG hFs hGs hN hM hs e1 e2 e3 e4 e5 d1 d2 d3 d4 d5
  generalize a.fa = afa at *
  generalize c.fa = cfa at *
  generalize a.fc = afc at *
  generalize c.fc = cfc at *
  generalize a.ia = aia at *
  generalize c.ia = cia at *
  generalize a.ic = aic at *
  generalize c.ic = cic at *
  go_enter Tryz.func71, Tryz.ntmps71
  go_wp2_with fail
  generalize hW : ((w.alloc _).alloc _ : World) = W
  have hB0 : Below w.heap.size w W := by subst hW; (repeat (first | exact Below.refl _ _ | assumption | refine Below.drew ?_ | refine bl_alloc ?_ _ | refine bl_then ?_ (by assumption) | refine Below.setCell ?_ (by first | omega | (simp; done) | (simp; omega)) _ | refine bl_store ?_ ?_ _ _))
  have c4 : ∀ W', Below W.heap.size W W' → W'.cell? ⟨w.heap.size, 4, none⟩ = some (.slice aia k.m aic) := fun W' h => by rw [h.cell (by subst hW; simp; omega)]; subst hW; simp [go_sem]
  have d4 : ∀ W', Below W.heap.size W W' → W'.cell? ⟨w.heap.size + 1, 4, none⟩ = some (.slice cia k.m cic) := fun W' h => by rw [h.cell (by subst hW; simp)]; subst hW; simp [go_sem]
  clear hW
  refine (HEt.out W hB0).mono ?_
  rintro e w1 ⟨rfl, hb1⟩
  have g4 := c4 w1 hb1
  have l4 := d4 w1 hb1
  have hB1 : Below w.heap.size w w1 := bl_then hB0 hb1
  clear c4 d4 hb1 hB0
  go_wp2_with fail
  refine (eqInt64S_any _ _ k.m _ _ k.I _ (HN.out.below hB1) (HM.out.below hB1) hm).mono ?_
  rintro e w2 ⟨rfl, hb2⟩
  have HB2 : Hid (Below w.heap.size w w2) := bl_then hB1 hb2
  clear hb2
  go_wp2
  go_ret
  exact ⟨rfl, HB2.out⟩
set_option maxHeartbeats 4000000 in
theorem eqKeptSSm_any (a' c' : Option Addr) (n ca cc : Nat) (K A H : Nat → Kp) (w : World) (ha : KsSm w a' n K A) (hh : KsSm w c' n K H) (hs : SmallKs n K) :
    Calls Tryz.prog 35 #[.slice a' n ca, .slice c' n cc] w fun e w' => e = .returned (.bool true) ∧ Below w.heap.size w w' := by
  have HA : Hid (KsSm w a' n K A) := ha
  have HH : Hid (KsSm w c' n K H) := hh
  have HS : Hid (SmallKs n K) := hs
  have hn := hs.1
  clear ha hh hs
  go_enter Tryz.func35, Tryz.ntmps35
  go_wp2
  go_loopw [5] (fun i wr => ∃ k : Nat, k ≤ n ∧ i = .int .i64 k ∧ Below w.heap.size w wr) (fun i _ => n - (intOf i).toNat)
  case atStart => exact ⟨0, by omega, rfl, Below.refl _ _⟩
  case round =>
    obtain ⟨k, hk, rfl, hB⟩ := hrel
    by_cases hlt : k < n
    · rcases HA.out.below hB with h0 | ⟨b, rfl, hbl, hAr⟩
      · omega
      rcases HH.out.below hB with h0 | ⟨d, rfl, hdl, hHr⟩
      · omega
      have HAr : Hid (∀ W', Below wr.heap.size wr W' → KpAt W' b (k * 5) (A k) ∧ KpSm W' (K k) (A k)) := fun W' h => ⟨(hAr k hlt).1.below h hbl, (hAr k hlt).2.below h⟩
      have HHr : Hid (∀ W', Below wr.heap.size wr W' → KpAt W' d (k * 5) (H k) ∧ KpSm W' (K k) (H k)) := fun W' h => ⟨(hHr k hlt).1.below h hdl, (hHr k hlt).2.below h⟩
      clear hAr hHr
      have a0 : ∀ W', Below wr.heap.size wr W' → W'.cell? ⟨b, k * 5, none⟩ = some (.int .i64 (A k).z) := fun W' h => (HAr.out W' h).1.1
      have a1 : ∀ W', Below wr.heap.size wr W' → W'.cell? ⟨b, k * 5 + 1, none⟩ = some (.int .i64 (A k).x) := fun W' h => (HAr.out W' h).1.2.1
      have a2 : ∀ W', Below wr.heap.size wr W' → W'.cell? ⟨b, k * 5 + 2, none⟩ = some (.int .i64 (A k).y) := fun W' h => (HAr.out W' h).1.2.2.1
      have a3 : ∀ W', Below wr.heap.size wr W' → W'.cell? ⟨b, k * 5 + 3, none⟩ = some (.slice (A k).fa (A k).fn (A k).fc) := fun W' h => (HAr.out W' h).1.2.2.2.1
      have a4 : ∀ W', Below wr.heap.size wr W' → W'.cell? ⟨b, k * 5 + 4, none⟩ = some (.slice (A k).ia (A k).m (A k).ic) := fun W' h => (HAr.out W' h).1.2.2.2.2
      have h0 : ∀ W', Below wr.heap.size wr W' → W'.cell? ⟨d, k * 5, none⟩ = some (.int .i64 (H k).z) := fun W' h => (HHr.out W' h).1.1
      have h1 : ∀ W', Below wr.heap.size wr W' → W'.cell? ⟨d, k * 5 + 1, none⟩ = some (.int .i64 (H k).x) := fun W' h => (HHr.out W' h).1.2.1
      have h2 : ∀ W', Below wr.heap.size wr W' → W'.cell? ⟨d, k * 5 + 2, none⟩ = some (.int .i64 (H k).y) := fun W' h => (HHr.out W' h).1.2.2.1
      have h3 : ∀ W', Below wr.heap.size wr W' → W'.cell? ⟨d, k * 5 + 3, none⟩ = some (.slice (H k).fa (H k).fn (H k).fc) := fun W' h => (HHr.out W' h).1.2.2.2.1
      have h4 : ∀ W', Below wr.heap.size wr W' → W'.cell? ⟨d, k * 5 + 4, none⟩ = some (.slice (H k).ia (H k).m (H k).ic) := fun W' h => (HHr.out W' h).1.2.2.2.2
      have HEQ : Hid (∀ W', Below wr.heap.size wr W' → Calls Tryz.prog 71 #[kpV (A k), kpV (H k)] W' fun e w' => e = .returned (.bool true) ∧ Below W'.heap.size W' w') := fun W' h => eqKeptSm_any (K k) (A k) (H k) W' (HAr.out W' h).2 (HHr.out W' h).2 (HS.out.2 k hlt)
      have HB : Hid (Below w.heap.size w wr) := hB
      have HLT : Hid (k < n) := hlt
      have hr : Below wr.heap.size wr wr := Below.refl _ _
      clear hB
      have hi : (k : Int) < (n : Int) := by omega
      have hi0 : (0 : Int) ≤ (k : Int) := by omega
      go_wp2
      go_region_held3 (fun W' => Below wr.heap.size wr W') ((repeat (first | exact Below.refl _ _ | assumption | refine Below.drew ?_ | refine bl_alloc ?_ _ | refine bl_then ?_ (by assumption) | refine Below.setCell ?_ (by first | omega | (simp; done) | (simp; omega)) _ | refine bl_store ?_ ?_ _ _)))
        (first
          | (go_at_call 71; refine (HEQ.out _ (by assumption)).mono ?_; rintro e w' ⟨rfl, hb⟩)
          | fail)
      go_wp2
      go_roundw
      case rel => exact ⟨k + 1, by have := HLT.out; omega, by go_num, bl_then HB.out (by assumption)⟩
      case measure => have := HLT.out; simp [intOf]; omega
    · go_wp2
      go_ret
      exact ⟨rfl, hB⟩
set_option maxHeartbeats 2000000 in
theorem eqCacheSm_any (s : Int) (a c : Option Addr) (n ca cc : Nat) (K A H : Nat → Kp) (w : World) (ha : KsSm w a n K A) (hh : KsSm w c n K H) (hs : SmallKs n K) :
    Calls Tryz.prog 13 #[caV s (.slice a n ca), caV s (.slice c n cc)] w fun e w' => e = .returned (.bool true) ∧ Below w.heap.size w w' := by
  have HA : Hid (KsSm w a n K A) := ha
  have HH : Hid (KsSm w c n K H) := hh
  clear ha hh
  go_enter Tryz.func13, Tryz.ntmps13
  go_wp2_with fail
  generalize hW : ((w.alloc _).alloc _ : World) = W
  have hB0 : Below w.heap.size w W := by subst hW; (repeat (first | exact Below.refl _ _ | assumption | refine Below.drew ?_ | refine bl_alloc ?_ _ | refine bl_then ?_ (by assumption) | refine Below.setCell ?_ (by first | omega | (simp; done) | (simp; omega)) _ | refine bl_store ?_ ?_ _ _))
  clear hW
  refine (eqKeptSSm_any a c n ca cc K A H W (HA.out.below hB0) (HH.out.below hB0) hs).mono ?_
  rintro e w1 ⟨rfl, hb1⟩
  go_wp2
  go_ret
  exact ⟨rfl, bl_then hB0 hb1⟩
set_option maxHeartbeats 2000000 in
theorem eqCacheResult_any (co s : Int) (a c : Option Addr) (n ca cc : Nat) (K A H : Nat → Kp) (w : World) (ha : KsSm w a n K A) (hh : KsSm w c n K H) (hs : SmallKs n K) :
    Calls Tryz.prog 12 #[.agg #[.int .i64 co, .int .i64 s, .slice a n ca], .agg #[.int .i64 co, .int .i64 s, .slice c n cc]] w fun e w' => e = .returned (.bool true) ∧ Below w.heap.size w w' := by
  have HA : Hid (KsSm w a n K A) := ha
  have HH : Hid (KsSm w c n K H) := hh
  clear ha hh
  go_enter Tryz.func12, Tryz.ntmps12
  go_wp2_with fail
  generalize hW : ((w.alloc _).alloc _ : World) = W
  have hB0 : Below w.heap.size w W := by subst hW; (repeat (first | exact Below.refl _ _ | assumption | refine Below.drew ?_ | refine bl_alloc ?_ _ | refine bl_then ?_ (by assumption) | refine Below.setCell ?_ (by first | omega | (simp; done) | (simp; omega)) _ | refine bl_store ?_ ?_ _ _))
  clear hW
  refine (eqCacheSm_any s a c n ca cc K A H W (HA.out.below hB0) (HH.out.below hB0) hs).mono ?_
  rintro e w1 ⟨rfl, hb1⟩
  go_wp2
  go_ret
  exact ⟨rfl, bl_then hB0 hb1⟩
end Go.Proofs.YtciidkmonfmipaaGreat
