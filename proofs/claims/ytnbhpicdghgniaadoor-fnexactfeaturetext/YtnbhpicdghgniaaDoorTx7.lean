/- The law of FeatureText. -/
import Derived.Test.YtnbhpicdghgniaaDoorTx6
import Derived.Test.YtnbhpicdghgniaaDoorTx3
namespace Go.Proofs.YtnbhpicdghgniaaDoor
open Go.RowKit
set_option linter.unusedSimpArgs false
set_option linter.unusedVariables false
set_option maxRecDepth 100000

theorem eqText_same (c : Int) (T : ByteArray) (w : World) : Calls Tryd.prog 9 #[.agg #[.int .i64 c, .string T], .agg #[.int .i64 c, .string T]] w fun e w' => e = .returned (.bool true) ∧ Below w.heap.size w w' := by
  go_enter Tryd.func9, Tryd.ntmps9
  go_wp2
  go_ret
  exact ⟨rfl, by (repeat (first | exact Below.refl _ _ | assumption | refine Below.drew ?_ | refine bl_alloc ?_ _ | refine bl_then ?_ (by assumption) | refine Below.setCell ?_ (by first | omega | (simp; done) | (simp; omega)) _ | refine bl_store ?_ ?_ _ _))⟩
set_option maxHeartbeats 8000000 in
theorem FnExactFeatureText_law (r0 : Int) (T : ByteArray) (id la ki wi : Int) (a : Option Addr) (n cap : Nat) (X Y : Nat → Int) (lab : ByteArray) (pr : Int) (w0 : World) (hpt : IsPts w0 a n X Y) (hn : n ≤ 1048576) (hl : n + lab.size ≤ 1048576) (hs : (∀ (b : Nat) (w : World), PtsAt w b 0 n X Y → b < w.heap.size → Calls Tryd.prog 6 #[.agg #[.int .i64 id, .int .i64 la, .int .i64 ki, .int .i64 wi, .slice (some ⟨b, 0, none⟩) n n, .string lab, .int .i64 pr]] w fun e w' => e = .returned (.agg #[.int .i64 r0, .string T]) ∧ Below w.heap.size w w')) (hi : (∀ (b : Nat) (w : World), PtsAt w b 0 n X Y → b < w.heap.size → Below w0.heap.size w0 w → Calls Tryd.prog 8 #[.agg #[.int .i64 id, .int .i64 la, .int .i64 ki, .int .i64 wi, .slice (some ⟨b, 0, none⟩) n n, .string lab, .int .i64 pr]] w fun e w' => e = .returned (.agg #[.int .i64 r0, .string T]) ∧ Below w.heap.size w w')) :
    Calls Tryd.prog 3 #[.agg #[.int .i64 id, .int .i64 la, .int .i64 ki, .int .i64 wi, .slice a n cap, .string lab, .int .i64 pr]] w0 fun e w' => e = .returned (.bool true) ∧ Below w0.heap.size w0 w' := by
  have HI : Hid (IsPts w0 a n X Y) := hpt
  have HM : Hid (n ≤ maxLen ∧ lab.size ≤ maxLen) := by show _ ∧ _; unfold maxLen; omega
  have Hs := (show Hid _ from hs)
  have Hi := (show Hid _ from hi)
  clear hpt hs hi
  have hz : szF 1048576 n lab.size = 1048576 - (n : Int) - (lab.size : Int) := by unfold szF; rw [if_neg (by omega)]; rfl
  have hneg : ¬ (1048576 : Int) - (n : Int) - (lab.size : Int) < 0 := by omega
  go_enter Tryd.func3, Tryd.ntmps3
  go_wp2_with fail
  generalize hW : (w0.alloc _ : World) = W
  have hB0 : Below w0.heap.size w0 W := by subst hW; (repeat (first | exact Below.refl _ _ | assumption | refine Below.drew ?_ | refine bl_alloc ?_ _ | refine bl_then ?_ (by assumption) | refine Below.setCell ?_ (by first | omega | (simp; done) | (simp; omega)) _ | refine bl_store ?_ ?_ _ _))
  have c0 : ∀ W', Below W.heap.size W W' → W'.cell? ⟨w0.heap.size, 0, none⟩ = some (.int .i64 id) := fun W' h => by
    rw [h.cell (by subst hW; simp)]; subst hW; simp [go_sem]
  have c1 : ∀ W', Below W.heap.size W W' → W'.cell? ⟨w0.heap.size, 1, none⟩ = some (.int .i64 la) := fun W' h => by
    rw [h.cell (by subst hW; simp)]; subst hW; simp [go_sem]
  have c2 : ∀ W', Below W.heap.size W W' → W'.cell? ⟨w0.heap.size, 2, none⟩ = some (.int .i64 ki) := fun W' h => by
    rw [h.cell (by subst hW; simp)]; subst hW; simp [go_sem]
  have c3 : ∀ W', Below W.heap.size W W' → W'.cell? ⟨w0.heap.size, 3, none⟩ = some (.int .i64 wi) := fun W' h => by
    rw [h.cell (by subst hW; simp)]; subst hW; simp [go_sem]
  have c4 : ∀ W', Below W.heap.size W W' → W'.cell? ⟨w0.heap.size, 4, none⟩ = some (.slice a n cap) := fun W' h => by
    rw [h.cell (by subst hW; simp)]; subst hW; simp [go_sem]
  have c5 : ∀ W', Below W.heap.size W W' → W'.cell? ⟨w0.heap.size, 5, none⟩ = some (.string lab) := fun W' h => by
    rw [h.cell (by subst hW; simp)]; subst hW; simp [go_sem]
  have c6 : ∀ W', Below W.heap.size W W' → W'.cell? ⟨w0.heap.size, 6, none⟩ = some (.int .i64 pr) := fun W' h => by
    rw [h.cell (by subst hW; simp)]; subst hW; simp [go_sem]
  clear hW
  have HB0 : Hid (Below w0.heap.size w0 W) := hB0
  have HIW : Hid (IsPts W a n X Y) := HI.out.below hB0
  clear hB0 HI
  refine (szFeature_any _ _ _ _ _ _ _ _ _ 1048576 _ (by omega) HM.out.1 HM.out.2).mono ?_
  rintro e w1 ⟨rfl, hb1⟩
  have hB1 : Below W.heap.size W w1 := hb1
  clear hb1
  go_wp2_with fail
  refine (toFeature_any id la ki wi a n cap X Y lab pr _ (HIW.out.below hB1) hn).mono ?_
  rintro e w2 ⟨b2, rfl, hle2, hlt2, hp2, hb2⟩
  have hB2 : Below W.heap.size W w2 := bl_then hB1 hb2
  have HP2 : Hid (PtsAt w2 b2 0 n X Y) := hp2
  clear hp2 hb2 hB1 hle2
  go_wp2_with fail
  refine (Hs.out b2 w2 HP2.out hlt2).mono ?_
  rintro e w3 ⟨rfl, hb3⟩
  have hB3 : Below W.heap.size W w3 := bl_then hB2 hb3
  clear hb3 hB2 HP2 hlt2
  have hlw3 : w0.heap.size < w3.heap.size := World.block_lt_of_cell? _ _ (c0 w3 hB3)
  go_wp2_with fail
  generalize hU : (w3.alloc _ : World) = U
  have hBU : Below w3.heap.size w3 U := by subst hU; (repeat (first | exact Below.refl _ _ | assumption | refine Below.drew ?_ | refine bl_alloc ?_ _ | refine bl_then ?_ (by assumption) | refine Below.setCell ?_ (by first | omega | (simp; done) | (simp; omega)) _ | refine bl_store ?_ ?_ _ _))
  have u0 : ∀ W', Below U.heap.size U W' → W'.cell? ⟨w3.heap.size, 0, none⟩ = some (.int .i64 r0) := fun W' h => by
    rw [h.cell (by subst hU; simp)]; subst hU; simp [go_sem]
  have u1 : ∀ W', Below U.heap.size U W' → W'.cell? ⟨w3.heap.size, 1, none⟩ = some (.string T) := fun W' h => by
    rw [h.cell (by subst hU; simp)]; subst hU; simp [go_sem]
  clear hU
  have hBU' : Below W.heap.size W U := bl_then hB3 hBU
  clear hB3 hBU
  refine (toFeature_any id la ki wi a n cap X Y lab pr _ (HIW.out.below hBU') hn).mono ?_
  rintro e w4 ⟨b4, rfl, hle4, hlt4, hp4, hb4⟩
  have hBU4 : Below U.heap.size U w4 := hb4
  have hB4 : Below W.heap.size W w4 := bl_then hBU' hb4
  have HP4 : Hid (PtsAt w4 b4 0 n X Y) := hp4
  clear hp4 hb4 hBU' hle4
  go_wp2_with fail
  generalize hV : (w4.alloc _ : World) = V
  have hBV : Below w4.heap.size w4 V := by subst hV; (repeat (first | exact Below.refl _ _ | assumption | refine Below.drew ?_ | refine bl_alloc ?_ _ | refine bl_then ?_ (by assumption) | refine Below.setCell ?_ (by first | omega | (simp; done) | (simp; omega)) _ | refine bl_store ?_ ?_ _ _))
  have v0 : ∀ W', Below V.heap.size V W' → W'.cell? ⟨w4.heap.size, 0, none⟩ = some (.int .i64 id) := fun W' h => by
    rw [h.cell (by subst hV; simp)]; subst hV; simp [go_sem]
  have v1 : ∀ W', Below V.heap.size V W' → W'.cell? ⟨w4.heap.size, 1, none⟩ = some (.int .i64 la) := fun W' h => by
    rw [h.cell (by subst hV; simp)]; subst hV; simp [go_sem]
  have v2 : ∀ W', Below V.heap.size V W' → W'.cell? ⟨w4.heap.size, 2, none⟩ = some (.int .i64 ki) := fun W' h => by
    rw [h.cell (by subst hV; simp)]; subst hV; simp [go_sem]
  have v3 : ∀ W', Below V.heap.size V W' → W'.cell? ⟨w4.heap.size, 3, none⟩ = some (.int .i64 wi) := fun W' h => by
    rw [h.cell (by subst hV; simp)]; subst hV; simp [go_sem]
  have v4 : ∀ W', Below V.heap.size V W' → W'.cell? ⟨w4.heap.size, 4, none⟩ = some (.slice (some ⟨b4, 0, none⟩) n n) := fun W' h => by
    rw [h.cell (by subst hV; simp)]; subst hV; simp [go_sem]
  have v5 : ∀ W', Below V.heap.size V W' → W'.cell? ⟨w4.heap.size, 5, none⟩ = some (.string lab) := fun W' h => by
    rw [h.cell (by subst hV; simp)]; subst hV; simp [go_sem]
  have v6 : ∀ W', Below V.heap.size V W' → W'.cell? ⟨w4.heap.size, 6, none⟩ = some (.int .i64 pr) := fun W' h => by
    rw [h.cell (by subst hV; simp)]; subst hV; simp [go_sem]
  clear hV
  have HPV : Hid (PtsAt V b4 0 n X Y) := HP4.out.below hBV hlt4
  have hltV : b4 < V.heap.size := Nat.lt_of_lt_of_le hlt4 hBV.size
  have HBV : Hid (Below W.heap.size W V) := bl_then hB4 hBV
  have HBUV : Hid (Below U.heap.size U V) := bl_then hBU4 hBV
  replace c0 := fun W' (h : Below V.heap.size V W') => c0 W' (bl_then HBV.out h)
  replace c1 := fun W' (h : Below V.heap.size V W') => c1 W' (bl_then HBV.out h)
  replace c2 := fun W' (h : Below V.heap.size V W') => c2 W' (bl_then HBV.out h)
  replace c3 := fun W' (h : Below V.heap.size V W') => c3 W' (bl_then HBV.out h)
  replace c4 := fun W' (h : Below V.heap.size V W') => c4 W' (bl_then HBV.out h)
  replace c5 := fun W' (h : Below V.heap.size V W') => c5 W' (bl_then HBV.out h)
  replace c6 := fun W' (h : Below V.heap.size V W') => c6 W' (bl_then HBV.out h)
  replace u0 := fun W' (h : Below V.heap.size V W') => u0 W' (bl_then HBUV.out h)
  replace u1 := fun W' (h : Below V.heap.size V W') => u1 W' (bl_then HBUV.out h)
  clear hBV hB4 HP4 hlt4 hBU4
  refine (Hi.out b4 V HPV.out hltV (bl_then HB0.out HBV.out)).mono ?_
  rintro e w5 ⟨rfl, hb5⟩
  have hB5 : Below V.heap.size V w5 := hb5
  clear hb5
  have y0 := u0 w5 hB5
  have y1 := u1 w5 hB5
  have hl5 : w3.heap.size < w5.heap.size := World.block_lt_of_cell? _ _ y0
  go_wp2_with fail
  refine (eqText_same _ _ _).mono ?_
  rintro e w6 ⟨rfl, hb6⟩
  have hB6 : Below V.heap.size V w6 := by
    refine bl_then hB5 (bl_then (bl_alloc (Below.refl _ _) _) hb6)
  clear hb6 hB5 y0 u0 y1 u1 hl5
  go_wp2_with fail
  go_region_held3 (fun W' => Below V.heap.size V W') ((repeat (first | exact Below.refl _ _ | assumption | refine Below.drew ?_ | refine bl_alloc ?_ _ | refine bl_then ?_ (by assumption) | refine Below.setCell ?_ (by first | omega | (simp; done) | (simp; omega)) _ | refine bl_store ?_ ?_ _ _)))
    (first
      | (go_at_call 7; refine (toFeature_any id la ki wi a n cap X Y lab pr _ (HIW.out.below (bl_then HBV.out (by assumption))) hn).mono ?_; rintro e w' ⟨b7, rfl, hle7, hlt7, hp7, hb⟩)
      | (go_at_call 10; refine (eqFeature_any id la ki wi n X Y lab pr b4 b7 _ (HPV.out.below (by assumption) hltV) hp7 (Nat.lt_of_lt_of_le hltV (Below.size (by assumption))) hlt7 hn).mono ?_; rintro e w' ⟨rfl, hb⟩))
  go_wp2
  go_ret
  exact ⟨rfl, bl_then HB0.out (bl_then HBV.out (by assumption))⟩
set_option maxHeartbeats 1000000 in
theorem FnExactFeatureText_big (id la ki wi : Int) (a : Option Addr) (n cap : Nat) (lab : ByteArray) (pr : Int) (w : World) (hbig : 1048576 < n + lab.size) (hm : n ≤ maxLen) (hls : lab.size ≤ maxLen) :
    Calls Tryd.prog 3 #[.agg #[.int .i64 id, .int .i64 la, .int .i64 ki, .int .i64 wi, .slice a n cap, .string lab, .int .i64 pr]] w fun e w' => e = .returned (.bool true) ∧ Below w.heap.size w w' := by
  have HM : Hid (n ≤ maxLen ∧ lab.size ≤ maxLen) := ⟨hm, hls⟩
  clear hm hls
  have hz : szF 1048576 n lab.size = -1 := by unfold szF; rw [if_pos hbig]
  go_enter Tryd.func3, Tryd.ntmps3
  go_wp2_with (go_at_call 5; refine (szFeature_any _ _ _ _ _ _ _ _ _ 1048576 _ (by omega) HM.out.1 HM.out.2).mono ?_; rintro e w' ⟨rfl, hb⟩)
  go_ret
  exact ⟨rfl, by (repeat (first | exact Below.refl _ _ | assumption | refine Below.drew ?_ | refine bl_alloc ?_ _ | refine bl_then ?_ (by assumption) | refine Below.setCell ?_ (by first | omega | (simp; done) | (simp; omega)) _ | refine bl_store ?_ ?_ _ _))⟩
theorem FnExactFeatureText_walk (id la ki wi : Int) (a : Option Addr) (n cap : Nat) (X Y : Nat → Int) (lab : ByteArray) (pr : Int) (w : World) (h : IsPts w a n X Y ∧ n ≤ cap ∧ cap ≤ maxLen ∧ lab.size ≤ maxLen) (ht : TabB w) :
    Calls Tryd.prog 3 #[.agg #[.int .i64 id, .int .i64 la, .int .i64 ki, .int .i64 wi, .slice a n cap, .string lab, .int .i64 pr]] w fun e w' => e = .returned (.bool true) ∧ Below w.heap.size w w' := by
  obtain ⟨hpt, hcap, hmx, hls⟩ := h
  by_cases hbig : 1048576 < n + lab.size
  · exact FnExactFeatureText_big id la ki wi a n cap lab pr w hbig (Nat.le_trans hcap hmx) hls
  · exact FnExactFeatureText_law (featC id la ki wi n X Y lab pr) (featT id la ki wi n X Y lab pr) id la ki wi a n cap X Y lab pr w hpt (by omega) (by omega)
      (fun b W hp hb => spec_FeatureText_any id la ki wi _ n n X Y lab pr W (.inr ⟨b, 0, rfl, hb, hp⟩) (by omega) (by omega))
      (fun b W hp hb hB => impl_FeatureText_any id la ki wi _ n n X Y lab pr W (.inr ⟨b, 0, rfl, hb, hp⟩) (by omega) (by omega) (ht.below hB))
end Go.Proofs.YtnbhpicdghgniaaDoor
