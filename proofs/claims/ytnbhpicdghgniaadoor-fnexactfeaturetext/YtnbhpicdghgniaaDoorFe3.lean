/- The fault of a feature. -/
import Derived.Test.YtnbhpicdghgniaaDoorFe2
import Derived.Deep.RegionHeld3
namespace Go.Proofs.YtnbhpicdghgniaaDoor
open Go.RowKit
set_option linter.unusedSimpArgs false
set_option linter.unusedVariables false
set_option maxRecDepth 100000

theorem l1In_eq (v lo hi : Int) (w : World) : Calls Tryd.prog 32 #[.int .i64 v, .int .i64 lo, .int .i64 hi] w fun e w' => e = .returned (.bool (inB v lo hi)) ∧ w = w' := (l1In_any v lo hi w).mono fun e w' ⟨he, hw⟩ => ⟨he, hw.symm⟩
theorem l2Size_eq (ki n : Int) (w : World) : Calls Tryd.prog 33 #[.int .i64 ki, .int .i64 n] w fun e w' => e = .returned (.bool (sizeB ki n)) ∧ w = w' := (l2Size_any ki n w).mono fun e w' ⟨he, hw⟩ => ⟨he, hw.symm⟩
theorem isWithin_eq (v lo hi : Int) (w : World) : Calls Tryd.prog 37 #[.int .i64 v, .int .i64 lo, .int .i64 hi] w fun e w' => e = .returned (.bool (inB v lo hi)) ∧ w = w' := (isWithin_any v lo hi w).mono fun e w' ⟨he, hw⟩ => ⟨he, hw.symm⟩
/-- Seven cells: a feature. -/
def FeatAt (w : World) (p o : Nat) (id la ki wi : Int) (pts : Value) (lab : ByteArray) (pr : Int) : Prop :=
  w.cell? ⟨p, o, none⟩ = some (.int .i64 id) ∧ w.cell? ⟨p, o + 1, none⟩ = some (.int .i64 la) ∧ w.cell? ⟨p, o + 2, none⟩ = some (.int .i64 ki) ∧ w.cell? ⟨p, o + 3, none⟩ = some (.int .i64 wi) ∧
  w.cell? ⟨p, o + 4, none⟩ = some pts ∧ w.cell? ⟨p, o + 5, none⟩ = some (.string lab) ∧ w.cell? ⟨p, o + 6, none⟩ = some (.int .i64 pr)
theorem FeatAt.below {w w' : World} {p o B : Nat} {id la ki wi pr : Int} {pts : Value} {lab : ByteArray} (h : FeatAt w p o id la ki wi pts lab pr) (hb : Below B w w') (hp : p < B) : FeatAt w' p o id la ki wi pts lab pr := by
  obtain ⟨h0, h1, h2, h3, h4, h5, h6⟩ := h
  refine ⟨(hb.cell (p := ⟨p, o, none⟩) hp).trans h0, (hb.cell (p := ⟨p, o + 1, none⟩) hp).trans h1, (hb.cell (p := ⟨p, o + 2, none⟩) hp).trans h2, (hb.cell (p := ⟨p, o + 3, none⟩) hp).trans h3, (hb.cell (p := ⟨p, o + 4, none⟩) hp).trans h4, (hb.cell (p := ⟨p, o + 5, none⟩) hp).trans h5, (hb.cell (p := ⟨p, o + 6, none⟩) hp).trans h6⟩
/-- All points are in the world. -/
def ptsIn (n : Nat) (X Y : Nat → Int) : Bool := decide (∀ i, i < n → inW (X i) (Y i) = true)
def rngB (id la ki wi pr : Int) : Bool := inB id 1 999 && (inB la 0 9 && (inB ki 1 3 && (inB wi 0 3 && inB pr 0 9)))
/-- The fault of a feature. -/
def featC (id la ki wi : Int) (n : Nat) (X Y : Nat → Int) (lab : ByteArray) (pr : Int) : Int :=
  if rngB id la ki wi pr = true then (if sizeB ki n = true then (if ptsIn n X Y = true then (if labB lab = true then 0 else 5) else 3) else 2) else 3

theorem ptsIn_bad {n : Nat} {X Y : Nat → Int} (k : Nat) (hk : k < n) (h : inW (X k) (Y k) = false) : ptsIn n X Y = false := by
  unfold ptsIn
  rw [decide_eq_false]
  intro hc
  have := hc k hk
  rw [h] at this; cases this

set_option maxHeartbeats 2000000 in
theorem l2Fault_any (p o : Nat) (id la ki wi : Int) (a : Option Addr) (n cap : Nat) (X Y : Nat → Int) (lab : ByteArray) (pr : Int) (w : World) (hf : FeatAt w p o id la ki wi (.slice a n cap) lab pr) (hpt : IsPts w a n X Y) (hl : lab.size ≤ 1048576) (hn : n ≤ 1048576) :
    Calls Tryd.prog 17 #[.pointer (some ⟨p, o, none⟩)] w fun e w' => e = .returned (.int .i64 (featC id la ki wi n X Y lab pr)) ∧ Below w.heap.size w w' := by
  have hpl : p < w.heap.size := World.block_lt_of_cell? _ _ hf.1
  have c0 : ∀ W', Below w.heap.size w W' → W'.cell? ⟨p, o, none⟩ = some (.int .i64 id) := fun W' h => (hf.below h hpl).1
  have c1 : ∀ W', Below w.heap.size w W' → W'.cell? ⟨p, o + 1, none⟩ = some (.int .i64 la) := fun W' h => (hf.below h hpl).2.1
  have c2 : ∀ W', Below w.heap.size w W' → W'.cell? ⟨p, o + 2, none⟩ = some (.int .i64 ki) := fun W' h => (hf.below h hpl).2.2.1
  have c3 : ∀ W', Below w.heap.size w W' → W'.cell? ⟨p, o + 3, none⟩ = some (.int .i64 wi) := fun W' h => (hf.below h hpl).2.2.2.1
  have c4 : ∀ W', Below w.heap.size w W' → W'.cell? ⟨p, o + 4, none⟩ = some (.slice a n cap) := fun W' h => (hf.below h hpl).2.2.2.2.1
  have c5 : ∀ W', Below w.heap.size w W' → W'.cell? ⟨p, o + 5, none⟩ = some (.string lab) := fun W' h => (hf.below h hpl).2.2.2.2.2.1
  have c6 : ∀ W', Below w.heap.size w W' → W'.cell? ⟨p, o + 6, none⟩ = some (.int .i64 pr) := fun W' h => (hf.below h hpl).2.2.2.2.2.2
  obtain ⟨h0, h1, h2, h3, h4, h5, h6⟩ := hf
  have HP : Hid (IsPts w a n X Y) := hpt
  clear hpt
  cases e0 : inB id 1 999
  · have hz : Hid (featC id la ki wi n X Y lab pr = 3) := by show _ = _; simp [featC, rngB, e0]
    go_enter Tryd.func17, Tryd.ntmps17
    go_wp2_with (go_at_call 32; refine (l1In_eq _ _ _ _).mono ?_; rintro e w' ⟨rfl, rfl⟩)
    go_ret
    exact ⟨ret_int hz.out.symm, by (repeat (first | exact Below.refl _ _ | assumption | refine Below.drew ?_ | refine bl_alloc ?_ _ | refine bl_then ?_ (by assumption) | refine Below.setCell ?_ (by first | omega | (simp; done) | (simp; omega)) _ | refine bl_store ?_ ?_ _ _))⟩
  cases e1 : inB la 0 9
  · have hz : Hid (featC id la ki wi n X Y lab pr = 3) := by show _ = _; simp [featC, rngB, e0, e1]
    go_enter Tryd.func17, Tryd.ntmps17
    go_wp2_with (go_at_call 32; refine (l1In_eq _ _ _ _).mono ?_; rintro e w' ⟨rfl, rfl⟩)
    go_ret
    exact ⟨ret_int hz.out.symm, by (repeat (first | exact Below.refl _ _ | assumption | refine Below.drew ?_ | refine bl_alloc ?_ _ | refine bl_then ?_ (by assumption) | refine Below.setCell ?_ (by first | omega | (simp; done) | (simp; omega)) _ | refine bl_store ?_ ?_ _ _))⟩
  cases e2 : inB ki 1 3
  · have hz : Hid (featC id la ki wi n X Y lab pr = 3) := by show _ = _; simp [featC, rngB, e0, e1, e2]
    go_enter Tryd.func17, Tryd.ntmps17
    go_wp2_with (go_at_call 32; refine (l1In_eq _ _ _ _).mono ?_; rintro e w' ⟨rfl, rfl⟩)
    go_ret
    exact ⟨ret_int hz.out.symm, by (repeat (first | exact Below.refl _ _ | assumption | refine Below.drew ?_ | refine bl_alloc ?_ _ | refine bl_then ?_ (by assumption) | refine Below.setCell ?_ (by first | omega | (simp; done) | (simp; omega)) _ | refine bl_store ?_ ?_ _ _))⟩
  cases e3 : inB wi 0 3
  · have hz : Hid (featC id la ki wi n X Y lab pr = 3) := by show _ = _; simp [featC, rngB, e0, e1, e2, e3]
    go_enter Tryd.func17, Tryd.ntmps17
    go_wp2_with (go_at_call 32; refine (l1In_eq _ _ _ _).mono ?_; rintro e w' ⟨rfl, rfl⟩)
    go_ret
    exact ⟨ret_int hz.out.symm, by (repeat (first | exact Below.refl _ _ | assumption | refine Below.drew ?_ | refine bl_alloc ?_ _ | refine bl_then ?_ (by assumption) | refine Below.setCell ?_ (by first | omega | (simp; done) | (simp; omega)) _ | refine bl_store ?_ ?_ _ _))⟩
  cases e4 : inB pr 0 9
  · have hz : Hid (featC id la ki wi n X Y lab pr = 3) := by show _ = _; simp [featC, rngB, e0, e1, e2, e3, e4]
    go_enter Tryd.func17, Tryd.ntmps17
    go_wp2_with (go_at_call 32; refine (l1In_eq _ _ _ _).mono ?_; rintro e w' ⟨rfl, rfl⟩)
    go_ret
    exact ⟨ret_int hz.out.symm, by (repeat (first | exact Below.refl _ _ | assumption | refine Below.drew ?_ | refine bl_alloc ?_ _ | refine bl_then ?_ (by assumption) | refine Below.setCell ?_ (by first | omega | (simp; done) | (simp; omega)) _ | refine bl_store ?_ ?_ _ _))⟩
  have hr : Hid (rngB id la ki wi pr = true) := by show _ = _; simp [rngB, e0, e1, e2, e3, e4]
  cases e5 : sizeB ki n
  · have hz : Hid (featC id la ki wi n X Y lab pr = 2) := by show _ = _; simp [featC, hr.out, e5]
    go_enter Tryd.func17, Tryd.ntmps17
    go_wp2_with (first | (go_at_call 32; refine (l1In_eq _ _ _ _).mono ?_; rintro e w' ⟨rfl, rfl⟩) | (go_at_call 33; refine (l2Size_eq _ _ _).mono ?_; rintro e w' ⟨rfl, rfl⟩))
    go_region_held3 (fun W' => Below w.heap.size w W') ((repeat (first | exact Below.refl _ _ | assumption | refine Below.drew ?_ | refine bl_alloc ?_ _ | refine bl_then ?_ (by assumption) | refine Below.setCell ?_ (by first | omega | (simp; done) | (simp; omega)) _ | refine bl_store ?_ ?_ _ _)))
      (first | (go_at_call 33; refine (l2Size_eq _ _ _).mono ?_; rintro e w' ⟨rfl, rfl⟩))
    go_wp2
    go_ret
    exact ⟨ret_int hz.out.symm, by (repeat (first | exact Below.refl _ _ | assumption | refine Below.drew ?_ | refine bl_alloc ?_ _ | refine bl_then ?_ (by assumption) | refine Below.setCell ?_ (by first | omega | (simp; done) | (simp; omega)) _ | refine bl_store ?_ ?_ _ _))⟩
  go_enter Tryd.func17, Tryd.ntmps17
  go_wp2_with (first | (go_at_call 32; refine (l1In_eq _ _ _ _).mono ?_; rintro e w' ⟨rfl, rfl⟩) | (go_at_call 33; refine (l2Size_eq _ _ _).mono ?_; rintro e w' ⟨rfl, rfl⟩))
  go_region_held3 (fun W' => Below w.heap.size w W') ((repeat (first | exact Below.refl _ _ | assumption | refine Below.drew ?_ | refine bl_alloc ?_ _ | refine bl_then ?_ (by assumption) | refine Below.setCell ?_ (by first | omega | (simp; done) | (simp; omega)) _ | refine bl_store ?_ ?_ _ _)))
    (first | (go_at_call 33; refine (l2Size_eq _ _ _).mono ?_; rintro e w' ⟨rfl, rfl⟩))
  go_wp2
  go_loopw [3] (fun i wr => ∃ k : Nat, k ≤ n ∧ i = .int .i64 k ∧ (∀ j, j < k → inW (X j) (Y j) = true) ∧ Below w.heap.size w wr) (fun i _ => n - (intOf i).toNat)
  case atStart => exact ⟨0, by omega, rfl, by omega, (Below.refl _ _).drew⟩
  case round =>
    obtain ⟨k, hk, rfl, hA, hB⟩ := hrel
    have HA : Hid (∀ j, j < k → inW (X j) (Y j) = true) := hA
    have HB : Hid (Below w.heap.size w wr) := hB
    clear h0 h1 h2 h3 h4 h5 h6 c0 c1 c2 c3 c6 hA
    by_cases hlt : k < n
    · rcases HP.out with hz | ⟨b, off, rfl, hbl, hpt⟩
      · omega
      have hi : (k : Int) < (n : Int) := by omega
      have hi0 : (0 : Int) ≤ (k : Int) := by omega
      have d4 : ∀ W', Below wr.heap.size wr W' → W'.cell? ⟨p, o + 4, none⟩ = some (.slice (some ⟨b, off, none⟩) n cap) := fun W' h => c4 W' (hB.trans (h.mono hB.size))
      have dx : ∀ W', Below wr.heap.size wr W' → W'.cell? ⟨b, off + k * 2, none⟩ = some (.int .i64 (X k)) := fun W' h => (hpt.below (hB.trans (h.mono hB.size)) hbl k hlt).1
      have dy : ∀ W', Below wr.heap.size wr W' → W'.cell? ⟨b, off + k * 2 + 1, none⟩ = some (.int .i64 (Y k)) := fun W' h => (hpt.below (hB.trans (h.mono hB.size)) hbl k hlt).2
      clear c4 c5 hB hpt
      have hr0 : Below wr.heap.size wr wr := Below.refl _ _
      cases ex : inB (X k) 0 1024
      · have hz : Hid (featC id la ki wi n X Y lab pr = 3) := by show _ = _; simp [featC, hr.out, e5, ptsIn_bad k hlt (show inW (X k) (Y k) = false by simp [inW, ex])]
        go_wp2_with (go_at_call 32; refine (l1In_eq _ _ _ _).mono ?_; rintro e w' ⟨rfl, rfl⟩)
        go_ret
        exact ⟨ret_int hz.out.symm, HB.out⟩
      cases ey : inB (Y k) 0 1024
      · have hz : Hid (featC id la ki wi n X Y lab pr = 3) := by show _ = _; simp [featC, hr.out, e5, ptsIn_bad k hlt (show inW (X k) (Y k) = false by simp [inW, ex, ey])]
        go_wp2_with (go_at_call 32; refine (l1In_eq _ _ _ _).mono ?_; rintro e w' ⟨rfl, rfl⟩)
        go_ret
        exact ⟨ret_int hz.out.symm, HB.out⟩
      have HI : Hid (inW (X k) (Y k) = true) := by show _ = _; simp [inW, ex, ey]
      go_wp2_with (go_at_call 32; refine (l1In_eq _ _ _ _).mono ?_; rintro e w' ⟨rfl, rfl⟩)
      go_roundw
      case rel => exact ⟨k + 1, by omega, by go_num, fun j hj => by
          by_cases e : j = k
          · rw [e]; exact HI.out
          · exact HA.out j (by omega), HB.out⟩
      case measure => simp [intOf]; omega
    · have hz : Hid (featC id la ki wi n X Y lab pr = if labB lab = true then 0 else 5) := by
        show _ = _
        have : ptsIn n X Y = true := decide_eq_true (fun i hi => HA.out i (by omega))
        simp [featC, hr.out, e5, this]
      have d4 := c4 wr hB
      have d5 := c5 wr hB
      clear c4 c5
      cases el : labB lab
      all_goals
        go_wp2_with (go_at_call 34; refine (l2Label_any _ _ hl).mono ?_; rintro e w' ⟨rfl, hb⟩)
        go_ret
        exact ⟨ret_int (by rw [hz.out]; simp [el]), bl_then HB.out hb⟩
end Go.Proofs.YtnbhpicdghgniaaDoor
