/- FnSnaps: the law out of what is called. -/
import Derived.Test.YtdmlgfifiicmpaaDraw6
import Derived.Test.YtdmlgfifiicmpaaSi
import Derived.Test.YtdmlgfifiicmpaaLwBig
namespace Go.Proofs.Ytdmlgfifiicmpaa
open Go.RowKit
set_option linter.unusedSimpArgs false
set_option linter.unusedVariables false

set_option maxHeartbeats 1000000 in
theorem FnSnaps_big (a : Option Addr) (n cap : Nat) (w : World) (h : 1048576 < n) : Calls Try.prog 3 #[.slice a n cap] w fun e w' => e = .returned (.bool true) ∧ Below w.heap.size w w' := by
  have hb : decide (1048576 < (n : Int)) = true := by simp; omega
  go_enter Try.func3, Try.ntmps3
  go_wp2_with (go_at_call 9; refine (lwBig_any _ _ _ _).mono ?_; rintro e w' ⟨rfl, rfl⟩)
  go_ret
  exact ⟨rfl, by (repeat (first | exact Below.refl _ _ | assumption | refine Below.drew ?_ | refine bl_alloc ?_ _ | refine bl_then ?_ (by assumption) | refine Below.setCell ?_ (by first | omega | (simp; done) | (simp; omega)) _ | refine bl_store ?_ ?_ _ _))⟩

/-- What is snapped: on the grid, not more than half of it away, in the world, and where it is when it is snapped again. -/
theorem snap_facts {z v : Int} (hz : zoomB z = true) (h0 : 0 ≤ v) (h1 : v ≤ 1024) :
    0 ≤ snapI z v ∧ snapI z v ≤ 1024 ∧ snapI z v % gridI z = 0 ∧ -gridI z < 2 * (snapI z v - v) ∧ 2 * (snapI z v - v) ≤ gridI z ∧ snapI z (snapI z v) = snapI z v ∧ 4 ≤ gridI z ∧ gridI z ≤ 32 := by
  rcases zoomB_cases hz with rfl | rfl | rfl | rfl
  all_goals
    simp only [snapI, show gridI 0 = 32 from rfl, show gridI 1 = 16 from rfl, show gridI 2 = 8 from rfl, show gridI 3 = 4 from rfl]
    omega

set_option maxRecDepth 16000 in
set_option maxHeartbeats 8000000 in
theorem FnSnaps_walk (a : Option Addr) (n cap : Nat) (Z : Nat → Int) (w : World) (h : IsBytes w a n Z ∧ (∀ i, 0 ≤ Z i ∧ Z i ≤ 255) ∧ n ≤ cap) :
    Calls Try.prog 3 #[.slice a n cap] w fun e w' => e = .returned (.bool true) ∧ Below w.heap.size w w' := by
  obtain ⟨hI, hR, hcap⟩ := h
  by_cases hbig : 1048576 < n
  · exact FnSnaps_big a n cap w hbig
  have hn1 : n ≤ 1048576 := by omega
  have HI : Hid (IsBytes w a n Z) := hI
  have HR : Hid (∀ i, 0 ≤ Z i ∧ Z i ≤ 255) := hR
  have hn : decide (1048576 < (n : Int)) = false := by simp; omega
  clear hI hR hbig
  go_enter Try.func3, Try.ntmps3
  go_wp2_with fail
  refine (lwBig_any _ _ _ _).mono ?_
  rintro e w0 ⟨rfl, hw0⟩
  have hw0' := hw0.symm
  subst hw0'
  clear hw0
  go_wp2_with fail
  refine (DrawSnapPoint_any a n cap Z _ HI.out HR.out hn1 hcap).mono ?_
  rintro e w1 ⟨x, y, z, rfl, hb1⟩
  go_wp2_with fail
  generalize hW : (w1.alloc _ : World) = W
  have hB0 : Below w1.heap.size w1 W := by subst hW; (repeat (first | exact Below.refl _ _ | assumption | refine Below.drew ?_ | refine bl_alloc ?_ _ | refine bl_then ?_ (by assumption) | refine Below.setCell ?_ (by first | omega | (simp; done) | (simp; omega)) _ | refine bl_store ?_ ?_ _ _))
  have c00 : ∀ W', Below W.heap.size W W' → W'.cell? ⟨w1.heap.size, 0, none⟩ = some (.int .i64 x) := fun W' h => by
    rw [h.cell (by subst hW; simp <;> omega)]; subst hW; simp [go_sem]
  have c01 : ∀ W', Below W.heap.size W W' → W'.cell? ⟨w1.heap.size, 1, none⟩ = some (.int .i64 y) := fun W' h => by
    rw [h.cell (by subst hW; simp <;> omega)]; subst hW; simp [go_sem]
  clear hW
  have HB1 : Hid (Below w.heap.size w W) := bl_then hb1 hB0
  clear hb1 hB0
  refine (impl_SnapPoint_any _ _ _ _).mono ?_
  rintro e w2 ⟨rfl, hb2⟩
  cases hz : zoomB z && inW x y
  · have hv : snapV x y z = .agg #[.int .i64 3, .int .i64 0, .int .i64 0] := by simp [snapV, hz]
    have hvs : ∀ w, Calls Try.prog 12 #[.agg #[.int .i64 x, .int .i64 y], .int .i64 z] w fun e w' => e = .returned (.agg #[.int .i64 3, .int .i64 0, .int .i64 0]) ∧ Below w.heap.size w w' := fun w => by rw [← hv]; exact spec_SnapPoint_any _ _ _ _
    rw [hv]
    have Hvs := (show Hid _ from hvs)
    have e0 := c00 _ hb2
    have e1 := c01 _ hb2
    have hl2 := World.block_lt_of_cell? _ _ e0
    clear hv hvs
    obtain ⟨uc, uv, hu⟩ : ∃ c v : Int, unitV z = .agg #[.int .i64 c, .int .i64 v] := by
      unfold unitV
      split
      · exact ⟨_, _, rfl⟩
      · exact ⟨_, _, rfl⟩
    have u1 : Hid (∀ w, Calls Try.prog 14 #[.int .i64 z] w fun e w' => e = .returned (.agg #[.int .i64 uc, .int .i64 uv]) ∧ Below w.heap.size w w') := fun w => by rw [← hu]; exact spec_UnitAt_any z w
    have u2 : Hid (∀ w, Calls Try.prog 13 #[.int .i64 z] w fun e w' => e = .returned (.agg #[.int .i64 uc, .int .i64 uv]) ∧ Below w.heap.size w w') := fun w => by rw [← hu]; exact impl_UnitAt_any z w
    clear hu
    have i1 : ∀ w, (Instr.field 32 (.agg #[.int .i64 uc, .int .i64 uv]) 0).run Try.prog w = .ok (.int .i64 uc) w := fun _ => by kernel_rfl
    have i2 : ∀ w, (Instr.field 29 (.agg #[.int .i64 3, .int .i64 0, .int .i64 0]) 0).run Try.prog w = .ok (.int .i64 3) w := fun _ => by kernel_rfl
    go_wp2_with fail
    generalize hV : (w2.alloc _ : World) = V
    have hbV : Below w2.heap.size w2 V := by subst hV; (repeat (first | exact Below.refl _ _ | assumption | refine Below.drew ?_ | refine bl_alloc ?_ _ | refine bl_then ?_ (by assumption) | refine Below.setCell ?_ (by first | omega | (simp; done) | (simp; omega)) _ | refine bl_store ?_ ?_ _ _))
    have d0 : ∀ W', Below V.heap.size V W' → W'.cell? ⟨w2.heap.size, 0, none⟩ = some (.int .i64 3) := fun W' h => by
      rw [h.cell (by subst hV; simp)]; subst hV; simp [go_sem]
    have p0 : ∀ W', Below V.heap.size V W' → W'.cell? ⟨w1.heap.size, 0, none⟩ = some (.int .i64 x) := fun W' h => bl_cell h (bl_cell hbV e0)
    have p1 : ∀ W', Below V.heap.size V W' → W'.cell? ⟨w1.heap.size, 1, none⟩ = some (.int .i64 y) := fun W' h => bl_cell h (bl_cell hbV e1)
    have HBV : Hid (Below w.heap.size w V) := bl_then HB1.out (bl_then hb2 hbV)
    clear hV hbV c00 c01 e0 e1 hb2 HB1
    go_region_held3 (fun W' => Below V.heap.size V W') ((repeat (first | exact Below.refl _ _ | assumption | refine Below.drew ?_ | refine bl_alloc ?_ _ | refine bl_then ?_ (by assumption) | refine Below.setCell ?_ (by first | omega | (simp; done) | (simp; omega)) _ | refine bl_store ?_ ?_ _ _)))
      (first
        | (go_at_call 12; refine (Hvs.out _).mono ?_; rintro e w' ⟨rfl, hb⟩)
        | (go_at_call 14; refine (u1.out _).mono ?_; rintro e w' ⟨rfl, hb⟩)
        | (go_at_call 13; refine (u2.out _).mono ?_; rintro e w' ⟨rfl, hb⟩))
    go_wp2_with fail
    go_ret
    exact ⟨rfl, bl_then HBV.out (by assumption)⟩
  · have hzz : zoomB z = true := by simp at hz; exact hz.1
    have hin : inW x y = true := by simp at hz; exact hz.2
    have hv : snapV x y z = .agg #[.int .i64 0, .int .i64 (snapI z x), .int .i64 (snapI z y)] := by simp [snapV, hz]
    have hu : unitV z = .agg #[.int .i64 0, .int .i64 (unitI z)] := by simp [unitV, hzz]
    have u2 : Hid (∀ w, Calls Try.prog 13 #[.int .i64 z] w fun e w' => e = .returned (.agg #[.int .i64 0, .int .i64 (unitI z)]) ∧ Below w.heap.size w w') := fun w => by rw [← hu]; exact impl_UnitAt_any z w
    rw [hv]
    have e0 := c00 _ hb2
    have e1 := c01 _ hb2
    have hl2 := World.block_lt_of_cell? _ _ e0
    have HZZ : Hid (zoomB z = true) := hzz
    have HIN : Hid (inW x y = true) := hin
    obtain ⟨ub1, ub2, ub3⟩ := unit_bd hzz
    obtain ⟨⟨bx0, bx1⟩, by0, by1⟩ := inW_bd hin
    obtain ⟨sx0, sx1, sxm, sxl, sxu, sxs, g4, g32⟩ := snap_facts hzz bx0 bx1
    obtain ⟨sy0, sy1, sym, syl, syu, sys, _, _⟩ := snap_facts hzz by0 by1
    have gg : ¬ gridI z < 1 := by omega
    have HSX : Hid (snapI z (snapI z x) = snapI z x) := sxs
    have HSY : Hid (snapI z (snapI z y) = snapI z y) := sys
    clear sxs sys
    have i1 : ∀ w, (Instr.field 32 (.agg #[.int .i64 0, .int .i64 (unitI z)]) 1).run Try.prog w = .ok (.int .i64 (unitI z)) w := fun _ => by kernel_rfl
    clear hv hu hz hzz hin
    go_wp2_with fail
    generalize hV : (w2.alloc _ : World) = V
    have hbV : Below w2.heap.size w2 V := by subst hV; (repeat (first | exact Below.refl _ _ | assumption | refine Below.drew ?_ | refine bl_alloc ?_ _ | refine bl_then ?_ (by assumption) | refine Below.setCell ?_ (by first | omega | (simp; done) | (simp; omega)) _ | refine bl_store ?_ ?_ _ _))
    have d0 : ∀ W', Below V.heap.size V W' → W'.cell? ⟨w2.heap.size, 0, none⟩ = some (.int .i64 0) := fun W' h => by
      rw [h.cell (by subst hV; simp)]; subst hV; simp [go_sem]
    have d1 : ∀ W', Below V.heap.size V W' → W'.cell? ⟨w2.heap.size, 1, none⟩ = some (.int .i64 (snapI z x)) := fun W' h => by
      rw [h.cell (by subst hV; simp)]; subst hV; simp [go_sem]
    have d2 : ∀ W', Below V.heap.size V W' → W'.cell? ⟨w2.heap.size, 2, none⟩ = some (.int .i64 (snapI z y)) := fun W' h => by
      rw [h.cell (by subst hV; simp)]; subst hV; simp [go_sem]
    have p0 : ∀ W', Below V.heap.size V W' → W'.cell? ⟨w1.heap.size, 0, none⟩ = some (.int .i64 x) := fun W' h => bl_cell h (bl_cell hbV e0)
    have p1 : ∀ W', Below V.heap.size V W' → W'.cell? ⟨w1.heap.size, 1, none⟩ = some (.int .i64 y) := fun W' h => bl_cell h (bl_cell hbV e1)
    have HBV : Hid (Below w.heap.size w V) := bl_then HB1.out (bl_then hb2 hbV)
    clear hV hbV c00 c01 e0 e1 hb2 HB1
    refine (u2.out _).mono ?_
    rintro e w3 ⟨rfl, hb3⟩
    have k1 := d1 _ hb3
    have k2 := d2 _ hb3
    have r0 := p0 _ hb3
    have r1 := p1 _ hb3
    go_wp2_with fail
    refine (DrawSnapAll_any a n cap Z _ (HI.out.below (bl_then HBV.out hb3)) HR.out hn1 hcap).mono ?_
    rintro e w4 ⟨v, y4, rfl, ⟨b, k, cp, X, Y, rfl, hb, hbl, hk41, hkc, hpt⟩, hb4⟩
    have HP : Hid (PtsAt w4 b 0 k X Y) := hpt
    clear hpt
    go_wp2_with fail
    refine (impl_SnapAll_any b k cp X Y y4 _ HP.out hbl (by omega)).mono ?_
    rintro e w5 ⟨v5, rfl, hR5, hb5⟩
    obtain ⟨a5, c5, hv5, _, _⟩ := hR5.own
    have hL : (snapR y4 k X Y).length ≤ k := by
      unfold snapR
      split
      · exact snapL_len X Y y4 k
      · exact Nat.zero_le _
    have hsp : ∀ W', Below w4.heap.size w4 W' → Calls Try.prog 17 #[.slice (some ⟨b, 0, none⟩) k cp, .int .i64 y4] W' fun e w' => ∃ av cv, e = .returned (.agg #[.int .i64 (snapC y4 k X Y), .slice av (snapR y4 k X Y).length cv]) ∧ Below W'.heap.size W' w' := fun W' h =>
      (spec_SnapAll_any b k cp X Y y4 W' (HP.out.below h hbl) (Nat.lt_of_lt_of_le hbl h.size) (by omega)).mono fun e w' ⟨v, he, hr, hb⟩ => by
        obtain ⟨av, cv, hv, _, _⟩ := hr.own
        exact ⟨av, cv, by rw [he, hv], hb⟩
    have Hsp := (show Hid _ from hsp)
    have HW5 : Hid (Below w4.heap.size w4 w5) := hb5
    have hss : Hid (∀ W', Calls Try.prog 11 #[.agg #[.int .i64 (snapI z x), .int .i64 (snapI z y)], .int .i64 z] W' fun e w' => e = .returned (.agg #[.int .i64 0, .int .i64 (snapI z x), .int .i64 (snapI z y)]) ∧ Below W'.heap.size W' w') := fun W' => by
      have hi2 : inW (snapI z x) (snapI z y) = true := by simp [inW, inB]; omega
      have hv2 : snapV (snapI z x) (snapI z y) z = .agg #[.int .i64 0, .int .i64 (snapI z x), .int .i64 (snapI z y)] := by simp [snapV, HZZ.out, hi2, HSX.out, HSY.out]
      rw [← hv2]
      exact impl_SnapPoint_any _ _ _ _
    have hb35 := bl_then hb3 (bl_then hb4 hb5)
    have q1 := d1 _ hb35
    have q2 := d2 _ hb35
    have hl5 := World.block_lt_of_cell? _ _ q1
    clear k1 k2 r0 r1 hsp hR5
    generalize (snapR y4 k X Y).length = L at *
    generalize snapC y4 k X Y = C at *
    subst hv5
    have j0 : ∀ av cv w, (Instr.field 38 (.agg #[.int .i64 C, .slice av L cv]) 0).run Try.prog w = .ok (.int .i64 C) w := fun _ _ _ => by kernel_rfl
    have j1 : ∀ av cv w, (Instr.field 38 (.agg #[.int .i64 C, .slice av L cv]) 1).run Try.prog w = .ok (.slice av L cv) w := fun _ _ _ => by kernel_rfl
    have j2 : ∀ w, (Instr.field 29 (.agg #[.int .i64 0, .int .i64 (snapI z x), .int .i64 (snapI z y)]) 1).run Try.prog w = .ok (.agg #[.int .i64 (snapI z x), .int .i64 (snapI z y)]) w := fun _ => by kernel_rfl
    go_wp2_with fail
    generalize hV5 : (w5.alloc _ : World) = V5
    have hbV5 : Below w5.heap.size w5 V5 := by subst hV5; (repeat (first | exact Below.refl _ _ | assumption | refine Below.drew ?_ | refine bl_alloc ?_ _ | refine bl_then ?_ (by assumption) | refine Below.setCell ?_ (by first | omega | (simp; done) | (simp; omega)) _ | refine bl_store ?_ ?_ _ _))
    have a0 : ∀ W', Below V5.heap.size V5 W' → W'.cell? ⟨w5.heap.size, 0, none⟩ = some (.int .i64 C) := fun W' h => by
      rw [h.cell (by subst hV5; simp)]; subst hV5; simp [go_sem]
    have a1 : ∀ W', Below V5.heap.size V5 W' → W'.cell? ⟨w5.heap.size, 1, none⟩ = some (.slice a5 L c5) := fun W' h => by
      rw [h.cell (by subst hV5; simp)]; subst hV5; simp [go_sem]
    have r1 : ∀ W', Below V5.heap.size V5 W' → W'.cell? ⟨w2.heap.size, 1, none⟩ = some (.int .i64 (snapI z x)) := fun W' h => bl_cell h (bl_cell hbV5 q1)
    have r2 : ∀ W', Below V5.heap.size V5 W' → W'.cell? ⟨w2.heap.size, 2, none⟩ = some (.int .i64 (snapI z y)) := fun W' h => bl_cell h (bl_cell hbV5 q2)
    have HB5 : Hid (Below w.heap.size w V5) := bl_then HBV.out (bl_then hb35 hbV5)
    have Hsp5 : Hid (∀ W', Below V5.heap.size V5 W' → Calls Try.prog 17 #[.slice (some ⟨b, 0, none⟩) k cp, .int .i64 y4] W' fun e w' => ∃ av cv, e = .returned (.agg #[.int .i64 C, .slice av L cv]) ∧ Below W'.heap.size W' w') := fun W' h => Hsp.out W' (bl_then HW5.out (bl_then hbV5 h))
    have tm1 : (snapI z x).tmod (gridI z) = 0 := by rw [Int.tmod_eq_emod_of_nonneg sx0]; exact sxm
    have tm2 : (snapI z y).tmod (gridI z) = 0 := by rw [Int.tmod_eq_emod_of_nonneg sy0]; exact sym
    have gz : (gridI z == 0) = false := by simp; omega
    have gn : gridI z ≠ 0 := by omega
    have wn : IntKind.i64.wrap (-gridI z) = -gridI z := IntWalk.i64_in _ (by omega)
    have hLk : (L : Int) ≤ (k : Int) := by omega
    clear hV5 hbV5 q1 q2 d0 d1 d2 p0 p1 hb3 hb4 hb5 hb35 HBV Hsp HW5 HP HI HR HZZ HIN HSX HSY u2 i1 ub1 ub2 ub3 hL hb hbl hk41 hkc hl5 hl2 gg
    generalize gridI z = G at *
    generalize snapI z x = SX at *
    generalize snapI z y = SY at *
    simp only [List.append_eq, List.cons_append, List.nil_append]
    go_region_held3 (fun W' => Below V5.heap.size V5 W') ((repeat (first | exact Below.refl _ _ | assumption | refine Below.drew ?_ | refine bl_alloc ?_ _ | refine bl_then ?_ (by assumption) | refine Below.setCell ?_ (by first | omega | (simp; done) | (simp; omega)) _ | refine bl_store ?_ ?_ _ _)))
      (first
        | (go_at_call 11; refine (hss.out _).mono ?_; rintro e w' ⟨rfl, hb⟩)
        | (go_at_call 17; refine (Hsp5.out _ (by (repeat (first | exact Below.refl _ _ | assumption | refine Below.drew ?_ | refine bl_alloc ?_ _ | refine bl_then ?_ (by assumption) | refine Below.setCell ?_ (by first | omega | (simp; done) | (simp; omega)) _ | refine bl_store ?_ ?_ _ _)))).mono ?_; rintro e w' ⟨av, cv, rfl, hb⟩))
    go_wp2_with fail
    go_ret
    exact ⟨rfl, bl_then HB5.out (by assumption)⟩
end Go.Proofs.Ytdmlgfifiicmpaa
