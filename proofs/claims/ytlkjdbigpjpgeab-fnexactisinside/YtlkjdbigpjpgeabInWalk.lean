/- The law of IsInside returns true at every point and every list. -/
import Derived.Test.YtlkjdbigpjpgeabInImpl
import Derived.Test.YtlkjdbigpjpgeabCopy
import Derived.Test.YtlkjdbigpjpgeabSz
namespace Go.Proofs.Ytlkjdbigpjpgeab
open Go.RowKit
set_option linter.unusedSimpArgs false
set_option linter.unusedVariables false

set_option maxHeartbeats 2000000 in
theorem FnExactIsInside_walk (px py : Int) (a : Option Addr) (n cap : Nat) (X Y : Nat → Int) (w : World) (h : IsPts w a n X Y ∧ n ≤ cap ∧ cap ≤ maxLen) :
    Calls Try.prog 6 #[.agg #[.int .i64 px, .int .i64 py], .slice a n cap] w fun e w' => e = .returned (.bool true) ∧ Below w.heap.size w w' := by
  obtain ⟨hpt, hcap, hmx⟩ := h
  have HI : Hid (IsPts w a n X Y) := hpt
  clear hpt
  by_cases hbig : 1048576 < n
  · have HM : Hid (n ≤ maxLen) := Nat.le_trans hcap hmx
    clear hmx
    go_enter Try.func6, Try.ntmps6
    go_wp2_with (go_at_call 17; refine (szPointS_big _ _ _ _ hbig HM.out).mono ?_; rintro e w' ⟨rfl, rfl⟩)
    go_ret
    exact ⟨rfl, by (repeat (first | exact Below.refl _ _ | assumption | refine Below.drew ?_ | refine bl_alloc ?_ _ | refine bl_then ?_ (by assumption) | refine Below.setCell ?_ (by first | omega | (simp; done) | (simp; omega)) _ | refine bl_store ?_ ?_ _ _))⟩
  · have hn : n ≤ 1048576 := by omega
    clear hmx hbig
    have hneg : ¬ (1048576 : Int) - (n : Int) < 0 := by omega
    go_enter Try.func6, Try.ntmps6
    go_wp2_with fail
    refine (szPointS_small _ _ _ _ hn).mono ?_
    rintro e W ⟨rfl, hWW⟩
    have hB0 : Below w.heap.size w W := by subst hWW; (repeat (first | exact Below.refl _ _ | assumption | refine Below.drew ?_ | refine bl_alloc ?_ _ | refine bl_then ?_ (by assumption) | refine Below.setCell ?_ (by first | omega | (simp; done) | (simp; omega)) _ | refine bl_store ?_ ?_ _ _))
    have c00 : ∀ W', Below W.heap.size W W' → W'.cell? ⟨w.heap.size, 0, none⟩ = some (.int .i64 px) := fun W' h => by
      rw [h.cell (by subst hWW; simp)]; subst hWW; simp [go_sem]
    have c01 : ∀ W', Below W.heap.size W W' → W'.cell? ⟨w.heap.size, 1, none⟩ = some (.int .i64 py) := fun W' h => by
      rw [h.cell (by subst hWW; simp)]; subst hWW; simp [go_sem]
    clear hWW
    have HB0 : Hid (Below w.heap.size w W) := hB0
    have HI1 : Hid (IsPts W a n X Y) := HI.out.below hB0
    clear hB0 HI
    have hr : Below W.heap.size W W := Below.refl _ _
    go_wp2_with fail
    refine (toPoint_any _ _ _).mono ?_
    rintro e w1 ⟨rfl, hb1⟩
    go_wp2_with fail
    refine (toPointS_any a n cap X Y _ (HI1.out.below hb1) hn).mono ?_
    rintro e w2 ⟨b2, rfl, hle2, hlt2, hp2, hb2⟩
    have hB2 := bl_then hb1 hb2
    have HP2 : Hid (PtsAt w2 b2 0 n X Y) := hp2
    clear hp2 hb1 hb2
    go_wp2_with fail
    refine (spec_IsInside_any _ _ _ _ _ X Y _ HP2.out hlt2 (Nat.le_refl _) hn).mono ?_
    rintro e w3 ⟨rfl, hb3⟩
    have hB3 := bl_then hB2 hb3
    clear hB2 hb3 hle2 hlt2 HP2
    go_wp2_with fail
    refine (toPointS_any a n cap X Y _ (HI1.out.below hB3) hn).mono ?_
    rintro e w4 ⟨b4, rfl, hle4, hlt4, hp4, hb4⟩
    have hB4 := bl_then hB3 hb4
    have HP4 : Hid (PtsAt w4 b4 0 n X Y) := hp4
    clear hp4 hb4 hB3
    go_wp2_with fail
    refine (toPoint_any _ _ _).mono ?_
    rintro e w5 ⟨rfl, hb5⟩
    have hB5 := bl_then hB4 hb5
    have HP5 : Hid (PtsAt w5 b4 0 n X Y) := HP4.out.below hb5 hlt4
    have hlt5 : b4 < w5.heap.size := Nat.lt_of_lt_of_le hlt4 hb5.size
    clear hb5 hB4 HP4
    go_wp2_with fail
    refine (impl_IsInside_any _ _ _ _ _ X Y _ HP5.out hlt5 (Nat.le_refl _) hn).mono ?_
    rintro e w6 ⟨rfl, hb6⟩
    have hB6 := bl_then hB5 hb6
    have HP6 : Hid (PtsAt w6 b4 0 n X Y) := HP5.out.below hb6 hlt5
    have hlt6 : b4 < w6.heap.size := Nat.lt_of_lt_of_le hlt5 hb6.size
    clear hb6 hB5 HP5
    go_wp2_with fail
    refine (toPointS_any a n cap X Y _ (HI1.out.below hB6) hn).mono ?_
    rintro e w7 ⟨b7, rfl, hle7, hlt7, hp7, hb7⟩
    have hB7 := bl_then hB6 hb7
    have HP7 : Hid (PtsAt w7 b7 0 n X Y) := hp7
    have HP8 : Hid (PtsAt w7 b4 0 n X Y) := HP6.out.below hb7 hlt6
    have hlt8 : b4 < w7.heap.size := Nat.lt_of_lt_of_le hlt6 hb7.size
    clear hp7 hb7 hB6 HP6
    go_wp2_with fail
    refine (eqPointS_any _ _ _ X Y _ HP8.out HP7.out hlt8 hlt7 hn).mono ?_
    rintro e w8 ⟨rfl, hb8⟩
    go_wp2
    go_ret
    exact ⟨rfl, bl_then HB0.out (bl_then hB7 hb8)⟩
end Go.Proofs.Ytlkjdbigpjpgeab
