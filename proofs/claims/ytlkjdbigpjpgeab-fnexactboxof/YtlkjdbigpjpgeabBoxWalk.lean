/- The law of BoxOf returns true at every list. -/
import Derived.Test.YtlkjdbigpjpgeabBoxImpl2
import Derived.Test.YtlkjdbigpjpgeabCopy
import Derived.Test.YtlkjdbigpjpgeabSz
namespace Go.Proofs.Ytlkjdbigpjpgeab
open Go.RowKit
set_option linter.unusedSimpArgs false
set_option linter.unusedVariables false

set_option maxHeartbeats 1000000 in
theorem eqBox_any (a b c d : Int) (w : World) : Calls Try.prog 45 #[.agg #[.int .i64 a, .int .i64 b, .int .i64 c, .int .i64 d], .agg #[.int .i64 a, .int .i64 b, .int .i64 c, .int .i64 d]] w fun e w' => e = .returned (.bool true) ∧ Below w.heap.size w w' := by
  go_enter Try.func45, Try.ntmps45
  go_wp2_with fail
  generalize hW : ((w.alloc _).alloc _ : World) = W
  have hB0 : Below w.heap.size w W := by subst hW; (repeat (first | exact Below.refl _ _ | assumption | refine Below.drew ?_ | refine bl_alloc ?_ _ | refine bl_then ?_ (by assumption) | refine Below.setCell ?_ (by first | omega | (simp; done) | (simp; omega)) _ | refine bl_store ?_ ?_ _ _))
  have c00 : ∀ W', Below W.heap.size W W' → W'.cell? ⟨w.heap.size, 0, none⟩ = some (.int .i64 a) := fun W' h => by
    rw [h.cell (by subst hW; simp <;> omega)]; subst hW; simp [go_sem]
  have c01 : ∀ W', Below W.heap.size W W' → W'.cell? ⟨w.heap.size, 1, none⟩ = some (.int .i64 b) := fun W' h => by
    rw [h.cell (by subst hW; simp <;> omega)]; subst hW; simp [go_sem]
  have c02 : ∀ W', Below W.heap.size W W' → W'.cell? ⟨w.heap.size, 2, none⟩ = some (.int .i64 c) := fun W' h => by
    rw [h.cell (by subst hW; simp <;> omega)]; subst hW; simp [go_sem]
  have c03 : ∀ W', Below W.heap.size W W' → W'.cell? ⟨w.heap.size, 3, none⟩ = some (.int .i64 d) := fun W' h => by
    rw [h.cell (by subst hW; simp <;> omega)]; subst hW; simp [go_sem]
  have c10 : ∀ W', Below W.heap.size W W' → W'.cell? ⟨w.heap.size + 1, 0, none⟩ = some (.int .i64 a) := fun W' h => by
    rw [h.cell (by subst hW; simp <;> omega)]; subst hW; simp [go_sem]
  have c11 : ∀ W', Below W.heap.size W W' → W'.cell? ⟨w.heap.size + 1, 1, none⟩ = some (.int .i64 b) := fun W' h => by
    rw [h.cell (by subst hW; simp <;> omega)]; subst hW; simp [go_sem]
  have c12 : ∀ W', Below W.heap.size W W' → W'.cell? ⟨w.heap.size + 1, 2, none⟩ = some (.int .i64 c) := fun W' h => by
    rw [h.cell (by subst hW; simp <;> omega)]; subst hW; simp [go_sem]
  have c13 : ∀ W', Below W.heap.size W W' → W'.cell? ⟨w.heap.size + 1, 3, none⟩ = some (.int .i64 d) := fun W' h => by
    rw [h.cell (by subst hW; simp <;> omega)]; subst hW; simp [go_sem]
  clear hW
  have HB0 : Hid (Below w.heap.size w W) := hB0
  clear hB0
  have hr : Below W.heap.size W W := Below.refl _ _
  go_wp2_with (go_at_call 42; refine (eqPoint_any _ _ _).mono ?_; rintro e w' ⟨rfl, hb⟩; have hbn : Below W.heap.size W w' := (by (repeat (first | exact Below.refl _ _ | assumption | refine Below.drew ?_ | refine bl_alloc ?_ _ | refine bl_then ?_ (by assumption) | refine Below.setCell ?_ (by first | omega | (simp; done) | (simp; omega)) _ | refine bl_store ?_ ?_ _ _))))
  go_ret
  exact ⟨rfl, by have HB1 := HB0.out; (repeat (first | exact Below.refl _ _ | assumption | refine Below.drew ?_ | refine bl_alloc ?_ _ | refine bl_then ?_ (by assumption) | refine Below.setCell ?_ (by first | omega | (simp; done) | (simp; omega)) _ | refine bl_store ?_ ?_ _ _))⟩
set_option maxHeartbeats 1000000 in
theorem eqBoxResult_any (z a b c d : Int) (w : World) : Calls Try.prog 24 #[.agg #[.int .i64 z, .int .i64 a, .int .i64 b, .int .i64 c, .int .i64 d], .agg #[.int .i64 z, .int .i64 a, .int .i64 b, .int .i64 c, .int .i64 d]] w fun e w' => e = .returned (.bool true) ∧ Below w.heap.size w w' := by
  go_enter Try.func24, Try.ntmps24
  go_wp2_with (go_at_call 45; refine (eqBox_any _ _ _ _ _).mono ?_; rintro e w' ⟨rfl, hb⟩)
  go_ret
  exact ⟨rfl, by (repeat (first | exact Below.refl _ _ | assumption | refine Below.drew ?_ | refine bl_alloc ?_ _ | refine bl_then ?_ (by assumption) | refine Below.setCell ?_ (by first | omega | (simp; done) | (simp; omega)) _ | refine bl_store ?_ ?_ _ _))⟩

set_option maxHeartbeats 2000000 in
theorem FnExactBoxOf_law (z x0 y0 x1 y1 : Int) (a : Option Addr) (n cap : Nat) (X Y : Nat → Int) (w : World) (hpt : IsPts w a n X Y) (hn : n ≤ 1048576)
    (hsp : ∀ b w, PtsAt w b 0 n X Y → b < w.heap.size → Calls Try.prog 22 #[.slice (some ⟨b, 0, none⟩) n n] w fun e w' => e = .returned (.agg #[.int .i64 z, .int .i64 x0, .int .i64 y0, .int .i64 x1, .int .i64 y1]) ∧ Below w.heap.size w w')
    (him : ∀ b w, PtsAt w b 0 n X Y → b < w.heap.size → Calls Try.prog 23 #[.slice (some ⟨b, 0, none⟩) n n] w fun e w' => e = .returned (.agg #[.int .i64 z, .int .i64 x0, .int .i64 y0, .int .i64 x1, .int .i64 y1]) ∧ Below w.heap.size w w') :
    Calls Try.prog 7 #[.slice a n cap] w fun e w' => e = .returned (.bool true) ∧ Below w.heap.size w w' := by
  have HI : Hid (IsPts w a n X Y) := hpt
  have Hsp := (show Hid _ from hsp)
  have Him := (show Hid _ from him)
  clear hpt hsp him
  have hneg : ¬ (1048576 : Int) - (n : Int) < 0 := by omega
  go_enter Try.func7, Try.ntmps7
  go_wp2_with fail
  refine (szPointS_small _ _ _ _ hn).mono ?_
  rintro e W ⟨rfl, hWW⟩
  have hW2 := hWW.symm
  subst hW2
  clear hWW
  go_wp2_with fail
  refine (toPointS_any a n cap X Y _ HI.out hn).mono ?_
  rintro e w1 ⟨b1, rfl, hle1, hlt1, hp1, hb1⟩
  have HP1 : Hid (PtsAt w1 b1 0 n X Y) := hp1
  clear hp1
  go_wp2_with fail
  refine (Hsp.out _ _ HP1.out hlt1).mono ?_
  rintro e w2 ⟨rfl, hb2⟩
  have hB2 := bl_then hb1 hb2
  clear hb1 hb2 HP1 hle1 hlt1
  go_wp2_with fail
  generalize hW3 : (w2.alloc _ : World) = w3
  have hB3 : Below w.heap.size w w3 := by subst hW3; (repeat (first | exact Below.refl _ _ | assumption | refine Below.drew ?_ | refine bl_alloc ?_ _ | refine bl_then ?_ (by assumption) | refine Below.setCell ?_ (by first | omega | (simp; done) | (simp; omega)) _ | refine bl_store ?_ ?_ _ _))
  have c0 : ∀ W', Below w3.heap.size w3 W' → W'.cell? ⟨w2.heap.size, 0, none⟩ = some (.int .i64 z) := fun W' h => by
    rw [h.cell (by subst hW3; simp)]; subst hW3; simp [go_sem]
  have c1 : ∀ W', Below w3.heap.size w3 W' → W'.cell? ⟨w2.heap.size, 1, none⟩ = some (.int .i64 x0) := fun W' h => by
    rw [h.cell (by subst hW3; simp)]; subst hW3; simp [go_sem]
  have c2 : ∀ W', Below w3.heap.size w3 W' → W'.cell? ⟨w2.heap.size, 2, none⟩ = some (.int .i64 y0) := fun W' h => by
    rw [h.cell (by subst hW3; simp)]; subst hW3; simp [go_sem]
  have c3 : ∀ W', Below w3.heap.size w3 W' → W'.cell? ⟨w2.heap.size, 3, none⟩ = some (.int .i64 x1) := fun W' h => by
    rw [h.cell (by subst hW3; simp)]; subst hW3; simp [go_sem]
  have c4 : ∀ W', Below w3.heap.size w3 W' → W'.cell? ⟨w2.heap.size, 4, none⟩ = some (.int .i64 y1) := fun W' h => by
    rw [h.cell (by subst hW3; simp)]; subst hW3; simp [go_sem]
  clear hW3 hB2
  refine (toPointS_any a n cap X Y _ (HI.out.below hB3) hn).mono ?_
  rintro e w4 ⟨b4, rfl, hle4, hlt4, hp4, hb4⟩
  have HP4 : Hid (PtsAt w4 b4 0 n X Y) := hp4
  clear hp4
  go_wp2_with fail
  refine (Him.out _ _ HP4.out hlt4).mono ?_
  rintro e w5 ⟨rfl, hb5⟩
  have hB5 : Below w3.heap.size w3 w5 := bl_then hb4 hb5
  have HP5 : Hid (PtsAt w5 b4 0 n X Y) := HP4.out.below hb5 hlt4
  have hlt5 : b4 < w5.heap.size := Nat.lt_of_lt_of_le hlt4 hb5.size
  clear hb4 hb5 HP4 hlt4
  have k0 := c0 w5 hB5
  have k1 := c1 w5 hB5
  have k2 := c2 w5 hB5
  have k3 := c3 w5 hB5
  have k4 := c4 w5 hB5
  have hlw : w2.heap.size < w5.heap.size := World.block_lt_of_cell? _ _ k0
  clear c0 c1 c2 c3 c4
  go_wp2_with fail
  generalize hW6 : (w5.alloc _ : World) = w6
  have hB56 : Below w5.heap.size w5 w6 := by subst hW6; (repeat (first | exact Below.refl _ _ | assumption | refine Below.drew ?_ | refine bl_alloc ?_ _ | refine bl_then ?_ (by assumption) | refine Below.setCell ?_ (by first | omega | (simp; done) | (simp; omega)) _ | refine bl_store ?_ ?_ _ _))
  have hB6 : Below w3.heap.size w3 w6 := bl_then hB5 hB56
  clear hW6
  have HP6 : Hid (PtsAt w6 b4 0 n X Y) := HP5.out.below hB56 hlt5
  have hlt6 : b4 < w6.heap.size := Nat.lt_of_lt_of_le hlt5 hB56.size
  clear hB56 hB5 HP5
  refine (eqBoxResult_any _ _ _ _ _ _).mono ?_
  rintro e w7 ⟨rfl, hb7⟩
  have hB7 := bl_then hB6 hb7
  have HP7 : Hid (PtsAt w7 b4 0 n X Y) := HP6.out.below hb7 hlt6
  have hlt7 : b4 < w7.heap.size := Nat.lt_of_lt_of_le hlt6 hb7.size
  clear hb7 hB6 HP6
  go_wp2_with fail
  refine (toPointS_any a n cap X Y _ (HI.out.below (bl_then hB3 hB7)) hn).mono ?_
  rintro e w8 ⟨b8, rfl, hle8, hlt8, hp8, hb8⟩
  have HP8 : Hid (PtsAt w8 b8 0 n X Y) := hp8
  have HP9 : Hid (PtsAt w8 b4 0 n X Y) := HP7.out.below hb8 hlt7
  have hlt9 : b4 < w8.heap.size := Nat.lt_of_lt_of_le hlt7 hb8.size
  clear hp8
  go_wp2_with fail
  refine (eqPointS_any _ _ _ X Y _ HP9.out HP8.out hlt9 hlt8 hn).mono ?_
  rintro e w9 ⟨rfl, hb9⟩
  go_wp2
  go_ret
  exact ⟨rfl, bl_then (bl_then (bl_then hB3 hB7) hb8) hb9⟩

set_option maxHeartbeats 2000000 in
theorem FnExactBoxOf_walk (a : Option Addr) (n cap : Nat) (X Y : Nat → Int) (w : World) (h : IsPts w a n X Y ∧ n ≤ cap ∧ cap ≤ maxLen) :
    Calls Try.prog 7 #[.slice a n cap] w fun e w' => e = .returned (.bool true) ∧ Below w.heap.size w w' := by
  obtain ⟨hpt, hcap, hmx⟩ := h
  by_cases hbig : 1048576 < n
  · have HM : Hid (n ≤ maxLen) := Nat.le_trans hcap hmx
    clear hmx hpt
    go_enter Try.func7, Try.ntmps7
    go_wp2_with (go_at_call 17; refine (szPointS_big _ _ _ _ hbig HM.out).mono ?_; rintro e w' ⟨rfl, rfl⟩)
    go_ret
    exact ⟨rfl, by (repeat (first | exact Below.refl _ _ | assumption | refine Below.drew ?_ | refine bl_alloc ?_ _ | refine bl_then ?_ (by assumption) | refine Below.setCell ?_ (by first | omega | (simp; done) | (simp; omega)) _ | refine bl_store ?_ ?_ _ _))⟩
  · have hn : n ≤ 1048576 := by omega
    by_cases h0 : n = 0
    · subst h0
      exact FnExactBoxOf_law 4 0 0 0 0 a 0 cap X Y w hpt hn (fun b w _ _ => spec_BoxOf_none _ _ _) (fun b w _ _ => impl_BoxOf_none _ _ _)
    by_cases h40 : 40 < n
    · exact FnExactBoxOf_law 2 0 0 0 0 a n cap X Y w hpt hn (fun b w _ _ => spec_BoxOf_many _ _ _ _ h40 hn) (fun b w _ _ => impl_BoxOf_many _ _ _ _ h40 hn)
    cases hall : allOk n X Y
    · have hv : boxV n X Y = .agg #[.int .i64 3, .int .i64 0, .int .i64 0, .int .i64 0, .int .i64 0] := by simp [boxV, hall]
      refine FnExactBoxOf_law 3 0 0 0 0 a n cap X Y w hpt hn (fun b w hp hl => ?_) (fun b w hp hl => ?_)
      · rw [← hv]; exact spec_BoxOf_some _ _ _ _ _ _ hp hl (Nat.le_refl _) (by omega) (by omega)
      · rw [← hv]; exact impl_BoxOf_bad _ _ _ _ _ _ hp hl (Nat.le_refl _) (by omega) (by omega) hall
    · have hv : boxV n X Y = .agg #[.int .i64 0, .int .i64 (mnTo X n), .int .i64 (mnTo Y n), .int .i64 (mxTo X n), .int .i64 (mxTo Y n)] := by simp [boxV, hall]
      refine FnExactBoxOf_law 0 (mnTo X n) (mnTo Y n) (mxTo X n) (mxTo Y n) a n cap X Y w hpt hn (fun b w hp hl => ?_) (fun b w hp hl => ?_)
      · rw [← hv]; exact spec_BoxOf_some _ _ _ _ _ _ hp hl (Nat.le_refl _) (by omega) (by omega)
      · rw [← hv]; exact impl_BoxOf_ok _ _ _ _ _ _ hp hl (Nat.le_refl _) (by omega) (by omega) hall
end Go.Proofs.Ytlkjdbigpjpgeab
