/- A new cache: the program, the model and the law. -/
import Derived.Test.YtdmpgdoceacghaaLeaf0
import Derived.Test.YtdmpgdoceacghaaWith
namespace Go.Proofs.Ytdmpgdoceacghaa
open Go.RowKit
set_option linter.unusedSimpArgs false
set_option linter.unusedVariables false
set_option maxRecDepth 100000

/-- An answer with a cache in which nothing is kept. -/
abbrev ncV (c s : Int) : Value := .agg #[.int .i64 c, .int .i64 s, .slice none 0 0]
def ncC (s : Int) : Int := if inB s 1 10 = true then 0 else 3
def ncS (s : Int) : Int := if inB s 1 10 = true then s else 0
theorem isSize_any (s : Int) (w : World) : Calls Try.prog 10 #[.int .i64 s] w fun e w' => e = .returned (.bool (inB s 1 10)) ∧ w' = w := by
  go_enter Try.func10, Try.ntmps10
  go_wp2_with (go_at_call 14; refine (isWithin_any _ _ _ _).mono ?_; rintro e w' ⟨rfl, rfl⟩)
  go_ret
  exact ⟨rfl, rfl⟩
theorem impl_NewCache_any (s : Int) (w : World) : Calls Try.prog 5 #[.int .i64 s] w fun e w' => e = .returned (ncV (ncC s) (ncS s)) ∧ Below w.heap.size w w' := by
  have hs := fun W => isSize_any s W
  unfold ncC ncS
  cases h : inB s 1 10 <;> simp only [h] at hs
  · go_enter Try.func5, Try.ntmps5
    go_wp2_with (go_at_call 10; refine (hs _).mono ?_; rintro e w' ⟨rfl, rfl⟩)
    exact bodyPost_ret (v := ncV 3 0) (by simp [results, Try.results5, go_sem]) rfl ⟨rfl, by (repeat (first | exact Below.refl _ _ | assumption | refine Below.drew ?_ | refine bl_alloc ?_ _ | refine bl_then ?_ (by assumption) | refine Below.setCell ?_ (by first | omega | (simp; done) | (simp; omega)) _ | refine bl_store ?_ ?_ _ _))⟩
  · go_enter Try.func5, Try.ntmps5
    go_wp2_with (go_at_call 10; refine (hs _).mono ?_; rintro e w' ⟨rfl, rfl⟩)
    exact bodyPost_ret (v := ncV 0 s) (by simp [results, Try.results5, go_sem]) rfl ⟨rfl, by (repeat (first | exact Below.refl _ _ | assumption | refine Below.drew ?_ | refine bl_alloc ?_ _ | refine bl_then ?_ (by assumption) | refine Below.setCell ?_ (by first | omega | (simp; done) | (simp; omega)) _ | refine bl_store ?_ ?_ _ _))⟩
theorem spec_NewCache_any (s : Int) (w : World) : Calls Try.prog 4 #[.int .i64 s] w fun e w' => e = .returned (ncV (ncC s) (ncS s)) ∧ Below w.heap.size w w' := by
  have hs := fun W => l1In_any s 1 10 W
  unfold ncC ncS
  cases h : inB s 1 10 <;> simp only [h] at hs
  · go_enter Try.func4, Try.ntmps4
    go_wp2_with (go_at_call 9; refine (hs _).mono ?_; rintro e w' ⟨rfl, rfl⟩)
    exact bodyPost_ret (v := ncV 3 0) (by simp [results, Try.results4, go_sem]) rfl ⟨rfl, by (repeat (first | exact Below.refl _ _ | assumption | refine Below.drew ?_ | refine bl_alloc ?_ _ | refine bl_then ?_ (by assumption) | refine Below.setCell ?_ (by first | omega | (simp; done) | (simp; omega)) _ | refine bl_store ?_ ?_ _ _))⟩
  · go_enter Try.func4, Try.ntmps4
    go_wp2_with (go_at_call 9; refine (hs _).mono ?_; rintro e w' ⟨rfl, rfl⟩)
    exact bodyPost_ret (v := ncV 0 s) (by simp [results, Try.results4, go_sem]) rfl ⟨rfl, by (repeat (first | exact Below.refl _ _ | assumption | refine Below.drew ?_ | refine bl_alloc ?_ _ | refine bl_then ?_ (by assumption) | refine Below.setCell ?_ (by first | omega | (simp; done) | (simp; omega)) _ | refine bl_store ?_ ?_ _ _))⟩
theorem eqKeptS_none (w : World) : Calls Try.prog 15 #[.slice none 0 0, .slice none 0 0] w fun e w' => e = .returned (.bool true) ∧ w = w' := by
  go_enter Try.func15, Try.ntmps15
  go_wp2_with fail
  go_loopw [5] (fun i wr => i = .int .i64 0 ∧ w = wr) (fun _ _ => 0)
  case atStart => exact ⟨rfl, rfl⟩
  case round =>
    obtain ⟨rfl, rfl⟩ := hrel
    go_wp2
    go_ret
    exact ⟨rfl, rfl⟩
theorem eqCache_none (s : Int) (w : World) : Calls Try.prog 11 #[.agg #[.int .i64 s, .slice none 0 0], .agg #[.int .i64 s, .slice none 0 0]] w fun e w' => e = .returned (.bool true) ∧ Below w.heap.size w w' := by
  go_enter Try.func11, Try.ntmps11
  go_wp2_with (go_at_call 15; refine (eqKeptS_none _).mono ?_; rintro e w' ⟨rfl, rfl⟩)
  go_ret
  exact ⟨rfl, by (repeat (first | exact Below.refl _ _ | assumption | refine Below.drew ?_ | refine bl_alloc ?_ _ | refine bl_then ?_ (by assumption) | refine Below.setCell ?_ (by first | omega | (simp; done) | (simp; omega)) _ | refine bl_store ?_ ?_ _ _))⟩
theorem eqCacheResult_none (c s : Int) (w : World) : Calls Try.prog 6 #[ncV c s, ncV c s] w fun e w' => e = .returned (.bool true) ∧ Below w.heap.size w w' := by
  go_enter Try.func6, Try.ntmps6
  go_wp2_with (go_at_call 11; refine (eqCache_none _ _).mono ?_; rintro e w' ⟨rfl, hb⟩)
  go_ret
  exact ⟨rfl, by (repeat (first | exact Below.refl _ _ | assumption | refine Below.drew ?_ | refine bl_alloc ?_ _ | refine bl_then ?_ (by assumption) | refine Below.setCell ?_ (by first | omega | (simp; done) | (simp; omega)) _ | refine bl_store ?_ ?_ _ _))⟩
theorem markKeptS_none (k : Int) (w : World) : Calls Try.prog 16 #[.slice none 0 0, .int .i64 k] w fun e w' => e = .returned (.int .i64 k) ∧ w = w' := by
  go_enter Try.func16, Try.ntmps16
  go_wp2_with fail
  go_loopw [1, 5] (fun kk i wr => kk = .int .i64 k ∧ i = .int .i64 0 ∧ w = wr) (fun _ _ _ => 0)
  case atStart => exact ⟨rfl, rfl, rfl⟩
  case round =>
    obtain ⟨rfl, rfl, rfl⟩ := hrel
    go_wp2
    go_ret
    exact ⟨rfl, rfl⟩
theorem markCache_none (s k : Int) (w : World) : Calls Try.prog 12 #[.agg #[.int .i64 s, .slice none 0 0], .int .i64 k] w fun e w' => e = .returned (.int .i64 k) ∧ Below w.heap.size w w' := by
  go_enter Try.func12, Try.ntmps12
  go_wp2_with (go_at_call 16; refine (markKeptS_none _ _).mono ?_; rintro e w' ⟨rfl, rfl⟩)
  go_ret
  exact ⟨rfl, by (repeat (first | exact Below.refl _ _ | assumption | refine Below.drew ?_ | refine bl_alloc ?_ _ | refine bl_then ?_ (by assumption) | refine Below.setCell ?_ (by first | omega | (simp; done) | (simp; omega)) _ | refine bl_store ?_ ?_ _ _))⟩
theorem markCacheResult_none (c s k : Int) (w : World) : Calls Try.prog 7 #[ncV c s, .int .i64 k] w fun e w' => e = .returned (.int .i64 k) ∧ Below w.heap.size w w' := by
  go_enter Try.func7, Try.ntmps7
  go_wp2_with (go_at_call 12; refine (markCache_none _ _ _).mono ?_; rintro e w' ⟨rfl, hb⟩)
  go_ret
  exact ⟨rfl, by (repeat (first | exact Below.refl _ _ | assumption | refine Below.drew ?_ | refine bl_alloc ?_ _ | refine bl_then ?_ (by assumption) | refine Below.setCell ?_ (by first | omega | (simp; done) | (simp; omega)) _ | refine bl_store ?_ ?_ _ _))⟩
theorem heldKeptS_none (k : Int) (w : World) : Calls Try.prog 17 #[.slice none 0 0, .int .i64 k] w fun e w' => e = .returned (.int .i64 k) ∧ w = w' := by
  go_enter Try.func17, Try.ntmps17
  go_wp2_with fail
  go_loopw [1, 5] (fun kk i wr => kk = .int .i64 k ∧ i = .int .i64 0 ∧ w = wr) (fun _ _ _ => 0)
  case atStart => exact ⟨rfl, rfl, rfl⟩
  case round =>
    obtain ⟨rfl, rfl, rfl⟩ := hrel
    go_wp2
    go_ret
    exact ⟨rfl, rfl⟩
theorem heldCache_none (s : Int) (w : World) : Calls Try.prog 13 #[.agg #[.int .i64 s, .slice none 0 0], .int .i64 1] w fun e w' => e = .returned (.int .i64 1) ∧ Below w.heap.size w w' := by
  go_enter Try.func13, Try.ntmps13
  go_wp2_with (go_at_call 17; refine (heldKeptS_none _ _).mono ?_; rintro e w' ⟨rfl, rfl⟩)
  go_ret
  exact ⟨rfl, by (repeat (first | exact Below.refl _ _ | assumption | refine Below.drew ?_ | refine bl_alloc ?_ _ | refine bl_then ?_ (by assumption) | refine Below.setCell ?_ (by first | omega | (simp; done) | (simp; omega)) _ | refine bl_store ?_ ?_ _ _))⟩
theorem heldCacheResult_none (c s : Int) (w : World) : Calls Try.prog 8 #[ncV c s, .int .i64 1] w fun e w' => e = .returned (.int .i64 1) ∧ Below w.heap.size w w' := by
  go_enter Try.func8, Try.ntmps8
  go_wp2_with (go_at_call 13; refine (heldCache_none _ _).mono ?_; rintro e w' ⟨rfl, hb⟩)
  go_ret
  exact ⟨rfl, by (repeat (first | exact Below.refl _ _ | assumption | refine Below.drew ?_ | refine bl_alloc ?_ _ | refine bl_then ?_ (by assumption) | refine Below.setCell ?_ (by first | omega | (simp; done) | (simp; omega)) _ | refine bl_store ?_ ?_ _ _))⟩
/-- Three cells of an answer. -/
def N3At (w : World) (p : Nat) (c s : Int) : Prop := w.cell? ⟨p, 0, none⟩ = some (.int .i64 c) ∧ w.cell? ⟨p, 1, none⟩ = some (.int .i64 s) ∧ w.cell? ⟨p, 2, none⟩ = some (.slice none 0 0)
theorem N3At.below {w w' : World} {p : Nat} {c s : Int} (h : N3At w p c s) (hb : Below w.heap.size w w') : N3At w' p c s :=
  ⟨(hb.cell (World.block_lt_of_cell? _ _ h.1)).trans h.1, (hb.cell (World.block_lt_of_cell? _ _ h.2.1)).trans h.2.1, (hb.cell (World.block_lt_of_cell? _ _ h.2.2)).trans h.2.2⟩
theorem N3At.new (w : World) (c s : Int) (t : TypeId) : N3At (w.alloc (.cells #[.int .i64 c, .int .i64 s, .slice none 0 0] t)) w.heap.size c s := ⟨by simp [go_sem], by simp [go_sem], by simp [go_sem]⟩
set_option maxHeartbeats 4000000 in
theorem FnExactNewCache_walk (s : Int) (w : World) : Calls Try.prog 3 #[.int .i64 s] w fun e w' => e = .returned (.bool true) ∧ Below w.heap.size w w' := by
  have HS := (show Hid _ from fun W => spec_NewCache_any s W)
  have HI := (show Hid _ from fun W => impl_NewCache_any s W)
  generalize ncC s = c at *
  generalize ncS s = s' at *
  go_enter Try.func3, Try.ntmps3
  go_wp2_with fail
  refine (HS.out _).mono ?_
  rintro e w1 ⟨rfl, hb1⟩
  go_wp2_with fail
  generalize hV : (w1.alloc _ : World) = W1
  have HW1 : Hid (Below w.heap.size w W1) := by show Below _ _ _; subst hV; (repeat (first | exact Below.refl _ _ | assumption | refine Below.drew ?_ | refine bl_alloc ?_ _ | refine bl_then ?_ (by assumption) | refine Below.setCell ?_ (by first | omega | (simp; done) | (simp; omega)) _ | refine bl_store ?_ ?_ _ _))
  have H1 : Hid (N3At W1 w1.heap.size c s') := by show N3At _ _ _ _; subst hV; exact N3At.new _ _ _ _
  clear hV hb1
  refine (HI.out _).mono ?_
  rintro e w2 ⟨rfl, hb2⟩
  have H2 : Hid (N3At w2 w1.heap.size c s') := H1.out.below hb2
  have HW2 : Hid (Below w.heap.size w w2) := bl_then HW1.out hb2
  clear hb2
  obtain ⟨p0, p1, p2⟩ := H2.out
  have hl1 := World.block_lt_of_cell? _ _ p0
  go_wp2_with fail
  generalize hV : (w2.alloc _ : World) = W2
  have hb2 : Below w2.heap.size w2 W2 := by subst hV; (repeat (first | exact Below.refl _ _ | assumption | refine Below.drew ?_ | refine bl_alloc ?_ _ | refine bl_then ?_ (by assumption) | refine Below.setCell ?_ (by first | omega | (simp; done) | (simp; omega)) _ | refine bl_store ?_ ?_ _ _))
  have HA : Hid (N3At W2 w1.heap.size c s') := H2.out.below hb2
  have HB : Hid (N3At W2 w2.heap.size c s') := by show N3At _ _ _ _; subst hV; exact N3At.new _ _ _ _
  have HW : Hid (Below w.heap.size w W2) := bl_then HW2.out hb2
  clear hV hb2 p0 p1 p2 hl1
  refine (eqCacheResult_none c s' _).mono ?_
  rintro e w3 ⟨rfl, hb3⟩
  have HA3 : Hid (N3At w3 w1.heap.size c s') := HA.out.below hb3
  have HB3 : Hid (N3At w3 w2.heap.size c s') := HB.out.below hb3
  have HW3 : Hid (Below w.heap.size w w3) := bl_then HW.out hb3
  clear hb3
  obtain ⟨q0, q1, q2⟩ := HB3.out
  go_wp2_with fail
  refine (markCacheResult_none c s' _ _).mono ?_
  rintro e w4 ⟨rfl, hb4⟩
  have HA4 : Hid (N3At w4 w1.heap.size c s') := HA3.out.below hb4
  have HB4 : Hid (N3At w4 w2.heap.size c s') := HB3.out.below hb4
  have HW4 : Hid (Below w.heap.size w w4) := bl_then HW3.out hb4
  clear hb4 q0 q1 q2
  obtain ⟨q0, q1, q2⟩ := HB4.out
  go_wp2_with fail
  refine (heldCacheResult_none c s' _).mono ?_
  rintro e w5 ⟨rfl, hb5⟩
  have HA5 : Hid (N3At w5 w1.heap.size c s') := HA4.out.below hb5
  have HB5 : Hid (N3At w5 w2.heap.size c s') := HB4.out.below hb5
  have HW5 : Hid (Below w.heap.size w w5) := bl_then HW4.out hb5
  clear hb5 q0 q1 q2
  go_wp2_with fail
  refine (HI.out _).mono ?_
  rintro e w6 ⟨rfl, hb6⟩
  have HA6 : Hid (N3At w6 w1.heap.size c s') := HA5.out.below hb6
  have HB6 : Hid (N3At w6 w2.heap.size c s') := HB5.out.below hb6
  have HW6 : Hid (Below w.heap.size w w6) := bl_then HW5.out hb6
  clear hb6
  obtain ⟨p0, p1, p2⟩ := HA6.out
  have hl1 := World.block_lt_of_cell? _ _ p0
  go_wp2_with fail
  generalize hV : (w6.alloc _ : World) = W6
  have hb6 : Below w6.heap.size w6 W6 := by subst hV; (repeat (first | exact Below.refl _ _ | assumption | refine Below.drew ?_ | refine bl_alloc ?_ _ | refine bl_then ?_ (by assumption) | refine Below.setCell ?_ (by first | omega | (simp; done) | (simp; omega)) _ | refine bl_store ?_ ?_ _ _))
  have HB7 : Hid (N3At W6 w2.heap.size c s') := HB6.out.below hb6
  have HW7 : Hid (Below w.heap.size w W6) := bl_then HW6.out hb6
  clear hV hb6 p0 p1 p2 hl1
  refine (eqCacheResult_none c s' _).mono ?_
  rintro e w8 ⟨rfl, hb8⟩
  have HB8 : Hid (N3At w8 w2.heap.size c s') := HB7.out.below hb8
  have HW8 : Hid (Below w.heap.size w w8) := bl_then HW7.out hb8
  clear hb8
  obtain ⟨q0, q1, q2⟩ := HB8.out
  go_wp2_with fail
  refine (heldCacheResult_none c s' _).mono ?_
  rintro e w9 ⟨rfl, hb9⟩
  have HW9 : Hid (Below w.heap.size w w9) := bl_then HW8.out hb9
  clear hb9 q0 q1 q2
  go_wp2
  go_ret
  exact ⟨rfl, HW9.out⟩
end Go.Proofs.Ytdmpgdoceacghaa
