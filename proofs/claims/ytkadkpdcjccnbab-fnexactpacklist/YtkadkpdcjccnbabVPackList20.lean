/- Numbers on either side of 0 are folded, and unfolded. -/
import Derived.Test.YtkadkpdcjccnbabVPackList5
import Derived.Test.YtkadkpdcjccnbabVPackList2
namespace Go.Proofs.Ytkadkpdcjccnbab
open Go.RowKit
set_option linter.unusedSimpArgs false
set_option linter.unusedVariables false

/-- A number, folded. -/
def foldI (n : Int) : Int := if n < 0 then -2 * n - 1 else 2 * n
/-- A number, unfolded. -/
def unfoldI (n : Int) : Int := if n % 2 = 1 then -(n / 2) - 1 else n / 2
/-- The answer of FoldNumber. -/
def foldV (n : Int) : Value := if inB n (-1073741824) 1073741824 = true then .agg #[.int .i64 0, .int .i64 (foldI n)] else .agg #[.int .i64 3, .int .i64 0]
def unfoldV (n : Int) : Value := if inB n 0 2147483648 = true then .agg #[.int .i64 0, .int .i64 (unfoldI n)] else .agg #[.int .i64 3, .int .i64 0]
theorem unfold_fold (n : Int) : unfoldI (foldI n) = n := by unfold unfoldI foldI; split <;> split <;> omega
theorem fold_unfold (n : Int) (h : 0 ≤ n) : foldI (unfoldI n) = n := by unfold unfoldI foldI; split <;> split <;> omega
theorem foldI_bd {n B : Int} (h : -B ≤ n) (h' : n ≤ B) : 0 ≤ foldI n ∧ foldI n ≤ 2 * B := by unfold foldI; split <;> omega
theorem unfoldI_bd {n B : Int} (h : 0 ≤ n) (h' : n ≤ 2 * B) : -B ≤ unfoldI n ∧ unfoldI n ≤ B := by unfold unfoldI; split <;> omega
theorem inB_bd {n lo hi : Int} (h : inB n lo hi = true) : lo ≤ n ∧ n ≤ hi := by simpa [inB] using h

theorem impl_fold_any (n : Int) (w : World) (h1 : -1099511627776 ≤ n) (h2 : n ≤ 1099511627776) : Calls Try.prog 42 #[.int .i64 n] w fun e w' => e = .returned (.int .u64 (foldI n)) ∧ w = w' := by
  unfold foldI
  by_cases hn : n < 0
  · rw [if_pos hn]
    have e1 : IntKind.u64.wrap (-n) = -n := by rw [IntKind.wrap_u64]; omega
    have e2 : IntKind.u64.wrap (2 * -n) = 2 * -n := by rw [IntKind.wrap_u64]; omega
    have e3 : IntKind.u64.wrap (2 * -n - 1) = 2 * -n - 1 := by rw [IntKind.wrap_u64]; omega
    have e0 : IntKind.i64.wrap (-n) = -n := IntWalk.i64_in _ (by omega)
    go_enter Try.func42, Try.ntmps42
    go_wp2
    go_ret
    exact ⟨ret_int (by omega), rfl⟩
  · rw [if_neg hn]
    have e1 : IntKind.u64.wrap n = n := by rw [IntKind.wrap_u64]; omega
    have e2 : IntKind.u64.wrap (2 * n) = 2 * n := by rw [IntKind.wrap_u64]; omega
    go_enter Try.func42, Try.ntmps42
    go_wp2
    go_ret
    exact ⟨ret_int (by omega), rfl⟩
theorem impl_unfold_any (n : Int) (w : World) (h1 : 0 ≤ n) (h2 : n ≤ 1099511627776) : Calls Try.prog 44 #[.int .u64 n] w fun e w' => e = .returned (.int .i64 (unfoldI n)) ∧ w = w' := by
  unfold unfoldI
  have e1 : IntKind.u64.wrap (n / 2) = n / 2 := by rw [IntKind.wrap_u64]; omega
  have e2 : IntKind.i64.wrap (n / 2) = n / 2 := IntWalk.i64_in _ (by omega)
  have e3 : IntKind.i64.wrap (-(n / 2)) = -(n / 2) := IntWalk.i64_in _ (by omega)
  have e4 : IntKind.i64.wrap (-(n / 2) - 1) = -(n / 2) - 1 := IntWalk.i64_in _ (by omega)
  have e5 : IntKind.u64.wrap (n % 2) = n % 2 := by rw [IntKind.wrap_u64]; omega
  have t1 : n.tdiv 2 = n / 2 := Int.tdiv_eq_ediv_of_nonneg h1
  have t2 : n.tmod 2 = n % 2 := Int.tmod_eq_emod_of_nonneg h1
  by_cases hn : n % 2 = 1
  · rw [if_pos hn]
    go_enter Try.func44, Try.ntmps44
    go_wp2
    go_ret
    exact ⟨ret_int (by omega), rfl⟩
  · rw [if_neg hn]
    go_enter Try.func44, Try.ntmps44
    go_wp2
    go_ret
    exact ⟨ret_int (by omega), rfl⟩
theorem impl_FoldNumber_any (n : Int) (w : World) : Calls Try.prog 10 #[.int .i64 n] w fun e w' => e = .returned (foldV n) ∧ Below w.heap.size w w' := by
  cases h : inB n (-1073741824) 1073741824
  · go_enter Try.func10, Try.ntmps10
    go_wp2_with (go_at_call 41; refine (isWithin_any _ _ _ _).mono ?_; rintro e w' ⟨rfl, rfl⟩)
    exact bodyPost_ret (v := .agg #[.int .i64 3, .int .i64 0]) (by simp [results, Try.results10, go_sem]) rfl ⟨by simp [foldV, h], by (repeat (first | exact Below.refl _ _ | assumption | refine Below.drew ?_ | refine bl_alloc ?_ _ | refine bl_then ?_ (by assumption) | refine Below.setCell ?_ (by first | omega | (simp; done) | (simp; omega)) _ | refine bl_store ?_ ?_ _ _))⟩
  · obtain ⟨b1, b2⟩ := inB_bd h
    obtain ⟨c1, c2⟩ := foldI_bd b1 b2
    have e1 : IntKind.i64.wrap (foldI n) = foldI n := IntWalk.i64_in _ (by omega)
    have hV : Hid (foldV n = .agg #[.int .i64 0, .int .i64 (foldI n)]) := by show _ = _; simp [foldV, h]
    have H := fun w => impl_fold_any n w (by omega) (by omega)
    have HH := (show Hid _ from H)
    generalize foldI n = m at *
    clear H
    go_enter Try.func10, Try.ntmps10
    go_wp2_with (first | (go_at_call 41; refine (isWithin_any _ _ _ _).mono ?_; rintro e w' ⟨rfl, rfl⟩) | (go_at_call 42; refine (HH.out _).mono ?_; rintro e w' ⟨rfl, rfl⟩))
    exact bodyPost_ret (v := .agg #[.int .i64 0, .int .i64 m]) (by simp [results, Try.results10, go_sem, e1]) rfl ⟨by rw [hV.out], by (repeat (first | exact Below.refl _ _ | assumption | refine Below.drew ?_ | refine bl_alloc ?_ _ | refine bl_then ?_ (by assumption) | refine Below.setCell ?_ (by first | omega | (simp; done) | (simp; omega)) _ | refine bl_store ?_ ?_ _ _))⟩
theorem impl_UnfoldNumber_any (n : Int) (w : World) : Calls Try.prog 13 #[.int .i64 n] w fun e w' => e = .returned (unfoldV n) ∧ Below w.heap.size w w' := by
  cases h : inB n 0 2147483648
  · go_enter Try.func13, Try.ntmps13
    go_wp2_with (go_at_call 41; refine (isWithin_any _ _ _ _).mono ?_; rintro e w' ⟨rfl, rfl⟩)
    exact bodyPost_ret (v := .agg #[.int .i64 3, .int .i64 0]) (by simp [results, Try.results13, go_sem]) rfl ⟨by simp [unfoldV, h], by (repeat (first | exact Below.refl _ _ | assumption | refine Below.drew ?_ | refine bl_alloc ?_ _ | refine bl_then ?_ (by assumption) | refine Below.setCell ?_ (by first | omega | (simp; done) | (simp; omega)) _ | refine bl_store ?_ ?_ _ _))⟩
  · obtain ⟨b1, b2⟩ := inB_bd h
    have e1 : IntKind.u64.wrap n = n := by rw [IntKind.wrap_u64]; omega
    have HH : Hid (∀ w, Calls Try.prog 44 #[.int .u64 n] w fun e w' => e = .returned (.int .i64 (unfoldI n)) ∧ w = w') := fun w => impl_unfold_any n w (by omega) (by omega)
    go_enter Try.func13, Try.ntmps13
    go_wp2_with (first | (go_at_call 41; refine (isWithin_any _ _ _ _).mono ?_; rintro e w' ⟨rfl, rfl⟩) | (go_at_call 44; refine (HH.out _).mono ?_; rintro e w' ⟨rfl, rfl⟩))
    exact bodyPost_ret (v := .agg #[.int .i64 0, .int .i64 (unfoldI n)]) (by simp [results, Try.results13, go_sem]) rfl ⟨by simp [unfoldV, h], by (repeat (first | exact Below.refl _ _ | assumption | refine Below.drew ?_ | refine bl_alloc ?_ _ | refine bl_then ?_ (by assumption) | refine Below.setCell ?_ (by first | omega | (simp; done) | (simp; omega)) _ | refine bl_store ?_ ?_ _ _))⟩
theorem l6Fold_any (n : Int) (w : World) (h1 : -1099511627776 ≤ n) (h2 : n ≤ 1099511627776) : Calls Try.prog 40 #[.int .i64 n] w fun e w' => e = .returned (.int .i64 (foldI n)) ∧ w = w' := by
  unfold foldI
  by_cases hn : n < 0
  · rw [if_pos hn]
    have hn' : ¬ 0 ≤ n := by omega
    go_enter Try.func40, Try.ntmps40
    go_wp2
    go_ret
    exact ⟨ret_int (by omega), rfl⟩
  · rw [if_neg hn]
    have hn' : 0 ≤ n := by omega
    go_enter Try.func40, Try.ntmps40
    go_wp2
    go_ret
    exact ⟨ret_int (by omega), rfl⟩
theorem spec_FoldNumber_any (n : Int) (w : World) : Calls Try.prog 9 #[.int .i64 n] w fun e w' => e = .returned (foldV n) ∧ Below w.heap.size w w' := by
  cases h : inB n (-1073741824) 1073741824
  · go_enter Try.func9, Try.ntmps9
    go_wp2_with (go_at_call 39; refine (l1In_any _ _ _ _).mono ?_; rintro e w' ⟨rfl, rfl⟩)
    exact bodyPost_ret (v := .agg #[.int .i64 3, .int .i64 0]) (by simp [results, Try.results9, go_sem]) rfl ⟨by simp [foldV, h], by (repeat (first | exact Below.refl _ _ | assumption | refine Below.drew ?_ | refine bl_alloc ?_ _ | refine bl_then ?_ (by assumption) | refine Below.setCell ?_ (by first | omega | (simp; done) | (simp; omega)) _ | refine bl_store ?_ ?_ _ _))⟩
  · obtain ⟨b1, b2⟩ := inB_bd h
    have HH : Hid (∀ w, Calls Try.prog 40 #[.int .i64 n] w fun e w' => e = .returned (.int .i64 (foldI n)) ∧ w = w') := fun w => l6Fold_any n w (by omega) (by omega)
    go_enter Try.func9, Try.ntmps9
    go_wp2_with (first | (go_at_call 39; refine (l1In_any _ _ _ _).mono ?_; rintro e w' ⟨rfl, rfl⟩) | (go_at_call 40; refine (HH.out _).mono ?_; rintro e w' ⟨rfl, rfl⟩))
    exact bodyPost_ret (v := .agg #[.int .i64 0, .int .i64 (foldI n)]) (by simp [results, Try.results9, go_sem]) rfl ⟨by simp [foldV, h], by (repeat (first | exact Below.refl _ _ | assumption | refine Below.drew ?_ | refine bl_alloc ?_ _ | refine bl_then ?_ (by assumption) | refine Below.setCell ?_ (by first | omega | (simp; done) | (simp; omega)) _ | refine bl_store ?_ ?_ _ _))⟩
theorem l6Unfold_any (n : Int) (w : World) (h1 : 0 ≤ n) (h2 : n ≤ 1099511627776) : Calls Try.prog 43 #[.int .i64 n] w fun e w' => e = .returned (.int .i64 (unfoldI n)) ∧ w = w' := by
  unfold unfoldI
  have t1 : n.tdiv 2 = n / 2 := Int.tdiv_eq_ediv_of_nonneg h1
  have t2 : n.tmod 2 = n % 2 := Int.tmod_eq_emod_of_nonneg h1
  have t3 : (-(n + 1)).tdiv 2 = -((n + 1) / 2) := by rw [Int.neg_tdiv, Int.tdiv_eq_ediv_of_nonneg (by omega)]
  by_cases hn : n % 2 = 1
  · rw [if_pos hn]
    have hn' : ¬ n % 2 = 0 := by omega
    go_enter Try.func43, Try.ntmps43
    go_wp2
    go_ret
    exact ⟨ret_int (by omega), rfl⟩
  · rw [if_neg hn]
    have hn' : n % 2 = 0 := by omega
    go_enter Try.func43, Try.ntmps43
    go_wp2
    go_ret
    exact ⟨ret_int (by omega), rfl⟩
theorem spec_UnfoldNumber_any (n : Int) (w : World) : Calls Try.prog 12 #[.int .i64 n] w fun e w' => e = .returned (unfoldV n) ∧ Below w.heap.size w w' := by
  cases h : inB n 0 2147483648
  · go_enter Try.func12, Try.ntmps12
    go_wp2_with (go_at_call 39; refine (l1In_any _ _ _ _).mono ?_; rintro e w' ⟨rfl, rfl⟩)
    exact bodyPost_ret (v := .agg #[.int .i64 3, .int .i64 0]) (by simp [results, Try.results12, go_sem]) rfl ⟨by simp [unfoldV, h], by (repeat (first | exact Below.refl _ _ | assumption | refine Below.drew ?_ | refine bl_alloc ?_ _ | refine bl_then ?_ (by assumption) | refine Below.setCell ?_ (by first | omega | (simp; done) | (simp; omega)) _ | refine bl_store ?_ ?_ _ _))⟩
  · obtain ⟨b1, b2⟩ := inB_bd h
    have HH : Hid (∀ w, Calls Try.prog 43 #[.int .i64 n] w fun e w' => e = .returned (.int .i64 (unfoldI n)) ∧ w = w') := fun w => l6Unfold_any n w (by omega) (by omega)
    go_enter Try.func12, Try.ntmps12
    go_wp2_with (first | (go_at_call 39; refine (l1In_any _ _ _ _).mono ?_; rintro e w' ⟨rfl, rfl⟩) | (go_at_call 43; refine (HH.out _).mono ?_; rintro e w' ⟨rfl, rfl⟩))
    exact bodyPost_ret (v := .agg #[.int .i64 0, .int .i64 (unfoldI n)]) (by simp [results, Try.results12, go_sem]) rfl ⟨by simp [unfoldV, h], by (repeat (first | exact Below.refl _ _ | assumption | refine Below.drew ?_ | refine bl_alloc ?_ _ | refine bl_then ?_ (by assumption) | refine Below.setCell ?_ (by first | omega | (simp; done) | (simp; omega)) _ | refine bl_store ?_ ?_ _ _))⟩
end Go.Proofs.Ytkadkpdcjccnbab
