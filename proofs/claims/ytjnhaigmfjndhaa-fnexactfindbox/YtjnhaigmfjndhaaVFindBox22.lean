/- The fault of one quad: the program's in one line; the model's. -/
import Derived.Test.YtjnhaigmfjndhaaVFindBox21
namespace Go.Proofs.Ytjnhaigmfjndhaa
open Go.RowKit Go.Shelf
set_option linter.unusedSimpArgs false
set_option linter.unusedVariables false
set_option maxRecDepth 100000

theorem quadFault_any (p off n cap i : Nat) (Q : Nat → Qd) (w : World) (hQ : QsAt w w.heap.size p off n Q) (hn : n ≤ 1048576) (hi : i < n) (hcap : n ≤ cap) :
    Calls Try.prog 50 #[.slice (some ⟨p, off, none⟩) n cap, .int .i64 (i : Int)] w fun e w' => e = .returned (.int .i64 (oneC Q n i)) ∧ Below w.heap.size w w' := by
  unfold oneC
  cases hbad : badAt Q n i with
  | true => rw [if_pos rfl]; exact quadFault_bad p off n cap i Q w hQ hn hi hbad
  | false =>
    rw [if_neg (by decide)]
    by_cases hbox : boxC (Q i).a (Q i).b (Q i).c (Q i).d ≠ 0
    · rw [if_pos hbox]; exact quadFault_box p off n cap i Q w hQ hn hi hbad hbox
    · rw [if_neg hbox]
      have hbox' := Classical.not_not.1 hbox
      by_cases hfi : (Q i).fi = 0
      · rw [if_pos hfi]; exact quadFault_leaf p off n cap i Q w hQ hn hi hbad hbox' hfi
      · rw [if_neg hfi]; exact quadFault_kids p off n cap i Q w hQ hn hi hbad hbox' hfi hcap
theorem l1In_same (v lo hi : Int) (w : World) : Calls Try.prog 62 #[.int .i64 v, .int .i64 lo, .int .i64 hi] w fun e w' => e = .returned (.bool (inB v lo hi)) ∧ w = w' := (l1In_any v lo hi w).mono (fun _ _ h => ⟨h.1, h.2.symm⟩)

set_option maxHeartbeats 2000000 in
theorem l5One_bad (p off n cap i : Nat) (Q : Nat → Qd) (w : World) (hQ : QsAt w w.heap.size p off n Q) (hn : n ≤ 1048576) (hi : i < n) (hbad : badAt Q n i = true) :
    Calls Try.prog 43 #[.slice (some ⟨p, off, none⟩) n cap, .int .i64 (i : Int)] w fun e w' => e = .returned (.int .i64 3) ∧ Below w.heap.size w w' := by
  obtain ⟨⟨q0, q1, q2, q3, q4, q5, q6⟩, _⟩ := hQ.2 i hi
  have hi1 : (i : Int) < (n : Int) := by omega
  have hi0 : (0 : Int) ≤ (i : Int) := by omega
  have hn' : (n : Int) ≤ 1048576 := by omega
  unfold badAt at hbad
  cases h1 : inB (Q i).dp 0 4
  · go_enter Try.func43, Try.ntmps43
    go_wp2_with (go_at_call 62; refine (l1In_same _ _ _ _).mono ?_; rintro e w' ⟨rfl, rfl⟩)
    go_ret
    exact ⟨rfl, by (repeat (first | exact Below.refl _ _ | assumption | refine Below.drew ?_ | refine bl_alloc ?_ _ | refine bl_then ?_ (by assumption) | refine Below.setCell ?_ (by first | omega | (simp; done) | (simp; omega)) _ | refine bl_store ?_ ?_ _ _))⟩
  · rw [h1] at hbad
    simp only [Bool.not_true, Bool.false_or, Bool.and_eq_true, decide_eq_true_eq, Bool.not_eq_true'] at hbad
    obtain ⟨hne, h2⟩ := hbad
    go_enter Try.func43, Try.ntmps43
    go_wp2_with (go_at_call 62; refine (l1In_same _ _ _ _).mono ?_; rintro e w' ⟨rfl, rfl⟩)
    go_ret
    exact ⟨rfl, by (repeat (first | exact Below.refl _ _ | assumption | refine Below.drew ?_ | refine bl_alloc ?_ _ | refine bl_then ?_ (by assumption) | refine Below.setCell ?_ (by first | omega | (simp; done) | (simp; omega)) _ | refine bl_store ?_ ?_ _ _))⟩

set_option maxHeartbeats 2000000 in
theorem l5One_box (p off n cap i : Nat) (Q : Nat → Qd) (w : World) (hQ : QsAt w w.heap.size p off n Q) (hn : n ≤ 1048576) (hi : i < n) (hbad : badAt Q n i = false) (hbox : boxC (Q i).a (Q i).b (Q i).c (Q i).d ≠ 0) :
    Calls Try.prog 43 #[.slice (some ⟨p, off, none⟩) n cap, .int .i64 (i : Int)] w fun e w' => e = .returned (.int .i64 1) ∧ Below w.heap.size w w' := by
  obtain ⟨⟨q0, q1, q2, q3, q4, q5, q6⟩, _⟩ := hQ.2 i hi
  have hi1 : (i : Int) < (n : Int) := by omega
  have hi0 : (0 : Int) ≤ (i : Int) := by omega
  have hn' : (n : Int) ≤ 1048576 := by omega
  unfold badAt at hbad
  simp only [Bool.or_eq_false_iff, Bool.not_eq_false', Bool.and_eq_false_iff, decide_eq_false_iff_not, ne_eq, Classical.not_not] at hbad
  obtain ⟨h1, h2⟩ := hbad
  have hbq : (boxC (Q i).a (Q i).b (Q i).c (Q i).d == 0) = false := by simpa using hbox
  by_cases hne : (Q i).fi = 0
  · rw [hne] at q5
    go_enter Try.func43, Try.ntmps43
    go_upto_region 5 with (go_at_call 62; refine (l1In_same _ _ _ _).mono ?_; rintro e w' ⟨rfl, rfl⟩)
    go_wp2_with (go_at_call 22; refine (l5Box_any _ _ _ _ _ _ _ q0 q1 q2 q3).mono ?_; rintro e w'' ⟨rfl, hb2⟩)
    go_ret
    exact ⟨rfl, by (repeat (first | exact Below.refl _ _ | assumption | refine Below.drew ?_ | refine bl_alloc ?_ _ | refine bl_then ?_ (by assumption) | refine Below.setCell ?_ (by first | omega | (simp; done) | (simp; omega)) _ | refine bl_store ?_ ?_ _ _))⟩
  · have h2' := h2.resolve_left hne
    go_enter Try.func43, Try.ntmps43
    go_upto_region 5 with (go_at_call 62; refine (l1In_same _ _ _ _).mono ?_; rintro e w' ⟨rfl, rfl⟩)
    go_wp2_with (go_at_call 22; refine (l5Box_any _ _ _ _ _ _ _ q0 q1 q2 q3).mono ?_; rintro e w'' ⟨rfl, hb2⟩)
    go_ret
    exact ⟨rfl, by (repeat (first | exact Below.refl _ _ | assumption | refine Below.drew ?_ | refine bl_alloc ?_ _ | refine bl_then ?_ (by assumption) | refine Below.setCell ?_ (by first | omega | (simp; done) | (simp; omega)) _ | refine bl_store ?_ ?_ _ _))⟩
end Go.Proofs.Ytjnhaigmfjndhaa
