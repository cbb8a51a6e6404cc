/- The kids of a quad; the fault of one quad, by the program. -/
import Derived.Test.YtjnhaigmfjndhaaVFindBox19
namespace Go.Proofs.Ytjnhaigmfjndhaa
open Go.RowKit Go.Shelf
set_option linter.unusedSimpArgs false
set_option linter.unusedVariables false
set_option maxRecDepth 100000

theorem kidsIn_none (p off o n cap : Nat) (w : World) (h5 : w.cell? ⟨p, o + 5, none⟩ = some (.int .i64 0)) :
    Calls Try.prog 67 #[.slice (some ⟨p, off, none⟩) n cap, .pointer (some ⟨p, o, none⟩)] w fun e w' => e = .returned (.slice none 0 0) ∧ Below w.heap.size w w' := by
  go_enter Try.func67, Try.ntmps67
  go_wp2_with fail
  go_ret
  exact ⟨rfl, by (repeat (first | exact Below.refl _ _ | assumption | refine Below.drew ?_ | refine bl_alloc ?_ _ | refine bl_then ?_ (by assumption) | refine Below.setCell ?_ (by first | omega | (simp; done) | (simp; omega)) _ | refine bl_store ?_ ?_ _ _))⟩
set_option maxHeartbeats 2000000 in
theorem kidsIn_some (p off o n cap f : Nat) (w : World) (h5 : w.cell? ⟨p, o + 5, none⟩ = some (.int .i64 (f : Int))) (hf : 0 < f) (hfn : f + 4 ≤ n) (hn : n ≤ cap) (hn1 : n ≤ 1048576) :
    Calls Try.prog 67 #[.slice (some ⟨p, off, none⟩) n cap, .pointer (some ⟨p, o, none⟩)] w fun e w' => e = .returned (.slice (some ⟨p, off + f * 7, none⟩) 4 (cap - f)) ∧ Below w.heap.size w w' := by
  have hne : (f : Int) ≠ 0 := by omega
  have hlt : (f : Int) ≤ 1048576 := by omega
  have h0 : (0 : Int) ≤ (f : Int) := by omega
  have h4 : (f : Int) + 4 ≤ (cap : Int) := by omega
  go_enter Try.func67, Try.ntmps67
  go_wp2_with fail
  go_region
  go_wp2_with fail
  go_ret
  exact ⟨congrArg Ending.returned (by show Value.slice _ (f + 4 - f) _ = _; rw [Nat.add_sub_cancel_left]), by (repeat (first | exact Below.refl _ _ | assumption | refine Below.drew ?_ | refine bl_alloc ?_ _ | refine bl_then ?_ (by assumption) | refine Below.setCell ?_ (by first | omega | (simp; done) | (simp; omega)) _ | refine bl_store ?_ ?_ _ _))⟩
/-- Whether kid k of quad i fits to it. -/
def kidOk (Q : Nat → Qd) (i k : Nat) : Prop := let q := Q i; let r := Q (q.fi.toNat + k); (r.a = kx0 q.a q.c k ∧ r.b = ky0 q.b q.d k ∧ r.c = kx1 q.a q.c k ∧ r.d = ky1 q.b q.d k) ∧ r.dp = q.dp + 1
instance (Q : Nat → Qd) (i k : Nat) : Decidable (kidOk Q i k) := by unfold kidOk; infer_instance
/-- First is not a place where four kids can be. -/
def badAt (Q : Nat → Qd) (n i : Nat) : Bool := !inB (Q i).dp 0 4 || (decide ((Q i).fi ≠ 0) && !inB (Q i).fi ((i : Int) + 1) ((n : Int) - 4))
/-- The fault of one quad. -/
def oneC (Q : Nat → Qd) (n i : Nat) : Int := if badAt Q n i = true then 3 else if boxC (Q i).a (Q i).b (Q i).c (Q i).d ≠ 0 then 1 else if (Q i).fi = 0 then 0 else if kidOk Q i 0 ∧ kidOk Q i 1 ∧ kidOk Q i 2 ∧ kidOk Q i 3 then 0 else 1

set_option maxHeartbeats 2000000 in
theorem quadFault_bad (p off n cap i : Nat) (Q : Nat → Qd) (w : World) (hQ : QsAt w w.heap.size p off n Q) (hn : n ≤ 1048576) (hi : i < n) (hbad : badAt Q n i = true) :
    Calls Try.prog 50 #[.slice (some ⟨p, off, none⟩) n cap, .int .i64 (i : Int)] w fun e w' => e = .returned (.int .i64 3) ∧ Below w.heap.size w w' := by
  obtain ⟨⟨q0, q1, q2, q3, q4, q5, q6⟩, _⟩ := hQ.2 i hi
  have hi1 : (i : Int) < (n : Int) := by omega
  have hi0 : (0 : Int) ≤ (i : Int) := by omega
  have hn' : (n : Int) ≤ 1048576 := by omega
  unfold badAt at hbad
  cases h1 : inB (Q i).dp 0 4
  · go_enter Try.func50, Try.ntmps50
    go_wp2_with (go_at_call 65; refine (isWithin_any _ _ _ _).mono ?_; rintro e w' ⟨rfl, rfl⟩)
    go_ret
    exact ⟨rfl, by (repeat (first | exact Below.refl _ _ | assumption | refine Below.drew ?_ | refine bl_alloc ?_ _ | refine bl_then ?_ (by assumption) | refine Below.setCell ?_ (by first | omega | (simp; done) | (simp; omega)) _ | refine bl_store ?_ ?_ _ _))⟩
  · rw [h1] at hbad
    simp only [Bool.not_true, Bool.false_or, Bool.and_eq_true, decide_eq_true_eq, Bool.not_eq_true'] at hbad
    obtain ⟨hne, h2⟩ := hbad
    go_enter Try.func50, Try.ntmps50
    go_wp2_with (go_at_call 65; refine (isWithin_any _ _ _ _).mono ?_; rintro e w' ⟨rfl, rfl⟩)
    go_ret
    exact ⟨rfl, by (repeat (first | exact Below.refl _ _ | assumption | refine Below.drew ?_ | refine bl_alloc ?_ _ | refine bl_then ?_ (by assumption) | refine Below.setCell ?_ (by first | omega | (simp; done) | (simp; omega)) _ | refine bl_store ?_ ?_ _ _))⟩
theorem okP_le {x y : Int} (h : okP x y = true) : (-1024 ≤ x ∧ x ≤ 4096) ∧ (-1024 ≤ y ∧ y ≤ 4096) := by
  simp [okP, inB] at h
  omega
theorem boxC_le {a b c d : Int} (h : boxC a b c d = 0) : (-1024 ≤ a ∧ a ≤ 4096) ∧ (-1024 ≤ b ∧ b ≤ 4096) ∧ (-1024 ≤ c ∧ c ≤ 4096) ∧ (-1024 ≤ d ∧ d ≤ 4096) := by
  unfold boxC at h
  split at h
  · rename_i hok
    have h1 := okP_le hok.1
    have h2 := okP_le hok.2
    exact ⟨h1.1, h1.2, h2.1, h2.2⟩
  · omega

set_option maxHeartbeats 2000000 in
theorem quadFault_box (p off n cap i : Nat) (Q : Nat → Qd) (w : World) (hQ : QsAt w w.heap.size p off n Q) (hn : n ≤ 1048576) (hi : i < n) (hbad : badAt Q n i = false) (hbox : boxC (Q i).a (Q i).b (Q i).c (Q i).d ≠ 0) :
    Calls Try.prog 50 #[.slice (some ⟨p, off, none⟩) n cap, .int .i64 (i : Int)] w fun e w' => e = .returned (.int .i64 1) ∧ Below w.heap.size w w' := by
  obtain ⟨⟨q0, q1, q2, q3, q4, q5, q6⟩, _⟩ := hQ.2 i hi
  have hi1 : (i : Int) < (n : Int) := by omega
  have hi0 : (0 : Int) ≤ (i : Int) := by omega
  have hn' : (n : Int) ≤ 1048576 := by omega
  unfold badAt at hbad
  simp only [Bool.or_eq_false_iff, Bool.not_eq_false', Bool.and_eq_false_iff, decide_eq_false_iff_not, ne_eq, Classical.not_not] at hbad
  obtain ⟨h1, h2⟩ := hbad
  have HBX : Hid (boxC (Q i).a (Q i).b (Q i).c (Q i).d ≠ 0) := hbox
  have hbq : (boxC (Q i).a (Q i).b (Q i).c (Q i).d == 0) = false := by simpa using hbox
  rcases h2 with h2 | h2
  · rw [h2] at q5
    go_enter Try.func50, Try.ntmps50
    go_upto_region 5 with (go_at_call 65; refine (isWithin_any _ _ _ _).mono ?_; rintro e w' ⟨rfl, rfl⟩)
    go_wp2_with (go_at_call 28; refine (boxFault_any _ _ _ _ _).mono ?_; rintro e w'' ⟨rfl, hb2⟩)
    go_ret
    exact ⟨rfl, by (repeat (first | exact Below.refl _ _ | assumption | refine Below.drew ?_ | refine bl_alloc ?_ _ | refine bl_then ?_ (by assumption) | refine Below.setCell ?_ (by first | omega | (simp; done) | (simp; omega)) _ | refine bl_store ?_ ?_ _ _))⟩
  · by_cases hne : (Q i).fi = 0
    · rw [hne] at q5
      go_enter Try.func50, Try.ntmps50
      go_upto_region 5 with (go_at_call 65; refine (isWithin_any _ _ _ _).mono ?_; rintro e w' ⟨rfl, rfl⟩)
      go_wp2_with (go_at_call 28; refine (boxFault_any _ _ _ _ _).mono ?_; rintro e w'' ⟨rfl, hb2⟩)
      go_ret
      exact ⟨rfl, by (repeat (first | exact Below.refl _ _ | assumption | refine Below.drew ?_ | refine bl_alloc ?_ _ | refine bl_then ?_ (by assumption) | refine Below.setCell ?_ (by first | omega | (simp; done) | (simp; omega)) _ | refine bl_store ?_ ?_ _ _))⟩
    · go_enter Try.func50, Try.ntmps50
      go_upto_region 5 with (go_at_call 65; refine (isWithin_any _ _ _ _).mono ?_; rintro e w' ⟨rfl, rfl⟩)
      go_wp2_with (go_at_call 28; refine (boxFault_any _ _ _ _ _).mono ?_; rintro e w'' ⟨rfl, hb2⟩)
      go_ret
      exact ⟨rfl, by (repeat (first | exact Below.refl _ _ | assumption | refine Below.drew ?_ | refine bl_alloc ?_ _ | refine bl_then ?_ (by assumption) | refine Below.setCell ?_ (by first | omega | (simp; done) | (simp; omega)) _ | refine bl_store ?_ ?_ _ _))⟩
end Go.Proofs.Ytjnhaigmfjndhaa
