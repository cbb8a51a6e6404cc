/- Several texts in one. -/
import Derived.Test.YtnlmndlchobfeaaGreatVCovers4
import Derived.Test.YtnlmndlchobfeaaGreatVCovers3

/- Answers with a code and a list of points: they are compared, marked, and the marks are found again. -/

namespace Go.Proofs.YtnlmndlchobfeaaGreat
open Go.RowKit
set_option linter.unusedSimpArgs false
set_option linter.unusedVariables false

/-- The block of a list, if it has one. -/
theorem Own.block {w : World} {base : Nat} {v : Value} {n : Nat} {X Y : Nat → Int} (h : Own w base v n X Y) : ∃ a cap, v = .slice a n cap ∧ n ≤ cap ∧ (n = 0 ∨ ∃ b, a = some ⟨b, 0, none⟩ ∧ base ≤ b ∧ b < w.heap.size ∧ PtsAt w b 0 n X Y ∧ There w b (n * 2)) := h
theorem Own.below {w w' : World} {base : Nat} {v : Value} {n : Nat} {X Y : Nat → Int} (h : Own w base v n X Y) (hb : Below w.heap.size w w') : Own w' base v n X Y := by
  obtain ⟨a, cap, hv, hc, h0 | ⟨b, ha, hbb, hl, hp, ht⟩⟩ := h
  · exact ⟨a, cap, hv, hc, .inl h0⟩
  · exact ⟨a, cap, hv, hc, .inr ⟨b, ha, hbb, Nat.lt_of_lt_of_le hl hb.size, hp.below hb hl, ht.below hb⟩⟩

theorem Own.is {w : World} {base : Nat} {a : Option Addr} {n cap : Nat} {X Y : Nat → Int} (h : Own w base (.slice a n cap) n X Y) : IsPts w a n X Y := by
  obtain ⟨a', cap', hv, hc, hi⟩ := h.pts
  injection hv with h1 h2 h3
  subst h1
  exact hi

/-- A list that lies below block T. -/
def Under (T : Nat) (w : World) (a : Option Addr) (n : Nat) (X Y : Nat → Int) : Prop := n = 0 ∨ ∃ b off, a = some ⟨b, off, none⟩ ∧ b < T ∧ PtsAt w b off n X Y
theorem Under.is {T : Nat} {w : World} {a : Option Addr} {n : Nat} {X Y : Nat → Int} (h : Under T w a n X Y) (hT : T ≤ w.heap.size) : IsPts w a n X Y := by
  rcases h with h | ⟨b, off, e, hl, hp⟩
  · exact .inl h
  · exact .inr ⟨b, off, e, by omega, hp⟩
theorem Under.below {T B : Nat} {w w' : World} {a : Option Addr} {n : Nat} {X Y : Nat → Int} (h : Under T w a n X Y) (hb : Below B w w') (hB : T ≤ B) : Under T w' a n X Y := by
  rcases h with h | ⟨b, off, e, hl, hp⟩
  · exact .inl h
  · exact .inr ⟨b, off, e, hl, hp.below hb (by omega)⟩
theorem Under.grown {T s : Nat} {w w' : World} {a : Option Addr} {n : Nat} {X Y : Nat → Int} (h : Under T w a n X Y) (hg : w.grownBy w' (some s)) (hs : T ≤ s) : Under T w' a n X Y := by
  rcases h with h | ⟨b, off, e, hl, hp⟩
  · exact .inl h
  · exact .inr ⟨b, off, e, hl, hp.grown hg (by omega)⟩
theorem bl_cell {w w' : World} {p : Addr} {v : Value} (hb : Below w.heap.size w w') (h : w.cell? p = some v) : w'.cell? p = some v := (hb.cell (World.block_lt_of_cell? _ _ h)).trans h
theorem gr_cell {w w' : World} {b o s : Nat} {v : Value} (hg : w.grownBy w' (some s)) (h : w.cell? ⟨b, o, none⟩ = some v) (hs : b ≠ s) : w'.cell? ⟨b, o, none⟩ = some v := hg.cell h (fun e => hs (by injection e))

theorem ro_cell {w w' : World} {b o : Nat} {row : Option Nat} {v : Value} (hg : w.grownBy w' row) (h : w.cell? ⟨b, o, none⟩ = some v) (hs : ∀ s, row = some s → b ≠ s) : w'.cell? ⟨b, o, none⟩ = some v := hg.cell h (fun e => hs _ e.symm rfl)
theorem Under.row {T : Nat} {row : Option Nat} {w w' : World} {a : Option Addr} {n : Nat} {X Y : Nat → Int} (h : Under T w a n X Y) (hg : w.grownBy w' row) (hs : ∀ s, row = some s → T ≤ s) : Under T w' a n X Y := by
  rcases h with h | ⟨b, off, e, hl, hp⟩
  · exact .inl h
  · exact .inr ⟨b, off, e, hl, fun i hi => ⟨ro_cell hg (hp i hi).1 (fun s e => by have := hs s e; omega), ro_cell hg (hp i hi).2 (fun s e => by have := hs s e; omega)⟩⟩
theorem below_row {B : Nat} {row : Option Nat} {a b : World} (h : a.grownBy b row) (hs : ∀ s, row = some s → B ≤ s) (hl : B ≤ a.heap.size) : Below B a b :=
  ⟨h.os, h.tape, h.output, h.size, fun k hk => h.block k (by omega) (fun e => by have := hs k e.symm; omega)⟩
theorem Own.grown {w w' : World} {base s : Nat} {v : Value} {n : Nat} {X Y : Nat → Int} (h : Own w base v n X Y) (hg : w.grownBy w' (some s)) (hs : s < base ∨ w.heap.size ≤ s) : Own w' base v n X Y := by
  obtain ⟨a, cap, hv, hc, h0 | ⟨b, ha, hbb, hl, hp, ht⟩⟩ := h
  · exact ⟨a, cap, hv, hc, .inl h0⟩
  · refine ⟨a, cap, hv, hc, .inr ⟨b, ha, hbb, Nat.lt_of_lt_of_le hl hg.size, hp.grown hg (by omega), fun o ho => ?_⟩⟩
    obtain ⟨⟨u, hu⟩, hf⟩ := ht o ho
    have hne : some b ≠ some s := fun e => by injection e with e; omega
    exact ⟨⟨u, hg.cell hu hne⟩, (World.frozen?_of_block (a := ⟨b, o, none⟩) (hg.block b hl hne)).trans hf⟩
end Go.Proofs.YtnlmndlchobfeaaGreat
/- Whether a number is within bounds, whether a point is in the world. -/

namespace Go.Proofs.YtnlmndlchobfeaaGreat
open Go.RowKit
set_option linter.unusedSimpArgs false
set_option linter.unusedVariables false

theorem isWithin_any (v lo hi : Int) (w : World) : Calls Tryz.prog 58 #[.int .i64 v, .int .i64 lo, .int .i64 hi] w fun e w' => e = .returned (.bool (inB v lo hi)) ∧ w' = w := by
  unfold inB
  go_enter Tryz.func58, Tryz.ntmps58
  by_cases h1 : lo ≤ v
  · go_wp2
    all_goals (go_ret; exact ⟨ret_bool (by simp [h1]), rfl⟩)
  · have h2 : decide (lo ≤ v) = false := by simpa using h1
    go_wp2
    all_goals (go_ret; exact ⟨ret_bool (by simp [h1]), rfl⟩)

/-- A point that a feature may have. -/
def inW (x y : Int) : Bool := inB x 0 1024 && inB y 0 1024
theorem isInWorld_any (x y : Int) (w : World) : Calls Tryz.prog 67 #[.agg #[.int .i64 x, .int .i64 y]] w fun e w' => e = .returned (.bool (inW x y)) ∧ Below w.heap.size w w' := by
  unfold inW
  cases h1 : inB x 0 1024 <;> cases h2 : inB y 0 1024
  all_goals
    go_enter Tryz.func67, Tryz.ntmps67
    go_wp2_with (go_at_call 58; refine (isWithin_any _ _ _ _).mono ?_; rintro e w' ⟨rfl, rfl⟩)
    all_goals (go_ret; exact ⟨ret_bool (by simp [h1, h2]), by (repeat (first | exact Below.refl _ _ | assumption | refine Below.drew ?_ | refine bl_alloc ?_ _ | refine bl_then ?_ (by assumption) | refine Below.setCell ?_ (by first | omega | (simp; done) | (simp; omega)) _ | refine bl_store ?_ ?_ _ _))⟩)
end Go.Proofs.YtnlmndlchobfeaaGreat
/- What the smallest functions of features answer. -/

namespace Go.Proofs.YtnlmndlchobfeaaGreat
open Go.RowKit
set_option linter.unusedSimpArgs false
set_option linter.unusedVariables false

/-- A letter a to z. -/
def letB (c : Int) : Bool := decide (97 ≤ c) && decide (c ≤ 122)
theorem isLetter_any (c : Int) (w : World) : Calls Tryz.prog 85 #[.int .u8 c] w fun e w' => e = .returned (.bool (letB c)) ∧ w' = w := by
  unfold letB
  go_enter Tryz.func85, Tryz.ntmps85
  by_cases h1 : 97 ≤ c
  · go_wp2
    all_goals (go_ret; exact ⟨ret_bool (by simp [h1]), rfl⟩)
  · have h2 : decide (97 ≤ c) = false := by simpa using h1
    go_wp2
    all_goals (go_ret; exact ⟨ret_bool (by simp [h1]), rfl⟩)

/-- The points that a kind may have. -/
def sizeB (ki : Int) (n : Int) : Bool := if ki = 1 then decide (n = 1) else if ki = 2 then inB n 2 12 else inB n 3 12
theorem l2Size_any (ki n : Int) (w : World) : Calls Tryz.prog 54 #[.int .i64 ki, .int .i64 n] w fun e w' => e = .returned (.bool (sizeB ki n)) ∧ w' = w := by
  unfold sizeB
  by_cases h1 : ki = 1
  · subst h1
    go_enter Tryz.func54, Tryz.ntmps54
    go_wp2
    go_ret
    exact ⟨ret_bool rfl, rfl⟩
  · by_cases h2 : ki = 2
    · subst h2
      go_enter Tryz.func54, Tryz.ntmps54
      go_wp2_with (go_at_call 43; refine (l1In_any _ _ _ _).mono ?_; rintro e w' ⟨rfl, rfl⟩)
      go_ret
      exact ⟨ret_bool (by simp), rfl⟩
    · have k1 : (ki == 1) = false := by simpa using h1
      have k2 : (ki == 2) = false := by simpa using h2
      go_enter Tryz.func54, Tryz.ntmps54
      go_wp2_with (go_at_call 43; refine (l1In_any _ _ _ _).mono ?_; rintro e w' ⟨rfl, rfl⟩)
      go_ret
      exact ⟨ret_bool (by simp [h1, h2]), rfl⟩
end Go.Proofs.YtnlmndlchobfeaaGreat
