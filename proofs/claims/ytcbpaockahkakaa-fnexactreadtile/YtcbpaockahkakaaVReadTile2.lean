/- Several texts in one. -/
import Derived.Test.YtcbpaockahkakaaVReadTile1
import Derived.Test.YtcbpaockahkakaaRows
import Derived.WalkKit
import Derived.WalkSpells
import Derived.WalkLawsBesides
import Derived.Outline

/- Answers with a code and bytes in memory of their own: they are compared, marked, and the marks are found again. -/

namespace Go.Proofs.Ytcbpaockahkakaa
open Go.RowKit
set_option linter.unusedSimpArgs false
set_option linter.unusedVariables false
set_option maxRecDepth 100000

/-- v is a list of n bytes in a block from base on. -/
def OwnB (w : World) (base : Nat) (v : Value) (n : Nat) (Z : Nat → Int) : Prop :=
  ∃ a cap, v = .slice a n cap ∧ n ≤ cap ∧ (n = 0 ∨ ∃ b, a = some ⟨b, 0, none⟩ ∧ base ≤ b ∧ b < w.heap.size ∧ BsAt w b 0 n Z ∧ There w b n)
/-- The cells of bytes. -/
def cellsB (l : List Int) : List Value := l.map (.int .u8 ·)
def zz (l : List Int) (i : Nat) : Int := l.getD i 0
/-- v is a row of its own with the bytes l. -/
def RowB (base : Nat) (w : World) (v : Value) (l : List Int) : Prop := w.ownsRow base 5 1 v l.length (cellsB l)
theorem cellsB_len (l : List Int) : (cellsB l).length = l.length := by simp [cellsB]
theorem cellsB_add (l m : List Int) : cellsB (l ++ m) = cellsB l ++ cellsB m := by simp [cellsB]
theorem cellsB_at (l : List Int) (i : Nat) (h : i < l.length) : (cellsB l)[i]? = some (.int .u8 (zz l i)) := by simp [cellsB, zz, h]
theorem RowB.own {base : Nat} {w : World} {v : Value} {l : List Int} (h : RowB base w v l) : OwnB w base v l.length (zz l) := by
  obtain ⟨h1, h2 | ⟨g, cp, cur, hv, hg, hh, hkc, hcm, hcs, htk⟩⟩ := h
  · obtain ⟨rfl, h0⟩ := h2
    rw [h0]
    exact ⟨none, 0, rfl, Nat.le_refl _, .inl rfl⟩
  · have hgl : g < w.heap.size := by
      rcases Nat.lt_or_ge g w.heap.size with h' | h'
      · exact h'
      · rw [Array.getElem?_eq_none h'] at hh; cases hh
    have hrow : w.ownsRow base 5 1 (.slice (some ⟨g, 0, none⟩) l.length cp) l.length (cellsB l) := ⟨h1, .inr ⟨g, cp, cur, rfl, hg, hh, hkc, hcm, hcs, htk⟩⟩
    refine ⟨some ⟨g, 0, none⟩, cp, hv, hkc, .inr ⟨g, rfl, hg, hgl, fun i hi => ?_, fun o ho => ⟨?_, hrow.frozenAt o⟩⟩⟩
    · simp only [Nat.zero_add]
      exact (hrow.cellAt _ (by omega)).trans (cellsB_at l i hi)
    · rw [hrow.cellAt o (by omega)]
      exact ⟨_, cellsB_at l o ho⟩
theorem RowB.below {base : Nat} {w w' : World} {v : Value} {l : List Int} (h : RowB base w v l) (hb : Below w.heap.size w w') : RowB base w' v l := by
  obtain ⟨h1, h2 | ⟨g, cp, cur, hv, hg, hh, hr⟩⟩ := h
  · exact ⟨h1, .inl h2⟩
  · refine ⟨h1, .inr ⟨g, cp, cur, hv, hg, ?_, hr⟩⟩
    have hgl : g < w.heap.size := by
      rcases Nat.lt_or_ge g w.heap.size with h' | h'
      · exact h'
      · rw [Array.getElem?_eq_none h'] at hh; cases hh
    rw [hb.block g hgl]
    exact hh
theorem RowB.other {base r o : Nat} {w : World} {v u : Value} {l : List Int} (h : RowB base w v l) (hr : r < base) : RowB base (w.setCell ⟨r, o, none⟩ u) v l := by
  obtain ⟨h1, h2 | ⟨g, cp, cur, hv, hg, hh, hr'⟩⟩ := h
  · exact ⟨h1, .inl h2⟩
  · exact ⟨h1, .inr ⟨g, cp, cur, hv, hg, by rw [Below.heap_setCell _ _ _ _ (by simp; omega)]; exact hh, hr'⟩⟩
theorem RowB.wide {base B : Nat} {w : World} {v : Value} {l : List Int} (h : RowB base w v l) (hB : B ≤ base) : RowB B w v l := by
  obtain ⟨h1, h2 | ⟨g, cp, cur, hv, hg, hr⟩⟩ := h
  · exact ⟨h1, .inl h2⟩
  · exact ⟨h1, .inr ⟨g, cp, cur, hv, by omega, hr⟩⟩
theorem RowB.no (base : Nat) (w : World) : RowB base w (.slice none 0 0) [] := World.ownsRow_nil _ _ _ _
/-- A row that is not empty. -/
theorem RowB.at {base : Nat} {w : World} {v : Value} {l : List Int} (h : RowB base w v l) (hne : 0 < l.length) :
    ∃ g cap, v = .slice (some ⟨g, 0, none⟩) l.length cap ∧ base ≤ g ∧ g < w.heap.size ∧ l.length ≤ cap ∧ BsAt w g 0 l.length (zz l) := by
  obtain ⟨a, cap, hv, hc, h0 | ⟨b, rfl, hb, hl, hp, ht⟩⟩ := h.own
  · omega
  · exact ⟨b, cap, hv, hb, hl, hc, hp⟩
theorem BsAt.news {w : World} {b off : Nat} {l : List Int} (h : BsAt w b off l.length (zz l)) : ∀ j u, (cellsB l)[j]? = some u → w.cell? ((⟨b, off, none⟩ : Addr).add j) = some u := fun j u hj => by
  have hl : j < l.length := by
    rcases Nat.lt_or_ge j l.length with h' | h'
    · exact h'
    · rw [List.getElem?_eq_none (by rw [cellsB_len]; exact h')] at hj; cases hj
  rw [cellsB_at l j hl] at hj
  injection hj with hj
  subst hj
  have e : (⟨b, off, none⟩ : Addr).add j = ⟨b, off + j, none⟩ := by
    unfold Addr.add
    by_cases h : j = 0 <;> simp [h]
  rw [e]
  exact h j hl
theorem cellsB_one (l : List Int) : ∀ u ∈ cellsB l, u.oneCell' = true := fun u hu => by
  simp [cellsB] at hu
  obtain ⟨z, _, rfl⟩ := hu
  rfl

theorem OwnB.below {w w' : World} {base : Nat} {v : Value} {n : Nat} {Z : Nat → Int} (h : OwnB w base v n Z) (hb : Below w.heap.size w w') : OwnB w' base v n Z := by
  obtain ⟨a, cap, hv, hc, h0 | ⟨b, ha, hbb, hl, hp, ht⟩⟩ := h
  · exact ⟨a, cap, hv, hc, .inl h0⟩
  · exact ⟨a, cap, hv, hc, .inr ⟨b, ha, hbb, Nat.lt_of_lt_of_le hl hb.size, hp.below hb hl, ht.below hb⟩⟩
theorem OwnB.pts {w : World} {base : Nat} {v : Value} {n : Nat} {Z : Nat → Int} (h : OwnB w base v n Z) : ∃ a cap, v = .slice a n cap ∧ n ≤ cap ∧ IsBytes w a n Z := by
  obtain ⟨a, cap, hv, hc, h0 | ⟨b, ha, hb, hl, hp, ht⟩⟩ := h
  · exact ⟨a, cap, hv, hc, .inl h0⟩
  · exact ⟨a, cap, hv, hc, .inr ⟨b, 0, ha, hl, hp⟩⟩
theorem OwnB.is {w : World} {base : Nat} {a : Option Addr} {n cap : Nat} {Z : Nat → Int} (h : OwnB w base (.slice a n cap) n Z) : IsBytes w a n Z := by
  obtain ⟨a', cap', hv, hc, hi⟩ := h.pts
  injection hv with h1 h2 h3
  subst h1
  exact hi
/-- Bytes that lie below block T. -/
def UnderB (T : Nat) (w : World) (a : Option Addr) (n : Nat) (Z : Nat → Int) : Prop := n = 0 ∨ ∃ b off, a = some ⟨b, off, none⟩ ∧ b < T ∧ BsAt w b off n Z
theorem UnderB.is {T : Nat} {w : World} {a : Option Addr} {n : Nat} {Z : Nat → Int} (h : UnderB T w a n Z) (hT : T ≤ w.heap.size) : IsBytes w a n Z := by
  rcases h with h | ⟨b, off, e, hl, hp⟩
  · exact .inl h
  · exact .inr ⟨b, off, e, by omega, hp⟩
theorem UnderB.below {T B : Nat} {w w' : World} {a : Option Addr} {n : Nat} {Z : Nat → Int} (h : UnderB T w a n Z) (hb : Below B w w') (hB : T ≤ B) : UnderB T w' a n Z := by
  rcases h with h | ⟨b, off, e, hl, hp⟩
  · exact .inl h
  · exact .inr ⟨b, off, e, hl, hp.below hb (by omega)⟩
theorem UnderB.row {T : Nat} {row : Option Nat} {w w' : World} {a : Option Addr} {n : Nat} {Z : Nat → Int} (h : UnderB T w a n Z) (hg : w.grownBy w' row) (hs : ∀ s, row = some s → T ≤ s) : UnderB T w' a n Z := by
  rcases h with h | ⟨b, off, e, hl, hp⟩
  · exact .inl h
  · exact .inr ⟨b, off, e, hl, fun i hi => hg.cell (hp i hi) (fun e => by have := hs b e.symm; omega)⟩
theorem below_rowB {B : Nat} {row : Option Nat} {a b : World} (h : a.grownBy b row) (hs : ∀ s, row = some s → B ≤ s) (hl : B ≤ a.heap.size) : Below B a b :=
  ⟨h.os, h.tape, h.output, h.size, fun k hk => h.block k (by omega) (fun e => by have := hs k e.symm; omega)⟩
theorem grown_transB {a b c : World} {r : Option Nat} (h : a.grownBy b r) (k : b.grownBy c r) : a.grownBy c r :=
  ⟨k.os.trans h.os, k.tape.trans h.tape, k.output.trans h.output, Nat.le_trans h.size k.size, fun j hj hs => (k.block j (Nat.lt_of_lt_of_le hj h.size) hs).trans (h.block j hj hs)⟩
theorem grown_belowB {a b : World} {r : Option Nat} (h : Below a.heap.size a b) : a.grownBy b r := ⟨h.os, h.tape, h.output, h.size, fun j hj _ => h.block j hj⟩
theorem bl_cellB {w w' : World} {p : Addr} {v : Value} (hb : Below w.heap.size w w') (h : w.cell? p = some v) : w'.cell? p = some v := (hb.cell (World.block_lt_of_cell? _ _ h)).trans h
theorem ro_cellB {w w' : World} {b o : Nat} {row : Option Nat} {v : Value} (hg : w.grownBy w' row) (h : w.cell? ⟨b, o, none⟩ = some v) (hs : ∀ s, row = some s → b ≠ s) : w'.cell? ⟨b, o, none⟩ = some v := hg.cell h (fun e => hs _ e.symm rfl)

end Go.Proofs.Ytcbpaockahkakaa
/- What the smallest functions of points answer, and that they write nothing that was there. -/

namespace Go.Proofs.Ytcbpaockahkakaa
open Go.RowKit
set_option linter.unusedSimpArgs false
set_option linter.unusedVariables false

theorem l1In_any (v lo hi : Int) (w : World) : Calls Try.prog 82 #[.int .i64 v, .int .i64 lo, .int .i64 hi] w fun e w' => e = .returned (.bool (inB v lo hi)) ∧ w' = w := by
  unfold inB
  go_enter Try.func82, Try.ntmps82
  by_cases h1 : lo ≤ v
  · go_wp2
    all_goals (go_ret; exact ⟨ret_bool (by simp [h1]), rfl⟩)
  · have h2 : decide (lo ≤ v) = false := by simpa using h1
    go_wp2
    all_goals (go_ret; exact ⟨ret_bool (by simp [h1]), rfl⟩)

end Go.Proofs.Ytcbpaockahkakaa
/- Whether a number is within bounds, whether a point is in the world. -/

namespace Go.Proofs.Ytcbpaockahkakaa
open Go.RowKit
set_option linter.unusedSimpArgs false
set_option linter.unusedVariables false

theorem isWithin_any (v lo hi : Int) (w : World) : Calls Try.prog 84 #[.int .i64 v, .int .i64 lo, .int .i64 hi] w fun e w' => e = .returned (.bool (inB v lo hi)) ∧ w' = w := by
  unfold inB
  go_enter Try.func84, Try.ntmps84
  by_cases h1 : lo ≤ v
  · go_wp2
    all_goals (go_ret; exact ⟨ret_bool (by simp [h1]), rfl⟩)
  · have h2 : decide (lo ≤ v) = false := by simpa using h1
    go_wp2
    all_goals (go_ret; exact ⟨ret_bool (by simp [h1]), rfl⟩)

/-- A point that a feature may have. -/
def inW (x y : Int) : Bool := inB x 0 1024 && inB y 0 1024
theorem isInWorld_any (x y : Int) (w : World) : Calls Try.prog 95 #[.agg #[.int .i64 x, .int .i64 y]] w fun e w' => e = .returned (.bool (inW x y)) ∧ Below w.heap.size w w' := by
  unfold inW
  cases h1 : inB x 0 1024 <;> cases h2 : inB y 0 1024
  all_goals
    go_enter Try.func95, Try.ntmps95
    go_wp2_with (go_at_call 84; refine (isWithin_any _ _ _ _).mono ?_; rintro e w' ⟨rfl, rfl⟩)
    all_goals (go_ret; exact ⟨ret_bool (by simp [h1, h2]), by (repeat (first | exact Below.refl _ _ | assumption | refine Below.drew ?_ | refine bl_alloc ?_ _ | refine bl_then ?_ (by assumption) | refine Below.setCell ?_ (by first | omega | (simp; done) | (simp; omega)) _ | refine bl_store ?_ ?_ _ _))⟩)
end Go.Proofs.Ytcbpaockahkakaa
