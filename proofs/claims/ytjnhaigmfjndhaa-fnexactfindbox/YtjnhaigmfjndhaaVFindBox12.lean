/- Lists of points in memory of their own: they are compared, marked, and the marks are found again. -/
import Derived.Test.YtjnhaigmfjndhaaVFindBox6
import Derived.Laws.OwnMore
namespace Go.Proofs.Ytjnhaigmfjndhaa
open Go.RowKit
set_option linter.unusedSimpArgs false
set_option linter.unusedVariables false

/-- The cells of a list. -/
def cellsL (l : List (Int × Int)) : List Value := l.flatMap fun p => [.int .i64 p.1, .int .i64 p.2]
def px (l : List (Int × Int)) (i : Nat) : Int := (l.getD i (0, 0)).1
def py (l : List (Int × Int)) (i : Nat) : Int := (l.getD i (0, 0)).2
theorem cellsL_nil : cellsL [] = [] := rfl
theorem cellsL_cons (p : Int × Int) (l : List (Int × Int)) : cellsL (p :: l) = .int .i64 p.1 :: .int .i64 p.2 :: cellsL l := by simp [cellsL]
theorem cellsL_add (l : List (Int × Int)) (x y : Int) : cellsL (l ++ [(x, y)]) = cellsL l ++ [.int .i64 x, .int .i64 y] := by simp [cellsL]
theorem cellsL_len : ∀ l : List (Int × Int), (cellsL l).length = l.length * 2
  | [] => rfl
  | p :: l => by rw [cellsL_cons]; simp [cellsL_len l]; omega
theorem cellsL_at : ∀ (l : List (Int × Int)) (i : Nat), i < l.length → (cellsL l)[i * 2]? = some (.int .i64 (px l i)) ∧ (cellsL l)[i * 2 + 1]? = some (.int .i64 (py l i))
  | [], i, h => absurd h (by simp)
  | p :: l, 0, h => by rw [cellsL_cons]; simp [px, py]
  | p :: l, i + 1, h => by
    obtain ⟨h1, h2⟩ := cellsL_at l i (by simpa using h)
    rw [cellsL_cons]
    have e1 : (i + 1) * 2 = i * 2 + 1 + 1 := by omega
    rw [e1]
    simp only [List.getElem?_cons_succ]
    exact ⟨h1, h2⟩

/-- v is a list of n points in a block from base on. -/
def Own (w : World) (base : Nat) (v : Value) (n : Nat) (X Y : Nat → Int) : Prop :=
  ∃ a cap, v = .slice a n cap ∧ n ≤ cap ∧ (n = 0 ∨ ∃ b, a = some ⟨b, 0, none⟩ ∧ base ≤ b ∧ b < w.heap.size ∧ PtsAt w b 0 n X Y ∧ There w b (n * 2))
/-- v is a row of its own with the points of l. -/
def Row (base : Nat) (w : World) (v : Value) (l : List (Int × Int)) : Prop := w.ownsRow base 34 2 v l.length (cellsL l)
theorem Row.own {base : Nat} {w : World} {v : Value} {l : List (Int × Int)} (h : Row base w v l) : Own w base v l.length (px l) (py l) := by
  obtain ⟨h1, h2 | ⟨g, cp, cur, hv, hg, hh, hkc, hcm, hcs, htk⟩⟩ := h
  · obtain ⟨rfl, h0⟩ := h2
    rw [h0]
    exact ⟨none, 0, rfl, Nat.le_refl _, .inl rfl⟩
  · have hgl : g < w.heap.size := by
      rcases Nat.lt_or_ge g w.heap.size with h' | h'
      · exact h'
      · rw [Array.getElem?_eq_none h'] at hh; cases hh
    have hrow : w.ownsRow base 34 2 (.slice (some ⟨g, 0, none⟩) l.length cp) l.length (cellsL l) := ⟨h1, .inr ⟨g, cp, cur, rfl, hg, hh, hkc, hcm, hcs, htk⟩⟩
    refine ⟨some ⟨g, 0, none⟩, cp, hv, hkc, .inr ⟨g, rfl, hg, hgl, fun i hi => ?_, fun o ho => ⟨?_, hrow.frozenAt o⟩⟩⟩
    · obtain ⟨e1, e2⟩ := cellsL_at l i hi
      simp only [Nat.zero_add]
      exact ⟨(hrow.cellAt _ (by omega)).trans e1, (hrow.cellAt _ (by omega)).trans e2⟩
    · rw [hrow.cellAt o ho]
      have hlt : o < (cellsL l).length := by rw [cellsL_len]; exact ho
      exact ⟨(cellsL l)[o], List.getElem?_eq_getElem hlt⟩
theorem Row.below {base : Nat} {w w' : World} {v : Value} {l : List (Int × Int)} (h : Row base w v l) (hb : Below w.heap.size w w') : Row base w' v l := by
  obtain ⟨h1, h2 | ⟨g, cp, cur, hv, hg, hh, hr⟩⟩ := h
  · exact ⟨h1, .inl h2⟩
  · refine ⟨h1, .inr ⟨g, cp, cur, hv, hg, ?_, hr⟩⟩
    have hgl : g < w.heap.size := by
      rcases Nat.lt_or_ge g w.heap.size with h' | h'
      · exact h'
      · rw [Array.getElem?_eq_none h'] at hh; cases hh
    rw [hb.block g hgl]
    exact hh
theorem Own.pts {w : World} {base : Nat} {v : Value} {n : Nat} {X Y : Nat → Int} (h : Own w base v n X Y) : ∃ a cap, v = .slice a n cap ∧ n ≤ cap ∧ IsPts w a n X Y := by
  obtain ⟨a, cap, hv, hc, h0 | ⟨b, ha, hb, hl, hp, ht⟩⟩ := h
  · exact ⟨a, cap, hv, hc, .inl h0⟩
  · exact ⟨a, cap, hv, hc, .inr ⟨b, 0, ha, hl, hp⟩⟩
theorem PtsAt.grown {w w' : World} {b off n s : Nat} {X Y : Nat → Int} (h : PtsAt w b off n X Y) (hg : w.grownBy w' (some s)) (hs : b ≠ s) : PtsAt w' b off n X Y := fun i hi =>
  ⟨hg.cell (h i hi).1 (fun e => hs (by injection e)), hg.cell (h i hi).2 (fun e => hs (by injection e))⟩
theorem grown_refl (w : World) (r : Option Nat) : w.grownBy w r := ⟨rfl, rfl, rfl, Nat.le_refl _, fun _ _ _ => rfl⟩
theorem grown_trans {a b c : World} {r : Option Nat} (h : a.grownBy b r) (k : b.grownBy c r) : a.grownBy c r :=
  ⟨k.os.trans h.os, k.tape.trans h.tape, k.output.trans h.output, Nat.le_trans h.size k.size, fun j hj hs => (k.block j (Nat.lt_of_lt_of_le hj h.size) hs).trans (h.block j hj hs)⟩
theorem grown_below {a b : World} {r : Option Nat} (h : Below a.heap.size a b) : a.grownBy b r := ⟨h.os, h.tape, h.output, h.size, fun j hj _ => h.block j hj⟩
theorem grown_set {a b : World} {s : Nat} (h : a.grownBy b (some s)) (o : Nat) (v : Value) : a.grownBy (b.setCell ⟨s, o, none⟩ v) (some s) :=
  grown_trans h ⟨rfl, rfl, rfl, by simp [World.setCell], fun j _ hs => Below.heap_setCell _ _ _ _ (fun e => hs (by simp [e]))⟩
theorem below_grown {B s : Nat} {a b : World} (h : a.grownBy b (some s)) (hB : B ≤ s) (hl : B ≤ a.heap.size) : Below B a b :=
  ⟨h.os, h.tape, h.output, h.size, fun k hk => h.block k (by omega) (fun e => by injection e with e; omega)⟩

/-- The marks. -/
def mkX (k i : Nat) : Int := ((k + 2 * i : Nat) : Int)
def mkY (k i : Nat) : Int := ((k + 2 * i + 1 : Nat) : Int)

def ptsOf (X Y : Nat → Int) (l : List Nat) : List (Int × Int) := l.map fun i => (X i, Y i)
theorem heap_of_row {w : World} {base size n : Nat} {e : TypeId} {v : Value} {xs : List Value} (h : w.ownsRow base e size v n xs) : ∀ g, v.ownBlock = some g → ∃ cur, w.heap[g]? = some (.cells cur e (0, 0)) := fun g hg => by
  obtain ⟨_, h2 | ⟨g', cp, cur, rfl, _, hh, _⟩⟩ := h
  · rw [h2.1] at hg; cases hg
  · simp [Value.ownBlock] at hg
    subst hg
    exact ⟨cur, hh⟩
theorem There.belowB' {W W' : World} {r n B : Nat} (h : There W r n) (hb : Below B W W') (hr : r < B) : There W' r n := fun o ho => by
  obtain ⟨u, hu⟩ := (h o ho).1
  exact ⟨⟨u, (hb.cell (p := ⟨r, o, none⟩) hr).trans hu⟩, (hb.frozen (p := ⟨r, o, none⟩) hr).trans (h o ho).2⟩
theorem lt_of_heap {w : World} {k : Nat} {o : Obj} (h : w.heap[k]? = some o) : k < w.heap.size := by
  rcases Nat.lt_or_ge k w.heap.size with h' | h'
  · exact h'
  · rw [Array.getElem?_eq_none h'] at h; cases h
end Go.Proofs.Ytjnhaigmfjndhaa
