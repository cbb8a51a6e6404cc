/- Several texts in one. -/
import Derived.Test.YtijegoheilmmpaaVSorts6
import Derived.Test.YtijegoheilmmpaaVSorts8
import Derived.Deep.DeepMust
import Derived.Test.YtijegoheilmmpaaVSorts7

/- Rows of drawn points. -/

namespace Go.Proofs.Ytijegoheilmmpaa
open Go.RowKit
set_option linter.unusedSimpArgs false
set_option linter.unusedVariables false

/-- A row of numbers of which we own the block holds points. -/
theorem ring_of {w : World} {base : Nat} {e : TypeId} {v : Value} {k : Nat} {xs : List Value} (h : w.ownsRow base e 2 v k xs) (hn : Nums xs) (hne : v ≠ .slice none 0 0) :
    ∃ (b cp : Nat) (X Y : Nat → Int), v = .slice (some ⟨b, 0, none⟩) k cp ∧ base ≤ b ∧ b < w.heap.size ∧ k ≤ cp ∧ PtsAt w b 0 k X Y := by
  obtain ⟨h1, h2 | ⟨g, cp, cur, rfl, hg, hh, hkc, hcm, hcs, htk⟩⟩ := h
  · exact absurd h2.1 hne
  · have hgl : g < w.heap.size := by
      rcases Nat.lt_or_ge g w.heap.size with h' | h'
      · exact h'
      · rw [Array.getElem?_eq_none h'] at hh; cases hh
    have hx : ∀ j, j < k * 2 → ∃ z : Int, w.cell? ⟨g, j, none⟩ = some (.int .i64 z) := fun j hj => by
      have hc := World.ownsRow.cellAt (w := w) (base := base) (e := e) (size := 2) (g := g) (cap := cp) (n := k) (xs := xs) ⟨h1, .inr ⟨g, cp, cur, rfl, hg, hh, hkc, hcm, hcs, htk⟩⟩ j hj
      have hjl : j < xs.length := by omega
      obtain ⟨z, hz⟩ := hn (xs[j]) (List.getElem_mem hjl)
      refine ⟨z, ?_⟩
      rw [hc]
      simp [hjl, hz]
    refine ⟨g, cp, fun i => if h : i < k then (hx (i * 2) (by omega)).choose else 0, fun i => if h : i < k then (hx (i * 2 + 1) (by omega)).choose else 0, rfl, hg, hgl, hkc, fun i hi => ?_⟩
    simp only [Nat.zero_add, hi, dite_true]
    exact ⟨(hx (i * 2) (by omega)).choose_spec, (hx (i * 2 + 1) (by omega)).choose_spec⟩

/-- A slice of points behind what was there. -/
def Ring (w w' : World) (v : Value) : Prop := ∃ (b k cp : Nat) (X Y : Nat → Int), v = .slice (some ⟨b, 0, none⟩) k cp ∧ w.heap.size ≤ b ∧ b < w'.heap.size ∧ k ≤ 41 ∧ k ≤ cp ∧ PtsAt w' b 0 k X Y

theorem PtsAt.set {w : World} {b off n r o : Nat} {X Y : Nat → Int} {v : Value} (h : PtsAt w b off n X Y) (hr : r ≠ b) : PtsAt (w.setCell ⟨r, o, none⟩ v) b off n X Y := fun i hi =>
  ⟨by rw [World.cell?_setCell_other]; exact (h i hi).1; intro e; injection e with e; omega, by rw [World.cell?_setCell_other]; exact (h i hi).2; intro e; injection e with e; omega⟩
theorem ring_fin {w wz : World} {base r k : Nat} {e : TypeId} {v u0 u1 : Value} {xs : List Value} (hO : wz.ownsRow base e 2 v k xs) (hN : Nums xs) (hE : v ≠ .slice none 0 0) (hk : k ≤ 41) (hr : r < base) (hw : w.heap.size ≤ base) :
    Ring w ((wz.setCell ⟨r, 0, none⟩ u0).setCell ⟨r, 1, none⟩ u1) v := by
  obtain ⟨b, cp, X, Y, hv, h1, h2, h3, h4⟩ := ring_of hO hN hE
  refine ⟨b, k, cp, X, Y, hv, by omega, ?_, hk, h3, (h4.set (by omega)).set (by omega)⟩
  have := (((Below.refl r wz).setCell (p := ⟨r, 0, none⟩) (Nat.le_refl _) u0).setCell (p := ⟨r, 1, none⟩) (Nat.le_refl _) u1).size
  omega
theorem There.belowB {W W' : World} {r n B : Nat} (h : There W r n) (hb : Below B W W') (hr : r < B) : There W' r n := fun o ho => by
  obtain ⟨u, hu⟩ := (h o ho).1
  exact ⟨⟨u, (hb.cell (p := ⟨r, o, none⟩) hr).trans hu⟩, (hb.frozen (p := ⟨r, o, none⟩) hr).trans (h o ho).2⟩
/-- The two cells of a point. -/
def Two (w : World) (p : Nat) (x y : Int) : Prop := w.cell? ⟨p, 0, none⟩ = some (.int .i64 x) ∧ w.cell? ⟨p, 1, none⟩ = some (.int .i64 y)
theorem Two.keeps {w w' : World} {p s : Nat} {x y : Int} (h : Two w p x y) (hk : Keeps s w w') (hp : p ≠ s) : Two w' p x y :=
  ⟨(hk.cell (p := ⟨p, 0, none⟩) (World.block_lt_of_cell? _ _ h.1) hp).trans h.1, (hk.cell (p := ⟨p, 1, none⟩) (World.block_lt_of_cell? _ _ h.2) hp).trans h.2⟩
theorem nums_rep : ∀ n : Nat, Nums (List.replicate n (.int .i64 0)) := fun n u hu => ⟨0, (List.mem_replicate.1 hu).2⟩

theorem Ring.below {w w1 w2 : World} {v : Value} (h : Ring w w1 v) (hb : Below w1.heap.size w1 w2) : Ring w w2 v := by
  obtain ⟨b, k, cp, X, Y, hv, h1, h2, h3, h4, h5⟩ := h
  exact ⟨b, k, cp, X, Y, hv, h1, Nat.lt_of_lt_of_le h2 hb.size, h3, h4, h5.below hb h2⟩

end Go.Proofs.Ytijegoheilmmpaa
/- Drawn arguments of SnapPoint and SnapAll: whatever they are, nothing that was there is written. -/

namespace Go.Proofs.Ytijegoheilmmpaa
open Go.RowKit
set_option linter.unusedSimpArgs false
set_option linter.unusedVariables false

set_option maxHeartbeats 1000000 in
theorem l1Pick_new10 (a : Option Addr) (n cap : Nat) (Z : Nat → Int) (s t : Nat) (x0 x1 x2 x3 x4 x5 x6 x7 x8 x9 : Int) (w : World) (T : TypeId) (h : Src a n cap Z s t w) (hcap : n ≤ cap) (ht : t ≤ 900) :
    Calls Try.prog 80 #[.pointer (some ⟨s, 0, none⟩), .slice (some ⟨w.heap.size, 0, none⟩) 10 10] (w.alloc (.cells #[.int .i64 x0, .int .i64 x1, .int .i64 x2, .int .i64 x3, .int .i64 x4, .int .i64 x5, .int .i64 x6, .int .i64 x7, .int .i64 x8, .int .i64 x9] T)) fun e w' => ∃ x : Int, e = .returned (.int .i64 x) ∧ Src a n cap Z s (t + 1) w' ∧ Keeps s w w' := by
  have hsl : s < w.heap.size := World.block_lt_of_cell? _ _ h.code
  have hb : Below w.heap.size w (w.alloc (.cells #[.int .i64 x0, .int .i64 x1, .int .i64 x2, .int .i64 x3, .int .i64 x4, .int .i64 x5, .int .i64 x6, .int .i64 x7, .int .i64 x8, .int .i64 x9] T)) := by (repeat (first | exact Below.refl _ _ | assumption | refine Below.drew ?_ | refine bl_alloc ?_ _ | refine bl_then ?_ (by assumption) | refine Below.setCell ?_ (by first | omega | (simp; done) | (simp; omega)) _ | refine bl_store ?_ ?_ _ _))
  refine (l1Pick_any a n cap Z s t w.heap.size 10 (fun i => if i = 0 then x0 else if i = 1 then x1 else if i = 2 then x2 else if i = 3 then x3 else if i = 4 then x4 else if i = 5 then x5 else if i = 6 then x6 else if i = 7 then x7 else if i = 8 then x8 else x9) _ (h.below hb) hcap ht (by omega) (by omega) (by omega) (fun i hi => ?_)).mono ?_
  · have hc : i = 0 ∨ i = 1 ∨ i = 2 ∨ i = 3 ∨ i = 4 ∨ i = 5 ∨ i = 6 ∨ i = 7 ∨ i = 8 ∨ i = 9 := by omega
    rcases hc with rfl | rfl | rfl | rfl | rfl | rfl | rfl | rfl | rfl | rfl <;> simp [go_sem]
  · rintro e w' ⟨x, rfl, hS, hK⟩
    exact ⟨x, rfl, hS, (Keeps.of_below hb).trans hK⟩

end Go.Proofs.Ytijegoheilmmpaa
/- What the small functions of points answer, and that they write nothing that was there. -/

namespace Go.Proofs.Ytijegoheilmmpaa
open Go.RowKit
set_option linter.unusedSimpArgs false
set_option linter.unusedVariables false

/-- Both within 5120, either way. -/
def Df (x y : Int) : Prop := (-5120 ≤ x ∧ x ≤ 5120) ∧ (-5120 ≤ y ∧ y ≤ 5120)

/-- Whether a is above b neither in X nor in Y. -/
def upB (ax ay bx by' : Int) : Bool := decide (ax ≤ bx) && decide (ay ≤ by')
theorem isUpTo_any (ax ay bx by' : Int) (w : World) :
    Calls Try.prog 60 #[.agg #[.int .i64 ax, .int .i64 ay], .agg #[.int .i64 bx, .int .i64 by']] w fun e w' => e = .returned (.bool (upB ax ay bx by')) ∧ Below w.heap.size w w' := by
  unfold upB
  by_cases h1 : ax ≤ bx
  · go_enter Try.func60, Try.ntmps60
    go_wp2
    all_goals (go_ret; exact ⟨ret_bool (by simp [h1]), by (repeat (first | exact Below.refl _ _ | assumption | refine Below.drew ?_ | refine bl_alloc ?_ _ | refine bl_then ?_ (by assumption) | refine Below.setCell ?_ (by first | omega | (simp; done) | (simp; omega)) _ | refine bl_store ?_ ?_ _ _))⟩)
  · have h2 : decide (ax ≤ bx) = false := by simpa using h1
    go_enter Try.func60, Try.ntmps60
    go_wp2
    all_goals (go_ret; exact ⟨ret_bool (by simp [h1]), by (repeat (first | exact Below.refl _ _ | assumption | refine Below.drew ?_ | refine bl_alloc ?_ _ | refine bl_then ?_ (by assumption) | refine Below.setCell ?_ (by first | omega | (simp; done) | (simp; omega)) _ | refine bl_store ?_ ?_ _ _))⟩)

end Go.Proofs.Ytijegoheilmmpaa
