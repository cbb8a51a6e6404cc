/- Several texts in one. -/
import Derived.Test.YtfknbijpimpbfaaVOnlies25

/- A camera is copied. -/

namespace Go.Proofs.Ytfknbijpimpbfaa
open Go.RowKit
set_option linter.unusedSimpArgs false
set_option linter.unusedVariables false
set_option maxRecDepth 100000

theorem toCamera_any (z x y wd ht : Int) (w : World) : Calls Try.prog 15 #[camV z x y wd ht] w fun e w' => e = .returned (camV z x y wd ht) ∧ Below w.heap.size w w' := by
  go_enter Try.func15, Try.ntmps15
  go_wp2
  exact bodyPost_ret (v := camV z x y wd ht) (by simp [results, Try.results15, go_sem]) rfl ⟨rfl, by (repeat (first | exact Below.refl _ _ | assumption | refine Below.drew ?_ | refine bl_alloc ?_ _ | refine bl_then ?_ (by assumption) | refine Below.setCell ?_ (by first | omega | (simp; done) | (simp; omega)) _ | refine bl_store ?_ ?_ _ _))⟩
end Go.Proofs.Ytfknbijpimpbfaa
/- Cameras of the program: held in the world, moved, of another size. -/

namespace Go.Proofs.Ytfknbijpimpbfaa
open Go.RowKit
set_option linter.unusedSimpArgs false
set_option linter.unusedVariables false
set_option maxRecDepth 100000

theorem setc5_at {W : World} {r : Nat} {a b c d e : Value} (hT : There W r 5) :
    (((((W.setCell ⟨r, 0, none⟩ a).setCell ⟨r, 1, none⟩ b).setCell ⟨r, 2, none⟩ c).setCell ⟨r, 3, none⟩ d).setCell ⟨r, 4, none⟩ e).cell? ⟨r, 0, none⟩ = some a ∧
    (((((W.setCell ⟨r, 0, none⟩ a).setCell ⟨r, 1, none⟩ b).setCell ⟨r, 2, none⟩ c).setCell ⟨r, 3, none⟩ d).setCell ⟨r, 4, none⟩ e).cell? ⟨r, 1, none⟩ = some b ∧
    (((((W.setCell ⟨r, 0, none⟩ a).setCell ⟨r, 1, none⟩ b).setCell ⟨r, 2, none⟩ c).setCell ⟨r, 3, none⟩ d).setCell ⟨r, 4, none⟩ e).cell? ⟨r, 2, none⟩ = some c ∧
    (((((W.setCell ⟨r, 0, none⟩ a).setCell ⟨r, 1, none⟩ b).setCell ⟨r, 2, none⟩ c).setCell ⟨r, 3, none⟩ d).setCell ⟨r, 4, none⟩ e).cell? ⟨r, 3, none⟩ = some d ∧
    (((((W.setCell ⟨r, 0, none⟩ a).setCell ⟨r, 1, none⟩ b).setCell ⟨r, 2, none⟩ c).setCell ⟨r, 3, none⟩ d).setCell ⟨r, 4, none⟩ e).cell? ⟨r, 4, none⟩ = some e := by
  obtain ⟨x0, h0⟩ := (hT 0 (by omega)).1
  obtain ⟨x1, h1⟩ := (hT 1 (by omega)).1
  obtain ⟨x2, h2⟩ := (hT 2 (by omega)).1
  obtain ⟨x3, h3⟩ := (hT 3 (by omega)).1
  obtain ⟨x4, h4⟩ := (hT 4 (by omega)).1
  have ne : ∀ i j : Nat, i ≠ j → (⟨r, i, none⟩ : Addr) ≠ ⟨r, j, none⟩ := fun i j hij h => hij (by injection h)
  refine ⟨?_, ?_, ?_, ?_, ?_⟩
  · rw [set1_other (ne 4 0 (by omega)), set1_other (ne 3 0 (by omega)), set1_other (ne 2 0 (by omega)), set1_other (ne 1 0 (by omega))]; exact set1_same (by exact h0)
  · rw [set1_other (ne 4 1 (by omega)), set1_other (ne 3 1 (by omega)), set1_other (ne 2 1 (by omega))]; exact set1_same (by rw [set1_other (ne 0 1 (by omega))]; exact h1)
  · rw [set1_other (ne 4 2 (by omega)), set1_other (ne 3 2 (by omega))]; exact set1_same (by rw [set1_other (ne 1 2 (by omega)), set1_other (ne 0 2 (by omega))]; exact h2)
  · rw [set1_other (ne 4 3 (by omega))]; exact set1_same (by rw [set1_other (ne 2 3 (by omega)), set1_other (ne 1 3 (by omega)), set1_other (ne 0 3 (by omega))]; exact h3)
  · exact set1_same (by rw [set1_other (ne 3 4 (by omega)), set1_other (ne 2 4 (by omega)), set1_other (ne 1 4 (by omega)), set1_other (ne 0 4 (by omega))]; exact h4)
theorem setc6_at {W : World} {r : Nat} {a b c d e f : Value} (hT : There W r 6) :
    ((((((W.setCell ⟨r, 0, none⟩ a).setCell ⟨r, 1, none⟩ b).setCell ⟨r, 2, none⟩ c).setCell ⟨r, 3, none⟩ d).setCell ⟨r, 4, none⟩ e).setCell ⟨r, 5, none⟩ f).cell? ⟨r, 0, none⟩ = some a ∧
    ((((((W.setCell ⟨r, 0, none⟩ a).setCell ⟨r, 1, none⟩ b).setCell ⟨r, 2, none⟩ c).setCell ⟨r, 3, none⟩ d).setCell ⟨r, 4, none⟩ e).setCell ⟨r, 5, none⟩ f).cell? ⟨r, 1, none⟩ = some b ∧
    ((((((W.setCell ⟨r, 0, none⟩ a).setCell ⟨r, 1, none⟩ b).setCell ⟨r, 2, none⟩ c).setCell ⟨r, 3, none⟩ d).setCell ⟨r, 4, none⟩ e).setCell ⟨r, 5, none⟩ f).cell? ⟨r, 2, none⟩ = some c ∧
    ((((((W.setCell ⟨r, 0, none⟩ a).setCell ⟨r, 1, none⟩ b).setCell ⟨r, 2, none⟩ c).setCell ⟨r, 3, none⟩ d).setCell ⟨r, 4, none⟩ e).setCell ⟨r, 5, none⟩ f).cell? ⟨r, 3, none⟩ = some d ∧
    ((((((W.setCell ⟨r, 0, none⟩ a).setCell ⟨r, 1, none⟩ b).setCell ⟨r, 2, none⟩ c).setCell ⟨r, 3, none⟩ d).setCell ⟨r, 4, none⟩ e).setCell ⟨r, 5, none⟩ f).cell? ⟨r, 4, none⟩ = some e ∧
    ((((((W.setCell ⟨r, 0, none⟩ a).setCell ⟨r, 1, none⟩ b).setCell ⟨r, 2, none⟩ c).setCell ⟨r, 3, none⟩ d).setCell ⟨r, 4, none⟩ e).setCell ⟨r, 5, none⟩ f).cell? ⟨r, 5, none⟩ = some f := by
  obtain ⟨x0, h0⟩ := (hT 0 (by omega)).1
  obtain ⟨x1, h1⟩ := (hT 1 (by omega)).1
  obtain ⟨x2, h2⟩ := (hT 2 (by omega)).1
  obtain ⟨x3, h3⟩ := (hT 3 (by omega)).1
  obtain ⟨x4, h4⟩ := (hT 4 (by omega)).1
  obtain ⟨x5, h5⟩ := (hT 5 (by omega)).1
  have ne : ∀ i j : Nat, i ≠ j → (⟨r, i, none⟩ : Addr) ≠ ⟨r, j, none⟩ := fun i j hij h => hij (by injection h)
  refine ⟨?_, ?_, ?_, ?_, ?_, ?_⟩
  · rw [set1_other (ne 5 0 (by omega)), set1_other (ne 4 0 (by omega)), set1_other (ne 3 0 (by omega)), set1_other (ne 2 0 (by omega)), set1_other (ne 1 0 (by omega))]; exact set1_same (by exact h0)
  · rw [set1_other (ne 5 1 (by omega)), set1_other (ne 4 1 (by omega)), set1_other (ne 3 1 (by omega)), set1_other (ne 2 1 (by omega))]; exact set1_same (by rw [set1_other (ne 0 1 (by omega))]; exact h1)
  · rw [set1_other (ne 5 2 (by omega)), set1_other (ne 4 2 (by omega)), set1_other (ne 3 2 (by omega))]; exact set1_same (by rw [set1_other (ne 1 2 (by omega)), set1_other (ne 0 2 (by omega))]; exact h2)
  · rw [set1_other (ne 5 3 (by omega)), set1_other (ne 4 3 (by omega))]; exact set1_same (by rw [set1_other (ne 2 3 (by omega)), set1_other (ne 1 3 (by omega)), set1_other (ne 0 3 (by omega))]; exact h3)
  · rw [set1_other (ne 5 4 (by omega))]; exact set1_same (by rw [set1_other (ne 3 4 (by omega)), set1_other (ne 2 4 (by omega)), set1_other (ne 1 4 (by omega)), set1_other (ne 0 4 (by omega))]; exact h4)
  · exact set1_same (by rw [set1_other (ne 4 5 (by omega)), set1_other (ne 3 5 (by omega)), set1_other (ne 2 5 (by omega)), set1_other (ne 1 5 (by omega)), set1_other (ne 0 5 (by omega))]; exact h5)

theorem there5c (V : World) (a b c d e : Value) (t : TypeId) : There (V.alloc (.cells #[a, b, c, d, e] t)) V.heap.size 5 := fun o ho => by
  have : o = 0 ∨ o = 1 ∨ o = 2 ∨ o = 3 ∨ o = 4 := by omega
  rcases this with rfl | rfl | rfl | rfl | rfl <;> exact ⟨⟨_, by simp [go_sem]; rfl⟩, by simp [go_sem]⟩
theorem there6c (V : World) (a b c d e f : Value) (t : TypeId) : There (V.alloc (.cells #[a, b, c, d, e, f] t)) V.heap.size 6 := fun o ho => by
  have : o = 0 ∨ o = 1 ∨ o = 2 ∨ o = 3 ∨ o = 4 ∨ o = 5 := by omega
  rcases this with rfl | rfl | rfl | rfl | rfl | rfl <;> exact ⟨⟨_, by simp [go_sem]; rfl⟩, by simp [go_sem]⟩
theorem There.putC {W : World} {r n o r' : Nat} {v : Value} (h : There W r n) : There (W.setCell ⟨r', o, none⟩ v) r n := fun o' ho => by
  obtain ⟨⟨u, hu⟩, hf⟩ := h o' ho
  refine ⟨?_, by rw [World.frozen?_setCell]; exact hf⟩
  by_cases e : (⟨r', o, none⟩ : Addr) = ⟨r, o', none⟩
  · rw [e]; exact ⟨v, World.cell?_setCell_same _ _ _ (by rw [hu])⟩
  · exact ⟨u, by rw [set1_other e]; exact hu⟩
theorem There.belowC {W W' : World} {r n B : Nat} (h : There W r n) (hb : Below B W W') (hr : r < B) : There W' r n := fun o ho => by
  obtain ⟨u, hu⟩ := (h o ho).1
  exact ⟨⟨u, (hb.cell (p := ⟨r, o, none⟩) hr).trans hu⟩, (hb.frozen (p := ⟨r, o, none⟩) hr).trans (h o ho).2⟩
theorem heldI_bd {a l : Int} (h0 : 0 ≤ l) (h1 : l ≤ 64) : 0 ≤ heldI a l ∧ heldI a l ≤ 64 := by unfold heldI; omega

/-- Six stores of an answer, with what is below kept. -/
theorem below6 {w W : World} {r : Nat} {a b c d e f : Value} (h : Below w.heap.size w W) (hr : w.heap.size ≤ r) : Below w.heap.size w ((((((W.setCell ⟨r, 0, none⟩ a).setCell ⟨r, 1, none⟩ b).setCell ⟨r, 2, none⟩ c).setCell ⟨r, 3, none⟩ d).setCell ⟨r, 4, none⟩ e).setCell ⟨r, 5, none⟩ f) :=
  (((((h.setCell hr _).setCell hr _).setCell hr _).setCell hr _).setCell hr _).setCell hr _
theorem Reg.store6 {B r n : Nat} {W W1 : World} {a b c d e f : Value} (h : Reg B W r n W1) (hr : B ≤ r) : Reg B W r n ((((((W1.setCell ⟨r, 0, none⟩ a).setCell ⟨r, 1, none⟩ b).setCell ⟨r, 2, none⟩ c).setCell ⟨r, 3, none⟩ d).setCell ⟨r, 4, none⟩ e).setCell ⟨r, 5, none⟩ f) :=
  (((((h.store hr _ _).store hr _ _).store hr _ _).store hr _ _).store hr _ _).store hr _ _
/-- The answer of PanCamera. -/
def panV (z x y wd ht dx dy : Int) : Value := if camB z x y wd ht = true then (if (inB dx (-100) 100 && inB dy (-100) 100) = true then crV 0 z (heldI (x + dx) (pixI z - wd)) (heldI (y + dy) (pixI z - ht)) wd ht else crV 3 0 0 0 0 0) else crV 3 0 0 0 0 0
/-- The answer of SizeCamera. -/
def sizV (z x y wd ht a b : Int) : Value := if camB z x y wd ht = true then (if (inB a 1 8 && inB b 1 8) = true then crV 0 z (heldI x (pixI z - a)) (heldI y (pixI z - b)) a b else crV 3 0 0 0 0 0) else crV 3 0 0 0 0 0
end Go.Proofs.Ytfknbijpimpbfaa
