/- Cameras of the program: held in the world, moved, of another size. -/
import Derived.Test.YtkejjfdfofojoaaCb
namespace Go.Proofs.Ytkejjfdfofojoaa
open Go.RowKit
set_option linter.unusedSimpArgs false
set_option linter.unusedVariables false
set_option maxRecDepth 100000

theorem setc5_at {W : World} {r : Nat} {a b c d e : Value} (hT : There W r 5) :
    (((((W.setCell ⟨r, 0, none⟩ a).setCell ⟨r, 1, none⟩ b).setCell ⟨r, 2, none⟩ c).setCell ⟨r, 3, none⟩ d).setCell ⟨r, 4, none⟩ e).cell? ⟨r, 0, none⟩ = some a ∧
    (((((W.setCell ⟨r, 0, none⟩ a).setCell ⟨r, 1, none⟩ b).setCell ⟨r, 2, none⟩ c).setCell ⟨r, 3, none⟩ d).setCell ⟨r, 4, none⟩ e).cell? ⟨r, 1, none⟩ = some b ∧
    (((((W.setCell ⟨r, 0, none⟩ a).setCell ⟨r, 1, none⟩ b).setCell ⟨r, 2, none⟩ c).setCell ⟨r, 3, none⟩ d).setCell ⟨r, 4, none⟩ e).cell? ⟨r, 2, none⟩ = some c ∧
    (((((W.setCell ⟨r, 0, none⟩ a).setCell ⟨r, 1, none⟩ b).setCell ⟨r, 2, none⟩ c).setCell ⟨r, 3, none⟩ d).setCell ⟨r, 4, none⟩ e).cell? ⟨r, 3, none⟩ = some d ∧
    (((((W.setCell ⟨r, 0, none⟩ a).setCell ⟨r, 1, none⟩ b).setCell ⟨r, 2, none⟩ c).setCell ⟨r, 3, none⟩ d).setCell ⟨r, 4, none⟩ e).cell? ⟨r, 4, none⟩ = some e := by
  obtain ⟨x0, h0⟩ := (hT 0 (by omega)).1
  obtain ⟨x1, h1⟩ := (hT 1 (by omega)).1
  obtain ⟨x2, h2⟩ := (hT 2 (by omega)).1
  obtain ⟨x3, h3⟩ := (hT 3 (by omega)).1
  obtain ⟨x4, h4⟩ := (hT 4 (by omega)).1
  have ne : ∀ i j : Nat, i ≠ j → (⟨r, i, none⟩ : Addr) ≠ ⟨r, j, none⟩ := fun i j hij h => hij (by injection h)
  refine ⟨?_, ?_, ?_, ?_, ?_⟩
  · rw [set1_other (ne 4 0 (by omega)), set1_other (ne 3 0 (by omega)), set1_other (ne 2 0 (by omega)), set1_other (ne 1 0 (by omega))]; exact set1_same (by exact h0)
  · rw [set1_other (ne 4 1 (by omega)), set1_other (ne 3 1 (by omega)), set1_other (ne 2 1 (by omega))]; exact set1_same (by rw [set1_other (ne 0 1 (by omega))]; exact h1)
  · rw [set1_other (ne 4 2 (by omega)), set1_other (ne 3 2 (by omega))]; exact set1_same (by rw [set1_other (ne 1 2 (by omega)), set1_other (ne 0 2 (by omega))]; exact h2)
  · rw [set1_other (ne 4 3 (by omega))]; exact set1_same (by rw [set1_other (ne 2 3 (by omega)), set1_other (ne 1 3 (by omega)), set1_other (ne 0 3 (by omega))]; exact h3)
  · exact set1_same (by rw [set1_other (ne 3 4 (by omega)), set1_other (ne 2 4 (by omega)), set1_other (ne 1 4 (by omega)), set1_other (ne 0 4 (by omega))]; exact h4)
theorem setc6_at {W : World} {r : Nat} {a b c d e f : Value} (hT : There W r 6) :
    ((((((W.setCell ⟨r, 0, none⟩ a).setCell ⟨r, 1, none⟩ b).setCell ⟨r, 2, none⟩ c).setCell ⟨r, 3, none⟩ d).setCell ⟨r, 4, none⟩ e).setCell ⟨r, 5, none⟩ f).cell? ⟨r, 0, none⟩ = some a ∧
    ((((((W.setCell ⟨r, 0, none⟩ a).setCell ⟨r, 1, none⟩ b).setCell ⟨r, 2, none⟩ c).setCell ⟨r, 3, none⟩ d).setCell ⟨r, 4, none⟩ e).setCell ⟨r, 5, none⟩ f).cell? ⟨r, 1, none⟩ = some b ∧
    ((((((W.setCell ⟨r, 0, none⟩ a).setCell ⟨r, 1, none⟩ b).setCell ⟨r, 2, none⟩ c).setCell ⟨r, 3, none⟩ d).setCell ⟨r, 4, none⟩ e).setCell ⟨r, 5, none⟩ f).cell? ⟨r, 2, none⟩ = some c ∧
    ((((((W.setCell ⟨r, 0, none⟩ a).setCell ⟨r, 1, none⟩ b).setCell ⟨r, 2, none⟩ c).setCell ⟨r, 3, none⟩ d).setCell ⟨r, 4, none⟩ e).setCell ⟨r, 5, none⟩ f).cell? ⟨r, 3, none⟩ = some d ∧
    ((((((W.setCell ⟨r, 0, none⟩ a).setCell ⟨r, 1, none⟩ b).setCell ⟨r, 2, none⟩ c).setCell ⟨r, 3, none⟩ d).setCell ⟨r, 4, none⟩ e).setCell ⟨r, 5, none⟩ f).cell? ⟨r, 4, none⟩ = some e ∧
    ((((((W.setCell ⟨r, 0, none⟩ a).setCell ⟨r, 1, none⟩ b).setCell ⟨r, 2, none⟩ c).setCell ⟨r, 3, none⟩ d).setCell ⟨r, 4, none⟩ e).setCell ⟨r, 5, none⟩ f).cell? ⟨r, 5, none⟩ = some f := by
  obtain ⟨x0, h0⟩ := (hT 0 (by omega)).1
  obtain ⟨x1, h1⟩ := (hT 1 (by omega)).1
  obtain ⟨x2, h2⟩ := (hT 2 (by omega)).1
  obtain ⟨x3, h3⟩ := (hT 3 (by omega)).1
  obtain ⟨x4, h4⟩ := (hT 4 (by omega)).1
  obtain ⟨x5, h5⟩ := (hT 5 (by omega)).1
  have ne : ∀ i j : Nat, i ≠ j → (⟨r, i, none⟩ : Addr) ≠ ⟨r, j, none⟩ := fun i j hij h => hij (by injection h)
  refine ⟨?_, ?_, ?_, ?_, ?_, ?_⟩
  · rw [set1_other (ne 5 0 (by omega)), set1_other (ne 4 0 (by omega)), set1_other (ne 3 0 (by omega)), set1_other (ne 2 0 (by omega)), set1_other (ne 1 0 (by omega))]; exact set1_same (by exact h0)
  · rw [set1_other (ne 5 1 (by omega)), set1_other (ne 4 1 (by omega)), set1_other (ne 3 1 (by omega)), set1_other (ne 2 1 (by omega))]; exact set1_same (by rw [set1_other (ne 0 1 (by omega))]; exact h1)
  · rw [set1_other (ne 5 2 (by omega)), set1_other (ne 4 2 (by omega)), set1_other (ne 3 2 (by omega))]; exact set1_same (by rw [set1_other (ne 1 2 (by omega)), set1_other (ne 0 2 (by omega))]; exact h2)
  · rw [set1_other (ne 5 3 (by omega)), set1_other (ne 4 3 (by omega))]; exact set1_same (by rw [set1_other (ne 2 3 (by omega)), set1_other (ne 1 3 (by omega)), set1_other (ne 0 3 (by omega))]; exact h3)
  · rw [set1_other (ne 5 4 (by omega))]; exact set1_same (by rw [set1_other (ne 3 4 (by omega)), set1_other (ne 2 4 (by omega)), set1_other (ne 1 4 (by omega)), set1_other (ne 0 4 (by omega))]; exact h4)
  · exact set1_same (by rw [set1_other (ne 4 5 (by omega)), set1_other (ne 3 5 (by omega)), set1_other (ne 2 5 (by omega)), set1_other (ne 1 5 (by omega)), set1_other (ne 0 5 (by omega))]; exact h5)

theorem there5c (V : World) (a b c d e : Value) (t : TypeId) : There (V.alloc (.cells #[a, b, c, d, e] t)) V.heap.size 5 := fun o ho => by
  have : o = 0 ∨ o = 1 ∨ o = 2 ∨ o = 3 ∨ o = 4 := by omega
  rcases this with rfl | rfl | rfl | rfl | rfl <;> exact ⟨⟨_, by simp [go_sem]; rfl⟩, by simp [go_sem]⟩
theorem there6c (V : World) (a b c d e f : Value) (t : TypeId) : There (V.alloc (.cells #[a, b, c, d, e, f] t)) V.heap.size 6 := fun o ho => by
  have : o = 0 ∨ o = 1 ∨ o = 2 ∨ o = 3 ∨ o = 4 ∨ o = 5 := by omega
  rcases this with rfl | rfl | rfl | rfl | rfl | rfl <;> exact ⟨⟨_, by simp [go_sem]; rfl⟩, by simp [go_sem]⟩
theorem There.putC {W : World} {r n o r' : Nat} {v : Value} (h : There W r n) : There (W.setCell ⟨r', o, none⟩ v) r n := fun o' ho => by
  obtain ⟨⟨u, hu⟩, hf⟩ := h o' ho
  refine ⟨?_, by rw [World.frozen?_setCell]; exact hf⟩
  by_cases e : (⟨r', o, none⟩ : Addr) = ⟨r, o', none⟩
  · rw [e]; exact ⟨v, World.cell?_setCell_same _ _ _ (by rw [hu])⟩
  · exact ⟨u, by rw [set1_other e]; exact hu⟩
theorem There.belowC {W W' : World} {r n B : Nat} (h : There W r n) (hb : Below B W W') (hr : r < B) : There W' r n := fun o ho => by
  obtain ⟨u, hu⟩ := (h o ho).1
  exact ⟨⟨u, (hb.cell (p := ⟨r, o, none⟩) hr).trans hu⟩, (hb.frozen (p := ⟨r, o, none⟩) hr).trans (h o ho).2⟩
theorem heldI_bd {a l : Int} (h0 : 0 ≤ l) (h1 : l ≤ 64) : 0 ≤ heldI a l ∧ heldI a l ≤ 64 := by unfold heldI; omega

set_option maxHeartbeats 4000000 in
theorem heldAt_any (z x y wd ht a b : Int) (w : World) (hz : zoomB z = true) (hw : 1 ≤ wd ∧ wd ≤ 8) (hh : 1 ≤ ht ∧ ht ≤ 8) (ha : -1000 ≤ a ∧ a ≤ 1000) (hb : -1000 ≤ b ∧ b ≤ 1000) :
    Calls Try.prog 28 #[camV z x y wd ht, pxV a b] w fun e w' => e = .returned (camV z (heldI a (pixI z - wd)) (heldI b (pixI z - ht)) wd ht) ∧ Below w.heap.size w w' := by
  have sP := fun w => impl_PixelCount_any z w
  have hv : pixV z = .agg #[.int .i64 0, .int .i64 (pixI z)] := by simp [pixV, hz]
  simp only [hv] at sP
  have hn := pixI_bd hz
  generalize pixI z = u at *
  clear hv hz
  have i1 : ∀ w, (Instr.field 64 (.agg #[.int .i64 0, .int .i64 u]) 1).run Try.prog w = .ok (.int .i64 u) w := fun _ => by kernel_rfl
  have s1 := fun t w => run_px_sub t (a := u) (b := u) (c := wd) (d := ht) w (by omega) (by omega)
  have sH := fun w => heldUpTo_any a b (u - wd) (u - ht) w (by omega) (by omega)
  have b1 := heldI_bd (a := a) (l := u - wd) (by omega) (by omega)
  have b2 := heldI_bd (a := b) (l := u - ht) (by omega) (by omega)
  generalize heldI a (u - wd) = hx at *
  generalize heldI b (u - ht) = hy at *
  have sX := fun w => pxX_any hx hy w (by omega) (by omega)
  have sY := fun w => pxY_any hx hy w (by omega) (by omega)
  clear hw hh ha hb hn b1 b2
  go_enter Try.func28, Try.ntmps28
  go_wp2_with fail
  generalize hW : ((w.alloc _).alloc _ : World) = W
  have HB0 : Hid (Below w.heap.size w W) := by show Below _ _ _; subst hW; (repeat (first | exact Below.refl _ _ | assumption | refine Below.drew ?_ | refine bl_alloc ?_ _ | refine bl_then ?_ (by assumption) | refine Below.setCell ?_ (by first | omega | (simp; done) | (simp; omega)) _ | refine bl_store ?_ ?_ _ _))
  have HL : Hid (w.heap.size + 1 < W.heap.size) := by show _ < _; subst hW; simp
  have HT : Hid (There W (w.heap.size + 1) 5) := by
    show There _ _ _
    subst hW
    have := there5c (w.alloc (.cells #[.int .i64 z, .int .i64 x, .int .i64 y, .int .i64 wd, .int .i64 ht] 25)) (.int .i64 0) (.int .i64 0) (.int .i64 0) (.int .i64 0) (.int .i64 0) 25
    simpa using this
  have c00 : ∀ W', Below W.heap.size W W' → W'.cell? ⟨w.heap.size, 0, none⟩ = some (.int .i64 z) := fun W' h => by
    rw [h.cell (by subst hW; simp <;> omega)]; subst hW; simp [go_sem]
  have c01 : ∀ W', Below W.heap.size W W' → W'.cell? ⟨w.heap.size, 1, none⟩ = some (.int .i64 x) := fun W' h => by
    rw [h.cell (by subst hW; simp <;> omega)]; subst hW; simp [go_sem]
  have c02 : ∀ W', Below W.heap.size W W' → W'.cell? ⟨w.heap.size, 2, none⟩ = some (.int .i64 y) := fun W' h => by
    rw [h.cell (by subst hW; simp <;> omega)]; subst hW; simp [go_sem]
  have c03 : ∀ W', Below W.heap.size W W' → W'.cell? ⟨w.heap.size, 3, none⟩ = some (.int .i64 wd) := fun W' h => by
    rw [h.cell (by subst hW; simp <;> omega)]; subst hW; simp [go_sem]
  have c04 : ∀ W', Below W.heap.size W W' → W'.cell? ⟨w.heap.size, 4, none⟩ = some (.int .i64 ht) := fun W' h => by
    rw [h.cell (by subst hW; simp <;> omega)]; subst hW; simp [go_sem]
  have c10 : ∀ W', Below W.heap.size W W' → W'.cell? ⟨w.heap.size + 1, 0, none⟩ = some (.int .i64 0) := fun W' h => by
    rw [h.cell (by subst hW; simp <;> omega)]; subst hW; simp [go_sem]
  have c11 : ∀ W', Below W.heap.size W W' → W'.cell? ⟨w.heap.size + 1, 1, none⟩ = some (.int .i64 0) := fun W' h => by
    rw [h.cell (by subst hW; simp <;> omega)]; subst hW; simp [go_sem]
  have c12 : ∀ W', Below W.heap.size W W' → W'.cell? ⟨w.heap.size + 1, 2, none⟩ = some (.int .i64 0) := fun W' h => by
    rw [h.cell (by subst hW; simp <;> omega)]; subst hW; simp [go_sem]
  have c13 : ∀ W', Below W.heap.size W W' → W'.cell? ⟨w.heap.size + 1, 3, none⟩ = some (.int .i64 0) := fun W' h => by
    rw [h.cell (by subst hW; simp <;> omega)]; subst hW; simp [go_sem]
  have c14 : ∀ W', Below W.heap.size W W' → W'.cell? ⟨w.heap.size + 1, 4, none⟩ = some (.int .i64 0) := fun W' h => by
    rw [h.cell (by subst hW; simp <;> omega)]; subst hW; simp [go_sem]
  have z00 : ∀ W', Below W.heap.size W W' → W'.frozen? ⟨w.heap.size, 0, none⟩ = false := fun W' h => by
    rw [h.frozen (by subst hW; simp <;> omega)]; subst hW; simp [go_sem]
  have z01 : ∀ W', Below W.heap.size W W' → W'.frozen? ⟨w.heap.size, 1, none⟩ = false := fun W' h => by
    rw [h.frozen (by subst hW; simp <;> omega)]; subst hW; simp [go_sem]
  have z02 : ∀ W', Below W.heap.size W W' → W'.frozen? ⟨w.heap.size, 2, none⟩ = false := fun W' h => by
    rw [h.frozen (by subst hW; simp <;> omega)]; subst hW; simp [go_sem]
  have z03 : ∀ W', Below W.heap.size W W' → W'.frozen? ⟨w.heap.size, 3, none⟩ = false := fun W' h => by
    rw [h.frozen (by subst hW; simp <;> omega)]; subst hW; simp [go_sem]
  have z04 : ∀ W', Below W.heap.size W W' → W'.frozen? ⟨w.heap.size, 4, none⟩ = false := fun W' h => by
    rw [h.frozen (by subst hW; simp <;> omega)]; subst hW; simp [go_sem]
  have z10 : ∀ W', Below W.heap.size W W' → W'.frozen? ⟨w.heap.size + 1, 0, none⟩ = false := fun W' h => by
    rw [h.frozen (by subst hW; simp <;> omega)]; subst hW; simp [go_sem]
  have z11 : ∀ W', Below W.heap.size W W' → W'.frozen? ⟨w.heap.size + 1, 1, none⟩ = false := fun W' h => by
    rw [h.frozen (by subst hW; simp <;> omega)]; subst hW; simp [go_sem]
  have z12 : ∀ W', Below W.heap.size W W' → W'.frozen? ⟨w.heap.size + 1, 2, none⟩ = false := fun W' h => by
    rw [h.frozen (by subst hW; simp <;> omega)]; subst hW; simp [go_sem]
  have z13 : ∀ W', Below W.heap.size W W' → W'.frozen? ⟨w.heap.size + 1, 3, none⟩ = false := fun W' h => by
    rw [h.frozen (by subst hW; simp <;> omega)]; subst hW; simp [go_sem]
  have z14 : ∀ W', Below W.heap.size W W' → W'.frozen? ⟨w.heap.size + 1, 4, none⟩ = false := fun W' h => by
    rw [h.frozen (by subst hW; simp <;> omega)]; subst hW; simp [go_sem]
  clear hW
  refine (sP _).mono ?_
  rintro e w1 ⟨rfl, hb1⟩
  go_wp2_with fail
  go_region_held3 (fun W' => Below W.heap.size W W') ((repeat (first | exact Below.refl _ _ | assumption | refine Below.drew ?_ | refine bl_alloc ?_ _ | refine bl_then ?_ (by assumption) | refine Below.setCell ?_ (by first | omega | (simp; done) | (simp; omega)) _ | refine bl_store ?_ ?_ _ _)))
    (first
      | (go_at_call 30; refine (pixelAt_any _ _ _).mono ?_; rintro e w3 ⟨rfl, rfl⟩)
      | (go_at_call 37; refine (camSize_any _ _ _ _ _ _).mono ?_; rintro e w3 ⟨rfl, hb⟩)
      | (go_at_call 49; refine (sH _).mono ?_; rintro e w3 ⟨rfl, rfl⟩)
      | fail)
  go_wp2_with (first
      | (go_at_call 46; refine (sX _).mono ?_; rintro e w3 ⟨rfl, rfl⟩)
      | (go_at_call 47; refine (sY _).mono ?_; rintro e w3 ⟨rfl, rfl⟩))
  rename_i hfin
  have hT := ((HT.out.belowC hfin HL.out).putC (o := 1) (r' := w.heap.size) (v := .int .i64 hx)).putC (o := 2) (r' := w.heap.size) (v := .int .i64 hy)
  obtain ⟨q0, q1, q2, q3, q4⟩ := setc5_at (a := .int .i64 z) (b := .int .i64 hx) (c := .int .i64 hy) (d := .int .i64 wd) (e := .int .i64 ht) hT
  have hB := bl_then HB0.out hfin
  refine bodyPost_ret (v := camV z hx hy wd ht) (by simp [results, Try.results28, go_sem, q0, q1, q2, q3, q4]) rfl ⟨rfl, ?_⟩
  exact ((((((hB.setCell (Nat.le_refl _) _).setCell (Nat.le_refl _) _).setCell (Nat.le_succ _) _).setCell (Nat.le_succ _) _).setCell (Nat.le_succ _) _).setCell (Nat.le_succ _) _).setCell (Nat.le_succ _) _
/-- Six stores of an answer, with what is below kept. -/
theorem below6 {w W : World} {r : Nat} {a b c d e f : Value} (h : Below w.heap.size w W) (hr : w.heap.size ≤ r) : Below w.heap.size w ((((((W.setCell ⟨r, 0, none⟩ a).setCell ⟨r, 1, none⟩ b).setCell ⟨r, 2, none⟩ c).setCell ⟨r, 3, none⟩ d).setCell ⟨r, 4, none⟩ e).setCell ⟨r, 5, none⟩ f) :=
  (((((h.setCell hr _).setCell hr _).setCell hr _).setCell hr _).setCell hr _).setCell hr _
theorem Reg.store6 {B r n : Nat} {W W1 : World} {a b c d e f : Value} (h : Reg B W r n W1) (hr : B ≤ r) : Reg B W r n ((((((W1.setCell ⟨r, 0, none⟩ a).setCell ⟨r, 1, none⟩ b).setCell ⟨r, 2, none⟩ c).setCell ⟨r, 3, none⟩ d).setCell ⟨r, 4, none⟩ e).setCell ⟨r, 5, none⟩ f) :=
  (((((h.store hr _ _).store hr _ _).store hr _ _).store hr _ _).store hr _ _).store hr _ _
/-- The answer of PanCamera. -/
def panV (z x y wd ht dx dy : Int) : Value := if camB z x y wd ht = true then (if (inB dx (-100) 100 && inB dy (-100) 100) = true then crV 0 z (heldI (x + dx) (pixI z - wd)) (heldI (y + dy) (pixI z - ht)) wd ht else crV 3 0 0 0 0 0) else crV 3 0 0 0 0 0
/-- The answer of SizeCamera. -/
def sizV (z x y wd ht a b : Int) : Value := if camB z x y wd ht = true then (if (inB a 1 8 && inB b 1 8) = true then crV 0 z (heldI x (pixI z - a)) (heldI y (pixI z - b)) a b else crV 3 0 0 0 0 0) else crV 3 0 0 0 0 0
set_option maxHeartbeats 8000000 in
theorem impl_PanCamera_any (z x y wd ht dx dy : Int) (w : World) : Calls Try.prog 10 #[camV z x y wd ht, .int .i64 dx, .int .i64 dy] w fun e w' => e = .returned (panV z x y wd ht dx dy) ∧ Below w.heap.size w w' := by
  have hp : Hid (panV z x y wd ht dx dy = if camB z x y wd ht = true then (if (inB dx (-100) 100 && inB dy (-100) 100) = true then crV 0 z (heldI (x + dx) (pixI z - wd)) (heldI (y + dy) (pixI z - ht)) wd ht else crV 3 0 0 0 0 0) else crV 3 0 0 0 0 0) := rfl
  go_enter Try.func10, Try.ntmps10
  go_wp2_with fail
  generalize hW : ((w.alloc _).alloc _ : World) = W
  have HB0 : Hid (Below w.heap.size w W) := by show Below _ _ _; subst hW; (repeat (first | exact Below.refl _ _ | assumption | refine Below.drew ?_ | refine bl_alloc ?_ _ | refine bl_then ?_ (by assumption) | refine Below.setCell ?_ (by first | omega | (simp; done) | (simp; omega)) _ | refine bl_store ?_ ?_ _ _))
  have hL : w.heap.size + 1 < W.heap.size := by subst hW; simp
  have HT : Hid (There W (w.heap.size + 1) 6) := by
    show There _ _ _
    subst hW
    have := there6c (w.alloc (.cells #[.int .i64 z, .int .i64 x, .int .i64 y, .int .i64 wd, .int .i64 ht] 25)) (.int .i64 0) (.int .i64 0) (.int .i64 0) (.int .i64 0) (.int .i64 0) (.int .i64 0) 29
    simpa using this
  have c00 : ∀ W', Below W.heap.size W W' → W'.cell? ⟨w.heap.size, 0, none⟩ = some (.int .i64 z) := fun W' h => by
    rw [h.cell (by subst hW; simp <;> omega)]; subst hW; simp [go_sem]
  have c01 : ∀ W', Below W.heap.size W W' → W'.cell? ⟨w.heap.size, 1, none⟩ = some (.int .i64 x) := fun W' h => by
    rw [h.cell (by subst hW; simp <;> omega)]; subst hW; simp [go_sem]
  have c02 : ∀ W', Below W.heap.size W W' → W'.cell? ⟨w.heap.size, 2, none⟩ = some (.int .i64 y) := fun W' h => by
    rw [h.cell (by subst hW; simp <;> omega)]; subst hW; simp [go_sem]
  have c03 : ∀ W', Below W.heap.size W W' → W'.cell? ⟨w.heap.size, 3, none⟩ = some (.int .i64 wd) := fun W' h => by
    rw [h.cell (by subst hW; simp <;> omega)]; subst hW; simp [go_sem]
  have c04 : ∀ W', Below W.heap.size W W' → W'.cell? ⟨w.heap.size, 4, none⟩ = some (.int .i64 ht) := fun W' h => by
    rw [h.cell (by subst hW; simp <;> omega)]; subst hW; simp [go_sem]
  clear hW
  refine (camFault_any z x y wd ht _).mono ?_
  rintro e w1 ⟨rfl, hb1⟩
  have HT1 : Hid (There w1 (w.heap.size + 1) 6) := HT.out.below hb1
  have HB1 : Hid (Below w.heap.size w w1) := bl_then HB0.out hb1
  have hL1 : w.heap.size + 1 < w1.heap.size := Nat.lt_of_lt_of_le hL hb1.size
  have d0 : ∀ W', Reg (w.heap.size + 1) w1 (w.heap.size + 1) 6 W' → W'.cell? ⟨w.heap.size, 0, none⟩ = some (.int .i64 z) := fun W' h => (h.bel.cell (p := ⟨w.heap.size, 0, none⟩) (by simp <;> omega)).trans (c00 w1 hb1)
  have d1 : ∀ W', Reg (w.heap.size + 1) w1 (w.heap.size + 1) 6 W' → W'.cell? ⟨w.heap.size, 1, none⟩ = some (.int .i64 x) := fun W' h => (h.bel.cell (p := ⟨w.heap.size, 1, none⟩) (by simp <;> omega)).trans (c01 w1 hb1)
  have d2 : ∀ W', Reg (w.heap.size + 1) w1 (w.heap.size + 1) 6 W' → W'.cell? ⟨w.heap.size, 2, none⟩ = some (.int .i64 y) := fun W' h => (h.bel.cell (p := ⟨w.heap.size, 2, none⟩) (by simp <;> omega)).trans (c02 w1 hb1)
  have d3 : ∀ W', Reg (w.heap.size + 1) w1 (w.heap.size + 1) 6 W' → W'.cell? ⟨w.heap.size, 3, none⟩ = some (.int .i64 wd) := fun W' h => (h.bel.cell (p := ⟨w.heap.size, 3, none⟩) (by simp <;> omega)).trans (c03 w1 hb1)
  have d4 : ∀ W', Reg (w.heap.size + 1) w1 (w.heap.size + 1) 6 W' → W'.cell? ⟨w.heap.size, 4, none⟩ = some (.int .i64 ht) := fun W' h => (h.bel.cell (p := ⟨w.heap.size, 4, none⟩) (by simp <;> omega)).trans (c04 w1 hb1)
  have hreg : Reg (w.heap.size + 1) w1 (w.heap.size + 1) 6 w1 := Reg.start (Nat.le_of_lt hL1) HT1.out
  have t0 : ∀ W', Reg (w.heap.size + 1) w1 (w.heap.size + 1) 6 W' → W'.cell? ⟨w.heap.size + 1, 0, none⟩ = some (cellOr W' (w.heap.size + 1) 0) := fun W' h => h.there.cell 0 (by omega)
  have t1 : ∀ W', Reg (w.heap.size + 1) w1 (w.heap.size + 1) 6 W' → W'.cell? ⟨w.heap.size + 1, 1, none⟩ = some (cellOr W' (w.heap.size + 1) 1) := fun W' h => h.there.cell 1 (by omega)
  have t2 : ∀ W', Reg (w.heap.size + 1) w1 (w.heap.size + 1) 6 W' → W'.cell? ⟨w.heap.size + 1, 2, none⟩ = some (cellOr W' (w.heap.size + 1) 2) := fun W' h => h.there.cell 2 (by omega)
  have t3 : ∀ W', Reg (w.heap.size + 1) w1 (w.heap.size + 1) 6 W' → W'.cell? ⟨w.heap.size + 1, 3, none⟩ = some (cellOr W' (w.heap.size + 1) 3) := fun W' h => h.there.cell 3 (by omega)
  have t4 : ∀ W', Reg (w.heap.size + 1) w1 (w.heap.size + 1) 6 W' → W'.cell? ⟨w.heap.size + 1, 4, none⟩ = some (cellOr W' (w.heap.size + 1) 4) := fun W' h => h.there.cell 4 (by omega)
  have t5 : ∀ W', Reg (w.heap.size + 1) w1 (w.heap.size + 1) 6 W' → W'.cell? ⟨w.heap.size + 1, 5, none⟩ = some (cellOr W' (w.heap.size + 1) 5) := fun W' h => h.there.cell 5 (by omega)
  have f0 : ∀ W', Reg (w.heap.size + 1) w1 (w.heap.size + 1) 6 W' → W'.frozen? ⟨w.heap.size + 1, 0, none⟩ = false := fun W' h => (h.there 0 (by omega)).2
  have f1 : ∀ W', Reg (w.heap.size + 1) w1 (w.heap.size + 1) 6 W' → W'.frozen? ⟨w.heap.size + 1, 1, none⟩ = false := fun W' h => (h.there 1 (by omega)).2
  have f2 : ∀ W', Reg (w.heap.size + 1) w1 (w.heap.size + 1) 6 W' → W'.frozen? ⟨w.heap.size + 1, 2, none⟩ = false := fun W' h => (h.there 2 (by omega)).2
  have f3 : ∀ W', Reg (w.heap.size + 1) w1 (w.heap.size + 1) 6 W' → W'.frozen? ⟨w.heap.size + 1, 3, none⟩ = false := fun W' h => (h.there 3 (by omega)).2
  have f4 : ∀ W', Reg (w.heap.size + 1) w1 (w.heap.size + 1) 6 W' → W'.frozen? ⟨w.heap.size + 1, 4, none⟩ = false := fun W' h => (h.there 4 (by omega)).2
  have f5 : ∀ W', Reg (w.heap.size + 1) w1 (w.heap.size + 1) 6 W' → W'.frozen? ⟨w.heap.size + 1, 5, none⟩ = false := fun W' h => (h.there 5 (by omega)).2
  clear hb1 HT HB0 c00 c01 c02 c03 c04 hL
  rcases camC_cases z x y wd ht with ⟨hc, hr⟩ | ⟨hc, hr⟩
  · simp only [hc]
    cases hd : (inB dx (-100) 100 && inB dy (-100) 100)
    · have hq : Hid (panV z x y wd ht dx dy = crV 3 0 0 0 0 0) := by show _ = _; rw [hp.out, hd]; simp [hr]
      clear hr hc hp
      cases h1 : inB dx (-100) 100 <;> cases h2 : inB dy (-100) 100
      all_goals first | (rw [h1, h2] at hd; cases hd; done) | skip
      all_goals
        clear hd
        go_wp2_with (go_at_call 27; refine (isWithin_any _ _ _ _).mono ?_; rintro e w1 ⟨rfl, rfl⟩)
        obtain ⟨q0, q1, q2, q3, q4, q5⟩ := setc6_at (a := .int .i64 3) (b := .int .i64 0) (c := .int .i64 0) (d := .int .i64 0) (e := .int .i64 0) (f := .int .i64 0) HT1.out
        exact bodyPost_ret (v := crV 3 0 0 0 0 0) (by simp [results, Try.results10, go_sem, q0, q1, q2, q3, q4, q5]) rfl ⟨by rw [hq.out], below6 HB1.out (Nat.le_succ _)⟩
    · have hq : Hid (panV z x y wd ht dx dy = crV 0 z (heldI (x + dx) (pixI z - wd)) (heldI (y + dy) (pixI z - ht)) wd ht) := by show _ = _; rw [hp.out, hd]; simp [hr]
      have hz := camB_zoom hr
      have hi := camB_in hr
      have hn := pixI_bd hz
      simp only [Bool.and_eq_true] at hd
      obtain ⟨h1, h2⟩ := hd
      have g1 : -100 ≤ dx ∧ dx ≤ 100 := by simpa [inB] using h1
      have g2 : -100 ≤ dy ∧ dy ≤ 100 := by simpa [inB] using h2
      have s1 := fun t w => run_px_add t (a := x) (b := y) (c := dx) (d := dy) w (by omega) (by omega)
      have sA := fun w => heldAt_any z x y wd ht (x + dx) (y + dy) w hz hi.1.1 hi.1.2 (by omega) (by omega)
      generalize heldI (x + dx) (pixI z - wd) = hx at *
      generalize heldI (y + dy) (pixI z - ht) = hy at *
      clear hr hc hp hi hn g1 g2 hz
      go_wp2_with (go_at_call 27; refine (isWithin_any _ _ _ _).mono ?_; rintro e w1 ⟨rfl, rfl⟩)
      go_region_held3 (Reg (w.heap.size + 1) w1 (w.heap.size + 1) 6) (first | with_reducible assumption | with_reducible exact Reg.drew hreg | with_reducible exact Reg.store6 (by with_reducible assumption) (Nat.le_refl _) | with_reducible exact Reg.call (by with_reducible assumption) (by with_reducible assumption))
        (first
          | (go_at_call 29; refine (camFirst_any _ _ _ _ _ _).mono ?_; rintro e w' ⟨rfl, hb⟩)
          | (go_at_call 30; refine (pixelAt_any _ _ _).mono ?_; rintro e w' ⟨rfl, rfl⟩)
          | (go_at_call 28; refine (sA _).mono ?_; rintro e w' ⟨rfl, hb⟩; have hk : Reg (w.heap.size + 1) w1 (w.heap.size + 1) 6 w' := Reg.call (by assumption) hb)
          | fail)
      go_wp2
      rename_i hfin
      obtain ⟨q0, q1, q2, q3, q4, q5⟩ := setc6_at (a := .int .i64 0) (b := .int .i64 z) (c := .int .i64 hx) (d := .int .i64 hy) (e := .int .i64 wd) (f := .int .i64 ht) hk.there
      exact bodyPost_ret (v := crV 0 z hx hy wd ht) (by simp [results, Try.results10, go_sem, q0, q1, q2, q3, q4, q5]) rfl ⟨by rw [hq.out], below6 (HB1.out.trans (hk.bel.mono (Nat.le_succ _))) (Nat.le_succ _)⟩
  · simp only [hc]
    have hq : Hid (panV z x y wd ht dx dy = crV 3 0 0 0 0 0) := by show _ = _; rw [hp.out]; simp [hr]
    clear hr hc hp
    go_wp2_with fail
    obtain ⟨q0, q1, q2, q3, q4, q5⟩ := setc6_at (a := .int .i64 3) (b := .int .i64 0) (c := .int .i64 0) (d := .int .i64 0) (e := .int .i64 0) (f := .int .i64 0) HT1.out
    exact bodyPost_ret (v := crV 3 0 0 0 0 0) (by simp [results, Try.results10, go_sem, q0, q1, q2, q3, q4, q5]) rfl ⟨by rw [hq.out], below6 HB1.out (Nat.le_succ _)⟩
end Go.Proofs.Ytkejjfdfofojoaa
