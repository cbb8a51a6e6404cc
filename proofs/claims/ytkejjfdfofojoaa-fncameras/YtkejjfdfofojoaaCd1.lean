/- Cameras of the program: of another size. -/
import Derived.Test.YtkejjfdfofojoaaCc
namespace Go.Proofs.Ytkejjfdfofojoaa
open Go.RowKit
set_option linter.unusedSimpArgs false
set_option linter.unusedVariables false
set_option maxRecDepth 100000

set_option maxHeartbeats 8000000 in
theorem impl_SizeCamera_any (z x y wd ht a b : Int) (w : World) : Calls Try.prog 13 #[camV z x y wd ht, .int .i64 a, .int .i64 b] w fun e w' => e = .returned (sizV z x y wd ht a b) ∧ Below w.heap.size w w' := by
  have hp : Hid (sizV z x y wd ht a b = if camB z x y wd ht = true then (if (inB a 1 8 && inB b 1 8) = true then crV 0 z (heldI x (pixI z - a)) (heldI y (pixI z - b)) a b else crV 3 0 0 0 0 0) else crV 3 0 0 0 0 0) := rfl
  go_enter Try.func13, Try.ntmps13
  go_wp2_with fail
  generalize hW : ((w.alloc _).alloc _ : World) = W
  have HB0 : Hid (Below w.heap.size w W) := by show Below _ _ _; subst hW; (repeat (first | exact Below.refl _ _ | assumption | refine Below.drew ?_ | refine bl_alloc ?_ _ | refine bl_then ?_ (by assumption) | refine Below.setCell ?_ (by first | omega | (simp; done) | (simp; omega)) _ | refine bl_store ?_ ?_ _ _))
  have hL : w.heap.size + 1 < W.heap.size := by subst hW; simp
  have HT : Hid (There W (w.heap.size + 1) 6) := by
    show There _ _ _
    subst hW
    have := there6c (w.alloc (.cells #[.int .i64 z, .int .i64 x, .int .i64 y, .int .i64 wd, .int .i64 ht] 25)) (.int .i64 0) (.int .i64 0) (.int .i64 0) (.int .i64 0) (.int .i64 0) (.int .i64 0) 29
    simpa using this
  have HC : Hid (There W w.heap.size 5) := by
    show There _ _ _
    subst hW
    exact (there5c w (.int .i64 z) (.int .i64 x) (.int .i64 y) (.int .i64 wd) (.int .i64 ht) 25).below (by (repeat (first | exact Below.refl _ _ | assumption | refine Below.drew ?_ | refine bl_alloc ?_ _ | refine bl_then ?_ (by assumption) | refine Below.setCell ?_ (by first | omega | (simp; done) | (simp; omega)) _ | refine bl_store ?_ ?_ _ _)))
  have c00 : ∀ W', Below W.heap.size W W' → W'.cell? ⟨w.heap.size, 0, none⟩ = some (.int .i64 z) := fun W' h => by
    rw [h.cell (by subst hW; simp <;> omega)]; subst hW; simp [go_sem]
  have c01 : ∀ W', Below W.heap.size W W' → W'.cell? ⟨w.heap.size, 1, none⟩ = some (.int .i64 x) := fun W' h => by
    rw [h.cell (by subst hW; simp <;> omega)]; subst hW; simp [go_sem]
  have c02 : ∀ W', Below W.heap.size W W' → W'.cell? ⟨w.heap.size, 2, none⟩ = some (.int .i64 y) := fun W' h => by
    rw [h.cell (by subst hW; simp <;> omega)]; subst hW; simp [go_sem]
  have c03 : ∀ W', Below W.heap.size W W' → W'.cell? ⟨w.heap.size, 3, none⟩ = some (.int .i64 wd) := fun W' h => by
    rw [h.cell (by subst hW; simp <;> omega)]; subst hW; simp [go_sem]
  have c04 : ∀ W', Below W.heap.size W W' → W'.cell? ⟨w.heap.size, 4, none⟩ = some (.int .i64 ht) := fun W' h => by
    rw [h.cell (by subst hW; simp <;> omega)]; subst hW; simp [go_sem]
  clear hW
  refine (camFault_any z x y wd ht _).mono ?_
  rintro e w1 ⟨rfl, hb1⟩
  have HT1 : Hid (There w1 (w.heap.size + 1) 6) := HT.out.below hb1
  have HB1 : Hid (Below w.heap.size w w1) := bl_then HB0.out hb1
  have HC1 : Hid (There w1 w.heap.size 5) := HC.out.below hb1
  have hL1 : w.heap.size + 1 < w1.heap.size := Nat.lt_of_lt_of_le hL hb1.size
  have d0 : ∀ W', Reg (w.heap.size + 1) w1 (w.heap.size + 1) 6 W' → W'.cell? ⟨w.heap.size, 0, none⟩ = some (.int .i64 z) := fun W' h => (h.bel.cell (p := ⟨w.heap.size, 0, none⟩) (by simp <;> omega)).trans (c00 w1 hb1)
  have d1 : ∀ W', Reg (w.heap.size + 1) w1 (w.heap.size + 1) 6 W' → W'.cell? ⟨w.heap.size, 1, none⟩ = some (.int .i64 x) := fun W' h => (h.bel.cell (p := ⟨w.heap.size, 1, none⟩) (by simp <;> omega)).trans (c01 w1 hb1)
  have d2 : ∀ W', Reg (w.heap.size + 1) w1 (w.heap.size + 1) 6 W' → W'.cell? ⟨w.heap.size, 2, none⟩ = some (.int .i64 y) := fun W' h => (h.bel.cell (p := ⟨w.heap.size, 2, none⟩) (by simp <;> omega)).trans (c02 w1 hb1)
  have d3 : ∀ W', Reg (w.heap.size + 1) w1 (w.heap.size + 1) 6 W' → W'.cell? ⟨w.heap.size, 3, none⟩ = some (.int .i64 wd) := fun W' h => (h.bel.cell (p := ⟨w.heap.size, 3, none⟩) (by simp <;> omega)).trans (c03 w1 hb1)
  have d4 : ∀ W', Reg (w.heap.size + 1) w1 (w.heap.size + 1) 6 W' → W'.cell? ⟨w.heap.size, 4, none⟩ = some (.int .i64 ht) := fun W' h => (h.bel.cell (p := ⟨w.heap.size, 4, none⟩) (by simp <;> omega)).trans (c04 w1 hb1)
  have hreg : Reg (w.heap.size + 1) w1 (w.heap.size + 1) 6 w1 := Reg.start (Nat.le_of_lt hL1) HT1.out
  have t0 : ∀ W', Reg (w.heap.size + 1) w1 (w.heap.size + 1) 6 W' → W'.cell? ⟨w.heap.size + 1, 0, none⟩ = some (cellOr W' (w.heap.size + 1) 0) := fun W' h => h.there.cell 0 (by omega)
  have t1 : ∀ W', Reg (w.heap.size + 1) w1 (w.heap.size + 1) 6 W' → W'.cell? ⟨w.heap.size + 1, 1, none⟩ = some (cellOr W' (w.heap.size + 1) 1) := fun W' h => h.there.cell 1 (by omega)
  have t2 : ∀ W', Reg (w.heap.size + 1) w1 (w.heap.size + 1) 6 W' → W'.cell? ⟨w.heap.size + 1, 2, none⟩ = some (cellOr W' (w.heap.size + 1) 2) := fun W' h => h.there.cell 2 (by omega)
  have t3 : ∀ W', Reg (w.heap.size + 1) w1 (w.heap.size + 1) 6 W' → W'.cell? ⟨w.heap.size + 1, 3, none⟩ = some (cellOr W' (w.heap.size + 1) 3) := fun W' h => h.there.cell 3 (by omega)
  have t4 : ∀ W', Reg (w.heap.size + 1) w1 (w.heap.size + 1) 6 W' → W'.cell? ⟨w.heap.size + 1, 4, none⟩ = some (cellOr W' (w.heap.size + 1) 4) := fun W' h => h.there.cell 4 (by omega)
  have t5 : ∀ W', Reg (w.heap.size + 1) w1 (w.heap.size + 1) 6 W' → W'.cell? ⟨w.heap.size + 1, 5, none⟩ = some (cellOr W' (w.heap.size + 1) 5) := fun W' h => h.there.cell 5 (by omega)
  have f0 : ∀ W', Reg (w.heap.size + 1) w1 (w.heap.size + 1) 6 W' → W'.frozen? ⟨w.heap.size + 1, 0, none⟩ = false := fun W' h => (h.there 0 (by omega)).2
  have f1 : ∀ W', Reg (w.heap.size + 1) w1 (w.heap.size + 1) 6 W' → W'.frozen? ⟨w.heap.size + 1, 1, none⟩ = false := fun W' h => (h.there 1 (by omega)).2
  have f2 : ∀ W', Reg (w.heap.size + 1) w1 (w.heap.size + 1) 6 W' → W'.frozen? ⟨w.heap.size + 1, 2, none⟩ = false := fun W' h => (h.there 2 (by omega)).2
  have f3 : ∀ W', Reg (w.heap.size + 1) w1 (w.heap.size + 1) 6 W' → W'.frozen? ⟨w.heap.size + 1, 3, none⟩ = false := fun W' h => (h.there 3 (by omega)).2
  have f4 : ∀ W', Reg (w.heap.size + 1) w1 (w.heap.size + 1) 6 W' → W'.frozen? ⟨w.heap.size + 1, 4, none⟩ = false := fun W' h => (h.there 4 (by omega)).2
  have f5 : ∀ W', Reg (w.heap.size + 1) w1 (w.heap.size + 1) 6 W' → W'.frozen? ⟨w.heap.size + 1, 5, none⟩ = false := fun W' h => (h.there 5 (by omega)).2
  clear hb1 HT HB0 c00 c01 c02 c03 c04 hL
  rcases camC_cases z x y wd ht with ⟨hc, hr⟩ | ⟨hc, hr⟩
  · simp only [hc]
    cases hd : (inB a 1 8 && inB b 1 8)
    · have hq : Hid (sizV z x y wd ht a b = crV 3 0 0 0 0 0) := by show _ = _; rw [hp.out, hd]; simp [hr]
      clear hr hc hp
      cases h1 : inB a 1 8 <;> cases h2 : inB b 1 8
      all_goals first | (rw [h1, h2] at hd; cases hd; done) | skip
      all_goals
        clear hd
        go_wp2_with (go_at_call 34; refine (isView_any _ _).mono ?_; rintro e w1 ⟨rfl, rfl⟩)
        obtain ⟨q0, q1, q2, q3, q4, q5⟩ := setc6_at (a := .int .i64 3) (b := .int .i64 0) (c := .int .i64 0) (d := .int .i64 0) (e := .int .i64 0) (f := .int .i64 0) HT1.out
        exact bodyPost_ret (v := crV 3 0 0 0 0 0) (by simp [results, Try.results13, go_sem, q0, q1, q2, q3, q4, q5]) rfl ⟨by rw [hq.out], below6 HB1.out (Nat.le_succ _)⟩
    · have hq : Hid (sizV z x y wd ht a b = crV 0 z (heldI x (pixI z - a)) (heldI y (pixI z - b)) a b) := by show _ = _; rw [hp.out, hd]; simp [hr]
      have hz := camB_zoom hr
      have hi := camB_in hr
      have hn := pixI_bd hz
      simp only [Bool.and_eq_true] at hd
      obtain ⟨h1, h2⟩ := hd
      have g1 : 1 ≤ a ∧ a ≤ 8 := by simpa [inB] using h1
      have g2 : 1 ≤ b ∧ b ≤ 8 := by simpa [inB] using h2
      have sA := fun w => heldAt_any z x y a b x y w hz g1 g2 (by omega) (by omega)
      generalize heldI x (pixI z - a) = hx at *
      generalize heldI y (pixI z - b) = hy at *
      have u0 := d0 w1 hreg
      have u1 := d1 w1 hreg
      have u2 := d2 w1 hreg
      have u3 := d3 w1 hreg
      have u4 := d4 w1 hreg
      have HC1' := HC1.out
      have p3 := (HC1' 3 (by omega)).2
      have p4 := (HC1' 4 (by omega)).2
      clear hr hc hp hi hn g1 g2 hz HC1' d0 d1 d2 d3 d4 t0 t1 t2 t3 t4 t5 f0 f1 f2 f3 f4 f5 hreg
      go_wp2_with (go_at_call 34; refine (isView_any _ _).mono ?_; rintro e w1 ⟨rfl, rfl⟩)
      generalize hV : ((w1.setCell _ _).setCell _ _ : World) = V
      have HBV : Hid (Below w.heap.size w V) := by show Below _ _ _; subst hV; exact (HB1.out.setCell (Nat.le_refl _) _).setCell (Nat.le_refl _) _
      have HTV : Hid (There V (w.heap.size + 1) 6) := by show There _ _ _; subst hV; exact HT1.out.putC.putC
      have v0 : V.cell? ⟨w.heap.size, 0, none⟩ = some (.int .i64 z) := by subst hV; simpa [go_sem] using u0
      have v1 : V.cell? ⟨w.heap.size, 1, none⟩ = some (.int .i64 x) := by subst hV; simpa [go_sem] using u1
      have v2 : V.cell? ⟨w.heap.size, 2, none⟩ = some (.int .i64 y) := by subst hV; simpa [go_sem] using u2
      have v3 : V.cell? ⟨w.heap.size, 3, none⟩ = some (.int .i64 a) := by subst hV; rw [set1_other (by simp)]; exact set1_same u3
      have v4 : V.cell? ⟨w.heap.size, 4, none⟩ = some (.int .i64 b) := by subst hV; exact set1_same (by rw [set1_other (by simp)]; exact u4)
      have hLV : w.heap.size + 1 ≤ V.heap.size := Nat.le_of_lt (World.block_lt_of_cell? _ _ (HTV.out.cell 0 (by omega)))
      clear hV u0 u1 u2 u3 u4 p3 p4 HT1 HB1
      have d0 : ∀ W', Reg (w.heap.size + 1) V (w.heap.size + 1) 6 W' → W'.cell? ⟨w.heap.size, 0, none⟩ = some (.int .i64 z) := fun W' h => (h.bel.cell (p := ⟨w.heap.size, 0, none⟩) (by simp <;> omega)).trans v0
      have d1 : ∀ W', Reg (w.heap.size + 1) V (w.heap.size + 1) 6 W' → W'.cell? ⟨w.heap.size, 1, none⟩ = some (.int .i64 x) := fun W' h => (h.bel.cell (p := ⟨w.heap.size, 1, none⟩) (by simp <;> omega)).trans v1
      have d2 : ∀ W', Reg (w.heap.size + 1) V (w.heap.size + 1) 6 W' → W'.cell? ⟨w.heap.size, 2, none⟩ = some (.int .i64 y) := fun W' h => (h.bel.cell (p := ⟨w.heap.size, 2, none⟩) (by simp <;> omega)).trans v2
      have d3 : ∀ W', Reg (w.heap.size + 1) V (w.heap.size + 1) 6 W' → W'.cell? ⟨w.heap.size, 3, none⟩ = some (.int .i64 a) := fun W' h => (h.bel.cell (p := ⟨w.heap.size, 3, none⟩) (by simp <;> omega)).trans v3
      have d4 : ∀ W', Reg (w.heap.size + 1) V (w.heap.size + 1) 6 W' → W'.cell? ⟨w.heap.size, 4, none⟩ = some (.int .i64 b) := fun W' h => (h.bel.cell (p := ⟨w.heap.size, 4, none⟩) (by simp <;> omega)).trans v4
      have hreg : Reg (w.heap.size + 1) V (w.heap.size + 1) 6 V := Reg.start hLV HTV.out
      have t0 : ∀ W', Reg (w.heap.size + 1) V (w.heap.size + 1) 6 W' → W'.cell? ⟨w.heap.size + 1, 0, none⟩ = some (cellOr W' (w.heap.size + 1) 0) := fun W' h => h.there.cell 0 (by omega)
      have t1 : ∀ W', Reg (w.heap.size + 1) V (w.heap.size + 1) 6 W' → W'.cell? ⟨w.heap.size + 1, 1, none⟩ = some (cellOr W' (w.heap.size + 1) 1) := fun W' h => h.there.cell 1 (by omega)
      have t2 : ∀ W', Reg (w.heap.size + 1) V (w.heap.size + 1) 6 W' → W'.cell? ⟨w.heap.size + 1, 2, none⟩ = some (cellOr W' (w.heap.size + 1) 2) := fun W' h => h.there.cell 2 (by omega)
      have t3 : ∀ W', Reg (w.heap.size + 1) V (w.heap.size + 1) 6 W' → W'.cell? ⟨w.heap.size + 1, 3, none⟩ = some (cellOr W' (w.heap.size + 1) 3) := fun W' h => h.there.cell 3 (by omega)
      have t4 : ∀ W', Reg (w.heap.size + 1) V (w.heap.size + 1) 6 W' → W'.cell? ⟨w.heap.size + 1, 4, none⟩ = some (cellOr W' (w.heap.size + 1) 4) := fun W' h => h.there.cell 4 (by omega)
      have t5 : ∀ W', Reg (w.heap.size + 1) V (w.heap.size + 1) 6 W' → W'.cell? ⟨w.heap.size + 1, 5, none⟩ = some (cellOr W' (w.heap.size + 1) 5) := fun W' h => h.there.cell 5 (by omega)
      have f0 : ∀ W', Reg (w.heap.size + 1) V (w.heap.size + 1) 6 W' → W'.frozen? ⟨w.heap.size + 1, 0, none⟩ = false := fun W' h => (h.there 0 (by omega)).2
      have f1 : ∀ W', Reg (w.heap.size + 1) V (w.heap.size + 1) 6 W' → W'.frozen? ⟨w.heap.size + 1, 1, none⟩ = false := fun W' h => (h.there 1 (by omega)).2
      have f2 : ∀ W', Reg (w.heap.size + 1) V (w.heap.size + 1) 6 W' → W'.frozen? ⟨w.heap.size + 1, 2, none⟩ = false := fun W' h => (h.there 2 (by omega)).2
      have f3 : ∀ W', Reg (w.heap.size + 1) V (w.heap.size + 1) 6 W' → W'.frozen? ⟨w.heap.size + 1, 3, none⟩ = false := fun W' h => (h.there 3 (by omega)).2
      have f4 : ∀ W', Reg (w.heap.size + 1) V (w.heap.size + 1) 6 W' → W'.frozen? ⟨w.heap.size + 1, 4, none⟩ = false := fun W' h => (h.there 4 (by omega)).2
      have f5 : ∀ W', Reg (w.heap.size + 1) V (w.heap.size + 1) 6 W' → W'.frozen? ⟨w.heap.size + 1, 5, none⟩ = false := fun W' h => (h.there 5 (by omega)).2
      clear v0 v1 v2 v3 v4
      go_region_held3 (Reg (w.heap.size + 1) V (w.heap.size + 1) 6) (first | with_reducible assumption | with_reducible exact Reg.drew hreg | with_reducible exact Reg.store6 (by with_reducible assumption) (Nat.le_refl _) | with_reducible exact Reg.call (by with_reducible assumption) (by with_reducible assumption))
        (first
          | (go_at_call 29; refine (camFirst_any _ _ _ _ _ _).mono ?_; rintro e w' ⟨rfl, hb⟩)
          | (go_at_call 28; refine (sA _).mono ?_; rintro e w' ⟨rfl, hb⟩; have hk : Reg (w.heap.size + 1) V (w.heap.size + 1) 6 w' := Reg.call (by assumption) hb)
          | fail)
      go_wp2
      obtain ⟨q0, q1, q2, q3, q4, q5⟩ := setc6_at (a := .int .i64 0) (b := .int .i64 z) (c := .int .i64 hx) (d := .int .i64 hy) (e := .int .i64 a) (f := .int .i64 b) hk.there
      exact bodyPost_ret (v := crV 0 z hx hy a b) (by simp [results, Try.results13, go_sem, q0, q1, q2, q3, q4, q5]) rfl ⟨by rw [hq.out], below6 (HBV.out.trans (hk.bel.mono (Nat.le_succ _))) (Nat.le_succ _)⟩
  · simp only [hc]
    have hq : Hid (sizV z x y wd ht a b = crV 3 0 0 0 0 0) := by show _ = _; rw [hp.out]; simp [hr]
    clear hr hc hp
    go_wp2_with fail
    obtain ⟨q0, q1, q2, q3, q4, q5⟩ := setc6_at (a := .int .i64 3) (b := .int .i64 0) (c := .int .i64 0) (d := .int .i64 0) (e := .int .i64 0) (f := .int .i64 0) HT1.out
    exact bodyPost_ret (v := crV 3 0 0 0 0 0) (by simp [results, Try.results13, go_sem, q0, q1, q2, q3, q4, q5]) rfl ⟨by rw [hq.out], below6 HB1.out (Nat.le_succ _)⟩
end Go.Proofs.Ytkejjfdfofojoaa
