/- The parent of a ref, the ref of a pixel: the program and the model, and their laws. -/
import Derived.Test.YtjkmjkfakolpfaaT1
namespace Go.Proofs.Ytjkmjkfakolpfaa
open Go.RowKit
set_option linter.unusedSimpArgs false
set_option linter.unusedVariables false
set_option maxRecDepth 100000

theorem there4r (V : World) (a b c d : Value) (t : TypeId) : There (V.alloc (.cells #[a, b, c, d] t)) V.heap.size 4 := fun o ho => by
  have : o = 0 ∨ o = 1 ∨ o = 2 ∨ o = 3 := by omega
  rcases this with rfl | rfl | rfl | rfl <;> exact ⟨⟨_, by simp [go_sem]; rfl⟩, by simp [go_sem]⟩
theorem there3r (V : World) (a b c : Value) (t : TypeId) : There (V.alloc (.cells #[a, b, c] t)) V.heap.size 3 := fun o ho => by
  have : o = 0 ∨ o = 1 ∨ o = 2 := by omega
  rcases this with rfl | rfl | rfl <;> exact ⟨⟨_, by simp [go_sem]; rfl⟩, by simp [go_sem]⟩

set_option maxHeartbeats 4000000 in
theorem impl_ParentOf_any (z x y : Int) (w : World) : Calls Try.prog 9 #[refV z x y] w fun e w' => e = .returned (parV z x y) ∧ Below w.heap.size w w' := by
  go_enter Try.func9, Try.ntmps9
  go_wp2_with fail
  generalize hW : ((w.alloc _).alloc _ : World) = W
  have HB0 : Hid (Below w.heap.size w W) := by show Below _ _ _; subst hW; (repeat (first | exact Below.refl _ _ | assumption | refine Below.drew ?_ | refine bl_alloc ?_ _ | refine bl_then ?_ (by assumption) | refine Below.setCell ?_ (by first | omega | (simp; done) | (simp; omega)) _ | refine bl_store ?_ ?_ _ _))
  have HT : Hid (There W (w.heap.size + 1) 4) := by
    show There _ _ _
    subst hW
    have := there4r (w.alloc (.cells #[.int .i64 z, .int .i64 x, .int .i64 y] 26)) (.int .i64 0) (.int .i64 0) (.int .i64 0) (.int .i64 0) 33
    simpa using this
  have c00 : ∀ W', Below W.heap.size W W' → W'.cell? ⟨w.heap.size, 0, none⟩ = some (.int .i64 z) := fun W' h => by
    rw [h.cell (by subst hW; simp <;> omega)]; subst hW; simp [go_sem]
  have c01 : ∀ W', Below W.heap.size W W' → W'.cell? ⟨w.heap.size, 1, none⟩ = some (.int .i64 x) := fun W' h => by
    rw [h.cell (by subst hW; simp <;> omega)]; subst hW; simp [go_sem]
  have c02 : ∀ W', Below W.heap.size W W' → W'.cell? ⟨w.heap.size, 2, none⟩ = some (.int .i64 y) := fun W' h => by
    rw [h.cell (by subst hW; simp <;> omega)]; subst hW; simp [go_sem]
  have hsz : w.heap.size + 1 < W.heap.size := by subst hW; simp
  clear hW
  refine (refFault_any _ _ _ _).mono ?_
  rintro e w1 ⟨rfl, hb1⟩
  have HT1 : Hid (There w1 (w.heap.size + 1) 4) := HT.out.below hb1
  have HB1 : Hid (Below w.heap.size w w1) := bl_then HB0.out hb1
  have hsz1 : w.heap.size + 1 < w1.heap.size := Nat.lt_of_lt_of_le hsz hb1.size
  have d0 : ∀ W', Below w1.heap.size w1 W' → W'.cell? ⟨w.heap.size, 0, none⟩ = some (.int .i64 z) := fun W' h => c00 W' (bl_then hb1 h)
  have d1 : ∀ W', Below w1.heap.size w1 W' → W'.cell? ⟨w.heap.size, 1, none⟩ = some (.int .i64 x) := fun W' h => c01 W' (bl_then hb1 h)
  have d2 : ∀ W', Below w1.heap.size w1 W' → W'.cell? ⟨w.heap.size, 2, none⟩ = some (.int .i64 y) := fun W' h => c02 W' (bl_then hb1 h)
  have e0 := d0 w1 (Below.refl _ _)
  have e1 := d1 w1 (Below.refl _ _)
  have e2 := d2 w1 (Below.refl _ _)
  clear hb1 HT HB0 c00 c01 c02 hsz
  have hp : Hid (parV z x y = if refB z x y = true then (if z = 0 then rrV 4 0 0 0 else rrV 0 (z - 1) (x / 2) (y / 2)) else rrV 3 0 0 0) := rfl
  have hT' := HT1.out
  have t0 := hT'.cell 0 (by omega)
  have t1 := hT'.cell 1 (by omega)
  have t2 := hT'.cell 2 (by omega)
  have t3 := hT'.cell 3 (by omega)
  have f0 := (hT' 0 (by omega)).2
  have f1 := (hT' 1 (by omega)).2
  have f2 := (hT' 2 (by omega)).2
  have f3 := (hT' 3 (by omega)).2
  clear hT'
  rcases refC_cases z x y with ⟨hc, hr⟩ | ⟨hc, hr⟩
  · simp only [hc]
    by_cases hz : z = 0
    · subst hz
      have hq : Hid (parV 0 x y = rrV 4 0 0 0) := by show _ = _; rw [hp.out]; simp [hr]
      clear hr hc hp
      go_wp2_with fail
      obtain ⟨q0, q1, q2, q3⟩ := set4_at (a := .int .i64 4) (b := .int .i64 0) (c := .int .i64 0) (d := .int .i64 0) HT1.out
      refine bodyPost_ret (v := rrV 4 0 0 0) (by simp [results, Try.results9, go_sem, q0, q1, q2, q3]) rfl ⟨by rw [hq.out], ?_⟩
      have HB := HB1.out
      (repeat (first | exact Below.refl _ _ | assumption | refine Below.drew ?_ | refine bl_alloc ?_ _ | refine bl_then ?_ (by assumption) | refine Below.setCell ?_ (by first | omega | (simp; done) | (simp; omega)) _ | refine bl_store ?_ ?_ _ _))
    · have hq : Hid (parV z x y = rrV 0 (z - 1) (x / 2) (y / 2)) := by show _ = _; rw [hp.out]; simp [hr, hz]
      have HR : Hid (refB z x y = true) := hr
      clear hr hc hp t0 t1 t2 t3 f0 f1 f2 f3
      go_wp2_with fail
      refine (parent_any z x y _ HR.out).mono ?_
      rintro e w2 ⟨rfl, hb2⟩
      have hT' := HT1.out.below hb2
      have HT2 : Hid (There w2 (w.heap.size + 1) 4) := hT'
      have t0 := hT'.cell 0 (by omega)
      have t1 := hT'.cell 1 (by omega)
      have t2 := hT'.cell 2 (by omega)
      have t3 := hT'.cell 3 (by omega)
      have f0 := (hT' 0 (by omega)).2
      have f1 := (hT' 1 (by omega)).2
      have f2 := (hT' 2 (by omega)).2
      have f3 := (hT' 3 (by omega)).2
      have HB2 : Hid (Below w.heap.size w w2) := bl_then HB1.out hb2
      have hsz2 : w.heap.size + 1 < w2.heap.size := Nat.lt_of_lt_of_le hsz1 hb2.size
      clear hT' hb2
      go_wp2_with fail
      obtain ⟨q0, q1, q2, q3⟩ := set4_at (a := .int .i64 0) (b := .int .i64 (z - 1)) (c := .int .i64 (x / 2)) (d := .int .i64 (y / 2)) HT2.out
      refine bodyPost_ret (v := rrV 0 (z - 1) (x / 2) (y / 2)) (by simp [results, Try.results9, go_sem, q0, q1, q2, q3]) rfl ⟨by rw [hq.out], ?_⟩
      have HB := HB2.out
      (repeat (first | exact Below.refl _ _ | assumption | refine Below.drew ?_ | refine bl_alloc ?_ _ | refine bl_then ?_ (by assumption) | refine Below.setCell ?_ (by first | omega | (simp; done) | (simp; omega)) _ | refine bl_store ?_ ?_ _ _))
  · simp only [hc]
    have hq : Hid (parV z x y = rrV 3 0 0 0) := by show _ = _; rw [hp.out]; simp [hr]
    clear hr hc hp
    go_wp2_with fail
    obtain ⟨q0, q1, q2, q3⟩ := set4_at (a := .int .i64 3) (b := .int .i64 0) (c := .int .i64 0) (d := .int .i64 0) HT1.out
    refine bodyPost_ret (v := rrV 3 0 0 0) (by simp [results, Try.results9, go_sem, q0, q1, q2, q3]) rfl ⟨by rw [hq.out], ?_⟩
    have HB := HB1.out
    (repeat (first | exact Below.refl _ _ | assumption | refine Below.drew ?_ | refine bl_alloc ?_ _ | refine bl_then ?_ (by assumption) | refine Below.setCell ?_ (by first | omega | (simp; done) | (simp; omega)) _ | refine bl_store ?_ ?_ _ _))
theorem toRef_any (z x y : Int) (w : World) : Calls Try.prog 13 #[refV z x y] w fun e w' => e = .returned (refV z x y) ∧ Below w.heap.size w w' := by
  go_enter Try.func13, Try.ntmps13
  go_wp2
  exact bodyPost_ret (v := refV z x y) (by simp [results, Try.results13, go_sem]) rfl ⟨rfl, by (repeat (first | exact Below.refl _ _ | assumption | refine Below.drew ?_ | refine bl_alloc ?_ _ | refine bl_then ?_ (by assumption) | refine Below.setCell ?_ (by first | omega | (simp; done) | (simp; omega)) _ | refine bl_store ?_ ?_ _ _))⟩
end Go.Proofs.Ytjkmjkfakolpfaa
