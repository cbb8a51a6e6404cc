/- The program's FindBox, whatever it is asked. -/
import Derived.Test.YtjnhaigmfjndhaaVFindBox40
namespace Go.Proofs.Ytjnhaigmfjndhaa
open Go.RowKit
set_option linter.unusedSimpArgs false
set_option linter.unusedVariables false
set_option maxRecDepth 100000

set_option maxHeartbeats 2000000 in
theorem impl_FindBox_any (p off n cap : Nat) (Q : Nat → Qd) (x0 x1 x2 x3 : Int) (w : World) (hQ : QsAt w w.heap.size p off n Q) (hn : n ≤ 1048576) (hcap : n ≤ cap) (hen : ∀ i, i < n → (Q i).en ≤ 1048576) (hall : (allE Q n).length ≤ 1048576) :
    Calls Try.prog 9 #[.slice (some ⟨p, off, none⟩) n cap, .agg #[.int .i64 x0, .int .i64 x1, .int .i64 x2, .int .i64 x3]] w fun e w' => ∃ v, e = .returned (.agg #[.int .i64 (fbC Q n x0 x1 x2 x3), v]) ∧ OwnN w' w.heap.size v (fbL Q n x0 x1 x2 x3).length (nz (fbL Q n x0 x1 x2 x3)) ∧ Below w.heap.size w w' := by
  by_cases hok : quadsC Q n = 0 ∧ boxC x0 x1 x2 x3 = 0
  · have hC : fbC Q n x0 x1 x2 x3 = 0 := by simp [fbC, hok.1, hok.2]
    have hL : fbL Q n x0 x1 x2 x3 = (rawP x0 x1 x2 x3 (allE Q n)).mergeSort fun x y => decide (x ≤ y) := by unfold fbL; rw [if_pos hC, rawP_all]
    rw [hC, hL]
    refine (impl_FindBox_ok p off n cap Q x0 x1 x2 x3 w hQ hn hcap hen hall hok.1 hok.2).mono ?_
    rintro e w' ⟨v, he, hR, hb⟩
    exact ⟨v, he, hR.own, hb⟩
  have HQF : Hid (∀ W, Below w.heap.size w W → Calls Try.prog 27 #[.slice (some ⟨p, off, none⟩) n cap] W fun e w' => e = .returned (.int .i64 (quadsC Q n)) ∧ Below W.heap.size W w') := fun W hb => impl_QuadsFault_any p off n cap Q W (hQ.now hb) hn hcap hen hall
  clear hQ hen hall
  go_enter Try.func9, Try.ntmps9
  go_wp2_with fail
  generalize hW : ((w.alloc _).alloc _ : World) = W
  have hB0 : Below w.heap.size w W := by subst hW; (repeat (first | exact Below.refl _ _ | assumption | refine Below.drew ?_ | refine bl_alloc ?_ _ | refine bl_then ?_ (by assumption) | refine Below.setCell ?_ (by first | omega | (simp; done) | (simp; omega)) _ | refine bl_store ?_ ?_ _ _))
  have HT : Hid (There W (w.heap.size + 1) 2) := by
    show There _ _ _
    subst hW
    have := there2e (w.alloc (.cells #[.int .i64 x0, .int .i64 x1, .int .i64 x2, .int .i64 x3] 36)) (.int .i64 0) (.slice none 0 0) 30
    simpa using this
  have c00 : ∀ W', Below W.heap.size W W' → W'.cell? ⟨w.heap.size, 0, none⟩ = some (.int .i64 x0) := fun W' h => by
    rw [h.cell (by subst hW; simp <;> omega)]; subst hW; simp [go_sem]
  have c01 : ∀ W', Below W.heap.size W W' → W'.cell? ⟨w.heap.size, 1, none⟩ = some (.int .i64 x1) := fun W' h => by
    rw [h.cell (by subst hW; simp <;> omega)]; subst hW; simp [go_sem]
  have c02 : ∀ W', Below W.heap.size W W' → W'.cell? ⟨w.heap.size, 2, none⟩ = some (.int .i64 x2) := fun W' h => by
    rw [h.cell (by subst hW; simp <;> omega)]; subst hW; simp [go_sem]
  have c03 : ∀ W', Below W.heap.size W W' → W'.cell? ⟨w.heap.size, 3, none⟩ = some (.int .i64 x3) := fun W' h => by
    rw [h.cell (by subst hW; simp <;> omega)]; subst hW; simp [go_sem]
  have hsz : w.heap.size + 1 < W.heap.size := by subst hW; simp
  clear hW
  refine (HQF.out W hB0).mono ?_
  rintro e w1 ⟨rfl, hb1⟩
  have HB1 : Hid (Below w.heap.size w w1) := bl_then hB0 hb1
  have HT1 : Hid (There w1 (w.heap.size + 1) 2) := HT.out.below hb1
  have hsz1 : w.heap.size + 1 < w1.heap.size := Nat.lt_of_lt_of_le hsz hb1.size
  have d0 : w1.cell? ⟨w.heap.size, 0, none⟩ = some (.int .i64 x0) := c00 w1 hb1
  have d1 : w1.cell? ⟨w.heap.size, 1, none⟩ = some (.int .i64 x1) := c01 w1 hb1
  have d2 : w1.cell? ⟨w.heap.size, 2, none⟩ = some (.int .i64 x2) := c02 w1 hb1
  have d3 : w1.cell? ⟨w.heap.size, 3, none⟩ = some (.int .i64 x3) := c03 w1 hb1
  clear hB0 hb1 HT hsz c00 c01 c02 c03 HQF
  by_cases hc : quadsC Q n = 0
  · have hbc : boxC x0 x1 x2 x3 ≠ 0 := fun h => hok ⟨hc, h⟩
    have HFC : Hid (fbC Q n x0 x1 x2 x3 = boxC x0 x1 x2 x3) := by show _ = _; simp [fbC, hc]
    have HL : Hid (fbL Q n x0 x1 x2 x3 = []) := by show _ = _; unfold fbL; rw [HFC.out, if_neg hbc]
    rw [hc]
    clear hc hok
    go_wp2_with fail
    refine (boxFault_any x0 x1 x2 x3 _).mono ?_
    rintro e w2 ⟨rfl, hb2⟩
    have HB2 : Hid (Below w.heap.size w w2) := bl_then HB1.out hb2
    have hT' := HT1.out.below hb2
    have t0 := hT'.cell 0 (by omega)
    have t1 := hT'.cell 1 (by omega)
    have f0 := (hT' 0 (by omega)).2
    have f1 := (hT' 1 (by omega)).2
    clear hT' hb2
    generalize boxC x0 x1 x2 x3 = bc at *
    go_wp2_with fail
    obtain ⟨q0, q1⟩ := set2_at (u := .int .i64 bc) (v := .slice none 0 0) (show (0 : Nat) ≠ 1 by omega) (by rw [t0]; rfl) (by rw [t1]; rfl)
    refine bodyPost_ret (v := .agg #[.int .i64 bc, .slice none 0 0]) (by simp [results, Try.results9, go_sem, q0, q1]) rfl ⟨_, by rw [HFC.out], by rw [HL.out]; exact ⟨none, 0, rfl, Nat.le_refl _, .inl rfl⟩, ?_⟩
    have HB := HB2.out
    (repeat (first | exact Below.refl _ _ | assumption | refine Below.drew ?_ | refine bl_alloc ?_ _ | refine bl_then ?_ (by assumption) | refine Below.setCell ?_ (by first | omega | (simp; done) | (simp; omega)) _ | refine bl_store ?_ ?_ _ _))
  · have HFC : Hid (fbC Q n x0 x1 x2 x3 = quadsC Q n) := by show _ = _; simp [fbC, hc]
    have HL : Hid (fbL Q n x0 x1 x2 x3 = []) := by show _ = _; unfold fbL; rw [HFC.out, if_neg hc]
    clear hok
    generalize quadsC Q n = qc at *
    have hT' := HT1.out
    have t0 := hT'.cell 0 (by omega)
    have t1 := hT'.cell 1 (by omega)
    have f0 := (hT' 0 (by omega)).2
    have f1 := (hT' 1 (by omega)).2
    clear hT'
    go_wp2_with fail
    obtain ⟨q0, q1⟩ := set2_at (u := .int .i64 qc) (v := .slice none 0 0) (show (0 : Nat) ≠ 1 by omega) (by rw [t0]; rfl) (by rw [t1]; rfl)
    refine bodyPost_ret (v := .agg #[.int .i64 qc, .slice none 0 0]) (by simp [results, Try.results9, go_sem, q0, q1]) rfl ⟨_, by rw [HFC.out], by rw [HL.out]; exact ⟨none, 0, rfl, Nat.le_refl _, .inl rfl⟩, ?_⟩
    have HB := HB1.out
    (repeat (first | exact Below.refl _ _ | assumption | refine Below.drew ?_ | refine bl_alloc ?_ _ | refine bl_then ?_ (by assumption) | refine Below.setCell ?_ (by first | omega | (simp; done) | (simp; omega)) _ | refine bl_store ?_ ?_ _ _))
end Go.Proofs.Ytjnhaigmfjndhaa
