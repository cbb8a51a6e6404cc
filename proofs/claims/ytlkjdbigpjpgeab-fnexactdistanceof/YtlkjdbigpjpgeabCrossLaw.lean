/- The laws of CrossOf and DistanceOf hold where the model and the program answer the same. -/
import Derived.Test.YtlkjdbigpjpgeabLeaf
import Derived.Test.YtlkjdbigpjpgeabReg
import Derived.Deep.RegionHeld3
import Derived.Deep.DeepCutAuto
namespace Go.Proofs.Ytlkjdbigpjpgeab
open Go.RowKit
set_option linter.unusedSimpArgs false
set_option linter.unusedVariables false

set_option maxHeartbeats 2000000 in
/-- The law out of the two contracts. -/
theorem FnExactCrossOf_law (mx my nx ny ox oy c v : Int) (w : World)
    (hsp : ∀ w, Calls Try.prog 9 #[.agg #[.int .i64 mx, .int .i64 my], .agg #[.int .i64 nx, .int .i64 ny], .agg #[.int .i64 ox, .int .i64 oy]] w fun e w' => e = .returned (.agg #[.int .i64 c, .int .i64 v]) ∧ Below w.heap.size w w')
    (him : ∀ w, Calls Try.prog 11 #[.agg #[.int .i64 mx, .int .i64 my], .agg #[.int .i64 nx, .int .i64 ny], .agg #[.int .i64 ox, .int .i64 oy]] w fun e w' => e = .returned (.agg #[.int .i64 c, .int .i64 v]) ∧ Below w.heap.size w w') :
    Calls Try.prog 3 #[.agg #[.int .i64 mx, .int .i64 my], .agg #[.int .i64 nx, .int .i64 ny], .agg #[.int .i64 ox, .int .i64 oy]] w fun e w' => e = .returned (.bool true) ∧ Below w.heap.size w w' := by
  have Hsp := (show Hid _ from hsp)
  have Him := (show Hid _ from him)
  clear hsp him
  go_enter Try.func3, Try.ntmps3
  go_wp2
  generalize hW : ((((w.alloc _).alloc _).alloc _) : World) = W
  have hB0 : Below w.heap.size w W := by subst hW; (repeat (first | exact Below.refl _ _ | assumption | refine Below.drew ?_ | refine bl_alloc ?_ _ | refine bl_then ?_ (by assumption) | refine Below.setCell ?_ (by first | omega | (simp; done) | (simp; omega)) _ | refine bl_store ?_ ?_ _ _))
  have c00 : ∀ W', Below W.heap.size W W' → W'.cell? ⟨w.heap.size, 0, none⟩ = some (.int .i64 mx) := fun W' h => by
    rw [h.cell (by subst hW; simp <;> omega)]; subst hW; simp [go_sem]
  have c01 : ∀ W', Below W.heap.size W W' → W'.cell? ⟨w.heap.size, 1, none⟩ = some (.int .i64 my) := fun W' h => by
    rw [h.cell (by subst hW; simp <;> omega)]; subst hW; simp [go_sem]
  have c10 : ∀ W', Below W.heap.size W W' → W'.cell? ⟨w.heap.size + 1, 0, none⟩ = some (.int .i64 nx) := fun W' h => by
    rw [h.cell (by subst hW; simp <;> omega)]; subst hW; simp [go_sem]
  have c11 : ∀ W', Below W.heap.size W W' → W'.cell? ⟨w.heap.size + 1, 1, none⟩ = some (.int .i64 ny) := fun W' h => by
    rw [h.cell (by subst hW; simp <;> omega)]; subst hW; simp [go_sem]
  have c20 : ∀ W', Below W.heap.size W W' → W'.cell? ⟨w.heap.size + 1 + 1, 0, none⟩ = some (.int .i64 ox) := fun W' h => by
    rw [h.cell (by subst hW; simp <;> omega)]; subst hW; simp [go_sem]
  have c21 : ∀ W', Below W.heap.size W W' → W'.cell? ⟨w.heap.size + 1 + 1, 1, none⟩ = some (.int .i64 oy) := fun W' h => by
    rw [h.cell (by subst hW; simp <;> omega)]; subst hW; simp [go_sem]
  clear hW
  have HB0 : Hid (Below w.heap.size w W) := hB0
  clear hB0
  go_cut [7] (fun t wc => ∃ b : Nat, t = .pointer (some ⟨b, 0, none⟩) ∧ Below W.heap.size W wc ∧ W.heap.size ≤ b ∧ wc.cell? ⟨b, 0, none⟩ = some (.int .i64 c) ∧ wc.cell? ⟨b, 1, none⟩ = some (.int .i64 v))
  case first =>
    go_region_held3 (fun W' => Below W.heap.size W W') ((repeat (first | exact Below.refl _ _ | assumption | refine Below.drew ?_ | refine bl_alloc ?_ _ | refine bl_then ?_ (by assumption) | refine Below.setCell ?_ (by first | omega | (simp; done) | (simp; omega)) _ | refine bl_store ?_ ?_ _ _)))
      (first
        | (go_at_call 10; refine (toPoint_ex _ _ _).mono ?_; rintro e w' ⟨rfl, rfl⟩)
        | (go_at_call 9; refine (Hsp.out _).mono ?_; rintro e w' ⟨rfl, hb⟩; obtain ⟨hc, hf, hl⟩ := bcell3 hb))
    all_goals
      go_wp2_with fail
      go_meet
      case rel =>
        refine ⟨_, rfl, by assumption, ?_, ?_, ?_⟩
        · first | omega | exact Below.size (B := W.heap.size) (by (repeat (first | exact Below.refl _ _ | assumption | refine Below.drew ?_ | refine bl_alloc ?_ _ | refine bl_then ?_ (by assumption) | refine Below.setCell ?_ (by first | omega | (simp; done) | (simp; omega)) _ | refine bl_store ?_ ?_ _ _)))
        · first | (go_simp; done) | (refine set2_0 ?_; go_simp; done)
        · first | (go_simp; done) | (refine set2_1 ?_; go_simp; done)
  case rest =>
    obtain ⟨b1, rfl, hB1, hb1, d10, d11⟩ := hcut
    have hl1 := World.block_lt_of_cell? _ _ d10
    have e10 : ∀ W', Below wc.heap.size wc W' → W'.cell? ⟨b1, 0, none⟩ = some (.int .i64 c) := fun W' h => (h.cell (p := ⟨b1, 0, none⟩) hl1).trans d10
    have e11 : ∀ W', Below wc.heap.size wc W' → W'.cell? ⟨b1, 1, none⟩ = some (.int .i64 v) := fun W' h => (h.cell (p := ⟨b1, 1, none⟩) hl1).trans d11
    have HBW : Hid (∀ W', Below wc.heap.size wc W' → Below W.heap.size W W') := fun W' h => bl_then hB1 h
    replace c00 := fun W' h => c00 W' (HBW.out W' h)
    replace c01 := fun W' h => c01 W' (HBW.out W' h)
    replace c10 := fun W' h => c10 W' (HBW.out W' h)
    replace c11 := fun W' h => c11 W' (HBW.out W' h)
    replace c20 := fun W' h => c20 W' (HBW.out W' h)
    replace c21 := fun W' h => c21 W' (HBW.out W' h)
    clear d10 d11 hB1
    go_wp2
    go_cut [8] (fun t wx => ∃ b : Nat, t = .pointer (some ⟨b, 0, none⟩) ∧ Below wc.heap.size wc wx ∧ wc.heap.size ≤ b ∧ wx.cell? ⟨b, 0, none⟩ = some (.int .i64 c) ∧ wx.cell? ⟨b, 1, none⟩ = some (.int .i64 v))
    case first =>
      go_region_held3 (fun W' => Below wc.heap.size wc W') ((repeat (first | exact Below.refl _ _ | assumption | refine Below.drew ?_ | refine bl_alloc ?_ _ | refine bl_then ?_ (by assumption) | refine Below.setCell ?_ (by first | omega | (simp; done) | (simp; omega)) _ | refine bl_store ?_ ?_ _ _)))
        (first
          | (go_at_call 10; refine (toPoint_ex _ _ _).mono ?_; rintro e w' ⟨rfl, rfl⟩)
          | (go_at_call 11; refine (Him.out _).mono ?_; rintro e w' ⟨rfl, hb⟩; obtain ⟨hc, hf, hl⟩ := bcell3 hb))
      all_goals
        go_wp2_with fail
        go_meet
        case rel =>
          refine ⟨_, rfl, by assumption, ?_, ?_, ?_⟩
          · first | omega | exact Below.size (B := wc.heap.size) (by (repeat (first | exact Below.refl _ _ | assumption | refine Below.drew ?_ | refine bl_alloc ?_ _ | refine bl_then ?_ (by assumption) | refine Below.setCell ?_ (by first | omega | (simp; done) | (simp; omega)) _ | refine bl_store ?_ ?_ _ _)))
          · first | (go_simp; done) | (refine set2_0 ?_; go_simp; done)
          · first | (go_simp; done) | (refine set2_1 ?_; go_simp; done)
    case rest =>
      obtain ⟨b2, rfl, hB2, hb2, d20, d21⟩ := hcut
      have f10 := e10 _ hB2
      have f11 := e11 _ hB2
      have HB2 : Hid (Below w.heap.size w _) := bl_then HB0.out (HBW.out _ hB2)
      clear hB2 e10 e11 c00 c01 c10 c11 c20 c21
      go_wp2_with (go_at_call 12; refine (eqIntResult_any _ _ _).mono ?_; rintro e w' ⟨rfl, hbz⟩)
      go_ret
      exact ⟨rfl, bl_then HB2.out hbz⟩

set_option maxHeartbeats 2000000 in
/-- The law out of the two contracts. -/
theorem FnExactDistanceOf_law (mx my nx ny c v : Int) (w : World)
    (hsp : ∀ w, Calls Try.prog 13 #[.agg #[.int .i64 mx, .int .i64 my], .agg #[.int .i64 nx, .int .i64 ny]] w fun e w' => e = .returned (.agg #[.int .i64 c, .int .i64 v]) ∧ Below w.heap.size w w')
    (him : ∀ w, Calls Try.prog 14 #[.agg #[.int .i64 mx, .int .i64 my], .agg #[.int .i64 nx, .int .i64 ny]] w fun e w' => e = .returned (.agg #[.int .i64 c, .int .i64 v]) ∧ Below w.heap.size w w') :
    Calls Try.prog 4 #[.agg #[.int .i64 mx, .int .i64 my], .agg #[.int .i64 nx, .int .i64 ny]] w fun e w' => e = .returned (.bool true) ∧ Below w.heap.size w w' := by
  have Hsp := (show Hid _ from hsp)
  have Him := (show Hid _ from him)
  clear hsp him
  go_enter Try.func4, Try.ntmps4
  go_wp2
  generalize hW : (((w.alloc _).alloc _) : World) = W
  have hB0 : Below w.heap.size w W := by subst hW; (repeat (first | exact Below.refl _ _ | assumption | refine Below.drew ?_ | refine bl_alloc ?_ _ | refine bl_then ?_ (by assumption) | refine Below.setCell ?_ (by first | omega | (simp; done) | (simp; omega)) _ | refine bl_store ?_ ?_ _ _))
  have c00 : ∀ W', Below W.heap.size W W' → W'.cell? ⟨w.heap.size, 0, none⟩ = some (.int .i64 mx) := fun W' h => by
    rw [h.cell (by subst hW; simp <;> omega)]; subst hW; simp [go_sem]
  have c01 : ∀ W', Below W.heap.size W W' → W'.cell? ⟨w.heap.size, 1, none⟩ = some (.int .i64 my) := fun W' h => by
    rw [h.cell (by subst hW; simp <;> omega)]; subst hW; simp [go_sem]
  have c10 : ∀ W', Below W.heap.size W W' → W'.cell? ⟨w.heap.size + 1, 0, none⟩ = some (.int .i64 nx) := fun W' h => by
    rw [h.cell (by subst hW; simp <;> omega)]; subst hW; simp [go_sem]
  have c11 : ∀ W', Below W.heap.size W W' → W'.cell? ⟨w.heap.size + 1, 1, none⟩ = some (.int .i64 ny) := fun W' h => by
    rw [h.cell (by subst hW; simp <;> omega)]; subst hW; simp [go_sem]
  clear hW
  have HB0 : Hid (Below w.heap.size w W) := hB0
  clear hB0
  go_cut [5] (fun t wc => ∃ b : Nat, t = .pointer (some ⟨b, 0, none⟩) ∧ Below W.heap.size W wc ∧ W.heap.size ≤ b ∧ wc.cell? ⟨b, 0, none⟩ = some (.int .i64 c) ∧ wc.cell? ⟨b, 1, none⟩ = some (.int .i64 v))
  case first =>
    go_region_held3 (fun W' => Below W.heap.size W W') ((repeat (first | exact Below.refl _ _ | assumption | refine Below.drew ?_ | refine bl_alloc ?_ _ | refine bl_then ?_ (by assumption) | refine Below.setCell ?_ (by first | omega | (simp; done) | (simp; omega)) _ | refine bl_store ?_ ?_ _ _)))
      (first
        | (go_at_call 10; refine (toPoint_ex _ _ _).mono ?_; rintro e w' ⟨rfl, rfl⟩)
        | (go_at_call 13; refine (Hsp.out _).mono ?_; rintro e w' ⟨rfl, hb⟩; obtain ⟨hc, hf, hl⟩ := bcell3 hb))
    all_goals
      go_wp2_with fail
      go_meet
      case rel =>
        refine ⟨_, rfl, by assumption, ?_, ?_, ?_⟩
        · first | omega | exact Below.size (B := W.heap.size) (by (repeat (first | exact Below.refl _ _ | assumption | refine Below.drew ?_ | refine bl_alloc ?_ _ | refine bl_then ?_ (by assumption) | refine Below.setCell ?_ (by first | omega | (simp; done) | (simp; omega)) _ | refine bl_store ?_ ?_ _ _)))
        · first | (go_simp; done) | (refine set2_0 ?_; go_simp; done)
        · first | (go_simp; done) | (refine set2_1 ?_; go_simp; done)
  case rest =>
    obtain ⟨b1, rfl, hB1, hb1, d10, d11⟩ := hcut
    have hl1 := World.block_lt_of_cell? _ _ d10
    have e10 : ∀ W', Below wc.heap.size wc W' → W'.cell? ⟨b1, 0, none⟩ = some (.int .i64 c) := fun W' h => (h.cell (p := ⟨b1, 0, none⟩) hl1).trans d10
    have e11 : ∀ W', Below wc.heap.size wc W' → W'.cell? ⟨b1, 1, none⟩ = some (.int .i64 v) := fun W' h => (h.cell (p := ⟨b1, 1, none⟩) hl1).trans d11
    have HBW : Hid (∀ W', Below wc.heap.size wc W' → Below W.heap.size W W') := fun W' h => bl_then hB1 h
    replace c00 := fun W' h => c00 W' (HBW.out W' h)
    replace c01 := fun W' h => c01 W' (HBW.out W' h)
    replace c10 := fun W' h => c10 W' (HBW.out W' h)
    replace c11 := fun W' h => c11 W' (HBW.out W' h)
    clear d10 d11 hB1
    go_wp2
    go_cut [6] (fun t wx => ∃ b : Nat, t = .pointer (some ⟨b, 0, none⟩) ∧ Below wc.heap.size wc wx ∧ wc.heap.size ≤ b ∧ wx.cell? ⟨b, 0, none⟩ = some (.int .i64 c) ∧ wx.cell? ⟨b, 1, none⟩ = some (.int .i64 v))
    case first =>
      go_region_held3 (fun W' => Below wc.heap.size wc W') ((repeat (first | exact Below.refl _ _ | assumption | refine Below.drew ?_ | refine bl_alloc ?_ _ | refine bl_then ?_ (by assumption) | refine Below.setCell ?_ (by first | omega | (simp; done) | (simp; omega)) _ | refine bl_store ?_ ?_ _ _)))
        (first
          | (go_at_call 10; refine (toPoint_ex _ _ _).mono ?_; rintro e w' ⟨rfl, rfl⟩)
          | (go_at_call 14; refine (Him.out _).mono ?_; rintro e w' ⟨rfl, hb⟩; obtain ⟨hc, hf, hl⟩ := bcell3 hb))
      all_goals
        go_wp2_with fail
        go_meet
        case rel =>
          refine ⟨_, rfl, by assumption, ?_, ?_, ?_⟩
          · first | omega | exact Below.size (B := wc.heap.size) (by (repeat (first | exact Below.refl _ _ | assumption | refine Below.drew ?_ | refine bl_alloc ?_ _ | refine bl_then ?_ (by assumption) | refine Below.setCell ?_ (by first | omega | (simp; done) | (simp; omega)) _ | refine bl_store ?_ ?_ _ _)))
          · first | (go_simp; done) | (refine set2_0 ?_; go_simp; done)
          · first | (go_simp; done) | (refine set2_1 ?_; go_simp; done)
    case rest =>
      obtain ⟨b2, rfl, hB2, hb2, d20, d21⟩ := hcut
      have f10 := e10 _ hB2
      have f11 := e11 _ hB2
      have HB2 : Hid (Below w.heap.size w _) := bl_then HB0.out (HBW.out _ hB2)
      clear hB2 e10 e11 c00 c01 c10 c11
      go_wp2_with (go_at_call 12; refine (eqIntResult_any _ _ _).mono ?_; rintro e w' ⟨rfl, hbz⟩)
      go_ret
      exact ⟨rfl, bl_then HB2.out hbz⟩
end Go.Proofs.Ytlkjdbigpjpgeab
