/- Several texts in one. -/
import Derived.Test.YthadmnhpjklmiaaGreatVServeTile1
import Derived.Deep.RegionHeld3
import Derived.Deep.DeepCutAuto
import Derived.Test.YthadmnhpjklmiaaGreatVServeTile18
import Derived.Test.YthadmnhpjklmiaaGreatVServeTile5

/- l1Box of the model: the least box of a list. -/

namespace Go.Proofs.YthadmnhpjklmiaaGreat
open Go.RowKit
set_option linter.unusedSimpArgs false
set_option linter.unusedVariables false

/-- The lesser, the greater number. -/
def mnI (a b : Int) : Int := if a < b then a else b
def mxI (a b : Int) : Int := if b < a then a else b
theorem l1Min_any (a b : Int) (w : World) : Calls Tryz.prog 108 #[.int .i64 a, .int .i64 b] w fun e w' => e = .returned (.int .i64 (mnI a b)) ∧ w' = w := by
  unfold mnI
  by_cases h : a < b
  · rw [if_pos h]
    go_enter Tryz.func108, Tryz.ntmps108
    go_wp2
    go_ret
    exact ⟨rfl, rfl⟩
  · rw [if_neg h]
    go_enter Tryz.func108, Tryz.ntmps108
    go_wp2
    go_ret
    exact ⟨rfl, rfl⟩
theorem l1Max_any (a b : Int) (w : World) : Calls Tryz.prog 109 #[.int .i64 a, .int .i64 b] w fun e w' => e = .returned (.int .i64 (mxI a b)) ∧ w' = w := by
  unfold mxI
  by_cases h : b < a
  · rw [if_pos h]
    go_enter Tryz.func109, Tryz.ntmps109
    go_wp2
    go_ret
    exact ⟨rfl, rfl⟩
  · rw [if_neg h]
    go_enter Tryz.func109, Tryz.ntmps109
    go_wp2
    go_ret
    exact ⟨rfl, rfl⟩
/-- The least, the greatest of the first k. -/
def mnTo (X : Nat → Int) : Nat → Int
  | 0 => X 0
  | k + 1 => mnI (mnTo X k) (X k)
def mxTo (X : Nat → Int) : Nat → Int
  | 0 => X 0
  | k + 1 => mxI (mxTo X k) (X k)
theorem mnTo_one (X : Nat → Int) : mnTo X 1 = X 0 := by simp [mnTo, mnI]
theorem mxTo_one (X : Nat → Int) : mxTo X 1 = X 0 := by simp [mxTo, mxI]

set_option maxHeartbeats 8000000 in
theorem l1Box_any (b n cap : Nat) (X Y : Nat → Int) (w : World) (hpt : PtsAt w b 0 n X Y) (hbl : b < w.heap.size) (hn : 0 < n) (hcap : n ≤ cap) (hmax : n ≤ 1048576) :
    Calls Tryz.prog 74 #[.slice (some ⟨b, 0, none⟩) n cap] w fun e w' => e = .returned (.agg #[.int .i64 (mnTo X n), .int .i64 (mnTo Y n), .int .i64 (mxTo X n), .int .i64 (mxTo Y n)]) ∧ Below w.heap.size w w' := by
  have HQ : Hid (PtsAt w b 0 n X Y) := hpt
  clear hpt
  have hnp : (0 : Int) < (n : Int) := by omega
  go_enter Tryz.func74, Tryz.ntmps74
  go_wp2
  generalize hW : (w.alloc _ : World) = W
  have hB0 : Below w.heap.size w W := by subst hW; (repeat (first | exact Below.refl _ _ | assumption | refine Below.drew ?_ | refine bl_alloc ?_ _ | refine bl_then ?_ (by assumption) | refine Below.setCell ?_ (by first | omega | (simp; done) | (simp; omega)) _ | refine bl_store ?_ ?_ _ _))
  have hQ1 := HQ.out.below hB0 hbl
  have hblW : b < W.heap.size := Nat.lt_of_lt_of_le hbl hB0.size
  have d0 : ∀ W', Below W.heap.size W W' → W'.cell? ⟨b, 0, none⟩ = some (.int .i64 (X 0)) := fun W' h => by
    simpa using (hQ1.below h hblW 0 hn).1
  have d1 : ∀ W', Below W.heap.size W W' → W'.cell? ⟨b, 1, none⟩ = some (.int .i64 (Y 0)) := fun W' h => by
    simpa using (hQ1.below h hblW 0 hn).2
  have c00 : ∀ W', Below W.heap.size W W' → W'.cell? ⟨w.heap.size, 0, none⟩ = some (.int .i64 0) := fun W' h => by
    rw [h.cell (by subst hW; simp <;> omega)]; subst hW; simp [go_sem]
  have c01 : ∀ W', Below W.heap.size W W' → W'.cell? ⟨w.heap.size, 1, none⟩ = some (.int .i64 0) := fun W' h => by
    rw [h.cell (by subst hW; simp <;> omega)]; subst hW; simp [go_sem]
  have c02 : ∀ W', Below W.heap.size W W' → W'.cell? ⟨w.heap.size, 2, none⟩ = some (.int .i64 0) := fun W' h => by
    rw [h.cell (by subst hW; simp <;> omega)]; subst hW; simp [go_sem]
  have c03 : ∀ W', Below W.heap.size W W' → W'.cell? ⟨w.heap.size, 3, none⟩ = some (.int .i64 0) := fun W' h => by
    rw [h.cell (by subst hW; simp <;> omega)]; subst hW; simp [go_sem]
  have z00 : ∀ W', Below W.heap.size W W' → W'.frozen? ⟨w.heap.size, 0, none⟩ = false := fun W' h => by
    rw [h.frozen (by subst hW; simp <;> omega)]; subst hW; simp [go_sem]
  have z01 : ∀ W', Below W.heap.size W W' → W'.frozen? ⟨w.heap.size, 1, none⟩ = false := fun W' h => by
    rw [h.frozen (by subst hW; simp <;> omega)]; subst hW; simp [go_sem]
  have z02 : ∀ W', Below W.heap.size W W' → W'.frozen? ⟨w.heap.size, 2, none⟩ = false := fun W' h => by
    rw [h.frozen (by subst hW; simp <;> omega)]; subst hW; simp [go_sem]
  have z03 : ∀ W', Below W.heap.size W W' → W'.frozen? ⟨w.heap.size, 3, none⟩ = false := fun W' h => by
    rw [h.frozen (by subst hW; simp <;> omega)]; subst hW; simp [go_sem]
  clear hW
  have HWl : Hid (w.heap.size < W.heap.size) := World.block_lt_of_cell? _ _ (c00 W (Below.refl _ _))
  have HQ1 : Hid (PtsAt W b 0 n X Y) := hQ1
  have HB0 : Hid (Below w.heap.size w W) := hB0
  clear hB0 hQ1
  go_region_held3 (fun W' => Below W.heap.size W W') ((repeat (first | exact Below.refl _ _ | assumption | refine Below.drew ?_ | refine bl_alloc ?_ _ | refine bl_then ?_ (by assumption) | refine Below.setCell ?_ (by first | omega | (simp; done) | (simp; omega)) _ | refine bl_store ?_ ?_ _ _))) (fail)
  go_wp2
  go_loopw [4] (fun i wr => ∃ k : Nat, 1 ≤ k ∧ k ≤ n ∧ i = .int .i64 k ∧ Below W.heap.size W wr ∧ wr.cell? ⟨W.heap.size, 0, none⟩ = some (.int .i64 (mnTo X k)) ∧ wr.cell? ⟨W.heap.size, 1, none⟩ = some (.int .i64 (mnTo Y k)) ∧ wr.cell? ⟨W.heap.size, 2, none⟩ = some (.int .i64 (mxTo X k)) ∧ wr.cell? ⟨W.heap.size, 3, none⟩ = some (.int .i64 (mxTo Y k)) ∧ (∀ o, o < 4 → wr.frozen? ⟨W.heap.size, o, none⟩ = false)) (fun i _ => n - (intOf i).toNat)
  case atStart => exact ⟨1, by omega, by omega, rfl, by (repeat (first | exact Below.refl _ _ | assumption | refine Below.drew ?_ | refine bl_alloc ?_ _ | refine bl_then ?_ (by assumption) | refine Below.setCell ?_ (by first | omega | (simp; done) | (simp; omega)) _ | refine bl_store ?_ ?_ _ _)), by simp [go_sem, mnTo_one], by simp [go_sem, mnTo_one], by simp [go_sem, mxTo_one], by simp [go_sem, mxTo_one], fun o ho => by simp [go_sem]⟩
  case round =>
    obtain ⟨k, hk1, hk, rfl, hB, o0, o1, o2, o3, fz⟩ := hrel
    by_cases hlt : k < n
    · obtain ⟨hx, hy⟩ := (HQ1.out.below hB hblW) k hlt
      simp only [Nat.zero_add] at hx hy
      have z0 := fz 0 (by omega)
      have z1 := fz 1 (by omega)
      have z2 := fz 2 (by omega)
      have z3 := fz 3 (by omega)
      have hi : (k : Int) < (n : Int) := by omega
      have hi0 : (0 : Int) ≤ (k : Int) := by omega
      have HB : Hid (Below W.heap.size W wr) := hB
      generalize hA : mnTo X k = A at *
      generalize hA' : mnTo Y k = A' at *
      generalize hC : mxTo X k = C at *
      generalize hC' : mxTo Y k = C' at *
      generalize hx1 : X k = x at *
      generalize hy1 : Y k = y at *
      have KA : Hid (mnTo X k = A) := hA
      have KA' : Hid (mnTo Y k = A') := hA'
      have KC : Hid (mxTo X k = C) := hC
      have KC' : Hid (mxTo Y k = C') := hC'
      have Kx : Hid (X k = x) := hx1
      have Ky : Hid (Y k = y) := hy1
      clear hA hA' hC hC' hx1 hy1 hB fz d0 d1 c00 c01 c02 c03 z00 z01 z02 z03
      go_wp2
      refine wp_region_noPanic ?_
      refine wp_region_L (S := fun W' => W' = wr.drew) (z := 20) (by kernel_rfl) ?_
      have hSt : (fun W' => W' = wr.drew) wr.drew := rfl
      refine wpAnyL_take (i := 0) (v := ?v0) rfl (by kernel_rfl) (by kernel_rfl) (by kernel_rfl) (by kernel_rfl) (fun _ _ _ h => h) (Or.inl ⟨by rfl, ?hy0⟩) (by rfl) ?_
      case hy0 => (intro w hSw; go_simp <;> with_reducible rfl)
      try simp only [Act.put, List.setIfInBounds_toArray, List.set_cons_zero, List.set_cons_succ]
      refine wpAnyL_take (i := 1) (v := ?v1) rfl (by kernel_rfl) (by kernel_rfl) (by kernel_rfl) (by kernel_rfl) (fun _ _ _ h => h) (Or.inl ⟨by rfl, ?hy1⟩) (by rfl) ?_
      case hy1 => (intro w hSw; go_simp <;> with_reducible rfl)
      try simp only [Act.put, List.setIfInBounds_toArray, List.set_cons_zero, List.set_cons_succ]
      refine wpAnyL_take (i := 2) (v := ?v2) rfl (by kernel_rfl) (by kernel_rfl) (by kernel_rfl) (by kernel_rfl) (fun _ _ _ h => h) (Or.inl ⟨by rfl, ?hy2⟩) (by rfl) ?_
      case hy2 => (intro w hSw; go_simp <;> with_reducible rfl)
      try simp only [Act.put, List.setIfInBounds_toArray, List.set_cons_zero, List.set_cons_succ]
      refine wpAnyL_take (i := 3) (v := ?v3) rfl (by kernel_rfl) (by kernel_rfl) (by kernel_rfl) (by kernel_rfl) (fun _ _ _ h => h) (Or.inl ⟨by rfl, ?hy3⟩) (by rfl) ?_
      case hy3 => (intro w hSw; go_simp <;> with_reducible rfl)
      try simp only [Act.put, List.setIfInBounds_toArray, List.set_cons_zero, List.set_cons_succ]
      refine wpAnyL_take (i := 4) (v := ?v4) rfl (by kernel_rfl) (by kernel_rfl) (by kernel_rfl) (by kernel_rfl) (fun _ _ _ h => h) (Or.inl ⟨by rfl, ?hy4⟩) (by rfl) ?_
      case hy4 => (intro w hSw; go_simp <;> with_reducible rfl)
      try simp only [Act.put, List.setIfInBounds_toArray, List.set_cons_zero, List.set_cons_succ]
      refine wpAnyL_take (i := 5) (v := ?v5) rfl (by kernel_rfl) (by kernel_rfl) (by kernel_rfl) (by kernel_rfl) (fun _ _ _ h => h) (Or.inl ⟨by rfl, ?hy5⟩) (by rfl) ?_
      case hy5 => (intro w hSw; go_simp <;> with_reducible rfl)
      try simp only [Act.put, List.setIfInBounds_toArray, List.set_cons_zero, List.set_cons_succ]
      refine wpAnyL_take (i := 6) (v := ?v6) rfl (by kernel_rfl) (by kernel_rfl) (by kernel_rfl) (by kernel_rfl) (fun _ _ _ h => h) (Or.inl ⟨by rfl, ?hy6⟩) (by rfl) ?_
      case hy6 => (intro w hSw; go_simp <;> with_reducible rfl)
      try simp only [Act.put, List.setIfInBounds_toArray, List.set_cons_zero, List.set_cons_succ]
      refine wpAnyL_take (i := 7) (v := ?v7) rfl (by kernel_rfl) (by kernel_rfl) (by kernel_rfl) (by kernel_rfl) (fun _ _ _ h => h) (Or.inl ⟨by rfl, ?hy7⟩) (by rfl) ?_
      case hy7 => (intro w hSw; go_simp <;> with_reducible rfl)
      try simp only [Act.put, List.setIfInBounds_toArray, List.set_cons_zero, List.set_cons_succ]
      refine wpAnyL_take (i := 9) (v := ?v9) rfl (by kernel_rfl) (by kernel_rfl) (by kernel_rfl) (by kernel_rfl) (fun _ _ _ h => h) (Or.inl ⟨by rfl, ?hy9⟩) (by rfl) ?_
      case hy9 => (intro w hSw; go_simp <;> with_reducible rfl)
      try simp only [Act.put, List.setIfInBounds_toArray, List.set_cons_zero, List.set_cons_succ]
      refine wpAnyL_take (i := 10) (v := ?v10) rfl (by kernel_rfl) (by kernel_rfl) (by kernel_rfl) (by kernel_rfl) (fun _ _ _ h => h) (Or.inl ⟨by rfl, ?hy10⟩) (by rfl) ?_
      case hy10 => (intro w hSw; go_simp <;> with_reducible rfl)
      try simp only [Act.put, List.setIfInBounds_toArray, List.set_cons_zero, List.set_cons_succ]
      refine wpAnyL_take (i := 11) (v := ?v11) rfl (by kernel_rfl) (by kernel_rfl) (by kernel_rfl) (by kernel_rfl) (fun _ _ _ h => h) (Or.inl ⟨by rfl, ?hy11⟩) (by rfl) ?_
      case hy11 => (intro w hSw; go_simp <;> with_reducible rfl)
      try simp only [Act.put, List.setIfInBounds_toArray, List.set_cons_zero, List.set_cons_succ]
      refine wpAnyL_take (i := 12) (v := ?v12) rfl (by kernel_rfl) (by kernel_rfl) (by kernel_rfl) (by kernel_rfl) (fun _ _ _ h => h) (Or.inl ⟨by rfl, ?hy12⟩) (by rfl) ?_
      case hy12 => (intro w hSw; go_simp <;> with_reducible rfl)
      try simp only [Act.put, List.setIfInBounds_toArray, List.set_cons_zero, List.set_cons_succ]
      refine wpAnyL_take (i := 13) (v := ?v13) rfl (by kernel_rfl) (by kernel_rfl) (by kernel_rfl) (by kernel_rfl) (fun _ _ _ h => h) (Or.inl ⟨by rfl, ?hy13⟩) (by rfl) ?_
      case hy13 => (intro w hSw; go_simp <;> with_reducible rfl)
      try simp only [Act.put, List.setIfInBounds_toArray, List.set_cons_zero, List.set_cons_succ]
      refine wpAnyL_take (i := 14) (v := ?v14) rfl (by kernel_rfl) (by kernel_rfl) (by kernel_rfl) (by kernel_rfl) (fun _ _ _ h => h) (Or.inl ⟨by rfl, ?hy14⟩) (by rfl) ?_
      case hy14 => (intro w hSw; go_simp <;> with_reducible rfl)
      try simp only [Act.put, List.setIfInBounds_toArray, List.set_cons_zero, List.set_cons_succ]
      refine wpAnyL_take (i := 15) (v := ?v15) rfl (by kernel_rfl) (by kernel_rfl) (by kernel_rfl) (by kernel_rfl) (fun _ _ _ h => h) (Or.inl ⟨by rfl, ?hy15⟩) (by rfl) ?_
      case hy15 => (intro w hSw; go_simp <;> with_reducible rfl)
      try simp only [Act.put, List.setIfInBounds_toArray, List.set_cons_zero, List.set_cons_succ]
      refine wpAnyL_take (i := 16) (v := ?v16) rfl (by kernel_rfl) (by kernel_rfl) (by kernel_rfl) (by kernel_rfl) (fun _ _ _ h => h) (Or.inl ⟨by rfl, ?hy16⟩) (by rfl) ?_
      case hy16 => (intro w hSw; go_simp <;> with_reducible rfl)
      try simp only [Act.put, List.setIfInBounds_toArray, List.set_cons_zero, List.set_cons_succ]
      refine wpAnyL_one (i := 8) (by kernel_rfl) rfl (fun K hK => ?_)
      go_simp
      refine (l1Min_any _ _ _).mono ?_
      rintro e w' ⟨rfl, rfl⟩
      go_wp2_with fail
      refine hK.out _ _ (fun _ => by rfl) ?_
      clear hK K
      try simp only [Act.put, List.setIfInBounds_toArray, List.set_cons_zero, List.set_cons_succ]
      refine wpAnyL_one (i := 17) (by kernel_rfl) rfl (fun K hK => ?_)
      go_simp
      refine (l1Min_any _ _ _).mono ?_
      rintro e w' ⟨rfl, rfl⟩
      go_wp2_with fail
      refine hK.out _ _ (fun _ => by rfl) ?_
      clear hK K
      try simp only [Act.put, List.setIfInBounds_toArray, List.set_cons_zero, List.set_cons_succ]
      refine wpAnyL_take (i := 18) (v := ?v18) rfl (by kernel_rfl) (by kernel_rfl) (by kernel_rfl) (by kernel_rfl) (fun _ _ _ h => h) (Or.inl ⟨by rfl, ?hy18⟩) (by rfl) ?_
      case hy18 => (intro w hSw; go_simp <;> with_reducible rfl)
      try simp only [Act.put, List.setIfInBounds_toArray, List.set_cons_zero, List.set_cons_succ]
      refine wpAnyL_take (i := 19) (v := ?v19) rfl (by kernel_rfl) (by kernel_rfl) (by kernel_rfl) (by kernel_rfl) (fun _ _ _ h => h) (Or.inl ⟨by rfl, ?hy19⟩) (by rfl) ?_
      case hy19 => (intro w hSw; go_simp <;> with_reducible rfl)
      try simp only [Act.put, List.setIfInBounds_toArray, List.set_cons_zero, List.set_cons_succ]
      refine wpAnyL_one (i := 20) (by kernel_rfl) rfl (fun K hK => ?_)
      go_simp
      refine hK.out _ _ (fun h => absurd rfl h) ?_
      clear hK K
      try simp only [Act.put, List.setIfInBounds_toArray, List.set_cons_zero, List.set_cons_succ]
      refine wpAnyL_done (by kernel_rfl) ?_ _
      refine NoPanic.normal ?_
      go_wp2
      have hne : W.heap.size ≠ b := by omega
      have e01 := set2_at (W := wr) (r := W.heap.size) (i := 0) (j := 1) (u := .int .i64 (mnI A x)) (v := .int .i64 (mnI A' y)) (by omega) (by rw [o0]; rfl) (by rw [o1]; rfl)
      have e2 : ((wr.setCell ⟨W.heap.size, 0, none⟩ (.int .i64 (mnI A x))).setCell ⟨W.heap.size, 1, none⟩ (.int .i64 (mnI A' y))).cell? ⟨W.heap.size, 2, none⟩ = some (.int .i64 C) := by
        rw [set2_other (by simp) (by simp)]; exact o2
      have e3 : ((wr.setCell ⟨W.heap.size, 0, none⟩ (.int .i64 (mnI A x))).setCell ⟨W.heap.size, 1, none⟩ (.int .i64 (mnI A' y))).cell? ⟨W.heap.size, 3, none⟩ = some (.int .i64 C') := by
        rw [set2_other (by simp) (by simp)]; exact o3
      have ex : ((wr.setCell ⟨W.heap.size, 0, none⟩ (.int .i64 (mnI A x))).setCell ⟨W.heap.size, 1, none⟩ (.int .i64 (mnI A' y))).cell? ⟨b, k * 2, none⟩ = some (.int .i64 x) := by
        rw [set2_other (by simp [hne]) (by simp [hne])]; exact hx
      have ey : ((wr.setCell ⟨W.heap.size, 0, none⟩ (.int .i64 (mnI A x))).setCell ⟨W.heap.size, 1, none⟩ (.int .i64 (mnI A' y))).cell? ⟨b, k * 2 + 1, none⟩ = some (.int .i64 y) := by
        rw [set2_other (by simp [hne]) (by simp [hne])]; exact hy
      have y0 : ∀ o, o < 4 → ((wr.setCell ⟨W.heap.size, 0, none⟩ (.int .i64 (mnI A x))).setCell ⟨W.heap.size, 1, none⟩ (.int .i64 (mnI A' y))).frozen? ⟨W.heap.size, o, none⟩ = false := fun o ho => by
        rw [World.frozen?_setCell, World.frozen?_setCell]
        have hc : o = 0 ∨ o = 1 ∨ o = 2 ∨ o = 3 := by omega
        rcases hc with rfl | rfl | rfl | rfl
        · exact z0
        · exact z1
        · exact z2
        · exact z3
      have hBx : Below W.heap.size W ((wr.setCell ⟨W.heap.size, 0, none⟩ (.int .i64 (mnI A x))).setCell ⟨W.heap.size, 1, none⟩ (.int .i64 (mnI A' y))) := (HB.out.setCell (Nat.le_refl _) _).setCell (Nat.le_refl _) _
      generalize hw1 : (wr.setCell ⟨W.heap.size, 0, none⟩ (.int .i64 (mnI A x))).setCell ⟨W.heap.size, 1, none⟩ (.int .i64 (mnI A' y)) = w1 at *
      clear hw1 hx hy o0 o1 o2 o3 z0 z1 z2 z3
      obtain ⟨e0, e1⟩ := e01
      have z2 := y0 2 (by omega)
      have z3 := y0 3 (by omega)
      have z0 := y0 0 (by omega)
      have z1 := y0 1 (by omega)
      have HB1 : Hid (Below W.heap.size W w1) := hBx
      clear y0 hBx
      refine wp_region_noPanic ?_
      refine wp_region_L (S := fun W' => W' = w1.drew.drew) (z := 20) (by kernel_rfl) ?_
      have hSt2 : (fun W' => W' = w1.drew.drew) w1.drew.drew := rfl
      refine wpAnyL_take (i := 0) (v := ?vv0) rfl (by kernel_rfl) (by kernel_rfl) (by kernel_rfl) (by kernel_rfl) (fun _ _ _ h => h) (Or.inl ⟨by rfl, ?hyy0⟩) (by rfl) ?_
      case hyy0 => (intro w hSw; go_simp <;> with_reducible rfl)
      try simp only [Act.put, List.setIfInBounds_toArray, List.set_cons_zero, List.set_cons_succ]
      refine wpAnyL_take (i := 1) (v := ?vv1) rfl (by kernel_rfl) (by kernel_rfl) (by kernel_rfl) (by kernel_rfl) (fun _ _ _ h => h) (Or.inl ⟨by rfl, ?hyy1⟩) (by rfl) ?_
      case hyy1 => (intro w hSw; go_simp <;> with_reducible rfl)
      try simp only [Act.put, List.setIfInBounds_toArray, List.set_cons_zero, List.set_cons_succ]
      refine wpAnyL_take (i := 2) (v := ?vv2) rfl (by kernel_rfl) (by kernel_rfl) (by kernel_rfl) (by kernel_rfl) (fun _ _ _ h => h) (Or.inl ⟨by rfl, ?hyy2⟩) (by rfl) ?_
      case hyy2 => (intro w hSw; go_simp <;> with_reducible rfl)
      try simp only [Act.put, List.setIfInBounds_toArray, List.set_cons_zero, List.set_cons_succ]
      refine wpAnyL_take (i := 3) (v := ?vv3) rfl (by kernel_rfl) (by kernel_rfl) (by kernel_rfl) (by kernel_rfl) (fun _ _ _ h => h) (Or.inl ⟨by rfl, ?hyy3⟩) (by rfl) ?_
      case hyy3 => (intro w hSw; go_simp <;> with_reducible rfl)
      try simp only [Act.put, List.setIfInBounds_toArray, List.set_cons_zero, List.set_cons_succ]
      refine wpAnyL_take (i := 4) (v := ?vv4) rfl (by kernel_rfl) (by kernel_rfl) (by kernel_rfl) (by kernel_rfl) (fun _ _ _ h => h) (Or.inl ⟨by rfl, ?hyy4⟩) (by rfl) ?_
      case hyy4 => (intro w hSw; go_simp <;> with_reducible rfl)
      try simp only [Act.put, List.setIfInBounds_toArray, List.set_cons_zero, List.set_cons_succ]
      refine wpAnyL_take (i := 5) (v := ?vv5) rfl (by kernel_rfl) (by kernel_rfl) (by kernel_rfl) (by kernel_rfl) (fun _ _ _ h => h) (Or.inl ⟨by rfl, ?hyy5⟩) (by rfl) ?_
      case hyy5 => (intro w hSw; go_simp <;> with_reducible rfl)
      try simp only [Act.put, List.setIfInBounds_toArray, List.set_cons_zero, List.set_cons_succ]
      refine wpAnyL_take (i := 6) (v := ?vv6) rfl (by kernel_rfl) (by kernel_rfl) (by kernel_rfl) (by kernel_rfl) (fun _ _ _ h => h) (Or.inl ⟨by rfl, ?hyy6⟩) (by rfl) ?_
      case hyy6 => (intro w hSw; go_simp <;> with_reducible rfl)
      try simp only [Act.put, List.setIfInBounds_toArray, List.set_cons_zero, List.set_cons_succ]
      refine wpAnyL_take (i := 7) (v := ?vv7) rfl (by kernel_rfl) (by kernel_rfl) (by kernel_rfl) (by kernel_rfl) (fun _ _ _ h => h) (Or.inl ⟨by rfl, ?hyy7⟩) (by rfl) ?_
      case hyy7 => (intro w hSw; go_simp <;> with_reducible rfl)
      try simp only [Act.put, List.setIfInBounds_toArray, List.set_cons_zero, List.set_cons_succ]
      refine wpAnyL_take (i := 9) (v := ?vv9) rfl (by kernel_rfl) (by kernel_rfl) (by kernel_rfl) (by kernel_rfl) (fun _ _ _ h => h) (Or.inl ⟨by rfl, ?hyy9⟩) (by rfl) ?_
      case hyy9 => (intro w hSw; go_simp <;> with_reducible rfl)
      try simp only [Act.put, List.setIfInBounds_toArray, List.set_cons_zero, List.set_cons_succ]
      refine wpAnyL_take (i := 10) (v := ?vv10) rfl (by kernel_rfl) (by kernel_rfl) (by kernel_rfl) (by kernel_rfl) (fun _ _ _ h => h) (Or.inl ⟨by rfl, ?hyy10⟩) (by rfl) ?_
      case hyy10 => (intro w hSw; go_simp <;> with_reducible rfl)
      try simp only [Act.put, List.setIfInBounds_toArray, List.set_cons_zero, List.set_cons_succ]
      refine wpAnyL_take (i := 11) (v := ?vv11) rfl (by kernel_rfl) (by kernel_rfl) (by kernel_rfl) (by kernel_rfl) (fun _ _ _ h => h) (Or.inl ⟨by rfl, ?hyy11⟩) (by rfl) ?_
      case hyy11 => (intro w hSw; go_simp <;> with_reducible rfl)
      try simp only [Act.put, List.setIfInBounds_toArray, List.set_cons_zero, List.set_cons_succ]
      refine wpAnyL_take (i := 12) (v := ?vv12) rfl (by kernel_rfl) (by kernel_rfl) (by kernel_rfl) (by kernel_rfl) (fun _ _ _ h => h) (Or.inl ⟨by rfl, ?hyy12⟩) (by rfl) ?_
      case hyy12 => (intro w hSw; go_simp <;> with_reducible rfl)
      try simp only [Act.put, List.setIfInBounds_toArray, List.set_cons_zero, List.set_cons_succ]
      refine wpAnyL_take (i := 13) (v := ?vv13) rfl (by kernel_rfl) (by kernel_rfl) (by kernel_rfl) (by kernel_rfl) (fun _ _ _ h => h) (Or.inl ⟨by rfl, ?hyy13⟩) (by rfl) ?_
      case hyy13 => (intro w hSw; go_simp <;> with_reducible rfl)
      try simp only [Act.put, List.setIfInBounds_toArray, List.set_cons_zero, List.set_cons_succ]
      refine wpAnyL_take (i := 14) (v := ?vv14) rfl (by kernel_rfl) (by kernel_rfl) (by kernel_rfl) (by kernel_rfl) (fun _ _ _ h => h) (Or.inl ⟨by rfl, ?hyy14⟩) (by rfl) ?_
      case hyy14 => (intro w hSw; go_simp <;> with_reducible rfl)
      try simp only [Act.put, List.setIfInBounds_toArray, List.set_cons_zero, List.set_cons_succ]
      refine wpAnyL_take (i := 15) (v := ?vv15) rfl (by kernel_rfl) (by kernel_rfl) (by kernel_rfl) (by kernel_rfl) (fun _ _ _ h => h) (Or.inl ⟨by rfl, ?hyy15⟩) (by rfl) ?_
      case hyy15 => (intro w hSw; go_simp <;> with_reducible rfl)
      try simp only [Act.put, List.setIfInBounds_toArray, List.set_cons_zero, List.set_cons_succ]
      refine wpAnyL_take (i := 16) (v := ?vv16) rfl (by kernel_rfl) (by kernel_rfl) (by kernel_rfl) (by kernel_rfl) (fun _ _ _ h => h) (Or.inl ⟨by rfl, ?hyy16⟩) (by rfl) ?_
      case hyy16 => (intro w hSw; go_simp <;> with_reducible rfl)
      try simp only [Act.put, List.setIfInBounds_toArray, List.set_cons_zero, List.set_cons_succ]
      refine wpAnyL_one (i := 8) (by kernel_rfl) rfl (fun K hK => ?_)
      go_simp
      refine (l1Max_any _ _ _).mono ?_
      rintro e w' ⟨rfl, rfl⟩
      go_wp2_with fail
      refine hK.out _ _ (fun _ => by rfl) ?_
      clear hK K
      try simp only [Act.put, List.setIfInBounds_toArray, List.set_cons_zero, List.set_cons_succ]
      refine wpAnyL_one (i := 17) (by kernel_rfl) rfl (fun K hK => ?_)
      go_simp
      refine (l1Max_any _ _ _).mono ?_
      rintro e w' ⟨rfl, rfl⟩
      go_wp2_with fail
      refine hK.out _ _ (fun _ => by rfl) ?_
      clear hK K
      try simp only [Act.put, List.setIfInBounds_toArray, List.set_cons_zero, List.set_cons_succ]
      refine wpAnyL_take (i := 18) (v := ?vv18) rfl (by kernel_rfl) (by kernel_rfl) (by kernel_rfl) (by kernel_rfl) (fun _ _ _ h => h) (Or.inl ⟨by rfl, ?hyy18⟩) (by rfl) ?_
      case hyy18 => (intro w hSw; go_simp <;> with_reducible rfl)
      try simp only [Act.put, List.setIfInBounds_toArray, List.set_cons_zero, List.set_cons_succ]
      refine wpAnyL_take (i := 19) (v := ?vv19) rfl (by kernel_rfl) (by kernel_rfl) (by kernel_rfl) (by kernel_rfl) (fun _ _ _ h => h) (Or.inl ⟨by rfl, ?hyy19⟩) (by rfl) ?_
      case hyy19 => (intro w hSw; go_simp <;> with_reducible rfl)
      try simp only [Act.put, List.setIfInBounds_toArray, List.set_cons_zero, List.set_cons_succ]
      refine wpAnyL_one (i := 20) (by kernel_rfl) rfl (fun K hK => ?_)
      go_simp
      refine hK.out _ _ (fun h => absurd rfl h) ?_
      clear hK K
      try simp only [Act.put, List.setIfInBounds_toArray, List.set_cons_zero, List.set_cons_succ]
      refine wpAnyL_done (by kernel_rfl) ?_ _
      refine NoPanic.normal ?_
      go_wp2
      go_roundw
      case rel =>
        have g23 := set2_at (W := w1) (r := W.heap.size) (i := 2) (j := 3) (u := .int .i64 (mxI C x)) (v := .int .i64 (mxI C' y)) (by omega) (by rw [e2]; rfl) (by rw [e3]; rfl)
        refine ⟨k + 1, by omega, by omega, by go_num, ?_, ?_, ?_, ?_, ?_, ?_⟩
        · exact ((HB1.out.setCell (Nat.le_refl _) _).setCell (Nat.le_refl _) _).drew.drew
        · rw [show mnTo X (k + 1) = mnI A x from by rw [mnTo, KA.out, Kx.out]]
          exact (set2_other (by simp) (by simp)).trans e0
        · rw [show mnTo Y (k + 1) = mnI A' y from by rw [mnTo, KA'.out, Ky.out]]
          exact (set2_other (by simp) (by simp)).trans e1
        · rw [show mxTo X (k + 1) = mxI C x from by rw [mxTo, KC.out, Kx.out]]
          exact g23.1
        · rw [show mxTo Y (k + 1) = mxI C' y from by rw [mxTo, KC'.out, Ky.out]]
          exact g23.2
        · intro o ho
          show ((w1.setCell _ _).setCell _ _).frozen? _ = false
          rw [World.frozen?_setCell, World.frozen?_setCell]
          have hc : o = 0 ∨ o = 1 ∨ o = 2 ∨ o = 3 := by omega
          rcases hc with rfl | rfl | rfl | rfl
          · exact z0
          · exact z1
          · exact z2
          · exact z3
      case measure => simp [intOf]; omega
    · have hkn : k = n := by omega
      subst hkn
      have r0 := c00 wr hB
      have r1 := c01 wr hB
      have r2 := c02 wr hB
      have r3 := c03 wr hB
      have y0 := z00 wr hB
      have y1 := z01 wr hB
      have y2 := z02 wr hB
      have y3 := z03 wr hB
      have hT : There wr w.heap.size 4 := fun o ho => by
        have hc : o = 0 ∨ o = 1 ∨ o = 2 ∨ o = 3 := by omega
        rcases hc with rfl | rfl | rfl | rfl
        · exact ⟨⟨_, r0⟩, y0⟩
        · exact ⟨⟨_, r1⟩, y1⟩
        · exact ⟨⟨_, r2⟩, y2⟩
        · exact ⟨⟨_, r3⟩, y3⟩
      have HT : Hid (There wr w.heap.size 4) := hT
      have HB : Hid (Below W.heap.size W wr) := hB
      clear hT hB c00 c01 c02 c03 z00 z01 z02 z03 d0 d1 fz
      have hneR : w.heap.size ≠ W.heap.size := by
        have := World.block_lt_of_cell? _ _ r0
        have h2 := HWl.out
        omega
      go_wp2
      obtain ⟨q0, q1, q2, q3⟩ := set4_at (a := .int .i64 (mnTo X k)) (b := .int .i64 (mnTo Y k)) (c := .int .i64 (mxTo X k)) (d := .int .i64 (mxTo Y k)) HT.out
      refine bodyPost_ret (v := .agg #[.int .i64 (mnTo X k), .int .i64 (mnTo Y k), .int .i64 (mxTo X k), .int .i64 (mxTo Y k)]) (by simp [results, Tryz.results74, go_sem, q0, q1, q2, q3]) rfl ⟨rfl, ?_⟩
      have HB1 := bl_then HB0.out HB.out
      (repeat (first | exact Below.refl _ _ | assumption | refine Below.drew ?_ | refine bl_alloc ?_ _ | refine bl_then ?_ (by assumption) | refine Below.setCell ?_ (by first | omega | (simp; done) | (simp; omega)) _ | refine bl_store ?_ ?_ _ _))
end Go.Proofs.YthadmnhpjklmiaaGreat
/- BoxOf of the model: what it answers at every list. -/

namespace Go.Proofs.YthadmnhpjklmiaaGreat
open Go.RowKit
set_option linter.unusedSimpArgs false
set_option linter.unusedVariables false

/-- Five stores into one block, read back. -/
theorem set5_at {W : World} {r : Nat} {a b c d e : Value} (hT : There W r 5) :
    (((((W.setCell ⟨r, 0, none⟩ a).setCell ⟨r, 1, none⟩ b).setCell ⟨r, 2, none⟩ c).setCell ⟨r, 3, none⟩ d).setCell ⟨r, 4, none⟩ e).cell? ⟨r, 0, none⟩ = some a ∧
    (((((W.setCell ⟨r, 0, none⟩ a).setCell ⟨r, 1, none⟩ b).setCell ⟨r, 2, none⟩ c).setCell ⟨r, 3, none⟩ d).setCell ⟨r, 4, none⟩ e).cell? ⟨r, 1, none⟩ = some b ∧
    (((((W.setCell ⟨r, 0, none⟩ a).setCell ⟨r, 1, none⟩ b).setCell ⟨r, 2, none⟩ c).setCell ⟨r, 3, none⟩ d).setCell ⟨r, 4, none⟩ e).cell? ⟨r, 2, none⟩ = some c ∧
    (((((W.setCell ⟨r, 0, none⟩ a).setCell ⟨r, 1, none⟩ b).setCell ⟨r, 2, none⟩ c).setCell ⟨r, 3, none⟩ d).setCell ⟨r, 4, none⟩ e).cell? ⟨r, 3, none⟩ = some d ∧
    (((((W.setCell ⟨r, 0, none⟩ a).setCell ⟨r, 1, none⟩ b).setCell ⟨r, 2, none⟩ c).setCell ⟨r, 3, none⟩ d).setCell ⟨r, 4, none⟩ e).cell? ⟨r, 4, none⟩ = some e := by
  have ne : ∀ i j : Nat, i ≠ j → (⟨r, i, none⟩ : Addr) ≠ ⟨r, j, none⟩ := fun i j hij h => hij (by injection h)
  have hT4 : There W r 4 := fun o ho => hT o (by omega)
  obtain ⟨x4, h4⟩ := (hT 4 (by omega)).1
  obtain ⟨q0, q1, q2, q3⟩ := set4_at (a := a) (b := b) (c := c) (d := d) hT4
  refine ⟨?_, ?_, ?_, ?_, ?_⟩
  · rw [set1_other (ne 4 0 (by omega))]; exact q0
  · rw [set1_other (ne 4 1 (by omega))]; exact q1
  · rw [set1_other (ne 4 2 (by omega))]; exact q2
  · rw [set1_other (ne 4 3 (by omega))]; exact q3
  · exact set1_same (by rw [set1_other (ne 3 4 (by omega)), set1_other (ne 2 4 (by omega)), set1_other (ne 1 4 (by omega)), set1_other (ne 0 4 (by omega))]; exact h4)

/-- What BoxOf answers of a list that is neither empty nor too long. -/
def boxV (n : Nat) (X Y : Nat → Int) : Value := if allOk n X Y = true then .agg #[.int .i64 0, .int .i64 (mnTo X n), .int .i64 (mnTo Y n), .int .i64 (mxTo X n), .int .i64 (mxTo Y n)] else .agg #[.int .i64 3, .int .i64 0, .int .i64 0, .int .i64 0, .int .i64 0]
theorem boxV_bad {n : Nat} {X Y : Nat → Int} (k : Nat) (hk : k < n) (h : okP (X k) (Y k) = false) : boxV n X Y = .agg #[.int .i64 3, .int .i64 0, .int .i64 0, .int .i64 0, .int .i64 0] := by
  have : ¬ allOk n X Y = true := fun ha => by
    have := of_decide_eq_true ha k hk
    rw [h] at this
    cases this
  simp [boxV, this]

end Go.Proofs.YthadmnhpjklmiaaGreat
/- BoxOf of the program: what it answers at every list. -/

namespace Go.Proofs.YthadmnhpjklmiaaGreat
open Go.RowKit
set_option linter.unusedSimpArgs false
set_option linter.unusedVariables false

set_option maxHeartbeats 1000000 in
theorem impl_BoxOf_none (a : Option Addr) (cap : Nat) (w : World) :
    Calls Tryz.prog 127 #[.slice a 0 cap] w fun e w' => e = .returned (.agg #[.int .i64 4, .int .i64 0, .int .i64 0, .int .i64 0, .int .i64 0]) ∧ Below w.heap.size w w' := by
  go_enter Tryz.func127, Tryz.ntmps127
  go_wp2
  exact bodyPost_ret (v := .agg #[.int .i64 4, .int .i64 0, .int .i64 0, .int .i64 0, .int .i64 0]) (by simp [results, Tryz.results127, go_sem]) rfl ⟨rfl, by (repeat (first | exact Below.refl _ _ | assumption | refine Below.drew ?_ | refine bl_alloc ?_ _ | refine bl_then ?_ (by assumption) | refine Below.setCell ?_ (by first | omega | (simp; done) | (simp; omega)) _ | refine bl_store ?_ ?_ _ _))⟩
set_option maxHeartbeats 1000000 in
theorem impl_BoxOf_many (a : Option Addr) (n cap : Nat) (w : World) (hn : 40 < n) (hmax : n ≤ 1048576) :
    Calls Tryz.prog 127 #[.slice a n cap] w fun e w' => e = .returned (.agg #[.int .i64 2, .int .i64 0, .int .i64 0, .int .i64 0, .int .i64 0]) ∧ Below w.heap.size w w' := by
  have hni : (40 : Int) < (n : Int) := by omega
  have h0 : ((n : Int) == 0) = false := by simp; omega
  go_enter Tryz.func127, Tryz.ntmps127
  go_wp2
  exact bodyPost_ret (v := .agg #[.int .i64 2, .int .i64 0, .int .i64 0, .int .i64 0, .int .i64 0]) (by simp [results, Tryz.results127, go_sem]) rfl ⟨rfl, by (repeat (first | exact Below.refl _ _ | assumption | refine Below.drew ?_ | refine bl_alloc ?_ _ | refine bl_then ?_ (by assumption) | refine Below.setCell ?_ (by first | omega | (simp; done) | (simp; omega)) _ | refine bl_store ?_ ?_ _ _))⟩

theorem point_any (x y : Int) (w : World) : Calls Tryz.prog 148 #[.agg #[.int .i64 x, .int .i64 y]] w fun e w' => e = .returned (.agg #[.int .i64 x, .int .i64 y]) ∧ Below w.heap.size w w' := by
  go_enter Tryz.func148, Tryz.ntmps148
  go_wp2
  exact bodyPost_ret (v := .agg #[.int .i64 x, .int .i64 y]) (by simp [results, Tryz.results148, go_sem]) rfl ⟨rfl, by (repeat (first | exact Below.refl _ _ | assumption | refine Below.drew ?_ | refine bl_alloc ?_ _ | refine bl_then ?_ (by assumption) | refine Below.setCell ?_ (by first | omega | (simp; done) | (simp; omega)) _ | refine bl_store ?_ ?_ _ _))⟩

set_option maxHeartbeats 4000000 in
theorem impl_BoxOf_bad (b n cap : Nat) (X Y : Nat → Int) (w : World) (hpt : PtsAt w b 0 n X Y) (hbl : b < w.heap.size) (hcap : n ≤ cap) (hn : 0 < n) (h40 : n ≤ 40) (hall : allOk n X Y = false) :
    Calls Tryz.prog 127 #[.slice (some ⟨b, 0, none⟩) n cap] w fun e w' => e = .returned (boxV n X Y) ∧ Below w.heap.size w w' := by
  have HQ : Hid (PtsAt w b 0 n X Y) := hpt
  have HV : Hid (boxV n X Y = .agg #[.int .i64 3, .int .i64 0, .int .i64 0, .int .i64 0, .int .i64 0]) := by show _ = _; simp [boxV, hall]
  have hN : codeN n X Y = 3 := by simp [codeN, hall]
  clear hpt hall
  have h0 : ((n : Int) == 0) = false := by simp; omega
  have hn40 : ¬ (40 : Int) < (n : Int) := by omega
  go_enter Tryz.func127, Tryz.ntmps127
  go_wp2_with fail
  generalize hW : (w.alloc _ : World) = W
  have hB0 : Below w.heap.size w W := by subst hW; (repeat (first | exact Below.refl _ _ | assumption | refine Below.drew ?_ | refine bl_alloc ?_ _ | refine bl_then ?_ (by assumption) | refine Below.setCell ?_ (by first | omega | (simp; done) | (simp; omega)) _ | refine bl_store ?_ ?_ _ _))
  have hT0 : There W w.heap.size 5 := fun o ho => by
    subst hW
    have hc : o = 0 ∨ o = 1 ∨ o = 2 ∨ o = 3 ∨ o = 4 := by omega
    rcases hc with rfl | rfl | rfl | rfl | rfl <;> exact ⟨⟨_, by simp [go_sem]; rfl⟩, by simp [go_sem]⟩
  clear hW
  have HQ1 : Hid (PtsAt W b 0 n X Y) := HQ.out.below hB0 hbl
  have hblW : b < W.heap.size := Nat.lt_of_lt_of_le hbl hB0.size
  have HT0 : Hid (There W w.heap.size 5) := hT0
  have HB0 : Hid (Below w.heap.size w W) := hB0
  clear hT0 hB0
  refine (faultIn_any _ _ _ _ X Y _ HQ1.out hblW hcap (by omega)).mono ?_
  rintro e w1 ⟨rfl, hb1⟩
  have hT1 := HT0.out.below hb1
  have t0 := hT1.cell 0 (by omega)
  have t1 := hT1.cell 1 (by omega)
  have t2 := hT1.cell 2 (by omega)
  have t3 := hT1.cell 3 (by omega)
  have t4 := hT1.cell 4 (by omega)
  have y0 := (hT1 0 (by omega)).2
  have y1 := (hT1 1 (by omega)).2
  have y2 := (hT1 2 (by omega)).2
  have y3 := (hT1 3 (by omega)).2
  have y4 := (hT1 4 (by omega)).2
  have HT1 : Hid (There w1 w.heap.size 5) := hT1
  clear hT1
  go_wp2
  obtain ⟨q0, q1, q2, q3, q4⟩ := set5_at (a := .int .i64 3) (b := .int .i64 0) (c := .int .i64 0) (d := .int .i64 0) (e := .int .i64 0) HT1.out
  refine bodyPost_ret (v := .agg #[.int .i64 3, .int .i64 0, .int .i64 0, .int .i64 0, .int .i64 0]) (by simp [results, Tryz.results127, go_sem, q0, q1, q2, q3, q4]) rfl ⟨by rw [HV.out], ?_⟩
  have HB1 := bl_then HB0.out hb1
  (repeat (first | exact Below.refl _ _ | assumption | refine Below.drew ?_ | refine bl_alloc ?_ _ | refine bl_then ?_ (by assumption) | refine Below.setCell ?_ (by first | omega | (simp; done) | (simp; omega)) _ | refine bl_store ?_ ?_ _ _))
end Go.Proofs.YthadmnhpjklmiaaGreat
