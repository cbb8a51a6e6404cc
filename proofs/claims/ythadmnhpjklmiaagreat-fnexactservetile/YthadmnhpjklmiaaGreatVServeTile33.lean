/- The box of the centres of a tile's pixels, of the model and of the program. -/
import Derived.Test.YthadmnhpjklmiaaGreatVServeTile29
import Derived.Test.YthadmnhpjklmiaaGreatVServeTile32
import Derived.Test.YthadmnhpjklmiaaGreatVServeTile5
import Derived.BigQuiet
namespace Go.Proofs.YthadmnhpjklmiaaGreat
open Go.RowKit
set_option linter.unusedSimpArgs false
set_option linter.unusedVariables false
set_option maxRecDepth 100000

/-- The box of the centres. -/
abbrev ctrV (z x y : Int) : Value := .agg #[.int .i64 (centI z (x * 8)), .int .i64 (centI z (y * 8)), .int .i64 (centI z (x * 8 + 7)), .int .i64 (centI z (y * 8 + 7))]
theorem ref_bdB {z x y : Int} (h : refB z x y = true) : (0 ≤ x ∧ x ≤ 7) ∧ (0 ≤ y ∧ y ≤ 7) := by
  have hz : zoomB z = true := by simp [refB] at h; exact h.1
  unfold refB at h
  rcases zoomB_cases hz with rfl | rfl | rfl | rfl <;> simp [inB, lastI] at h <;> omega
theorem pix_of_refB {z x y : Int} (h : refB z x y = true) (m q : Int) (hm : 0 ≤ m ∧ m < 8) (hq : 0 ≤ q ∧ q < 8) : pixB z (x * 8 + m) (y * 8 + q) = true := by
  have hz : zoomB z = true := by simp [refB] at h; exact h.1
  unfold refB at h
  rcases zoomB_cases hz with rfl | rfl | rfl | rfl <;> simp [inB, lastI] at h <;> simp [pixB, inB, pixI, hz] <;> omega
set_option maxHeartbeats 8000000 in
theorem l7Box_any (z x y : Int) (w : World) (hr : refB z x y = true) : Calls Tryz.prog 49 #[refV z x y] w fun e w' => e = .returned (ctrV z x y) ∧ Below w.heap.size w w' := by
  unfold ctrV
  obtain ⟨⟨x0, x1⟩, y0, y1⟩ := ref_bdB hr
  have p0 : pixB z (x * 8) (y * 8) = true := by have := pix_of_refB hr 0 0 (by omega) (by omega); simpa using this
  have p1 : pixB z (x * 8 + 7) (y * 8 + 7) = true := pix_of_refB hr 7 7 (by omega) (by omega)
  have ex : x * 8 + 8 - 1 = x * 8 + 7 := by omega
  have ey : y * 8 + 8 - 1 = y * 8 + 7 := by omega
  have H1 : Hid (∀ W', Calls Tryz.prog 77 #[.int .i64 z, .int .i64 (x * 8), .int .i64 (y * 8)] W' fun e w' => e = .returned (.agg #[.int .i64 (centI z (x * 8)), .int .i64 (centI z (y * 8))]) ∧ Below W'.heap.size W' w') := fun W' => l4Centre_any z _ _ W' p0
  have H2 : Hid (∀ W', Calls Tryz.prog 77 #[.int .i64 z, .int .i64 (x * 8 + 7), .int .i64 (y * 8 + 7)] W' fun e w' => e = .returned (.agg #[.int .i64 (centI z (x * 8 + 7)), .int .i64 (centI z (y * 8 + 7))]) ∧ Below W'.heap.size W' w') := fun W' => l4Centre_any z _ _ W' p1
  generalize centI z (x * 8) = a1 at *
  generalize centI z (y * 8) = a2 at *
  generalize centI z (x * 8 + 7) = a3 at *
  generalize centI z (y * 8 + 7) = a4 at *
  have xx0 : IntKind.i64.wrap (x * 8) = x * 8 := IntWalk.i64_in _ (by omega)
  have yy0 : IntKind.i64.wrap (y * 8) = y * 8 := IntWalk.i64_in _ (by omega)
  have xx1 : IntKind.i64.wrap (x * 8 + 8) = x * 8 + 8 := IntWalk.i64_in _ (by omega)
  have yy1 : IntKind.i64.wrap (y * 8 + 8) = y * 8 + 8 := IntWalk.i64_in _ (by omega)
  have xx2 : IntKind.i64.wrap (x * 8 + 7) = x * 8 + 7 := IntWalk.i64_in _ (by omega)
  have yy2 : IntKind.i64.wrap (y * 8 + 7) = y * 8 + 7 := IntWalk.i64_in _ (by omega)
  clear p0 p1 hr
  go_enter Tryz.func49, Tryz.ntmps49
  go_wp2_with fail
  generalize hW : ((w.alloc _).alloc _ : World) = W
  have HB0 : Hid (Below w.heap.size w W) := by show Below _ _ _; subst hW; (repeat (first | exact Below.refl _ _ | assumption | refine Below.drew ?_ | refine bl_alloc ?_ _ | refine bl_then ?_ (by assumption) | refine Below.setCell ?_ (by first | omega | (simp; done) | (simp; omega)) _ | refine bl_store ?_ ?_ _ _))
  have HT : Hid (There W (w.heap.size + 1) 4) := by
    show There _ _ _
    subst hW
    have := there4 (w.alloc (.cells #[.int .i64 z, .int .i64 x, .int .i64 y] 26)) (.int .i64 0) (.int .i64 0) (.int .i64 0) (.int .i64 0) 86
    simpa using this
  have c0 : ∀ W', Below W.heap.size W W' → W'.cell? ⟨w.heap.size, 0, none⟩ = some (.int .i64 z) := fun W' h => by rw [h.cell (by subst hW; simp <;> omega)]; subst hW; simp [go_sem]
  have c1 : ∀ W', Below W.heap.size W W' → W'.cell? ⟨w.heap.size, 1, none⟩ = some (.int .i64 x) := fun W' h => by rw [h.cell (by subst hW; simp <;> omega)]; subst hW; simp [go_sem]
  have c2 : ∀ W', Below W.heap.size W W' → W'.cell? ⟨w.heap.size, 2, none⟩ = some (.int .i64 y) := fun W' h => by rw [h.cell (by subst hW; simp <;> omega)]; subst hW; simp [go_sem]
  have hl : w.heap.size + 1 < W.heap.size := by subst hW; simp
  clear hW
  have k0 := c0 W (Below.refl _ _)
  have k1 := c1 W (Below.refl _ _)
  have k2 := c2 W (Below.refl _ _)
  clear c0 c1 c2
  have hreg : Reg (w.heap.size + 1) W (w.heap.size + 1) 4 W := Reg.start (Nat.le_of_lt hl) HT.out
  have d0 : ∀ W', Reg (w.heap.size + 1) W (w.heap.size + 1) 4 W' → W'.cell? ⟨w.heap.size, 0, none⟩ = some (.int .i64 z) := fun W' h => (h.bel.cell (p := ⟨w.heap.size, 0, none⟩) (by simp <;> omega)).trans k0
  have d1 : ∀ W', Reg (w.heap.size + 1) W (w.heap.size + 1) 4 W' → W'.cell? ⟨w.heap.size, 1, none⟩ = some (.int .i64 x) := fun W' h => (h.bel.cell (p := ⟨w.heap.size, 1, none⟩) (by simp <;> omega)).trans k1
  have d2 : ∀ W', Reg (w.heap.size + 1) W (w.heap.size + 1) 4 W' → W'.cell? ⟨w.heap.size, 2, none⟩ = some (.int .i64 y) := fun W' h => (h.bel.cell (p := ⟨w.heap.size, 2, none⟩) (by simp <;> omega)).trans k2
  go_wp2_with fail
  refine wp_region_noPanic ?_
  refine wp_region_held_drew (S := fun W' => Reg (w.heap.size + 1) W (w.heap.size + 1) 4 W') (by kernel_rfl) (by first | exact hreg | exact Reg.drew hreg | exact Reg.drew (Reg.drew hreg)) (fun hHeld => ?_)
  have hX0 : Reg (w.heap.size + 1) W (w.heap.size + 1) 4 (W.drew) := hHeld
  refine takeD (i := 0) (d := some 11) (v := ?va0) rfl rfl (by kernel_rfl) (by kernel_rfl) (by kernel_rfl) (fun _ _ _ h => h) (Or.inl ⟨by rfl, ?hya0⟩) hX0 ?_
  case hya0 => (intro w hSw; (try dsimp only at hSw); go_simp <;> with_reducible rfl)
  try simp only [Act.put, List.setIfInBounds_toArray, List.set_cons_zero, List.set_cons_succ]
  refine takeD (i := 1) (d := some 12) (v := ?va1) rfl rfl (by kernel_rfl) (by kernel_rfl) (by kernel_rfl) (fun _ _ _ h => h) (Or.inl ⟨by rfl, ?hya1⟩) hX0 ?_
  case hya1 => (intro w hSw; (try dsimp only at hSw); go_simp <;> with_reducible rfl)
  try simp only [Act.put, List.setIfInBounds_toArray, List.set_cons_zero, List.set_cons_succ]
  refine takeD (i := 2) (d := some 13) (v := ?va2) rfl rfl (by kernel_rfl) (by kernel_rfl) (by kernel_rfl) (fun _ _ _ h => h) (Or.inl ⟨by rfl, ?hya2⟩) hX0 ?_
  case hya2 => (intro w hSw; (try dsimp only at hSw); go_simp <;> with_reducible rfl)
  try simp only [Act.put, List.setIfInBounds_toArray, List.set_cons_zero, List.set_cons_succ]
  refine takeD (i := 3) (d := some 14) (v := ?va3) rfl rfl (by kernel_rfl) (by kernel_rfl) (by kernel_rfl) (fun _ _ _ h => h) (Or.inl ⟨by rfl, ?hya3⟩) hX0 ?_
  case hya3 => (intro w hSw; (try dsimp only at hSw); go_simp <;> with_reducible rfl)
  try simp only [Act.put, List.setIfInBounds_toArray, List.set_cons_zero, List.set_cons_succ]
  refine takeD (i := 5) (d := some 16) (v := ?va5) rfl rfl (by kernel_rfl) (by kernel_rfl) (by kernel_rfl) (fun _ _ _ h => h) (Or.inl ⟨by rfl, ?hya5⟩) hX0 ?_
  case hya5 => (intro w hSw; (try dsimp only at hSw); go_simp <;> with_reducible rfl)
  try simp only [Act.put, List.setIfInBounds_toArray, List.set_cons_zero, List.set_cons_succ]
  refine takeD (i := 6) (d := some 17) (v := ?va6) rfl rfl (by kernel_rfl) (by kernel_rfl) (by kernel_rfl) (fun _ _ _ h => h) (Or.inl ⟨by rfl, ?hya6⟩) hX0 ?_
  case hya6 => (intro w hSw; (try dsimp only at hSw); go_simp <;> with_reducible rfl)
  try simp only [Act.put, List.setIfInBounds_toArray, List.set_cons_zero, List.set_cons_succ]
  refine takeD (i := 7) (d := some 18) (v := ?va7) rfl rfl (by kernel_rfl) (by kernel_rfl) (by kernel_rfl) (fun _ _ _ h => h) (Or.inl ⟨by rfl, ?hya7⟩) hX0 ?_
  case hya7 => (intro w hSw; (try dsimp only at hSw); go_simp <;> with_reducible rfl)
  try simp only [Act.put, List.setIfInBounds_toArray, List.set_cons_zero, List.set_cons_succ]
  refine takeD (i := 8) (d := some 19) (v := ?va8) rfl rfl (by kernel_rfl) (by kernel_rfl) (by kernel_rfl) (fun _ _ _ h => h) (Or.inl ⟨by rfl, ?hya8⟩) hX0 ?_
  case hya8 => (intro w hSw; (try dsimp only at hSw); go_simp <;> with_reducible rfl)
  try simp only [Act.put, List.setIfInBounds_toArray, List.set_cons_zero, List.set_cons_succ]
  refine takeD (i := 9) (d := some 20) (v := ?va9) rfl rfl (by kernel_rfl) (by kernel_rfl) (by kernel_rfl) (fun _ _ _ h => h) (Or.inl ⟨by rfl, ?hya9⟩) hX0 ?_
  case hya9 => (intro w hSw; (try dsimp only at hSw); go_simp <;> with_reducible rfl)
  try simp only [Act.put, List.setIfInBounds_toArray, List.set_cons_zero, List.set_cons_succ]
  refine takeD (i := 10) (d := some 21) (v := ?va10) rfl rfl (by kernel_rfl) (by kernel_rfl) (by kernel_rfl) (fun _ _ _ h => h) (Or.inl ⟨by rfl, ?hya10⟩) hX0 ?_
  case hya10 => (intro w hSw; (try dsimp only at hSw); go_simp <;> with_reducible rfl)
  try simp only [Act.put, List.setIfInBounds_toArray, List.set_cons_zero, List.set_cons_succ]
  refine takeD (i := 11) (d := some 22) (v := ?va11) rfl rfl (by kernel_rfl) (by kernel_rfl) (by kernel_rfl) (fun _ _ _ h => h) (Or.inl ⟨by rfl, ?hya11⟩) hX0 ?_
  case hya11 => (intro w hSw; (try dsimp only at hSw); go_simp <;> with_reducible rfl)
  try simp only [Act.put, List.setIfInBounds_toArray, List.set_cons_zero, List.set_cons_succ]
  refine takeD (i := 12) (d := some 23) (v := ?va12) rfl rfl (by kernel_rfl) (by kernel_rfl) (by kernel_rfl) (fun _ _ _ h => h) (Or.inl ⟨by rfl, ?hya12⟩) hX0 ?_
  case hya12 => (intro w hSw; (try dsimp only at hSw); go_simp <;> with_reducible rfl)
  try simp only [Act.put, List.setIfInBounds_toArray, List.set_cons_zero, List.set_cons_succ]
  refine wpAnyH_ready (rs := [4]) (by kernel_rfl) (by simp) ?_
  refine (AllReadyH.cons rfl (fun K hK => ?_) AllReadyH.nil)
  rw [if_pos (by rfl)]
  go_simp
  refine Calls.mono (H1.out _) ?_
  rintro e wp0 ⟨rfl, hbp0⟩
  have hXp0 : Reg (w.heap.size + 1) W (w.heap.size + 1) 4 wp0 := Reg.call hX0 hbp0
  go_wp2_with fail
  refine hK.out _ _ hXp0 (fun hHeld => ?_)
  clear hK K
  try simp only [Act.put, List.setIfInBounds_toArray, List.set_cons_zero, List.set_cons_succ]
  refine wpAnyH_ready (rs := [13]) (by kernel_rfl) (by simp) ?_
  refine (AllReadyH.cons rfl (fun K hK => ?_) AllReadyH.nil)
  rw [if_pos (by rfl)]
  go_simp
  refine Calls.mono (H2.out _) ?_
  rintro e wp1 ⟨rfl, hbp1⟩
  have hXp1 : Reg (w.heap.size + 1) W (w.heap.size + 1) 4 wp1 := Reg.call hXp0 hbp1
  go_wp2_with fail
  refine hK.out _ _ hXp1 (fun hHeld => ?_)
  clear hK K
  try simp only [Act.put, List.setIfInBounds_toArray, List.set_cons_zero, List.set_cons_succ]
  refine takeD (i := 14) (d := some 25) (v := ?vpb14) rfl rfl (by kernel_rfl) (by kernel_rfl) (by kernel_rfl) (fun _ _ _ h => h) (Or.inl ⟨by rfl, ?hypb14⟩) hXp1 ?_
  case hypb14 => (intro w hSw; (try dsimp only at hSw); go_simp <;> with_reducible rfl)
  try simp only [Act.put, List.setIfInBounds_toArray, List.set_cons_zero, List.set_cons_succ]
  refine wpAnyH_ready (rs := [15]) (by kernel_rfl) (by simp) ?_
  refine (AllReadyH.cons rfl (fun K hK => ?_) AllReadyH.nil)
  rw [if_pos (by rfl)]
  have hT' := hXp1.there
  have t0 := hT'.cell 0 (by omega)
  have f0 := (hT' 0 (by omega)).2
  have t1 := hT'.cell 1 (by omega)
  have f1 := (hT' 1 (by omega)).2
  have t2 := hT'.cell 2 (by omega)
  have f2 := (hT' 2 (by omega)).2
  have t3 := hT'.cell 3 (by omega)
  have f3 := (hT' 3 (by omega)).2
  go_simp
  have hs := HB0.out.size
  obtain ⟨s0, s1, s2, s3⟩ := set4_at (a := .int .i64 a1) (b := .int .i64 a2) (c := .int .i64 a3) (d := .int .i64 a4) hT'
  have hXs : Reg (w.heap.size + 1) W (w.heap.size + 1) 4 ((((wp1.setCell ⟨w.heap.size + 1, 0, none⟩ (.int .i64 a1)).setCell ⟨w.heap.size + 1, 1, none⟩ (.int .i64 a2)).setCell ⟨w.heap.size + 1, 2, none⟩ (.int .i64 a3)).setCell ⟨w.heap.size + 1, 3, none⟩ (.int .i64 a4)) := (((hXp1.store (Nat.le_refl _) 0 _).store (Nat.le_refl _) 1 _).store (Nat.le_refl _) 2 _).store (Nat.le_refl _) 3 _
  generalize hwS : ((((wp1.setCell ⟨w.heap.size + 1, 0, none⟩ (.int .i64 a1)).setCell ⟨w.heap.size + 1, 1, none⟩ (.int .i64 a2)).setCell ⟨w.heap.size + 1, 2, none⟩ (.int .i64 a3)).setCell ⟨w.heap.size + 1, 3, none⟩ (.int .i64 a4)) = wS at *
  refine hK.out _ _ hXs (fun hHeld => ?_)
  clear hK K hwS t0 t1 t2 t3 f0 f1 f2 f3
  try simp only [Act.put, List.setIfInBounds_toArray, List.set_cons_zero, List.set_cons_succ]
  refine wpAnyH_done (by kernel_rfl) ?_ _
  refine NoPanic.normal ?_
  go_wp2_with fail
  exact bodyPost_ret (v := .agg #[.int .i64 a1, .int .i64 a2, .int .i64 a3, .int .i64 a4]) (by simp [results, Tryz.results49, go_sem, s0, s1, s2, s3]) rfl ⟨rfl, HB0.out.trans (hXs.bel.mono (Nat.le_succ _))⟩
set_option maxHeartbeats 8000000 in
theorem centres_any (z x y : Int) (w : World) (hr : refB z x y = true) : Calls Tryz.prog 59 #[refV z x y] w fun e w' => e = .returned (ctrV z x y) ∧ Below w.heap.size w w' := by
  unfold ctrV
  obtain ⟨⟨x0, x1⟩, y0, y1⟩ := ref_bdB hr
  have p0 : pixB z (x * 8) (y * 8) = true := by have := pix_of_refB hr 0 0 (by omega) (by omega); simpa using this
  have p1 : pixB z (x * 8 + 7) (y * 8 + 7) = true := pix_of_refB hr 7 7 (by omega) (by omega)
  have ex : x * 8 + 8 - 1 = x * 8 + 7 := by omega
  have ey : y * 8 + 8 - 1 = y * 8 + 7 := by omega
  have H1 : Hid (∀ W', Calls Tryz.prog 88 #[.int .i64 z, .int .i64 (x * 8), .int .i64 (y * 8)] W' fun e w' => e = .returned (.agg #[.int .i64 0, .int .i64 (centI z (x * 8)), .int .i64 (centI z (y * 8))]) ∧ Below W'.heap.size W' w') := fun W' => by have h := impl_CentreOf_any z (x * 8) (y * 8) W'; rw [centV, if_pos p0] at h; exact h
  have H2 : Hid (∀ W', Calls Tryz.prog 88 #[.int .i64 z, .int .i64 (x * 8 + 7), .int .i64 (y * 8 + 7)] W' fun e w' => e = .returned (.agg #[.int .i64 0, .int .i64 (centI z (x * 8 + 7)), .int .i64 (centI z (y * 8 + 7))]) ∧ Below W'.heap.size W' w') := fun W' => by have h := impl_CentreOf_any z (x * 8 + 7) (y * 8 + 7) W'; rw [centV, if_pos p1] at h; exact h
  generalize centI z (x * 8) = a1 at *
  generalize centI z (y * 8) = a2 at *
  generalize centI z (x * 8 + 7) = a3 at *
  generalize centI z (y * 8 + 7) = a4 at *
  have fld : ∀ (a b : Int) w, (Instr.field 128 (.agg #[.int .i64 0, .int .i64 a, .int .i64 b]) 1).run Tryz.prog w = .ok (.agg #[.int .i64 a, .int .i64 b]) w := fun _ _ _ => by kernel_rfl
  have xx0 : IntKind.i64.wrap (x * 8) = x * 8 := IntWalk.i64_in _ (by omega)
  have yy0 : IntKind.i64.wrap (y * 8) = y * 8 := IntWalk.i64_in _ (by omega)
  have xx1 : IntKind.i64.wrap (x * 8 + 8) = x * 8 + 8 := IntWalk.i64_in _ (by omega)
  have yy1 : IntKind.i64.wrap (y * 8 + 8) = y * 8 + 8 := IntWalk.i64_in _ (by omega)
  have xx2 : IntKind.i64.wrap (x * 8 + 7) = x * 8 + 7 := IntWalk.i64_in _ (by omega)
  have yy2 : IntKind.i64.wrap (y * 8 + 7) = y * 8 + 7 := IntWalk.i64_in _ (by omega)
  clear p0 p1 hr
  go_enter Tryz.func59, Tryz.ntmps59
  go_wp2_with fail
  generalize hW : ((w.alloc _).alloc _ : World) = W
  have HB0 : Hid (Below w.heap.size w W) := by show Below _ _ _; subst hW; (repeat (first | exact Below.refl _ _ | assumption | refine Below.drew ?_ | refine bl_alloc ?_ _ | refine bl_then ?_ (by assumption) | refine Below.setCell ?_ (by first | omega | (simp; done) | (simp; omega)) _ | refine bl_store ?_ ?_ _ _))
  have HT : Hid (There W (w.heap.size + 1) 4) := by
    show There _ _ _
    subst hW
    have := there4 (w.alloc (.cells #[.int .i64 z, .int .i64 x, .int .i64 y] 26)) (.int .i64 0) (.int .i64 0) (.int .i64 0) (.int .i64 0) 86
    simpa using this
  have c0 : ∀ W', Below W.heap.size W W' → W'.cell? ⟨w.heap.size, 0, none⟩ = some (.int .i64 z) := fun W' h => by rw [h.cell (by subst hW; simp <;> omega)]; subst hW; simp [go_sem]
  have c1 : ∀ W', Below W.heap.size W W' → W'.cell? ⟨w.heap.size, 1, none⟩ = some (.int .i64 x) := fun W' h => by rw [h.cell (by subst hW; simp <;> omega)]; subst hW; simp [go_sem]
  have c2 : ∀ W', Below W.heap.size W W' → W'.cell? ⟨w.heap.size, 2, none⟩ = some (.int .i64 y) := fun W' h => by rw [h.cell (by subst hW; simp <;> omega)]; subst hW; simp [go_sem]
  have hl : w.heap.size + 1 < W.heap.size := by subst hW; simp
  clear hW
  have k0 := c0 W (Below.refl _ _)
  have k1 := c1 W (Below.refl _ _)
  have k2 := c2 W (Below.refl _ _)
  clear c0 c1 c2
  have hreg : Reg (w.heap.size + 1) W (w.heap.size + 1) 4 W := Reg.start (Nat.le_of_lt hl) HT.out
  have d0 : ∀ W', Reg (w.heap.size + 1) W (w.heap.size + 1) 4 W' → W'.cell? ⟨w.heap.size, 0, none⟩ = some (.int .i64 z) := fun W' h => (h.bel.cell (p := ⟨w.heap.size, 0, none⟩) (by simp <;> omega)).trans k0
  have d1 : ∀ W', Reg (w.heap.size + 1) W (w.heap.size + 1) 4 W' → W'.cell? ⟨w.heap.size, 1, none⟩ = some (.int .i64 x) := fun W' h => (h.bel.cell (p := ⟨w.heap.size, 1, none⟩) (by simp <;> omega)).trans k1
  have d2 : ∀ W', Reg (w.heap.size + 1) W (w.heap.size + 1) 4 W' → W'.cell? ⟨w.heap.size, 2, none⟩ = some (.int .i64 y) := fun W' h => (h.bel.cell (p := ⟨w.heap.size, 2, none⟩) (by simp <;> omega)).trans k2
  go_wp2_with fail
  go_region
  go_wp2_with fail
  refine wp_region_noPanic ?_
  refine wp_region_held_drew (S := fun W' => Reg (w.heap.size + 1) W (w.heap.size + 1) 4 W') (by kernel_rfl) (by first | exact hreg | exact Reg.drew hreg | exact Reg.drew (Reg.drew hreg)) (fun hHeld => ?_)
  have hX0 : Reg (w.heap.size + 1) W (w.heap.size + 1) 4 (W.drew.drew) := hHeld
  refine takeD (i := 0) (d := some 11) (v := ?va0) rfl rfl (by kernel_rfl) (by kernel_rfl) (by kernel_rfl) (fun _ _ _ h => h) (Or.inl ⟨by rfl, ?hya0⟩) hX0 ?_
  case hya0 => (intro w hSw; (try dsimp only at hSw); go_simp <;> with_reducible rfl)
  try simp only [Act.put, List.setIfInBounds_toArray, List.set_cons_zero, List.set_cons_succ]
  refine takeD (i := 1) (d := some 12) (v := ?va1) rfl rfl (by kernel_rfl) (by kernel_rfl) (by kernel_rfl) (fun _ _ _ h => h) (Or.inl ⟨by rfl, ?hya1⟩) hX0 ?_
  case hya1 => (intro w hSw; (try dsimp only at hSw); go_simp <;> with_reducible rfl)
  try simp only [Act.put, List.setIfInBounds_toArray, List.set_cons_zero, List.set_cons_succ]
  refine takeD (i := 2) (d := some 13) (v := ?va2) rfl rfl (by kernel_rfl) (by kernel_rfl) (by kernel_rfl) (fun _ _ _ h => h) (Or.inl ⟨by rfl, ?hya2⟩) hX0 ?_
  case hya2 => (intro w hSw; (try dsimp only at hSw); go_simp <;> with_reducible rfl)
  try simp only [Act.put, List.setIfInBounds_toArray, List.set_cons_zero, List.set_cons_succ]
  refine takeD (i := 3) (d := some 14) (v := ?va3) rfl rfl (by kernel_rfl) (by kernel_rfl) (by kernel_rfl) (fun _ _ _ h => h) (Or.inl ⟨by rfl, ?hya3⟩) hX0 ?_
  case hya3 => (intro w hSw; (try dsimp only at hSw); go_simp <;> with_reducible rfl)
  try simp only [Act.put, List.setIfInBounds_toArray, List.set_cons_zero, List.set_cons_succ]
  refine takeD (i := 6) (d := some 17) (v := ?va6) rfl rfl (by kernel_rfl) (by kernel_rfl) (by kernel_rfl) (fun _ _ _ h => h) (Or.inl ⟨by rfl, ?hya6⟩) hX0 ?_
  case hya6 => (intro w hSw; (try dsimp only at hSw); go_simp <;> with_reducible rfl)
  try simp only [Act.put, List.setIfInBounds_toArray, List.set_cons_zero, List.set_cons_succ]
  refine takeD (i := 7) (d := some 18) (v := ?va7) rfl rfl (by kernel_rfl) (by kernel_rfl) (by kernel_rfl) (fun _ _ _ h => h) (Or.inl ⟨by rfl, ?hya7⟩) hX0 ?_
  case hya7 => (intro w hSw; (try dsimp only at hSw); go_simp <;> with_reducible rfl)
  try simp only [Act.put, List.setIfInBounds_toArray, List.set_cons_zero, List.set_cons_succ]
  refine takeD (i := 8) (d := some 19) (v := ?va8) rfl rfl (by kernel_rfl) (by kernel_rfl) (by kernel_rfl) (fun _ _ _ h => h) (Or.inl ⟨by rfl, ?hya8⟩) hX0 ?_
  case hya8 => (intro w hSw; (try dsimp only at hSw); go_simp <;> with_reducible rfl)
  try simp only [Act.put, List.setIfInBounds_toArray, List.set_cons_zero, List.set_cons_succ]
  refine takeD (i := 9) (d := some 20) (v := ?va9) rfl rfl (by kernel_rfl) (by kernel_rfl) (by kernel_rfl) (fun _ _ _ h => h) (Or.inl ⟨by rfl, ?hya9⟩) hX0 ?_
  case hya9 => (intro w hSw; (try dsimp only at hSw); go_simp <;> with_reducible rfl)
  try simp only [Act.put, List.setIfInBounds_toArray, List.set_cons_zero, List.set_cons_succ]
  refine takeD (i := 10) (d := some 21) (v := ?va10) rfl rfl (by kernel_rfl) (by kernel_rfl) (by kernel_rfl) (fun _ _ _ h => h) (Or.inl ⟨by rfl, ?hya10⟩) hX0 ?_
  case hya10 => (intro w hSw; (try dsimp only at hSw); go_simp <;> with_reducible rfl)
  try simp only [Act.put, List.setIfInBounds_toArray, List.set_cons_zero, List.set_cons_succ]
  refine takeD (i := 11) (d := some 22) (v := ?va11) rfl rfl (by kernel_rfl) (by kernel_rfl) (by kernel_rfl) (fun _ _ _ h => h) (Or.inl ⟨by rfl, ?hya11⟩) hX0 ?_
  case hya11 => (intro w hSw; (try dsimp only at hSw); go_simp <;> with_reducible rfl)
  try simp only [Act.put, List.setIfInBounds_toArray, List.set_cons_zero, List.set_cons_succ]
  refine takeD (i := 12) (d := some 23) (v := ?va12) rfl rfl (by kernel_rfl) (by kernel_rfl) (by kernel_rfl) (fun _ _ _ h => h) (Or.inl ⟨by rfl, ?hya12⟩) hX0 ?_
  case hya12 => (intro w hSw; (try dsimp only at hSw); go_simp <;> with_reducible rfl)
  try simp only [Act.put, List.setIfInBounds_toArray, List.set_cons_zero, List.set_cons_succ]
  refine takeD (i := 13) (d := some 24) (v := ?va13) rfl rfl (by kernel_rfl) (by kernel_rfl) (by kernel_rfl) (fun _ _ _ h => h) (Or.inl ⟨by rfl, ?hya13⟩) hX0 ?_
  case hya13 => (intro w hSw; (try dsimp only at hSw); go_simp <;> with_reducible rfl)
  try simp only [Act.put, List.setIfInBounds_toArray, List.set_cons_zero, List.set_cons_succ]
  refine wpAnyH_ready (rs := [4]) (by kernel_rfl) (by simp) ?_
  refine (AllReadyH.cons rfl (fun K hK => ?_) AllReadyH.nil)
  rw [if_pos (by rfl)]
  go_simp
  refine Calls.mono (H1.out _) ?_
  rintro e wp0 ⟨rfl, hbp0⟩
  have hXp0 : Reg (w.heap.size + 1) W (w.heap.size + 1) 4 wp0 := Reg.call hX0 hbp0
  go_wp2_with fail
  refine hK.out _ _ hXp0 (fun hHeld => ?_)
  clear hK K
  try simp only [Act.put, List.setIfInBounds_toArray, List.set_cons_zero, List.set_cons_succ]
  refine takeD (i := 5) (d := some 16) (v := ?vp05) rfl rfl (by kernel_rfl) (by kernel_rfl) (by kernel_rfl) (fun _ _ _ h => h) (Or.inl ⟨by rfl, ?hyp05⟩) hXp0 ?_
  case hyp05 => (intro w hSw; (try dsimp only at hSw); go_simp <;> with_reducible rfl)
  try simp only [Act.put, List.setIfInBounds_toArray, List.set_cons_zero, List.set_cons_succ]
  refine wpAnyH_ready (rs := [14]) (by kernel_rfl) (by simp) ?_
  refine (AllReadyH.cons rfl (fun K hK => ?_) AllReadyH.nil)
  rw [if_pos (by rfl)]
  go_simp
  refine Calls.mono (H2.out _) ?_
  rintro e wp1 ⟨rfl, hbp1⟩
  have hXp1 : Reg (w.heap.size + 1) W (w.heap.size + 1) 4 wp1 := Reg.call hXp0 hbp1
  go_wp2_with fail
  refine hK.out _ _ hXp1 (fun hHeld => ?_)
  clear hK K
  try simp only [Act.put, List.setIfInBounds_toArray, List.set_cons_zero, List.set_cons_succ]
  refine takeD (i := 15) (d := some 26) (v := ?vp115) rfl rfl (by kernel_rfl) (by kernel_rfl) (by kernel_rfl) (fun _ _ _ h => h) (Or.inl ⟨by rfl, ?hyp115⟩) hXp1 ?_
  case hyp115 => (intro w hSw; (try dsimp only at hSw); go_simp <;> with_reducible rfl)
  try simp only [Act.put, List.setIfInBounds_toArray, List.set_cons_zero, List.set_cons_succ]
  refine takeD (i := 16) (d := some 27) (v := ?vpb16) rfl rfl (by kernel_rfl) (by kernel_rfl) (by kernel_rfl) (fun _ _ _ h => h) (Or.inl ⟨by rfl, ?hypb16⟩) hXp1 ?_
  case hypb16 => (intro w hSw; (try dsimp only at hSw); go_simp <;> with_reducible rfl)
  try simp only [Act.put, List.setIfInBounds_toArray, List.set_cons_zero, List.set_cons_succ]
  refine wpAnyH_ready (rs := [17]) (by kernel_rfl) (by simp) ?_
  refine (AllReadyH.cons rfl (fun K hK => ?_) AllReadyH.nil)
  rw [if_pos (by rfl)]
  have hT' := hXp1.there
  have t0 := hT'.cell 0 (by omega)
  have f0 := (hT' 0 (by omega)).2
  have t1 := hT'.cell 1 (by omega)
  have f1 := (hT' 1 (by omega)).2
  have t2 := hT'.cell 2 (by omega)
  have f2 := (hT' 2 (by omega)).2
  have t3 := hT'.cell 3 (by omega)
  have f3 := (hT' 3 (by omega)).2
  go_simp
  have hs := HB0.out.size
  obtain ⟨s0, s1, s2, s3⟩ := set4_at (a := .int .i64 a1) (b := .int .i64 a2) (c := .int .i64 a3) (d := .int .i64 a4) hT'
  have hXs : Reg (w.heap.size + 1) W (w.heap.size + 1) 4 ((((wp1.setCell ⟨w.heap.size + 1, 0, none⟩ (.int .i64 a1)).setCell ⟨w.heap.size + 1, 1, none⟩ (.int .i64 a2)).setCell ⟨w.heap.size + 1, 2, none⟩ (.int .i64 a3)).setCell ⟨w.heap.size + 1, 3, none⟩ (.int .i64 a4)) := (((hXp1.store (Nat.le_refl _) 0 _).store (Nat.le_refl _) 1 _).store (Nat.le_refl _) 2 _).store (Nat.le_refl _) 3 _
  generalize hwS : ((((wp1.setCell ⟨w.heap.size + 1, 0, none⟩ (.int .i64 a1)).setCell ⟨w.heap.size + 1, 1, none⟩ (.int .i64 a2)).setCell ⟨w.heap.size + 1, 2, none⟩ (.int .i64 a3)).setCell ⟨w.heap.size + 1, 3, none⟩ (.int .i64 a4)) = wS at *
  refine hK.out _ _ hXs (fun hHeld => ?_)
  clear hK K hwS t0 t1 t2 t3 f0 f1 f2 f3
  try simp only [Act.put, List.setIfInBounds_toArray, List.set_cons_zero, List.set_cons_succ]
  refine wpAnyH_done (by kernel_rfl) ?_ _
  refine NoPanic.normal ?_
  go_wp2_with fail
  exact bodyPost_ret (v := .agg #[.int .i64 a1, .int .i64 a2, .int .i64 a3, .int .i64 a4]) (by simp [results, Tryz.results59, go_sem, s0, s1, s2, s3]) rfl ⟨rfl, HB0.out.trans (hXs.bel.mono (Nat.le_succ _))⟩
end Go.Proofs.YthadmnhpjklmiaaGreat
