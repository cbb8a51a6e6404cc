/- Several texts in one. -/
import Derived.Test.YtciidkmonfmipaaGreatVTakeTile19
import Derived.Test.YtciidkmonfmipaaGreatVTakeTile4

/- Features are compared: by layer, of the same by id; only new blocks are laid. -/

namespace Go.Proofs.YtciidkmonfmipaaGreat
open Go.RowKit
set_option linter.unusedSimpArgs false
set_option linter.unusedVariables false
set_option maxRecDepth 100000

def orI (x y : Int) : Int := if x = 0 then y else x
set_option maxHeartbeats 2000000 in
theorem cmpOr_any (b c : Nat) (x y : Int) (w : World) (h0 : w.cell? ⟨b, 0, none⟩ = some (.int .i64 x)) (h1 : w.cell? ⟨b, 1, none⟩ = some (.int .i64 y)) : Calls Tryz.prog 122 #[.slice (some ⟨b, 0, none⟩) 2 c] w fun e w' => e = .returned (.int .i64 (orI x y)) ∧ w' = w := by
  unfold orI
  by_cases hx : x = 0
  · subst hx
    by_cases hy : y = 0
    · subst hy
      go_enter Tryz.func122, Tryz.ntmps122
      go_wp2
      refine wp_loop_rounds 3 ?_
      rw [rounds_succ]
      go_wp2
      rw [rounds_succ]
      go_wp2
      rw [rounds_succ]
      go_wp2
      go_ret
      exact ⟨by simp, rfl⟩
    · have hy' : (y == 0) = false := by simpa using hy
      go_enter Tryz.func122, Tryz.ntmps122
      go_wp2
      refine wp_loop_rounds 2 ?_
      rw [rounds_succ]
      go_wp2
      rw [rounds_succ]
      go_wp2
      go_ret
      exact ⟨by simp, rfl⟩
  · have hx' : (x == 0) = false := by simpa using hx
    rw [if_neg hx]
    go_enter Tryz.func122, Tryz.ntmps122
    go_wp2
    refine wp_loop_rounds 1 ?_
    rw [rounds_succ]
    go_wp2
    go_ret
    exact ⟨rfl, rfl⟩
/-- What comparing two features tells. -/
def cmpF (f g : Feat) : Int := orI (cmpI f.la g.la) (cmpI f.id g.id)
set_option maxHeartbeats 4000000 in
theorem compareFeatures_gro (f g : Feat) (w : World) : Calls Tryz.prog 94 #[.agg (fcell f).toArray, .agg (fcell g).toArray] w fun e w' => e = .returned (.int .i64 (cmpF f g)) ∧ Gro w w' := by
  unfold cmpF
  generalize hA : cmpI f.la g.la = A
  generalize hB : cmpI f.id g.id = B
  have H1 : Hid (∀ W, Calls Tryz.prog 123 #[.int .i64 f.la, .int .i64 g.la] W fun e w' => e = .returned (.int .i64 A) ∧ w' = W) := fun W => by subst hA; exact cmpCompare_any _ _ _
  have H2 : Hid (∀ W, Calls Tryz.prog 123 #[.int .i64 f.id, .int .i64 g.id] W fun e w' => e = .returned (.int .i64 B) ∧ w' = W) := fun W => by subst hB; exact cmpCompare_any _ _ _
  clear hA hB
  unfold fcell
  go_enter Tryz.func94, Tryz.ntmps94
  go_wp2_with fail
  generalize hV : ((w.alloc _).alloc _ : World) = V
  have hB0 : Gro w V := by subst hV; exact ((Gro.refl _).alloc _).alloc _
  have c0 : ∀ W', Gro V W' → W'.cell? ⟨w.heap.size, 0, none⟩ = some (.int .i64 f.id) := fun W' h => by
    rw [h.1.cell (by subst hV; simp <;> omega)]; subst hV; simp [go_sem]
  have c1 : ∀ W', Gro V W' → W'.cell? ⟨w.heap.size, 1, none⟩ = some (.int .i64 f.la) := fun W' h => by
    rw [h.1.cell (by subst hV; simp <;> omega)]; subst hV; simp [go_sem]
  have d0 : ∀ W', Gro V W' → W'.cell? ⟨w.heap.size + 1, 0, none⟩ = some (.int .i64 g.id) := fun W' h => by
    rw [h.1.cell (by subst hV; simp <;> omega)]; subst hV; simp [go_sem]
  have d1 : ∀ W', Gro V W' → W'.cell? ⟨w.heap.size + 1, 1, none⟩ = some (.int .i64 g.la) := fun W' h => by
    rw [h.1.cell (by subst hV; simp <;> omega)]; subst hV; simp [go_sem]
  clear hV
  refine wp_region_noPanic ?_
  refine wp_region_held_drew (S := fun W' => Gro V W') (by kernel_rfl) ((Gro.refl V).drew) (fun hHeld => ?_)
  have hBd : Gro V V.drew := hHeld
  refine takeD (i := 0) (d := some 5) (v := ?vt1) rfl rfl (by kernel_rfl) (by kernel_rfl) (by kernel_rfl) (fun _ _ _ h => h) (Or.inl ⟨by rfl, ?hyt1⟩) (by assumption) ?_
  case hyt1 => (intro w hSw; (try dsimp only at hSw); go_simp <;> with_reducible rfl)
  try simp only [Act.put, List.setIfInBounds_toArray, List.set_cons_zero, List.set_cons_succ]
  refine takeD (i := 1) (d := some 6) (v := ?vt2) rfl rfl (by kernel_rfl) (by kernel_rfl) (by kernel_rfl) (fun _ _ _ h => h) (Or.inl ⟨by rfl, ?hyt2⟩) (by assumption) ?_
  case hyt2 => (intro w hSw; (try dsimp only at hSw); go_simp <;> with_reducible rfl)
  try simp only [Act.put, List.setIfInBounds_toArray, List.set_cons_zero, List.set_cons_succ]
  refine takeD (i := 2) (d := some 7) (v := ?vt3) rfl rfl (by kernel_rfl) (by kernel_rfl) (by kernel_rfl) (fun _ _ _ h => h) (Or.inl ⟨by rfl, ?hyt3⟩) (by assumption) ?_
  case hyt3 => (intro w hSw; (try dsimp only at hSw); go_simp <;> with_reducible rfl)
  try simp only [Act.put, List.setIfInBounds_toArray, List.set_cons_zero, List.set_cons_succ]
  refine takeD (i := 3) (d := some 8) (v := ?vt4) rfl rfl (by kernel_rfl) (by kernel_rfl) (by kernel_rfl) (fun _ _ _ h => h) (Or.inl ⟨by rfl, ?hyt4⟩) (by assumption) ?_
  case hyt4 => (intro w hSw; (try dsimp only at hSw); go_simp <;> with_reducible rfl)
  try simp only [Act.put, List.setIfInBounds_toArray, List.set_cons_zero, List.set_cons_succ]
  refine takeD (i := 5) (d := some 10) (v := ?vt5) rfl rfl (by kernel_rfl) (by kernel_rfl) (by kernel_rfl) (fun _ _ _ h => h) (Or.inl ⟨by rfl, ?hyt5⟩) (by assumption) ?_
  case hyt5 => (intro w hSw; (try dsimp only at hSw); go_simp <;> with_reducible rfl)
  try simp only [Act.put, List.setIfInBounds_toArray, List.set_cons_zero, List.set_cons_succ]
  refine takeD (i := 6) (d := some 11) (v := ?vt6) rfl rfl (by kernel_rfl) (by kernel_rfl) (by kernel_rfl) (fun _ _ _ h => h) (Or.inl ⟨by rfl, ?hyt6⟩) (by assumption) ?_
  case hyt6 => (intro w hSw; (try dsimp only at hSw); go_simp <;> with_reducible rfl)
  try simp only [Act.put, List.setIfInBounds_toArray, List.set_cons_zero, List.set_cons_succ]
  refine takeD (i := 7) (d := some 12) (v := ?vt7) rfl rfl (by kernel_rfl) (by kernel_rfl) (by kernel_rfl) (fun _ _ _ h => h) (Or.inl ⟨by rfl, ?hyt7⟩) (by assumption) ?_
  case hyt7 => (intro w hSw; (try dsimp only at hSw); go_simp <;> with_reducible rfl)
  try simp only [Act.put, List.setIfInBounds_toArray, List.set_cons_zero, List.set_cons_succ]
  refine takeD (i := 8) (d := some 13) (v := ?vt8) rfl rfl (by kernel_rfl) (by kernel_rfl) (by kernel_rfl) (fun _ _ _ h => h) (Or.inl ⟨by rfl, ?hyt8⟩) (by assumption) ?_
  case hyt8 => (intro w hSw; (try dsimp only at hSw); go_simp <;> with_reducible rfl)
  try simp only [Act.put, List.setIfInBounds_toArray, List.set_cons_zero, List.set_cons_succ]
  refine wpAnyH_ready (rs := [4]) (by kernel_rfl) (by simp) ?_
  refine (AllReadyH.cons rfl (fun K hK => ?_) AllReadyH.nil)
  go_simp
  refine (H1.out _).mono ?_
  rintro e w4 ⟨rfl, rfl⟩
  go_wp2_with fail
  refine hK.out _ _ hBd (fun hHeld => ?_)
  clear hK K
  try simp only [Act.put, List.setIfInBounds_toArray, List.set_cons_zero, List.set_cons_succ]
  refine wpAnyH_ready (rs := [9]) (by kernel_rfl) (by simp) ?_
  refine (AllReadyH.cons rfl (fun K hK => ?_) AllReadyH.nil)
  go_simp
  refine (H2.out _).mono ?_
  rintro e w9 ⟨rfl, rfl⟩
  go_wp2_with fail
  refine hK.out _ _ hBd (fun hHeld => ?_)
  clear hK K
  try simp only [Act.put, List.setIfInBounds_toArray, List.set_cons_zero, List.set_cons_succ]
  refine wpAnyH_ready (rs := [10]) (by kernel_rfl) (by simp) ?_
  refine (AllReadyH.cons rfl (fun K hK => ?_) AllReadyH.nil)
  go_simp
  generalize hw9 : (World.alloc _ _ : World) = w9
  have hb9 : Gro V w9 := by subst hw9; exact (Gro.refl _).alloc _
  have g0 : w9.cell? ⟨V.heap.size, 0, none⟩ = some (.int .i64 A) := by subst hw9; simp [go_sem]
  have g1 : w9.cell? ⟨V.heap.size, 1, none⟩ = some (.int .i64 B) := by subst hw9; simp [go_sem]
  have hB9 : Gro V w9.drew := hb9.drew
  replace g0 : w9.drew.cell? ⟨V.heap.size, 0, none⟩ = some (.int .i64 A) := g0
  replace g1 : w9.drew.cell? ⟨V.heap.size, 1, none⟩ = some (.int .i64 B) := g1
  clear hw9
  refine hK.out _ _ hB9 (fun hHeld => ?_)
  clear hK K
  try simp only [Act.put, List.setIfInBounds_toArray, List.set_cons_zero, List.set_cons_succ]
  refine wpAnyH_ready (rs := [11]) (by kernel_rfl) (by simp) ?_
  refine (AllReadyH.cons rfl (fun K hK => ?_) AllReadyH.nil)
  go_simp
  refine (cmpOr_any _ _ A B _ g0 g1).mono ?_
  rintro e w11 ⟨rfl, rfl⟩
  go_wp2_with fail
  refine hK.out _ _ hB9 (fun hHeld => ?_)
  clear hK K
  try simp only [Act.put, List.setIfInBounds_toArray, List.set_cons_zero, List.set_cons_succ]
  refine takeD (i := 12) (d := some 4) (v := ?vt9) rfl rfl (by kernel_rfl) (by kernel_rfl) (by kernel_rfl) (fun _ _ _ h => h) (Or.inl ⟨by rfl, ?hyt9⟩) (by assumption) ?_
  case hyt9 => (intro w hSw; (try dsimp only at hSw); go_simp <;> with_reducible rfl)
  try simp only [Act.put, List.setIfInBounds_toArray, List.set_cons_zero, List.set_cons_succ]
  refine wpAnyH_done (by kernel_rfl) ?_ _
  refine NoPanic.normal ?_
  go_wp2_with fail
  go_ret
  exact ⟨rfl, hB0.trans hB9⟩
end Go.Proofs.YtciidkmonfmipaaGreat
/- The model's order of two features. -/

namespace Go.Proofs.YtciidkmonfmipaaGreat
open Go.RowKit
set_option linter.unusedSimpArgs false
set_option linter.unusedVariables false
set_option maxRecDepth 100000

def ltF (f g : Feat) : Bool := decide (f.la < g.la) || (decide (f.la = g.la) && decide (f.id < g.id))
set_option maxHeartbeats 4000000 in
theorem l2Ahead_any (p o p' o' : Nat) (f g : Feat) (w : World) (h0 : w.cell? ⟨p, o, none⟩ = some (.int .i64 f.id)) (h1 : w.cell? ⟨p, o + 1, none⟩ = some (.int .i64 f.la)) (k0 : w.cell? ⟨p', o', none⟩ = some (.int .i64 g.id)) (k1 : w.cell? ⟨p', o' + 1, none⟩ = some (.int .i64 g.la)) :
    Calls Tryz.prog 84 #[.pointer (some ⟨p, o, none⟩), .pointer (some ⟨p', o', none⟩)] w fun e w' => e = .returned (.bool (ltF f g)) ∧ Below w.heap.size w w' := by
  by_cases hx : f.la < g.la
  · have HU : Hid (ltF f g = true) := by show _ = _; simp [ltF, hx]
    go_enter Tryz.func84, Tryz.ntmps84
    go_wp2_with fail
    go_region
    go_wp2
    go_ret
    exact ⟨ret_bool HU.out.symm, by (repeat (first | exact Below.refl _ _ | assumption | refine Below.drew ?_ | refine bl_alloc ?_ _ | refine bl_then ?_ (by assumption) | refine Below.setCell ?_ (by first | omega | (simp; done) | (simp; omega)) _ | refine bl_store ?_ ?_ _ _))⟩
  · have hx' : decide (f.la < g.la) = false := by simpa using hx
    by_cases hy : f.la = g.la
    · have hy' : (f.la == g.la) = true := by simpa using hy
      by_cases hz : f.id < g.id
      · have HU : Hid (ltF f g = true) := by show _ = _; simp [ltF, hy, hz]
        clear hy hx
        go_enter Tryz.func84, Tryz.ntmps84
        go_wp2_with fail
        go_region
        go_wp2
        go_ret
        exact ⟨ret_bool HU.out.symm, by (repeat (first | exact Below.refl _ _ | assumption | refine Below.drew ?_ | refine bl_alloc ?_ _ | refine bl_then ?_ (by assumption) | refine Below.setCell ?_ (by first | omega | (simp; done) | (simp; omega)) _ | refine bl_store ?_ ?_ _ _))⟩
      · have hz' : decide (f.id < g.id) = false := by simpa using hz
        have HU : Hid (ltF f g = false) := by show _ = _; simp [ltF, hx]; omega
        clear hy hx hz
        go_enter Tryz.func84, Tryz.ntmps84
        go_wp2_with fail
        go_region
        go_wp2
        go_ret
        exact ⟨ret_bool HU.out.symm, by (repeat (first | exact Below.refl _ _ | assumption | refine Below.drew ?_ | refine bl_alloc ?_ _ | refine bl_then ?_ (by assumption) | refine Below.setCell ?_ (by first | omega | (simp; done) | (simp; omega)) _ | refine bl_store ?_ ?_ _ _))⟩
    · have hy' : (f.la == g.la) = false := by simpa using hy
      have HU : Hid (ltF f g = false) := by show _ = _; simp [ltF, hx, hy]
      clear hy hx
      go_enter Tryz.func84, Tryz.ntmps84
      go_wp2_with fail
      go_region
      go_wp2
      go_ret
      exact ⟨ret_bool HU.out.symm, by (repeat (first | exact Below.refl _ _ | assumption | refine Below.drew ?_ | refine bl_alloc ?_ _ | refine bl_then ?_ (by assumption) | refine Below.setCell ?_ (by first | omega | (simp; done) | (simp; omega)) _ | refine bl_store ?_ ?_ _ _))⟩
end Go.Proofs.YtciidkmonfmipaaGreat
