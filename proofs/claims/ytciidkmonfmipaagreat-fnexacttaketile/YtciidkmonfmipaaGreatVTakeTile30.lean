/- The shelf: what is in its map. -/
import Derived.Test.YtciidkmonfmipaaGreatVTakeTile27
import Derived.Test.YtciidkmonfmipaaGreatVTakeTile4
namespace Go.Proofs.YtciidkmonfmipaaGreat
open Go.RowKit
set_option linter.unusedSimpArgs false
set_option linter.unusedVariables false
set_option maxRecDepth 100000

/-- A tile that is kept, with its turn. -/
abbrev agV (z x y : Int) (fa : Option Addr) (fn fc : Nat) (ia : Option Addr) (m ic : Nat) (t : Int) : Value := .agg #[.int .i64 z, .int .i64 x, .int .i64 y, .slice fa fn fc, .slice ia m ic, .int .i64 t]
/-- How an element of the shelf's map is read: as it is. -/
def RV : Value → Option (DataW Value × List MemPlace)
  | .agg cs => match cs.toList with
    | [.int .i64 _, .int .i64 _, .int .i64 _, .slice _ _ _, .slice _ _ _, .int .i64 _] => some (.held (.agg cs), [])
    | _ => none
  | _ => none
theorem RV_mk (z x y : Int) (fa : Option Addr) (fn fc : Nat) (ia : Option Addr) (m ic : Nat) (t : Int) : RV (agV z x y fa fn fc ia m ic t) = some (.held (agV z x y fa fn fc ia m ic t), []) := rfl
theorem RV_inv {v : Value} {d : DataW Value} {ps : List MemPlace} (h : RV v = some (d, ps)) : d = .held v ∧ ∃ z x y fa fn fc ia m ic t, v = agV z x y fa fn fc ia m ic t := by
  unfold RV at h
  split at h
  · rename_i cs
    split at h
    · rename_i hl
      obtain ⟨l⟩ := cs
      replace hl : l = _ := hl
      subst hl
      injection h with h
      injection h with h1 h2
      exact ⟨h1.symm, _, _, _, _, _, _, _, _, _, _, rfl⟩
    · cases h
  · cases h
theorem ownsMap_below {w w' : World} {P : Program} {k : TypeId} {mb n : Nat} {D : DataW Value} (h : w.ownsMap P k RV mb n D) (hb : Below w.heap.size w w') : w'.ownsMap P k RV mb n D := by
  have hl := h.lt
  obtain ⟨es, c, h1, h2⟩ := h
  exact ⟨es, c, (hb.block mb hl).trans h1, h2⟩
theorem zero_aged (w : World) : (zeroValue 125).run Tryz.prog w = .ok (agV 0 0 0 none 0 0 none 0 0 0) w := by kernel_rfl
/-- Three cells: a shelf. -/
def ShA (w : World) (p : Nat) (s t : Int) (mb : Nat) : Prop := w.cell? ⟨p, 0, none⟩ = some (.int .i64 s) ∧ w.cell? ⟨p, 1, none⟩ = some (.int .i64 t) ∧ w.cell? ⟨p, 2, none⟩ = some (.map (some mb))
theorem ShA.below {w w' : World} {p mb : Nat} {s t : Int} (h : ShA w p s t mb) (hb : Below w.heap.size w w') : ShA w' p s t mb :=
  have hl := World.block_lt_of_cell? _ _ h.1
  ⟨(hb.cell (p := ⟨p, 0, none⟩) hl).trans h.1, (hb.cell (p := ⟨p, 1, none⟩) hl).trans h.2.1, (hb.cell (p := ⟨p, 2, none⟩) hl).trans h.2.2⟩
/-- A look-up, the same in every later world. -/
theorem look_ref {w : World} {mb n : Nat} {D : DataW Value} {z x y : Int} (hm : w.ownsMap Tryz.prog 39 RV mb n D) (hz : I64 z) (hx : I64 x) (hy : I64 y) :
    ∃ a b c fa fn fc ia m ic t, ∀ W, Below w.heap.size w W → (Instr.lookup 103 (.map (some mb)) (refV z x y) true).run Tryz.prog W = .ok (.tuple #[agV a b c fa fn fc ia m ic t, .bool (Maps.has D (keyL z x y))]) W := by
  have key : ∀ W, Below w.heap.size w W → ∃ v, D.atKey (keyL z x y) (.held (agV 0 0 0 none 0 0 none 0 0 0)) = .held v ∧ (∃ a b c fa fn fc ia m ic t, v = agV a b c fa fn fc ia m ic t) ∧ (Instr.lookup 103 (.map (some mb)) (refV z x y) true).run Tryz.prog W = .ok (.tuple #[v, .bool (Maps.has D (keyL z x y))]) W := fun W hW => by
    obtain ⟨v, ps, hr, hv⟩ := (ownsMap_below hm hW).look_ok keyed_ref Tryz.underlying103 (zero_aged _) (RV_mk 0 0 0 none 0 0 none 0 0 0) (key_ref hz hx hy)
    obtain ⟨e, h⟩ := RV_inv hv
    exact ⟨v, e, h, hr⟩
  obtain ⟨v, hv, ⟨a, b, c, fa, fn, fc, ia, m, ic, t, rfl⟩, _⟩ := key w (Below.refl _ _)
  refine ⟨a, b, c, fa, fn, fc, ia, m, ic, t, fun W hW => ?_⟩
  obtain ⟨v', hv', _, hr⟩ := key W hW
  rw [hv] at hv'
  injection hv' with e
  rw [e]; exact hr
set_option maxHeartbeats 1000000 in
theorem shelfHas_any (p mb n : Nat) (s t : Int) (D : DataW Value) (z x y : Int) (w : World) (hp : ShA w p s t mb) (hm : w.ownsMap Tryz.prog 39 RV mb n D) (hz : I64 z) (hx : I64 x) (hy : I64 y) :
    Calls Tryz.prog 77 #[.pointer (some ⟨p, 0, none⟩), refV z x y] w fun e w' => e = .returned (.bool (Maps.has D (keyL z x y))) ∧ Below w.heap.size w w' := by
  obtain ⟨va, vb, vc, fa, fn, fc, ia, m, ic, vt, hL⟩ := look_ref hm hz hx hy
  have HP : Hid (ShA w p s t mb) := hp
  generalize Maps.has D (keyL z x y) = B at *
  clear hm hz hx hy hp
  go_enter Tryz.func77, Tryz.ntmps77
  go_wp2_with fail
  generalize hW : (w.alloc _ : World) = W
  have HB0 : Below w.heap.size w W := by subst hW; (repeat (first | exact Below.refl _ _ | assumption | refine Below.drew ?_ | refine bl_alloc ?_ _ | refine bl_then ?_ (by assumption) | refine Below.setCell ?_ (by first | omega | (simp; done) | (simp; omega)) _ | refine bl_store ?_ ?_ _ _))
  have HR : RK W w.heap.size z x y := by subst hW; refine ⟨?_, ?_, ?_⟩ <;> simp [go_sem]
  have c2 : ∀ W', Below W.heap.size W W' → W'.cell? ⟨p, 2, none⟩ = some (.map (some mb)) := fun W' h => (HP.out.below (bl_then HB0 h)).2.2
  have r0 : ∀ W', Below W.heap.size W W' → W'.cell? ⟨w.heap.size, 0, none⟩ = some (.int .i64 z) := fun W' h => (HR.below h).1
  have r1 : ∀ W', Below W.heap.size W W' → W'.cell? ⟨w.heap.size, 1, none⟩ = some (.int .i64 x) := fun W' h => (HR.below h).2.1
  have r2 : ∀ W', Below W.heap.size W W' → W'.cell? ⟨w.heap.size, 2, none⟩ = some (.int .i64 y) := fun W' h => (HR.below h).2.2
  have l5 : ∀ W', Below W.heap.size W W' → (Instr.lookup 103 (.map (some mb)) (refV z x y) true).run Tryz.prog W' = .ok (.tuple #[agV va vb vc fa fn fc ia m ic vt, .bool B]) W' := fun W' h => hL W' (bl_then HB0 h)
  have HB : Hid (Below w.heap.size w W) := HB0
  clear hW hL HR HB0
  refine wp_region_noPanic ?_
  refine wp_region_held_drew (S := fun W' => Below W.heap.size W W') (by kernel_rfl) (by have := Below.refl W.heap.size W; (repeat (first | exact Below.refl _ _ | assumption | refine Below.drew ?_ | refine bl_alloc ?_ _ | refine bl_then ?_ (by assumption) | refine Below.setCell ?_ (by first | omega | (simp; done) | (simp; omega)) _ | refine bl_store ?_ ?_ _ _))) (fun hHeld => ?_)
  have hSd : Below W.heap.size W W.drew := hHeld
  refine takeD (i := 0) (d := some 8) (v := ?vr0) rfl rfl (by kernel_rfl) (by kernel_rfl) (by kernel_rfl) (fun _ _ _ h => h) (Or.inl ⟨by rfl, ?hyr0⟩) hSd ?_
  case hyr0 => (intro w hSw; (try dsimp only at hSw); go_simp <;> with_reducible rfl)
  try simp only [Act.put, List.setIfInBounds_toArray, List.set_cons_zero, List.set_cons_succ]
  refine takeD (i := 1) (d := some 9) (v := ?vr1) rfl rfl (by kernel_rfl) (by kernel_rfl) (by kernel_rfl) (fun _ _ _ h => h) (Or.inl ⟨by rfl, ?hyr1⟩) hSd ?_
  case hyr1 => (intro w hSw; (try dsimp only at hSw); go_simp <;> with_reducible rfl)
  try simp only [Act.put, List.setIfInBounds_toArray, List.set_cons_zero, List.set_cons_succ]
  refine takeD (i := 2) (d := some 10) (v := ?vr2) rfl rfl (by kernel_rfl) (by kernel_rfl) (by kernel_rfl) (fun _ _ _ h => h) (Or.inl ⟨by rfl, ?hyr2⟩) hSd ?_
  case hyr2 => (intro w hSw; (try dsimp only at hSw); go_simp <;> with_reducible rfl)
  try simp only [Act.put, List.setIfInBounds_toArray, List.set_cons_zero, List.set_cons_succ]
  refine takeD (i := 3) (d := some 11) (v := ?vr3) rfl rfl (by kernel_rfl) (by kernel_rfl) (by kernel_rfl) (fun _ _ _ h => h) (Or.inl ⟨by rfl, ?hyr3⟩) hSd ?_
  case hyr3 => (intro w hSw; (try dsimp only at hSw); go_simp <;> with_reducible rfl)
  try simp only [Act.put, List.setIfInBounds_toArray, List.set_cons_zero, List.set_cons_succ]
  refine takeD (i := 4) (d := some 12) (v := ?vr4) rfl rfl (by kernel_rfl) (by kernel_rfl) (by kernel_rfl) (fun _ _ _ h => h) (Or.inl ⟨by rfl, ?hyr4⟩) hSd ?_
  case hyr4 => (intro w hSw; (try dsimp only at hSw); go_simp <;> with_reducible rfl)
  try simp only [Act.put, List.setIfInBounds_toArray, List.set_cons_zero, List.set_cons_succ]
  refine takeD (i := 5) (d := some 13) (v := ?vr5) rfl rfl (by kernel_rfl) (by kernel_rfl) (by kernel_rfl) (fun _ _ _ h => h) (Or.inl ⟨by rfl, ?hyr5⟩) hSd ?_
  case hyr5 => (intro w hSw; (try dsimp only at hSw); go_simp <;> with_reducible rfl)
  try simp only [Act.put, List.setIfInBounds_toArray, List.set_cons_zero, List.set_cons_succ]
  refine takeD (i := 6) (d := some 7) (v := ?vr6) rfl rfl (by kernel_rfl) (by kernel_rfl) (by kernel_rfl) (fun _ _ _ h => h) (Or.inl ⟨by rfl, ?hyr6⟩) hSd ?_
  case hyr6 => (intro w hSw; (try dsimp only at hSw); go_simp <;> with_reducible rfl)
  try simp only [Act.put, List.setIfInBounds_toArray, List.set_cons_zero, List.set_cons_succ]
  refine takeD (i := 7) (d := some 14) (v := ?vr7) rfl rfl (by kernel_rfl) (by kernel_rfl) (by kernel_rfl) (fun _ _ _ h => h) (Or.inl ⟨by rfl, ?hyr7⟩) hSd ?_
  case hyr7 => (intro w hSw; (try dsimp only at hSw); go_simp <;> with_reducible rfl)
  try simp only [Act.put, List.setIfInBounds_toArray, List.set_cons_zero, List.set_cons_succ]
  refine takeD (i := 8) (d := some 15) (v := ?vr8) rfl rfl (by kernel_rfl) (by kernel_rfl) (by kernel_rfl) (fun _ _ _ h => h) (Or.inl ⟨by rfl, ?hyr8⟩) hSd ?_
  case hyr8 => (intro w hSw; (try dsimp only at hSw); go_simp <;> with_reducible rfl)
  try simp only [Act.put, List.setIfInBounds_toArray, List.set_cons_zero, List.set_cons_succ]
  refine wpAnyH_ready (rs := [9]) (by kernel_rfl) (by simp) ?_
  refine (AllReadyH.cons rfl (fun K hK => ?_) AllReadyH.nil)
  rw [if_pos (by rfl)]
  go_simp
  generalize hwA : (World.drew (World.alloc _ _) : World) = wA
  have hSA : Below W.heap.size W wA := by subst hwA; have := hSd; (repeat (first | exact Below.refl _ _ | assumption | refine Below.drew ?_ | refine bl_alloc ?_ _ | refine bl_then ?_ (by assumption) | refine Below.setCell ?_ (by first | omega | (simp; done) | (simp; omega)) _ | refine bl_store ?_ ?_ _ _))
  have hT : There wA W.heap.size 6 := by
    subst hwA
    intro o ho
    have : o = 0 ∨ o = 1 ∨ o = 2 ∨ o = 3 ∨ o = 4 ∨ o = 5 := by omega
    rcases this with rfl | rfl | rfl | rfl | rfl | rfl <;> exact ⟨⟨_, by simp [go_sem]; rfl⟩, by simp [go_sem]⟩
  clear hwA
  refine hK.out _ _ hSA (fun hHeld => ?_)
  clear hK K
  try simp only [Act.put, List.setIfInBounds_toArray, List.set_cons_zero, List.set_cons_succ]
  refine wpAnyH_ready (rs := [10]) (by kernel_rfl) (by simp) ?_
  refine (AllReadyH.cons rfl (fun K hK => ?_) AllReadyH.nil)
  rw [if_pos (by rfl)]
  have t0 := hT.cell 0 (by omega)
  have t1 := hT.cell 1 (by omega)
  have t2 := hT.cell 2 (by omega)
  have t3 := hT.cell 3 (by omega)
  have t4 := hT.cell 4 (by omega)
  have t5 := hT.cell 5 (by omega)
  have f0 := (hT 0 (by omega)).2
  have f1 := (hT 1 (by omega)).2
  have f2 := (hT 2 (by omega)).2
  have f3 := (hT 3 (by omega)).2
  have f4 := (hT 4 (by omega)).2
  have f5 := (hT 5 (by omega)).2
  go_simp
  generalize hwC : (World.setCell _ _ _ : World) = wC
  have hSC : Below W.heap.size W wC := by subst hwC; exact (((((hSA.setCell (Nat.le_refl _) _).setCell (Nat.le_refl _) _).setCell (Nat.le_refl _) _).setCell (Nat.le_refl _) _).setCell (Nat.le_refl _) _).setCell (Nat.le_refl _) _
  clear hwC
  refine hK.out _ _ hSC (fun hHeld => ?_)
  clear hK K hT
  try simp only [Act.put, List.setIfInBounds_toArray, List.set_cons_zero, List.set_cons_succ]
  refine wpAnyH_ready (rs := [11]) (by kernel_rfl) (by simp) ?_
  refine (AllReadyH.cons rfl (fun K hK => ?_) AllReadyH.nil)
  rw [if_pos (by rfl)]
  go_simp
  refine hK.out _ _ hSC (fun hHeld => ?_)
  clear hK K
  try simp only [Act.put, List.setIfInBounds_toArray, List.set_cons_zero, List.set_cons_succ]
  refine wpAnyH_done (by kernel_rfl) ?_ _
  refine NoPanic.normal ?_
  have HC3 : Hid (Below w.heap.size w wC) := bl_then HB.out hSC
  clear c2 r0 r1 r2 l5 hSA hSd hSC
  go_wp2
  go_ret
  exact ⟨rfl, HC3.out⟩
end Go.Proofs.YtciidkmonfmipaaGreat
