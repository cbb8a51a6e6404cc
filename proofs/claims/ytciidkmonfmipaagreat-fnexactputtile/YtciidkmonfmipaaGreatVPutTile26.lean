/- Several texts in one. -/
import Derived.Test.YtciidkmonfmipaaGreatVPutTile23
import Derived.Test.YtciidkmonfmipaaGreatVPutTile3

/- The shelf: what is in its map. -/

namespace Go.Proofs.YtciidkmonfmipaaGreat
open Go.RowKit
set_option linter.unusedSimpArgs false
set_option linter.unusedVariables false
set_option maxRecDepth 100000

/-- A tile that is kept, with its turn. -/
abbrev agV (z x y : Int) (fa : Option Addr) (fn fc : Nat) (ia : Option Addr) (m ic : Nat) (t : Int) : Value := .agg #[.int .i64 z, .int .i64 x, .int .i64 y, .slice fa fn fc, .slice ia m ic, .int .i64 t]
/-- How an element of the shelf's map is read: as it is. -/
def RV : Value → Option (DataW Value × List MemPlace)
  | .agg cs => match cs.toList with
    | [.int .i64 _, .int .i64 _, .int .i64 _, .slice _ _ _, .slice _ _ _, .int .i64 _] => some (.held (.agg cs), [])
    | _ => none
  | _ => none
theorem RV_mk (z x y : Int) (fa : Option Addr) (fn fc : Nat) (ia : Option Addr) (m ic : Nat) (t : Int) : RV (agV z x y fa fn fc ia m ic t) = some (.held (agV z x y fa fn fc ia m ic t), []) := rfl
theorem RV_inv {v : Value} {d : DataW Value} {ps : List MemPlace} (h : RV v = some (d, ps)) : d = .held v ∧ ∃ z x y fa fn fc ia m ic t, v = agV z x y fa fn fc ia m ic t := by
  unfold RV at h
  split at h
  · rename_i cs
    split at h
    · rename_i hl
      obtain ⟨l⟩ := cs
      replace hl : l = _ := hl
      subst hl
      injection h with h
      injection h with h1 h2
      exact ⟨h1.symm, _, _, _, _, _, _, _, _, _, _, rfl⟩
    · cases h
  · cases h
theorem ownsMap_below {w w' : World} {P : Program} {k : TypeId} {mb n : Nat} {D : DataW Value} (h : w.ownsMap P k RV mb n D) (hb : Below w.heap.size w w') : w'.ownsMap P k RV mb n D := by
  have hl := h.lt
  obtain ⟨es, c, h1, h2⟩ := h
  exact ⟨es, c, (hb.block mb hl).trans h1, h2⟩
theorem zero_aged (w : World) : (zeroValue 125).run Tryz.prog w = .ok (agV 0 0 0 none 0 0 none 0 0 0) w := by kernel_rfl
/-- Three cells: a shelf. -/
def ShA (w : World) (p : Nat) (s t : Int) (mb : Nat) : Prop := w.cell? ⟨p, 0, none⟩ = some (.int .i64 s) ∧ w.cell? ⟨p, 1, none⟩ = some (.int .i64 t) ∧ w.cell? ⟨p, 2, none⟩ = some (.map (some mb))
theorem ShA.below {w w' : World} {p mb : Nat} {s t : Int} (h : ShA w p s t mb) (hb : Below w.heap.size w w') : ShA w' p s t mb :=
  have hl := World.block_lt_of_cell? _ _ h.1
  ⟨(hb.cell (p := ⟨p, 0, none⟩) hl).trans h.1, (hb.cell (p := ⟨p, 1, none⟩) hl).trans h.2.1, (hb.cell (p := ⟨p, 2, none⟩) hl).trans h.2.2⟩
/-- A look-up, the same in every later world. -/
theorem look_ref {w : World} {mb n : Nat} {D : DataW Value} {z x y : Int} (hm : w.ownsMap Tryz.prog 39 RV mb n D) (hz : I64 z) (hx : I64 x) (hy : I64 y) :
    ∃ a b c fa fn fc ia m ic t, ∀ W, Below w.heap.size w W → (Instr.lookup 103 (.map (some mb)) (refV z x y) true).run Tryz.prog W = .ok (.tuple #[agV a b c fa fn fc ia m ic t, .bool (Maps.has D (keyL z x y))]) W := by
  have key : ∀ W, Below w.heap.size w W → ∃ v, D.atKey (keyL z x y) (.held (agV 0 0 0 none 0 0 none 0 0 0)) = .held v ∧ (∃ a b c fa fn fc ia m ic t, v = agV a b c fa fn fc ia m ic t) ∧ (Instr.lookup 103 (.map (some mb)) (refV z x y) true).run Tryz.prog W = .ok (.tuple #[v, .bool (Maps.has D (keyL z x y))]) W := fun W hW => by
    obtain ⟨v, ps, hr, hv⟩ := (ownsMap_below hm hW).look_ok keyed_ref Tryz.underlying103 (zero_aged _) (RV_mk 0 0 0 none 0 0 none 0 0 0) (key_ref hz hx hy)
    obtain ⟨e, h⟩ := RV_inv hv
    exact ⟨v, e, h, hr⟩
  obtain ⟨v, hv, ⟨a, b, c, fa, fn, fc, ia, m, ic, t, rfl⟩, _⟩ := key w (Below.refl _ _)
  refine ⟨a, b, c, fa, fn, fc, ia, m, ic, t, fun W hW => ?_⟩
  obtain ⟨v', hv', _, hr⟩ := key W hW
  rw [hv] at hv'
  injection hv' with e
  rw [e]; exact hr
set_option maxHeartbeats 1000000 in
theorem shelfHas_any (p mb n : Nat) (s t : Int) (D : DataW Value) (z x y : Int) (w : World) (hp : ShA w p s t mb) (hm : w.ownsMap Tryz.prog 39 RV mb n D) (hz : I64 z) (hx : I64 x) (hy : I64 y) :
    Calls Tryz.prog 77 #[.pointer (some ⟨p, 0, none⟩), refV z x y] w fun e w' => e = .returned (.bool (Maps.has D (keyL z x y))) ∧ Below w.heap.size w w' := by
  obtain ⟨va, vb, vc, fa, fn, fc, ia, m, ic, vt, hL⟩ := look_ref hm hz hx hy
  have HP : Hid (ShA w p s t mb) := hp
  generalize Maps.has D (keyL z x y) = B at *
  clear hm hz hx hy hp
  go_enter Tryz.func77, Tryz.ntmps77
  go_wp2_with fail
  generalize hW : (w.alloc _ : World) = W
  have HB0 : Below w.heap.size w W := by subst hW; (repeat (first | exact Below.refl _ _ | assumption | refine Below.drew ?_ | refine bl_alloc ?_ _ | refine bl_then ?_ (by assumption) | refine Below.setCell ?_ (by first | omega | (simp; done) | (simp; omega)) _ | refine bl_store ?_ ?_ _ _))
  have HR : RK W w.heap.size z x y := by subst hW; refine ⟨?_, ?_, ?_⟩ <;> simp [go_sem]
  have c2 : ∀ W', Below W.heap.size W W' → W'.cell? ⟨p, 2, none⟩ = some (.map (some mb)) := fun W' h => (HP.out.below (bl_then HB0 h)).2.2
  have r0 : ∀ W', Below W.heap.size W W' → W'.cell? ⟨w.heap.size, 0, none⟩ = some (.int .i64 z) := fun W' h => (HR.below h).1
  have r1 : ∀ W', Below W.heap.size W W' → W'.cell? ⟨w.heap.size, 1, none⟩ = some (.int .i64 x) := fun W' h => (HR.below h).2.1
  have r2 : ∀ W', Below W.heap.size W W' → W'.cell? ⟨w.heap.size, 2, none⟩ = some (.int .i64 y) := fun W' h => (HR.below h).2.2
  have l5 : ∀ W', Below W.heap.size W W' → (Instr.lookup 103 (.map (some mb)) (refV z x y) true).run Tryz.prog W' = .ok (.tuple #[agV va vb vc fa fn fc ia m ic vt, .bool B]) W' := fun W' h => hL W' (bl_then HB0 h)
  have HB : Hid (Below w.heap.size w W) := HB0
  clear hW hL HR HB0
  refine wp_region_noPanic ?_
  refine wp_region_held_drew (S := fun W' => Below W.heap.size W W') (by kernel_rfl) (by have := Below.refl W.heap.size W; (repeat (first | exact Below.refl _ _ | assumption | refine Below.drew ?_ | refine bl_alloc ?_ _ | refine bl_then ?_ (by assumption) | refine Below.setCell ?_ (by first | omega | (simp; done) | (simp; omega)) _ | refine bl_store ?_ ?_ _ _))) (fun hHeld => ?_)
  have hSd : Below W.heap.size W W.drew := hHeld
  refine takeD (i := 0) (d := some 8) (v := ?vr0) rfl rfl (by kernel_rfl) (by kernel_rfl) (by kernel_rfl) (fun _ _ _ h => h) (Or.inl ⟨by rfl, ?hyr0⟩) hSd ?_
  case hyr0 => (intro w hSw; (try dsimp only at hSw); go_simp <;> with_reducible rfl)
  try simp only [Act.put, List.setIfInBounds_toArray, List.set_cons_zero, List.set_cons_succ]
  refine takeD (i := 1) (d := some 9) (v := ?vr1) rfl rfl (by kernel_rfl) (by kernel_rfl) (by kernel_rfl) (fun _ _ _ h => h) (Or.inl ⟨by rfl, ?hyr1⟩) hSd ?_
  case hyr1 => (intro w hSw; (try dsimp only at hSw); go_simp <;> with_reducible rfl)
  try simp only [Act.put, List.setIfInBounds_toArray, List.set_cons_zero, List.set_cons_succ]
  refine takeD (i := 2) (d := some 10) (v := ?vr2) rfl rfl (by kernel_rfl) (by kernel_rfl) (by kernel_rfl) (fun _ _ _ h => h) (Or.inl ⟨by rfl, ?hyr2⟩) hSd ?_
  case hyr2 => (intro w hSw; (try dsimp only at hSw); go_simp <;> with_reducible rfl)
  try simp only [Act.put, List.setIfInBounds_toArray, List.set_cons_zero, List.set_cons_succ]
  refine takeD (i := 3) (d := some 11) (v := ?vr3) rfl rfl (by kernel_rfl) (by kernel_rfl) (by kernel_rfl) (fun _ _ _ h => h) (Or.inl ⟨by rfl, ?hyr3⟩) hSd ?_
  case hyr3 => (intro w hSw; (try dsimp only at hSw); go_simp <;> with_reducible rfl)
  try simp only [Act.put, List.setIfInBounds_toArray, List.set_cons_zero, List.set_cons_succ]
  refine takeD (i := 4) (d := some 12) (v := ?vr4) rfl rfl (by kernel_rfl) (by kernel_rfl) (by kernel_rfl) (fun _ _ _ h => h) (Or.inl ⟨by rfl, ?hyr4⟩) hSd ?_
  case hyr4 => (intro w hSw; (try dsimp only at hSw); go_simp <;> with_reducible rfl)
  try simp only [Act.put, List.setIfInBounds_toArray, List.set_cons_zero, List.set_cons_succ]
  refine takeD (i := 5) (d := some 13) (v := ?vr5) rfl rfl (by kernel_rfl) (by kernel_rfl) (by kernel_rfl) (fun _ _ _ h => h) (Or.inl ⟨by rfl, ?hyr5⟩) hSd ?_
  case hyr5 => (intro w hSw; (try dsimp only at hSw); go_simp <;> with_reducible rfl)
  try simp only [Act.put, List.setIfInBounds_toArray, List.set_cons_zero, List.set_cons_succ]
  refine takeD (i := 6) (d := some 7) (v := ?vr6) rfl rfl (by kernel_rfl) (by kernel_rfl) (by kernel_rfl) (fun _ _ _ h => h) (Or.inl ⟨by rfl, ?hyr6⟩) hSd ?_
  case hyr6 => (intro w hSw; (try dsimp only at hSw); go_simp <;> with_reducible rfl)
  try simp only [Act.put, List.setIfInBounds_toArray, List.set_cons_zero, List.set_cons_succ]
  refine takeD (i := 7) (d := some 14) (v := ?vr7) rfl rfl (by kernel_rfl) (by kernel_rfl) (by kernel_rfl) (fun _ _ _ h => h) (Or.inl ⟨by rfl, ?hyr7⟩) hSd ?_
  case hyr7 => (intro w hSw; (try dsimp only at hSw); go_simp <;> with_reducible rfl)
  try simp only [Act.put, List.setIfInBounds_toArray, List.set_cons_zero, List.set_cons_succ]
  refine takeD (i := 8) (d := some 15) (v := ?vr8) rfl rfl (by kernel_rfl) (by kernel_rfl) (by kernel_rfl) (fun _ _ _ h => h) (Or.inl ⟨by rfl, ?hyr8⟩) hSd ?_
  case hyr8 => (intro w hSw; (try dsimp only at hSw); go_simp <;> with_reducible rfl)
  try simp only [Act.put, List.setIfInBounds_toArray, List.set_cons_zero, List.set_cons_succ]
  refine wpAnyH_ready (rs := [9]) (by kernel_rfl) (by simp) ?_
  refine (AllReadyH.cons rfl (fun K hK => ?_) AllReadyH.nil)
  rw [if_pos (by rfl)]
  go_simp
  generalize hwA : (World.drew (World.alloc _ _) : World) = wA
  have hSA : Below W.heap.size W wA := by subst hwA; have := hSd; (repeat (first | exact Below.refl _ _ | assumption | refine Below.drew ?_ | refine bl_alloc ?_ _ | refine bl_then ?_ (by assumption) | refine Below.setCell ?_ (by first | omega | (simp; done) | (simp; omega)) _ | refine bl_store ?_ ?_ _ _))
  have hT : There wA W.heap.size 6 := by
    subst hwA
    intro o ho
    have : o = 0 ∨ o = 1 ∨ o = 2 ∨ o = 3 ∨ o = 4 ∨ o = 5 := by omega
    rcases this with rfl | rfl | rfl | rfl | rfl | rfl <;> exact ⟨⟨_, by simp [go_sem]; rfl⟩, by simp [go_sem]⟩
  clear hwA
  refine hK.out _ _ hSA (fun hHeld => ?_)
  clear hK K
  try simp only [Act.put, List.setIfInBounds_toArray, List.set_cons_zero, List.set_cons_succ]
  refine wpAnyH_ready (rs := [10]) (by kernel_rfl) (by simp) ?_
  refine (AllReadyH.cons rfl (fun K hK => ?_) AllReadyH.nil)
  rw [if_pos (by rfl)]
  have t0 := hT.cell 0 (by omega)
  have t1 := hT.cell 1 (by omega)
  have t2 := hT.cell 2 (by omega)
  have t3 := hT.cell 3 (by omega)
  have t4 := hT.cell 4 (by omega)
  have t5 := hT.cell 5 (by omega)
  have f0 := (hT 0 (by omega)).2
  have f1 := (hT 1 (by omega)).2
  have f2 := (hT 2 (by omega)).2
  have f3 := (hT 3 (by omega)).2
  have f4 := (hT 4 (by omega)).2
  have f5 := (hT 5 (by omega)).2
  go_simp
  generalize hwC : (World.setCell _ _ _ : World) = wC
  have hSC : Below W.heap.size W wC := by subst hwC; exact (((((hSA.setCell (Nat.le_refl _) _).setCell (Nat.le_refl _) _).setCell (Nat.le_refl _) _).setCell (Nat.le_refl _) _).setCell (Nat.le_refl _) _).setCell (Nat.le_refl _) _
  clear hwC
  refine hK.out _ _ hSC (fun hHeld => ?_)
  clear hK K hT
  try simp only [Act.put, List.setIfInBounds_toArray, List.set_cons_zero, List.set_cons_succ]
  refine wpAnyH_ready (rs := [11]) (by kernel_rfl) (by simp) ?_
  refine (AllReadyH.cons rfl (fun K hK => ?_) AllReadyH.nil)
  rw [if_pos (by rfl)]
  go_simp
  refine hK.out _ _ hSC (fun hHeld => ?_)
  clear hK K
  try simp only [Act.put, List.setIfInBounds_toArray, List.set_cons_zero, List.set_cons_succ]
  refine wpAnyH_done (by kernel_rfl) ?_ _
  refine NoPanic.normal ?_
  have HC3 : Hid (Below w.heap.size w wC) := bl_then HB.out hSC
  clear c2 r0 r1 r2 l5 hSA hSd hSC
  go_wp2
  go_ret
  exact ⟨rfl, HC3.out⟩
end Go.Proofs.YtciidkmonfmipaaGreat
/- The shelf: a tile is put, where there is room. -/

namespace Go.Proofs.YtciidkmonfmipaaGreat
open Go.RowKit
set_option linter.unusedSimpArgs false
set_option linter.unusedVariables false
set_option maxRecDepth 100000

theorem cell_no_map {w : World} {P : Program} {k : TypeId} {mb n o p : Nat} {D : DataW Value} {v : Value} (hm : w.ownsMap P k RV mb n D) (hp : w.cell? ⟨p, o, none⟩ = some v) : p ≠ mb := by
  intro e
  subst e
  obtain ⟨es, c, hb, _⟩ := hm
  simp [World.cell?, hb] at hp
/-- The cells that a put reads. -/
def PutS (W : World) (p q : Nat) (s t : Int) (mb : Nat) (k : Kp) : Prop :=
  (W.cell? ⟨p, 0, none⟩ = some (.int .i64 s) ∧ W.cell? ⟨p, 1, none⟩ = some (.int .i64 t) ∧ W.cell? ⟨p, 2, none⟩ = some (.map (some mb))) ∧
  W.cell? ⟨q, 0, none⟩ = some (.int .i64 k.z) ∧ W.cell? ⟨q, 1, none⟩ = some (.int .i64 k.x) ∧ W.cell? ⟨q, 2, none⟩ = some (.int .i64 k.y) ∧ W.cell? ⟨q, 3, none⟩ = some (.slice k.fa k.fn k.fc) ∧ W.cell? ⟨q, 4, none⟩ = some (.slice k.ia k.m k.ic)
theorem PutS.grown {w w' : World} {p q mb : Nat} {s t : Int} {k : Kp} (h : PutS w p q s t mb k) (hg : w.grownBy w' (some mb)) (hp : p ≠ mb) (hq : q ≠ mb) : PutS w' p q s t mb k := by
  obtain ⟨⟨a, b, c⟩, d, e, f, g, i⟩ := h
  exact ⟨⟨gr_cell hg a hp, gr_cell hg b hp, gr_cell hg c hp⟩, gr_cell hg d hq, gr_cell hg e hq, gr_cell hg f hq, gr_cell hg g hq, gr_cell hg i hq⟩
/-- What the shelf's map then has. -/
abbrev putD (D : DataW Value) (k : Kp) (t : Int) : DataW Value := D.put (keyL k.z k.x k.y) (.held (agV k.z k.x k.y k.fa k.fn k.fc k.ia k.m k.ic t))
theorem there_alloc {w : World} {p n : Nat} {o : Obj} (h : There w p n) (hp : p < w.heap.size) : There (w.alloc o) p n := fun i hi => by
  obtain ⟨⟨v, h1⟩, h2⟩ := h i hi
  refine ⟨⟨v, ?_⟩, ?_⟩
  · rw [World.cell?_alloc_old _ _ _ (Nat.ne_of_lt hp)]; exact h1
  · rw [World.frozen?_alloc_old _ _ _ (Nat.ne_of_lt hp)]; exact h2
set_option maxHeartbeats 4000000 in
theorem shelfPut_stay (p mb n : Nat) (s t : Int) (D : DataW Value) (k : Kp) (w : World) (hp : ShA w p s t mb) (hT : There w p 3) (hm : w.ownsMap Tryz.prog 39 RV mb n D) (hz : I64 k.z) (hx : I64 k.x) (hy : I64 k.y) (hn : n < 1000) (ht0 : -10 ≤ t) (ht : t < 1000) (hD : (Maps.size (putD D k (t + 1)) : Int) ≤ s) :
    Calls Tryz.prog 33 #[.pointer (some ⟨p, 0, none⟩), kpV k] w fun e w' => e = .returned (.tuple #[]) ∧ ShA w' p s (t + 1) mb ∧ There w' p 3 ∧ w'.ownsMap Tryz.prog 39 RV mb (n + 1) (putD D k (t + 1)) ∧ (∀ B, B ≤ p → B ≤ mb → Below B w w') ∧ ∀ q, q < w.heap.size → q ≠ p → q ≠ mb → w'.heap[q]? = w.heap[q]? := by
  have hpl : p < w.heap.size := World.block_lt_of_cell? _ _ hp.1
  have hml : mb < w.heap.size := hm.lt
  have hpm : p ≠ mb := cell_no_map hm hp.1
  have HM : Hid (w.ownsMap Tryz.prog 39 RV mb n D) := hm
  have HT : Hid (There w p 3) := hT
  have HP : Hid (ShA w p s t mb) := hp
  have HD : Hid ((Maps.size (putD D k (t + 1)) : Int) ≤ s) := hD
  have HK : Hid (keyOf Tryz.prog 39 (refV k.z k.x k.y) = some (keyL k.z k.x k.y)) := key_ref hz hx hy
  have c1 : ∀ o, (w.alloc o).cell? ⟨p, 1, none⟩ = some (.int .i64 t) := fun o => by rw [World.cell?_alloc_old _ _ _ (Nat.ne_of_lt hpl)]; exact hp.2.1
  have f1 : ∀ o, (w.alloc o).frozen? ⟨p, 1, none⟩ = false := fun o => by rw [World.frozen?_alloc_old _ _ _ (Nat.ne_of_lt hpl)]; exact (hT 1 (by omega)).2
  have hw1 : IntKind.i64.wrap (t + 1) = t + 1 := IntWalk.i64_in _ (by omega)
  clear hm hT hp hD hz hx hy
  go_enter Tryz.func33, Tryz.ntmps33
  go_wp2_with fail
  generalize hW : (World.alloc _ _ : World) = W
  have HG : Hid (w.grownBy W (some p)) := by show World.grownBy _ _ _; subst hW; exact grown_trans (grown_set (grown_refl w (some p)) 1 _) (World.grownBy_alloc _ _ (some p))
  have HS : Hid (PutS W p w.heap.size s (t + 1) mb k) := by
    show PutS _ _ _ _ _ _ _
    subst hW
    have nep : ∀ o, o ≠ 1 → (⟨p, 1, none⟩ : Addr) ≠ ⟨p, o, none⟩ := fun o h e => by injection e with _ e; exact h e.symm
    have hlt : ∀ v, p < (w.setCell ⟨p, 1, none⟩ v).heap.size := fun v => by simp; exact hpl
    refine ⟨⟨?_, ?_, ?_⟩, ?_, ?_, ?_, ?_, ?_⟩
    · rw [World.cell?_alloc_old _ _ _ (Nat.ne_of_lt (hlt _)), set1_other (nep 0 (by omega))]; exact HP.out.1
    · rw [World.cell?_alloc_old _ _ _ (Nat.ne_of_lt (hlt _))]; exact set1_same HP.out.2.1
    · rw [World.cell?_alloc_old _ _ _ (Nat.ne_of_lt (hlt _)), set1_other (nep 2 (by omega))]; exact HP.out.2.2
    · simp [go_sem]
    · simp [go_sem]
    · simp [go_sem]
    · simp [go_sem]
    · simp [go_sem]
  have HTW : Hid (There W p 3) := by show There _ _ _; subst hW; exact there_alloc (HT.out.set _ _) (by simp; exact hpl)
  have hql : w.heap.size < W.heap.size := by subst hW; simp [go_sem]
  have hqm : w.heap.size ≠ mb := by omega
  clear hW c1 f1 hw1
  have HMW : Hid (W.ownsMap Tryz.prog 39 RV mb n D) := HM.out.kept HG.out (by simp; omega)
  obtain ⟨w1, hrun, hm1, hg1⟩ := HMW.out.drew.update keyed_ref Tryz.underlying103 (show n < maxLen by simp only [maxLen]; omega) HK.out (RV_mk k.z k.x k.y k.fa k.fn k.fc k.ia k.m k.ic (t + 1))
  have HM1 : Hid (w1.ownsMap Tryz.prog 39 RV mb (n + 1) (putD D k (t + 1))) := hm1
  have HG1 : Hid (W.grownBy w1 (some mb)) := ⟨hg1.os, hg1.tape, hg1.output, hg1.size, hg1.block⟩
  clear hm1 hg1
  refine wp_region_noPanic ?_
  refine wp_region_held_drew (S := fun W' => PutS W' p w.heap.size s (t + 1) mb k) (by kernel_rfl) HS.out (fun hHeld => ?_)
  have hSd : PutS W.drew p w.heap.size s (t + 1) mb k := HS.out
  refine takeD (i := 0) (d := some 11) (v := ?vr0) rfl rfl (by kernel_rfl) (by kernel_rfl) (by kernel_rfl) (fun _ _ _ h => h) (Or.inl ⟨by rfl, ?hyr0⟩) hSd ?_
  case hyr0 => (intro w hSw; obtain ⟨⟨s0, s1, s2⟩, k0, k1, k2, k3, k4⟩ := (show PutS w p _ s (t + 1) mb k from hSw); go_simp <;> with_reducible rfl)
  try simp only [Act.put, List.setIfInBounds_toArray, List.set_cons_zero, List.set_cons_succ]
  refine takeD (i := 1) (d := some 12) (v := ?vr1) rfl rfl (by kernel_rfl) (by kernel_rfl) (by kernel_rfl) (fun _ _ _ h => h) (Or.inl ⟨by rfl, ?hyr1⟩) hSd ?_
  case hyr1 => (intro w hSw; obtain ⟨⟨s0, s1, s2⟩, k0, k1, k2, k3, k4⟩ := (show PutS w p _ s (t + 1) mb k from hSw); go_simp <;> with_reducible rfl)
  try simp only [Act.put, List.setIfInBounds_toArray, List.set_cons_zero, List.set_cons_succ]
  refine takeD (i := 2) (d := some 13) (v := ?vr2) rfl rfl (by kernel_rfl) (by kernel_rfl) (by kernel_rfl) (fun _ _ _ h => h) (Or.inl ⟨by rfl, ?hyr2⟩) hSd ?_
  case hyr2 => (intro w hSw; obtain ⟨⟨s0, s1, s2⟩, k0, k1, k2, k3, k4⟩ := (show PutS w p _ s (t + 1) mb k from hSw); go_simp <;> with_reducible rfl)
  try simp only [Act.put, List.setIfInBounds_toArray, List.set_cons_zero, List.set_cons_succ]
  refine takeD (i := 3) (d := some 14) (v := ?vr3) rfl rfl (by kernel_rfl) (by kernel_rfl) (by kernel_rfl) (fun _ _ _ h => h) (Or.inl ⟨by rfl, ?hyr3⟩) hSd ?_
  case hyr3 => (intro w hSw; obtain ⟨⟨s0, s1, s2⟩, k0, k1, k2, k3, k4⟩ := (show PutS w p _ s (t + 1) mb k from hSw); go_simp <;> with_reducible rfl)
  try simp only [Act.put, List.setIfInBounds_toArray, List.set_cons_zero, List.set_cons_succ]
  refine takeD (i := 4) (d := some 15) (v := ?vr4) rfl rfl (by kernel_rfl) (by kernel_rfl) (by kernel_rfl) (fun _ _ _ h => h) (Or.inl ⟨by rfl, ?hyr4⟩) hSd ?_
  case hyr4 => (intro w hSw; obtain ⟨⟨s0, s1, s2⟩, k0, k1, k2, k3, k4⟩ := (show PutS w p _ s (t + 1) mb k from hSw); go_simp <;> with_reducible rfl)
  try simp only [Act.put, List.setIfInBounds_toArray, List.set_cons_zero, List.set_cons_succ]
  refine takeD (i := 5) (d := some 16) (v := ?vr5) rfl rfl (by kernel_rfl) (by kernel_rfl) (by kernel_rfl) (fun _ _ _ h => h) (Or.inl ⟨by rfl, ?hyr5⟩) hSd ?_
  case hyr5 => (intro w hSw; obtain ⟨⟨s0, s1, s2⟩, k0, k1, k2, k3, k4⟩ := (show PutS w p _ s (t + 1) mb k from hSw); go_simp <;> with_reducible rfl)
  try simp only [Act.put, List.setIfInBounds_toArray, List.set_cons_zero, List.set_cons_succ]
  refine takeD (i := 6) (d := some 17) (v := ?vr6) rfl rfl (by kernel_rfl) (by kernel_rfl) (by kernel_rfl) (fun _ _ _ h => h) (Or.inl ⟨by rfl, ?hyr6⟩) hSd ?_
  case hyr6 => (intro w hSw; obtain ⟨⟨s0, s1, s2⟩, k0, k1, k2, k3, k4⟩ := (show PutS w p _ s (t + 1) mb k from hSw); go_simp <;> with_reducible rfl)
  try simp only [Act.put, List.setIfInBounds_toArray, List.set_cons_zero, List.set_cons_succ]
  refine takeD (i := 7) (d := some 18) (v := ?vr7) rfl rfl (by kernel_rfl) (by kernel_rfl) (by kernel_rfl) (fun _ _ _ h => h) (Or.inl ⟨by rfl, ?hyr7⟩) hSd ?_
  case hyr7 => (intro w hSw; obtain ⟨⟨s0, s1, s2⟩, k0, k1, k2, k3, k4⟩ := (show PutS w p _ s (t + 1) mb k from hSw); go_simp <;> with_reducible rfl)
  try simp only [Act.put, List.setIfInBounds_toArray, List.set_cons_zero, List.set_cons_succ]
  refine takeD (i := 8) (d := some 19) (v := ?vr8) rfl rfl (by kernel_rfl) (by kernel_rfl) (by kernel_rfl) (fun _ _ _ h => h) (Or.inl ⟨by rfl, ?hyr8⟩) hSd ?_
  case hyr8 => (intro w hSw; obtain ⟨⟨s0, s1, s2⟩, k0, k1, k2, k3, k4⟩ := (show PutS w p _ s (t + 1) mb k from hSw); go_simp <;> with_reducible rfl)
  try simp only [Act.put, List.setIfInBounds_toArray, List.set_cons_zero, List.set_cons_succ]
  refine takeD (i := 9) (d := some 20) (v := ?vr9) rfl rfl (by kernel_rfl) (by kernel_rfl) (by kernel_rfl) (fun _ _ _ h => h) (Or.inl ⟨by rfl, ?hyr9⟩) hSd ?_
  case hyr9 => (intro w hSw; obtain ⟨⟨s0, s1, s2⟩, k0, k1, k2, k3, k4⟩ := (show PutS w p _ s (t + 1) mb k from hSw); go_simp <;> with_reducible rfl)
  try simp only [Act.put, List.setIfInBounds_toArray, List.set_cons_zero, List.set_cons_succ]
  refine takeD (i := 10) (d := some 21) (v := ?vr10) rfl rfl (by kernel_rfl) (by kernel_rfl) (by kernel_rfl) (fun _ _ _ h => h) (Or.inl ⟨by rfl, ?hyr10⟩) hSd ?_
  case hyr10 => (intro w hSw; obtain ⟨⟨s0, s1, s2⟩, k0, k1, k2, k3, k4⟩ := (show PutS w p _ s (t + 1) mb k from hSw); go_simp <;> with_reducible rfl)
  try simp only [Act.put, List.setIfInBounds_toArray, List.set_cons_zero, List.set_cons_succ]
  refine takeD (i := 11) (d := some 22) (v := ?vr11) rfl rfl (by kernel_rfl) (by kernel_rfl) (by kernel_rfl) (fun _ _ _ h => h) (Or.inl ⟨by rfl, ?hyr11⟩) hSd ?_
  case hyr11 => (intro w hSw; obtain ⟨⟨s0, s1, s2⟩, k0, k1, k2, k3, k4⟩ := (show PutS w p _ s (t + 1) mb k from hSw); go_simp <;> with_reducible rfl)
  try simp only [Act.put, List.setIfInBounds_toArray, List.set_cons_zero, List.set_cons_succ]
  refine takeD (i := 12) (d := some 23) (v := ?vr12) rfl rfl (by kernel_rfl) (by kernel_rfl) (by kernel_rfl) (fun _ _ _ h => h) (Or.inl ⟨by rfl, ?hyr12⟩) hSd ?_
  case hyr12 => (intro w hSw; obtain ⟨⟨s0, s1, s2⟩, k0, k1, k2, k3, k4⟩ := (show PutS w p _ s (t + 1) mb k from hSw); go_simp <;> with_reducible rfl)
  try simp only [Act.put, List.setIfInBounds_toArray, List.set_cons_zero, List.set_cons_succ]
  refine wpAnyH_ready (rs := [13]) (by kernel_rfl) (by simp) ?_
  refine (AllReadyH.cons rfl (fun K hK => ?_) AllReadyH.nil)
  rw [if_pos (by rfl)]
  go_simp
  have HS1 : PutS w1 p w.heap.size s (t + 1) mb k := HS.out.grown HG1.out hpm hqm
  refine hK.out _ _ HS1 (fun hHeld => ?_)
  clear hK K hrun hSd
  try simp only [Act.put, List.setIfInBounds_toArray, List.set_cons_zero, List.set_cons_succ]
  refine wpAnyH_done (by kernel_rfl) ?_ _
  refine NoPanic.normal ?_
  have HT1 : Hid (There w1 p 3) := HTW.out.grown HG1.out hpm
  have HB1 : Hid (∀ B, B ≤ p → B ≤ mb → Below B w w1) := fun B h1 h2 => (below_grown HG.out h1 (by omega)).trans (below_grown HG1.out h2 (by omega))
  have HQ1 : Hid (∀ q, q < w.heap.size → q ≠ p → q ≠ mb → w1.heap[q]? = w.heap[q]?) := fun q h1 h2 h3 => (HG1.out.block q (Nat.lt_of_lt_of_le h1 HG.out.size) (by simp; exact h3)).trans (HG.out.block q h1 (by simp; exact h2))
  have HA1 : Hid (ShA w1 p s (t + 1) mb) := HS1.1
  clear HS1 HS HTW HMW HG HG1 HP HT HM HK
  generalize hD1 : putD D k (t + 1) = D1 at *
  have hle : ¬ (s < (Maps.size D1 : Int)) := by have := HD.out; omega
  have HM2 : Hid (w1.ownsMap Tryz.prog 39 RV mb (n + 1) D1) := HM1.out
  go_wp2_with fail
  refine wp_region_noPanic ?_
  refine wp_region_held_drew (S := fun W' => ShA W' p s (t + 1) mb ∧ W'.ownsMap Tryz.prog 39 RV mb (n + 1) D1) (by kernel_rfl) ⟨HA1.out, HM1.out⟩ (fun hHeld => ?_)
  have hSd : ShA w1.drew p s (t + 1) mb ∧ w1.drew.ownsMap Tryz.prog 39 RV mb (n + 1) D1 := ⟨HA1.out, HM1.out⟩
  refine takeD (i := 0) (d := some 24) (v := ?vq0) rfl rfl (by kernel_rfl) (by kernel_rfl) (by kernel_rfl) (fun _ _ _ h => h) (Or.inl ⟨by rfl, ?hyq0⟩) hSd ?_
  case hyq0 => (intro w hSw; obtain ⟨⟨s0, s1, s2⟩, hmm⟩ := (show ShA w p s (t + 1) mb ∧ w.ownsMap Tryz.prog 39 RV mb (n + 1) D1 from hSw); have hln := fun ty => hmm.len Tryz.underlying103 ty; go_simp <;> with_reducible rfl)
  try simp only [Act.put, List.setIfInBounds_toArray, List.set_cons_zero, List.set_cons_succ]
  refine takeD (i := 1) (d := some 25) (v := ?vq1) rfl rfl (by kernel_rfl) (by kernel_rfl) (by kernel_rfl) (fun _ _ _ h => h) (Or.inl ⟨by rfl, ?hyq1⟩) hSd ?_
  case hyq1 => (intro w hSw; obtain ⟨⟨s0, s1, s2⟩, hmm⟩ := (show ShA w p s (t + 1) mb ∧ w.ownsMap Tryz.prog 39 RV mb (n + 1) D1 from hSw); have hln := fun ty => hmm.len Tryz.underlying103 ty; go_simp <;> with_reducible rfl)
  try simp only [Act.put, List.setIfInBounds_toArray, List.set_cons_zero, List.set_cons_succ]
  refine takeD (i := 2) (d := some 26) (v := ?vq2) rfl rfl (by kernel_rfl) (by kernel_rfl) (by kernel_rfl) (fun _ _ _ h => h) (Or.inl ⟨by rfl, ?hyq2⟩) hSd ?_
  case hyq2 => (intro w hSw; obtain ⟨⟨s0, s1, s2⟩, hmm⟩ := (show ShA w p s (t + 1) mb ∧ w.ownsMap Tryz.prog 39 RV mb (n + 1) D1 from hSw); have hln := fun ty => hmm.len Tryz.underlying103 ty; go_simp <;> with_reducible rfl)
  try simp only [Act.put, List.setIfInBounds_toArray, List.set_cons_zero, List.set_cons_succ]
  refine takeD (i := 3) (d := some 27) (v := ?vq3) rfl rfl (by kernel_rfl) (by kernel_rfl) (by kernel_rfl) (fun _ _ _ h => h) (Or.inl ⟨by rfl, ?hyq3⟩) hSd ?_
  case hyq3 => (intro w hSw; obtain ⟨⟨s0, s1, s2⟩, hmm⟩ := (show ShA w p s (t + 1) mb ∧ w.ownsMap Tryz.prog 39 RV mb (n + 1) D1 from hSw); have hln := fun ty => hmm.len Tryz.underlying103 ty; go_simp <;> with_reducible rfl)
  try simp only [Act.put, List.setIfInBounds_toArray, List.set_cons_zero, List.set_cons_succ]
  refine takeD (i := 4) (d := some 28) (v := ?vq4) rfl rfl (by kernel_rfl) (by kernel_rfl) (by kernel_rfl) (fun _ _ _ h => h) (Or.inl ⟨by rfl, ?hyq4⟩) hSd ?_
  case hyq4 => (intro w hSw; obtain ⟨⟨s0, s1, s2⟩, hmm⟩ := (show ShA w p s (t + 1) mb ∧ w.ownsMap Tryz.prog 39 RV mb (n + 1) D1 from hSw); have hln := fun ty => hmm.len Tryz.underlying103 ty; go_simp <;> with_reducible rfl)
  try simp only [Act.put, List.setIfInBounds_toArray, List.set_cons_zero, List.set_cons_succ]
  refine takeD (i := 5) (d := some 29) (v := ?vq5) rfl rfl (by kernel_rfl) (by kernel_rfl) (by kernel_rfl) (fun _ _ _ h => h) (Or.inl ⟨by rfl, ?hyq5⟩) hSd ?_
  case hyq5 => (intro w hSw; obtain ⟨⟨s0, s1, s2⟩, hmm⟩ := (show ShA w p s (t + 1) mb ∧ w.ownsMap Tryz.prog 39 RV mb (n + 1) D1 from hSw); have hln := fun ty => hmm.len Tryz.underlying103 ty; go_simp <;> with_reducible rfl)
  try simp only [Act.put, List.setIfInBounds_toArray, List.set_cons_zero, List.set_cons_succ]
  refine takeD (i := 6) (d := some 30) (v := ?vq6) rfl rfl (by kernel_rfl) (by kernel_rfl) (by kernel_rfl) (fun _ _ _ h => h) (Or.inl ⟨by rfl, ?hyq6⟩) hSd ?_
  case hyq6 => (intro w hSw; obtain ⟨⟨s0, s1, s2⟩, hmm⟩ := (show ShA w p s (t + 1) mb ∧ w.ownsMap Tryz.prog 39 RV mb (n + 1) D1 from hSw); have hln := fun ty => hmm.len Tryz.underlying103 ty; go_simp <;> with_reducible rfl)
  try simp only [Act.put, List.setIfInBounds_toArray, List.set_cons_zero, List.set_cons_succ]
  refine takeD (i := 7) (d := some 31) (v := ?vq7) rfl rfl (by kernel_rfl) (by kernel_rfl) (by kernel_rfl) (fun _ _ _ h => h) (Or.inl ⟨by rfl, ?hyq7⟩) hSd ?_
  case hyq7 => (intro w hSw; obtain ⟨⟨s0, s1, s2⟩, hmm⟩ := (show ShA w p s (t + 1) mb ∧ w.ownsMap Tryz.prog 39 RV mb (n + 1) D1 from hSw); have hln := fun ty => hmm.len Tryz.underlying103 ty; go_simp <;> with_reducible rfl)
  try simp only [Act.put, List.setIfInBounds_toArray, List.set_cons_zero, List.set_cons_succ]
  refine takeD (i := 8) (d := some 32) (v := ?vq8) rfl rfl (by kernel_rfl) (by kernel_rfl) (by kernel_rfl) (fun _ _ _ h => h) (Or.inl ⟨by rfl, ?hyq8⟩) hSd ?_
  case hyq8 => (intro w hSw; obtain ⟨⟨s0, s1, s2⟩, hmm⟩ := (show ShA w p s (t + 1) mb ∧ w.ownsMap Tryz.prog 39 RV mb (n + 1) D1 from hSw); have hln := fun ty => hmm.len Tryz.underlying103 ty; go_simp <;> with_reducible rfl)
  try simp only [Act.put, List.setIfInBounds_toArray, List.set_cons_zero, List.set_cons_succ]
  refine takeD (i := 9) (d := some 33) (v := ?vq9) rfl rfl (by kernel_rfl) (by kernel_rfl) (by kernel_rfl) (fun _ _ _ h => h) (Or.inl ⟨by rfl, ?hyq9⟩) hSd ?_
  case hyq9 => (intro w hSw; obtain ⟨⟨s0, s1, s2⟩, hmm⟩ := (show ShA w p s (t + 1) mb ∧ w.ownsMap Tryz.prog 39 RV mb (n + 1) D1 from hSw); have hln := fun ty => hmm.len Tryz.underlying103 ty; go_simp <;> with_reducible rfl)
  try simp only [Act.put, List.setIfInBounds_toArray, List.set_cons_zero, List.set_cons_succ]
  refine wpAnyH_done (by kernel_rfl) ?_ _
  refine NoPanic.normal ?_
  clear hSd
  go_wp2
  refine bodyPost_end (v := .tuple #[]) (by simp [results, Tryz.results33, go_sem]) rfl ?_
  exact ⟨rfl, HA1.out, HT1.out, by rw [hD1]; exact HM2.out.drew, fun B h1 h2 => ⟨(HB1.out B h1 h2).os, (HB1.out B h1 h2).tape, (HB1.out B h1 h2).output, (HB1.out B h1 h2).size, (HB1.out B h1 h2).block⟩, fun q h1 h2 h3 => HQ1.out q h1 h2 h3⟩
theorem shelfPut_ok (p mb n : Nat) (s t : Int) (D : DataW Value) (k : Kp) (w : World) (hp : ShA w p s t mb) (hT : There w p 3) (hm : w.ownsMap Tryz.prog 39 RV mb n D) (hz : I64 k.z) (hx : I64 k.x) (hy : I64 k.y) (hn : n < 1000) (ht0 : -10 ≤ t) (ht : t < 1000) (hD : (Maps.size (putD D k (t + 1)) : Int) ≤ s) :
    Calls Tryz.prog 33 #[.pointer (some ⟨p, 0, none⟩), kpV k] w fun e w' => e = .returned (.tuple #[]) ∧ ShA w' p s (t + 1) mb ∧ There w' p 3 ∧ w'.ownsMap Tryz.prog 39 RV mb (n + 1) (putD D k (t + 1)) ∧ ∀ B, B ≤ p → B ≤ mb → Below B w w' :=
  (shelfPut_stay p mb n s t D k w hp hT hm hz hx hy hn ht0 ht hD).mono fun e w' ⟨h1, h2, h3, h4, h5, _⟩ => ⟨h1, h2, h3, h4, h5⟩
end Go.Proofs.YtciidkmonfmipaaGreat
