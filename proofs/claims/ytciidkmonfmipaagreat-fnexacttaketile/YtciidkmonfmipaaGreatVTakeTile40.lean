/- Several texts in one. -/
import Derived.Test.YtciidkmonfmipaaGreatVTakeTile39

/- The shelf: a tile is taken; a tile is put where there is no room. -/

namespace Go.Proofs.YtciidkmonfmipaaGreat
open Go.RowKit
set_option linter.unusedSimpArgs false
set_option linter.unusedVariables false
set_option maxRecDepth 100000

/-- The cells that a take reads. -/
def TakS (W : World) (p q : Nat) (s t : Int) (mb : Nat) (z x y : Int) : Prop := (W.cell? ⟨p, 0, none⟩ = some (.int .i64 s) ∧ W.cell? ⟨p, 1, none⟩ = some (.int .i64 t) ∧ W.cell? ⟨p, 2, none⟩ = some (.map (some mb))) ∧ W.cell? ⟨q, 0, none⟩ = some (.int .i64 z) ∧ W.cell? ⟨q, 1, none⟩ = some (.int .i64 x) ∧ W.cell? ⟨q, 2, none⟩ = some (.int .i64 y)
set_option maxHeartbeats 2000000 in
theorem shelfTake_any (p mb n : Nat) (s t : Int) (D : DataW Value) (z x y : Int) (w : World) (hp : ShA w p s t mb) (hT : There w p 3) (hm : w.ownsMap Tryz.prog 39 RV mb n D) (hz : I64 z) (hx : I64 x) (hy : I64 y) :
    Calls Tryz.prog 46 #[.pointer (some ⟨p, 0, none⟩), refV z x y] w fun e w' => e = .returned (.tuple #[]) ∧ ShA w' p s t mb ∧ There w' p 3 ∧ w'.ownsMap Tryz.prog 39 RV mb n (D.del (keyL z x y)) ∧ (∀ B, B ≤ p → B ≤ mb → Below B w w') ∧ ∀ q, q < w.heap.size → q ≠ mb → w'.heap[q]? = w.heap[q]? := by
  have hpl : p < w.heap.size := World.block_lt_of_cell? _ _ hp.1
  have hml : mb < w.heap.size := hm.lt
  have hpm : p ≠ mb := cell_no_map hm hp.1
  have HM : Hid (w.ownsMap Tryz.prog 39 RV mb n D) := hm
  have HT : Hid (There w p 3) := hT
  have HP : Hid (ShA w p s t mb) := hp
  have HK : Hid (keyOf Tryz.prog 39 (refV z x y) = some (keyL z x y)) := key_ref hz hx hy
  clear hm hT hp hz hx hy
  go_enter Tryz.func46, Tryz.ntmps46
  go_wp2_with fail
  generalize hW : (w.alloc _ : World) = W
  have HB0 : Hid (Below w.heap.size w W) := by show Below _ _ _; subst hW; (repeat (first | exact Below.refl _ _ | assumption | refine Below.drew ?_ | refine bl_alloc ?_ _ | refine bl_then ?_ (by assumption) | refine Below.setCell ?_ (by first | omega | (simp; done) | (simp; omega)) _ | refine bl_store ?_ ?_ _ _))
  have HS : Hid (TakS W p w.heap.size s t mb z x y) := by
    have h1 := HP.out.below HB0.out
    refine ⟨h1, ?_, ?_, ?_⟩ <;> (subst hW; simp [go_sem])
  clear hW
  have hqm : w.heap.size ≠ mb := by omega
  obtain ⟨w1, hrun, hm1, hg0⟩ := (ownsMap_below HM.out HB0.out).drew.drop keyed_ref Tryz.underlying103 HK.out 0
  have hg1 := hg0.grown
  have HM1 : Hid (w1.ownsMap Tryz.prog 39 RV mb n (D.del (keyL z x y))) := hm1
  have HG1 : Hid (W.grownBy w1 (some mb)) := ⟨hg1.os, hg1.tape, hg1.output, hg1.size, hg1.block⟩
  clear hm1 hg1 hg0
  refine wp_region_noPanic ?_
  refine wp_region_held_drew (S := fun W' => TakS W' p w.heap.size s t mb z x y) (by kernel_rfl) HS.out (fun hHeld => ?_)
  have hSd : TakS W.drew p w.heap.size s t mb z x y := HS.out
  refine takeD (i := 0) (d := some 4) (v := ?vr0) rfl rfl (by kernel_rfl) (by kernel_rfl) (by kernel_rfl) (fun _ _ _ h => h) (Or.inl ⟨by rfl, ?hyr0⟩) hSd ?_
  case hyr0 => (intro w hSw; obtain ⟨⟨s0, s1, s2⟩, k0, k1, k2⟩ := (show TakS w p _ s t mb z x y from hSw); go_simp <;> with_reducible rfl)
  try simp only [Act.put, List.setIfInBounds_toArray, List.set_cons_zero, List.set_cons_succ]
  refine takeD (i := 1) (d := some 5) (v := ?vr1) rfl rfl (by kernel_rfl) (by kernel_rfl) (by kernel_rfl) (fun _ _ _ h => h) (Or.inl ⟨by rfl, ?hyr1⟩) hSd ?_
  case hyr1 => (intro w hSw; obtain ⟨⟨s0, s1, s2⟩, k0, k1, k2⟩ := (show TakS w p _ s t mb z x y from hSw); go_simp <;> with_reducible rfl)
  try simp only [Act.put, List.setIfInBounds_toArray, List.set_cons_zero, List.set_cons_succ]
  refine takeD (i := 2) (d := some 6) (v := ?vr2) rfl rfl (by kernel_rfl) (by kernel_rfl) (by kernel_rfl) (fun _ _ _ h => h) (Or.inl ⟨by rfl, ?hyr2⟩) hSd ?_
  case hyr2 => (intro w hSw; obtain ⟨⟨s0, s1, s2⟩, k0, k1, k2⟩ := (show TakS w p _ s t mb z x y from hSw); go_simp <;> with_reducible rfl)
  try simp only [Act.put, List.setIfInBounds_toArray, List.set_cons_zero, List.set_cons_succ]
  refine takeD (i := 3) (d := some 7) (v := ?vr3) rfl rfl (by kernel_rfl) (by kernel_rfl) (by kernel_rfl) (fun _ _ _ h => h) (Or.inl ⟨by rfl, ?hyr3⟩) hSd ?_
  case hyr3 => (intro w hSw; obtain ⟨⟨s0, s1, s2⟩, k0, k1, k2⟩ := (show TakS w p _ s t mb z x y from hSw); go_simp <;> with_reducible rfl)
  try simp only [Act.put, List.setIfInBounds_toArray, List.set_cons_zero, List.set_cons_succ]
  refine takeD (i := 4) (d := some 8) (v := ?vr4) rfl rfl (by kernel_rfl) (by kernel_rfl) (by kernel_rfl) (fun _ _ _ h => h) (Or.inl ⟨by rfl, ?hyr4⟩) hSd ?_
  case hyr4 => (intro w hSw; obtain ⟨⟨s0, s1, s2⟩, k0, k1, k2⟩ := (show TakS w p _ s t mb z x y from hSw); go_simp <;> with_reducible rfl)
  try simp only [Act.put, List.setIfInBounds_toArray, List.set_cons_zero, List.set_cons_succ]
  refine wpAnyH_ready (rs := [5]) (by kernel_rfl) (by simp) ?_
  refine (AllReadyH.cons rfl (fun K hK => ?_) AllReadyH.nil)
  rw [if_pos (by rfl)]
  go_simp
  have HS1 : TakS w1 p w.heap.size s t mb z x y := by
    obtain ⟨⟨a1, a2, a3⟩, b1, b2, b3⟩ := HS.out
    exact ⟨⟨gr_cell HG1.out a1 hpm, gr_cell HG1.out a2 hpm, gr_cell HG1.out a3 hpm⟩, gr_cell HG1.out b1 hqm, gr_cell HG1.out b2 hqm, gr_cell HG1.out b3 hqm⟩
  refine hK.out _ _ HS1 (fun hHeld => ?_)
  clear hK K hrun hSd
  try simp only [Act.put, List.setIfInBounds_toArray, List.set_cons_zero, List.set_cons_succ]
  refine wpAnyH_done (by kernel_rfl) ?_ _
  refine NoPanic.normal ?_
  have HT1 : Hid (There w1 p 3) := (HT.out.below HB0.out).grown HG1.out hpm
  have HB1 : Hid (∀ B, B ≤ p → B ≤ mb → Below B w w1) := fun B h1 h2 => (HB0.out.mono (by omega)).trans (below_grown HG1.out h2 (by have := HB0.out.size; omega))
  have HA1 : Hid (ShA w1 p s t mb) := HS1.1
  have HQ1 : Hid (∀ q, q < w.heap.size → q ≠ mb → w1.heap[q]? = w.heap[q]?) := fun q h1 h3 => (HG1.out.block q (Nat.lt_of_lt_of_le h1 HB0.out.size) (by simp; exact h3)).trans (HB0.out.block q h1)
  clear HS1
  go_wp2_with fail
  refine bodyPost_end (v := .tuple #[]) (by simp [results, Tryz.results46, go_sem]) rfl ?_
  exact ⟨rfl, HA1.out, HT1.out, HM1.out, HB1.out, HQ1.out⟩
end Go.Proofs.YtciidkmonfmipaaGreat
/- A shelf by the tiles that it has: put, take and touch. -/

namespace Go.Proofs.YtciidkmonfmipaaGreat
open Go.RowKit
set_option linter.unusedSimpArgs false
set_option linter.unusedVariables false
set_option maxRecDepth 100000

theorem ownsMap_tight {w : World} {P : Program} {k : TypeId} {mb n : Nat} {D : DataW Value} (h : w.ownsMap P k RV mb n D) : w.ownsMap P k RV mb (Maps.size D) D := by
  obtain ⟨es, c, hb, F, hs, rfl⟩ := h
  exact ⟨es, c, hb, F, by simp [Maps.size, length_sorted], rfl⟩
/-- A shelf with these tiles, in the order of their turns. -/
def Shf (w : World) (B p : Nat) (s t : Int) (L : List Ag) : Prop := ∃ mb D, B ≤ p ∧ B ≤ mb ∧ ShA w p s t mb ∧ There w p 3 ∧ w.ownsMap Tryz.prog 39 RV mb L.length D ∧ Rep D L
theorem Shf.below {w w' : World} {B p : Nat} {s t : Int} {L : List Ag} (h : Shf w B p s t L) (hb : Below w.heap.size w w') : Shf w' B p s t L := by
  obtain ⟨mb, D, h1, h2, h3, h4, h5, h6⟩ := h
  exact ⟨mb, D, h1, h2, h3.below hb, h4.below hb, ownsMap_below h5 hb, h6⟩
theorem ShK.shf {w : World} {B p : Nat} {s : Int} {n : Nat} {A : Nat → Kp} (h : ShK w B p s n A) (h0 : ∀ j, j < n → kC A j = 0) : Shf w B p s (n : Int) (agL A n) := by
  obtain ⟨mb, h1, h2, h3, h4, h5⟩ := h
  exact ⟨mb, shD A n, h1, h2, h3, h4, by rw [agL_len]; exact h5, shD_rep n h0⟩
theorem Shf_take (B p : Nat) (s t : Int) (L : List Ag) (z x y : Int) (w : World) (h : Shf w B p s t L) (hI : I64 z ∧ I64 x ∧ I64 y) :
    Calls Tryz.prog 46 #[.pointer (some ⟨p, 0, none⟩), refV z x y] w fun e w' => e = .returned (.tuple #[]) ∧ Shf w' B p s t (lessL L z x y) ∧ Below B w w' := by
  obtain ⟨mb, D, h1, h2, h3, h4, h5, h6⟩ := h
  refine (shelfTake_any p mb L.length s t D z x y w h3 h4 h5 hI.1 hI.2.1 hI.2.2).mono ?_
  rintro e w' ⟨rfl, g1, g2, g3, g4, _⟩
  have hR := h6.less hI
  refine ⟨rfl, ⟨mb, _, h1, h2, g1, g2, ?_, hR⟩, g4 B h1 h2⟩
  have := ownsMap_tight g3
  rw [hR.size] at this
  exact this
theorem Shf_order (B p : Nat) (s t : Int) (L : List Ag) (w : World) (h : Shf w B p s t L) (hL : L.length ≤ 100) :
    Calls Tryz.prog 69 #[.pointer (some ⟨p, 0, none⟩)] w fun e w' => ∃ v, e = .returned v ∧ KRow w.heap.size w' v L ∧ Below w.heap.size w w' := by
  obtain ⟨mb, D, h1, h2, h3, h4, h5, h6⟩ := h
  exact inOrder_any p mb L.length s t D L w h3 h5 h6 (by omega) (by rw [h6.size]; omega)
end Go.Proofs.YtciidkmonfmipaaGreat
