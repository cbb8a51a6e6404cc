/- VisibleRefs: the model, and the law's steps. -/
import Derived.Test.YtioiikddgcmjeaaVr2
import Derived.Test.YtioiikddgcmjeaaVr3
import Derived.Test.YtioiikddgcmjeaaT6
namespace Go.Proofs.Ytioiikddgcmjeaa
open Go.RowKit
set_option linter.unusedSimpArgs false
set_option linter.unusedVariables false
set_option maxRecDepth 100000

set_option maxHeartbeats 4000000 in
theorem spec_VisibleRefs_ok {z x y wd ht : Int} {K : Nat} {R : Rfs} (w : World) (hr : camB z x y wd ht = true)
    (hL : ∀ (b : Nat) (w : World), CamAt w b z x y wd ht → Calls Try.prog 27 #[.pointer (some ⟨b, 0, none⟩)] w fun e w' => ∃ v, e = .returned v ∧ RowT w.heap.size w' v K R ∧ Below w.heap.size w w') :
    Calls Try.prog 9 #[camV z x y wd ht] w fun e w' => ∃ v, e = .returned (.agg #[.int .i64 0, v]) ∧ OwnT w' w.heap.size v K R ∧ Below w.heap.size w w' := by
  have hc : camC z x y wd ht = 0 := by unfold camC; rw [if_pos hr]
  have HL : Hid (∀ (b : Nat) (w : World), CamAt w b z x y wd ht → Calls Try.prog 27 #[.pointer (some ⟨b, 0, none⟩)] w fun e w' => ∃ v, e = .returned v ∧ RowT w.heap.size w' v K R ∧ Below w.heap.size w w') := hL
  have HF : Hid (∀ (b : Nat) (w : World), CamAt w b z x y wd ht → Calls Try.prog 26 #[.pointer (some ⟨b, 0, none⟩)] w fun e w' => e = .returned (.int .i64 0) ∧ Below w.heap.size w w') := fun b w h => hc ▸ l9Fault_any b z x y wd ht w h
  clear hL hc hr
  go_enter Try.func9, Try.ntmps9
  go_wp2_with fail
  generalize hW : ((w.alloc _).alloc _ : World) = W
  have HB0 : Hid (Below w.heap.size w W) := by show Below _ _ _; subst hW; (repeat (first | exact Below.refl _ _ | assumption | refine Below.drew ?_ | refine bl_alloc ?_ _ | refine bl_then ?_ (by assumption) | refine Below.setCell ?_ (by first | omega | (simp; done) | (simp; omega)) _ | refine bl_store ?_ ?_ _ _))
  have HT : Hid (There W (w.heap.size + 1) 2) := by
    show There _ _ _
    subst hW
    have := there2r (w.alloc (.cells #[.int .i64 z, .int .i64 x, .int .i64 y, .int .i64 wd, .int .i64 ht] 25)) (.int .i64 0) (.slice none 0 0) 29
    simpa using this
  have HA : Hid (CamAt W w.heap.size z x y wd ht) := by show CamAt _ _ _ _ _ _ _; subst hW; exact ⟨by simp [go_sem], by simp [go_sem], by simp [go_sem], by simp [go_sem], by simp [go_sem]⟩
  clear hW
  refine (HF.out _ _ HA.out).mono ?_
  rintro e w1 ⟨rfl, hb1⟩
  have HB1 : Hid (Below w.heap.size w w1) := bl_then HB0.out hb1
  have HT1 : Hid (There w1 (w.heap.size + 1) 2) := HT.out.below hb1
  have HA1 : Hid (CamAt w1 w.heap.size z x y wd ht) := by
    have hB := World.block_lt_of_cell? _ _ HA.out.1
    exact ⟨(hb1.cell (p := ⟨w.heap.size, 0, none⟩) hB).trans HA.out.1, (hb1.cell (p := ⟨w.heap.size, 1, none⟩) hB).trans HA.out.2.1, (hb1.cell (p := ⟨w.heap.size, 2, none⟩) hB).trans HA.out.2.2.1, (hb1.cell (p := ⟨w.heap.size, 3, none⟩) hB).trans HA.out.2.2.2.1, (hb1.cell (p := ⟨w.heap.size, 4, none⟩) hB).trans HA.out.2.2.2.2⟩
  clear hb1 HB0 HT HA
  go_wp2_with fail
  refine (HL.out _ _ HA1.out).mono ?_
  rintro e w2 ⟨v, rfl, hO, hb2⟩
  have HB2 : Hid (Below w.heap.size w w2) := bl_then HB1.out hb2
  have hT2 := HT1.out.below hb2
  have hlT := World.block_lt_of_cell? _ _ (HT1.out.cell 0 (by omega))
  have t0 := hT2.cell 0 (by omega)
  have t1 := hT2.cell 1 (by omega)
  have f0 := (hT2 0 (by omega)).2
  have f1 := (hT2 1 (by omega)).2
  obtain ⟨a0, cap0, hv, hc0, hcase⟩ := hO.own
  subst hv
  have HOw : Hid (OwnT w2 w1.heap.size (.slice a0 K cap0) K R) := hO.own
  have hs1 := HB1.out.size
  clear hcase hO hb2 hT2
  go_wp2_with fail
  obtain ⟨q0, q1⟩ := set2_at (W := w2) (r := w.heap.size + 1) (i := 0) (j := 1) (u := .int .i64 0) (v := .slice a0 K cap0) (by omega) (by rw [t0]; rfl) (by rw [t1]; rfl)
  refine bodyPost_ret (v := .agg #[.int .i64 0, .slice a0 K cap0]) (by simp [results, Try.results9, go_sem, q0, q1]) rfl ⟨_, rfl, ?_, ?_⟩
  · exact (HOw.out.set (B := w1.heap.size) hlT (Nat.le_refl _)).set (B := w.heap.size) hlT hs1
  · exact (HB2.out.setCell (Nat.le_succ _) _).setCell (Nat.le_succ _) _
theorem spec_VisibleRefs_no {z x y wd ht : Int} (w : World) (hr : camB z x y wd ht = false) :
    Calls Try.prog 9 #[camV z x y wd ht] w fun e w' => e = .returned (.agg #[.int .i64 3, .slice none 0 0]) ∧ Below w.heap.size w w' := by
  have hc : camC z x y wd ht = 3 := by unfold camC; rw [hr]; rfl
  have HF : Hid (∀ (b : Nat) (w : World), CamAt w b z x y wd ht → Calls Try.prog 26 #[.pointer (some ⟨b, 0, none⟩)] w fun e w' => e = .returned (.int .i64 3) ∧ Below w.heap.size w w') := fun b w h => hc ▸ l9Fault_any b z x y wd ht w h
  clear hc hr
  go_enter Try.func9, Try.ntmps9
  go_wp2_with fail
  generalize hW : ((w.alloc _).alloc _ : World) = W
  have HB0 : Hid (Below w.heap.size w W) := by show Below _ _ _; subst hW; (repeat (first | exact Below.refl _ _ | assumption | refine Below.drew ?_ | refine bl_alloc ?_ _ | refine bl_then ?_ (by assumption) | refine Below.setCell ?_ (by first | omega | (simp; done) | (simp; omega)) _ | refine bl_store ?_ ?_ _ _))
  have HT : Hid (There W (w.heap.size + 1) 2) := by
    show There _ _ _
    subst hW
    have := there2r (w.alloc (.cells #[.int .i64 z, .int .i64 x, .int .i64 y, .int .i64 wd, .int .i64 ht] 25)) (.int .i64 0) (.slice none 0 0) 29
    simpa using this
  have HA : Hid (CamAt W w.heap.size z x y wd ht) := by show CamAt _ _ _ _ _ _ _; subst hW; exact ⟨by simp [go_sem], by simp [go_sem], by simp [go_sem], by simp [go_sem], by simp [go_sem]⟩
  clear hW
  refine (HF.out _ _ HA.out).mono ?_
  rintro e w1 ⟨rfl, hb1⟩
  have HB1 : Hid (Below w.heap.size w w1) := bl_then HB0.out hb1
  have hT1 := HT.out.below hb1
  have t0 := hT1.cell 0 (by omega)
  have t1 := hT1.cell 1 (by omega)
  have f0 := (hT1 0 (by omega)).2
  have f1 := (hT1 1 (by omega)).2
  clear hb1 HB0 HT hT1 HA
  go_wp2_with fail
  obtain ⟨q0, q1⟩ := set2_at (W := w1) (r := w.heap.size + 1) (i := 0) (j := 1) (u := .int .i64 3) (v := .slice none 0 0) (by omega) (by rw [t0]; rfl) (by rw [t1]; rfl)
  refine bodyPost_ret (v := .agg #[.int .i64 3, .slice none 0 0]) (by simp [results, Try.results9, go_sem, q0, q1]) rfl ⟨rfl, ?_⟩
  exact (HB1.out.setCell (Nat.le_succ _) _).setCell (Nat.le_succ _) _
theorem l9Refs_any {z x y wd ht : Int} (b : Nat) (w : World) (hA : CamAt w b z x y wd ht) (hr : camB z x y wd ht = true) : Calls Try.prog 27 #[.pointer (some ⟨b, 0, none⟩)] w fun e w' => ∃ v, e = .returned v ∧ RowT w.heap.size w' v (visM z x y wd ht) (visR z x y wd) ∧ Below w.heap.size w w' := by
  have e2 : visM z x y wd ht = visN y ht * visN x wd := by unfold visM; rw [if_pos hr]
  have hin := camB_in hr
  have nx := visN_bd (x := x) hin.1.1
  have ny := visN_bd (x := y) hin.1.2
  rw [e2]
  exact l9Refs_ok b w hA hr rfl rfl rfl rfl rfl rfl ⟨⟨nx.1, nx.2.1⟩, by omega⟩ ⟨⟨ny.1, ny.2.1⟩, by omega⟩ rfl
theorem spec_VisibleRefs_any (z x y wd ht : Int) (w : World) : Calls Try.prog 9 #[camV z x y wd ht] w fun e w' => ∃ v, e = .returned (.agg #[.int .i64 (camC z x y wd ht), v]) ∧ OwnT w' w.heap.size v (visM z x y wd ht) (visR z x y wd) ∧ Below w.heap.size w w' := by
  cases hr : camB z x y wd ht
  · have e1 : camC z x y wd ht = 3 := by unfold camC; rw [hr]; rfl
    have e2 : visM z x y wd ht = 0 := by unfold visM; rw [hr]; rfl
    rw [e1, e2]
    exact (spec_VisibleRefs_no w hr).mono fun e w' ⟨h1, h2⟩ => ⟨_, h1, ⟨none, 0, rfl, Nat.le_refl _, .inl rfl⟩, h2⟩
  · have e1 : camC z x y wd ht = 0 := by unfold camC; rw [if_pos hr]
    rw [e1]
    exact spec_VisibleRefs_ok w hr (fun b w h => l9Refs_any b w h hr)
theorem toCamera_any (z x y wd ht : Int) (w : World) : Calls Try.prog 15 #[camV z x y wd ht] w fun e w' => e = .returned (camV z x y wd ht) ∧ Below w.heap.size w w' := by
  go_enter Try.func15, Try.ntmps15
  go_wp2
  exact bodyPost_ret (v := camV z x y wd ht) (by simp [results, Try.results15, go_sem]) rfl ⟨rfl, by (repeat (first | exact Below.refl _ _ | assumption | refine Below.drew ?_ | refine bl_alloc ?_ _ | refine bl_then ?_ (by assumption) | refine Below.setCell ?_ (by first | omega | (simp; done) | (simp; omega)) _ | refine bl_store ?_ ?_ _ _))⟩
set_option maxHeartbeats 8000000 in
theorem FnExactVisibleRefs_law (c z x y wd ht : Int) (m : Nat) (R : Rfs) (w : World) (hm : m ≤ 1048576)
    (hsp : ∀ w, Calls Try.prog 9 #[camV z x y wd ht] w fun e w' => ∃ v, e = .returned (.agg #[.int .i64 c, v]) ∧ OwnT w' w.heap.size v m R ∧ Below w.heap.size w w')
    (him : ∀ w, Calls Try.prog 8 #[camV z x y wd ht] w fun e w' => ∃ v, e = .returned (.agg #[.int .i64 c, v]) ∧ OwnT w' w.heap.size v m R ∧ Below w.heap.size w w') :
    Calls Try.prog 4 #[camV z x y wd ht] w fun e w' => e = .returned (.bool true) ∧ Below w.heap.size w w' := by
  have Hsp := (show Hid _ from hsp)
  have Him := (show Hid _ from him)
  clear hsp him
  go_enter Try.func4, Try.ntmps4
  go_wp2_with fail
  generalize hW : (w.alloc _ : World) = W
  have hB0 : Below w.heap.size w W := by subst hW; (repeat (first | exact Below.refl _ _ | assumption | refine Below.drew ?_ | refine bl_alloc ?_ _ | refine bl_then ?_ (by assumption) | refine Below.setCell ?_ (by first | omega | (simp; done) | (simp; omega)) _ | refine bl_store ?_ ?_ _ _))
  have c00 : ∀ W', Below W.heap.size W W' → W'.cell? ⟨w.heap.size, 0, none⟩ = some (.int .i64 z) := fun W' h => by
    rw [h.cell (by subst hW; simp <;> omega)]; subst hW; simp [go_sem]
  have c01 : ∀ W', Below W.heap.size W W' → W'.cell? ⟨w.heap.size, 1, none⟩ = some (.int .i64 x) := fun W' h => by
    rw [h.cell (by subst hW; simp <;> omega)]; subst hW; simp [go_sem]
  have c02 : ∀ W', Below W.heap.size W W' → W'.cell? ⟨w.heap.size, 2, none⟩ = some (.int .i64 y) := fun W' h => by
    rw [h.cell (by subst hW; simp <;> omega)]; subst hW; simp [go_sem]
  have c03 : ∀ W', Below W.heap.size W W' → W'.cell? ⟨w.heap.size, 3, none⟩ = some (.int .i64 wd) := fun W' h => by
    rw [h.cell (by subst hW; simp <;> omega)]; subst hW; simp [go_sem]
  have c04 : ∀ W', Below W.heap.size W W' → W'.cell? ⟨w.heap.size, 4, none⟩ = some (.int .i64 ht) := fun W' h => by
    rw [h.cell (by subst hW; simp <;> omega)]; subst hW; simp [go_sem]
  clear hW
  have HB0 : Hid (Below w.heap.size w W) := hB0
  have hle0 := hB0.size
  clear hB0
  have hlt : w.heap.size < W.heap.size := World.block_lt_of_cell? _ _ (c00 W (Below.refl _ _))
  refine (toCamera_any _ _ _ _ _ _).mono ?_
  rintro e wa ⟨rfl, hba⟩
  go_wp2_with fail
  refine (Hsp.out _).mono ?_
  rintro e w2 ⟨v0, rfl, hO2, hb2⟩
  obtain ⟨a0, cap0, rfl, hc0, hI0⟩ := hO2.pts
  have hB2 : Below W.heap.size W w2 := bl_then hba hb2
  have HI2 : Hid (IsRs w2 a0 m R) := hI0
  clear hba hb2 hI0 hO2
  have k0 := c00 w2 hB2
  have k1 := c01 w2 hB2
  have k2 := c02 w2 hB2
  have k3 := c03 w2 hB2
  have k4 := c04 w2 hB2
  have hlt2 : w.heap.size < w2.heap.size := World.block_lt_of_cell? _ _ k0
  go_wp2_with fail
  generalize hW3 : (w2.alloc _ : World) = w3
  have hb23 : Below w2.heap.size w2 w3 := by subst hW3; (repeat (first | exact Below.refl _ _ | assumption | refine Below.drew ?_ | refine bl_alloc ?_ _ | refine bl_then ?_ (by assumption) | refine Below.setCell ?_ (by first | omega | (simp; done) | (simp; omega)) _ | refine bl_store ?_ ?_ _ _))
  have c0 : ∀ W', Below w3.heap.size w3 W' → W'.cell? ⟨w2.heap.size, 0, none⟩ = some (.int .i64 c) := fun W' h => by
    rw [h.cell (by subst hW3; simp)]; subst hW3; simp [go_sem]
  have c1 : ∀ W', Below w3.heap.size w3 W' → W'.cell? ⟨w2.heap.size, 1, none⟩ = some (.slice a0 m cap0) := fun W' h => by
    rw [h.cell (by subst hW3; simp)]; subst hW3; simp [go_sem]
  have hs23 : w2.heap.size < w3.heap.size := by subst hW3; simp
  clear hW3
  have hB3 : Below W.heap.size W w3 := bl_then hB2 hb23
  have HI3 : Hid (UnderT w3.heap.size w3 a0 m R) := HI2.out.below hb23
  clear hb23 hB2 HI2 k0 k1 k2 k3 k4
  refine (toCamera_any _ _ _ _ _ _).mono ?_
  rintro e w4 ⟨rfl, hb4⟩
  go_wp2_with fail
  refine (Him.out _).mono ?_
  rintro e w5 ⟨v1, rfl, hO5, hb5⟩
  obtain ⟨a1, cap1, rfl, hc1, hI1⟩ := hO5.pts
  have hB5 : Below w3.heap.size w3 w5 := bl_then hb4 hb5
  have HO5 : Hid (OwnT w5 w4.heap.size (.slice a1 m cap1) m R) := hO5
  have HU5 : Hid (UnderT w5.heap.size w5 a1 m R) := hI1
  have hle34 := hb4.size
  have hle45 := hb5.size
  clear hb4 hb5 hO5 hI1
  have k0' := c0 w5 hB5
  have k1' := c1 w5 hB5
  have hlw : w2.heap.size < w5.heap.size := World.block_lt_of_cell? _ _ k0'
  go_wp2_with fail
  generalize hW6 : (w5.alloc _ : World) = w6
  have hb56 : Below w5.heap.size w5 w6 := by subst hW6; (repeat (first | exact Below.refl _ _ | assumption | refine Below.drew ?_ | refine bl_alloc ?_ _ | refine bl_then ?_ (by assumption) | refine Below.setCell ?_ (by first | omega | (simp; done) | (simp; omega)) _ | refine bl_store ?_ ?_ _ _))
  have d0 : ∀ W', Below w6.heap.size w6 W' → W'.cell? ⟨w5.heap.size, 0, none⟩ = some (.int .i64 c) := fun W' h => by
    rw [h.cell (by subst hW6; simp)]; subst hW6; simp [go_sem]
  have d1 : ∀ W', Below w6.heap.size w6 W' → W'.cell? ⟨w5.heap.size, 1, none⟩ = some (.slice a1 m cap1) := fun W' h => by
    rw [h.cell (by subst hW6; simp)]; subst hW6; simp [go_sem]
  have hs56 : w5.heap.size < w6.heap.size := by subst hW6; simp
  clear hW6 k0' k1'
  have hB6 : Below w3.heap.size w3 w6 := bl_then hB5 hb56
  have HO6 : Hid (OwnT w6 w4.heap.size (.slice a1 m cap1) m R) := HO5.out.below hb56
  have HI6 : Hid (UnderT w3.heap.size w6 a0 m R) := HI3.out.below hB6 (Nat.le_refl _)
  clear hb56 HO5 hB5
  have hle36 := hB6.size
  refine (eqRefsResult_any c _ _ _ _ _ R _ HO6.out.is (HI6.out.is hle36) hm).mono ?_
  rintro e wb ⟨rfl, hbb⟩
  have hB6b : Below w3.heap.size w3 wb := bl_then hB6 hbb
  have g0 := d0 wb hbb
  have g1 := d1 wb hbb
  have p0 := c0 wb hB6b
  have p1 := c1 wb hB6b
  have r0 := c00 wb (bl_then hB3 hB6b)
  have r1 := c01 wb (bl_then hB3 hB6b)
  have r2 := c02 wb (bl_then hB3 hB6b)
  have r3 := c03 wb (bl_then hB3 hB6b)
  have r4 := c04 wb (bl_then hB3 hB6b)
  have hwb := hbb.size
  have HOb : Hid (OwnT wb w4.heap.size (.slice a1 m cap1) m R) := HO6.out.below hbb
  have HIb : Hid (UnderT w3.heap.size wb a0 m R) := HI6.out.below hbb (by omega)
  have hle3 := hB3.size
  have HBb : Hid (Below w.heap.size w wb) := bl_then HB0.out (bl_then hB3 hB6b)
  clear c00 c01 c02 c03 c04 c0 c1 d0 d1 HO6 HI6 HI3 hbb hB6b hB6 hB3
  -- the answer is marked
  obtain ⟨row, hrow, Hmark⟩ := mark_ownT c w4.heap.size w5.heap.size m cap1 a1 R R wb w5 HOb.out HU5.out hm
  have Hmark' := (show Hid _ from Hmark)
  have Hrow := (show Hid _ from hrow)
  clear Hmark hrow
  have hqm : ¬ ((1 + 3 * m : Nat) : Int) < 0 := by omega
  have Hheld : Hid (∀ w, OwnT w w4.heap.size (.slice a1 m cap1) m (mkR 1) → Calls Try.prog 18 #[.agg #[.int .i64 c, .slice a1 m cap1], .int .i64 1] w fun e w' => e = .returned (.int .i64 ((1 + 3 * m : Nat) : Int)) ∧ Below w.heap.size w w') := fun w h => heldRefsResult_any c a1 m cap1 w h.is hm
  generalize ((1 + 3 * m : Nat) : Int) = qm at *
  go_wp2_with fail
  refine Calls.mono Hmark'.out ?_
  rintro e wc ⟨rfl, hGc, hOc⟩
  have hwc := hGc.size
  have l0 : wc.cell? ⟨w5.heap.size, 0, none⟩ = some (.int .i64 c) := ro_cellR hGc g0 (fun s hs => by have := Hrow.out s hs; omega)
  have l1 : wc.cell? ⟨w5.heap.size, 1, none⟩ = some (.slice a1 m cap1) := ro_cellR hGc g1 (fun s hs => by have := Hrow.out s hs; omega)
  have m0 : wc.cell? ⟨w2.heap.size, 0, none⟩ = some (.int .i64 c) := ro_cellR hGc p0 (fun s hs => by have := Hrow.out s hs; omega)
  have m1 : wc.cell? ⟨w2.heap.size, 1, none⟩ = some (.slice a0 m cap0) := ro_cellR hGc p1 (fun s hs => by have := Hrow.out s hs; omega)
  have n0 : wc.cell? ⟨w.heap.size, 0, none⟩ = some (.int .i64 z) := ro_cellR hGc r0 (fun s hs => by have := Hrow.out s hs; omega)
  have n1 : wc.cell? ⟨w.heap.size, 1, none⟩ = some (.int .i64 x) := ro_cellR hGc r1 (fun s hs => by have := Hrow.out s hs; omega)
  have n2 : wc.cell? ⟨w.heap.size, 2, none⟩ = some (.int .i64 y) := ro_cellR hGc r2 (fun s hs => by have := Hrow.out s hs; omega)
  have n3 : wc.cell? ⟨w.heap.size, 3, none⟩ = some (.int .i64 wd) := ro_cellR hGc r3 (fun s hs => by have := Hrow.out s hs; omega)
  have n4 : wc.cell? ⟨w.heap.size, 4, none⟩ = some (.int .i64 ht) := ro_cellR hGc r4 (fun s hs => by have := Hrow.out s hs; omega)
  have HOc : Hid (OwnT wc w4.heap.size (.slice a1 m cap1) m (mkR 1)) := hOc
  have HIc : Hid (UnderT w3.heap.size wc a0 m R) := HIb.out.row hGc (fun s hs => by have := Hrow.out s hs; omega)
  have HBc : Hid (Below w.heap.size w wc) := HBb.out.trans (below_rowR hGc (fun s hs => by have := Hrow.out s hs; omega) (by omega))
  clear g0 g1 p0 p1 r0 r1 r2 r3 r4 hOc hGc HBb HIb HOb Hmark'
  go_wp2_with fail
  refine (Hheld.out _ HOc.out).mono ?_
  rintro e wd ⟨rfl, hbd⟩
  have hwd := hbd.size
  have g0 := bl_cellR hbd l0
  have g1 := bl_cellR hbd l1
  have p0 := bl_cellR hbd m0
  have p1 := bl_cellR hbd m1
  have r0 := bl_cellR hbd n0
  have r1 := bl_cellR hbd n1
  have r2 := bl_cellR hbd n2
  have r3 := bl_cellR hbd n3
  have r4 := bl_cellR hbd n4
  have HOd : Hid (OwnT wd w4.heap.size (.slice a1 m cap1) m (mkR 1)) := HOc.out.below hbd
  have HId : Hid (UnderT w3.heap.size wd a0 m R) := HIc.out.below hbd (by omega)
  have HBd : Hid (Below w.heap.size w wd) := bl_then HBc.out hbd
  clear l0 l1 m0 m1 n0 n1 n2 n3 n4 HOc HIc HBc hbd
  go_wp2_with fail
  -- once more
  refine (toCamera_any _ _ _ _ _ _).mono ?_
  rintro e we ⟨rfl, hbe⟩
  go_wp2_with fail
  refine (Him.out _).mono ?_
  rintro e wf ⟨vf, rfl, hOf, hbf⟩
  obtain ⟨af, capf, rfl, hcf, hIf⟩ := hOf.pts
  have hbdf := bl_then hbe hbf
  have hwf := hbdf.size
  have l0 := bl_cellR hbdf g0
  have l1 := bl_cellR hbdf g1
  have m0 := bl_cellR hbdf p0
  have m1 := bl_cellR hbdf p1
  have HOf : Hid (OwnT wf w4.heap.size (.slice a1 m cap1) m (mkR 1)) := HOd.out.below hbdf
  have HIf : Hid (UnderT w3.heap.size wf a0 m R) := HId.out.below hbdf (by omega)
  have HBf : Hid (Below w.heap.size w wf) := bl_then HBd.out hbdf
  have HJf : Hid (IsRs wf af m R) := hIf
  clear g0 g1 p0 p1 r0 r1 r2 r3 r4 HOd HId HBd hbdf hIf hOf hbe hbf
  have hlw2 := World.block_lt_of_cell? _ _ m0
  have hlw5 := World.block_lt_of_cell? _ _ l0
  go_wp2_with fail
  generalize hWg : (wf.alloc _ : World) = wg
  have hbg : Below wf.heap.size wf wg := by subst hWg; (repeat (first | exact Below.refl _ _ | assumption | refine Below.drew ?_ | refine bl_alloc ?_ _ | refine bl_then ?_ (by assumption) | refine Below.setCell ?_ (by first | omega | (simp; done) | (simp; omega)) _ | refine bl_store ?_ ?_ _ _))
  clear hWg
  have g0 := bl_cellR hbg l0
  have g1 := bl_cellR hbg l1
  have hwg := hbg.size
  refine (eqRefsResult_any c _ _ _ _ _ R _ (HJf.out.below hbg) ((HIf.out.below hbg (by omega)).is (by omega)) hm).mono ?_
  rintro e wh ⟨rfl, hbh⟩
  have hbfh := bl_then hbg hbh
  have HOh : Hid (OwnT wh w4.heap.size (.slice a1 m cap1) m (mkR 1)) := HOf.out.below hbfh
  have HBh : Hid (Below w.heap.size w wh) := bl_then HBf.out hbfh
  have k0 := bl_cellR hbh g0
  have k1 := bl_cellR hbh g1
  clear l0 l1 m0 m1 g0 g1 HOf HIf HBf HJf hbfh hbg hbh
  go_wp2_with fail
  refine (Hheld.out _ HOh.out).mono ?_
  rintro e wi ⟨rfl, hbi⟩
  have HBi : Hid (Below w.heap.size w wi) := bl_then HBh.out hbi
  clear hbi
  go_wp2
  go_ret
  exact ⟨rfl, HBi.out⟩

theorem FnExactVisibleRefs_walk (z x y wd ht : Int) (w : World) :
    Calls Try.prog 4 #[camV z x y wd ht] w fun e w' => e = .returned (.bool true) ∧ Below w.heap.size w w' :=
  FnExactVisibleRefs_law (camC z x y wd ht) z x y wd ht (visM z x y wd ht) (visR z x y wd) w (by have := visM_le z x y wd ht; omega) (fun w => spec_VisibleRefs_any z x y wd ht w) (fun w => impl_VisibleRefs_any z x y wd ht w)
end Go.Proofs.Ytioiikddgcmjeaa
