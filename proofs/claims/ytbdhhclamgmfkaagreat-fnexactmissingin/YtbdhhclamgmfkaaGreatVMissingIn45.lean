/- Several texts in one. -/
import Derived.Test.YtbdhhclamgmfkaaGreatVMissingIn41
import Derived.Test.YtbdhhclamgmfkaaGreatVMissingIn44
import Derived.Test.YtbdhhclamgmfkaaGreatVMissingIn39
import Derived.Test.YtbdhhclamgmfkaaGreatVMissingIn40

/- The law of MissingIn returns true at every viewer. -/

namespace Go.Proofs.YtbdhhclamgmfkaaGreat
open Go.RowKit
set_option linter.unusedSimpArgs false
set_option linter.unusedVariables false
set_option maxRecDepth 100000

set_option maxHeartbeats 32000000 in
theorem FnExactMissingIn_law (c : Int) (m : Nat) (Z : Rfs) (z x y wd ht now s : Int) (a : Option Addr) (n cap : Nat) (K : Nat → Kp) (ra : Option Addr) (rn rc : Nat) (E : Nat → Req) (bad : Int) (w : World) (h : (IsKs w a n K ∧ CameKs n K) ∧ IsWs w ra rn E ∧ rn ≤ rc ∧ rc ≤ maxLen) (hm : m ≤ 1048576)
    (hsp : SmallKs n K → rn ≤ 1048576 → ∀ (W : World) (b rb : Nat) (A : Nat → Kp), OwnV W b n K A rb rn E → Calls Tryz.prog 7 #[vwV z x y wd ht now s (.slice (some ⟨b, 0, none⟩) n n) (.slice (some ⟨rb, 0, none⟩) rn rn) bad] W fun e w' => ∃ v, e = .returned (.agg #[.int .i64 c, v]) ∧ OwnT w' W.heap.size v m Z ∧ Below W.heap.size W w')
    (him : SmallKs n K → rn ≤ 1048576 → ∀ (W : World) (b rb : Nat) (A : Nat → Kp), OwnV W b n K A rb rn E → Calls Tryz.prog 9 #[vwV z x y wd ht now s (.slice (some ⟨b, 0, none⟩) n n) (.slice (some ⟨rb, 0, none⟩) rn rn) bad] W fun e w' => ∃ v, e = .returned (.agg #[.int .i64 c, v]) ∧ OwnT w' W.heap.size v m Z ∧ Below W.heap.size W w') :
    Calls Tryz.prog 3 #[vwV z x y wd ht now s (.slice a n cap) (.slice ra rn rc) bad] w fun e w' => e = .returned (.bool true) ∧ Below w.heap.size w w' := by
  obtain ⟨⟨hf, hc⟩, hr, hrc, hrm⟩ := h
  have HI : Hid (IsKs w a n K) := hf
  have HC : Hid (CameKs n K) := hc
  have HRq : Hid (IsWs w ra rn E) := hr
  have hrl : rn ≤ maxLen := Nat.le_trans hrc hrm
  have Hspec := (show Hid _ from hsp)
  have Himpl := (show Hid _ from him)
  clear hf hc hr hrc hrm hsp him
  go_enter Tryz.func3, Tryz.ntmps3
  go_wp2_with fail
  generalize hW : (w.alloc _ : World) = W
  have HB0 : Hid (Below w.heap.size w W) := by show Below _ _ _; subst hW; (repeat (first | exact Below.refl _ _ | assumption | refine Below.drew ?_ | refine bl_alloc ?_ _ | refine bl_then ?_ (by assumption) | refine Below.setCell ?_ (by first | omega | (simp; done) | (simp; omega)) _ | refine bl_store ?_ ?_ _ _))
  have HV : Hid (Blk W w.heap.size [.int .i64 z, .int .i64 x, .int .i64 y, .int .i64 wd, .int .i64 ht, .int .i64 now, .int .i64 s, .slice a n cap, .slice ra rn rc, .int .i64 bad]) := by show Blk _ _ _; subst hW; exact Blk.new _ _ _
  have hvl : w.heap.size < W.heap.size := HV.out.lt
  clear hW
  refine (szViewer_any z x y wd ht now s a n cap K ra rn rc bad W (HI.out.below HB0.out) HC.out hrl).mono ?_
  rintro e w1 ⟨rfl | ⟨m0, hS, hrn, rfl⟩, hb1⟩
  · have HB1 : Hid (Below w.heap.size w w1) := bl_then HB0.out hb1
    clear hb1 Hspec Himpl
    go_wp2
    go_ret
    exact ⟨rfl, HB1.out⟩
  have HS : Hid (SmallKs n K) := hS
  have hneg : ¬ ((m0 : Nat) : Int) < 0 := by omega
  have Hsp := (show Hid _ from Hspec.out hS hrn)
  have Him := (show Hid _ from Himpl.out hS hrn)
  have HBw : Hid (Below w.heap.size w w1) := bl_then HB0.out hb1
  have HTo : Hid (∀ W', Below w1.heap.size w1 W' → Calls Tryz.prog 8 #[vwV z x y wd ht now s (.slice a n cap) (.slice ra rn rc) bad] W' fun e w' => ∃ b A rb, e = .returned (vwV z x y wd ht now s (.slice (some ⟨b, 0, none⟩) n n) (.slice (some ⟨rb, 0, none⟩) rn rn) bad) ∧ W'.heap.size ≤ b ∧ W'.heap.size ≤ rb ∧ OwnV w' b n K A rb rn E ∧ VkW w' W'.heap.size w'.heap.size b n A rb rn ∧ Below W'.heap.size W' w') := fun W' h => toViewer_own z x y wd ht now s a n cap K ra rn rc E bad W' (HI.out.below (bl_then HBw.out h)) HS.out (HRq.out.below (bl_then HBw.out h)) hrn
  have HEq : Hid (∀ (W : World) (b b' rb rb' : Nat) (A H : Nat → Kp), OwnV W b n K A rb rn E → OwnV W b' n K H rb' rn E → Calls Tryz.prog 11 #[vwV z x y wd ht now s (.slice (some ⟨b, 0, none⟩) n n) (.slice (some ⟨rb, 0, none⟩) rn rn) bad, vwV z x y wd ht now s (.slice (some ⟨b', 0, none⟩) n n) (.slice (some ⟨rb', 0, none⟩) rn rn) bad] W fun e w' => e = .returned (.bool true) ∧ Below W.heap.size W w') := fun W b b' rb rb' A H h1 h2 => eqViewer_any z x y wd ht now s n rn b b' rb rb' K A H E bad W h1 h2 HS.out hrn
  have HV1 : Hid (∀ W', Below w1.heap.size w1 W' → Blk W' w.heap.size [.int .i64 z, .int .i64 x, .int .i64 y, .int .i64 wd, .int .i64 ht, .int .i64 now, .int .i64 s, .slice a n cap, .slice ra rn rc, .int .i64 bad]) := fun W' h => HV.out.below hvl (bl_then hb1 h)
  have hB1 : Below w1.heap.size w1 w1 := Below.refl _ _
  have hv1 := HV1.out w1 hB1
  have hwl : w.heap.size < w1.heap.size := Nat.lt_of_lt_of_le hvl hb1.size
  have d0 := hv1.cell 0 rfl
  have d1 := hv1.cell 1 rfl
  have d2 := hv1.cell 2 rfl
  have d3 := hv1.cell 3 rfl
  have d4 := hv1.cell 4 rfl
  have d5 := hv1.cell 5 rfl
  have d6 := hv1.cell 6 rfl
  have d7 := hv1.cell 7 rfl
  have d8 := hv1.cell 8 rfl
  have d9 := hv1.cell 9 rfl
  clear hS hb1 Hspec Himpl HI HC HRq HB0 HV hv1
  go_wp2_with fail
  refine Calls.mono (HTo.out _ hB1) ?_
  rintro e wp ⟨bp, Ap, rbp, rfl, hle2, hlr2, hO2, _, hb2⟩
  have HBp : Hid (Below w1.heap.size w1 wp) := hb2
  have HOp : Hid (OwnV wp bp n K Ap rbp rn E) := hO2
  clear hO2 hb2
  go_wp2_with fail
  refine (Hsp.out _ _ _ _ HOp.out).mono ?_
  rintro e wq ⟨vq, rfl, hOq, hbq⟩
  obtain ⟨a0, cap0, rfl, hc0, hI0⟩ := hOq.pts
  have HIq : Hid (IsRs wq a0 m Z) := hI0
  have HBq : Hid (Below w1.heap.size w1 wq) := bl_then HBp.out hbq
  clear hOq hI0 hbq HOp HBp Hsp
  clear d0
  clear d1
  clear d2
  clear d3
  clear d4
  clear d5
  clear d6
  clear d7
  clear d8
  clear d9
  have hlq : w.heap.size < wq.heap.size := Nat.lt_of_lt_of_le hwl HBq.out.size
  have hvq := HV1.out wq HBq.out
  have v0 : ∀ o, (wq.alloc o).cell? ⟨w.heap.size, 0, none⟩ = _ := fun o => (hvq.alloc hlq o).cell 0 rfl
  have v1 : ∀ o, (wq.alloc o).cell? ⟨w.heap.size, 1, none⟩ = _ := fun o => (hvq.alloc hlq o).cell 1 rfl
  have v2 : ∀ o, (wq.alloc o).cell? ⟨w.heap.size, 2, none⟩ = _ := fun o => (hvq.alloc hlq o).cell 2 rfl
  have v3 : ∀ o, (wq.alloc o).cell? ⟨w.heap.size, 3, none⟩ = _ := fun o => (hvq.alloc hlq o).cell 3 rfl
  have v4 : ∀ o, (wq.alloc o).cell? ⟨w.heap.size, 4, none⟩ = _ := fun o => (hvq.alloc hlq o).cell 4 rfl
  have v5 : ∀ o, (wq.alloc o).cell? ⟨w.heap.size, 5, none⟩ = _ := fun o => (hvq.alloc hlq o).cell 5 rfl
  have v6 : ∀ o, (wq.alloc o).cell? ⟨w.heap.size, 6, none⟩ = _ := fun o => (hvq.alloc hlq o).cell 6 rfl
  have v7 : ∀ o, (wq.alloc o).cell? ⟨w.heap.size, 7, none⟩ = _ := fun o => (hvq.alloc hlq o).cell 7 rfl
  have v8 : ∀ o, (wq.alloc o).cell? ⟨w.heap.size, 8, none⟩ = _ := fun o => (hvq.alloc hlq o).cell 8 rfl
  have v9 : ∀ o, (wq.alloc o).cell? ⟨w.heap.size, 9, none⟩ = _ := fun o => (hvq.alloc hlq o).cell 9 rfl
  clear hvq
  go_wp2_with fail
  generalize hW3 : (wq.alloc _ : World) = w3
  have hb3 : Below wq.heap.size wq w3 := by subst hW3; (repeat (first | exact Below.refl _ _ | assumption | refine Below.drew ?_ | refine bl_alloc ?_ _ | refine bl_then ?_ (by assumption) | refine Below.setCell ?_ (by first | omega | (simp; done) | (simp; omega)) _ | refine bl_store ?_ ?_ _ _))
  have p0 : w3.cell? ⟨wq.heap.size, 0, none⟩ = some (.int .i64 c) := by subst hW3; simp [go_sem]
  have p1 : w3.cell? ⟨wq.heap.size, 1, none⟩ = some (.slice a0 m cap0) := by subst hW3; simp [go_sem]
  clear hW3
  obtain ⟨b7, hb7e⟩ : ∃ b, wq.heap.size = b := ⟨_, rfl⟩
  have hb7q : b7 < w3.heap.size := by rw [← hb7e]; exact World.block_lt_of_cell? _ _ p0
  have hl7 := hb7q
  have HI3 : Hid (UnderT w3.heap.size w3 a0 m Z) := HIq.out.below hb3
  have hB3 : Below w1.heap.size w1 w3 := bl_then HBq.out hb3
  rw [hb7e] at p0 p1
  simp only [hb7e]
  clear hb3 HIq HBq hb7e
  have d0 : ∀ W', Below w3.heap.size w3 W' → W'.cell? ⟨b7, 0, none⟩ = some (.int .i64 c) := fun W' h => bl_cellR h p0
  have d1 : ∀ W', Below w3.heap.size w3 W' → W'.cell? ⟨b7, 1, none⟩ = some (.slice a0 m cap0) := fun W' h => bl_cellR h p1
  clear p0 p1
  have hw3 := hB3.size
  have HB3 : Hid (Below w1.heap.size w1 w3) := hB3
  clear hB3
  clear v0
  clear v1
  clear v2
  clear v3
  clear v4
  clear v5
  clear v6
  clear v7
  clear v8
  clear v9
  refine Calls.mono (HTo.out _ HB3.out) ?_
  rintro e w4a ⟨b4, A4, rb4, rfl, hle4, hlr4, hO4, hK4, hb4⟩
  have HO4a : Hid (OwnV w4a b4 n K A4 rb4 rn E) := hO4
  have HK4a : Hid (VkW w4a w3.heap.size w4a.heap.size b4 n A4 rb4 rn) := hK4
  have HB4a : Hid (Below w3.heap.size w3 w4a) := hb4
  clear hO4 hK4 hb4
  go_wp2_with fail
  generalize hwA : (w4a.alloc _ : World) = w4
  have HB4b : Hid (Below w4a.heap.size w4a w4) := by show Below _ _ _; subst hwA; (repeat (first | exact Below.refl _ _ | assumption | refine Below.drew ?_ | refine bl_alloc ?_ _ | refine bl_then ?_ (by assumption) | refine Below.setCell ?_ (by first | omega | (simp; done) | (simp; omega)) _ | refine bl_store ?_ ?_ _ _))
  have HX4 : Hid (Blk w4 w4a.heap.size [.int .i64 z, .int .i64 x, .int .i64 y, .int .i64 wd, .int .i64 ht, .int .i64 now, .int .i64 s, .slice (some ⟨b4, 0, none⟩) n n, .slice (some ⟨rb4, 0, none⟩) rn rn, .int .i64 bad]) := by show Blk _ _ _; subst hwA; exact Blk.new _ _ _
  clear hwA
  have HO4 : Hid (OwnV w4 b4 n K A4 rb4 rn E) := HO4a.out.below HB4b.out
  have HK4 : Hid (VkW w4 w3.heap.size w4a.heap.size b4 n A4 rb4 rn) := HK4a.out.below HB4b.out
  have hs4a := HB4a.out.size
  have hbx : w3.heap.size ≤ w4a.heap.size := hs4a
  have hxl : w4a.heap.size < w4.heap.size := HX4.out.lt
  have hb4 : Below w3.heap.size w3 w4 := bl_then HB4a.out HB4b.out
  obtain ⟨bx, hbxe⟩ : ∃ b, w4a.heap.size = b := ⟨_, rfl⟩
  rw [hbxe] at hbx hxl
  simp only [hbxe] at HX4 HK4 ⊢
  clear HO4a HK4a HB4a HB4b hs4a hbxe
  have hB4 : Below w1.heap.size w1 w4 := bl_then HB3.out hb4
  have HI4 : Hid (UnderT w3.heap.size w4 a0 m Z) := HI3.out.below hb4 (Nat.le_refl _)
  have d0' : ∀ W', Below w4.heap.size w4 W' → W'.cell? ⟨b7, 0, none⟩ = some (.int .i64 c) := fun W' h => d0 W' (bl_then hb4 h)
  have d1' : ∀ W', Below w4.heap.size w4 W' → W'.cell? ⟨b7, 1, none⟩ = some (.slice a0 m cap0) := fun W' h => d1 W' (bl_then hb4 h)
  have hle34 := hb4.size
  have HX4' : Hid (∀ W', Below w4.heap.size w4 W' → Blk W' bx [.int .i64 z, .int .i64 x, .int .i64 y, .int .i64 wd, .int .i64 ht, .int .i64 now, .int .i64 s, .slice (some ⟨b4, 0, none⟩) n n, .slice (some ⟨rb4, 0, none⟩) rn rn, .int .i64 bad]) := fun W' h => HX4.out.below hxl h
  clear d0 d1 HI3 hb4 HX4
  refine (Him.out _ _ _ _ HO4.out).mono ?_
  rintro e wr ⟨vr, rfl, hOr, hbr⟩
  obtain ⟨a1, cap1, rfl, hc1, _⟩ := hOr.pts
  have HOr : Hid (OwnT wr w4.heap.size (.slice a1 m cap1) m Z) := hOr
  have hkr : ∀ s, m ≠ 0 → a1 = some ⟨s, 0, none⟩ → s < wr.heap.size := fun s h1 h2 => by
    obtain ⟨_, _, hv, _, h0 | ⟨b, ha, _, hl, _⟩⟩ := hOr
    · exact absurd h0 h1
    · injection hv with e1 _ _
      rw [h2] at e1; rw [← e1] at ha; injection ha with ha; injection ha with ha; subst ha; exact hl
  clear hOr
  have z0 := d0' _ hbr
  have z1 := d1' _ hbr
  have lz : b7 < wr.heap.size := World.block_lt_of_cell? _ _ z0
  go_wp2_with fail
  generalize hW5 : (wr.alloc _ : World) = w5
  have hb5 : Below wr.heap.size wr w5 := by subst hW5; (repeat (first | exact Below.refl _ _ | assumption | refine Below.drew ?_ | refine bl_alloc ?_ _ | refine bl_then ?_ (by assumption) | refine Below.setCell ?_ (by first | omega | (simp; done) | (simp; omega)) _ | refine bl_store ?_ ?_ _ _))
  have r0 : w5.cell? ⟨wr.heap.size, 0, none⟩ = some (.int .i64 c) := by subst hW5; simp [go_sem]
  have r1 : w5.cell? ⟨wr.heap.size, 1, none⟩ = some (.slice a1 m cap1) := by subst hW5; simp [go_sem]
  clear hW5
  have hB5 : Below w4.heap.size w4 w5 := bl_then hbr hb5
  obtain ⟨b9, hb9e⟩ : ∃ b, wr.heap.size = b := ⟨_, rfl⟩
  have hb9 : w4.heap.size ≤ b9 := by rw [← hb9e]; exact hbr.size
  have hl9 : b9 < w5.heap.size := by rw [← hb9e]; exact World.block_lt_of_cell? _ _ r0
  have hO5 : OwnT w5 w4.heap.size (.slice a1 m cap1) m Z := HOr.out.below hb5
  have hne5 : ∀ s, m ≠ 0 → a1 = some ⟨s, 0, none⟩ → s ≠ b9 := fun s h1 h2 => by have := hkr s h1 h2; omega
  rw [hb9e] at r0 r1
  simp only [hb9e]
  clear hb5 hbr HOr z0 z1 lz hb9e hkr
  have HO5 : Hid (OwnT w5 w4.heap.size (.slice a1 m cap1) m Z) := hO5
  have HNE : Hid (∀ s, m ≠ 0 → a1 = some ⟨s, 0, none⟩ → s ≠ b9) := hne5
  have HI5 : Hid (UnderT w3.heap.size w5 a0 m Z) := HI4.out.below hB5 hle34
  have p0 := d0' _ hB5
  have p1 := d1' _ hB5
  have HP5 : Hid (OwnV w5 b4 n K A4 rb4 rn E) := HO4.out.below hB5
  have HK5 : Hid (VkW w5 w3.heap.size bx b4 n A4 rb4 rn) := HK4.out.below hB5
  have HX5 : Hid (∀ W', Below w5.heap.size w5 W' → Blk W' bx [.int .i64 z, .int .i64 x, .int .i64 y, .int .i64 wd, .int .i64 ht, .int .i64 now, .int .i64 s, .slice (some ⟨b4, 0, none⟩) n n, .slice (some ⟨rb4, 0, none⟩) rn rn, .int .i64 bad]) := fun W' h => HX4'.out W' (bl_then hB5 h)
  have hw5 := hB5.size
  have HB5 : Hid (Below w1.heap.size w1 w5) := bl_then hB4 hB5
  clear hO5 hne5 d0' d1' HI4 HO4 HK4 hB4 hB5 HX4'
  refine (eqRefsResult_any c _ _ _ _ _ Z _ HO5.out.is (HI5.out.is (by omega)) hm).mono ?_
  rintro e w6 ⟨rfl, hb6⟩
  have hw6 := hb6.size
  have HO6 : Hid (OwnT w6 w4.heap.size (.slice a1 m cap1) m Z) := HO5.out.below hb6
  have HI6 : Hid (UnderT w3.heap.size w6 a0 m Z) := HI5.out.below hb6 (by omega)
  have HP6 : Hid (OwnV w6 b4 n K A4 rb4 rn E) := HP5.out.below hb6
  have HK6 : Hid (VkW w6 w3.heap.size bx b4 n A4 rb4 rn) := HK5.out.below hb6
  have HB6 : Hid (Below w1.heap.size w1 w6) := bl_then HB5.out hb6
  have g0 := bl_cellR hb6 r0
  have g1 := bl_cellR hb6 r1
  have h0 := bl_cellR hb6 p0
  have h1 := bl_cellR hb6 p1
  have hx : ∀ W', Below w6.heap.size w6 W' → Blk W' bx [.int .i64 z, .int .i64 x, .int .i64 y, .int .i64 wd, .int .i64 ht, .int .i64 now, .int .i64 s, .slice (some ⟨b4, 0, none⟩) n n, .slice (some ⟨rb4, 0, none⟩) rn rn, .int .i64 bad] := fun W' h => HX5.out W' (bl_then hb6 h)
  have hv : ∀ W', Below w6.heap.size w6 W' → Blk W' w.heap.size [.int .i64 z, .int .i64 x, .int .i64 y, .int .i64 wd, .int .i64 ht, .int .i64 now, .int .i64 s, .slice a n cap, .slice ra rn rc, .int .i64 bad] := fun W' h => HV1.out W' (bl_then HB6.out h)
  have HX6 : Hid (∀ W', Below w6.heap.size w6 W' → Blk W' bx [.int .i64 z, .int .i64 x, .int .i64 y, .int .i64 wd, .int .i64 ht, .int .i64 now, .int .i64 s, .slice (some ⟨b4, 0, none⟩) n n, .slice (some ⟨rb4, 0, none⟩) rn rn, .int .i64 bad]) := hx
  have x0 : ∀ W', Below w6.heap.size w6 W' → W'.cell? ⟨bx, 0, none⟩ = _ := fun W' h => (hx W' h).cell 0 rfl
  have x1 : ∀ W', Below w6.heap.size w6 W' → W'.cell? ⟨bx, 1, none⟩ = _ := fun W' h => (hx W' h).cell 1 rfl
  have x2 : ∀ W', Below w6.heap.size w6 W' → W'.cell? ⟨bx, 2, none⟩ = _ := fun W' h => (hx W' h).cell 2 rfl
  have x3 : ∀ W', Below w6.heap.size w6 W' → W'.cell? ⟨bx, 3, none⟩ = _ := fun W' h => (hx W' h).cell 3 rfl
  have x4 : ∀ W', Below w6.heap.size w6 W' → W'.cell? ⟨bx, 4, none⟩ = _ := fun W' h => (hx W' h).cell 4 rfl
  have x5 : ∀ W', Below w6.heap.size w6 W' → W'.cell? ⟨bx, 5, none⟩ = _ := fun W' h => (hx W' h).cell 5 rfl
  have x6 : ∀ W', Below w6.heap.size w6 W' → W'.cell? ⟨bx, 6, none⟩ = _ := fun W' h => (hx W' h).cell 6 rfl
  have x7 : ∀ W', Below w6.heap.size w6 W' → W'.cell? ⟨bx, 7, none⟩ = _ := fun W' h => (hx W' h).cell 7 rfl
  have x8 : ∀ W', Below w6.heap.size w6 W' → W'.cell? ⟨bx, 8, none⟩ = _ := fun W' h => (hx W' h).cell 8 rfl
  have x9 : ∀ W', Below w6.heap.size w6 W' → W'.cell? ⟨bx, 9, none⟩ = _ := fun W' h => (hx W' h).cell 9 rfl
  have v0 : ∀ W', Below w6.heap.size w6 W' → W'.cell? ⟨w.heap.size, 0, none⟩ = _ := fun W' h => (hv W' h).cell 0 rfl
  have v1 : ∀ W', Below w6.heap.size w6 W' → W'.cell? ⟨w.heap.size, 1, none⟩ = _ := fun W' h => (hv W' h).cell 1 rfl
  have v2 : ∀ W', Below w6.heap.size w6 W' → W'.cell? ⟨w.heap.size, 2, none⟩ = _ := fun W' h => (hv W' h).cell 2 rfl
  have v3 : ∀ W', Below w6.heap.size w6 W' → W'.cell? ⟨w.heap.size, 3, none⟩ = _ := fun W' h => (hv W' h).cell 3 rfl
  have v4 : ∀ W', Below w6.heap.size w6 W' → W'.cell? ⟨w.heap.size, 4, none⟩ = _ := fun W' h => (hv W' h).cell 4 rfl
  have v5 : ∀ W', Below w6.heap.size w6 W' → W'.cell? ⟨w.heap.size, 5, none⟩ = _ := fun W' h => (hv W' h).cell 5 rfl
  have v6 : ∀ W', Below w6.heap.size w6 W' → W'.cell? ⟨w.heap.size, 6, none⟩ = _ := fun W' h => (hv W' h).cell 6 rfl
  have v7 : ∀ W', Below w6.heap.size w6 W' → W'.cell? ⟨w.heap.size, 7, none⟩ = _ := fun W' h => (hv W' h).cell 7 rfl
  have v8 : ∀ W', Below w6.heap.size w6 W' → W'.cell? ⟨w.heap.size, 8, none⟩ = _ := fun W' h => (hv W' h).cell 8 rfl
  have v9 : ∀ W', Below w6.heap.size w6 W' → W'.cell? ⟨w.heap.size, 9, none⟩ = _ := fun W' h => (hv W' h).cell 9 rfl
  clear r0 r1 p0 p1 hb6 HO5 HI5 HP5 HK5 HB5 HX5 hx hv
  go_wp2_with fail
  refine wp_region_noPanic ?_
  refine wp_region_held_drew (S := fun W' => Below w6.heap.size w6 W') (by kernel_rfl) (by have := Below.refl w6.heap.size w6; (repeat (first | exact Below.refl _ _ | assumption | refine Below.drew ?_ | refine bl_alloc ?_ _ | refine bl_then ?_ (by assumption) | refine Below.setCell ?_ (by first | omega | (simp; done) | (simp; omega)) _ | refine bl_store ?_ ?_ _ _))) (fun hHeld => ?_)
  have hX0 : Below w6.heap.size w6 w6.drew := hHeld
  refine takeD (i := 0) (d := some 27) (v := ?va0) rfl rfl (by kernel_rfl) (by kernel_rfl) (by kernel_rfl) (fun _ _ _ h => h) (Or.inl ⟨by rfl, ?hya0⟩) (by assumption) ?_
  case hya0 => (intro w hSw; (try dsimp only at hSw); go_simp <;> with_reducible rfl)
  try simp only [Act.put, List.setIfInBounds_toArray, List.set_cons_zero, List.set_cons_succ]
  refine takeD (i := 1) (d := some 28) (v := ?va1) rfl rfl (by kernel_rfl) (by kernel_rfl) (by kernel_rfl) (fun _ _ _ h => h) (Or.inl ⟨by rfl, ?hya1⟩) (by assumption) ?_
  case hya1 => (intro w hSw; (try dsimp only at hSw); go_simp <;> with_reducible rfl)
  try simp only [Act.put, List.setIfInBounds_toArray, List.set_cons_zero, List.set_cons_succ]
  generalize w6.drew = wk0 at *
  refine wpAnyH_ready (rs := [2]) (by kernel_rfl) (by simp) ?_
  refine (AllReadyH.cons rfl (fun K hK => ?_) AllReadyH.nil)
  rw [if_pos (by rfl)]
  go_simp
  refine Calls.mono (HTo.out _ (bl_then HB6.out hX0)) ?_
  rintro e wk1 ⟨bq, Aq, rq, rfl, hge, hgr, hOq, _, hb1⟩
  have hX1 : Below w6.heap.size w6 wk1 := bl_then hX0 hb1
  go_wp2_with fail
  refine hK.out _ _ (by assumption) (fun hHeld => ?_)
  clear hK K
  try simp only [Act.put, List.setIfInBounds_toArray, List.set_cons_zero, List.set_cons_succ]
  refine wpAnyH_ready (rs := [3]) (by kernel_rfl) (by simp) ?_
  refine (AllReadyH.cons rfl (fun K hK => ?_) AllReadyH.nil)
  rw [if_pos (by rfl)]
  go_simp
  refine Calls.mono (HEq.out _ _ _ _ _ _ _ (HP6.out.below hX1) hOq) ?_
  rintro e wk2 ⟨rfl, hb2⟩
  have hX2 : Below w6.heap.size w6 wk2 := bl_then hX1 hb2
  go_wp2_with fail
  refine hK.out _ _ (by assumption) (fun hHeld => ?_)
  clear hK K
  try simp only [Act.put, List.setIfInBounds_toArray, List.set_cons_zero, List.set_cons_succ]
  refine takeD (i := 4) (d := some 31) (v := ?vb4) rfl rfl (by kernel_rfl) (by kernel_rfl) (by kernel_rfl) (fun _ _ _ h => h) (Or.inl ⟨by rfl, ?hyb4⟩) (by assumption) ?_
  case hyb4 => (intro w hSw; (try dsimp only at hSw); go_simp <;> with_reducible rfl)
  try simp only [Act.put, List.setIfInBounds_toArray, List.set_cons_zero, List.set_cons_succ]
  refine wpAnyH_done (by kernel_rfl) ?_ _
  refine NoPanic.normal ?_
  have HB8 : Hid (Below w6.heap.size w6 wk2) := hX2
  have hsk2 := HB8.out.size
  have HO8 : Hid (OwnT wk2 w4.heap.size (.slice a1 m cap1) m Z) := HO6.out.below HB8.out
  have HI8 : Hid (UnderT w3.heap.size wk2 a0 m Z) := HI6.out.below HB8.out (by omega)
  have HK8 : Hid (VkW wk2 w3.heap.size bx b4 n A4 rb4 rn) := HK6.out.below HB8.out
  have HB8w : Hid (Below w1.heap.size w1 wk2) := bl_then HB6.out HB8.out
  have i0 := bl_cellR HB8.out g0
  have i1 := bl_cellR HB8.out g1
  have j0 := bl_cellR HB8.out h0
  have j1 := bl_cellR HB8.out h1
  have hx8 := HX6.out wk2 HB8.out
  have HMk : Hid (Calls Tryz.prog 12 #[vwV z x y wd ht now s (.slice (some ⟨b4, 0, none⟩) n n) (.slice (some ⟨rb4, 0, none⟩) rn rn) bad, .int .i64 1] wk2 fun e w' => (∃ q : Nat, e = .returned (.int .i64 (q : Int))) ∧ MidB w3.heap.size bx wk2 w') := markViewer_any z x y wd ht now s _ _ b4 n A4 rb4 rn bad wk2 HK8.out (HP6.out.1.small HS.out) hrn
  clear x0 v0
  clear x1 v1
  clear x2 v2
  clear x3 v3
  clear x4 v4
  clear x5 v5
  clear x6 v6
  clear x7 v7
  clear x8 v8
  clear x9 v9
  clear g0 g1 h0 h1 hX0 hb1 hX1 hb2 hX2 hOq hge hgr HO6 HI6 HK6 HP6 HB6 HX6 HEq HK8 HB8
  have x0 := hx8.cell 0 rfl
  have x1 := hx8.cell 1 rfl
  have x2 := hx8.cell 2 rfl
  have x3 := hx8.cell 3 rfl
  have x4 := hx8.cell 4 rfl
  have x5 := hx8.cell 5 rfl
  have x6 := hx8.cell 6 rfl
  have x7 := hx8.cell 7 rfl
  have x8 := hx8.cell 8 rfl
  have x9 := hx8.cell 9 rfl
  clear hx8
  go_wp2_with fail
  -- the argument is marked
  refine Calls.mono HMk.out ?_
  rintro e wa ⟨⟨qn, rfl⟩, hGa⟩
  have hqn : ¬ ((qn : Nat) : Int) < 0 := by omega
  have hwa := hGa.size
  have l0 : wa.cell? ⟨b9, 0, none⟩ = some (.int .i64 c) := hGa.cell i0 (.inr (by omega))
  have l1 : wa.cell? ⟨b9, 1, none⟩ = some (.slice a1 m cap1) := hGa.cell i1 (.inr (by omega))
  have m0 : wa.cell? ⟨b7, 0, none⟩ = some (.int .i64 c) := hGa.cell j0 (.inl (by omega))
  have m1 : wa.cell? ⟨b7, 1, none⟩ = some (.slice a0 m cap0) := hGa.cell j1 (.inl (by omega))
  have HOa : Hid (OwnT wa w4.heap.size (.slice a1 m cap1) m Z) := HO8.out.midV hGa (by omega)
  have HIa : Hid (UnderT w3.heap.size wa a0 m Z) := HI8.out.midV hGa (Nat.le_refl _)
  have HBa : Hid (Below w1.heap.size w1 wa) := HB8w.out.trans ((hGa.below (by omega)).mono (by omega))
  clear x0
  clear x1
  clear x2
  clear x3
  clear x4
  clear x5
  clear x6
  clear x7
  clear x8
  clear x9
  clear i0 i1 j0 j1 hGa HO8 HI8 HMk HB8w
  go_wp2_with fail
  refine (eqRefsResult_any c _ _ _ _ _ Z _ HOa.out.is (HIa.out.is (by omega)) hm).mono ?_
  rintro e wb ⟨rfl, hbb⟩
  have g0 := bl_cellR hbb l0
  have g1 := bl_cellR hbb l1
  have h0 := bl_cellR hbb m0
  have h1 := bl_cellR hbb m1
  have hwb := hbb.size
  have HOb : Hid (OwnT wb w4.heap.size (.slice a1 m cap1) m Z) := HOa.out.below hbb
  have HIb : Hid (UnderT w3.heap.size wb a0 m Z) := HIa.out.below hbb (by omega)
  have HBb : Hid (Below w1.heap.size w1 wb) := bl_then HBa.out hbb
  clear l0 l1 m0 m1 HOa HIa HBa hbb
  -- the answer is marked
  obtain ⟨row, hrow, Hmark⟩ := mark_ownV c w4.heap.size m cap1 a1 Z wb HOb.out hm
  have Hmark' := (show Hid _ from Hmark)
  have Hrow : Hid (∀ s, row = some s → w4.heap.size ≤ s ∧ s ≠ b9) := fun s hs => ⟨(hrow s hs).1, HNE.out s (hrow s hs).2.1 (hrow s hs).2.2⟩
  clear Hmark hrow
  have hqm : ¬ ((1 + 3 * m : Nat) : Int) < 0 := by omega
  have Hheld : Hid (∀ w, OwnT w w4.heap.size (.slice a1 m cap1) m (mkR 1) → Calls Tryz.prog 14 #[.agg #[.int .i64 c, .slice a1 m cap1], .int .i64 1] w fun e w' => e = .returned (.int .i64 ((1 + 3 * m : Nat) : Int)) ∧ Below w.heap.size w w') := fun w h => heldRefsResult_any c a1 m cap1 w h.is hm
  generalize ((1 + 3 * m : Nat) : Int) = qm at *
  go_wp2_with fail
  refine Calls.mono Hmark'.out ?_
  rintro e wc ⟨rfl, hGc, hOc⟩
  have hwc := hGc.size
  have l0 : wc.cell? ⟨b9, 0, none⟩ = some (.int .i64 c) := ro_cellR hGc g0 (fun s hs => by have := Hrow.out s hs; omega)
  have l1 : wc.cell? ⟨b9, 1, none⟩ = some (.slice a1 m cap1) := ro_cellR hGc g1 (fun s hs => by have := Hrow.out s hs; omega)
  have m0 : wc.cell? ⟨b7, 0, none⟩ = some (.int .i64 c) := ro_cellR hGc h0 (fun s hs => by have := Hrow.out s hs; omega)
  have m1 : wc.cell? ⟨b7, 1, none⟩ = some (.slice a0 m cap0) := ro_cellR hGc h1 (fun s hs => by have := Hrow.out s hs; omega)
  have HOc : Hid (OwnT wc w4.heap.size (.slice a1 m cap1) m (mkR 1)) := hOc
  have HIc : Hid (UnderT w3.heap.size wc a0 m Z) := HIb.out.row hGc (fun s hs => by have := Hrow.out s hs; omega)
  have HBc : Hid (Below w1.heap.size w1 wc) := HBb.out.trans (below_rowR hGc (fun s hs => by have := Hrow.out s hs; omega) (by omega))
  clear g0 g1 h0 h1 hOc hGc HBb HIb HOb Hmark'
  go_wp2_with fail
  refine (Hheld.out _ HOc.out).mono ?_
  rintro e wd' ⟨rfl, hbd⟩
  have hwd := hbd.size
  have g0 := bl_cellR hbd l0
  have g1 := bl_cellR hbd l1
  have h0 := bl_cellR hbd m0
  have h1 := bl_cellR hbd m1
  have HOd : Hid (OwnT wd' w4.heap.size (.slice a1 m cap1) m (mkR 1)) := HOc.out.below hbd
  have HId : Hid (UnderT w3.heap.size wd' a0 m Z) := HIc.out.below hbd (by omega)
  have HBd : Hid (Below w1.heap.size w1 wd') := bl_then HBc.out hbd
  have hvd := HV1.out wd' HBd.out
  have v0 := hvd.cell 0 rfl
  have v1 := hvd.cell 1 rfl
  have v2 := hvd.cell 2 rfl
  have v3 := hvd.cell 3 rfl
  have v4 := hvd.cell 4 rfl
  have v5 := hvd.cell 5 rfl
  have v6 := hvd.cell 6 rfl
  have v7 := hvd.cell 7 rfl
  have v8 := hvd.cell 8 rfl
  have v9 := hvd.cell 9 rfl
  clear l0 l1 m0 m1 HOc HIc HBc hbd hvd
  go_wp2_with fail
  refine Calls.mono (HTo.out _ HBd.out) ?_
  rintro e we ⟨be, Ae, re, rfl, _, _, hpe, _, hbe⟩
  have HPe : Hid (OwnV we be n K Ae re rn E) := hpe
  clear v0
  clear v1
  clear v2
  clear v3
  clear v4
  clear v5
  clear v6
  clear v7
  clear v8
  clear v9
  clear hpe
  go_wp2_with fail
  refine (Him.out _ _ _ _ HPe.out).mono ?_
  rintro e wf ⟨vf, rfl, hOf, hbf⟩
  obtain ⟨af, capf, rfl, hcf, hIf⟩ := hOf.pts
  have hbdf := bl_then hbe hbf
  have l0 := bl_cellR hbdf g0
  have l1 := bl_cellR hbdf g1
  have m0 := bl_cellR hbdf h0
  have m1 := bl_cellR hbdf h1
  have hwf := hbdf.size
  have HOf : Hid (OwnT wf w4.heap.size (.slice a1 m cap1) m (mkR 1)) := HOd.out.below hbdf
  have HIf : Hid (UnderT w3.heap.size wf a0 m Z) := HId.out.below hbdf (by omega)
  have HBf : Hid (Below w1.heap.size w1 wf) := bl_then HBd.out hbdf
  have HJf : Hid (IsRs wf af m Z) := hIf
  have lm : b7 < wf.heap.size := World.block_lt_of_cell? _ _ m0
  have ll : b9 < wf.heap.size := World.block_lt_of_cell? _ _ l0
  clear g0 g1 h0 h1 HOd HId HBd hbdf hIf hOf hbe hbf HPe Him HTo
  go_wp2_with fail
  generalize hWx : (wf.alloc _ : World) = wx
  have hbx' : Below wf.heap.size wf wx := by subst hWx; (repeat (first | exact Below.refl _ _ | assumption | refine Below.drew ?_ | refine bl_alloc ?_ _ | refine bl_then ?_ (by assumption) | refine Below.setCell ?_ (by first | omega | (simp; done) | (simp; omega)) _ | refine bl_store ?_ ?_ _ _))
  clear hWx
  have k0 := bl_cellR hbx' l0
  have k1 := bl_cellR hbx' l1
  have hwx := hbx'.size
  refine (eqRefsResult_any c _ _ _ _ _ Z _ (HJf.out.below hbx') ((HIf.out.below hbx' (by omega)).is (by omega)) hm).mono ?_
  rintro e wh ⟨rfl, hbh⟩
  have hbfh := bl_then hbx' hbh
  have HOh : Hid (OwnT wh w4.heap.size (.slice a1 m cap1) m (mkR 1)) := HOf.out.below hbfh
  have HBh : Hid (Below w1.heap.size w1 wh) := bl_then HBf.out hbfh
  have s0 := bl_cellR hbh k0
  have s1 := bl_cellR hbh k1
  clear l0 l1 m0 m1 k0 k1 HOf HIf HBf HJf hbfh hbx' hbh
  go_wp2_with fail
  refine (Hheld.out _ HOh.out).mono ?_
  rintro e wi ⟨rfl, hbi'⟩
  have HBi : Hid (Below w.heap.size w wi) := bl_then HBw.out (bl_then HBh.out hbi')
  clear hbi'
  go_wp2
  go_ret
  exact ⟨rfl, HBi.out⟩
end Go.Proofs.YtbdhhclamgmfkaaGreat
/- The law of ViewerFault returns true at every viewer. -/

namespace Go.Proofs.YtbdhhclamgmfkaaGreat
open Go.RowKit
set_option linter.unusedSimpArgs false
set_option linter.unusedVariables false
set_option maxRecDepth 100000

theorem OwnKs.viewC {w : World} {B b n : Nat} {K A : Nat → Kp} (h : OwnKs w B b n K A) (z x y wd ht now s : Int) (rn : Nat) (E : Nat → Req) (bad : Int) : Go.Proofs.YtbdhhclamgmfkaaGreat.viewC z x y wd ht now s n A rn E bad = Go.Proofs.YtbdhhclamgmfkaaGreat.viewC z x y wd ht now s n K rn E bad := by
  have e : strC z x y wd ht n A E = strC z x y wd ht n K E := by
    funext i
    unfold strC
    rw [h.atK _ _ _ n (Nat.le_refl _)]
  unfold Go.Proofs.YtbdhhclamgmfkaaGreat.viewC
  rw [h.cacheC, e]
end Go.Proofs.YtbdhhclamgmfkaaGreat
/- The law of IsComplete returns true at every viewer. -/

namespace Go.Proofs.YtbdhhclamgmfkaaGreat
open Go.RowKit
set_option linter.unusedSimpArgs false
set_option linter.unusedVariables false
set_option maxRecDepth 100000

theorem OwnKs.misL {w : World} {B b n : Nat} {K A : Nat → Kp} (h : OwnKs w B b n K A) (R : Rfs) : ∀ k, Go.Proofs.YtbdhhclamgmfkaaGreat.misL n A R k = Go.Proofs.YtbdhhclamgmfkaaGreat.misL n K R k
  | 0 => rfl
  | k + 1 => by
    rw [Go.Proofs.YtbdhhclamgmfkaaGreat.misL, Go.Proofs.YtbdhhclamgmfkaaGreat.misL, h.atK _ _ _ n (Nat.le_refl _), OwnKs.misL h R k]
end Go.Proofs.YtbdhhclamgmfkaaGreat
/- The law of MissingIn returns true at every viewer. -/

namespace Go.Proofs.YtbdhhclamgmfkaaGreat
open Go.RowKit
set_option linter.unusedSimpArgs false
set_option linter.unusedVariables false
set_option maxRecDepth 100000

theorem OwnKs.misA {w : World} {B b n : Nat} {K A : Nat → Kp} (h : OwnKs w B b n K A) (z x y wd ht now s : Int) (rn : Nat) (E : Nat → Req) (bad : Int) : Go.Proofs.YtbdhhclamgmfkaaGreat.misA z x y wd ht now s n A rn E bad = Go.Proofs.YtbdhhclamgmfkaaGreat.misA z x y wd ht now s n K rn E bad := by
  unfold Go.Proofs.YtbdhhclamgmfkaaGreat.misA
  rw [h.viewC, h.misL]
theorem misA_len (z x y wd ht now s : Int) (n : Nat) (A : Nat → Kp) (rn : Nat) (E : Nat → Req) (bad : Int) : (misA z x y wd ht now s n A rn E bad).length ≤ 1048576 := by
  unfold misA
  split
  · have h1 := misL_len n A (visR z x y wd) (visM z x y wd ht)
    have h2 := visM_le z x y wd ht
    omega
  · simp
theorem FnExactMissingIn_walk (z x y wd ht now s : Int) (a : Option Addr) (n cap : Nat) (K : Nat → Kp) (ra : Option Addr) (rn rc : Nat) (E : Nat → Req) (bad : Int) (w : World) (h : (IsKs w a n K ∧ CameKs n K) ∧ IsWs w ra rn E ∧ rn ≤ rc ∧ rc ≤ maxLen) :
    Calls Tryz.prog 3 #[vwV z x y wd ht now s (.slice a n cap) (.slice ra rn rc) bad] w fun e w' => e = .returned (.bool true) ∧ Below w.heap.size w w' :=
  FnExactMissingIn_law (viewC z x y wd ht now s n K rn E bad) (misA z x y wd ht now s n K rn E bad).length (rfsOf (misA z x y wd ht now s n K rn E bad)) z x y wd ht now s a n cap K ra rn rc E bad w h (misA_len z x y wd ht now s n K rn E bad)
    (fun hS hn W b rb A hO => by
      have := spec_MissingIn_any z x y wd ht now s b n n A (some ⟨rb, 0, none⟩) rn rn E bad W hO.1.ko (hO.1.small hS) (.inr ⟨rb, 0, rfl, hO.2.1, hO.2.2⟩) hn
      rw [hO.1.viewC, hO.1.misA] at this
      exact this)
    (fun hS hn W b rb A hO => by
      have := impl_MissingIn_any z x y wd ht now s b n n A (some ⟨rb, 0, none⟩) rn rn E bad W hO.1.ko (hO.1.small hS) hO.1.caps (Nat.le_refl _) (.inr ⟨rb, 0, rfl, hO.2.1, hO.2.2⟩) hn (Nat.le_refl _)
      rw [hO.1.viewC, hO.1.misA] at this
      exact this)
end Go.Proofs.YtbdhhclamgmfkaaGreat
