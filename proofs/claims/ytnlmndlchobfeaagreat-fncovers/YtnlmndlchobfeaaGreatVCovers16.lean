/- Drawn arguments of DoesCover: whatever they are, nothing that was there is written. -/
import Derived.Test.YtnlmndlchobfeaaGreatVCovers12
import Derived.Test.YtnlmndlchobfeaaGreatVCovers13
import Derived.Test.YtnlmndlchobfeaaGreatVCovers14
import Derived.Test.YtnlmndlchobfeaaGreatVCovers15
import Derived.Deep.DeepCutAuto
namespace Go.Proofs.YtnlmndlchobfeaaGreat
open Go.RowKit
set_option linter.unusedSimpArgs false
set_option linter.unusedVariables false
set_option maxRecDepth 100000

set_option maxHeartbeats 4000000 in
theorem l4DrawPixel_any (a : Option Addr) (n cap : Nat) (Z : Nat → Int) (s t : Nat) (z : Int) (w : World) (h : Src a n cap Z s t w) (hcap : n ≤ cap) (ht : t ≤ 800) :
    Calls Tryz.prog 19 #[.pointer (some ⟨s, 0, none⟩), .int .i64 z] w fun e w' => ∃ (x y : Int) (t' : Nat), e = .returned (.tuple #[.int .i64 x, .int .i64 y]) ∧ t' ≤ t + 3 ∧ Src a n cap Z s t' w' ∧ Keeps s w w' := by
  have HS : Hid (Src a n cap Z s t w) := h
  clear h
  cases hz : zoomB z
  · go_enter Tryz.func19, Tryz.ntmps19
    go_wp2_with fail
    refine (l3Zoom_any _ _).mono ?_
    rintro e w0 ⟨rfl, rfl⟩
    rw [hz]
    go_wp2_with fail
    refine (l1Chance_any a n cap Z s t 12 _ HS.out hcap (by omega) (by omega) (by omega)).mono ?_
    rintro e w1 ⟨c, rfl, hS1, hK1⟩
    have HS1 : Hid (Src a n cap Z s (t + 1) w1) := hS1
    have HK1 : Hid (Keeps s w w1) := hK1
    clear hS1 hK1
    cases c
    · go_wp2_with fail
      refine (l1Next_any a n cap Z s (t + 1) 8 _ HS1.out hcap (by omega) (by omega) (by omega)).mono ?_
      rintro e w2 ⟨v2, rfl, hv2, hS2, hK2⟩
      have HS2 : Hid (Src a n cap Z s (t + 1 + 1) w2) := hS2
      have HK2 : Hid (Keeps s w w2) := HK1.out.trans hK2
      clear hS2 hK2
      go_wp2_with fail
      refine (l1Next_any a n cap Z s (t + 1 + 1) 8 _ HS2.out hcap (by omega) (by omega) (by omega)).mono ?_
      rintro e w3 ⟨v3, rfl, hv3, hS3, hK3⟩
      have HS3 : Hid (Src a n cap Z s (t + 1 + 1 + 1) w3) := hS3
      have HK3 : Hid (Keeps s w w3) := HK2.out.trans hK3
      clear hS3 hK3
      go_wp2_with fail
      go_ret2
      exact ⟨_, _, t + 1 + 1 + 1, rfl, by omega, HS3.out, HK3.out⟩
    · go_wp2_with fail
      refine (l1Pick_new3 a n cap Z s (t + 1) _ _ _ _ _ HS1.out hcap (by omega)).mono ?_
      rintro e w2 ⟨x, rfl, hS2, hK2⟩
      have HS2 : Hid (Src a n cap Z s (t + 1 + 1) w2) := hS2
      have HK2 : Hid (Keeps s w w2) := HK1.out.trans hK2
      clear hS2 hK2
      go_wp2_with fail
      go_ret2
      exact ⟨_, _, t + 1 + 1, rfl, by omega, HS2.out, HK2.out⟩
  · obtain ⟨b1, b2⟩ := pixI_bd hz
    obtain ⟨k, hk⟩ : ∃ k : Nat, pixI z = (k : Int) := ⟨(pixI z).toNat, by omega⟩
    have Hc : Hid (∀ w, Calls Tryz.prog 23 #[.int .i64 z] w fun e w' => e = .returned (.int .i64 (k : Int)) ∧ w = w') := fun w => by rw [← hk]; exact l4Count_any z w hz
    rw [hk] at b1 b2
    clear hk
    go_enter Tryz.func19, Tryz.ntmps19
    go_wp2_with fail
    refine (l3Zoom_any _ _).mono ?_
    rintro e w0 ⟨rfl, rfl⟩
    rw [hz]
    go_wp2_with fail
    refine (Hc.out _).mono ?_
    rintro e w0 ⟨rfl, rfl⟩
    go_wp2_with fail
    refine (l1Chance_any a n cap Z s t 12 _ HS.out hcap (by omega) (by omega) (by omega)).mono ?_
    rintro e w1 ⟨c, rfl, hS1, hK1⟩
    have HS1 : Hid (Src a n cap Z s (t + 1) w1) := hS1
    have HK1 : Hid (Keeps s w w1) := hK1
    clear hS1 hK1
    cases c
    · go_wp2_with fail
      refine (l1Next_any a n cap Z s (t + 1) k _ HS1.out hcap (by omega) (by omega) (by omega)).mono ?_
      rintro e w2 ⟨v2, rfl, hv2, hS2, hK2⟩
      have HS2 : Hid (Src a n cap Z s (t + 1 + 1) w2) := hS2
      have HK2 : Hid (Keeps s w w2) := HK1.out.trans hK2
      clear hS2 hK2
      go_wp2_with fail
      refine (l1Next_any a n cap Z s (t + 1 + 1) k _ HS2.out hcap (by omega) (by omega) (by omega)).mono ?_
      rintro e w3 ⟨v3, rfl, hv3, hS3, hK3⟩
      have HS3 : Hid (Src a n cap Z s (t + 1 + 1 + 1) w3) := hS3
      have HK3 : Hid (Keeps s w w3) := HK2.out.trans hK3
      clear hS3 hK3
      go_wp2_with fail
      go_ret2
      exact ⟨_, _, t + 1 + 1 + 1, rfl, by omega, HS3.out, HK3.out⟩
    · go_wp2_with fail
      refine (l1Pick_new3 a n cap Z s (t + 1) _ _ _ _ _ HS1.out hcap (by omega)).mono ?_
      rintro e w2 ⟨x, rfl, hS2, hK2⟩
      have HS2 : Hid (Src a n cap Z s (t + 1 + 1) w2) := hS2
      have HK2 : Hid (Keeps s w w2) := HK1.out.trans hK2
      clear hS2 hK2
      go_wp2_with fail
      go_ret2
      exact ⟨_, _, t + 1 + 1, rfl, by omega, HS2.out, HK2.out⟩
theorem unit_lit11 {z : Int} (hz : zoomB z = true) : unitI z = 128 ∨ unitI z = 64 ∨ unitI z = 32 ∨ unitI z = 16 := by rcases zoomB_cases hz with rfl | rfl | rfl | rfl <;> simp [unitI]
theorem resDC (T : Array Value) (Wf : World) (r : Nat) (z x y : Int) (v0 v1 v2 v3 v4 v5 v6 : Value) (hT : T[2]?.getD undef = .pointer (some ⟨r, 0, none⟩)) (hz : T[3]?.getD undef = .int .i64 z) (hx : T[4]?.getD undef = .int .i64 x) (hy : T[5]?.getD undef = .int .i64 y) (h0 : Wf.cell? ⟨r, 0, none⟩ = some v0) (h1 : Wf.cell? ⟨r, 1, none⟩ = some v1) (h2 : Wf.cell? ⟨r, 2, none⟩ = some v2) (h3 : Wf.cell? ⟨r, 3, none⟩ = some v3) (h4 : Wf.cell? ⟨r, 4, none⟩ = some v4) (h5 : Wf.cell? ⟨r, 5, none⟩ = some v5) (h6 : Wf.cell? ⟨r, 6, none⟩ = some v6) :
    (results Tryz.f5 T).run Tryz.prog Wf = .ok (.tuple #[.agg #[v0, v1, v2, v3, v4, v5, v6], .int .i64 z, .int .i64 x, .int .i64 y]) Wf := by
  simp [results, Tryz.results5, go_sem, hT, hz, hx, hy, h0, h1, h2, h3, h4, h5, h6]
theorem PtsAt.keeps {s : Nat} {w w' : World} {b off n : Nat} {X Y : Nat → Int} (h : PtsAt w b off n X Y) (hk : Keeps s w w') (hb : b < w.heap.size) (hs : b ≠ s) : PtsAt w' b off n X Y := fun i hi =>
  ⟨(hk.cell (p := ⟨b, off + i * 2, none⟩) hb hs).trans (h i hi).1, (hk.cell (p := ⟨b, off + i * 2 + 1, none⟩) hb hs).trans (h i hi).2⟩
theorem FeatAt.keeps {s : Nat} {w w' : World} {p o : Nat} {id la ki wi pr : Int} {v : Value} {lab : ByteArray} (h : FeatAt w p o id la ki wi v lab pr) (hk : Keeps s w w') (hs : p ≠ s) : FeatAt w' p o id la ki wi v lab pr := by
  have hp : p < w.heap.size := World.block_lt_of_cell? _ _ h.1
  have c : ∀ (k : Nat) (u : Value), w.cell? ⟨p, k, none⟩ = some u → w'.cell? ⟨p, k, none⟩ = some u := fun k u e => (hk.cell (p := ⟨p, k, none⟩) hp hs).trans e
  obtain ⟨h0, h1, h2, h3, h4, h5, h6⟩ := h
  exact ⟨c _ _ h0, c _ _ h1, c _ _ h2, c _ _ h3, c _ _ h4, c _ _ h5, c _ _ h6⟩
set_option maxHeartbeats 8000000 in
theorem DrawDoesCover_any (a : Option Addr) (n cap : Nat) (Z : Nat → Int) (w : World) (h : IsBytes w a n Z) (hrng : ∀ i, 0 ≤ Z i ∧ Z i ≤ 255) (hn : n ≤ 1048576) (hcap : n ≤ cap) :
    Calls Tryz.prog 5 #[.slice a n cap] w fun e w' => ∃ (V : Value) (id la ki wi : Int) (b off m c : Nat) (X Y : Nat → Int) (lab : ByteArray) (pr z x y : Int), e = .returned (.tuple #[V, .int .i64 z, .int .i64 x, .int .i64 y]) ∧ FeatV w w' V id la ki wi b off m c X Y lab pr ∧ Below w.heap.size w w' := by
  have HI : Hid (IsBytes w a n Z) := h
  have HR : Hid (∀ i, 0 ≤ Z i ∧ Z i ≤ 255) := hrng
  clear h hrng
  go_enter Tryz.func5, Tryz.ntmps5
  go_wp2_with fail
  generalize hW : (w.alloc _ : World) = W
  have hB0 : Below w.heap.size w W := by subst hW; (repeat (first | exact Below.refl _ _ | assumption | refine Below.drew ?_ | refine bl_alloc ?_ _ | refine bl_then ?_ (by assumption) | refine Below.setCell ?_ (by first | omega | (simp; done) | (simp; omega)) _ | refine bl_store ?_ ?_ _ _))
  have hlt : w.heap.size < W.heap.size := by subst hW; simp
  have HT : Hid (There W w.heap.size 7) := by
    show There _ _ _
    subst hW
    exact there7 w (.int .i64 0) (.int .i64 0) (.int .i64 0) (.int .i64 0) (.slice none 0 0) (.string ⟨#[]⟩) (.int .i64 0) 26
  clear hW
  have HB0 : Hid (Below w.heap.size w W) := hB0
  have HI1 : Hid (IsBytes W a n Z) := HI.out.below hB0
  clear hB0 HI
  refine (l1Source_ex _ _ _ _).mono ?_
  rintro e w1 ⟨rfl, hw1⟩
  have hS1 : Src a n cap Z W.heap.size 0 w1 := by rw [← hw1]; exact src_start a n cap Z W HI1.out HR.out hn
  have hb1 : Below W.heap.size W w1 := by rw [← hw1]; unfold srcW; (repeat (first | exact Below.refl _ _ | assumption | refine Below.drew ?_ | refine bl_alloc ?_ _ | refine bl_then ?_ (by assumption) | refine Below.setCell ?_ (by first | omega | (simp; done) | (simp; omega)) _ | refine bl_store ?_ ?_ _ _))
  have hsz1 : W.heap.size < w1.heap.size := World.block_lt_of_cell? _ _ hS1.code
  have HS1 : Hid (Src a n cap Z W.heap.size 0 w1) := hS1
  have HK1 : Hid (Keeps W.heap.size W w1) := Keeps.of_below hb1
  clear hw1 hS1 hb1 HI1
  go_wp2_with fail
  refine (l2Bent_any a n cap Z _ 0 _ HS1.out hcap (by omega)).mono ?_
  rintro e w2 ⟨id, la, ki, wi, b, off, m, c, X, Y, lab, pr, t2, rfl, hm6, hmc, hgb, hbl, hP, hlab, ht2, hS2, hK2⟩
  have HS2 : Hid (Src a n cap Z W.heap.size t2 w2) := hS2
  have HK2 : Hid (Keeps W.heap.size W w2) := HK1.out.trans hK2
  have HP2 : Hid (PtsAt w2 b off m X Y) := hP
  have hsz2 := hK2.size
  clear hS2 hK2 HS1 HK1 hP
  go_wp2_with fail
  generalize hV : (w2.alloc _ : World) = V
  have hbV : Below w2.heap.size w2 V := by subst hV; (repeat (first | exact Below.refl _ _ | assumption | refine Below.drew ?_ | refine bl_alloc ?_ _ | refine bl_then ?_ (by assumption) | refine Below.setCell ?_ (by first | omega | (simp; done) | (simp; omega)) _ | refine bl_store ?_ ?_ _ _))
  have hFV : FeatAt V w2.heap.size 0 id la ki wi (.slice (some ⟨b, off, none⟩) m c) lab pr := by
    subst hV
    refine ⟨?_, ?_, ?_, ?_, ?_, ?_, ?_⟩ <;> simp [go_sem]
  clear hV
  have HKV : Hid (Keeps W.heap.size W V) := HK2.out.trans (Keeps.of_below hbV)
  refine (l3Draw_any a n cap Z _ t2 _ (HS2.out.below hbV) hcap (by omega)).mono ?_
  rintro e w3 ⟨z, rfl, hS3, hK3⟩
  have HF3 : Hid (FeatAt w3 w2.heap.size 0 id la ki wi (.slice (some ⟨b, off, none⟩) m c) lab pr) := hFV.keeps hK3 (by omega)
  have HP3 : Hid (PtsAt w3 b off m X Y) := (HP2.out.below hbV hbl).keeps hK3 (Nat.lt_of_lt_of_le hbl hbV.size) (by omega)
  have HS3 : Hid (Src a n cap Z W.heap.size (t2 + 1) w3) := hS3
  have HK3 : Hid (Keeps W.heap.size W w3) := HKV.out.trans hK3
  have hsz3 : w2.heap.size ≤ w3.heap.size := Nat.le_trans hbV.size hK3.size
  clear hS3 hK3 hFV hbV HKV HP2 HS2 HK2
  go_wp2_with fail
  refine (l4DrawPixel_any a n cap Z _ (t2 + 1) z _ HS3.out hcap (by omega)).mono ?_
  rintro e w4 ⟨x, y, t4, rfl, ht4, hS4, hK4⟩
  have HFw4 : Hid (FeatAt w4 w2.heap.size 0 id la ki wi (.slice (some ⟨b, off, none⟩) m c) lab pr) := HF3.out.keeps hK4 (by omega)
  have HPw4 : Hid (PtsAt w4 b off m X Y) := HP3.out.keeps hK4 (by omega) (by omega)
  have HS4 : Hid (Src a n cap Z W.heap.size t4 w4) := hS4
  have HKw4 : Hid (Keeps W.heap.size W w4) := HK3.out.trans hK4
  have HTw4 : Hid (There w4 w.heap.size 7) := HT.out.keeps HKw4.out (by omega)
  have hsz4 := hK4.size
  clear hS4 hK4 HF3 HP3 HS3 HK3
  by_cases hm0 : 0 < m
  · have hmi : (0 : Int) < (m : Int) := by omega
    cases hz : zoomB z
    · skip
      have hT' := HTw4.out
      have t0 := hT'.cell 0 (by omega)
      have z0 := (hT' 0 (by omega)).2
      have t1 := hT'.cell 1 (by omega)
      have z1 := (hT' 1 (by omega)).2
      have t2 := hT'.cell 2 (by omega)
      have z2 := (hT' 2 (by omega)).2
      have t3 := hT'.cell 3 (by omega)
      have z3 := (hT' 3 (by omega)).2
      have t4 := hT'.cell 4 (by omega)
      have z4 := (hT' 4 (by omega)).2
      have t5 := hT'.cell 5 (by omega)
      have z5 := (hT' 5 (by omega)).2
      have t6 := hT'.cell 6 (by omega)
      have z6 := (hT' 6 (by omega)).2
      obtain ⟨q0, q1, q2, q3, q4, q5, q6⟩ := HFw4.out
      simp only [Nat.zero_add] at q0 q1 q2 q3 q4 q5 q6
      have hlf : w2.heap.size < w4.heap.size := World.block_lt_of_cell? _ _ q0
      have hne1 : ¬ w2.heap.size = w.heap.size := by omega
      have hne2 : ¬ w.heap.size = w2.heap.size := by omega
      clear hT'
      go_wp2_with (go_at_call 20; refine (l3Zoom_any _ _).mono ?_; rintro e w0 ⟨rfl, rfl⟩)
      obtain ⟨y0, y1, y2, y3, y4, y5, y6⟩ := set7_at (v0 := .int .i64 id) (v1 := .int .i64 la) (v2 := .int .i64 ki) (v3 := .int .i64 wi) (v4 := .slice (some ⟨b, off, none⟩) m c) (v5 := .string lab) (v6 := .int .i64 pr) HTw4.out
      refine bodyPost_ret (resDC _ _ w.heap.size z x y _ _ _ _ _ _ _ rfl rfl rfl rfl y0 y1 y2 y3 y4 y5 y6) rfl ⟨_, id, la, ki, wi, b, off, m, c, X, Y, lab, pr, z, x, y, rfl, ⟨rfl, hm6, hmc, by omega, by simp [World.setCell]; omega, HPw4.out.set7 (by omega), hlab⟩, ?_⟩
      exact below7 (HB0.out.trans (HKw4.out.below (by omega) (by omega))) (Nat.le_refl _)
    · obtain ⟨q0, q1, q2, q3, q4, q5, q6⟩ := HFw4.out
      simp only [Nat.zero_add] at q0 q1 q2 q3 q4 q5 q6
      go_wp2_with (go_at_call 20; refine (l3Zoom_any _ _).mono ?_; rintro e w0 ⟨rfl, rfl⟩)
      refine (l1Chance_any a n cap Z _ t4 2 _ HS4.out hcap (by omega) (by omega) (by omega)).mono ?_
      rintro e w5 ⟨ch, rfl, hS5, hK5⟩
      have HFw5 : Hid (FeatAt w5 w2.heap.size 0 id la ki wi (.slice (some ⟨b, off, none⟩) m c) lab pr) := HFw4.out.keeps hK5 (by omega)
      have HPw5 : Hid (PtsAt w5 b off m X Y) := HPw4.out.keeps hK5 (by omega) (by omega)
      have HKw5 : Hid (Keeps W.heap.size W w5) := HKw4.out.trans hK5
      have HTw5 : Hid (There w5 w.heap.size 7) := HT.out.keeps HKw5.out (by omega)
      have hsz5 := hK5.size
      clear hS5 hK5 q0 q1 q2 q3 q4 q5 q6 HFw4 HPw4 HTw4 HKw4 HS4
      cases ch
      · skip
        have hT' := HTw5.out
        have t0 := hT'.cell 0 (by omega)
        have z0 := (hT' 0 (by omega)).2
        have t1 := hT'.cell 1 (by omega)
        have z1 := (hT' 1 (by omega)).2
        have t2 := hT'.cell 2 (by omega)
        have z2 := (hT' 2 (by omega)).2
        have t3 := hT'.cell 3 (by omega)
        have z3 := (hT' 3 (by omega)).2
        have t4 := hT'.cell 4 (by omega)
        have z4 := (hT' 4 (by omega)).2
        have t5 := hT'.cell 5 (by omega)
        have z5 := (hT' 5 (by omega)).2
        have t6 := hT'.cell 6 (by omega)
        have z6 := (hT' 6 (by omega)).2
        obtain ⟨q0, q1, q2, q3, q4, q5, q6⟩ := HFw5.out
        simp only [Nat.zero_add] at q0 q1 q2 q3 q4 q5 q6
        have hlf : w2.heap.size < w5.heap.size := World.block_lt_of_cell? _ _ q0
        have hne1 : ¬ w2.heap.size = w.heap.size := by omega
        have hne2 : ¬ w.heap.size = w2.heap.size := by omega
        clear hT'
        go_wp2_with fail
        obtain ⟨y0, y1, y2, y3, y4, y5, y6⟩ := set7_at (v0 := .int .i64 id) (v1 := .int .i64 la) (v2 := .int .i64 ki) (v3 := .int .i64 wi) (v4 := .slice (some ⟨b, off, none⟩) m c) (v5 := .string lab) (v6 := .int .i64 pr) HTw5.out
        refine bodyPost_ret (resDC _ _ w.heap.size z x y _ _ _ _ _ _ _ rfl rfl rfl rfl y0 y1 y2 y3 y4 y5 y6) rfl ⟨_, id, la, ki, wi, b, off, m, c, X, Y, lab, pr, z, x, y, rfl, ⟨rfl, hm6, hmc, by omega, by simp [World.setCell]; omega, HPw5.out.set7 (by omega), hlab⟩, ?_⟩
        exact below7 (HB0.out.trans (HKw5.out.below (by omega) (by omega))) (Nat.le_refl _)
      · have Hc : Hid (∀ w, Calls Tryz.prog 23 #[.int .i64 z] w fun e w' => e = .returned (.int .i64 (pixI z)) ∧ w = w') := fun w => l4Count_any z w hz
        have Hu : Hid (∀ w, Calls Tryz.prog 24 #[.int .i64 z] w fun e w' => e = .returned (.int .i64 (unitI z)) ∧ w = w') := fun w => l3Unit_any z w hz
        have hul := unit_lit11 hz
        obtain ⟨pb1, pb2⟩ := pixI_bd hz
        have hwp : IntKind.i64.wrap (pixI z - 1) = pixI z - 1 := IntWalk.i64_in _ (by omega)
        generalize pixI z = pz at *
        generalize unitI z = uz at *
        have r4 : ∀ W', Below w5.heap.size w5 W' → W'.cell? ⟨w2.heap.size, 4, none⟩ = some (.slice (some ⟨b, off, none⟩) m c) := fun W' h => bl_cell h (by have := HFw5.out.2.2.2.2.1; simpa using this)
        have rx : ∀ W', Below w5.heap.size w5 W' → W'.cell? ⟨b, off, none⟩ = some (.int .i64 (X 0)) := fun W' h => by have := (HPw5.out.below h (by omega) 0 hm0).1; simpa using this
        have ry : ∀ W', Below w5.heap.size w5 W' → W'.cell? ⟨b, off + 1, none⟩ = some (.int .i64 (Y 0)) := fun W' h => by have := (HPw5.out.below h (by omega) 0 hm0).2; simpa using this
        have hr0 : Below w5.heap.size w5 w5 := Below.refl _ _
        have hu0 : (uz == 0) = false := by rcases hul with h | h | h | h <;> simp [h]
        have hu1 : ¬ uz = 0 := by omega
        have hu2 : (uz == -1) = false := by rcases hul with h | h | h | h <;> simp [h]
        have hu3 : ¬ uz = -1 := by omega
        go_wp2_with fail
        go_region_held3 (fun W' => Below w5.heap.size w5 W') ((repeat (first | exact Below.refl _ _ | assumption | refine Below.drew ?_ | refine bl_alloc ?_ _ | refine bl_then ?_ (by assumption) | refine Below.setCell ?_ (by first | omega | (simp; done) | (simp; omega)) _ | refine bl_store ?_ ?_ _ _)))
          (first
            | (go_at_call 23; refine (Hc.out _).mono ?_; rintro e w' ⟨rfl, rfl⟩)
            | (go_at_call 24; refine (Hu.out _).mono ?_; rintro e w' ⟨rfl, rfl⟩)
            | (go_at_call 22; refine (l1Min_any _ _ _).mono ?_; rintro e w' ⟨rfl, hw'⟩; subst hw'))
        generalize mnI (pz - 1) (IntKind.i64.wrap ((X 0).tdiv uz)) = x5
        go_wp2_with fail
        go_region_held3 (fun W' => Below w5.heap.size w5 W') ((repeat (first | exact Below.refl _ _ | assumption | refine Below.drew ?_ | refine bl_alloc ?_ _ | refine bl_then ?_ (by assumption) | refine Below.setCell ?_ (by first | omega | (simp; done) | (simp; omega)) _ | refine bl_store ?_ ?_ _ _)))
          (first
            | (go_at_call 23; refine (Hc.out _).mono ?_; rintro e w' ⟨rfl, rfl⟩)
            | (go_at_call 24; refine (Hu.out _).mono ?_; rintro e w' ⟨rfl, rfl⟩)
            | (go_at_call 22; refine (l1Min_any _ _ _).mono ?_; rintro e w' ⟨rfl, hw'⟩; subst hw'))
        generalize mnI (pz - 1) (IntKind.i64.wrap ((Y 0).tdiv uz)) = y5
        clear Hc Hu hul hu0 hu1 hu2 hu3 hwp pb1 pb2
        have HTw6 : Hid (There w5.drew.drew w.heap.size 7) := HTw5.out
        have HFw6 : Hid (FeatAt w5.drew.drew w2.heap.size 0 id la ki wi (.slice (some ⟨b, off, none⟩) m c) lab pr) := HFw5.out
        have HPw6 : Hid (PtsAt w5.drew.drew b off m X Y) := HPw5.out
        have HKw6 : Hid (Keeps W.heap.size W w5.drew.drew) := HKw5.out.drew.drew
        have hb6 : b < w5.drew.drew.heap.size := by show b < w5.heap.size; omega
        have hw6 : w2.heap.size ≤ w5.drew.drew.heap.size := by show w2.heap.size ≤ w5.heap.size; omega
        clear r4 rx ry hr0 HTw5 HFw5 HPw5 HKw5
        generalize w5.drew.drew = w6 at *
        have hT' := HTw6.out
        have t0 := hT'.cell 0 (by omega)
        have z0 := (hT' 0 (by omega)).2
        have t1 := hT'.cell 1 (by omega)
        have z1 := (hT' 1 (by omega)).2
        have t2 := hT'.cell 2 (by omega)
        have z2 := (hT' 2 (by omega)).2
        have t3 := hT'.cell 3 (by omega)
        have z3 := (hT' 3 (by omega)).2
        have t4 := hT'.cell 4 (by omega)
        have z4 := (hT' 4 (by omega)).2
        have t5 := hT'.cell 5 (by omega)
        have z5 := (hT' 5 (by omega)).2
        have t6 := hT'.cell 6 (by omega)
        have z6 := (hT' 6 (by omega)).2
        obtain ⟨q0, q1, q2, q3, q4, q5, q6⟩ := HFw6.out
        simp only [Nat.zero_add] at q0 q1 q2 q3 q4 q5 q6
        have hlf : w2.heap.size < w6.heap.size := World.block_lt_of_cell? _ _ q0
        have hne1 : ¬ w2.heap.size = w.heap.size := by omega
        have hne2 : ¬ w.heap.size = w2.heap.size := by omega
        clear hT'
        go_wp2_with fail
        obtain ⟨y0, y1, y2, y3, y4, y5', y6⟩ := set7_at (v0 := .int .i64 id) (v1 := .int .i64 la) (v2 := .int .i64 ki) (v3 := .int .i64 wi) (v4 := .slice (some ⟨b, off, none⟩) m c) (v5 := .string lab) (v6 := .int .i64 pr) HTw6.out
        refine bodyPost_ret (resDC _ _ w.heap.size z x5 y5 _ _ _ _ _ _ _ rfl rfl rfl rfl y0 y1 y2 y3 y4 y5' y6) rfl ⟨_, id, la, ki, wi, b, off, m, c, X, Y, lab, pr, z, x5, y5, rfl, ⟨rfl, hm6, hmc, by omega, by simp [World.setCell]; omega, HPw6.out.set7 (by omega), hlab⟩, ?_⟩
        exact below7 (HB0.out.trans (HKw6.out.below (by omega) (by omega))) (Nat.le_refl _)
  · have hmi : ¬ (0 : Int) < (m : Int) := by omega
    have hT' := HTw4.out
    have t0 := hT'.cell 0 (by omega)
    have z0 := (hT' 0 (by omega)).2
    have t1 := hT'.cell 1 (by omega)
    have z1 := (hT' 1 (by omega)).2
    have t2 := hT'.cell 2 (by omega)
    have z2 := (hT' 2 (by omega)).2
    have t3 := hT'.cell 3 (by omega)
    have z3 := (hT' 3 (by omega)).2
    have t4 := hT'.cell 4 (by omega)
    have z4 := (hT' 4 (by omega)).2
    have t5 := hT'.cell 5 (by omega)
    have z5 := (hT' 5 (by omega)).2
    have t6 := hT'.cell 6 (by omega)
    have z6 := (hT' 6 (by omega)).2
    obtain ⟨q0, q1, q2, q3, q4, q5, q6⟩ := HFw4.out
    simp only [Nat.zero_add] at q0 q1 q2 q3 q4 q5 q6
    have hlf : w2.heap.size < w4.heap.size := World.block_lt_of_cell? _ _ q0
    have hne1 : ¬ w2.heap.size = w.heap.size := by omega
    have hne2 : ¬ w.heap.size = w2.heap.size := by omega
    clear hT'
    go_wp2_with fail
    obtain ⟨y0, y1, y2, y3, y4, y5, y6⟩ := set7_at (v0 := .int .i64 id) (v1 := .int .i64 la) (v2 := .int .i64 ki) (v3 := .int .i64 wi) (v4 := .slice (some ⟨b, off, none⟩) m c) (v5 := .string lab) (v6 := .int .i64 pr) HTw4.out
    refine bodyPost_ret (resDC _ _ w.heap.size z x y _ _ _ _ _ _ _ rfl rfl rfl rfl y0 y1 y2 y3 y4 y5 y6) rfl ⟨_, id, la, ki, wi, b, off, m, c, X, Y, lab, pr, z, x, y, rfl, ⟨rfl, hm6, hmc, by omega, by simp [World.setCell]; omega, HPw4.out.set7 (by omega), hlab⟩, ?_⟩
    exact below7 (HB0.out.trans (HKw4.out.below (by omega) (by omega))) (Nat.le_refl _)
end Go.Proofs.YtnlmndlchobfeaaGreat
