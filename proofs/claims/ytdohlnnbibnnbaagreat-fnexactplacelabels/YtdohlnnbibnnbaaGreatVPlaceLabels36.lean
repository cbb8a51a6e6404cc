/- The model's way to a feature with fewer points, and SimpleAt of the model. -/
import Derived.Test.YtdohlnnbibnnbaaGreatVPlaceLabels30
import Derived.Test.YtdohlnnbibnnbaaGreatVPlaceLabels13
import Derived.Test.YtdohlnnbibnnbaaGreatVPlaceLabels35
import Derived.Test.YtdohlnnbibnnbaaGreatVPlaceLabels23
import Derived.Deep.DeepCutAuto
namespace Go.Proofs.YtdohlnnbibnnbaaGreat
open Go.RowKit
set_option linter.unusedSimpArgs false
set_option linter.unusedVariables false

theorem resS (T : Array Value) (Wf : World) (r : Nat) (v0 v1 v2 v3 v4 v5 v6 : Value) (hT : T[4]?.getD undef = .pointer (some ⟨r, 0, none⟩)) (h0 : Wf.cell? ⟨r, 0, none⟩ = some v0) (h1 : Wf.cell? ⟨r, 1, none⟩ = some v1) (h2 : Wf.cell? ⟨r, 2, none⟩ = some v2) (h3 : Wf.cell? ⟨r, 3, none⟩ = some v3) (h4 : Wf.cell? ⟨r, 4, none⟩ = some v4) (h5 : Wf.cell? ⟨r, 5, none⟩ = some v5) (h6 : Wf.cell? ⟨r, 6, none⟩ = some v6) :
    (results Tryz.f80 T).run Tryz.prog Wf = .ok (.agg #[v0, v1, v2, v3, v4, v5, v6]) Wf := by
  simp [results, Tryz.results80, go_sem, hT, h0, h1, h2, h3, h4, h5, h6]


/-- Block O holds the feature under way, with the points l. -/
def Mid (w : World) (base O : Nat) (id la ki wi : Int) (lab : ByteArray) (pr : Int) (wc : World) (l : List (Int × Int)) : Prop := ∃ v, Row base wc v l ∧ OutAt wc O id la ki wi v lab pr ∧ Below w.heap.size w wc ∧ There wc w.heap.size 7
theorem Mid.put {w w3 : World} {base O : Nat} {id la ki wi pr : Int} {lab : ByteArray} {v v3 : Value} {l : List (Int × Int)} (hO : w.heap.size < O) (hR : Row base w3 v3 l) (ho : OutAt w3 O id la ki wi v lab pr) (hB : Below w.heap.size w w3) (hT : There w3 w.heap.size 7) : Mid w base O id la ki wi lab pr (w3.setCell ⟨O, 4, none⟩ v3) l :=
  ⟨v3, hR.out ho, ho.set, hB.setCell (by show w.heap.size ≤ O; omega) _, There.out hT (by omega)⟩

set_option maxRecDepth 8000 in
set_option maxHeartbeats 8000000 in
theorem l3Simple_any {off o : Nat} (q : Nat) (id la ki wi z : Int) (b n cap : Nat) (X Y : Nat → Int) (lab : ByteArray) (pr : Int) (L : List Nat) (w : World) (hf : FeatAt w q o id la ki wi (.slice (some ⟨b, off, none⟩) n cap) lab pr) (hp : PtsAt w b off n X Y) (hbl : b < w.heap.size)
    (hz : zoomB z = true) (hk3 : ki = 1 ∨ ki = 2 ∨ ki = 3) (hn0 : 0 < n) (hn12 : n ≤ 12) (hin : ∀ i, i < n → inW (X i) (Y i) = true)
    (hL : 3 ≤ (snapL X Y z n).length → Thin (px (snapL X Y z n)) (py (snapL X Y z n)) (gridI z) 0 ((snapL X Y z n).length - 1) L) :
    Calls Tryz.prog 80 #[.pointer (some ⟨q, o, none⟩), .int .i64 z] w fun e w' => ∃ v, e = .returned (.agg #[.int .i64 id, .int .i64 la, .int .i64 ki, .int .i64 wi, v, .string lab, .int .i64 pr]) ∧ Row w.heap.size w' v (fillL ki.toNat (simpT ki z n X Y L)) ∧ Below w.heap.size w w' := by
  obtain ⟨i0, hi, hz0, hz1, hz2⟩ := info_parts (show (Tryz.prog.info? 111).map (fun i => (i.zero, i.size, i.bytes)) = some (some (.agg #[.int .i64 0, .int .i64 0]), 2, 16) by kernel_rfl)
  have HF : Hid (FeatAt w q o id la ki wi (.slice (some ⟨b, off, none⟩) n cap) lab pr) := hf
  have HP : Hid (PtsAt w b off n X Y) := hp
  have HL := (show Hid _ from hL)
  have HIN : Hid (∀ i, i < n → inW (X i) (Y i) = true) := hin
  have hql : q < w.heap.size := World.block_lt_of_cell? _ _ hf.1
  obtain ⟨q0, q1, q2, q3, q4, q5, q6⟩ := hf
  clear hp hL hin
  go_enter Tryz.func80, Tryz.ntmps80
  go_wp2_with fail
  generalize hW : (w.alloc _ : World) = W
  have hB0 : Below w.heap.size w W := by subst hW; (repeat (first | exact Below.refl _ _ | assumption | refine Below.drew ?_ | refine bl_alloc ?_ _ | refine bl_then ?_ (by assumption) | refine Below.setCell ?_ (by first | omega | (simp; done) | (simp; omega)) _ | refine bl_store ?_ ?_ _ _))
  have HT0 : Hid (There W w.heap.size 7) := by
    show There _ _ _
    subst hW
    exact there7 w (.int .i64 0) (.int .i64 0) (.int .i64 0) (.int .i64 0) (.slice none 0 0) (.string ⟨#[]⟩) (.int .i64 0) 36
  have hsW : w.heap.size < W.heap.size := by subst hW; simp
  have HB0 : Hid (Below w.heap.size w W) := hB0
  clear hW hB0 q0 q1 q2 q3 q4 q5 q6
  refine (l2CopyOne_any id la ki wi b n cap X Y lab pr W (HP.out.below HB0.out hbl) (Nat.lt_of_lt_of_le hbl HB0.out.size) (by omega)).mono ?_
  rintro e w1 ⟨a1, m1, c1, rfl, hb1⟩
  have HB1 : Hid (Below w.heap.size w w1) := bl_then HB0.out hb1
  have HT1 : Hid (There w1 w.heap.size 7) := HT0.out.below hb1
  have hs1 := hb1.size
  obtain ⟨q0, q1, q2, q3, q4, q5, q6⟩ := HF.out.below HB1.out hql
  have hql1 : q < w1.heap.size := by omega
  clear hb1
  go_wp2_with fail
  generalize hV : (w1.alloc _ : World) = V
  have hbV : Below w1.heap.size w1 V := by subst hV; (repeat (first | exact Below.refl _ _ | assumption | refine Below.drew ?_ | refine bl_alloc ?_ _ | refine bl_then ?_ (by assumption) | refine Below.setCell ?_ (by first | omega | (simp; done) | (simp; omega)) _ | refine bl_store ?_ ?_ _ _))
  have HOV : Hid (OutAt V w1.heap.size id la ki wi (.slice a1 m1 c1) lab pr) := by
    show OutAt _ _ _ _ _ _ _ _ _
    subst hV
    exact heap_alloc_new w1 _
  have HBV : Hid (Below w.heap.size w V) := bl_then HB1.out hbV
  have HTV : Hid (There V w.heap.size 7) := HT1.out.below hbV
  have hsV : w1.heap.size < V.heap.size := by subst hV; simp
  clear hV hbV q0 q1 q2 q3 q4 q5 q6
  refine (l3Snap_any b off n cap X Y z V (HP.out.below HBV.out hbl) (Nat.lt_of_lt_of_le hbl HBV.out.size) hn12 hz HIN.out).mono ?_
  rintro e w2 ⟨v2, rfl, hR2, hb2⟩
  have hO2 : OutAt w2 w1.heap.size id la ki wi (.slice a1 m1 c1) lab pr := HOV.out.below hb2
  obtain ⟨⟨_, _, _, _, o4, _, _⟩, of4⟩ := hO2.cells
  have hS0 := snapL_pos X Y z n hn0
  have hSl := snapL_len X Y z n
  obtain ⟨g, cg, _, _, hv2, _, hg2, hcg, _, _, _⟩ := hR2.last hS0
  obtain ⟨N, hN⟩ : ∃ N, N = (snapL X Y z n).length := ⟨_, rfl⟩
  have HN : Hid (N = (snapL X Y z n).length) := hN
  rw [← hN] at hv2 hS0 hSl hcg
  have hRW : Row V.heap.size (w2.setCell ⟨w1.heap.size, 4, none⟩ v2) v2 (snapL X Y z n) := hR2.out hO2
  have hOW : OutAt (w2.setCell ⟨w1.heap.size, 4, none⟩ v2) w1.heap.size id la ki wi v2 lab pr := hO2.set
  have hBW : Below w.heap.size w (w2.setCell ⟨w1.heap.size, 4, none⟩ v2) := (bl_then HBV.out hb2).setCell (by show w.heap.size ≤ w1.heap.size; omega) _
  have hTW : There (w2.setCell ⟨w1.heap.size, 4, none⟩ v2) w.heap.size 7 := There.out (HTV.out.below hb2) (by omega)
  have hsz2 : w2.heap.size = (w2.setCell ⟨w1.heap.size, 4, none⟩ v2).heap.size := by simp [World.setCell]
  have hs2 := hb2.size
  obtain ⟨W2, hW2⟩ : ∃ W2, W2 = w2.setCell ⟨w1.heap.size, 4, none⟩ v2 := ⟨_, rfl⟩
  rw [← hW2] at hRW hOW hBW hTW hsz2
  have HR : Hid (Row V.heap.size W2 v2 (snapL X Y z n)) := hRW
  have HO : Hid (OutAt W2 w1.heap.size id la ki wi v2 lab pr) := hOW
  have HB : Hid (Below w.heap.size w W2) := hBW
  have HT : Hid (There W2 w.heap.size 7) := hTW
  have HW2 : Hid (W2 = w2.setCell ⟨w1.heap.size, 4, none⟩ v2) := hW2
  have HB2 : Hid (Below w.heap.size w w2) := bl_then HBV.out hb2
  have q2 : w2.cell? ⟨q, o + 2, none⟩ = some (.int .i64 ki) := by have := (HF.out.below HB2.out hql).2.2.1; simpa using this
  clear hR2 hb2 hRW hOW hBW hTW hW2 hN hO2
  subst hv2
  go_upto_if 24 with fail
  rw [← HW2.out]
  obtain ⟨⟨w20, w21, w22, w23, w24, w25, w26⟩, wf4⟩ := HO.out.cells
  have hsz3 : w2.heap.size = W2.heap.size := hsz2
  clear o4 of4 q2
  go_cut [] (fun wc => Mid w V.heap.size w1.heap.size id la ki wi lab pr wc (if ki = 2 then ptsOf (px (snapL X Y z n)) (py (snapL X Y z n)) (thinP (snapL X Y z n).length L) else snapL X Y z n))
  case first =>
    by_cases hk2 : ki = 2
    · subst hk2
      have hPg : PtsAt W2 g 0 N (px (snapL X Y z n)) (py (snapL X Y z n)) ∧ g < W2.heap.size := by
        obtain ⟨a', cap', hv', _, h0 | ⟨b', rfl, _, hl', hp', _⟩⟩ := HR.out.own
        · have := HN.out; omega
        · injection hv' with e1 e2 e3
          injection e1 with e1
          injection e1 with e1
          subst e1
          rw [HN.out]
          exact ⟨hp', hl'⟩
      obtain ⟨gb1, gb2⟩ := grid_bd hz
      have HOK : Hid (∀ i, i < (snapL X Y z n).length → okP (px (snapL X Y z n) i) (py (snapL X Y z n) i) = true) := snapL_ok X Y z hz n HIN.out
      have r24 : ∀ W', Below W2.heap.size W2 W' → W'.cell? ⟨w1.heap.size, 4, none⟩ = some (.slice (some ⟨g, 0, none⟩) N cg) := fun W' h => bl_cell h w24
      clear w20 w21 w22 w23 w24 w25 w26 wf4
      go_wp2_with fail
      refine wp_region_noPanic ?_
      refine wp_region_L (S := fun W' => Below W2.heap.size W2 W') (z := 6) (by kernel_rfl) ?_
      have hSt : Below W2.heap.size W2 W2.drew := (Below.refl _ _).drew
      refine wpAnyL_take (i := 0) (v := ?v0) rfl (by kernel_rfl) (by kernel_rfl) (by kernel_rfl) (by kernel_rfl) (fun _ _ _ h => h) (Or.inl ⟨by rfl, ?hy0⟩) (by assumption) ?_
      case hy0 => (intro w hSw; (try dsimp only at hSw); go_simp <;> with_reducible rfl)
      try simp only [Act.put, List.setIfInBounds_toArray, List.set_cons_zero, List.set_cons_succ]
      refine wpAnyL_take (i := 1) (v := ?v1) rfl (by kernel_rfl) (by kernel_rfl) (by kernel_rfl) (by kernel_rfl) (fun _ _ _ h => h) (Or.inl ⟨by rfl, ?hy1⟩) (by assumption) ?_
      case hy1 => (intro w hSw; (try dsimp only at hSw); go_simp <;> with_reducible rfl)
      try simp only [Act.put, List.setIfInBounds_toArray, List.set_cons_zero, List.set_cons_succ]
      refine wpAnyL_take (i := 2) (v := ?v2) rfl (by kernel_rfl) (by kernel_rfl) (by kernel_rfl) (by kernel_rfl) (fun _ _ _ h => h) (Or.inl ⟨by rfl, ?hy2⟩) (by assumption) ?_
      case hy2 => (intro w hSw; (try dsimp only at hSw); go_simp <;> with_reducible rfl)
      try simp only [Act.put, List.setIfInBounds_toArray, List.set_cons_zero, List.set_cons_succ]
      refine wpAnyL_one (i := 3) (by kernel_rfl) rfl (fun K hK => ?_)
      go_simp
      refine (l3Grid_any _ _ hz).mono ?_
      rintro e w' ⟨rfl, rfl⟩
      go_wp2_with fail
      refine hK.out _ _ (fun _ => by assumption) ?_
      clear hK K
      try simp only [Act.put, List.setIfInBounds_toArray, List.set_cons_zero, List.set_cons_succ]
      refine wpAnyL_one (i := 4) (by kernel_rfl) rfl (fun K hK => ?_)
      go_simp
      refine (l3Line_any g N cg (px (snapL X Y z n)) (py (snapL X Y z n)) (gridI z) L _ (hPg.1.below hSt hPg.2) (Nat.lt_of_lt_of_le hPg.2 hSt.size) (by omega) (by rw [HN.out]; exact HOK.out) (by omega) (by omega) (by rw [HN.out]; exact HL.out)).mono ?_
      rintro e w3 ⟨v3, rfl, hR3, hb3⟩
      obtain ⟨a3, c3, hv3, _, _⟩ := hR3.own
      subst hv3
      go_wp2_with fail
      refine hK.out _ _ (fun _ => bl_then hSt hb3) ?_
      clear hK K
      try simp only [Act.put, List.setIfInBounds_toArray, List.set_cons_zero, List.set_cons_succ]
      have hS3 : Below W2.heap.size W2 w3 := bl_then hSt hb3
      have hO3 : OutAt w3 w1.heap.size id la 2 wi (.slice (some ⟨g, 0, none⟩) N cg) lab pr := HO.out.below hS3
      obtain ⟨⟨_, _, _, _, o4', _, _⟩, of4'⟩ := hO3.cells
      have HO3 := (show Hid _ from hO3)
      refine wpAnyL_take (i := 5) (v := ?v5) rfl (by kernel_rfl) (by kernel_rfl) (by kernel_rfl) (by kernel_rfl) (fun _ _ _ h => h) (Or.inl ⟨by rfl, ?hy5⟩) hS3 ?_
      case hy5 => (intro w hSw; (try dsimp only at hSw); go_simp <;> with_reducible rfl)
      try simp only [Act.put, List.setIfInBounds_toArray, List.set_cons_zero, List.set_cons_succ]
      refine wpAnyL_one (i := 6) (by kernel_rfl) rfl (fun K hK => ?_)
      go_simp
      refine hK.out _ _ (fun h => absurd rfl h) ?_
      clear hK K
      try simp only [Act.put, List.setIfInBounds_toArray, List.set_cons_zero, List.set_cons_succ]
      refine wpAnyL_done (by kernel_rfl) ?_ _
      refine NoPanic.normal ?_
      go_wp2_with fail
      go_meet
      case rel =>
        rw [HN.out]
        rw [HN.out] at hR3
        rw [if_pos True.intro]
        exact Mid.put (by omega) (hR3.wide (by have := hSt.size; omega)) hO3 (bl_then HB.out hS3) (HT.out.below hS3)
    · have hkb : (ki == 2) = false := by simpa using hk2
      go_wp2_with fail
      go_meet
      case rel => rw [if_neg hk2]; exact ⟨_, HR.out, HO.out, HB.out, HT.out⟩
  case rest =>
    obtain ⟨v3, hR3, hO3, hB3, hT3⟩ := hcut
    generalize wc = wA at *
    obtain ⟨T1, hT1⟩ : ∃ T1, T1 = (if ki = 2 then ptsOf (px (snapL X Y z n)) (py (snapL X Y z n)) (thinP (snapL X Y z n).length L) else snapL X Y z n) := ⟨_, rfl⟩
    have HST : Hid (simpT ki z n X Y L = if ki = 3 then openL T1 else T1) := by
      show _ = _
      rw [hT1]
      unfold simpT
      rcases hk3 with rfl | rfl | rfl <;> simp
    have hTl : 0 < T1.length ∧ T1.length ≤ 12 := by
      rw [hT1]
      by_cases h2 : ki = 2
      · have := simpT_len 2 z n X Y L hn0 hn12 HL.out
        rw [if_pos h2]
        simpa [simpT] using this
      · have := HN.out
        rw [if_neg h2]
        omega
    rw [← hT1] at hR3
    clear hT1
    obtain ⟨hne3, hle3⟩ := hTl
    obtain ⟨g3, c3, x, y, hv3, hg31, hg32, hc3, hlast, e0, e1⟩ := hR3.last hne3
    obtain ⟨g', cap', x', y', hv', hhead, d0, d1⟩ := hR3.first hne3
    rw [hv3] at hv'
    injection hv' with a1 a2 a3
    injection a1 with a1
    injection a1 with a1
    subst a1 a3
    obtain ⟨N3, hN3⟩ : ∃ N3, N3 = T1.length := ⟨_, rfl⟩
    have HN3 : Hid (N3 = T1.length) := hN3
    rw [← hN3] at hv3 e0 e1 hc3 hne3 hle3
    subst hv3
    obtain ⟨M, hM⟩ : ∃ M, M = N3 - 1 := ⟨_, rfl⟩
    rw [← hM] at e0 e1
    have HM : Hid (M = N3 - 1) := hM
    have hMi : (N3 : Int) - 1 = (M : Int) := by omega
    have wM : IntKind.i64.wrap ((N3 : Int) - 1) = (M : Int) := by
      rw [hMi]
      exact IntWalk.i64_in _ (by omega)
    have m0 : (0 : Int) ≤ (M : Int) := by omega
    have m1 : (M : Int) < (N3 : Int) := by omega
    have wM2 : IntKind.i64.wrap (M : Int) = (M : Int) := IntWalk.i64_in _ (by omega)
    have n0 : (0 : Int) < (N3 : Int) := by omega
    have mc : (M : Int) ≤ (c3 : Int) := by omega
    have HLA : Hid (T1.getLast? = some (x, y) ∧ T1.head? = some (x', y')) := ⟨hlast, hhead⟩
    have HRA : Hid (Row V.heap.size wA (.slice (some ⟨g3, 0, none⟩) N3 c3) T1) := hR3
    have HOA : Hid (OutAt wA w1.heap.size id la ki wi (.slice (some ⟨g3, 0, none⟩) N3 c3) lab pr) := hO3
    have HBA : Hid (Below w.heap.size w wA) := hB3
    have HTA : Hid (There wA w.heap.size 7) := hT3
    have f2 : wA.cell? ⟨q, o + 2, none⟩ = some (.int .i64 ki) := by have := (HF.out.below HBA.out hql).2.2.1; simpa using this
    obtain ⟨⟨_, _, _, _, o4, _, _⟩, of4⟩ := hO3.cells
    have b0 : ∀ W', Below wA.heap.size wA W' → W'.cell? ⟨g3, M * 2, none⟩ = some (.int .i64 x) := fun W' h => bl_cell h e0
    have b1 : ∀ W', Below wA.heap.size wA W' → W'.cell? ⟨g3, M * 2 + 1, none⟩ = some (.int .i64 y) := fun W' h => bl_cell h e1
    have b2 : ∀ W', Below wA.heap.size wA W' → W'.cell? ⟨g3, 0, none⟩ = some (.int .i64 x') := fun W' h => bl_cell h d0
    have b3 : ∀ W', Below wA.heap.size wA W' → W'.cell? ⟨g3, 1, none⟩ = some (.int .i64 y') := fun W' h => bl_cell h d1
    have b4 : ∀ W', Below wA.heap.size wA W' → W'.cell? ⟨w1.heap.size, 4, none⟩ = some (.slice (some ⟨g3, 0, none⟩) N3 c3) := fun W' h => bl_cell h o4
    have b5 : ∀ W', Below wA.heap.size wA W' → W'.cell? ⟨q, o + 2, none⟩ = some (.int .i64 ki) := fun W' h => bl_cell h f2
    clear hR3 hO3 hB3 hT3 hN3 hM hlast hhead d0 d1 e0 e1 w20 w21 w22 w23 w24 w25 w26 wf4 hsz3 hsz2
    go_wp2_with fail
    go_cut [59] (fun t wx => t = .bool (decide (ki = 3 ∧ 0 < M ∧ (x, y) = (x', y'))) ∧ Below wA.heap.size wA wx)
    case first =>
      clear o4 of4 f2
      by_cases hk : ki = 3
      · subst hk
        by_cases hM0 : M = 0
        · have hd : decide ((1 : Int) < (N3 : Int)) = false := by have := HM.out; simp; omega
          have hd2 : decide (1 < N3) = false := by have := HM.out; simp; omega
          have HD : Hid (decide ((3 : Int) = 3 ∧ 0 < M ∧ (x, y) = (x', y')) = false) := by show _ = _; simp [hM0]
          clear hM0
          refine wp_region_noPanic ?_
          refine wp_region_held_drew (S := fun W' => Below wA.heap.size wA W') (by kernel_rfl) (by (repeat (first | exact Below.refl _ _ | assumption | refine Below.drew ?_ | refine bl_alloc ?_ _ | refine bl_then ?_ (by assumption)))) (fun hHeld => ?_)
          refine takeD (i := 0) (d := some 38) (v := ?vb0) rfl rfl (by kernel_rfl) (by kernel_rfl) (by kernel_rfl) (fun _ _ _ h => h) (Or.inl ⟨by rfl, ?hyb0⟩) (by assumption) ?_
          case hyb0 => (intro w hSw; (try dsimp only at hSw); go_simp <;> with_reducible rfl)
          simp only [Act.put, List.setIfInBounds_toArray, List.set_cons_zero, List.set_cons_succ]
          refine takeD (i := 1) (d := some 39) (v := ?vb1) rfl rfl (by kernel_rfl) (by kernel_rfl) (by kernel_rfl) (fun _ _ _ h => h) (Or.inl ⟨by rfl, ?hyb1⟩) (by assumption) ?_
          case hyb1 => (intro w hSw; (try dsimp only at hSw); go_simp <;> with_reducible rfl)
          simp only [Act.put, List.setIfInBounds_toArray, List.set_cons_zero, List.set_cons_succ]
          refine takeD (i := 2) (d := some 40) (v := ?vb2) rfl rfl (by kernel_rfl) (by kernel_rfl) (by kernel_rfl) (fun _ _ _ h => h) (Or.inl ⟨by rfl, ?hyb2⟩) (by assumption) ?_
          case hyb2 => (intro w hSw; (try dsimp only at hSw); go_simp <;> with_reducible rfl)
          simp only [Act.put, List.setIfInBounds_toArray, List.set_cons_zero, List.set_cons_succ]
          refine takeD (i := 3) (d := some 41) (v := ?vb3) rfl rfl (by kernel_rfl) (by kernel_rfl) (by kernel_rfl) (fun _ _ _ h => h) (Or.inl ⟨by rfl, ?hyb3⟩) (by assumption) ?_
          case hyb3 => (intro w hSw; (try dsimp only at hSw); go_simp <;> with_reducible rfl)
          simp only [Act.put, List.setIfInBounds_toArray, List.set_cons_zero, List.set_cons_succ]
          refine takeD (i := 4) (d := some 42) (v := ?vb4) rfl rfl (by kernel_rfl) (by kernel_rfl) (by kernel_rfl) (fun _ _ _ h => h) (Or.inl ⟨by rfl, ?hyb4⟩) (by assumption) ?_
          case hyb4 => (intro w hSw; (try dsimp only at hSw); go_simp <;> with_reducible rfl)
          simp only [Act.put, List.setIfInBounds_toArray, List.set_cons_zero, List.set_cons_succ]
          refine takeD (i := 5) (d := some 43) (v := ?vb5) rfl rfl (by kernel_rfl) (by kernel_rfl) (by kernel_rfl) (fun _ _ _ h => h) (Or.inl ⟨by rfl, ?hyb5⟩) (by assumption) ?_
          case hyb5 => (intro w hSw; (try dsimp only at hSw); go_simp <;> with_reducible rfl)
          simp only [Act.put, List.setIfInBounds_toArray, List.set_cons_zero, List.set_cons_succ]
          refine takeD (i := 6) (d := some 44) (v := ?vb6) rfl rfl (by kernel_rfl) (by kernel_rfl) (by kernel_rfl) (fun _ _ _ h => h) (Or.inl ⟨by rfl, ?hyb6⟩) (by assumption) ?_
          case hyb6 => (intro w hSw; (try dsimp only at hSw); go_simp <;> with_reducible rfl)
          simp only [Act.put, List.setIfInBounds_toArray, List.set_cons_zero, List.set_cons_succ]
          refine takeD (i := 7) (d := some 45) (v := ?vb7) rfl rfl (by kernel_rfl) (by kernel_rfl) (by kernel_rfl) (fun _ _ _ h => h) (Or.inl ⟨by rfl, ?hyb7⟩) (by assumption) ?_
          case hyb7 => (intro w hSw; (try dsimp only at hSw); go_simp <;> with_reducible rfl)
          simp only [Act.put, List.setIfInBounds_toArray, List.set_cons_zero, List.set_cons_succ]
          refine takeD (i := 8) (d := some 46) (v := ?vb8) rfl rfl (by kernel_rfl) (by kernel_rfl) (by kernel_rfl) (fun _ _ _ h => h) (Or.inl ⟨by rfl, ?hyb8⟩) (by assumption) ?_
          case hyb8 => (intro w hSw; (try dsimp only at hSw); go_simp <;> with_reducible rfl)
          simp only [Act.put, List.setIfInBounds_toArray, List.set_cons_zero, List.set_cons_succ]
          refine takeD (i := 9) (d := some 47) (v := ?vb9) rfl rfl (by kernel_rfl) (by kernel_rfl) (by kernel_rfl) (fun _ _ _ h => h) (Or.inl ⟨by rfl, ?hyb9⟩) (by assumption) ?_
          case hyb9 => (intro w hSw; (try dsimp only at hSw); go_simp <;> with_reducible rfl)
          simp only [Act.put, List.setIfInBounds_toArray, List.set_cons_zero, List.set_cons_succ]
          refine passD (i := 10) (d := some 48) rfl rfl (by kernel_rfl) (by kernel_rfl) (by kernel_rfl) (fun _ _ _ h => h) (by rfl) (by assumption) ?_
          simp only [Act.put, List.setIfInBounds_toArray, List.set_cons_zero, List.set_cons_succ]
          refine passD (i := 11) (d := some 49) rfl rfl (by kernel_rfl) (by kernel_rfl) (by kernel_rfl) (fun _ _ _ h => h) (by rfl) (by assumption) ?_
          simp only [Act.put, List.setIfInBounds_toArray, List.set_cons_zero, List.set_cons_succ]
          refine passD (i := 12) (d := some 50) rfl rfl (by kernel_rfl) (by kernel_rfl) (by kernel_rfl) (fun _ _ _ h => h) (by rfl) (by assumption) ?_
          simp only [Act.put, List.setIfInBounds_toArray, List.set_cons_zero, List.set_cons_succ]
          refine passD (i := 13) (d := some 51) rfl rfl (by kernel_rfl) (by kernel_rfl) (by kernel_rfl) (fun _ _ _ h => h) (by rfl) (by assumption) ?_
          simp only [Act.put, List.setIfInBounds_toArray, List.set_cons_zero, List.set_cons_succ]
          refine passD (i := 14) (d := some 52) rfl rfl (by kernel_rfl) (by kernel_rfl) (by kernel_rfl) (fun _ _ _ h => h) (by rfl) (by assumption) ?_
          simp only [Act.put, List.setIfInBounds_toArray, List.set_cons_zero, List.set_cons_succ]
          refine passD (i := 15) (d := some 53) rfl rfl (by kernel_rfl) (by kernel_rfl) (by kernel_rfl) (fun _ _ _ h => h) (by rfl) (by assumption) ?_
          simp only [Act.put, List.setIfInBounds_toArray, List.set_cons_zero, List.set_cons_succ]
          refine passD (i := 16) (d := some 54) rfl rfl (by kernel_rfl) (by kernel_rfl) (by kernel_rfl) (fun _ _ _ h => h) (by rfl) (by assumption) ?_
          simp only [Act.put, List.setIfInBounds_toArray, List.set_cons_zero, List.set_cons_succ]
          refine passD (i := 17) (d := some 55) rfl rfl (by kernel_rfl) (by kernel_rfl) (by kernel_rfl) (fun _ _ _ h => h) (by rfl) (by assumption) ?_
          simp only [Act.put, List.setIfInBounds_toArray, List.set_cons_zero, List.set_cons_succ]
          refine passD (i := 18) (d := some 56) rfl rfl (by kernel_rfl) (by kernel_rfl) (by kernel_rfl) (fun _ _ _ h => h) (by rfl) (by assumption) ?_
          simp only [Act.put, List.setIfInBounds_toArray, List.set_cons_zero, List.set_cons_succ]
          refine passD (i := 19) (d := some 57) rfl rfl (by kernel_rfl) (by kernel_rfl) (by kernel_rfl) (fun _ _ _ h => h) (by rfl) (by assumption) ?_
          simp only [Act.put, List.setIfInBounds_toArray, List.set_cons_zero, List.set_cons_succ]
          refine passD (i := 20) (d := some 58) rfl rfl (by kernel_rfl) (by kernel_rfl) (by kernel_rfl) (fun _ _ _ h => h) (by rfl) (by assumption) ?_
          simp only [Act.put, List.setIfInBounds_toArray, List.set_cons_zero, List.set_cons_succ]
          refine takeD (i := 21) (d := some 59) (v := ?vb21) rfl rfl (by kernel_rfl) (by kernel_rfl) (by kernel_rfl) (fun _ _ _ h => h) (Or.inl ⟨by rfl, ?hyb21⟩) (by assumption) ?_
          case hyb21 => (intro w hSw; (try dsimp only at hSw); go_simp <;> with_reducible rfl)
          simp only [Act.put, List.setIfInBounds_toArray, List.set_cons_zero, List.set_cons_succ]
          refine wpAnyH_done (by kernel_rfl) ?_ _
          refine NoPanic.normal ?_
          go_wp2_with fail
          go_meet
          case rel => exact ⟨by rw [HD.out], by (repeat (first | exact Below.refl _ _ | assumption | refine Below.drew ?_ | refine bl_alloc ?_ _ | refine bl_then ?_ (by assumption) | refine Below.setCell ?_ (by first | omega | (simp; done) | (simp; omega)) _ | refine bl_store ?_ ?_ _ _))⟩
        · have hd : decide ((1 : Int) < (N3 : Int)) = true := by have := HM.out; simp; omega
          have hd2 : decide (1 < N3) = true := by have := HM.out; simp; omega
          have hM1 : 0 < M := by omega
          by_cases hx : x = x'
          · by_cases hy : y = y'
            · subst hx hy
              have HD : Hid (decide ((3 : Int) = 3 ∧ 0 < M ∧ (x, y) = (x, y)) = true) := by show _ = _; simp [hM1]
              clear hM1 hM0
              go_region_held3 (fun W' => Below wA.heap.size wA W') ((repeat (first | exact Below.refl _ _ | assumption | refine Below.drew ?_ | refine bl_alloc ?_ _ | refine bl_then ?_ (by assumption) | refine Below.setCell ?_ (by first | omega | (simp; done) | (simp; omega)) _ | refine bl_store ?_ ?_ _ _))) (fail)
              go_wp2_with fail
              go_meet
              case rel => exact ⟨by rw [HD.out], by assumption⟩
            · have hyb : (y == y') = false := by simpa using hy
              have HD : Hid (decide ((3 : Int) = 3 ∧ 0 < M ∧ (x, y) = (x', y')) = false) := by show _ = _; simp [hy]
              subst hx
              clear hM1 hM0
              go_region_held3 (fun W' => Below wA.heap.size wA W') ((repeat (first | exact Below.refl _ _ | assumption | refine Below.drew ?_ | refine bl_alloc ?_ _ | refine bl_then ?_ (by assumption) | refine Below.setCell ?_ (by first | omega | (simp; done) | (simp; omega)) _ | refine bl_store ?_ ?_ _ _))) (fail)
              go_wp2_with fail
              go_meet
              case rel => exact ⟨by rw [HD.out], by assumption⟩
          · have hxb : (x == x') = false := by simpa using hx
            have HD : Hid (decide ((3 : Int) = 3 ∧ 0 < M ∧ (x, y) = (x', y')) = false) := by show _ = _; simp [hx]
            clear hM1 hM0
            go_region_held3 (fun W' => Below wA.heap.size wA W') ((repeat (first | exact Below.refl _ _ | assumption | refine Below.drew ?_ | refine bl_alloc ?_ _ | refine bl_then ?_ (by assumption) | refine Below.setCell ?_ (by first | omega | (simp; done) | (simp; omega)) _ | refine bl_store ?_ ?_ _ _))) (fail)
            go_wp2_with fail
            go_meet
            case rel => exact ⟨by rw [HD.out], by assumption⟩
      · have hkb : (ki == 3) = false := by simpa using hk
        have HD : Hid (decide (ki = 3 ∧ 0 < M ∧ (x, y) = (x', y')) = false) := by show _ = _; simp [hk]
        clear hk
        refine wp_region_noPanic ?_
        refine wp_region_held_drew (S := fun W' => Below wA.heap.size wA W') (by kernel_rfl) (by (repeat (first | exact Below.refl _ _ | assumption | refine Below.drew ?_ | refine bl_alloc ?_ _ | refine bl_then ?_ (by assumption)))) (fun hHeld => ?_)
        refine takeD (i := 0) (d := some 38) (v := ?va0) rfl rfl (by kernel_rfl) (by kernel_rfl) (by kernel_rfl) (fun _ _ _ h => h) (Or.inl ⟨by rfl, ?hya0⟩) (by assumption) ?_
        case hya0 => (intro w hSw; (try dsimp only at hSw); go_simp <;> with_reducible rfl)
        simp only [Act.put, List.setIfInBounds_toArray, List.set_cons_zero, List.set_cons_succ]
        refine takeD (i := 1) (d := some 39) (v := ?va1) rfl rfl (by kernel_rfl) (by kernel_rfl) (by kernel_rfl) (fun _ _ _ h => h) (Or.inl ⟨by rfl, ?hya1⟩) (by assumption) ?_
        case hya1 => (intro w hSw; (try dsimp only at hSw); go_simp <;> with_reducible rfl)
        simp only [Act.put, List.setIfInBounds_toArray, List.set_cons_zero, List.set_cons_succ]
        refine takeD (i := 2) (d := some 40) (v := ?va2) rfl rfl (by kernel_rfl) (by kernel_rfl) (by kernel_rfl) (fun _ _ _ h => h) (Or.inl ⟨by rfl, ?hya2⟩) (by assumption) ?_
        case hya2 => (intro w hSw; (try dsimp only at hSw); go_simp <;> with_reducible rfl)
        simp only [Act.put, List.setIfInBounds_toArray, List.set_cons_zero, List.set_cons_succ]
        refine takeD (i := 3) (d := some 41) (v := ?va3) rfl rfl (by kernel_rfl) (by kernel_rfl) (by kernel_rfl) (fun _ _ _ h => h) (Or.inl ⟨by rfl, ?hya3⟩) (by assumption) ?_
        case hya3 => (intro w hSw; (try dsimp only at hSw); go_simp <;> with_reducible rfl)
        simp only [Act.put, List.setIfInBounds_toArray, List.set_cons_zero, List.set_cons_succ]
        refine takeD (i := 4) (d := some 42) (v := ?va4) rfl rfl (by kernel_rfl) (by kernel_rfl) (by kernel_rfl) (fun _ _ _ h => h) (Or.inl ⟨by rfl, ?hya4⟩) (by assumption) ?_
        case hya4 => (intro w hSw; (try dsimp only at hSw); go_simp <;> with_reducible rfl)
        simp only [Act.put, List.setIfInBounds_toArray, List.set_cons_zero, List.set_cons_succ]
        refine takeD (i := 5) (d := some 43) (v := ?va5) rfl rfl (by kernel_rfl) (by kernel_rfl) (by kernel_rfl) (fun _ _ _ h => h) (Or.inl ⟨by rfl, ?hya5⟩) (by assumption) ?_
        case hya5 => (intro w hSw; (try dsimp only at hSw); go_simp <;> with_reducible rfl)
        simp only [Act.put, List.setIfInBounds_toArray, List.set_cons_zero, List.set_cons_succ]
        refine passD (i := 6) (d := some 44) rfl rfl (by kernel_rfl) (by kernel_rfl) (by kernel_rfl) (fun _ _ _ h => h) (by rfl) (by assumption) ?_
        simp only [Act.put, List.setIfInBounds_toArray, List.set_cons_zero, List.set_cons_succ]
        refine passD (i := 7) (d := some 45) rfl rfl (by kernel_rfl) (by kernel_rfl) (by kernel_rfl) (fun _ _ _ h => h) (by rfl) (by assumption) ?_
        simp only [Act.put, List.setIfInBounds_toArray, List.set_cons_zero, List.set_cons_succ]
        refine takeD (i := 8) (d := some 46) (v := ?va8) rfl rfl (by kernel_rfl) (by kernel_rfl) (by kernel_rfl) (fun _ _ _ h => h) (Or.inl ⟨by rfl, ?hya8⟩) (by assumption) ?_
        case hya8 => (intro w hSw; (try dsimp only at hSw); go_simp <;> with_reducible rfl)
        simp only [Act.put, List.setIfInBounds_toArray, List.set_cons_zero, List.set_cons_succ]
        refine takeD (i := 9) (d := some 47) (v := ?va9) rfl rfl (by kernel_rfl) (by kernel_rfl) (by kernel_rfl) (fun _ _ _ h => h) (Or.inl ⟨by rfl, ?hya9⟩) (by assumption) ?_
        case hya9 => (intro w hSw; (try dsimp only at hSw); go_simp <;> with_reducible rfl)
        simp only [Act.put, List.setIfInBounds_toArray, List.set_cons_zero, List.set_cons_succ]
        refine passD (i := 10) (d := some 48) rfl rfl (by kernel_rfl) (by kernel_rfl) (by kernel_rfl) (fun _ _ _ h => h) (by rfl) (by assumption) ?_
        simp only [Act.put, List.setIfInBounds_toArray, List.set_cons_zero, List.set_cons_succ]
        refine passD (i := 11) (d := some 49) rfl rfl (by kernel_rfl) (by kernel_rfl) (by kernel_rfl) (fun _ _ _ h => h) (by rfl) (by assumption) ?_
        simp only [Act.put, List.setIfInBounds_toArray, List.set_cons_zero, List.set_cons_succ]
        refine passD (i := 12) (d := some 50) rfl rfl (by kernel_rfl) (by kernel_rfl) (by kernel_rfl) (fun _ _ _ h => h) (by rfl) (by assumption) ?_
        simp only [Act.put, List.setIfInBounds_toArray, List.set_cons_zero, List.set_cons_succ]
        refine passD (i := 13) (d := some 51) rfl rfl (by kernel_rfl) (by kernel_rfl) (by kernel_rfl) (fun _ _ _ h => h) (by rfl) (by assumption) ?_
        simp only [Act.put, List.setIfInBounds_toArray, List.set_cons_zero, List.set_cons_succ]
        refine passD (i := 14) (d := some 52) rfl rfl (by kernel_rfl) (by kernel_rfl) (by kernel_rfl) (fun _ _ _ h => h) (by rfl) (by assumption) ?_
        simp only [Act.put, List.setIfInBounds_toArray, List.set_cons_zero, List.set_cons_succ]
        refine passD (i := 15) (d := some 53) rfl rfl (by kernel_rfl) (by kernel_rfl) (by kernel_rfl) (fun _ _ _ h => h) (by rfl) (by assumption) ?_
        simp only [Act.put, List.setIfInBounds_toArray, List.set_cons_zero, List.set_cons_succ]
        refine passD (i := 16) (d := some 54) rfl rfl (by kernel_rfl) (by kernel_rfl) (by kernel_rfl) (fun _ _ _ h => h) (by rfl) (by assumption) ?_
        simp only [Act.put, List.setIfInBounds_toArray, List.set_cons_zero, List.set_cons_succ]
        refine passD (i := 17) (d := some 55) rfl rfl (by kernel_rfl) (by kernel_rfl) (by kernel_rfl) (fun _ _ _ h => h) (by rfl) (by assumption) ?_
        simp only [Act.put, List.setIfInBounds_toArray, List.set_cons_zero, List.set_cons_succ]
        refine passD (i := 18) (d := some 56) rfl rfl (by kernel_rfl) (by kernel_rfl) (by kernel_rfl) (fun _ _ _ h => h) (by rfl) (by assumption) ?_
        simp only [Act.put, List.setIfInBounds_toArray, List.set_cons_zero, List.set_cons_succ]
        refine passD (i := 19) (d := some 57) rfl rfl (by kernel_rfl) (by kernel_rfl) (by kernel_rfl) (fun _ _ _ h => h) (by rfl) (by assumption) ?_
        simp only [Act.put, List.setIfInBounds_toArray, List.set_cons_zero, List.set_cons_succ]
        refine passD (i := 20) (d := some 58) rfl rfl (by kernel_rfl) (by kernel_rfl) (by kernel_rfl) (fun _ _ _ h => h) (by rfl) (by assumption) ?_
        simp only [Act.put, List.setIfInBounds_toArray, List.set_cons_zero, List.set_cons_succ]
        refine takeD (i := 21) (d := some 59) (v := ?va21) rfl rfl (by kernel_rfl) (by kernel_rfl) (by kernel_rfl) (fun _ _ _ h => h) (Or.inl ⟨by rfl, ?hya21⟩) (by assumption) ?_
        case hya21 => (intro w hSw; (try dsimp only at hSw); go_simp <;> with_reducible rfl)
        simp only [Act.put, List.setIfInBounds_toArray, List.set_cons_zero, List.set_cons_succ]
        refine wpAnyH_done (by kernel_rfl) ?_ _
        refine NoPanic.normal ?_
        go_wp2_with fail
        go_meet
        case rel => exact ⟨by rw [HD.out], by (repeat (first | exact Below.refl _ _ | assumption | refine Below.drew ?_ | refine bl_alloc ?_ _ | refine bl_then ?_ (by assumption) | refine Below.setCell ?_ (by first | omega | (simp; done) | (simp; omega)) _ | refine bl_store ?_ ?_ _ _))⟩
    case rest =>
      obtain ⟨rfl, hbc⟩ := hcut
      generalize wc = wB at *
      have HRB : Hid (Row V.heap.size wB (.slice (some ⟨g3, 0, none⟩) N3 c3) T1) := HRA.out.below hbc
      have HOB : Hid (OutAt wB w1.heap.size id la ki wi (.slice (some ⟨g3, 0, none⟩) N3 c3) lab pr) := HOA.out.below hbc
      have HBB : Hid (Below w.heap.size w wB) := bl_then HBA.out hbc
      have HTB : Hid (There wB w.heap.size 7) := HTA.out.below hbc
      have u4 := b4 wB hbc
      have uf4 : wB.frozen? ⟨w1.heap.size, 4, none⟩ = false := HOB.out.cells.2
      clear hbc b0 b1 b2 b3 b4 b5 o4 of4 f2
      go_upto_if 59 with fail
      go_cut [] (fun wx => Mid w V.heap.size w1.heap.size id la ki wi lab pr wx (simpT ki z n X Y L))
      case first =>
        by_cases hd : ki = 3 ∧ 0 < M ∧ (x, y) = (x', y')
        · have HO : Hid (simpT ki z n X Y L = T1.dropLast) := by
            show _ = _
            rw [HST.out, if_pos hd.1]
            unfold openL
            rw [if_pos]
            have h1 := HN3.out
            have h2 := HM.out
            exact ⟨by omega, by rw [HLA.out.1, HLA.out.2, hd.2.2]⟩
          rw [decide_eq_true hd]
          clear hd
          go_wp2_with fail
          go_meet
          case rel =>
            rw [HO.out]
            refine Mid.put (by omega) ?_ HOB.out HBB.out HTB.out
            have := HRB.out
            rw [HN3.out] at this
            have := this.cut
            rw [← HN3.out, ← HM.out] at this
            exact this
        · have HO : Hid (simpT ki z n X Y L = T1) := by
            show _ = _
            rw [HST.out]
            by_cases h3 : ki = 3
            · rw [if_pos h3]
              unfold openL
              rw [if_neg]
              rintro ⟨h5, h4⟩
              have h1 := HN3.out
              have h2 := HM.out
              rw [HLA.out.1, HLA.out.2] at h4
              exact hd ⟨h3, by omega, by injection h4⟩
            · rw [if_neg h3]
          rw [decide_eq_false hd]
          clear hd
          go_wp2_with fail
          go_meet
          case rel => rw [HO.out]; exact ⟨_, HRB.out, HOB.out, HBB.out, HTB.out⟩
      case rest =>
        generalize wc = wD at *
        have HMD : Hid (Mid w V.heap.size w1.heap.size id la ki wi lab pr wD (simpT ki z n X Y L)) := hcut
        clear hcut u4 uf4 HRA HOA HBA HTA HRB HOB HBB HTB HLA HST HM HN3 hMi wM wM2 m0 m1 n0 mc hc3 hne3 hle3 hg31 hg32
        have HSL : Hid (0 < (simpT ki z n X Y L).length ∧ (simpT ki z n X Y L).length ≤ 12) := simpT_len ki z n X Y L hn0 hn12 HL.out
        obtain ⟨T, hT⟩ : ∃ T, T = simpT ki z n X Y L := ⟨_, rfl⟩
        have HTT : Hid (T = simpT ki z n X Y L) := hT
        rw [← hT] at HMD HSL
        clear hT
        obtain ⟨K, hK⟩ : ∃ K : Nat, ki = (K : Int) := by rcases hk3 with rfl | rfl | rfl <;> exact ⟨_, rfl⟩
        have hK3 : K ≤ 3 := by omega
        have HKN : Hid (ki.toNat = K) := by show _ = _; omega
        have HKI : Hid (ki = (K : Int)) := hK
        go_wp2_with fail
        go_loopg [8] K (fun gh s0 wr => ∃ m : List (Int × Int), 0 < m.length ∧ m.length ≤ 20 ∧ K ≤ m.length + gh ∧ fillL K m = fillL K T ∧ Mid w V.heap.size w1.heap.size id la ki wi lab pr wr m)
        case atStart => exact ⟨T, HSL.out.1, by have := HSL.out.2; omega, by omega, rfl, HMD.out⟩
        case round =>
          obtain ⟨m, hm0, hm20, hgh, hfm, v, hRm, hOm, hBm, hTm⟩ := hrel
          obtain ⟨g, cap5, x, y, hv, hg1, hg2, hc5, hlast, e0, e1⟩ := hRm.last hm0
          have HFM : Hid (fillL K m = fillL K T) := hfm
          have HLA : Hid (m.getLast? = some (x, y)) := hlast
          have HRm : Hid (Row V.heap.size wr v m) := hRm
          have HOm : Hid (OutAt wr w1.heap.size id la ki wi v lab pr) := hOm
          have HBm : Hid (Below w.heap.size w wr) := hBm
          have HTm : Hid (There wr w.heap.size 7) := hTm
          obtain ⟨⟨r0, r1, r2, r3, r4, r5, r6⟩, rf4⟩ := hOm.cells
          have hlO := hOm.lt
          have hbs := hBm.size
          clear hfm hlast hRm hBm hOm hTm
          obtain ⟨N, hN⟩ : ∃ N, N = m.length := ⟨_, rfl⟩
          have HNm : Hid (N = m.length) := hN
          rw [← hN] at hv e0 e1 hc5 hm0 hm20 hgh
          by_cases hlt : N < K
          · cases gk with
            | zero => omega
            | succ gh =>
              have hlti : (N : Int) < ki := by omega
              obtain ⟨M, hM⟩ : ∃ M, M = N - 1 := ⟨_, rfl⟩
              rw [← hM] at e0 e1
              have wM : IntKind.i64.wrap ((N : Int) - 1) = (M : Int) := by
                rw [show (N : Int) - 1 = (M : Int) by omega]
                exact IntWalk.i64_in _ (by omega)
              have hMi : (N : Int) - 1 = (M : Int) := by omega
              have wM2 : IntKind.i64.wrap (M : Int) = (M : Int) := IntWalk.i64_in _ (by omega)
              have m0 : (0 : Int) ≤ (M : Int) := by omega
              have m1 : (M : Int) < (N : Int) := by omega
              have HG : Hid (K ≤ N + (gh + 1)) := hgh
              clear hM hN hgh hK
              subst hv
              go_wp2_with (first
                | (at_builtin; go_must (refine wpList_append_own _ rfl _ _ 34 rfl V.heap.size 111 i0 (.agg #[.int .i64 0, .int .i64 0]) 2 16 Tryz.underlying34 hi hz0 hz1 hz2 rfl (by decide) _ m.length (cellsL m) rfl (World.ownsRow.alloc (World.ownsRow.alloc HRm.out _) _) ⟨wr.heap.size + 1, 0, none⟩ 1 1 [.int .i64 x, .int .i64 y] rfl rfl ?c1 ?c2 ?c3 ?c4 ?c5 ?_)))
              case c1 =>
                intro q u hq
                match q, hq with
                | 0, hq => simp at hq; subst hq; simp [Addr.add, go_sem]
                | 1, hq => simp at hq; subst hq; simp [Addr.add, go_sem]
                | q + 2, hq => simp at hq
              case c2 => first | (intro u hu; simp at hu; rcases hu with rfl | rfl <;> rfl) | exact ⟨rfl, rfl⟩
              case c3 => have := HNm.out; unfold maxLen; omega
              case c4 => have := HNm.out; omega
              case c5 => first | omega | (simp; omega)
              intro v' w6 hown' hgrow hnil
              clear hnil
              have hBa : Below wr.heap.size wr ((wr.alloc (.cells #[.int .i64 x, .int .i64 y] 111)).alloc (.cells #[.int .i64 x, .int .i64 y] 111)) := bl_alloc (bl_alloc (Below.refl _ _) _) _
              have hBg : Below V.heap.size ((wr.alloc (.cells #[.int .i64 x, .int .i64 y] 111)).alloc (.cells #[.int .i64 x, .int .i64 y] 111)) w6 := (Below.refl _ _).grown hgrow (by simp; omega) (fun k hk => (HRm.out.lt k hk).1)
              have hB6 : Below V.heap.size wr w6 := (hBa.mono (by omega)).trans hBg
              have hN6 : NP wr w6 := (NP.of_below hBa).trans (NP.of_grown (HRm.out.below hBa) hgrow)
              have hO6 : OutAt w6 w1.heap.size id la ki wi (.slice (some ⟨g, 0, none⟩) N cap5) lab pr := HOm.out.np hN6
              have hT6 : There w6 w.heap.size 7 := There.belowB' HTm.out hB6 (by omega)
              have hBB6 : Below w.heap.size w w6 := HBm.out.trans (hB6.mono (by omega))
              have hR6 : Row V.heap.size w6 v' (m ++ [(x, y)]) := by
                show World.ownsRow _ _ _ _ _ _ _
                rw [cellsL_add, List.length_append]
                exact hown'
              obtain ⟨⟨_, _, _, _, o4, _, _⟩, of4⟩ := hO6.cells
              obtain ⟨a6, c6, hv6, _, _⟩ := hR6.own
              have HM6 : Hid (Mid w V.heap.size w1.heap.size id la ki wi lab pr (w6.setCell ⟨w1.heap.size, 4, none⟩ v') (m ++ [(x, y)])) := Mid.put (by omega) hR6 hO6 hBB6 hT6
              generalize (m ++ [(x, y)]).length = N6 at hv6
              subst hv6
              clear hown' hgrow hBa hBg hB6 hN6 hO6 hT6 hBB6 hR6
              go_wp2_with fail
              go_roundg gh
              case measure => omega
              case rel =>
                have h1 := HNm.out
                have h2 := HG.out
                exact ⟨m ++ [(x, y)], by simp, by simp; omega, by simp; omega, by rw [fillL_step (by omega) HLA.out]; exact HFM.out, HM6.out⟩
          · have hlti : ¬ (N : Int) < ki := by omega
            have HF : Hid (fillL K T = m) := by
              show _ = _
              rw [← HFM.out, fillL_full (by have := HNm.out; omega)]
            have t0 := HTm.out.cell 0 (by omega)
            have t1 := HTm.out.cell 1 (by omega)
            have t2 := HTm.out.cell 2 (by omega)
            have t3 := HTm.out.cell 3 (by omega)
            have t4 := HTm.out.cell 4 (by omega)
            have t5 := HTm.out.cell 5 (by omega)
            have t6 := HTm.out.cell 6 (by omega)
            have z0 := (HTm.out 0 (by omega)).2
            have z1 := (HTm.out 1 (by omega)).2
            have z2 := (HTm.out 2 (by omega)).2
            have z3 := (HTm.out 3 (by omega)).2
            have z4 := (HTm.out 4 (by omega)).2
            have z5 := (HTm.out 5 (by omega)).2
            have z6 := (HTm.out 6 (by omega)).2
            subst hv
            clear hN hK
            go_wp2_with fail
            obtain ⟨y0, y1, y2, y3, y4, y5, y6⟩ := set7_at (v0 := .int .i64 id) (v1 := .int .i64 la) (v2 := .int .i64 ki) (v3 := .int .i64 wi) (v4 := .slice (some ⟨g, 0, none⟩) N cap5) (v5 := .string lab) (v6 := .int .i64 pr) HTm.out
            refine bodyPost_ret (resS _ _ w.heap.size _ _ _ _ _ _ _ rfl y0 y1 y2 y3 y4 y5 y6) rfl ⟨_, rfl, ?_, below7 HBm.out (Nat.le_refl _)⟩
            rw [HKN.out, ← HTT.out, HF.out]
            exact HRm.out.set7 (by omega) (by omega)

end Go.Proofs.YtdohlnnbibnnbaaGreat
