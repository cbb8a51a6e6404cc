/- DoesCover: the program and the model. -/
import Derived.Test.YtchofahdcohibaaGreatVPaints25
import Derived.Test.YtchofahdcohibaaGreatVPaints40
import Derived.Test.YtchofahdcohibaaGreatVPaints43
import Derived.Test.YtchofahdcohibaaGreatVPaints45
namespace Go.Proofs.YtchofahdcohibaaGreat
open Go.RowKit
set_option linter.unusedSimpArgs false
set_option linter.unusedVariables false
set_option maxRecDepth 100000

/-- The answer of DoesCover. -/
def dcB (C ki wi z x y : Int) (R : List (Int × Int)) : Bool := decide (C = 0) && (pixB z x y && coverB ki wi z (centI z x) (centI z y) (dblL (px R) (py R) R.length))

set_option maxHeartbeats 8000000 in
theorem impl_DoesCover_any {off : Nat} (id la ki wi z x y : Int) (b n cap : Nat) (X Y : Nat → Int) (lab : ByteArray) (pr : Int) (L : List Nat) (w : World) (hp : PtsAt w b off n X Y) (hbl : b < w.heap.size) (hn : n ≤ 1048576) (hcap : n ≤ cap) (hl : lab.size ≤ 1048576)
    (hL : 3 ≤ (snapL X Y z n).length → Thin (px (snapL X Y z n)) (py (snapL X Y z n)) (gridI z) 0 ((snapL X Y z n).length - 1) L) (C : Int) (hC : C = simpC z (featC id la ki wi n X Y lab pr)) :
    Calls Tryz.prog 9 #[.agg #[.int .i64 id, .int .i64 la, .int .i64 ki, .int .i64 wi, .slice (some ⟨b, off, none⟩) n cap, .string lab, .int .i64 pr], .int .i64 z, .int .i64 x, .int .i64 y] w fun e w' => e = .returned (.bool (dcB C ki wi z x y (simpR C ki z n X Y L))) ∧ Below w.heap.size w w' := by
  have HP : Hid (PtsAt w b off n X Y) := hp
  have HL := (show Hid _ from hL)
  have HC : Hid (C = simpC z (featC id la ki wi n X Y lab pr)) := hC
  clear hp hL hC
  go_enter Tryz.func9, Tryz.ntmps9
  go_wp2_with fail
  generalize hW : (w.alloc _ : World) = W
  have hB0 : Below w.heap.size w W := by subst hW; (repeat (first | exact Below.refl _ _ | assumption | refine Below.drew ?_ | refine bl_alloc ?_ _ | refine bl_then ?_ (by assumption) | refine Below.setCell ?_ (by first | omega | (simp; done) | (simp; omega)) _ | refine bl_store ?_ ?_ _ _))
  clear hW
  have HB0 : Hid (Below w.heap.size w W) := hB0
  have HPW : Hid (PtsAt W b off n X Y) := HP.out.below hB0 hbl
  have hblW : b < W.heap.size := Nat.lt_of_lt_of_le hbl hB0.size
  clear hB0
  by_cases hC0 : C = 0
  · subst hC0
    have hz : zoomB z = true := by
      have := HC.out
      unfold simpC at this
      split at this
      · assumption
      · omega
    have hfc : featC id la ki wi n X Y lab pr = 0 := by
      have := HC.out
      unfold simpC at this
      rw [if_pos hz] at this
      exact this.symm
    obtain ⟨hkn, hR12, hall⟩ := simpR_facts hfc hz HL.out
    have hwr := (featC_rng hfc).2.2.1
    have hR0 : 0 < (simpR 0 ki z n X Y L).length := by rcases hkn with ⟨_, h⟩ | ⟨_, h⟩ | ⟨_, h⟩ <;> omega
    have Hs := (show Hid _ from simple_ok id la ki wi z b n cap X Y lab pr L W HPW.out hblW hn hcap hl HL.out HC.out hR0)
    clear hfc
    refine Calls.mono Hs.out ?_
    clear Hs
    have HAL : Hid (allW (simpR 0 ki z n X Y L)) := hall
    clear hall hkn
    generalize hRe : simpR 0 ki z n X Y L = R at *
    have HRe : Hid (simpR 0 ki z n X Y L = R) := hRe
    clear hRe
    rintro e w1 ⟨g, cg, rfl, hgl, hcg, hPg, hb1⟩
    have hB1 : Below w.heap.size w w1 := bl_then HB0.out hb1
    have HPg : Hid (PtsAt w1 g 0 R.length (px R) (py R)) := hPg
    generalize hRn : R.length = N at *
    clear hPg hb1
    go_wp2_with fail
    obtain ⟨k0, k1, k2, hk⟩ : ∃ k0 k1 k2 : Int, centV z x y = .agg #[.int .i64 k0, .int .i64 k1, .int .i64 k2] := by
      unfold centV
      split <;> exact ⟨_, _, _, rfl⟩
    have Hce := (show Hid _ from impl_CentreOf_any z x y)
    refine (Hce.out _).mono ?_
    rintro e w2 ⟨rfl, hb2⟩
    rw [hk]
    have hB2 : Below w.heap.size w w2 := bl_then hB1 hb2
    have HP2 : Hid (PtsAt w2 g 0 N (px R) (py R)) := HPg.out.below hb2 hgl
    have hg2 : g < w2.heap.size := Nat.lt_of_lt_of_le hgl hb2.size
    clear HPg hb2 hB1 hgl
    cases hpx : pixB z x y
    · have HK : Hid (dcB 0 ki wi z x y R = false) := by show _ = _; simp [dcB, hpx]
      have hk0 : k0 = 3 := by
        rw [centV, hpx] at hk
        simp at hk
        exact hk.1.symm
      subst hk0
      go_wp2_with fail
      go_ret
      exact ⟨ret_bool (by rw [HRe.out]; exact HK.out.symm), by have hB2' := hB2; (repeat (first | exact Below.refl _ _ | assumption | refine Below.drew ?_ | refine bl_alloc ?_ _ | refine bl_then ?_ (by assumption) | refine Below.setCell ?_ (by first | omega | (simp; done) | (simp; omega)) _ | refine bl_store ?_ ?_ _ _))⟩
    · have HK : Hid (dcB 0 ki wi z x y R = coverB ki wi z (centI z x) (centI z y) (dblL (px R) (py R) N)) := by show _ = _; simp [dcB, hpx, hRn]
      have hkk : k0 = 0 ∧ k1 = centI z x ∧ k2 = centI z y := by
        rw [centV, hpx] at hk
        simp at hk
        exact ⟨hk.1.symm, hk.2.1.symm, hk.2.2.symm⟩
      obtain ⟨rfl, rfl, rfl⟩ := hkk
      clear hk
      generalize centI z x = cx at *
      generalize centI z y = cy at *
      go_wp2_with fail
      generalize hV : ((w2.alloc _).alloc _ : World) = V
      have hbV : Below w2.heap.size w2 V := by subst hV; (repeat (first | exact Below.refl _ _ | assumption | refine Below.drew ?_ | refine bl_alloc ?_ _ | refine bl_then ?_ (by assumption) | refine Below.setCell ?_ (by first | omega | (simp; done) | (simp; omega)) _ | refine bl_store ?_ ?_ _ _))
      have s0 : ∀ W', Below V.heap.size V W' → W'.cell? ⟨w2.heap.size, 1, none⟩ = some (.int .i64 id) := fun W' h => by
        rw [h.cell (by subst hV; simp <;> omega)]; subst hV; simp [go_sem]
      have s1 : ∀ W', Below V.heap.size V W' → W'.cell? ⟨w2.heap.size, 2, none⟩ = some (.int .i64 la) := fun W' h => by
        rw [h.cell (by subst hV; simp <;> omega)]; subst hV; simp [go_sem]
      have s2 : ∀ W', Below V.heap.size V W' → W'.cell? ⟨w2.heap.size, 3, none⟩ = some (.int .i64 ki) := fun W' h => by
        rw [h.cell (by subst hV; simp <;> omega)]; subst hV; simp [go_sem]
      have s3 : ∀ W', Below V.heap.size V W' → W'.cell? ⟨w2.heap.size, 4, none⟩ = some (.int .i64 wi) := fun W' h => by
        rw [h.cell (by subst hV; simp <;> omega)]; subst hV; simp [go_sem]
      have s4 : ∀ W', Below V.heap.size V W' → W'.cell? ⟨w2.heap.size, 5, none⟩ = some (.slice (some ⟨g, 0, none⟩) N cg) := fun W' h => by
        rw [h.cell (by subst hV; simp <;> omega)]; subst hV; simp [go_sem]
      have s5 : ∀ W', Below V.heap.size V W' → W'.cell? ⟨w2.heap.size, 6, none⟩ = some (.string lab) := fun W' h => by
        rw [h.cell (by subst hV; simp <;> omega)]; subst hV; simp [go_sem]
      have s6 : ∀ W', Below V.heap.size V W' → W'.cell? ⟨w2.heap.size, 7, none⟩ = some (.int .i64 pr) := fun W' h => by
        rw [h.cell (by subst hV; simp <;> omega)]; subst hV; simp [go_sem]
      have q0 : ∀ W', Below V.heap.size V W' → W'.cell? ⟨w2.heap.size + 1, 1, none⟩ = some (.int .i64 cx) := fun W' h => by
        rw [h.cell (by subst hV; simp <;> omega)]; subst hV; simp [go_sem]
      have q1 : ∀ W', Below V.heap.size V W' → W'.cell? ⟨w2.heap.size + 1, 2, none⟩ = some (.int .i64 cy) := fun W' h => by
        rw [h.cell (by subst hV; simp <;> omega)]; subst hV; simp [go_sem]
      clear hV
      have HPV : Hid (PtsAt V g 0 N (px R) (py R)) := HP2.out.below hbV hg2
      have hgV : g < V.heap.size := Nat.lt_of_lt_of_le hg2 hbV.size
      have HSh : Hid (∀ W', Below V.heap.size V W' → Calls Tryz.prog 28 #[.agg #[.int .i64 id, .int .i64 la, .int .i64 ki, .int .i64 wi, .slice (some ⟨g, 0, none⟩) N cg, .string lab, .int .i64 pr], .int .i64 z] W' fun e w' => ∃ g' cg', e = .returned (shapeV id ki wi z g' N cg') ∧ g' < w'.heap.size ∧ N ≤ cg' ∧ PtsAt w' g' 0 N (px (dblL (px R) (py R) N)) (py (dblL (px R) (py R) N)) ∧ Below W'.heap.size W' w') := fun W' h => shapeOf_any id la ki wi z g N cg (px R) (py R) lab pr W' (HPV.out.below h hgV) (Nat.lt_of_lt_of_le hgV h.size) hR0 (by omega) (fun i _ => HAL.out.at i) hwr hz
      have HCo : Hid (∀ W' g' cg', PtsAt W' g' 0 N (px (dblL (px R) (py R) N)) (py (dblL (px R) (py R) N)) → g' < W'.heap.size → N ≤ cg' → Calls Tryz.prog 29 #[shapeV id ki wi z g' N cg', .agg #[.int .i64 cx, .int .i64 cy]] W' fun e w' => e = .returned (.bool (coverB ki wi z cx cy (dblL (px R) (py R) N))) ∧ Below W'.heap.size W' w') := fun W' g' cg' h1 h2 h3 => covers_any id ki wi z cx cy g' N cg' (px R) (py R) W' h1 h2 hR0 (by omega) h3
      clear HP2
      refine wp_region_noPanic ?_
      refine wp_region_held_drew (S := fun W' => Below V.heap.size V W') (by kernel_rfl) (by (repeat (first | exact Below.refl _ _ | assumption | refine Below.drew ?_ | refine bl_alloc ?_ _ | refine bl_then ?_ (by assumption) | refine Below.setCell ?_ (by first | omega | (simp; done) | (simp; omega)) _ | refine bl_store ?_ ?_ _ _))) (fun hHeld => ?_)
      have hX0 : Below V.heap.size V V.drew := hHeld
      refine takeD (i := 0) (d := some 26) (v := ?vd0) rfl rfl (by kernel_rfl) (by kernel_rfl) (by kernel_rfl) (fun _ _ _ h => h) (Or.inl ⟨by rfl, ?hyd0⟩) (by assumption) ?_
      case hyd0 => (intro w hSw; (try dsimp only at hSw); go_simp <;> with_reducible rfl)
      try simp only [Act.put, List.setIfInBounds_toArray, List.set_cons_zero, List.set_cons_succ]
      refine takeD (i := 1) (d := some 27) (v := ?vd1) rfl rfl (by kernel_rfl) (by kernel_rfl) (by kernel_rfl) (fun _ _ _ h => h) (Or.inl ⟨by rfl, ?hyd1⟩) (by assumption) ?_
      case hyd1 => (intro w hSw; (try dsimp only at hSw); go_simp <;> with_reducible rfl)
      try simp only [Act.put, List.setIfInBounds_toArray, List.set_cons_zero, List.set_cons_succ]
      refine takeD (i := 2) (d := some 28) (v := ?vd2) rfl rfl (by kernel_rfl) (by kernel_rfl) (by kernel_rfl) (fun _ _ _ h => h) (Or.inl ⟨by rfl, ?hyd2⟩) (by assumption) ?_
      case hyd2 => (intro w hSw; (try dsimp only at hSw); go_simp <;> with_reducible rfl)
      try simp only [Act.put, List.setIfInBounds_toArray, List.set_cons_zero, List.set_cons_succ]
      refine takeD (i := 4) (d := some 30) (v := ?vd4) rfl rfl (by kernel_rfl) (by kernel_rfl) (by kernel_rfl) (fun _ _ _ h => h) (Or.inl ⟨by rfl, ?hyd4⟩) (by assumption) ?_
      case hyd4 => (intro w hSw; (try dsimp only at hSw); go_simp <;> with_reducible rfl)
      try simp only [Act.put, List.setIfInBounds_toArray, List.set_cons_zero, List.set_cons_succ]
      refine takeD (i := 5) (d := some 31) (v := ?vd5) rfl rfl (by kernel_rfl) (by kernel_rfl) (by kernel_rfl) (fun _ _ _ h => h) (Or.inl ⟨by rfl, ?hyd5⟩) (by assumption) ?_
      case hyd5 => (intro w hSw; (try dsimp only at hSw); go_simp <;> with_reducible rfl)
      try simp only [Act.put, List.setIfInBounds_toArray, List.set_cons_zero, List.set_cons_succ]
      refine wpAnyH_ready (rs := [3]) (by kernel_rfl) (by simp) ?_
      refine (AllReadyH.cons rfl (fun K hK => ?_) AllReadyH.nil)
      go_simp
      refine Calls.mono (HSh.out _ hX0) ?_
      rintro e w3 ⟨g', cg', rfl, hg3, hcg3, hP3, hb3⟩
      have hX3 : Below V.heap.size V w3 := bl_then hX0 hb3
      go_wp2_with fail
      refine hK.out _ _ hX3 (fun hHeld => ?_)
      clear hK K hb3
      try simp only [Act.put, List.setIfInBounds_toArray, List.set_cons_zero, List.set_cons_succ]
      refine wpAnyH_ready (rs := [6]) (by kernel_rfl) (by simp) ?_
      refine (AllReadyH.cons rfl (fun K hK => ?_) AllReadyH.nil)
      go_simp
      refine Calls.mono (HCo.out _ _ _ hP3 hg3 hcg3) ?_
      rintro e w4 ⟨rfl, hb4⟩
      have hX4 : Below V.heap.size V w4 := bl_then hX3 hb4
      go_wp2_with fail
      refine hK.out _ _ hX4 (fun hHeld => ?_)
      clear hK K hb4
      try simp only [Act.put, List.setIfInBounds_toArray, List.set_cons_zero, List.set_cons_succ]
      refine takeD (i := 7) (d := some 8) (v := ?vd7) rfl rfl (by kernel_rfl) (by kernel_rfl) (by kernel_rfl) (fun _ _ _ h => h) (Or.inl ⟨by rfl, ?hyd7⟩) (by assumption) ?_
      case hyd7 => (intro w hSw; (try dsimp only at hSw); go_simp <;> with_reducible rfl)
      try simp only [Act.put, List.setIfInBounds_toArray, List.set_cons_zero, List.set_cons_succ]
      refine wpAnyH_done (by kernel_rfl) ?_ _
      refine NoPanic.normal ?_
      go_wp2_with fail
      go_ret
      exact ⟨ret_bool (by rw [HRe.out]; exact HK.out.symm), bl_then hB2 (bl_then hbV hX4)⟩
  · have HK : Hid (∀ R, dcB C ki wi z x y R = false) := fun R => by simp [dcB, hC0]
    have hcb : (C != 0) = true := by simpa using hC0
    refine (simple_no id la ki wi z b n cap X Y lab pr L W HPW.out hblW hn hcap hl HL.out C HC.out hC0).mono ?_
    rintro e w1 ⟨a1, c1, rfl, hb1⟩
    have hB1 : Below w.heap.size w w1 := bl_then HB0.out hb1
    go_wp2_with fail
    obtain ⟨k0, k1, k2, hk⟩ : ∃ k0 k1 k2 : Int, centV z x y = .agg #[.int .i64 k0, .int .i64 k1, .int .i64 k2] := by
      unfold centV
      split <;> exact ⟨_, _, _, rfl⟩
    refine (impl_CentreOf_any z x y _).mono ?_
    rintro e w2 ⟨rfl, hb2⟩
    rw [hk]
    have hB2 : Below w.heap.size w w2 := bl_then hB1 hb2
    clear hk hb1 hb2 hB1
    go_wp2_with fail
    go_ret
    exact ⟨ret_bool (HK.out _).symm, by have hB2' := hB2; (repeat (first | exact Below.refl _ _ | assumption | refine Below.drew ?_ | refine bl_alloc ?_ _ | refine bl_then ?_ (by assumption) | refine Below.setCell ?_ (by first | omega | (simp; done) | (simp; omega)) _ | refine bl_store ?_ ?_ _ _))⟩
end Go.Proofs.YtchofahdcohibaaGreat
