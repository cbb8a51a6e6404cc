/- RefRaster: the model and the program. -/
import Derived.Test.YtaodbplepegapaaGreatVRefFrame39
import Derived.Test.YtaodbplepegapaaGreatVRefFrame40
import Derived.Test.YtaodbplepegapaaGreatVRefFrame41
namespace Go.Proofs.YtaodbplepegapaaGreat
open Go.RowKit
set_option linter.unusedSimpArgs false
set_option linter.unusedVariables false
set_option maxRecDepth 100000

/-- The code of RefRaster, and its raster. -/
noncomputable def rrC (z x y : Int) (n : Nat) (G : Nat → Feat) : Int := or2 (refC z x y) (featsC n G)
noncomputable def rrL (z x y : Int) (n : Nat) (G : Nat → Feat) : List Int := if rrC z x y n G = 0 then rasK (paintS G n z) (x * 8) (y * 8) 64 else []
theorem or2_zero {a b : Int} (h : or2 a b = 0) : a = 0 ∧ b = 0 := by
  unfold or2 at h
  by_cases h0 : a = 0
  · rw [if_pos h0] at h; exact ⟨h0, h⟩
  · rw [if_neg h0] at h; exact absurd h h0
theorem there4n (w : World) (a b c d : Value) (t : TypeId) : There (w.alloc (.cells #[a, b, c, d] t)) w.heap.size 4 := fun o ho => by
  have : o = 0 ∨ o = 1 ∨ o = 2 ∨ o = 3 := by omega
  rcases this with rfl | rfl | rfl | rfl <;> exact ⟨⟨_, by simp [go_sem]; rfl⟩, by simp [go_sem]⟩
theorem TileA.put {W : World} {r : Nat} {z x y : Int} {v : Value} (hT : There W r 4) : TileA ((((W.setCell ⟨r, 0, none⟩ (.int .i64 z)).setCell ⟨r, 1, none⟩ (.int .i64 x)).setCell ⟨r, 2, none⟩ (.int .i64 y)).setCell ⟨r, 3, none⟩ v) r z x y v := by
  have ne : ∀ i j : Nat, i ≠ j → (⟨r, i, none⟩ : Addr) ≠ ⟨r, j, none⟩ := fun i j hij h => hij (by injection h)
  obtain ⟨u0, h0⟩ := (hT 0 (by omega)).1
  obtain ⟨u1, h1⟩ := (hT 1 (by omega)).1
  obtain ⟨u2, h2⟩ := (hT 2 (by omega)).1
  obtain ⟨u3, h3⟩ := (hT 3 (by omega)).1
  refine ⟨?_, ?_, ?_, ?_⟩
  · rw [set1_other (ne 3 0 (by omega)), set1_other (ne 2 0 (by omega)), set1_other (ne 1 0 (by omega))]; exact set1_same h0
  · rw [set1_other (ne 3 1 (by omega)), set1_other (ne 2 1 (by omega))]; exact set1_same (by rw [set1_other (ne 0 1 (by omega))]; exact h1)
  · rw [set1_other (ne 3 2 (by omega))]; exact set1_same (by rw [set1_other (ne 1 2 (by omega)), set1_other (ne 0 2 (by omega))]; exact h2)
  · exact set1_same (by rw [set1_other (ne 2 3 (by omega)), set1_other (ne 1 3 (by omega)), set1_other (ne 0 3 (by omega))]; exact h3)
theorem FsAt.put4 {W : World} {g n r : Nat} {T : Nat → Feat} {v0 v1 v2 v3 : Value} (h : FsAt W g 0 n T) (hg : g ≠ r) (hr : ∀ i, i < n → ∀ q o, (T i).a = some ⟨q, o, none⟩ → q ≠ r) : FsAt ((((W.setCell ⟨r, 0, none⟩ v0).setCell ⟨r, 1, none⟩ v1).setCell ⟨r, 2, none⟩ v2).setCell ⟨r, 3, none⟩ v3) g 0 n T := by
  have sc : ∀ (b o : Nat), b ≠ r → ((((W.setCell ⟨r, 0, none⟩ v0).setCell ⟨r, 1, none⟩ v1).setCell ⟨r, 2, none⟩ v2).setCell ⟨r, 3, none⟩ v3).cell? ⟨b, o, none⟩ = W.cell? ⟨b, o, none⟩ := fun b o hb => by
    have ne : ∀ k : Nat, (⟨r, k, none⟩ : Addr) ≠ ⟨b, o, none⟩ := fun k e => hb (by injection e with e; exact e.symm)
    rw [set1_other (ne 3), set1_other (ne 2), set1_other (ne 1), set1_other (ne 0)]
  intro i hi
  obtain ⟨⟨c0, c1, c2, c3, c4, c5, c6⟩, hp⟩ := h i hi
  refine ⟨⟨(sc _ _ hg).trans c0, (sc _ _ hg).trans c1, (sc _ _ hg).trans c2, (sc _ _ hg).trans c3, (sc _ _ hg).trans c4, (sc _ _ hg).trans c5, (sc _ _ hg).trans c6⟩, ?_⟩
  rcases hp with h0 | ⟨q, o, ea, hl, hpt⟩
  · exact .inl h0
  · by_cases hn : (T i).n = 0
    · exact .inl hn
    · have hq : q ≠ r := hr i hi q o ea
      refine .inr ⟨q, o, ea, by simpa using hl, fun j hj => ⟨(sc _ _ hq).trans (hpt j hj).1, (sc _ _ hq).trans (hpt j hj).2⟩⟩
set_option maxHeartbeats 8000000 in
theorem spec_RefRaster_any (z x y : Int) (b n cap : Nat) (G : Nat → Feat) (w : World) (hg : FsAt w b 0 n G) (hbl : b < w.heap.size) (hs : SmallFs n G) :
    Calls Tryz.prog 22 #[.slice (some ⟨b, 0, none⟩) n cap, refV z x y] w fun e w' => ∃ v, e = .returned (.agg #[.int .i64 (rrC z x y n G), v]) ∧ OwnN w' w.heap.size v (rrL z x y n G).length (nz (rrL z x y n G)) ∧ Below w.heap.size w w' := by
  have HG : Hid (FsAt w b 0 n G) := hg
  have HS : Hid (SmallFs n G) := hs
  have HK : Hid (rrC z x y n G = or2 (refC z x y) (featsC n G)) := rfl
  have HKL : Hid (rrC z x y n G ≠ 0 → rrL z x y n G = []) := fun h => if_neg h
  clear hg hs
  go_enter Tryz.func22, Tryz.ntmps22
  go_wp2_with fail
  generalize hW : ((w.alloc _).alloc _ : World) = W
  have HB0 : Hid (Below w.heap.size w W) := by show Below _ _ _; subst hW; (repeat (first | exact Below.refl _ _ | assumption | refine Below.drew ?_ | refine bl_alloc ?_ _ | refine bl_then ?_ (by assumption) | refine Below.setCell ?_ (by first | omega | (simp; done) | (simp; omega)) _ | refine bl_store ?_ ?_ _ _))
  have HT : Hid (There W (w.heap.size + 1) 2) := by
    show There _ _ _
    subst hW
    have := there2t (w.alloc (.cells #[.int .i64 z, .int .i64 x, .int .i64 y] 41)) (.int .i64 0) (.slice none 0 0) 39
    simpa using this
  have hlW : w.heap.size + 1 < W.heap.size := by subst hW; simp
  have c0 : ∀ W', Below W.heap.size W W' → W'.cell? ⟨w.heap.size, 0, none⟩ = some (.int .i64 z) := fun W' h => by rw [h.cell (by simp; omega)]; subst hW; simp [go_sem]
  have c1 : ∀ W', Below W.heap.size W W' → W'.cell? ⟨w.heap.size, 1, none⟩ = some (.int .i64 x) := fun W' h => by rw [h.cell (by simp; omega)]; subst hW; simp [go_sem]
  have c2 : ∀ W', Below W.heap.size W W' → W'.cell? ⟨w.heap.size, 2, none⟩ = some (.int .i64 y) := fun W' h => by rw [h.cell (by simp; omega)]; subst hW; simp [go_sem]
  clear hW
  refine (l7Fault_any z x y _).mono ?_
  rintro e w1 ⟨rfl, hb1⟩
  have hT1 := HT.out.below hb1
  have HT1 : Hid (There w1 (w.heap.size + 1) 2) := hT1
  have HB1 : Hid (Below w.heap.size w w1) := bl_then HB0.out hb1
  have HW1 : Hid (Below W.heap.size W w1) := hb1
  clear hb1
  rcases refC_cases z x y with ⟨hrc, hrb⟩ | ⟨hrc, hrb⟩
  · rw [hrc]
    rw [hrc, or2, if_pos rfl] at HK
    have HRB : Hid (refB z x y = true) := hrb
    clear hrc hrb hT1
    go_wp2_with fail
    refine (l2Many_any b n cap G _ (HG.out.below HB1.out hbl) (Nat.lt_of_lt_of_le hbl HB1.out.size) HS.out).mono ?_
    rintro e w2 ⟨rfl, hb2⟩
    have hT2 := HT1.out.below hb2
    have HT2 : Hid (There w2 (w.heap.size + 1) 2) := hT2
    have HB2 : Hid (Below w.heap.size w w2) := bl_then HB1.out hb2
    have hW2 : Below W.heap.size W w2 := bl_then HW1.out hb2
    have hs2 : w.heap.size + 1 < w2.heap.size := Nat.lt_of_lt_of_le hlW hW2.size
    clear hb2
    by_cases hf : featsC n G = 0
    · rw [hf] at HK ⊢
      have HL : Hid (rrL z x y n G = rasK (paintS G n z) (x * 8) (y * 8) 64) := if_pos HK.out
      have hz : zoomB z = true := by have := HRB.out; simp [refB] at this; exact this.1
      have h12 := (featsC_ok hf).1
      have HOK : Hid (∀ i, i < n → okC (G ((srtF n G).getD i 0))) := fun i hi => (featsC_ok hf).2.2 _ (srtF_lt n G i hi)
      have HLA : Hid (∀ W', Below w2.heap.size w2 W' → Calls Tryz.prog 34 #[.slice (some ⟨b, 0, none⟩) n cap, .int .i64 z] W' fun e w' => ∃ g c T, e = .returned (.slice (some ⟨g, 0, none⟩) n c) ∧ (W'.heap.size ≤ g ∧ g < w'.heap.size) ∧ FsAt w' g 0 n T ∧ ((∀ i, i < n → simOf z (G ((srtF n G).getD i 0)) (T i)) ∧ ∀ i, i < n → ∀ q o, (T i).a = some ⟨q, o, none⟩ → W'.heap.size ≤ q) ∧ Below W'.heap.size W' w') := fun W' hW' => (l4All_any b n cap G z W' (HG.out.below (bl_then HB2.out hW') hbl) (Nat.lt_of_lt_of_le hbl (bl_then HB2.out hW').size) HS.out hf hz).mono fun e w' ⟨g, c, T, h1, h2, h3, h4, h5, h6, h7⟩ => ⟨g, c, T, h1, ⟨h2, h3⟩, h4, ⟨h5, h6⟩, h7⟩
      have d0 : ∀ W', Below w2.heap.size w2 W' → W'.cell? ⟨w.heap.size, 0, none⟩ = some (.int .i64 z) := fun W' h => c0 W' (bl_then hW2 h)
      have d1 : ∀ W', Below w2.heap.size w2 W' → W'.cell? ⟨w.heap.size, 1, none⟩ = some (.int .i64 x) := fun W' h => c1 W' (bl_then hW2 h)
      have d2 : ∀ W', Below w2.heap.size w2 W' → W'.cell? ⟨w.heap.size, 2, none⟩ = some (.int .i64 y) := fun W' h => c2 W' (bl_then hW2 h)
      clear hf hT2 c0 c1 c2
      go_wp2_with fail
      go_cut [7] (fun p wc => ∃ (P g cg : Nat) (T : Nat → Feat), p = .pointer (some ⟨P, 0, none⟩) ∧ TileA wc P z x y (.slice (some ⟨g, 0, none⟩) n cg) ∧ FsAt wc g 0 n T ∧ g < wc.heap.size ∧ (∀ i, i < n → simOf z (G ((srtF n G).getD i 0)) (T i)) ∧ Below w2.heap.size w2 wc)
      case first =>
        refine wp_region_noPanic ?_
        refine wp_region_held_drew (S := fun W' => Below w2.heap.size w2 W') (by kernel_rfl) (by (repeat (first | exact Below.refl _ _ | assumption | refine Below.drew ?_ | refine bl_alloc ?_ _ | refine bl_then ?_ (by assumption) | refine Below.setCell ?_ (by first | omega | (simp; done) | (simp; omega)) _ | refine bl_store ?_ ?_ _ _))) (fun hHeld => ?_)
        have hX0 : Below w2.heap.size w2 w2.drew := hHeld
        refine takeD (i := 0) (d := some 20) (v := ?vc0) rfl rfl (by kernel_rfl) (by kernel_rfl) (by kernel_rfl) (fun _ _ _ h => h) (Or.inl ⟨by rfl, ?hyc0⟩) hX0 ?_
        case hyc0 => (intro w hSw; (try dsimp only at hSw); go_simp <;> with_reducible rfl)
        try simp only [Act.put, List.setIfInBounds_toArray, List.set_cons_zero, List.set_cons_succ]
        refine takeD (i := 1) (d := some 21) (v := ?vc1) rfl rfl (by kernel_rfl) (by kernel_rfl) (by kernel_rfl) (fun _ _ _ h => h) (Or.inl ⟨by rfl, ?hyc1⟩) hX0 ?_
        case hyc1 => (intro w hSw; (try dsimp only at hSw); go_simp <;> with_reducible rfl)
        try simp only [Act.put, List.setIfInBounds_toArray, List.set_cons_zero, List.set_cons_succ]
        refine takeD (i := 2) (d := some 22) (v := ?vc2) rfl rfl (by kernel_rfl) (by kernel_rfl) (by kernel_rfl) (fun _ _ _ h => h) (Or.inl ⟨by rfl, ?hyc2⟩) hX0 ?_
        case hyc2 => (intro w hSw; (try dsimp only at hSw); go_simp <;> with_reducible rfl)
        try simp only [Act.put, List.setIfInBounds_toArray, List.set_cons_zero, List.set_cons_succ]
        refine takeD (i := 3) (d := some 23) (v := ?vc3) rfl rfl (by kernel_rfl) (by kernel_rfl) (by kernel_rfl) (fun _ _ _ h => h) (Or.inl ⟨by rfl, ?hyc3⟩) hX0 ?_
        case hyc3 => (intro w hSw; (try dsimp only at hSw); go_simp <;> with_reducible rfl)
        try simp only [Act.put, List.setIfInBounds_toArray, List.set_cons_zero, List.set_cons_succ]
        refine wpAnyH_ready (rs := [4, 6]) (by kernel_rfl) (by simp) ?_
        refine (AllReadyH.cons rfl (fun K hK => ?_) (AllReadyH.cons rfl (fun K hK => ?_) AllReadyH.nil))
        · rw [if_pos (by rfl)]
          go_simp
          refine Calls.mono (HLA.out _ hX0) ?_
          rintro e wC1 ⟨g, cg, T, rfl, ⟨hgg, hgl⟩, hFT, ⟨hsim, hlo⟩, hbC1⟩
          have hXC1 : Below w2.heap.size w2 wC1 := bl_then hX0 hbC1
          go_wp2_with fail
          refine hK.out _ _ hXC1 (fun hHeld => ?_)
          clear hK K
          try simp only [Act.put, List.setIfInBounds_toArray, List.set_cons_zero, List.set_cons_succ]
          refine takeD (i := 5) (d := some 25) (v := ?vd15) rfl rfl (by kernel_rfl) (by kernel_rfl) (by kernel_rfl) (fun _ _ _ h => h) (Or.inl ⟨by rfl, ?hyd15⟩) hXC1 ?_
          case hyd15 => (intro w hSw; (try dsimp only at hSw); go_simp <;> with_reducible rfl)
          try simp only [Act.put, List.setIfInBounds_toArray, List.set_cons_zero, List.set_cons_succ]
          have hne1 : ∀ i, i < n → ∀ q o, (T i).a = some ⟨q, o, none⟩ → q ≠ wC1.heap.size := fun i hi q o ea => by
            rcases (hFT i hi).2 with h0 | ⟨q', o', e', hl', _⟩
            · have := (okF_sim (hsim i hi) (HOK.out i hi) hz).n0; omega
            · rw [ea] at e'; injection e' with e'; injection e' with e1 e2; omega
          refine wpAnyH_ready (rs := [6]) (by kernel_rfl) (by simp) ?_
          refine (AllReadyH.cons rfl (fun K hK => ?_) AllReadyH.nil)
          rw [if_pos (by rfl)]
          go_simp
          generalize hwA : (World.alloc _ _ : World) = wL1
          have hbL1 : Below wC1.heap.size wC1 wL1 := by subst hwA; (repeat (first | exact Below.refl _ _ | assumption | refine Below.drew ?_ | refine bl_alloc ?_ _ | refine bl_then ?_ (by assumption) | refine Below.setCell ?_ (by first | omega | (simp; done) | (simp; omega)) _ | refine bl_store ?_ ?_ _ _))
          have hTL1 : There wL1 wC1.heap.size 4 := by subst hwA; exact there4n wC1 _ _ _ _ _
          clear hwA
          have hXL1 : Below w2.heap.size w2 wL1 := bl_then hXC1 hbL1
          have hsL1 : w2.heap.size ≤ wC1.heap.size := Below.size hXC1
          refine hK.out _ _ hXL1 (fun hHeld => ?_)
          clear hK K
          try simp only [Act.put, List.setIfInBounds_toArray, List.set_cons_zero, List.set_cons_succ]
          refine wpAnyH_ready (rs := [7]) (by kernel_rfl) (by simp) ?_
          refine (AllReadyH.cons rfl (fun K hK => ?_) AllReadyH.nil)
          rw [if_pos (by rfl)]
          have t0 := hTL1.cell 0 (by omega)
          have f0 := (hTL1 0 (by omega)).2
          have t1 := hTL1.cell 1 (by omega)
          have f1 := (hTL1 1 (by omega)).2
          have t2 := hTL1.cell 2 (by omega)
          have f2 := (hTL1 2 (by omega)).2
          have t3 := hTL1.cell 3 (by omega)
          have f3 := (hTL1 3 (by omega)).2
          go_simp
          have hXs : Below w2.heap.size w2 ((((wL1.setCell ⟨wC1.heap.size, 0, none⟩ (.int .i64 z)).setCell ⟨wC1.heap.size, 1, none⟩ (.int .i64 x)).setCell ⟨wC1.heap.size, 2, none⟩ (.int .i64 y)).setCell ⟨wC1.heap.size, 3, none⟩ (.slice (some ⟨g, 0, none⟩) n cg)) := (((hXL1.setCell hsL1 _).setCell hsL1 _).setCell hsL1 _).setCell hsL1 _
          have hAs := TileA.put (z := z) (x := x) (y := y) (v := .slice (some ⟨g, 0, none⟩) n cg) hTL1
          have hFs : FsAt ((((wL1.setCell ⟨wC1.heap.size, 0, none⟩ (.int .i64 z)).setCell ⟨wC1.heap.size, 1, none⟩ (.int .i64 x)).setCell ⟨wC1.heap.size, 2, none⟩ (.int .i64 y)).setCell ⟨wC1.heap.size, 3, none⟩ (.slice (some ⟨g, 0, none⟩) n cg)) g 0 n T := FsAt.put4 (hFT.below hbL1 hgl) (Nat.ne_of_lt hgl) hne1
          have hGs : g < ((((wL1.setCell ⟨wC1.heap.size, 0, none⟩ (.int .i64 z)).setCell ⟨wC1.heap.size, 1, none⟩ (.int .i64 x)).setCell ⟨wC1.heap.size, 2, none⟩ (.int .i64 y)).setCell ⟨wC1.heap.size, 3, none⟩ (.slice (some ⟨g, 0, none⟩) n cg)).heap.size := by simpa using (Nat.lt_of_lt_of_le hgl hbL1.size)
          generalize hwS : ((((wL1.setCell _ _).setCell _ _).setCell _ _).setCell _ _ : World) = wS at *
          refine hK.out _ _ hXs (fun hHeld => ?_)
          clear hK K hwS t0 t1 t2 t3 f0 f1 f2 f3
          try simp only [Act.put, List.setIfInBounds_toArray, List.set_cons_zero, List.set_cons_succ]
          refine wpAnyH_done (by kernel_rfl) ?_ _
          refine NoPanic.normal ?_
          go_wp2_with fail
          go_meet
          case rel => exact ⟨_, g, cg, T, rfl, hAs, hFs, hGs, hsim, hXs⟩
        · rw [if_pos (by rfl)]
          go_simp
          generalize hwA : (World.alloc _ _ : World) = wL2
          have hbL2 : Below w2.heap.size w2 wL2.drew := by subst hwA; (repeat (first | exact Below.refl _ _ | assumption | refine Below.drew ?_ | refine bl_alloc ?_ _ | refine bl_then ?_ (by assumption) | refine Below.setCell ?_ (by first | omega | (simp; done) | (simp; omega)) _ | refine bl_store ?_ ?_ _ _))
          have hTL2 : There wL2.drew w2.heap.size 4 := by subst hwA; exact there4n w2 _ _ _ _ _
          have hzL : w2.heap.size < wL2.drew.heap.size := by subst hwA; simp
          clear hwA
          have hXL2 : Below w2.heap.size w2 wL2.drew := hbL2
          have hsL2 : w2.heap.size ≤ w2.heap.size := Nat.le_refl _
          refine hK.out _ _ hXL2 (fun hHeld => ?_)
          clear hK K
          try simp only [Act.put, List.setIfInBounds_toArray, List.set_cons_zero, List.set_cons_succ]
          refine wpAnyH_ready (rs := [4]) (by kernel_rfl) (by simp) ?_
          refine (AllReadyH.cons rfl (fun K hK => ?_) AllReadyH.nil)
          rw [if_pos (by rfl)]
          go_simp
          refine Calls.mono (HLA.out _ hXL2) ?_
          rintro e wC2 ⟨g, cg, T, rfl, ⟨hgg, hgl⟩, hFT, ⟨hsim, hlo⟩, hbC2⟩
          have hXC2 : Below w2.heap.size w2 wC2 := bl_then hXL2 hbC2
          go_wp2_with fail
          refine hK.out _ _ hXC2 (fun hHeld => ?_)
          clear hK K
          try simp only [Act.put, List.setIfInBounds_toArray, List.set_cons_zero, List.set_cons_succ]
          refine takeD (i := 5) (d := some 25) (v := ?vd25) rfl rfl (by kernel_rfl) (by kernel_rfl) (by kernel_rfl) (fun _ _ _ h => h) (Or.inl ⟨by rfl, ?hyd25⟩) hXC2 ?_
          case hyd25 => (intro w hSw; (try dsimp only at hSw); go_simp <;> with_reducible rfl)
          try simp only [Act.put, List.setIfInBounds_toArray, List.set_cons_zero, List.set_cons_succ]
          have hTC2 := There.below (show There wL2.drew w2.heap.size 4 from hTL2) hbC2
          have hzL2 : w2.heap.size < wL2.drew.heap.size := hzL
          have hne2 : ∀ i, i < n → ∀ q o, (T i).a = some ⟨q, o, none⟩ → q ≠ w2.heap.size := fun i hi q o ea => by have := hlo i hi q o ea; omega
          have hne2g : g ≠ w2.heap.size := by omega
          refine wpAnyH_ready (rs := [7]) (by kernel_rfl) (by simp) ?_
          refine (AllReadyH.cons rfl (fun K hK => ?_) AllReadyH.nil)
          rw [if_pos (by rfl)]
          have t0 := hTC2.cell 0 (by omega)
          have f0 := (hTC2 0 (by omega)).2
          have t1 := hTC2.cell 1 (by omega)
          have f1 := (hTC2 1 (by omega)).2
          have t2 := hTC2.cell 2 (by omega)
          have f2 := (hTC2 2 (by omega)).2
          have t3 := hTC2.cell 3 (by omega)
          have f3 := (hTC2 3 (by omega)).2
          go_simp
          have hXs : Below w2.heap.size w2 ((((wC2.setCell ⟨w2.heap.size, 0, none⟩ (.int .i64 z)).setCell ⟨w2.heap.size, 1, none⟩ (.int .i64 x)).setCell ⟨w2.heap.size, 2, none⟩ (.int .i64 y)).setCell ⟨w2.heap.size, 3, none⟩ (.slice (some ⟨g, 0, none⟩) n cg)) := (((hXC2.setCell hsL2 _).setCell hsL2 _).setCell hsL2 _).setCell hsL2 _
          have hAs := TileA.put (z := z) (x := x) (y := y) (v := .slice (some ⟨g, 0, none⟩) n cg) hTC2
          have hFs : FsAt ((((wC2.setCell ⟨w2.heap.size, 0, none⟩ (.int .i64 z)).setCell ⟨w2.heap.size, 1, none⟩ (.int .i64 x)).setCell ⟨w2.heap.size, 2, none⟩ (.int .i64 y)).setCell ⟨w2.heap.size, 3, none⟩ (.slice (some ⟨g, 0, none⟩) n cg)) g 0 n T := FsAt.put4 hFT hne2g hne2
          have hGs : g < ((((wC2.setCell ⟨w2.heap.size, 0, none⟩ (.int .i64 z)).setCell ⟨w2.heap.size, 1, none⟩ (.int .i64 x)).setCell ⟨w2.heap.size, 2, none⟩ (.int .i64 y)).setCell ⟨w2.heap.size, 3, none⟩ (.slice (some ⟨g, 0, none⟩) n cg)).heap.size := by simpa using hgl
          generalize hwS : ((((wC2.setCell _ _).setCell _ _).setCell _ _).setCell _ _ : World) = wS at *
          refine hK.out _ _ hXs (fun hHeld => ?_)
          clear hK K hwS t0 t1 t2 t3 f0 f1 f2 f3
          try simp only [Act.put, List.setIfInBounds_toArray, List.set_cons_zero, List.set_cons_succ]
          refine wpAnyH_done (by kernel_rfl) ?_ _
          refine NoPanic.normal ?_
          go_wp2_with fail
          go_meet
          case rel => exact ⟨_, g, cg, T, rfl, hAs, hFs, hGs, hsim, hXs⟩
      case rest =>
        obtain ⟨P, g, cg, T, rfl, hA, hFT, hgl, hsim, hBc⟩ := hcut
        generalize wc = wX at *
        have HRA := (show Hid _ from l8Raster_any P z x y g n cg T wX hA hFT hgl h12 (fun i hi => okF_sim (hsim i hi) (HOK.out i hi) hz) HRB.out)
        have eP : paintF T n z = paintS G n z := by funext X Y; exact paint_sim hsim
        rw [eP] at HRA
        have HTX : Hid (There wX (w.heap.size + 1) 2) := HT2.out.below hBc
        have HBX : Hid (Below w.heap.size w wX) := bl_then HB2.out hBc
        have hsX : w.heap.size + 1 < wX.heap.size := Nat.lt_of_lt_of_le hs2 hBc.size
        clear hA hFT hsim hBc eP d0 d1 d2 HLA
        go_wp2_with fail
        refine Calls.mono HRA.out ?_
        rintro e w9 ⟨v9, rfl, hR9, hb9⟩
        have HR9 : Hid (RowN wX.heap.size w9 v9 (rasK (paintS G n z) (x * 8) (y * 8) 64)) := hR9
        have hT9 := HTX.out.below hb9
        have HT9 : Hid (There w9 (w.heap.size + 1) 2) := hT9
        have HB9 : Hid (Below w.heap.size w w9) := bl_then HBX.out hb9
        have t0 := hT9.cell 0 (by omega)
        have t1 := hT9.cell 1 (by omega)
        have f0 := (hT9 0 (by omega)).2
        have f1 := (hT9 1 (by omega)).2
        obtain ⟨xa, xn, xc, hxs⟩ : ∃ xa xn xc, v9 = .slice xa xn xc := by
          obtain ⟨a', c', e', _, _⟩ := hR9.own
          exact ⟨_, _, _, e'⟩
        subst hxs
        clear hR9 hb9 hT9
        go_wp2_with fail
        obtain ⟨q0, q1⟩ := set2t (a := .int .i64 0) (b := .slice xa xn xc) HT9.out
        refine bodyPost_ret (v := .agg #[.int .i64 0, .slice xa xn xc]) (by simp [results, Tryz.results22, go_sem, q0, q1]) rfl ⟨_, by rw [HK.out], ?_, ?_⟩
        · rw [HL.out]
          exact (((HR9.out.other hsX).other hsX).wide (by omega)).own
        · exact (HB9.out.setCell (Nat.le_succ _) _).setCell (Nat.le_succ _) _
    · have HL : Hid (rrL z x y n G = []) := HKL.out (by rw [HK.out]; exact hf)
      have hcb : (featsC n G == 0) = false := by simpa using hf
      obtain ⟨fc, hfc⟩ : ∃ fc, featsC n G = fc := ⟨_, rfl⟩
      rw [hfc] at HK hcb ⊢
      have t0 := hT2.cell 0 (by omega)
      have t1 := hT2.cell 1 (by omega)
      have f0 := (hT2 0 (by omega)).2
      have f1 := (hT2 1 (by omega)).2
      clear hf hfc hT2 c0 c1 c2
      go_wp2_with fail
      obtain ⟨q0, q1⟩ := set2t (a := .int .i64 fc) (b := .slice none 0 0) HT2.out
      refine bodyPost_ret (v := .agg #[.int .i64 fc, .slice none 0 0]) (by simp [results, Tryz.results22, go_sem, q0, q1]) rfl ⟨_, by rw [HK.out], ?_, ?_⟩
      · rw [HL.out]; exact ownN_none _ _
      · exact (HB2.out.setCell (Nat.le_succ _) _).setCell (Nat.le_succ _) _
  · rw [hrc]
    have HQ : Hid (rrC z x y n G = 3) := by show _ = _; rw [HK.out, hrc]; rfl
    have HL : Hid (rrL z x y n G = []) := HKL.out (by rw [HQ.out]; omega)
    have t0 := hT1.cell 0 (by omega)
    have t1 := hT1.cell 1 (by omega)
    have f0 := (hT1 0 (by omega)).2
    have f1 := (hT1 1 (by omega)).2
    clear hrc hrb hT1 c0 c1 c2
    go_wp2_with fail
    obtain ⟨q0, q1⟩ := set2t (a := .int .i64 3) (b := .slice none 0 0) HT1.out
    refine bodyPost_ret (v := .agg #[.int .i64 3, .slice none 0 0]) (by simp [results, Tryz.results22, go_sem, q0, q1]) rfl ⟨_, by rw [HQ.out], ?_, ?_⟩
    · rw [HL.out]; exact ownN_none _ _
    · exact (HB1.out.setCell (Nat.le_succ _) _).setCell (Nat.le_succ _) _
theorem enter_rr1 (args : Array Value) (w : World) : (callFunc 58 args).run Tryz.prog w = .ok (.enter 58 args) w := by
  have h1 : (Tryz.f58).name ≠ "runtime.NumGoroutine" := by
    have : ((Tryz.f58).name == "runtime.NumGoroutine") = false := by kernel_rfl
    simpa using this
  have hb : ∃ c, (Tryz.f58).body = some c := ⟨_, rfl⟩
  obtain ⟨c, hb⟩ := hb
  simp [callFunc, Tryz.func58, h1, hb]
set_option maxHeartbeats 4000000 in
theorem refRaster1_any (B2 B3 b n cap : Nat) (z x y : Int) (G : Nat → Feat) (w : World) (h2 : w.cell? ⟨B2, 0, none⟩ = some (.slice (some ⟨b, 0, none⟩) n cap)) (h3 : w.cell? ⟨B3, 0, none⟩ = some (.int .i64 z)) (hg : FsAt w b 0 n G) (hbl : b < w.heap.size) (hs : SmallFs n G) (hcap : n ≤ cap) (hf : featsC n G = 0) (hpx : pixB z x y = true) :
    Calls Tryz.prog 58 #[.int .i64 x, .int .i64 y, .pointer (some ⟨B2, 0, none⟩), .pointer (some ⟨B3, 0, none⟩)] w fun e w' => e = .returned (.int .i64 (paintS G n z x y)) ∧ Below w.heap.size w w' := by
  have HP : Hid (Calls Tryz.prog 10 #[.slice (some ⟨b, 0, none⟩) n cap, .int .i64 z, .int .i64 x, .int .i64 y] w fun e w' => e = .returned (.agg #[.int .i64 0, .int .i64 (paintS G n z x y)]) ∧ Below w.heap.size w w') := impl_PaintedAt_ok z x y b n cap G w hg hbl hs hcap (pixB_zoom hpx) hf hpx
  clear hg hs hf hpx
  generalize paintS G n z x y = pv at *
  have f1 : ∀ w, (Instr.field 25 (.agg #[.int .i64 0, .int .i64 pv]) 1).run Tryz.prog w = .ok (.int .i64 pv) w := fun _ => by kernel_rfl
  go_enter Tryz.func58, Tryz.ntmps58
  go_wp2_with fail
  refine Calls.mono HP.out ?_
  rintro e w1 ⟨rfl, hb1⟩
  go_wp2
  go_ret
  exact ⟨rfl, hb1⟩
set_option maxHeartbeats 8000000 in
theorem impl_RefRaster_any (z x y : Int) (b n cap : Nat) (G : Nat → Feat) (w : World) (hg : FsAt w b 0 n G) (hbl : b < w.heap.size) (hs : SmallFs n G) (hcap : n ≤ cap) :
    Calls Tryz.prog 24 #[.slice (some ⟨b, 0, none⟩) n cap, refV z x y] w fun e w' => ∃ v, e = .returned (.agg #[.int .i64 (rrC z x y n G), v]) ∧ OwnN w' w.heap.size v (rrL z x y n G).length (nz (rrL z x y n G)) ∧ Below w.heap.size w w' := by
  have hmf : ∀ (fn : Fn) (first cap : Array Value) (w : World), (Instr.makeFunc fn first cap).run Tryz.prog w = .ok (.func fn first cap) w := fun _ _ _ _ => rfl
  have HG : Hid (FsAt w b 0 n G) := hg
  have HS : Hid (SmallFs n G) := hs
  clear hg hs
  obtain ⟨rc, hrc⟩ : ∃ rc, refC z x y = rc := ⟨_, rfl⟩
  obtain ⟨fc, hfc⟩ : ∃ fc, featsC n G = fc := ⟨_, rfl⟩
  have HFF : Hid (∀ W', Below w.heap.size w W' → Calls Tryz.prog 46 #[.slice (some ⟨b, 0, none⟩) n cap] W' fun e w' => e = .returned (.int .i64 fc) ∧ Below W'.heap.size W' w') := fun W' hW => hfc ▸ FeaturesFault_any b n cap G W' (HG.out.below hW hbl) (Nat.lt_of_lt_of_le hbl hW.size) HS.out hcap
  have HRF : Hid (∀ W', Calls Tryz.prog 45 #[.agg #[.int .i64 z, .int .i64 x, .int .i64 y]] W' fun e w' => e = .returned (.int .i64 rc) ∧ Below W'.heap.size W' w') := fun W' => hrc ▸ refFault_any z x y W'
  have HRC : Hid (refC z x y = rc) := hrc
  have HFC : Hid (featsC n G = fc) := hfc
  have HK : Hid (rrC z x y n G = or2 rc fc) := by show or2 _ _ = _; rw [hrc, hfc]
  have HKL : Hid (rrC z x y n G ≠ 0 → rrL z x y n G = []) := fun h => if_neg h
  clear hrc hfc
  go_enter Tryz.func24, Tryz.ntmps24
  go_wp2_with fail
  generalize hW : (((w.alloc _).alloc _).alloc _ : World) = W
  have HB0 : Hid (Below w.heap.size w W) := by show Below _ _ _; subst hW; (repeat (first | exact Below.refl _ _ | assumption | refine Below.drew ?_ | refine bl_alloc ?_ _ | refine bl_then ?_ (by assumption) | refine Below.setCell ?_ (by first | omega | (simp; done) | (simp; omega)) _ | refine bl_store ?_ ?_ _ _))
  have hszW : W.heap.size = w.heap.size + 3 := by subst hW; simp
  have HT : Hid (There W (w.heap.size + 1 + 1) 2) := by
    show There _ _ _
    subst hW
    have := there2t ((w.alloc (.cells #[.slice (some ⟨b, 0, none⟩) n cap] 27)).alloc (.cells #[.int .i64 z, .int .i64 x, .int .i64 y] 41)) (.int .i64 0) (.slice none 0 0) 39
    simpa using this
  have s0 : ∀ W', Below W.heap.size W W' → W'.cell? ⟨w.heap.size, 0, none⟩ = some (.slice (some ⟨b, 0, none⟩) n cap) := fun W' h => by rw [h.cell (by rw [hszW]; simp <;> omega)]; subst hW; simp [go_sem]
  have c0 : ∀ W', Below W.heap.size W W' → W'.cell? ⟨w.heap.size + 1, 0, none⟩ = some (.int .i64 z) := fun W' h => by rw [h.cell (by rw [hszW]; simp <;> omega)]; subst hW; simp [go_sem]
  have c1 : ∀ W', Below W.heap.size W W' → W'.cell? ⟨w.heap.size + 1, 1, none⟩ = some (.int .i64 x) := fun W' h => by rw [h.cell (by rw [hszW]; simp <;> omega)]; subst hW; simp [go_sem]
  have c2 : ∀ W', Below W.heap.size W W' → W'.cell? ⟨w.heap.size + 1, 2, none⟩ = some (.int .i64 y) := fun W' h => by rw [h.cell (by rw [hszW]; simp <;> omega)]; subst hW; simp [go_sem]
  clear hW
  have HSZ : Hid (W.heap.size = w.heap.size + 3) := hszW
  clear hszW
  refine wp_region_noPanic ?_
  refine wp_region_held_drew (S := fun W' => Below W.heap.size W W') (by kernel_rfl) (by (repeat (first | exact Below.refl _ _ | assumption | refine Below.drew ?_ | refine bl_alloc ?_ _ | refine bl_then ?_ (by assumption) | refine Below.setCell ?_ (by first | omega | (simp; done) | (simp; omega)) _ | refine bl_store ?_ ?_ _ _))) (fun hHeld => ?_)
  have hX0 : Below W.heap.size W W.drew := hHeld
  refine takeD (i := 0) (d := some 6) (v := ?va0) rfl rfl (by kernel_rfl) (by kernel_rfl) (by kernel_rfl) (fun _ _ _ h => h) (Or.inl ⟨by rfl, ?hya0⟩) hX0 ?_
  case hya0 => (intro w hSw; (try dsimp only at hSw); go_simp <;> with_reducible rfl)
  try simp only [Act.put, List.setIfInBounds_toArray, List.set_cons_zero, List.set_cons_succ]
  refine takeD (i := 2) (d := some 8) (v := ?va2) rfl rfl (by kernel_rfl) (by kernel_rfl) (by kernel_rfl) (fun _ _ _ h => h) (Or.inl ⟨by rfl, ?hya2⟩) hX0 ?_
  case hya2 => (intro w hSw; (try dsimp only at hSw); go_simp <;> with_reducible rfl)
  try simp only [Act.put, List.setIfInBounds_toArray, List.set_cons_zero, List.set_cons_succ]
  refine wpAnyH_ready (rs := [1]) (by kernel_rfl) (by simp) ?_
  refine (AllReadyH.cons rfl (fun K hK => ?_) AllReadyH.nil)
  rw [if_pos (by rfl)]
  go_simp
  refine Calls.mono (HRF.out _) ?_
  rintro e w1 ⟨rfl, hb1⟩
  have hX1 : Below W.heap.size W w1 := bl_then hX0 hb1
  go_wp2_with fail
  refine hK.out _ _ hX1 (fun hHeld => ?_)
  clear hK K hb1
  try simp only [Act.put, List.setIfInBounds_toArray, List.set_cons_zero, List.set_cons_succ]
  refine wpAnyH_ready (rs := [3]) (by kernel_rfl) (by simp) ?_
  refine (AllReadyH.cons rfl (fun K hK => ?_) AllReadyH.nil)
  rw [if_pos (by rfl)]
  go_simp
  refine Calls.mono (HFF.out _ (bl_then HB0.out hX1)) ?_
  rintro e w2 ⟨rfl, hb2⟩
  have hX2 : Below W.heap.size W w2 := bl_then hX1 hb2
  go_wp2_with fail
  refine hK.out _ _ hX2 (fun hHeld => ?_)
  clear hK K hb2
  try simp only [Act.put, List.setIfInBounds_toArray, List.set_cons_zero, List.set_cons_succ]
  refine wpAnyH_ready (rs := [4]) (by kernel_rfl) (by simp) ?_
  refine (AllReadyH.cons rfl (fun K hK => ?_) AllReadyH.nil)
  rw [if_pos (by rfl)]
  go_simp
  generalize hwA : (World.alloc _ _ : World) = wA
  have hbA : Below w2.heap.size w2 wA := by subst hwA; (repeat (first | exact Below.refl _ _ | assumption | refine Below.drew ?_ | refine bl_alloc ?_ _ | refine bl_then ?_ (by assumption) | refine Below.setCell ?_ (by first | omega | (simp; done) | (simp; omega)) _ | refine bl_store ?_ ?_ _ _))
  have g0 : wA.cell? ⟨w2.heap.size, 0, none⟩ = some (.int .i64 rc) := by subst hwA; simp [go_sem]
  have g1 : wA.cell? ⟨w2.heap.size, 1, none⟩ = some (.int .i64 fc) := by subst hwA; simp [go_sem]
  have hXA : Below W.heap.size W wA := bl_then hX2 hbA
  clear hwA hbA
  refine hK.out _ _ hXA (fun hHeld => ?_)
  clear hK K
  try simp only [Act.put, List.setIfInBounds_toArray, List.set_cons_zero, List.set_cons_succ]
  refine wpAnyH_ready (rs := [5]) (by kernel_rfl) (by simp) ?_
  refine (AllReadyH.cons rfl (fun K hK => ?_) AllReadyH.nil)
  rw [if_pos (by rfl)]
  go_simp
  refine (cmpOr2_any _ _ rc fc _ g0 g1).mono ?_
  rintro e w3 ⟨rfl, rfl⟩
  go_wp2_with fail
  refine hK.out _ _ hXA (fun hHeld => ?_)
  clear hK K g0 g1
  try simp only [Act.put, List.setIfInBounds_toArray, List.set_cons_zero, List.set_cons_succ]
  refine takeD (i := 6) (d := some 5) (v := ?vb6) rfl rfl (by kernel_rfl) (by kernel_rfl) (by kernel_rfl) (fun _ _ _ h => h) (Or.inl ⟨by rfl, ?hyb6⟩) hXA ?_
  case hyb6 => (intro w hSw; (try dsimp only at hSw); go_simp <;> with_reducible rfl)
  try simp only [Act.put, List.setIfInBounds_toArray, List.set_cons_zero, List.set_cons_succ]
  refine wpAnyH_done (by kernel_rfl) ?_ _
  refine NoPanic.normal ?_
  have HBA : Hid (Below w.heap.size w w3) := bl_then HB0.out hXA
  have hTA := HT.out.below hXA
  have HTA : Hid (There w3 (w.heap.size + 1 + 1) 2) := hTA
  have hsA : w.heap.size + 1 + 1 < w3.heap.size := by have := HSZ.out; have := hXA.size; omega
  by_cases hor : or2 rc fc = 0
  · obtain ⟨h0, h1⟩ := or2_zero hor
    have HRB : Hid (refB z x y = true) := by
      show _ = _
      rcases refC_cases z x y with ⟨_, h⟩ | ⟨h, _⟩
      · exact h
      · rw [HRC.out, h0] at h; omega
    have HF : Hid (featsC n G = 0) := HFC.out.trans h1
    have HQ : Hid (rrC z x y n G = 0) := HK.out.trans hor
    have HL : Hid (rrL z x y n G = rasK (paintS G n z) (x * 8) (y * 8) 64) := if_pos HQ.out
    have HXA : Hid (Below W.heap.size W w3) := hXA
    have HRS : Hid (Calls Tryz.prog 49 #[refV z x y, .func (.func 58) #[] #[.pointer (some ⟨w.heap.size, 0, none⟩), .pointer (some ⟨w.heap.size + 1, 0, none⟩)]] w3 fun e w' => ∃ v, e = .returned v ∧ RowN w3.heap.size w' v (rowsL (paintS G n z) (x * 8) (y * 8) 8 8) ∧ Below w3.heap.size w3 w') :=
      raster_any 58 _ z x y (paintS G n z) w3 HRB.out enter_rr1 (fun W' c r hW hc hr => by
        have hWW := bl_then HXA.out hW
        have hWw := bl_then HBA.out hW
        exact refRaster1_any w.heap.size (w.heap.size + 1) b n cap z _ _ G W' (s0 W' hWW) (c0 W' hWW) (HG.out.below hWw hbl) (Nat.lt_of_lt_of_le hbl hWw.size) HS.out hcap HF.out (pix_of_ref HRB.out c r hc hr))
    rw [rasK_64] at HRS
    have d0 := c0 w3 hXA
    have d1 := c1 w3 hXA
    have d2 := c2 w3 hXA
    rw [hor]
    clear hor hTA h0 h1 s0 c0 c1 c2 hX0 hX1 hX2 hXA
    go_wp2_with fail
    refine Calls.mono HRS.out ?_
    rintro e w9 ⟨v9, rfl, hR9, hb9⟩
    have HR9 : Hid (RowN w3.heap.size w9 v9 (rasK (paintS G n z) (x * 8) (y * 8) 64)) := hR9
    have hT9 := HTA.out.below hb9
    have HT9 : Hid (There w9 (w.heap.size + 1 + 1) 2) := hT9
    have HB9 : Hid (Below w.heap.size w w9) := bl_then HBA.out hb9
    have t0 := hT9.cell 0 (by omega)
    have t1 := hT9.cell 1 (by omega)
    have f0 := (hT9 0 (by omega)).2
    have f1 := (hT9 1 (by omega)).2
    obtain ⟨xa, xn, xc, hxs⟩ : ∃ xa xn xc, v9 = .slice xa xn xc := by
      obtain ⟨a', c', e', _, _⟩ := hR9.own
      exact ⟨_, _, _, e'⟩
    subst hxs
    clear hR9 hb9 hT9
    go_wp2_with fail
    obtain ⟨q0, q1⟩ := set2t (a := .int .i64 0) (b := .slice xa xn xc) HT9.out
    refine bodyPost_ret (v := .agg #[.int .i64 0, .slice xa xn xc]) (by simp [results, Tryz.results24, go_sem, q0, q1]) rfl ⟨_, by rw [HQ.out], ?_, ?_⟩
    · rw [HL.out]
      exact (((HR9.out.other hsA).other hsA).wide (by omega)).own
    · exact Below.setCell (Below.setCell HB9.out (show w.heap.size ≤ w.heap.size + 1 + 1 by omega) _) (show w.heap.size ≤ w.heap.size + 1 + 1 by omega) _
  · have HL : Hid (rrL z x y n G = []) := HKL.out (by rw [HK.out]; exact hor)
    have hcb : (or2 rc fc == 0) = false := by simpa using hor
    have t0 := hTA.cell 0 (by omega)
    have t1 := hTA.cell 1 (by omega)
    have f0 := (hTA 0 (by omega)).2
    have f1 := (hTA 1 (by omega)).2
    generalize or2 rc fc = oc at *
    clear hor hTA s0 c0 c1 c2
    go_wp2_with fail
    obtain ⟨q0, q1⟩ := set2t (a := .int .i64 oc) (b := .slice none 0 0) HTA.out
    refine bodyPost_ret (v := .agg #[.int .i64 oc, .slice none 0 0]) (by simp [results, Tryz.results24, go_sem, q0, q1]) rfl ⟨_, by rw [HK.out], ?_, ?_⟩
    · rw [HL.out]; exact ownN_none _ _
    · exact Below.setCell (Below.setCell HBA.out (show w.heap.size ≤ w.heap.size + 1 + 1 by omega) _) (show w.heap.size ≤ w.heap.size + 1 + 1 by omega) _
end Go.Proofs.YtaodbplepegapaaGreat
