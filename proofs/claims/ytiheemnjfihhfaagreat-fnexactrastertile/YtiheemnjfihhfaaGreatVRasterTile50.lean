/- The law of RasterTile returns true at every tile. -/
import Derived.Test.YtiheemnjfihhfaaGreatVRasterTile44
import Derived.Test.YtiheemnjfihhfaaGreatVRasterTile49
import Derived.Test.YtiheemnjfihhfaaGreatVRasterTile28
namespace Go.Proofs.YtiheemnjfihhfaaGreat
open Go.RowKit
set_option linter.unusedSimpArgs false
set_option linter.unusedVariables false
set_option maxRecDepth 100000

/-- Block p holds a code and a list. -/
def R2N (w : World) (p : Nat) (c : Int) (v : Value) : Prop := w.cell? ⟨p, 0, none⟩ = some (.int .i64 c) ∧ w.cell? ⟨p, 1, none⟩ = some v
theorem R2N.row {w w' : World} {p : Nat} {row : Option Nat} {c : Int} {v : Value} (h : R2N w p c v) (hg : w.grownBy w' row) (hs : ∀ s, row = some s → p ≠ s) : R2N w' p c v := ⟨hg.cell h.1 (fun e => hs _ e.symm rfl), hg.cell h.2 (fun e => hs _ e.symm rfl)⟩
theorem R2N.below {w w' : World} {p : Nat} {c : Int} {v : Value} (h : R2N w p c v) (hb : Below w.heap.size w w') : R2N w' p c v := ⟨(hb.cell (World.block_lt_of_cell? _ _ h.1)).trans h.1, (hb.cell (World.block_lt_of_cell? _ _ h.2)).trans h.2⟩
theorem R2N.new (w : World) (c : Int) (v : Value) (t : TypeId) : R2N (w.alloc (.cells #[.int .i64 c, v] t)) w.heap.size c v := by
  refine ⟨?_, ?_⟩ <;> simp [go_sem]
theorem R2N.mid {w w' : World} {lo hi p : Nat} {c : Int} {v : Value} (h : R2N w p c v) (hM : MidB lo hi w w') (ho : p < lo ∨ hi ≤ p) : R2N w' p c v := ⟨hM.cell h.1 ho, hM.cell h.2 ho⟩
theorem ownN_mid {w w' : World} {base lo hi : Nat} {v : Value} {n : Nat} {Z : Nat → Int} (h : OwnN w base v n Z) (hM : MidB lo hi w w') (hb : hi ≤ base) : OwnN w' base v n Z := by
  obtain ⟨a, cap, hv, hc, h0 | ⟨b, ha, hbb, hl, hp, ht⟩⟩ := h
  · exact ⟨a, cap, hv, hc, .inl h0⟩
  · exact ⟨a, cap, hv, hc, .inr ⟨b, ha, hbb, Nat.lt_of_lt_of_le hl hM.size, fun i hi => hM.cell (hp i hi) (.inr (by omega)), hM.there ht (.inr (by omega))⟩⟩
theorem TileA.mid {w w' : World} {lo hi p : Nat} {z x y : Int} {v : Value} (h : TileA w p z x y v) (hM : MidB lo hi w w') (ho : p < lo ∨ hi ≤ p) : TileA w' p z x y v := ⟨hM.cell h.1 ho, hM.cell h.2.1 ho, hM.cell h.2.2.1 ho, hM.cell h.2.2.2 ho⟩
theorem TileA.at {w w' : World} {p : Nat} {z x y : Int} {v : Value} (h : TileA w p z x y v) (hb : Below w.heap.size w w') : TileA w' p z x y v := h.below hb (World.block_lt_of_cell? _ _ h.1)
theorem tile_new (w : World) (z x y : Int) (v : Value) (t : TypeId) : TileA (w.alloc (.cells #[.int .i64 z, .int .i64 x, .int .i64 y, v] t)) w.heap.size z x y v := by
  refine ⟨?_, ?_, ?_, ?_⟩ <;> simp [go_sem]
theorem rt_same {z x y : Int} {n : Nat} {G F : Nat → Feat} (h : ∀ i, i < n → (G i).same (F i)) : rtC z x y n G = rtC z x y n F ∧ rtL z x y n G = rtL z x y n F := by
  have e1 : featsC n G = featsC n F := featsC_same h
  have e2 : ordS n G = ordS n F := by
    unfold ordS
    rw [decide_eq_decide]
    refine forall_congr' fun i => forall_congr' fun hi => ?_
    have a := h i (by omega)
    have b := h (i + 1) (by omega)
    have e : ltF (G i) (G (i + 1)) = ltF (F i) (F (i + 1)) := by unfold ltF; rw [a.1, a.2.1, b.1, b.2.1]
    rw [e]
  have e3 : rtC z x y n G = rtC z x y n F := by unfold rtC; rw [e1, e2]
  have e4 : paintF G n z = paintF F n z := by
    funext X Y
    unfold paintF
    have : ∀ k, k ≤ n → paintI (fun i => covF z (centI z X) (centI z Y) (G i)) (fun i => (G i).id) k = paintI (fun i => covF z (centI z X) (centI z Y) (F i)) (fun i => (F i).id) k := fun k hk => by
      induction k with
      | zero => rfl
      | succ k ih =>
        obtain ⟨i1, i2, i3, i4, i5, i6, i7, i8, i9⟩ := h k (by omega)
        have ec : covF z (centI z X) (centI z Y) (G k) = covF z (centI z X) (centI z Y) (F k) := by unfold covF; rw [i3, i4, i5, i6, i7]
        rw [paintI, paintI, ih (by omega), ec, i1]
    exact this n (Nat.le_refl _)
  exact ⟨e3, by unfold rtL; rw [e3, e4]⟩
theorem rtL_len (z x y : Int) (n : Nat) (G : Nat → Feat) : (rtL z x y n G).length ≤ 1048576 := by
  unfold rtL
  split
  · rw [rasK_len]; omega
  · simp
set_option maxHeartbeats 8000000 in
theorem FnExactRasterTile_walk (z x y : Int) (a : Option Addr) (n cap : Nat) (F : Nat → Feat) (w : World) (h : IsFs w a n F ∧ CameFs n F) :
    Calls Tryz.prog 3 #[tileV z x y (.slice a n cap)] w fun e w' => e = .returned (.bool true) ∧ Below w.heap.size w w' := by
  obtain ⟨hf, hc⟩ := h
  have HI0' : Hid (IsFs w a n F) := hf
  have HC : Hid (CameFs n F) := hc
  clear hf hc
  go_enter Tryz.func3, Tryz.ntmps3
  go_wp2_with fail
  generalize hW : (w.alloc _ : World) = W
  have HB0 : Hid (Below w.heap.size w W) := by show Below _ _ _; subst hW; (repeat (first | exact Below.refl _ _ | assumption | refine Below.drew ?_ | refine bl_alloc ?_ _ | refine bl_then ?_ (by assumption) | refine Below.setCell ?_ (by first | omega | (simp; done) | (simp; omega)) _ | refine bl_store ?_ ?_ _ _))
  have HAW : Hid (TileA W w.heap.size z x y (.slice a n cap)) := by show TileA _ _ _ _ _ _; subst hW; exact tile_new _ _ _ _ _ _
  have hlW : w.heap.size < W.heap.size := by subst hW; simp
  clear hW
  have HI : Hid (IsFs W a n F) := HI0'.out.below HB0.out
  clear HI0'
  refine (szTile_any z x y a n cap F _ HI.out HC.out).mono ?_
  rintro e w1 ⟨rfl | ⟨m, hm, hS, rfl⟩, hb1⟩
  · go_wp2
    go_ret
    exact ⟨rfl, bl_then HB0.out hb1⟩
  have HS : Hid (SmallFs n F) := hS
  have hall : Hid (∀ i, i < n → (F i).n ≤ 1048576) := fun i hi => (hS.2 i hi).1
  have hn := hS.1
  have hneg : ¬ ((m : Nat) : Int) < 0 := by omega
  have hB1 : Below W.heap.size W w1 := hb1
  clear hb1 hS
  have hMn : (rtL z x y n F).length ≤ 1048576 := rtL_len z x y n F
  obtain ⟨C, hCd⟩ : ∃ C, C = rtC z x y n F := ⟨_, rfl⟩
  obtain ⟨Z, hZd⟩ : ∃ Z, Z = nz (rtL z x y n F) := ⟨_, rfl⟩
  obtain ⟨M, hMd⟩ : ∃ M, M = (rtL z x y n F).length := ⟨_, rfl⟩
  have HSP : Hid (∀ b w G B, OwnFs w B b n F G → Calls Tryz.prog 5 #[tileV z x y (.slice (some ⟨b, 0, none⟩) n n)] w fun e w' => ∃ v, e = .returned (.agg #[.int .i64 C, v]) ∧ OwnN w' w.heap.size v M Z ∧ Below w.heap.size w w') := fun b w G B hO => by
    obtain ⟨e1, e2⟩ := rt_same (z := z) (x := x) (y := y) (fun i hi => (hO.2.2.2 i hi).1)
    refine (spec_RasterTile_any z x y b n n G w hO.2.2.1 hO.2.1 (hO.small HS.out)).mono fun e w' ⟨v, he, hr, hb⟩ => ⟨v, by rw [he, e1, hCd], ?_, hb⟩
    rw [e2] at hr
    rw [hZd, hMd]
    exact hr
  have HIM : Hid (∀ b w G B, OwnFs w B b n F G → Calls Tryz.prog 7 #[tileV z x y (.slice (some ⟨b, 0, none⟩) n n)] w fun e w' => ∃ v, e = .returned (.agg #[.int .i64 C, v]) ∧ OwnN w' w.heap.size v M Z ∧ Below w.heap.size w w') := fun b w G B hO => by
    obtain ⟨e1, e2⟩ := rt_same (z := z) (x := x) (y := y) (fun i hi => (hO.2.2.2 i hi).1)
    refine (impl_RasterTile_any z x y b n n G w hO.2.2.1 hO.2.1 (hO.small HS.out) (Nat.le_refl _)).mono fun e w' ⟨v, he, hr, hb⟩ => ⟨v, by rw [he, e1, hCd], ?_, hb⟩
    rw [e2] at hr
    rw [hZd, hMd]
    exact hr
  rw [← hMd] at hMn
  clear hCd hZd hMd
  obtain ⟨k0, k1, k2, k3⟩ := HAW.out.below hB1 hlW
  go_wp2_with fail
  refine (toTile_any z x y a n cap F _ (HI.out.below hB1) hn hall.out).mono ?_
  rintro e w2 ⟨b2, G2, rfl, hO2, hb2⟩
  have HO2 : Hid (OwnFs w2 w1.heap.size b2 n F G2) := hO2
  have hB2 : Below W.heap.size W w2 := bl_then hB1 hb2
  clear hO2 hb2 k0 k1 k2 k3
  go_wp2_with fail
  refine (HSP.out b2 _ G2 _ HO2.out).mono ?_
  rintro e w3 ⟨v0, rfl, hO3, hb3⟩
  obtain ⟨a0, cap0, rfl, hc0, hI0⟩ := hO3.pts
  have hB3 : Below W.heap.size W w3 := bl_then hB2 hb3
  have HI0 : Hid (IsNs w3 a0 M Z) := hI0
  clear hb3 hB2 hB1 HO2 hO3 hI0
  obtain ⟨k0, k1, k2, k3⟩ := HAW.out.below hB3 hlW
  have hl3 : w.heap.size < w3.heap.size := World.block_lt_of_cell? _ _ k0
  go_wp2_with fail
  generalize hW3 : (w3.alloc _ : World) = w3'
  have hb3' : Below w3.heap.size w3 w3' := by subst hW3; (repeat (first | exact Below.refl _ _ | assumption | refine Below.drew ?_ | refine bl_alloc ?_ _ | refine bl_then ?_ (by assumption) | refine Below.setCell ?_ (by first | omega | (simp; done) | (simp; omega)) _ | refine bl_store ?_ ?_ _ _))
  have HR0 : Hid (R2N w3' w3.heap.size C (.slice a0 M cap0)) := by show R2N _ _ _ _; subst hW3; exact R2N.new _ _ _ _
  have hs3 : w3.heap.size < w3'.heap.size := by subst hW3; simp
  clear hW3 k0 k1 k2 k3
  have hB3' : Below W.heap.size W w3' := bl_then hB3 hb3'
  have HI3 : Hid (UnderN w3'.heap.size w3' a0 M Z) := HI0.out.below hb3'
  have hws3 : W.heap.size ≤ w3.heap.size := hB3.size
  clear HI0 hb3' hB3
  refine (toTile_own z x y a n cap F _ (HI.out.below hB3') hn hall.out).mono ?_
  rintro e w4 ⟨b4, G4, rfl, hO4, ⟨q4, hQ4⟩, hb4⟩
  have HO4 : Hid (OwnFs w4 w3'.heap.size b4 n F G4) := hO4
  have HQ4 : Hid (OwnQ w4 w3'.heap.size w4.heap.size b4 n (fun i => (F i).n) (fun i => (F i).n) q4) := hQ4
  have Hb4 : Hid (Below w3'.heap.size w3' w4) := hb4
  have hs4 := hb4.size
  clear hO4 hQ4 hb4
  go_wp2_with fail
  generalize hVV : (w4.alloc _ : World) = V
  have hb4V : Below w4.heap.size w4 V := by subst hVV; (repeat (first | exact Below.refl _ _ | assumption | refine Below.drew ?_ | refine bl_alloc ?_ _ | refine bl_then ?_ (by assumption) | refine Below.setCell ?_ (by first | omega | (simp; done) | (simp; omega)) _ | refine bl_store ?_ ?_ _ _))
  have HXV : Hid (TileA V w4.heap.size z x y (.slice (some ⟨b4, 0, none⟩) n n)) := by show TileA _ _ _ _ _ _; subst hVV; exact tile_new _ _ _ _ _ _
  have hs4V : w4.heap.size < V.heap.size := by subst hVV; simp
  clear hVV
  have HOV : Hid (OwnFs V w3'.heap.size b4 n F G4) := HO4.out.below hb4V
  have HQV : Hid (OwnQ V w3'.heap.size w4.heap.size b4 n (fun i => (F i).n) (fun i => (F i).n) q4) := HQ4.out.below hb4V
  have HbV : Hid (Below w3'.heap.size w3' V) := bl_then Hb4.out hb4V
  clear HO4 HQ4 Hb4 hb4V
  refine (HIM.out b4 _ G4 _ HOV.out).mono ?_
  rintro e w5 ⟨v1, rfl, hO5', hb5⟩
  obtain ⟨a1, cap1, rfl, hc1, hI1⟩ := hO5'.pts
  have HW5 : Hid (OwnN w5 V.heap.size (.slice a1 M cap1) M Z) := hO5'
  have HU5 : Hid (UnderN w5.heap.size w5 a1 M Z) := hI1
  have HO5 : Hid (OwnFs w5 w3'.heap.size b4 n F G4) := HOV.out.below hb5
  have HQ5 : Hid (OwnQ w5 w3'.heap.size w4.heap.size b4 n (fun i => (F i).n) (fun i => (F i).n) q4) := HQV.out.below hb5
  have HX5 : Hid (TileA w5 w4.heap.size z x y (.slice (some ⟨b4, 0, none⟩) n n)) := HXV.out.at hb5
  have Hb5 : Hid (Below w3'.heap.size w3' w5) := bl_then HbV.out hb5
  have hs5 := hb5.size
  clear hb5 hO5' hI1 HOV HQV HbV HXV
  obtain ⟨k0, k1⟩ := HR0.out.below Hb5.out
  have hp0 : w3.heap.size < w5.heap.size := by omega
  go_wp2_with fail
  generalize hW6 : (w5.alloc _ : World) = w6
  have hb6 : Below w5.heap.size w5 w6 := by subst hW6; (repeat (first | exact Below.refl _ _ | assumption | refine Below.drew ?_ | refine bl_alloc ?_ _ | refine bl_then ?_ (by assumption) | refine Below.setCell ?_ (by first | omega | (simp; done) | (simp; omega)) _ | refine bl_store ?_ ?_ _ _))
  have HRg6 : Hid (R2N w6 w5.heap.size C (.slice a1 M cap1)) := by show R2N _ _ _ _; subst hW6; exact R2N.new _ _ _ _
  have hs6 : w5.heap.size < w6.heap.size := by subst hW6; simp
  clear hW6 k0 k1
  have Hb6 : Hid (Below w3'.heap.size w3' w6) := bl_then Hb5.out hb6
  have hs36 := Hb6.out.size
  refine (eqIntsResult_any C _ _ _ _ _ Z _ (HW5.out.below hb6).is ((HI3.out.below Hb6.out (Nat.le_refl _)).is hs36) hMn).mono ?_
  rintro e w7 ⟨rfl, hb7⟩
  have hb67 : Below w5.heap.size w5 w7 := bl_then hb6 hb7
  have HW7 : Hid (OwnN w7 V.heap.size (.slice a1 M cap1) M Z) := HW5.out.below hb67
  have HO7 : Hid (OwnFs w7 w3'.heap.size b4 n F G4) := HO5.out.below hb67
  have HQ7 : Hid (OwnQ w7 w3'.heap.size w4.heap.size b4 n (fun i => (F i).n) (fun i => (F i).n) q4) := HQ5.out.below hb67
  have HX7 : Hid (TileA w7 w4.heap.size z x y (.slice (some ⟨b4, 0, none⟩) n n)) := HX5.out.at hb67
  have HRg7 : Hid (R2N w7 w5.heap.size C (.slice a1 M cap1)) := HRg6.out.below hb7
  have Hb7 : Hid (Below w3'.heap.size w3' w7) := bl_then Hb6.out hb7
  have hs7 := hb7.size
  clear hb6 hb7 hb67 HW5 HO5 HQ5 HX5 HRg6 Hb6 Hb5
  have HB3 : Hid (Below W.heap.size W w3') := hB3'
  clear hB3'
  have hws : W.heap.size ≤ w3'.heap.size := HB3.out.size
  have HBW7 : Hid (Below W.heap.size W w7) := bl_then HB3.out Hb7.out
  have hl47 : w4.heap.size < w7.heap.size := World.block_lt_of_cell? _ _ HX7.out.1
  have c0 : ∀ W', Below w7.heap.size w7 W' → W'.cell? ⟨w.heap.size, 0, none⟩ = some (.int .i64 z) := fun W' h => (HAW.out.below (bl_then HBW7.out h) hlW).1
  have c1 : ∀ W', Below w7.heap.size w7 W' → W'.cell? ⟨w.heap.size, 1, none⟩ = some (.int .i64 x) := fun W' h => (HAW.out.below (bl_then HBW7.out h) hlW).2.1
  have c2 : ∀ W', Below w7.heap.size w7 W' → W'.cell? ⟨w.heap.size, 2, none⟩ = some (.int .i64 y) := fun W' h => (HAW.out.below (bl_then HBW7.out h) hlW).2.2.1
  have c3 : ∀ W', Below w7.heap.size w7 W' → W'.cell? ⟨w.heap.size, 3, none⟩ = some (.slice a n cap) := fun W' h => (HAW.out.below (bl_then HBW7.out h) hlW).2.2.2
  have x0 : ∀ W', Below w7.heap.size w7 W' → W'.cell? ⟨w4.heap.size, 0, none⟩ = some (.int .i64 z) := fun W' h => (HX7.out.below h hl47).1
  have x1 : ∀ W', Below w7.heap.size w7 W' → W'.cell? ⟨w4.heap.size, 1, none⟩ = some (.int .i64 x) := fun W' h => (HX7.out.below h hl47).2.1
  have x2 : ∀ W', Below w7.heap.size w7 W' → W'.cell? ⟨w4.heap.size, 2, none⟩ = some (.int .i64 y) := fun W' h => (HX7.out.below h hl47).2.2.1
  have x3 : ∀ W', Below w7.heap.size w7 W' → W'.cell? ⟨w4.heap.size, 3, none⟩ = some (.slice (some ⟨b4, 0, none⟩) n n) := fun W' h => (HX7.out.below h hl47).2.2.2
  have hr7 : Below w7.heap.size w7 w7 := Below.refl _ _
  go_wp2_with fail
  go_region_held3 (fun W' => Below w7.heap.size w7 W') ((repeat (first | exact Below.refl _ _ | assumption | refine Below.drew ?_ | refine bl_alloc ?_ _ | refine bl_then ?_ (by assumption) | refine Below.setCell ?_ (by first | omega | (simp; done) | (simp; omega)) _ | refine bl_store ?_ ?_ _ _)))
    (first
      | (go_at_call 6; refine (toTile_any z x y a n cap F _ (HI.out.below (bl_then HBW7.out (by assumption))) hn hall.out).mono ?_; rintro e w8 ⟨b8, G8, rfl, hO8, hb8⟩)
      | (go_at_call 9; refine (eqTile_any z x y b4 b8 n _ _ F G4 G8 _ (HO7.out.below (by assumption)) hO8 HS.out).mono ?_; rintro e w9 ⟨rfl, hb9⟩))
  have hb79 : Below w7.heap.size w7 w9 := by assumption
  have HW9 : Hid (OwnN w9 V.heap.size (.slice a1 M cap1) M Z) := HW7.out.below hb79
  have HQ9 : Hid (OwnQ w9 w3'.heap.size w4.heap.size b4 n (fun i => (F i).n) (fun i => (F i).n) q4) := HQ7.out.below hb79
  have HX9 : Hid (TileA w9 w4.heap.size z x y (.slice (some ⟨b4, 0, none⟩) n n)) := HX7.out.at hb79
  have HRg9 : Hid (R2N w9 w5.heap.size C (.slice a1 M cap1)) := HRg7.out.below hb79
  have Hb9 : Hid (Below w3'.heap.size w3' w9) := bl_then Hb7.out hb79
  have hs9 := hb79.size
  obtain ⟨y0, y1, y2, y3⟩ := HX9.out
  clear c0 c1 c2 c3 x0 x1 x2 x3 hb79 hb8 hb9 hO8 HW7 HO7 HQ7 HX7 HRg7 Hb7 HBW7
  go_wp2_with fail
  -- the argument is marked
  refine (markTile_any z x y w3'.heap.size w4.heap.size b4 n n (fun i => (F i).n) (fun i => (F i).n) q4 w9 HQ9.out hn hall.out).mono ?_
  rintro e wa ⟨rfl, hMa⟩
  have hsa := hMa.size
  have Hba : Hid (Below w3'.heap.size w3' wa) := Hb9.out.trans (hMa.below (by omega))
  have HWa : Hid (OwnN wa V.heap.size (.slice a1 M cap1) M Z) := ownN_mid HW9.out hMa (Nat.le_of_lt hs4V)
  have HRga : Hid (R2N wa w5.heap.size C (.slice a1 M cap1)) := HRg9.out.mid hMa (.inr (by omega))
  have hqk : ¬ ((kS (fun i => (F i).n) 1 n : Nat) : Int) < 0 := by omega
  generalize ((kS (fun i => (F i).n) 1 n : Nat) : Int) = qk at *
  clear hMa HW9 HQ9 HX9 HRg9 Hb9 y0 y1 y2 y3
  obtain ⟨g0, g1⟩ := HRga.out
  obtain ⟨p0, p1⟩ := HR0.out.below Hba.out
  have hs3a := Hba.out.size
  go_wp2_with fail
  refine (eqIntsResult_any C _ _ _ _ _ Z _ HWa.out.is ((HI3.out.below Hba.out (Nat.le_refl _)).is hs3a) hMn).mono ?_
  rintro e wb ⟨rfl, hbb⟩
  have hsb := hbb.size
  have HWb : Hid (OwnN wb V.heap.size (.slice a1 M cap1) M Z) := HWa.out.below hbb
  have HRgb : Hid (R2N wb w5.heap.size C (.slice a1 M cap1)) := HRga.out.below hbb
  have Hbb : Hid (Below w3'.heap.size w3' wb) := bl_then Hba.out hbb
  clear g0 g1 p0 p1 hbb HWa HRga Hba
  obtain ⟨g0, g1⟩ := HRgb.out
  -- the answer is marked
  obtain ⟨row, hrow, Hmark⟩ := mark_ownN C V.heap.size w5.heap.size M cap1 a1 Z Z wb w5 HWb.out HU5.out hMn
  have Hmark' := (show Hid _ from Hmark)
  have Hrow := (show Hid _ from hrow)
  clear Hmark hrow
  have hqm : ¬ ((1 + M : Nat) : Int) < 0 := by omega
  have Hheld : Hid (∀ w, OwnN w V.heap.size (.slice a1 M cap1) M (mkN 1) → Calls Tryz.prog 12 #[.agg #[.int .i64 C, .slice a1 M cap1], .int .i64 1] w fun e w' => e = .returned (.int .i64 ((1 + M : Nat) : Int)) ∧ Below w.heap.size w w') := fun w h => heldIntsResult_any C a1 M cap1 w h.is hMn
  generalize ((1 + M : Nat) : Int) = qm at *
  go_wp2_with fail
  refine Calls.mono Hmark'.out ?_
  rintro e wc ⟨rfl, hGc, hOc⟩
  have hwc := hGc.size
  have HRgc : Hid (R2N wc w5.heap.size C (.slice a1 M cap1)) := HRgb.out.row hGc (fun s hs => by have := Hrow.out s hs; omega)
  have HWc : Hid (OwnN wc V.heap.size (.slice a1 M cap1) M (mkN 1)) := hOc
  have Hbc : Hid (Below w3'.heap.size w3' wc) := Hbb.out.trans (below_rowN hGc (fun s hs => by have := Hrow.out s hs; omega) (by omega))
  clear g0 g1 hOc hGc HWb HRgb Hbb Hmark'
  obtain ⟨g0, g1⟩ := HRgc.out
  go_wp2_with fail
  refine (Hheld.out _ HWc.out).mono ?_
  rintro e wd ⟨rfl, hbd⟩
  have hsd := hbd.size
  have Hbd : Hid (Below w3'.heap.size w3' wd) := bl_then Hbc.out hbd
  have HRgd : Hid (R2N wd w5.heap.size C (.slice a1 M cap1)) := HRgc.out.below hbd
  have HWd : Hid (OwnN wd V.heap.size (.slice a1 M cap1) M (mkN 1)) := HWc.out.below hbd
  clear g0 g1 hbd HRgc HWc Hbc
  obtain ⟨k0, k1, k2, k3⟩ := HAW.out.below (bl_then HB3.out Hbd.out) hlW
  go_wp2_with fail
  -- once more
  refine (toTile_any z x y a n cap F _ (HI.out.below (bl_then HB3.out Hbd.out)) hn hall.out).mono ?_
  rintro e we ⟨be, Ge, rfl, hOe, hbe⟩
  have HOe : Hid (OwnFs we wd.heap.size be n F Ge) := hOe
  have Hbe : Hid (Below wd.heap.size wd we) := hbe
  clear hOe hbe k0 k1 k2 k3
  go_wp2_with fail
  refine (HIM.out be _ Ge _ HOe.out).mono ?_
  rintro e wf ⟨vf, rfl, hOf, hbf⟩
  obtain ⟨af, capf, rfl, hcf, hIf⟩ := hOf.pts
  have hbdf := bl_then Hbe.out hbf
  have hsf := hbdf.size
  have Hbf : Hid (Below w3'.heap.size w3' wf) := bl_then Hbd.out hbdf
  have HRgf : Hid (R2N wf w5.heap.size C (.slice a1 M cap1)) := HRgd.out.below hbdf
  have HWf : Hid (OwnN wf V.heap.size (.slice a1 M cap1) M (mkN 1)) := HWd.out.below hbdf
  have HJf : Hid (IsNs wf af M Z) := hIf
  clear hbf hOf hIf HOe Hbe hbdf HRgd HWd Hbd
  obtain ⟨p0, p1⟩ := HR0.out.below Hbf.out
  have hpf : w3.heap.size < wf.heap.size := by omega
  go_wp2_with fail
  generalize hWg : (wf.alloc _ : World) = wg
  have hbg : Below wf.heap.size wf wg := by subst hWg; (repeat (first | exact Below.refl _ _ | assumption | refine Below.drew ?_ | refine bl_alloc ?_ _ | refine bl_then ?_ (by assumption) | refine Below.setCell ?_ (by first | omega | (simp; done) | (simp; omega)) _ | refine bl_store ?_ ?_ _ _))
  clear hWg p0 p1
  have hwg := hbg.size
  refine (eqIntsResult_any C _ _ _ _ _ Z _ (HJf.out.below hbg) ((HI3.out.below (bl_then Hbf.out hbg) (Nat.le_refl _)).is (by omega)) hMn).mono ?_
  rintro e wh ⟨rfl, hbh⟩
  have hbfh := bl_then hbg hbh
  have Hbh : Hid (Below w3'.heap.size w3' wh) := bl_then Hbf.out hbfh
  have HWh : Hid (OwnN wh V.heap.size (.slice a1 M cap1) M (mkN 1)) := HWf.out.below hbfh
  obtain ⟨g0, g1⟩ := HRgf.out.below hbfh
  clear hbg hbh hbfh HRgf HWf Hbf HJf
  go_wp2_with fail
  refine (Hheld.out _ HWh.out).mono ?_
  rintro e wi ⟨rfl, hbi⟩
  have HBi : Hid (Below w.heap.size w wi) := bl_then HB0.out (bl_then HB3.out (bl_then Hbh.out hbi))
  clear hbi g0 g1
  go_wp2
  go_ret
  exact ⟨rfl, HBi.out⟩
end Go.Proofs.YtiheemnjfihhfaaGreat
