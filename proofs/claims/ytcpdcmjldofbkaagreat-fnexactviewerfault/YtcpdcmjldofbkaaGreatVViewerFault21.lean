/- Several texts in one. -/
import Derived.Test.YtcpdcmjldofbkaaGreatVViewerFault16
import Derived.Test.YtcpdcmjldofbkaaGreatVViewerFault18
import Derived.Test.YtcpdcmjldofbkaaGreatVViewerFault20
import Derived.Test.YtcpdcmjldofbkaaGreatVViewerFault19
import Derived.Test.YtcpdcmjldofbkaaGreatVViewerFault17
import Derived.Test.YtcpdcmjldofbkaaGreatVViewerFault4
import Derived.Test.YtcpdcmjldofbkaaGreatVViewerFault9

/- What is painted at a pixel, and the raster of a tile: the model. -/

namespace Go.Proofs.YtcpdcmjldofbkaaGreat
open Go.RowKit
set_option linter.unusedSimpArgs false
set_option linter.unusedVariables false
set_option maxRecDepth 100000

/-- Whether a feature, as it is, covers a centre. -/
def covF (z cx cy : Int) (f : Feat) : Bool := coverB f.ki f.wi z cx cy (dblL f.X f.Y f.n)
/-- The last one for which it is so. -/
def paintI (C : Nat → Bool) (I : Nat → Int) : Nat → Int
  | 0 => 0
  | n + 1 => if C n = true then I n else paintI C I n
/-- What is painted at a pixel. -/
def paintF (G : Nat → Feat) (n : Nat) (z x y : Int) : Int := paintI (fun i => covF z (centI z x) (centI z y) (G i)) (fun i => (G i).id) n
theorem paintF_yes {G : Nat → Feat} {n : Nat} {z x y : Int} (h : covF z (centI z x) (centI z y) (G n) = true) : paintF G (n + 1) z x y = (G n).id := by
  unfold paintF; rw [paintI, if_pos h]
theorem paintF_no {G : Nat → Feat} {n : Nat} {z x y : Int} (h : covF z (centI z x) (centI z y) (G n) = false) : paintF G (n + 1) z x y = paintF G n z x y := by
  unfold paintF; rw [paintI, if_neg (by rw [h]; simp)]
/-- What a feature without a fault has. -/
structure OkF (f : Feat) : Prop where
  kn : kindN f.ki f.n
  n0 : 0 < f.n
  n12 : f.n ≤ 12
  inw : ∀ i, i < f.n → inW (f.X i) (f.Y i) = true
  wid : 0 ≤ f.wi ∧ f.wi ≤ 3
theorem okF_of {f : Feat} (h : featC f.id f.la f.ki f.wi f.n f.X f.Y f.lab f.pr = 0) : OkF f := by
  obtain ⟨hk, h0, h12, hkn, hin, _⟩ := featC_zero h
  refine ⟨?_, h0, h12, hin, (featC_rng h).2.2.1⟩
  rcases hk with hk | hk | hk
  · rw [hk] at h
    exact .inl ⟨hk, featC_point h⟩
  · exact .inr (.inl ⟨hk, by omega⟩)
  · exact .inr (.inr ⟨hk, by omega⟩)
theorem feats_okF {n : Nat} {G : Nat → Feat} (h : featsC n G = 0) : n ≤ 12 ∧ ∀ i, i < n → OkF (G i) := ⟨(featsC_ok h).1, fun i hi => okF_of ((featsC_ok h).2.2 i hi)⟩
theorem FsAt.pts {w : World} {b off n i : Nat} {G : Nat → Feat} (h : FsAt w b off n G) (hi : i < n) (h0 : 0 < (G i).n) : ∃ q o, (G i).a = some ⟨q, o, none⟩ ∧ q < w.heap.size ∧ PtsAt w q o (G i).n (G i).X (G i).Y := by
  rcases (h i hi).2 with h' | ⟨q, o, e, hl, hp⟩
  · omega
  · exact ⟨q, o, e, hl, hp⟩
theorem ownsRow_succR {w : World} {base : Nat} {t : TypeId} {s : Nat} {v : Value} {n : Nat} {l : List Value} (h : w.ownsRow base t s v (n + 1) l) : ∃ a c, v = .slice a (n + 1) c := by
  obtain ⟨_, h2 | ⟨g, cp, cur, hv, _⟩⟩ := h
  · exact absurd h2.2 (by omega)
  · exact ⟨_, _, hv⟩
/-- The pixels of a tile, one behind the other. -/
def rasK (G : Int → Int → Int) (x y : Int) (k : Nat) : List Int := (List.range k).map fun (k : Nat) => G (x + ((k % 8 : Nat) : Int)) (y + ((k / 8 : Nat) : Int))
theorem rasK_64 (G : Int → Int → Int) (x y : Int) : rowsL G x y 8 8 = rasK G x y 64 := rfl
theorem rasK_add (G : Int → Int → Int) (x y : Int) (k : Nat) : rasK G x y (k + 1) = rasK G x y k ++ [G (x + ((k % 8 : Nat) : Int)) (y + ((k / 8 : Nat) : Int))] := by simp [rasK, List.range_succ]
theorem rasK_len (G : Int → Int → Int) (x y : Int) (k : Nat) : (rasK G x y k).length = k := by simp [rasK]
theorem pix_of_ref {z x y : Int} (h : refB z x y = true) (m q : Nat) (hm : m < 8) (hq : q < 8) : pixB z (x * 8 + (m : Int)) (y * 8 + (q : Int)) = true := by
  have hz : zoomB z = true := by simp [refB] at h; exact h.1
  unfold refB at h
  rcases zoomB_cases hz with rfl | rfl | rfl | rfl <;> simp [inB, lastI] at h <;> simp [pixB, inB, pixI, hz] <;> omega
set_option maxHeartbeats 4000000 in
theorem l4Painted_any (b n cap : Nat) (G : Nat → Feat) (z x y : Int) (w : World) (hg : FsAt w b 0 n G) (hbl : b < w.heap.size) (hn : n ≤ 12) (hok : ∀ i, i < n → OkF (G i)) (hpx : pixB z x y = true) :
    Calls Tryz.prog 89 #[.slice (some ⟨b, 0, none⟩) n cap, .int .i64 z, .int .i64 x, .int .i64 y] w fun e w' => e = .returned (.int .i64 (paintF G n z x y)) ∧ Below w.heap.size w w' := by
  have HG : Hid (FsAt w b 0 n G) := hg
  have HOK : Hid (∀ i, i < n → OkF (G i)) := hok
  have HPX : Hid (pixB z x y = true) := hpx
  clear hg hok hpx
  have hn0 : IntKind.i64.wrap ((n : Int) - 1) = (n : Int) - 1 := IntWalk.i64_in _ (by omega)
  go_enter Tryz.func89, Tryz.ntmps89
  go_wp2_with fail
  go_loopw [9] (fun i wr => ∃ k : Nat, k ≤ n ∧ i = .int .i64 ((k : Int) - 1) ∧ paintF G n z x y = paintF G k z x y ∧ Below w.heap.size w wr) (fun i _ => (intOf i + 1).toNat)
  case atStart => exact ⟨n, Nat.le_refl _, by first | rfl | rw [hn0], rfl, Below.refl _ _⟩
  case round =>
    obtain ⟨k, hk, hi, hE, hB⟩ := hrel
    cases k with
    | zero =>
      have HE : Hid (paintF G n z x y = 0) := hE
      clear hE
      subst hi
      go_wp2
      go_ret
      exact ⟨ret_int HE.out.symm, hB⟩
    | succ m =>
      have em : (((m + 1 : Nat) : Int) - 1) = (m : Int) := by omega
      rw [em] at hi
      subst hi
      have HE : Hid (paintF G n z x y = paintF G (m + 1) z x y) := hE
      have HB : Hid (Below w.heap.size w wr) := hB
      have hlt : m < n := by omega
      have hOK := HOK.out m hlt
      have hGr := HG.out.below hB hbl
      obtain ⟨q, o, ea, hql, hpt⟩ := hGr.pts hlt hOK.n0
      have hf := (hGr m hlt).1
      rw [ea, Nat.zero_add] at hf
      have q0 := hf.1
      have sC : ∀ W, Below wr.heap.size wr W → Calls Tryz.prog 112 #[.pointer (some ⟨b, m * 7, none⟩), .int .i64 z, .int .i64 x, .int .i64 y] W fun e w' => e = .returned (.bool (covF z (centI z x) (centI z y) (G m))) ∧ Below W.heap.size W w' := fun W hW =>
        l4Simple_any b (m * 7) (G m).id (G m).la (G m).ki (G m).wi z x y q o (G m).n (G m).cap (G m).X (G m).Y (G m).lab (G m).pr W (hf.below hW (Nat.lt_of_lt_of_le hbl hB.size)) (hpt.below hW hql) (Nat.lt_of_lt_of_le hql hW.size) (by have := hOK.n12; omega) hOK.kn hOK.inw hOK.wid HPX.out
      have SC := (show Hid _ from sC)
      have hi1 : (m : Int) < (n : Int) := by omega
      have hi0 : (0 : Int) ≤ (m : Int) := by omega
      have hm1 : IntKind.i64.wrap ((m : Int) - 1) = (m : Int) - 1 := IntWalk.i64_in _ (by omega)
      clear hE hB hGr hf hpt sC
      cases hc : covF z (centI z x) (centI z y) (G m)
      · have HE2 : Hid (paintF G n z x y = paintF G m z x y) := by show _ = _; rw [HE.out, paintF_no hc]
        rw [hc] at SC
        clear hc q0
        go_wp2_with fail
        refine (SC.out _ (Below.refl _ _)).mono ?_
        rintro e w1 ⟨rfl, hb1⟩
        go_wp2_with fail
        exact ⟨⟨m, by omega, by first | rfl | rw [hm1], HE2.out, bl_then HB.out hb1⟩, by simp [intOf] <;> omega⟩
      · have HE2 : Hid (paintF G n z x y = (G m).id) := by show _ = _; rw [HE.out, paintF_yes hc]
        rw [hc] at SC
        clear hc
        have HQ0 : Hid (wr.cell? ⟨b, m * 7, none⟩ = some (.int .i64 (G m).id)) := q0
        clear q0
        go_wp2_with fail
        refine (SC.out _ (Below.refl _ _)).mono ?_
        rintro e w1 ⟨rfl, hb1⟩
        have q1 : w1.cell? ⟨b, m * 7, none⟩ = some (.int .i64 (G m).id) := (hb1.cell (p := ⟨b, m * 7, none⟩) (World.block_lt_of_cell? _ _ HQ0.out)).trans HQ0.out
        go_wp2
        go_ret
        exact ⟨ret_int HE2.out.symm, bl_then HB.out hb1⟩
/-- Four cells: a tile. -/
def TileA (w : World) (q : Nat) (z x y : Int) (v : Value) : Prop := w.cell? ⟨q, 0, none⟩ = some (.int .i64 z) ∧ w.cell? ⟨q, 1, none⟩ = some (.int .i64 x) ∧ w.cell? ⟨q, 2, none⟩ = some (.int .i64 y) ∧ w.cell? ⟨q, 3, none⟩ = some v
theorem TileA.below {w w' : World} {q B : Nat} {z x y : Int} {v : Value} (h : TileA w q z x y v) (hb : Below B w w') (hq : q < B) : TileA w' q z x y v :=
  ⟨(hb.cell (p := ⟨q, 0, none⟩) hq).trans h.1, (hb.cell (p := ⟨q, 1, none⟩) hq).trans h.2.1, (hb.cell (p := ⟨q, 2, none⟩) hq).trans h.2.2.1, (hb.cell (p := ⟨q, 3, none⟩) hq).trans h.2.2.2⟩
set_option maxHeartbeats 8000000 in
theorem l8Raster_any (q : Nat) (z X Y : Int) (b n cap : Nat) (G : Nat → Feat) (w : World) (ht : TileA w q z X Y (.slice (some ⟨b, 0, none⟩) n cap)) (hg : FsAt w b 0 n G) (hbl : b < w.heap.size) (hn : n ≤ 12) (hok : ∀ i, i < n → OkF (G i)) (hr : refB z X Y = true) :
    Calls Tryz.prog 61 #[.pointer (some ⟨q, 0, none⟩)] w fun e w' => ∃ v, e = .returned v ∧ RowN w.heap.size w' v (rasK (paintF G n z) (X * 8) (Y * 8) 64) ∧ Below w.heap.size w w' := by
  obtain ⟨ii, hi, hz0, hz1, hz2⟩ := info_parts info_n64
  have hql : q < w.heap.size := World.block_lt_of_cell? _ _ ht.1
  have HP : Hid (∀ (W : World) (i : Nat), Below w.heap.size w W → i < 64 → Calls Tryz.prog 89 #[.slice (some ⟨b, 0, none⟩) n cap, .int .i64 z, .int .i64 (X * 8 + ((i % 8 : Nat) : Int)), .int .i64 (Y * 8 + ((i / 8 : Nat) : Int))] W fun e w' => e = .returned (.int .i64 (paintF G n z (X * 8 + ((i % 8 : Nat) : Int)) (Y * 8 + ((i / 8 : Nat) : Int)))) ∧ Below W.heap.size W w') := fun W i hW hi =>
    l4Painted_any b n cap G z _ _ W (hg.below hW hbl) (Nat.lt_of_lt_of_le hbl hW.size) hn hok (pix_of_ref hr _ _ (by omega) (by omega))
  have HT : Hid (TileA w q z X Y (.slice (some ⟨b, 0, none⟩) n cap)) := ht
  obtain ⟨⟨z0, z1⟩, ⟨x0, x1⟩, y0, y1⟩ := ref_bd hr
  clear hg hok hr ht
  generalize paintF G n z = F at *
  go_enter Tryz.func61, Tryz.ntmps61
  go_wp2_with fail
  generalize hW : (w.alloc _ : World) = W
  have HB0 : Hid (Below w.heap.size w W) := by show Below _ _ _; subst hW; (repeat (first | exact Below.refl _ _ | assumption | refine Below.drew ?_ | refine bl_alloc ?_ _ | refine bl_then ?_ (by assumption) | refine Below.setCell ?_ (by first | omega | (simp; done) | (simp; omega)) _ | refine bl_store ?_ ?_ _ _))
  have HO0 : Hid (RowN w.heap.size W (.slice (some ⟨w.heap.size, 0, none⟩) 0 0) (rasK F (X * 8) (Y * 8) 0)) := by
    show RowN _ _ _ _
    subst hW
    exact World.ownsRow_lit (base := w.heap.size) w #[] 0 (Nat.le_refl _) (Nat.zero_le _) rfl
  clear hW
  go_loopw [3, 4] (fun v j wr => ∃ i : Nat, i ≤ 64 ∧ j = .int .i64 (i : Int) ∧ RowN w.heap.size wr v (rasK F (X * 8) (Y * 8) i) ∧ Below w.heap.size w wr) (fun _ j _ => 64 - (intOf j).toNat)
  case atStart => exact ⟨0, by omega, rfl, HO0.out, HB0.out⟩
  case round =>
    obtain ⟨i, hi64, rfl, hO, hB⟩ := hrel
    have HO0' : Hid (RowN w.heap.size wr u3 (rasK F (X * 8) (Y * 8) i)) := hO
    have HB : Hid (Below w.heap.size w wr) := hB
    clear hO hB
    by_cases hlt : i < 64
    · have hi' : (i : Int) < 64 := by omega
      obtain ⟨m, hm⟩ : ∃ m : Nat, m = i % 8 := ⟨_, rfl⟩
      obtain ⟨p, hp⟩ : ∃ p : Nat, p = i / 8 := ⟨_, rfl⟩
      have hmb : m < 8 := by omega
      have hqb : p < 8 := by omega
      have em : (i : Int).tmod 8 = (m : Int) := by rw [Int.tmod_eq_emod_of_nonneg (by omega)]; omega
      have eq' : (i : Int).tdiv 8 = (p : Int) := by rw [Int.tdiv_eq_ediv_of_nonneg (by omega)]; omega
      have HSK : Hid (rasK F (X * 8) (Y * 8) (i + 1) = rasK F (X * 8) (Y * 8) i ++ [F (X * 8 + (m : Int)) (Y * 8 + (p : Int))]) := by show _ = _; rw [rasK_add, hm, hp]
      have HLn : Hid ((rasK F (X * 8) (Y * 8) i).length = i) := rasK_len _ _ _ _
      have HCU : Hid (∀ W', Below w.heap.size w W' → Calls Tryz.prog 89 #[.slice (some ⟨b, 0, none⟩) n cap, .int .i64 z, .int .i64 (X * 8 + (m : Int)), .int .i64 (Y * 8 + (p : Int))] W' fun e w' => e = .returned (.int .i64 (F (X * 8 + (m : Int)) (Y * 8 + (p : Int)))) ∧ Below W'.heap.size W' w') := fun W' hb => by have := HP.out W' i hb hlt; rw [hm, hp]; exact this
      clear hm hp
      have c0 : ∀ W', Below w.heap.size w W' → W'.cell? ⟨q, 0, none⟩ = some (.int .i64 z) := fun W' h => (HT.out.below h hql).1
      have c1 : ∀ W', Below w.heap.size w W' → W'.cell? ⟨q, 1, none⟩ = some (.int .i64 X) := fun W' h => (HT.out.below h hql).2.1
      have c2 : ∀ W', Below w.heap.size w W' → W'.cell? ⟨q, 2, none⟩ = some (.int .i64 Y) := fun W' h => (HT.out.below h hql).2.2.1
      have c3 : ∀ W', Below w.heap.size w W' → W'.cell? ⟨q, 3, none⟩ = some (.slice (some ⟨b, 0, none⟩) n cap) := fun W' h => (HT.out.below h hql).2.2.2
      obtain ⟨va, vn, vc, hvs⟩ : ∃ va vn vc, u3 = .slice va vn vc := by
        obtain ⟨a', c', e', _, _⟩ := HO0'.out.own
        exact ⟨_, _, _, e'⟩
      subst hvs
      have HO := HO0'
      have HBS : Hid (∀ b, (Value.slice va vn vc).ownBlock = some b → w.heap.size ≤ b) := fun b hb => (World.ownsRow.lt HO.out b hb).1
      clear HO0'
      have mm0 : IntKind.i64.wrap (X * 8) = X * 8 := IntWalk.i64_in _ (by omega)
      have mm1 : IntKind.i64.wrap (Y * 8) = Y * 8 := IntWalk.i64_in _ (by omega)
      have ss0 : IntKind.i64.wrap (X * 8 + (m : Int)) = X * 8 + (m : Int) := IntWalk.i64_in _ (by omega)
      have ss1 : IntKind.i64.wrap (Y * 8 + (p : Int)) = Y * 8 + (p : Int) := IntWalk.i64_in _ (by omega)
      have qq1 : IntKind.i64.wrap (p : Int) = (p : Int) := IntWalk.i64_in _ (by omega)
      have qq0 : IntKind.i64.wrap (m : Int) = (m : Int) := IntWalk.i64_in _ (by omega)
      generalize F (X * 8 + (m : Int)) (Y * 8 + (p : Int)) = G0 at *
      have g0 := c0 wr HB.out
      have g1 := c1 wr HB.out
      have g2 := c2 wr HB.out
      have g3 := c3 wr HB.out
      go_wp2_with fail
      refine wp_region_noPanic ?_
      refine wp_region_held_drew (S := fun W' => Below w.heap.size w W') (by kernel_rfl) (by have := HB.out; (repeat (first | exact Below.refl _ _ | assumption | refine Below.drew ?_ | refine bl_alloc ?_ _ | refine bl_then ?_ (by assumption) | refine Below.setCell ?_ (by first | omega | (simp; done) | (simp; omega)) _ | refine bl_store ?_ ?_ _ _))) (fun hHeld => ?_)
      have hSd : Below w.heap.size w wr.drew := hHeld
      refine takeD (i := 0) (d := some 30) (v := ?vr0) rfl rfl (by kernel_rfl) (by kernel_rfl) (by kernel_rfl) (fun _ _ _ h => h) (Or.inl ⟨by rfl, ?hyr0⟩) hSd ?_
      case hyr0 => (intro w hSw; (try dsimp only at hSw); go_simp <;> with_reducible rfl)
      try simp only [Act.put, List.setIfInBounds_toArray, List.set_cons_zero, List.set_cons_succ]
      refine takeD (i := 1) (d := some 31) (v := ?vr1) rfl rfl (by kernel_rfl) (by kernel_rfl) (by kernel_rfl) (fun _ _ _ h => h) (Or.inl ⟨by rfl, ?hyr1⟩) hSd ?_
      case hyr1 => (intro w hSw; (try dsimp only at hSw); go_simp <;> with_reducible rfl)
      try simp only [Act.put, List.setIfInBounds_toArray, List.set_cons_zero, List.set_cons_succ]
      refine takeD (i := 2) (d := some 32) (v := ?vr2) rfl rfl (by kernel_rfl) (by kernel_rfl) (by kernel_rfl) (fun _ _ _ h => h) (Or.inl ⟨by rfl, ?hyr2⟩) hSd ?_
      case hyr2 => (intro w hSw; (try dsimp only at hSw); go_simp <;> with_reducible rfl)
      try simp only [Act.put, List.setIfInBounds_toArray, List.set_cons_zero, List.set_cons_succ]
      refine takeD (i := 3) (d := some 33) (v := ?vr3) rfl rfl (by kernel_rfl) (by kernel_rfl) (by kernel_rfl) (fun _ _ _ h => h) (Or.inl ⟨by rfl, ?hyr3⟩) hSd ?_
      case hyr3 => (intro w hSw; (try dsimp only at hSw); go_simp <;> with_reducible rfl)
      try simp only [Act.put, List.setIfInBounds_toArray, List.set_cons_zero, List.set_cons_succ]
      refine takeD (i := 4) (d := some 34) (v := ?vr4) rfl rfl (by kernel_rfl) (by kernel_rfl) (by kernel_rfl) (fun _ _ _ h => h) (Or.inl ⟨by rfl, ?hyr4⟩) hSd ?_
      case hyr4 => (intro w hSw; (try dsimp only at hSw); go_simp <;> with_reducible rfl)
      try simp only [Act.put, List.setIfInBounds_toArray, List.set_cons_zero, List.set_cons_succ]
      refine takeD (i := 5) (d := some 35) (v := ?vr5) rfl rfl (by kernel_rfl) (by kernel_rfl) (by kernel_rfl) (fun _ _ _ h => h) (Or.inl ⟨by rfl, ?hyr5⟩) hSd ?_
      case hyr5 => (intro w hSw; (try dsimp only at hSw); go_simp <;> with_reducible rfl)
      try simp only [Act.put, List.setIfInBounds_toArray, List.set_cons_zero, List.set_cons_succ]
      refine takeD (i := 6) (d := some 36) (v := ?vr6) rfl rfl (by kernel_rfl) (by kernel_rfl) (by kernel_rfl) (fun _ _ _ h => h) (Or.inl ⟨by rfl, ?hyr6⟩) hSd ?_
      case hyr6 => (intro w hSw; (try dsimp only at hSw); go_simp <;> with_reducible rfl)
      try simp only [Act.put, List.setIfInBounds_toArray, List.set_cons_zero, List.set_cons_succ]
      refine takeD (i := 7) (d := some 37) (v := ?vr7) rfl rfl (by kernel_rfl) (by kernel_rfl) (by kernel_rfl) (fun _ _ _ h => h) (Or.inl ⟨by rfl, ?hyr7⟩) hSd ?_
      case hyr7 => (intro w hSw; (try dsimp only at hSw); go_simp <;> with_reducible rfl)
      try simp only [Act.put, List.setIfInBounds_toArray, List.set_cons_zero, List.set_cons_succ]
      refine takeD (i := 8) (d := some 38) (v := ?vr8) rfl rfl (by kernel_rfl) (by kernel_rfl) (by kernel_rfl) (fun _ _ _ h => h) (Or.inl ⟨by rfl, ?hyr8⟩) hSd ?_
      case hyr8 => (intro w hSw; (try dsimp only at hSw); go_simp <;> with_reducible rfl)
      try simp only [Act.put, List.setIfInBounds_toArray, List.set_cons_zero, List.set_cons_succ]
      refine takeD (i := 9) (d := some 39) (v := ?vr9) rfl rfl (by kernel_rfl) (by kernel_rfl) (by kernel_rfl) (fun _ _ _ h => h) (Or.inl ⟨by rfl, ?hyr9⟩) hSd ?_
      case hyr9 => (intro w hSw; (try dsimp only at hSw); go_simp <;> with_reducible rfl)
      try simp only [Act.put, List.setIfInBounds_toArray, List.set_cons_zero, List.set_cons_succ]
      refine takeD (i := 10) (d := some 40) (v := ?vr10) rfl rfl (by kernel_rfl) (by kernel_rfl) (by kernel_rfl) (fun _ _ _ h => h) (Or.inl ⟨by rfl, ?hyr10⟩) hSd ?_
      case hyr10 => (intro w hSw; (try dsimp only at hSw); go_simp <;> with_reducible rfl)
      try simp only [Act.put, List.setIfInBounds_toArray, List.set_cons_zero, List.set_cons_succ]
      refine takeD (i := 11) (d := some 41) (v := ?vr11) rfl rfl (by kernel_rfl) (by kernel_rfl) (by kernel_rfl) (fun _ _ _ h => h) (Or.inl ⟨by rfl, ?hyr11⟩) hSd ?_
      case hyr11 => (intro w hSw; (try dsimp only at hSw); go_simp <;> with_reducible rfl)
      try simp only [Act.put, List.setIfInBounds_toArray, List.set_cons_zero, List.set_cons_succ]
      refine wpAnyH_ready (rs := [12]) (by kernel_rfl) (by simp) ?_
      refine (AllReadyH.cons rfl (fun K hK => ?_) AllReadyH.nil)
      rw [if_pos (by rfl)]
      go_simp
      refine Calls.mono (HCU.out _ hSd) ?_
      rintro e wB ⟨rfl, hbB⟩
      have hSB : Below w.heap.size w wB := bl_then hSd hbB
      have HOB : Hid (RowN w.heap.size wB (.slice va vn vc) (rasK F (X * 8) (Y * 8) i)) := by
        have h1 : RowN w.heap.size wr.drew (.slice va vn vc) (rasK F (X * 8) (Y * 8) i) := HO.out.below (by (repeat (first | exact Below.refl _ _ | assumption | refine Below.drew ?_ | refine bl_alloc ?_ _ | refine bl_then ?_ (by assumption) | refine Below.setCell ?_ (by first | omega | (simp; done) | (simp; omega)) _ | refine bl_store ?_ ?_ _ _)))
        exact h1.below hbB
      go_wp2_with fail
      refine hK.out _ _ hSB (fun hHeld => ?_)
      clear hK K hbB
      try simp only [Act.put, List.setIfInBounds_toArray, List.set_cons_zero, List.set_cons_succ]
      refine wpAnyH_ready (rs := [13]) (by kernel_rfl) (by simp) ?_
      refine (AllReadyH.cons rfl (fun K hK => ?_) AllReadyH.nil)
      rw [if_pos (by rfl)]
      go_simp
      generalize hwA : (World.alloc _ _ : World) = wA
      have hbA : Below wB.heap.size wB wA := by subst hwA; (repeat (first | exact Below.refl _ _ | assumption | refine Below.drew ?_ | refine bl_alloc ?_ _ | refine bl_then ?_ (by assumption) | refine Below.setCell ?_ (by first | omega | (simp; done) | (simp; omega)) _ | refine bl_store ?_ ?_ _ _))
      have a0 : wA.cell? ⟨wB.heap.size, 0, none⟩ = some (.int .i64 G0) := by subst hwA; simp [go_sem]
      have hszA : wA.heap.size = wB.heap.size + 1 := by subst hwA; simp
      have HOA : Hid (wA.ownsRow w.heap.size 2 1 (.slice va vn vc) (rasK F (X * 8) (Y * 8) i).length ((rasK F (X * 8) (Y * 8) i).map (.int .i64 ·))) := by subst hwA; exact World.ownsRow.alloc HOB.out _
      have hSA : Below w.heap.size w wA := bl_then hSB hbA
      have hsA := hSA.size
      clear hwA
      refine hK.out _ _ hSA (fun hHeld => ?_)
      clear hK K
      try simp only [Act.put, List.setIfInBounds_toArray, List.set_cons_zero, List.set_cons_succ]
      have hlen := HLn.out
      refine wpAnyH_ready (rs := [14]) (by kernel_rfl) (by simp) ?_
      refine (AllReadyH.cons rfl (fun K hK => ?_) AllReadyH.nil)
      refine step_append_own rfl (.tmp 30) (.tmp 43) 105 rfl w.heap.size 2 ii (.int .i64 0) 1 8 Tryz.underlying105 hi hz0 hz1 hz2 rfl (by decide) (.slice va vn vc) (rasK F (X * 8) (Y * 8) i).length ((rasK F (X * 8) (Y * 8) i).map (.int .i64 ·)) rfl HOA.out ⟨wB.heap.size, 0, none⟩ 1 1 [.int .i64 G0] rfl rfl ?c1 ?c2 ?c3 ?c4 ?c5 ?_
      case c1 =>
        intro q u hq
        match q, hq with
        | 0, hq => exact (Option.some.inj hq) ▸ a0
        | q + 1, hq => cases hq
      case c2 => intro u hu; simp at hu; subst hu; rfl
      case c3 => unfold maxLen; omega
      case c4 => omega
      case c5 => first | omega | (simp; omega)
      intro v' w3' hown' hgrow hnil
      clear hnil
      have hBg : Below w.heap.size wA w3' := (Below.refl _ _).grown hgrow (by omega) (fun b hb => HBS.out b hb)
      have hB3 : Below w.heap.size w w3' := hSA.trans hBg
      have HO4 : Hid (RowN w.heap.size w3' v' (rasK F (X * 8) (Y * 8) (i + 1))) := by
        show RowN _ _ _ _
        rw [HSK.out]
        show World.ownsRow _ _ _ _ _ _ _
        rw [List.length_append, List.map_append]
        exact hown'
      rw [hlen] at hown'
      obtain ⟨ga, gc, rfl⟩ := ownsRow_succR hown'
      show K (Act.put _ (some 44) _) w3'
      refine hK.out _ _ hB3 (fun hHeld => ?_)
      clear hK K hown' hgrow hBg
      try simp only [Act.put, List.setIfInBounds_toArray, List.set_cons_zero, List.set_cons_succ]
      refine takeD (i := 15) (d := some 3) (v := ?vs15) rfl rfl (by kernel_rfl) (by kernel_rfl) (by kernel_rfl) (fun _ _ _ h => h) (Or.inl ⟨by rfl, ?hys15⟩) hB3 ?_
      case hys15 => (intro w hSw; (try dsimp only at hSw); go_simp <;> with_reducible rfl)
      try simp only [Act.put, List.setIfInBounds_toArray, List.set_cons_zero, List.set_cons_succ]
      refine wpAnyH_done (by kernel_rfl) ?_ _
      refine NoPanic.normal ?_
      clear hSA hSB hSd hbA a0 hszA HOA
      go_wp2_with fail
      go_roundw
      case rel => exact ⟨i + 1, by omega, by go_num, HO4.out, hB3⟩
      case measure => simp [intOf]; omega
    · obtain rfl : i = 64 := by omega
      go_wp2
      go_ret
      exact ⟨_, rfl, HO0'.out, HB.out⟩
end Go.Proofs.YtcpdcmjldofbkaaGreat
/- The fault of a list of features: the program's. -/

namespace Go.Proofs.YtcpdcmjldofbkaaGreat
open Go.RowKit
set_option linter.unusedSimpArgs false
set_option linter.unusedVariables false
set_option maxRecDepth 100000

set_option maxHeartbeats 4000000 in
theorem FeaturesFault_any (b n cap : Nat) (G : Nat → Feat) (w : World) (hg : FsAt w b 0 n G) (hbl : b < w.heap.size) (hs : SmallFs n G) (hcap : n ≤ cap) :
    Calls Tryz.prog 115 #[.slice (some ⟨b, 0, none⟩) n cap] w fun e w' => e = .returned (.int .i64 (featsC n G)) ∧ Below w.heap.size w w' := by
  have HG : Hid (FsAt w b 0 n G) := hg
  have HS : Hid (SmallFs n G) := hs
  have hn := hs.1
  clear hg hs
  by_cases h12 : (12 : Int) < n
  · have hz : Hid (featsC n G = 2) := by show _ = _; unfold featsC; rw [if_pos (by omega)]
    go_enter Tryz.func115, Tryz.ntmps115
    go_wp2
    go_ret
    exact ⟨ret_int hz.out.symm, by (repeat (first | exact Below.refl _ _ | assumption | refine Below.drew ?_ | refine bl_alloc ?_ _ | refine bl_then ?_ (by assumption) | refine Below.setCell ?_ (by first | omega | (simp; done) | (simp; omega)) _ | refine bl_store ?_ ?_ _ _))⟩
  · have hz : Hid (featsC n G = scanC (codeAt G) 0 n) := by show _ = _; unfold featsC; rw [if_neg (by omega)]
    go_enter Tryz.func115, Tryz.ntmps115
    go_wp2
    go_loopw [11] (fun v wr => ∃ k : Nat, k ≤ n ∧ v = .int .i64 k ∧ (∀ j, j < k → codeAt G j = 0) ∧ Below w.heap.size w wr) (fun v _ => n - (intOf v).toNat)
    case atStart => exact ⟨0, by omega, rfl, by omega, Below.refl _ _⟩
    case round =>
      obtain ⟨k, hk, rfl, hA, hB⟩ := hrel
      have HB : Hid (Below w.heap.size w wr) := hB
      have HA : Hid (∀ j, j < k → codeAt G j = 0) := hA
      by_cases hlt : k < n
      · have HGr : Hid (FsAt wr b 0 n G) := HG.out.below hB hbl
        have hblr : b < wr.heap.size := Nat.lt_of_lt_of_le hbl hB.size
        obtain ⟨⟨f0, f1, f2, f3, f4, f5, f6⟩, hP⟩ := HGr.out k hlt
        simp only [Nat.zero_add] at f0 f1 f2 f3 f4 f5 f6
        have HP : Hid (IsPts wr (G k).a (G k).n (G k).X (G k).Y) := hP
        obtain ⟨z1, z2⟩ := HS.out.2 k hlt
        have HLT : Hid (k < n) := hlt
        clear hB hA hP
        have hi : (k : Int) < (n : Int) := by omega
        have hi0 : (0 : Int) ≤ (k : Int) := by omega
        go_wp2_with fail
        generalize hV : (wr.alloc _ : World) = V
        have hBV : Below wr.heap.size wr V := by subst hV; (repeat (first | exact Below.refl _ _ | assumption | refine Below.drew ?_ | refine bl_alloc ?_ _ | refine bl_then ?_ (by assumption) | refine Below.setCell ?_ (by first | omega | (simp; done) | (simp; omega)) _ | refine bl_store ?_ ?_ _ _))
        have v0 : ∀ W', Below V.heap.size V W' → W'.cell? ⟨wr.heap.size, 0, none⟩ = some (.int .i64 (G k).id) := fun W' h => by
          rw [h.cell (by subst hV; simp)]; subst hV; simp [go_sem]
        clear hV
        have HBV : Hid (Below w.heap.size w V) := bl_then HB.out hBV
        have HGV : Hid (FsAt V b 0 n G) := HGr.out.below hBV hblr
        have hblV : b < V.heap.size := Nat.lt_of_lt_of_le hblr hBV.size
        have HPV : Hid (IsPts V (G k).a (G k).n (G k).X (G k).Y) := HP.out.below hBV
        clear hBV f0 f1 f2 f3 f4 f5 f6 HP HGr
        refine (FeatureFault_any _ _ _ _ _ _ _ (G k).X (G k).Y _ _ _ HPV.out z2 z1).mono ?_
        rintro e w1 ⟨rfl, hb1⟩
        by_cases hc : featC (G k).id (G k).la (G k).ki (G k).wi (G k).n (G k).X (G k).Y (G k).lab (G k).pr = 0
        · rw [hc]
          have HC : Hid (featC (G k).id (G k).la (G k).ki (G k).wi (G k).n (G k).X (G k).Y (G k).lab (G k).pr = 0) := hc
          have HB1 : Hid (Below V.heap.size V w1) := hb1
          have hr1 : Below V.heap.size V w1 := hb1
          clear hc hb1
          have hk0 : (k : Int) ≤ (n : Int) := by omega
          have hkc : (k : Int) ≤ (cap : Int) := by omega
          by_cases hx : ∃ j, j < k ∧ (G j).id = (G k).id
          · have HH : Hid (∀ W', Below V.heap.size V W' → Calls Tryz.prog 137 #[.slice (some ⟨b, 0, none⟩) k cap, .int .i64 (G k).id] W' fun e w' => e = .returned (.bool true) ∧ Below W'.heap.size W' w') := fun W' h => by
              refine (hasId_any b k cap n G (G k).id W' (Nat.le_of_lt HLT.out) (HGV.out.below h hblV) (Nat.lt_of_lt_of_le hblV h.size) (by omega)).mono ?_
              rintro e w' ⟨⟨he, _⟩ | ⟨_, hno⟩, hb⟩
              · exact ⟨he, hb⟩
              · obtain ⟨j, hj, hje⟩ := hx
                exact absurd hje (hno j hj)
            have htk : Hid (codeAt G k = 6) := codeAt_taken HC.out hx
            have hsc : Hid (featsC n G = 6) := by
              show _ = _
              rw [hz.out, scan_first (codeAt G) n 0 k (fun j _ hj => HA.out j hj) (by omega) (by have := HLT.out; omega) (by rw [htk.out]; decide), htk.out]
            clear hx
            go_wp2_with fail
            go_region_held3 (fun W' => Below V.heap.size V W') ((repeat (first | exact Below.refl _ _ | assumption | refine Below.drew ?_ | refine bl_alloc ?_ _ | refine bl_then ?_ (by assumption) | refine Below.setCell ?_ (by first | omega | (simp; done) | (simp; omega)) _ | refine bl_store ?_ ?_ _ _)))
              (first | (go_at_call 137; refine (HH.out _ (by assumption)).mono ?_; rintro e w' ⟨rfl, hb⟩))
            go_wp2
            go_ret
            exact ⟨ret_int hsc.out.symm, bl_then HBV.out (by assumption)⟩
          · have HH : Hid (∀ W', Below V.heap.size V W' → Calls Tryz.prog 137 #[.slice (some ⟨b, 0, none⟩) k cap, .int .i64 (G k).id] W' fun e w' => e = .returned (.bool false) ∧ Below W'.heap.size W' w') := fun W' h => by
              refine (hasId_any b k cap n G (G k).id W' (Nat.le_of_lt HLT.out) (HGV.out.below h hblV) (Nat.lt_of_lt_of_le hblV h.size) (by omega)).mono ?_
              rintro e w' ⟨⟨_, hyes⟩ | ⟨he, _⟩, hb⟩
              · exact absurd hyes hx
              · exact ⟨he, hb⟩
            have HOK : Hid (codeAt G k = 0) := codeAt_ok HC.out hx
            clear hx
            go_wp2_with fail
            go_region_held3 (fun W' => Below V.heap.size V W') ((repeat (first | exact Below.refl _ _ | assumption | refine Below.drew ?_ | refine bl_alloc ?_ _ | refine bl_then ?_ (by assumption) | refine Below.setCell ?_ (by first | omega | (simp; done) | (simp; omega)) _ | refine bl_store ?_ ?_ _ _)))
              (first | (go_at_call 137; refine (HH.out _ (by assumption)).mono ?_; rintro e w' ⟨rfl, hb⟩))
            go_wp2
            go_roundw
            case rel => exact ⟨k + 1, by have := HLT.out; omega, by go_num, fun j hj => by
                by_cases e : j = k
                · rw [e]; exact HOK.out
                · exact HA.out j (by omega), bl_then HBV.out (by assumption)⟩
            case measure => have := HLT.out; simp [intOf]; omega
        · have hsc : Hid (featsC n G = featC (G k).id (G k).la (G k).ki (G k).wi (G k).n (G k).X (G k).Y (G k).lab (G k).pr) := by
            show _ = _
            have h6 := codeAt_fault hc
            rw [hz.out, scan_first (codeAt G) n 0 k (fun j _ hj => HA.out j hj) (by omega) (by have := HLT.out; omega) (by rw [h6]; exact hc), h6]
          have hcb : (featC (G k).id (G k).la (G k).ki (G k).wi (G k).n (G k).X (G k).Y (G k).lab (G k).pr == 0) = false := by simpa using hc
          have HB1 : Hid (Below w.heap.size w w1) := bl_then HBV.out hb1
          clear hc hb1
          go_wp2
          go_ret
          exact ⟨ret_int hsc.out.symm, HB1.out⟩
      · have hsc : Hid (featsC n G = 0) := by
          show _ = _
          rw [hz.out]
          exact scan_none _ _ _ (fun j _ hj => HA.out j (by omega))
        go_wp2
        go_ret
        exact ⟨ret_int hsc.out.symm, HB.out⟩
theorem OwnFs.small {w : World} {B b n : Nat} {F G : Nat → Feat} (h : OwnFs w B b n F G) (hs : SmallFs n F) : SmallFs n G := by
  refine ⟨hs.1, fun i hi => ?_⟩
  obtain ⟨⟨_, _, _, _, s5, _, _, s8, _⟩, _⟩ := h.2.2.2 i hi
  rw [s5, s8]
  exact hs.2 i hi
theorem OwnFs.code {w : World} {B b n : Nat} {F G : Nat → Feat} (h : OwnFs w B b n F G) : featsC n G = featsC n F := featsC_same (fun j hj => (h.2.2.2 j hj).1)

end Go.Proofs.YtcpdcmjldofbkaaGreat
