/- Several texts in one. -/
import Derived.Test.YtciidkmonfmipaaGreatVPutTile14
import Derived.Test.YtciidkmonfmipaaGreatVPutTile15
import Derived.Test.YtciidkmonfmipaaGreatVPutTile17
import Derived.Test.YtciidkmonfmipaaGreatVPutTile16
import Derived.Test.YtciidkmonfmipaaGreatVPutTile3
import Derived.Test.YtciidkmonfmipaaGreatVPutTile7
import Derived.Test.YtciidkmonfmipaaGreatVPutTile5
import Derived.Laws.OwnMore
import Derived.Test.YtciidkmonfmipaaGreatVPutTile1
import Derived.Test.YtciidkmonfmipaaGreatRows
import Derived.WalkSpells
import Derived.WalkLawsBesides
import Derived.Outline
import Derived.Laws.IdiomStrings

/- What is painted at a pixel, and the raster of a tile: the model. -/

namespace Go.Proofs.YtciidkmonfmipaaGreat
open Go.RowKit
set_option linter.unusedSimpArgs false
set_option linter.unusedVariables false
set_option maxRecDepth 100000

/-- Whether a feature, as it is, covers a centre. -/
def covF (z cx cy : Int) (f : Feat) : Bool := coverB f.ki f.wi z cx cy (dblL f.X f.Y f.n)
/-- The last one for which it is so. -/
def paintI (C : Nat → Bool) (I : Nat → Int) : Nat → Int
  | 0 => 0
  | n + 1 => if C n = true then I n else paintI C I n
/-- What is painted at a pixel. -/
def paintF (G : Nat → Feat) (n : Nat) (z x y : Int) : Int := paintI (fun i => covF z (centI z x) (centI z y) (G i)) (fun i => (G i).id) n
theorem paintF_yes {G : Nat → Feat} {n : Nat} {z x y : Int} (h : covF z (centI z x) (centI z y) (G n) = true) : paintF G (n + 1) z x y = (G n).id := by
  unfold paintF; rw [paintI, if_pos h]
theorem paintF_no {G : Nat → Feat} {n : Nat} {z x y : Int} (h : covF z (centI z x) (centI z y) (G n) = false) : paintF G (n + 1) z x y = paintF G n z x y := by
  unfold paintF; rw [paintI, if_neg (by rw [h]; simp)]
/-- What a feature without a fault has. -/
structure OkF (f : Feat) : Prop where
  kn : kindN f.ki f.n
  n0 : 0 < f.n
  n12 : f.n ≤ 12
  inw : ∀ i, i < f.n → inW (f.X i) (f.Y i) = true
  wid : 0 ≤ f.wi ∧ f.wi ≤ 3
theorem okF_of {f : Feat} (h : featC f.id f.la f.ki f.wi f.n f.X f.Y f.lab f.pr = 0) : OkF f := by
  obtain ⟨hk, h0, h12, hkn, hin, _⟩ := featC_zero h
  refine ⟨?_, h0, h12, hin, (featC_rng h).2.2.1⟩
  rcases hk with hk | hk | hk
  · rw [hk] at h
    exact .inl ⟨hk, featC_point h⟩
  · exact .inr (.inl ⟨hk, by omega⟩)
  · exact .inr (.inr ⟨hk, by omega⟩)
theorem feats_okF {n : Nat} {G : Nat → Feat} (h : featsC n G = 0) : n ≤ 12 ∧ ∀ i, i < n → OkF (G i) := ⟨(featsC_ok h).1, fun i hi => okF_of ((featsC_ok h).2.2 i hi)⟩
theorem FsAt.pts {w : World} {b off n i : Nat} {G : Nat → Feat} (h : FsAt w b off n G) (hi : i < n) (h0 : 0 < (G i).n) : ∃ q o, (G i).a = some ⟨q, o, none⟩ ∧ q < w.heap.size ∧ PtsAt w q o (G i).n (G i).X (G i).Y := by
  rcases (h i hi).2 with h' | ⟨q, o, e, hl, hp⟩
  · omega
  · exact ⟨q, o, e, hl, hp⟩
theorem ownsRow_succR {w : World} {base : Nat} {t : TypeId} {s : Nat} {v : Value} {n : Nat} {l : List Value} (h : w.ownsRow base t s v (n + 1) l) : ∃ a c, v = .slice a (n + 1) c := by
  obtain ⟨_, h2 | ⟨g, cp, cur, hv, _⟩⟩ := h
  · exact absurd h2.2 (by omega)
  · exact ⟨_, _, hv⟩
/-- The pixels of a tile, one behind the other. -/
def rasK (G : Int → Int → Int) (x y : Int) (k : Nat) : List Int := (List.range k).map fun (k : Nat) => G (x + ((k % 8 : Nat) : Int)) (y + ((k / 8 : Nat) : Int))
theorem rasK_64 (G : Int → Int → Int) (x y : Int) : rowsL G x y 8 8 = rasK G x y 64 := rfl
theorem rasK_add (G : Int → Int → Int) (x y : Int) (k : Nat) : rasK G x y (k + 1) = rasK G x y k ++ [G (x + ((k % 8 : Nat) : Int)) (y + ((k / 8 : Nat) : Int))] := by simp [rasK, List.range_succ]
theorem rasK_len (G : Int → Int → Int) (x y : Int) (k : Nat) : (rasK G x y k).length = k := by simp [rasK]
theorem pix_of_ref {z x y : Int} (h : refB z x y = true) (m q : Nat) (hm : m < 8) (hq : q < 8) : pixB z (x * 8 + (m : Int)) (y * 8 + (q : Int)) = true := by
  have hz : zoomB z = true := by simp [refB] at h; exact h.1
  unfold refB at h
  rcases zoomB_cases hz with rfl | rfl | rfl | rfl <;> simp [inB, lastI] at h <;> simp [pixB, inB, pixI, hz] <;> omega
set_option maxHeartbeats 4000000 in
theorem l4Painted_any (b n cap : Nat) (G : Nat → Feat) (z x y : Int) (w : World) (hg : FsAt w b 0 n G) (hbl : b < w.heap.size) (hn : n ≤ 12) (hok : ∀ i, i < n → OkF (G i)) (hpx : pixB z x y = true) :
    Calls Tryz.prog 80 #[.slice (some ⟨b, 0, none⟩) n cap, .int .i64 z, .int .i64 x, .int .i64 y] w fun e w' => e = .returned (.int .i64 (paintF G n z x y)) ∧ Below w.heap.size w w' := by
  have HG : Hid (FsAt w b 0 n G) := hg
  have HOK : Hid (∀ i, i < n → OkF (G i)) := hok
  have HPX : Hid (pixB z x y = true) := hpx
  clear hg hok hpx
  have hn0 : IntKind.i64.wrap ((n : Int) - 1) = (n : Int) - 1 := IntWalk.i64_in _ (by omega)
  go_enter Tryz.func80, Tryz.ntmps80
  go_wp2_with fail
  go_loopw [9] (fun i wr => ∃ k : Nat, k ≤ n ∧ i = .int .i64 ((k : Int) - 1) ∧ paintF G n z x y = paintF G k z x y ∧ Below w.heap.size w wr) (fun i _ => (intOf i + 1).toNat)
  case atStart => exact ⟨n, Nat.le_refl _, by first | rfl | rw [hn0], rfl, Below.refl _ _⟩
  case round =>
    obtain ⟨k, hk, hi, hE, hB⟩ := hrel
    cases k with
    | zero =>
      have HE : Hid (paintF G n z x y = 0) := hE
      clear hE
      subst hi
      go_wp2
      go_ret
      exact ⟨ret_int HE.out.symm, hB⟩
    | succ m =>
      have em : (((m + 1 : Nat) : Int) - 1) = (m : Int) := by omega
      rw [em] at hi
      subst hi
      have HE : Hid (paintF G n z x y = paintF G (m + 1) z x y) := hE
      have HB : Hid (Below w.heap.size w wr) := hB
      have hlt : m < n := by omega
      have hOK := HOK.out m hlt
      have hGr := HG.out.below hB hbl
      obtain ⟨q, o, ea, hql, hpt⟩ := hGr.pts hlt hOK.n0
      have hf := (hGr m hlt).1
      rw [ea, Nat.zero_add] at hf
      have q0 := hf.1
      have sC : ∀ W, Below wr.heap.size wr W → Calls Tryz.prog 112 #[.pointer (some ⟨b, m * 7, none⟩), .int .i64 z, .int .i64 x, .int .i64 y] W fun e w' => e = .returned (.bool (covF z (centI z x) (centI z y) (G m))) ∧ Below W.heap.size W w' := fun W hW =>
        l4Simple_any b (m * 7) (G m).id (G m).la (G m).ki (G m).wi z x y q o (G m).n (G m).cap (G m).X (G m).Y (G m).lab (G m).pr W (hf.below hW (Nat.lt_of_lt_of_le hbl hB.size)) (hpt.below hW hql) (Nat.lt_of_lt_of_le hql hW.size) (by have := hOK.n12; omega) hOK.kn hOK.inw hOK.wid HPX.out
      have SC := (show Hid _ from sC)
      have hi1 : (m : Int) < (n : Int) := by omega
      have hi0 : (0 : Int) ≤ (m : Int) := by omega
      have hm1 : IntKind.i64.wrap ((m : Int) - 1) = (m : Int) - 1 := IntWalk.i64_in _ (by omega)
      clear hE hB hGr hf hpt sC
      cases hc : covF z (centI z x) (centI z y) (G m)
      · have HE2 : Hid (paintF G n z x y = paintF G m z x y) := by show _ = _; rw [HE.out, paintF_no hc]
        rw [hc] at SC
        clear hc q0
        go_wp2_with fail
        refine (SC.out _ (Below.refl _ _)).mono ?_
        rintro e w1 ⟨rfl, hb1⟩
        go_wp2_with fail
        exact ⟨⟨m, by omega, by first | rfl | rw [hm1], HE2.out, bl_then HB.out hb1⟩, by simp [intOf] <;> omega⟩
      · have HE2 : Hid (paintF G n z x y = (G m).id) := by show _ = _; rw [HE.out, paintF_yes hc]
        rw [hc] at SC
        clear hc
        have HQ0 : Hid (wr.cell? ⟨b, m * 7, none⟩ = some (.int .i64 (G m).id)) := q0
        clear q0
        go_wp2_with fail
        refine (SC.out _ (Below.refl _ _)).mono ?_
        rintro e w1 ⟨rfl, hb1⟩
        have q1 : w1.cell? ⟨b, m * 7, none⟩ = some (.int .i64 (G m).id) := (hb1.cell (p := ⟨b, m * 7, none⟩) (World.block_lt_of_cell? _ _ HQ0.out)).trans HQ0.out
        go_wp2
        go_ret
        exact ⟨ret_int HE2.out.symm, bl_then HB.out hb1⟩
/-- Four cells: a tile. -/
def TileA (w : World) (q : Nat) (z x y : Int) (v : Value) : Prop := w.cell? ⟨q, 0, none⟩ = some (.int .i64 z) ∧ w.cell? ⟨q, 1, none⟩ = some (.int .i64 x) ∧ w.cell? ⟨q, 2, none⟩ = some (.int .i64 y) ∧ w.cell? ⟨q, 3, none⟩ = some v
theorem TileA.below {w w' : World} {q B : Nat} {z x y : Int} {v : Value} (h : TileA w q z x y v) (hb : Below B w w') (hq : q < B) : TileA w' q z x y v :=
  ⟨(hb.cell (p := ⟨q, 0, none⟩) hq).trans h.1, (hb.cell (p := ⟨q, 1, none⟩) hq).trans h.2.1, (hb.cell (p := ⟨q, 2, none⟩) hq).trans h.2.2.1, (hb.cell (p := ⟨q, 3, none⟩) hq).trans h.2.2.2⟩
end Go.Proofs.YtciidkmonfmipaaGreat
/- The fault of a list of features: the program's. -/

namespace Go.Proofs.YtciidkmonfmipaaGreat
open Go.RowKit
set_option linter.unusedSimpArgs false
set_option linter.unusedVariables false
set_option maxRecDepth 100000

set_option maxHeartbeats 4000000 in
theorem FeaturesFault_any (b n cap : Nat) (G : Nat → Feat) (w : World) (hg : FsAt w b 0 n G) (hbl : b < w.heap.size) (hs : SmallFs n G) (hcap : n ≤ cap) :
    Calls Tryz.prog 62 #[.slice (some ⟨b, 0, none⟩) n cap] w fun e w' => e = .returned (.int .i64 (featsC n G)) ∧ Below w.heap.size w w' := by
  have HG : Hid (FsAt w b 0 n G) := hg
  have HS : Hid (SmallFs n G) := hs
  have hn := hs.1
  clear hg hs
  by_cases h12 : (12 : Int) < n
  · have hz : Hid (featsC n G = 2) := by show _ = _; unfold featsC; rw [if_pos (by omega)]
    go_enter Tryz.func62, Tryz.ntmps62
    go_wp2
    go_ret
    exact ⟨ret_int hz.out.symm, by (repeat (first | exact Below.refl _ _ | assumption | refine Below.drew ?_ | refine bl_alloc ?_ _ | refine bl_then ?_ (by assumption) | refine Below.setCell ?_ (by first | omega | (simp; done) | (simp; omega)) _ | refine bl_store ?_ ?_ _ _))⟩
  · have hz : Hid (featsC n G = scanC (codeAt G) 0 n) := by show _ = _; unfold featsC; rw [if_neg (by omega)]
    go_enter Tryz.func62, Tryz.ntmps62
    go_wp2
    go_loopw [11] (fun v wr => ∃ k : Nat, k ≤ n ∧ v = .int .i64 k ∧ (∀ j, j < k → codeAt G j = 0) ∧ Below w.heap.size w wr) (fun v _ => n - (intOf v).toNat)
    case atStart => exact ⟨0, by omega, rfl, by omega, Below.refl _ _⟩
    case round =>
      obtain ⟨k, hk, rfl, hA, hB⟩ := hrel
      have HB : Hid (Below w.heap.size w wr) := hB
      have HA : Hid (∀ j, j < k → codeAt G j = 0) := hA
      by_cases hlt : k < n
      · have HGr : Hid (FsAt wr b 0 n G) := HG.out.below hB hbl
        have hblr : b < wr.heap.size := Nat.lt_of_lt_of_le hbl hB.size
        obtain ⟨⟨f0, f1, f2, f3, f4, f5, f6⟩, hP⟩ := HGr.out k hlt
        simp only [Nat.zero_add] at f0 f1 f2 f3 f4 f5 f6
        have HP : Hid (IsPts wr (G k).a (G k).n (G k).X (G k).Y) := hP
        obtain ⟨z1, z2⟩ := HS.out.2 k hlt
        have HLT : Hid (k < n) := hlt
        clear hB hA hP
        have hi : (k : Int) < (n : Int) := by omega
        have hi0 : (0 : Int) ≤ (k : Int) := by omega
        go_wp2_with fail
        generalize hV : (wr.alloc _ : World) = V
        have hBV : Below wr.heap.size wr V := by subst hV; (repeat (first | exact Below.refl _ _ | assumption | refine Below.drew ?_ | refine bl_alloc ?_ _ | refine bl_then ?_ (by assumption) | refine Below.setCell ?_ (by first | omega | (simp; done) | (simp; omega)) _ | refine bl_store ?_ ?_ _ _))
        have v0 : ∀ W', Below V.heap.size V W' → W'.cell? ⟨wr.heap.size, 0, none⟩ = some (.int .i64 (G k).id) := fun W' h => by
          rw [h.cell (by subst hV; simp)]; subst hV; simp [go_sem]
        clear hV
        have HBV : Hid (Below w.heap.size w V) := bl_then HB.out hBV
        have HGV : Hid (FsAt V b 0 n G) := HGr.out.below hBV hblr
        have hblV : b < V.heap.size := Nat.lt_of_lt_of_le hblr hBV.size
        have HPV : Hid (IsPts V (G k).a (G k).n (G k).X (G k).Y) := HP.out.below hBV
        clear hBV f0 f1 f2 f3 f4 f5 f6 HP HGr
        refine (FeatureFault_any _ _ _ _ _ _ _ (G k).X (G k).Y _ _ _ HPV.out z2 z1).mono ?_
        rintro e w1 ⟨rfl, hb1⟩
        by_cases hc : featC (G k).id (G k).la (G k).ki (G k).wi (G k).n (G k).X (G k).Y (G k).lab (G k).pr = 0
        · rw [hc]
          have HC : Hid (featC (G k).id (G k).la (G k).ki (G k).wi (G k).n (G k).X (G k).Y (G k).lab (G k).pr = 0) := hc
          have HB1 : Hid (Below V.heap.size V w1) := hb1
          have hr1 : Below V.heap.size V w1 := hb1
          clear hc hb1
          have hk0 : (k : Int) ≤ (n : Int) := by omega
          have hkc : (k : Int) ≤ (cap : Int) := by omega
          by_cases hx : ∃ j, j < k ∧ (G j).id = (G k).id
          · have HH : Hid (∀ W', Below V.heap.size V W' → Calls Tryz.prog 92 #[.slice (some ⟨b, 0, none⟩) k cap, .int .i64 (G k).id] W' fun e w' => e = .returned (.bool true) ∧ Below W'.heap.size W' w') := fun W' h => by
              refine (hasId_any b k cap n G (G k).id W' (Nat.le_of_lt HLT.out) (HGV.out.below h hblV) (Nat.lt_of_lt_of_le hblV h.size) (by omega)).mono ?_
              rintro e w' ⟨⟨he, _⟩ | ⟨_, hno⟩, hb⟩
              · exact ⟨he, hb⟩
              · obtain ⟨j, hj, hje⟩ := hx
                exact absurd hje (hno j hj)
            have htk : Hid (codeAt G k = 6) := codeAt_taken HC.out hx
            have hsc : Hid (featsC n G = 6) := by
              show _ = _
              rw [hz.out, scan_first (codeAt G) n 0 k (fun j _ hj => HA.out j hj) (by omega) (by have := HLT.out; omega) (by rw [htk.out]; decide), htk.out]
            clear hx
            go_wp2_with fail
            go_region_held3 (fun W' => Below V.heap.size V W') ((repeat (first | exact Below.refl _ _ | assumption | refine Below.drew ?_ | refine bl_alloc ?_ _ | refine bl_then ?_ (by assumption) | refine Below.setCell ?_ (by first | omega | (simp; done) | (simp; omega)) _ | refine bl_store ?_ ?_ _ _)))
              (first | (go_at_call 92; refine (HH.out _ (by assumption)).mono ?_; rintro e w' ⟨rfl, hb⟩))
            go_wp2
            go_ret
            exact ⟨ret_int hsc.out.symm, bl_then HBV.out (by assumption)⟩
          · have HH : Hid (∀ W', Below V.heap.size V W' → Calls Tryz.prog 92 #[.slice (some ⟨b, 0, none⟩) k cap, .int .i64 (G k).id] W' fun e w' => e = .returned (.bool false) ∧ Below W'.heap.size W' w') := fun W' h => by
              refine (hasId_any b k cap n G (G k).id W' (Nat.le_of_lt HLT.out) (HGV.out.below h hblV) (Nat.lt_of_lt_of_le hblV h.size) (by omega)).mono ?_
              rintro e w' ⟨⟨_, hyes⟩ | ⟨he, _⟩, hb⟩
              · exact absurd hyes hx
              · exact ⟨he, hb⟩
            have HOK : Hid (codeAt G k = 0) := codeAt_ok HC.out hx
            clear hx
            go_wp2_with fail
            go_region_held3 (fun W' => Below V.heap.size V W') ((repeat (first | exact Below.refl _ _ | assumption | refine Below.drew ?_ | refine bl_alloc ?_ _ | refine bl_then ?_ (by assumption) | refine Below.setCell ?_ (by first | omega | (simp; done) | (simp; omega)) _ | refine bl_store ?_ ?_ _ _)))
              (first | (go_at_call 92; refine (HH.out _ (by assumption)).mono ?_; rintro e w' ⟨rfl, hb⟩))
            go_wp2
            go_roundw
            case rel => exact ⟨k + 1, by have := HLT.out; omega, by go_num, fun j hj => by
                by_cases e : j = k
                · rw [e]; exact HOK.out
                · exact HA.out j (by omega), bl_then HBV.out (by assumption)⟩
            case measure => have := HLT.out; simp [intOf]; omega
        · have hsc : Hid (featsC n G = featC (G k).id (G k).la (G k).ki (G k).wi (G k).n (G k).X (G k).Y (G k).lab (G k).pr) := by
            show _ = _
            have h6 := codeAt_fault hc
            rw [hz.out, scan_first (codeAt G) n 0 k (fun j _ hj => HA.out j hj) (by omega) (by have := HLT.out; omega) (by rw [h6]; exact hc), h6]
          have hcb : (featC (G k).id (G k).la (G k).ki (G k).wi (G k).n (G k).X (G k).Y (G k).lab (G k).pr == 0) = false := by simpa using hc
          have HB1 : Hid (Below w.heap.size w w1) := bl_then HBV.out hb1
          clear hc hb1
          go_wp2
          go_ret
          exact ⟨ret_int hsc.out.symm, HB1.out⟩
      · have hsc : Hid (featsC n G = 0) := by
          show _ = _
          rw [hz.out]
          exact scan_none _ _ _ (fun j _ hj => HA.out j (by omega))
        go_wp2
        go_ret
        exact ⟨ret_int hsc.out.symm, HB.out⟩
theorem OwnFs.small {w : World} {B b n : Nat} {F G : Nat → Feat} (h : OwnFs w B b n F G) (hs : SmallFs n F) : SmallFs n G := by
  refine ⟨hs.1, fun i hi => ?_⟩
  obtain ⟨⟨_, _, _, _, s5, _, _, s8, _⟩, _⟩ := h.2.2.2 i hi
  rw [s5, s8]
  exact hs.2 i hi
end Go.Proofs.YtciidkmonfmipaaGreat
/- RasterTile of the model. -/

namespace Go.Proofs.YtciidkmonfmipaaGreat
open Go.RowKit
set_option linter.unusedSimpArgs false
set_option linter.unusedVariables false
set_option maxRecDepth 100000

/-- The code of RasterTile, and its raster. -/
noncomputable def rtC (z x y : Int) (n : Nat) (G : Nat → Feat) : Int := if refC z x y = 0 then (if featsC n G = 0 then (if ordS n G = true then 0 else 1) else featsC n G) else refC z x y
noncomputable def rtL (z x y : Int) (n : Nat) (G : Nat → Feat) : List Int := if rtC z x y n G = 0 then rasK (paintF G n z) (x * 8) (y * 8) 64 else []
theorem there2t (w : World) (x y : Value) (t : TypeId) : There (w.alloc (.cells #[x, y] t)) w.heap.size 2 := fun o ho => by
  have : o = 0 ∨ o = 1 := by omega
  rcases this with rfl | rfl <;> exact ⟨⟨_, by simp [go_sem]; rfl⟩, by simp [go_sem]⟩
theorem set2t {W : World} {r : Nat} {a b : Value} (hT : There W r 2) :
    ((W.setCell ⟨r, 0, none⟩ a).setCell ⟨r, 1, none⟩ b).cell? ⟨r, 0, none⟩ = some a ∧ ((W.setCell ⟨r, 0, none⟩ a).setCell ⟨r, 1, none⟩ b).cell? ⟨r, 1, none⟩ = some b := by
  obtain ⟨u0, h0⟩ := (hT 0 (by omega)).1
  obtain ⟨u1, h1⟩ := (hT 1 (by omega)).1
  have ne : ∀ i j : Nat, i ≠ j → (⟨r, i, none⟩ : Addr) ≠ ⟨r, j, none⟩ := fun i j hij h => hij (by injection h)
  refine ⟨?_, ?_⟩
  · rw [set1_other (ne 1 0 (by omega))]; exact set1_same h0
  · exact set1_same (by rw [set1_other (ne 0 1 (by omega))]; exact h1)
theorem ownN_none (w : World) (base : Nat) : OwnN w base (.slice none 0 0) ([] : List Int).length (nz []) := ⟨none, 0, rfl, Nat.le_refl _, .inl rfl⟩
theorem rtC_zero {z x y : Int} {n : Nat} {G : Nat → Feat} (h : rtC z x y n G = 0) : refB z x y = true ∧ featsC n G = 0 ∧ ordS n G = true := by
  unfold rtC at h
  rcases refC_cases z x y with ⟨hc, hr⟩ | ⟨hc, hr⟩
  · rw [if_pos hc] at h
    by_cases hf : featsC n G = 0
    · rw [if_pos hf] at h
      cases ho : ordS n G
      · rw [ho] at h; simp at h
      · exact ⟨hr, hf, rfl⟩
    · rw [if_neg hf] at h; exact absurd h hf
  · rw [hc] at h; simp at h
end Go.Proofs.YtciidkmonfmipaaGreat
/- Which blocks are written, and what stays. -/

namespace Go.Proofs.YtciidkmonfmipaaGreat
open Go.RowKit
set_option linter.unusedSimpArgs false
set_option linter.unusedVariables false
set_option maxRecDepth 100000

/-- Only blocks from lo to hi are written. -/
structure MidB (lo hi : Nat) (w w' : World) : Prop where
  os : w'.os = w.os
  tape : w'.tape = w.tape
  output : w'.output = w.output
  size : w.heap.size ≤ w'.heap.size
  block : ∀ k, k < w.heap.size → (k < lo ∨ hi ≤ k) → w'.heap[k]? = w.heap[k]?
theorem MidB.refl (lo hi : Nat) (w : World) : MidB lo hi w w := ⟨rfl, rfl, rfl, Nat.le_refl _, fun _ _ _ => rfl⟩
theorem MidB.trans {lo hi : Nat} {a b c : World} (h : MidB lo hi a b) (k : MidB lo hi b c) : MidB lo hi a c :=
  ⟨k.os.trans h.os, k.tape.trans h.tape, k.output.trans h.output, Nat.le_trans h.size k.size, fun i hi ho => (k.block i (Nat.lt_of_lt_of_le hi h.size) ho).trans (h.block i hi ho)⟩
theorem MidB.of_below {lo hi : Nat} {a b : World} (h : Below a.heap.size a b) : MidB lo hi a b := ⟨h.os, h.tape, h.output, h.size, fun i hi _ => h.block i hi⟩
theorem MidB.of_grown {lo hi s : Nat} {a b : World} (h : a.grownBy b (some s)) (h1 : lo ≤ s) (h2 : s < hi) : MidB lo hi a b :=
  ⟨h.os, h.tape, h.output, h.size, fun j hj ho => h.block j hj (fun e => by injection e with e; omega)⟩
theorem MidB.set {lo hi s : Nat} {a b : World} (h : MidB lo hi a b) (h1 : lo ≤ s) (h2 : s < hi) (o : Nat) (v : Value) : MidB lo hi a (b.setCell ⟨s, o, none⟩ v) :=
  h.trans ⟨rfl, rfl, rfl, by simp [World.setCell], fun j _ ho => Below.heap_setCell _ _ _ _ (fun e => by simp at e; omega)⟩
theorem MidB.below {lo hi : Nat} {a b : World} (h : MidB lo hi a b) (hl : lo ≤ a.heap.size) : Below lo a b := ⟨h.os, h.tape, h.output, h.size, fun k hk => h.block k (by omega) (.inl hk)⟩
theorem MidB.cell {lo hi : Nat} {a b : World} (h : MidB lo hi a b) {p o : Nat} {v : Value} (hc : a.cell? ⟨p, o, none⟩ = some v) (ho : p < lo ∨ hi ≤ p) : b.cell? ⟨p, o, none⟩ = some v := by
  have hp := World.block_lt_of_cell? _ _ hc
  have he := h.block p hp ho
  unfold World.cell? at hc ⊢
  simp only [he]
  exact hc
theorem MidB.there {lo hi : Nat} {a b : World} (h : MidB lo hi a b) {p n : Nat} (hT : There a p n) (ho : p < lo ∨ hi ≤ p) : There b p n := fun o hn => by
  obtain ⟨v, hv⟩ := (hT o hn).1
  refine ⟨⟨v, h.cell hv ho⟩, ?_⟩
  have he := h.block p (World.block_lt_of_cell? _ _ hv) ho
  have hz := (hT o hn).2
  unfold World.frozen? at hz ⊢
  simp only [he]
  exact hz
end Go.Proofs.YtciidkmonfmipaaGreat
/- Which blocks are written, and what stays. -/

namespace Go.Proofs.YtciidkmonfmipaaGreat
open Go.RowKit
set_option linter.unusedSimpArgs false
set_option linter.unusedVariables false
set_option maxRecDepth 100000

theorem There.grown {w w' : World} {p n s : Nat} (h : There w p n) (hg : w.grownBy w' (some s)) (hs : p ≠ s) : There w' p n := fun o hn => by
  obtain ⟨v, hv⟩ := (h o hn).1
  refine ⟨⟨v, gr_cell hg hv hs⟩, ?_⟩
  have he := hg.block p (World.block_lt_of_cell? _ _ hv) (fun e => hs (by injection e))
  have hz := (h o hn).2
  unfold World.frozen? at hz ⊢
  simp only [he]
  exact hz
end Go.Proofs.YtciidkmonfmipaaGreat
/- Lists of features in memory of their own: which blocks are written, and what stays. -/

namespace Go.Proofs.YtciidkmonfmipaaGreat
open Go.RowKit
set_option linter.unusedSimpArgs false
set_option linter.unusedVariables false
set_option maxRecDepth 100000

/-- A list of features whose blocks lie from lo to hi and may be written, no two alike. -/
def OwnQ (w : World) (lo hi b n : Nat) (N C q : Nat → Nat) : Prop :=
  (lo ≤ b ∧ b < hi ∧ hi ≤ w.heap.size) ∧ There w b (n * 7) ∧
  (∀ i, i < n → (lo ≤ q i ∧ q i < hi ∧ q i ≠ b) ∧ There w (q i) (N i * 2) ∧ w.cell? ⟨b, i * 7 + 4, none⟩ = some (.slice (some ⟨q i, 0, none⟩) (N i) (C i))) ∧
  (∀ i j, i < n → j < n → q i = q j → i = j)
theorem OwnQ.below {w w' : World} {lo hi b n : Nat} {N C q : Nat → Nat} (h : OwnQ w lo hi b n N C q) (hb : Below w.heap.size w w') : OwnQ w' lo hi b n N C q := by
  obtain ⟨⟨h1, h2, h3⟩, h4, h5, h6⟩ := h
  exact ⟨⟨h1, h2, Nat.le_trans h3 hb.size⟩, h4.below hb, fun i hi => ⟨(h5 i hi).1, (h5 i hi).2.1.below hb, bl_cell hb (h5 i hi).2.2⟩, h6⟩
theorem OwnQ.away {w w' : World} {lo hi lo' hi' b n : Nat} {N C q : Nat → Nat} (h : OwnQ w lo hi b n N C q) (hm : MidB lo' hi' w w') (ho : hi' ≤ lo ∨ hi ≤ lo') : OwnQ w' lo hi b n N C q := by
  obtain ⟨⟨h1, h2, h3⟩, h4, h5, h6⟩ := h
  exact ⟨⟨h1, h2, Nat.le_trans h3 hm.size⟩, hm.there h4 (by omega), fun i hi => ⟨(h5 i hi).1, hm.there (h5 i hi).2.1 (by have := (h5 i hi).1; omega), hm.cell (h5 i hi).2.2 (by omega)⟩, h6⟩

end Go.Proofs.YtciidkmonfmipaaGreat
/- The text of a mark: the same for the same number. -/

namespace Go.Proofs.YtciidkmonfmipaaGreat
open Go.RowKit
set_option linter.unusedSimpArgs false
set_option linter.unusedVariables false
set_option maxRecDepth 100000

def dgB (m : Nat) : UInt8 := UInt8.ofNat (48 + m % 10)
theorem dgB_nat (m : Nat) : (dgB m).toNat = 48 + m % 10 := by
  unfold dgB
  rw [UInt8.toNat_ofNat']
  omega
/-- The digits of k, ahead of s. -/
def mDg (k : Nat) (s : ByteArray) : ByteArray := if h : k = 0 then s else mDg (k / 10) (⟨#[dgB k]⟩ ++ s)
termination_by k
decreasing_by omega
def mTx (k : Nat) : ByteArray := ⟨#[109]⟩ ++ mDg k ⟨#[]⟩
set_option maxHeartbeats 2000000 in
theorem markText_any (k : Nat) (w : World) (h0 : 0 < k) (hk : k ≤ 6000000000000000000) :
    Calls Tryz.prog 75 #[.int .i64 (k : Int)] w fun e w' => e = .returned (.string (mTx k)) ∧ Below w.heap.size w w' := by
  have hneg : ¬ (k : Int) ≤ 0 := by omega
  go_enter Tryz.func75, Tryz.ntmps75
  go_wp2
  go_loopw [0, 3] (fun kk o wr => ∃ (m : Nat) (s : ByteArray) (j : Nat), kk = .int .i64 (m : Int) ∧ o = .string s ∧ m ≤ k ∧ mDg m s = mDg k ⟨#[]⟩ ∧ m < 10 ^ j ∧ s.size + j = 20 ∧ Below w.heap.size w wr) (fun kk _ _ => (intOf kk).toNat)
  case atStart => exact ⟨k, ⟨#[]⟩, 20, rfl, rfl, Nat.le_refl _, rfl, by omega, rfl, Below.refl _ _⟩
  case round =>
    obtain ⟨m, s, j, rfl, rfl, hm, hd, hj, hsj, hB⟩ := hrel
    by_cases hz : 0 < m
    · have hz' : (0 : Int) < (m : Int) := by omega
      have HD : Hid (mDg m s = mDg k ⟨#[]⟩) := hd
      have HJ : Hid (m < 10 ^ j) := hj
      clear hd hj
      have hcv : ∀ W B : World, W = B.alloc (.cells #[.int .u8 (48 + (m : Int) % 10)] 5) → (convert 166 9 (.slice (some ⟨B.heap.size, 0, none⟩) 1 1)).run Tryz.prog W = .ok (.string ⟨#[dgB m]⟩) W := fun W B e => by
        subst e
        have h := run_convert_bytes_back (P := Tryz.prog) (B.alloc (.cells #[.int .u8 (48 + (m : Int) % 10)] 5)) 166 9 5 ⟨B.heap.size, 0, none⟩ 1 [dgB m] Tryz.underlying166 Tryz.underlying5 Tryz.underlying9
        refine h (fun j hj => ?_)
        have hj0 : j = 0 := by simpa using hj
        subst hj0
        simp [Addr.add, go_sem, dgB_nat]
      have hcw := hcv _ wr rfl
      clear hcv
      go_wp2
      go_roundw
      case rel =>
        have hjp : 0 < j := by
          rcases Nat.eq_zero_or_pos j with h | h
          · have := HJ.out; rw [h] at this; simp at this; omega
          · exact h
        refine ⟨m / 10, _, j - 1, by simp, rfl, by omega, ?_, ?_, ?_, by (repeat (first | exact Below.refl _ _ | assumption | refine Below.drew ?_ | refine bl_alloc ?_ _ | refine bl_then ?_ (by assumption) | refine Below.setCell ?_ (by first | omega | (simp; done) | (simp; omega)) _ | refine bl_store ?_ ?_ _ _))⟩
        · rw [← HD.out]
          conv => rhs; rw [mDg]
          rw [dif_neg (by omega)]
        · have h1 := HJ.out
          have e : j = (j - 1) + 1 := by omega
          rw [e, Nat.pow_succ] at h1
          omega
        · have e1 : (⟨#[dgB m]⟩ : ByteArray).size = 1 := rfl
          rw [ByteArray.size_append, e1]
          omega
      case measure => simp [intOf]; omega
    · have hm0 : m = 0 := by omega
      subst hm0
      have HE : Hid (s = mDg k ⟨#[]⟩) := by
        show _ = _
        rw [← hd]
        rw [mDg]
        simp
      clear hd hj
      go_wp2
      go_ret
      refine ⟨?_, hB⟩
      have := HE.out
      rw [mTx, ← this]
      rfl
end Go.Proofs.YtciidkmonfmipaaGreat
