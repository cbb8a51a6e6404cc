/- The sum of a tile: the program and the model. -/
import Derived.Test.YtefcecnlgbeclaaVSumTile40
import Derived.Test.YtefcecnlgbeclaaVSumTile42
import Derived.Test.YtefcecnlgbeclaaVSumTile33
import Derived.Test.YtefcecnlgbeclaaVSumTile45
namespace Go.Proofs.Ytefcecnlgbeclaa
open Go.RowKit
set_option linter.unusedSimpArgs false
set_option linter.unusedVariables false
set_option maxRecDepth 100000

theorem there2t (V : World) (a b : Value) (t : TypeId) : There (V.alloc (.cells #[a, b] t)) V.heap.size 2 := fun o ho => by
  have : o = 0 ∨ o = 1 := by omega
  rcases this with rfl | rfl <;> exact ⟨⟨_, by simp [go_sem]; rfl⟩, by simp [go_sem]⟩
/-- The answer of SumTile: its code and its number. -/
noncomputable def stC (z x y : Int) (n : Nat) (G : Nat → Feat) : Int := if refC z x y = 0 then plC n G else refC z x y
noncomputable def stN (z x y : Int) (n : Nat) (G : Nat → Feat) : Int := if stC z x y n G = 0 then sumZ (zz (plL n G)) (plL n G).length else 0
theorem plL_900 (n : Nat) (G : Nat → Feat) : (plL n G).length ≤ 900 := by
  unfold plL
  split
  · rename_i h
    unfold plC at h
    split at h
    · split at h
      · split at h
        · omega
        · simp [endL]; omega
      · omega
    · contradiction
  · simp
theorem st_same {z x y : Int} {G H : Nat → Feat} {n : Nat} (h : ∀ i, i < n → (G i).same (H i)) : stC z x y n G = stC z x y n H ∧ stN z x y n G = stN z x y n H := by
  obtain ⟨h1, h2⟩ := pl_same h
  unfold stN stC
  rw [h1, h2]
  exact ⟨rfl, rfl⟩
set_option maxHeartbeats 8000000 in
theorem spec_SumTile_any (z x y : Int) (b n cap : Nat) (G : Nat → Feat) (w : World) (hg : FsAt w b 0 n G) (hbl : b < w.heap.size) (hs : SmallFs n G) (hcap : n ≤ cap) :
    Calls Try.prog 30 #[.agg #[.int .i64 z, .int .i64 x, .int .i64 y, .slice (some ⟨b, 0, none⟩) n cap]] w fun e w' => e = .returned (.agg #[.int .i64 (stC z x y n G), .int .i64 (stN z x y n G)]) ∧ Below w.heap.size w w' := by
  have HG : Hid (FsAt w b 0 n G) := hg
  have HS : Hid (SmallFs n G) := hs
  clear hg hs
  go_enter Try.func30, Try.ntmps30
  go_wp2_with fail
  generalize hW : ((w.alloc _).alloc _ : World) = W
  have HB0 : Hid (Below w.heap.size w W) := by show Below _ _ _; subst hW; (repeat (first | exact Below.refl _ _ | assumption | refine Below.drew ?_ | refine bl_alloc ?_ _ | refine bl_then ?_ (by assumption) | refine Below.setCell ?_ (by first | omega | (simp; done) | (simp; omega)) _ | refine bl_store ?_ ?_ _ _))
  have HT : Hid (There W (w.heap.size + 1) 2) := by
    show There _ _ _
    subst hW
    have := there2t (w.alloc (.cells #[.int .i64 z, .int .i64 x, .int .i64 y, .slice (some ⟨b, 0, none⟩) n cap] 46)) (.int .i64 0) (.int .i64 0) 35
    simpa using this
  have c00 : ∀ W', Below W.heap.size W W' → W'.cell? ⟨w.heap.size, 0, none⟩ = some (.int .i64 z) := fun W' h => by
    rw [h.cell (by subst hW; simp <;> omega)]; subst hW; simp [go_sem]
  have c01 : ∀ W', Below W.heap.size W W' → W'.cell? ⟨w.heap.size, 1, none⟩ = some (.int .i64 x) := fun W' h => by
    rw [h.cell (by subst hW; simp <;> omega)]; subst hW; simp [go_sem]
  have c02 : ∀ W', Below W.heap.size W W' → W'.cell? ⟨w.heap.size, 2, none⟩ = some (.int .i64 y) := fun W' h => by
    rw [h.cell (by subst hW; simp <;> omega)]; subst hW; simp [go_sem]
  have c03 : ∀ W', Below W.heap.size W W' → W'.cell? ⟨w.heap.size, 3, none⟩ = some (.slice (some ⟨b, 0, none⟩) n cap) := fun W' h => by
    rw [h.cell (by subst hW; simp <;> omega)]; subst hW; simp [go_sem]
  have hsz : w.heap.size + 1 < W.heap.size := by subst hW; simp
  clear hW
  refine (l7Fault_any _ _ _ _).mono ?_
  rintro e w1 ⟨rfl, hb1⟩
  have HT1 : Hid (There w1 (w.heap.size + 1) 2) := HT.out.below hb1
  have HB1 : Hid (Below w.heap.size w w1) := bl_then HB0.out hb1
  have hsz1 : w.heap.size + 1 < w1.heap.size := Nat.lt_of_lt_of_le hsz hb1.size
  have e3 := c03 w1 hb1
  clear hb1 HT HB0 c00 c01 c02 c03 hsz
  have hT' := HT1.out
  have t0 := hT'.cell 0 (by omega)
  have t1 := hT'.cell 1 (by omega)
  have f0 := (hT' 0 (by omega)).2
  have f1 := (hT' 1 (by omega)).2
  clear hT'
  rcases refC_cases z x y with ⟨hc, hr⟩ | ⟨hc, hr⟩
  · have hsC : Hid (stC z x y n G = plC n G) := by show _ = _; simp [stC, hc]
    simp only [hc]
    clear hr hc t0 t1 f0 f1
    have hB1 := HB1.out
    go_wp2_with fail
    refine (spec_PackList_any b n cap G _ (HG.out.below hB1 hbl) (Nat.lt_of_lt_of_le hbl hB1.size) HS.out).mono ?_
    rintro e w2 ⟨v, rfl, hR2, hb2⟩
    obtain ⟨va, vc, rfl, hvc, hvb⟩ := hR2.own.pts
    have HV2 : Hid (IsBytes w2 va (plL n G).length (zz (plL n G))) := hvb
    have HT2 : Hid (There w2 (w.heap.size + 1) 2) := HT1.out.below hb2
    have HB2 : Hid (Below w.heap.size w w2) := bl_then HB1.out hb2
    have hsz2 : w.heap.size + 1 < w2.heap.size := Nat.lt_of_lt_of_le hsz1 hb2.size
    clear hR2 hvb hb2 hB1 HB1 HT1
    have hlen := plL_900 n G
    have HY : Hid (∀ i, 0 ≤ zz (plL n G) i ∧ zz (plL n G) i ≤ 255) := fun i => zz_byt (plL_byt n G) i
    have HN : Hid (stN z x y n G = if plC n G = 0 then sumZ (zz (plL n G)) (plL n G).length else 0) := by show _ = _; unfold stN; rw [hsC.out]
    have hsv : Hid (sumV (plL n G).length (zz (plL n G)) = .agg #[.int .i64 0, .int .i64 (sumZ (zz (plL n G)) (plL n G).length)]) := by show _ = _; unfold sumV; rw [if_neg (by omega)]
    generalize plC n G = pc at *
    generalize plL n G = pl at *
    generalize hL : pl.length = L at *
    clear hL
    by_cases hpc : pc = 0
    · subst hpc
      go_wp2_with fail
      generalize hW3 : (w2.alloc _ : World) = w3
      have hb3 : Below w2.heap.size w2 w3 := by subst hW3; (repeat (first | exact Below.refl _ _ | assumption | refine Below.drew ?_ | refine bl_alloc ?_ _ | refine bl_then ?_ (by assumption) | refine Below.setCell ?_ (by first | omega | (simp; done) | (simp; omega)) _ | refine bl_store ?_ ?_ _ _))
      clear hW3
      have HT3 : Hid (There w3 (w.heap.size + 1) 2) := HT2.out.below hb3
      have HB3 : Hid (Below w.heap.size w w3) := bl_then HB2.out hb3
      have HV3 : Hid (IsBytes w3 va L (zz pl)) := HV2.out.below hb3
      have hsz3 : w.heap.size + 1 < w3.heap.size := Nat.lt_of_lt_of_le hsz2 hb3.size
      clear hb3 HT2 HB2 HV2 hsz2
      refine (spec_SumBytes_any va L vc (zz pl) _ HV3.out HY.out (by omega)).mono ?_
      rintro e w4 ⟨rfl, hb4⟩
      rw [hsv.out]
      have hT' := HT3.out.below hb4
      have HT4 : Hid (There w4 (w.heap.size + 1) 2) := hT'
      have t0 := hT'.cell 0 (by omega)
      have t1 := hT'.cell 1 (by omega)
      have f0 := (hT' 0 (by omega)).2
      have f1 := (hT' 1 (by omega)).2
      have HB4 : Hid (Below w.heap.size w w4) := bl_then HB3.out hb4
      clear hT' hb4
      go_wp2_with fail
      obtain ⟨q0, q1⟩ := set2_at (u := .int .i64 0) (v := .int .i64 (sumZ (zz pl) L)) (show (0 : Nat) ≠ 1 by omega) (by rw [t0]; rfl) (by rw [t1]; rfl)
      refine bodyPost_ret (v := .agg #[.int .i64 0, .int .i64 (sumZ (zz pl) L)]) (by simp [results, Try.results30, go_sem, q0, q1]) rfl ⟨by rw [hsC.out, HN.out]; simp, ?_⟩
      have HB := HB4.out
      (repeat (first | exact Below.refl _ _ | assumption | refine Below.drew ?_ | refine bl_alloc ?_ _ | refine bl_then ?_ (by assumption) | refine Below.setCell ?_ (by first | omega | (simp; done) | (simp; omega)) _ | refine bl_store ?_ ?_ _ _))
    · have hT' := HT2.out
      have t0 := hT'.cell 0 (by omega)
      have t1 := hT'.cell 1 (by omega)
      have f0 := (hT' 0 (by omega)).2
      have f1 := (hT' 1 (by omega)).2
      clear hT'
      go_wp2_with fail
      obtain ⟨q0, q1⟩ := set2_at (u := .int .i64 pc) (v := .int .i64 0) (show (0 : Nat) ≠ 1 by omega) (by rw [t0]; rfl) (by rw [t1]; rfl)
      have HB3 : Below w.heap.size w ((w2.setCell ⟨w.heap.size + 1, 0, none⟩ (.int .i64 pc)).setCell ⟨w.heap.size + 1, 1, none⟩ (.int .i64 0)) := by
        have HB := HB2.out
        (repeat (first | exact Below.refl _ _ | assumption | refine Below.drew ?_ | refine bl_alloc ?_ _ | refine bl_then ?_ (by assumption) | refine Below.setCell ?_ (by first | omega | (simp; done) | (simp; omega)) _ | refine bl_store ?_ ?_ _ _))
      generalize hX : ((w2.setCell ⟨w.heap.size + 1, 0, none⟩ (.int .i64 pc)).setCell ⟨w.heap.size + 1, 1, none⟩ (.int .i64 0)) = X at q0 q1 HB3 ⊢
      have r0 : (X.alloc (.cells #[.int .i64 pc, .slice va L vc] 30)).cell? ⟨w.heap.size + 1, 0, none⟩ = some (.int .i64 pc) := (World.cell?_alloc_some _ _ _ (by rw [q0]; rfl)).trans q0
      have r1 : (X.alloc (.cells #[.int .i64 pc, .slice va L vc] 30)).cell? ⟨w.heap.size + 1, 1, none⟩ = some (.int .i64 0) := (World.cell?_alloc_some _ _ _ (by rw [q1]; rfl)).trans q1
      refine bodyPost_ret (v := .agg #[.int .i64 pc, .int .i64 0]) (by simp [results, Try.results30, go_sem, r0, r1]) rfl ⟨by rw [hsC.out, HN.out, if_neg hpc], bl_alloc HB3 _⟩
  · have hq : Hid (stC z x y n G = 3 ∧ stN z x y n G = 0) := by show _ ∧ _; simp [stC, stN, hc]
    simp only [hc]
    clear hr hc
    go_wp2_with fail
    obtain ⟨q0, q1⟩ := set2_at (u := .int .i64 3) (v := .int .i64 0) (show (0 : Nat) ≠ 1 by omega) (by rw [t0]; rfl) (by rw [t1]; rfl)
    refine bodyPost_ret (v := .agg #[.int .i64 3, .int .i64 0]) (by simp [results, Try.results30, go_sem, q0, q1]) rfl ⟨by rw [hq.out.1, hq.out.2], ?_⟩
    have HB := HB1.out
    (repeat (first | exact Below.refl _ _ | assumption | refine Below.drew ?_ | refine bl_alloc ?_ _ | refine bl_then ?_ (by assumption) | refine Below.setCell ?_ (by first | omega | (simp; done) | (simp; omega)) _ | refine bl_store ?_ ?_ _ _))
set_option maxHeartbeats 8000000 in
theorem impl_SumTile_any (z x y : Int) (b n cap : Nat) (G : Nat → Feat) (w : World) (hg : FsAt w b 0 n G) (hbl : b < w.heap.size) (hs : SmallFs n G) (hcap : n ≤ cap) :
    Calls Try.prog 32 #[.agg #[.int .i64 z, .int .i64 x, .int .i64 y, .slice (some ⟨b, 0, none⟩) n cap]] w fun e w' => e = .returned (.agg #[.int .i64 (stC z x y n G), .int .i64 (stN z x y n G)]) ∧ Below w.heap.size w w' := by
  have HG : Hid (FsAt w b 0 n G) := hg
  have HS : Hid (SmallFs n G) := hs
  clear hg hs
  go_enter Try.func32, Try.ntmps32
  go_wp2_with fail
  generalize hW : (((w.alloc _).alloc _).alloc _ : World) = W
  have HB0 : Hid (Below w.heap.size w W) := by show Below _ _ _; subst hW; (repeat (first | exact Below.refl _ _ | assumption | refine Below.drew ?_ | refine bl_alloc ?_ _ | refine bl_then ?_ (by assumption) | refine Below.setCell ?_ (by first | omega | (simp; done) | (simp; omega)) _ | refine bl_store ?_ ?_ _ _))
  have HT : Hid (There W (w.heap.size + 1) 2) := by
    show There _ _ _
    subst hW
    have := (there2t (w.alloc (.cells #[.int .i64 z, .int .i64 x, .int .i64 y, .slice (some ⟨b, 0, none⟩) n cap] 46)) (.int .i64 0) (.int .i64 0) 35).below (bl_alloc (Below.refl _ _) (.cells #[.int .i64 z, .int .i64 x, .int .i64 y, .slice (some ⟨b, 0, none⟩) n cap] 90))
    simpa using this
  have c03 : ∀ W', Below W.heap.size W W' → W'.cell? ⟨w.heap.size + 1 + 1, 3, none⟩ = some (.slice (some ⟨b, 0, none⟩) n cap) := fun W' h => by
    rw [h.cell (by subst hW; simp <;> omega)]; subst hW; simp [go_sem]
  have hsz : w.heap.size + 1 < W.heap.size := by subst hW; simp
  clear hW
  refine (refFault_any _ _ _ _).mono ?_
  rintro e w1 ⟨rfl, hb1⟩
  have HT1 : Hid (There w1 (w.heap.size + 1) 2) := HT.out.below hb1
  have HB1 : Hid (Below w.heap.size w w1) := bl_then HB0.out hb1
  have hsz1 : w.heap.size + 1 < w1.heap.size := Nat.lt_of_lt_of_le hsz hb1.size
  have e3 := c03 w1 hb1
  clear hb1 HT HB0 c03 hsz
  have hT' := HT1.out
  have t0 := hT'.cell 0 (by omega)
  have t1 := hT'.cell 1 (by omega)
  have f0 := (hT' 0 (by omega)).2
  have f1 := (hT' 1 (by omega)).2
  clear hT'
  rcases refC_cases z x y with ⟨hc, hr⟩ | ⟨hc, hr⟩
  · have hsC : Hid (stC z x y n G = plC n G) := by show _ = _; simp [stC, hc]
    simp only [hc]
    clear hr hc t0 t1 f0 f1
    have hB1 := HB1.out
    go_wp2_with fail
    refine (impl_PackList_any b n cap G _ (HG.out.below hB1 hbl) (Nat.lt_of_lt_of_le hbl hB1.size) HS.out hcap).mono ?_
    rintro e w2 ⟨v, rfl, hR2, hb2⟩
    obtain ⟨va, vc, rfl, hvc, hvb⟩ := hR2.own.pts
    have HV2 : Hid (IsBytes w2 va (plL n G).length (zz (plL n G))) := hvb
    have HT2 : Hid (There w2 (w.heap.size + 1) 2) := HT1.out.below hb2
    have HB2 : Hid (Below w.heap.size w w2) := bl_then HB1.out hb2
    have hsz2 : w.heap.size + 1 < w2.heap.size := Nat.lt_of_lt_of_le hsz1 hb2.size
    clear hR2 hvb hb2 hB1 HB1 HT1
    have hlen := plL_900 n G
    have HY : Hid (∀ i, 0 ≤ zz (plL n G) i ∧ zz (plL n G) i ≤ 255) := fun i => zz_byt (plL_byt n G) i
    have HN : Hid (stN z x y n G = if plC n G = 0 then sumZ (zz (plL n G)) (plL n G).length else 0) := by show _ = _; unfold stN; rw [hsC.out]
    have hsv : Hid (sumV (plL n G).length (zz (plL n G)) = .agg #[.int .i64 0, .int .i64 (sumZ (zz (plL n G)) (plL n G).length)]) := by show _ = _; unfold sumV; rw [if_neg (by omega)]
    generalize plC n G = pc at *
    generalize plL n G = pl at *
    generalize hL : pl.length = L at *
    clear hL
    by_cases hpc : pc = 0
    · subst hpc
      go_wp2_with fail
      generalize hW3 : (w2.alloc _ : World) = w3
      have hb3 : Below w2.heap.size w2 w3 := by subst hW3; (repeat (first | exact Below.refl _ _ | assumption | refine Below.drew ?_ | refine bl_alloc ?_ _ | refine bl_then ?_ (by assumption) | refine Below.setCell ?_ (by first | omega | (simp; done) | (simp; omega)) _ | refine bl_store ?_ ?_ _ _))
      clear hW3
      have HT3 : Hid (There w3 (w.heap.size + 1) 2) := HT2.out.below hb3
      have HB3 : Hid (Below w.heap.size w w3) := bl_then HB2.out hb3
      have HV3 : Hid (IsBytes w3 va L (zz pl)) := HV2.out.below hb3
      have hsz3 : w.heap.size + 1 < w3.heap.size := Nat.lt_of_lt_of_le hsz2 hb3.size
      clear hb3 HT2 HB2 HV2 hsz2
      refine (impl_SumBytes_any va L vc (zz pl) _ HV3.out HY.out (by omega)).mono ?_
      rintro e w4 ⟨rfl, hb4⟩
      rw [hsv.out]
      have hT' := HT3.out.below hb4
      have HT4 : Hid (There w4 (w.heap.size + 1) 2) := hT'
      have t0 := hT'.cell 0 (by omega)
      have t1 := hT'.cell 1 (by omega)
      have f0 := (hT' 0 (by omega)).2
      have f1 := (hT' 1 (by omega)).2
      have HB4 : Hid (Below w.heap.size w w4) := bl_then HB3.out hb4
      clear hT' hb4
      go_wp2_with fail
      obtain ⟨q0, q1⟩ := set2_at (u := .int .i64 0) (v := .int .i64 (sumZ (zz pl) L)) (show (0 : Nat) ≠ 1 by omega) (by rw [t0]; rfl) (by rw [t1]; rfl)
      refine bodyPost_ret (v := .agg #[.int .i64 0, .int .i64 (sumZ (zz pl) L)]) (by simp [results, Try.results32, go_sem, q0, q1]) rfl ⟨by rw [hsC.out, HN.out]; simp, ?_⟩
      have HB := HB4.out
      (repeat (first | exact Below.refl _ _ | assumption | refine Below.drew ?_ | refine bl_alloc ?_ _ | refine bl_then ?_ (by assumption) | refine Below.setCell ?_ (by first | omega | (simp; done) | (simp; omega)) _ | refine bl_store ?_ ?_ _ _))
    · have hT' := HT2.out
      have t0 := hT'.cell 0 (by omega)
      have t1 := hT'.cell 1 (by omega)
      have f0 := (hT' 0 (by omega)).2
      have f1 := (hT' 1 (by omega)).2
      clear hT'
      go_wp2_with fail
      obtain ⟨q0, q1⟩ := set2_at (u := .int .i64 pc) (v := .int .i64 0) (show (0 : Nat) ≠ 1 by omega) (by rw [t0]; rfl) (by rw [t1]; rfl)
      have HB3 : Below w.heap.size w ((w2.setCell ⟨w.heap.size + 1, 0, none⟩ (.int .i64 pc)).setCell ⟨w.heap.size + 1, 1, none⟩ (.int .i64 0)) := by
        have HB := HB2.out
        (repeat (first | exact Below.refl _ _ | assumption | refine Below.drew ?_ | refine bl_alloc ?_ _ | refine bl_then ?_ (by assumption) | refine Below.setCell ?_ (by first | omega | (simp; done) | (simp; omega)) _ | refine bl_store ?_ ?_ _ _))
      generalize hX : ((w2.setCell ⟨w.heap.size + 1, 0, none⟩ (.int .i64 pc)).setCell ⟨w.heap.size + 1, 1, none⟩ (.int .i64 0)) = X at q0 q1 HB3 ⊢
      have r0 : (X.alloc (.cells #[.int .i64 pc, .slice va L vc] 30)).cell? ⟨w.heap.size + 1, 0, none⟩ = some (.int .i64 pc) := (World.cell?_alloc_some _ _ _ (by rw [q0]; rfl)).trans q0
      have r1 : (X.alloc (.cells #[.int .i64 pc, .slice va L vc] 30)).cell? ⟨w.heap.size + 1, 1, none⟩ = some (.int .i64 0) := (World.cell?_alloc_some _ _ _ (by rw [q1]; rfl)).trans q1
      refine bodyPost_ret (v := .agg #[.int .i64 pc, .int .i64 0]) (by simp [results, Try.results32, go_sem, r0, r1]) rfl ⟨by rw [hsC.out, HN.out, if_neg hpc], bl_alloc HB3 _⟩
  · have hq : Hid (stC z x y n G = 3 ∧ stN z x y n G = 0) := by show _ ∧ _; simp [stC, stN, hc]
    simp only [hc]
    clear hr hc
    go_wp2_with fail
    obtain ⟨q0, q1⟩ := set2_at (u := .int .i64 3) (v := .int .i64 0) (show (0 : Nat) ≠ 1 by omega) (by rw [t0]; rfl) (by rw [t1]; rfl)
    refine bodyPost_ret (v := .agg #[.int .i64 3, .int .i64 0]) (by simp [results, Try.results32, go_sem, q0, q1]) rfl ⟨by rw [hq.out.1, hq.out.2], ?_⟩
    have HB := HB1.out
    (repeat (first | exact Below.refl _ _ | assumption | refine Below.drew ?_ | refine bl_alloc ?_ _ | refine bl_then ?_ (by assumption) | refine Below.setCell ?_ (by first | omega | (simp; done) | (simp; omega)) _ | refine bl_store ?_ ?_ _ _))
end Go.Proofs.Ytefcecnlgbeclaa
