/- A feature told as bytes: the program's way. -/
import Derived.Test.YtkadkpdcjccnbabVPackList25
namespace Go.Proofs.Ytkadkpdcjccnbab
open Go.RowKit
set_option linter.unusedSimpArgs false
set_option linter.unusedVariables false
set_option maxRecDepth 100000

/-- The bytes of PackFeature; its code is the fault. -/
def pfL (id la ki wi : Int) (n : Nat) (X Y : Nat → Int) (lab : ByteArray) (pr : Int) : List Int :=
  if featC id la ki wi n X Y lab pr = 0 then featL id.toNat la.toNat ki.toNat wi.toNat pr.toNat lab n X Y else []
/-- What a feature without a fault has. -/
theorem feat_ok {id la ki wi : Int} {n : Nat} {X Y : Nat → Int} {lab : ByteArray} {pr : Int} (h : featC id la ki wi n X Y lab pr = 0) :
    ∃ i l k v p : Nat, id = (i : Int) ∧ la = (l : Int) ∧ ki = (k : Int) ∧ wi = (v : Int) ∧ pr = (p : Int) ∧ i ≤ 999 ∧ l ≤ 999 ∧ k ≤ 999 ∧ v ≤ 999 ∧ p ≤ 999 ∧ 0 < n ∧ n ≤ 12 ∧ Near n X Y ∧ lab.size ≤ 6 := by
  unfold featC at h
  split at h
  · rename_i h1
    split at h
    · rename_i h2
      split at h
      · rename_i h3
        split at h
        · rename_i h4
          simp [rngB, inB] at h1
          simp [ptsIn, inW, inB] at h3
          simp [labB] at h4
          have hn : 0 < n ∧ n ≤ 12 := by
            unfold sizeB at h2
            split at h2
            · simp at h2; omega
            · split at h2 <;> (simp [inB] at h2; omega)
          refine ⟨id.toNat, la.toNat, ki.toNat, wi.toNat, pr.toNat, by omega, by omega, by omega, by omega, by omega, by omega, by omega, by omega, by omega, by omega, hn.1, hn.2, fun i hi => ?_, h4.1⟩
          have := h3 i hi
          omega
        · omega
      · omega
    · omega
  · omega

set_option maxHeartbeats 4000000 in
theorem impl_PackFeature_any (id la ki wi : Int) (b n : Nat) (X Y : Nat → Int) (lab : ByteArray) (pr : Int) (w : World) (hp : PtsAt w b 0 n X Y) (hbl : b < w.heap.size) (hls : lab.size ≤ 1048576) (hnn : n ≤ 1048576) :
    Calls Try.prog 21 #[.agg #[.int .i64 id, .int .i64 la, .int .i64 ki, .int .i64 wi, .slice (some ⟨b, 0, none⟩) n n, .string lab, .int .i64 pr]] w fun e w' => ∃ v, e = .returned (.agg #[.int .i64 (featC id la ki wi n X Y lab pr), v]) ∧ RowB w.heap.size w' v (pfL id la ki wi n X Y lab pr) ∧ Below w.heap.size w w' := by
  have HP : Hid (PtsAt w b 0 n X Y) := hp
  clear hp
  go_enter Try.func21, Try.ntmps21
  go_wp2_with fail
  generalize hW : ((w.alloc _).alloc _ : World) = W
  have hB0 : Below w.heap.size w W := by subst hW; (repeat (first | exact Below.refl _ _ | assumption | refine Below.drew ?_ | refine bl_alloc ?_ _ | refine bl_then ?_ (by assumption) | refine Below.setCell ?_ (by first | omega | (simp; done) | (simp; omega)) _ | refine bl_store ?_ ?_ _ _))
  have HF : Hid (OutAt W w.heap.size id la ki wi (.slice (some ⟨b, 0, none⟩) n n) lab pr) := by
    subst hW
    exact (OutAt.fresh w id la ki wi _ lab pr).nb (NB.of_below ((Below.refl _ _).alloc (Nat.le_refl _) _))
  have t0 : There W (w.heap.size + 1) 2 := fun o ho => by
    subst hW
    match o, ho with
    | 0, _ => exact ⟨⟨_, by simp [go_sem]; rfl⟩, by simp [go_sem]⟩
    | 1, _ => exact ⟨⟨_, by simp [go_sem]; rfl⟩, by simp [go_sem]⟩
  have hlt : w.heap.size + 1 < W.heap.size := by subst hW; simp
  have HT : Hid (There W (w.heap.size + 1) 2) := t0
  clear hW t0
  refine (FeatureFault_any id la ki wi _ n n X Y lab pr W (.inr ⟨b, 0, rfl, by omega, HP.out.below hB0 hbl⟩) hls hnn).mono ?_
  rintro e w1 ⟨rfl, hb1⟩
  have HF1 : Hid (OutAt w1 w.heap.size id la ki wi (.slice (some ⟨b, 0, none⟩) n n) lab pr) := HF.out.below hb1
  have HT1 : Hid (There w1 (w.heap.size + 1) 2) := HT.out.below hb1
  have HB1 : Hid (Below w.heap.size w w1) := bl_then hB0 hb1
  have hlt1 : w.heap.size + 1 < w1.heap.size := by have := hb1.size; omega
  clear HF HT hB0 hb1
  by_cases h0 : featC id la ki wi n X Y lab pr = 0
  · have HL : Hid (pfL id la ki wi n X Y lab pr = featL id.toNat la.toNat ki.toNat wi.toNat pr.toNat lab n X Y) := by show _ = _; simp [pfL, h0]
    obtain ⟨i, l, k, v, p, rfl, rfl, rfl, rfl, rfl, g1, g2, g3, g4, g5, gn, gn', hin, hs⟩ := feat_ok h0
    have HC : Hid (featC (i : Int) l k v n X Y lab p = 0) := h0
    have HIN : Hid (Near n X Y) := hin
    rw [h0]
    clear h0 hin
    obtain ⟨⟨c0, c1, c2, c3, c4, c5, c6⟩, _⟩ := HF1.out.cells
    go_wp2_with fail
    refine (putFeature_any w1.heap.size (.slice none 0 0) [] i l k v p lab b 0 n n X Y w1 (RowB.no _ _) (Nat.le_refl _) (HP.out.below HB1.out hbl) (by omega) gn' HIN.out hs g1 g2 g3 g4 g5 (by simp)).mono ?_
    rintro e w2 ⟨u, rfl, hR, hb2, hN2⟩
    have hpos : 0 < ([] ++ featL i l k v p lab n X Y).length := by have := putI_ne i; simp [featL, hd]; omega
    obtain ⟨g, cap, rfl, hg1, hg2, hc2, hbs⟩ := hR.at hpos
    have HR : Hid (RowB w1.heap.size w2 (.slice (some ⟨g, 0, none⟩) ([] ++ featL i l k v p lab n X Y).length cap) ([] ++ featL i l k v p lab n X Y)) := hR
    generalize ([] ++ featL i l k v p lab n X Y).length = L at *
    have HT2 : Hid (There w2 (w.heap.size + 1) 2) := HT1.out.below hb2
    have HB2 : Hid (Below w.heap.size w w2) := bl_then HB1.out hb2
    obtain ⟨r, hr⟩ : ∃ r, w.heap.size + 1 = r := ⟨_, rfl⟩
    rw [hr] at HT2 hlt1
    try rw [hr]
    have hwr : w.heap.size ≤ r := by omega
    have x0 := HT2.out.cell 0 (by omega)
    have x1 := HT2.out.cell 1 (by omega)
    have f0 := (HT2.out 0 (by omega)).2
    have f1 := (HT2.out 1 (by omega)).2
    clear hbs hc2 hR hb2 hN2 HT1 HB1 HF1 c0 c1 c2 c3 c4 c5 c6
    go_wp2
    have s0 : ((w2.setCell ⟨r, 0, none⟩ (.int .i64 0)).setCell ⟨r, 1, none⟩ (.slice (some ⟨g, 0, none⟩) L cap)).cell? ⟨r, 0, none⟩ = some (.int .i64 0) := set2_0 (by rw [x0]; rfl)
    have s1 : ((w2.setCell ⟨r, 0, none⟩ (.int .i64 0)).setCell ⟨r, 1, none⟩ (.slice (some ⟨g, 0, none⟩) L cap)).cell? ⟨r, 1, none⟩ = some (.slice (some ⟨g, 0, none⟩) L cap) := set2_1 (by rw [x1]; rfl)
    have hBf : Below w.heap.size w ((w2.setCell ⟨r, 0, none⟩ (.int .i64 0)).setCell ⟨r, 1, none⟩ (.slice (some ⟨g, 0, none⟩) L cap)) := (HB2.out.setCell (p := ⟨r, 0, none⟩) hwr _).setCell (p := ⟨r, 1, none⟩) hwr _
    have hRf : RowB w.heap.size ((w2.setCell ⟨r, 0, none⟩ (.int .i64 0)).setCell ⟨r, 1, none⟩ (.slice (some ⟨g, 0, none⟩) L cap)) (.slice (some ⟨g, 0, none⟩) L cap) (featL i l k v p lab n X Y) := (RowB.other (RowB.other HR.out hlt1) hlt1).wide (by omega)
    generalize ((w2.setCell ⟨r, 0, none⟩ (.int .i64 0)).setCell ⟨r, 1, none⟩ (.slice (some ⟨g, 0, none⟩) L cap)) = Wf at *
    exact bodyPost_ret (v := .agg #[.int .i64 0, .slice (some ⟨g, 0, none⟩) L cap]) (by simp [results, Try.results21, go_sem, s0, s1]) rfl ⟨_, by rw [HC.out], by rw [HL.out]; exact hRf, hBf⟩
  · have HL : Hid (pfL id la ki wi n X Y lab pr = []) := by show _ = _; simp [pfL, h0]
    obtain ⟨c, hc⟩ : ∃ c, featC id la ki wi n X Y lab pr = c := ⟨_, rfl⟩
    rw [hc] at h0
    try rw [hc]
    have HC : Hid (featC id la ki wi n X Y lab pr = c) := hc
    clear hc
    have h0' : (c == 0) = false := by simpa using h0
    obtain ⟨r, hr⟩ : ∃ r, w.heap.size + 1 = r := ⟨_, rfl⟩
    rw [hr] at HT1 hlt1
    try rw [hr]
    have hwr : w.heap.size ≤ r := by omega
    have x0 := HT1.out.cell 0 (by omega)
    have x1 := HT1.out.cell 1 (by omega)
    have f0 := (HT1.out 0 (by omega)).2
    have f1 := (HT1.out 1 (by omega)).2
    go_wp2
    have s0 : ((w1.setCell ⟨r, 0, none⟩ (.int .i64 c)).setCell ⟨r, 1, none⟩ (.slice none 0 0)).cell? ⟨r, 0, none⟩ = some (.int .i64 c) := set2_0 (by rw [x0]; rfl)
    have s1 : ((w1.setCell ⟨r, 0, none⟩ (.int .i64 c)).setCell ⟨r, 1, none⟩ (.slice none 0 0)).cell? ⟨r, 1, none⟩ = some (.slice none 0 0) := set2_1 (by rw [x1]; rfl)
    have hBf : Below w.heap.size w ((w1.setCell ⟨r, 0, none⟩ (.int .i64 c)).setCell ⟨r, 1, none⟩ (.slice none 0 0)) := (HB1.out.setCell (p := ⟨r, 0, none⟩) hwr _).setCell (p := ⟨r, 1, none⟩) hwr _
    generalize ((w1.setCell ⟨r, 0, none⟩ (.int .i64 c)).setCell ⟨r, 1, none⟩ (.slice none 0 0)) = Wf at *
    exact bodyPost_ret (v := .agg #[.int .i64 c, .slice none 0 0]) (by simp [results, Try.results21, go_sem, s0, s1]) rfl ⟨_, by rw [HC.out], by rw [HL.out]; exact RowB.no _ _, hBf⟩
end Go.Proofs.Ytkadkpdcjccnbab
