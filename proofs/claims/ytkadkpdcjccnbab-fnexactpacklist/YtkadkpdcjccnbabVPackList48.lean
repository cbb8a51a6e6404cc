/- The law of PackList returns true at every list of features. -/
import Derived.Test.YtkadkpdcjccnbabVPackList40
import Derived.Test.YtkadkpdcjccnbabVPackList45
import Derived.Test.YtkadkpdcjccnbabVPackList47
namespace Go.Proofs.Ytkadkpdcjccnbab
open Go.RowKit
set_option linter.unusedSimpArgs false
set_option linter.unusedVariables false
set_option maxRecDepth 100000

theorem fL_same {f g : Feat} (h : f.same g) : fL f = fL g := by
  obtain ⟨h1, h2, h3, h4, h5, h6, h7, h8, h9⟩ := h
  unfold fL
  rw [h1, h2, h3, h4, h5, h6, h7, h8, h9]
theorem catL_same {G H : Nat → Feat} {n : Nat} (h : ∀ i, i < n → (G i).same (H i)) : ∀ k, k ≤ n → catL G k = catL H k
  | 0, _ => rfl
  | k + 1, hk => by rw [catL, catL, catL_same h k (by omega), fL_same (h k (by omega))]
theorem pl_same {G H : Nat → Feat} {n : Nat} (h : ∀ i, i < n → (G i).same (H i)) : plC n G = plC n H ∧ plL n G = plL n H := by
  have e1 : featsC n G = featsC n H := featsC_same h
  have e2 : ordS n G = ordS n H := ord_congr h
  have e3 : datL n G = datL n H := by unfold datL; rw [catL_same h n (Nat.le_refl _)]
  have e4 : plC n G = plC n H := by unfold plC; rw [e1, e2, e3]
  refine ⟨e4, ?_⟩
  unfold plL
  rw [e4, e3]
theorem plL_len (n : Nat) (G : Nat → Feat) : (plL n G).length ≤ 1048576 := by
  unfold plL
  split
  · rename_i h
    have h1 : (datL n G).length + 2 ≤ 900 ∨ featsC n G ≠ 0 ∨ True := .inr (.inr trivial)
    unfold plC at h
    split at h
    · split at h
      · split at h
        · omega
        · simp [endL]; omega
      · omega
    · contradiction
  · simp
theorem OwnB.mid {w w' : World} {base lo hi : Nat} {v : Value} {n : Nat} {Z : Nat → Int} (h : OwnB w base v n Z) (hM : MidB lo hi w w') (hb : hi ≤ base) : OwnB w' base v n Z := by
  obtain ⟨a, cap, hv, hc, h0 | ⟨b, ha, hbb, hl, hp, ht⟩⟩ := h
  · exact ⟨a, cap, hv, hc, .inl h0⟩
  · exact ⟨a, cap, hv, hc, .inr ⟨b, ha, hbb, Nat.lt_of_lt_of_le hl hM.size, fun i hi => hM.cell (hp i hi) (.inr (by omega)), hM.there ht (.inr (by omega))⟩⟩
theorem R2B.mid {w w' : World} {lo hi p : Nat} {c : Int} {v : Value} (h : R2B w p c v) (hM : MidB lo hi w w') (ho : p < lo ∨ hi ≤ p) : R2B w' p c v := ⟨hM.cell h.1 ho, hM.cell h.2 ho⟩

set_option maxHeartbeats 8000000 in
theorem FnExactPackList_walk (a : Option Addr) (n cap : Nat) (F : Nat → Feat) (w : World) (h : IsFs w a n F ∧ CameFs n F) :
    Calls Try.prog 7 #[.slice a n cap] w fun e w' => e = .returned (.bool true) ∧ Below w.heap.size w w' := by
  obtain ⟨hf, hc⟩ := h
  have HI : Hid (IsFs w a n F) := hf
  have HC : Hid (CameFs n F) := hc
  clear hf hc
  go_enter Try.func7, Try.ntmps7
  go_wp2_with fail
  refine (szFeatureS_any a n cap F 1048576 w (by omega) HI.out HC.out).mono ?_
  rintro e w1 ⟨rfl | ⟨m, hm, hS, rfl⟩, hb1⟩
  · go_wp2
    go_ret
    exact ⟨rfl, hb1⟩
  have HS : Hid (SmallFs n F) := hS
  have hall : Hid (∀ i, i < n → (F i).n ≤ 1048576) := fun i hi => (hS.2 i hi).1
  have hn := hS.1
  have hneg : ¬ ((m : Nat) : Int) < 0 := by omega
  have hB1 : Below w.heap.size w w1 := hb1
  clear hb1 hS
  have hMn : (plL n F).length ≤ 1048576 := plL_len n F
  obtain ⟨C, hCd⟩ : ∃ C, C = plC n F := ⟨_, rfl⟩
  obtain ⟨Z, hZd⟩ : ∃ Z, Z = zz (plL n F) := ⟨_, rfl⟩
  obtain ⟨M, hMd⟩ : ∃ M, M = (plL n F).length := ⟨_, rfl⟩
  have HSP : Hid (∀ b w G B, OwnFs w B b n F G → Calls Try.prog 28 #[.slice (some ⟨b, 0, none⟩) n n] w fun e w' => ∃ v, e = .returned (.agg #[.int .i64 C, v]) ∧ OwnB w' w.heap.size v M Z ∧ Below w.heap.size w w') := fun b w G B hO => by
    obtain ⟨e1, e2⟩ := pl_same (fun i hi => (hO.2.2.2 i hi).1)
    refine (spec_PackList_any b n n G w hO.2.2.1 hO.2.1 (hO.small HS.out)).mono fun e w' ⟨v, he, hr, hb⟩ => ⟨v, by rw [he, e1, hCd], ?_, hb⟩
    rw [e2] at hr
    rw [hZd, hMd]
    exact hr.own
  have HIM : Hid (∀ b w G B, OwnFs w B b n F G → Calls Try.prog 30 #[.slice (some ⟨b, 0, none⟩) n n] w fun e w' => ∃ v, e = .returned (.agg #[.int .i64 C, v]) ∧ OwnB w' w.heap.size v M Z ∧ Below w.heap.size w w') := fun b w G B hO => by
    obtain ⟨e1, e2⟩ := pl_same (fun i hi => (hO.2.2.2 i hi).1)
    refine (impl_PackList_any b n n G w hO.2.2.1 hO.2.1 (hO.small HS.out) (Nat.le_refl _)).mono fun e w' ⟨v, he, hr, hb⟩ => ⟨v, by rw [he, e1, hCd], ?_, hb⟩
    rw [e2] at hr
    rw [hZd, hMd]
    exact hr.own
  rw [← hMd] at hMn
  clear hCd hZd hMd
  go_wp2_with fail
  refine (toFeatureS_any a n cap F _ (HI.out.below hB1) hn hall.out).mono ?_
  rintro e w2 ⟨b2, G2, rfl, hO2, hb2⟩
  have HO2 : Hid (OwnFs w2 w1.heap.size b2 n F G2) := hO2
  have hB2 : Below w.heap.size w w2 := bl_then hB1 hb2
  clear hO2 hb2
  go_wp2_with fail
  refine (HSP.out b2 _ G2 _ HO2.out).mono ?_
  rintro e w3 ⟨v0, rfl, hO3, hb3⟩
  obtain ⟨a0, cap0, rfl, hc0, hI0⟩ := hO3.pts
  have hB3 : Below w.heap.size w w3 := bl_then hB2 hb3
  have HI0 : Hid (IsBytes w3 a0 M Z) := hI0
  clear hb3 hB2 hB1 HO2 hO3 hI0
  go_wp2_with fail
  generalize hW3 : (w3.alloc _ : World) = w3'
  have hb3' : Below w3.heap.size w3 w3' := by subst hW3; (repeat (first | exact Below.refl _ _ | assumption | refine Below.drew ?_ | refine bl_alloc ?_ _ | refine bl_then ?_ (by assumption) | refine Below.setCell ?_ (by first | omega | (simp; done) | (simp; omega)) _ | refine bl_store ?_ ?_ _ _))
  have HR0 : Hid (R2B w3' w3.heap.size C (.slice a0 M cap0)) := by show R2B _ _ _ _; subst hW3; exact R2B.new _ _ _ _
  have hs3 : w3.heap.size < w3'.heap.size := by subst hW3; simp
  clear hW3
  have hB3' : Below w.heap.size w w3' := bl_then hB3 hb3'
  have HI3 : Hid (UnderB w3'.heap.size w3' a0 M Z) := HI0.out.below hb3'
  have hws3 : w.heap.size ≤ w3.heap.size := hB3.size
  clear HI0 hb3' hB3
  refine (toFeatureS_own a n cap F _ (HI.out.below hB3') hn hall.out).mono ?_
  rintro e w4 ⟨b4, G4, rfl, hO4, ⟨q4, hQ4⟩, hb4⟩
  have HO4 : Hid (OwnFs w4 w3'.heap.size b4 n F G4) := hO4
  have HQ4 : Hid (OwnQ w4 w3'.heap.size w4.heap.size b4 n (fun i => (F i).n) (fun i => (F i).n) q4) := hQ4
  have Hb4 : Hid (Below w3'.heap.size w3' w4) := hb4
  have hs4 := hb4.size
  clear hO4 hQ4 hb4
  go_wp2_with fail
  refine (HIM.out b4 _ G4 _ HO4.out).mono ?_
  rintro e w5 ⟨v1, rfl, hO5', hb5⟩
  obtain ⟨a1, cap1, rfl, hc1, hI1⟩ := hO5'.pts
  have HW5 : Hid (OwnB w5 w4.heap.size (.slice a1 M cap1) M Z) := hO5'
  have HU5 : Hid (UnderB w5.heap.size w5 a1 M Z) := hI1
  have HO5 : Hid (OwnFs w5 w3'.heap.size b4 n F G4) := HO4.out.below hb5
  have HQ5 : Hid (OwnQ w5 w3'.heap.size w4.heap.size b4 n (fun i => (F i).n) (fun i => (F i).n) q4) := HQ4.out.below hb5
  have Hb5 : Hid (Below w3'.heap.size w3' w5) := bl_then Hb4.out hb5
  have hs5 := hb5.size
  clear hb5 hO5' hI1 HO4 HQ4 Hb4
  obtain ⟨k0, k1⟩ := HR0.out.below Hb5.out
  have hp0 : w3.heap.size < w5.heap.size := by omega
  go_wp2_with fail
  generalize hW6 : (w5.alloc _ : World) = w6
  have hb6 : Below w5.heap.size w5 w6 := by subst hW6; (repeat (first | exact Below.refl _ _ | assumption | refine Below.drew ?_ | refine bl_alloc ?_ _ | refine bl_then ?_ (by assumption) | refine Below.setCell ?_ (by first | omega | (simp; done) | (simp; omega)) _ | refine bl_store ?_ ?_ _ _))
  have HRg6 : Hid (R2B w6 w5.heap.size C (.slice a1 M cap1)) := by show R2B _ _ _ _; subst hW6; exact R2B.new _ _ _ _
  have hs6 : w5.heap.size < w6.heap.size := by subst hW6; simp
  clear hW6 k0 k1
  have Hb6 : Hid (Below w3'.heap.size w3' w6) := bl_then Hb5.out hb6
  have hs36 := Hb6.out.size
  refine (eqBytesResult_any C _ _ _ _ _ Z _ (HW5.out.below hb6).is ((HI3.out.below Hb6.out (Nat.le_refl _)).is hs36) hMn).mono ?_
  rintro e w7 ⟨rfl, hb7⟩
  have hb67 : Below w5.heap.size w5 w7 := bl_then hb6 hb7
  have HW7 : Hid (OwnB w7 w4.heap.size (.slice a1 M cap1) M Z) := HW5.out.below hb67
  have HO7 : Hid (OwnFs w7 w3'.heap.size b4 n F G4) := HO5.out.below hb67
  have HQ7 : Hid (OwnQ w7 w3'.heap.size w4.heap.size b4 n (fun i => (F i).n) (fun i => (F i).n) q4) := HQ5.out.below hb67
  have HRg7 : Hid (R2B w7 w5.heap.size C (.slice a1 M cap1)) := HRg6.out.below hb7
  have Hb7 : Hid (Below w3'.heap.size w3' w7) := bl_then Hb6.out hb7
  have hs7 := hb7.size
  clear hb6 hb7 hb67 HW5 HO5 HQ5 HRg6 Hb6 Hb5
  have HB3 : Hid (Below w.heap.size w w3') := hB3'
  clear hB3'
  have hws : w.heap.size ≤ w3'.heap.size := HB3.out.size
  go_wp2_with fail
  refine (toFeatureS_any a n cap F _ (HI.out.below (bl_then HB3.out Hb7.out)) hn hall.out).mono ?_
  rintro e w8 ⟨b8, G8, rfl, hO8, hb8⟩
  have HO8 : Hid (OwnFs w8 w7.heap.size b8 n F G8) := hO8
  have Hb8 : Hid (Below w7.heap.size w7 w8) := hb8
  clear hO8 hb8
  go_wp2_with fail
  refine (eqFeatureS_any b4 b8 n _ _ F G4 G8 _ (HO7.out.below Hb8.out) HO8.out HS.out).mono ?_
  rintro e w9 ⟨rfl, hb9⟩
  have hb79 : Below w7.heap.size w7 w9 := bl_then Hb8.out hb9
  have HW9 : Hid (OwnB w9 w4.heap.size (.slice a1 M cap1) M Z) := HW7.out.below hb79
  have HQ9 : Hid (OwnQ w9 w3'.heap.size w4.heap.size b4 n (fun i => (F i).n) (fun i => (F i).n) q4) := HQ7.out.below hb79
  have HRg9 : Hid (R2B w9 w5.heap.size C (.slice a1 M cap1)) := HRg7.out.below hb79
  have Hb9 : Hid (Below w3'.heap.size w3' w9) := bl_then Hb7.out hb79
  have hs9 := hb79.size
  clear hb79 hb9 HW7 HO7 HQ7 HRg7 Hb7 HO8 Hb8
  go_wp2_with fail
  -- the argument is marked
  refine (markFs_any w3'.heap.size w4.heap.size b4 n n 1 (fun i => (F i).n) (fun i => (F i).n) q4 w9 HQ9.out hn hall.out (by omega) (by omega)).mono ?_
  rintro e wa ⟨rfl, _, hMa, _⟩
  have hsa := hMa.size
  have Hba : Hid (Below w3'.heap.size w3' wa) := Hb9.out.trans (hMa.below (by omega))
  have HWa : Hid (OwnB wa w4.heap.size (.slice a1 M cap1) M Z) := HW9.out.mid hMa (Nat.le_refl _)
  have HRga : Hid (R2B wa w5.heap.size C (.slice a1 M cap1)) := HRg9.out.mid hMa (.inr hs5)
  have hqk : ¬ ((kS (fun i => (F i).n) 1 n : Nat) : Int) < 0 := by omega
  generalize ((kS (fun i => (F i).n) 1 n : Nat) : Int) = qk at *
  clear hMa HW9 HQ9 HRg9 Hb9
  obtain ⟨g0, g1⟩ := HRga.out
  obtain ⟨p0, p1⟩ := HR0.out.below Hba.out
  have hs3a := Hba.out.size
  go_wp2_with fail
  refine (eqBytesResult_any C _ _ _ _ _ Z _ HWa.out.is ((HI3.out.below Hba.out (Nat.le_refl _)).is hs3a) hMn).mono ?_
  rintro e wb ⟨rfl, hbb⟩
  have hsb := hbb.size
  have HWb : Hid (OwnB wb w4.heap.size (.slice a1 M cap1) M Z) := HWa.out.below hbb
  have HRgb : Hid (R2B wb w5.heap.size C (.slice a1 M cap1)) := HRga.out.below hbb
  have Hbb : Hid (Below w3'.heap.size w3' wb) := bl_then Hba.out hbb
  clear g0 g1 p0 p1 hbb HWa HRga Hba
  obtain ⟨g0, g1⟩ := HRgb.out
  -- the answer is marked
  obtain ⟨row, hrow, Hmark⟩ := mark_ownB C w4.heap.size w5.heap.size M cap1 a1 Z Z wb w5 HWb.out HU5.out hMn
  have Hmark' := (show Hid _ from Hmark)
  have Hrow := (show Hid _ from hrow)
  clear Hmark hrow
  have hqm : ¬ ((1 + M : Nat) : Int) < 0 := by omega
  have Hheld : Hid (∀ w, OwnB w w4.heap.size (.slice a1 M cap1) M (mkB 1) → Calls Try.prog 26 #[.agg #[.int .i64 C, .slice a1 M cap1], .int .i64 1] w fun e w' => e = .returned (.int .i64 ((1 + M : Nat) : Int)) ∧ Below w.heap.size w w') := fun w h => heldBytesResult_any C a1 M cap1 w h.is hMn
  generalize ((1 + M : Nat) : Int) = qm at *
  go_wp2_with fail
  refine Calls.mono Hmark'.out ?_
  rintro e wc ⟨rfl, hGc, hOc⟩
  have hwc := hGc.size
  have HRgc : Hid (R2B wc w5.heap.size C (.slice a1 M cap1)) := HRgb.out.row hGc (fun s hs => by have := Hrow.out s hs; omega)
  have HWc : Hid (OwnB wc w4.heap.size (.slice a1 M cap1) M (mkB 1)) := hOc
  have Hbc : Hid (Below w3'.heap.size w3' wc) := Hbb.out.trans (below_rowB hGc (fun s hs => by have := Hrow.out s hs; omega) (by omega))
  clear g0 g1 hOc hGc HWb HRgb Hbb Hmark'
  obtain ⟨g0, g1⟩ := HRgc.out
  go_wp2_with fail
  refine (Hheld.out _ HWc.out).mono ?_
  rintro e wd ⟨rfl, hbd⟩
  have hsd := hbd.size
  have Hbd : Hid (Below w3'.heap.size w3' wd) := bl_then Hbc.out hbd
  have HRgd : Hid (R2B wd w5.heap.size C (.slice a1 M cap1)) := HRgc.out.below hbd
  have HWd : Hid (OwnB wd w4.heap.size (.slice a1 M cap1) M (mkB 1)) := HWc.out.below hbd
  clear g0 g1 hbd HRgc HWc Hbc
  go_wp2_with fail
  -- once more
  refine (toFeatureS_any a n cap F _ (HI.out.below (bl_then HB3.out Hbd.out)) hn hall.out).mono ?_
  rintro e we ⟨be, Ge, rfl, hOe, hbe⟩
  have HOe : Hid (OwnFs we wd.heap.size be n F Ge) := hOe
  have Hbe : Hid (Below wd.heap.size wd we) := hbe
  clear hOe hbe
  go_wp2_with fail
  refine (HIM.out be _ Ge _ HOe.out).mono ?_
  rintro e wf ⟨vf, rfl, hOf, hbf⟩
  obtain ⟨af, capf, rfl, hcf, hIf⟩ := hOf.pts
  have hbdf := bl_then Hbe.out hbf
  have hsf := hbdf.size
  have Hbf : Hid (Below w3'.heap.size w3' wf) := bl_then Hbd.out hbdf
  have HRgf : Hid (R2B wf w5.heap.size C (.slice a1 M cap1)) := HRgd.out.below hbdf
  have HWf : Hid (OwnB wf w4.heap.size (.slice a1 M cap1) M (mkB 1)) := HWd.out.below hbdf
  have HJf : Hid (IsBytes wf af M Z) := hIf
  clear hbf hOf hIf HOe Hbe hbdf HRgd HWd Hbd
  obtain ⟨p0, p1⟩ := HR0.out.below Hbf.out
  have hpf : w3.heap.size < wf.heap.size := by omega
  go_wp2_with fail
  generalize hWg : (wf.alloc _ : World) = wg
  have hbg : Below wf.heap.size wf wg := by subst hWg; (repeat (first | exact Below.refl _ _ | assumption | refine Below.drew ?_ | refine bl_alloc ?_ _ | refine bl_then ?_ (by assumption) | refine Below.setCell ?_ (by first | omega | (simp; done) | (simp; omega)) _ | refine bl_store ?_ ?_ _ _))
  clear hWg p0 p1
  have hwg := hbg.size
  refine (eqBytesResult_any C _ _ _ _ _ Z _ (HJf.out.below hbg) ((HI3.out.below (bl_then Hbf.out hbg) (Nat.le_refl _)).is (by omega)) hMn).mono ?_
  rintro e wh ⟨rfl, hbh⟩
  have hbfh := bl_then hbg hbh
  have Hbh : Hid (Below w3'.heap.size w3' wh) := bl_then Hbf.out hbfh
  have HWh : Hid (OwnB wh w4.heap.size (.slice a1 M cap1) M (mkB 1)) := HWf.out.below hbfh
  obtain ⟨g0, g1⟩ := HRgf.out.below hbfh
  clear hbg hbh hbfh HRgf HWf Hbf HJf
  go_wp2_with fail
  refine (Hheld.out _ HWh.out).mono ?_
  rintro e wi ⟨rfl, hbi⟩
  have HBi : Hid (Below w.heap.size w wi) := bl_then HB3.out (bl_then Hbh.out hbi)
  clear hbi g0 g1
  go_wp2
  go_ret
  exact ⟨rfl, HBi.out⟩
end Go.Proofs.Ytkadkpdcjccnbab
