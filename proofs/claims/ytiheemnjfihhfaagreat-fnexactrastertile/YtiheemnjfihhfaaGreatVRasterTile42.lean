/- The fault of a list of features: the program's. -/
import Derived.Test.YtiheemnjfihhfaaGreatVRasterTile34
namespace Go.Proofs.YtiheemnjfihhfaaGreat
open Go.RowKit
set_option linter.unusedSimpArgs false
set_option linter.unusedVariables false
set_option maxRecDepth 100000

set_option maxHeartbeats 4000000 in
theorem FeaturesFault_any (b n cap : Nat) (G : Nat → Feat) (w : World) (hg : FsAt w b 0 n G) (hbl : b < w.heap.size) (hs : SmallFs n G) (hcap : n ≤ cap) :
    Calls Tryz.prog 20 #[.slice (some ⟨b, 0, none⟩) n cap] w fun e w' => e = .returned (.int .i64 (featsC n G)) ∧ Below w.heap.size w w' := by
  have HG : Hid (FsAt w b 0 n G) := hg
  have HS : Hid (SmallFs n G) := hs
  have hn := hs.1
  clear hg hs
  by_cases h12 : (12 : Int) < n
  · have hz : Hid (featsC n G = 2) := by show _ = _; unfold featsC; rw [if_pos (by omega)]
    go_enter Tryz.func20, Tryz.ntmps20
    go_wp2
    go_ret
    exact ⟨ret_int hz.out.symm, by (repeat (first | exact Below.refl _ _ | assumption | refine Below.drew ?_ | refine bl_alloc ?_ _ | refine bl_then ?_ (by assumption) | refine Below.setCell ?_ (by first | omega | (simp; done) | (simp; omega)) _ | refine bl_store ?_ ?_ _ _))⟩
  · have hz : Hid (featsC n G = scanC (codeAt G) 0 n) := by show _ = _; unfold featsC; rw [if_neg (by omega)]
    go_enter Tryz.func20, Tryz.ntmps20
    go_wp2
    go_loopw [11] (fun v wr => ∃ k : Nat, k ≤ n ∧ v = .int .i64 k ∧ (∀ j, j < k → codeAt G j = 0) ∧ Below w.heap.size w wr) (fun v _ => n - (intOf v).toNat)
    case atStart => exact ⟨0, by omega, rfl, by omega, Below.refl _ _⟩
    case round =>
      obtain ⟨k, hk, rfl, hA, hB⟩ := hrel
      have HB : Hid (Below w.heap.size w wr) := hB
      have HA : Hid (∀ j, j < k → codeAt G j = 0) := hA
      by_cases hlt : k < n
      · have HGr : Hid (FsAt wr b 0 n G) := HG.out.below hB hbl
        have hblr : b < wr.heap.size := Nat.lt_of_lt_of_le hbl hB.size
        obtain ⟨⟨f0, f1, f2, f3, f4, f5, f6⟩, hP⟩ := HGr.out k hlt
        simp only [Nat.zero_add] at f0 f1 f2 f3 f4 f5 f6
        have HP : Hid (IsPts wr (G k).a (G k).n (G k).X (G k).Y) := hP
        obtain ⟨z1, z2⟩ := HS.out.2 k hlt
        have HLT : Hid (k < n) := hlt
        clear hB hA hP
        have hi : (k : Int) < (n : Int) := by omega
        have hi0 : (0 : Int) ≤ (k : Int) := by omega
        go_wp2_with fail
        generalize hV : (wr.alloc _ : World) = V
        have hBV : Below wr.heap.size wr V := by subst hV; (repeat (first | exact Below.refl _ _ | assumption | refine Below.drew ?_ | refine bl_alloc ?_ _ | refine bl_then ?_ (by assumption) | refine Below.setCell ?_ (by first | omega | (simp; done) | (simp; omega)) _ | refine bl_store ?_ ?_ _ _))
        have v0 : ∀ W', Below V.heap.size V W' → W'.cell? ⟨wr.heap.size, 0, none⟩ = some (.int .i64 (G k).id) := fun W' h => by
          rw [h.cell (by subst hV; simp)]; subst hV; simp [go_sem]
        clear hV
        have HBV : Hid (Below w.heap.size w V) := bl_then HB.out hBV
        have HGV : Hid (FsAt V b 0 n G) := HGr.out.below hBV hblr
        have hblV : b < V.heap.size := Nat.lt_of_lt_of_le hblr hBV.size
        have HPV : Hid (IsPts V (G k).a (G k).n (G k).X (G k).Y) := HP.out.below hBV
        clear hBV f0 f1 f2 f3 f4 f5 f6 HP HGr
        refine (FeatureFault_any _ _ _ _ _ _ _ (G k).X (G k).Y _ _ _ HPV.out z2 z1).mono ?_
        rintro e w1 ⟨rfl, hb1⟩
        by_cases hc : featC (G k).id (G k).la (G k).ki (G k).wi (G k).n (G k).X (G k).Y (G k).lab (G k).pr = 0
        · rw [hc]
          have HC : Hid (featC (G k).id (G k).la (G k).ki (G k).wi (G k).n (G k).X (G k).Y (G k).lab (G k).pr = 0) := hc
          have HB1 : Hid (Below V.heap.size V w1) := hb1
          have hr1 : Below V.heap.size V w1 := hb1
          clear hc hb1
          have hk0 : (k : Int) ≤ (n : Int) := by omega
          have hkc : (k : Int) ≤ (cap : Int) := by omega
          by_cases hx : ∃ j, j < k ∧ (G j).id = (G k).id
          · have HH : Hid (∀ W', Below V.heap.size V W' → Calls Tryz.prog 42 #[.slice (some ⟨b, 0, none⟩) k cap, .int .i64 (G k).id] W' fun e w' => e = .returned (.bool true) ∧ Below W'.heap.size W' w') := fun W' h => by
              refine (hasId_any b k cap n G (G k).id W' (Nat.le_of_lt HLT.out) (HGV.out.below h hblV) (Nat.lt_of_lt_of_le hblV h.size) (by omega)).mono ?_
              rintro e w' ⟨⟨he, _⟩ | ⟨_, hno⟩, hb⟩
              · exact ⟨he, hb⟩
              · obtain ⟨j, hj, hje⟩ := hx
                exact absurd hje (hno j hj)
            have htk : Hid (codeAt G k = 6) := codeAt_taken HC.out hx
            have hsc : Hid (featsC n G = 6) := by
              show _ = _
              rw [hz.out, scan_first (codeAt G) n 0 k (fun j _ hj => HA.out j hj) (by omega) (by have := HLT.out; omega) (by rw [htk.out]; decide), htk.out]
            clear hx
            go_wp2_with fail
            go_region_held3 (fun W' => Below V.heap.size V W') ((repeat (first | exact Below.refl _ _ | assumption | refine Below.drew ?_ | refine bl_alloc ?_ _ | refine bl_then ?_ (by assumption) | refine Below.setCell ?_ (by first | omega | (simp; done) | (simp; omega)) _ | refine bl_store ?_ ?_ _ _)))
              (first | (go_at_call 42; refine (HH.out _ (by assumption)).mono ?_; rintro e w' ⟨rfl, hb⟩))
            go_wp2
            go_ret
            exact ⟨ret_int hsc.out.symm, bl_then HBV.out (by assumption)⟩
          · have HH : Hid (∀ W', Below V.heap.size V W' → Calls Tryz.prog 42 #[.slice (some ⟨b, 0, none⟩) k cap, .int .i64 (G k).id] W' fun e w' => e = .returned (.bool false) ∧ Below W'.heap.size W' w') := fun W' h => by
              refine (hasId_any b k cap n G (G k).id W' (Nat.le_of_lt HLT.out) (HGV.out.below h hblV) (Nat.lt_of_lt_of_le hblV h.size) (by omega)).mono ?_
              rintro e w' ⟨⟨_, hyes⟩ | ⟨he, _⟩, hb⟩
              · exact absurd hyes hx
              · exact ⟨he, hb⟩
            have HOK : Hid (codeAt G k = 0) := codeAt_ok HC.out hx
            clear hx
            go_wp2_with fail
            go_region_held3 (fun W' => Below V.heap.size V W') ((repeat (first | exact Below.refl _ _ | assumption | refine Below.drew ?_ | refine bl_alloc ?_ _ | refine bl_then ?_ (by assumption) | refine Below.setCell ?_ (by first | omega | (simp; done) | (simp; omega)) _ | refine bl_store ?_ ?_ _ _)))
              (first | (go_at_call 42; refine (HH.out _ (by assumption)).mono ?_; rintro e w' ⟨rfl, hb⟩))
            go_wp2
            go_roundw
            case rel => exact ⟨k + 1, by have := HLT.out; omega, by go_num, fun j hj => by
                by_cases e : j = k
                · rw [e]; exact HOK.out
                · exact HA.out j (by omega), bl_then HBV.out (by assumption)⟩
            case measure => have := HLT.out; simp [intOf]; omega
        · have hsc : Hid (featsC n G = featC (G k).id (G k).la (G k).ki (G k).wi (G k).n (G k).X (G k).Y (G k).lab (G k).pr) := by
            show _ = _
            have h6 := codeAt_fault hc
            rw [hz.out, scan_first (codeAt G) n 0 k (fun j _ hj => HA.out j hj) (by omega) (by have := HLT.out; omega) (by rw [h6]; exact hc), h6]
          have hcb : (featC (G k).id (G k).la (G k).ki (G k).wi (G k).n (G k).X (G k).Y (G k).lab (G k).pr == 0) = false := by simpa using hc
          have HB1 : Hid (Below w.heap.size w w1) := bl_then HBV.out hb1
          clear hc hb1
          go_wp2
          go_ret
          exact ⟨ret_int hsc.out.symm, HB1.out⟩
      · have hsc : Hid (featsC n G = 0) := by
          show _ = _
          rw [hz.out]
          exact scan_none _ _ _ (fun j _ hj => HA.out j (by omega))
        go_wp2
        go_ret
        exact ⟨ret_int hsc.out.symm, HB.out⟩
theorem OwnFs.small {w : World} {B b n : Nat} {F G : Nat → Feat} (h : OwnFs w B b n F G) (hs : SmallFs n F) : SmallFs n G := by
  refine ⟨hs.1, fun i hi => ?_⟩
  obtain ⟨⟨_, _, _, _, s5, _, _, s8, _⟩, _⟩ := h.2.2.2 i hi
  rw [s5, s8]
  exact hs.2 i hi
theorem OwnFs.code {w : World} {B b n : Nat} {F G : Nat → Feat} (h : OwnFs w B b n F G) : featsC n G = featsC n F := featsC_same (fun j hj => (h.2.2.2 j hj).1)

end Go.Proofs.YtiheemnjfihhfaaGreat
