/- The fault of a list of entries: the program's and the model's; the law's steps. -/
import Derived.Test.YtjnhaigmfjndhaaVFindBox9
import Derived.Test.YtjnhaigmfjndhaaVFindBox10
namespace Go.Proofs.Ytjnhaigmfjndhaa
open Go.RowKit
set_option linter.unusedSimpArgs false
set_option linter.unusedVariables false
set_option maxRecDepth 100000

/-- What is not right of one entry of a list. -/
noncomputable def eCode (E : Nat → Ent) (i : Nat) : Int := by
  classical exact if inB (E i).id 1 999 = false then 3 else if boxC (E i).a (E i).b (E i).c (E i).d ≠ 0 then boxC (E i).a (E i).b (E i).c (E i).d else if ∃ j, j < i ∧ (E j).id = (E i).id then 6 else 0
theorem eCode_id {E : Nat → Ent} {i : Nat} (h : inB (E i).id 1 999 = false) : eCode E i = 3 := by unfold eCode; rw [if_pos h]
theorem eCode_box {E : Nat → Ent} {i : Nat} (h : inB (E i).id 1 999 = true) (h2 : boxC (E i).a (E i).b (E i).c (E i).d ≠ 0) : eCode E i = boxC (E i).a (E i).b (E i).c (E i).d := by unfold eCode; rw [if_neg (by simp [h]), if_pos h2]
theorem eCode_taken {E : Nat → Ent} {i : Nat} (h : inB (E i).id 1 999 = true) (h2 : boxC (E i).a (E i).b (E i).c (E i).d = 0) (h3 : ∃ j, j < i ∧ (E j).id = (E i).id) : eCode E i = 6 := by unfold eCode; rw [if_neg (by simp [h]), if_neg (by simp [h2]), if_pos h3]
theorem eCode_ok {E : Nat → Ent} {i : Nat} (h : inB (E i).id 1 999 = true) (h2 : boxC (E i).a (E i).b (E i).c (E i).d = 0) (h3 : ¬ ∃ j, j < i ∧ (E j).id = (E i).id) : eCode E i = 0 := by unfold eCode; rw [if_neg (by simp [h]), if_neg (by simp [h2]), if_neg h3]
noncomputable def entsC (n : Nat) (E : Nat → Ent) : Int := if 24 < n then 2 else scanC (eCode E) 0 n

set_option maxHeartbeats 8000000 in
theorem l5Fault_any (b n cap : Nat) (E : Nat → Ent) (w : World) (hg : EsAt w b 0 n E) (hbl : b < w.heap.size) (hn : n ≤ 1048576) :
    Calls Try.prog 44 #[.slice (some ⟨b, 0, none⟩) n cap] w fun e w' => e = .returned (.int .i64 (entsC n E)) ∧ Below w.heap.size w w' := by
  have HG : Hid (EsAt w b 0 n E) := hg
  clear hg
  by_cases h24 : (24 : Int) < n
  · have hz : Hid (entsC n E = 2) := by show _ = _; unfold entsC; rw [if_pos (by omega)]
    go_enter Try.func44, Try.ntmps44
    go_wp2
    go_ret
    exact ⟨ret_int hz.out.symm, by (repeat (first | exact Below.refl _ _ | assumption | refine Below.drew ?_ | refine bl_alloc ?_ _ | refine bl_then ?_ (by assumption) | refine Below.setCell ?_ (by first | omega | (simp; done) | (simp; omega)) _ | refine bl_store ?_ ?_ _ _))⟩
  · have hz : Hid (entsC n E = scanC (eCode E) 0 n) := by show _ = _; unfold entsC; rw [if_neg (by omega)]
    go_enter Try.func44, Try.ntmps44
    go_wp2
    go_loopw [3] (fun v wr => ∃ k : Nat, k ≤ n ∧ v = .int .i64 k ∧ (∀ j, j < k → eCode E j = 0) ∧ Below w.heap.size w wr) (fun v _ => n - (intOf v).toNat)
    case atStart => exact ⟨0, by omega, rfl, by omega, Below.refl _ _⟩
    case round =>
      obtain ⟨k, hk, rfl, hA, hB⟩ := hrel
      have HB : Hid (Below w.heap.size w wr) := hB
      have HA : Hid (∀ j, j < k → eCode E j = 0) := hA
      by_cases hlt : k < n
      · have HGr : Hid (EsAt wr b 0 n E) := HG.out.below hB hbl
        have hblr : b < wr.heap.size := Nat.lt_of_lt_of_le hbl hB.size
        obtain ⟨f0, f1, f2, f3, f4⟩ := HGr.out k hlt
        simp only [Nat.zero_add] at f0 f1 f2 f3 f4
        have HLT : Hid (k < n) := hlt
        have first : Hid (∀ c, eCode E k = c → c ≠ 0 → entsC n E = c) := fun c hc h0 => by
          rw [hz.out, scan_first (eCode E) n 0 k (fun j _ hj => HA.out j hj) (by omega) (by have := HLT.out; omega) (by rw [hc]; exact h0), hc]
        clear hB hA
        have hi : (k : Int) < (n : Int) := by omega
        have hi0 : (0 : Int) ≤ (k : Int) := by omega
        cases hid : inB (E k).id 1 999
        · have hsc : Hid (entsC n E = 3) := first.out 3 (eCode_id hid) (by decide)
          go_wp2_with (go_at_call 62; refine (l1In_any _ _ _ _).mono ?_; rintro e w' ⟨rfl, rfl⟩)
          go_ret
          exact ⟨ret_int hsc.out.symm, HB.out⟩
        · go_wp2_with (go_at_call 62; refine (l1In_any _ _ _ _).mono ?_; rintro e w' ⟨rfl, rfl⟩)
          refine (l5Box_any b (k * 5 + 1) _ _ _ _ _ f1 (by simpa [Nat.add_assoc] using f2) (by simpa [Nat.add_assoc] using f3) (by simpa [Nat.add_assoc] using f4)).mono ?_
          rintro e w1 ⟨rfl, hb1⟩
          by_cases hc : boxC (E k).a (E k).b (E k).c (E k).d = 0
          · rw [hc]
            have HC : Hid (boxC (E k).a (E k).b (E k).c (E k).d = 0) := hc
            have HG1 : Hid (EsAt w1 b 0 n E) := HGr.out.below hb1 hblr
            have HB1 : Hid (Below w.heap.size w w1) := bl_then HB.out hb1
            have g0 := (HG1.out k HLT.out).1
            simp only [Nat.zero_add] at g0
            clear hc hb1 f0 f1 f2 f3 f4
            go_wp2
            go_loopw [5] (fun v wr => ∃ j : Nat, j ≤ k ∧ v = .int .i64 j ∧ (∀ i, i < j → (E i).id ≠ (E k).id) ∧ Below w1.heap.size w1 wr) (fun v _ => k - (intOf v).toNat)
            case atStart => exact ⟨0, by omega, rfl, by omega, Below.refl _ _⟩
            case round =>
              obtain ⟨j, hj, rfl, hA2, hB2⟩ := hrel
              have HA2 : Hid (∀ i, i < j → (E i).id ≠ (E k).id) := hA2
              have HB2 : Hid (Below w.heap.size w wr) := bl_then HB1.out hB2
              have HB2' : Hid (Below w1.heap.size w1 wr) := hB2
              have hbl1 : b < w1.heap.size := Nat.lt_of_lt_of_le hbl HB1.out.size
              have g1 := (HG1.out.below hB2 hbl1 k HLT.out).1
              simp only [Nat.zero_add] at g1
              clear hA2
              by_cases hlt2 : j < k
              · have g2 := (HG1.out.below hB2 hbl1 j (by have := HLT.out; omega)).1
                simp only [Nat.zero_add] at g2
                clear hB2
                have hj2 : (j : Int) < (k : Int) := by omega
                have hj3 : (j : Int) < (n : Int) := by omega
                have hj0 : (0 : Int) ≤ (j : Int) := by omega
                by_cases he : (E j).id = (E k).id
                · have he' : ((E j).id == (E k).id) = true := by simpa using he
                  have hsc : Hid (entsC n E = 6) := first.out 6 (eCode_taken hid HC.out ⟨j, hlt2, he⟩) (by decide)
                  clear he
                  go_wp2_with fail
                  go_region
                  go_wp2
                  go_ret
                  exact ⟨ret_int hsc.out.symm, by have HB3 := HB2.out; (repeat (first | exact Below.refl _ _ | assumption | refine Below.drew ?_ | refine bl_alloc ?_ _ | refine bl_then ?_ (by assumption) | refine Below.setCell ?_ (by first | omega | (simp; done) | (simp; omega)) _ | refine bl_store ?_ ?_ _ _))⟩
                · have he' : ((E j).id == (E k).id) = false := by simpa using he
                  have HE : Hid ((E j).id ≠ (E k).id) := he
                  clear he
                  go_wp2_with fail
                  go_region
                  go_wp2
                  go_roundw
                  case rel => exact ⟨j + 1, by omega, by go_num, fun i hi => by
                      by_cases e : i = j
                      · rw [e]; exact HE.out
                      · exact HA2.out i (by omega), by have HB3 := HB2'.out; (repeat (first | exact Below.refl _ _ | assumption | refine Below.drew ?_ | refine bl_alloc ?_ _ | refine bl_then ?_ (by assumption) | refine Below.setCell ?_ (by first | omega | (simp; done) | (simp; omega)) _ | refine bl_store ?_ ?_ _ _))⟩
                  case measure => simp [intOf]; omega
              · have hok : Hid (eCode E k = 0) := eCode_ok hid HC.out (fun ⟨i, hi, he⟩ => HA2.out i (by omega) he)
                clear hB2
                have hj2 : ¬ (j : Int) < (k : Int) := by omega
                go_wp2
                go_roundw
                case rel => exact ⟨k + 1, by have := HLT.out; omega, by go_num, fun i hi => by
                    by_cases e : i = k
                    · rw [e]; exact hok.out
                    · exact HA.out i (by omega), HB2.out⟩
                case measure => have := HLT.out; simp [intOf]; omega
          · have hsc : Hid (entsC n E = boxC (E k).a (E k).b (E k).c (E k).d) := first.out _ (eCode_box hid hc) hc
            have hcb : (boxC (E k).a (E k).b (E k).c (E k).d == 0) = false := by simpa using hc
            have HB1 : Hid (Below w.heap.size w w1) := bl_then HB.out hb1
            clear hc hb1
            go_wp2
            go_ret
            exact ⟨ret_int hsc.out.symm, HB1.out⟩
      · have hsc : Hid (entsC n E = 0) := by
          show _ = _
          rw [hz.out]
          exact scan_none _ _ _ (fun j _ hj => HA.out j (by omega))
        go_wp2
        go_ret
        exact ⟨ret_int hsc.out.symm, HB.out⟩
set_option maxHeartbeats 8000000 in
theorem EntriesFault_any (b n cap : Nat) (E : Nat → Ent) (w : World) (hg : EsAt w b 0 n E) (hbl : b < w.heap.size) (hn : n ≤ 1048576) (hcap : n ≤ cap) :
    Calls Try.prog 51 #[.slice (some ⟨b, 0, none⟩) n cap] w fun e w' => e = .returned (.int .i64 (entsC n E)) ∧ Below w.heap.size w w' := by
  have HG : Hid (EsAt w b 0 n E) := hg
  clear hg
  by_cases h24 : (24 : Int) < n
  · have hz : Hid (entsC n E = 2) := by show _ = _; unfold entsC; rw [if_pos (by omega)]
    go_enter Try.func51, Try.ntmps51
    go_wp2
    go_ret
    exact ⟨ret_int hz.out.symm, by (repeat (first | exact Below.refl _ _ | assumption | refine Below.drew ?_ | refine bl_alloc ?_ _ | refine bl_then ?_ (by assumption) | refine Below.setCell ?_ (by first | omega | (simp; done) | (simp; omega)) _ | refine bl_store ?_ ?_ _ _))⟩
  · have hz : Hid (entsC n E = scanC (eCode E) 0 n) := by show _ = _; unfold entsC; rw [if_neg (by omega)]
    go_enter Try.func51, Try.ntmps51
    go_wp2
    go_loopw [11] (fun v wr => ∃ k : Nat, k ≤ n ∧ v = .int .i64 k ∧ (∀ j, j < k → eCode E j = 0) ∧ Below w.heap.size w wr) (fun v _ => n - (intOf v).toNat)
    case atStart => exact ⟨0, by omega, rfl, by omega, Below.refl _ _⟩
    case round =>
      obtain ⟨k, hk, rfl, hA, hB⟩ := hrel
      have HB : Hid (Below w.heap.size w wr) := hB
      have HA : Hid (∀ j, j < k → eCode E j = 0) := hA
      by_cases hlt : k < n
      · have HGr : Hid (EsAt wr b 0 n E) := HG.out.below hB hbl
        have hblr : b < wr.heap.size := Nat.lt_of_lt_of_le hbl hB.size
        obtain ⟨f0, f1, f2, f3, f4⟩ := HGr.out k hlt
        simp only [Nat.zero_add] at f0 f1 f2 f3 f4
        have HLT : Hid (k < n) := hlt
        have first : Hid (∀ c, eCode E k = c → c ≠ 0 → entsC n E = c) := fun c hc h0 => by
          rw [hz.out, scan_first (eCode E) n 0 k (fun j _ hj => HA.out j hj) (by omega) (by have := HLT.out; omega) (by rw [hc]; exact h0), hc]
        clear hB hA
        have hi : (k : Int) < (n : Int) := by omega
        have hi0 : (0 : Int) ≤ (k : Int) := by omega
        cases hid : inB (E k).id 1 999
        · have hsc : Hid (entsC n E = 3) := first.out 3 (eCode_id hid) (by decide)
          go_wp2_with (go_at_call 65; refine (isWithin_any _ _ _ _).mono ?_; rintro e w' ⟨rfl, rfl⟩)
          go_ret
          exact ⟨ret_int hsc.out.symm, by have HB' := HB.out; (repeat (first | exact Below.refl _ _ | assumption | refine Below.drew ?_ | refine bl_alloc ?_ _ | refine bl_then ?_ (by assumption) | refine Below.setCell ?_ (by first | omega | (simp; done) | (simp; omega)) _ | refine bl_store ?_ ?_ _ _))⟩
        · go_wp2_with (go_at_call 65; refine (isWithin_any _ _ _ _).mono ?_; rintro e w' ⟨rfl, rfl⟩)
          generalize hV : (wr.alloc _ : World) = V
          have hBV : Below wr.heap.size wr V := by subst hV; (repeat (first | exact Below.refl _ _ | assumption | refine Below.drew ?_ | refine bl_alloc ?_ _ | refine bl_then ?_ (by assumption) | refine Below.setCell ?_ (by first | omega | (simp; done) | (simp; omega)) _ | refine bl_store ?_ ?_ _ _))
          have v0 : ∀ W', Below V.heap.size V W' → W'.cell? ⟨wr.heap.size, 0, none⟩ = some (.int .i64 (E k).id) := fun W' h => by
            rw [h.cell (by subst hV; simp)]; subst hV; simp [go_sem]
          clear hV
          have HBV : Hid (Below w.heap.size w V) := bl_then HB.out hBV
          have HGV : Hid (EsAt V b 0 n E) := HGr.out.below hBV hblr
          have hblV : b < V.heap.size := Nat.lt_of_lt_of_le hblr hBV.size
          clear hBV f0 f1 f2 f3 f4 HGr
          refine (boxFault_any _ _ _ _ _).mono ?_
          rintro e w1 ⟨rfl, hb1⟩
          by_cases hc : boxC (E k).a (E k).b (E k).c (E k).d = 0
          · rw [hc]
            have HC : Hid (boxC (E k).a (E k).b (E k).c (E k).d = 0) := hc
            have hr1 : Below V.heap.size V w1 := hb1
            clear hc hb1
            have hk0 : (k : Int) ≤ (n : Int) := by omega
            have hkc : (k : Int) ≤ (cap : Int) := by omega
            by_cases hx : ∃ j, j < k ∧ (E j).id = (E k).id
            · have HH : Hid (∀ W', Below V.heap.size V W' → Calls Try.prog 68 #[.slice (some ⟨b, 0, none⟩) k cap, .int .i64 (E k).id] W' fun e w' => e = .returned (.bool true) ∧ Below W'.heap.size W' w') := fun W' h => by
                refine (hasEntry_any b k cap n E (E k).id W' (Nat.le_of_lt HLT.out) (HGV.out.below h hblV) (Nat.lt_of_lt_of_le hblV h.size) (by omega)).mono ?_
                rintro e w' ⟨⟨he, _⟩ | ⟨_, hno⟩, hb⟩
                · exact ⟨he, hb⟩
                · obtain ⟨j, hj, hje⟩ := hx
                  exact absurd hje (hno j hj)
              have hsc : Hid (entsC n E = 6) := first.out 6 (eCode_taken hid HC.out hx) (by decide)
              clear hx
              go_wp2_with fail
              go_region_held3 (fun W' => Below V.heap.size V W') ((repeat (first | exact Below.refl _ _ | assumption | refine Below.drew ?_ | refine bl_alloc ?_ _ | refine bl_then ?_ (by assumption) | refine Below.setCell ?_ (by first | omega | (simp; done) | (simp; omega)) _ | refine bl_store ?_ ?_ _ _)))
                (first | (go_at_call 68; refine (HH.out _ (by assumption)).mono ?_; rintro e w' ⟨rfl, hb⟩) | fail)
              go_wp2
              go_ret
              exact ⟨ret_int hsc.out.symm, bl_then HBV.out (by assumption)⟩
            · have HH : Hid (∀ W', Below V.heap.size V W' → Calls Try.prog 68 #[.slice (some ⟨b, 0, none⟩) k cap, .int .i64 (E k).id] W' fun e w' => e = .returned (.bool false) ∧ Below W'.heap.size W' w') := fun W' h => by
                refine (hasEntry_any b k cap n E (E k).id W' (Nat.le_of_lt HLT.out) (HGV.out.below h hblV) (Nat.lt_of_lt_of_le hblV h.size) (by omega)).mono ?_
                rintro e w' ⟨⟨_, hyes⟩ | ⟨he, _⟩, hb⟩
                · exact absurd hyes hx
                · exact ⟨he, hb⟩
              have HOK : Hid (eCode E k = 0) := eCode_ok hid HC.out hx
              clear hx
              go_wp2_with fail
              go_region_held3 (fun W' => Below V.heap.size V W') ((repeat (first | exact Below.refl _ _ | assumption | refine Below.drew ?_ | refine bl_alloc ?_ _ | refine bl_then ?_ (by assumption) | refine Below.setCell ?_ (by first | omega | (simp; done) | (simp; omega)) _ | refine bl_store ?_ ?_ _ _)))
                (first | (go_at_call 68; refine (HH.out _ (by assumption)).mono ?_; rintro e w' ⟨rfl, hb⟩) | fail)
              go_wp2
              go_roundw
              case rel => exact ⟨k + 1, by have := HLT.out; omega, by go_num, fun j hj => by
                  by_cases e : j = k
                  · rw [e]; exact HOK.out
                  · exact HA.out j (by omega), bl_then HBV.out (by assumption)⟩
              case measure => have := HLT.out; simp [intOf]; omega
          · have hsc : Hid (entsC n E = boxC (E k).a (E k).b (E k).c (E k).d) := first.out _ (eCode_box hid hc) hc
            have hcb : (boxC (E k).a (E k).b (E k).c (E k).d == 0) = false := by simpa using hc
            have HB1 : Hid (Below w.heap.size w w1) := bl_then HBV.out hb1
            clear hc hb1
            go_wp2
            go_ret
            exact ⟨ret_int hsc.out.symm, HB1.out⟩
      · have hsc : Hid (entsC n E = 0) := by
          show _ = _
          rw [hz.out]
          exact scan_none _ _ _ (fun j _ hj => HA.out j (by omega))
        go_wp2
        go_ret
        exact ⟨ret_int hsc.out.symm, HB.out⟩
end Go.Proofs.Ytjnhaigmfjndhaa
