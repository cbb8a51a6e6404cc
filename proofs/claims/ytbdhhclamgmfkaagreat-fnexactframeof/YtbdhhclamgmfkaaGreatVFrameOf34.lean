/- The fault of a list of requests, and whether one is asked for: the program and the model. -/
import Derived.Test.YtbdhhclamgmfkaaGreatVFrameOf33
namespace Go.Proofs.YtbdhhclamgmfkaaGreat
open Go.RowKit
set_option linter.unusedSimpArgs false
set_option linter.unusedVariables false
set_option maxRecDepth 100000

theorem atW_self {n k : Nat} {E : Nat → Req} (h : k < n) : (atW k E (E k).z (E k).x (E k).y = -1 ∧ atW n E (E k).z (E k).x (E k).y = (k : Int)) ∨ (0 ≤ atW k E (E k).z (E k).x (E k).y ∧ ∃ i : Nat, i < k ∧ atW n E (E k).z (E k).x (E k).y = (i : Int)) := by
  rcases firstI_or (fun i => isR (E i) (E k).z (E k).x (E k).y) k with ⟨h1, h2⟩ | ⟨i, hi, hg, hf, hn⟩
  · exact .inl ⟨h1, firstI_yes (G := fun i => isR (E i) (E k).z (E k).x (E k).y) h (isR_self _) h2⟩
  · exact .inr ⟨by unfold atW; rw [hf]; omega, i, hi, firstI_yes (G := fun i => isR (E i) (E k).z (E k).x (E k).y) (by omega) hg hn⟩
theorem reqC_cases (e : Req) : (reqC e = 0 ∧ reqB e = true) ∨ (reqC e = 3 ∧ reqB e = false) := by
  unfold reqC
  cases h : reqB e <;> simp
set_option maxHeartbeats 8000000 in
theorem impl_RequestsFault_any (a : Option Addr) (n cap : Nat) (E : Nat → Req) (w : World) (hp : IsWs w a n E) (hn : n ≤ 1048576) (hcap : n ≤ cap) :
    Calls Tryz.prog 59 #[.slice a n cap] w fun e w' => e = .returned (.int .i64 (reqsC n E)) ∧ Below w.heap.size w w' := by
  have HP : Hid (IsWs w a n E) := hp
  clear hp
  by_cases h8 : (8 : Int) < n
  · have hz : Hid (reqsC n E = 2) := by show _ = _; unfold reqsC; rw [if_pos (by omega)]
    go_enter Tryz.func59, Tryz.ntmps59
    go_wp2
    go_ret
    exact ⟨ret_int hz.out.symm, by (repeat (first | exact Below.refl _ _ | assumption | refine Below.drew ?_ | refine bl_alloc ?_ _ | refine bl_then ?_ (by assumption) | refine Below.setCell ?_ (by first | omega | (simp; done) | (simp; omega)) _ | refine bl_store ?_ ?_ _ _))⟩
  · have hz : Hid (reqsC n E = scanC (rCode E) 0 n) := by show _ = _; unfold reqsC; rw [if_neg (by omega)]
    go_enter Tryz.func59, Tryz.ntmps59
    go_wp2
    go_loopw [11] (fun v wr => ∃ k : Nat, k ≤ n ∧ v = .int .i64 k ∧ (∀ j, j < k → rCode E j = 0) ∧ Below w.heap.size w wr) (fun v _ => n - (intOf v).toNat)
    case atStart => exact ⟨0, by omega, rfl, by omega, Below.refl _ _⟩
    case round =>
      obtain ⟨k, hk, rfl, hA, hB⟩ := hrel
      have HB : Hid (Below w.heap.size w wr) := hB
      have HA : Hid (∀ j, j < k → rCode E j = 0) := hA
      by_cases hlt : k < n
      · rcases HP.out with h0 | ⟨b, off, rfl, hbl, hpt⟩
        · omega
        have HGr : Hid (WsAt wr b off n E) := hpt.below hB hbl
        have hblr : b < wr.heap.size := Nat.lt_of_lt_of_le hbl hB.size
        obtain ⟨f0, f1, f2, f3, f4⟩ := HGr.out k hlt
        have HLT : Hid (k < n) := hlt
        have first : Hid (∀ c, rCode E k = c → c ≠ 0 → reqsC n E = c) := fun c hc h0 => by
          rw [hz.out, scan_first (rCode E) n 0 k (fun j _ hj => HA.out j hj) (by omega) (by have := HLT.out; omega) (by rw [hc]; exact h0), hc]
        have HOK : Hid (rCode E k = 0 → ∀ j, j < k + 1 → rCode E j = 0) := fun h0 j hj => by
          by_cases e : j = k
          · rw [e]; exact h0
          · exact HA.out j (by omega)
        clear hB hA hpt
        have hi : (k : Int) < (n : Int) := by omega
        have hi0 : (0 : Int) ≤ (k : Int) := by omega
        go_wp2_with fail
        generalize hV : (wr.alloc _ : World) = V
        have hBV : Below wr.heap.size wr V := by subst hV; (repeat (first | exact Below.refl _ _ | assumption | refine Below.drew ?_ | refine bl_alloc ?_ _ | refine bl_then ?_ (by assumption) | refine Below.setCell ?_ (by first | omega | (simp; done) | (simp; omega)) _ | refine bl_store ?_ ?_ _ _))
        have v0 : ∀ W', Below V.heap.size V W' → W'.cell? ⟨wr.heap.size, 0, none⟩ = some (.int .i64 (E k).z) := fun W' h => by
          rw [h.cell (by subst hV; simp)]; subst hV; simp [go_sem]
        have v1 : ∀ W', Below V.heap.size V W' → W'.cell? ⟨wr.heap.size, 1, none⟩ = some (.int .i64 (E k).x) := fun W' h => by
          rw [h.cell (by subst hV; simp)]; subst hV; simp [go_sem]
        have v2 : ∀ W', Below V.heap.size V W' → W'.cell? ⟨wr.heap.size, 2, none⟩ = some (.int .i64 (E k).y) := fun W' h => by
          rw [h.cell (by subst hV; simp)]; subst hV; simp [go_sem]
        clear hV
        have HBV : Hid (Below w.heap.size w V) := bl_then HB.out hBV
        have HGV : Hid (WsAt V b off n E) := HGr.out.below hBV hblr
        have hblV : b < V.heap.size := Nat.lt_of_lt_of_le hblr hBV.size
        clear hBV f0 f1 f2 f3 f4 HGr
        refine (requestFault_any (E k) _).mono ?_
        rintro e w1 ⟨rfl, hb1⟩
        rcases reqC_cases (E k) with ⟨hc0, hcB⟩ | ⟨hc3, hcB⟩
        · rw [hc0]
          have hr1 : Below V.heap.size V w1 := hb1
          have hkn : (k : Int) ≤ (n : Int) := by omega
          have hkc : (k : Int) ≤ (cap : Int) := by omega
          have HH : Hid (∀ W', Below V.heap.size V W' → Calls Tryz.prog 93 #[.slice (some ⟨b, off, none⟩) k cap, refV (E k).z (E k).x (E k).y] W' fun e w' => e = .returned (.int .i64 (atW k E (E k).z (E k).x (E k).y)) ∧ Below W'.heap.size W' w') := fun W' h =>
            requestOf_any _ k cap E _ _ _ W' (.inr ⟨b, off, rfl, Nat.lt_of_lt_of_le hblV h.size, fun i hi => (HGV.out.below h hblV) i (by have := HLT.out; omega)⟩) (by omega)
          clear hc0 hb1
          rcases atW_self HLT.out with ⟨hq, _⟩ | ⟨hq, _⟩
          · have hok : Hid (rCode E k = 0) := rCode_ok hcB hq
            rw [hq] at HH
            clear hq hcB
            generalize (E k).z = rz at *
            generalize (E k).x = rx at *
            generalize (E k).y = ry at *
            go_wp2_with fail
            go_region_held3 (fun W' => Below V.heap.size V W') ((repeat (first | exact Below.refl _ _ | assumption | refine Below.drew ?_ | refine bl_alloc ?_ _ | refine bl_then ?_ (by assumption) | refine Below.setCell ?_ (by first | omega | (simp; done) | (simp; omega)) _ | refine bl_store ?_ ?_ _ _)))
              (first | (go_at_call 93; refine (HH.out _ (by assumption)).mono ?_; rintro e w' ⟨rfl, hb⟩) | fail)
            go_wp2
            go_roundw
            case rel => exact ⟨k + 1, by have := HLT.out; omega, by go_num, HOK.out hok.out, bl_then HBV.out (by assumption)⟩
            case measure => have := HLT.out; simp [intOf]; omega
          · have hsc : Hid (reqsC n E = 6) := first.out 6 (rCode_taken hcB hq) (by decide)
            have hq' : (0 : Int) ≤ atW k E (E k).z (E k).x (E k).y := hq
            clear hq hcB
            generalize atW k E (E k).z (E k).x (E k).y = q at *
            generalize (E k).z = rz at *
            generalize (E k).x = rx at *
            generalize (E k).y = ry at *
            go_wp2_with fail
            go_region_held3 (fun W' => Below V.heap.size V W') ((repeat (first | exact Below.refl _ _ | assumption | refine Below.drew ?_ | refine bl_alloc ?_ _ | refine bl_then ?_ (by assumption) | refine Below.setCell ?_ (by first | omega | (simp; done) | (simp; omega)) _ | refine bl_store ?_ ?_ _ _)))
              (first | (go_at_call 93; refine (HH.out _ (by assumption)).mono ?_; rintro e w' ⟨rfl, hb⟩) | fail)
            go_wp2
            go_ret
            exact ⟨ret_int hsc.out.symm, bl_then HBV.out (by assumption)⟩
        · have hsc : Hid (reqsC n E = 3) := first.out 3 (rCode_bad hcB) (by decide)
          rw [hc3]
          have HB1 : Hid (Below w.heap.size w w1) := bl_then HBV.out hb1
          clear hc3 hcB hb1
          go_wp2
          go_ret
          exact ⟨ret_int hsc.out.symm, HB1.out⟩
      · have hsc : Hid (reqsC n E = 0) := by
          show _ = _
          rw [hz.out]
          exact scan_none _ _ _ (fun j _ hj => HA.out j (by omega))
        go_wp2
        go_ret
        exact ⟨ret_int hsc.out.symm, HB.out⟩
set_option maxHeartbeats 8000000 in
theorem l12Fault_any (a : Option Addr) (n cap : Nat) (E : Nat → Req) (w : World) (hp : IsWs w a n E) (hn : n ≤ 1048576) :
    Calls Tryz.prog 48 #[.slice a n cap] w fun e w' => e = .returned (.int .i64 (reqsC n E)) ∧ Below w.heap.size w w' := by
  have HP : Hid (IsWs w a n E) := hp
  clear hp
  by_cases h8 : (8 : Int) < n
  · have hz : Hid (reqsC n E = 2) := by show _ = _; unfold reqsC; rw [if_pos (by omega)]
    go_enter Tryz.func48, Tryz.ntmps48
    go_wp2
    go_ret
    exact ⟨ret_int hz.out.symm, by (repeat (first | exact Below.refl _ _ | assumption | refine Below.drew ?_ | refine bl_alloc ?_ _ | refine bl_then ?_ (by assumption) | refine Below.setCell ?_ (by first | omega | (simp; done) | (simp; omega)) _ | refine bl_store ?_ ?_ _ _))⟩
  · have hz : Hid (reqsC n E = scanC (rCode E) 0 n) := by show _ = _; unfold reqsC; rw [if_neg (by omega)]
    go_enter Tryz.func48, Tryz.ntmps48
    go_wp2
    go_loopw [3] (fun v wr => ∃ k : Nat, k ≤ n ∧ v = .int .i64 k ∧ (∀ j, j < k → rCode E j = 0) ∧ Below w.heap.size w wr) (fun v _ => n - (intOf v).toNat)
    case atStart => exact ⟨0, by omega, rfl, by omega, Below.refl _ _⟩
    case round =>
      obtain ⟨k, hk, rfl, hA, hB⟩ := hrel
      have HB : Hid (Below w.heap.size w wr) := hB
      have HA : Hid (∀ j, j < k → rCode E j = 0) := hA
      by_cases hlt : k < n
      · rcases HP.out with h0 | ⟨b, off, rfl, hbl, hpt⟩
        · omega
        have HGr : Hid (WsAt wr b off n E) := hpt.below hB hbl
        have hblr : b < wr.heap.size := Nat.lt_of_lt_of_le hbl hB.size
        have hr : Below wr.heap.size wr wr := Below.refl _ _
        obtain ⟨f0, f1, f2, _, _⟩ := HGr.out k hlt
        have HLT : Hid (k < n) := hlt
        have first : Hid (∀ c, rCode E k = c → c ≠ 0 → reqsC n E = c) := fun c hc h0 => by
          rw [hz.out, scan_first (rCode E) n 0 k (fun j _ hj => HA.out j hj) (by omega) (by have := HLT.out; omega) (by rw [hc]; exact h0), hc]
        have HOK : Hid (rCode E k = 0 → ∀ j, j < k + 1 → rCode E j = 0) := fun h0 j hj => by
          by_cases e : j = k
          · rw [e]; exact h0
          · exact HA.out j (by omega)
        clear hB hA hpt
        have hi : (k : Int) < (n : Int) := by omega
        have hi0 : (0 : Int) ≤ (k : Int) := by omega
        go_wp2_with fail
        refine (l7Fault_any _ _ _ _).mono ?_
        rintro e w1 ⟨rfl, hb1⟩
        have HB1 : Hid (Below w.heap.size w w1) := bl_then HB.out hb1
        have HG1 : Hid (WsAt w1 b off n E) := HGr.out.below hb1 hblr
        have hbl1 : b < w1.heap.size := Nat.lt_of_lt_of_le hblr hb1.size
        clear f0 f1 f2 hb1 hr
        rcases refC_cases (E k).z (E k).x (E k).y with ⟨h1, h2⟩ | ⟨h1, h2⟩
        · rw [h1]
          obtain ⟨g0, g1, g2, g3, g4⟩ := HG1.out k hlt
          clear h1
          cases hcB : (inB (E k).du 0 9999 && inB (E k).tr 1 99)
          · have hsc : Hid (reqsC n E = 3) := first.out 3 (rCode_bad (by simp [reqB, h2, hcB])) (by decide)
            clear h2
            cases h3 : inB (E k).du 0 9999
            · clear hcB
              go_wp2_with (go_at_call 46; refine (l1In_any _ _ _ _).mono ?_; rintro e w' ⟨rfl, rfl⟩)
              go_ret
              exact ⟨ret_int hsc.out.symm, HB1.out⟩
            · have h4 : inB (E k).tr 1 99 = false := by rw [h3] at hcB; simpa using hcB
              clear hcB
              go_wp2_with (go_at_call 46; refine (l1In_any _ _ _ _).mono ?_; rintro e w' ⟨rfl, rfl⟩)
              go_ret
              exact ⟨ret_int hsc.out.symm, HB1.out⟩
          · have h3 : inB (E k).du 0 9999 = true := by simp at hcB; exact hcB.1
            have h4 : inB (E k).tr 1 99 = true := by simp at hcB; exact hcB.2
            have hrq : Hid (reqB (E k) = true) := by show _ = _; simp [reqB, h2, hcB]
            clear hcB h2
            have HH : Hid (Calls Tryz.prog 79 #[.slice (some ⟨b, off, none⟩) n cap, refV (E k).z (E k).x (E k).y] w1 fun e w' => e = .returned (.int .i64 (atW n E (E k).z (E k).x (E k).y)) ∧ Below w1.heap.size w1 w') :=
              l12At_any _ n cap E _ _ _ w1 (.inr ⟨b, off, rfl, hbl1, HG1.out⟩) (by omega)
            rcases atW_self HLT.out with ⟨hq, hq2⟩ | ⟨hq, i, hik, hq2⟩
            · have hok : Hid (rCode E k = 0) := rCode_ok hrq.out hq
              rw [hq2] at HH
              clear hq hq2
              generalize (E k).z = rz at *
              generalize (E k).x = rx at *
              generalize (E k).y = ry at *
              generalize (E k).du = rd at *
              generalize (E k).tr = rt at *
              go_wp2_with (first | (go_at_call 46; refine (l1In_any _ _ _ _).mono ?_; rintro e w' ⟨rfl, rfl⟩) | (go_at_call 79; refine HH.out.mono ?_; rintro e w' ⟨rfl, hb⟩))
              go_roundw
              case rel => exact ⟨k + 1, by have := HLT.out; omega, by go_num, HOK.out hok.out, bl_then HB1.out (by assumption)⟩
              case measure => have := HLT.out; simp [intOf]; omega
            · have hsc : Hid (reqsC n E = 6) := first.out 6 (rCode_taken hrq.out hq) (by decide)
              have hne : ((i : Int) == (k : Int)) = false := by simp; omega
              rw [hq2] at HH
              clear hq hq2
              generalize (E k).z = rz at *
              generalize (E k).x = rx at *
              generalize (E k).y = ry at *
              generalize (E k).du = rd at *
              generalize (E k).tr = rt at *
              generalize (i : Int) = ii at *
              clear hik
              go_wp2_with (first | (go_at_call 46; refine (l1In_any _ _ _ _).mono ?_; rintro e w' ⟨rfl, rfl⟩) | (go_at_call 79; refine HH.out.mono ?_; rintro e w' ⟨rfl, hb⟩))
              go_ret
              exact ⟨ret_int hsc.out.symm, bl_then HB1.out (by assumption)⟩
        · have hsc : Hid (reqsC n E = 3) := first.out 3 (rCode_bad (by simp [reqB, h2])) (by decide)
          rw [h1]
          clear h1 h2
          go_wp2
          go_ret
          exact ⟨ret_int hsc.out.symm, HB1.out⟩
      · have hsc : Hid (reqsC n E = 0) := by
          show _ = _
          rw [hz.out]
          exact scan_none _ _ _ (fun j _ hj => HA.out j (by omega))
        go_wp2
        go_ret
        exact ⟨ret_int hsc.out.symm, HB.out⟩
end Go.Proofs.YtbdhhclamgmfkaaGreat
