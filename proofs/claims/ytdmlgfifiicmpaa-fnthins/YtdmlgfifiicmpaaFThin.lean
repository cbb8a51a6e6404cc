/- FnThins: the law out of what is called. -/
import Derived.Test.YtdmlgfifiicmpaaDraw7
import Derived.Test.YtdmlgfifiicmpaaTh9
import Derived.Test.YtdmlgfifiicmpaaTh10
import Derived.Test.YtdmlgfifiicmpaaLwBig
namespace Go.Proofs.Ytdmlgfifiicmpaa
open Go.RowKit
set_option linter.unusedSimpArgs false
set_option linter.unusedVariables false

set_option maxHeartbeats 1000000 in
theorem FnThins_big (a : Option Addr) (n cap : Nat) (w : World) (h : 1048576 < n) : Calls Try.prog 4 #[.slice a n cap] w fun e w' => e = .returned (.bool true) ∧ Below w.heap.size w w' := by
  have hb : decide (1048576 < (n : Int)) = true := by simp; omega
  go_enter Try.func4, Try.ntmps4
  go_wp2_with (go_at_call 9; refine (lwBig_any _ _ _ _).mono ?_; rintro e w' ⟨rfl, rfl⟩)
  go_ret
  exact ⟨rfl, by (repeat (first | exact Below.refl _ _ | assumption | refine Below.drew ?_ | refine bl_alloc ?_ _ | refine bl_then ?_ (by assumption) | refine Below.setCell ?_ (by first | omega | (simp; done) | (simp; omega)) _ | refine bl_store ?_ ?_ _ _))⟩
/-- The points of a row of places. -/
theorem Row.places {base : Nat} {w : World} {v : Value} {X Y : Nat → Int} {P : List Nat} (h : Row base w v (ptsOf X Y P)) (hne : 0 < P.length) :
    ∃ g cap, v = .slice (some ⟨g, 0, none⟩) P.length cap ∧ P.length ≤ cap ∧ g < w.heap.size ∧ PtsAt w g 0 P.length (fun j => X (P.getD j 0)) (fun j => Y (P.getD j 0)) := by
  have hl : (ptsOf X Y P).length = P.length := by simp [ptsOf]
  obtain ⟨a, cap, hv, hc, h0 | ⟨g, rfl, _, hg, hp, _⟩⟩ := h.own
  · omega
  · rw [hl] at hv hc hp
    refine ⟨g, cap, hv, hc, hg, fun i hi => ?_⟩
    obtain ⟨e1, e2⟩ := hp i hi
    have ex : px (ptsOf X Y P) i = X (P.getD i 0) := by simp [px, ptsOf, List.getD_eq_getElem?_getD, List.getElem?_eq_getElem hi]
    have ey : py (ptsOf X Y P) i = Y (P.getD i 0) := by simp [py, ptsOf, List.getD_eq_getElem?_getD, List.getElem?_eq_getElem hi]
    rw [ex] at e1
    rw [ey] at e2
    exact ⟨e1, e2⟩

/-- Point i is near one of the first j segments of the places. -/
def clTo (X Y : Nat → Int) (r : Int) (P : List Nat) (i j : Nat) : Bool := decide (∃ q, q < j ∧ nearI X Y r (P.getD q 0) (P.getD (q + 1) 0) i = true)
theorem clTo_zero (X Y : Nat → Int) (r : Int) (P : List Nat) (i : Nat) : clTo X Y r P i 0 = false := by
  unfold clTo
  rw [decide_eq_false_iff_not]
  rintro ⟨q, h, _⟩
  omega
theorem clTo_step (X Y : Nat → Int) (r : Int) (P : List Nat) (i j : Nat) : clTo X Y r P i (j + 1) = (clTo X Y r P i j || nearI X Y r (P.getD j 0) (P.getD (j + 1) 0) i) := by
  rw [Bool.eq_iff_iff]
  simp only [clTo, decide_eq_true_eq, Bool.or_eq_true]
  constructor
  · rintro ⟨q, h1, h2⟩
    by_cases e : q = j
    · subst e; exact .inr h2
    · exact .inl ⟨q, by omega, h2⟩
  · rintro (⟨q, h1, h2⟩ | h)
    · exact ⟨q, by omega, h2⟩
    · exact ⟨j, by omega, h⟩

set_option maxRecDepth 16000 in
set_option maxHeartbeats 8000000 in
theorem FnThins_walk (a : Option Addr) (n cap : Nat) (Z : Nat → Int) (w : World) (h : IsBytes w a n Z ∧ (∀ i, 0 ≤ Z i ∧ Z i ≤ 255) ∧ n ≤ cap) :
    Calls Try.prog 4 #[.slice a n cap] w fun e w' => e = .returned (.bool true) ∧ Below w.heap.size w w' := by
  obtain ⟨hI, hR, hcap⟩ := h
  by_cases hbig : 1048576 < n
  · exact FnThins_big a n cap w hbig
  have hn1 : n ≤ 1048576 := by omega
  have HI : Hid (IsBytes w a n Z) := hI
  have HR : Hid (∀ i, 0 ≤ Z i ∧ Z i ≤ 255) := hR
  have hn : decide (1048576 < (n : Int)) = false := by simp; omega
  clear hI hR hbig
  go_enter Try.func4, Try.ntmps4
  go_wp2_with fail
  refine (lwBig_any _ _ _ _).mono ?_
  rintro e w0 ⟨rfl, hw0⟩
  have hw0' := hw0.symm
  subst hw0'
  clear hw0
  go_wp2_with fail
  refine (DrawThinLine_any a n cap Z _ HI.out HR.out hn1 hcap).mono ?_
  rintro e w1 ⟨v, r, rfl, ⟨b, k, cp, X, Y, rfl, hb, hbl, hk41, hkc, hpt⟩, hb1⟩
  have HP : Hid (PtsAt w1 b 0 k X Y) := hpt
  have HB1 : Hid (Below w.heap.size w w1) := hb1
  obtain ⟨L, hL⟩ : ∃ L, 3 ≤ k → Thin X Y r 0 (k - 1) L := by
    by_cases h3 : 3 ≤ k
    · obtain ⟨L, hL⟩ := Thin.exists X Y r (k - 1) 0 (k - 1) (by omega) (by omega)
      exact ⟨L, fun _ => hL⟩
    · exact ⟨[], fun h => absurd h h3⟩
  have HL : Hid (3 ≤ k → Thin X Y r 0 (k - 1) L) := hL
  have hsp : ∀ W', Below w1.heap.size w1 W' → Calls Try.prog 20 #[.slice (some ⟨b, 0, none⟩) k cp, .int .i64 r] W' fun e w' => ∃ av cv, e = .returned (.agg #[.int .i64 (thinC r k X Y), .slice av (thinR r k X Y L).length cv]) ∧ Below W'.heap.size W' w' := fun W' h =>
    (spec_ThinLine_any b k cp X Y r L W' (HP.out.below h hbl) (Nat.lt_of_lt_of_le hbl h.size) (by omega) hkc HL.out).mono fun e w' ⟨v, he, hr, hb⟩ => by
      obtain ⟨av, cv, hv, _, _⟩ := hr.own
      exact ⟨av, cv, by rw [he, hv], hb⟩
  have Hsp := (show Hid _ from hsp)
  clear hpt hb1 hsp hL HI HR
  go_wp2_with fail
  refine (impl_ThinLine_any b k cp X Y r L _ HP.out hbl (by omega) hkc HL.out).mono ?_
  rintro e w2 ⟨v2, rfl, hR2, hb2⟩
  obtain ⟨a2, c2, hv2, _, _⟩ := hR2.own
  have HR2 : Hid (Row w1.heap.size w2 v2 (thinR r k X Y L)) := hR2
  have HB2 : Hid (Below w1.heap.size w1 w2) := hb2
  clear hR2 hb2
  by_cases hC : thinC r k X Y = 0
  · have hRr : thinR r k X Y L = ptsOf X Y (thinP k L) := by simp [thinR, hC]
    rw [hRr] at HR2 hv2
    have hlr : (ptsOf X Y (thinP k L)).length = (thinP k L).length := by simp [ptsOf]
    rw [hlr] at hv2
    have Hsp' : Hid (∀ W', Below w1.heap.size w1 W' → Calls Try.prog 20 #[.slice (some ⟨b, 0, none⟩) k cp, .int .i64 r] W' fun e w' => ∃ av cv, e = .returned (.agg #[.int .i64 0, .slice av (thinP k L).length cv]) ∧ Below W'.heap.size W' w') := fun W' h => by
      have := Hsp.out W' h
      rw [hC, hRr, hlr] at this
      exact this
    have hCk : k ≤ 40 ∧ inB r 0 4096 = true ∧ ∀ i, i < k → okP (X i) (Y i) = true := by
      unfold thinC at hC
      split at hC
      · rename_i hin
        split at hC
        · rename_i hk
          refine ⟨hk, hin, ?_⟩
          unfold codeN at hC
          split at hC
          · rename_i ha; exact of_decide_eq_true ha
          · cases hC
        · cases hC
      · cases hC
    rw [hC]
    clear hRr hlr hC Hsp
    by_cases h3 : k < 3
    · have hpp : (thinP k L).length = k := by simp [thinP, h3]
      rw [hpp] at hv2
      subst hv2
      have h3i : (k : Int) < 3 := by omega
      clear hpp Hsp'
      go_wp2_with fail
      go_ret
      exact ⟨ret_bool (by simp), by have HB3 := bl_then HB1.out HB2.out; (repeat (first | exact Below.refl _ _ | assumption | refine Below.drew ?_ | refine bl_alloc ?_ _ | refine bl_then ?_ (by assumption) | refine Below.setCell ?_ (by first | omega | (simp; done) | (simp; omega)) _ | refine bl_store ?_ ?_ _ _))⟩
    · have h3i : ¬ (k : Int) < 3 := by omega
      have hpp : thinP k L = L ++ [k - 1] := by simp [thinP, h3]
      have hT := HL.out (by omega)
      have hcl := hT.close
      obtain ⟨n1, n2, n3⟩ := hT.len X Y (by omega)
      obtain ⟨L', hL'⟩ := hT.head
      rw [← hpp] at hcl
      have hPl : (thinP k L).length = L.length + 1 := by rw [hpp]; simp
      have hP0 : (thinP k L).getD 0 0 = 0 := by rw [hpp, hL']; rfl
      have hPN : (thinP k L).getD L.length 0 = k - 1 := by rw [hpp]; simp [List.getD_eq_getElem?_getD]
      have hL1 : 0 < L.length := List.length_pos_iff.2 n3
      obtain ⟨g, cg, hv, hcg, hg, hpg⟩ := HR2.out.places (by omega)
      generalize thinP k L = P at *
      obtain ⟨N, hN⟩ : ∃ N, N = P.length := ⟨_, rfl⟩
      rw [← hN] at hv hcg hpg hPl Hsp'
      clear hv2
      subst hv
      have HG : Hid (PtsAt w2 g 0 N (fun j => X (P.getD j 0)) (fun j => Y (P.getD j 0))) := hpg
      have HCL : Hid (∀ i, 0 ≤ i → i ≤ k - 1 → 0 < k - 1 → Close X Y r i P) := hcl
      have HPF : Hid (P.getD 0 0 = 0 ∧ P.getD (N - 1) 0 = k - 1 ∧ N = P.length ∧ N = L.length + 1 ∧ L.length ≤ k - 1 ∧ 0 < L.length) := ⟨hP0, by rw [hPl]; exact hPN, hN, hPl, by omega, hL1⟩
      have HCK : Hid (k ≤ 40 ∧ inB r 0 4096 = true ∧ ∀ i, i < k → okP (X i) (Y i) = true) := hCk
      have HPI : Hid (∀ j, j < N → P.getD j 0 < k) := fun j hj => by
        rw [hpp] at *
        rcases Nat.lt_or_ge j L.length with h | h
        · rw [List.getD_eq_getElem?_getD, List.getElem?_append_left h, List.getElem?_eq_getElem h]
          have := (n2 _ (List.getElem_mem h)).2
          simp
          omega
        · have e : j = L.length := by omega
          subst e
          simp [List.getD_eq_getElem?_getD]
          omega
      have hN2 : ¬ (N : Int) < 2 := by omega
      have hNk : ¬ (k : Int) < (N : Int) := by omega
      have hNp : 0 < N := by omega
      have hNp' : (0 : Int) < (N : Int) := by omega
      have hkp : 0 < k := by omega
      have hkp' : (0 : Int) < (k : Int) := by omega
      clear hpg hcl hCk hP0 hPN hN hPl hL1 hpp hT n1 n2 n3 hL' HR2
      clear L'
      have hNb : N ≤ k := by omega
      go_wp2_with fail
      generalize hV : (w2.alloc _ : World) = V
      have hbV : Below w2.heap.size w2 V := by subst hV; (repeat (first | exact Below.refl _ _ | assumption | refine Below.drew ?_ | refine bl_alloc ?_ _ | refine bl_then ?_ (by assumption) | refine Below.setCell ?_ (by first | omega | (simp; done) | (simp; omega)) _ | refine bl_store ?_ ?_ _ _))
      have d1 : ∀ W', Below V.heap.size V W' → W'.cell? ⟨w2.heap.size, 1, none⟩ = some (.slice (some ⟨g, 0, none⟩) N cg) := fun W' h => by
        rw [h.cell (by subst hV; simp)]; subst hV; simp [go_sem]
      have HBV : Hid (Below w1.heap.size w1 V) := bl_then HB2.out hbV
      have HPV : Hid (PtsAt V b 0 k X Y) := HP.out.below HBV.out hbl
      have HGV : Hid (PtsAt V g 0 N (fun j => X (P.getD j 0)) (fun j => Y (P.getD j 0))) := HG.out.below hbV hg
      have hblV : b < V.heap.size := Nat.lt_of_lt_of_le hbl HBV.out.size
      have hgV : g < V.heap.size := Nat.lt_of_lt_of_le hg hbV.size
      clear hV hbV HG HP
      obtain ⟨NM, hNM⟩ : ∃ NM, NM = N - 1 := ⟨_, rfl⟩
      obtain ⟨KM, hKM⟩ : ∃ KM, KM = k - 1 := ⟨_, rfl⟩
      have wN : IntKind.i64.wrap ((N : Int) - 1) = (NM : Int) := by
        rw [show (N : Int) - 1 = (NM : Int) by omega]
        exact IntWalk.i64_in _ (by omega)
      have wK : IntKind.i64.wrap ((k : Int) - 1) = (KM : Int) := by
        rw [show (k : Int) - 1 = (KM : Int) by omega]
        exact IntWalk.i64_in _ (by omega)
      have nm0 : (0 : Int) ≤ (NM : Int) := by omega
      have nm1 : (NM : Int) < (N : Int) := by omega
      have km0 : (0 : Int) ≤ (KM : Int) := by omega
      have km1 : (KM : Int) < (k : Int) := by omega
      have cB : ∀ i, i < k → ∀ W', Below V.heap.size V W' → W'.cell? ⟨b, i * 2, none⟩ = some (.int .i64 (X i)) ∧ W'.cell? ⟨b, i * 2 + 1, none⟩ = some (.int .i64 (Y i)) := fun i hi W' h => by
        have := (HPV.out.below h hblV) i hi
        simpa using this
      have cG : ∀ i, i < N → ∀ W', Below V.heap.size V W' → W'.cell? ⟨g, i * 2, none⟩ = some (.int .i64 (X (P.getD i 0))) ∧ W'.cell? ⟨g, i * 2 + 1, none⟩ = some (.int .i64 (Y (P.getD i 0))) := fun i hi W' h => by
        have := (HGV.out.below h hgV) i hi
        simpa using this
      have b00 : ∀ W', Below V.heap.size V W' → W'.cell? ⟨b, 0, none⟩ = some (.int .i64 (X 0)) := fun W' h => by simpa using (cB 0 hkp W' h).1
      have b01 : ∀ W', Below V.heap.size V W' → W'.cell? ⟨b, 1, none⟩ = some (.int .i64 (Y 0)) := fun W' h => by simpa using (cB 0 hkp W' h).2
      have b10 : ∀ W', Below V.heap.size V W' → W'.cell? ⟨b, KM * 2, none⟩ = some (.int .i64 (X KM)) := fun W' h => (cB KM (by omega) W' h).1
      have b11 : ∀ W', Below V.heap.size V W' → W'.cell? ⟨b, KM * 2 + 1, none⟩ = some (.int .i64 (Y KM)) := fun W' h => (cB KM (by omega) W' h).2
      have g00 : ∀ W', Below V.heap.size V W' → W'.cell? ⟨g, 0, none⟩ = some (.int .i64 (X 0)) := fun W' h => by
        have := (cG 0 hNp W' h).1
        rw [HPF.out.1] at this
        simpa using this
      have g01 : ∀ W', Below V.heap.size V W' → W'.cell? ⟨g, 1, none⟩ = some (.int .i64 (Y 0)) := fun W' h => by
        have := (cG 0 hNp W' h).2
        rw [HPF.out.1] at this
        simpa using this
      have g10 : ∀ W', Below V.heap.size V W' → W'.cell? ⟨g, NM * 2, none⟩ = some (.int .i64 (X KM)) := fun W' h => by
        have := (cG NM (by omega) W' h).1
        rw [hNM, HPF.out.2.1, ← hKM, ← hNM] at this
        exact this
      have g11 : ∀ W', Below V.heap.size V W' → W'.cell? ⟨g, NM * 2 + 1, none⟩ = some (.int .i64 (Y KM)) := fun W' h => by
        have := (cG NM (by omega) W' h).2
        rw [hNM, HPF.out.2.1, ← hKM, ← hNM] at this
        exact this
      have HcB := (show Hid _ from cB)
      have HcG := (show Hid _ from cG)
      have HKM : Hid (KM = k - 1) := hKM
      clear cB cG hNM hKM
      have hN2d : decide ((N : Int) < 2) = false := by simp; omega
      have hNkd : decide ((k : Int) < (N : Int)) = false := by simp; omega
      have hNkd' : decide (k < N) = false := by simp; omega
      go_cut [72] (fun t wc => t = .bool false ∧ Below V.heap.size V wc)
      case first =>
        go_region_held3 (fun W' => Below V.heap.size V W') ((repeat (first | exact Below.refl _ _ | assumption | refine Below.drew ?_ | refine bl_alloc ?_ _ | refine bl_then ?_ (by assumption) | refine Below.setCell ?_ (by first | omega | (simp; done) | (simp; omega)) _ | refine bl_store ?_ ?_ _ _))) (fail)
        go_wp2_with fail
        go_meet
        case rel => exact ⟨rfl, by assumption⟩
      case rest =>
        obtain ⟨rfl, hbc⟩ := hcut
        have HBc : Hid (Below V.heap.size V wc) := hbc
        clear hbc b00 b01 b10 b11 g00 g01 g10 g11 wN wK
        generalize wc = wA at *
        go_wp2_with fail
        go_loopw [7] (fun s7 wr => ∃ i : Nat, i ≤ k ∧ s7 = .int .i64 (i : Int) ∧ Below V.heap.size V wr) (fun s7 _ => k - (intOf s7).toNat)
        case atStart => exact ⟨0, by omega, rfl, HBc.out⟩
        case round =>
          obtain ⟨i, hik, rfl, hBi⟩ := hrel
          have HBi : Hid (Below V.heap.size V wr) := hBi
          clear hBi
          by_cases hlt : i < k
          · have hii : (i : Int) < (k : Int) := by omega
            have i0 : (0 : Int) ≤ (i : Int) := by omega
            go_wp2_with fail
            obtain ⟨wo, hwo⟩ : ∃ wo : World, wo = wr := ⟨_, rfl⟩
            subst hwo
            go_loopw [8, 9] (fun s8 s9 wr => ∃ j : Nat, j + 1 ≤ N ∧ s9 = .int .i64 (j : Int) ∧ s8 = .bool (clTo X Y r P i j) ∧ Below V.heap.size V wr) (fun _ s9 _ => N - (intOf s9).toNat)
            case atStart => exact ⟨0, by omega, rfl, by rw [clTo_zero], HBi.out⟩
            case round =>
              obtain ⟨j, hjN, rfl, rfl, hBj⟩ := hrel
              have HBj : Hid (Below V.heap.size V wr) := hBj
              clear hBj
              by_cases hj : j + 1 < N
              · have hji : (j : Int) + 1 < (N : Int) := by omega
                have hst := clTo_step X Y r P i j
                cases hcl : clTo X Y r P i j
                · rw [hcl] at hst
                  simp only [Bool.false_or] at hst
                  have HST : Hid (clTo X Y r P i (j + 1) = nearI X Y r (P.getD j 0) (P.getD (j + 1) 0) i) := hst
                  clear hst hcl
                  obtain ⟨J, hJ⟩ : ∃ J, J = j + 1 := ⟨_, rfl⟩
                  have wJ : IntKind.i64.wrap ((j : Int) + 1) = (J : Int) := by
                    rw [show (j : Int) + 1 = (J : Int) by omega]
                    exact IntWalk.i64_in _ (by omega)
                  have jj0 : (0 : Int) ≤ (j : Int) := by omega
                  have jj1 : (j : Int) < (N : Int) := by omega
                  have J0 : (0 : Int) ≤ (J : Int) := by omega
                  have J1 : (J : Int) < (N : Int) := by omega
                  have r0 : ∀ W', Below wr.heap.size wr W' → W'.cell? ⟨b, i * 2, none⟩ = some (.int .i64 (X i)) := fun W' h => (HcB.out i hlt W' (bl_then HBj.out h)).1
                  have r1 : ∀ W', Below wr.heap.size wr W' → W'.cell? ⟨b, i * 2 + 1, none⟩ = some (.int .i64 (Y i)) := fun W' h => (HcB.out i hlt W' (bl_then HBj.out h)).2
                  have r2 : ∀ W', Below wr.heap.size wr W' → W'.cell? ⟨g, j * 2, none⟩ = some (.int .i64 (X (P.getD j 0))) := fun W' h => (HcG.out j (by omega) W' (bl_then HBj.out h)).1
                  have r3 : ∀ W', Below wr.heap.size wr W' → W'.cell? ⟨g, j * 2 + 1, none⟩ = some (.int .i64 (Y (P.getD j 0))) := fun W' h => (HcG.out j (by omega) W' (bl_then HBj.out h)).2
                  have r4 : ∀ W', Below wr.heap.size wr W' → W'.cell? ⟨g, J * 2, none⟩ = some (.int .i64 (X (P.getD J 0))) := fun W' h => (HcG.out J (by omega) W' (bl_then HBj.out h)).1
                  have r5 : ∀ W', Below wr.heap.size wr W' → W'.cell? ⟨g, J * 2 + 1, none⟩ = some (.int .i64 (Y (P.getD J 0))) := fun W' h => (HcG.out J (by omega) W' (bl_then HBj.out h)).2
                  have r6 : ∀ W', Below wr.heap.size wr W' → W'.cell? ⟨w2.heap.size, 1, none⟩ = some (.slice (some ⟨g, 0, none⟩) N cg) := fun W' h => d1 W' (bl_then HBj.out h)
                  have hnr : isNearB (X i) (Y i) (X (P.getD j 0)) (Y (P.getD j 0)) (X (P.getD J 0)) (Y (P.getD J 0)) r = nearI X Y r (P.getD j 0) (P.getD (j + 1) 0) i := by
                    have o1 := HCK.out.2.2 i hlt
                    have o2 := HCK.out.2.2 _ (HPI.out j (by omega))
                    have o3 := HCK.out.2.2 _ (HPI.out J (by omega))
                    subst hJ
                    simp only [isNearB, nearI, o1, o2, o3, HCK.out.2.1, Bool.true_and]
                  have HN : Hid (∀ W', Calls Try.prog 21 #[.agg #[.int .i64 (X i), .int .i64 (Y i)], .agg #[.int .i64 (X (P.getD j 0)), .int .i64 (Y (P.getD j 0))], .agg #[.int .i64 (X (P.getD J 0)), .int .i64 (Y (P.getD J 0))], .int .i64 r] W' fun e w' => e = .returned (.bool (nearI X Y r (P.getD j 0) (P.getD (j + 1) 0) i)) ∧ Below W'.heap.size W' w') := fun W' => by
                    rw [← hnr]
                    exact impl_IsNear_any _ _ _ _ _ _ _ _
                  have HJ : Hid (J = j + 1) := hJ
                  have Hj : Hid (j + 1 < N) := hj
                  clear hnr hJ d1
                  generalize nearI X Y r (P.getD j 0) (P.getD (j + 1) 0) i = nb at *
                  generalize P.getD j 0 = pj at *
                  generalize P.getD J 0 = pJ at *
                  go_wp2_with fail
                  go_region_held3 (fun W' => Below wr.heap.size wr W') ((repeat (first | exact Below.refl _ _ | assumption | refine Below.drew ?_ | refine bl_alloc ?_ _ | refine bl_then ?_ (by assumption) | refine Below.setCell ?_ (by first | omega | (simp; done) | (simp; omega)) _ | refine bl_store ?_ ?_ _ _)))
                    (first | (go_at_call 21; refine (HN.out _).mono ?_; rintro e w' ⟨rfl, hb⟩))
                  go_wp2_with fail
                  rename_i hfin
                  go_roundw
                  case rel => exact ⟨j + 1, by have := Hj.out; omega, by rw [HJ.out], by rw [HST.out], bl_then HBj.out hfin⟩
                  case measure => have := Hj.out; have := HJ.out; simp [intOf]; omega
                · rw [hcl] at hst
                  simp only [Bool.true_or] at hst
                  have HST : Hid (clTo X Y r P i (j + 1) = true) := hst
                  clear hst hcl d1
                  go_wp2_with fail
                  refine wp_region_noPanic ?_
                  refine wp_region_held_drew (S := fun W' => Below wr.heap.size wr W') (by kernel_rfl) (by (repeat (first | exact Below.refl _ _ | assumption | refine Below.drew ?_ | refine bl_alloc ?_ _ | refine bl_then ?_ (by assumption)))) (fun hHeld => ?_)
                  refine takeD (i := 0) (d := some 85) (v := ?v0) rfl rfl (by kernel_rfl) (by kernel_rfl) (by kernel_rfl) (fun _ _ _ h => h) (Or.inl ⟨by rfl, ?hy0⟩) (by assumption) ?_
                  case hy0 => (intro w hSw; (try dsimp only at hSw); go_simp <;> with_reducible rfl)
                  simp only [Act.put, List.setIfInBounds_toArray, List.set_cons_zero, List.set_cons_succ]
                  refine takeD (i := 1) (d := some 86) (v := ?v1) rfl rfl (by kernel_rfl) (by kernel_rfl) (by kernel_rfl) (fun _ _ _ h => h) (Or.inl ⟨by rfl, ?hy1⟩) (by assumption) ?_
                  case hy1 => (intro w hSw; (try dsimp only at hSw); go_simp <;> with_reducible rfl)
                  simp only [Act.put, List.setIfInBounds_toArray, List.set_cons_zero, List.set_cons_succ]
                  refine passD (i := 2) (d := some 87) rfl rfl (by kernel_rfl) (by kernel_rfl) (by kernel_rfl) (fun _ _ _ h => h) (by rfl) (by assumption) ?_
                  simp only [Act.put, List.setIfInBounds_toArray, List.set_cons_zero, List.set_cons_succ]
                  refine passD (i := 3) (d := some 88) rfl rfl (by kernel_rfl) (by kernel_rfl) (by kernel_rfl) (fun _ _ _ h => h) (by rfl) (by assumption) ?_
                  simp only [Act.put, List.setIfInBounds_toArray, List.set_cons_zero, List.set_cons_succ]
                  refine passD (i := 4) (d := some 89) rfl rfl (by kernel_rfl) (by kernel_rfl) (by kernel_rfl) (fun _ _ _ h => h) (by rfl) (by assumption) ?_
                  simp only [Act.put, List.setIfInBounds_toArray, List.set_cons_zero, List.set_cons_succ]
                  refine passD (i := 5) (d := some 90) rfl rfl (by kernel_rfl) (by kernel_rfl) (by kernel_rfl) (fun _ _ _ h => h) (by rfl) (by assumption) ?_
                  simp only [Act.put, List.setIfInBounds_toArray, List.set_cons_zero, List.set_cons_succ]
                  refine passD (i := 6) (d := some 91) rfl rfl (by kernel_rfl) (by kernel_rfl) (by kernel_rfl) (fun _ _ _ h => h) (by rfl) (by assumption) ?_
                  simp only [Act.put, List.setIfInBounds_toArray, List.set_cons_zero, List.set_cons_succ]
                  refine passD (i := 7) (d := some 92) rfl rfl (by kernel_rfl) (by kernel_rfl) (by kernel_rfl) (fun _ _ _ h => h) (by rfl) (by assumption) ?_
                  simp only [Act.put, List.setIfInBounds_toArray, List.set_cons_zero, List.set_cons_succ]
                  refine passD (i := 8) (d := some 93) rfl rfl (by kernel_rfl) (by kernel_rfl) (by kernel_rfl) (fun _ _ _ h => h) (by rfl) (by assumption) ?_
                  simp only [Act.put, List.setIfInBounds_toArray, List.set_cons_zero, List.set_cons_succ]
                  refine passD (i := 9) (d := some 94) rfl rfl (by kernel_rfl) (by kernel_rfl) (by kernel_rfl) (fun _ _ _ h => h) (by rfl) (by assumption) ?_
                  simp only [Act.put, List.setIfInBounds_toArray, List.set_cons_zero, List.set_cons_succ]
                  refine passD (i := 10) (d := some 95) rfl rfl (by kernel_rfl) (by kernel_rfl) (by kernel_rfl) (fun _ _ _ h => h) (by rfl) (by assumption) ?_
                  simp only [Act.put, List.setIfInBounds_toArray, List.set_cons_zero, List.set_cons_succ]
                  refine passD (i := 11) (d := some 96) rfl rfl (by kernel_rfl) (by kernel_rfl) (by kernel_rfl) (fun _ _ _ h => h) (by rfl) (by assumption) ?_
                  simp only [Act.put, List.setIfInBounds_toArray, List.set_cons_zero, List.set_cons_succ]
                  refine passD (i := 12) (d := some 97) rfl rfl (by kernel_rfl) (by kernel_rfl) (by kernel_rfl) (fun _ _ _ h => h) (by rfl) (by assumption) ?_
                  simp only [Act.put, List.setIfInBounds_toArray, List.set_cons_zero, List.set_cons_succ]
                  refine passD (i := 13) (d := some 98) rfl rfl (by kernel_rfl) (by kernel_rfl) (by kernel_rfl) (fun _ _ _ h => h) (by rfl) (by assumption) ?_
                  simp only [Act.put, List.setIfInBounds_toArray, List.set_cons_zero, List.set_cons_succ]
                  refine passD (i := 14) (d := some 99) rfl rfl (by kernel_rfl) (by kernel_rfl) (by kernel_rfl) (fun _ _ _ h => h) (by rfl) (by assumption) ?_
                  simp only [Act.put, List.setIfInBounds_toArray, List.set_cons_zero, List.set_cons_succ]
                  refine passD (i := 15) (d := some 100) rfl rfl (by kernel_rfl) (by kernel_rfl) (by kernel_rfl) (fun _ _ _ h => h) (by rfl) (by assumption) ?_
                  simp only [Act.put, List.setIfInBounds_toArray, List.set_cons_zero, List.set_cons_succ]
                  refine passD (i := 16) (d := some 101) rfl rfl (by kernel_rfl) (by kernel_rfl) (by kernel_rfl) (fun _ _ _ h => h) (by rfl) (by assumption) ?_
                  simp only [Act.put, List.setIfInBounds_toArray, List.set_cons_zero, List.set_cons_succ]
                  refine passD (i := 17) (d := some 102) rfl rfl (by kernel_rfl) (by kernel_rfl) (by kernel_rfl) (fun _ _ _ h => h) (by rfl) (by assumption) ?_
                  simp only [Act.put, List.setIfInBounds_toArray, List.set_cons_zero, List.set_cons_succ]
                  refine passD (i := 18) (d := some 103) rfl rfl (by kernel_rfl) (by kernel_rfl) (by kernel_rfl) (fun _ _ _ h => h) (by rfl) (by assumption) ?_
                  simp only [Act.put, List.setIfInBounds_toArray, List.set_cons_zero, List.set_cons_succ]
                  refine takeD (i := 19) (d := some 104) (v := ?v19) rfl rfl (by kernel_rfl) (by kernel_rfl) (by kernel_rfl) (fun _ _ _ h => h) (Or.inl ⟨by rfl, ?hy19⟩) (by assumption) ?_
                  case hy19 => (intro w hSw; (try dsimp only at hSw); go_simp <;> with_reducible rfl)
                  simp only [Act.put, List.setIfInBounds_toArray, List.set_cons_zero, List.set_cons_succ]
                  refine takeD (i := 20) (d := some 8) (v := ?v20) rfl rfl (by kernel_rfl) (by kernel_rfl) (by kernel_rfl) (fun _ _ _ h => h) (Or.inl ⟨by rfl, ?hy20⟩) (by assumption) ?_
                  case hy20 => (intro w hSw; (try dsimp only at hSw); go_simp <;> with_reducible rfl)
                  simp only [Act.put, List.setIfInBounds_toArray, List.set_cons_zero, List.set_cons_succ]
                  refine wpAnyH_done (by kernel_rfl) ?_ _
                  refine NoPanic.normal ?_
                  go_wp2_with fail
                  go_roundw
                  case rel => exact ⟨j + 1, by omega, by go_num, by rw [HST.out], bl_then HBj.out (by (repeat (first | exact Below.refl _ _ | assumption | refine Below.drew ?_ | refine bl_alloc ?_ _ | refine bl_then ?_ (by assumption) | refine Below.setCell ?_ (by first | omega | (simp; done) | (simp; omega)) _ | refine bl_store ?_ ?_ _ _)))⟩
                  case measure => simp [intOf]; omega
              · have hji : ¬ (j : Int) + 1 < (N : Int) := by omega
                have hct : clTo X Y r P i j = true := by
                  obtain ⟨q, h1, h2⟩ := HCL.out i (by omega) (by omega) (by omega)
                  have := HPF.out
                  exact decide_eq_true ⟨q, by omega, h2⟩
                rw [hct]
                clear hct d1
                go_wp2_with fail
                go_roundw
                case rel => exact ⟨i + 1, by omega, by go_num, HBj.out⟩
                case measure => simp [intOf]; omega
          · have hii : ¬ (i : Int) < (k : Int) := by omega
            have j1 : ∀ av cv w, (Instr.field 38 (.agg #[.int .i64 0, .slice av N cv]) 1).run Try.prog w = .ok (.slice av N cv) w := fun _ _ _ => by kernel_rfl
            have Hsp5 : Hid (∀ W', Below wr.heap.size wr W' → Calls Try.prog 20 #[.slice (some ⟨b, 0, none⟩) k cp, .int .i64 r] W' fun e w' => ∃ av cv, e = .returned (.agg #[.int .i64 0, .slice av N cv]) ∧ Below W'.heap.size W' w') := fun W' h => Hsp'.out W' (bl_then HBV.out (bl_then HBi.out h))
            clear d1
            go_wp2_with fail
            refine (Hsp5.out _ (Below.refl _ _)).mono ?_
            rintro e w9 ⟨av, cv, rfl, hb9⟩
            have HB9 : Hid (Below w.heap.size w w9) := bl_then HB1.out (bl_then HBV.out (bl_then HBi.out hb9))
            clear hb9
            go_wp2_with fail
            go_ret
            exact ⟨ret_bool (by simp), HB9.out⟩
  · have hCb : (thinC r k X Y == 0) = false := by simp [hC]
    generalize (thinR r k X Y L).length = N at *
    generalize thinC r k X Y = C at *
    subst hv2
    have j0 : ∀ av cv w, (Instr.field 38 (.agg #[.int .i64 C, .slice av N cv]) 0).run Try.prog w = .ok (.int .i64 C) w := fun _ _ _ => by kernel_rfl
    go_wp2_with fail
    generalize hV : (w2.alloc _ : World) = V
    have hbV : Below w2.heap.size w2 V := by subst hV; (repeat (first | exact Below.refl _ _ | assumption | refine Below.drew ?_ | refine bl_alloc ?_ _ | refine bl_then ?_ (by assumption) | refine Below.setCell ?_ (by first | omega | (simp; done) | (simp; omega)) _ | refine bl_store ?_ ?_ _ _))
    have d0 : ∀ W', Below V.heap.size V W' → W'.cell? ⟨w2.heap.size, 0, none⟩ = some (.int .i64 C) := fun W' h => by
      rw [h.cell (by subst hV; simp)]; subst hV; simp [go_sem]
    have HBV : Hid (Below w.heap.size w V) := bl_then HB1.out (bl_then HB2.out hbV)
    have Hsp5 : Hid (∀ W', Below V.heap.size V W' → Calls Try.prog 20 #[.slice (some ⟨b, 0, none⟩) k cp, .int .i64 r] W' fun e w' => ∃ av cv, e = .returned (.agg #[.int .i64 C, .slice av N cv]) ∧ Below W'.heap.size W' w') := fun W' h => Hsp.out W' (bl_then HB2.out (bl_then hbV h))
    clear hV hbV Hsp
    go_region_held3 (fun W' => Below V.heap.size V W') ((repeat (first | exact Below.refl _ _ | assumption | refine Below.drew ?_ | refine bl_alloc ?_ _ | refine bl_then ?_ (by assumption) | refine Below.setCell ?_ (by first | omega | (simp; done) | (simp; omega)) _ | refine bl_store ?_ ?_ _ _)))
      (first
        | (go_at_call 20; refine (Hsp5.out _ (by (repeat (first | exact Below.refl _ _ | assumption | refine Below.drew ?_ | refine bl_alloc ?_ _ | refine bl_then ?_ (by assumption) | refine Below.setCell ?_ (by first | omega | (simp; done) | (simp; omega)) _ | refine bl_store ?_ ?_ _ _)))).mono ?_; rintro e w' ⟨av, cv, rfl, hb⟩))
    go_wp2_with fail
    go_ret
    exact ⟨rfl, bl_then HBV.out (by assumption)⟩
end Go.Proofs.Ytdmlgfifiicmpaa
