/- Several texts in one. -/
import Derived.Test.YtciidkmonfmipaaGreatVTakeTile20
import Derived.Deep.CutBlock
import Derived.Deep.DeepCutAuto
import Derived.Deep.RegionHeld3
import Derived.Test.YtciidkmonfmipaaGreatVTakeTile17
import Derived.Test.YtciidkmonfmipaaGreatVTakeTile18
import Derived.Test.YtciidkmonfmipaaGreatVTakeTile19
import Derived.Test.YtciidkmonfmipaaGreatVTakeTile4
import Derived.Test.YtciidkmonfmipaaGreatVTakeTile9

/- Whether features are in order: the program's and the model's way. -/

namespace Go.Proofs.YtciidkmonfmipaaGreat
open Go.RowKit
set_option linter.unusedSimpArgs false
set_option linter.unusedVariables false
set_option maxRecDepth 100000

/-- No feature is below the one ahead of it; each is above it. -/
def ordI (n : Nat) (G : Nat → Feat) : Bool := decide (∀ i, i < n - 1 → ltF (G (i + 1)) (G i) = false)
def ordS (n : Nat) (G : Nat → Feat) : Bool := decide (∀ i, i < n - 1 → ltF (G i) (G (i + 1)) = true)
theorem cmpF_neg (f g : Feat) : cmpF f g < 0 ↔ ltF f g = true := by
  unfold cmpF orI cmpI ltF
  by_cases h1 : f.la < g.la
  · simp [h1]
  · by_cases h2 : g.la < f.la
    · have : ¬ f.la = g.la := by omega
      simp [h1, h2, this]
    · have : f.la = g.la := by omega
      by_cases h3 : f.id < g.id
      · simp [h1, h2, h3, this]
      · by_cases h4 : g.id < f.id <;> simp [h1, h2, h3, h4, this]
theorem ord_same {n : Nat} {G : Nat → Feat} (h : apartK (fun i => (G i).id) n) : ordI n G = ordS n G := by
  unfold ordI ordS
  rw [decide_eq_decide]
  refine forall_congr' fun i => forall_congr' fun hi => ?_
  have hne : (G i).id ≠ (G (i + 1)).id := fun e => by have := h i (i + 1) (by omega) (by omega) e; omega
  unfold ltF
  simp
  constructor
  · intro ⟨h1, h2⟩
    omega
  · intro h1
    omega
theorem ordI_bad {n : Nat} {G : Nat → Feat} (i : Nat) (hi : i + 1 < n) (h : ltF (G (i + 1)) (G i) = true) : ordI n G = false := by
  unfold ordI
  rw [decide_eq_false]
  intro hc
  rw [hc i (by omega)] at h
  cases h
theorem ordS_bad {n : Nat} {G : Nat → Feat} (i : Nat) (hi : i + 1 < n) (h : ltF (G i) (G (i + 1)) = false) : ordS n G = false := by
  unfold ordS
  rw [decide_eq_false]
  intro hc
  rw [hc i (by omega)] at h
  cases h

theorem compareFeatures_ex (f g : Feat) (w : World) : Calls Tryz.prog 94 #[.agg #[.int .i64 f.id, .int .i64 f.la, .int .i64 f.ki, .int .i64 f.wi, .slice f.a f.n f.cap, .string f.lab, .int .i64 f.pr], .agg #[.int .i64 g.id, .int .i64 g.la, .int .i64 g.ki, .int .i64 g.wi, .slice g.a g.n g.cap, .string g.lab, .int .i64 g.pr]] w fun e w' => e = .returned (.int .i64 (cmpF f g)) ∧ Below w.heap.size w w' :=
  (compareFeatures_gro f g w).mono fun e w' ⟨he, hg⟩ => ⟨he, hg.1⟩
set_option maxHeartbeats 4000000 in
theorem isSortedFunc_any (b n cap : Nat) (G : Nat → Feat) (w : World) (hg : FsAt w b 0 n G) (hbl : b < w.heap.size) (hn : n ≤ 1048576) :
    Calls Tryz.prog 93 #[.slice (some ⟨b, 0, none⟩) n cap, .func (.func 94) #[] #[]] w fun e w' => e = .returned (.bool (ordI n G)) ∧ Below w.heap.size w w' := by
  have HG : Hid (FsAt w b 0 n G) := hg
  clear hg
  by_cases h0 : n = 0
  · subst h0
    have HV : Hid (ordI 0 G = true) := by show _ = _; simp [ordI]
    go_enter Tryz.func93, Tryz.ntmps93
    go_wp2_with fail
    go_loopw [5] (fun i wr => i = .int .i64 (-1) ∧ w = wr) (fun _ _ => 0)
    case atStart => exact ⟨rfl, rfl⟩
    case round =>
      obtain ⟨rfl, rfl⟩ := hrel
      go_wp2
      go_ret
      exact ⟨ret_bool HV.out.symm, Below.refl _ _⟩
  · obtain ⟨N, rfl⟩ : ∃ N, n = N + 1 := ⟨n - 1, by omega⟩
    have e0 : IntKind.i64.wrap (((N + 1 : Nat) : Int) - 1) = (N : Int) := by rw [show ((N + 1 : Nat) : Int) - 1 = (N : Int) by omega]; exact IntWalk.i64_in _ (by omega)
    go_enter Tryz.func93, Tryz.ntmps93
    go_wp2_with fail
    go_loopw [5] (fun i wr => ∃ k : Nat, k ≤ N ∧ i = .int .i64 (k : Int) ∧ (∀ i, k ≤ i → i < N → ltF (G (i + 1)) (G i) = false) ∧ Below w.heap.size w wr) (fun i _ => (intOf i).toNat)
    case atStart => exact ⟨N, by omega, by first | rfl | go_num | (simp; done), fun i h1 h2 => by omega, Below.refl _ _⟩
    case round =>
      obtain ⟨k, hk, rfl, hall, hB⟩ := hrel
      have HALL : Hid (∀ i, k ≤ i → i < N → ltF (G (i + 1)) (G i) = false) := hall
      have HB : Hid (Below w.heap.size w wr) := hB
      have hbr : b < wr.heap.size := Nat.lt_of_lt_of_le hbl hB.size
      have hGr : FsAt wr b 0 (N + 1) G := HG.out.below hB hbl
      clear hall hB
      by_cases h1 : k = 0
      · subst h1
        have HV : Hid (ordI (N + 1) G = true) := by
          show _ = _
          unfold ordI
          rw [decide_eq_true]
          exact fun i hi => HALL.out i (by omega) (by omega)
        go_wp2
        go_ret
        exact ⟨ret_bool HV.out.symm, HB.out⟩
      · obtain ⟨M, rfl⟩ : ∃ M, k = M + 1 := ⟨k - 1, by omega⟩
        have e1 : IntKind.i64.wrap (((M + 1 : Nat) : Int) - 1) = (M : Int) := by rw [show ((M + 1 : Nat) : Int) - 1 = (M : Int) by omega]; exact IntWalk.i64_in _ (by omega)
        have e2 : (0 : Int) < ((M + 1 : Nat) : Int) := by omega
        have e3 : ((M + 1 : Nat) : Int) < ((N + 1 : Nat) : Int) := by omega
        have e4 : (M : Int) < ((N + 1 : Nat) : Int) := by omega
        obtain ⟨P, hP⟩ : ∃ P, M + 1 = P := ⟨_, rfl⟩
        obtain ⟨T, hT⟩ : ∃ T, N + 1 = T := ⟨_, rfl⟩
        have fa := hGr (M + 1) (by omega)
        have fd := hGr M (by omega)
        have HOI : Hid (ltF (G (M + 1)) (G M) = true → ordI (N + 1) G = false) := fun h => ordI_bad M (by omega) h
        have HBR : Hid (Below w.heap.size w wr) := HB.out
        have HKM : Hid (M + 1 = P) := hP
        have HKN : Hid (N + 1 = T) := hT
        rw [hP] at e1 e2 e3 fa HOI
        rw [hT] at e3 e4 HOI
        rw [hT]
        rw [hP]
        have kpos : 0 ≤ (P : Int) := by omega
        have mpos : 0 ≤ (M : Int) := by omega
        have ra : ∀ W', Below wr.heap.size wr W' → FeatAt W' b (0 + P * 7) (G P).id (G P).la (G P).ki (G P).wi (.slice (G P).a (G P).n (G P).cap) (G P).lab (G P).pr := fun W' h => fa.1.below h hbr
        have rd : ∀ W', Below wr.heap.size wr W' → FeatAt W' b (0 + M * 7) (G M).id (G M).la (G M).ki (G M).wi (.slice (G M).a (G M).n (G M).cap) (G M).lab (G M).pr := fun W' h => fd.1.below h hbr
        simp only [Nat.zero_add] at ra rd
        have a0 : ∀ W', Below wr.heap.size wr W' → W'.cell? ⟨b, P * 7, none⟩ = some (.int .i64 (G P).id) := fun W' h => (ra W' h).1
        have a1 : ∀ W', Below wr.heap.size wr W' → W'.cell? ⟨b, P * 7 + 1, none⟩ = some (.int .i64 (G P).la) := fun W' h => (ra W' h).2.1
        have a2 : ∀ W', Below wr.heap.size wr W' → W'.cell? ⟨b, P * 7 + 2, none⟩ = some (.int .i64 (G P).ki) := fun W' h => (ra W' h).2.2.1
        have a3 : ∀ W', Below wr.heap.size wr W' → W'.cell? ⟨b, P * 7 + 3, none⟩ = some (.int .i64 (G P).wi) := fun W' h => (ra W' h).2.2.2.1
        have a4 : ∀ W', Below wr.heap.size wr W' → W'.cell? ⟨b, P * 7 + 4, none⟩ = some (.slice (G P).a (G P).n (G P).cap) := fun W' h => (ra W' h).2.2.2.2.1
        have a5 : ∀ W', Below wr.heap.size wr W' → W'.cell? ⟨b, P * 7 + 5, none⟩ = some (.string (G P).lab) := fun W' h => (ra W' h).2.2.2.2.2.1
        have a6 : ∀ W', Below wr.heap.size wr W' → W'.cell? ⟨b, P * 7 + 6, none⟩ = some (.int .i64 (G P).pr) := fun W' h => (ra W' h).2.2.2.2.2.2
        have d0 : ∀ W', Below wr.heap.size wr W' → W'.cell? ⟨b, M * 7, none⟩ = some (.int .i64 (G M).id) := fun W' h => (rd W' h).1
        have d1 : ∀ W', Below wr.heap.size wr W' → W'.cell? ⟨b, M * 7 + 1, none⟩ = some (.int .i64 (G M).la) := fun W' h => (rd W' h).2.1
        have d2 : ∀ W', Below wr.heap.size wr W' → W'.cell? ⟨b, M * 7 + 2, none⟩ = some (.int .i64 (G M).ki) := fun W' h => (rd W' h).2.2.1
        have d3 : ∀ W', Below wr.heap.size wr W' → W'.cell? ⟨b, M * 7 + 3, none⟩ = some (.int .i64 (G M).wi) := fun W' h => (rd W' h).2.2.2.1
        have d4 : ∀ W', Below wr.heap.size wr W' → W'.cell? ⟨b, M * 7 + 4, none⟩ = some (.slice (G M).a (G M).n (G M).cap) := fun W' h => (rd W' h).2.2.2.2.1
        have d5 : ∀ W', Below wr.heap.size wr W' → W'.cell? ⟨b, M * 7 + 5, none⟩ = some (.string (G M).lab) := fun W' h => (rd W' h).2.2.2.2.2.1
        have d6 : ∀ W', Below wr.heap.size wr W' → W'.cell? ⟨b, M * 7 + 6, none⟩ = some (.int .i64 (G M).pr) := fun W' h => (rd W' h).2.2.2.2.2.2
        clear fa fd hGr hP hT ra rd HB
        obtain ⟨C, hC⟩ : ∃ C, cmpF (G P) (G M) = C := ⟨_, rfl⟩
        have HCM : Hid (∀ W, Calls Tryz.prog 94 #[.agg #[.int .i64 (G P).id, .int .i64 (G P).la, .int .i64 (G P).ki, .int .i64 (G P).wi, .slice (G P).a (G P).n (G P).cap, .string (G P).lab, .int .i64 (G P).pr], .agg #[.int .i64 (G M).id, .int .i64 (G M).la, .int .i64 (G M).ki, .int .i64 (G M).wi, .slice (G M).a (G M).n (G M).cap, .string (G M).lab, .int .i64 (G M).pr]] W fun e w' => e = .returned (.int .i64 C) ∧ Below W.heap.size W w') := fun W => by rw [← hC]; exact compareFeatures_ex (G P) (G M) W
        have HCI : Hid (C < 0 ↔ ltF (G P) (G M) = true) := by show _ ↔ _; rw [← hC]; exact cmpF_neg _ _
        clear hC
        by_cases hneg : C < 0
        · have HOF : Hid (ordI T G = false) := HOI.out (HCI.out.1 hneg)
          go_wp2_with fail
          go_region_held3 (fun W' => Below wr.heap.size wr W') ((repeat (first | exact Below.refl _ _ | assumption | refine Below.drew ?_ | refine bl_alloc ?_ _ | refine bl_then ?_ (by assumption) | refine Below.setCell ?_ (by first | omega | (simp; done) | (simp; omega)) _ | refine bl_store ?_ ?_ _ _)))
            (first
              | (go_at_call 94; refine (HCM.out _).mono ?_; rintro e w8 ⟨rfl, hb8⟩))
          have HB8 : Hid (Below w.heap.size w w8) := bl_then HBR.out (by assumption)
          clear a0 a1 a2 a3 a4 a5 a6 d0 d1 d2 d3 d4 d5 d6
          go_wp2
          go_ret
          exact ⟨by have h := HOF.out; rw [← HKN.out] at h; exact ret_bool h.symm, HB8.out⟩
        · have HOK : Hid (ltF (G P) (G M) = false) := by
            show _ = _
            cases h : ltF (G P) (G M)
            · rfl
            · exact absurd (HCI.out.2 h) hneg
          go_wp2_with fail
          go_region_held3 (fun W' => Below wr.heap.size wr W') ((repeat (first | exact Below.refl _ _ | assumption | refine Below.drew ?_ | refine bl_alloc ?_ _ | refine bl_then ?_ (by assumption) | refine Below.setCell ?_ (by first | omega | (simp; done) | (simp; omega)) _ | refine bl_store ?_ ?_ _ _)))
            (first
              | (go_at_call 94; refine (HCM.out _).mono ?_; rintro e w8 ⟨rfl, hb8⟩))
          have HB8 : Hid (Below w.heap.size w w8) := bl_then HBR.out (by assumption)
          clear a0 a1 a2 a3 a4 a5 a6 d0 d1 d2 d3 d4 d5 d6
          go_wp2
          go_roundw
          case rel =>
            have h1 := HKM.out
            refine ⟨M, by omega, by first | rfl | go_num | (simp; done) | omega, fun i h2 h3 => ?_, HB8.out⟩
            by_cases h4 : i = M
            · subst h4
              have := HOK.out
              rw [← h1] at this
              exact this
            · exact HALL.out i (by omega) h3
          case measure => have h1 := HKM.out; simp [intOf]; omega
theorem areInOrder_any (b n cap : Nat) (G : Nat → Feat) (w : World) (hg : FsAt w b 0 n G) (hbl : b < w.heap.size) (hn : n ≤ 1048576) :
    Calls Tryz.prog 63 #[.slice (some ⟨b, 0, none⟩) n cap] w fun e w' => e = .returned (.bool (ordI n G)) ∧ Below w.heap.size w w' := by
  have HH : Hid (Calls Tryz.prog 93 #[.slice (some ⟨b, 0, none⟩) n cap, .func (.func 94) #[] #[]] w fun e w' => e = .returned (.bool (ordI n G)) ∧ Below w.heap.size w w') := isSortedFunc_any b n cap G w hg hbl hn
  clear hg
  obtain ⟨c, hc⟩ : ∃ c, ordI n G = c := ⟨_, rfl⟩
  rw [hc] at HH
  rw [hc]
  clear hc
  go_enter Tryz.func63, Tryz.ntmps63
  go_wp2_with (go_at_call 93; refine Calls.mono HH.out ?_; rintro e w' ⟨rfl, hb⟩)
  go_ret
  exact ⟨rfl, by assumption⟩
set_option maxHeartbeats 4000000 in
theorem l6Ordered_any (b n cap : Nat) (G : Nat → Feat) (w : World) (hg : FsAt w b 0 n G) (hbl : b < w.heap.size) (hn : n ≤ 1048576) :
    Calls Tryz.prog 54 #[.slice (some ⟨b, 0, none⟩) n cap] w fun e w' => e = .returned (.bool (ordS n G)) ∧ Below w.heap.size w w' := by
  have HG : Hid (FsAt w b 0 n G) := hg
  clear hg
  go_enter Tryz.func54, Tryz.ntmps54
  go_wp2_with fail
  go_loopw [3] (fun i wr => ∃ k : Nat, (k + 1 ≤ n ∨ k = 0) ∧ i = .int .i64 ((k : Int) + 1) ∧ (∀ i, i < k → ltF (G i) (G (i + 1)) = true) ∧ Below w.heap.size w wr) (fun i _ => n - (intOf i).toNat)
  case atStart => exact ⟨0, .inr rfl, rfl, fun i h1 => by omega, Below.refl _ _⟩
  case round =>
    obtain ⟨M, hk, rfl, hall, hB⟩ := hrel
    have HALL : Hid (∀ i, i < M → ltF (G i) (G (i + 1)) = true) := hall
    have HB : Hid (Below w.heap.size w wr) := hB
    have hbr : b < wr.heap.size := Nat.lt_of_lt_of_le hbl hB.size
    have hGr : FsAt wr b 0 n G := HG.out.below hB hbl
    clear hall hB
    obtain ⟨P, hP⟩ : ∃ P, M + 1 = P := ⟨_, rfl⟩
    have ePM : (M : Int) + 1 = (P : Int) := by omega
    have HKM : Hid (M + 1 = P) := hP
    rw [ePM]
    by_cases h1 : M + 1 < n
    · have fa := hGr (M + 1) h1
      have fd := hGr M (by omega)
      have HOI : Hid (ltF (G M) (G (M + 1)) = false → ordS n G = false) := fun h => ordS_bad M h1 h
      have e1 : IntKind.i64.wrap ((P : Int) - 1) = (M : Int) := by rw [show (P : Int) - 1 = (M : Int) by omega]; exact IntWalk.i64_in _ (by omega)
      have e3 : (P : Int) < (n : Int) := by omega
      have e4 : (M : Int) < (n : Int) := by omega
      rw [hP] at fa HOI
      have kpos : 0 ≤ (P : Int) := by omega
      have mpos : 0 ≤ (M : Int) := by omega
      obtain ⟨⟨a0, a1, _, _, _, _, _⟩, _⟩ := fa
      obtain ⟨⟨d0, d1, _, _, _, _, _⟩, _⟩ := fd
      simp only [Nat.zero_add] at a0 a1 d0 d1
      obtain ⟨C, hC⟩ : ∃ C, ltF (G M) (G P) = C := ⟨_, rfl⟩
      have HCM : Hid (∀ W, Below wr.heap.size wr W → Calls Tryz.prog 84 #[.pointer (some ⟨b, M * 7, none⟩), .pointer (some ⟨b, P * 7, none⟩)] W fun e w' => e = .returned (.bool C) ∧ Below W.heap.size W w') := fun W h => by
        rw [← hC]
        exact l2Ahead_any b (M * 7) b (P * 7) (G M) (G P) W (bl_cell h d0) (bl_cell h d1) (bl_cell h a0) (bl_cell h a1)
      rw [hC] at HOI
      have HC : Hid (ltF (G M) (G P) = C) := hC
      clear hC a0 a1 d0 d1 hGr hP
      cases C with
      | false =>
        have HOF : Hid (ordS n G = false) := HOI.out rfl
        go_wp2_with fail
        go_region_held3 (fun W' => Below wr.heap.size wr W') ((repeat (first | exact Below.refl _ _ | assumption | refine Below.drew ?_ | refine bl_alloc ?_ _ | refine bl_then ?_ (by assumption) | refine Below.setCell ?_ (by first | omega | (simp; done) | (simp; omega)) _ | refine bl_store ?_ ?_ _ _)))
          (first
            | (go_at_call 84; refine (HCM.out _ (by assumption)).mono ?_; rintro e w8 ⟨rfl, hb8⟩))
        have HB8 : Hid (Below w.heap.size w w8) := bl_then HB.out (by assumption)
        go_wp2
        go_ret
        exact ⟨ret_bool HOF.out.symm, HB8.out⟩
      | true =>
        go_wp2_with fail
        go_region_held3 (fun W' => Below wr.heap.size wr W') ((repeat (first | exact Below.refl _ _ | assumption | refine Below.drew ?_ | refine bl_alloc ?_ _ | refine bl_then ?_ (by assumption) | refine Below.setCell ?_ (by first | omega | (simp; done) | (simp; omega)) _ | refine bl_store ?_ ?_ _ _)))
          (first
            | (go_at_call 84; refine (HCM.out _ (by assumption)).mono ?_; rintro e w8 ⟨rfl, hb8⟩))
        have HB8 : Hid (Below w.heap.size w w8) := bl_then HB.out (by assumption)
        go_wp2
        go_roundw
        case rel =>
          have h1 := HKM.out
          refine ⟨P, by omega, by first | rfl | go_num | (simp; done) | omega, fun i h2 => ?_, HB8.out⟩
          by_cases h4 : i = M
          · subst h4
            have := HC.out
            rw [← h1] at this
            exact this
          · exact HALL.out i (by omega)
        case measure => have h1 := HKM.out; simp [intOf]; omega
    · have HV : Hid (ordS n G = true) := by
        show _ = _
        unfold ordS
        rw [decide_eq_true]
        exact fun i hi => HALL.out i (by omega)
      have e3 : ¬ (P : Int) < (n : Int) := by omega
      go_wp2
      go_ret
      exact ⟨ret_bool HV.out.symm, HB.out⟩
end Go.Proofs.YtciidkmonfmipaaGreat
/- What is painted at a pixel, and the raster of a tile: the model. -/

namespace Go.Proofs.YtciidkmonfmipaaGreat
open Go.RowKit
set_option linter.unusedSimpArgs false
set_option linter.unusedVariables false
set_option maxRecDepth 100000

/-- Whether a feature, as it is, covers a centre. -/
def covF (z cx cy : Int) (f : Feat) : Bool := coverB f.ki f.wi z cx cy (dblL f.X f.Y f.n)
/-- The last one for which it is so. -/
def paintI (C : Nat → Bool) (I : Nat → Int) : Nat → Int
  | 0 => 0
  | n + 1 => if C n = true then I n else paintI C I n
/-- What is painted at a pixel. -/
def paintF (G : Nat → Feat) (n : Nat) (z x y : Int) : Int := paintI (fun i => covF z (centI z x) (centI z y) (G i)) (fun i => (G i).id) n
theorem paintF_yes {G : Nat → Feat} {n : Nat} {z x y : Int} (h : covF z (centI z x) (centI z y) (G n) = true) : paintF G (n + 1) z x y = (G n).id := by
  unfold paintF; rw [paintI, if_pos h]
theorem paintF_no {G : Nat → Feat} {n : Nat} {z x y : Int} (h : covF z (centI z x) (centI z y) (G n) = false) : paintF G (n + 1) z x y = paintF G n z x y := by
  unfold paintF; rw [paintI, if_neg (by rw [h]; simp)]
/-- What a feature without a fault has. -/
structure OkF (f : Feat) : Prop where
  kn : kindN f.ki f.n
  n0 : 0 < f.n
  n12 : f.n ≤ 12
  inw : ∀ i, i < f.n → inW (f.X i) (f.Y i) = true
  wid : 0 ≤ f.wi ∧ f.wi ≤ 3
theorem okF_of {f : Feat} (h : featC f.id f.la f.ki f.wi f.n f.X f.Y f.lab f.pr = 0) : OkF f := by
  obtain ⟨hk, h0, h12, hkn, hin, _⟩ := featC_zero h
  refine ⟨?_, h0, h12, hin, (featC_rng h).2.2.1⟩
  rcases hk with hk | hk | hk
  · rw [hk] at h
    exact .inl ⟨hk, featC_point h⟩
  · exact .inr (.inl ⟨hk, by omega⟩)
  · exact .inr (.inr ⟨hk, by omega⟩)
theorem feats_okF {n : Nat} {G : Nat → Feat} (h : featsC n G = 0) : n ≤ 12 ∧ ∀ i, i < n → OkF (G i) := ⟨(featsC_ok h).1, fun i hi => okF_of ((featsC_ok h).2.2 i hi)⟩
theorem FsAt.pts {w : World} {b off n i : Nat} {G : Nat → Feat} (h : FsAt w b off n G) (hi : i < n) (h0 : 0 < (G i).n) : ∃ q o, (G i).a = some ⟨q, o, none⟩ ∧ q < w.heap.size ∧ PtsAt w q o (G i).n (G i).X (G i).Y := by
  rcases (h i hi).2 with h' | ⟨q, o, e, hl, hp⟩
  · omega
  · exact ⟨q, o, e, hl, hp⟩
theorem ownsRow_succR {w : World} {base : Nat} {t : TypeId} {s : Nat} {v : Value} {n : Nat} {l : List Value} (h : w.ownsRow base t s v (n + 1) l) : ∃ a c, v = .slice a (n + 1) c := by
  obtain ⟨_, h2 | ⟨g, cp, cur, hv, _⟩⟩ := h
  · exact absurd h2.2 (by omega)
  · exact ⟨_, _, hv⟩
/-- The pixels of a tile, one behind the other. -/
def rasK (G : Int → Int → Int) (x y : Int) (k : Nat) : List Int := (List.range k).map fun (k : Nat) => G (x + ((k % 8 : Nat) : Int)) (y + ((k / 8 : Nat) : Int))
theorem rasK_64 (G : Int → Int → Int) (x y : Int) : rowsL G x y 8 8 = rasK G x y 64 := rfl
theorem rasK_add (G : Int → Int → Int) (x y : Int) (k : Nat) : rasK G x y (k + 1) = rasK G x y k ++ [G (x + ((k % 8 : Nat) : Int)) (y + ((k / 8 : Nat) : Int))] := by simp [rasK, List.range_succ]
theorem rasK_len (G : Int → Int → Int) (x y : Int) (k : Nat) : (rasK G x y k).length = k := by simp [rasK]
theorem pix_of_ref {z x y : Int} (h : refB z x y = true) (m q : Nat) (hm : m < 8) (hq : q < 8) : pixB z (x * 8 + (m : Int)) (y * 8 + (q : Int)) = true := by
  have hz : zoomB z = true := by simp [refB] at h; exact h.1
  unfold refB at h
  rcases zoomB_cases hz with rfl | rfl | rfl | rfl <;> simp [inB, lastI] at h <;> simp [pixB, inB, pixI, hz] <;> omega
set_option maxHeartbeats 4000000 in
theorem l4Painted_any (b n cap : Nat) (G : Nat → Feat) (z x y : Int) (w : World) (hg : FsAt w b 0 n G) (hbl : b < w.heap.size) (hn : n ≤ 12) (hok : ∀ i, i < n → OkF (G i)) (hpx : pixB z x y = true) :
    Calls Tryz.prog 80 #[.slice (some ⟨b, 0, none⟩) n cap, .int .i64 z, .int .i64 x, .int .i64 y] w fun e w' => e = .returned (.int .i64 (paintF G n z x y)) ∧ Below w.heap.size w w' := by
  have HG : Hid (FsAt w b 0 n G) := hg
  have HOK : Hid (∀ i, i < n → OkF (G i)) := hok
  have HPX : Hid (pixB z x y = true) := hpx
  clear hg hok hpx
  have hn0 : IntKind.i64.wrap ((n : Int) - 1) = (n : Int) - 1 := IntWalk.i64_in _ (by omega)
  go_enter Tryz.func80, Tryz.ntmps80
  go_wp2_with fail
  go_loopw [9] (fun i wr => ∃ k : Nat, k ≤ n ∧ i = .int .i64 ((k : Int) - 1) ∧ paintF G n z x y = paintF G k z x y ∧ Below w.heap.size w wr) (fun i _ => (intOf i + 1).toNat)
  case atStart => exact ⟨n, Nat.le_refl _, by first | rfl | rw [hn0], rfl, Below.refl _ _⟩
  case round =>
    obtain ⟨k, hk, hi, hE, hB⟩ := hrel
    cases k with
    | zero =>
      have HE : Hid (paintF G n z x y = 0) := hE
      clear hE
      subst hi
      go_wp2
      go_ret
      exact ⟨ret_int HE.out.symm, hB⟩
    | succ m =>
      have em : (((m + 1 : Nat) : Int) - 1) = (m : Int) := by omega
      rw [em] at hi
      subst hi
      have HE : Hid (paintF G n z x y = paintF G (m + 1) z x y) := hE
      have HB : Hid (Below w.heap.size w wr) := hB
      have hlt : m < n := by omega
      have hOK := HOK.out m hlt
      have hGr := HG.out.below hB hbl
      obtain ⟨q, o, ea, hql, hpt⟩ := hGr.pts hlt hOK.n0
      have hf := (hGr m hlt).1
      rw [ea, Nat.zero_add] at hf
      have q0 := hf.1
      have sC : ∀ W, Below wr.heap.size wr W → Calls Tryz.prog 112 #[.pointer (some ⟨b, m * 7, none⟩), .int .i64 z, .int .i64 x, .int .i64 y] W fun e w' => e = .returned (.bool (covF z (centI z x) (centI z y) (G m))) ∧ Below W.heap.size W w' := fun W hW =>
        l4Simple_any b (m * 7) (G m).id (G m).la (G m).ki (G m).wi z x y q o (G m).n (G m).cap (G m).X (G m).Y (G m).lab (G m).pr W (hf.below hW (Nat.lt_of_lt_of_le hbl hB.size)) (hpt.below hW hql) (Nat.lt_of_lt_of_le hql hW.size) (by have := hOK.n12; omega) hOK.kn hOK.inw hOK.wid HPX.out
      have SC := (show Hid _ from sC)
      have hi1 : (m : Int) < (n : Int) := by omega
      have hi0 : (0 : Int) ≤ (m : Int) := by omega
      have hm1 : IntKind.i64.wrap ((m : Int) - 1) = (m : Int) - 1 := IntWalk.i64_in _ (by omega)
      clear hE hB hGr hf hpt sC
      cases hc : covF z (centI z x) (centI z y) (G m)
      · have HE2 : Hid (paintF G n z x y = paintF G m z x y) := by show _ = _; rw [HE.out, paintF_no hc]
        rw [hc] at SC
        clear hc q0
        go_wp2_with fail
        refine (SC.out _ (Below.refl _ _)).mono ?_
        rintro e w1 ⟨rfl, hb1⟩
        go_wp2_with fail
        exact ⟨⟨m, by omega, by first | rfl | rw [hm1], HE2.out, bl_then HB.out hb1⟩, by simp [intOf] <;> omega⟩
      · have HE2 : Hid (paintF G n z x y = (G m).id) := by show _ = _; rw [HE.out, paintF_yes hc]
        rw [hc] at SC
        clear hc
        have HQ0 : Hid (wr.cell? ⟨b, m * 7, none⟩ = some (.int .i64 (G m).id)) := q0
        clear q0
        go_wp2_with fail
        refine (SC.out _ (Below.refl _ _)).mono ?_
        rintro e w1 ⟨rfl, hb1⟩
        have q1 : w1.cell? ⟨b, m * 7, none⟩ = some (.int .i64 (G m).id) := (hb1.cell (p := ⟨b, m * 7, none⟩) (World.block_lt_of_cell? _ _ HQ0.out)).trans HQ0.out
        go_wp2
        go_ret
        exact ⟨ret_int HE2.out.symm, bl_then HB.out hb1⟩
/-- Four cells: a tile. -/
def TileA (w : World) (q : Nat) (z x y : Int) (v : Value) : Prop := w.cell? ⟨q, 0, none⟩ = some (.int .i64 z) ∧ w.cell? ⟨q, 1, none⟩ = some (.int .i64 x) ∧ w.cell? ⟨q, 2, none⟩ = some (.int .i64 y) ∧ w.cell? ⟨q, 3, none⟩ = some v
theorem TileA.below {w w' : World} {q B : Nat} {z x y : Int} {v : Value} (h : TileA w q z x y v) (hb : Below B w w') (hq : q < B) : TileA w' q z x y v :=
  ⟨(hb.cell (p := ⟨q, 0, none⟩) hq).trans h.1, (hb.cell (p := ⟨q, 1, none⟩) hq).trans h.2.1, (hb.cell (p := ⟨q, 2, none⟩) hq).trans h.2.2.1, (hb.cell (p := ⟨q, 3, none⟩) hq).trans h.2.2.2⟩
end Go.Proofs.YtciidkmonfmipaaGreat
