/- The model's farthest point. -/
import Derived.Test.YtdohlnnbibnnbaaGreatVPlaceLabels27
namespace Go.Proofs.YtdohlnnbibnnbaaGreat
open Go.RowKit
set_option linter.unusedSimpArgs false
set_option linter.unusedVariables false

set_option maxRecDepth 8000 in
set_option maxHeartbeats 4000000 in
theorem l3Farthest_any (b n cap f t : Nat) (X Y : Nat → Int) (w : World) (hp : PtsAt w b 0 n X Y) (hbl : b < w.heap.size) (hn : n ≤ 40) (hft : f + 1 < t) (htn : t < n) (hok : ∀ i, i < n → okP (X i) (Y i) = true) :
    Calls Tryz.prog 160 #[.slice (some ⟨b, 0, none⟩) n cap, .int .i64 (f : Int), .int .i64 (t : Int)] w fun e w' => ∃ m : Nat, e = .returned (.int .i64 (m : Int)) ∧ Far X Y f t (f + 1) t m ∧ Below w.heap.size w w' := by
  have HP : Hid (PtsAt w b 0 n X Y) := hp
  have HOK : Hid (∀ i, i < n → okP (X i) (Y i) = true) := hok
  have cm : ∀ i, i < n → ∀ W', Below w.heap.size w W' → W'.cell? ⟨b, i * 2, none⟩ = some (.int .i64 (X i)) ∧ W'.cell? ⟨b, i * 2 + 1, none⟩ = some (.int .i64 (Y i)) := fun i hi W' h => by
    have := (HP.out.below h hbl) i hi
    simpa using this
  have HCM : Hid _ := cm
  clear hp hok
  obtain ⟨k, hk⟩ : ∃ k, k = f + 1 := ⟨_, rfl⟩
  have hki : (f : Int) + 1 = (k : Int) := by omega
  have HK : Hid (k = f + 1) := hk
  have k0 : (0 : Int) ≤ (k : Int) := by omega
  have k1 : (k : Int) < (n : Int) := by omega
  have f0 : (0 : Int) ≤ (f : Int) := by omega
  have f1 : (f : Int) < (n : Int) := by omega
  have t0 : (0 : Int) ≤ (t : Int) := by omega
  have t1 : (t : Int) < (n : Int) := by omega
  have hkn : k < n := by omega
  have ck0 : ∀ W', Below w.heap.size w W' → W'.cell? ⟨b, k * 2, none⟩ = some (.int .i64 (X k)) := fun W' h => (cm k hkn W' h).1
  have ck1 : ∀ W', Below w.heap.size w W' → W'.cell? ⟨b, k * 2 + 1, none⟩ = some (.int .i64 (Y k)) := fun W' h => (cm k hkn W' h).2
  have cf0 : ∀ W', Below w.heap.size w W' → W'.cell? ⟨b, f * 2, none⟩ = some (.int .i64 (X f)) := fun W' h => (cm f (by omega) W' h).1
  have cf1 : ∀ W', Below w.heap.size w W' → W'.cell? ⟨b, f * 2 + 1, none⟩ = some (.int .i64 (Y f)) := fun W' h => (cm f (by omega) W' h).2
  have ct0 : ∀ W', Below w.heap.size w W' → W'.cell? ⟨b, t * 2, none⟩ = some (.int .i64 (X t)) := fun W' h => (cm t htn W' h).1
  have ct1 : ∀ W', Below w.heap.size w W' → W'.cell? ⟨b, t * 2 + 1, none⟩ = some (.int .i64 (Y t)) := fun W' h => (cm t htn W' h).2
  have hr : Below w.heap.size w w := Below.refl _ _
  clear cm hk
  go_enter Tryz.func160, Tryz.ntmps160
  go_wp2_with fail
  have HO3 : Hid (okP (X k) (Y k) = true ∧ okP (X f) (Y f) = true ∧ okP (X t) (Y t) = true) := ⟨HOK.out k hkn, HOK.out f (by omega), HOK.out t htn⟩
  go_cut [8, 9] (fun u d wc => u = .int .i64 (gO X Y f t k) ∧ d = .int .i64 (gU X Y f t k) ∧ Below w.heap.size w wc)
  case first =>
    go_region_held3 (fun W' => Below w.heap.size w W') ((repeat (first | exact Below.refl _ _ | assumption | refine Below.drew ?_ | refine bl_alloc ?_ _ | refine bl_then ?_ (by assumption) | refine Below.setCell ?_ (by first | omega | (simp; done) | (simp; omega)) _ | refine bl_store ?_ ?_ _ _)))
      (first | (go_at_call 169; refine (l3Far_any _ _ _ _ _ _ _ HO3.out.1 HO3.out.2.1 HO3.out.2.2).mono ?_; rintro e w' ⟨rfl, hb⟩))
    go_wp2_with fail
    go_meet
    case rel => exact ⟨rfl, rfl, by assumption⟩
  case rest =>
    obtain ⟨rfl, rfl, hbc⟩ := hcut
    have HBc : Hid (Below w.heap.size w wc) := hbc
    clear hbc
    generalize wc = wA at *
    go_wp2_with fail
    go_loopw [7, 8, 9, 10] (fun s7 s8 s9 s10 wr => ∃ i q : Nat, f + 2 ≤ i ∧ i ≤ t ∧ s10 = .int .i64 (i : Int) ∧ s7 = .int .i64 (q : Int) ∧ s8 = .int .i64 (gO X Y f t q) ∧ s9 = .int .i64 (gU X Y f t q) ∧ Far X Y f t (f + 1) i q ∧ Below w.heap.size w wr) (fun _ _ _ s10 _ => t - (intOf s10).toNat)
    case atStart =>
      have e := HK.out
      refine ⟨f + 2, k, by omega, by omega, by go_num, rfl, rfl, rfl, ?_, HBc.out⟩
      rw [e]
      exact Far.one X Y f t (f + 1)
    case round =>
      obtain ⟨i, q, hi2, hit, rfl, rfl, rfl, rfl, hF, hB⟩ := hrel
      have HF : Hid (Far X Y f t (f + 1) i q) := hF
      have HB : Hid (Below w.heap.size w wr) := hB
      have hqi : q < i := hF.hi
      clear hF hB ck0 ck1
      by_cases hlt : i < t
      · have hii : (i : Int) < (t : Int) := by omega
        have hin : i < n := by omega
        have i0 : (0 : Int) ≤ (i : Int) := by omega
        have i1 : (i : Int) < (n : Int) := by omega
        have ci0 : ∀ W', Below wr.heap.size wr W' → W'.cell? ⟨b, i * 2, none⟩ = some (.int .i64 (X i)) := fun W' h => (HCM.out i hin W' (bl_then HB.out h)).1
        have ci1 : ∀ W', Below wr.heap.size wr W' → W'.cell? ⟨b, i * 2 + 1, none⟩ = some (.int .i64 (Y i)) := fun W' h => (HCM.out i hin W' (bl_then HB.out h)).2
        have cg0 : ∀ W', Below wr.heap.size wr W' → W'.cell? ⟨b, f * 2, none⟩ = some (.int .i64 (X f)) := fun W' h => cf0 W' (bl_then HB.out h)
        have cg1 : ∀ W', Below wr.heap.size wr W' → W'.cell? ⟨b, f * 2 + 1, none⟩ = some (.int .i64 (Y f)) := fun W' h => cf1 W' (bl_then HB.out h)
        have cu0 : ∀ W', Below wr.heap.size wr W' → W'.cell? ⟨b, t * 2, none⟩ = some (.int .i64 (X t)) := fun W' h => ct0 W' (bl_then HB.out h)
        have cu1 : ∀ W', Below wr.heap.size wr W' → W'.cell? ⟨b, t * 2 + 1, none⟩ = some (.int .i64 (Y t)) := fun W' h => ct1 W' (bl_then HB.out h)
        have hrr : Below wr.heap.size wr wr := Below.refl _ _
        have HOi : Hid (okP (X i) (Y i) = true) := HOK.out i hin
        obtain ⟨a1, a2, a3, a4⟩ := gO_bd X Y (f := f) (t := t) (i := i) HO3.out.2.1 HO3.out.2.2 HOi.out
        obtain ⟨e1, e2, e3, e4⟩ := gO_bd X Y (f := f) (t := t) (i := q) HO3.out.2.1 HO3.out.2.2 (HOK.out q (by omega))
        clear cf0 cf1 ct0 ct1
        go_wp2_with fail
        go_cut [11, 12] (fun u d wc => u = .int .i64 (gO X Y f t i) ∧ d = .int .i64 (gU X Y f t i) ∧ Below wr.heap.size wr wc)
        case first =>
          go_region_held3 (fun W' => Below wr.heap.size wr W') ((repeat (first | exact Below.refl _ _ | assumption | refine Below.drew ?_ | refine bl_alloc ?_ _ | refine bl_then ?_ (by assumption) | refine Below.setCell ?_ (by first | omega | (simp; done) | (simp; omega)) _ | refine bl_store ?_ ?_ _ _)))
            (first | (go_at_call 169; refine (l3Far_any _ _ _ _ _ _ _ HOi.out HO3.out.2.1 HO3.out.2.2).mono ?_; rintro e w' ⟨rfl, hb⟩))
          go_wp2_with fail
          go_meet
          case rel => exact ⟨rfl, rfl, by assumption⟩
        case rest =>
          obtain ⟨rfl, rfl, hbd⟩ := hcut
          have HB2 : Hid (Below w.heap.size w wc) := bl_then HB.out hbd
          clear hbd ci0 ci1 cg0 cg1 cu0 cu1 hrr
          go_wp2_with fail
          refine (l3More_any _ _ _ _ _ a1 a2 a3 a4 e1 e2 e3 e4).mono ?_
          rintro e w3 ⟨rfl, hb3⟩
          have HB3 : Hid (Below w.heap.size w w3) := bl_then HB2.out hb3
          clear hb3
          have hga : aboveB (gO X Y f t i) (gU X Y f t i) (gO X Y f t q) (gU X Y f t q) = gA X Y f t i q := rfl
          rw [hga]
          clear hga
          cases hg : gA X Y f t i q
          · have HF2 : Hid (Far X Y f t (f + 1) (i + 1) q) := by
              show Far _ _ _ _ _ _ _
              have := HF.out.step X Y
              rw [hg] at this
              simpa using this
            clear a1 a2 a3 a4 e1 e2 e3 e4 hg
            go_wp2_with fail
            go_roundw
            case rel => exact ⟨i + 1, q, by omega, by omega, by go_num, rfl, rfl, rfl, HF2.out, HB3.out⟩
            case measure => simp [intOf]; omega
          · have HF2 : Hid (Far X Y f t (f + 1) (i + 1) i) := by
              show Far _ _ _ _ _ _ _
              have := HF.out.step X Y
              rw [hg] at this
              simpa using this
            clear a1 a2 a3 a4 e1 e2 e3 e4 hg
            go_wp2_with fail
            go_roundw
            case rel => exact ⟨i + 1, i, by omega, by omega, by go_num, rfl, rfl, rfl, HF2.out, HB3.out⟩
            case measure => simp [intOf]; omega
      · have hie : i = t := by omega
        subst hie
        go_wp2
        go_ret
        exact ⟨q, rfl, HF.out, HB.out⟩
end Go.Proofs.YtdohlnnbibnnbaaGreat
