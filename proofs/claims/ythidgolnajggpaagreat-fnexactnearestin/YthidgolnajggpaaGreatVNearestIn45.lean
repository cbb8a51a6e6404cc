/- The nearest tile that is kept: the model and the program. -/
import Derived.Test.YthidgolnajggpaaGreatVNearestIn44
import Derived.Test.YthidgolnajggpaaGreatVNearestIn23
import Derived.Test.YthidgolnajggpaaGreatVNearestIn22
import Derived.Test.YthidgolnajggpaaGreatVNearestIn21
namespace Go.Proofs.YthidgolnajggpaaGreat
open Go.RowKit
set_option linter.unusedSimpArgs false
set_option linter.unusedVariables false
set_option maxRecDepth 100000

theorem le12 (n : Nat) : n ≤ n + 1 + 1 := by omega
/-- Where in a cache the nearest one is. -/
def nearK (n : Nat) (K : Nat → Kp) : Nat → Int → Int → Int
  | 0, x, y => atK n K 0 x y
  | z + 1, x, y => if 0 ≤ atK n K ((z + 1 : Nat) : Int) x y then atK n K ((z + 1 : Nat) : Int) x y else nearK n K z (x / 2) (y / 2)
theorem atK_or (n : Nat) (K : Nat → Kp) (z x y : Int) : atK n K z x y = -1 ∨ ∃ i : Nat, i < n ∧ atK n K z x y = (i : Int) ∧ (K i).z = z ∧ (K i).x = x ∧ (K i).y = y := by
  unfold atK
  rcases firstI_or (fun i => isK (K i) z x y) n with ⟨h1, h2⟩ | ⟨i, hi, hg, hf, hn⟩
  · exact .inl h1
  · exact .inr ⟨i, hi, hf, isK_iff.1 hg⟩
theorem nearK_or (n : Nat) (K : Nat → Kp) : ∀ (z : Nat) (x y : Int), nearK n K z x y = -1 ∨ ∃ i : Nat, i < n ∧ nearK n K z x y = (i : Int)
  | 0, x, y => by
    rcases atK_or n K 0 x y with h | ⟨i, hi, h, _⟩
    · exact .inl h
    · exact .inr ⟨i, hi, h⟩
  | z + 1, x, y => by
    unfold nearK
    split
    · rename_i h0
      rcases atK_or n K ((z + 1 : Nat) : Int) x y with h | ⟨i, hi, h, _⟩
      · rw [h] at h0; omega
      · exact .inr ⟨i, hi, h⟩
    · exact nearK_or n K z (x / 2) (y / 2)
theorem nearK_hit {n : Nat} {K : Nat → Kp} {z x y : Int} (hz : 0 ≤ z) (h : 0 ≤ atK n K z x y) : nearK n K z.toNat x y = atK n K z x y := by
  obtain ⟨m, rfl⟩ : ∃ m : Nat, z = (m : Int) := ⟨z.toNat, by omega⟩
  rw [Int.toNat_natCast]
  cases m with
  | zero => rfl
  | succ m => unfold nearK; rw [if_pos h]
theorem nearK_up {n : Nat} {K : Nat → Kp} {z x y : Int} (hz : 0 < z) (h : ¬ 0 ≤ atK n K z x y) : nearK n K z.toNat x y = nearK n K (z - 1).toNat (x / 2) (y / 2) := by
  obtain ⟨m, rfl⟩ : ∃ m : Nat, z = ((m + 1 : Nat) : Int) := ⟨(z - 1).toNat, by omega⟩
  have e : (((m + 1 : Nat) : Int) - 1).toNat = m := by omega
  rw [Int.toNat_natCast, e]
  conv => lhs; unfold nearK
  rw [if_neg h]
theorem nearK_no {n : Nat} {K : Nat → Kp} {x y : Int} (h : ¬ 0 ≤ atK n K 0 x y) : nearK n K (0 : Int).toNat x y = -1 := by
  rcases atK_or n K 0 x y with h' | ⟨i, _, h', _⟩
  · exact h'
  · rw [h'] at h; omega
/-- The answer of NearestIn. -/
noncomputable def nearV (s : Int) (n : Nat) (K : Nat → Kp) (z x y : Int) : Value :=
  if cacheC s n K = 0 then (if refB z x y = true then (if 0 ≤ nearK n K z.toNat x y then rrV 0 (K (nearK n K z.toNat x y).toNat).z (K (nearK n K z.toNat x y).toNat).x (K (nearK n K z.toNat x y).toNat).y else rrV 4 0 0 0) else rrV 3 0 0 0) else rrV (cacheC s n K) 0 0 0
set_option maxHeartbeats 4000000 in
theorem l11Nearest_any (q : Nat) (s : Int) (a : Option Addr) (n cap : Nat) (K : Nat → Kp) (z x y : Int) (w : World) (hc : CaA w q s (.slice a n cap)) (hp : IsKs w a n K) (hn : n ≤ 1048576) (hr : refB z x y = true) :
    Calls Tryz.prog 31 #[.pointer (some ⟨q, 0, none⟩), refV z x y] w fun e w' => e = .returned (.int .i64 (nearK n K z.toNat x y)) ∧ Below w.heap.size w w' := by
  have HAt : Hid (∀ W, Below w.heap.size w W → ∀ z x y, Calls Tryz.prog 50 #[.pointer (some ⟨q, 0, none⟩), refV z x y] W fun e w' => e = .returned (.int .i64 (atK n K z x y)) ∧ Below W.heap.size W w') := fun W h z x y => l11At_any q s a n cap K z x y W (hc.below h) (hp.below h) hn
  have HR0 : Hid (refB z x y = true) := hr
  clear hc hp hr
  obtain ⟨N, hN⟩ : ∃ N, nearK n K z.toNat x y = N := ⟨_, rfl⟩
  rw [hN]
  go_enter Tryz.func31, Tryz.ntmps31
  go_wp2_with fail
  generalize hW : (w.alloc _ : World) = W
  have HB0 : Hid (Below w.heap.size w W) := by show Below _ _ _; subst hW; (repeat (first | exact Below.refl _ _ | assumption | refine Below.drew ?_ | refine bl_alloc ?_ _ | refine bl_then ?_ (by assumption) | refine Below.setCell ?_ (by first | omega | (simp; done) | (simp; omega)) _ | refine bl_store ?_ ?_ _ _))
  have HRK : Hid (RK W w.heap.size z x y) := by show RK _ _ _ _ _; subst hW; refine ⟨?_, ?_, ?_⟩ <;> simp [go_sem]
  have HT0 : Hid (There W w.heap.size 3) := by show There _ _ _; subst hW; exact there3r _ _ _ _ _
  clear hW
  go_loopw [] (fun wr => ∃ z x y : Int, refB z x y = true ∧ nearK n K z.toNat x y = N ∧ RK wr w.heap.size z x y ∧ There wr w.heap.size 3 ∧ Below w.heap.size w wr) (fun wr => match wr.cell? ⟨w.heap.size, 0, none⟩ with | some v => (intOf v).toNat | none => 0)
  case atStart => exact ⟨z, x, y, HR0.out, hN, HRK.out, HT0.out, HB0.out⟩
  case round =>
    clear hN HR0 HRK HT0 HB0
    obtain ⟨z, x, y, hr, hN, hrk, hT, hB⟩ := hrel
    have HR : Hid (refB z x y = true) := hr
    have HTr : Hid (There wr w.heap.size 3) := hT
    have HB : Hid (Below w.heap.size w wr) := hB
    have HRk : Hid (RK wr w.heap.size z x y) := hrk
    have hzb : 0 ≤ z ∧ z ≤ 3 := (ref_bd hr).1
    have hlw : w.heap.size < wr.heap.size := World.block_lt_of_cell? _ _ hrk.1
    have HA := (show Hid _ from HAt.out wr hB z x y)
    obtain ⟨p0, p1, p2⟩ := hrk
    have HH : Hid (0 ≤ atK n K z x y → nearK n K z.toNat x y = atK n K z x y) := fun h => nearK_hit hzb.1 h
    have HU : Hid (¬ 0 ≤ atK n K z x y → 0 < z → nearK n K z.toNat x y = nearK n K (z - 1).toNat (x / 2) (y / 2)) := fun h h' => nearK_up h' h
    have HNo : Hid (¬ 0 ≤ atK n K z x y → z = 0 → nearK n K z.toNat x y = -1) := fun h e => by subst e; exact nearK_no h
    have HN : Hid (nearK n K z.toNat x y = N) := hN
    clear hr hT hB hN
    go_wp2_with fail
    refine Calls.mono HA.out ?_
    rintro e w1 ⟨rfl, hb1⟩
    have HB1 : Hid (Below w.heap.size w w1) := bl_then HB.out hb1
    have HT1 : Hid (There w1 w.heap.size 3) := HTr.out.below hb1
    obtain ⟨r0, r1, r2⟩ := HRk.out.below hb1
    have hlw1 : w.heap.size < w1.heap.size := Nat.lt_of_lt_of_le hlw hb1.size
    clear HA hb1
    by_cases h0 : 0 ≤ atK n K z x y
    · have HE : Hid (N = atK n K z x y) := HN.out.symm.trans (HH.out h0)
      clear HH HU HNo HN
      generalize atK n K z x y = i at *
      go_wp2
      go_ret
      exact ⟨ret_int HE.out.symm, HB1.out⟩
    · by_cases hz : z = 0
      · have HE : Hid (N = -1) := HN.out.symm.trans (HNo.out (by omega) hz)
        clear HH HU HNo HN HR HRk
        subst hz
        generalize atK n K 0 x y = i at *
        go_wp2
        go_ret
        exact ⟨ret_int HE.out.symm, HB1.out⟩
      · have hz' : 0 < z := by omega
        have HE : Hid (nearK n K (z - 1).toNat (x / 2) (y / 2) = N) := (HU.out (by omega) hz').symm.trans HN.out
        clear HH HU HNo HN
        generalize atK n K z x y = i at *
        go_wp2_with fail
        refine (l7Parent_any z x y _ HR.out).mono ?_
        rintro e w2 ⟨rfl, hb2⟩
        have hT2 := HT1.out.below hb2
        have HT2 : Hid (There w2 w.heap.size 3) := hT2
        have t0 := hT2.cell 0 (by omega)
        have t1 := hT2.cell 1 (by omega)
        have t2 := hT2.cell 2 (by omega)
        have u0 := (hT2 0 (by omega)).2
        have u1 := (hT2 1 (by omega)).2
        have u2 := (hT2 2 (by omega)).2
        have HB2 : Hid (Below w.heap.size w w2) := bl_then HB1.out hb2
        clear hT2 hb2 r0 r1 r2
        go_wp2_with fail
        obtain ⟨q0, q1, q2⟩ := set3_atq (a := .int .i64 (z - 1)) (b := .int .i64 (x / 2)) (c := .int .i64 (y / 2)) HT2.out
        go_roundw
        case rel => exact ⟨z - 1, x / 2, y / 2, refB_par HR.out hz', HE.out, ⟨q0, q1, q2⟩, ((HT2.out.setN _ _).setN _ _).setN _ _, ((HB2.out.setCell (Nat.le_refl _) _).setCell (Nat.le_refl _) _).setCell (Nat.le_refl _) _⟩
        case measure =>
          rw [q0, p0]
          simp [intOf]
          omega
set_option maxHeartbeats 4000000 in
theorem spec_NearestIn_any (s : Int) (b n cap : Nat) (A : Nat → Kp) (z x y : Int) (w : World) (ha : KoAt w b n A) (hs : SmallKs n A) :
    Calls Tryz.prog 8 #[caV s (.slice (some ⟨b, 0, none⟩) n cap), refV z x y] w fun e w' => e = .returned (nearV s n A z x y) ∧ Below w.heap.size w w' := by
  have HA : Hid (KoAt w b n A) := ha
  have hn : n ≤ 1048576 := hs.1
  have HF : Hid (∀ q W, Below w.heap.size w W → CaA W q s (.slice (some ⟨b, 0, none⟩) n cap) → Calls Tryz.prog 29 #[.pointer (some ⟨q, 0, none⟩)] W fun e w' => e = .returned (.int .i64 (cacheC s n A)) ∧ Below W.heap.size W w') := fun q W h hc => l11Fault_any q s b n cap A W hc (ha.below h) hs
  clear ha hs
  go_enter Tryz.func8, Tryz.ntmps8
  go_wp2_with fail
  generalize hW : (((w.alloc _).alloc _).alloc _ : World) = W
  have HB0 : Hid (Below w.heap.size w W) := by show Below _ _ _; subst hW; (repeat (first | exact Below.refl _ _ | assumption | refine Below.drew ?_ | refine bl_alloc ?_ _ | refine bl_then ?_ (by assumption) | refine Below.setCell ?_ (by first | omega | (simp; done) | (simp; omega)) _ | refine bl_store ?_ ?_ _ _))
  have HC : Hid (CaA W w.heap.size s (.slice (some ⟨b, 0, none⟩) n cap)) := by show CaA _ _ _ _; subst hW; exact ((CaA.new _ _ _ _).below (by (repeat (first | exact Below.refl _ _ | assumption | refine Below.drew ?_ | refine bl_alloc ?_ _ | refine bl_then ?_ (by assumption) | refine Below.setCell ?_ (by first | omega | (simp; done) | (simp; omega)) _ | refine bl_store ?_ ?_ _ _)))).below (by (repeat (first | exact Below.refl _ _ | assumption | refine Below.drew ?_ | refine bl_alloc ?_ _ | refine bl_then ?_ (by assumption) | refine Below.setCell ?_ (by first | omega | (simp; done) | (simp; omega)) _ | refine bl_store ?_ ?_ _ _)))
  have HR : Hid (RK W (w.heap.size + 1) z x y) := by show RK _ _ _ _ _; subst hW; refine ⟨?_, ?_, ?_⟩ <;> simp [go_sem]
  have HT : Hid (There W (w.heap.size + 2) 4) := by
    show There _ _ _
    subst hW
    have := there4r ((w.alloc (.cells #[.int .i64 s, .slice (some ⟨b, 0, none⟩) n cap] 34)).alloc (.cells #[.int .i64 z, .int .i64 x, .int .i64 y] 28)) (.int .i64 0) (.int .i64 0) (.int .i64 0) (.int .i64 0) 30
    simpa using this
  clear hW
  refine Calls.mono (HF.out _ W HB0.out HC.out) ?_
  rintro e w1 ⟨rfl, hb1⟩
  have HB1 : Hid (Below w.heap.size w w1) := bl_then HB0.out hb1
  have HC1 : Hid (CaA w1 w.heap.size s (.slice (some ⟨b, 0, none⟩) n cap)) := HC.out.below hb1
  have HR1 : Hid (RK w1 (w.heap.size + 1) z x y) := HR.out.below hb1
  have HT1 : Hid (There w1 (w.heap.size + 2) 4) := HT.out.below hb1
  obtain ⟨p0, p1, p2⟩ := HR.out.below hb1
  clear hb1 HB0 HC HR HT HF
  by_cases h0 : cacheC s n A = 0
  · rcases refC_cases z x y with ⟨hc, hr⟩ | ⟨hc, hr⟩
    · have HV : Hid (nearV s n A z x y = if 0 ≤ nearK n A z.toNat x y then rrV 0 (A (nearK n A z.toNat x y).toNat).z (A (nearK n A z.toNat x y).toNat).x (A (nearK n A z.toNat x y).toNat).y else rrV 4 0 0 0) := by
        show _ = _; unfold nearV; rw [if_pos h0, if_pos hr]
      have HRF := (show Hid (∀ W, _) from fun W => l7Fault_any z x y W)
      simp only [hc] at HRF
      rw [h0]
      have HNr : Hid (∀ W, Below w1.heap.size w1 W → Calls Tryz.prog 31 #[.pointer (some ⟨w.heap.size, 0, none⟩), refV z x y] W fun e w' => e = .returned (.int .i64 (nearK n A z.toNat x y)) ∧ Below W.heap.size W w') := fun W h => l11Nearest_any _ s _ n cap A z x y W (HC1.out.below h) (HA.out.below (bl_then HB1.out h)).is hn hr
      clear h0 hc hr
      go_wp2_with fail
      refine Calls.mono (HRF.out _) ?_
      rintro e w2 ⟨rfl, hb2⟩
      obtain ⟨g0, g1, g2⟩ := HR1.out.below hb2
      clear p0 p1 p2
      go_wp2_with fail
      refine Calls.mono (HNr.out _ hb2) ?_
      rintro e w3 ⟨rfl, hb3⟩
      have HB3 : Hid (Below w1.heap.size w1 w3) := bl_then hb2 hb3
      have HT3 : Hid (There w3 (w.heap.size + 2) 4) := HT1.out.below HB3.out
      have HBW : Hid (Below w.heap.size w w3) := bl_then HB1.out HB3.out
      obtain ⟨m0, m1⟩ := HC1.out.below HB3.out
      have hT' := HT3.out
      have t0 := hT'.cell 0 (by omega)
      have t1 := hT'.cell 1 (by omega)
      have t2 := hT'.cell 2 (by omega)
      have t3 := hT'.cell 3 (by omega)
      have f0 := (hT' 0 (by omega)).2
      have f1 := (hT' 1 (by omega)).2
      have f2 := (hT' 2 (by omega)).2
      have f3 := (hT' 3 (by omega)).2
      clear hT' g0 g1 g2 hb2 hb3 HNr HRF
      rcases nearK_or n A z.toNat x y with hN | ⟨i, hi, hN⟩
      · have hq : Hid (nearV s n A z x y = rrV 4 0 0 0) := by show _ = _; rw [HV.out, hN]; rfl
        rw [hN]
        clear hN HV
        go_wp2_with fail
        obtain ⟨q0, q1, q2, q3⟩ := set4_at (a := .int .i64 4) (b := .int .i64 0) (c := .int .i64 0) (d := .int .i64 0) HT3.out
        refine bodyPost_ret (v := rrV 4 0 0 0) (by simp [results, Tryz.results8, go_sem, q0, q1, q2, q3]) rfl ⟨by rw [hq.out], ?_⟩
        exact (((HBW.out.setCell (le12 _) _).setCell (le12 _) _).setCell (le12 _) _).setCell (le12 _) _
      · have hq : Hid (nearV s n A z x y = rrV 0 (A i).z (A i).x (A i).y) := by
          show _ = _
          rw [HV.out, hN, if_pos (by omega), Int.toNat_natCast]
        rw [hN]
        obtain ⟨⟨k0, k1, k2, k3, k4⟩, _, _⟩ := (HA.out.below HBW.out).2 i hi
        have hi1 : (i : Int) < (n : Int) := by omega
        have hi0 : (0 : Int) ≤ (i : Int) := by omega
        have hi2 : ¬ (i : Int) < 0 := by omega
        clear hN HV k3 k4
        generalize (A i).z = rz at *
        generalize (A i).x = rx at *
        generalize (A i).y = ry at *
        go_wp2_with fail
        obtain ⟨q0, q1, q2, q3⟩ := set4_at (a := .int .i64 0) (b := .int .i64 rz) (c := .int .i64 rx) (d := .int .i64 ry) HT3.out
        refine bodyPost_ret (v := rrV 0 rz rx ry) (by simp [results, Tryz.results8, go_sem, q0, q1, q2, q3]) rfl ⟨by rw [hq.out], ?_⟩
        exact (((HBW.out.setCell (le12 _) _).setCell (le12 _) _).setCell (le12 _) _).setCell (le12 _) _
    · have hq : Hid (nearV s n A z x y = rrV 3 0 0 0) := by show _ = _; unfold nearV; rw [if_pos h0, hr]; rfl
      have HRF := (show Hid (∀ W, _) from fun W => l7Fault_any z x y W)
      simp only [hc] at HRF
      rw [h0]
      clear h0 hc hr
      go_wp2_with fail
      refine Calls.mono (HRF.out _) ?_
      rintro e w2 ⟨rfl, hb2⟩
      have HT2 : Hid (There w2 (w.heap.size + 2) 4) := HT1.out.below hb2
      have HBW : Hid (Below w.heap.size w w2) := bl_then HB1.out hb2
      have hT' := HT2.out
      have t0 := hT'.cell 0 (by omega)
      have t1 := hT'.cell 1 (by omega)
      have t2 := hT'.cell 2 (by omega)
      have t3 := hT'.cell 3 (by omega)
      have f0 := (hT' 0 (by omega)).2
      have f1 := (hT' 1 (by omega)).2
      have f2 := (hT' 2 (by omega)).2
      have f3 := (hT' 3 (by omega)).2
      clear hT' hb2 p0 p1 p2 HRF
      go_wp2_with fail
      obtain ⟨q0, q1, q2, q3⟩ := set4_at (a := .int .i64 3) (b := .int .i64 0) (c := .int .i64 0) (d := .int .i64 0) HT2.out
      refine bodyPost_ret (v := rrV 3 0 0 0) (by simp [results, Tryz.results8, go_sem, q0, q1, q2, q3]) rfl ⟨by rw [hq.out], ?_⟩
      exact (((HBW.out.setCell (le12 _) _).setCell (le12 _) _).setCell (le12 _) _).setCell (le12 _) _
  · have hq : Hid (nearV s n A z x y = rrV (cacheC s n A) 0 0 0) := by show _ = _; unfold nearV; rw [if_neg h0]
    have hcb : (cacheC s n A == 0) = false := by simpa using h0
    have hT' := HT1.out
    have t0 := hT'.cell 0 (by omega)
    have t1 := hT'.cell 1 (by omega)
    have t2 := hT'.cell 2 (by omega)
    have t3 := hT'.cell 3 (by omega)
    have f0 := (hT' 0 (by omega)).2
    have f1 := (hT' 1 (by omega)).2
    have f2 := (hT' 2 (by omega)).2
    have f3 := (hT' 3 (by omega)).2
    clear hT' p0 p1 p2
    generalize cacheC s n A = rc at *
    go_wp2_with fail
    obtain ⟨q0, q1, q2, q3⟩ := set4_at (a := .int .i64 rc) (b := .int .i64 0) (c := .int .i64 0) (d := .int .i64 0) HT1.out
    refine bodyPost_ret (v := rrV rc 0 0 0) (by simp [results, Tryz.results8, go_sem, q0, q1, q2, q3]) rfl ⟨by rw [hq.out], ?_⟩
    exact (((HB1.out.setCell (le12 _) _).setCell (le12 _) _).setCell (le12 _) _).setCell (le12 _) _
end Go.Proofs.YthidgolnajggpaaGreat
