/- The nearest tile that is kept: the program. -/
import Derived.Test.YtbllgpofpokcnaaGreatVNearestIn45
namespace Go.Proofs.YtbllgpofpokcnaaGreat
open Go.RowKit
set_option linter.unusedSimpArgs false
set_option linter.unusedVariables false
set_option maxRecDepth 100000

set_option maxHeartbeats 8000000 in
theorem impl_NearestIn_any (s : Int) (b n cap : Nat) (A : Nat → Kp) (z x y : Int) (w : World) (ha : KoAt w b n A) (hs : SmallKs n A) (hcap : ∀ i, i < n → (A i).fn ≤ (A i).fc) (hnc : n ≤ cap) :
    Calls Tryz.prog 18 #[caV s (.slice (some ⟨b, 0, none⟩) n cap), refV z x y] w fun e w' => e = .returned (nearV s n A z x y) ∧ Below w.heap.size w w' := by
  have HF : Hid (∀ W, Below w.heap.size w W → Calls Tryz.prog 37 #[caV s (.slice (some ⟨b, 0, none⟩) n cap)] W fun e w' => ∃ p, e = .returned (.tuple #[.pointer (some ⟨p, 0, none⟩), .int .i64 (cacheC s n A)]) ∧ Below W.heap.size W w' ∧ (cacheC s n A = 0 → ShK w' W.heap.size p s n A)) := fun W h => shelfOf_any s b n cap A W (ha.below h) hs hcap hnc
  have HH : Hid (cacheC s n A = 0 → ∀ p W B z x y, ShK W B p s n A → refB z x y = true → Calls Tryz.prog 45 #[.pointer (some ⟨p, 0, none⟩), refV z x y] W fun e w' => e = .returned (.bool (decide (0 ≤ atK n A z x y))) ∧ Below W.heap.size W w') := fun h0 p W B z x y hK hr => by
    obtain ⟨mb, h1, h2, h3, h4, h5⟩ := hK
    obtain ⟨hz, hx, hy⟩ := ref_I64 hr
    have := shelfHas_any p mb n s (n : Int) (shD A n) z x y W h3 h5 hz hx hy
    rw [shD_has hz hx hy n (Rgt_of (cacheC_zero h0))] at this
    exact this
  clear ha hs hcap hnc
  obtain ⟨NV, hNV⟩ : ∃ NV, nearV s n A z x y = NV := ⟨_, rfl⟩
  rw [hNV]
  have HNV : Hid (nearV s n A z x y = NV) := hNV
  clear hNV
  go_enter Tryz.func18, Tryz.ntmps18
  go_wp2_with fail
  generalize hW : (((w.alloc _).alloc _).alloc _ : World) = W
  have HB0 : Hid (Below w.heap.size w W) := by show Below _ _ _; subst hW; (repeat (first | exact Below.refl _ _ | assumption | refine Below.drew ?_ | refine bl_alloc ?_ _ | refine bl_then ?_ (by assumption) | refine Below.setCell ?_ (by first | omega | (simp; done) | (simp; omega)) _ | refine bl_store ?_ ?_ _ _))
  have HR : Hid (RK W (w.heap.size + 1) z x y) := by show RK _ _ _ _ _; subst hW; refine ⟨?_, ?_, ?_⟩ <;> simp [go_sem]
  have HT : Hid (There W (w.heap.size + 2) 4) := by
    show There _ _ _
    subst hW
    have := there4r ((w.alloc (.cells #[.int .i64 s, .slice (some ⟨b, 0, none⟩) n cap] 29)).alloc (.cells #[.int .i64 z, .int .i64 x, .int .i64 y] 36)) (.int .i64 0) (.int .i64 0) (.int .i64 0) (.int .i64 0) 40
    simpa using this
  have HTr : Hid (There W (w.heap.size + 1) 3) := by
    show There _ _ _
    subst hW
    have := there3r (w.alloc (.cells #[.int .i64 s, .slice (some ⟨b, 0, none⟩) n cap] 29)) (.int .i64 z) (.int .i64 x) (.int .i64 y) 36
    have h2 := there_alloc (o := .cells #[.int .i64 0, .int .i64 0, .int .i64 0, .int .i64 0] 40) this (by simp)
    simpa using h2
  have hsz : w.heap.size + 2 < W.heap.size := by subst hW; simp
  clear hW
  refine Calls.mono (HF.out W HB0.out) ?_
  rintro e w1 ⟨p, rfl, hb1, hK1⟩
  have HK1 : Hid (cacheC s n A = 0 → ShK w1 W.heap.size p s n A) := hK1
  have HB1 : Hid (Below w.heap.size w w1) := bl_then HB0.out hb1
  have HR1 : Hid (RK w1 (w.heap.size + 1) z x y) := HR.out.below hb1
  have HT1 : Hid (There w1 (w.heap.size + 2) 4) := HT.out.below hb1
  have HTr1 : Hid (There w1 (w.heap.size + 1) 3) := HTr.out.below hb1
  have hsz1 : W.heap.size ≤ w1.heap.size := hb1.size
  obtain ⟨p0, p1, p2⟩ := HR.out.below hb1
  clear hb1 hK1 HB0 HR HT HTr HF
  go_wp2_with fail
  refine (refFault_any z x y _).mono ?_
  rintro e w2 ⟨rfl, hb2⟩
  have HB2 : Hid (Below w.heap.size w w2) := bl_then HB1.out hb2
  have HBk : Hid (Below w1.heap.size w1 w2) := hb2
  have HR2 : Hid (RK w2 (w.heap.size + 1) z x y) := HR1.out.below hb2
  have HT2 : Hid (There w2 (w.heap.size + 2) 4) := HT1.out.below hb2
  have HTr2 : Hid (There w2 (w.heap.size + 1) 3) := HTr1.out.below hb2
  clear hb2 p0 p1 p2
  go_wp2_with fail
  generalize hV : (w2.alloc _ : World) = V
  have HBV : Hid (Below w2.heap.size w2 V) := by show Below _ _ _; subst hV; (repeat (first | exact Below.refl _ _ | assumption | refine Below.drew ?_ | refine bl_alloc ?_ _ | refine bl_then ?_ (by assumption) | refine Below.setCell ?_ (by first | omega | (simp; done) | (simp; omega)) _ | refine bl_store ?_ ?_ _ _))
  have HO : Hid (Calls Tryz.prog 43 #[.slice (some ⟨w2.heap.size, 0, none⟩) 2 2] V fun e w' => e = .returned (.int .i64 (or2 (cacheC s n A) (refC z x y))) ∧ w' = V) := by
    show Calls _ _ _ _ _
    subst hV
    exact cmpOr2_any _ _ _ _ _ (by simp [go_sem]) (by simp [go_sem])
  clear hV
  refine Calls.mono HO.out ?_
  rintro e w3 ⟨rfl, h3⟩
  subst w3
  have HBW : Hid (Below w.heap.size w V) := bl_then HB2.out HBV.out
  have HBK : Hid (Below w1.heap.size w1 V) := bl_then HBk.out HBV.out
  have HRV : Hid (RK V (w.heap.size + 1) z x y) := HR2.out.below HBV.out
  have HTV : Hid (There V (w.heap.size + 2) 4) := HT2.out.below HBV.out
  have HTrV : Hid (There V (w.heap.size + 1) 3) := HTr2.out.below HBV.out
  have hszV : w1.heap.size ≤ V.heap.size := HBK.out.size
  clear HO HBV HR2 HT2 HTr2 HB2 HBk HR1 HT1 HTr1 HB1
  by_cases hor : or2 (cacheC s n A) (refC z x y) = 0
  · have h0 : cacheC s n A = 0 := by
      unfold or2 at hor; split at hor
      · assumption
      · assumption
    have hc : refC z x y = 0 := by unfold or2 at hor; rw [if_pos h0] at hor; exact hor
    have hr : refB z x y = true := by
      rcases refC_cases z x y with ⟨_, hr⟩ | ⟨hc', _⟩
      · exact hr
      · rw [hc] at hc'; cases hc'
    rw [hor]
    have HHs := (show Hid _ from HH.out h0)
    have HKV : Hid (ShK V W.heap.size p s n A) := (HK1.out h0).below HBK.out
    have HV : Hid (nearV s n A z x y = if 0 ≤ nearK n A z.toNat x y then rrV 0 (A (nearK n A z.toNat x y).toNat).z (A (nearK n A z.toNat x y).toNat).x (A (nearK n A z.toNat x y).toNat).y else rrV 4 0 0 0) := by
      show _ = _; unfold nearV; rw [if_pos h0, if_pos hr]
    have HRb : Hid (refB z x y = true) := hr
    obtain ⟨mb, hp1, hm1, hsh, hth, hmp⟩ := HKV.out
    have HSm : Hid (ShA V p s (n : Int) mb ∧ There V p 3 ∧ V.ownsMap Tryz.prog 36 RV mb n (shD A n)) := ⟨hsh, hth, hmp⟩
    have hpl : p < V.heap.size := World.block_lt_of_cell? _ _ hsh.1
    have hml : mb < V.heap.size := hmp.lt
    clear hor h0 hc hr HH HK1 HKV hsh hth hmp HBK
    obtain ⟨N, hN⟩ : ∃ N, nearK n A z.toNat x y = N := ⟨_, rfl⟩
    have HV2 : Hid (NV = if 0 ≤ N then rrV 0 (A N.toNat).z (A N.toNat).x (A N.toNat).y else rrV 4 0 0 0) := by show _ = _; rw [← HNV.out, HV.out, hN]
    clear HV HNV
    go_wp2_with fail
    go_loopw [] (fun wr => ∃ z x y : Int, refB z x y = true ∧ nearK n A z.toNat x y = N ∧ RK wr (w.heap.size + 1) z x y ∧ There wr (w.heap.size + 1) 3 ∧ There wr (w.heap.size + 2) 4 ∧ Below (w.heap.size + 1) V wr ∧ (ShA wr p s (n : Int) mb ∧ There wr p 3 ∧ wr.ownsMap Tryz.prog 36 RV mb n (shD A n))) (fun wr => match wr.cell? ⟨w.heap.size + 1, 0, none⟩ with | some v => (intOf v).toNat | none => 0)
    case atStart => exact ⟨z, x, y, HRb.out, hN, HRV.out, HTrV.out, HTV.out, Below.refl _ _, HSm.out⟩
    case round =>
      clear hN HRb HRV HTrV HTV HSm
      obtain ⟨z, x, y, hr, hN, hrk, hTr, hT, hB, hS⟩ := hrel
      have HRr : Hid (refB z x y = true) := hr
      have HTr : Hid (There wr (w.heap.size + 1) 3) := hTr
      have HT : Hid (There wr (w.heap.size + 2) 4) := hT
      have HB : Hid (Below (w.heap.size + 1) V wr) := hB
      have HRk : Hid (RK wr (w.heap.size + 1) z x y) := hrk
      have HS : Hid (ShA wr p s (n : Int) mb ∧ There wr p 3 ∧ wr.ownsMap Tryz.prog 36 RV mb n (shD A n)) := hS
      have hzb : 0 ≤ z ∧ z ≤ 3 := (ref_bd hr).1
      have hlw : w.heap.size + 2 < wr.heap.size := Nat.lt_of_lt_of_le (by omega) hB.size
      have HA := (show Hid _ from HHs.out p wr _ z x y ⟨mb, hp1, hm1, hS⟩ hr)
      obtain ⟨p0, p1, p2⟩ := hrk
      have HNH : Hid (0 ≤ atK n A z x y → nearK n A z.toNat x y = atK n A z x y) := fun h => nearK_hit hzb.1 h
      have HNU : Hid (¬ 0 ≤ atK n A z x y → 0 < z → nearK n A z.toNat x y = nearK n A (z - 1).toNat (x / 2) (y / 2)) := fun h h' => nearK_up h' h
      have HNo : Hid (¬ 0 ≤ atK n A z x y → z = 0 → nearK n A z.toNat x y = -1) := fun h e => by subst e; exact nearK_no h
      have HN : Hid (nearK n A z.toNat x y = N) := hN
      clear hr hTr hT hB hN hS
      go_wp2_with fail
      refine Calls.mono HA.out ?_
      rintro e w4 ⟨rfl, hb4⟩
      have HB4 : Hid (Below (w.heap.size + 1) V w4) := HB.out.trans (hb4.mono (by omega))
      have HT4 : Hid (There w4 (w.heap.size + 2) 4) := HT.out.below hb4
      have HTr4 : Hid (There w4 (w.heap.size + 1) 3) := HTr.out.below hb4
      have HS4 : Hid (ShA w4 p s (n : Int) mb ∧ There w4 p 3 ∧ w4.ownsMap Tryz.prog 36 RV mb n (shD A n)) := ⟨HS.out.1.below hb4, HS.out.2.1.below hb4, ownsMap_below HS.out.2.2 hb4⟩
      obtain ⟨r0, r1, r2⟩ := HRk.out.below hb4
      have hlw4 : w.heap.size + 2 < w4.heap.size := Nat.lt_of_lt_of_le hlw hb4.size
      have HBw : Hid (Below w.heap.size w w4) := HBW.out.trans (HB4.out.mono (by omega))
      clear HA hb4 HS
      by_cases h0 : 0 ≤ atK n A z x y
      · rw [decide_eq_true h0]
        have HE : Hid (NV = rrV 0 z x y) := by
          show _ = _
          have e : N = atK n A z x y := HN.out.symm.trans (HNH.out h0)
          rcases atK_or n A z x y with h | ⟨i, hi, h, a1, a2, a3⟩
          · rw [h] at h0; omega
          · rw [HV2.out, e, if_pos h0, h, Int.toNat_natCast, a1, a2, a3]
        have hT' := HT4.out
        have t0 := hT'.cell 0 (by omega)
        have t1 := hT'.cell 1 (by omega)
        have t2 := hT'.cell 2 (by omega)
        have t3 := hT'.cell 3 (by omega)
        have f0 := (hT' 0 (by omega)).2
        have f1 := (hT' 1 (by omega)).2
        have f2 := (hT' 2 (by omega)).2
        have f3 := (hT' 3 (by omega)).2
        clear hT' HNH HNU HNo HN h0
        go_wp2_with fail
        obtain ⟨q0, q1, q2, q3⟩ := set4_at (a := .int .i64 0) (b := .int .i64 z) (c := .int .i64 x) (d := .int .i64 y) HT4.out
        refine bodyPost_ret (v := rrV 0 z x y) (by simp [results, Tryz.results18, go_sem, q0, q1, q2, q3]) rfl ⟨by rw [HE.out], ?_⟩
        exact (((HBw.out.setCell (le12 _) _).setCell (le12 _) _).setCell (le12 _) _).setCell (le12 _) _
      · rw [decide_eq_false h0]
        by_cases hz : z = 0
        · have HE : Hid (NV = rrV 4 0 0 0) := by show _ = _; rw [HV2.out, HN.out.symm.trans (HNo.out (by omega) hz)]; rfl
          have hT' := HT4.out
          have t0 := hT'.cell 0 (by omega)
          have t1 := hT'.cell 1 (by omega)
          have t2 := hT'.cell 2 (by omega)
          have t3 := hT'.cell 3 (by omega)
          have f0 := (hT' 0 (by omega)).2
          have f1 := (hT' 1 (by omega)).2
          have f2 := (hT' 2 (by omega)).2
          have f3 := (hT' 3 (by omega)).2
          clear hT' HNH HNU HNo HN HRr HRk h0
          subst hz
          go_wp2_with fail
          obtain ⟨q0, q1, q2, q3⟩ := set4_at (a := .int .i64 4) (b := .int .i64 0) (c := .int .i64 0) (d := .int .i64 0) HT4.out
          refine bodyPost_ret (v := rrV 4 0 0 0) (by simp [results, Tryz.results18, go_sem, q0, q1, q2, q3]) rfl ⟨by rw [HE.out], ?_⟩
          exact (((HBw.out.setCell (le12 _) _).setCell (le12 _) _).setCell (le12 _) _).setCell (le12 _) _
        · have hz' : 0 < z := by omega
          have HE : Hid (nearK n A (z - 1).toNat (x / 2) (y / 2) = N) := (HNU.out (by omega) hz').symm.trans HN.out
          clear HNH HNU HNo HN h0
          go_wp2_with fail
          refine (parent_any z x y _ HRr.out).mono ?_
          rintro e w5 ⟨rfl, hb5⟩
          have hT5 := HTr4.out.below hb5
          have HTr5 : Hid (There w5 (w.heap.size + 1) 3) := hT5
          have HT5 : Hid (There w5 (w.heap.size + 2) 4) := HT4.out.below hb5
          have HS5 : Hid (ShA w5 p s (n : Int) mb ∧ There w5 p 3 ∧ w5.ownsMap Tryz.prog 36 RV mb n (shD A n)) := ⟨HS4.out.1.below hb5, HS4.out.2.1.below hb5, ownsMap_below HS4.out.2.2 hb5⟩
          have t0 := hT5.cell 0 (by omega)
          have t1 := hT5.cell 1 (by omega)
          have t2 := hT5.cell 2 (by omega)
          have u0 := (hT5 0 (by omega)).2
          have u1 := (hT5 1 (by omega)).2
          have u2 := (hT5 2 (by omega)).2
          have HB5 : Hid (Below (w.heap.size + 1) V w5) := HB4.out.trans (hb5.mono (by omega))
          clear hT5 hb5 r0 r1 r2
          go_wp2_with fail
          obtain ⟨q0, q1, q2⟩ := set3_atq (a := .int .i64 (z - 1)) (b := .int .i64 (x / 2)) (c := .int .i64 (y / 2)) HTr5.out
          have hg : w5.grownBy (((w5.setCell ⟨w.heap.size + 1, 0, none⟩ (.int .i64 (z - 1))).setCell ⟨w.heap.size + 1, 1, none⟩ (.int .i64 (x / 2))).setCell ⟨w.heap.size + 1, 2, none⟩ (.int .i64 (y / 2))) (some (w.heap.size + 1)) := grown_set (grown_set (grown_set (grown_refl _ _) 0 _) 1 _) 2 _
          go_roundw
          case rel =>
            refine ⟨z - 1, x / 2, y / 2, refB_par HRr.out hz', HE.out, ⟨q0, q1, q2⟩, ((HTr5.out.setN _ _).setN _ _).setN _ _, ?_, ((HB5.out.setCell (Nat.le_refl _) _).setCell (Nat.le_refl _) _).setCell (Nat.le_refl _) _, ⟨gr_cell hg HS5.out.1.1 (by omega), gr_cell hg HS5.out.1.2.1 (by omega), gr_cell hg HS5.out.1.2.2 (by omega)⟩, HS5.out.2.1.grown hg (by omega), HS5.out.2.2.kept hg (by simp; omega)⟩
            exact HT5.out.grown hg (by omega)
          case measure =>
            rw [q0, p0]
            simp [intOf]
            omega
  · have hq : Hid (NV = rrV (or2 (cacheC s n A) (refC z x y)) 0 0 0) := by
      show _ = _
      rw [← HNV.out]
      unfold nearV or2
      by_cases h0 : cacheC s n A = 0
      · rw [if_pos h0, if_pos h0]
        rcases refC_cases z x y with ⟨hc, hr⟩ | ⟨hc, hr⟩
        · exact absurd (by unfold or2; rw [if_pos h0]; exact hc) hor
        · rw [hr, hc]; rfl
      · rw [if_neg h0, if_neg h0]
    have hcb : (or2 (cacheC s n A) (refC z x y) == 0) = false := by simpa using hor
    have hT' := HTV.out
    have t0 := hT'.cell 0 (by omega)
    have t1 := hT'.cell 1 (by omega)
    have t2 := hT'.cell 2 (by omega)
    have t3 := hT'.cell 3 (by omega)
    have f0 := (hT' 0 (by omega)).2
    have f1 := (hT' 1 (by omega)).2
    have f2 := (hT' 2 (by omega)).2
    have f3 := (hT' 3 (by omega)).2
    clear hT' HH HK1 HNV
    generalize or2 (cacheC s n A) (refC z x y) = rc at *
    go_wp2_with fail
    obtain ⟨q0, q1, q2, q3⟩ := set4_at (a := .int .i64 rc) (b := .int .i64 0) (c := .int .i64 0) (d := .int .i64 0) HTV.out
    refine bodyPost_ret (v := rrV rc 0 0 0) (by simp [results, Tryz.results18, go_sem, q0, q1, q2, q3]) rfl ⟨by rw [hq.out], ?_⟩
    exact (((HBW.out.setCell (le12 _) _).setCell (le12 _) _).setCell (le12 _) _).setCell (le12 _) _
end Go.Proofs.YtbllgpofpokcnaaGreat
