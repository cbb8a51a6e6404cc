/- Several texts in one. -/
import Derived.Test.YtdohlnnbibnnbaaGreatVPlaceLabels49
import Derived.Test.YtdohlnnbibnnbaaGreatVPlaceLabels8
import Derived.Test.YtdohlnnbibnnbaaGreatVPlaceLabels9
import Derived.Test.YtdohlnnbibnnbaaGreatVPlaceLabels6
import Derived.Deep.DeepCutAuto
import Derived.Test.YtdohlnnbibnnbaaGreatVPlaceLabels42

/- A list of features in memory of its own is marked, and the marks are found again: the walks. -/

namespace Go.Proofs.YtdohlnnbibnnbaaGreat
open Go.RowKit
set_option linter.unusedSimpArgs false
set_option linter.unusedVariables false
set_option maxRecDepth 100000

set_option maxHeartbeats 8000000 in
theorem markFs_any (lo hi b n cap k0 : Nat) (N C q : Nat → Nat) (w : World) (hO : OwnQ w lo hi b n N C q) (hn : n ≤ 1048576) (hN : ∀ i, i < n → N i ≤ 1048576) (h0 : 0 < k0) (hk0 : k0 ≤ 5000000000000000000) :
    Calls Tryz.prog 21 #[.slice (some ⟨b, 0, none⟩) n cap, .int .i64 (k0 : Int)] w fun e w' => e = .returned (.int .i64 ((kS N k0 n : Nat) : Int)) ∧ OwnQ w' lo hi b n N C q ∧ MidB lo hi w w' ∧ ∀ i, i < n → MarkF w' b (q i) i (N i) (C i) (kS N k0 i) := by
  have HO0 : Hid (OwnQ w lo hi b n N C q) := hO
  have HN : Hid (∀ i, i < n → N i ≤ 1048576) := hN
  clear hO hN
  go_enter Tryz.func21, Tryz.ntmps21
  go_wp2_with fail
  go_loopw [1, 5] (fun kk i wr => ∃ j K : Nat, j ≤ n ∧ Hid (K = kS N k0 j) ∧ kk = .int .i64 (K : Int) ∧ i = .int .i64 (j : Int) ∧ OwnQ wr lo hi b n N C q ∧ MidB lo hi w wr ∧ ∀ i, i < j → MarkF wr b (q i) i (N i) (C i) (kS N k0 i)) (fun _ i _ => n - (intOf i).toNat)
  case atStart => exact ⟨0, k0, by omega, rfl, rfl, rfl, HO0.out, MidB.refl _ _ _, fun i hi => by omega⟩
  case round =>
    obtain ⟨j, K, hj, HK, rfl, rfl, hO, hM, hF⟩ := hrel
    by_cases hlt : j < n
    · have hKb : K ≤ 5000002200000000000 := by
        have := HK.out
        have := kS_le N k0 n HN.out j (by omega)
        omega
      have hK0 : 0 < K := by
        have h1 := HK.out
        have h2 : ∀ i, k0 ≤ kS N k0 i := fun i => by
          induction i with
          | zero => exact Nat.le_refl _
          | succ i ih => rw [kS]; omega
        have := h2 j
        omega
      have hNj := HN.out j hlt
      obtain ⟨hqj, hTj, hcj⟩ := hO.2.2.1 j hlt
      have hT := hO.2.1
      have t0 := hT.cell (j * 7) (by omega)
      have t1 := hT.cell (j * 7 + 1) (by omega)
      have t2 := hT.cell (j * 7 + 2) (by omega)
      have t3 := hT.cell (j * 7 + 3) (by omega)
      have f0 := (hT (j * 7) (by omega)).2
      have f1 := (hT (j * 7 + 1) (by omega)).2
      have f2 := (hT (j * 7 + 2) (by omega)).2
      have f3 := (hT (j * 7 + 3) (by omega)).2
      have HO : Hid (OwnQ wr lo hi b n N C q) := hO
      have HM : Hid (MidB lo hi w wr) := hM
      have HF : Hid (∀ i, i < j → MarkF wr b (q i) i (N i) (C i) (kS N k0 i)) := hF
      have HLT : Hid (j < n) := hlt
      clear hO hM hF hT
      have hi : (j : Int) < (n : Int) := by omega
      have hi0 : (0 : Int) ≤ (j : Int) := by omega
      have e4 : (K : Int) + 1 + 1 + 1 + 1 = ((K + 4 : Nat) : Int) := by omega
      have e3 : (K : Int) + 1 + 1 + 1 = ((K + 3 : Nat) : Int) := by omega
      have e2 : (K : Int) + 1 + 1 = ((K + 2 : Nat) : Int) := by omega
      have e1 : (K : Int) + 1 = ((K + 1 : Nat) : Int) := by omega
      have E := (show Hid _ from (⟨e4, e3, e2, e1⟩ : _ ∧ _ ∧ _ ∧ _))
      clear e4 e3 e2 e1
      go_wp2_with fail
      rw [E.out.1, E.out.2.1, E.out.2.2.1, E.out.2.2.2]
      have hb1 := HO.out.1
      have hql : q j < wr.heap.size := by omega
      have hne : b ≠ q j := fun e => hqj.2.2 e.symm
      refine (markPointS_any (q j) (N j) (C j) (K + 4) _ ((((hTj.store hne).store hne).store hne).store hne) (by simp only [World.size_setCell]; exact hql) hNj (by omega)).mono ?_
      rintro e w5 ⟨rfl, hG5, hT5, hP5⟩
      have hTb5 : There w5 b (n * 7) := (((((HO.out.2.1.set _ _).set _ _).set _ _).set _ _).grown hG5 hne)
      have HG5 := (show Hid _ from hG5)
      have HT5 : Hid (There w5 (q j) (N j * 2)) := hT5
      have HP5 : Hid (PtsAt w5 (q j) 0 (N j) (mkX (K + 4)) (mkY (K + 4))) := hP5
      have HTb5 : Hid (There w5 b (n * 7)) := hTb5
      clear hG5 hT5 hP5 hTb5 t0 t1 t2 t3 f0 f1 f2 f3 hcj
      have hkt : 0 < K + 4 + 2 * N j := by omega
      go_wp2_with fail
      refine (markText_any (K + 4 + 2 * N j) w5 hkt (by omega)).mono ?_
      rintro e w6 ⟨rfl, hb6⟩
      have hT6 := HTb5.out.below hb6
      have t5 := hT6.cell (j * 7 + 5) (by omega)
      have t6 := hT6.cell (j * 7 + 6) (by omega)
      have f5 := (hT6 (j * 7 + 5) (by omega)).2
      have f6 := (hT6 (j * 7 + 6) (by omega)).2
      have HB6 : Hid (Below w5.heap.size w5 w6) := hb6
      clear hT6 hb6
      have hKb2 : ((K + 4 + 2 * N j : Nat) : Int) ≤ 5000002300000000000 := by omega
      have hKb0 : (0 : Int) ≤ ((K + 4 + 2 * N j : Nat) : Int) := by omega
      have HKE : Hid (((K + 4 + 2 * N j : Nat) : Int) + 1 = ((K + 5 + 2 * N j : Nat) : Int) ∧ ((K + 4 + 2 * N j : Nat) : Int) + 1 + 1 = ((K + 6 + 2 * N j : Nat) : Int)) := ⟨by omega, by omega⟩
      have HM2 : Hid (∀ m : Nat, m = K + 4 + 2 * N j → m = K + 4 + 2 * N j) := fun _ h => h
      obtain ⟨M, hMd⟩ : ∃ M : Nat, M = K + 4 + 2 * N j := ⟨_, rfl⟩
      have HMD : Hid (M = K + 4 + 2 * N j) := hMd
      rw [← hMd] at hKb2 hKb0 ⊢
      clear hMd
      go_wp2
      go_roundw
      case rel =>
        have hMd := HMD.out
        subst hMd
        have hst := mark_step HO.out HLT.out HG5.out HT5.out HP5.out HB6.out HF.out HK.out.symm
        rw [← HKE.out.1] at hst
        obtain ⟨s1, s2, s3⟩ := hst
        refine ⟨j + 1, K + 6 + 2 * N j, by have := HLT.out; omega, by show _ = _; rw [kS, ← HK.out], by congr 1; omega, by go_num, s1, HM.out.trans s2, s3⟩
      case measure => have := HLT.out; simp [intOf]; omega
    · go_wp2
      go_ret
      have hjn : j = n := by omega
      subst hjn
      exact ⟨ret_int (by have := HK.out; omega), hO, hM, hF⟩
end Go.Proofs.YtdohlnnbibnnbaaGreat
/- Helpers for the law of a function of a list of features and a struct of numbers. -/

namespace Go.Proofs.YtdohlnnbibnnbaaGreat
open Go.RowKit
set_option linter.unusedSimpArgs false
set_option linter.unusedVariables false
set_option maxRecDepth 100000

theorem There.lt2z {W : World} {r : Nat} (h : There W r 2) : r < W.heap.size := by
  obtain ⟨⟨v, hv⟩, _⟩ := h 0 (by omega)
  exact World.block_lt_of_cell? _ _ hv
theorem there2z (V : World) (a b : Value) (t : TypeId) : There (V.alloc (.cells #[a, b] t)) V.heap.size 2 := fun o ho => by
  have : o = 0 ∨ o = 1 := by omega
  rcases this with rfl | rfl <;> exact ⟨⟨_, by simp [go_sem]; rfl⟩, by simp [go_sem]⟩
end Go.Proofs.YtdohlnnbibnnbaaGreat
/- A camera is copied. -/

namespace Go.Proofs.YtdohlnnbibnnbaaGreat
open Go.RowKit
set_option linter.unusedSimpArgs false
set_option linter.unusedVariables false
set_option maxRecDepth 100000

theorem toCamera_any (z x y wd ht : Int) (w : World) : Calls Tryz.prog 18 #[camV z x y wd ht] w fun e w' => e = .returned (camV z x y wd ht) ∧ Below w.heap.size w w' := by
  go_enter Tryz.func18, Tryz.ntmps18
  go_wp2
  exact bodyPost_ret (v := camV z x y wd ht) (by simp [results, Tryz.results18, go_sem]) rfl ⟨rfl, by (repeat (first | exact Below.refl _ _ | assumption | refine Below.drew ?_ | refine bl_alloc ?_ _ | refine bl_then ?_ (by assumption) | refine Below.setCell ?_ (by first | omega | (simp; done) | (simp; omega)) _ | refine bl_store ?_ ?_ _ _))⟩
end Go.Proofs.YtdohlnnbibnnbaaGreat
