/- A list of features in memory of its own is marked, and the marks are found again: the walks. -/
import Derived.Test.YtbllgpofpokcnaaGreatVNearestIn29
namespace Go.Proofs.YtbllgpofpokcnaaGreat
open Go.RowKit
set_option linter.unusedSimpArgs false
set_option linter.unusedVariables false
set_option maxRecDepth 100000

set_option maxHeartbeats 8000000 in
theorem markFs_any (lo hi b n cap k0 : Nat) (N C q : Nat → Nat) (w : World) (hO : OwnQ w lo hi b n N C q) (hn : n ≤ 1048576) (hN : ∀ i, i < n → N i ≤ 1048576) (h0 : 0 < k0) (hk0 : k0 ≤ 1000) :
    Calls Tryz.prog 57 #[.slice (some ⟨b, 0, none⟩) n cap, .int .i64 (k0 : Int)] w fun e w' => e = .returned (.int .i64 ((kS N k0 n : Nat) : Int)) ∧ OwnQ w' lo hi b n N C q ∧ MidB lo hi w w' ∧ ∀ i, i < n → MarkF w' b (q i) i (N i) (C i) (kS N k0 i) := by
  have HO0 : Hid (OwnQ w lo hi b n N C q) := hO
  have HN : Hid (∀ i, i < n → N i ≤ 1048576) := hN
  clear hO hN
  go_enter Tryz.func57, Tryz.ntmps57
  go_wp2_with fail
  go_loopw [1, 5] (fun kk i wr => ∃ j K : Nat, j ≤ n ∧ Hid (K = kS N k0 j) ∧ kk = .int .i64 (K : Int) ∧ i = .int .i64 (j : Int) ∧ OwnQ wr lo hi b n N C q ∧ MidB lo hi w wr ∧ ∀ i, i < j → MarkF wr b (q i) i (N i) (C i) (kS N k0 i)) (fun _ i _ => n - (intOf i).toNat)
  case atStart => exact ⟨0, k0, by omega, rfl, rfl, rfl, HO0.out, MidB.refl _ _ _, fun i hi => by omega⟩
  case round =>
    obtain ⟨j, K, hj, HK, rfl, rfl, hO, hM, hF⟩ := hrel
    by_cases hlt : j < n
    · have hKb : K ≤ 2199030000000 := by
        have := HK.out
        have := kS_le N k0 n HN.out j (by omega)
        omega
      have hK0 : 0 < K := by
        have h1 := HK.out
        have h2 : ∀ i, k0 ≤ kS N k0 i := fun i => by
          induction i with
          | zero => exact Nat.le_refl _
          | succ i ih => rw [kS]; omega
        have := h2 j
        omega
      have hNj := HN.out j hlt
      obtain ⟨hqj, hTj, hcj⟩ := hO.2.2.1 j hlt
      have hT := hO.2.1
      have t0 := hT.cell (j * 7) (by omega)
      have t1 := hT.cell (j * 7 + 1) (by omega)
      have t2 := hT.cell (j * 7 + 2) (by omega)
      have t3 := hT.cell (j * 7 + 3) (by omega)
      have f0 := (hT (j * 7) (by omega)).2
      have f1 := (hT (j * 7 + 1) (by omega)).2
      have f2 := (hT (j * 7 + 2) (by omega)).2
      have f3 := (hT (j * 7 + 3) (by omega)).2
      have HO : Hid (OwnQ wr lo hi b n N C q) := hO
      have HM : Hid (MidB lo hi w wr) := hM
      have HF : Hid (∀ i, i < j → MarkF wr b (q i) i (N i) (C i) (kS N k0 i)) := hF
      have HLT : Hid (j < n) := hlt
      clear hO hM hF hT
      have hi : (j : Int) < (n : Int) := by omega
      have hi0 : (0 : Int) ≤ (j : Int) := by omega
      have e4 : (K : Int) + 1 + 1 + 1 + 1 = ((K + 4 : Nat) : Int) := by omega
      have e3 : (K : Int) + 1 + 1 + 1 = ((K + 3 : Nat) : Int) := by omega
      have e2 : (K : Int) + 1 + 1 = ((K + 2 : Nat) : Int) := by omega
      have e1 : (K : Int) + 1 = ((K + 1 : Nat) : Int) := by omega
      have E := (show Hid _ from (⟨e4, e3, e2, e1⟩ : _ ∧ _ ∧ _ ∧ _))
      clear e4 e3 e2 e1
      go_wp2_with fail
      rw [E.out.1, E.out.2.1, E.out.2.2.1, E.out.2.2.2]
      have hb1 := HO.out.1
      have hql : q j < wr.heap.size := by omega
      have hne : b ≠ q j := fun e => hqj.2.2 e.symm
      refine (markPointS_any (q j) (N j) (C j) (K + 4) _ ((((hTj.store hne).store hne).store hne).store hne) (by simp only [World.size_setCell]; exact hql) hNj (by omega)).mono ?_
      rintro e w5 ⟨rfl, hG5, hT5, hP5⟩
      have hTb5 : There w5 b (n * 7) := (((((HO.out.2.1.set _ _).set _ _).set _ _).set _ _).grown hG5 hne)
      have HG5 := (show Hid _ from hG5)
      have HT5 : Hid (There w5 (q j) (N j * 2)) := hT5
      have HP5 : Hid (PtsAt w5 (q j) 0 (N j) (mkX (K + 4)) (mkY (K + 4))) := hP5
      have HTb5 : Hid (There w5 b (n * 7)) := hTb5
      clear hG5 hT5 hP5 hTb5 t0 t1 t2 t3 f0 f1 f2 f3 hcj
      have hkt : 0 < K + 4 + 2 * N j := by omega
      go_wp2_with fail
      refine (markText_any (K + 4 + 2 * N j) w5 hkt (by omega)).mono ?_
      rintro e w6 ⟨rfl, hb6⟩
      have hT6 := HTb5.out.below hb6
      have t5 := hT6.cell (j * 7 + 5) (by omega)
      have t6 := hT6.cell (j * 7 + 6) (by omega)
      have f5 := (hT6 (j * 7 + 5) (by omega)).2
      have f6 := (hT6 (j * 7 + 6) (by omega)).2
      have HB6 : Hid (Below w5.heap.size w5 w6) := hb6
      clear hT6 hb6
      have hKb2 : ((K + 4 + 2 * N j : Nat) : Int) ≤ 2200000000000 := by omega
      have hKb0 : (0 : Int) ≤ ((K + 4 + 2 * N j : Nat) : Int) := by omega
      have HKE : Hid (((K + 4 + 2 * N j : Nat) : Int) + 1 = ((K + 5 + 2 * N j : Nat) : Int) ∧ ((K + 4 + 2 * N j : Nat) : Int) + 1 + 1 = ((K + 6 + 2 * N j : Nat) : Int)) := ⟨by omega, by omega⟩
      have HM2 : Hid (∀ m : Nat, m = K + 4 + 2 * N j → m = K + 4 + 2 * N j) := fun _ h => h
      obtain ⟨M, hMd⟩ : ∃ M : Nat, M = K + 4 + 2 * N j := ⟨_, rfl⟩
      have HMD : Hid (M = K + 4 + 2 * N j) := hMd
      rw [← hMd] at hKb2 hKb0 ⊢
      clear hMd
      go_wp2
      go_roundw
      case rel =>
        have hMd := HMD.out
        subst hMd
        have hst := mark_step HO.out HLT.out HG5.out HT5.out HP5.out HB6.out HF.out HK.out.symm
        rw [← HKE.out.1] at hst
        obtain ⟨s1, s2, s3⟩ := hst
        refine ⟨j + 1, K + 6 + 2 * N j, by have := HLT.out; omega, by show _ = _; rw [kS, ← HK.out], by congr 1; omega, by go_num, s1, HM.out.trans s2, s3⟩
      case measure => have := HLT.out; simp [intOf]; omega
    · go_wp2
      go_ret
      have hjn : j = n := by omega
      subst hjn
      exact ⟨ret_int (by have := HK.out; omega), hO, hM, hF⟩
set_option maxHeartbeats 8000000 in
theorem heldFs_any (b n cap k0 : Nat) (N C q : Nat → Nat) (w : World) (hF : ∀ i, i < n → MarkF w b (q i) i (N i) (C i) (kS N k0 i)) (hb : b < w.heap.size) (hq : ∀ i, i < n → q i < w.heap.size) (hn : n ≤ 1048576) (hN : ∀ i, i < n → N i ≤ 1048576) (h0 : 0 < k0) (hk0 : k0 ≤ 1000) :
    Calls Tryz.prog 123 #[.slice (some ⟨b, 0, none⟩) n cap, .int .i64 (k0 : Int)] w fun e w' => e = .returned (.int .i64 ((kS N k0 n : Nat) : Int)) ∧ Below w.heap.size w w' := by
  have HF : Hid (∀ i, i < n → MarkF w b (q i) i (N i) (C i) (kS N k0 i)) := hF
  have HN : Hid (∀ i, i < n → N i ≤ 1048576) := hN
  have HQ : Hid (∀ i, i < n → q i < w.heap.size) := hq
  clear hF hN hq
  go_enter Tryz.func123, Tryz.ntmps123
  go_wp2_with fail
  go_loopw [1, 5] (fun kk i wr => ∃ j K : Nat, j ≤ n ∧ Hid (K = kS N k0 j) ∧ kk = .int .i64 (K : Int) ∧ i = .int .i64 (j : Int) ∧ Below w.heap.size w wr) (fun _ i _ => n - (intOf i).toNat)
  case atStart => exact ⟨0, k0, by omega, rfl, rfl, rfl, Below.refl _ _⟩
  case round =>
    obtain ⟨j, K, hj, HK, rfl, rfl, hB⟩ := hrel
    by_cases hlt : j < n
    · have hKb : K ≤ 2199030000000 := by
        have := HK.out
        have := kS_le N k0 n HN.out j (by omega)
        omega
      have hK0 : 0 < K := by
        have h1 := HK.out
        have h2 : ∀ i, k0 ≤ kS N k0 i := fun i => by
          induction i with
          | zero => exact Nat.le_refl _
          | succ i ih => rw [kS]; omega
        have := h2 j
        omega
      have hNj := HN.out j hlt
      have hMF := (HF.out j hlt).below hB hb (HQ.out j hlt)
      rw [← HK.out] at hMF
      have hql : q j < wr.heap.size := Nat.lt_of_lt_of_le (HQ.out j hlt) hB.size
      have e3 : ((K + 3 : Nat) : Int) = (K : Int) + 1 + 1 + 1 := by omega
      have e2 : ((K + 2 : Nat) : Int) = (K : Int) + 1 + 1 := by omega
      have e1 : ((K + 1 : Nat) : Int) = (K : Int) + 1 := by omega
      have hHM : Hid (MarkF wr b (q j) j (N j) (C j) K) := hMF
      obtain ⟨⟨m0, m1, m2, m3, m4, m5, m6⟩, mp⟩ := hMF
      rw [e1] at m1
      rw [e2] at m2
      rw [e3] at m3
      have HP : Hid (PtsAt wr (q j) 0 (N j) (mkX (K + 4)) (mkY (K + 4))) := mp
      have HB : Hid (Below w.heap.size w wr) := hB
      have HLT : Hid (j < n) := hlt
      have hbr : b < wr.heap.size := Nat.lt_of_lt_of_le hb hB.size
      clear hB mp e1 e2 e3
      have hi : (j : Int) < (n : Int) := by omega
      have hi0 : (0 : Int) ≤ (j : Int) := by omega
      have e4 : Hid ((K : Int) + 1 + 1 + 1 + 1 = ((K + 4 : Nat) : Int)) := by show _ = _; omega
      go_wp2_with fail
      rw [e4.out]
      refine (heldPointS_any (q j) (N j) (C j) (K + 4) _ HP.out hql hNj (by omega)).mono ?_
      rintro e w5 ⟨rfl, hb5⟩
      obtain ⟨⟨_, _, _, _, _, x5, x6⟩, _⟩ := hHM.out.below hb5 hbr hql
      have Hb5 : Hid (Below wr.heap.size wr w5) := hb5
      have hbl5 : b < w5.heap.size := Nat.lt_of_lt_of_le hbr hb5.size
      clear hb5 m0 m1 m2 m3 m4 m5 m6
      have hneg : ¬ ((K + 4 + 2 * N j : Nat) : Int) < 0 := by omega
      have hKb2 : ((K + 4 + 2 * N j : Nat) : Int) ≤ 2200000000000 := by omega
      have hKb0 : (0 : Int) ≤ ((K + 4 + 2 * N j : Nat) : Int) := by omega
      have hkt : 0 < K + 4 + 2 * N j := by omega
      have e5 : ((K + 5 + 2 * N j : Nat) : Int) = ((K + 4 + 2 * N j : Nat) : Int) + 1 := by omega
      have HKE : Hid (((K + 4 + 2 * N j : Nat) : Int) + 1 + 1 = ((K + 6 + 2 * N j : Nat) : Int)) := by show _ = _; omega
      rw [e5] at x6
      clear e5
      have HTX : Hid (∀ W, Calls Tryz.prog 92 #[.int .i64 ((K + 4 + 2 * N j : Nat) : Int)] W fun e w' => e = .returned (.string (mTx (K + 4 + 2 * N j))) ∧ Below W.heap.size W w') := fun W => markText_any (K + 4 + 2 * N j) W hkt (by omega)
      generalize mTx (K + 4 + 2 * N j) = tx at x5 HTX
      clear hkt
      obtain ⟨M, hMd⟩ : ∃ M : Nat, M = K + 4 + 2 * N j := ⟨_, rfl⟩
      have HMD : Hid (M = K + 4 + 2 * N j) := hMd
      rw [← hMd] at hKb2 hKb0 hneg x6 HTX ⊢
      clear hMd
      have y5 : ∀ W', Below w5.heap.size w5 W' → W'.cell? ⟨b, j * 7 + 5, none⟩ = some (.string tx) := fun W' h => bl_cell h x5
      have y6 : ∀ W', Below w5.heap.size w5 W' → W'.cell? ⟨b, j * 7 + 6, none⟩ = some (.int .i64 ((M : Int) + 1)) := fun W' h => bl_cell h x6
      clear x5 x6
      have hr5 : Below w5.heap.size w5 w5 := Below.refl _ _
      have htx : (tx.toList == tx.toList) = true := beq_self_eq_true _
      go_wp2_with fail
      go_region_held3 (fun W' => Below w5.heap.size w5 W') ((repeat (first | exact Below.refl _ _ | assumption | refine Below.drew ?_ | refine bl_alloc ?_ _ | refine bl_then ?_ (by assumption) | refine Below.setCell ?_ (by first | omega | (simp; done) | (simp; omega)) _ | refine bl_store ?_ ?_ _ _)))
        (first | (go_at_call 92; refine (HTX.out _).mono ?_; rintro e w' ⟨rfl, hb⟩) | fail)
      go_wp2
      go_roundw
      case rel =>
        have hMd := HMD.out
        refine ⟨j + 1, K + 6 + 2 * N j, by have := HLT.out; omega, by show _ = _; rw [kS, ← HK.out], by congr 1; omega, by go_num, bl_then HB.out (bl_then Hb5.out (by assumption))⟩
      case measure => have := HLT.out; simp [intOf]; omega
    · go_wp2
      go_ret
      have hjn : j = n := by omega
      subst hjn
      exact ⟨ret_int (by have := HK.out; omega), hB⟩
end Go.Proofs.YtbllgpofpokcnaaGreat
