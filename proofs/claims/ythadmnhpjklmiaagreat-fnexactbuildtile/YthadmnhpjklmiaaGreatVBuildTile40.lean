/- Several texts in one. -/
import Derived.Test.YthadmnhpjklmiaaGreatVBuildTile39
import Derived.Test.YthadmnhpjklmiaaGreatVBuildTile7
import Derived.Test.YthadmnhpjklmiaaGreatVBuildTile1
import Derived.Test.YthadmnhpjklmiaaGreatVBuildTile8
import Derived.Test.YthadmnhpjklmiaaGreatRows
import Derived.WalkKit
import Derived.WalkSpells
import Derived.WalkLawsBesides
import Derived.Outline
import Derived.Deep.RegionHeld3
import Derived.Deep.OwnRows
import Derived.Deep.LoopGhost
import Derived.Laws.OwnMore

/- A list of features in memory of its own is marked, and the marks are found again: the walks. -/

namespace Go.Proofs.YthadmnhpjklmiaaGreat
open Go.RowKit
set_option linter.unusedSimpArgs false
set_option linter.unusedVariables false
set_option maxRecDepth 100000

set_option maxHeartbeats 8000000 in
theorem markFs_any (lo hi b n cap k0 : Nat) (N C q : Nat → Nat) (w : World) (hO : OwnQ w lo hi b n N C q) (hn : n ≤ 1048576) (hN : ∀ i, i < n → N i ≤ 1048576) (h0 : 0 < k0) (hk0 : k0 ≤ 1000) :
    Calls Tryz.prog 12 #[.slice (some ⟨b, 0, none⟩) n cap, .int .i64 (k0 : Int)] w fun e w' => e = .returned (.int .i64 ((kS N k0 n : Nat) : Int)) ∧ OwnQ w' lo hi b n N C q ∧ MidB lo hi w w' ∧ ∀ i, i < n → MarkF w' b (q i) i (N i) (C i) (kS N k0 i) := by
  have HO0 : Hid (OwnQ w lo hi b n N C q) := hO
  have HN : Hid (∀ i, i < n → N i ≤ 1048576) := hN
  clear hO hN
  go_enter Tryz.func12, Tryz.ntmps12
  go_wp2_with fail
  go_loopw [1, 5] (fun kk i wr => ∃ j K : Nat, j ≤ n ∧ Hid (K = kS N k0 j) ∧ kk = .int .i64 (K : Int) ∧ i = .int .i64 (j : Int) ∧ OwnQ wr lo hi b n N C q ∧ MidB lo hi w wr ∧ ∀ i, i < j → MarkF wr b (q i) i (N i) (C i) (kS N k0 i)) (fun _ i _ => n - (intOf i).toNat)
  case atStart => exact ⟨0, k0, by omega, rfl, rfl, rfl, HO0.out, MidB.refl _ _ _, fun i hi => by omega⟩
  case round =>
    obtain ⟨j, K, hj, HK, rfl, rfl, hO, hM, hF⟩ := hrel
    by_cases hlt : j < n
    · have hKb : K ≤ 2199030000000 := by
        have := HK.out
        have := kS_le N k0 n HN.out j (by omega)
        omega
      have hK0 : 0 < K := by
        have h1 := HK.out
        have h2 : ∀ i, k0 ≤ kS N k0 i := fun i => by
          induction i with
          | zero => exact Nat.le_refl _
          | succ i ih => rw [kS]; omega
        have := h2 j
        omega
      have hNj := HN.out j hlt
      obtain ⟨hqj, hTj, hcj⟩ := hO.2.2.1 j hlt
      have hT := hO.2.1
      have t0 := hT.cell (j * 7) (by omega)
      have t1 := hT.cell (j * 7 + 1) (by omega)
      have t2 := hT.cell (j * 7 + 2) (by omega)
      have t3 := hT.cell (j * 7 + 3) (by omega)
      have f0 := (hT (j * 7) (by omega)).2
      have f1 := (hT (j * 7 + 1) (by omega)).2
      have f2 := (hT (j * 7 + 2) (by omega)).2
      have f3 := (hT (j * 7 + 3) (by omega)).2
      have HO : Hid (OwnQ wr lo hi b n N C q) := hO
      have HM : Hid (MidB lo hi w wr) := hM
      have HF : Hid (∀ i, i < j → MarkF wr b (q i) i (N i) (C i) (kS N k0 i)) := hF
      have HLT : Hid (j < n) := hlt
      clear hO hM hF hT
      have hi : (j : Int) < (n : Int) := by omega
      have hi0 : (0 : Int) ≤ (j : Int) := by omega
      have e4 : (K : Int) + 1 + 1 + 1 + 1 = ((K + 4 : Nat) : Int) := by omega
      have e3 : (K : Int) + 1 + 1 + 1 = ((K + 3 : Nat) : Int) := by omega
      have e2 : (K : Int) + 1 + 1 = ((K + 2 : Nat) : Int) := by omega
      have e1 : (K : Int) + 1 = ((K + 1 : Nat) : Int) := by omega
      have E := (show Hid _ from (⟨e4, e3, e2, e1⟩ : _ ∧ _ ∧ _ ∧ _))
      clear e4 e3 e2 e1
      go_wp2_with fail
      rw [E.out.1, E.out.2.1, E.out.2.2.1, E.out.2.2.2]
      have hb1 := HO.out.1
      have hql : q j < wr.heap.size := by omega
      have hne : b ≠ q j := fun e => hqj.2.2 e.symm
      refine (markPointS_any (q j) (N j) (C j) (K + 4) _ ((((hTj.store hne).store hne).store hne).store hne) (by simp only [World.size_setCell]; exact hql) hNj (by omega)).mono ?_
      rintro e w5 ⟨rfl, hG5, hT5, hP5⟩
      have hTb5 : There w5 b (n * 7) := (((((HO.out.2.1.set _ _).set _ _).set _ _).set _ _).grown hG5 hne)
      have HG5 := (show Hid _ from hG5)
      have HT5 : Hid (There w5 (q j) (N j * 2)) := hT5
      have HP5 : Hid (PtsAt w5 (q j) 0 (N j) (mkX (K + 4)) (mkY (K + 4))) := hP5
      have HTb5 : Hid (There w5 b (n * 7)) := hTb5
      clear hG5 hT5 hP5 hTb5 t0 t1 t2 t3 f0 f1 f2 f3 hcj
      have hkt : 0 < K + 4 + 2 * N j := by omega
      go_wp2_with fail
      refine (markText_any (K + 4 + 2 * N j) w5 hkt (by omega)).mono ?_
      rintro e w6 ⟨rfl, hb6⟩
      have hT6 := HTb5.out.below hb6
      have t5 := hT6.cell (j * 7 + 5) (by omega)
      have t6 := hT6.cell (j * 7 + 6) (by omega)
      have f5 := (hT6 (j * 7 + 5) (by omega)).2
      have f6 := (hT6 (j * 7 + 6) (by omega)).2
      have HB6 : Hid (Below w5.heap.size w5 w6) := hb6
      clear hT6 hb6
      have hKb2 : ((K + 4 + 2 * N j : Nat) : Int) ≤ 2200000000000 := by omega
      have hKb0 : (0 : Int) ≤ ((K + 4 + 2 * N j : Nat) : Int) := by omega
      have HKE : Hid (((K + 4 + 2 * N j : Nat) : Int) + 1 = ((K + 5 + 2 * N j : Nat) : Int) ∧ ((K + 4 + 2 * N j : Nat) : Int) + 1 + 1 = ((K + 6 + 2 * N j : Nat) : Int)) := ⟨by omega, by omega⟩
      have HM2 : Hid (∀ m : Nat, m = K + 4 + 2 * N j → m = K + 4 + 2 * N j) := fun _ h => h
      obtain ⟨M, hMd⟩ : ∃ M : Nat, M = K + 4 + 2 * N j := ⟨_, rfl⟩
      have HMD : Hid (M = K + 4 + 2 * N j) := hMd
      rw [← hMd] at hKb2 hKb0 ⊢
      clear hMd
      go_wp2
      go_roundw
      case rel =>
        have hMd := HMD.out
        subst hMd
        have hst := mark_step HO.out HLT.out HG5.out HT5.out HP5.out HB6.out HF.out HK.out.symm
        rw [← HKE.out.1] at hst
        obtain ⟨s1, s2, s3⟩ := hst
        refine ⟨j + 1, K + 6 + 2 * N j, by have := HLT.out; omega, by show _ = _; rw [kS, ← HK.out], by congr 1; omega, by go_num, s1, HM.out.trans s2, s3⟩
      case measure => have := HLT.out; simp [intOf]; omega
    · go_wp2
      go_ret
      have hjn : j = n := by omega
      subst hjn
      exact ⟨ret_int (by have := HK.out; omega), hO, hM, hF⟩
set_option maxHeartbeats 8000000 in
theorem heldFs_any (b n cap k0 : Nat) (N C q : Nat → Nat) (w : World) (hF : ∀ i, i < n → MarkF w b (q i) i (N i) (C i) (kS N k0 i)) (hb : b < w.heap.size) (hq : ∀ i, i < n → q i < w.heap.size) (hn : n ≤ 1048576) (hN : ∀ i, i < n → N i ≤ 1048576) (h0 : 0 < k0) (hk0 : k0 ≤ 1000) :
    Calls Tryz.prog 63 #[.slice (some ⟨b, 0, none⟩) n cap, .int .i64 (k0 : Int)] w fun e w' => e = .returned (.int .i64 ((kS N k0 n : Nat) : Int)) ∧ Below w.heap.size w w' := by
  have HF : Hid (∀ i, i < n → MarkF w b (q i) i (N i) (C i) (kS N k0 i)) := hF
  have HN : Hid (∀ i, i < n → N i ≤ 1048576) := hN
  have HQ : Hid (∀ i, i < n → q i < w.heap.size) := hq
  clear hF hN hq
  go_enter Tryz.func63, Tryz.ntmps63
  go_wp2_with fail
  go_loopw [1, 5] (fun kk i wr => ∃ j K : Nat, j ≤ n ∧ Hid (K = kS N k0 j) ∧ kk = .int .i64 (K : Int) ∧ i = .int .i64 (j : Int) ∧ Below w.heap.size w wr) (fun _ i _ => n - (intOf i).toNat)
  case atStart => exact ⟨0, k0, by omega, rfl, rfl, rfl, Below.refl _ _⟩
  case round =>
    obtain ⟨j, K, hj, HK, rfl, rfl, hB⟩ := hrel
    by_cases hlt : j < n
    · have hKb : K ≤ 2199030000000 := by
        have := HK.out
        have := kS_le N k0 n HN.out j (by omega)
        omega
      have hK0 : 0 < K := by
        have h1 := HK.out
        have h2 : ∀ i, k0 ≤ kS N k0 i := fun i => by
          induction i with
          | zero => exact Nat.le_refl _
          | succ i ih => rw [kS]; omega
        have := h2 j
        omega
      have hNj := HN.out j hlt
      have hMF := (HF.out j hlt).below hB hb (HQ.out j hlt)
      rw [← HK.out] at hMF
      have hql : q j < wr.heap.size := Nat.lt_of_lt_of_le (HQ.out j hlt) hB.size
      have e3 : ((K + 3 : Nat) : Int) = (K : Int) + 1 + 1 + 1 := by omega
      have e2 : ((K + 2 : Nat) : Int) = (K : Int) + 1 + 1 := by omega
      have e1 : ((K + 1 : Nat) : Int) = (K : Int) + 1 := by omega
      have hHM : Hid (MarkF wr b (q j) j (N j) (C j) K) := hMF
      obtain ⟨⟨m0, m1, m2, m3, m4, m5, m6⟩, mp⟩ := hMF
      rw [e1] at m1
      rw [e2] at m2
      rw [e3] at m3
      have HP : Hid (PtsAt wr (q j) 0 (N j) (mkX (K + 4)) (mkY (K + 4))) := mp
      have HB : Hid (Below w.heap.size w wr) := hB
      have HLT : Hid (j < n) := hlt
      have hbr : b < wr.heap.size := Nat.lt_of_lt_of_le hb hB.size
      clear hB mp e1 e2 e3
      have hi : (j : Int) < (n : Int) := by omega
      have hi0 : (0 : Int) ≤ (j : Int) := by omega
      have e4 : Hid ((K : Int) + 1 + 1 + 1 + 1 = ((K + 4 : Nat) : Int)) := by show _ = _; omega
      go_wp2_with fail
      rw [e4.out]
      refine (heldPointS_any (q j) (N j) (C j) (K + 4) _ HP.out hql hNj (by omega)).mono ?_
      rintro e w5 ⟨rfl, hb5⟩
      obtain ⟨⟨_, _, _, _, _, x5, x6⟩, _⟩ := hHM.out.below hb5 hbr hql
      have Hb5 : Hid (Below wr.heap.size wr w5) := hb5
      have hbl5 : b < w5.heap.size := Nat.lt_of_lt_of_le hbr hb5.size
      clear hb5 m0 m1 m2 m3 m4 m5 m6
      have hneg : ¬ ((K + 4 + 2 * N j : Nat) : Int) < 0 := by omega
      have hKb2 : ((K + 4 + 2 * N j : Nat) : Int) ≤ 2200000000000 := by omega
      have hKb0 : (0 : Int) ≤ ((K + 4 + 2 * N j : Nat) : Int) := by omega
      have hkt : 0 < K + 4 + 2 * N j := by omega
      have e5 : ((K + 5 + 2 * N j : Nat) : Int) = ((K + 4 + 2 * N j : Nat) : Int) + 1 := by omega
      have HKE : Hid (((K + 4 + 2 * N j : Nat) : Int) + 1 + 1 = ((K + 6 + 2 * N j : Nat) : Int)) := by show _ = _; omega
      rw [e5] at x6
      clear e5
      have HTX : Hid (∀ W, Calls Tryz.prog 33 #[.int .i64 ((K + 4 + 2 * N j : Nat) : Int)] W fun e w' => e = .returned (.string (mTx (K + 4 + 2 * N j))) ∧ Below W.heap.size W w') := fun W => markText_any (K + 4 + 2 * N j) W hkt (by omega)
      generalize mTx (K + 4 + 2 * N j) = tx at x5 HTX
      clear hkt
      obtain ⟨M, hMd⟩ : ∃ M : Nat, M = K + 4 + 2 * N j := ⟨_, rfl⟩
      have HMD : Hid (M = K + 4 + 2 * N j) := hMd
      rw [← hMd] at hKb2 hKb0 hneg x6 HTX ⊢
      clear hMd
      have y5 : ∀ W', Below w5.heap.size w5 W' → W'.cell? ⟨b, j * 7 + 5, none⟩ = some (.string tx) := fun W' h => bl_cell h x5
      have y6 : ∀ W', Below w5.heap.size w5 W' → W'.cell? ⟨b, j * 7 + 6, none⟩ = some (.int .i64 ((M : Int) + 1)) := fun W' h => bl_cell h x6
      clear x5 x6
      have hr5 : Below w5.heap.size w5 w5 := Below.refl _ _
      have htx : (tx.toList == tx.toList) = true := beq_self_eq_true _
      go_wp2_with fail
      go_region_held3 (fun W' => Below w5.heap.size w5 W') ((repeat (first | exact Below.refl _ _ | assumption | refine Below.drew ?_ | refine bl_alloc ?_ _ | refine bl_then ?_ (by assumption) | refine Below.setCell ?_ (by first | omega | (simp; done) | (simp; omega)) _ | refine bl_store ?_ ?_ _ _)))
        (first | (go_at_call 33; refine (HTX.out _).mono ?_; rintro e w' ⟨rfl, hb⟩) | fail)
      go_wp2
      go_roundw
      case rel =>
        have hMd := HMD.out
        refine ⟨j + 1, K + 6 + 2 * N j, by have := HLT.out; omega, by show _ = _; rw [kS, ← HK.out], by congr 1; omega, by go_num, bl_then HB.out (bl_then Hb5.out (by assumption))⟩
      case measure => have := HLT.out; simp [intOf]; omega
    · go_wp2
      go_ret
      have hjn : j = n := by omega
      subst hjn
      exact ⟨ret_int (by have := HK.out; omega), hB⟩
end Go.Proofs.YthadmnhpjklmiaaGreat
/- A block that holds an answer with a code and one thing more. -/

namespace Go.Proofs.YthadmnhpjklmiaaGreat
open Go.RowKit
/-- Block p holds an answer. -/
def R2At (w : World) (p : Nat) (c : Int) (v : Value) : Prop := w.cell? ⟨p, 0, none⟩ = some (.int .i64 c) ∧ w.cell? ⟨p, 1, none⟩ = some v
theorem R2At.below {w w' : World} {p : Nat} {c : Int} {v : Value} (h : R2At w p c v) (hb : Below w.heap.size w w') : R2At w' p c v := ⟨bl_cell hb h.1, bl_cell hb h.2⟩
end Go.Proofs.YthadmnhpjklmiaaGreat
/- Marks of an answer with features. -/

namespace Go.Proofs.YthadmnhpjklmiaaGreat
open Go.RowKit
set_option linter.unusedSimpArgs false
set_option linter.unusedVariables false
set_option maxRecDepth 100000

/-- An answer whose blocks lie from lo to hi. -/
def OwnR (w : World) (lo hi : Nat) (a : Option Addr) (m : Nat) (N C : Nat → Nat) : Prop := m = 0 ∨ ∃ g q, a = some ⟨g, 0, none⟩ ∧ OwnQ w lo hi g m N C q
theorem OwnR.below {w w' : World} {lo hi m : Nat} {a : Option Addr} {N C : Nat → Nat} (h : OwnR w lo hi a m N C) (hb : Below w.heap.size w w') : OwnR w' lo hi a m N C := by
  rcases h with h | ⟨g, q, e, hq⟩
  · exact .inl h
  · exact .inr ⟨g, q, e, hq.below hb⟩
theorem OwnR.away {w w' : World} {lo hi lo' hi' m : Nat} {a : Option Addr} {N C : Nat → Nat} (h : OwnR w lo hi a m N C) (hm : MidB lo' hi' w w') (ho : hi' ≤ lo ∨ hi ≤ lo') : OwnR w' lo hi a m N C := by
  rcases h with h | ⟨g, q, e, hq⟩
  · exact .inl h
  · exact .inr ⟨g, q, e, hq.away hm ho⟩
/-- The features of an answer stay where other blocks are written. -/
theorem isFs_mid {w w' : World} {lo up lo' up' m : Nat} {a : Option Addr} {T : Nat → Feat} (hF : IsFs w a m T) (hO : OwnR w lo' up' a m (fun i => (T i).n) (fun i => (T i).cap)) (hM : MidB lo up w w') (h : up ≤ lo') : IsFs w' a m T := by
  rcases hO with h0 | ⟨g, q, rfl, ⟨h1, h2, h3⟩, hT, hq, _⟩
  · exact .inl h0
  · rcases hF with h0 | ⟨b, off, e, hbl, hFs⟩
    · exact .inl h0
    · injection e with e
      injection e with e1 e2
      subst e1 e2
      refine .inr ⟨g, 0, rfl, Nat.lt_of_lt_of_le hbl hM.size, fun i hi => ?_⟩
      obtain ⟨⟨c0, c1, c2, c3, c4, c5, c6⟩, hp⟩ := hFs i hi
      obtain ⟨⟨q1, q2, q3⟩, q4, q5⟩ := hq i hi
      have ho : g < lo ∨ up ≤ g := .inr (Nat.le_trans h h1)
      refine ⟨⟨hM.cell c0 ho, hM.cell c1 ho, hM.cell c2 ho, hM.cell c3 ho, hM.cell c4 ho, hM.cell c5 ho, hM.cell c6 ho⟩, ?_⟩
      rw [Nat.zero_add] at c4
      rw [q5] at c4
      injection c4 with c4
      injection c4 with c4 _ _
      rcases hp with hp | ⟨b', off', e', hbl', hpt⟩
      · exact .inl hp
      · rw [← c4] at e'
        injection e' with e'
        injection e' with e1' e2'
        refine .inr ⟨b', off', by rw [← c4, e1', e2'], Nat.lt_of_lt_of_le hbl' hM.size, fun x hx => ?_⟩
        have ho' : b' < lo ∨ up ≤ b' := .inr (by omega)
        exact ⟨hM.cell (hpt x hx).1 ho', hM.cell (hpt x hx).2 ho'⟩
/-- The marks of an answer. -/
def MarkR (w : World) (a : Option Addr) (m : Nat) (N C : Nat → Nat) : Prop := m = 0 ∨ ∃ (g : Nat) (q : Nat → Nat), a = some ⟨g, 0, none⟩ ∧ g < w.heap.size ∧ (∀ i, i < m → q i < w.heap.size) ∧ ∀ i, i < m → MarkF w g (q i) i (N i) (C i) (kS N 1 i)
theorem MarkR.below {w w' : World} {a : Option Addr} {m : Nat} {N C : Nat → Nat} (h : MarkR w a m N C) (hb : Below w.heap.size w w') : MarkR w' a m N C := by
  rcases h with h | ⟨g, q, e, h1, h2, h3⟩
  · exact .inl h
  · exact .inr ⟨g, q, e, Nat.lt_of_lt_of_le h1 hb.size, fun i hi => Nat.lt_of_lt_of_le (h2 i hi) hb.size, fun i hi => (h3 i hi).below hb h1 (h2 i hi)⟩

theorem markFs_none (a : Option Addr) (cap : Nat) (k : Int) (w : World) :
    Calls Tryz.prog 12 #[.slice a 0 cap, .int .i64 k] w fun e w' => e = .returned (.int .i64 k) ∧ w = w' := by
  go_enter Tryz.func12, Tryz.ntmps12
  go_wp2_with fail
  go_loopw [1, 5] (fun kk i wr => kk = .int .i64 k ∧ i = .int .i64 0 ∧ w = wr) (fun _ _ _ => 0)
  case atStart => exact ⟨rfl, rfl, rfl⟩
  case round =>
    obtain ⟨rfl, rfl, rfl⟩ := hrel
    go_wp2
    go_ret
    exact ⟨rfl, rfl⟩
theorem heldFs_none (a : Option Addr) (cap : Nat) (k : Int) (w : World) :
    Calls Tryz.prog 63 #[.slice a 0 cap, .int .i64 k] w fun e w' => e = .returned (.int .i64 k) ∧ w = w' := by
  go_enter Tryz.func63, Tryz.ntmps63
  go_wp2_with fail
  go_loopw [1, 5] (fun kk i wr => kk = .int .i64 k ∧ i = .int .i64 0 ∧ w = wr) (fun _ _ _ => 0)
  case atStart => exact ⟨rfl, rfl, rfl⟩
  case round =>
    obtain ⟨rfl, rfl, rfl⟩ := hrel
    go_wp2
    go_ret
    exact ⟨rfl, rfl⟩
theorem markR_any (lo hi : Nat) (a : Option Addr) (m cap : Nat) (N C : Nat → Nat) (w : World) (h : OwnR w lo hi a m N C) (hm : m ≤ 1048576) (hN : ∀ i, i < m → N i ≤ 1048576) :
    Calls Tryz.prog 12 #[.slice a m cap, .int .i64 1] w fun e w' => e = .returned (.int .i64 ((kS N 1 m : Nat) : Int)) ∧ MidB lo hi w w' ∧ MarkR w' a m N C := by
  rcases h with rfl | ⟨g, q, rfl, hq⟩
  · exact (markFs_none a cap 1 w).mono fun e w' ⟨he, hw⟩ => ⟨he, by subst hw; exact MidB.refl _ _ _, .inl rfl⟩
  · refine (markFs_any lo hi g m cap 1 N C q w hq hm hN (by omega) (by omega)).mono fun e w' ⟨he, hO, hM, hF⟩ => ⟨he, hM, .inr ⟨g, q, rfl, ?_, fun i hi => ?_, hF⟩⟩
    · have := hO.1; omega
    · have := hO.1; have := (hO.2.2.1 i hi).1; omega
theorem heldR_any (a : Option Addr) (m cap : Nat) (N C : Nat → Nat) (w : World) (h : MarkR w a m N C) (hm : m ≤ 1048576) (hN : ∀ i, i < m → N i ≤ 1048576) :
    Calls Tryz.prog 63 #[.slice a m cap, .int .i64 1] w fun e w' => e = .returned (.int .i64 ((kS N 1 m : Nat) : Int)) ∧ Below w.heap.size w w' := by
  rcases h with rfl | ⟨g, q, rfl, h1, h2, h3⟩
  · exact (heldFs_none a cap 1 w).mono fun e w' ⟨he, hw⟩ => ⟨he, by subst hw; exact Below.refl _ _⟩
  · exact heldFs_any g m cap 1 N C q w h3 h1 h2 hm hN (by omega) (by omega)
theorem R2At.mid {w w' : World} {lo hi p : Nat} {c : Int} {v : Value} (h : R2At w p c v) (hM : MidB lo hi w w') (ho : p < lo ∨ hi ≤ p) : R2At w' p c v := ⟨hM.cell h.1 ho, hM.cell h.2 ho⟩
end Go.Proofs.YthadmnhpjklmiaaGreat
/- Bytes that came in. -/

namespace Go.Proofs.YthadmnhpjklmiaaGreat
open Go.RowKit
set_option linter.unusedVariables false

/-- The bytes of a code that came in. -/
def IsBytes (w : World) (a : Option Addr) (n : Nat) (Z : Nat → Int) : Prop :=
  n = 0 ∨ ∃ b off, a = some ⟨b, off, none⟩ ∧ b < w.heap.size ∧ ∀ i, i < n → w.cell? ⟨b, off + i, none⟩ = some (.int .u8 (Z i))
theorem IsBytes.below {w w' : World} {a : Option Addr} {n : Nat} {Z : Nat → Int} (h : IsBytes w a n Z) (hb : Below w.heap.size w w') : IsBytes w' a n Z := by
  rcases h with h | ⟨b, off, e, hl, hz⟩
  · exact .inl h
  · exact .inr ⟨b, off, e, Nat.lt_of_lt_of_le hl hb.size, fun i hi => (hb.cell (p := ⟨b, off + i, none⟩) hl).trans (hz i hi)⟩
/-- From the address on lie n bytes. -/
def BsAt (w : World) (b off n : Nat) (Z : Nat → Int) : Prop := ∀ i, i < n → w.cell? ⟨b, off + i, none⟩ = some (.int .u8 (Z i))
theorem BsAt.below {w w' : World} {b off n B : Nat} {Z : Nat → Int} (h : BsAt w b off n Z) (hb : Below B w w') (hB : b < B) : BsAt w' b off n Z := fun i hi => (hb.cell (p := ⟨b, off + i, none⟩) hB).trans (h i hi)
theorem BsAt.is {w : World} {b off n : Nat} {Z : Nat → Int} (h : BsAt w b off n Z) (hb : b < w.heap.size) : IsBytes w (some ⟨b, off, none⟩) n Z := .inr ⟨b, off, rfl, hb, h⟩
end Go.Proofs.YthadmnhpjklmiaaGreat
/- Bytes are copied, compared, marked, and the marks are found again. -/

namespace Go.Proofs.YthadmnhpjklmiaaGreat
open Go.RowKit
set_option linter.unusedSimpArgs false
set_option linter.unusedVariables false
set_option maxRecDepth 100000

theorem There.set1 {W : World} {r n : Nat} (h : There W r n) (o : Nat) (v : Value) : There (W.setCell ⟨r, o, none⟩ v) r n := fun o' ho => by
  obtain ⟨u, hu⟩ := (h o' ho).1
  refine ⟨?_, ?_⟩
  · by_cases e : o = o'
    · subst e
      exact ⟨v, World.cell?_setCell_same _ _ _ (by rw [hu])⟩
    · exact ⟨u, by rw [World.cell?_setCell_other]; exact hu; simp [e]⟩
  · rw [World.frozen?_setCell]; exact (h o' ho).2
theorem fillB {W : World} {B n k : Nat} {Z : Nat → Int} (hT : There W B n) (hk : k < n) (hp : BsAt W B 0 k Z) : BsAt (W.setCell ⟨B, k, none⟩ (.int .u8 (Z k))) B 0 (k + 1) Z := fun i hi => by
  by_cases e : i = k
  · subst e
    obtain ⟨u, hu⟩ := (hT i hk).1
    simpa using World.cell?_setCell_same _ _ _ (by rw [hu])
  · rw [World.cell?_setCell_other]
    · exact hp i (by omega)
    · simp <;> omega
theorem grown_set1 {w w' : World} {b : Nat} (h : w.grownBy w' (some b)) (o : Nat) (v : Value) : w.grownBy (w'.setCell ⟨b, o, none⟩ v) (some b) := by
  have hb : Below b w' (w'.setCell ⟨b, o, none⟩ v) := (Below.refl b w').setCell (Nat.le_refl _) v
  exact ⟨hb.os.trans h.os, hb.tape.trans h.tape, hb.output.trans h.output, Nat.le_trans h.size hb.size, fun k hk hne => (Below.heap_setCell w' ⟨b, o, none⟩ v k (fun e => hne (by simp at e; rw [e]))).trans (h.block k hk hne)⟩
theorem grown_refl1 (w : World) (row : Option Nat) : w.grownBy w row := ⟨rfl, rfl, rfl, Nat.le_refl _, fun _ _ _ => rfl⟩
theorem make_bytes (n : Nat) (h : n ≤ 1048576) (w : World) :
    (Instr.makeSlice 40 (.int .i64 (n : Int)) (.int .i64 (n : Int))).run Tryz.prog w = .ok (.slice (some ⟨w.heap.size, 0, none⟩) n n) (w.alloc (.cells (madeCells #[.int .u8 0] n) 5)) := by
  obtain ⟨i, hi, hz, hs, hb⟩ := info_parts info_u8
  have hr := run_make (P := Tryz.prog) w 40 5 i _ Tryz.underlying40 hi hz .i64 .i64 (n : Int) (n : Int) (by omega) (Int.le_refl _) (by rw [hb]; omega) (by omega)
  simp only [Int.toNat_natCast, hs, Nat.mul_one] at hr
  exact hr
theorem there_madeB (n : Nat) (w : World) (t : TypeId) : There (w.alloc (.cells (madeCells #[.int .u8 0] n) t)) w.heap.size n := fun o ho => by
  have hz := size_madeCells #[.int .u8 0] n
  refine ⟨⟨(madeCells #[.int .u8 0] n)[o]'(by rw [hz]; exact ho), ?_⟩, World.frozen?_alloc_at _ _ _ _ rfl⟩
  rw [World.cell?_alloc_at _ _ _ _ rfl]
  exact Array.getElem?_eq_getElem _

set_option maxHeartbeats 1000000 in
theorem eqByteS_any (a c : Option Addr) (n capa capc : Nat) (Z : Nat → Int) (w : World) (hp : IsBytes w a n Z) (hq : IsBytes w c n Z) (hmax : n ≤ 1048576) :
    Calls Tryz.prog 38 #[.slice a n capa, .slice c n capc] w fun e w' => e = .returned (.bool true) ∧ Below w.heap.size w w' := by
  have HP : Hid (IsBytes w a n Z) := hp
  have HQ : Hid (IsBytes w c n Z) := hq
  clear hp hq
  go_enter Tryz.func38, Tryz.ntmps38
  go_wp2
  go_loopw [5] (fun i wr => ∃ k : Nat, k ≤ n ∧ i = .int .i64 k ∧ Below w.heap.size w wr) (fun i _ => n - (intOf i).toNat)
  case atStart => exact ⟨0, by omega, rfl, Below.refl _ _⟩
  case round =>
    obtain ⟨k, hk, rfl, hB⟩ := hrel
    by_cases hlt : k < n
    · rcases HP.out with h0 | ⟨b, off, rfl, hbl, hpt⟩
      · omega
      rcases HQ.out with h0 | ⟨d, offd, rfl, hdl, hqt⟩
      · omega
      have c0 : ∀ W', Below wr.heap.size wr W' → W'.cell? ⟨b, off + k, none⟩ = some (.int .u8 (Z k)) := fun W' h => by
        rw [h.cell (Nat.lt_of_lt_of_le hbl hB.size)]; exact (hB.cell (p := ⟨b, off + k, none⟩) hbl).trans (hpt k hlt)
      have e0 : ∀ W', Below wr.heap.size wr W' → W'.cell? ⟨d, offd + k, none⟩ = some (.int .u8 (Z k)) := fun W' h => by
        rw [h.cell (Nat.lt_of_lt_of_le hdl hB.size)]; exact (hB.cell (p := ⟨d, offd + k, none⟩) hdl).trans (hqt k hlt)
      have HB : Hid (Below w.heap.size w wr) := hB
      clear hB hpt hqt
      have hi : (k : Int) < (n : Int) := by omega
      have hi0 : (0 : Int) ≤ (k : Int) := by omega
      go_wp2
      go_region_held3 (fun W' => Below wr.heap.size wr W') ((repeat (first | exact Below.refl _ _ | assumption | refine Below.drew ?_ | refine bl_alloc ?_ _ | refine bl_then ?_ (by assumption) | refine Below.setCell ?_ (by first | omega | (simp; done) | (simp; omega)) _ | refine bl_store ?_ ?_ _ _))) (fail)
      go_wp2
      go_roundw
      case rel => exact ⟨k + 1, by omega, by go_num, bl_then HB.out (by assumption)⟩
      case measure => simp [intOf]; omega
    · go_wp2
      go_ret
      exact ⟨rfl, hB⟩
/-- The marks from k0 on. -/
def mkB (k0 i : Nat) : Int := ((k0 + i) % 256 : Nat)
set_option maxHeartbeats 1000000 in
theorem markByteS_any (b n cap k0 : Nat) (w : World) (hT : There w b n) (hb : b < w.heap.size) (hmax : n ≤ 1048576) (hk0 : k0 ≤ 1125899906842624) :
    Calls Tryz.prog 39 #[.slice (some ⟨b, 0, none⟩) n cap, .int .i64 (k0 : Int)] w fun e w' => e = .returned (.int .i64 ((k0 + n : Nat) : Int)) ∧ w.grownBy w' (some b) ∧ There w' b n ∧ BsAt w' b 0 n (mkB k0) := by
  have HT0 : Hid (There w b n) := hT
  clear hT
  go_enter Tryz.func39, Tryz.ntmps39
  go_wp2_with fail
  go_loopw [1, 5] (fun kk i wr => ∃ j K : Nat, j ≤ n ∧ Hid (K = k0 + j) ∧ kk = .int .i64 (K : Int) ∧ i = .int .i64 (j : Int) ∧ w.grownBy wr (some b) ∧ There wr b n ∧ BsAt wr b 0 j (mkB k0)) (fun _ i _ => n - (intOf i).toNat)
  case atStart => exact ⟨0, k0, by omega, rfl, rfl, rfl, grown_refl1 _ _, HT0.out, fun i hi => by omega⟩
  case round =>
    obtain ⟨j, K, hj, HK, rfl, rfl, hG, hT, hP⟩ := hrel
    by_cases hlt : j < n
    · have hKb : K ≤ 1125899908939776 := by have := HK.out; omega
      have t0 := hT.cell j hlt
      have f0 := (hT j hlt).2
      have HT : Hid (There wr b n) := hT
      have HG : Hid (w.grownBy wr (some b)) := hG
      have HP : Hid (BsAt wr b 0 j (mkB k0)) := hP
      clear hT hG hP
      have hi : (j : Int) < (n : Int) := by omega
      have hi0 : (0 : Int) ≤ (j : Int) := by omega
      have hw : IntKind.u8.wrap (K : Int) = mkB k0 j := by have := HK.out; rw [IntKind.wrap_u8]; simp [mkB]; omega
      go_wp2
      go_roundw
      case rel =>
        exact ⟨j + 1, K + 1, by omega, by have := HK.out; show _ = _; omega, by go_num, by go_num, grown_set1 HG.out _ _, HT.out.set1 _ _, fillB HT.out hlt HP.out⟩
      case measure => simp [intOf]; omega
    · go_wp2
      go_ret
      have hjn : j = n := by omega
      subst hjn
      exact ⟨ret_int (by have := HK.out; omega), hG, hT, hP⟩
theorem markByteS_none (a : Option Addr) (cap : Nat) (k : Int) (w : World) : Calls Tryz.prog 39 #[.slice a 0 cap, .int .i64 k] w fun e w' => e = .returned (.int .i64 k) ∧ w = w' := by
  go_enter Tryz.func39, Tryz.ntmps39
  go_wp2_with fail
  go_loopw [1, 5] (fun kk i wr => kk = .int .i64 k ∧ i = .int .i64 0 ∧ w = wr) (fun _ _ _ => 0)
  case atStart => exact ⟨rfl, rfl, rfl⟩
  case round =>
    obtain ⟨rfl, rfl, rfl⟩ := hrel
    go_wp2
    go_ret
    exact ⟨rfl, rfl⟩
set_option maxHeartbeats 1000000 in
theorem heldByteS_any (a : Option Addr) (n cap k0 : Nat) (w : World) (hp : IsBytes w a n (mkB k0)) (hmax : n ≤ 1048576) (hk0 : k0 ≤ 1125899906842624) :
    Calls Tryz.prog 40 #[.slice a n cap, .int .i64 (k0 : Int)] w fun e w' => e = .returned (.int .i64 ((k0 + n : Nat) : Int)) ∧ Below w.heap.size w w' := by
  have HP : Hid (IsBytes w a n (mkB k0)) := hp
  clear hp
  go_enter Tryz.func40, Tryz.ntmps40
  go_wp2_with fail
  go_loopw [1, 5] (fun kk i wr => ∃ j K : Nat, j ≤ n ∧ Hid (K = k0 + j) ∧ kk = .int .i64 (K : Int) ∧ i = .int .i64 (j : Int) ∧ Below w.heap.size w wr) (fun _ i _ => n - (intOf i).toNat)
  case atStart => exact ⟨0, k0, by omega, rfl, rfl, rfl, Below.refl _ _⟩
  case round =>
    obtain ⟨j, K, hj, HK, rfl, rfl, hB⟩ := hrel
    by_cases hlt : j < n
    · rcases HP.out with h0 | ⟨b, off, rfl, hbl, hpt⟩
      · omega
      have hKb : K ≤ 1125899908939776 := by have := HK.out; omega
      have hw : IntKind.u8.wrap (K : Int) = mkB k0 j := by have := HK.out; rw [IntKind.wrap_u8]; simp [mkB]; omega
      have t0 : wr.cell? ⟨b, off + j, none⟩ = some (.int .u8 (mkB k0 j)) := (hB.cell (p := ⟨b, off + j, none⟩) hbl).trans (hpt j hlt)
      have HB : Hid (Below w.heap.size w wr) := hB
      clear hB hpt
      have hi : (j : Int) < (n : Int) := by omega
      have hi0 : (0 : Int) ≤ (j : Int) := by omega
      generalize mkB k0 j = x at *
      go_wp2
      go_roundw
      case rel => exact ⟨j + 1, K + 1, by omega, by have := HK.out; show _ = _; omega, by go_num, by go_num, HB.out⟩
      case measure => simp [intOf]; omega
    · go_wp2
      go_ret
      have hjn : j = n := by omega
      subst hjn
      exact ⟨ret_int (by have := HK.out; omega), hB⟩
end Go.Proofs.YthadmnhpjklmiaaGreat
