/- The law of SortFeatures: its steps. -/
import Derived.Test.YtijegoheilmmpabKr
import Derived.Test.YtijegoheilmmpabKi
namespace Go.Proofs.Ytijegoheilmmpab
open Go.RowKit
set_option linter.unusedSimpArgs false
set_option linter.unusedVariables false
set_option maxRecDepth 100000

theorem OwnFs.sameN {w : World} {B b n : Nat} {F G : Nat → Feat} (h : OwnFs w B b n F G) : featsC n G = featsC n F ∧ srtM n G = srtM n F ∧ srtF n G = srtF n F := by
  have e : featsC n G = featsC n F := featsC_same (fun j hj => (h.2.2.2 j hj).1)
  refine ⟨e, by unfold srtM; rw [e], ?_⟩
  exact srtK_congr n (fun j hj => ⟨(h.2.2.2 j hj).1.2.1, (h.2.2.2 j hj).1.1⟩)
theorem srtM_le (n : Nat) (F : Nat → Feat) : srtM n F ≤ n := by unfold srtM; split <;> omega
/-- An answer whose blocks lie from lo to hi. -/
def OwnR (w : World) (lo hi : Nat) (a : Option Addr) (m : Nat) (N C : Nat → Nat) : Prop := m = 0 ∨ ∃ g q, a = some ⟨g, 0, none⟩ ∧ OwnQ w lo hi g m N C q
theorem OwnR.below {w w' : World} {lo hi m : Nat} {a : Option Addr} {N C : Nat → Nat} (h : OwnR w lo hi a m N C) (hb : Below w.heap.size w w') : OwnR w' lo hi a m N C := by
  rcases h with h | ⟨g, q, e, hq⟩
  · exact .inl h
  · exact .inr ⟨g, q, e, hq.below hb⟩
theorem OwnR.away {w w' : World} {lo hi lo' hi' m : Nat} {a : Option Addr} {N C : Nat → Nat} (h : OwnR w lo hi a m N C) (hm : MidB lo' hi' w w') (ho : hi' ≤ lo ∨ hi ≤ lo') : OwnR w' lo hi a m N C := by
  rcases h with h | ⟨g, q, e, hq⟩
  · exact .inl h
  · exact .inr ⟨g, q, e, hq.away hm ho⟩
/-- The features of an answer stay where other blocks are written. -/
theorem isFs_mid {w w' : World} {lo up lo' up' m : Nat} {a : Option Addr} {T : Nat → Feat} (hF : IsFs w a m T) (hO : OwnR w lo' up' a m (fun i => (T i).n) (fun i => (T i).cap)) (hM : MidB lo up w w') (h : up ≤ lo') : IsFs w' a m T := by
  rcases hO with h0 | ⟨g, q, rfl, ⟨h1, h2, h3⟩, hT, hq, _⟩
  · exact .inl h0
  · rcases hF with h0 | ⟨b, off, e, hbl, hFs⟩
    · exact .inl h0
    · injection e with e
      injection e with e1 e2
      subst e1 e2
      refine .inr ⟨g, 0, rfl, Nat.lt_of_lt_of_le hbl hM.size, fun i hi => ?_⟩
      obtain ⟨⟨c0, c1, c2, c3, c4, c5, c6⟩, hp⟩ := hFs i hi
      obtain ⟨⟨q1, q2, q3⟩, q4, q5⟩ := hq i hi
      have ho : g < lo ∨ up ≤ g := .inr (Nat.le_trans h h1)
      refine ⟨⟨hM.cell c0 ho, hM.cell c1 ho, hM.cell c2 ho, hM.cell c3 ho, hM.cell c4 ho, hM.cell c5 ho, hM.cell c6 ho⟩, ?_⟩
      rw [Nat.zero_add] at c4
      rw [q5] at c4
      injection c4 with c4
      injection c4 with c4 _ _
      rcases hp with hp | ⟨b', off', e', hbl', hpt⟩
      · exact .inl hp
      · rw [← c4] at e'
        injection e' with e'
        injection e' with e1' e2'
        refine .inr ⟨b', off', by rw [← c4, e1', e2'], Nat.lt_of_lt_of_le hbl' hM.size, fun x hx => ?_⟩
        have ho' : b' < lo ∨ up ≤ b' := .inr (by omega)
        exact ⟨hM.cell (hpt x hx).1 ho', hM.cell (hpt x hx).2 ho'⟩
/-- The marks of an answer. -/
def MarkR (w : World) (a : Option Addr) (m : Nat) (N C : Nat → Nat) : Prop := m = 0 ∨ ∃ (g : Nat) (q : Nat → Nat), a = some ⟨g, 0, none⟩ ∧ g < w.heap.size ∧ (∀ i, i < m → q i < w.heap.size) ∧ ∀ i, i < m → MarkF w g (q i) i (N i) (C i) (kS N 1 i)
theorem MarkR.below {w w' : World} {a : Option Addr} {m : Nat} {N C : Nat → Nat} (h : MarkR w a m N C) (hb : Below w.heap.size w w') : MarkR w' a m N C := by
  rcases h with h | ⟨g, q, e, h1, h2, h3⟩
  · exact .inl h
  · exact .inr ⟨g, q, e, Nat.lt_of_lt_of_le h1 hb.size, fun i hi => Nat.lt_of_lt_of_le (h2 i hi) hb.size, fun i hi => (h3 i hi).below hb h1 (h2 i hi)⟩

theorem markFs_none (a : Option Addr) (cap : Nat) (k : Int) (w : World) :
    Calls Try.prog 13 #[.slice a 0 cap, .int .i64 k] w fun e w' => e = .returned (.int .i64 k) ∧ w = w' := by
  go_enter Try.func13, Try.ntmps13
  go_wp2_with fail
  go_loopw [1, 5] (fun kk i wr => kk = .int .i64 k ∧ i = .int .i64 0 ∧ w = wr) (fun _ _ _ => 0)
  case atStart => exact ⟨rfl, rfl, rfl⟩
  case round =>
    obtain ⟨rfl, rfl, rfl⟩ := hrel
    go_wp2
    go_ret
    exact ⟨rfl, rfl⟩
theorem heldFs_none (a : Option Addr) (cap : Nat) (k : Int) (w : World) :
    Calls Try.prog 44 #[.slice a 0 cap, .int .i64 k] w fun e w' => e = .returned (.int .i64 k) ∧ w = w' := by
  go_enter Try.func44, Try.ntmps44
  go_wp2_with fail
  go_loopw [1, 5] (fun kk i wr => kk = .int .i64 k ∧ i = .int .i64 0 ∧ w = wr) (fun _ _ _ => 0)
  case atStart => exact ⟨rfl, rfl, rfl⟩
  case round =>
    obtain ⟨rfl, rfl, rfl⟩ := hrel
    go_wp2
    go_ret
    exact ⟨rfl, rfl⟩
theorem markR_any (lo hi : Nat) (a : Option Addr) (m cap : Nat) (N C : Nat → Nat) (w : World) (h : OwnR w lo hi a m N C) (hm : m ≤ 1048576) (hN : ∀ i, i < m → N i ≤ 1048576) :
    Calls Try.prog 13 #[.slice a m cap, .int .i64 1] w fun e w' => e = .returned (.int .i64 ((kS N 1 m : Nat) : Int)) ∧ MidB lo hi w w' ∧ MarkR w' a m N C := by
  rcases h with rfl | ⟨g, q, rfl, hq⟩
  · exact (markFs_none a cap 1 w).mono fun e w' ⟨he, hw⟩ => ⟨he, by subst hw; exact MidB.refl _ _ _, .inl rfl⟩
  · refine (markFs_any lo hi g m cap 1 N C q w hq hm hN (by omega) (by omega)).mono fun e w' ⟨he, hO, hM, hF⟩ => ⟨he, hM, .inr ⟨g, q, rfl, ?_, fun i hi => ?_, hF⟩⟩
    · have := hO.1; omega
    · have := hO.1; have := (hO.2.2.1 i hi).1; omega
theorem heldR_any (a : Option Addr) (m cap : Nat) (N C : Nat → Nat) (w : World) (h : MarkR w a m N C) (hm : m ≤ 1048576) (hN : ∀ i, i < m → N i ≤ 1048576) :
    Calls Try.prog 44 #[.slice a m cap, .int .i64 1] w fun e w' => e = .returned (.int .i64 ((kS N 1 m : Nat) : Int)) ∧ Below w.heap.size w w' := by
  rcases h with rfl | ⟨g, q, rfl, h1, h2, h3⟩
  · exact (heldFs_none a cap 1 w).mono fun e w' ⟨he, hw⟩ => ⟨he, by subst hw; exact Below.refl _ _⟩
  · exact heldFs_any g m cap 1 N C q w h3 h1 h2 hm hN (by omega) (by omega)
set_option maxHeartbeats 1000000 in
theorem markFeaturesResult_any (lo hi : Nat) (c : Int) (a : Option Addr) (m cap : Nat) (N C : Nat → Nat) (w : World) (h : OwnR w lo hi a m N C) (hm : m ≤ 1048576) (hN : ∀ i, i < m → N i ≤ 1048576) :
    Calls Try.prog 14 #[.agg #[.int .i64 c, .slice a m cap], .int .i64 1] w fun e w' => e = .returned (.int .i64 ((kS N 1 m : Nat) : Int)) ∧ MidB lo hi w w' ∧ MarkR w' a m N C := by
  have HH : Hid (∀ W, Below w.heap.size w W → Calls Try.prog 13 #[.slice a m cap, .int .i64 1] W fun e w' => e = .returned (.int .i64 ((kS N 1 m : Nat) : Int)) ∧ MidB lo hi W w' ∧ MarkR w' a m N C) := fun W hb => markR_any lo hi a m cap N C W (h.below hb) hm hN
  clear h hN
  generalize ((kS N 1 m : Nat) : Int) = kk at *
  go_enter Try.func14, Try.ntmps14
  go_wp2_with fail
  generalize hW : (w.alloc _ : World) = W
  have HB : Below w.heap.size w W := by subst hW; (repeat (first | exact Below.refl _ _ | assumption | refine Below.drew ?_ | refine bl_alloc ?_ _ | refine bl_then ?_ (by assumption) | refine Below.setCell ?_ (by first | omega | (simp; done) | (simp; omega)) _ | refine bl_store ?_ ?_ _ _))
  clear hW
  refine (HH.out _ HB).mono ?_
  rintro e w' ⟨rfl, hM, hR⟩
  have HM : Hid (MidB lo hi w w') := (MidB.of_below HB).trans hM
  have HR : Hid (MarkR w' a m N C) := hR
  clear hM hR HB
  go_wp2
  go_ret
  exact ⟨rfl, HM.out, HR.out⟩
set_option maxHeartbeats 1000000 in
theorem heldFeaturesResult_any (c : Int) (a : Option Addr) (m cap : Nat) (N C : Nat → Nat) (w : World) (h : MarkR w a m N C) (hm : m ≤ 1048576) (hN : ∀ i, i < m → N i ≤ 1048576) :
    Calls Try.prog 15 #[.agg #[.int .i64 c, .slice a m cap], .int .i64 1] w fun e w' => e = .returned (.int .i64 ((kS N 1 m : Nat) : Int)) ∧ Below w.heap.size w w' := by
  have HH : Hid (∀ W, Below w.heap.size w W → Calls Try.prog 44 #[.slice a m cap, .int .i64 1] W fun e w' => e = .returned (.int .i64 ((kS N 1 m : Nat) : Int)) ∧ Below W.heap.size W w') := fun W hb => heldR_any a m cap N C W (h.below hb) hm hN
  clear h hN
  have hneg : ¬ ((kS N 1 m : Nat) : Int) < 0 := by omega
  generalize ((kS N 1 m : Nat) : Int) = kk at *
  go_enter Try.func15, Try.ntmps15
  go_wp2_with fail
  generalize hW : (w.alloc _ : World) = W
  have HB : Below w.heap.size w W := by subst hW; (repeat (first | exact Below.refl _ _ | assumption | refine Below.drew ?_ | refine bl_alloc ?_ _ | refine bl_then ?_ (by assumption) | refine Below.setCell ?_ (by first | omega | (simp; done) | (simp; omega)) _ | refine bl_store ?_ ?_ _ _))
  clear hW
  refine (HH.out _ HB).mono ?_
  rintro e w' ⟨rfl, hb⟩
  go_wp2
  go_ret
  exact ⟨rfl, bl_then HB hb⟩
/-- Block p holds an answer. -/
def R2At (w : World) (p : Nat) (c : Int) (v : Value) : Prop := w.cell? ⟨p, 0, none⟩ = some (.int .i64 c) ∧ w.cell? ⟨p, 1, none⟩ = some v
theorem R2At.below {w w' : World} {p : Nat} {c : Int} {v : Value} (h : R2At w p c v) (hb : Below w.heap.size w w') : R2At w' p c v := ⟨bl_cell hb h.1, bl_cell hb h.2⟩
theorem R2At.mid {w w' : World} {lo hi p : Nat} {c : Int} {v : Value} (h : R2At w p c v) (hM : MidB lo hi w w') (ho : p < lo ∨ hi ≤ p) : R2At w' p c v := ⟨hM.cell h.1 ho, hM.cell h.2 ho⟩

set_option maxHeartbeats 8000000 in
theorem FnExactSortFeatures_walk (a : Option Addr) (n cap : Nat) (F : Nat → Feat) (w : World) (h : IsFs w a n F ∧ CameFs n F) :
    Calls Try.prog 3 #[.slice a n cap] w fun e w' => e = .returned (.bool true) ∧ Below w.heap.size w w' := by
  obtain ⟨hf, hc⟩ := h
  have HI : Hid (IsFs w a n F) := hf
  have HC : Hid (CameFs n F) := hc
  clear hf hc
  go_enter Try.func3, Try.ntmps3
  go_wp2_with fail
  refine (szFeatureS_any a n cap F 1048576 w (by omega) HI.out HC.out).mono ?_
  rintro e w1 ⟨rfl | ⟨m, hm, hS, rfl⟩, hb1⟩
  · go_wp2
    go_ret
    exact ⟨rfl, hb1⟩
  have HS : Hid (SmallFs n F) := hS
  have hall : Hid (∀ i, i < n → (F i).n ≤ 1048576) := fun i hi => (hS.2 i hi).1
  have hn := hS.1
  have hneg : ¬ ((m : Nat) : Int) < 0 := by omega
  have hB1 : Below w.heap.size w w1 := hb1
  clear hb1 hS
  have hMn : srtM n F ≤ 1048576 := Nat.le_trans (srtM_le n F) hn
  have HNN : Hid (∀ {T : Nat → Feat}, (∀ i, i < srtM n F → (T i).same (F ((srtF n F).getD i 0))) → ∀ i, i < srtM n F → (T i).n ≤ 1048576) := fun {T} hT i hi => by
    rw [(hT i hi).2.2.2.2.1]
    exact hall.out _ (srtF_lt n F i (Nat.lt_of_lt_of_le hi (srtM_le n F)))
  go_wp2_with fail
  refine (toFeatureS_any a n cap F _ (HI.out.below hB1) hn hall.out).mono ?_
  rintro e w2 ⟨b2, G2, rfl, hO2, hb2⟩
  have HO2 : Hid (OwnFs w2 w1.heap.size b2 n F G2) := hO2
  have hB2 : Below w.heap.size w w2 := bl_then hB1 hb2
  clear hO2 hb2
  go_wp2_with fail
  refine (spec_SortFeatures_any b2 n n G2 _ HO2.out.2.2.1 HO2.out.2.1 (HO2.out.small HS.out)).mono ?_
  rintro e w3 ⟨a0, cap0, S0, rfl, hF0, hS0, hb3⟩
  obtain ⟨eC, eM, eL⟩ := HO2.out.sameN
  rw [eM, eL] at hS0
  rw [eM] at hF0
  rw [eC, eM]
  have hs0 : ∀ i, i < srtM n F → (S0 i).same (F ((srtF n F).getD i 0)) := fun i hi => Feat.same_trans (hS0 i hi) (HO2.out.2.2.2 _ (srtF_lt n F i (Nat.lt_of_lt_of_le hi (srtM_le n F)))).1
  have hB3 : Below w.heap.size w w3 := bl_then hB2 hb3
  have HF0 : Hid (IsFs w3 a0 (srtM n F) S0) := hF0
  have HS0 : Hid (∀ i, i < srtM n F → (S0 i).same (F ((srtF n F).getD i 0))) := hs0
  clear hb3 hB2 hB1 HO2 hS0 hF0 hs0 eC eM eL
  obtain ⟨C, hCd⟩ : ∃ C, C = featsC n F := ⟨_, rfl⟩
  have HCD := (show Hid _ from hCd)
  rw [← hCd]
  clear hCd
  obtain ⟨M, hMd⟩ : ∃ M, M = srtM n F := ⟨_, rfl⟩
  have HMD := (show Hid _ from hMd)
  rw [← hMd] at hMn HF0 HS0 HNN ⊢
  clear hMd
  go_wp2_with fail
  generalize hW3 : (w3.alloc _ : World) = w3'
  have hb3' : Below w3.heap.size w3 w3' := by subst hW3; (repeat (first | exact Below.refl _ _ | assumption | refine Below.drew ?_ | refine bl_alloc ?_ _ | refine bl_then ?_ (by assumption) | refine Below.setCell ?_ (by first | omega | (simp; done) | (simp; omega)) _ | refine bl_store ?_ ?_ _ _))
  have HR0 : Hid (R2At w3' w3.heap.size C (.slice a0 M cap0)) := by show R2At _ _ _ _; subst hW3; exact ⟨by simp [go_sem], by simp [go_sem]⟩
  have hs3 : w3.heap.size < w3'.heap.size := by subst hW3; simp
  clear hW3
  have hB3' : Below w.heap.size w w3' := bl_then hB3 hb3'
  have HF3 : Hid (IsFs w3' a0 M S0) := HF0.out.below hb3'
  have hws3 : w.heap.size ≤ w3.heap.size := hB3.size
  clear HF0 hb3' hB3
  refine (toFeatureS_own a n cap F _ (HI.out.below hB3') hn hall.out).mono ?_
  rintro e w4 ⟨b4, G4, rfl, hO4, ⟨q4, hQ4⟩, hb4⟩
  have HO4 : Hid (OwnFs w4 w3'.heap.size b4 n F G4) := hO4
  have HQ4 : Hid (OwnQ w4 w3'.heap.size w4.heap.size b4 n (fun i => (F i).n) (fun i => (F i).n) q4) := hQ4
  have Hb4 : Hid (Below w3'.heap.size w3' w4) := hb4
  have hs4 := hb4.size
  clear hO4 hQ4 hb4
  go_wp2_with fail
  refine (impl_SortFeatures_any b4 n n G4 _ HO4.out.2.2.1 HO4.out.2.1 (HO4.out.small HS.out) (Nat.le_refl _)).mono ?_
  rintro e w5 ⟨a1, cap1, T1, rfl, hcap1, ⟨hF1, hT1, hO1⟩, hb5⟩
  obtain ⟨eC, eM, eL⟩ := HO4.out.sameN
  rw [eM, eL] at hT1
  rw [eM] at hF1 hO1
  rw [eC, eM, ← HCD.out]
  have ht1 : ∀ i, i < srtM n F → (T1 i).same (F ((srtF n F).getD i 0)) := fun i hi => Feat.same_trans (hT1 i hi) (HO4.out.2.2.2 _ (srtF_lt n F i (Nat.lt_of_lt_of_le hi (srtM_le n F)))).1
  rw [← HMD.out] at ht1 hF1 hO1 ⊢
  have HF1 : Hid (IsFs w5 a1 M T1) := hF1
  have HT1 : Hid (∀ i, i < M → (T1 i).same (F ((srtF n F).getD i 0))) := ht1
  have HR1 : Hid (OwnR w5 w4.heap.size w5.heap.size a1 M (fun i => (T1 i).n) (fun i => (T1 i).cap)) := hO1
  have HO5 : Hid (OwnFs w5 w3'.heap.size b4 n F G4) := HO4.out.below hb5
  have HQ5 : Hid (OwnQ w5 w3'.heap.size w4.heap.size b4 n (fun i => (F i).n) (fun i => (F i).n) q4) := HQ4.out.below hb5
  have Hb5 : Hid (Below w3'.heap.size w3' w5) := bl_then Hb4.out hb5
  have hs5 := hb5.size
  clear hb5 hF1 hT1 hO1 ht1 hcap1 HO4 HQ4 Hb4 eC eM eL
  obtain ⟨k0, k1⟩ := HR0.out.below Hb5.out
  have hp0 : w3.heap.size < w5.heap.size := by omega
  go_wp2_with fail
  generalize hW6 : (w5.alloc _ : World) = w6
  have hb6 : Below w5.heap.size w5 w6 := by subst hW6; (repeat (first | exact Below.refl _ _ | assumption | refine Below.drew ?_ | refine bl_alloc ?_ _ | refine bl_then ?_ (by assumption) | refine Below.setCell ?_ (by first | omega | (simp; done) | (simp; omega)) _ | refine bl_store ?_ ?_ _ _))
  have HRg6 : Hid (R2At w6 w5.heap.size C (.slice a1 M cap1)) := by show R2At _ _ _ _; subst hW6; exact ⟨by simp [go_sem], by simp [go_sem]⟩
  have hs6 : w5.heap.size < w6.heap.size := by subst hW6; simp
  clear hW6 k0 k1
  have Hb6 : Hid (Below w3'.heap.size w3' w6) := bl_then Hb5.out hb6
  have HSM : Hid (∀ i, i < M → (T1 i).same (S0 i)) := fun i hi => Feat.same_trans (HT1.out i hi) (Feat.same_symm (HS0.out i hi))
  have HNS : Hid (∀ i, i < M → (S0 i).n ≤ 1048576) := HNN.out HS0.out
  have HNT : Hid (∀ i, i < M → (T1 i).n ≤ 1048576) := HNN.out HT1.out
  refine (eqFeaturesResult_any C a1 a0 M cap1 cap0 T1 S0 w6 (HF1.out.below hb6) (HF3.out.below Hb6.out) HSM.out hMn HNS.out).mono ?_
  rintro e w7 ⟨rfl, hb7⟩
  have hb67 : Below w5.heap.size w5 w7 := bl_then hb6 hb7
  have HF7 : Hid (IsFs w7 a1 M T1) := HF1.out.below hb67
  have HR7 : Hid (OwnR w7 w4.heap.size w5.heap.size a1 M (fun i => (T1 i).n) (fun i => (T1 i).cap)) := HR1.out.below hb67
  have HO7 : Hid (OwnFs w7 w3'.heap.size b4 n F G4) := HO5.out.below hb67
  have HQ7 : Hid (OwnQ w7 w3'.heap.size w4.heap.size b4 n (fun i => (F i).n) (fun i => (F i).n) q4) := HQ5.out.below hb67
  have HRg7 : Hid (R2At w7 w5.heap.size C (.slice a1 M cap1)) := HRg6.out.below hb7
  have Hb7 : Hid (Below w3'.heap.size w3' w7) := bl_then Hb6.out hb7
  have hs7 := hb7.size
  clear hb6 hb7 hb67 HF1 HR1 HO5 HQ5 HRg6 Hb6 Hb5
  have HB3 : Hid (Below w.heap.size w w3') := hB3'
  clear hB3'
  have hws : w.heap.size ≤ w3'.heap.size := HB3.out.size
  go_wp2_with fail
  refine (toFeatureS_any a n cap F _ (HI.out.below (bl_then HB3.out Hb7.out)) hn hall.out).mono ?_
  rintro e w8 ⟨b8, G8, rfl, hO8, hb8⟩
  have HO8 : Hid (OwnFs w8 w7.heap.size b8 n F G8) := hO8
  have Hb8 : Hid (Below w7.heap.size w7 w8) := hb8
  clear hO8 hb8
  go_wp2_with fail
  refine (eqFeatureS_any b4 b8 n _ _ F G4 G8 _ (HO7.out.below Hb8.out) HO8.out HS.out).mono ?_
  rintro e w9 ⟨rfl, hb9⟩
  have hb79 : Below w7.heap.size w7 w9 := bl_then Hb8.out hb9
  have HF9 : Hid (IsFs w9 a1 M T1) := HF7.out.below hb79
  have HR9 : Hid (OwnR w9 w4.heap.size w5.heap.size a1 M (fun i => (T1 i).n) (fun i => (T1 i).cap)) := HR7.out.below hb79
  have HQ9 : Hid (OwnQ w9 w3'.heap.size w4.heap.size b4 n (fun i => (F i).n) (fun i => (F i).n) q4) := HQ7.out.below hb79
  have HRg9 : Hid (R2At w9 w5.heap.size C (.slice a1 M cap1)) := HRg7.out.below hb79
  have Hb9 : Hid (Below w3'.heap.size w3' w9) := bl_then Hb7.out hb79
  have hs9 := hb79.size
  clear hb79 hb9 HF7 HR7 HO7 HQ7 HRg7 Hb7 HO8 Hb8
  go_wp2_with fail
  -- the argument is marked
  refine (markFs_any w3'.heap.size w4.heap.size b4 n n 1 (fun i => (F i).n) (fun i => (F i).n) q4 w9 HQ9.out hn hall.out (by omega) (by omega)).mono ?_
  rintro e wa ⟨rfl, _, hMa, _⟩
  have hsa := hMa.size
  have Hba : Hid (Below w3'.heap.size w3' wa) := Hb9.out.trans (hMa.below (by omega))
  have HFa : Hid (IsFs wa a1 M T1) := isFs_mid HF9.out HR9.out hMa (Nat.le_refl _)
  have HRa : Hid (OwnR wa w4.heap.size w5.heap.size a1 M (fun i => (T1 i).n) (fun i => (T1 i).cap)) := HR9.out.away hMa (.inl (Nat.le_refl _))
  have HRga : Hid (R2At wa w5.heap.size C (.slice a1 M cap1)) := HRg9.out.mid hMa (.inr hs5)
  have hqk : ¬ ((kS (fun i => (F i).n) 1 n : Nat) : Int) < 0 := by omega
  generalize ((kS (fun i => (F i).n) 1 n : Nat) : Int) = qk at *
  clear hMa HF9 HR9 HQ9 HRg9 Hb9
  obtain ⟨g0, g1⟩ := HRga.out
  obtain ⟨p0, p1⟩ := HR0.out.below Hba.out
  go_wp2_with fail
  refine (eqFeaturesResult_any C a1 a0 M cap1 cap0 T1 S0 wa HFa.out (HF3.out.below Hba.out) HSM.out hMn HNS.out).mono ?_
  rintro e wb ⟨rfl, hbb⟩
  have hsb := hbb.size
  have HRb : Hid (OwnR wb w4.heap.size w5.heap.size a1 M (fun i => (T1 i).n) (fun i => (T1 i).cap)) := HRa.out.below hbb
  have HRgb : Hid (R2At wb w5.heap.size C (.slice a1 M cap1)) := HRga.out.below hbb
  have Hbb : Hid (Below w3'.heap.size w3' wb) := bl_then Hba.out hbb
  clear g0 g1 p0 p1 hbb HFa HRa HRga Hba
  obtain ⟨g0, g1⟩ := HRgb.out
  have hqm : ¬ ((kS (fun i => (T1 i).n) 1 M : Nat) : Int) < 0 := by omega
  have Hmark : Hid (Calls Try.prog 14 #[.agg #[.int .i64 C, .slice a1 M cap1], .int .i64 1] wb fun e w' => e = .returned (.int .i64 ((kS (fun i => (T1 i).n) 1 M : Nat) : Int)) ∧ MidB w4.heap.size w5.heap.size wb w' ∧ MarkR w' a1 M (fun i => (T1 i).n) (fun i => (T1 i).cap)) := markFeaturesResult_any _ _ C a1 M cap1 _ _ wb HRb.out hMn HNT.out
  have Hheld : Hid (∀ w, MarkR w a1 M (fun i => (T1 i).n) (fun i => (T1 i).cap) → Calls Try.prog 15 #[.agg #[.int .i64 C, .slice a1 M cap1], .int .i64 1] w fun e w' => e = .returned (.int .i64 ((kS (fun i => (T1 i).n) 1 M : Nat) : Int)) ∧ Below w.heap.size w w') := fun w h => heldFeaturesResult_any C a1 M cap1 _ _ w h hMn HNT.out
  generalize ((kS (fun i => (T1 i).n) 1 M : Nat) : Int) = qm at *
  go_wp2_with fail
  -- the answer is marked
  refine Calls.mono Hmark.out ?_
  rintro e wc ⟨rfl, hMc, hKc⟩
  have hsc := hMc.size
  have Hbc : Hid (Below w3'.heap.size w3' wc) := Hbb.out.trans ((hMc.below (by omega)).mono (by omega))
  have HRgc : Hid (R2At wc w5.heap.size C (.slice a1 M cap1)) := HRgb.out.mid hMc (.inr (Nat.le_refl _))
  have HKc : Hid (MarkR wc a1 M (fun i => (T1 i).n) (fun i => (T1 i).cap)) := hKc
  clear g0 g1 hMc hKc HRb HRgb Hbb Hmark
  obtain ⟨g0, g1⟩ := HRgc.out
  go_wp2_with fail
  refine (Hheld.out _ HKc.out).mono ?_
  rintro e wd ⟨rfl, hbd⟩
  have hsd := hbd.size
  have Hbd : Hid (Below w3'.heap.size w3' wd) := bl_then Hbc.out hbd
  have HRgd : Hid (R2At wd w5.heap.size C (.slice a1 M cap1)) := HRgc.out.below hbd
  have HKd : Hid (MarkR wd a1 M (fun i => (T1 i).n) (fun i => (T1 i).cap)) := HKc.out.below hbd
  clear g0 g1 hbd HRgc HKc Hbc
  go_wp2_with fail
  -- once more
  refine (toFeatureS_any a n cap F _ (HI.out.below (bl_then HB3.out Hbd.out)) hn hall.out).mono ?_
  rintro e we ⟨be, Ge, rfl, hOe, hbe⟩
  have HOe : Hid (OwnFs we wd.heap.size be n F Ge) := hOe
  have Hbe : Hid (Below wd.heap.size wd we) := hbe
  clear hOe hbe
  go_wp2_with fail
  refine (impl_SortFeatures_any be n n Ge _ HOe.out.2.2.1 HOe.out.2.1 (HOe.out.small HS.out) (Nat.le_refl _)).mono ?_
  rintro e wf ⟨af, capf, Tf, rfl, hcapf, ⟨hFf, hTf, _⟩, hbf⟩
  obtain ⟨eC, eM, eL⟩ := HOe.out.sameN
  rw [eM, eL] at hTf
  rw [eM] at hFf
  rw [eC, eM, ← HCD.out]
  have htf : ∀ i, i < srtM n F → (Tf i).same (F ((srtF n F).getD i 0)) := fun i hi => Feat.same_trans (hTf i hi) (HOe.out.2.2.2 _ (srtF_lt n F i (Nat.lt_of_lt_of_le hi (srtM_le n F)))).1
  rw [← HMD.out] at htf hFf ⊢
  have hbdf := bl_then Hbe.out hbf
  have hsf := hbdf.size
  have Hbf : Hid (Below w3'.heap.size w3' wf) := bl_then Hbd.out hbdf
  have HRgf : Hid (R2At wf w5.heap.size C (.slice a1 M cap1)) := HRgd.out.below hbdf
  have HKf : Hid (MarkR wf a1 M (fun i => (T1 i).n) (fun i => (T1 i).cap)) := HKd.out.below hbdf
  have HFf : Hid (IsFs wf af M Tf) := hFf
  have HSf : Hid (∀ i, i < M → (Tf i).same (S0 i)) := fun i hi => Feat.same_trans (htf i hi) (Feat.same_symm (HS0.out i hi))
  clear hbf hFf hTf htf hcapf HOe Hbe hbdf HRgd HKd Hbd eC eM eL
  obtain ⟨p0, p1⟩ := HR0.out.below Hbf.out
  have hpf : w3.heap.size < wf.heap.size := by omega
  go_wp2_with fail
  generalize hWg : (wf.alloc _ : World) = wg
  have hbg : Below wf.heap.size wf wg := by subst hWg; (repeat (first | exact Below.refl _ _ | assumption | refine Below.drew ?_ | refine bl_alloc ?_ _ | refine bl_then ?_ (by assumption) | refine Below.setCell ?_ (by first | omega | (simp; done) | (simp; omega)) _ | refine bl_store ?_ ?_ _ _))
  clear hWg p0 p1
  refine (eqFeaturesResult_any C af a0 M capf cap0 Tf S0 wg (HFf.out.below hbg) (HF3.out.below (bl_then Hbf.out hbg)) HSf.out hMn HNS.out).mono ?_
  rintro e wh ⟨rfl, hbh⟩
  have hbfh := bl_then hbg hbh
  have Hbh : Hid (Below w3'.heap.size w3' wh) := bl_then Hbf.out hbfh
  have HKh : Hid (MarkR wh a1 M (fun i => (T1 i).n) (fun i => (T1 i).cap)) := HKf.out.below hbfh
  obtain ⟨g0, g1⟩ := HRgf.out.below hbfh
  clear hbg hbh hbfh HRgf HKf Hbf HFf
  go_wp2_with fail
  refine (Hheld.out _ HKh.out).mono ?_
  rintro e wi ⟨rfl, hbi⟩
  have HBi : Hid (Below w.heap.size w wi) := bl_then HB3.out (bl_then Hbh.out hbi)
  clear hbi g0 g1
  go_wp2
  go_ret
  exact ⟨rfl, HBi.out⟩
end Go.Proofs.Ytijegoheilmmpab
