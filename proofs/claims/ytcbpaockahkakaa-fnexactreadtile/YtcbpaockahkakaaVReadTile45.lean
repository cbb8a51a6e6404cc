/- The law of ReadTile: its steps. -/
import Derived.Test.YtcbpaockahkakaaVReadTile44
namespace Go.Proofs.Ytcbpaockahkakaa
open Go.RowKit
set_option linter.unusedSimpArgs false
set_option linter.unusedVariables false
set_option maxRecDepth 100000

set_option maxHeartbeats 1000000 in
theorem eqTile_out (z x y : Int) (a a' : Option Addr) (n cap cap' : Nat) (G H : Nat → Feat) (w : World) (hg : IsFs w a n G) (hh : IsFs w a' n H) (hs : ∀ i, i < n → (G i).same (H i)) (hn : n ≤ 1048576) (hk : ∀ i, i < n → (H i).n ≤ 1048576) :
    Calls Try.prog 54 #[.agg #[.int .i64 z, .int .i64 x, .int .i64 y, .slice a n cap], .agg #[.int .i64 z, .int .i64 x, .int .i64 y, .slice a' n cap']] w fun e w' => e = .returned (.bool true) ∧ Below w.heap.size w w' := by
  have HG : Hid (IsFs w a n G) := hg
  have HH : Hid (IsFs w a' n H) := hh
  have HS : Hid (∀ i, i < n → (G i).same (H i)) := hs
  have HK : Hid (∀ i, i < n → (H i).n ≤ 1048576) := hk
  clear hg hh hs hk
  go_enter Try.func54, Try.ntmps54
  go_wp2_with fail
  generalize hW : ((w.alloc _).alloc _ : World) = W
  have hB : Below w.heap.size w W := by subst hW; (repeat (first | exact Below.refl _ _ | assumption | refine Below.drew ?_ | refine bl_alloc ?_ _ | refine bl_then ?_ (by assumption) | refine Below.setCell ?_ (by first | omega | (simp; done) | (simp; omega)) _ | refine bl_store ?_ ?_ _ _))
  have HB : Hid (Below w.heap.size w W) := hB
  have c0 : W.cell? ⟨w.heap.size, 3, none⟩ = some (.slice a n cap) := by subst hW; simp [go_sem]
  have c1 : W.cell? ⟨w.heap.size + 1, 3, none⟩ = some (.slice a' n cap') := by subst hW; simp [go_sem]
  clear hW hB
  refine (eqRef_any z x y _).mono ?_
  rintro e w1 ⟨rfl, hb1⟩
  have d0 := bl_cellB hb1 c0
  have d1 := bl_cellB hb1 c1
  have hB1 := bl_then HB.out hb1
  have HB1 : Hid (Below w.heap.size w w1) := hB1
  have HC := eqFs_any a a' n cap cap' G H w1 (HG.out.below hB1) (HH.out.below hB1) HS.out hn HK.out
  clear c0 c1 hb1 hB1
  go_wp2_with fail
  refine Calls.mono HC ?_
  rintro e w2 ⟨rfl, hb2⟩
  go_wp2
  go_ret
  exact ⟨rfl, bl_then HB1.out hb2⟩
set_option maxHeartbeats 1000000 in
theorem eqTileResult_out (C z x y : Int) (a a' : Option Addr) (n cap cap' : Nat) (G H : Nat → Feat) (w : World) (hg : IsFs w a n G) (hh : IsFs w a' n H) (hs : ∀ i, i < n → (G i).same (H i)) (hn : n ≤ 1048576) (hk : ∀ i, i < n → (H i).n ≤ 1048576) :
    Calls Try.prog 25 #[trV C z x y (.slice a n cap), trV C z x y (.slice a' n cap')] w fun e w' => e = .returned (.bool true) ∧ Below w.heap.size w w' := by
  have HE : Hid (∀ W, Below w.heap.size w W → Calls Try.prog 54 #[.agg #[.int .i64 z, .int .i64 x, .int .i64 y, .slice a n cap], .agg #[.int .i64 z, .int .i64 x, .int .i64 y, .slice a' n cap']] W fun e w' => e = .returned (.bool true) ∧ Below W.heap.size W w') := fun W hb => eqTile_out z x y a a' n cap cap' G H W (hg.below hb) (hh.below hb) hs hn hk
  clear hg hh hs hk
  go_enter Try.func25, Try.ntmps25
  go_wp2_with fail
  refine (HE.out _ (by (repeat (first | exact Below.refl _ _ | assumption | refine Below.drew ?_ | refine bl_alloc ?_ _ | refine bl_then ?_ (by assumption) | refine Below.setCell ?_ (by first | omega | (simp; done) | (simp; omega)) _ | refine bl_store ?_ ?_ _ _)))).mono ?_
  rintro e w2 ⟨rfl, hb2⟩
  go_wp2
  go_ret
  exact ⟨rfl, by (repeat (first | exact Below.refl _ _ | assumption | refine Below.drew ?_ | refine bl_alloc ?_ _ | refine bl_then ?_ (by assumption) | refine Below.setCell ?_ (by first | omega | (simp; done) | (simp; omega)) _ | refine bl_store ?_ ?_ _ _))⟩
set_option maxHeartbeats 1000000 in
theorem markTile_out (lo hi : Nat) (z x y : Int) (a : Option Addr) (m cap : Nat) (N C : Nat → Nat) (w : World) (h : OwnR w lo hi a m N C) (hm : m ≤ 1048576) (hN : ∀ i, i < m → N i ≤ 1048576) :
    Calls Try.prog 55 #[.agg #[.int .i64 z, .int .i64 x, .int .i64 y, .slice a m cap], .int .i64 1] w fun e w' => e = .returned (.int .i64 ((kS N 1 m : Nat) : Int)) ∧ MidB lo hi w w' ∧ MarkR w' a m N C := by
  have HH : Hid (∀ W, Below w.heap.size w W → Calls Try.prog 49 #[.slice a m cap, .int .i64 1] W fun e w' => e = .returned (.int .i64 ((kS N 1 m : Nat) : Int)) ∧ MidB lo hi W w' ∧ MarkR w' a m N C) := fun W hb => markR_any lo hi a m cap N C W (h.below hb) hm hN
  clear h hN
  generalize ((kS N 1 m : Nat) : Int) = kk at *
  go_enter Try.func55, Try.ntmps55
  go_wp2_with fail
  generalize hW : (w.alloc _ : World) = W
  have HB : Below w.heap.size w W := by subst hW; (repeat (first | exact Below.refl _ _ | assumption | refine Below.drew ?_ | refine bl_alloc ?_ _ | refine bl_then ?_ (by assumption) | refine Below.setCell ?_ (by first | omega | (simp; done) | (simp; omega)) _ | refine bl_store ?_ ?_ _ _))
  clear hW
  refine (HH.out _ HB).mono ?_
  rintro e w' ⟨rfl, hM, hR⟩
  have HM : Hid (MidB lo hi w w') := (MidB.of_below HB).trans hM
  have HR : Hid (MarkR w' a m N C) := hR
  clear hM hR HB
  go_wp2
  go_ret
  exact ⟨rfl, HM.out, HR.out⟩
set_option maxHeartbeats 1000000 in
theorem markTileResult_out (lo hi : Nat) (c z x y : Int) (a : Option Addr) (m cap : Nat) (N C : Nat → Nat) (w : World) (h : OwnR w lo hi a m N C) (hm : m ≤ 1048576) (hN : ∀ i, i < m → N i ≤ 1048576) :
    Calls Try.prog 26 #[trV c z x y (.slice a m cap), .int .i64 1] w fun e w' => e = .returned (.int .i64 ((kS N 1 m : Nat) : Int)) ∧ MidB lo hi w w' ∧ MarkR w' a m N C := by
  have HH : Hid (∀ W, Below w.heap.size w W → Calls Try.prog 55 #[.agg #[.int .i64 z, .int .i64 x, .int .i64 y, .slice a m cap], .int .i64 1] W fun e w' => e = .returned (.int .i64 ((kS N 1 m : Nat) : Int)) ∧ MidB lo hi W w' ∧ MarkR w' a m N C) := fun W hb => markTile_out lo hi z x y a m cap N C W (h.below hb) hm hN
  clear h hN
  generalize ((kS N 1 m : Nat) : Int) = kk at *
  go_enter Try.func26, Try.ntmps26
  go_wp2_with fail
  generalize hW : (w.alloc _ : World) = W
  have HB : Below w.heap.size w W := by subst hW; (repeat (first | exact Below.refl _ _ | assumption | refine Below.drew ?_ | refine bl_alloc ?_ _ | refine bl_then ?_ (by assumption) | refine Below.setCell ?_ (by first | omega | (simp; done) | (simp; omega)) _ | refine bl_store ?_ ?_ _ _))
  clear hW
  refine (HH.out _ HB).mono ?_
  rintro e w' ⟨rfl, hM, hR⟩
  have HM : Hid (MidB lo hi w w') := (MidB.of_below HB).trans hM
  have HR : Hid (MarkR w' a m N C) := hR
  clear hM hR HB
  go_wp2
  go_ret
  exact ⟨rfl, HM.out, HR.out⟩
set_option maxHeartbeats 1000000 in
theorem heldTile_out (z x y : Int) (a : Option Addr) (m cap : Nat) (N C : Nat → Nat) (w : World) (h : MarkR w a m N C) (hm : m ≤ 1048576) (hN : ∀ i, i < m → N i ≤ 1048576) :
    Calls Try.prog 56 #[.agg #[.int .i64 z, .int .i64 x, .int .i64 y, .slice a m cap], .int .i64 1] w fun e w' => e = .returned (.int .i64 ((kS N 1 m : Nat) : Int)) ∧ Below w.heap.size w w' := by
  have HH : Hid (∀ W, Below w.heap.size w W → Calls Try.prog 50 #[.slice a m cap, .int .i64 1] W fun e w' => e = .returned (.int .i64 ((kS N 1 m : Nat) : Int)) ∧ Below W.heap.size W w') := fun W hb => heldR_any a m cap N C W (h.below hb) hm hN
  clear h hN
  have hneg : ¬ ((kS N 1 m : Nat) : Int) < 0 := by omega
  generalize ((kS N 1 m : Nat) : Int) = kk at *
  go_enter Try.func56, Try.ntmps56
  go_wp2_with fail
  generalize hW : (w.alloc _ : World) = W
  have HB : Below w.heap.size w W := by subst hW; (repeat (first | exact Below.refl _ _ | assumption | refine Below.drew ?_ | refine bl_alloc ?_ _ | refine bl_then ?_ (by assumption) | refine Below.setCell ?_ (by first | omega | (simp; done) | (simp; omega)) _ | refine bl_store ?_ ?_ _ _))
  clear hW
  refine (HH.out _ HB).mono ?_
  rintro e w' ⟨rfl, hb⟩
  go_wp2
  go_ret
  exact ⟨rfl, bl_then HB hb⟩
set_option maxHeartbeats 1000000 in
theorem heldTileResult_out (c z x y : Int) (a : Option Addr) (m cap : Nat) (N C : Nat → Nat) (w : World) (h : MarkR w a m N C) (hm : m ≤ 1048576) (hN : ∀ i, i < m → N i ≤ 1048576) :
    Calls Try.prog 27 #[trV c z x y (.slice a m cap), .int .i64 1] w fun e w' => e = .returned (.int .i64 ((kS N 1 m : Nat) : Int)) ∧ Below w.heap.size w w' := by
  have HH : Hid (∀ W, Below w.heap.size w W → Calls Try.prog 56 #[.agg #[.int .i64 z, .int .i64 x, .int .i64 y, .slice a m cap], .int .i64 1] W fun e w' => e = .returned (.int .i64 ((kS N 1 m : Nat) : Int)) ∧ Below W.heap.size W w') := fun W hb => heldTile_out z x y a m cap N C W (h.below hb) hm hN
  clear h hN
  have hneg : ¬ ((kS N 1 m : Nat) : Int) < 0 := by omega
  generalize ((kS N 1 m : Nat) : Int) = kk at *
  go_enter Try.func27, Try.ntmps27
  go_wp2_with fail
  generalize hW : (w.alloc _ : World) = W
  have HB : Below w.heap.size w W := by subst hW; (repeat (first | exact Below.refl _ _ | assumption | refine Below.drew ?_ | refine bl_alloc ?_ _ | refine bl_then ?_ (by assumption) | refine Below.setCell ?_ (by first | omega | (simp; done) | (simp; omega)) _ | refine bl_store ?_ ?_ _ _))
  clear hW
  refine (HH.out _ HB).mono ?_
  rintro e w' ⟨rfl, hb⟩
  go_wp2
  go_ret
  exact ⟨rfl, bl_then HB hb⟩
/-- An answer with a tile in memory. -/
def T5At (w : World) (p : Nat) (c z x y : Int) (v : Value) : Prop := w.cell? ⟨p, 0, none⟩ = some (.int .i64 c) ∧ w.cell? ⟨p, 1, none⟩ = some (.int .i64 z) ∧ w.cell? ⟨p, 2, none⟩ = some (.int .i64 x) ∧ w.cell? ⟨p, 3, none⟩ = some (.int .i64 y) ∧ w.cell? ⟨p, 4, none⟩ = some v
theorem T5At.below {w w' : World} {p : Nat} {c z x y : Int} {v : Value} (h : T5At w p c z x y v) (hb : Below w.heap.size w w') : T5At w' p c z x y v :=
  ⟨bl_cellB hb h.1, bl_cellB hb h.2.1, bl_cellB hb h.2.2.1, bl_cellB hb h.2.2.2.1, bl_cellB hb h.2.2.2.2⟩
theorem T5At.mid {w w' : World} {lo hi p : Nat} {c z x y : Int} {v : Value} (h : T5At w p c z x y v) (hM : MidB lo hi w w') (ho : p < lo ∨ hi ≤ p) : T5At w' p c z x y v := ⟨hM.cell h.1 ho, hM.cell h.2.1 ho, hM.cell h.2.2.1 ho, hM.cell h.2.2.2.1 ho, hM.cell h.2.2.2.2 ho⟩
theorem tlL_ok (z x y : Int) (Z : Nat → Int) (n : Nat) : (tlL z x y Z n).length ≤ 12 ∧ ∀ i, i < (tlL z x y Z n).length → (fxG (tlL z x y Z n) i).n ≤ 12 := by
  unfold tlL
  split
  · exact upL_ok Z n
  · exact ⟨by simp, fun i hi => absurd hi (Nat.not_lt_zero _)⟩

set_option maxHeartbeats 8000000 in
theorem FnExactReadTile_walk (z x y : Int) (a : Option Addr) (n cap : Nat) (Z : Nat → Int) (w : World) (h : IsBytes w a n Z ∧ (∀ i, 0 ≤ Z i ∧ Z i ≤ 255) ∧ n ≤ cap) :
    Calls Try.prog 5 #[refV z x y, .slice a n cap] w fun e w' => e = .returned (.bool true) ∧ Below w.heap.size w w' := by
  obtain ⟨hp, hr, hcap⟩ := h
  by_cases hbig : 1048576 < n
  · have hbi : (1048576 : Int) < (n : Int) := by omega
    go_enter Try.func5, Try.ntmps5
    go_wp2
    go_ret
    exact ⟨rfl, by (repeat (first | exact Below.refl _ _ | assumption | refine Below.drew ?_ | refine bl_alloc ?_ _ | refine bl_then ?_ (by assumption) | refine Below.setCell ?_ (by first | omega | (simp; done) | (simp; omega)) _ | refine bl_store ?_ ?_ _ _))⟩
  · have hn : n ≤ 1048576 := by omega
    have hbi : ¬ (1048576 : Int) < (n : Int) := by omega
    obtain ⟨hM12, hN12⟩ := tlL_ok z x y Z n
    have Hs : Hid (∀ b W, BsAt W b 0 n Z → b < W.heap.size → Calls Try.prog 22 #[refV z x y, .slice (some ⟨b, 0, none⟩) n n] W (TlAns (tlC z x y Z n) (tlK z x y Z n z) (tlK z x y Z n x) (tlK z x y Z n y) (tlL z x y Z n) W)) := fun b W h1 h2 => spec_ReadTile_any z x y b n Z W h1 h2 hr hn
    have Hi : Hid (∀ b W, BsAt W b 0 n Z → b < W.heap.size → Calls Try.prog 24 #[refV z x y, .slice (some ⟨b, 0, none⟩) n n] W (TlAns (tlC z x y Z n) (tlK z x y Z n z) (tlK z x y Z n x) (tlK z x y Z n y) (tlL z x y Z n) W)) := fun b W h1 h2 => impl_ReadTile_any z x y b n Z W h1 h2 hr hn
    have HI : Hid (IsBytes w a n Z) := hp
    clear hp hr hbig
    generalize tlC z x y Z n = C at *
    generalize tlK z x y Z n z = z' at *
    generalize tlK z x y Z n x = x' at *
    generalize tlK z x y Z n y = y' at *
    generalize tlL z x y Z n = L at *
    have HNN : Hid (∀ {T : Nat → Feat}, (∀ i, i < L.length → (T i).same (fxG L i)) → ∀ i, i < L.length → (T i).n ≤ 1048576) := fun {T} hT i hi => by
      have h1 := (hT i hi).2.2.2.2.1
      have h2 := hN12 i hi
      omega
    unfold TlAns at Hs Hi
    clear hN12
    generalize fxG L = G at *
    obtain ⟨M, hM⟩ : ∃ M, L.length = M := ⟨_, rfl⟩
    rw [hM] at Hs Hi HNN hM12
    clear hM
    have hMn : M ≤ 1048576 := by omega
    clear hM12
    go_enter Try.func5, Try.ntmps5
    go_wp2_with fail
    generalize hV : (w.alloc _ : World) = V
    have HBV : Hid (Below w.heap.size w V) := by show Below _ _ _; subst hV; (repeat (first | exact Below.refl _ _ | assumption | refine Below.drew ?_ | refine bl_alloc ?_ _ | refine bl_then ?_ (by assumption) | refine Below.setCell ?_ (by first | omega | (simp; done) | (simp; omega)) _ | refine bl_store ?_ ?_ _ _))
    have HCR : Hid (∀ W', Below V.heap.size V W' → W'.cell? ⟨w.heap.size, 0, none⟩ = some (.int .i64 z) ∧ W'.cell? ⟨w.heap.size, 1, none⟩ = some (.int .i64 x) ∧ W'.cell? ⟨w.heap.size, 2, none⟩ = some (.int .i64 y)) := fun W' h => by
      subst hV
      exact ⟨(h.cell (p := ⟨w.heap.size, 0, none⟩) (by simp)).trans (by simp [go_sem]), (h.cell (p := ⟨w.heap.size, 1, none⟩) (by simp)).trans (by simp [go_sem]), (h.cell (p := ⟨w.heap.size, 2, none⟩) (by simp)).trans (by simp [go_sem])⟩
    clear hV
    refine (toRef_any z x y _).mono ?_
    rintro e w0 ⟨rfl, hbv0⟩
    have hBw0 : Below w.heap.size w w0 := bl_then HBV.out hbv0
    go_wp2_with fail
    refine (toByteS_own a n cap Z _ (HI.out.below hBw0) hn).mono ?_
    rintro e w1 ⟨b1, rfl, hle1, hlt1, hp1, ht1, hb1⟩
    have HP1 : Hid (BsAt w1 b1 0 n Z) := hp1
    clear hp1 ht1
    go_wp2_with fail
    refine (Hs.out _ _ HP1.out hlt1).mono ?_
    rintro e w3 ⟨a0, cap0, S0, rfl, hF0, hS0, _, hb3⟩
    have hB3 : Below w.heap.size w w3 := bl_then hBw0 (bl_then hb1 hb3)
    have HV3 : Hid (Below V.heap.size V w3) := bl_then hbv0 (bl_then hb1 hb3)
    have HF0 : Hid (IsFs w3 a0 M S0) := hF0
    have HS0 : Hid (∀ i, i < M → (S0 i).same (G i)) := hS0
    clear hb1 hb3 HP1 hlt1 hle1 hF0 hS0 hbv0 hBw0 HBV
    go_wp2_with fail
    generalize hW3 : (w3.alloc _ : World) = w3'
    have hb3' : Below w3.heap.size w3 w3' := by subst hW3; (repeat (first | exact Below.refl _ _ | assumption | refine Below.drew ?_ | refine bl_alloc ?_ _ | refine bl_then ?_ (by assumption) | refine Below.setCell ?_ (by first | omega | (simp; done) | (simp; omega)) _ | refine bl_store ?_ ?_ _ _))
    have HR0 : Hid (T5At w3' w3.heap.size C z' x' y' (.slice a0 M cap0)) := by show T5At _ _ _ _ _ _ _; subst hW3; exact ⟨by simp [go_sem], by simp [go_sem], by simp [go_sem], by simp [go_sem], by simp [go_sem]⟩
    have hs3 : w3.heap.size < w3'.heap.size := by subst hW3; simp
    clear hW3
    have hB3' : Below w.heap.size w w3' := bl_then hB3 hb3'
    have HF3 : Hid (IsFs w3' a0 M S0) := HF0.out.below hb3'
    have HV3' : Hid (Below V.heap.size V w3') := bl_then HV3.out hb3'
    have hws3 : w.heap.size ≤ w3.heap.size := hB3.size
    clear HF0 hb3' hB3
    refine (toByteS_own a n cap Z _ (HI.out.below hB3') hn).mono ?_
    rintro e wq ⟨b4, rfl, hle4, hltq, hpq, htq, hbq⟩
    obtain ⟨m0, m1, m2⟩ := HCR.out _ (bl_then HV3'.out hbq)
    have HPq : Hid (BsAt wq b4 0 n Z) := hpq
    clear hpq
    go_wp2_with fail
    refine (toRef_any z x y _).mono ?_
    rintro e w4 ⟨rfl, hbr4⟩
    have hlt4 : b4 < w4.heap.size := Nat.lt_of_lt_of_le hltq hbr4.size
    have hb4 : Below w3'.heap.size w3' w4 := bl_then hbq hbr4
    have HP4 : Hid (BsAt w4 b4 0 n Z) := HPq.out.below hbr4 hltq
    have HT4 : Hid (There w4 b4 n) := htq.below hbr4
    have Hb4 : Hid (Below w3'.heap.size w3' w4) := hb4
    have hs4 := hb4.size
    clear htq hb4 hbq hbr4 hltq HPq m0 m1 m2 HV3
    go_wp2_with fail
    refine (Hi.out _ _ HP4.out hlt4).mono ?_
    rintro e w5 ⟨a1, cap1, T1, rfl, hF1, hT1, hO1, hb5⟩
    have HF1 : Hid (IsFs w5 a1 M T1) := hF1
    have HT1 : Hid (∀ i, i < M → (T1 i).same (G i)) := hT1
    have HR1 : Hid (OwnR w5 w4.heap.size w5.heap.size a1 M (fun i => (T1 i).n) (fun i => (T1 i).cap)) := hO1
    have HP5 : Hid (BsAt w5 b4 0 n Z) := HP4.out.below hb5 hlt4
    have HT5 : Hid (There w5 b4 n) := HT4.out.below hb5
    have Hb5 : Hid (Below w3'.heap.size w3' w5) := bl_then Hb4.out hb5
    have hs5 := hb5.size
    clear hb5 hF1 hT1 hO1 HP4 HT4 Hb4
    obtain ⟨k0, k1, k2, k3, k4⟩ := HR0.out.below Hb5.out
    have hp0 : w3.heap.size < w5.heap.size := by omega
    go_wp2_with fail
    generalize hW6 : (w5.alloc _ : World) = w6
    have hb6 : Below w5.heap.size w5 w6 := by subst hW6; (repeat (first | exact Below.refl _ _ | assumption | refine Below.drew ?_ | refine bl_alloc ?_ _ | refine bl_then ?_ (by assumption) | refine Below.setCell ?_ (by first | omega | (simp; done) | (simp; omega)) _ | refine bl_store ?_ ?_ _ _))
    have HRg6 : Hid (T5At w6 w5.heap.size C z' x' y' (.slice a1 M cap1)) := by show T5At _ _ _ _ _ _ _; subst hW6; exact ⟨by simp [go_sem], by simp [go_sem], by simp [go_sem], by simp [go_sem], by simp [go_sem]⟩
    have hs6 : w5.heap.size < w6.heap.size := by subst hW6; simp
    clear hW6 k0 k1 k2 k3 k4
    have Hb6 : Hid (Below w3'.heap.size w3' w6) := bl_then Hb5.out hb6
    have HSM : Hid (∀ i, i < M → (T1 i).same (S0 i)) := fun i hi => Feat.same_trans (HT1.out i hi) (Feat.same_symm (HS0.out i hi))
    have HNS : Hid (∀ i, i < M → (S0 i).n ≤ 1048576) := HNN.out HS0.out
    have HNT : Hid (∀ i, i < M → (T1 i).n ≤ 1048576) := HNN.out HT1.out
    refine (eqTileResult_out C z' x' y' a1 a0 M cap1 cap0 T1 S0 w6 (HF1.out.below hb6) (HF3.out.below Hb6.out) HSM.out hMn HNS.out).mono ?_
    rintro e w7 ⟨rfl, hb7⟩
    have hb67 : Below w5.heap.size w5 w7 := bl_then hb6 hb7
    have HF7 : Hid (IsFs w7 a1 M T1) := HF1.out.below hb67
    have HR7 : Hid (OwnR w7 w4.heap.size w5.heap.size a1 M (fun i => (T1 i).n) (fun i => (T1 i).cap)) := HR1.out.below hb67
    have HP7 : Hid (BsAt w7 b4 0 n Z) := HP5.out.below hb67 (by omega)
    have HT7 : Hid (There w7 b4 n) := HT5.out.below hb67
    have HRg7 : Hid (T5At w7 w5.heap.size C z' x' y' (.slice a1 M cap1)) := HRg6.out.below hb7
    have Hb7 : Hid (Below w3'.heap.size w3' w7) := bl_then Hb6.out hb7
    have hs7 := hb7.size
    clear hb6 hb7 hb67 HF1 HR1 HP5 HT5 HRg6 Hb6 Hb5
    have HB3 : Hid (Below w.heap.size w w3') := hB3'
    clear hB3'
    have hws : w.heap.size ≤ w3'.heap.size := HB3.out.size
    go_wp2_with fail
    refine (toByteS_own a n cap Z _ (HI.out.below (bl_then HB3.out Hb7.out)) hn).mono ?_
    rintro e w8 ⟨b8, rfl, hle8, hlt8, hp8, ht8, hb8⟩
    have HP8 : Hid (BsAt w8 b8 0 n Z) := hp8
    have Hb8 : Hid (Below w7.heap.size w7 w8) := hb8
    have hs8 := hb8.size
    clear hp8 ht8 hb8
    go_wp2_with fail
    refine (eqByteS_any _ _ _ _ _ Z _ ((HP7.out.below Hb8.out (by omega)).is (by omega)) (HP8.out.is hlt8) hn).mono ?_
    rintro e w9 ⟨rfl, hb9⟩
    have hb79 : Below w7.heap.size w7 w9 := bl_then Hb8.out hb9
    have HF9 : Hid (IsFs w9 a1 M T1) := HF7.out.below hb79
    have HR9 : Hid (OwnR w9 w4.heap.size w5.heap.size a1 M (fun i => (T1 i).n) (fun i => (T1 i).cap)) := HR7.out.below hb79
    have HT9 : Hid (There w9 b4 n) := HT7.out.below hb79
    have HRg9 : Hid (T5At w9 w5.heap.size C z' x' y' (.slice a1 M cap1)) := HRg7.out.below hb79
    have Hb9 : Hid (Below w3'.heap.size w3' w9) := bl_then Hb7.out hb79
    have hs9 := hb79.size
    clear hb79 hb9 HF7 HR7 HP7 HT7 HRg7 Hb7 HP8 Hb8
    go_wp2_with fail
    -- the argument is marked
    refine (markByteS_any b4 n _ 1 w9 HT9.out (by omega) hn (by omega)).mono ?_
    rintro e wa ⟨rfl, hGa, _, _⟩
    have hMa : MidB w3'.heap.size w4.heap.size w9 wa := MidB.of_grown hGa hle4 hlt4
    clear hGa
    have hsa := hMa.size
    have Hba : Hid (Below w3'.heap.size w3' wa) := Hb9.out.trans (hMa.below (by omega))
    have HFa : Hid (IsFs wa a1 M T1) := isFs_mid HF9.out HR9.out hMa (Nat.le_refl _)
    have HRa : Hid (OwnR wa w4.heap.size w5.heap.size a1 M (fun i => (T1 i).n) (fun i => (T1 i).cap)) := HR9.out.away hMa (.inl (Nat.le_refl _))
    have HRga : Hid (T5At wa w5.heap.size C z' x' y' (.slice a1 M cap1)) := HRg9.out.mid hMa (.inr hs5)
    have hqk : ¬ ((1 + n : Nat) : Int) < 0 := by omega
    generalize ((1 + n : Nat) : Int) = qk at *
    clear hMa HF9 HR9 HT9 HRg9 Hb9
    obtain ⟨g0, g1, g2, g3, g4⟩ := HRga.out
    obtain ⟨p0, p1, p2, p3, p4⟩ := HR0.out.below Hba.out
    go_wp2_with fail
    refine (eqTileResult_out C z' x' y' a1 a0 M cap1 cap0 T1 S0 wa HFa.out (HF3.out.below Hba.out) HSM.out hMn HNS.out).mono ?_
    rintro e wb ⟨rfl, hbb⟩
    have hsb := hbb.size
    have HRb : Hid (OwnR wb w4.heap.size w5.heap.size a1 M (fun i => (T1 i).n) (fun i => (T1 i).cap)) := HRa.out.below hbb
    have HRgb : Hid (T5At wb w5.heap.size C z' x' y' (.slice a1 M cap1)) := HRga.out.below hbb
    have Hbb : Hid (Below w3'.heap.size w3' wb) := bl_then Hba.out hbb
    clear g0 g1 g2 g3 g4 p0 p1 p2 p3 p4 hbb HFa HRa HRga Hba
    obtain ⟨g0, g1, g2, g3, g4⟩ := HRgb.out
    have hqm : ¬ ((kS (fun i => (T1 i).n) 1 M : Nat) : Int) < 0 := by omega
    have Hmark : Hid (Calls Try.prog 26 #[trV C z' x' y' (.slice a1 M cap1), .int .i64 1] wb fun e w' => e = .returned (.int .i64 ((kS (fun i => (T1 i).n) 1 M : Nat) : Int)) ∧ MidB w4.heap.size w5.heap.size wb w' ∧ MarkR w' a1 M (fun i => (T1 i).n) (fun i => (T1 i).cap)) := markTileResult_out _ _ C z' x' y' a1 M cap1 _ _ wb HRb.out hMn HNT.out
    have Hheld : Hid (∀ w, MarkR w a1 M (fun i => (T1 i).n) (fun i => (T1 i).cap) → Calls Try.prog 27 #[trV C z' x' y' (.slice a1 M cap1), .int .i64 1] w fun e w' => e = .returned (.int .i64 ((kS (fun i => (T1 i).n) 1 M : Nat) : Int)) ∧ Below w.heap.size w w') := fun w h => heldTileResult_out C z' x' y' a1 M cap1 _ _ w h hMn HNT.out
    generalize ((kS (fun i => (T1 i).n) 1 M : Nat) : Int) = qm at *
    go_wp2_with fail
    -- the answer is marked
    refine Calls.mono Hmark.out ?_
    rintro e wc ⟨rfl, hMc, hKc⟩
    have hsc := hMc.size
    have Hbc : Hid (Below w3'.heap.size w3' wc) := Hbb.out.trans ((hMc.below (by omega)).mono (by omega))
    have HRgc : Hid (T5At wc w5.heap.size C z' x' y' (.slice a1 M cap1)) := HRgb.out.mid hMc (.inr (Nat.le_refl _))
    have HKc : Hid (MarkR wc a1 M (fun i => (T1 i).n) (fun i => (T1 i).cap)) := hKc
    clear g0 g1 g2 g3 g4 hMc hKc HRb HRgb Hbb Hmark
    obtain ⟨g0, g1, g2, g3, g4⟩ := HRgc.out
    go_wp2_with fail
    refine (Hheld.out _ HKc.out).mono ?_
    rintro e wd ⟨rfl, hbd⟩
    have hsd := hbd.size
    have Hbd : Hid (Below w3'.heap.size w3' wd) := bl_then Hbc.out hbd
    have HRgd : Hid (T5At wd w5.heap.size C z' x' y' (.slice a1 M cap1)) := HRgc.out.below hbd
    have HKd : Hid (MarkR wd a1 M (fun i => (T1 i).n) (fun i => (T1 i).cap)) := HKc.out.below hbd
    clear g0 g1 g2 g3 g4 hbd HRgc HKc Hbc
    obtain ⟨m0, m1, m2⟩ := HCR.out _ (bl_then HV3'.out Hbd.out)
    go_wp2_with fail
    -- once more
    refine (toRef_any z x y _).mono ?_
    rintro e wr ⟨rfl, hbr⟩
    clear m0 m1 m2
    go_wp2_with fail
    refine (toByteS_own a n cap Z _ (HI.out.below (bl_then HB3.out (bl_then Hbd.out hbr))) hn).mono ?_
    rintro e we ⟨be, rfl, hlee, hlte, hpe, hte, hbe⟩
    have HPe : Hid (BsAt we be 0 n Z) := hpe
    have Hbe : Hid (Below wd.heap.size wd we) := bl_then hbr hbe
    clear hpe hte hbe hbr
    go_wp2_with fail
    refine (Hi.out _ _ HPe.out hlte).mono ?_
    rintro e wf ⟨af, capf, Tf, rfl, hFf, htf, _, hbf⟩
    have hbdf := bl_then Hbe.out hbf
    have hsf := hbdf.size
    have Hbf : Hid (Below w3'.heap.size w3' wf) := bl_then Hbd.out hbdf
    have HRgf : Hid (T5At wf w5.heap.size C z' x' y' (.slice a1 M cap1)) := HRgd.out.below hbdf
    have HKf : Hid (MarkR wf a1 M (fun i => (T1 i).n) (fun i => (T1 i).cap)) := HKd.out.below hbdf
    have HFf : Hid (IsFs wf af M Tf) := hFf
    have HSf : Hid (∀ i, i < M → (Tf i).same (S0 i)) := fun i hi => Feat.same_trans (htf i hi) (Feat.same_symm (HS0.out i hi))
    clear hbf hFf htf HPe Hbe hbdf HRgd HKd Hbd
    obtain ⟨p0, p1, p2, p3, p4⟩ := HR0.out.below Hbf.out
    have hpf : w3.heap.size < wf.heap.size := by omega
    go_wp2_with fail
    generalize hWg : (wf.alloc _ : World) = wg
    have hbg : Below wf.heap.size wf wg := by subst hWg; (repeat (first | exact Below.refl _ _ | assumption | refine Below.drew ?_ | refine bl_alloc ?_ _ | refine bl_then ?_ (by assumption) | refine Below.setCell ?_ (by first | omega | (simp; done) | (simp; omega)) _ | refine bl_store ?_ ?_ _ _))
    clear hWg p0 p1 p2 p3 p4
    refine (eqTileResult_out C z' x' y' af a0 M capf cap0 Tf S0 wg (HFf.out.below hbg) (HF3.out.below (bl_then Hbf.out hbg)) HSf.out hMn HNS.out).mono ?_
    rintro e wh ⟨rfl, hbh⟩
    have hbfh := bl_then hbg hbh
    have Hbh : Hid (Below w3'.heap.size w3' wh) := bl_then Hbf.out hbfh
    have HKh : Hid (MarkR wh a1 M (fun i => (T1 i).n) (fun i => (T1 i).cap)) := HKf.out.below hbfh
    obtain ⟨g0, g1, g2, g3, g4⟩ := HRgf.out.below hbfh
    clear hbg hbh hbfh HRgf HKf Hbf HFf
    go_wp2_with fail
    refine (Hheld.out _ HKh.out).mono ?_
    rintro e wi ⟨rfl, hbi⟩
    have HBi : Hid (Below w.heap.size w wi) := bl_then HB3.out (bl_then Hbh.out hbi)
    clear hbi g0 g1 g2 g3 g4
    go_wp2
    go_ret
    exact ⟨rfl, HBi.out⟩
end Go.Proofs.Ytcbpaockahkakaa
