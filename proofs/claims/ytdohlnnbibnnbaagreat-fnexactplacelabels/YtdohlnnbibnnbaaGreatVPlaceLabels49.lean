/- Several texts in one. -/
import Derived.Test.YtdohlnnbibnnbaaGreatRows
import Derived.Test.YtdohlnnbibnnbaaGreatVPlaceLabels1
import Derived.WalkKit
import Derived.WalkSpells
import Derived.WalkLawsBesides
import Derived.Outline
import Derived.Deep.RegionHeld3
import Derived.Deep.OwnRows
import Derived.Deep.LoopGhost
import Derived.Laws.OwnMore
import Derived.Laws.IdiomStrings
import Derived.Test.YtdohlnnbibnnbaaGreatVPlaceLabels13

/- Numbers in memory of their own: they are compared, marked, and the marks are found again. -/

namespace Go.Proofs.YtdohlnnbibnnbaaGreat
open Go.RowKit
set_option linter.unusedSimpArgs false
set_option linter.unusedVariables false
set_option maxRecDepth 100000

end Go.Proofs.YtdohlnnbibnnbaaGreat
/- The text of a mark: the same for the same number. -/

namespace Go.Proofs.YtdohlnnbibnnbaaGreat
open Go.RowKit
set_option linter.unusedSimpArgs false
set_option linter.unusedVariables false
set_option maxRecDepth 100000

def dgB (m : Nat) : UInt8 := UInt8.ofNat (48 + m % 10)
theorem dgB_nat (m : Nat) : (dgB m).toNat = 48 + m % 10 := by
  unfold dgB
  rw [UInt8.toNat_ofNat']
  omega
/-- The digits of k, ahead of s. -/
def mDg (k : Nat) (s : ByteArray) : ByteArray := if h : k = 0 then s else mDg (k / 10) (⟨#[dgB k]⟩ ++ s)
termination_by k
decreasing_by omega
def mTx (k : Nat) : ByteArray := ⟨#[109]⟩ ++ mDg k ⟨#[]⟩
set_option maxHeartbeats 2000000 in
theorem markText_any (k : Nat) (w : World) (h0 : 0 < k) (hk : k ≤ 6000000000000000000) :
    Calls Tryz.prog 47 #[.int .i64 (k : Int)] w fun e w' => e = .returned (.string (mTx k)) ∧ Below w.heap.size w w' := by
  have hneg : ¬ (k : Int) ≤ 0 := by omega
  go_enter Tryz.func47, Tryz.ntmps47
  go_wp2
  go_loopw [0, 3] (fun kk o wr => ∃ (m : Nat) (s : ByteArray) (j : Nat), kk = .int .i64 (m : Int) ∧ o = .string s ∧ m ≤ k ∧ mDg m s = mDg k ⟨#[]⟩ ∧ m < 10 ^ j ∧ s.size + j = 20 ∧ Below w.heap.size w wr) (fun kk _ _ => (intOf kk).toNat)
  case atStart => exact ⟨k, ⟨#[]⟩, 20, rfl, rfl, Nat.le_refl _, rfl, by omega, rfl, Below.refl _ _⟩
  case round =>
    obtain ⟨m, s, j, rfl, rfl, hm, hd, hj, hsj, hB⟩ := hrel
    by_cases hz : 0 < m
    · have hz' : (0 : Int) < (m : Int) := by omega
      have HD : Hid (mDg m s = mDg k ⟨#[]⟩) := hd
      have HJ : Hid (m < 10 ^ j) := hj
      clear hd hj
      have hcv : ∀ W B : World, W = B.alloc (.cells #[.int .u8 (48 + (m : Int) % 10)] 5) → (convert 22 9 (.slice (some ⟨B.heap.size, 0, none⟩) 1 1)).run Tryz.prog W = .ok (.string ⟨#[dgB m]⟩) W := fun W B e => by
        subst e
        have h := run_convert_bytes_back (P := Tryz.prog) (B.alloc (.cells #[.int .u8 (48 + (m : Int) % 10)] 5)) 22 9 5 ⟨B.heap.size, 0, none⟩ 1 [dgB m] Tryz.underlying22 Tryz.underlying5 Tryz.underlying9
        refine h (fun j hj => ?_)
        have hj0 : j = 0 := by simpa using hj
        subst hj0
        simp [Addr.add, go_sem, dgB_nat]
      have hcw := hcv _ wr rfl
      clear hcv
      go_wp2
      go_roundw
      case rel =>
        have hjp : 0 < j := by
          rcases Nat.eq_zero_or_pos j with h | h
          · have := HJ.out; rw [h] at this; simp at this; omega
          · exact h
        refine ⟨m / 10, _, j - 1, by simp, rfl, by omega, ?_, ?_, ?_, by (repeat (first | exact Below.refl _ _ | assumption | refine Below.drew ?_ | refine bl_alloc ?_ _ | refine bl_then ?_ (by assumption) | refine Below.setCell ?_ (by first | omega | (simp; done) | (simp; omega)) _ | refine bl_store ?_ ?_ _ _))⟩
        · rw [← HD.out]
          conv => rhs; rw [mDg]
          rw [dif_neg (by omega)]
        · have h1 := HJ.out
          have e : j = (j - 1) + 1 := by omega
          rw [e, Nat.pow_succ] at h1
          omega
        · have e1 : (⟨#[dgB m]⟩ : ByteArray).size = 1 := rfl
          rw [ByteArray.size_append, e1]
          omega
      case measure => simp [intOf]; omega
    · have hm0 : m = 0 := by omega
      subst hm0
      have HE : Hid (s = mDg k ⟨#[]⟩) := by
        show _ = _
        rw [← hd]
        rw [mDg]
        simp
      clear hd hj
      go_wp2
      go_ret
      refine ⟨?_, hB⟩
      have := HE.out
      rw [mTx, ← this]
      rfl
end Go.Proofs.YtdohlnnbibnnbaaGreat
/- Lists of features in memory of their own are marked, and the marks are found again. -/

namespace Go.Proofs.YtdohlnnbibnnbaaGreat
open Go.RowKit
set_option linter.unusedSimpArgs false
set_option linter.unusedVariables false
set_option maxRecDepth 100000

/-- How far the marks have come. -/
def kS (N : Nat → Nat) (k0 : Nat) : Nat → Nat
  | 0 => k0
  | j + 1 => kS N k0 j + 6 + 2 * N j
theorem kS_le (N : Nat → Nat) (k0 n : Nat) (h : ∀ i, i < n → N i ≤ 1048576) : ∀ j, j ≤ n → kS N k0 j ≤ k0 + j * 2097158
  | 0, _ => by simp [kS]
  | j + 1, hj => by
    have := kS_le N k0 n h j (by omega)
    have := h j (by omega)
    rw [kS]; omega
/-- Feature i of the list bears the marks from k on. -/
def MarkF (w : World) (b q i N C k : Nat) : Prop :=
  FeatAt w b (i * 7) ((k : Nat) : Int) ((k + 1 : Nat) : Int) ((k + 2 : Nat) : Int) ((k + 3 : Nat) : Int) (.slice (some ⟨q, 0, none⟩) N C) (mTx (k + 4 + 2 * N)) ((k + 5 + 2 * N : Nat) : Int) ∧ PtsAt w q 0 N (mkX (k + 4)) (mkY (k + 4))
/-- One more feature is marked: what the six stores and the marks of its points leave. -/
theorem mark_step {wr w5 w6 : World} {lo hi b n j k : Nat} {N C q : Nat → Nat} (hO : OwnQ wr lo hi b n N C q) (hj : j < n)
    (hg : World.grownBy ((((wr.setCell ⟨b, j * 7, none⟩ (.int .i64 (k : Nat))).setCell ⟨b, j * 7 + 1, none⟩ (.int .i64 ((k + 1 : Nat) : Int))).setCell ⟨b, j * 7 + 2, none⟩ (.int .i64 ((k + 2 : Nat) : Int))).setCell ⟨b, j * 7 + 3, none⟩ (.int .i64 ((k + 3 : Nat) : Int))) w5 (some (q j)))
    (hT5 : There w5 (q j) (N j * 2)) (hP5 : PtsAt w5 (q j) 0 (N j) (mkX (k + 4)) (mkY (k + 4))) (h56 : Below w5.heap.size w5 w6)
    {N0 : Nat → Nat} {k0 : Nat} (hM : ∀ i, i < j → MarkF wr b (q i) i (N i) (C i) (kS N0 k0 i)) (hk : kS N0 k0 j = k) :
    OwnQ ((w6.setCell ⟨b, j * 7 + 5, none⟩ (.string (mTx (k + 4 + 2 * N j)))).setCell ⟨b, j * 7 + 6, none⟩ (.int .i64 ((k + 5 + 2 * N j : Nat) : Int))) lo hi b n N C q ∧
    MidB lo hi wr ((w6.setCell ⟨b, j * 7 + 5, none⟩ (.string (mTx (k + 4 + 2 * N j)))).setCell ⟨b, j * 7 + 6, none⟩ (.int .i64 ((k + 5 + 2 * N j : Nat) : Int))) ∧
    ∀ i, i < j + 1 → MarkF ((w6.setCell ⟨b, j * 7 + 5, none⟩ (.string (mTx (k + 4 + 2 * N j)))).setCell ⟨b, j * 7 + 6, none⟩ (.int .i64 ((k + 5 + 2 * N j : Nat) : Int))) b (q i) i (N i) (C i) (kS N0 k0 i) := by
  obtain ⟨⟨h1, h2, h3⟩, hTb, hq, hinj⟩ := hO
  have ne : ∀ i j : Nat, i ≠ j → (⟨b, i, none⟩ : Addr) ≠ ⟨b, j, none⟩ := fun i j hij h => hij (by injection h)
  have nb : ∀ (p o o' : Nat), p ≠ b → (⟨b, o, none⟩ : Addr) ≠ ⟨p, o', none⟩ := fun p o o' hp h => hp (by injection h with h; exact h.symm)
  obtain ⟨⟨hqj1, hqj2, hqj3⟩, hTj, hcj⟩ := hq j hj
  generalize hW4 : ((((wr.setCell ⟨b, j * 7, none⟩ (.int .i64 (k : Nat))).setCell ⟨b, j * 7 + 1, none⟩ (.int .i64 ((k + 1 : Nat) : Int))).setCell ⟨b, j * 7 + 2, none⟩ (.int .i64 ((k + 2 : Nat) : Int))).setCell ⟨b, j * 7 + 3, none⟩ (.int .i64 ((k + 3 : Nat) : Int))) = W4 at hg
  have hT4 : There W4 b (n * 7) := by subst hW4; exact ((((hTb.set _ _).set _ _).set _ _).set _ _)
  have hM4 : MidB lo hi wr W4 := by subst hW4; exact ((((MidB.refl lo hi wr).set h1 h2 _ _).set h1 h2 _ _).set h1 h2 _ _).set h1 h2 _ _
  have hT5b : There w5 b (n * 7) := hT4.grown hg (Ne.symm hqj3)
  have hT6 : There w6 b (n * 7) := hT5b.below h56
  generalize hV : ((w6.setCell ⟨b, j * 7 + 5, none⟩ (.string (mTx (k + 4 + 2 * N j)))).setCell ⟨b, j * 7 + 6, none⟩ (.int .i64 ((k + 5 + 2 * N j : Nat) : Int))) = V
  have hTV : There V b (n * 7) := by subst hV; exact (hT6.set _ _).set _ _
  have hMV : MidB lo hi wr V := by
    subst hV
    exact ((hM4.trans ((MidB.of_grown hg hqj1 hqj2).trans (MidB.of_below h56))).set h1 h2 _ _).set h1 h2 _ _
  -- a cell of the row that no store meets
  have hkeep : ∀ o v, wr.cell? ⟨b, o, none⟩ = some v → (o < j * 7 ∨ o = j * 7 + 4 ∨ j * 7 + 6 < o) → V.cell? ⟨b, o, none⟩ = some v := fun o v hv ho => by
    have hv4 : W4.cell? ⟨b, o, none⟩ = some v := by
      subst hW4
      rw [set1_other (ne _ _ (by omega)), set1_other (ne _ _ (by omega)), set1_other (ne _ _ (by omega)), set1_other (ne _ _ (by omega))]
      exact hv
    have hv6 := bl_cell h56 (gr_cell hg hv4 (Ne.symm hqj3))
    subst hV
    rw [set1_other (ne _ _ (by omega)), set1_other (ne _ _ (by omega))]
    exact hv6
  -- what lies in another block
  have hoth : ∀ p, p ≠ b → p ≠ q j → ∀ o v, wr.cell? ⟨p, o, none⟩ = some v → V.cell? ⟨p, o, none⟩ = some v := fun p hp hpq o v hv => by
    have hv4 : W4.cell? ⟨p, o, none⟩ = some v := by
      subst hW4
      rw [set1_other (nb _ _ _ hp), set1_other (nb _ _ _ hp), set1_other (nb _ _ _ hp), set1_other (nb _ _ _ hp)]
      exact hv
    have hv6 := bl_cell h56 (gr_cell hg hv4 hpq)
    subst hV
    rw [set1_other (nb _ _ _ hp), set1_other (nb _ _ _ hp)]
    exact hv6
  have hpt : ∀ p m X Y, p ≠ b → PtsAt w6 p 0 m X Y → PtsAt V p 0 m X Y := fun p m X Y hp h => by
    subst hV
    exact (h.store (Ne.symm hp)).store (Ne.symm hp)
  have hth : ∀ p m, p ≠ b → There w6 p m → There V p m := fun p m hp h => by
    subst hV
    exact (h.store (Ne.symm hp)).store (Ne.symm hp)
  have hql : q j < w5.heap.size := by have := hg.size; have := hM4.size; omega
  refine ⟨⟨⟨h1, h2, Nat.le_trans h3 hMV.size⟩, hTV, fun i hi => ⟨(hq i hi).1, ?_, hkeep _ _ (hq i hi).2.2 (by omega)⟩, hinj⟩, hMV, fun i hi => ?_⟩
  · by_cases e : i = j
    · subst e
      exact hth _ _ hqj3 (hT5.below h56)
    · have hne : q i ≠ q j := fun h => e (hinj i j hi hj h)
      have hne' := (hq i hi).1.2.2
      refine hth _ _ hne' ?_
      have h4 : There W4 (q i) (N i * 2) := by
        subst hW4
        exact ((((hq i hi).2.1.store (Ne.symm hne')).store (Ne.symm hne')).store (Ne.symm hne')).store (Ne.symm hne')
      exact (h4.grown hg hne).below h56
  · by_cases e : i = j
    · subst e
      rw [hk]
      have c4 : ∀ o v, W4.cell? ⟨b, o, none⟩ = some v → o ≠ i * 7 + 5 → o ≠ i * 7 + 6 → V.cell? ⟨b, o, none⟩ = some v := fun o v hv ho ho' => by
        have hv6 := bl_cell h56 (gr_cell hg hv (Ne.symm hqj3))
        subst hV
        rw [set1_other (ne _ _ (Ne.symm ho')), set1_other (ne _ _ (Ne.symm ho))]
        exact hv6
      obtain ⟨u0, g0⟩ := (hTb (i * 7) (by omega)).1
      obtain ⟨u1, g1⟩ := ((hTb.set (i * 7) (.int .i64 (k : Nat))) (i * 7 + 1) (by omega)).1
      obtain ⟨u2, g2⟩ := (((hTb.set (i * 7) (.int .i64 (k : Nat))).set (i * 7 + 1) (.int .i64 ((k + 1 : Nat) : Int))) (i * 7 + 2) (by omega)).1
      obtain ⟨u3, g3⟩ := ((((hTb.set (i * 7) (.int .i64 (k : Nat))).set (i * 7 + 1) (.int .i64 ((k + 1 : Nat) : Int))).set (i * 7 + 2) (.int .i64 ((k + 2 : Nat) : Int))) (i * 7 + 3) (by omega)).1
      obtain ⟨u5, g5⟩ := (hT6 (i * 7 + 5) (by omega)).1
      obtain ⟨u6, g6⟩ := ((hT6.set (i * 7 + 5) (.string (mTx (k + 4 + 2 * N i)))) (i * 7 + 6) (by omega)).1
      refine ⟨⟨c4 _ _ ?_ (by omega) (by omega), c4 _ _ ?_ (by omega) (by omega), c4 _ _ ?_ (by omega) (by omega), c4 _ _ ?_ (by omega) (by omega), hkeep _ _ hcj (by omega), ?_, ?_⟩, hpt _ _ _ _ hqj3 (hP5.below h56 hql)⟩
      · subst hW4; rw [set1_other (ne _ _ (by omega)), set1_other (ne _ _ (by omega)), set1_other (ne _ _ (by omega))]; exact set1_same g0
      · subst hW4; rw [set1_other (ne _ _ (by omega)), set1_other (ne _ _ (by omega))]; exact set1_same g1
      · subst hW4; rw [set1_other (ne _ _ (by omega))]; exact set1_same g2
      · subst hW4; exact set1_same g3
      · subst hV; rw [set1_other (ne _ _ (by omega))]; exact set1_same g5
      · subst hV; exact set1_same g6
    · have hi' : i < j := by omega
      obtain ⟨⟨m0, m1, m2, m3, m4, m5, m6⟩, mp⟩ := hM i hi'
      have hne : q i ≠ q j := fun h => e (hinj i j (by omega) hj h)
      have hne' := (hq i (by omega)).1.2.2
      refine ⟨⟨hkeep _ _ m0 (by omega), hkeep _ _ m1 (by omega), hkeep _ _ m2 (by omega), hkeep _ _ m3 (by omega), hkeep _ _ m4 (by omega), hkeep _ _ m5 (by omega), hkeep _ _ m6 (by omega)⟩, fun x hx => ?_⟩
      exact ⟨hoth _ hne' hne _ _ (mp x hx).1, hoth _ hne' hne _ _ (mp x hx).2⟩
end Go.Proofs.YtdohlnnbibnnbaaGreat
/- The copy of a list of features is its own: no two of its blocks are alike. -/

namespace Go.Proofs.YtdohlnnbibnnbaaGreat
open Go.RowKit
set_option linter.unusedSimpArgs false
set_option linter.unusedVariables false
set_option maxRecDepth 100000

theorem There.lay {W : World} {b n : Nat} (h : There W b n) {B o : Nat} {f : Feat} (hne : B ≠ b) : There (lay7 W B o f) b n := by
  unfold lay7
  exact ((((((h.store hne).store hne).store hne).store hne).store hne).store hne).store hne
theorem ownq_lay {W : World} {B n k q0 hi : Nat} {F : Nat → Feat} {q : Nat → Nat} {f : Feat} (h : OwnQ W B hi B k (fun i => (F i).n) (fun i => (F i).n) q) (hT : There W B (n * 7)) (hk : k < n) (hfa : f.a = some ⟨q0, 0, none⟩) (hfn : f.n = (F k).n) (hfc : f.cap = (F k).n) (h0 : hi ≤ q0) (h1 : q0 < W.heap.size) (hTq : There W q0 ((F k).n * 2)) :
    OwnQ (lay7 W B (k * 7) f) B (lay7 W B (k * 7) f).heap.size B (k + 1) (fun i => (F i).n) (fun i => (F i).n) (fun i => if i = k then q0 else q i) := by
  obtain ⟨⟨a1, a2, a3⟩, a4, a5, a6⟩ := h
  have hsz := lay7_size W B (k * 7) f
  refine ⟨⟨a1, by rw [hsz]; omega, Nat.le_refl _⟩, fun o ho => lay7_there hT o (by omega), fun i hi => ?_, fun i j hi hj e => ?_⟩
  · by_cases e : i = k
    · subst e
      show (B ≤ (if i = i then q0 else q i) ∧ (if i = i then q0 else q i) < _ ∧ (if i = i then q0 else q i) ≠ B) ∧ There _ (if i = i then q0 else q i) ((F i).n * 2) ∧ _ = some (Value.slice (some ⟨(if i = i then q0 else q i), 0, none⟩) (F i).n (F i).n)
      rw [if_pos rfl]
      refine ⟨⟨by omega, by rw [hsz]; exact h1, by omega⟩, hTq.lay (by omega), ?_⟩
      have := (lay7_at (f := f) (o := i * 7) hT (by omega)).2.2.2.2.1
      rw [this, hfa, hfn, hfc]
    · show (B ≤ (if i = k then q0 else q i) ∧ (if i = k then q0 else q i) < _ ∧ (if i = k then q0 else q i) ≠ B) ∧ There _ (if i = k then q0 else q i) ((F i).n * 2) ∧ _ = some (Value.slice (some ⟨(if i = k then q0 else q i), 0, none⟩) (F i).n (F i).n)
      rw [if_neg e]
      obtain ⟨b1, b2, b3⟩ := a5 i (by omega)
      refine ⟨⟨b1.1, by rw [hsz]; omega, b1.2.2⟩, b2.lay (Ne.symm b1.2.2), ?_⟩
      rw [lay7_other (p := ⟨B, i * 7 + 4, none⟩) (.inr (.inl (by show i * 7 + 4 < k * 7; omega)))]
      exact b3
  · by_cases ei : i = k <;> by_cases ej : j = k
    · omega
    · simp only [if_pos ei, if_neg ej] at e
      have := (a5 j (by omega)).1
      omega
    · simp only [if_neg ei, if_pos ej] at e
      have := (a5 i (by omega)).1
      omega
    · simp only [if_neg ei, if_neg ej] at e
      exact a6 i j (by omega) (by omega) e

set_option maxHeartbeats 4000000 in
theorem toFeatureS_own (a : Option Addr) (n cap : Nat) (F : Nat → Feat) (w : World) (hp : IsFs w a n F) (hmax : n ≤ 1048576) (hall : ∀ i, i < n → (F i).n ≤ 1048576) :
    Calls Tryz.prog 17 #[.slice a n cap] w fun e w' => ∃ b G, e = .returned (.slice (some ⟨b, 0, none⟩) n n) ∧ OwnFs w' w.heap.size b n F G ∧ (∃ q, OwnQ w' w.heap.size w'.heap.size b n (fun i => (F i).n) (fun i => (F i).n) q) ∧ Below w.heap.size w w' := by
  have hmk := make_feats n hmax
  have HP : Hid (IsFs w a n F) := hp
  have HA : Hid (∀ i, i < n → (F i).n ≤ 1048576) := hall
  clear hp hall
  go_enter Tryz.func17, Tryz.ntmps17
  go_wp2
  generalize hW : (w.alloc _ : World) = W
  have HB0 : Hid (Below w.heap.size w W) := by show Below _ _ _; subst hW; (repeat (first | exact Below.refl _ _ | assumption | refine Below.drew ?_ | refine bl_alloc ?_ _ | refine bl_then ?_ (by assumption) | refine Below.setCell ?_ (by first | omega | (simp; done) | (simp; omega)) _ | refine bl_store ?_ ?_ _ _))
  have HT0 : Hid (There W w.heap.size (n * 7)) := by show There _ _ _; subst hW; exact there_madeF _ _ _
  have HL0 : Hid (w.heap.size < W.heap.size) := by show _ < _; subst hW; simp
  clear hW hmk
  go_loopw [4] (fun i wr => ∃ (k : Nat) (G : Nat → Feat), k ≤ n ∧ i = .int .i64 k ∧ Below w.heap.size w wr ∧ There wr w.heap.size (n * 7) ∧ OwnFs wr w.heap.size w.heap.size k F G ∧ ∃ q, OwnQ wr w.heap.size wr.heap.size w.heap.size k (fun i => (F i).n) (fun i => (F i).n) q) (fun i _ => n - (intOf i).toNat)
  case atStart => exact ⟨0, F, by omega, rfl, HB0.out, HT0.out, ⟨Nat.le_refl _, HL0.out, fun i hi => by omega, fun i hi => by omega⟩, fun _ => 0, ⟨Nat.le_refl _, HL0.out, Nat.le_refl _⟩, (fun o ho => by omega), (fun i hi => by omega), fun i j hi => by omega⟩
  case round =>
    obtain ⟨k, G, hk, rfl, hB, hT, hO, qq, hQ⟩ := hrel
    by_cases hlt : k < n
    · rcases HP.out with h0 | ⟨b, off, rfl, hbl, hpt⟩
      · omega
      · obtain ⟨⟨f0, f1, f2, f3, f4, f5, f6⟩, hIP⟩ := (hpt.below hB hbl) k hlt
        have HB : Hid (Below w.heap.size w wr) := hB
        have HT : Hid (There wr w.heap.size (n * 7)) := hT
        have HO : Hid (OwnFs wr w.heap.size w.heap.size k F G) := hO
        have HIP : Hid (IsPts wr (F k).a (F k).n (F k).X (F k).Y) := hIP
        have hnk := HA.out k hlt
        have hlw : w.heap.size < wr.heap.size := hO.2.1
        have HQ : Hid (OwnQ wr w.heap.size wr.heap.size w.heap.size k (fun i => (F i).n) (fun i => (F i).n) qq) := hQ
        clear hB hT hO hpt hIP hQ
        have hi : (k : Int) < (n : Int) := by omega
        have hi0 : (0 : Int) ≤ (k : Int) := by omega
        go_wp2_with fail
        refine (toFeature_own _ _ _ _ _ _ _ (F k).X (F k).Y _ _ _ HIP.out hnk).mono ?_
        rintro e w' ⟨q, rfl, hq1, hq2, hq3, hqT, hb⟩
        have HQT : Hid (There w' q ((F k).n * 2)) := hqT
        clear hqT
        have hT' := HT.out.below hb
        have t0 := hT'.cell (k * 7) (by omega)
        have t1 := hT'.cell (k * 7 + 1) (by omega)
        have t2 := hT'.cell (k * 7 + 2) (by omega)
        have t3 := hT'.cell (k * 7 + 3) (by omega)
        have t4 := hT'.cell (k * 7 + 4) (by omega)
        have t5 := hT'.cell (k * 7 + 5) (by omega)
        have t6 := hT'.cell (k * 7 + 6) (by omega)
        have y0 := (hT' (k * 7) (by omega)).2
        have y1 := (hT' (k * 7 + 1) (by omega)).2
        have y2 := (hT' (k * 7 + 2) (by omega)).2
        have y3 := (hT' (k * 7 + 3) (by omega)).2
        have y4 := (hT' (k * 7 + 4) (by omega)).2
        have y5 := (hT' (k * 7 + 5) (by omega)).2
        have y6 := (hT' (k * 7 + 6) (by omega)).2
        have HT' : Hid (There w' w.heap.size (n * 7)) := hT'
        have HQ3 : Hid (PtsAt w' q 0 (F k).n (F k).X (F k).Y) := hq3
        have HBn : Hid (Below wr.heap.size wr w') := hb
        clear hT' hq3 hb f0 f1 f2 f3 f4 f5 f6
        go_wp2
        go_roundw
        case rel =>
          refine ⟨k + 1, fun i => if i = k then { F k with a := some ⟨q, 0, none⟩, cap := (F k).n } else G i, by omega, by go_num, ?_, ?_, ?_, ?_⟩
          · exact lay7_below (f := { F k with a := some ⟨q, 0, none⟩, cap := (F k).n }) (B := w.heap.size) (o := k * 7) (HB.out.trans (HBn.out.mono HB.out.size)) (Nat.le_refl _)
          · exact lay7_there (f := { F k with a := some ⟨q, 0, none⟩, cap := (F k).n }) (B := w.heap.size) (o := k * 7) HT'.out
          · exact own_lay (HO.out.below HBn.out) HT'.out (by omega) (by omega) hq2 HQ3.out (by omega)
          · exact ⟨_, ownq_lay (f := { F k with a := some ⟨q, 0, none⟩, cap := (F k).n }) (HQ.out.below HBn.out) HT'.out (by omega) rfl rfl rfl hq1 hq2 HQT.out⟩
        case measure => simp [intOf]; omega
    · go_wp2
      go_ret
      have hkn : k = n := by omega
      subst hkn
      exact ⟨_, G, rfl, hO, ⟨qq, hQ⟩, hB⟩
end Go.Proofs.YtdohlnnbibnnbaaGreat
