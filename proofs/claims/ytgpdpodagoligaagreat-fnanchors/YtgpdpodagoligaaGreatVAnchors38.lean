/- Several texts in one. -/
import Derived.Test.YtgpdpodagoligaaGreatVAnchors37
import Derived.Test.YtgpdpodagoligaaGreatVAnchors1
import Derived.Test.YtgpdpodagoligaaGreatRows
import Derived.WalkSpells
import Derived.WalkLawsBesides
import Derived.Outline
import Derived.Laws.IdiomStrings
import Derived.Test.YtgpdpodagoligaaGreatVAnchors10
import Derived.Test.YtgpdpodagoligaaGreatVAnchors6

/- BuildTile of the program, where something has a fault. -/

namespace Go.Proofs.YtgpdpodagoligaaGreat
open Go.RowKit
set_option linter.unusedSimpArgs false
set_option linter.unusedVariables false
set_option maxRecDepth 100000

/-- The code of BuildTile. -/
noncomputable def btC (z x y : Int) (n : Nat) (G : Nat → Feat) : Int := if refB z x y = true then featsC n G else 3
set_option maxHeartbeats 8000000 in
theorem impl_BuildTile_ref (z x y : Int) (v : Value) (va : Option Addr) (vn vc : Nat) (hv : v = .slice va vn vc) (w : World) (hr : refB z x y = false) :
    Calls Tryz.prog 9 #[v, refV z x y] w fun e w' => e = .returned (.agg #[.int .i64 3, .int .i64 0, .int .i64 0, .int .i64 0, .slice none 0 0]) ∧ Below w.heap.size w w' := by
  subst hv
  have HRF : Hid (∀ W', Calls Tryz.prog 18 #[.agg #[.int .i64 z, .int .i64 x, .int .i64 y]] W' fun e w' => e = .returned (.int .i64 3) ∧ Below W'.heap.size W' w') := fun W' => by
    have h := refFault_any z x y W'
    have h0 : refC z x y = 3 := by
      rcases refC_cases z x y with ⟨_, h⟩ | ⟨h, _⟩
      · rw [hr] at h; cases h
      · exact h
    rw [h0] at h
    exact h
  clear hr
  go_enter Tryz.func9, Tryz.ntmps9
  go_wp2_with fail
  generalize hW : (((w.alloc _).alloc _).alloc _ : World) = W
  have HB0 : Hid (Below w.heap.size w W) := by show Below _ _ _; subst hW; (repeat (first | exact Below.refl _ _ | assumption | refine Below.drew ?_ | refine bl_alloc ?_ _ | refine bl_then ?_ (by assumption) | refine Below.setCell ?_ (by first | omega | (simp; done) | (simp; omega)) _ | refine bl_store ?_ ?_ _ _))
  have hlW : W.heap.size = w.heap.size + 3 := by subst hW; simp
  have HT : Hid (There W (w.heap.size + 1) 5) := by
    show There _ _ _
    subst hW
    have := (there5b (w.alloc (.cells #[.int .i64 z, .int .i64 x, .int .i64 y] 35)) (.int .i64 0) (.int .i64 0) (.int .i64 0) (.int .i64 0) (.slice none 0 0) 43).below (bl_alloc (Below.refl _ _) (.cells #[.int .i64 z, .int .i64 x, .int .i64 y, .slice none 0 0] 61))
    simpa using this
  have HTP : Hid (There W (w.heap.size + 1 + 1) 4) := by
    show There _ _ _
    subst hW
    have := there4 ((w.alloc (.cells #[.int .i64 z, .int .i64 x, .int .i64 y] 35)).alloc (.cells #[.int .i64 0, .int .i64 0, .int .i64 0, .int .i64 0, .slice none 0 0] 43)) (.int .i64 z) (.int .i64 x) (.int .i64 y) (.slice none 0 0) 61
    simpa using this
  have HSh : Hid (ShAt W (w.heap.size + 1 + 1) z x y (.slice none 0 0)) := by
    show ShAt _ _ _ _ _ _
    subst hW
    refine ⟨?_, ?_, ?_, ?_⟩ <;> simp [go_sem]
  clear hW
  have s0 := HSh.out.1
  refine Calls.mono (HRF.out _) ?_
  rintro e w1 ⟨rfl, hb1⟩
  have hT1 := HT.out.below hb1
  have HT1 : Hid (There w1 (w.heap.size + 1) 5) := hT1
  have HB1 : Hid (Below w.heap.size w w1) := bl_then HB0.out hb1
  have t0 := hT1.cell 0 (by omega)
  have t1 := hT1.cell 1 (by omega)
  have t2 := hT1.cell 2 (by omega)
  have t3 := hT1.cell 3 (by omega)
  have t4 := hT1.cell 4 (by omega)
  have f0 := (hT1 0 (by omega)).2
  have f1 := (hT1 1 (by omega)).2
  have f2 := (hT1 2 (by omega)).2
  have f3 := (hT1 3 (by omega)).2
  have f4 := (hT1 4 (by omega)).2
  clear hb1 s0 hT1
  go_wp2_with fail
  obtain ⟨q0, q1, q2, q3, q4⟩ := set5_at (a := .int .i64 3) (b := .int .i64 0) (c := .int .i64 0) (d := .int .i64 0) (e := .slice none 0 0) HT1.out
  have hle : w.heap.size ≤ w.heap.size + 1 := Nat.le_succ _
  exact bodyPost_ret (v := .agg #[.int .i64 3, .int .i64 0, .int .i64 0, .int .i64 0, .slice none 0 0]) (by simp [results, Tryz.results9, go_sem, q0, q1, q2, q3, q4]) rfl ⟨rfl, ((((HB1.out.setCell hle _).setCell hle _).setCell hle _).setCell hle _).setCell hle _⟩
set_option maxHeartbeats 8000000 in
theorem impl_BuildTile_fts (z x y : Int) (b n cap : Nat) (G : Nat → Feat) (w : World) (hg : FsAt w b 0 n G) (hbl : b < w.heap.size) (hs : SmallFs n G) (hcap : n ≤ cap) (hf : featsC n G ≠ 0) (hr : refB z x y = true) :
    Calls Tryz.prog 9 #[.slice (some ⟨b, 0, none⟩) n cap, refV z x y] w fun e w' => e = .returned (.agg #[.int .i64 (featsC n G), .int .i64 0, .int .i64 0, .int .i64 0, .slice none 0 0]) ∧ Below w.heap.size w w' := by
  have hm : srtM n G = 0 := if_neg hf
  have HSO : Hid (∀ W, Below w.heap.size w W → Calls Tryz.prog 19 #[.slice (some ⟨b, 0, none⟩) n cap] W fun e w' => ∃ a c, e = .returned (.agg #[.int .i64 (featsC n G), .slice a 0 c]) ∧ Below W.heap.size W w') := fun W hW => (impl_SortFeatures_cap b n cap G W (hg.below hW hbl) (Nat.lt_of_lt_of_le hbl hW.size) hs hcap).mono fun e w' ⟨a, c, T, h1, h2, h3, h4⟩ => ⟨a, c, by rw [h1, hm], h4⟩
  have HRF : Hid (∀ W', Calls Tryz.prog 18 #[.agg #[.int .i64 z, .int .i64 x, .int .i64 y]] W' fun e w' => e = .returned (.int .i64 0) ∧ Below W'.heap.size W' w') := fun W' => by
    have h := refFault_any z x y W'
    have h0 : refC z x y = 0 := by
      rcases refC_cases z x y with ⟨h, _⟩ | ⟨_, h⟩
      · exact h
      · rw [hr] at h; cases h
    rw [h0] at h
    exact h
  have hcb : (featsC n G == 0) = false := by simpa using hf
  generalize featsC n G = fc at *
  clear hg hs hr hm
  go_enter Tryz.func9, Tryz.ntmps9
  go_wp2_with fail
  generalize hW : (((w.alloc _).alloc _).alloc _ : World) = W
  have HB0 : Hid (Below w.heap.size w W) := by show Below _ _ _; subst hW; (repeat (first | exact Below.refl _ _ | assumption | refine Below.drew ?_ | refine bl_alloc ?_ _ | refine bl_then ?_ (by assumption) | refine Below.setCell ?_ (by first | omega | (simp; done) | (simp; omega)) _ | refine bl_store ?_ ?_ _ _))
  have hlW : W.heap.size = w.heap.size + 3 := by subst hW; simp
  have HT : Hid (There W (w.heap.size + 1) 5) := by
    show There _ _ _
    subst hW
    have := (there5b (w.alloc (.cells #[.int .i64 z, .int .i64 x, .int .i64 y] 35)) (.int .i64 0) (.int .i64 0) (.int .i64 0) (.int .i64 0) (.slice none 0 0) 43).below (bl_alloc (Below.refl _ _) (.cells #[.int .i64 z, .int .i64 x, .int .i64 y, .slice none 0 0] 61))
    simpa using this
  have HTP : Hid (There W (w.heap.size + 1 + 1) 4) := by
    show There _ _ _
    subst hW
    have := there4 ((w.alloc (.cells #[.int .i64 z, .int .i64 x, .int .i64 y] 35)).alloc (.cells #[.int .i64 0, .int .i64 0, .int .i64 0, .int .i64 0, .slice none 0 0] 43)) (.int .i64 z) (.int .i64 x) (.int .i64 y) (.slice none 0 0) 61
    simpa using this
  have HSh : Hid (ShAt W (w.heap.size + 1 + 1) z x y (.slice none 0 0)) := by
    show ShAt _ _ _ _ _ _
    subst hW
    refine ⟨?_, ?_, ?_, ?_⟩ <;> simp [go_sem]
  clear hW
  have s0 := HSh.out.1
  refine Calls.mono (HRF.out _) ?_
  rintro e w1 ⟨rfl, hb1⟩
  have HB1 : Hid (Below w.heap.size w w1) := bl_then HB0.out hb1
  have HT1 : Hid (There w1 (w.heap.size + 1) 5) := HT.out.below hb1
  clear hb1 s0
  go_wp2_with fail
  refine Calls.mono (HSO.out _ HB1.out) ?_
  rintro e w2 ⟨a, c, rfl, hb2⟩
  have hT2 := HT1.out.below (bl_alloc hb2 (.cells #[.int .i64 fc, .slice a 0 c] 64))
  have HT2 : Hid (There (w2.alloc (.cells #[.int .i64 fc, .slice a 0 c] 64)) (w.heap.size + 1) 5) := hT2
  have HB2 : Hid (Below w.heap.size w (w2.alloc (.cells #[.int .i64 fc, .slice a 0 c] 64))) := bl_alloc (bl_then HB1.out hb2) _
  have t0 := hT2.cell 0 (by omega)
  have t1 := hT2.cell 1 (by omega)
  have t2 := hT2.cell 2 (by omega)
  have t3 := hT2.cell 3 (by omega)
  have t4 := hT2.cell 4 (by omega)
  have f0 := (hT2 0 (by omega)).2
  have f1 := (hT2 1 (by omega)).2
  have f2 := (hT2 2 (by omega)).2
  have f3 := (hT2 3 (by omega)).2
  have f4 := (hT2 4 (by omega)).2
  clear hb2 hT2
  go_wp2_with fail
  obtain ⟨q0, q1, q2, q3, q4⟩ := set5_at (a := .int .i64 fc) (b := .int .i64 0) (c := .int .i64 0) (d := .int .i64 0) (e := .slice none 0 0) HT2.out
  have hle : w.heap.size ≤ w.heap.size + 1 := Nat.le_succ _
  exact bodyPost_ret (v := .agg #[.int .i64 fc, .int .i64 0, .int .i64 0, .int .i64 0, .slice none 0 0]) (by simp [results, Tryz.results9, go_sem, q0, q1, q2, q3, q4]) rfl ⟨rfl, ((((HB2.out.setCell hle _).setCell hle _).setCell hle _).setCell hle _).setCell hle _⟩
end Go.Proofs.YtgpdpodagoligaaGreat
/- The text of a mark: the same for the same number. -/

namespace Go.Proofs.YtgpdpodagoligaaGreat
open Go.RowKit
set_option linter.unusedSimpArgs false
set_option linter.unusedVariables false
set_option maxRecDepth 100000

def dgB (m : Nat) : UInt8 := UInt8.ofNat (48 + m % 10)
theorem dgB_nat (m : Nat) : (dgB m).toNat = 48 + m % 10 := by
  unfold dgB
  rw [UInt8.toNat_ofNat']
  omega
/-- The digits of k, ahead of s. -/
def mDg (k : Nat) (s : ByteArray) : ByteArray := if h : k = 0 then s else mDg (k / 10) (⟨#[dgB k]⟩ ++ s)
termination_by k
decreasing_by omega
def mTx (k : Nat) : ByteArray := ⟨#[109]⟩ ++ mDg k ⟨#[]⟩
end Go.Proofs.YtgpdpodagoligaaGreat
/- Lists of features in memory of their own are marked, and the marks are found again. -/

namespace Go.Proofs.YtgpdpodagoligaaGreat
open Go.RowKit
set_option linter.unusedSimpArgs false
set_option linter.unusedVariables false
set_option maxRecDepth 100000

/-- How far the marks have come. -/
def kS (N : Nat → Nat) (k0 : Nat) : Nat → Nat
  | 0 => k0
  | j + 1 => kS N k0 j + 6 + 2 * N j
theorem kS_le (N : Nat → Nat) (k0 n : Nat) (h : ∀ i, i < n → N i ≤ 1048576) : ∀ j, j ≤ n → kS N k0 j ≤ k0 + j * 2097158
  | 0, _ => by simp [kS]
  | j + 1, hj => by
    have := kS_le N k0 n h j (by omega)
    have := h j (by omega)
    rw [kS]; omega
/-- Feature i of the list bears the marks from k on. -/
def MarkF (w : World) (b q i N C k : Nat) : Prop :=
  FeatAt w b (i * 7) ((k : Nat) : Int) ((k + 1 : Nat) : Int) ((k + 2 : Nat) : Int) ((k + 3 : Nat) : Int) (.slice (some ⟨q, 0, none⟩) N C) (mTx (k + 4 + 2 * N)) ((k + 5 + 2 * N : Nat) : Int) ∧ PtsAt w q 0 N (mkX (k + 4)) (mkY (k + 4))
theorem MarkF.below {w w' : World} {b q i N C k : Nat} (h : MarkF w b q i N C k) (hb : Below w.heap.size w w') (h1 : b < w.heap.size) (h2 : q < w.heap.size) : MarkF w' b q i N C k := ⟨h.1.below hb h1, h.2.below hb h2⟩

/-- One more feature is marked: what the six stores and the marks of its points leave. -/
theorem mark_step {wr w5 w6 : World} {lo hi b n j k : Nat} {N C q : Nat → Nat} (hO : OwnQ wr lo hi b n N C q) (hj : j < n)
    (hg : World.grownBy ((((wr.setCell ⟨b, j * 7, none⟩ (.int .i64 (k : Nat))).setCell ⟨b, j * 7 + 1, none⟩ (.int .i64 ((k + 1 : Nat) : Int))).setCell ⟨b, j * 7 + 2, none⟩ (.int .i64 ((k + 2 : Nat) : Int))).setCell ⟨b, j * 7 + 3, none⟩ (.int .i64 ((k + 3 : Nat) : Int))) w5 (some (q j)))
    (hT5 : There w5 (q j) (N j * 2)) (hP5 : PtsAt w5 (q j) 0 (N j) (mkX (k + 4)) (mkY (k + 4))) (h56 : Below w5.heap.size w5 w6)
    {N0 : Nat → Nat} {k0 : Nat} (hM : ∀ i, i < j → MarkF wr b (q i) i (N i) (C i) (kS N0 k0 i)) (hk : kS N0 k0 j = k) :
    OwnQ ((w6.setCell ⟨b, j * 7 + 5, none⟩ (.string (mTx (k + 4 + 2 * N j)))).setCell ⟨b, j * 7 + 6, none⟩ (.int .i64 ((k + 5 + 2 * N j : Nat) : Int))) lo hi b n N C q ∧
    MidB lo hi wr ((w6.setCell ⟨b, j * 7 + 5, none⟩ (.string (mTx (k + 4 + 2 * N j)))).setCell ⟨b, j * 7 + 6, none⟩ (.int .i64 ((k + 5 + 2 * N j : Nat) : Int))) ∧
    ∀ i, i < j + 1 → MarkF ((w6.setCell ⟨b, j * 7 + 5, none⟩ (.string (mTx (k + 4 + 2 * N j)))).setCell ⟨b, j * 7 + 6, none⟩ (.int .i64 ((k + 5 + 2 * N j : Nat) : Int))) b (q i) i (N i) (C i) (kS N0 k0 i) := by
  obtain ⟨⟨h1, h2, h3⟩, hTb, hq, hinj⟩ := hO
  have ne : ∀ i j : Nat, i ≠ j → (⟨b, i, none⟩ : Addr) ≠ ⟨b, j, none⟩ := fun i j hij h => hij (by injection h)
  have nb : ∀ (p o o' : Nat), p ≠ b → (⟨b, o, none⟩ : Addr) ≠ ⟨p, o', none⟩ := fun p o o' hp h => hp (by injection h with h; exact h.symm)
  obtain ⟨⟨hqj1, hqj2, hqj3⟩, hTj, hcj⟩ := hq j hj
  generalize hW4 : ((((wr.setCell ⟨b, j * 7, none⟩ (.int .i64 (k : Nat))).setCell ⟨b, j * 7 + 1, none⟩ (.int .i64 ((k + 1 : Nat) : Int))).setCell ⟨b, j * 7 + 2, none⟩ (.int .i64 ((k + 2 : Nat) : Int))).setCell ⟨b, j * 7 + 3, none⟩ (.int .i64 ((k + 3 : Nat) : Int))) = W4 at hg
  have hT4 : There W4 b (n * 7) := by subst hW4; exact ((((hTb.set _ _).set _ _).set _ _).set _ _)
  have hM4 : MidB lo hi wr W4 := by subst hW4; exact ((((MidB.refl lo hi wr).set h1 h2 _ _).set h1 h2 _ _).set h1 h2 _ _).set h1 h2 _ _
  have hT5b : There w5 b (n * 7) := hT4.grown hg (Ne.symm hqj3)
  have hT6 : There w6 b (n * 7) := hT5b.below h56
  generalize hV : ((w6.setCell ⟨b, j * 7 + 5, none⟩ (.string (mTx (k + 4 + 2 * N j)))).setCell ⟨b, j * 7 + 6, none⟩ (.int .i64 ((k + 5 + 2 * N j : Nat) : Int))) = V
  have hTV : There V b (n * 7) := by subst hV; exact (hT6.set _ _).set _ _
  have hMV : MidB lo hi wr V := by
    subst hV
    exact ((hM4.trans ((MidB.of_grown hg hqj1 hqj2).trans (MidB.of_below h56))).set h1 h2 _ _).set h1 h2 _ _
  -- a cell of the row that no store meets
  have hkeep : ∀ o v, wr.cell? ⟨b, o, none⟩ = some v → (o < j * 7 ∨ o = j * 7 + 4 ∨ j * 7 + 6 < o) → V.cell? ⟨b, o, none⟩ = some v := fun o v hv ho => by
    have hv4 : W4.cell? ⟨b, o, none⟩ = some v := by
      subst hW4
      rw [set1_other (ne _ _ (by omega)), set1_other (ne _ _ (by omega)), set1_other (ne _ _ (by omega)), set1_other (ne _ _ (by omega))]
      exact hv
    have hv6 := bl_cell h56 (gr_cell hg hv4 (Ne.symm hqj3))
    subst hV
    rw [set1_other (ne _ _ (by omega)), set1_other (ne _ _ (by omega))]
    exact hv6
  -- what lies in another block
  have hoth : ∀ p, p ≠ b → p ≠ q j → ∀ o v, wr.cell? ⟨p, o, none⟩ = some v → V.cell? ⟨p, o, none⟩ = some v := fun p hp hpq o v hv => by
    have hv4 : W4.cell? ⟨p, o, none⟩ = some v := by
      subst hW4
      rw [set1_other (nb _ _ _ hp), set1_other (nb _ _ _ hp), set1_other (nb _ _ _ hp), set1_other (nb _ _ _ hp)]
      exact hv
    have hv6 := bl_cell h56 (gr_cell hg hv4 hpq)
    subst hV
    rw [set1_other (nb _ _ _ hp), set1_other (nb _ _ _ hp)]
    exact hv6
  have hpt : ∀ p m X Y, p ≠ b → PtsAt w6 p 0 m X Y → PtsAt V p 0 m X Y := fun p m X Y hp h => by
    subst hV
    exact (h.store (Ne.symm hp)).store (Ne.symm hp)
  have hth : ∀ p m, p ≠ b → There w6 p m → There V p m := fun p m hp h => by
    subst hV
    exact (h.store (Ne.symm hp)).store (Ne.symm hp)
  have hql : q j < w5.heap.size := by have := hg.size; have := hM4.size; omega
  refine ⟨⟨⟨h1, h2, Nat.le_trans h3 hMV.size⟩, hTV, fun i hi => ⟨(hq i hi).1, ?_, hkeep _ _ (hq i hi).2.2 (by omega)⟩, hinj⟩, hMV, fun i hi => ?_⟩
  · by_cases e : i = j
    · subst e
      exact hth _ _ hqj3 (hT5.below h56)
    · have hne : q i ≠ q j := fun h => e (hinj i j hi hj h)
      have hne' := (hq i hi).1.2.2
      refine hth _ _ hne' ?_
      have h4 : There W4 (q i) (N i * 2) := by
        subst hW4
        exact ((((hq i hi).2.1.store (Ne.symm hne')).store (Ne.symm hne')).store (Ne.symm hne')).store (Ne.symm hne')
      exact (h4.grown hg hne).below h56
  · by_cases e : i = j
    · subst e
      rw [hk]
      have c4 : ∀ o v, W4.cell? ⟨b, o, none⟩ = some v → o ≠ i * 7 + 5 → o ≠ i * 7 + 6 → V.cell? ⟨b, o, none⟩ = some v := fun o v hv ho ho' => by
        have hv6 := bl_cell h56 (gr_cell hg hv (Ne.symm hqj3))
        subst hV
        rw [set1_other (ne _ _ (Ne.symm ho')), set1_other (ne _ _ (Ne.symm ho))]
        exact hv6
      obtain ⟨u0, g0⟩ := (hTb (i * 7) (by omega)).1
      obtain ⟨u1, g1⟩ := ((hTb.set (i * 7) (.int .i64 (k : Nat))) (i * 7 + 1) (by omega)).1
      obtain ⟨u2, g2⟩ := (((hTb.set (i * 7) (.int .i64 (k : Nat))).set (i * 7 + 1) (.int .i64 ((k + 1 : Nat) : Int))) (i * 7 + 2) (by omega)).1
      obtain ⟨u3, g3⟩ := ((((hTb.set (i * 7) (.int .i64 (k : Nat))).set (i * 7 + 1) (.int .i64 ((k + 1 : Nat) : Int))).set (i * 7 + 2) (.int .i64 ((k + 2 : Nat) : Int))) (i * 7 + 3) (by omega)).1
      obtain ⟨u5, g5⟩ := (hT6 (i * 7 + 5) (by omega)).1
      obtain ⟨u6, g6⟩ := ((hT6.set (i * 7 + 5) (.string (mTx (k + 4 + 2 * N i)))) (i * 7 + 6) (by omega)).1
      refine ⟨⟨c4 _ _ ?_ (by omega) (by omega), c4 _ _ ?_ (by omega) (by omega), c4 _ _ ?_ (by omega) (by omega), c4 _ _ ?_ (by omega) (by omega), hkeep _ _ hcj (by omega), ?_, ?_⟩, hpt _ _ _ _ hqj3 (hP5.below h56 hql)⟩
      · subst hW4; rw [set1_other (ne _ _ (by omega)), set1_other (ne _ _ (by omega)), set1_other (ne _ _ (by omega))]; exact set1_same g0
      · subst hW4; rw [set1_other (ne _ _ (by omega)), set1_other (ne _ _ (by omega))]; exact set1_same g1
      · subst hW4; rw [set1_other (ne _ _ (by omega))]; exact set1_same g2
      · subst hW4; exact set1_same g3
      · subst hV; rw [set1_other (ne _ _ (by omega))]; exact set1_same g5
      · subst hV; exact set1_same g6
    · have hi' : i < j := by omega
      obtain ⟨⟨m0, m1, m2, m3, m4, m5, m6⟩, mp⟩ := hM i hi'
      have hne : q i ≠ q j := fun h => e (hinj i j (by omega) hj h)
      have hne' := (hq i (by omega)).1.2.2
      refine ⟨⟨hkeep _ _ m0 (by omega), hkeep _ _ m1 (by omega), hkeep _ _ m2 (by omega), hkeep _ _ m3 (by omega), hkeep _ _ m4 (by omega), hkeep _ _ m5 (by omega), hkeep _ _ m6 (by omega)⟩, fun x hx => ?_⟩
      exact ⟨hoth _ hne' hne _ _ (mp x hx).1, hoth _ hne' hne _ _ (mp x hx).2⟩
end Go.Proofs.YtgpdpodagoligaaGreat
/- The copy of a list of features is its own: no two of its blocks are alike. -/

namespace Go.Proofs.YtgpdpodagoligaaGreat
open Go.RowKit
set_option linter.unusedSimpArgs false
set_option linter.unusedVariables false
set_option maxRecDepth 100000

theorem There.lay {W : World} {b n : Nat} (h : There W b n) {B o : Nat} {f : Feat} (hne : B ≠ b) : There (lay7 W B o f) b n := by
  unfold lay7
  exact ((((((h.store hne).store hne).store hne).store hne).store hne).store hne).store hne
theorem ownq_lay {W : World} {B n k q0 hi : Nat} {F : Nat → Feat} {q : Nat → Nat} {f : Feat} (h : OwnQ W B hi B k (fun i => (F i).n) (fun i => (F i).n) q) (hT : There W B (n * 7)) (hk : k < n) (hfa : f.a = some ⟨q0, 0, none⟩) (hfn : f.n = (F k).n) (hfc : f.cap = (F k).n) (h0 : hi ≤ q0) (h1 : q0 < W.heap.size) (hTq : There W q0 ((F k).n * 2)) :
    OwnQ (lay7 W B (k * 7) f) B (lay7 W B (k * 7) f).heap.size B (k + 1) (fun i => (F i).n) (fun i => (F i).n) (fun i => if i = k then q0 else q i) := by
  obtain ⟨⟨a1, a2, a3⟩, a4, a5, a6⟩ := h
  have hsz := lay7_size W B (k * 7) f
  refine ⟨⟨a1, by rw [hsz]; omega, Nat.le_refl _⟩, fun o ho => lay7_there hT o (by omega), fun i hi => ?_, fun i j hi hj e => ?_⟩
  · by_cases e : i = k
    · subst e
      show (B ≤ (if i = i then q0 else q i) ∧ (if i = i then q0 else q i) < _ ∧ (if i = i then q0 else q i) ≠ B) ∧ There _ (if i = i then q0 else q i) ((F i).n * 2) ∧ _ = some (Value.slice (some ⟨(if i = i then q0 else q i), 0, none⟩) (F i).n (F i).n)
      rw [if_pos rfl]
      refine ⟨⟨by omega, by rw [hsz]; exact h1, by omega⟩, hTq.lay (by omega), ?_⟩
      have := (lay7_at (f := f) (o := i * 7) hT (by omega)).2.2.2.2.1
      rw [this, hfa, hfn, hfc]
    · show (B ≤ (if i = k then q0 else q i) ∧ (if i = k then q0 else q i) < _ ∧ (if i = k then q0 else q i) ≠ B) ∧ There _ (if i = k then q0 else q i) ((F i).n * 2) ∧ _ = some (Value.slice (some ⟨(if i = k then q0 else q i), 0, none⟩) (F i).n (F i).n)
      rw [if_neg e]
      obtain ⟨b1, b2, b3⟩ := a5 i (by omega)
      refine ⟨⟨b1.1, by rw [hsz]; omega, b1.2.2⟩, b2.lay (Ne.symm b1.2.2), ?_⟩
      rw [lay7_other (p := ⟨B, i * 7 + 4, none⟩) (.inr (.inl (by show i * 7 + 4 < k * 7; omega)))]
      exact b3
  · by_cases ei : i = k <;> by_cases ej : j = k
    · omega
    · simp only [if_pos ei, if_neg ej] at e
      have := (a5 j (by omega)).1
      omega
    · simp only [if_neg ei, if_pos ej] at e
      have := (a5 i (by omega)).1
      omega
    · simp only [if_neg ei, if_neg ej] at e
      exact a6 i j (by omega) (by omega) e

end Go.Proofs.YtgpdpodagoligaaGreat
/- A list of features in memory of its own is marked, and the marks are found again: the walks. -/

namespace Go.Proofs.YtgpdpodagoligaaGreat
open Go.RowKit
set_option linter.unusedSimpArgs false
set_option linter.unusedVariables false
set_option maxRecDepth 100000

end Go.Proofs.YtgpdpodagoligaaGreat
/- A block that holds an answer with a code and one thing more. -/

namespace Go.Proofs.YtgpdpodagoligaaGreat
open Go.RowKit
/-- Block p holds an answer. -/
def R2At (w : World) (p : Nat) (c : Int) (v : Value) : Prop := w.cell? ⟨p, 0, none⟩ = some (.int .i64 c) ∧ w.cell? ⟨p, 1, none⟩ = some v
theorem R2At.below {w w' : World} {p : Nat} {c : Int} {v : Value} (h : R2At w p c v) (hb : Below w.heap.size w w') : R2At w' p c v := ⟨bl_cell hb h.1, bl_cell hb h.2⟩
end Go.Proofs.YtgpdpodagoligaaGreat
/- Marks of an answer with features. -/

namespace Go.Proofs.YtgpdpodagoligaaGreat
open Go.RowKit
set_option linter.unusedSimpArgs false
set_option linter.unusedVariables false
set_option maxRecDepth 100000

/-- An answer whose blocks lie from lo to hi. -/
def OwnR (w : World) (lo hi : Nat) (a : Option Addr) (m : Nat) (N C : Nat → Nat) : Prop := m = 0 ∨ ∃ g q, a = some ⟨g, 0, none⟩ ∧ OwnQ w lo hi g m N C q
theorem OwnR.below {w w' : World} {lo hi m : Nat} {a : Option Addr} {N C : Nat → Nat} (h : OwnR w lo hi a m N C) (hb : Below w.heap.size w w') : OwnR w' lo hi a m N C := by
  rcases h with h | ⟨g, q, e, hq⟩
  · exact .inl h
  · exact .inr ⟨g, q, e, hq.below hb⟩
theorem OwnR.away {w w' : World} {lo hi lo' hi' m : Nat} {a : Option Addr} {N C : Nat → Nat} (h : OwnR w lo hi a m N C) (hm : MidB lo' hi' w w') (ho : hi' ≤ lo ∨ hi ≤ lo') : OwnR w' lo hi a m N C := by
  rcases h with h | ⟨g, q, e, hq⟩
  · exact .inl h
  · exact .inr ⟨g, q, e, hq.away hm ho⟩
/-- The features of an answer stay where other blocks are written. -/
theorem isFs_mid {w w' : World} {lo up lo' up' m : Nat} {a : Option Addr} {T : Nat → Feat} (hF : IsFs w a m T) (hO : OwnR w lo' up' a m (fun i => (T i).n) (fun i => (T i).cap)) (hM : MidB lo up w w') (h : up ≤ lo') : IsFs w' a m T := by
  rcases hO with h0 | ⟨g, q, rfl, ⟨h1, h2, h3⟩, hT, hq, _⟩
  · exact .inl h0
  · rcases hF with h0 | ⟨b, off, e, hbl, hFs⟩
    · exact .inl h0
    · injection e with e
      injection e with e1 e2
      subst e1 e2
      refine .inr ⟨g, 0, rfl, Nat.lt_of_lt_of_le hbl hM.size, fun i hi => ?_⟩
      obtain ⟨⟨c0, c1, c2, c3, c4, c5, c6⟩, hp⟩ := hFs i hi
      obtain ⟨⟨q1, q2, q3⟩, q4, q5⟩ := hq i hi
      have ho : g < lo ∨ up ≤ g := .inr (Nat.le_trans h h1)
      refine ⟨⟨hM.cell c0 ho, hM.cell c1 ho, hM.cell c2 ho, hM.cell c3 ho, hM.cell c4 ho, hM.cell c5 ho, hM.cell c6 ho⟩, ?_⟩
      rw [Nat.zero_add] at c4
      rw [q5] at c4
      injection c4 with c4
      injection c4 with c4 _ _
      rcases hp with hp | ⟨b', off', e', hbl', hpt⟩
      · exact .inl hp
      · rw [← c4] at e'
        injection e' with e'
        injection e' with e1' e2'
        refine .inr ⟨b', off', by rw [← c4, e1', e2'], Nat.lt_of_lt_of_le hbl' hM.size, fun x hx => ?_⟩
        have ho' : b' < lo ∨ up ≤ b' := .inr (by omega)
        exact ⟨hM.cell (hpt x hx).1 ho', hM.cell (hpt x hx).2 ho'⟩
/-- The marks of an answer. -/
def MarkR (w : World) (a : Option Addr) (m : Nat) (N C : Nat → Nat) : Prop := m = 0 ∨ ∃ (g : Nat) (q : Nat → Nat), a = some ⟨g, 0, none⟩ ∧ g < w.heap.size ∧ (∀ i, i < m → q i < w.heap.size) ∧ ∀ i, i < m → MarkF w g (q i) i (N i) (C i) (kS N 1 i)
theorem MarkR.below {w w' : World} {a : Option Addr} {m : Nat} {N C : Nat → Nat} (h : MarkR w a m N C) (hb : Below w.heap.size w w') : MarkR w' a m N C := by
  rcases h with h | ⟨g, q, e, h1, h2, h3⟩
  · exact .inl h
  · exact .inr ⟨g, q, e, Nat.lt_of_lt_of_le h1 hb.size, fun i hi => Nat.lt_of_lt_of_le (h2 i hi) hb.size, fun i hi => (h3 i hi).below hb h1 (h2 i hi)⟩

theorem R2At.mid {w w' : World} {lo hi p : Nat} {c : Int} {v : Value} (h : R2At w p c v) (hM : MidB lo hi w w') (ho : p < lo ∨ hi ≤ p) : R2At w' p c v := ⟨hM.cell h.1 ho, hM.cell h.2 ho⟩
end Go.Proofs.YtgpdpodagoligaaGreat
/- Bytes that came in. -/

namespace Go.Proofs.YtgpdpodagoligaaGreat
open Go.RowKit
set_option linter.unusedVariables false

/-- The bytes of a code that came in. -/
def IsBytes (w : World) (a : Option Addr) (n : Nat) (Z : Nat → Int) : Prop :=
  n = 0 ∨ ∃ b off, a = some ⟨b, off, none⟩ ∧ b < w.heap.size ∧ ∀ i, i < n → w.cell? ⟨b, off + i, none⟩ = some (.int .u8 (Z i))
theorem IsBytes.below {w w' : World} {a : Option Addr} {n : Nat} {Z : Nat → Int} (h : IsBytes w a n Z) (hb : Below w.heap.size w w') : IsBytes w' a n Z := by
  rcases h with h | ⟨b, off, e, hl, hz⟩
  · exact .inl h
  · exact .inr ⟨b, off, e, Nat.lt_of_lt_of_le hl hb.size, fun i hi => (hb.cell (p := ⟨b, off + i, none⟩) hl).trans (hz i hi)⟩
/-- From the address on lie n bytes. -/
def BsAt (w : World) (b off n : Nat) (Z : Nat → Int) : Prop := ∀ i, i < n → w.cell? ⟨b, off + i, none⟩ = some (.int .u8 (Z i))
theorem BsAt.below {w w' : World} {b off n B : Nat} {Z : Nat → Int} (h : BsAt w b off n Z) (hb : Below B w w') (hB : b < B) : BsAt w' b off n Z := fun i hi => (hb.cell (p := ⟨b, off + i, none⟩) hB).trans (h i hi)
theorem BsAt.is {w : World} {b off n : Nat} {Z : Nat → Int} (h : BsAt w b off n Z) (hb : b < w.heap.size) : IsBytes w (some ⟨b, off, none⟩) n Z := .inr ⟨b, off, rfl, hb, h⟩
end Go.Proofs.YtgpdpodagoligaaGreat
