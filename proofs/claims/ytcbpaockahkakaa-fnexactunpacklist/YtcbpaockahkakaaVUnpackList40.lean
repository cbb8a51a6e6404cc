/- What the model takes the program takes. No program in sight. -/
import Derived.Test.YtcbpaockahkakaaVUnpackList39
namespace Go.Proofs.Ytcbpaockahkakaa
open Go.RowKit
set_option linter.unusedSimpArgs false
set_option linter.unusedVariables false

theorem rdFs_bd {Z : Nat → Int} {n : Nat} : ∀ {c o : Nat} {fs : List Fx} {u : Nat}, rdFs Z c n o = some (fs, u) → o ≤ n → u ≤ n
  | 0, o, fs, u, h, ho => by simp [rdFs] at h; omega
  | c + 1, o, fs, u, h, ho => by
    cases h1 : rdFeat (fun i => Z (i + o)) (n - o) with
    | none => rw [rdFs_none h1] at h; cases h
    | some d =>
      rw [rdFs_some h1] at h
      have hb := rdFeat_bd h1
      cases h2 : rdFs Z c n (o + d.2) with
      | none => simp [h2] at h
      | some q =>
        rw [h2] at h
        simp at h
        have := rdFs_bd (fs := q.1) (u := q.2) h2 (by omega)
        omega
theorem rdList_bd {Z : Nat → Int} {n : Nat} {fs : List Fx} {u : Nat} (h : rdList Z n = some (fs, u)) : u ≤ n := by
  unfold rdList at h
  cases hd : rdUp 12 Z n with
  | none => simp [hd] at h
  | some c =>
    have hb := rdUp_bd hd
    rw [hd, Option.bind_some] at h
    exact rdFs_bd h (by omega)
theorem sumZ_far {Z Y : Nat → Int} : ∀ (k : Nat), (∀ i, i < k → Z i = Y i) → sumZ Z k = sumZ Y k
  | 0, _ => rfl
  | k + 1, h => by simp only [sumZ, sumZ_far k (fun i hi => h i (by omega)), h k (by omega)]
/-- The n bytes are l. -/
def Whole (Z : Nat → Int) (n : Nat) (l : List Int) : Prop := l.length = n ∧ Stands Z 0 l
theorem endL_len (l : List Int) : (endL l).length = l.length + 2 := by simp [endL]
/-- The bytes are l and its sum just where l stands ahead of the last two, and the sum is right. -/
theorem whole_end {Z : Nat → Int} {n : Nat} {l : List Int} (hz : ∀ i, 0 ≤ Z i ∧ Z i ≤ 255) : Whole Z n (endL l) ↔ (sumOk Z n ∧ l.length = n - 2 ∧ Stands Z 0 l) := by
  unfold Whole sumOk
  rw [endL_len]
  unfold endL
  rw [stands_app, Nat.zero_add]
  constructor
  · rintro ⟨hn, hl, ht⟩
    have h0 := ht 0 (by simp)
    have h1 := ht 1 (by simp)
    rw [Nat.zero_add, zz_cons_zero] at h0
    rw [show (1 : Nat) = 0 + 1 from rfl, zz_cons_succ, zz_cons_zero] at h1
    have e2 : n - 2 = l.length := by omega
    have e1 : n - 1 = 0 + 1 + l.length := by omega
    refine ⟨⟨by omega, ?_⟩, by omega, hl⟩
    rw [e1, e2, h0, h1, sumZ_far (Z := Z) (Y := zz l) l.length (fun i hi => hl i hi), sumL_eq]
    omega
  · rintro ⟨⟨hn, hs⟩, hl, hst⟩
    refine ⟨by omega, hst, ?_⟩
    have e1 : n - 1 = l.length + 1 := by omega
    rw [← hl, e1, sumZ_far (Z := Z) (Y := zz l) l.length (fun i hi => hst i hi), sumL_eq] at hs
    have hb := hz (l.length + 1)
    have hb0 := hz l.length
    intro j hj
    have hj' : j = 0 ∨ j = 1 := by simp at hj; omega
    rcases hj' with rfl | rfl
    · rw [Nat.zero_add, zz_cons_zero]
      omega
    · rw [show (1 : Nat) = 0 + 1 from rfl, zz_cons_succ, zz_cons_zero, show 0 + 1 + l.length = l.length + 1 by omega]
      omega
open Classical in
/-- What the model takes of n bytes. -/
noncomputable def upM (Z : Nat → Int) (n : Nat) : Option (List Fx) :=
  (mList Z n).bind fun x => if fxC x.1 = 0 ∧ fxO x.1 = true ∧ Whole Z n (endL (datL x.1.length (fxG x.1))) then some x.1 else none
theorem fx_none {fs : List Fx} (h : fxC fs = 0) : fs.length ≤ 12 ∧ ∀ f ∈ fs, fx1 f = 0 := by
  obtain ⟨h1, h2, h3⟩ := featsC_ok h
  refine ⟨h1, fun f hf => ?_⟩
  obtain ⟨i, hi, he⟩ := List.getElem_of_mem hf
  have h0 := h3 i hi
  have hg : fxAt fs i = f := by unfold fxAt; rw [List.getD_eq_getElem?_getD, List.getElem?_eq_getElem hi, he]; rfl
  unfold fxG at h0
  rw [hg] at h0
  exact h0
theorem up_iff {Z : Nat → Int} {n : Nat} (hz : ∀ i, 0 ≤ Z i ∧ Z i ≤ 255) (fs : List Fx) : upM Z n = some fs ↔ upG Z n = some fs := by
  constructor
  · intro h
    unfold upM at h
    cases hm : mList Z n with
    | none => simp [hm] at h
    | some x =>
      rw [hm, Option.bind_some] at h
      split at h
      · rename_i hc
        obtain ⟨c1, c2, c3⟩ := hc
        simp at h
        obtain ⟨l12, hall⟩ := fx_none c1
        obtain ⟨hs, hl, hst⟩ := (whole_end hz).1 c3
        have r0 := (list_from (n := x.2) (fs := x.1) (u := x.2) hm (Nat.le_refl _) l12).1
        have ho := (rdList_stood hz r0).2.1
        have r1 := (list_from (n := n - 2) (fs := x.1) (u := x.2) hm (by omega) l12).1
        unfold upG
        rw [if_pos hs, r1, Option.bind_some, if_pos ⟨by simp only; omega, c1, c2⟩, ← h]
      · simp at h
  · intro h
    unfold upG at h
    split at h
    · rename_i hs
      cases hr : rdList Z (n - 2) with
      | none => simp [hr] at h
      | some x =>
        rw [hr, Option.bind_some] at h
        split at h
        · rename_i hc
          obtain ⟨c0, c1, c2⟩ := hc
          simp at h
          obtain ⟨l12, hall⟩ := fx_none c1
          have hb := rdList_bd (fs := x.1) (u := x.2) hr
          obtain ⟨_, ho, hst⟩ := rdList_stood hz (fs := x.1) (o := x.2) hr
          have hm := list_to (n := n - 2) (m := n) (by omega) (fs := x.1) (u := x.2) hr hall
          have hlen : (datL x.1.length (fxG x.1)).length = n - 2 := by omega
          unfold upM
          rw [hm, Option.bind_some, if_pos ⟨c1, c2, (whole_end hz).2 ⟨hs, hlen, hst⟩⟩, ← h]
        · simp at h
    · cases h
/-- The model takes what the program takes. -/
theorem up_same {Z : Nat → Int} {n : Nat} (hz : ∀ i, 0 ≤ Z i ∧ Z i ≤ 255) : upM Z n = upG Z n := by
  cases h : upG Z n with
  | none =>
    cases h2 : upM Z n with
    | none => rfl
    | some fs => rw [(up_iff hz fs).1 h2] at h; cases h
  | some fs => exact (up_iff hz fs).2 h
end Go.Proofs.Ytcbpaockahkakaa
