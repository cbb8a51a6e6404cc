/- Several texts in one. -/
import Derived.Test.YtcbpaockahkakaaVReadTile30
import Derived.Test.YtcbpaockahkakaaVReadTile27

/- What the model reads the program reads, and the other way, of lists. No program in sight. -/

namespace Go.Proofs.Ytcbpaockahkakaa
open Go.RowKit
set_option linter.unusedSimpArgs false
set_option linter.unusedVariables false

theorem mPts_le {Z : Nat → Int} {m : Nat} : ∀ {c o : Nat} {x y : Int} {r : List (Int × Int) × Nat}, mPts Z m c o x y = some r → o ≤ r.2 ∧ r.1.length = c
  | 0, o, x, y, r, h => by simp [mPts] at h; subst h; simp
  | c + 1, o, x, y, r, h => by
    simp only [mPts] at h
    cases hd : rdA Z m o with
    | none => simp [hd] at h
    | some d =>
      rw [hd, Option.bind_some] at h
      cases he : rdA Z m (o + d.2) with
      | none => simp [he] at h
      | some e =>
        rw [he, Option.bind_some] at h
        cases hr : mPts Z m c (o + d.2 + e.2) (x + unfoldI (d.1 : Int)) (y + unfoldI (e.1 : Int)) with
        | none => simp [hr] at h
        | some q =>
          rw [hr] at h
          simp at h
          have := mPts_le hr
          subst h
          simp only [List.length_cons]
          omega
/-- Points that the model reads the program reads, where they lie in the world. -/
theorem pts_from {Z : Nat → Int} {n m o : Nat} : ∀ {c k : Nat} {x y : Int} {r : List (Int × Int) × Nat}, mPts Z m c (o + k) x y = some r → r.2 ≤ n → (0 ≤ x ∧ x ≤ 1024) → (0 ≤ y ∧ y ≤ 1024) → (∀ q ∈ r.1, (0 ≤ q.1 ∧ q.1 ≤ 1024) ∧ (0 ≤ q.2 ∧ q.2 ≤ 1024)) → rdPts (fun i => Z (i + o)) c (n - o) k x y = some (r.1, r.2 - o)
  | 0, k, x, y, r, h, _, _, _, _ => by simp [mPts] at h; subst h; simp [rdPts]
  | c + 1, k, x, y, r, h, hn, hx, hy, hq => by
    simp only [mPts] at h
    cases hd : rdA Z m (o + k) with
    | none => simp [hd] at h
    | some d =>
      rw [hd, Option.bind_some] at h
      cases he : rdA Z m (o + k + d.2) with
      | none => simp [he] at h
      | some e =>
        rw [he, Option.bind_some] at h
        cases hr : mPts Z m c (o + k + d.2 + e.2) (x + unfoldI (d.1 : Int)) (y + unfoldI (e.1 : Int)) with
        | none => simp [hr] at h
        | some q =>
          rw [hr] at h
          simp at h
          have hle := (mPts_le hr).1
          have hr2 : r.2 = q.2 := by rw [← h]
          have hr1 : r.1 = (x + unfoldI (d.1 : Int), y + unfoldI (e.1 : Int)) :: q.1 := by rw [← h]
          rw [hr1] at hq
          have h0 := hq _ (List.mem_cons_self ..)
          simp only at h0
          have step : ∀ {j : Nat} {d : Nat × Nat}, rdA Z m (o + j) = some d → d.1 ≤ 2049 → o + j + d.2 ≤ n → rdStep (fun i => (fun l => Z (l + o)) (i + j)) (n - o - j) = some (unfoldI (d.1 : Int), d.2) := fun {j d} hs hv hl => by
            have hs' := rdA_far (m := n) hs hl
            rw [← rdA_shift] at hs'
            unfold rdA at hs'
            unfold rdStep rdUp
            rw [hs', Option.bind_some, if_neg (by omega)]
            rfl
          have s1 := step hd (unfold_small (by omega) (by omega)) (by omega)
          rw [show o + k + d.2 = o + (k + d.2) by omega] at he
          have s2 := step he (unfold_small (by omega) (by omega)) (by omega)
          simp only [rdPts]
          rw [s1, Option.bind_some]
          simp only
          rw [s2, Option.bind_some]
          simp only
          rw [show o + k + d.2 + e.2 = o + (k + d.2 + e.2) by omega] at hr
          rw [pts_from hr (by omega) h0.1 h0.2 (fun p hp => hq p (List.mem_cons_of_mem _ hp)), hr1, hr2]
          rfl
/-- A feature that the model reads the program reads. -/
theorem feat_from {Z : Nat → Int} {n m o : Nat} {f : Fx} {u : Nat} (h : mFeat Z m o = some (f, u)) (hu : u ≤ n) : rdFeat (fun i => Z (i + o)) (n - o) = some (f, u - o) ∧ fx1 f = 0 ∧ o ≤ u := by
  unfold mFeat at h
  cases ha : rdNs Z 5 m o with
  | none => simp [ha] at h
  | some a =>
    rw [ha, Option.bind_some] at h
    have hale := rdNs_le ha
    cases hc : rdA Z m a.2 with
    | none => simp [hc] at h
    | some c =>
      rw [hc, Option.bind_some] at h
      have hcb := rdA_bd hc
      split at h
      · simp at h
      · rename_i h6
        cases hk : rdA Z m (a.2 + c.2 + c.1) with
        | none => simp [hk] at h
        | some k =>
          rw [hk, Option.bind_some] at h
          have hkb := rdA_bd hk
          cases hp : mPts Z m (min k.1 13) (a.2 + c.2 + c.1 + k.2) 0 0 with
          | none => simp [hp] at h
          | some r =>
            rw [hp, Option.bind_some] at h
            have hpl := mPts_le hp
            split at h
            · rename_i hfx
              simp at h
              obtain ⟨hf, hr2⟩ := h
              rw [hf] at hfx
              obtain ⟨i1, i2, i3, i4, i5, j1, j2, j3, j4, j5, b1, b2, b3, b4, b5, l0, l12, hN, hl6⟩ := feat_ok hfx
              have hpts : f.pts = r.1 := by rw [← hf]
              rw [hpts] at l12 hN
              have hk12 : k.1 ≤ 12 := by omega
              rw [show min k.1 13 = k.1 by omega] at hp
              have hall : ∀ q ∈ r.1, (0 ≤ q.1 ∧ q.1 ≤ 1024) ∧ (0 ≤ q.2 ∧ q.2 ≤ 1024) := fun q hq => by
                obtain ⟨i, hi, he⟩ := List.getElem_of_mem hq
                have h0 := hN i hi
                unfold px py at h0
                have hg : r.1.getD i (0, 0) = q := by rw [List.getD_eq_getElem?_getD, List.getElem?_eq_getElem hi, he]; rfl
                rw [hg] at h0
                exact h0
              have hpf := pts_from (n := n) (o := a.2 + c.2 + c.1) hp (by omega) (by omega) (by omega) hall
              refine ⟨?_, hfx, by omega⟩
              unfold rdFeat
              rw [rdNs_shift, Nat.add_zero, rdNs_far ha (show a.2 ≤ n by omega)]
              simp only [Option.map_some, Option.bind_some]
              have hlab : rdLab (fun i => Z (i + o)) (n - o) (a.2 - o) = some ((List.range c.1).map fun i => (fun j => Z (j + o)) (i + (a.2 - o + c.2)), a.2 - o + c.2 + c.1) := by
                unfold rdLab rdUp
                have h0 := rdA_shift Z n o (a.2 - o)
                rw [show o + (a.2 - o) = a.2 by omega, rdA_far (m := n) hc (by omega)] at h0
                unfold rdA at h0
                rw [h0, Option.bind_some, if_neg (by omega), Option.bind_some, if_neg (by omega)]
              rw [hlab, Option.bind_some]
              simp only
              have hall2 : rdAll (fun i => (fun j => Z (j + o)) (i + (a.2 - o + c.2 + c.1))) (n - o - (a.2 - o + c.2 + c.1)) = some (r.1, r.2 - (a.2 + c.2 + c.1)) := by
                have h2 : (fun i => (fun j => Z (j + o)) (i + (a.2 - o + c.2 + c.1))) = fun i => Z (i + (a.2 + c.2 + c.1)) := by
                  funext i
                  show Z _ = Z _
                  congr 1
                  omega
                rw [h2, show n - o - (a.2 - o + c.2 + c.1) = n - (a.2 + c.2 + c.1) by omega]
                unfold rdAll rdUp
                have h0 := rdA_far (m := n) hk (by omega)
                unfold rdA at h0
                rw [h0, Option.bind_some, if_neg (by omega), Option.bind_some]
                exact hpf
              rw [hall2]
              simp only [Option.map_some]
              have hfe : (⟨a.1, strOfNums ((List.range c.1).map fun i => (fun j => Z (j + o)) (i + (a.2 - o + c.2))), r.1⟩ : Fx) = f := by
                rw [← hf]
                congr 1
                unfold labA
                congr 1
                apply List.map_congr_left
                intro i hi
                show Z _ = Z _
                congr 1
                omega
              rw [hfe, ← hr2]
              congr 2
              omega
            · simp at h
theorem fs_to {Z : Nat → Int} {n m : Nat} (hnm : n ≤ m) : ∀ {c o : Nat} {fs : List Fx} {u : Nat}, rdFs Z c n o = some (fs, u) → (∀ f ∈ fs, fx1 f = 0) → mFs Z m c o = some (fs, u)
  | 0, o, fs, u, h, _ => by simp [rdFs] at h; simp [mFs, h.1, h.2]
  | c + 1, o, fs, u, h, hf => by
    cases h1 : rdFeat (fun i => Z (i + o)) (n - o) with
    | none => rw [rdFs_none h1] at h; cases h
    | some d =>
      rw [rdFs_some h1] at h
      cases h2 : rdFs Z c n (o + d.2) with
      | none => simp [h2] at h
      | some q =>
        rw [h2] at h
        simp at h
        obtain ⟨e1, e2⟩ := h
        rw [← e1] at hf
        simp only [mFs]
        rw [feat_to hnm (f := d.1) (u := d.2) h1 (hf _ (List.mem_cons_self ..)), Option.bind_some]
        simp only
        rw [fs_to hnm (fs := q.1) (u := q.2) h2 (fun g hg => hf g (List.mem_cons_of_mem _ hg))]
        simp [e1, e2]
theorem fs_from {Z : Nat → Int} {n m : Nat} : ∀ {c o : Nat} {fs : List Fx} {u : Nat}, mFs Z m c o = some (fs, u) → u ≤ n → rdFs Z c n o = some (fs, u) ∧ (∀ f ∈ fs, fx1 f = 0) ∧ o ≤ u ∧ fs.length = c
  | 0, o, fs, u, h, _ => by
    simp [mFs] at h
    obtain ⟨rfl, rfl⟩ := h
    simp [rdFs]
  | c + 1, o, fs, u, h, hu => by
    simp only [mFs] at h
    cases h1 : mFeat Z m o with
    | none => simp [h1] at h
    | some d =>
      rw [h1, Option.bind_some] at h
      cases h2 : mFs Z m c d.2 with
      | none => simp [h2] at h
      | some q =>
        rw [h2] at h
        simp at h
        obtain ⟨e1, e2⟩ := h
        obtain ⟨a1, a2, a3, a4⟩ := fs_from (n := n) (fs := q.1) (u := q.2) h2 (by omega)
        obtain ⟨b1, b2, b3⟩ := feat_from (n := n) (f := d.1) (u := d.2) h1 (by omega)
        refine ⟨?_, ?_, by omega, by rw [← e1]; simp [a4]⟩
        · rw [rdFs_some b1]
          simp only
          rw [show o + (d.2 - o) = d.2 by omega, a1]
          simp [e1, e2]
        · rw [← e1]
          intro g hg
          rcases List.mem_cons.1 hg with rfl | hg
          · exact b2
          · exact a2 g hg
theorem list_to {Z : Nat → Int} {n m : Nat} (hnm : n ≤ m) {fs : List Fx} {u : Nat} (h : rdList Z n = some (fs, u)) (hf : ∀ f ∈ fs, fx1 f = 0) : mList Z m = some (fs, u) := by
  unfold rdList rdUp at h
  cases hd : rd Z n with
  | none => simp [hd] at h
  | some c =>
    rw [hd, Option.bind_some] at h
    have hb := rd_bd hd
    split at h
    · simp at h
    · rename_i h12
      rw [Option.bind_some] at h
      have hd' : rdA Z m 0 = some c := by
        have h0 : rdA Z n 0 = some c := hd
        exact rdA_far h0 (by omega)
      unfold mList
      rw [hd', Option.bind_some, show min c.1 13 = c.1 by omega]
      exact fs_to hnm h hf
theorem list_from {Z : Nat → Int} {n m : Nat} {fs : List Fx} {u : Nat} (h : mList Z m = some (fs, u)) (hu : u ≤ n) (hl : fs.length ≤ 12) : rdList Z n = some (fs, u) ∧ ∀ f ∈ fs, fx1 f = 0 := by
  unfold mList at h
  cases hd : rdA Z m 0 with
  | none => simp [hd] at h
  | some c =>
    rw [hd, Option.bind_some] at h
    obtain ⟨a1, a2, a3, a4⟩ := fs_from (n := n) h hu
    have hc : c.1 ≤ 12 := by omega
    have hd' : rd Z n = some c := by
      have h0 := rdA_far (m := n) hd (by omega)
      exact h0
    refine ⟨?_, a2⟩
    unfold rdList rdUp
    rw [hd', Option.bind_some, if_neg (by omega), Option.bind_some]
    rw [show min c.1 13 = c.1 by omega] at a1
    exact a1
end Go.Proofs.Ytcbpaockahkakaa
/- What the model takes the program takes. No program in sight. -/

namespace Go.Proofs.Ytcbpaockahkakaa
open Go.RowKit
set_option linter.unusedSimpArgs false
set_option linter.unusedVariables false

theorem rdFs_bd {Z : Nat → Int} {n : Nat} : ∀ {c o : Nat} {fs : List Fx} {u : Nat}, rdFs Z c n o = some (fs, u) → o ≤ n → u ≤ n
  | 0, o, fs, u, h, ho => by simp [rdFs] at h; omega
  | c + 1, o, fs, u, h, ho => by
    cases h1 : rdFeat (fun i => Z (i + o)) (n - o) with
    | none => rw [rdFs_none h1] at h; cases h
    | some d =>
      rw [rdFs_some h1] at h
      have hb := rdFeat_bd h1
      cases h2 : rdFs Z c n (o + d.2) with
      | none => simp [h2] at h
      | some q =>
        rw [h2] at h
        simp at h
        have := rdFs_bd (fs := q.1) (u := q.2) h2 (by omega)
        omega
theorem rdList_bd {Z : Nat → Int} {n : Nat} {fs : List Fx} {u : Nat} (h : rdList Z n = some (fs, u)) : u ≤ n := by
  unfold rdList at h
  cases hd : rdUp 12 Z n with
  | none => simp [hd] at h
  | some c =>
    have hb := rdUp_bd hd
    rw [hd, Option.bind_some] at h
    exact rdFs_bd h (by omega)
theorem sumZ_far {Z Y : Nat → Int} : ∀ (k : Nat), (∀ i, i < k → Z i = Y i) → sumZ Z k = sumZ Y k
  | 0, _ => rfl
  | k + 1, h => by simp only [sumZ, sumZ_far k (fun i hi => h i (by omega)), h k (by omega)]
/-- The n bytes are l. -/
def Whole (Z : Nat → Int) (n : Nat) (l : List Int) : Prop := l.length = n ∧ Stands Z 0 l
theorem endL_len (l : List Int) : (endL l).length = l.length + 2 := by simp [endL]
/-- The bytes are l and its sum just where l stands ahead of the last two, and the sum is right. -/
theorem whole_end {Z : Nat → Int} {n : Nat} {l : List Int} (hz : ∀ i, 0 ≤ Z i ∧ Z i ≤ 255) : Whole Z n (endL l) ↔ (sumOk Z n ∧ l.length = n - 2 ∧ Stands Z 0 l) := by
  unfold Whole sumOk
  rw [endL_len]
  unfold endL
  rw [stands_app, Nat.zero_add]
  constructor
  · rintro ⟨hn, hl, ht⟩
    have h0 := ht 0 (by simp)
    have h1 := ht 1 (by simp)
    rw [Nat.zero_add, zz_cons_zero] at h0
    rw [show (1 : Nat) = 0 + 1 from rfl, zz_cons_succ, zz_cons_zero] at h1
    have e2 : n - 2 = l.length := by omega
    have e1 : n - 1 = 0 + 1 + l.length := by omega
    refine ⟨⟨by omega, ?_⟩, by omega, hl⟩
    rw [e1, e2, h0, h1, sumZ_far (Z := Z) (Y := zz l) l.length (fun i hi => hl i hi), sumL_eq]
    omega
  · rintro ⟨⟨hn, hs⟩, hl, hst⟩
    refine ⟨by omega, hst, ?_⟩
    have e1 : n - 1 = l.length + 1 := by omega
    rw [← hl, e1, sumZ_far (Z := Z) (Y := zz l) l.length (fun i hi => hst i hi), sumL_eq] at hs
    have hb := hz (l.length + 1)
    have hb0 := hz l.length
    intro j hj
    have hj' : j = 0 ∨ j = 1 := by simp at hj; omega
    rcases hj' with rfl | rfl
    · rw [Nat.zero_add, zz_cons_zero]
      omega
    · rw [show (1 : Nat) = 0 + 1 from rfl, zz_cons_succ, zz_cons_zero, show 0 + 1 + l.length = l.length + 1 by omega]
      omega
open Classical in
/-- What the model takes of n bytes. -/
noncomputable def upM (Z : Nat → Int) (n : Nat) : Option (List Fx) :=
  (mList Z n).bind fun x => if fxC x.1 = 0 ∧ fxO x.1 = true ∧ Whole Z n (endL (datL x.1.length (fxG x.1))) then some x.1 else none
theorem fx_none {fs : List Fx} (h : fxC fs = 0) : fs.length ≤ 12 ∧ ∀ f ∈ fs, fx1 f = 0 := by
  obtain ⟨h1, h2, h3⟩ := featsC_ok h
  refine ⟨h1, fun f hf => ?_⟩
  obtain ⟨i, hi, he⟩ := List.getElem_of_mem hf
  have h0 := h3 i hi
  have hg : fxAt fs i = f := by unfold fxAt; rw [List.getD_eq_getElem?_getD, List.getElem?_eq_getElem hi, he]; rfl
  unfold fxG at h0
  rw [hg] at h0
  exact h0
theorem up_iff {Z : Nat → Int} {n : Nat} (hz : ∀ i, 0 ≤ Z i ∧ Z i ≤ 255) (fs : List Fx) : upM Z n = some fs ↔ upG Z n = some fs := by
  constructor
  · intro h
    unfold upM at h
    cases hm : mList Z n with
    | none => simp [hm] at h
    | some x =>
      rw [hm, Option.bind_some] at h
      split at h
      · rename_i hc
        obtain ⟨c1, c2, c3⟩ := hc
        simp at h
        obtain ⟨l12, hall⟩ := fx_none c1
        obtain ⟨hs, hl, hst⟩ := (whole_end hz).1 c3
        have r0 := (list_from (n := x.2) (fs := x.1) (u := x.2) hm (Nat.le_refl _) l12).1
        have ho := (rdList_stood hz r0).2.1
        have r1 := (list_from (n := n - 2) (fs := x.1) (u := x.2) hm (by omega) l12).1
        unfold upG
        rw [if_pos hs, r1, Option.bind_some, if_pos ⟨by simp only; omega, c1, c2⟩, ← h]
      · simp at h
  · intro h
    unfold upG at h
    split at h
    · rename_i hs
      cases hr : rdList Z (n - 2) with
      | none => simp [hr] at h
      | some x =>
        rw [hr, Option.bind_some] at h
        split at h
        · rename_i hc
          obtain ⟨c0, c1, c2⟩ := hc
          simp at h
          obtain ⟨l12, hall⟩ := fx_none c1
          have hb := rdList_bd (fs := x.1) (u := x.2) hr
          obtain ⟨_, ho, hst⟩ := rdList_stood hz (fs := x.1) (o := x.2) hr
          have hm := list_to (n := n - 2) (m := n) (by omega) (fs := x.1) (u := x.2) hr hall
          have hlen : (datL x.1.length (fxG x.1)).length = n - 2 := by omega
          unfold upM
          rw [hm, Option.bind_some, if_pos ⟨c1, c2, (whole_end hz).2 ⟨hs, hlen, hst⟩⟩, ← h]
        · simp at h
    · cases h
/-- The model takes what the program takes. -/
theorem up_same {Z : Nat → Int} {n : Nat} (hz : ∀ i, 0 ≤ Z i ∧ Z i ≤ 255) : upM Z n = upG Z n := by
  cases h : upG Z n with
  | none =>
    cases h2 : upM Z n with
    | none => rfl
    | some fs => rw [(up_iff hz fs).1 h2] at h; cases h
  | some fs => exact (up_iff hz fs).2 h
end Go.Proofs.Ytcbpaockahkakaa
