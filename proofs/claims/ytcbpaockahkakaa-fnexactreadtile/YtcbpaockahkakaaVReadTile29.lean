/- Several texts in one. -/
import Derived.Test.YtcbpaockahkakaaVReadTile25
import Derived.Test.YtcbpaockahkakaaVReadTile28
import Derived.Test.YtcbpaockahkakaaVReadTile24

/- What is read of numbers, points, a label and a feature is what stands there. No program in sight. -/

namespace Go.Proofs.Ytcbpaockahkakaa
open Go.RowKit
set_option linter.unusedSimpArgs false
set_option linter.unusedVariables false

theorem hd_cons (x : Nat) (l : List Nat) : hd (x :: l) = putI x ++ hd l := by simp [hd]
theorem rdNs_stood {Z : Nat → Int} {n : Nat} (hr : ∀ i, 0 ≤ Z i ∧ Z i ≤ 255) : ∀ (c o : Nat) (l : List Nat) (o' : Nat), rdNs Z c n o = some (l, o') → l.length = c ∧ o' = o + (hd l).length ∧ Stands Z o (hd l)
  | 0, o, l, o', h => by
    simp [rdNs] at h
    obtain ⟨rfl, rfl⟩ := h
    exact ⟨rfl, by simp [hd], by simp only [hd, List.flatMap_nil]; exact stands_nil⟩
  | c + 1, o, l, o', h => by
    cases h1 : rd (fun i => Z (i + o)) (n - o) with
    | none => rw [rdNs_none h1] at h; cases h
    | some d =>
      rw [rdNs_some h1] at h
      obtain ⟨x, y⟩ := d
      obtain ⟨rfl, hs⟩ := rd_stood hr h1
      cases h3 : rdNs Z c n (o + (putI x).length) with
      | none => simp only [h3] at h; cases h
      | some q =>
        obtain ⟨l2, o2⟩ := q
        have := rdNs_stood hr c _ l2 o2 h3
        simp only [h3, Option.map_some] at h
        injection h with h
        injection h with e1 e2
        subst e1 e2
        refine ⟨by simp [this.1], ?_, ?_⟩
        · rw [this.2.1, hd_cons, List.length_append]; omega
        · rw [hd_cons]; exact stands_app.2 ⟨hs, this.2.2⟩
/-- The bytes of points, each a step from the one ahead of it. -/
def stpL : Int → Int → List (Int × Int) → List Int
  | _, _, [] => []
  | x, y, (a, b) :: l => putI (foldI (a - x)).toNat ++ (putI (foldI (b - y)).toNat ++ stpL a b l)
theorem rdStep_stood {Z : Nat → Int} {o n : Nat} {d : Int × Nat} (hr : ∀ i, 0 ≤ Z i ∧ Z i ≤ 255) (h : rdStep (fun i => Z (i + o)) (n - o) = some d) : d.2 = (putI (foldI d.1).toNat).length ∧ Stands Z o (putI (foldI d.1).toNat) := by
  unfold rdStep rdUp at h
  cases h1 : rd (fun i => Z (i + o)) (n - o) with
  | none => rw [h1] at h; cases h
  | some q =>
    obtain ⟨x, y⟩ := q
    obtain ⟨rfl, hs⟩ := rd_stood hr h1
    rw [h1, Option.bind_some] at h
    split at h
    · cases h
    · rw [Option.map_some] at h
      injection h with h
      subst h
      have e : (foldI (unfoldI (x : Int))).toNat = x := by
        unfold foldI unfoldI
        split <;> split <;> omega
      simp only [e]
      exact ⟨trivial, hs⟩
theorem rdPts_stood {Z : Nat → Int} {n : Nat} (hr : ∀ i, 0 ≤ Z i ∧ Z i ≤ 255) : ∀ (c o : Nat) (x y : Int) (l : List (Int × Int)) (o' : Nat), rdPts Z c n o x y = some (l, o') → l.length = c ∧ o' = o + (stpL x y l).length ∧ Stands Z o (stpL x y l)
  | 0, o, x, y, l, o', h => by
    simp [rdPts] at h
    obtain ⟨rfl, rfl⟩ := h
    exact ⟨rfl, by simp [stpL], stands_nil⟩
  | c + 1, o, x, y, l, o', h => by
    cases h1 : rdStep (fun i => Z (i + o)) (n - o) with
    | none => rw [rdPts_none1 h1] at h; cases h
    | some d =>
      cases h2 : rdStep (fun i => Z (i + (o + d.2))) (n - (o + d.2)) with
      | none => rw [rdPts_none2 h1 h2] at h; cases h
      | some e =>
        rw [rdPts_some h1 h2] at h
        obtain ⟨b1, s1⟩ := rdStep_stood hr h1
        obtain ⟨b2, s2⟩ := rdStep_stood hr h2
        cases h3 : rdPts Z c n (o + d.2 + e.2) (x + d.1) (y + e.1) with
        | none => rw [h3] at h; cases h
        | some q =>
          obtain ⟨l2, o2⟩ := q
          have := rdPts_stood hr c _ _ _ l2 o2 h3
          rw [h3, Option.map_some] at h
          injection h with h
          injection h with e1 e2
          subst e1 e2
          have ex : x + d.1 - x = d.1 := by omega
          have ey : y + e.1 - y = e.1 := by omega
          refine ⟨by simp [this.1], ?_, ?_⟩
          · rw [this.2.1]; simp only [stpL, ex, ey, List.length_append]; omega
          · simp only [stpL, ex, ey]
            refine stands_app.2 ⟨s1, stands_app.2 ⟨?_, ?_⟩⟩
            · rw [← b1]; exact s2
            · rw [← b1, ← b2]; exact this.2.2
end Go.Proofs.Ytcbpaockahkakaa
/- The bytes of points: told from the first on, or from the last. No program in sight. -/

namespace Go.Proofs.Ytcbpaockahkakaa
open Go.RowKit
set_option linter.unusedSimpArgs false
set_option linter.unusedVariables false

def lastP : Int × Int → List (Int × Int) → Int × Int
  | p, [] => p
  | _, q :: l => lastP q l
theorem lastP_snoc : ∀ (p : Int × Int) (l : List (Int × Int)) (q : Int × Int), lastP p (l ++ [q]) = q
  | _, [], _ => rfl
  | _, r :: l, q => lastP_snoc r l q
theorem stpL_snoc : ∀ (x y : Int) (l : List (Int × Int)) (a b : Int), stpL x y (l ++ [(a, b)]) = stpL x y l ++ (putI (foldI (a - (lastP (x, y) l).1)).toNat ++ putI (foldI (b - (lastP (x, y) l).2)).toNat)
  | x, y, [], a, b => by simp [stpL, lastP]
  | x, y, (c, d) :: l, a, b => by
    have := stpL_snoc c d l a b
    simp only [List.cons_append, stpL, this, lastP, List.append_assoc]
theorem ptsL_to {X Y X' Y' : Nat → Int} : ∀ (k : Nat), (∀ i, i < k → X i = X' i ∧ Y i = Y' i) → ptsL X Y k = ptsL X' Y' k
  | 0, _ => rfl
  | k + 1, h => by
    have e1 : ahX X k = ahX X' k := by unfold ahX; split; rfl; exact (h _ (by omega)).1
    have e2 : ahX Y k = ahX Y' k := by unfold ahX; split; rfl; exact (h _ (by omega)).2
    simp only [ptsL, stepL, ptsL_to k (fun i hi => h i (by omega)), (h k (by omega)).1, (h k (by omega)).2, e1, e2]
theorem px_snoc {l : List (Int × Int)} {q : Int × Int} : (∀ i, i < l.length → px (l ++ [q]) i = px l i ∧ py (l ++ [q]) i = py l i) ∧ px (l ++ [q]) l.length = q.1 ∧ py (l ++ [q]) l.length = q.2 := by
  refine ⟨fun i hi => ?_, ?_, ?_⟩
  · simp [px, py, List.getD, List.getElem?_append_left hi]
  · simp [px, List.getD]
  · simp [py, List.getD]
theorem lastP_px (l : List (Int × Int)) : (lastP (0, 0) l).1 = ahX (px l) l.length ∧ (lastP (0, 0) l).2 = ahX (py l) l.length := by
  rcases List.eq_nil_or_concat l with rfl | ⟨m, q, rfl⟩
  · exact ⟨rfl, rfl⟩
  · rw [List.concat_eq_append, lastP_snoc]
    have h := @px_snoc m q
    have e : (m ++ [q]).length = m.length + 1 := by simp
    rw [e]
    simp only [ahX, Nat.add_sub_cancel]
    exact ⟨by rw [if_neg (by omega), h.2.1], by rw [if_neg (by omega), h.2.2]⟩
theorem stpL_pts : ∀ (k : Nat) (l : List (Int × Int)), l.length = k → stpL 0 0 l = ptsL (px l) (py l) k
  | 0, l, h => by
    have := List.length_eq_zero_iff.1 h
    subst this
    rfl
  | k + 1, l, h => by
    rcases List.eq_nil_or_concat l with rfl | ⟨m, q, rfl⟩
    · simp at h
    · have hm : m.length = k := by simpa using h
      obtain ⟨a, b⟩ := q
      rw [List.concat_eq_append, stpL_snoc, stpL_pts k m hm, (lastP_px m).1, (lastP_px m).2, hm]
      have hx := @px_snoc m (a, b)
      rw [hm] at hx
      simp only [ptsL, stepL, hx.2.1, hx.2.2]
      rw [ptsL_to k (fun i hi => hx.1 i hi)]
      have e1 : ahX (px (m ++ [(a, b)])) k = ahX (px m) k := by unfold ahX; split; rfl; exact (hx.1 _ (by omega)).1
      have e2 : ahX (py (m ++ [(a, b)])) k = ahX (py m) k := by unfold ahX; split; rfl; exact (hx.1 _ (by omega)).2
      rw [e1, e2]
end Go.Proofs.Ytcbpaockahkakaa
/- What is read of a feature is what stands there. No program in sight. -/

namespace Go.Proofs.Ytcbpaockahkakaa
open Go.RowKit
set_option linter.unusedSimpArgs false
set_option linter.unusedVariables false

theorem stands_shift {Z : Nat → Int} {o q : Nat} {l : List Int} : Stands (fun i => Z (i + o)) q l ↔ Stands Z (o + q) l := by
  unfold Stands
  refine forall_congr' fun j => forall_congr' fun hj => ?_
  show Z (j + q + o) = _ ↔ Z (j + (o + q)) = _
  rw [show j + q + o = j + (o + q) by omega]
theorem rdUp_stood {Z : Nat → Int} {o n most : Nat} {d : Nat × Nat} (hr : ∀ i, 0 ≤ Z i ∧ Z i ≤ 255) (h : rdUp most (fun i => Z (i + o)) (n - o) = some d) : d.2 = (putI d.1).length ∧ Stands Z o (putI d.1) := by
  unfold rdUp at h
  cases h1 : rd (fun i => Z (i + o)) (n - o) with
  | none => rw [h1] at h; cases h
  | some q =>
    obtain ⟨x, y⟩ := q
    have := rd_stood hr h1
    rw [h1, Option.bind_some] at h
    split at h
    · cases h
    · injection h with h
      subst h
      exact this
theorem labL_nums {l : List Int} (h : ∀ x ∈ l, 0 ≤ x ∧ x ≤ 255) : labL (strOfNums l) = l := by
  unfold labL
  rw [strOfNums_data, List.map_map]
  conv => rhs; rw [← List.map_id l]
  apply List.map_congr_left
  intro x hx
  have := h x hx
  simp [Function.comp]
  omega
theorem rdLab_stood {Z : Nat → Int} {n o : Nat} {b : List Int} {o2 : Nat} (hr : ∀ i, 0 ≤ Z i ∧ Z i ≤ 255) (h : rdLab Z n o = some (b, o2)) :
    labL (strOfNums b) = b ∧ o2 = o + (putI b.length).length + b.length ∧ Stands Z o (putI b.length ++ b) := by
  unfold rdLab at h
  cases hu : rdUp 6 (fun i => Z (i + o)) (n - o) with
  | none => rw [hu] at h; cases h
  | some c =>
    obtain ⟨e, hs⟩ := rdUp_stood hr hu
    rw [hu, Option.bind_some] at h
    split at h
    · cases h
    · injection h with h
      injection h with h1 h2
      have hl : b.length = c.1 := by rw [← h1]; simp
      rw [hl, ← e]
      refine ⟨labL_nums (fun x hx => ?_), h2.symm, ?_⟩
      · rw [← h1, List.mem_map] at hx
        obtain ⟨i, _, rfl⟩ := hx
        exact hr _
      · refine stands_app.2 ⟨hs, fun j hj => ?_⟩
        rw [← e, ← h1]
        have hj' : j < c.1 := by omega
        simp [zz, List.getD, hj']
theorem rdAll_stood {Z : Nat → Int} {n : Nat} {l : List (Int × Int)} {y : Nat} (hr : ∀ i, 0 ≤ Z i ∧ Z i ≤ 255) (h : rdAll Z n = some (l, y)) :
    y = (putI l.length ++ stpL 0 0 l).length ∧ Stands Z 0 (putI l.length ++ stpL 0 0 l) := by
  unfold rdAll at h
  cases hu : rdUp 12 Z n with
  | none => rw [hu] at h; cases h
  | some c =>
    have hu' : rdUp 12 (fun i => Z (i + 0)) (n - 0) = some c := hu
    obtain ⟨e, hs⟩ := rdUp_stood hr hu'
    rw [hu, Option.bind_some] at h
    obtain ⟨h1, h2, h3⟩ := rdPts_stood hr _ _ _ _ _ _ h
    rw [h1, List.length_append]
    refine ⟨by rw [h2, e], stands_app.2 ⟨hs, ?_⟩⟩
    rw [Nat.zero_add, ← e]
    exact h3
theorem hd_app (l m : List Nat) : hd (l ++ m) = hd l ++ hd m := by simp [hd]
theorem five {l : List Nat} (h : l.length = 5) : l = [l.getD 0 0, l.getD 1 0, l.getD 2 0, l.getD 3 0, l.getD 4 0] := by
  match l, h with
  | [a, b, c, d, e], _ => rfl
theorem fL_fx {f : Fx} (h : f.ns.length = 5) : fL (fxFeat f none 0) = hd f.ns ++ (putI f.lab.size ++ (labL f.lab ++ (putI f.pts.length ++ ptsL (px f.pts) (py f.pts) f.pts.length))) := by
  have e := five h
  generalize f.ns.getD 0 0 = a at e
  have e2 : fL (fxFeat f none 0) = featL (f.ns.getD 0 0) (f.ns.getD 1 0) (f.ns.getD 2 0) (f.ns.getD 3 0) (f.ns.getD 4 0) f.lab f.pts.length (px f.pts) (py f.pts) := by
    simp [fL, fxFeat]
  rw [e2]
  unfold featL
  rw [show hd [f.ns.getD 0 0, f.ns.getD 1 0, f.ns.getD 2 0, f.ns.getD 3 0, f.ns.getD 4 0, f.lab.size] = hd ([f.ns.getD 0 0, f.ns.getD 1 0, f.ns.getD 2 0, f.ns.getD 3 0, f.ns.getD 4 0] ++ [f.lab.size]) from rfl, ← five h, hd_app]
  simp [hd, List.append_assoc]
theorem rdFeat_stood {Z : Nat → Int} {n : Nat} {f : Fx} {y : Nat} (hr : ∀ i, 0 ≤ Z i ∧ Z i ≤ 255) (h : rdFeat Z n = some (f, y)) :
    f.ns.length = 5 ∧ y = (fL (fxFeat f none 0)).length ∧ Stands Z 0 (fL (fxFeat f none 0)) := by
  unfold rdFeat at h
  cases h1 : rdNs Z 5 n 0 with
  | none => rw [h1] at h; cases h
  | some a =>
    obtain ⟨l, o1⟩ := a
    obtain ⟨a1, a2, a3⟩ := rdNs_stood hr 5 0 l o1 h1
    rw [h1, Option.bind_some] at h
    simp only at h
    cases h2 : rdLab Z n o1 with
    | none => rw [h2] at h; cases h
    | some b =>
      obtain ⟨b, o2⟩ := b
      obtain ⟨b1, b2, b3⟩ := rdLab_stood hr h2
      rw [h2, Option.bind_some] at h
      simp only at h
      cases h3 : rdAll (fun i => Z (i + o2)) (n - o2) with
      | none => rw [h3] at h; cases h
      | some c =>
        obtain ⟨p, y3⟩ := c
        obtain ⟨c1, c2⟩ := rdAll_stood (fun i => hr _) h3
        rw [h3, Option.map_some] at h
        injection h with h
        injection h with e1 e2
        subst e1
        rw [fL_fx a1]
        simp only
        rw [strOfNums_size, b1, ← stpL_pts _ _ rfl]
        refine ⟨a1, ?_, ?_⟩
        · rw [← e2]
          simp only [List.length_append] at c1 ⊢
          omega
        · rw [stands_app, stands_app, stands_app]
          rw [stands_app] at b3
          rw [stands_shift] at c2
          refine ⟨a3, ?_, ?_, ?_⟩
          · rw [← a2]; exact b3.1
          · rw [← a2]; exact b3.2
          · rw [← a2, ← b2]; exact c2
end Go.Proofs.Ytcbpaockahkakaa
/- What is read of a list is what stands there: what the program takes is what was packed. No program in sight. -/

namespace Go.Proofs.Ytcbpaockahkakaa
open Go.RowKit
set_option linter.unusedSimpArgs false
set_option linter.unusedVariables false

def fsL (fs : List Fx) : List Int := fs.flatMap fun f => fL (fxFeat f none 0)
theorem fsL_cons (f : Fx) (fs : List Fx) : fsL (f :: fs) = fL (fxFeat f none 0) ++ fsL fs := by simp [fsL]
theorem fsL_snoc (f : Fx) (fs : List Fx) : fsL (fs ++ [f]) = fsL fs ++ fL (fxFeat f none 0) := by simp [fsL]
theorem rdFs_stood {Z : Nat → Int} {n : Nat} (hr : ∀ i, 0 ≤ Z i ∧ Z i ≤ 255) : ∀ (c o : Nat) (fs : List Fx) (o' : Nat), rdFs Z c n o = some (fs, o') → fs.length = c ∧ (∀ f ∈ fs, f.ns.length = 5) ∧ o' = o + (fsL fs).length ∧ Stands Z o (fsL fs)
  | 0, o, fs, o', h => by
    simp [rdFs] at h
    obtain ⟨rfl, rfl⟩ := h
    exact ⟨rfl, fun f hf => by simp at hf, by simp [fsL], stands_nil⟩
  | c + 1, o, fs, o', h => by
    cases h1 : rdFeat (fun i => Z (i + o)) (n - o) with
    | none => rw [rdFs_none h1] at h; cases h
    | some d =>
      rw [rdFs_some h1] at h
      obtain ⟨f, y⟩ := d
      obtain ⟨a1, a2, a3⟩ := rdFeat_stood (fun i => hr _) h1
      rw [stands_shift, Nat.add_zero] at a3
      cases h3 : rdFs Z c n (o + y) with
      | none => simp only [h3] at h; cases h
      | some q =>
        obtain ⟨fs2, o2⟩ := q
        obtain ⟨b1, b2, b3, b4⟩ := rdFs_stood hr c _ fs2 o2 h3
        simp only [h3, Option.map_some] at h
        injection h with h
        injection h with e1 e2
        subst e1 e2
        refine ⟨by simp [b1], fun g hg => ?_, ?_, ?_⟩
        · rcases List.mem_cons.1 hg with rfl | hg
          · exact a1
          · exact b2 g hg
        · rw [b3, fsL_cons, List.length_append]; omega
        · rw [fsL_cons]
          exact stands_app.2 ⟨a3, by rw [← a2]; exact b4⟩
theorem catL_to {G H : Nat → Feat} : ∀ (k : Nat), (∀ i, i < k → G i = H i) → catL G k = catL H k
  | 0, _ => rfl
  | k + 1, h => by simp only [catL, catL_to k (fun i hi => h i (by omega)), h k (by omega)]
theorem fsL_cat : ∀ (k : Nat) (fs : List Fx), fs.length = k → fsL fs = catL (fxG fs) k
  | 0, fs, h => by
    have := List.length_eq_zero_iff.1 h
    subst this
    rfl
  | k + 1, fs, h => by
    rcases List.eq_nil_or_concat fs with rfl | ⟨m, q, rfl⟩
    · simp at h
    · have hm : m.length = k := by simpa using h
      rw [List.concat_eq_append, fsL_snoc, fsL_cat k m hm]
      have e : ∀ i, i < k + 1 → fxG (m ++ [q]) i = if i = k then fxFeat q none 0 else fxG m i := fun i hi => by
        unfold fxG
        rw [fxAt_app (by omega), hm]
        split <;> rfl
      simp only [catL]
      rw [e k (by omega), if_pos rfl, catL_to (G := fxG (m ++ [q])) (H := fxG m) k (fun i hi => by rw [e i (by omega), if_neg (by omega)])]
theorem rdList_stood {Z : Nat → Int} {n : Nat} {fs : List Fx} {o : Nat} (hr : ∀ i, 0 ≤ Z i ∧ Z i ≤ 255) (h : rdList Z n = some (fs, o)) :
    fs.length ≤ 12 ∧ o = (datL fs.length (fxG fs)).length ∧ Stands Z 0 (datL fs.length (fxG fs)) := by
  unfold rdList at h
  cases hu : rdUp 12 Z n with
  | none => rw [hu] at h; cases h
  | some c =>
    have hu' : rdUp 12 (fun i => Z (i + 0)) (n - 0) = some c := hu
    obtain ⟨e, hs⟩ := rdUp_stood hr hu'
    have hb := rdUp_bd hu
    rw [hu, Option.bind_some] at h
    obtain ⟨h1, h2, h3, h4⟩ := rdFs_stood hr _ _ _ _ h
    unfold datL
    rw [← fsL_cat _ fs rfl, h1]
    refine ⟨hb.1, ?_, stands_app.2 ⟨hs, ?_⟩⟩
    · rw [h3, e, List.length_append]
    · rw [Nat.zero_add, ← e]; exact h4
end Go.Proofs.Ytcbpaockahkakaa
