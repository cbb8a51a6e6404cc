/- What the model reads of bytes, and that the program reads just that. No program in sight. -/
import Derived.Test.YtcbpaockahkakaaVReadTile29
import Derived.Test.YtcbpaockahkakaaVReadTile24
namespace Go.Proofs.Ytcbpaockahkakaa
open Go.RowKit
set_option linter.unusedSimpArgs false
set_option linter.unusedVariables false

/-- A number that was read is read also where more, or just as many, bytes stand. -/
theorem rdFrom_far {Z : Nat → Int} {n m : Nat} : ∀ {f i a : Nat} {x : Nat × Nat}, rdFrom Z n f i a = some x → x.2 ≤ m → rdFrom Z m f i a = some x
  | 0, i, a, x, h, _ => by simp [rdFrom] at h
  | f + 1, i, a, x, h, hm => by
    have hb := rdFrom_bd h
    unfold rdFrom at h ⊢
    rw [if_pos (show i < m by omega)]
    rw [if_pos (show i < n by omega)] at h
    split at h
    · rename_i h1
      rw [if_pos h1]
      exact h
    · rename_i h1
      rw [if_neg h1]
      exact rdFrom_far h hm
theorem rd_far {Z : Nat → Int} {n m : Nat} {x : Nat × Nat} (h : rd Z n = some x) (hm : x.2 ≤ m) : rd Z m = some x := rdFrom_far h hm
/-- The number at place o. -/
def rdA (Z : Nat → Int) (n o : Nat) : Option (Nat × Nat) := rd (fun i => Z (i + o)) (n - o)
theorem rdA_far {Z : Nat → Int} {n m o : Nat} {x : Nat × Nat} (h : rdA Z n o = some x) (hm : o + x.2 ≤ m) : rdA Z m o = some x := rd_far h (by omega)
theorem rdA_bd {Z : Nat → Int} {n o : Nat} {x : Nat × Nat} (h : rdA Z n o = some x) : x.1 ≤ 1099511627776 ∧ 0 < x.2 ∧ o + x.2 ≤ n := by
  have := rd_bd h
  omega
theorem rdA_shift (Z : Nat → Int) (n o k : Nat) : rdA (fun i => Z (i + o)) (n - o) k = rdA Z n (o + k) := by
  unfold rdA
  rw [show n - o - k = n - (o + k) by omega]
  congr 1
  funext i
  show Z (i + k + o) = Z (i + (o + k))
  congr 1
  omega
/-- Points as the model reads them. -/
def mPts (Z : Nat → Int) (n : Nat) : Nat → Nat → Int → Int → Option (List (Int × Int) × Nat)
  | 0, o, _, _ => some ([], o)
  | c + 1, o, x, y => (rdA Z n o).bind fun d => (rdA Z n (o + d.2)).bind fun e => (mPts Z n c (o + d.2 + e.2) (x + unfoldI (d.1 : Int)) (y + unfoldI (e.1 : Int))).map fun r => ((x + unfoldI (d.1 : Int), y + unfoldI (e.1 : Int)) :: r.1, r.2)
/-- The fault of a feature that was read. -/
def fx1 (f : Fx) : Int := featC (f.ns.getD 0 0 : Nat) (f.ns.getD 1 0 : Nat) (f.ns.getD 2 0 : Nat) (f.ns.getD 3 0 : Nat) f.pts.length (px f.pts) (py f.pts) f.lab (f.ns.getD 4 0 : Nat)
/-- A label of c bytes at place o. -/
def labA (Z : Nat → Int) (o c : Nat) : ByteArray := strOfNums ((List.range c).map fun i => Z (i + o))
/-- A feature as the model reads it. -/
def mFeat (Z : Nat → Int) (n o : Nat) : Option (Fx × Nat) :=
  (rdNs Z 5 n o).bind fun a => (rdA Z n a.2).bind fun c => if 6 < c.1 ∨ n < a.2 + c.2 + c.1 then none else
    (rdA Z n (a.2 + c.2 + c.1)).bind fun k => (mPts Z n (min k.1 13) (a.2 + c.2 + c.1 + k.2) 0 0).bind fun r =>
      if fx1 ⟨a.1, labA Z (a.2 + c.2) c.1, r.1⟩ = 0 then some (⟨a.1, labA Z (a.2 + c.2) c.1, r.1⟩, r.2) else none
def mFs (Z : Nat → Int) (n : Nat) : Nat → Nat → Option (List Fx × Nat)
  | 0, o => some ([], o)
  | c + 1, o => (mFeat Z n o).bind fun d => (mFs Z n c d.2).map fun r => (d.1 :: r.1, r.2)
def mList (Z : Nat → Int) (n : Nat) : Option (List Fx × Nat) := (rdA Z n 0).bind fun c => mFs Z n (min c.1 13) c.2
theorem unfold_small {x : Nat} (h1 : -1024 ≤ unfoldI (x : Int)) (h2 : unfoldI (x : Int) ≤ 1024) : x ≤ 2049 := by
  unfold unfoldI at h1 h2
  split at h1 <;> rename_i h
  · rw [if_pos h] at h2; omega
  · rw [if_neg h] at h2; omega
/-- Numbers, one behind the other, in either way of telling places. -/
theorem rdNs_shift (Z : Nat → Int) (n o : Nat) : ∀ (c k : Nat), rdNs (fun i => Z (i + o)) c (n - o) k = (rdNs Z c n (o + k)).map fun r => (r.1, r.2 - o)
  | 0, k => by simp [rdNs]
  | c + 1, k => by
    have h0 := rdA_shift Z n o k
    unfold rdA at h0
    simp only [rdNs]
    rw [h0]
    cases hd : rd (fun i => Z (i + (o + k))) (n - (o + k)) with
    | none => rfl
    | some d =>
      simp only [Option.bind_some]
      rw [rdNs_shift Z n o c (k + d.2), show o + (k + d.2) = o + k + d.2 by omega]
      cases rdNs Z c n (o + k + d.2) <;> rfl
theorem rdNs_le {Z : Nat → Int} {n : Nat} : ∀ {c o : Nat} {r : List Nat × Nat}, rdNs Z c n o = some r → o ≤ r.2
  | 0, o, r, h => by simp [rdNs] at h; subst h; exact Nat.le_refl _
  | c + 1, o, r, h => by
    simp only [rdNs] at h
    cases hd : rd (fun i => Z (i + o)) (n - o) with
    | none => simp [hd] at h
    | some d =>
      rw [hd, Option.bind_some] at h
      cases hr : rdNs Z c n (o + d.2) with
      | none => simp [hr] at h
      | some q =>
        rw [hr] at h
        simp at h
        have := rdNs_le hr
        subst h
        simp only
        omega
theorem rdNs_far {Z : Nat → Int} {n m : Nat} : ∀ {c o : Nat} {r : List Nat × Nat}, rdNs Z c n o = some r → r.2 ≤ m → rdNs Z c m o = some r
  | 0, o, r, h, _ => h
  | c + 1, o, r, h, hm => by
    simp only [rdNs] at h ⊢
    cases hd : rd (fun i => Z (i + o)) (n - o) with
    | none => simp [hd] at h
    | some d =>
      rw [hd, Option.bind_some] at h
      cases hr : rdNs Z c n (o + d.2) with
      | none => simp [hr] at h
      | some q =>
        rw [hr] at h
        simp at h
        have hle := rdNs_le hr
        have hq : q.2 ≤ m := by subst h; exact hm
        rw [rd_far hd (show d.2 ≤ m - o by omega), Option.bind_some, rdNs_far hr hq]
        simp [h]
/-- Points that the program reads the model reads. -/
theorem pts_to {Z : Nat → Int} {n m o : Nat} (hnm : n ≤ m) : ∀ {c k : Nat} {x y : Int} {r : List (Int × Int) × Nat}, rdPts (fun i => Z (i + o)) c (n - o) k x y = some r → mPts Z m c (o + k) x y = some (r.1, o + r.2)
  | 0, k, x, y, r, h => by simp [rdPts] at h; subst h; simp [mPts]
  | c + 1, k, x, y, r, h => by
    simp only [rdPts] at h
    cases hd : rdStep (fun i => (fun j => Z (j + o)) (i + k)) (n - o - k) with
    | none => simp [hd] at h
    | some d =>
      rw [hd, Option.bind_some] at h
      cases he : rdStep (fun i => (fun j => Z (j + o)) (i + (k + d.2))) (n - o - (k + d.2)) with
      | none => simp [he] at h
      | some e =>
        rw [he, Option.bind_some] at h
        cases hr : rdPts (fun i => Z (i + o)) c (n - o) (k + d.2 + e.2) (x + d.1) (y + e.1) with
        | none => simp [hr] at h
        | some q =>
          rw [hr] at h
          simp at h
          have step : ∀ {j : Nat} {d : Int × Nat}, rdStep (fun i => (fun l => Z (l + o)) (i + j)) (n - o - j) = some d → ∃ v : Nat, rdA Z m (o + j) = some (v, d.2) ∧ unfoldI (v : Int) = d.1 := fun {j d} hs => by
            unfold rdStep rdUp at hs
            have h0 := rdA_shift Z n o j
            unfold rdA at h0
            rw [h0] at hs
            cases hv : rd (fun i => Z (i + (o + j))) (n - (o + j)) with
            | none => simp [hv] at hs
            | some v =>
              rw [hv, Option.bind_some] at hs
              split at hs
              · simp at hs
              · simp at hs
                have hb := rd_bd hv
                refine ⟨v.1, ?_, by rw [← hs]⟩
                rw [← hs]
                exact rd_far hv (by simp only; omega)
          obtain ⟨v, hv, hv'⟩ := step hd
          obtain ⟨u, hu, hu'⟩ := step he
          simp only [mPts]
          rw [hv, Option.bind_some]
          simp only
          rw [show o + k + d.2 = o + (k + d.2) by omega, hu, Option.bind_some]
          simp only
          rw [hv', hu', show o + (k + d.2) + e.2 = o + (k + d.2 + e.2) by omega, pts_to hnm hr]
          simp [← h]
theorem feat_to {Z : Nat → Int} {n m o : Nat} (hnm : n ≤ m) {f : Fx} {u : Nat} (h : rdFeat (fun i => Z (i + o)) (n - o) = some (f, u)) (hf : fx1 f = 0) : mFeat Z m o = some (f, o + u) := by
  unfold rdFeat at h
  rw [rdNs_shift, Nat.add_zero] at h
  cases ha : rdNs Z 5 n o with
  | none => simp [ha] at h
  | some a =>
    rw [ha] at h
    simp only [Option.map_some, Option.bind_some] at h
    have hle := rdNs_le ha
    cases hb : rdLab (fun i => Z (i + o)) (n - o) (a.2 - o) with
    | none => simp [hb] at h
    | some b =>
      rw [hb, Option.bind_some] at h
      unfold rdLab rdUp at hb
      have h0 := rdA_shift Z n o (a.2 - o)
      rw [show o + (a.2 - o) = a.2 by omega] at h0
      unfold rdA at h0
      rw [h0] at hb
      cases hc : rd (fun i => Z (i + a.2)) (n - a.2) with
      | none => simp [hc] at hb
      | some c =>
        rw [hc, Option.bind_some] at hb
        have hcb := rd_bd hc
        split at hb
        · simp at hb
        · rename_i h6
          rw [Option.bind_some] at hb
          split at hb
          · simp at hb
          · rename_i hlen
            simp at hb
            subst hb
            simp only at h
            cases hk : rdAll (fun i => (fun j => Z (j + o)) (i + (a.2 - o + c.2 + c.1))) (n - o - (a.2 - o + c.2 + c.1)) with
            | none => simp [hk] at h
            | some k =>
              rw [hk] at h
              simp at h
              unfold rdAll rdUp at hk
              have h1 := rdA_shift Z n o (a.2 - o + c.2 + c.1)
              rw [show o + (a.2 - o + c.2 + c.1) = a.2 + c.2 + c.1 by omega] at h1
              unfold rdA at h1
              have h2 : (fun i => (fun j => Z (j + o)) (i + (a.2 - o + c.2 + c.1))) = fun i => Z (i + (a.2 + c.2 + c.1)) := by
                funext i
                show Z _ = Z _
                congr 1
                omega
              rw [h2, show n - o - (a.2 - o + c.2 + c.1) = n - (a.2 + c.2 + c.1) by omega] at hk
              cases hq : rd (fun i => Z (i + (a.2 + c.2 + c.1))) (n - (a.2 + c.2 + c.1)) with
              | none => simp [hq] at hk
              | some q =>
                rw [hq, Option.bind_some] at hk
                have hqb := rd_bd hq
                split at hk
                · simp at hk
                · rename_i h12
                  rw [Option.bind_some] at hk
                  have hp := pts_to hnm hk
                  have hab := rdNs_bd 5 o a ha (by omega)
                  unfold mFeat
                  rw [rdNs_far ha (by omega), Option.bind_some]
                  have hc' : rdA Z m a.2 = some c := rd_far hc (by omega)
                  rw [hc', Option.bind_some, if_neg (by omega)]
                  have hq' : rdA Z m (a.2 + c.2 + c.1) = some q := rd_far hq (by omega)
                  rw [hq', Option.bind_some, show min q.1 13 = q.1 by omega, hp, Option.bind_some]
                  have hfe : (⟨a.1, labA Z (a.2 + c.2) c.1, k.1⟩ : Fx) = f := by
                    rw [← h.1]
                    congr 1
                    unfold labA
                    congr 1
                    apply List.map_congr_left
                    intro i hi
                    show Z _ = Z _
                    congr 1
                    omega
                  simp only
                  rw [hfe, if_pos hf, ← h.2]
                  simp
                  omega
end Go.Proofs.Ytcbpaockahkakaa
