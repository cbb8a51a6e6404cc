/- FnViews: plain facts over the pixels of a camera and the refs that it sees. -/
import Derived.Test.YtioiikddgcmjeaaVs1
namespace Go.Proofs.Ytioiikddgcmjeaa
open Go.RowKit
set_option linter.unusedSimpArgs false
set_option linter.unusedVariables false
set_option maxRecDepth 100000

/-- Whether the ref j is the one of the pixel i. -/
def pixE (z x y wd : Int) (i j : Nat) : Bool := ((visR z x y wd).z j == z) && (((visR z x y wd).x j == (x + (i : Int) % wd) / 8) && ((visR z x y wd).y j == (y + (i : Int) / wd) / 8))
/-- Whether the ref j was met by one of the first pixels. -/
def hitN (E : Nat → Nat → Bool) (j : Nat) : Nat → Bool
  | 0 => false
  | i + 1 => hitN E j i || E i j
theorem hitN_yes {E : Nat → Nat → Bool} {j : Nat} : ∀ {n i : Nat}, i < n → E i j = true → hitN E j n = true
  | n + 1, i, hi, h => by
    rw [hitN]
    by_cases e : i = n
    · subst e; rw [h]; simp
    · rw [hitN_yes (n := n) (i := i) (by omega) h]; rfl
/-- Where a pixel lies. -/
theorem pix_in {wd ht : Int} {i : Nat} (hw : 1 ≤ wd) (hh : 1 ≤ ht) (hi : (i : Int) < wd * ht) : (0 ≤ (i : Int) % wd ∧ (i : Int) % wd < wd) ∧ (0 ≤ (i : Int) / wd ∧ (i : Int) / wd < ht) := by
  refine ⟨⟨Int.emod_nonneg _ (by omega), Int.emod_lt_of_pos _ (by omega)⟩, Int.ediv_nonneg (by omega) (by omega), ?_⟩
  exact Int.ediv_lt_of_lt_mul (by omega) (by rw [Int.mul_comm]; exact hi)
/-- A pixel's tile is one of those that are seen, one way. -/
theorem vis_one {x wd u : Int} (hw : 1 ≤ wd ∧ wd ≤ 8) (hu : 0 ≤ u ∧ u < wd) : ∃ k : Nat, k < visN x wd ∧ x / 8 + (k : Int) = (x + u) / 8 := by
  refine ⟨((x + u) / 8 - x / 8).toNat, ?_, ?_⟩
  · unfold visN; omega
  · omega
/-- One that is seen has a pixel, one way. -/
theorem vis_two {x wd : Int} {k : Nat} (hw : 1 ≤ wd ∧ wd ≤ 8) (hk : k < visN x wd) : ∃ u : Nat, (u : Int) < wd ∧ x / 8 + (k : Int) = (x + (u : Int)) / 8 := by
  unfold visN at hk
  by_cases e : k = 0
  · exact ⟨0, by omega, by subst e; simp⟩
  · exact ⟨(wd - 1).toNat, by omega, by omega⟩
/-- The ref of a pixel is seen. -/
theorem pix_seen {z x y wd ht : Int} {i : Nat} (hr : camB z x y wd ht = true) (hi : (i : Int) < wd * ht) : hasR (visR z x y wd) z ((x + (i : Int) % wd) / 8) ((y + (i : Int) / wd) / 8) (visM z x y wd ht) = true := by
  have hin := camB_in hr
  obtain ⟨hu, hv⟩ := pix_in (by omega) (by omega) hi
  obtain ⟨k, hk, ek⟩ := vis_one (x := x) hin.1.1 hu
  obtain ⟨l, hl, el⟩ := vis_one (x := y) hin.1.2 hv
  have h1 := visN_bd (x := x) hin.1.1
  have hj : l * visN x wd + k < visM z x y wd ht := by
    unfold visM
    rw [if_pos hr]
    have := Nat.mul_le_mul_right (visN x wd) (show l + 1 ≤ visN y ht by omega)
    rw [Nat.succ_mul] at this
    omega
  refine hasR_yes hj ?_
  have e1 : (l * visN x wd + k) % visN x wd = k := by rw [Nat.mul_comm, Nat.mul_add_mod]; exact Nat.mod_eq_of_lt hk
  have e2 : (l * visN x wd + k) / visN x wd = l := by rw [Nat.mul_comm, Nat.mul_add_div (by omega), Nat.div_eq_of_lt hk]; rfl
  simp only [visR, e1, e2, ek, el]
  simp
/-- Each ref that is seen is met by a pixel. -/
theorem seen_pix {z x y wd ht : Int} {j : Nat} (hr : camB z x y wd ht = true) (hj : j < visM z x y wd ht) : ∃ i : Nat, (i : Int) < wd * ht ∧ pixE z x y wd i j = true := by
  have hin := camB_in hr
  have h1 := visN_bd (x := x) hin.1.1
  unfold visM at hj
  rw [if_pos hr] at hj
  obtain ⟨u, hu, eu⟩ := vis_two (x := x) (k := j % visN x wd) hin.1.1 (Nat.mod_lt _ (by omega))
  obtain ⟨v, hv, ev⟩ := vis_two (x := y) (k := j / visN x wd) hin.1.2 (Nat.div_lt_of_lt_mul (by rw [Nat.mul_comm]; exact hj))
  obtain ⟨w, rfl⟩ : ∃ w : Nat, (w : Int) = wd := ⟨wd.toNat, by omega⟩
  have hw : 0 < w := by omega
  have huw : u < w := by omega
  refine ⟨v * w + u, ?_, ?_⟩
  · have h2 : ((v : Int) + 1) * (w : Int) ≤ ht * (w : Int) := Int.mul_le_mul_of_nonneg_right (by omega) (by omega)
    rw [Int.add_mul] at h2
    rw [Int.mul_comm (w : Int) ht]
    push_cast
    omega
  · have e1 : ((v * w + u : Nat) : Int) % (w : Int) = (u : Int) := by
      rw [← Int.natCast_emod, Nat.mul_comm, Nat.mul_add_mod, Nat.mod_eq_of_lt huw]
    have e2 : ((v * w + u : Nat) : Int) / (w : Int) = (v : Int) := by
      rw [← Int.natCast_ediv, Nat.mul_comm, Nat.mul_add_div hw, Nat.div_eq_of_lt huw]; rfl
    unfold pixE
    simp only [visR, e1, e2, eu, ev]
    simp
theorem pix_pixB {z x y wd ht : Int} {i : Nat} (hr : camB z x y wd ht = true) (hi : (i : Int) < wd * ht) : pixB z (x + (i : Int) % wd) (y + (i : Int) / wd) = true := by
  have hin := camB_in hr
  have hz := camB_zoom hr
  obtain ⟨hu, hv⟩ := pix_in (by omega) (by omega) hi
  simp [pixB, inB, hz]
  omega
