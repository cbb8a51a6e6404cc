/- The words of a line: as bytes are cut at blanks, and as the library finds them (no program). -/
import Derived.Lib.FieldsP
import Derived.Lib.FieldsU
import Derived.Lib.TrimU
import Derived.Test.YtbijdoddalfedaaPlain
namespace Go.Proofs.Ytbijdoddalfedaa
set_option linter.unusedSimpArgs false
set_option linter.unusedVariables false

/-- A byte of a line. -/
def byW (s : ByteArray) (i : Nat) : Int := if h : i < s.size then ((s[i]'h).toNat : Int) else 0
theorem byW_at (s : ByteArray) (i : Nat) (h : i < s.size) : byW s i = ((s[i]'h).toNat : Int) := by simp [byW, h]
theorem byW_get (s : ByteArray) (i : Nat) (h : i < s.size) : byW s i = ((s.get! i).toNat : Int) := by
  rw [byW_at s i h]
  have : s.get! i = s[i]'h := by
    show s.data[i]! = s.data[i]
    exact getElem!_pos s.data i h
  rw [this]
/-- What has been cut ahead of place i, and where the next piece begins; the end is a cut as well. -/
def cutZ (s : ByteArray) : Nat → List (Nat × Nat) × Nat
  | 0 => ([], 0)
  | i + 1 => if i = s.size ∨ byW s i = 32 then ((cutZ s i).1 ++ [((cutZ s i).2, i)], i + 1) else cutZ s i
theorem cutZ_le (s : ByteArray) : ∀ i, (cutZ s i).2 ≤ i ∧ (cutZ s i).1.length ≤ i ∧ ∀ x ∈ (cutZ s i).1, x.1 ≤ x.2 ∧ x.2 < i
  | 0 => ⟨Nat.le_refl _, Nat.le_refl _, fun x h => by cases h⟩
  | i + 1 => by
    obtain ⟨h1, h2, h3⟩ := cutZ_le s i
    unfold cutZ
    split
    · refine ⟨Nat.le_refl _, by simp; omega, fun x hx => ?_⟩
      rw [List.mem_append] at hx
      rcases hx with hx | hx
      · have := h3 x hx
        omega
      · simp at hx
        subst hx
        exact ⟨h1, Nat.lt_succ_self _⟩
    · exact ⟨by omega, by omega, fun x hx => by have := h3 x hx; omega⟩
theorem cutZ_yes {s : ByteArray} {i : Nat} (h : i = s.size ∨ byW s i = 32) : cutZ s (i + 1) = ((cutZ s i).1 ++ [((cutZ s i).2, i)], i + 1) := by rw [cutZ, if_pos h]
theorem cutZ_no {s : ByteArray} {i : Nat} (h : ¬ (i = s.size ∨ byW s i = 32)) : cutZ s (i + 1) = cutZ s i := by rw [cutZ, if_neg h]
theorem cutZ_skip (s : ByteArray) (i : Nat) : ∀ k, (∀ j, i ≤ j → j < i + k → ¬ (j = s.size ∨ byW s j = 32)) → cutZ s (i + k) = cutZ s i
  | 0, _ => rfl
  | k + 1, h => by
    rw [show i + (k + 1) = (i + k) + 1 by omega, cutZ_no (h _ (by omega) (by omega))]
    exact cutZ_skip s i k (fun j h1 h2 => h j h1 (by omega))
/-- Those that are not empty. -/
def fullZ (L : List (Nat × Nat)) : List (Nat × Nat) := L.filter fun x => decide (x.1 < x.2)
theorem fullZ_app (L M : List (Nat × Nat)) : fullZ (L ++ M) = fullZ L ++ fullZ M := by simp [fullZ]
theorem fullZ_yes {a b : Nat} (h : a < b) : fullZ [(a, b)] = [(a, b)] := by simp [fullZ, h]
theorem fullZ_no {a b : Nat} (h : ¬ a < b) : fullZ [(a, b)] = [] := by simp [fullZ, h]
theorem fullZ_le (L : List (Nat × Nat)) : (fullZ L).length ≤ L.length := List.length_filter_le _ _
/-- The pieces of a line, and its words. -/
def pcsZ (s : ByteArray) : List (Nat × Nat) := (cutZ s (s.size + 1)).1
theorem pcsZ_eq (s : ByteArray) : pcsZ s = (cutZ s s.size).1 ++ [((cutZ s s.size).2, s.size)] := by unfold pcsZ; rw [cutZ_yes (.inl rfl)]
theorem pcsZ_le (s : ByteArray) : (pcsZ s).length ≤ s.size + 1 ∧ ∀ x ∈ pcsZ s, x.1 ≤ x.2 ∧ x.2 ≤ s.size := by
  obtain ⟨_, h2, h3⟩ := cutZ_le s (s.size + 1)
  exact ⟨h2, fun x hx => by have := h3 x hx; omega⟩
def exB (s : ByteArray) (x : Nat × Nat) : ByteArray := s.extract x.1 x.2
def wdsB (s : ByteArray) : List ByteArray := (fullZ (pcsZ s)).map (exB s)
theorem wdsB_len (s : ByteArray) : (wdsB s).length ≤ s.size + 1 := by
  unfold wdsB
  rw [List.length_map]
  exact Nat.le_trans (fullZ_le _) (pcsZ_le s).1
theorem exB_size {s : ByteArray} {x : Nat × Nat} (h : x.1 ≤ x.2 ∧ x.2 ≤ s.size) : (exB s x).size = x.2 - x.1 := by
  unfold exB
  rw [ByteArray.size_extract]
  omega
theorem strW_ne {T : ByteArray} (h : 0 < T.size) : T.toList.isEmpty = false := by
  cases hb : T.toList.isEmpty
  · rfl
  · rw [ByteArray.toList_eq] at hb
    have h2 : T.data.toList = [] := List.isEmpty_iff.1 hb
    have h3 : T.size = 0 := by
      have : T.data.toList.length = 0 := by rw [h2]; rfl
      rw [Array.length_toList] at this
      exact this
    omega
theorem strW_no {T : ByteArray} (h : T.size = 0) : T.toList.isEmpty = true := by
  rw [ByteArray.toList_eq]
  have h3 : T.data.toList.length = 0 := by rw [Array.length_toList]; exact h
  rw [List.length_eq_zero_iff.1 h3]
  rfl
def isSpW (r : Nat) : Bool := r == 32
theorem decN_sp (n b0 b1 b2 b3 : Nat) : ((Go.Lib.decodeN n b0 b1 b2 b3).1 = 32 → b0 = 32 ∧ (Go.Lib.decodeN n b0 b1 b2 b3).2 = 1) ∧ ((Go.Lib.decodeN n b0 b1 b2 b3).1 ≠ 32 → b0 ≠ 32 ∧ (1 < (Go.Lib.decodeN n b0 b1 b2 b3).2 → b1 ≠ 32) ∧ (2 < (Go.Lib.decodeN n b0 b1 b2 b3).2 → b2 ≠ 32) ∧ (3 < (Go.Lib.decodeN n b0 b1 b2 b3).2 → b3 ≠ 32)) ∧ (Go.Lib.decodeN n b0 b1 b2 b3).2 ≤ 4 := by
  unfold Go.Lib.decodeN
  repeat' split
  all_goals
    dsimp only
    refine ⟨fun h => ⟨?_, ?_⟩, fun h => ⟨?_, fun h2 => ?_, fun h2 => ?_, fun h2 => ?_⟩, ?_⟩ <;> omega
theorem dec_sp (s : ByteArray) (pos : Nat) (hlt : pos < s.size) : pos + (Utf8.decode s pos).2 ≤ s.size ∧ 1 ≤ (Utf8.decode s pos).2 ∧ (isSpW (Utf8.decode s pos).1 = true → byW s pos = 32 ∧ (Utf8.decode s pos).2 = 1) ∧
    (isSpW (Utf8.decode s pos).1 = false → ∀ j, pos ≤ j → j < pos + (Utf8.decode s pos).2 → ¬ (j = s.size ∨ byW s j = 32)) := by
  have hw := Go.Lib.width_pos s pos
  have hn := Go.Lib.decodeN_le_n' (s.size - pos) (s.get! pos).toNat (s.get! (pos + 1)).toNat (s.get! (pos + 2)).toNat (s.get! (pos + 3)).toNat (by omega)
  obtain ⟨d1, d2, d3⟩ := decN_sp (s.size - pos) (s.get! pos).toNat (s.get! (pos + 1)).toNat (s.get! (pos + 2)).toNat (s.get! (pos + 3)).toNat
  rw [← Go.Lib.decode_at] at hn d1 d2 d3
  refine ⟨by omega, hw, fun h => ?_, fun h j h1 h2 => ?_⟩
  · have := d1 (by simpa [isSpW] using h)
    rw [byW_get s pos hlt]
    omega
  · obtain ⟨e0, e1, e2, e3⟩ := d2 (by simpa [isSpW] using h)
    have hj : j < s.size := by omega
    rw [byW_get s j hj]
    rcases (show j = pos ∨ j = pos + 1 ∨ j = pos + 2 ∨ j = pos + 3 by omega) with e | e | e | e
    · subst e; omega
    · subst e; have := e1 (by omega); omega
    · subst e; have := e2 (by omega); omega
    · subst e; have := e3 (by omega); omega
def stZ (s : ByteArray) (pos : Nat) : Option Nat := if (cutZ s pos).2 = pos then none else some (cutZ s pos).2
theorem spans_eq (s : ByteArray) : ∀ (f pos : Nat), s.size ≤ pos + f → pos ≤ s.size → Go.Lib.closeSpans s (Go.Lib.spansFromP isSpW s f pos (stZ s pos) (fullZ (cutZ s pos).1)) = fullZ (pcsZ s) := by
  have hend : Go.Lib.closeSpans s (fullZ (cutZ s s.size).1, stZ s s.size) = fullZ (pcsZ s) := by
    rw [pcsZ_eq, fullZ_app]
    unfold Go.Lib.closeSpans stZ
    have hle := (cutZ_le s s.size).1
    by_cases e : (cutZ s s.size).2 = s.size
    · rw [if_pos e, fullZ_no (by omega), List.append_nil]
    · rw [if_neg e, fullZ_yes (by omega)]
  intro f
  induction f with
  | zero =>
    intro pos h1 h2
    obtain rfl : pos = s.size := by omega
    exact hend
  | succ f ih =>
    intro pos h1 h2
    by_cases hlt : pos < s.size
    · obtain ⟨w1, w2, w3, w4⟩ := dec_sp s pos hlt
      have hle := (cutZ_le s pos).1
      unfold Go.Lib.spansFromP
      rw [if_pos hlt]
      cases hp : isSpW (Utf8.decode s pos).1
      · have hsk := cutZ_skip s pos _ (w4 hp)
        have hi := ih (pos + (Utf8.decode s pos).2) (by omega) w1
        have hst : stZ s (pos + (Utf8.decode s pos).2) = some (cutZ s pos).2 := by
          unfold stZ
          rw [hsk, if_neg (by omega)]
        rw [hst, hsk] at hi
        rw [if_neg (by simp)]
        by_cases e : (cutZ s pos).2 = pos
        · have hz : stZ s pos = none := by unfold stZ; rw [if_pos e]
          rw [hz]
          dsimp only
          rw [e] at hi
          exact hi
        · have hz : stZ s pos = some (cutZ s pos).2 := by unfold stZ; rw [if_neg e]
          rw [hz]
          exact hi
      · obtain ⟨hb, hw1⟩ := w3 hp
        have hy := cutZ_yes (s := s) (i := pos) (.inr hb)
        have hi := ih (pos + 1) (by omega) (by omega)
        have hst : stZ s (pos + 1) = none := by unfold stZ; rw [hy, if_pos rfl]
        rw [hst, hy] at hi
        dsimp only at hi
        rw [fullZ_app] at hi
        rw [if_pos rfl, hw1]
        by_cases e : (cutZ s pos).2 = pos
        · have hz : stZ s pos = none := by unfold stZ; rw [if_pos e]
          rw [hz]
          dsimp only
          rw [fullZ_no (by omega), List.append_nil] at hi
          exact hi
        · have hz : stZ s pos = some (cutZ s pos).2 := by unfold stZ; rw [if_neg e]
          rw [hz]
          dsimp only
          rw [fullZ_yes (by omega)] at hi
          exact hi
    · obtain rfl : pos = s.size := by omega
      rw [Go.Lib.spansFromP_end _ _ _ _ _ _ hlt]
      exact hend
theorem fields_wds (s : ByteArray) : Go.Lib.goFieldsP isSpW s = wdsB s := by
  have h := spans_eq s s.size 0 (by omega) (Nat.zero_le _)
  have h0 : stZ s 0 = none := rfl
  have h1 : fullZ (cutZ s 0).1 = [] := rfl
  rw [h0, h1] at h
  unfold Go.Lib.goFieldsP Go.Lib.spansOfP wdsB
  rw [h]
  rfl
end Go.Proofs.Ytbijdoddalfedaa
