/- Several texts in one. -/
import Derived.Test.YtcbpaockahkakaaVReadTile3
import Derived.Test.YtcbpaockahkakaaVReadTile22

/- A number is read back from its bytes: no program in sight. -/

namespace Go.Proofs.Ytcbpaockahkakaa
open Go.RowKit
set_option linter.unusedVariables false

theorem zz_cons_zero (x : Int) (l : List Int) : zz (x :: l) 0 = x := rfl
theorem zz_cons_succ (x : Int) (l : List Int) (i : Nat) : zz (x :: l) (i + 1) = zz l i := by simp [zz]
theorem putI_len_ge : ∀ (k m : Nat), 128 ^ k ≤ m → k < (putI m).length
  | 0, m, _ => putI_ne m
  | k + 1, m, h => by
    have hp : 0 < 128 ^ k := Nat.pow_pos (by omega)
    rw [Nat.pow_succ] at h
    have h1 : 128 ≤ 128 ^ k * 128 := Nat.le_mul_of_pos_left _ hp
    rw [putI_big (by omega), List.length_cons]
    have := putI_len_ge k (m / 128) (by rw [Nat.le_div_iff_mul_le (by omega)]; exact h)
    omega
/-- What stands there is read, from place i on: m is what is still to come. -/
theorem rdFrom_put {Z : Nat → Int} {n : Nat} : ∀ (f i a m : Nat), (∀ j, j < (putI m).length → Z (i + j) = zz (putI m) j) → i + (putI m).length ≤ n → (putI m).length ≤ f → (0 < i → 0 < m) → a + m * 128 ^ i ≤ 1099511627776 →
    rdFrom Z n f i a = some (a + m * 128 ^ i, i + (putI m).length)
  | 0, i, a, m, _, _, h, _, _ => absurd h (by have := putI_ne m; omega)
  | f + 1, i, a, m, hZ, hn, hf, hi, hb => by
    by_cases hm : m < 128
    · rw [putI_small hm] at hZ hn ⊢
      have h0 : Z i = (m : Int) := by have := hZ 0 (by simp); simpa [zz] using this
      simp only [List.length_cons, List.length_nil, Nat.zero_add] at hn ⊢
      rw [rdFrom_last (z := m) (by omega) h0 hm rfl]
      have e : m % 128 = m := Nat.mod_eq_of_lt hm
      rw [e, if_neg]
      intro hc
      rcases hc with ⟨h1, h2⟩ | h1
      · have := hi h1; omega
      · omega
    · have hbig := putI_big hm
      have h0 : Z i = ((m % 128 + 128 : Nat) : Int) := by have := hZ 0 (putI_ne m); rw [hbig] at this; simpa [zz] using this
      have hlen : (putI m).length = (putI (m / 128)).length + 1 := by rw [hbig]; simp
      have e1 : (m % 128 + 128) % 128 = m % 128 := by omega
      rw [rdFrom_more (z := m % 128 + 128) (by omega) h0 (by omega) rfl, e1]
      have e2 : a + m % 128 * 128 ^ i + m / 128 * 128 ^ (i + 1) = a + m * 128 ^ i := by
        have h1 : m / 128 * 128 ^ (i + 1) = m / 128 * 128 * 128 ^ i := by rw [Nat.pow_succ, Nat.mul_comm (128 ^ i), Nat.mul_assoc]
        rw [h1, Nat.add_assoc, ← Nat.add_mul]
        congr 2
        omega
      rw [rdFrom_put f (i + 1) (a + m % 128 * 128 ^ i) (m / 128) (fun j hj => ?_) (by omega) (by omega) (fun _ => by omega) (by omega)]
      · rw [e2, hlen]
        congr 2
        omega
      · have := hZ (j + 1) (by omega)
        rw [hbig, zz_cons_succ] at this
        rw [← this]
        congr 1
        omega
theorem rd_put {Z : Nat → Int} {n m : Nat} (hZ : ∀ j, j < (putI m).length → Z j = zz (putI m) j) (hn : (putI m).length ≤ n) (hm : m ≤ 1099511627776) : rd Z n = some (m, (putI m).length) := by
  have := rdFrom_put (Z := Z) (n := n) 6 0 0 m (fun j hj => by rw [Nat.zero_add]; exact hZ j hj) (by omega) (putI_len6 m hm) (fun h => absurd h (by omega)) (by simpa using hm)
  unfold rd
  simpa using this
/-- What was read is what was put: from place i on, a what was read before. -/
theorem rdFrom_back {Z : Nat → Int} {n : Nat} (hr : ∀ i, 0 ≤ Z i ∧ Z i ≤ 255) : ∀ (f i a x y : Nat), rdFrom Z n f i a = some (x, y) →
    ∃ m, x = a + m * 128 ^ i ∧ y = i + (putI m).length ∧ (∀ j, j < (putI m).length → Z (i + j) = zz (putI m) j) ∧ (0 < i → 0 < m)
  | 0, i, a, x, y, h => by simp [rdFrom] at h
  | f + 1, i, a, x, y, h => by
    have hin : i < n := by
      rcases Nat.lt_or_ge i n with h' | h'
      · exact h'
      · rw [rdFrom_end _ _ _ _ _ (by omega)] at h; cases h
    obtain ⟨z1, z2⟩ := hr i
    obtain ⟨z, hz⟩ : ∃ z : Nat, Z i = (z : Int) := ⟨(Z i).toNat, by omega⟩
    by_cases h8 : z < 128
    · rw [rdFrom_last hin hz h8 rfl] at h
      split at h
      · cases h
      · rename_i hc
        injection h with h
        injection h with h1 h2
        refine ⟨z, ?_, ?_, ?_, ?_⟩
        · rw [← h1, Nat.mod_eq_of_lt h8]
        · rw [putI_small h8]; simp; omega
        · rw [putI_small h8]
          intro j hj
          simp at hj
          subst hj
          simpa [zz] using hz
        · intro h0
          rcases Nat.eq_zero_or_pos z with h' | h'
          · exact absurd (.inl ⟨h0, h'⟩) hc
          · exact h'
    · rw [rdFrom_more hin hz h8 rfl] at h
      obtain ⟨m, h1, h2, h3, h4⟩ := rdFrom_back hr f (i + 1) _ x y h
      have hm : 0 < m := h4 (by omega)
      have hq : ¬ z % 128 + 128 * m < 128 := by omega
      have hbig := putI_big hq
      have e1 : (z % 128 + 128 * m) % 128 + 128 = z := by omega
      have e2 : (z % 128 + 128 * m) / 128 = m := by omega
      rw [e1, e2] at hbig
      refine ⟨z % 128 + 128 * m, ?_, ?_, ?_, fun _ => by omega⟩
      · rw [h1, Nat.pow_succ, Nat.add_mul, Nat.add_assoc]
        congr 2
        rw [Nat.mul_comm (128 ^ i) 128, ← Nat.mul_assoc, Nat.mul_comm m 128]
      · rw [hbig, List.length_cons, h2]; omega
      · rw [hbig]
        intro j hj
        cases j with
        | zero => simpa [zz] using hz
        | succ j =>
          rw [zz_cons_succ]
          have := h3 j (by simpa using hj)
          rw [← this]
          congr 1
          omega
theorem rd_back {Z : Nat → Int} {n x y : Nat} (hr : ∀ i, 0 ≤ Z i ∧ Z i ≤ 255) (h : rd Z n = some (x, y)) : y = (putI x).length ∧ ∀ j, j < (putI x).length → Z j = zz (putI x) j := by
  obtain ⟨m, h1, h2, h3, _⟩ := rdFrom_back hr 6 0 0 x y h
  simp at h1 h2
  subst h1
  exact ⟨h2, fun j hj => by have := h3 j hj; rwa [Nat.zero_add] at this⟩
end Go.Proofs.Ytcbpaockahkakaa
/- What is read at a place is what was put there: numbers, one behind the other. No program in sight. -/

namespace Go.Proofs.Ytcbpaockahkakaa
open Go.RowKit
set_option linter.unusedSimpArgs false
set_option linter.unusedVariables false

/-- At place o stand the bytes l. -/
def Stands (Z : Nat → Int) (o : Nat) (l : List Int) : Prop := ∀ j, j < l.length → Z (j + o) = zz l j
theorem zz_app_left {l m : List Int} {j : Nat} (h : j < l.length) : zz (l ++ m) j = zz l j := by simp [zz, List.getD, List.getElem?_append_left h]
theorem zz_app_right {l m : List Int} {j : Nat} : zz (l ++ m) (l.length + j) = zz m j := by simp [zz, List.getD, List.getElem?_append_right]
theorem stands_app {Z : Nat → Int} {o : Nat} {l m : List Int} : Stands Z o (l ++ m) ↔ Stands Z o l ∧ Stands Z (o + l.length) m := by
  constructor
  · intro h
    refine ⟨fun j hj => ?_, fun j hj => ?_⟩
    · have := h j (by simp; omega)
      rwa [zz_app_left hj] at this
    · have := h (l.length + j) (by simp; omega)
      rw [zz_app_right] at this
      rw [← this]
      congr 1
      omega
  · rintro ⟨h1, h2⟩ j hj
    rcases Nat.lt_or_ge j l.length with h | h
    · rw [zz_app_left h]; exact h1 j h
    · obtain ⟨k, rfl⟩ : ∃ k, j = l.length + k := ⟨j - l.length, by omega⟩
      rw [zz_app_right, ← h2 k (by simp at hj; omega)]
      congr 1
      omega
theorem stands_nil {Z : Nat → Int} {o : Nat} : Stands Z o [] := fun j hj => absurd hj (Nat.not_lt_zero _)
theorem rd_stands {Z : Nat → Int} {o n m : Nat} (h : Stands Z o (putI m)) (hn : o + (putI m).length ≤ n) (hm : m ≤ 1099511627776) : rd (fun i => Z (i + o)) (n - o) = some (m, (putI m).length) :=
  rd_put (fun j hj => h j hj) (by omega) hm
theorem rd_stood {Z : Nat → Int} {o n x y : Nat} (hr : ∀ i, 0 ≤ Z i ∧ Z i ≤ 255) (h : rd (fun i => Z (i + o)) (n - o) = some (x, y)) : y = (putI x).length ∧ Stands Z o (putI x) := by
  have := rd_back (fun i => hr (i + o)) h
  exact ⟨this.1, fun j hj => this.2 j hj⟩
end Go.Proofs.Ytcbpaockahkakaa
