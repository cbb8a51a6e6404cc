/- Plain facts: what was asked for, asked for again, dropped and due again. -/
import Derived.Test.YtfknbijpimpbfaaVOnlies21
namespace Go.Proofs.Ytfknbijpimpbfaa
open Go.RowKit
set_option linter.unusedSimpArgs false
set_option linter.unusedVariables false

theorem firstI_congr {G G' : Nat → Bool} : ∀ n, (∀ j, j < n → G j = G' j) → firstI G n = firstI G' n
  | 0, _ => rfl
  | n + 1, h => by rw [firstI, firstI, firstI_congr n (fun j hj => h j (by omega)), h n (by omega)]
theorem atW_congr {n : Nat} {E F : Nat → Req} {z x y : Int} (h : ∀ j, j < n → isR (E j) z x y = isR (F j) z x y) : atW n E z x y = atW n F z x y := firstI_congr n h
theorem atW_none {n : Nat} {E : Nat → Req} {z x y : Int} (h : ¬ 0 ≤ atW n E z x y) : ∀ j, j < n → isR (E j) z x y = false := by
  rcases firstI_or (fun i => isR (E i) z x y) n with ⟨_, h2⟩ | ⟨i, _, _, hf, _⟩
  · exact h2
  · exact absurd (by unfold atW; rw [hf]; omega) h
theorem atW_no {n : Nat} {E : Nat → Req} {z x y : Int} (h : ∀ j, j < n → isR (E j) z x y = false) : atW n E z x y = -1 := firstI_no (G := fun i => isR (E i) z x y) h
theorem atW_yes {n i : Nat} {E : Nat → Req} {z x y : Int} (hi : i < n) (h : isR (E i) z x y = true) : 0 ≤ atW n E z x y := by
  rcases firstI_or (fun i => isR (E i) z x y) n with ⟨_, h2⟩ | ⟨j, _, _, hf, _⟩
  · have := h2 i hi
    simp only [h] at this
    cases this
  · unfold atW; rw [hf]; omega
theorem dropL_le8 (n : Nat) (E : Nat → Req) (z x y : Int) : (dropL n E z x y).length ≤ 8 := by
  unfold dropL
  by_cases h : reqsC n E = 0
  · rw [if_pos h]
    split
    · exact Nat.le_trans (keptL_le _ _ _) (reqsC_le h)
    · simp
  · rw [if_neg h]; simp
/-- When requests have no fault. -/
theorem reqsC_iff (n : Nat) (E : Nat → Req) : reqsC n E = 0 ↔ n ≤ 8 ∧ (∀ j, j < n → reqB (E j) = true) ∧ ∀ i j, i < j → j < n → isR (E i) (E j).z (E j).x (E j).y = false := by
  constructor
  · intro h
    refine ⟨reqsC_le h, fun j hj => ?_, fun i j hi hj => reqs_apart h hi hj⟩
    have h8 := reqsC_le h
    unfold reqsC at h
    rw [if_neg (by omega)] at h
    have h0 := scan_zero (rCode E) n 0 h j (by omega) (by omega)
    unfold rCode at h0
    by_cases hb : reqB (E j) = true
    · exact hb
    · rw [if_neg hb] at h0; cases h0
  · rintro ⟨h8, hb, ha⟩
    unfold reqsC
    rw [if_neg (by omega)]
    refine scan_none _ _ _ (fun j _ hj => ?_)
    exact rCode_ok (hb j (by omega)) (atW_no (fun i hi => ha i j hi (by omega)))
theorem reqsC_congr {n : Nat} {E F : Nat → Req} (h : ∀ j, j < n → E j = F j) : reqsC n E = reqsC n F := by
  unfold reqsC
  split
  · rfl
  · refine scan_congr _ _ _ _ (fun j _ hj => ?_)
    have hj' : j < n := by omega
    unfold rCode
    rw [h j hj', atW_congr (fun i hi => by rw [h i (by omega)])]
theorem isR_eq {e : Req} {z x y : Int} (h : isR e z x y = true) : e.z = z ∧ e.x = x ∧ e.y = y := by
  simpa [isR] using h
theorem reqsC_list (n : Nat) (E : Nat → Req) : reqsC (listW n E).length (nw (listW n E)) = reqsC n E := by
  rw [listW_len]
  exact reqsC_congr (fun j hj => listW_nw n E j hj)
theorem atW_list (n : Nat) (E : Nat → Req) (z x y : Int) : atW (listW n E).length (nw (listW n E)) z x y = atW n E z x y := by
  rw [listW_len]
  exact atW_congr (fun j hj => by rw [listW_nw n E j hj])
section
variable {n : Nat} {E : Nat → Req} {z x y now : Int}
/-- What AskTile tells has no fault, and has the ref. -/
theorem ask_ok (h : askC n E z x y now = 0) : reqsC (askL n E z x y now).length (nw (askL n E z x y now)) = 0 ∧ 0 ≤ atW (askL n E z x y now).length (nw (askL n E z x y now)) z x y ∧ preC n E z x y now = 0 := by
  by_cases hp : preC n E z x y now = 0
  · obtain ⟨hr, htm, hrf⟩ := preC_zero hp
    by_cases ha : 0 ≤ atW n E z x y
    · rw [(ask_there hp ha).2.1, reqsC_list, atW_list]
      exact ⟨hr, ha, hp⟩
    · by_cases h8 : 8 ≤ n
      · rw [(ask_full hp ha h8).1] at h; cases h
      · obtain ⟨n0, n1⟩ := timC_in htm
        have hrb : refB z x y = true := by
          rcases refC_cases z x y with ⟨_, h2⟩ | ⟨h1, _⟩
          · exact h2
          · rw [hrf] at h1; cases h1
        rw [(ask_new hp ha h8).2.1]
        obtain ⟨_, hb, hap⟩ := (reqsC_iff n E).1 hr
        have hlen : (listW n E ++ [(⟨z, x, y, now + 3, 1⟩ : Req)]).length = n + 1 := by rw [List.length_append, listW_len]; rfl
        have hat : ∀ j, j < n → nw (listW n E ++ [(⟨z, x, y, now + 3, 1⟩ : Req)]) j = E j := fun j hj => by rw [nw_app _ _ _ (by rw [listW_len]; exact hj), listW_nw _ _ _ hj]
        have hlast : nw (listW n E ++ [(⟨z, x, y, now + 3, 1⟩ : Req)]) n = ⟨z, x, y, now + 3, 1⟩ := by
          have := nw_last (listW n E) (⟨z, x, y, now + 3, 1⟩ : Req)
          rwa [listW_len] at this
        rw [hlen]
        refine ⟨(reqsC_iff _ _).2 ⟨by omega, fun j hj => ?_, fun i j hi hj => ?_⟩, atW_yes (i := n) (by omega) (by rw [hlast]; simp [isR]), hp⟩
        · by_cases e : j = n
          · subst e
            rw [hlast]
            simp [reqB, hrb, inB]
            omega
          · rw [hat j (by omega)]; exact hb j (by omega)
        · rw [hat i (by omega)]
          by_cases e : j = n
          · subst e
            rw [hlast]
            exact atW_none ha i hi
          · rw [hat j (by omega)]; exact hap i j hi (by omega)
  · rw [(ask_bad hp).1] at h
    exact absurd h hp
/-- Whether it was sent. -/
theorem ask_sent (h : askC n E z x y now = 0) : decide (((askS n E z x y now).length : Int) = 1) = !askB n E z x y := by
  have hp := (ask_ok h).2.2
  have hr := (preC_zero hp).1
  by_cases ha : 0 ≤ atW n E z x y
  · rw [(ask_there hp ha).2.2]
    simp [askB, hr, ha]
  · by_cases h8 : 8 ≤ n
    · rw [(ask_full hp ha h8).1] at h; cases h
    · rw [(ask_new hp ha h8).2.2]
      simp [askB, hr, ha]
end
section
variable {n : Nat} {E : Nat → Req} {z x y now : Int}
/-- Asked for again nothing changes. -/
theorem ask_again (hr : reqsC n E = 0) (ha : 0 ≤ atW n E z x y) (hp : timC now = 0) (hf : refC z x y = 0) : askC n E z x y now = 0 ∧ (askS n E z x y now).length = 0 ∧ (askL n E z x y now).length = n := by
  have h : preC n E z x y now = 0 := by unfold preC or3; rw [if_pos hr, if_pos hp]; exact hf
  obtain ⟨h1, h2, h3⟩ := ask_there h ha
  rw [h1, h2, h3, listW_len]
  exact ⟨rfl, rfl, rfl⟩
theorem keptL_has {G : Nat → Bool} {P : Req → Prop} : ∀ k, (∀ j, j < k → G j = true → P (E j)) → ∀ i, i < (keptL G E k).length → P (nw (keptL G E k) i)
  | 0, _, i, hi => absurd hi (Nat.not_lt_zero _)
  | k + 1, h, i, hi => by
    cases hg : G k
    · rw [keptL_no hg] at hi ⊢
      exact keptL_has k (fun j hj => h j (by omega)) i hi
    · rw [keptL_yes hg] at hi ⊢
      by_cases e : i < (keptL G E k).length
      · rw [nw_app _ _ _ e]
        exact keptL_has k (fun j hj => h j (by omega)) i e
      · rw [List.length_append] at hi
        simp at hi
        obtain rfl : i = (keptL G E k).length := by omega
        rw [nw_last]
        exact h k (by omega) hg
/-- What was dropped is not asked for. -/
theorem drop_ok (hr : reqsC n E = 0) (ha : 0 ≤ atW n E z x y) : dropC n E z x y = 0 ∧ askB (dropL n E z x y).length (nw (dropL n E z x y)) z x y = false := by
  rcases atW_lt n E z x y with h | ⟨p, hp, h⟩
  · omega
  obtain ⟨h1, h2⟩ := drop_at hr h
  refine ⟨h1, ?_⟩
  rw [h2]
  have hpz : isR (E p) z x y = true := by
    rcases firstI_or (fun i => isR (E i) z x y) n with ⟨h3, _⟩ | ⟨i, _, hg, hf, _⟩
    · unfold atW at h; rw [h3] at h; omega
    · unfold atW at h
      rw [hf] at h
      obtain rfl : i = p := by omega
      exact hg
  have hno : atW (lessL p n E).length (nw (lessL p n E)) z x y = -1 := atW_no (fun i hi => keptL_has (G := fun j => decide (j ≠ p)) (P := fun e => isR e z x y = false) n (fun j hj hg => by
    have hne : j ≠ p := by simpa using hg
    obtain ⟨e1, e2, e3⟩ := isR_eq hpz
    rw [← e1, ← e2, ← e3]
    rcases Nat.lt_or_gt_of_ne hne with h3 | h3
    · exact reqs_apart hr h3 hp
    · rw [isR_sym]; exact reqs_apart hr h3 hj) i hi)
  simp [askB, hno]
theorem isR_ret (e f : Req) (now : Int) : isR (retE now e) (retE now f).z (retE now f).x (retE now f).y = isR e f.z f.x f.y := by
  unfold retE isR
  split <;> split <;> rfl
theorem retE_ref (e : Req) (now : Int) : (retE now e).z = e.z ∧ (retE now e).x = e.x ∧ (retE now e).y = e.y := by
  unfold retE
  split <;> exact ⟨rfl, rfl, rfl⟩
theorem retE_due (e : Req) (now : Int) : ¬ (retE now e).du ≤ now := by
  unfold retE
  by_cases h : e.du ≤ now
  · rw [if_pos h]; simp; omega
  · rw [if_neg h]; exact h
/-- What is behind a retry. -/
theorem retry_ok (hr : reqsC n E = 0) (hp : timC now = 0) : retC n E now = 0 ∧ (rtL n E now).length = n ∧ (∀ i, i < n → nw (rtL n E now) i = retE now (E i)) ∧ reqsC (rtL n E now).length (nw (rtL n E now)) = 0 ∧ (rtS (rtL n E now).length (nw (rtL n E now)) now).length = 0 := by
  have h0 : retC n E now = 0 := by unfold retC or2; rw [if_pos hr]; exact hp
  obtain ⟨hl, hn⟩ := rtL_nw h0
  obtain ⟨n0, n1⟩ := timC_in hp
  obtain ⟨h8, hb, ha⟩ := (reqsC_iff n E).1 hr
  refine ⟨h0, hl, hn, ?_, ?_⟩
  · rw [hl, reqsC_congr hn]
    refine (reqsC_iff _ _).2 ⟨h8, fun j hj => ?_, fun i j hi hj => by rw [isR_ret]; exact ha i j hi hj⟩
    have := hb j hj
    obtain ⟨e1, e2, e3⟩ := retE_ref (E j) now
    unfold reqB at this ⊢
    rw [e1, e2, e3]
    unfold retE
    by_cases hd : (E j).du ≤ now
    · rw [if_pos hd]
      simp only [Bool.and_eq_true, inB, decide_eq_true_eq] at this ⊢
      have h99 : 1 ≤ min ((E j).tr + 1) 99 ∧ min ((E j).tr + 1) 99 ≤ 99 := by omega
      exact ⟨this.1, ⟨by omega, by omega⟩, h99⟩
    · rw [if_neg hd]; exact this
  · unfold rtS
    split
    · rw [hl]
      have : sentL now (nw (rtL n E now)) n = [] := by
        have key : ∀ k, k ≤ n → sentL now (nw (rtL n E now)) k = [] := fun k => by
          induction k with
          | zero => intro _; rfl
          | succ k ih => intro hk; rw [sentL_no (by rw [hn k (by omega)]; exact retE_due _ _)]; exact ih (by omega)
        exact key n (Nat.le_refl _)
      rw [this]; rfl
    · rfl
end
end Go.Proofs.Ytfknbijpimpbfaa
