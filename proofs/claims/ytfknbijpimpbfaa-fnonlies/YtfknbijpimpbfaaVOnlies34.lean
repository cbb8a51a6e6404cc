/- Several texts in one. -/
import Derived.Test.YtfknbijpimpbfaaVOnlies33
import Derived.Test.YtfknbijpimpbfaaVOnlies22

/- OnlySeen of the model. -/

namespace Go.Proofs.Ytfknbijpimpbfaa
open Go.RowKit
set_option linter.unusedSimpArgs false
set_option linter.unusedVariables false
set_option maxRecDepth 100000

theorem resOnlyS {T : Array Value} {Wf : World} {r : Nat} {c : Int} {v1 v2 : Value} (hT : T[4]?.getD undef = .pointer (some ⟨r, 0, none⟩)) (h0 : Wf.cell? ⟨r, 0, none⟩ = some (.int .i64 c)) (h1 : Wf.cell? ⟨r, 1, none⟩ = some v1) (h2 : Wf.cell? ⟨r, 2, none⟩ = some v2) :
    (results Try.f8 T).run Try.prog Wf = .ok (rqV c v1 v2) Wf := by
  simp [results, Try.results8, go_sem, hT, h0, h1, h2]
set_option maxHeartbeats 8000000 in
theorem spec_OnlySeen_any (a : Option Addr) (n cap : Nat) (E : Nat → Req) (z x y wd ht : Int) (w : World) (hp : IsWs w a n E) (hn : n ≤ 1048576) :
    Calls Try.prog 8 #[.slice a n cap, camV z x y wd ht] w fun e w' => ∃ v2, e = .returned (rqV (onlyC n E z x y wd ht) (.slice none 0 0) v2) ∧ OwnW w' w.heap.size v2 (onlyL n E z x y wd ht).length (nw (onlyL n E z x y wd ht)) ∧ Below w.heap.size w w' := by
  have HP : Hid (IsWs w a n E) := hp
  have HF : Hid (∀ W, Below w.heap.size w W → Calls Try.prog 28 #[.slice a n cap] W fun e w' => e = .returned (.int .i64 (reqsC n E)) ∧ Below W.heap.size W w') := fun W h => l12Fault_any a n cap E W (hp.below h) hn
  clear hp
  go_enter Try.func8, Try.ntmps8
  go_wp2_with fail
  generalize hW : ((w.alloc _).alloc _ : World) = W
  have HB0 : Hid (Below w.heap.size w W) := by show Below _ _ _; subst hW; (repeat (first | exact Below.refl _ _ | assumption | refine Below.drew ?_ | refine bl_alloc ?_ _ | refine bl_then ?_ (by assumption) | refine Below.setCell ?_ (by first | omega | (simp; done) | (simp; omega)) _ | refine bl_store ?_ ?_ _ _))
  have HSZ : Hid (w.heap.size + 1 < W.heap.size) := by show _ < _; subst hW; simp
  have HCA : Hid (CamAt W w.heap.size z x y wd ht) := by show CamAt _ _ _ _ _ _ _; subst hW; exact ⟨by simp [go_sem], by simp [go_sem], by simp [go_sem], by simp [go_sem], by simp [go_sem]⟩
  have HTH : Hid (There W (w.heap.size + 1) 3) := by
    show There _ _ _
    subst hW
    have := there3q (w.alloc (.cells #[.int .i64 z, .int .i64 x, .int .i64 y, .int .i64 wd, .int .i64 ht] 26)) (.int .i64 0) (.slice none 0 0) (.slice none 0 0) 31
    simpa using this
  clear hW
  refine (HF.out _ HB0.out).mono ?_
  rintro e w1 ⟨rfl, hb1⟩
  have bad : ∀ (kk : Int) (w4 : World), Below W.heap.size W w4 → onlyC n E z x y wd ht = kk → kk ≠ 0 → There w4 (w.heap.size + 1) 3 ∧ Below w.heap.size w w4 ∧ onlyL n E z x y wd ht = [] := fun kk w4 hb hk h0 => ⟨HTH.out.below hb, bl_then HB0.out hb, by unfold onlyL; rw [if_neg (by rw [hk]; exact h0)]⟩
  have BAD := (show Hid _ from bad)
  clear bad
  by_cases hp0 : reqsC n E = 0
  · rw [hp0]
    have HQ0 : Hid (reqsC n E = 0) := hp0
    have HCC : Hid (onlyC n E z x y wd ht = camC z x y wd ht) := by show _ = _; unfold onlyC or2; rw [if_pos hp0]
    clear hp0
    go_wp2_with fail
    refine (l9Fault_any w.heap.size z x y wd ht w1 (HCA.out.up hb1)).mono ?_
    rintro e w2 ⟨rfl, hb2⟩
    have hB2 : Below W.heap.size W w2 := bl_then hb1 hb2
    clear hb1 hb2 HF
    cases hcb : camB z x y wd ht
    · have hcc : camC z x y wd ht = 3 := by unfold camC; rw [hcb]; rfl
      rw [hcc] at HCC ⊢
      clear hcc hcb
      go_wp2_with fail
      refine (l12Bad_any 3 _).mono ?_
      rintro e w4 ⟨rfl, hb4⟩
      obtain ⟨hT4, hB4, hL4⟩ := BAD.out 3 w4 (bl_then hB2 hb4) HCC.out (by decide)
      have HT4 : Hid (There w4 (w.heap.size + 1) 3) := hT4
      have HB4 : Hid (Below w.heap.size w w4) := hB4
      have HL4 : Hid (onlyL n E z x y wd ht = []) := hL4
      have t0 := HT4.out.cell 0 (by omega)
      have t1 := HT4.out.cell 1 (by omega)
      have t2 := HT4.out.cell 2 (by omega)
      have f0 := (HT4.out 0 (by omega)).2
      have f1 := (HT4.out 1 (by omega)).2
      have f2 := (HT4.out 2 (by omega)).2
      clear hT4 hB4 hL4 hb4 hB2
      go_wp2_with fail
      obtain ⟨q0, q1, q2⟩ := set3q (a := .int .i64 3) (b := .slice none 0 0) (c := .slice none 0 0) HT4.out
      refine bodyPost_ret (resOnlyS rfl q0 q1 q2) rfl ⟨_, by rw [HCC.out], by rw [HL4.out]; exact (RowW.no _ _).own, ?_⟩
      exact ((HB4.out.setCell (Nat.le_succ _) _).setCell (Nat.le_succ _) _).setCell (Nat.le_succ _) _
    · have hcc : camC z x y wd ht = 0 := by unfold camC; rw [if_pos hcb]
      rw [hcc] at HCC ⊢
      have HL : Hid (onlyL n E z x y wd ht = keptL (fun j => seenB z x y wd ht (E j).z (E j).x (E j).y) E n) := by show _ = _; unfold onlyL; rw [if_pos HCC.out]
      have HSE : Hid (Calls Try.prog 31 #[.slice a n cap, .pointer (some ⟨w.heap.size, 0, none⟩)] w2 fun e w' => ∃ v, e = .returned v ∧ RowW w2.heap.size w' v (keptL (fun j => seenB z x y wd ht (E j).z (E j).x (E j).y) E n) ∧ Below w2.heap.size w2 w') := l12Seen_any a n cap w.heap.size E z x y wd ht w2 (HP.out.below (bl_then HB0.out hB2)) (HCA.out.up hB2) hcb (reqsC_le HQ0.out)
      clear hcc hcb
      generalize keptL (fun j => seenB z x y wd ht (E j).z (E j).x (E j).y) E n = KL at *
      go_wp2_with fail
      refine Calls.mono HSE.out ?_
      rintro e w4 ⟨v, rfl, hO4, hb4⟩
      obtain ⟨va, vc, hv⟩ := hO4.slice
      subst hv
      have HO4 : Hid (OwnW w4 w2.heap.size (.slice va KL.length vc) KL.length (nw KL)) := hO4.own
      have HT4 : Hid (There w4 (w.heap.size + 1) 3) := (HTH.out.below hB2).below hb4
      have HB4 : Hid (Below w.heap.size w w4) := bl_then HB0.out (bl_then hB2 hb4)
      have HSV : Hid (w.heap.size + 1 < w2.heap.size) := by have := hB2.size; have := HSZ.out; show _ < _; omega
      have t0 := HT4.out.cell 0 (by omega)
      have t1 := HT4.out.cell 1 (by omega)
      have t2 := HT4.out.cell 2 (by omega)
      have f0 := (HT4.out 0 (by omega)).2
      have f1 := (HT4.out 1 (by omega)).2
      have f2 := (HT4.out 2 (by omega)).2
      clear hO4 hb4 HSE hB2
      generalize hLL : KL.length = LL at *
      go_wp2_with fail
      obtain ⟨q0, q1, q2⟩ := set3q (a := .int .i64 0) (b := .slice none 0 0) (c := .slice va LL vc) HT4.out
      refine bodyPost_ret (resOnlyS rfl q0 q1 q2) rfl ⟨_, by rw [HCC.out], by rw [HL.out, hLL]; exact HO4.out.set3 HSV.out (by have := HSV.out; omega), ?_⟩
      exact ((HB4.out.setCell (Nat.le_succ _) _).setCell (Nat.le_succ _) _).setCell (Nat.le_succ _) _
  · have hp0' : (reqsC n E == 0) = false := by simpa using hp0
    have HCC : Hid (onlyC n E z x y wd ht = reqsC n E) := by show _ = _; unfold onlyC or2; rw [if_neg hp0]
    have HN0 : Hid (reqsC n E ≠ 0) := hp0
    clear hp0
    generalize reqsC n E = k1 at *
    go_wp2_with fail
    refine (l12Bad_any k1 _).mono ?_
    rintro e w4 ⟨rfl, hb4⟩
    obtain ⟨hT4, hB4, hL4⟩ := BAD.out k1 w4 (bl_then hb1 hb4) HCC.out HN0.out
    have HT4 : Hid (There w4 (w.heap.size + 1) 3) := hT4
    have HB4 : Hid (Below w.heap.size w w4) := hB4
    have HL4 : Hid (onlyL n E z x y wd ht = []) := hL4
    have t0 := HT4.out.cell 0 (by omega)
    have t1 := HT4.out.cell 1 (by omega)
    have t2 := HT4.out.cell 2 (by omega)
    have f0 := (HT4.out 0 (by omega)).2
    have f1 := (HT4.out 1 (by omega)).2
    have f2 := (HT4.out 2 (by omega)).2
    clear hT4 hB4 hL4 hb4 hb1
    go_wp2_with fail
    obtain ⟨q0, q1, q2⟩ := set3q (a := .int .i64 k1) (b := .slice none 0 0) (c := .slice none 0 0) HT4.out
    refine bodyPost_ret (resOnlyS rfl q0 q1 q2) rfl ⟨_, by rw [HCC.out], by rw [HL4.out]; exact (RowW.no _ _).own, ?_⟩
    exact ((HB4.out.setCell (Nat.le_succ _) _).setCell (Nat.le_succ _) _).setCell (Nat.le_succ _) _
end Go.Proofs.Ytfknbijpimpbfaa
/- Plain facts: of requests those that are seen. -/

namespace Go.Proofs.Ytfknbijpimpbfaa
open Go.RowKit
set_option linter.unusedSimpArgs false
set_option linter.unusedVariables false

theorem keptL_get {G : Nat → Bool} {E : Nat → Req} : ∀ {n j : Nat}, j < n → G j = true → ∃ i, i < (keptL G E n).length ∧ nw (keptL G E n) i = E j
  | n + 1, j, hj, hg => by
    by_cases e : j = n
    · subst e
      rw [keptL_yes hg]
      exact ⟨(keptL G E j).length, by simp, nw_last _ _⟩
    · obtain ⟨i, hi, hn⟩ := keptL_get (G := G) (E := E) (n := n) (j := j) (by omega) hg
      cases hn' : G n
      · rw [keptL_no hn']
        exact ⟨i, hi, hn⟩
      · rw [keptL_yes hn']
        exact ⟨i, by simp; omega, by rw [nw_app _ _ _ hi]; exact hn⟩
theorem keptL_ok {G : Nat → Bool} {E : Nat → Req} {n : Nat} (h : reqsC n E = 0) : reqsC (keptL G E n).length (nw (keptL G E n)) = 0 := by
  obtain ⟨h8, hb, ha⟩ := (reqsC_iff n E).1 h
  refine (reqsC_iff _ _).2 ⟨Nat.le_trans (keptL_le G E n) h8, fun j hj => keptL_has (G := G) (P := fun e => reqB e = true) n (fun i hi _ => hb i hi) j hj, ?_⟩
  have key : ∀ k, k ≤ n → ∀ i j, i < j → j < (keptL G E k).length → isR (nw (keptL G E k) i) (nw (keptL G E k) j).z (nw (keptL G E k) j).x (nw (keptL G E k) j).y = false := fun k => by
    induction k with
    | zero => intro _ i j _ hj; exact absurd hj (Nat.not_lt_zero _)
    | succ k ih =>
      intro hk i j hij hj
      cases hg : G k
      · rw [keptL_no hg] at hj ⊢
        exact ih (by omega) i j hij hj
      · rw [keptL_yes hg] at hj ⊢
        rw [List.length_append] at hj
        simp at hj
        by_cases e : j < (keptL G E k).length
        · rw [nw_app _ _ _ (by omega), nw_app _ _ _ e]
          exact ih (by omega) i j hij e
        · obtain rfl : j = (keptL G E k).length := by omega
          rw [nw_app _ _ _ hij, nw_last]
          exact keptL_has (G := G) (P := fun e => isR e (E k).z (E k).x (E k).y = false) k (fun m hm _ => ha m k hm (by omega)) i hij
  exact fun i j => key n (Nat.le_refl _) i j
/-- One is asked for among those that stay just where it is seen. -/
theorem only_asked {g : Int → Int → Int → Bool} {E : Nat → Req} {n : Nat} (h : reqsC n E = 0) {k : Nat} (hk : k < n) : askB (keptL (fun j => g (E j).z (E j).x (E j).y) E n).length (nw (keptL (fun j => g (E j).z (E j).x (E j).y) E n)) (E k).z (E k).x (E k).y = g (E k).z (E k).x (E k).y := by
  have h0 := keptL_ok (G := fun j => g (E j).z (E j).x (E j).y) h
  cases hg : g (E k).z (E k).x (E k).y
  · have hno : atW (keptL (fun j => g (E j).z (E j).x (E j).y) E n).length (nw (keptL (fun j => g (E j).z (E j).x (E j).y) E n)) (E k).z (E k).x (E k).y = -1 := atW_no (fun i hi => keptL_has (G := fun j => g (E j).z (E j).x (E j).y) (P := fun e => isR e (E k).z (E k).x (E k).y = false) n (fun j hj hgj => by
      cases hr : isR (E j) (E k).z (E k).x (E k).y
      · rfl
      · obtain ⟨e1, e2, e3⟩ := isR_eq hr
        rw [e1, e2, e3, hg] at hgj
        cases hgj) i hi)
    simp [askB, hno]
  · obtain ⟨i, hi, hn⟩ := keptL_get (G := fun j => g (E j).z (E j).x (E j).y) (E := E) hk hg
    have hy := atW_yes (E := nw (keptL (fun j => g (E j).z (E j).x (E j).y) E n)) (z := (E k).z) (x := (E k).x) (y := (E k).y) hi (by rw [hn]; exact isR_self _)
    simp [askB, h0, hy]
end Go.Proofs.Ytfknbijpimpbfaa
