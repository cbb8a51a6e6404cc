/- Whether quads are one tree: the model's way. -/
import Derived.Test.YtjnhaigmfjndhaaVFindBox25
namespace Go.Proofs.Ytjnhaigmfjndhaa
open Go.RowKit Go.Shelf
set_option linter.unusedSimpArgs false
set_option linter.unusedVariables false
set_option maxRecDepth 100000

set_option maxHeartbeats 4000000 in
theorem l5Kids_any (p off n cap : Nat) (Q : Nat → Qd) (w : World) (hQ : QsAt w w.heap.size p off n Q) (hn : n ≤ 200) (hn0 : 0 < n) (hok : ∀ i, i < n → badAt Q n i = false) :
    Calls Try.prog 45 #[.slice (some ⟨p, off, none⟩) n cap] w fun e w' => e = .returned (.bool (oneT Q n)) ∧ Below w.heap.size w w' := by
  have hpl : p < w.heap.size := hQ.1
  have HQ : Hid (QsAt w w.heap.size p off n Q) := hQ
  have HOK : Hid (∀ i, i < n → badAt Q n i = false) := hok
  have hmk : ∀ w : World, (Instr.makeSlice 28 (.int .i64 (n : Int)) (.int .i64 (n : Int))).run Try.prog w = .ok (.slice (some ⟨w.heap.size, 0, none⟩) n n) (w.alloc (.cells (madeCells #[.int .i64 0] n) 2)) := fun w => by
    obtain ⟨i, hi, hz, hs, hb⟩ := info_parts info_i64
    have hr := run_make (P := Try.prog) w 28 2 i _ Try.underlying28 hi hz .i64 .i64 (n : Int) (n : Int) (by omega) (Int.le_refl _) (by rw [hb]; omega) (by omega)
    simp only [Int.toNat_natCast, hs, Nat.mul_one] at hr
    exact hr
  clear hQ hok
  go_enter Try.func45, Try.ntmps45
  go_wp2
  generalize hW : (w.alloc _ : World) = W
  have HB0 : Hid (Below w.heap.size w W) := by show Below _ _ _; subst hW; (repeat (first | exact Below.refl _ _ | assumption | refine Below.drew ?_ | refine bl_alloc ?_ _ | refine bl_then ?_ (by assumption) | refine Below.setCell ?_ (by first | omega | (simp; done) | (simp; omega)) _ | refine bl_store ?_ ?_ _ _))
  have HC0 : Hid (CntAt W w.heap.size n (cntQ Q 0)) := by show CntAt _ _ _ _; subst hW; exact cnt_made _ _ _
  clear hW hmk
  go_loopw [4] (fun i wr => ∃ k : Nat, k ≤ n ∧ i = .int .i64 (k : Int) ∧ Below w.heap.size w wr ∧ CntAt wr w.heap.size n (cntQ Q k)) (fun i _ => n - (intOf i).toNat)
  case atStart => exact ⟨0, by omega, rfl, HB0.out, HC0.out⟩
  case round =>
    obtain ⟨k, hk, rfl, hB, hC⟩ := hrel
    by_cases hlt : k < n
    · have hi1 : (k : Int) < (n : Int) := by omega
      have hi0 : (0 : Int) ≤ (k : Int) := by omega
      have HB : Hid (Below w.heap.size w wr) := hB
      have HC : Hid (CntAt wr w.heap.size n (cntQ Q k)) := hC
      have HLT : Hid (k < n) := hlt
      have hq5 := ((HQ.out.below hB).2 k hlt).1.2.2.2.2.2.1
      clear hB hC
      by_cases hfi : (Q k).fi = 0
      · rw [hfi] at hq5
        have HF : Hid ((Q k).fi = 0) := hfi
        clear hfi
        go_wp2
        generalize wr = w1 at *
        go_loopw [5] (fun i wr2 => i = .int .i64 0 ∧ w1 = wr2) (fun _ _ => 0)
        case atStart => exact ⟨rfl, rfl⟩
        case round =>
          obtain ⟨rfl, rfl⟩ := hrel
          go_wp2
          go_roundw
          case rel => exact ⟨k + 1, HLT.out, by go_num, HB.out, HC.out.same (fun j _ => (cntQ_none Q k j HF.out).symm)⟩
          case measure => have := HLT.out; simp [intOf]; omega
      · obtain ⟨f, hf, hf0, hfn⟩ := fi_ok (HOK.out k hlt) hfi
        rw [hf] at hq5
        have HF : Hid ((Q k).fi = (f : Int)) := hf
        clear hfi hf
        have HC1 : Hid (CntAt wr w.heap.size n (cntT Q k 0)) := HC.out.same (fun j _ => (cntT_zero Q k j).symm)
        go_wp2
        generalize wr = w1 at *
        go_loopw [5] (fun i wr2 => ∃ t : Nat, t ≤ 4 ∧ i = .int .i64 (t : Int) ∧ Below w.heap.size w wr2 ∧ CntAt wr2 w.heap.size n (cntT Q k t)) (fun i _ => 4 - (intOf i).toNat)
        case atStart => exact ⟨0, by omega, rfl, HB.out, HC1.out⟩
        case round =>
          obtain ⟨t, ht, rfl, hB2, hC2⟩ := hrel
          have hq6 := ((HQ.out.below hB2).2 k HLT.out).1.2.2.2.2.2.1
          rw [HF.out] at hq6
          have hfz : ¬ (f : Int) = 0 := by omega
          by_cases ht4 : t < 4
          · have ht' : (t : Int) < 4 := by omega
            obtain ⟨d0, d1⟩ := hC2 (f + t) (by omega)
            have HS : Hid (CntAt (wr.setCell ⟨w.heap.size, f + t, none⟩ (.int .i64 ((cntT Q k t (f + t) : Int) + 1))) w.heap.size n (cntT Q k (t + 1))) := hC2.step (by omega) (fun j _ => by rw [cntT_succ Q k t j f HF.out hf0])
            have HB2 : Hid (Below w.heap.size w wr) := hB2
            have hle : cntT Q k t (f + t) ≤ 1000 := by
              have := cntQ_le Q (f + t) k
              have := HLT.out
              unfold cntT
              split <;> omega
            generalize cntT Q k t (f + t) = C at *
            obtain ⟨s, hs⟩ : ∃ s, f + t = s := ⟨_, rfl⟩
            have e1 : (f : Int) + (t : Int) = (s : Int) := by omega
            have hsn : (s : Int) < (n : Int) := by omega
            have hs0 : (0 : Int) ≤ (s : Int) := by omega
            rw [hs] at d0 d1 HS
            have hfb : f ≤ 200 := by omega
            clear hB2 hC2 hs
            go_wp2
            go_roundw
            case rel => exact ⟨t + 1, by omega, by go_num, by have HB3 := HB2.out; (repeat (first | exact Below.refl _ _ | assumption | refine Below.drew ?_ | refine bl_alloc ?_ _ | refine bl_then ?_ (by assumption) | refine Below.setCell ?_ (by first | omega | (simp; done) | (simp; omega)) _ | refine bl_store ?_ ?_ _ _)), HS.out⟩
            case measure => simp [intOf]; omega
          · have ht' : ¬ (t : Int) < 4 := by omega
            have ht4' : t = 4 := by omega
            subst ht4'
            go_wp2
            go_roundw
            case rel => exact ⟨k + 1, HLT.out, by go_num, hB2, hC2⟩
            case measure => have := HLT.out; simp [intOf]; omega
    · have hi1 : ¬ (k : Int) < (n : Int) := by omega
      have hkn : k = n := by omega
      subst hkn
      have HB : Hid (Below w.heap.size w wr) := hB
      have HC : Hid (CntAt wr w.heap.size k (cntQ Q k)) := hC
      clear hB hC
      go_wp2
      go_loopw [6] (fun i wr2 => ∃ j : Nat, j ≤ k ∧ i = .int .i64 (j : Int) ∧ (∀ x, x < j → cntQ Q k x = if x = 0 then 0 else 1) ∧ wr = wr2) (fun i _ => k - (intOf i).toNat)
      case atStart => exact ⟨0, by omega, rfl, by omega, rfl⟩
      case round =>
        obtain ⟨j, hj, rfl, hA, rfl⟩ := hrel
        have HA : Hid (∀ x, x < j → cntQ Q k x = if x = 0 then 0 else 1) := hA
        clear hA
        by_cases hjk : j < k
        · have hj1 : (j : Int) < (k : Int) := by omega
          have hj0 : (0 : Int) ≤ (j : Int) := by omega
          have d0 := (HC.out j hjk).1
          have hle := cntQ_le Q j k
          by_cases hgood : cntQ Q k j = if j = 0 then 0 else 1
          · have HG : Hid (cntQ Q k j = if j = 0 then 0 else 1) := hgood
            rw [hgood] at d0
            clear hgood hle
            by_cases hjz : j = 0
            · subst hjz
              rw [if_pos rfl] at d0
              go_wp2
              go_roundw
              case rel => exact ⟨0 + 1, by omega, by go_num, fun x hx => (show x = 0 by omega) ▸ HG.out, by first | rfl | trivial⟩
              case measure => simp [intOf]; omega
            · rw [if_neg hjz] at d0
              have hjz' : ¬ (j : Int) = 0 := by omega
              have hjp : (0 : Int) < (j : Int) := by omega
              go_wp2
              go_roundw
              case rel => exact ⟨j + 1, by omega, by go_num, fun x hx => by
                  by_cases e : x = j
                  · rw [e]; exact HG.out
                  · exact HA.out x (by omega), by first | rfl | trivial⟩
              case measure => simp [intOf]; omega
          · have hno : Hid (oneT Q k = false) := oneT_no hjk hgood
            have HB' := HB.out
            by_cases hjz : j = 0
            · subst hjz
              rw [if_pos rfl] at hgood
              generalize cntQ Q k 0 = C at *
              have hC0 : ¬ C = 0 := hgood
              have hC1 : ¬ (C : Int) = 0 := by omega
              go_wp2
              go_ret
              exact ⟨ret_bool hno.out.symm, HB'⟩
            · rw [if_neg hjz] at hgood
              generalize cntQ Q k j = C at *
              have hjz' : ¬ (j : Int) = 0 := by omega
              have hjp : (0 : Int) < (j : Int) := by omega
              have hC1 : ¬ (C : Int) = 1 := by omega
              go_wp2
              go_ret
              exact ⟨ret_bool hno.out.symm, HB'⟩
        · have hj1 : ¬ (j : Int) < (k : Int) := by omega
          have hall : Hid (oneT Q k = decide ((Q 0).dp = 0)) := oneT_all (fun x hx => HA.out x (by omega))
          have q4 := ((HQ.out.below HB.out).2 0 hn0).1.2.2.2.2.1
          simp only [Nat.zero_mul, Nat.add_zero] at q4
          have hk0 : (0 : Int) < (k : Int) := by omega
          have HB' := HB.out
          go_wp2
          go_ret
          exact ⟨ret_bool hall.out.symm, HB'⟩
end Go.Proofs.Ytjnhaigmfjndhaa
