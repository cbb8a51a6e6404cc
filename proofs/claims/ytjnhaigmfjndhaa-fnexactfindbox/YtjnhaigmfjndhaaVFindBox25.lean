/- The fault of one quad, by the model; whether quads are one tree. -/
import Derived.Test.YtjnhaigmfjndhaaVFindBox22
import Derived.Test.YtjnhaigmfjndhaaVFindBox23
import Derived.Test.YtjnhaigmfjndhaaVFindBox24
namespace Go.Proofs.Ytjnhaigmfjndhaa
open Go.RowKit Go.Shelf
set_option linter.unusedSimpArgs false
set_option linter.unusedVariables false
set_option maxRecDepth 100000

theorem l5One_any (p off n cap i : Nat) (Q : Nat → Qd) (w : World) (hQ : QsAt w w.heap.size p off n Q) (hn : n ≤ 1048576) (hi : i < n) :
    Calls Try.prog 43 #[.slice (some ⟨p, off, none⟩) n cap, .int .i64 (i : Int)] w fun e w' => e = .returned (.int .i64 (oneC Q n i)) ∧ Below w.heap.size w w' := by
  unfold oneC
  cases hbad : badAt Q n i with
  | true => rw [if_pos rfl]; exact l5One_bad p off n cap i Q w hQ hn hi hbad
  | false =>
    rw [if_neg (by decide)]
    by_cases hbox : boxC (Q i).a (Q i).b (Q i).c (Q i).d ≠ 0
    · rw [if_pos hbox]; exact l5One_box p off n cap i Q w hQ hn hi hbad hbox
    · rw [if_neg hbox]
      have hbox' := Classical.not_not.1 hbox
      by_cases hfi : (Q i).fi = 0
      · rw [if_pos hfi]; exact l5One_leaf p off n cap i Q w hQ hn hi hbad hbox' hfi
      · rw [if_neg hfi]; exact l5One_kids p off n cap i Q w hQ hn hi hbad hbox' hfi

/-- Of how many of the first k quads place j is a kid. -/
def cntQ (Q : Nat → Qd) : Nat → Nat → Nat
  | 0, _ => 0
  | k + 1, j => cntQ Q k j + if (Q k).fi ≠ 0 ∧ (Q k).fi ≤ (j : Int) ∧ (j : Int) < (Q k).fi + 4 then 1 else 0
theorem cntQ_le (Q : Nat → Qd) (j : Nat) : ∀ k, cntQ Q k j ≤ k
  | 0 => Nat.le_refl _
  | k + 1 => by have := cntQ_le Q j k; unfold cntQ; split <;> omega
/-- Of the next quad the first t kids are counted too. -/
def cntT (Q : Nat → Qd) (k t j : Nat) : Nat := cntQ Q k j + if (Q k).fi ≠ 0 ∧ (Q k).fi ≤ (j : Int) ∧ (j : Int) < (Q k).fi + (t : Int) then 1 else 0
theorem cntT_zero (Q : Nat → Qd) (k j : Nat) : cntT Q k 0 j = cntQ Q k j := by
  unfold cntT
  rw [if_neg (by omega)]
  rfl
theorem cntT_four (Q : Nat → Qd) (k j : Nat) : cntT Q k 4 j = cntQ Q (k + 1) j := rfl
theorem cntQ_none (Q : Nat → Qd) (k j : Nat) (h : (Q k).fi = 0) : cntQ Q (k + 1) j = cntQ Q k j := by
  show cntQ Q k j + _ = _
  rw [if_neg (fun h' => h'.1 h)]
  rfl
theorem cntT_succ (Q : Nat → Qd) (k t j f : Nat) (hf : (Q k).fi = (f : Int)) (h0 : 0 < f) : cntT Q k (t + 1) j = if j = f + t then cntT Q k t j + 1 else cntT Q k t j := by
  unfold cntT
  rw [hf]
  by_cases e : j = f + t
  · subst e
    rw [if_pos rfl, if_pos (by omega), if_neg (by omega)]
  · rw [if_neg e]
    by_cases h : f ≤ j ∧ j < f + t
    · rw [if_pos (by omega), if_pos (by omega)]
    · rw [if_neg (by omega), if_neg (by omega)]
/-- Whether all but the first one are a kid of just one. -/
def oneT (Q : Nat → Qd) (n : Nat) : Bool := decide (∀ j, j < n → cntQ Q n j = if j = 0 then 0 else 1) && decide ((Q 0).dp = 0)
theorem oneT_no {Q : Nat → Qd} {n j : Nat} (hj : j < n) (h : cntQ Q n j ≠ if j = 0 then 0 else 1) : oneT Q n = false := by
  unfold oneT
  rw [Bool.and_eq_false_iff]
  left
  exact decide_eq_false (fun h' => h (h' j hj))
theorem oneT_all {Q : Nat → Qd} {n : Nat} (h : ∀ j, j < n → cntQ Q n j = if j = 0 then 0 else 1) : oneT Q n = decide ((Q 0).dp = 0) := by
  unfold oneT
  rw [decide_eq_true h, Bool.true_and]

/-- Block r holds n counts. -/
def CntAt (W : World) (r n : Nat) (f : Nat → Nat) : Prop := ∀ j, j < n → W.cell? ⟨r, j, none⟩ = some (.int .i64 (f j : Int)) ∧ W.frozen? ⟨r, j, none⟩ = false
theorem CntAt.below {W W' : World} {r n : Nat} {f : Nat → Nat} (h : CntAt W r n f) (hb : Below W.heap.size W W') : CntAt W' r n f := fun j hj => by
  have hl := World.block_lt_of_cell? _ _ (h j hj).1
  exact ⟨(hb.cell (p := ⟨r, j, none⟩) hl).trans (h j hj).1, (hb.frozen (p := ⟨r, j, none⟩) hl).trans (h j hj).2⟩
theorem CntAt.same {W : World} {r n : Nat} {f g : Nat → Nat} (h : CntAt W r n f) (e : ∀ j, j < n → f j = g j) : CntAt W r n g := fun j hj => by rw [← e j hj]; exact h j hj
theorem CntAt.step {W : World} {r n i : Nat} {f g : Nat → Nat} (h : CntAt W r n f) (hi : i < n) (e : ∀ j, j < n → g j = if j = i then f j + 1 else f j) : CntAt (W.setCell ⟨r, i, none⟩ (.int .i64 ((f i : Int) + 1))) r n g := fun j hj => by
  refine ⟨?_, by rw [World.frozen?_setCell]; exact (h j hj).2⟩
  rw [e j hj]
  by_cases e' : j = i
  · subst e'
    rw [if_pos rfl, World.cell?_setCell_same _ _ _ (h j hj).1]
    simp
  · rw [if_neg e', World.cell?_setCell_other]
    · exact (h j hj).1
    · simp <;> omega
theorem cnt_made (n : Nat) (w : World) (t : TypeId) : CntAt (w.alloc (.cells (madeCells #[.int .i64 0] n) t)) w.heap.size n (fun _ => 0) := fun j hj => by
  have hz := size_madeCells #[.int .i64 0] n
  refine ⟨?_, World.frozen?_alloc_at _ _ _ _ rfl⟩
  rw [World.cell?_alloc_at _ _ _ _ rfl, Array.getElem?_eq_getElem (by rw [hz]; exact hj)]
  have e : j % 1 = 0 := Nat.mod_one j
  simp [madeCells, e]
theorem info_int : (Try.prog.info? 3).map (fun i => (i.zero, i.size, i.bytes)) = some (some (.int .i64 0), 1, 8) := by kernel_rfl
theorem info_i64 : (Try.prog.info? 2).map (fun i => (i.zero, i.size, i.bytes)) = some (some (.int .i64 0), 1, 8) := by kernel_rfl
theorem fi_ok {Q : Nat → Qd} {n k : Nat} (h : badAt Q n k = false) (hf : (Q k).fi ≠ 0) : ∃ f : Nat, (Q k).fi = (f : Int) ∧ 0 < f ∧ f + 4 ≤ n := by
  unfold badAt at h
  simp [inB, hf] at h
  exact ⟨(Q k).fi.toNat, by omega, by omega, by omega⟩

set_option maxHeartbeats 4000000 in
theorem isOneTree_any (p off n cap : Nat) (Q : Nat → Qd) (w : World) (hQ : QsAt w w.heap.size p off n Q) (hn : n ≤ 200) (hn0 : 0 < n) (hcap : n ≤ cap) (hok : ∀ i, i < n → badAt Q n i = false) :
    Calls Try.prog 52 #[.slice (some ⟨p, off, none⟩) n cap] w fun e w' => e = .returned (.bool (oneT Q n)) ∧ Below w.heap.size w w' := by
  have hpl : p < w.heap.size := hQ.1
  have HQ : Hid (QsAt w w.heap.size p off n Q) := hQ
  have HOK : Hid (∀ i, i < n → badAt Q n i = false) := hok
  have hmk : ∀ w : World, (Instr.makeSlice 103 (.int .i64 (n : Int)) (.int .i64 (n : Int))).run Try.prog w = .ok (.slice (some ⟨w.heap.size, 0, none⟩) n n) (w.alloc (.cells (madeCells #[.int .i64 0] n) 3)) := fun w => by
    obtain ⟨i, hi, hz, hs, hb⟩ := info_parts info_int
    have hr := run_make (P := Try.prog) w 103 3 i _ Try.underlying103 hi hz .i64 .i64 (n : Int) (n : Int) (by omega) (Int.le_refl _) (by rw [hb]; omega) (by omega)
    simp only [Int.toNat_natCast, hs, Nat.mul_one] at hr
    exact hr
  clear hQ hok
  go_enter Try.func52, Try.ntmps52
  go_wp2
  generalize hW : (w.alloc _ : World) = W
  have HB0 : Hid (Below w.heap.size w W) := by show Below _ _ _; subst hW; (repeat (first | exact Below.refl _ _ | assumption | refine Below.drew ?_ | refine bl_alloc ?_ _ | refine bl_then ?_ (by assumption) | refine Below.setCell ?_ (by first | omega | (simp; done) | (simp; omega)) _ | refine bl_store ?_ ?_ _ _))
  have HC0 : Hid (CntAt W w.heap.size n (cntQ Q 0)) := by show CntAt _ _ _ _; subst hW; exact cnt_made _ _ _
  clear hW hmk
  go_loopw [14] (fun i wr => ∃ k : Nat, k ≤ n ∧ i = .int .i64 (k : Int) ∧ Below w.heap.size w wr ∧ CntAt wr w.heap.size n (cntQ Q k)) (fun i _ => n - (intOf i).toNat)
  case atStart => exact ⟨0, by omega, rfl, HB0.out, HC0.out⟩
  case round =>
    obtain ⟨k, hk, rfl, hB, hC⟩ := hrel
    by_cases hlt : k < n
    · have hi1 : (k : Int) < (n : Int) := by omega
      have hi0 : (0 : Int) ≤ (k : Int) := by omega
      have HB : Hid (Below w.heap.size w wr) := hB
      have HC : Hid (CntAt wr w.heap.size n (cntQ Q k)) := hC
      have HLT : Hid (k < n) := hlt
      have hq5 := ((HQ.out.below hB).2 k hlt).1.2.2.2.2.2.1
      clear hB hC
      by_cases hfi : (Q k).fi = 0
      · rw [hfi] at hq5
        have HF : Hid ((Q k).fi = 0) := hfi
        clear hfi
        go_wp2_with (go_at_call 67; refine (kidsIn_none p off (off + k * 7) n cap _ hq5).mono ?_; rintro e w1 ⟨rfl, hb1⟩)
        go_loopw [24] (fun i wr2 => i = .int .i64 0 ∧ w1 = wr2) (fun _ _ => 0)
        case atStart => exact ⟨rfl, rfl⟩
        case round =>
          obtain ⟨rfl, rfl⟩ := hrel
          go_wp2
          go_roundw
          case rel => exact ⟨k + 1, HLT.out, by go_num, bl_then HB.out hb1, (HC.out.below hb1).same (fun j _ => (cntQ_none Q k j HF.out).symm)⟩
          case measure => have := HLT.out; simp [intOf]; omega
      · obtain ⟨f, hf, hf0, hfn⟩ := fi_ok (HOK.out k hlt) hfi
        rw [hf] at hq5
        have HF : Hid ((Q k).fi = (f : Int)) := hf
        clear hfi hf
        go_wp2_with (go_at_call 67; refine (kidsIn_some p off (off + k * 7) n cap f _ hq5 hf0 hfn hcap (by omega)).mono ?_; rintro e w1 ⟨rfl, hb1⟩)
        have HB1 : Hid (Below w.heap.size w w1) := bl_then HB.out hb1
        have HC1 : Hid (CntAt w1 w.heap.size n (cntT Q k 0)) := (HC.out.below hb1).same (fun j _ => (cntT_zero Q k j).symm)
        clear hb1
        go_loopw [24] (fun i wr2 => ∃ t : Nat, t ≤ 4 ∧ i = .int .i64 (t : Int) ∧ Below w.heap.size w wr2 ∧ CntAt wr2 w.heap.size n (cntT Q k t)) (fun i _ => 4 - (intOf i).toNat)
        case atStart => exact ⟨0, by omega, rfl, HB1.out, HC1.out⟩
        case round =>
          obtain ⟨t, ht, rfl, hB2, hC2⟩ := hrel
          by_cases ht4 : t < 4
          · have ht' : (t : Int) < 4 := by omega
            have hq6 := ((HQ.out.below hB2).2 k HLT.out).1.2.2.2.2.2.1
            rw [HF.out] at hq6
            obtain ⟨d0, d1⟩ := hC2 (f + t) (by omega)
            have HS : Hid (CntAt (wr.setCell ⟨w.heap.size, f + t, none⟩ (.int .i64 ((cntT Q k t (f + t) : Int) + 1))) w.heap.size n (cntT Q k (t + 1))) := hC2.step (by omega) (fun j _ => by rw [cntT_succ Q k t j f HF.out hf0])
            have HB2 : Hid (Below w.heap.size w wr) := hB2
            have hle : cntT Q k t (f + t) ≤ 1000 := by
              have := cntQ_le Q (f + t) k
              have := HLT.out
              unfold cntT
              split <;> omega
            generalize cntT Q k t (f + t) = C at *
            obtain ⟨s, hs⟩ : ∃ s, f + t = s := ⟨_, rfl⟩
            have e1 : (f : Int) + (t : Int) = (s : Int) := by omega
            have hsn : (s : Int) < (n : Int) := by omega
            have hs0 : (0 : Int) ≤ (s : Int) := by omega
            rw [hs] at d0 d1 HS
            have hfb : f ≤ 200 := by omega
            clear hB2 hC2 hs
            go_wp2
            go_roundw
            case rel => exact ⟨t + 1, by omega, by go_num, by have HB3 := HB2.out; (repeat (first | exact Below.refl _ _ | assumption | refine Below.drew ?_ | refine bl_alloc ?_ _ | refine bl_then ?_ (by assumption) | refine Below.setCell ?_ (by first | omega | (simp; done) | (simp; omega)) _ | refine bl_store ?_ ?_ _ _)), HS.out⟩
            case measure => simp [intOf]; omega
          · have ht' : ¬ (t : Int) < 4 := by omega
            have ht4' : t = 4 := by omega
            subst ht4'
            go_wp2
            go_roundw
            case rel => exact ⟨k + 1, HLT.out, by go_num, hB2, hC2⟩
            case measure => have := HLT.out; simp [intOf]; omega
    · have hi1 : ¬ (k : Int) < (n : Int) := by omega
      have hkn : k = n := by omega
      subst hkn
      have HB : Hid (Below w.heap.size w wr) := hB
      have HC : Hid (CntAt wr w.heap.size k (cntQ Q k)) := hC
      clear hB hC
      go_wp2
      go_loopw [42] (fun i wr2 => ∃ j : Nat, j ≤ k ∧ i = .int .i64 (j : Int) ∧ (∀ x, x < j → cntQ Q k x = if x = 0 then 0 else 1) ∧ wr = wr2) (fun i _ => k - (intOf i).toNat)
      case atStart => exact ⟨0, by omega, rfl, by omega, rfl⟩
      case round =>
        obtain ⟨j, hj, rfl, hA, rfl⟩ := hrel
        have HA : Hid (∀ x, x < j → cntQ Q k x = if x = 0 then 0 else 1) := hA
        clear hA
        by_cases hjk : j < k
        · have hj1 : (j : Int) < (k : Int) := by omega
          have hj0 : (0 : Int) ≤ (j : Int) := by omega
          have d0 := (HC.out j hjk).1
          have hle := cntQ_le Q j k
          by_cases hgood : cntQ Q k j = if j = 0 then 0 else 1
          · have HG : Hid (cntQ Q k j = if j = 0 then 0 else 1) := hgood
            rw [hgood] at d0
            clear hgood hle
            by_cases hjz : j = 0
            · have HJ : Hid (j = 0) := hjz
              subst hjz
              rw [if_pos rfl] at d0
              go_wp2
              go_roundw
              case rel => exact ⟨0 + 1, by omega, by go_num, fun x hx => (show x = 0 by omega) ▸ HG.out, by first | rfl | trivial⟩
              case measure => simp [intOf]; omega
            · rw [if_neg hjz] at d0
              have hjz' : ¬ (j : Int) = 0 := by omega
              have hjp : (0 : Int) < (j : Int) := by omega
              go_wp2
              go_roundw
              case rel => exact ⟨j + 1, by omega, by go_num, fun x hx => by
                  by_cases e : x = j
                  · rw [e]; exact HG.out
                  · exact HA.out x (by omega), by first | rfl | trivial⟩
              case measure => simp [intOf]; omega
          · have hno : Hid (oneT Q k = false) := oneT_no hjk hgood
            have HB' := HB.out
            by_cases hjz : j = 0
            · subst hjz
              rw [if_pos rfl] at hgood
              generalize cntQ Q k 0 = C at *
              have hC0 : ¬ C = 0 := hgood
              have hC1 : ¬ (C : Int) = 0 := by omega
              go_wp2
              go_ret
              exact ⟨ret_bool hno.out.symm, HB'⟩
            · rw [if_neg hjz] at hgood
              generalize cntQ Q k j = C at *
              have hjz' : ¬ (j : Int) = 0 := by omega
              have hjp : (0 : Int) < (j : Int) := by omega
              have hC1 : ¬ (C : Int) = 1 := by omega
              go_wp2
              go_ret
              exact ⟨ret_bool hno.out.symm, HB'⟩
        · have hj1 : ¬ (j : Int) < (k : Int) := by omega
          have hall : Hid (oneT Q k = decide ((Q 0).dp = 0)) := oneT_all (fun x hx => HA.out x (by omega))
          have q4 := ((HQ.out.below HB.out).2 0 hn0).1.2.2.2.2.1
          simp only [Nat.zero_mul, Nat.add_zero] at q4
          have hk0 : (0 : Int) < (k : Int) := by omega
          have HB' := HB.out
          go_wp2
          go_ret
          exact ⟨ret_bool hall.out.symm, HB'⟩
end Go.Proofs.Ytjnhaigmfjndhaa
