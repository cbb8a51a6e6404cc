/- Labels: the program and the model tell the same ones. -/
import Derived.Test.YtnbhpicdghgniaaDoorFe1
namespace Go.Proofs.YtnbhpicdghgniaaDoor
open Go.RowKit
set_option linter.unusedSimpArgs false
set_option linter.unusedVariables false
set_option maxRecDepth 100000

/-- A byte of a text. -/
def byteI (s : ByteArray) (i : Nat) : Int := if h : i < s.size then ((s[i]'h).toNat : Int) else 0
theorem byteI_at (s : ByteArray) (i : Nat) (h : i < s.size) : byteI s i = ((s[i]'h).toNat : Int) := by simp [byteI, h]
/-- All its bytes are letters. -/
def allLet (s : ByteArray) : Bool := decide (∀ i, i < s.size → letB (byteI s i) = true)
def labB (s : ByteArray) : Bool := decide (s.size ≤ 6) && allLet s
theorem labB_long {s : ByteArray} (h : 6 < s.size) : labB s = false := by simp [labB]; omega
theorem labB_bad {s : ByteArray} (k : Nat) (hk : k < s.size) (h : letB (byteI s k) = false) : labB s = false := by
  have : allLet s = false := by
    unfold allLet
    rw [decide_eq_false]
    intro hc
    have := hc k hk
    rw [h] at this; cases this
  simp [labB, this]
theorem labB_all {s : ByteArray} (h : ∀ i, i < s.size → letB (byteI s i) = true) : labB s = decide (s.size ≤ 6) := by
  have : allLet s = true := decide_eq_true h
  simp [labB, this]

set_option maxHeartbeats 1000000 in
theorem isLabel_any (s : ByteArray) (w : World) (hs : s.size ≤ 1048576) : Calls Tryd.prog 40 #[.string s] w fun e w' => e = .returned (.bool (labB s)) ∧ Below w.heap.size w w' := by
  by_cases h6 : (6 : Int) < s.size
  · go_enter Tryd.func40, Tryd.ntmps40
    go_wp2
    go_ret
    exact ⟨ret_bool (labB_long (by omega)).symm, by (repeat (first | exact Below.refl _ _ | assumption | refine Below.drew ?_ | refine bl_alloc ?_ _ | refine bl_then ?_ (by assumption) | refine Below.setCell ?_ (by first | omega | (simp; done) | (simp; omega)) _ | refine bl_store ?_ ?_ _ _))⟩
  · go_enter Tryd.func40, Tryd.ntmps40
    go_wp2
    go_loopw [9] (fun i wr => ∃ k : Nat, k ≤ s.size ∧ i = .int .i64 k ∧ (∀ j, j < k → letB (byteI s j) = true) ∧ Below w.heap.size w wr) (fun i _ => s.size - (intOf i).toNat)
    case atStart => exact ⟨0, by omega, rfl, by omega, Below.refl _ _⟩
    case round =>
      obtain ⟨k, hk, rfl, hA, hB⟩ := hrel
      by_cases hlt : k < s.size
      · have hi : (k : Int) < (s.size : Int) := by omega
        have HA : Hid (∀ j, j < k → letB (byteI s j) = true) := hA
        have HB : Hid (Below w.heap.size w wr) := hB
        have hbk := (byteI_at s k hlt).symm
        clear hA hB
        go_wp2_with fail
        refine (isLetter_any _ _).mono ?_
        rintro e w' ⟨rfl, rfl⟩
        cases hl : letB (byteI s k)
        · go_wp2
          go_ret
          exact ⟨ret_bool (labB_bad k hlt hl).symm, HB.out⟩
        · have HL : Hid (letB (byteI s k) = true) := hl
          clear hl
          go_wp2
          go_roundw
          case rel => exact ⟨k + 1, by omega, by go_num, fun j hj => by
              by_cases e : j = k
              · rw [e]; exact HL.out
              · exact HA.out j (by omega), HB.out⟩
          case measure => simp [intOf]; omega
      · go_wp2
        go_ret
        exact ⟨ret_bool (by rw [labB_all (fun i hi => hA i (by omega))]; simp; omega), hB⟩
set_option maxHeartbeats 1000000 in
theorem l2Label_any (s : ByteArray) (w : World) (hs : s.size ≤ 1048576) : Calls Tryd.prog 34 #[.string s] w fun e w' => e = .returned (.bool (labB s)) ∧ Below w.heap.size w w' := by
    go_enter Tryd.func34, Tryd.ntmps34
    go_wp2
    go_loopw [3] (fun i wr => ∃ k : Nat, k ≤ s.size ∧ i = .int .i64 k ∧ (∀ j, j < k → letB (byteI s j) = true) ∧ Below w.heap.size w wr) (fun i _ => s.size - (intOf i).toNat)
    case atStart => exact ⟨0, by omega, rfl, by omega, Below.refl _ _⟩
    case round =>
      obtain ⟨k, hk, rfl, hA, hB⟩ := hrel
      by_cases hlt : k < s.size
      · have hi : (k : Int) < (s.size : Int) := by omega
        have HA : Hid (∀ j, j < k → letB (byteI s j) = true) := hA
        have HB : Hid (Below w.heap.size w wr) := hB
        have hbk := byteI_at s k hlt
        have HK := (show Hid _ from hbk)
        clear hA hB hbk
        by_cases l1 : ((s[k]'hlt).toNat : Int) < 97
        · go_wp2
          go_ret
          exact ⟨ret_bool (labB_bad k hlt (by rw [HK.out]; simp [letB]; omega)).symm, HB.out⟩
        · have l1' : decide (((s[k]'hlt).toNat : Int) < 97) = false := by simpa using l1
          by_cases l2 : (122 : Int) < ((s[k]'hlt).toNat : Int)
          · go_wp2
            go_ret
            exact ⟨ret_bool (labB_bad k hlt (by rw [HK.out]; simp [letB]; omega)).symm, HB.out⟩
          · have l2' : decide ((122 : Int) < ((s[k]'hlt).toNat : Int)) = false := by simpa using l2
            have HL : Hid (letB (byteI s k) = true) := by show _ = _; rw [HK.out]; simp [letB]; omega
            go_wp2
            go_roundw
            case rel => exact ⟨k + 1, by omega, by go_num, fun j hj => by
                by_cases e : j = k
                · rw [e]; exact HL.out
                · exact HA.out j (by omega), HB.out⟩
            case measure => simp [intOf]; omega
      · go_wp2
        go_ret
        exact ⟨ret_bool (by rw [labB_all (fun i hi => hA i (by omega))]; simp <;> omega), hB⟩
end Go.Proofs.YtnbhpicdghgniaaDoor
