/- The text of a mark: the same for the same number. -/
import Derived.Test.YtefcecnlgbeclaaVSumTile1
import Derived.Test.YtefcecnlgbeclaaRows
import Derived.WalkSpells
import Derived.WalkLawsBesides
import Derived.Outline
import Derived.Laws.IdiomStrings
namespace Go.Proofs.Ytefcecnlgbeclaa
open Go.RowKit
set_option linter.unusedSimpArgs false
set_option linter.unusedVariables false
set_option maxRecDepth 100000

def dgB (m : Nat) : UInt8 := UInt8.ofNat (48 + m % 10)
theorem dgB_nat (m : Nat) : (dgB m).toNat = 48 + m % 10 := by
  unfold dgB
  rw [UInt8.toNat_ofNat']
  omega
/-- The digits of k, ahead of s. -/
def mDg (k : Nat) (s : ByteArray) : ByteArray := if h : k = 0 then s else mDg (k / 10) (⟨#[dgB k]⟩ ++ s)
termination_by k
decreasing_by omega
def mTx (k : Nat) : ByteArray := ⟨#[109]⟩ ++ mDg k ⟨#[]⟩
set_option maxHeartbeats 2000000 in
theorem markText_any (k : Nat) (w : World) (h0 : 0 < k) (hk : k ≤ 1152921504606846976) :
    Calls Try.prog 89 #[.int .i64 (k : Int)] w fun e w' => e = .returned (.string (mTx k)) ∧ Below w.heap.size w w' := by
  have hneg : ¬ (k : Int) ≤ 0 := by omega
  go_enter Try.func89, Try.ntmps89
  go_wp2
  go_loopw [0, 3] (fun kk o wr => ∃ (m : Nat) (s : ByteArray) (j : Nat), kk = .int .i64 (m : Int) ∧ o = .string s ∧ m ≤ k ∧ mDg m s = mDg k ⟨#[]⟩ ∧ m < 10 ^ j ∧ s.size + j = 20 ∧ Below w.heap.size w wr) (fun kk _ _ => (intOf kk).toNat)
  case atStart => exact ⟨k, ⟨#[]⟩, 20, rfl, rfl, Nat.le_refl _, rfl, by omega, rfl, Below.refl _ _⟩
  case round =>
    obtain ⟨m, s, j, rfl, rfl, hm, hd, hj, hsj, hB⟩ := hrel
    by_cases hz : 0 < m
    · have hz' : (0 : Int) < (m : Int) := by omega
      have HD : Hid (mDg m s = mDg k ⟨#[]⟩) := hd
      have HJ : Hid (m < 10 ^ j) := hj
      clear hd hj
      have hcv : ∀ W B : World, W = B.alloc (.cells #[.int .u8 (48 + (m : Int) % 10)] 5) → (convert 22 9 (.slice (some ⟨B.heap.size, 0, none⟩) 1 1)).run Try.prog W = .ok (.string ⟨#[dgB m]⟩) W := fun W B e => by
        subst e
        have h := run_convert_bytes_back (P := Try.prog) (B.alloc (.cells #[.int .u8 (48 + (m : Int) % 10)] 5)) 22 9 5 ⟨B.heap.size, 0, none⟩ 1 [dgB m] Try.underlying22 Try.underlying5 Try.underlying9
        refine h (fun j hj => ?_)
        have hj0 : j = 0 := by simpa using hj
        subst hj0
        simp [Addr.add, go_sem, dgB_nat]
      have hcw := hcv _ wr rfl
      clear hcv
      go_wp2
      go_roundw
      case rel =>
        have hjp : 0 < j := by
          rcases Nat.eq_zero_or_pos j with h | h
          · have := HJ.out; rw [h] at this; simp at this; omega
          · exact h
        refine ⟨m / 10, _, j - 1, by simp, rfl, by omega, ?_, ?_, ?_, by (repeat (first | exact Below.refl _ _ | assumption | refine Below.drew ?_ | refine bl_alloc ?_ _ | refine bl_then ?_ (by assumption) | refine Below.setCell ?_ (by first | omega | (simp; done) | (simp; omega)) _ | refine bl_store ?_ ?_ _ _))⟩
        · rw [← HD.out]
          conv => rhs; rw [mDg]
          rw [dif_neg (by omega)]
        · have h1 := HJ.out
          have e : j = (j - 1) + 1 := by omega
          rw [e, Nat.pow_succ] at h1
          omega
        · have e1 : (⟨#[dgB m]⟩ : ByteArray).size = 1 := rfl
          rw [ByteArray.size_append, e1]
          omega
      case measure => simp [intOf]; omega
    · have hm0 : m = 0 := by omega
      subst hm0
      have HE : Hid (s = mDg k ⟨#[]⟩) := by
        show _ = _
        rw [← hd]
        rw [mDg]
        simp
      clear hd hj
      go_wp2
      go_ret
      refine ⟨?_, hB⟩
      have := HE.out
      rw [mTx, ← this]
      rfl
end Go.Proofs.Ytefcecnlgbeclaa
