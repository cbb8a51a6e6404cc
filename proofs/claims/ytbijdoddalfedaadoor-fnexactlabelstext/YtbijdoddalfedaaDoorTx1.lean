/- A number in digits, as the model writes it. -/
import Derived.Test.YtbijdoddalfedaaDoorFe6
import Derived.Lib.ItoaMem
import Derived.Lib.ItoaLen
import Derived.WalkSpells
import Derived.WalkLawsBesides
import Derived.Outline
import Derived.Laws.IdiomStrings
import Derived.Deep.Cut
import Derived.Deep.RegionHeld3
namespace Go.Proofs.YtbijdoddalfedaaDoor
open Go.RowKit
set_option linter.unusedSimpArgs false
set_option linter.unusedVariables false
set_option maxRecDepth 100000

/-- The digits of a number. -/
def digB (n : Int) : ByteArray := ⟨(Go.Lib.itoa n).toArray⟩

def oneB (m : Nat) : ByteArray := ⟨#[UInt8.ofNat m]⟩
theorem oneB_size (m : Nat) : (oneB m).size = 1 := rfl
theorem digB_small {n : Int} (h0 : 0 ≤ n) (h : n < 10) : digB n = ⟨#[UInt8.ofNat (48 + n.toNat)]⟩ := by
  obtain ⟨m, rfl⟩ : ∃ m : Nat, n = m := ⟨n.toNat, by omega⟩
  unfold digB
  rw [Go.Lib.itoa_nonneg, Go.Lib.decDigits_one (by omega)]
  rfl
theorem digB_more {n : Int} (h0 : ¬ n < 10) : digB n = digB (n / 10) ++ oneB (48 + (n % 10).toNat) := by
  obtain ⟨m, rfl⟩ : ∃ m : Nat, n = m := ⟨n.toNat, by omega⟩
  unfold digB
  rw [show ((m : Int) / 10) = ((m / 10 : Nat) : Int) by omega, Go.Lib.itoa_nonneg, Go.Lib.itoa_nonneg, Go.Lib.decDigits, dif_neg (by omega), show ((m : Int) % 10).toNat = m % 10 by omega]
  unfold oneB
  apply ByteArray.ext
  simp

theorem digB_size (n : Int) (h0 : 0 ≤ n) (h1 : n ≤ 1048576) : (digB n).size ≤ 21 := by
  have := Go.Lib.itoa_length_le n (by omega) (by omega)
  unfold digB
  simpa [ByteArray.size] using this
theorem conv_one {W : World} {b : Nat} {m : Nat} (hm : m < 256) (hc : W.cell? ⟨b, 0, none⟩ = some (.int .u8 (m : Int))) :
    (convert 46 9 (.slice (some ⟨b, 0, none⟩) 1 1)).run Tryd.prog W = .ok (.string ⟨#[UInt8.ofNat m]⟩) W := by
  have h := run_convert_bytes_back (P := Tryd.prog) W 46 9 5 ⟨b, 0, none⟩ 1 [UInt8.ofNat m] Tryd.underlying46 Tryd.underlying5 Tryd.underlying9
  refine h (fun j hj => ?_)
  have hj0 : j = 0 := by simpa using hj
  subst hj0
  have e : (UInt8.ofNat m).toNat = m := by rw [UInt8.toNat_ofNat']; omega
  simp only [Addr.add, Nat.zero_add, List.getElem_cons_zero, e]
  exact hc
set_option maxHeartbeats 4000000 in
theorem l1Digits_small (n : Int) (w : World) (h0 : 0 ≤ n) (h : n < 10) : Calls Tryd.prog 16 #[.int .i64 n] w fun e w' => e = .returned (.string (digB n)) ∧ Below w.heap.size w w' := by
  have hw : (48 + n) % 256 = 48 + n := by omega
  have hneg : ¬ n < 0 := by omega
  have hcv : ∀ W B : World, W = B.alloc (.cells #[.int .u8 (48 + n)] 5) → (convert 46 9 (.slice (some ⟨B.heap.size, 0, none⟩) 1 1)).run Tryd.prog W = .ok (.string (digB n)) W := fun W B e => by
    rw [digB_small h0 h]
    refine conv_one (by omega) ?_
    subst e
    simp [go_sem]
    omega
  have hcw := hcv _ w rfl
  clear hcv
  go_enter Tryd.func16, Tryd.ntmps16
  go_wp2_with fail
  go_ret
  exact ⟨rfl, by (repeat (first | exact Below.refl _ _ | assumption | refine Below.drew ?_ | refine bl_alloc ?_ _ | refine bl_then ?_ (by assumption) | refine Below.setCell ?_ (by first | omega | (simp; done) | (simp; omega)) _ | refine bl_store ?_ ?_ _ _))⟩
set_option maxHeartbeats 4000000 in
theorem l1Digits_step (n : Int) (w : World) (h0 : 0 ≤ n) (h : ¬ n < 10) (h2 : n ≤ 1048576)
    (hr : ∀ W, Calls Tryd.prog 16 #[.int .i64 (n / 10)] W fun e w' => e = .returned (.string (digB (n / 10))) ∧ Below W.heap.size W w') :
    Calls Tryd.prog 16 #[.int .i64 n] w fun e w' => e = .returned (.string (digB n)) ∧ Below w.heap.size w w' := by
  have hneg : ¬ n < 0 := by omega
  have HR : Hid (∀ W, Calls Tryd.prog 16 #[.int .i64 (n / 10)] W fun e w' => e = .returned (.string (digB (n / 10))) ∧ Below W.heap.size W w') := hr
  clear hr
  have hq : Int.tdiv n 10 = n / 10 := Int.tdiv_eq_ediv_of_nonneg h0
  have hm : Int.tmod n 10 = n % 10 := Int.tmod_eq_emod_of_nonneg h0
  have q1 : IntKind.i64.wrap (n / 10) = n / 10 := IntWalk.i64_in _ (by omega)
  have q2 : IntKind.i64.wrap (48 + n % 10) = 48 + n % 10 := IntWalk.i64_in _ (by omega)
  have q3 : IntKind.u8.wrap (48 + n % 10) = 48 + n % 10 := IntWalk.u8_in _ (by omega)
  obtain ⟨m, hmn⟩ : ∃ m : Nat, n % 10 = m := ⟨(n % 10).toNat, by omega⟩
  have hmt : (n % 10).toNat = m := by omega
  have hv : 48 + n % 10 = ((48 + m : Nat) : Int) := by omega
  have hC : ∀ B : World, (convert 46 9 (.slice (some ⟨B.heap.size, 0, none⟩) 1 1)).run Tryd.prog (B.alloc (.cells #[.int .u8 (48 + n % 10)] 5)) = .ok (.string (oneB (48 + (n % 10).toNat))) (B.alloc (.cells #[.int .u8 (48 + n % 10)] 5)) := fun B => by
    rw [hmt]
    refine conv_one (by omega) ?_
    rw [← hv]
    simp [go_sem]
  have hC2 : ∀ B : World, (convert 46 9 (.slice (some ⟨B.heap.size, 0, none⟩) 1 1)).run Tryd.prog (B.alloc (.cells #[.int .u8 (48 + n % 10)] 5)).drew = .ok (.string (oneB (48 + (n % 10).toNat))) (B.alloc (.cells #[.int .u8 (48 + n % 10)] 5)).drew := fun B => by
    rw [hmt]
    refine conv_one (by omega) ?_
    rw [← hv]
    simp [go_sem]
  have HC1 : Hid (∀ (B W' : World) (k : Nat), B.heap.size < k → Below k (B.alloc (.cells #[.int .u8 (48 + n % 10)] 5)).drew W' → (convert 46 9 (.slice (some ⟨B.heap.size, 0, none⟩) 1 1)).run Tryd.prog W' = .ok (.string (oneB (48 + (n % 10).toNat))) W') := fun B W' k hk hb => by
    rw [hmt]
    refine conv_one (by omega) ?_
    rw [← hv]
    rw [hb.cell (p := ⟨B.heap.size, 0, none⟩) hk]
    simp [go_sem]
  have hs1 : ((digB (n / 10)).size : Int) ≤ 8388608 := by have := digB_size (n / 10) (by omega) (by omega); omega
  have hs2 : ((oneB (48 + (n % 10).toNat)).size : Int) ≤ 8388608 := by rw [oneB_size]; decide
  have HD : Hid (digB n = digB (n / 10) ++ oneB (48 + (n % 10).toNat)) := digB_more h
  clear hmn hmt hv
  clear m
  go_enter Tryd.func16, Tryd.ntmps16
  go_upto_region 5 with fail
  go_region_with (go_at_call 16; refine (HR.out _).mono ?_; rintro e w1 ⟨rfl, hb1⟩; (try have hcx := HC1.out _ _ _ (by simp) hb1))
  all_goals
    go_wp2_with fail
    go_ret
    exact ⟨by rw [HD.out]; rfl, by (repeat (first | exact Below.refl _ _ | assumption | refine Below.drew ?_ | refine bl_alloc ?_ _ | refine bl_then ?_ (by assumption) | refine Below.setCell ?_ (by first | omega | (simp; done) | (simp; omega)) _ | refine bl_store ?_ ?_ _ _))⟩
theorem l1Digits_any : ∀ (k : Nat) (n : Int) (w : World), 0 ≤ n → n < k → n ≤ 1048576 → Calls Tryd.prog 16 #[.int .i64 n] w fun e w' => e = .returned (.string (digB n)) ∧ Below w.heap.size w w' := by
  intro k
  induction k with
  | zero => intro n w h0 h1 h2; omega
  | succ k ih =>
    intro n w h0 h1 h2
    by_cases h : n < 10
    · exact l1Digits_small n w h0 h
    · exact l1Digits_step n w h0 h h2 (fun W => ih (n / 10) W (by omega) (by omega) (by omega))
end Go.Proofs.YtbijdoddalfedaaDoor
