/- The law of WordsOf. -/
import Derived.Test.YtbijdoddalfedaaWy3
import Derived.Test.YtbijdoddalfedaaOn1
import Derived.Test.YtbijdoddalfedaaOpen
namespace Go.Proofs.Ytbijdoddalfedaa
open Go.RowKit
set_option linter.unusedSimpArgs false
set_option linter.unusedVariables false
set_option maxRecDepth 100000

/-- Digits ahead of a text. -/
def mtx (k : Nat) (o : ByteArray) : ByteArray := if h : k = 0 then o else mtx (k / 10) (oneB (48 + k % 10) ++ o)
termination_by k
decreasing_by omega
def mkT (k : Nat) : ByteArray := ⟨#[109]⟩ ++ mtx k ⟨#[]⟩
set_option maxHeartbeats 4000000 in
theorem markText_any (k : Nat) (w : World) (h0 : 0 < k) (h1 : k ≤ 4194304) : Calls Try.prog 19 #[.int .i64 (k : Int)] w fun e w' => e = .returned (.string (mkT k)) ∧ Below w.heap.size w w' := by
  have hk0 : ¬ (k : Int) ≤ 0 := by omega
  have HK : Hid (mkT k = ⟨#[109]⟩ ++ mtx k ⟨#[]⟩) := rfl
  generalize mkT k = MK at *
  go_enter Try.func19, Try.ntmps19
  go_wp2_with fail
  go_loopw [0, 3] (fun kv o wr => ∃ (n : Int) (O : ByteArray), kv = .int .i64 n ∧ o = .string O ∧ 0 ≤ n ∧ mtx n.toNat O = mtx k ⟨#[]⟩ ∧ (O.size : Int) + n ≤ 4194304 ∧ Below w.heap.size w wr) (fun kv _ _ => (intOf kv).toNat)
  case atStart => exact ⟨(k : Int), ⟨#[]⟩, rfl, rfl, by omega, by rw [Int.toNat_natCast], by have : (⟨#[]⟩ : ByteArray).size = 0 := rfl; omega, Below.refl _ _⟩
  case round =>
    obtain ⟨n, O, rfl, rfl, hn, hm, hs, hB⟩ := hrel
    have HM : Hid (mtx n.toNat O = mtx k ⟨#[]⟩) := hm
    have HB : Hid (Below w.heap.size w wr) := hB
    clear hm hB hk0
    by_cases hp : 0 < n
    · have hq : Int.tdiv n 10 = n / 10 := Int.tdiv_eq_ediv_of_nonneg hn
      have hm : Int.tmod n 10 = n % 10 := Int.tmod_eq_emod_of_nonneg hn
      have q1 : IntKind.i64.wrap (n / 10) = n / 10 := IntWalk.i64_in _ (by omega)
      have q2 : IntKind.i64.wrap (48 + n % 10) = 48 + n % 10 := IntWalk.i64_in _ (by omega)
      have q3 : IntKind.u8.wrap (48 + n % 10) = 48 + n % 10 := IntWalk.u8_in _ (by omega)
      obtain ⟨m, hmn⟩ : ∃ m : Nat, n % 10 = m := ⟨(n % 10).toNat, by omega⟩
      have hv : 48 + n % 10 = ((48 + m : Nat) : Int) := by omega
      have hC : (convert 40 9 (.slice (some ⟨wr.heap.size, 0, none⟩) 1 1)).run Try.prog (wr.alloc (.cells #[.int .u8 (48 + n % 10)] 5)) = .ok (.string (oneB (48 + m))) (wr.alloc (.cells #[.int .u8 (48 + n % 10)] 5)) := by
        refine conv_one (by omega) ?_
        rw [← hv]
        simp [go_sem]
      have hs1 : (O.size : Int) ≤ 8388608 := by omega
      have hs2 : ((oneB (48 + m)).size : Int) ≤ 8388608 := by rw [oneB_size]; decide
      have HM2 : Hid (mtx (n / 10).toNat (oneB (48 + m) ++ O) = mtx k ⟨#[]⟩) := by
        show _ = _
        rw [← HM.out]
        conv => rhs; unfold mtx
        rw [dif_neg (by omega), show n.toNat / 10 = (n / 10).toNat by omega, show n.toNat % 10 = m by omega]
      have HS : Hid (((oneB (48 + m) ++ O).size : Int) + n / 10 ≤ 4194304) := by
        show _ ≤ _
        rw [ByteArray.size_append, oneB_size]
        omega
      clear hmn hv HM
      go_wp2_with fail
      exact ⟨⟨n / 10, oneB (48 + m) ++ O, rfl, rfl, by omega, HM2.out, HS.out, bl_then HB.out (by (repeat (first | exact Below.refl _ _ | assumption | refine Below.drew ?_ | refine bl_alloc ?_ _ | refine bl_then ?_ (by assumption) | refine Below.setCell ?_ (by first | omega | (simp; done) | (simp; omega)) _ | refine bl_store ?_ ?_ _ _)))⟩, by simp [intOf]; omega⟩
    · obtain rfl : n = 0 := by omega
      have h0' : mtx 0 O = O := by rw [mtx]; simp
      have HO : Hid (mtx k ⟨#[]⟩ = O) := (show mtx 0 O = mtx k ⟨#[]⟩ from HM.out).symm.trans h0'
      have hs1 : (O.size : Int) ≤ 8388608 := by omega
      go_wp2
      go_ret
      exact ⟨by rw [HK.out, HO.out]; rfl, HB.out⟩
/-- The marks from k on. -/
def mkL (k n : Nat) : List ByteArray := (List.range n).map fun i => mkT (k + i)
theorem mkL_len (k n : Nat) : (mkL k n).length = n := by simp [mkL]
theorem mkL_get {k n j : Nat} (h : j < n) : (mkL k n)[j]? = some (mkT (k + j)) := by simp [mkL, h]
theorem mkL_of {k n : Nat} {L : List ByteArray} (hl : L.length = n) (h : ∀ j, j < n → L[j]? = some (mkT (k + j))) : L = mkL k n := by
  refine List.ext_getElem? fun j => ?_
  by_cases hj : j < n
  · rw [h j hj, mkL_get hj]
  · rw [List.getElem?_eq_none (by omega), List.getElem?_eq_none (by rw [mkL_len]; omega)]
set_option maxHeartbeats 8000000 in
theorem markStringS_any (base k : Nat) (v : Value) (L : List ByteArray) (w : World) (hR : RowB base w v L) (hb : base ≤ w.heap.size) (hk : 0 < k) (hl : k + L.length ≤ 4194304) :
    Calls Try.prog 13 #[v, .int .i64 (k : Int)] w fun e w' => e = .returned (.int .i64 ((k + L.length : Nat) : Int)) ∧ RowB base w' v (mkL k L.length) ∧ Below base w w' ∧ ∀ j, j < w.heap.size → v.ownBlock ≠ some j → w'.heap[j]? = w.heap[j]? := by
  have HR : Hid (RowB base w v L) := hR
  obtain ⟨va, vc, hv, _⟩ := hR.is
  subst hv
  clear hR
  go_enter Try.func13, Try.ntmps13
  go_wp2_with fail
  go_loopw [1, 5] (fun kv iv wr => ∃ (i : Nat) (M : List ByteArray), kv = .int .i64 ((k + i : Nat) : Int) ∧ iv = .int .i64 (i : Int) ∧ i ≤ L.length ∧ M.length = L.length ∧ RowB base wr (.slice va L.length vc) M ∧ (∀ j, j < i → M[j]? = some (mkT (k + j))) ∧ Below base w wr ∧ ∀ j, j < w.heap.size → (Value.slice va L.length vc).ownBlock ≠ some j → wr.heap[j]? = w.heap[j]?) (fun _ iv _ => L.length - (intOf iv).toNat)
  case atStart => exact ⟨0, L, rfl, rfl, Nat.zero_le _, rfl, HR.out, fun j hj => absurd hj (Nat.not_lt_zero _), Below.refl _ _, fun _ _ _ => rfl⟩
  case round =>
    obtain ⟨i, M, rfl, rfl, hi, hM, hR, hG, hB, hO⟩ := hrel
    have HR2 : Hid (RowB base wr (.slice va L.length vc) M) := hR
    have HG := (show Hid _ from hG)
    have HB : Hid (Below base w wr) := hB
    have HO := (show Hid _ from hO)
    clear HR hG hO hB
    by_cases hlt : i < L.length
    · have hii : (i : Int) < (L.length : Int) := by omega
      have hi0 : (0 : Int) ≤ (i : Int) := by omega
      obtain ⟨g, c, hv, hc⟩ := rowB_form hR (by omega)
      rw [hM] at hv hc
      injection hv with hv1 _ hv2
      subst hv1 hv2
      have HMt := (show Hid _ from markText_any (k + i) wr (by omega) (by omega))
      have hgl := World.ownsRow.lt hR g rfl
      have hsb := HB.out.size
      clear hR
      go_wp2_with fail
      refine Calls.mono HMt.out ?_
      rintro e w1 ⟨rfl, hb1⟩
      have hr1 : RowB base w1 (.slice (some ⟨g, 0, none⟩) L.length vc) M := rowB_but HR2.out hb1
      have HR1 := (show Hid _ from hr1)
      have HB1 : Hid (Below base w w1) := HB.out.trans (hb1.mono (by omega))
      have HO1 : Hid (∀ j, j < w.heap.size → (Value.slice (some ⟨g, 0, none⟩) L.length vc).ownBlock ≠ some j → w1.heap[j]? = w.heap[j]?) := fun j h1 h2 => (hb1.block j (by omega)).trans (HO.out j h1 h2)
      obtain ⟨old, hold⟩ : ∃ old, (M.map (Value.string ·))[i]? = some old := ⟨_, List.getElem?_eq_getElem (by rw [List.length_map]; omega)⟩
      have hr1' : w1.ownsRow base 9 1 (.slice (some ⟨g, 0, none⟩) L.length vc) L.length (M.map (.string ·)) := by
        have h := hr1
        unfold RowB at h
        rw [hM] at h
        exact h
      have hcell := (hr1'.cellAt i (by omega)).trans hold
      have hfz := hr1'.frozenAt i
      have hst := hr1'.stored i (.string (mkT (k + i)))
      have HSt : Hid (RowB base (w1.setCell ⟨g, i, none⟩ (.string (mkT (k + i)))) (.slice (some ⟨g, 0, none⟩) L.length vc) (M.set i (mkT (k + i)))) := by
        show World.ownsRow _ _ _ _ _ _ _
        rw [List.length_set, List.map_set, hM]
        exact hst.1
      have HGr := (show Hid _ from hst.2)
      clear hb1 hr1 hr1' hst hold HMt HR2 HB HO HR1
      have HG2 : Hid (∀ j, j < i + 1 → (M.set i (mkT (k + i)))[j]? = some (mkT (k + j))) := fun j hj => by
        by_cases e : i = j
        · subst e
          rw [List.getElem?_set_self (by omega)]
        · rw [List.getElem?_set_ne e]
          exact HG.out j (by omega)
      have HW : IntKind.i64.wrap (((k + i : Nat) : Int) + 1) = ((k + i : Nat) : Int) + 1 := IntWalk.i64_in _ (by omega)
      generalize mkT (k + i) = t at *
      go_wp2_with fail
      refine ⟨⟨i + 1, M.set i t, by simp; omega, by simp, by omega, by rw [List.length_set]; exact hM, HSt.out, HG2.out, HB1.out.setCell (by simp; omega) _, fun j h1 h2 => ?_⟩, by simp [intOf]; omega⟩
      rw [Below.heap_setCell w1 ⟨g, i, none⟩ _ j (fun e => h2 (by rw [e]; rfl))]
      exact HO1.out j h1 h2
    · obtain rfl : i = L.length := by omega
      have hii : ¬ (L.length : Int) < (L.length : Int) := by omega
      have HE : Hid (M = mkL k L.length) := mkL_of hM HG.out
      clear hR
      go_wp2
      go_ret
      exact ⟨rfl, by rw [← HE.out]; exact HR2.out, HB.out, HO.out⟩
set_option maxHeartbeats 8000000 in
theorem heldStringS_any (k n : Nat) (v : Value) (w : World) (hR : IsSt w v (mkL k n)) (hk : 0 < k) (hl : k + n ≤ 4194304) :
    Calls Try.prog 14 #[v, .int .i64 (k : Int)] w fun e w' => e = .returned (.int .i64 ((k + n : Nat) : Int)) ∧ Below w.heap.size w w' := by
  obtain ⟨va, vc, hv, hcs⟩ := hR
  rw [mkL_len] at hv
  subst hv
  have HC : Hid (∀ i, i < n → ∃ g, va = some ⟨g, 0, none⟩ ∧ g < w.heap.size ∧ w.cell? ⟨g, i, none⟩ = some (.string (mkT (k + i)))) := fun i hi => by
    rcases hcs with h | ⟨g, e, h1, h2⟩
    · have := mkL_len k n
      rw [h] at this
      simp at this
      omega
    · exact ⟨g, e, h1, h2 i _ (mkL_get hi)⟩
  clear hcs
  go_enter Try.func14, Try.ntmps14
  go_wp2_with fail
  go_loopw [1, 5] (fun kv iv wr => ∃ (i : Nat), kv = .int .i64 ((k + i : Nat) : Int) ∧ iv = .int .i64 (i : Int) ∧ i ≤ n ∧ Below w.heap.size w wr) (fun _ iv _ => n - (intOf iv).toNat)
  case atStart => exact ⟨0, rfl, rfl, Nat.zero_le _, Below.refl _ _⟩
  case round =>
    obtain ⟨i, rfl, rfl, hi, hB⟩ := hrel
    have HB : Hid (Below w.heap.size w wr) := hB
    clear hB
    by_cases hlt : i < n
    · have hii : (i : Int) < (n : Int) := by omega
      have hi0 : (0 : Int) ≤ (i : Int) := by omega
      obtain ⟨g, rfl, hgl, hc⟩ := HC.out i hlt
      have c : ∀ W', Below wr.heap.size wr W' → W'.cell? ⟨g, i, none⟩ = some (.string (mkT (k + i))) := fun W' h => ((bl_then HB.out h).cell (p := ⟨g, i, none⟩) hgl).trans hc
      have HMt : Hid (∀ W, Calls Try.prog 19 #[.int .i64 ((k + i : Nat) : Int)] W fun e w' => e = .returned (.string (mkT (k + i))) ∧ Below W.heap.size W w') := fun W => markText_any (k + i) W (by omega) (by omega)
      have HMt2 : Hid (∀ W, Calls Try.prog 19 #[.int .i64 ((k : Int) + (i : Int))] W fun e w' => e = .returned (.string (mkT (k + i))) ∧ Below W.heap.size W w') := fun W => by
        have := markText_any (k + i) W (by omega) (by omega)
        rw [Int.natCast_add] at this
        exact this
      have HW : IntKind.i64.wrap (((k + i : Nat) : Int) + 1) = ((k + i : Nat) : Int) + 1 := IntWalk.i64_in _ (by omega)
      have HW2 : IntKind.i64.wrap ((k : Int) + (i : Int) + 1) = (k : Int) + (i : Int) + 1 := IntWalk.i64_in _ (by omega)
      generalize mkT (k + i) = t at *
      clear hc HMt
      go_upto_region 4 with fail
      go_region_held3 (fun W' => Below wr.heap.size wr W') ((repeat (first | exact Below.refl _ _ | assumption | refine Below.drew ?_ | refine bl_alloc ?_ _ | refine bl_then ?_ (by assumption) | refine Below.setCell ?_ (by first | omega | (simp; done) | (simp; omega)) _ | refine bl_store ?_ ?_ _ _)))
        (first
          | (go_at_call 19; refine Calls.mono (HMt2.out _) ?_; rintro e w1 ⟨rfl, hb1⟩))
      go_wp2_with fail
      exact ⟨⟨i + 1, by simp; omega, by simp, by omega, bl_then HB.out (by assumption)⟩, by simp [intOf]; omega⟩
    · obtain rfl : i = n := by omega
      have hii : ¬ (i : Int) < (i : Int) := by omega
      go_wp2
      go_ret
      exact ⟨rfl, HB.out⟩
set_option maxHeartbeats 8000000 in
theorem eqStringS_any (v v' : Value) (L : List ByteArray) (w : World) (h1 : IsSt w v L) (h2 : IsSt w v' L) (hl : L.length ≤ 4194304) :
    Calls Try.prog 12 #[v, v'] w fun e w' => e = .returned (.bool true) ∧ Below w.heap.size w w' := by
  obtain ⟨va, vc, hv, hcs⟩ := h1
  obtain ⟨ua, uc, hu, hds⟩ := h2
  subst hv hu
  have HC : Hid (∀ i x, L[i]? = some x → (∃ g, va = some ⟨g, 0, none⟩ ∧ g < w.heap.size ∧ w.cell? ⟨g, i, none⟩ = some (.string x)) ∧ ∃ g, ua = some ⟨g, 0, none⟩ ∧ g < w.heap.size ∧ w.cell? ⟨g, i, none⟩ = some (.string x)) := fun i x hx => by
    have k : ∀ {a : Option Addr}, (L = [] ∨ ∃ g, a = some ⟨g, 0, none⟩ ∧ g < w.heap.size ∧ ∀ j x, L[j]? = some x → w.cell? ⟨g, j, none⟩ = some (.string x)) → ∃ g, a = some ⟨g, 0, none⟩ ∧ g < w.heap.size ∧ w.cell? ⟨g, i, none⟩ = some (.string x) := fun h => by
      rcases h with h | ⟨g, e, h1, h2⟩
      · rw [h] at hx
        simp at hx
      · exact ⟨g, e, h1, h2 i x hx⟩
    exact ⟨k hcs, k hds⟩
  clear hcs hds
  go_enter Try.func12, Try.ntmps12
  go_wp2_with fail
  go_loopw [5] (fun iv wr => ∃ (i : Nat), iv = .int .i64 (i : Int) ∧ i ≤ L.length ∧ Below w.heap.size w wr) (fun iv _ => L.length - (intOf iv).toNat)
  case atStart => exact ⟨0, rfl, Nat.zero_le _, Below.refl _ _⟩
  case round =>
    obtain ⟨i, rfl, hi, hB⟩ := hrel
    have HB : Hid (Below w.heap.size w wr) := hB
    by_cases hlt : i < L.length
    · have hii : (i : Int) < (L.length : Int) := by omega
      have hi0 : (0 : Int) ≤ (i : Int) := by omega
      obtain ⟨x, hx⟩ : ∃ x, L[i]? = some x := ⟨_, List.getElem?_eq_getElem hlt⟩
      obtain ⟨⟨g, rfl, hgl, hc⟩, g2, rfl, hgl2, hc2⟩ := HC.out i x hx
      have c : wr.cell? ⟨g, i, none⟩ = some (.string x) := (hB.cell (p := ⟨g, i, none⟩) hgl).trans hc
      have c2 : wr.cell? ⟨g2, i, none⟩ = some (.string x) := (hB.cell (p := ⟨g2, i, none⟩) hgl2).trans hc2
      clear hc hc2 hx hB HC
      go_wp2_with fail
      go_quiet (fail)
      go_wp2_with fail
      exact ⟨⟨i + 1, by simp, by omega, below_drewN HB.out _⟩, by simp [intOf]; omega⟩
    · obtain rfl : i = L.length := by omega
      have hii : ¬ (L.length : Int) < (L.length : Int) := by omega
      go_wp2
      go_ret
      exact ⟨rfl, HB.out⟩
end Go.Proofs.Ytbijdoddalfedaa
