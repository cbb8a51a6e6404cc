/- IsInside of the model: what it answers at every list. -/
import Derived.Test.YtlkjdbigpjpgeabInside
import Derived.Test.YtlkjdbigpjpgeabReg
namespace Go.Proofs.Ytlkjdbigpjpgeab
open Go.RowKit
set_option linter.unusedSimpArgs false
set_option linter.unusedVariables false

/-- Whether p is inside the ring. -/
def insideB (px py : Int) (n : Nat) (X Y : Nat → Int) : Bool := okP px py && (decide (3 ≤ n) && (decide (n ≤ 40) && (allOk n X Y && oddTo (sideAt px py n X Y) n)))
theorem insideB_bad {px py : Int} {n : Nat} {X Y : Nat → Int} (k : Nat) (hk : k < n) (h : okP (X k) (Y k) = false) : insideB px py n X Y = false := by
  have : allOk n X Y = false := by
    cases ha : allOk n X Y
    · rfl
    · have := of_decide_eq_true ha k hk
      rw [h] at this
      cases this
  simp [insideB, this]

set_option maxHeartbeats 2000000 in
theorem spec_IsInside_p (px py : Int) (b n cap : Nat) (X Y : Nat → Int) (w : World) (hp : okP px py = false) :
    Calls Try.prog 18 #[.agg #[.int .i64 px, .int .i64 py], .slice (some ⟨b, 0, none⟩) n cap] w fun e w' => e = .returned (.bool (insideB px py n X Y)) ∧ Below w.heap.size w w' := by
  have HE : Hid (insideB px py n X Y = false) := by show _ = _; simp [insideB, hp]
  have k1 := codeP_no hp
  clear hp
  go_enter Try.func18, Try.ntmps18
  go_wp2_with (go_at_call 28; refine (l1Fault_any _ _ _).mono ?_; rintro e w' ⟨rfl, hb⟩)
  go_ret
  exact ⟨ret_bool HE.out.symm, by (repeat (first | exact Below.refl _ _ | assumption | refine Below.drew ?_ | refine bl_alloc ?_ _ | refine bl_then ?_ (by assumption) | refine Below.setCell ?_ (by first | omega | (simp; done) | (simp; omega)) _ | refine bl_store ?_ ?_ _ _))⟩

set_option maxHeartbeats 2000000 in
theorem spec_IsInside_few (px py : Int) (b n cap : Nat) (X Y : Nat → Int) (w : World) (hp : okP px py = true) (hn : n < 3) (hmax : n ≤ 1048576) :
    Calls Try.prog 18 #[.agg #[.int .i64 px, .int .i64 py], .slice (some ⟨b, 0, none⟩) n cap] w fun e w' => e = .returned (.bool (insideB px py n X Y)) ∧ Below w.heap.size w w' := by
  have HE : Hid (insideB px py n X Y = false) := by
    show _ = _
    have : ¬ 3 ≤ n := by omega
    simp [insideB, this]
  have k1 := codeP_ok hp
  have hni : (n : Int) < 3 := by omega
  clear hp
  go_enter Try.func18, Try.ntmps18
  go_wp2_with (go_at_call 28; refine (l1Fault_any _ _ _).mono ?_; rintro e w' ⟨rfl, hb⟩)
  go_ret
  exact ⟨ret_bool HE.out.symm, by (repeat (first | exact Below.refl _ _ | assumption | refine Below.drew ?_ | refine bl_alloc ?_ _ | refine bl_then ?_ (by assumption) | refine Below.setCell ?_ (by first | omega | (simp; done) | (simp; omega)) _ | refine bl_store ?_ ?_ _ _))⟩

set_option maxHeartbeats 2000000 in
theorem spec_IsInside_many (px py : Int) (b n cap : Nat) (X Y : Nat → Int) (w : World) (hp : okP px py = true) (hn : 40 < n) (hmax : n ≤ 1048576) :
    Calls Try.prog 18 #[.agg #[.int .i64 px, .int .i64 py], .slice (some ⟨b, 0, none⟩) n cap] w fun e w' => e = .returned (.bool (insideB px py n X Y)) ∧ Below w.heap.size w w' := by
  have HE : Hid (insideB px py n X Y = false) := by
    show _ = _
    have : ¬ n ≤ 40 := by omega
    simp [insideB, this]
  have k1 := codeP_ok hp
  have hni : (40 : Int) < (n : Int) := by omega
  have hn3 : decide ((n : Int) < 3) = false := by simp; omega
  clear hp
  go_enter Try.func18, Try.ntmps18
  go_wp2_with (go_at_call 28; refine (l1Fault_any _ _ _).mono ?_; rintro e w' ⟨rfl, hb⟩)
  go_ret
  exact ⟨ret_bool HE.out.symm, by (repeat (first | exact Below.refl _ _ | assumption | refine Below.drew ?_ | refine bl_alloc ?_ _ | refine bl_then ?_ (by assumption) | refine Below.setCell ?_ (by first | omega | (simp; done) | (simp; omega)) _ | refine bl_store ?_ ?_ _ _))⟩

set_option maxHeartbeats 2000000 in
theorem spec_IsInside_ring (px py : Int) (b n cap : Nat) (X Y : Nat → Int) (w : World) (hp : okP px py = true) (hpt : PtsAt w b 0 n X Y) (hbl : b < w.heap.size) (hcap : n ≤ cap) (h3 : 3 ≤ n) (h40 : n ≤ 40) :
    Calls Try.prog 18 #[.agg #[.int .i64 px, .int .i64 py], .slice (some ⟨b, 0, none⟩) n cap] w fun e w' => e = .returned (.bool (insideB px py n X Y)) ∧ Below w.heap.size w w' := by
  have HP : Hid (okP px py = true) := hp
  have HQ : Hid (PtsAt w b 0 n X Y) := hpt
  have k1 := codeP_ok hp
  clear hp hpt
  have hn3 : decide ((n : Int) < 3) = false := by simp; omega
  have hn40 : decide ((40 : Int) < (n : Int)) = false := by simp; omega
  go_enter Try.func18, Try.ntmps18
  go_wp2_with fail
  generalize hW : (w.alloc _ : World) = W
  have hB0 : Below w.heap.size w W := by subst hW; (repeat (first | exact Below.refl _ _ | assumption | refine Below.drew ?_ | refine bl_alloc ?_ _ | refine bl_then ?_ (by assumption) | refine Below.setCell ?_ (by first | omega | (simp; done) | (simp; omega)) _ | refine bl_store ?_ ?_ _ _))
  have c00 : ∀ W', Below W.heap.size W W' → W'.cell? ⟨w.heap.size, 0, none⟩ = some (.int .i64 px) := fun W' h => by
    rw [h.cell (by subst hW; simp <;> omega)]; subst hW; simp [go_sem]
  have c01 : ∀ W', Below W.heap.size W W' → W'.cell? ⟨w.heap.size, 1, none⟩ = some (.int .i64 py) := fun W' h => by
    rw [h.cell (by subst hW; simp <;> omega)]; subst hW; simp [go_sem]
  clear hW
  have HB0 : Hid (Below w.heap.size w W) := hB0
  have HQ1 : Hid (PtsAt W b 0 n X Y) := HQ.out.below hB0 hbl
  have hblW : b < W.heap.size := Nat.lt_of_lt_of_le hbl hB0.size
  clear hB0 HQ hbl
  refine (l1Fault_any _ _ _).mono ?_
  rintro e W1 ⟨rfl, hbW⟩
  go_wp2
  go_loopw [5] (fun i wr => ∃ k : Nat, k ≤ n ∧ i = .int .i64 k ∧ (∀ j, j < k → okP (X j) (Y j) = true) ∧ Below W.heap.size W wr) (fun i _ => n - (intOf i).toNat)
  case atStart => exact ⟨0, by omega, rfl, by omega, hbW⟩
  case round =>
    obtain ⟨k, hk, rfl, hok, hB⟩ := hrel
    by_cases hlt : k < n
    · obtain ⟨hx, hy⟩ := (HQ1.out.below hB hblW) k hlt
      simp only [Nat.zero_add] at hx hy
      have HO : Hid (∀ j, j < k → okP (X j) (Y j) = true) := hok
      have HB : Hid (Below W.heap.size W wr) := hB
      have hi : (k : Int) < (n : Int) := by omega
      clear hok hB hbW c00 c01
      cases hq : okP (X k) (Y k)
      · have hz : codeP (X k) (Y k) = 3 := codeP_no hq
        go_wp2_with (go_at_call 28; refine (l1Fault_any _ _ _).mono ?_; rintro e w' ⟨rfl, hb1⟩)
        go_ret
        exact ⟨ret_bool (insideB_bad k hlt hq).symm, by have HB1 := bl_then HB0.out HB.out; (repeat (first | exact Below.refl _ _ | assumption | refine Below.drew ?_ | refine bl_alloc ?_ _ | refine bl_then ?_ (by assumption) | refine Below.setCell ?_ (by first | omega | (simp; done) | (simp; omega)) _ | refine bl_store ?_ ?_ _ _))⟩
      · have hz : codeP (X k) (Y k) = 0 := codeP_ok hq
        go_wp2_with (go_at_call 28; refine (l1Fault_any _ _ _).mono ?_; rintro e w' ⟨rfl, hb1⟩)
        go_roundw
        case rel => exact ⟨k + 1, by omega, by go_num, fun j hj => by
            by_cases e : j = k
            · rw [e]; exact hq
            · exact HO.out j (by omega), bl_then HB.out hb1⟩
        case measure => simp [intOf]; omega
    · have hP1 : Hid (PtsAt wr b 0 n X Y) := HQ1.out.below hB hblW
      have hbr : b < wr.heap.size := Nat.lt_of_lt_of_le hblW hB.size
      have p0 := c00 wr hB
      have p1 := c01 wr hB
      have HO : Hid (∀ j, j < n → okP (X j) (Y j) = true) := fun j hj => hok j (by omega)
      have HB : Hid (Below W.heap.size W wr) := hB
      have HE : Hid (insideB px py n X Y = oddTo (sideAt px py n X Y) n) := by
        show _ = _
        have : allOk n X Y = true := decide_eq_true HO.out
        have hpp : okP px py = true := HP.out
        simp [insideB, hpp, h3, h40, this]
      clear hok hB hbW c00 c01
      go_wp2_with (go_at_call 39; refine (l1Inside_any _ _ _ _ _ X Y _ HP.out hP1.out hbr HO.out hcap (by omega)).mono ?_; rintro e w' ⟨rfl, hb1⟩)
      go_ret
      exact ⟨ret_bool HE.out.symm, bl_then (bl_then HB0.out HB.out) hb1⟩

theorem spec_IsInside_any (px py : Int) (b n cap : Nat) (X Y : Nat → Int) (w : World) (hpt : PtsAt w b 0 n X Y) (hbl : b < w.heap.size) (hcap : n ≤ cap) (hmax : n ≤ 1048576) :
    Calls Try.prog 18 #[.agg #[.int .i64 px, .int .i64 py], .slice (some ⟨b, 0, none⟩) n cap] w fun e w' => e = .returned (.bool (insideB px py n X Y)) ∧ Below w.heap.size w w' := by
  cases hp : okP px py
  · exact spec_IsInside_p _ _ _ _ _ _ _ _ hp
  by_cases h3 : n < 3
  · exact spec_IsInside_few _ _ _ _ _ _ _ _ hp h3 hmax
  by_cases h40 : 40 < n
  · exact spec_IsInside_many _ _ _ _ _ _ _ _ hp h40 hmax
  exact spec_IsInside_ring _ _ _ _ _ _ _ _ hp hpt hbl hcap (by omega) (by omega)
end Go.Proofs.Ytlkjdbigpjpgeab
