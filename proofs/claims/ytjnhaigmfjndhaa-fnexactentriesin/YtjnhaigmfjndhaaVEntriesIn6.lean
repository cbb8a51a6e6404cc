/- Several texts in one. -/
import Derived.Test.YtjnhaigmfjndhaaVEntriesIn4
import Derived.Deep.LoopGhost

/- PointFault answers the fault of a point. -/

namespace Go.Proofs.Ytjnhaigmfjndhaa
open Go.RowKit
set_option linter.unusedSimpArgs false
set_option linter.unusedVariables false

theorem PointFault_any (x y : Int) (w : World) : Calls Try.prog 69 #[.agg #[.int .i64 x, .int .i64 y]] w fun e w' => e = .returned (.int .i64 (codeP x y)) ∧ Below w.heap.size w w' := by
  have i0 : ∀ w, (Instr.index 126 (.agg #[.int .i64 x, .int .i64 y]) (.int .i64 0)).run Try.prog w = .ok (.int .i64 x) w := fun _ => by kernel_rfl
  have i1 : ∀ w, (Instr.index 126 (.agg #[.int .i64 x, .int .i64 y]) (.int .i64 1)).run Try.prog w = .ok (.int .i64 y) w := fun _ => by kernel_rfl
  have hk : Hid (codeP x y = if (-1024 ≤ x ∧ x ≤ 4096) ∧ (-1024 ≤ y ∧ y ≤ 4096) then 0 else 3) := by
    show _ = _
    unfold codeP
    simp only [okP_iff]
  go_enter Try.func69, Try.ntmps69
  go_wp2_with (go_at_call 93; refine (pairOf_any _ _ _).mono ?_; rintro e w' ⟨rfl, hb1⟩)
  have hB : Hid (Below w.heap.size w w') := by
    show Below _ _ _
    (repeat (first | exact Below.refl _ _ | assumption | refine Below.drew ?_ | refine bl_alloc ?_ _ | refine bl_then ?_ (by assumption) | refine Below.setCell ?_ (by first | omega | (simp; done) | (simp; omega)) _ | refine bl_store ?_ ?_ _ _))
  clear hb1
  go_loop [7] (fun i => ∃ k : Nat, k ≤ 2 ∧ i = .int .i64 k ∧ (1 ≤ k → -1024 ≤ x ∧ x ≤ 4096) ∧ (2 ≤ k → -1024 ≤ y ∧ y ≤ 4096)) (fun i => 2 - (intOf i).toNat)
  case atStart => exact ⟨0, by omega, rfl, by omega, by omega⟩
  case round =>
    obtain ⟨k, hk2, rfl, hx, hy⟩ := hrel
    have hcase : k = 0 ∨ k = 1 ∨ k = 2 := by omega
    rcases hcase with rfl | rfl | rfl
    · clear hx hy
      by_cases h1 : x < -1024
      · go_wp2
        go_ret
        exact ⟨ret_int (by rw [hk.out]; simp; omega), hB.out⟩
      · have h1' : decide (x < -1024) = false := by simpa using h1
        go_wp2
        · go_ret
          exact ⟨ret_int (by rw [hk.out]; simp; omega), hB.out⟩
        · go_round
          case rel => exact ⟨1, by omega, rfl, by omega, by omega⟩
          case measure => simp [intOf]
    · have hx' := hx (by omega)
      clear hx hy
      by_cases h1 : y < -1024
      · go_wp2
        go_ret
        exact ⟨ret_int (by rw [hk.out]; simp; omega), hB.out⟩
      · have h1' : decide (y < -1024) = false := by simpa using h1
        go_wp2
        · go_ret
          exact ⟨ret_int (by rw [hk.out]; simp; omega), hB.out⟩
        · go_round
          case rel => exact ⟨2, by omega, rfl, by omega, by omega⟩
          case measure => simp [intOf]
    · have hx' := hx (by omega)
      have hy' := hy (by omega)
      clear hx hy
      go_wp2
      go_ret
      exact ⟨ret_int (by rw [hk.out, if_pos ⟨hx', hy'⟩]), hB.out⟩
end Go.Proofs.Ytjnhaigmfjndhaa
/- faultIn answers the fault of the first point of a list that has one. -/

namespace Go.Proofs.Ytjnhaigmfjndhaa
open Go.RowKit
set_option linter.unusedSimpArgs false
set_option linter.unusedVariables false

/-- From the address on lie n points. -/
def PtsAt (w : World) (b off n : Nat) (X Y : Nat → Int) : Prop :=
  ∀ i, i < n → w.cell? ⟨b, off + i * 2, none⟩ = some (.int .i64 (X i)) ∧ w.cell? ⟨b, off + i * 2 + 1, none⟩ = some (.int .i64 (Y i))
theorem PtsAt.lt {w : World} {b off n : Nat} {X Y : Nat → Int} (h : PtsAt w b off n X Y) (hn : 0 < n) : b < w.heap.size :=
  World.block_lt_of_cell? w ⟨b, off + 0 * 2, none⟩ (h 0 hn).1
theorem PtsAt.below {w w' : World} {b off n B : Nat} {X Y : Nat → Int} (h : PtsAt w b off n X Y) (hb : Below B w w') (hB : b < B) : PtsAt w' b off n X Y := fun i hi =>
  ⟨(hb.cell (p := ⟨b, off + i * 2, none⟩) hB).trans (h i hi).1, (hb.cell (p := ⟨b, off + i * 2 + 1, none⟩) hB).trans (h i hi).2⟩
/-- No point has a fault. -/
def allOk (n : Nat) (X Y : Nat → Int) : Bool := decide (∀ i, i < n → okP (X i) (Y i) = true)
def codeN (n : Nat) (X Y : Nat → Int) : Int := if allOk n X Y = true then 0 else 3
theorem codeN_no {n : Nat} {X Y : Nat → Int} (k : Nat) (hk : k < n) (h : okP (X k) (Y k) = false) : codeN n X Y = 3 := by
  unfold codeN allOk
  rw [if_neg]
  intro hc
  have := of_decide_eq_true hc k hk
  rw [h] at this
  cases this
theorem codeN_ok {n : Nat} {X Y : Nat → Int} (h : ∀ i, i < n → okP (X i) (Y i) = true) : codeN n X Y = 0 := by
  unfold codeN allOk
  rw [if_pos (decide_eq_true h)]

theorem faultIn_any (b off n cap : Nat) (X Y : Nat → Int) (w : World) (hp : PtsAt w b off n X Y) (hbl : b < w.heap.size) (hcap : n ≤ cap) (hmax : n ≤ 1048576) :
    Calls Try.prog 53 #[.slice (some ⟨b, off, none⟩) n cap] w fun e w' => e = .returned (.int .i64 (codeN n X Y)) ∧ Below w.heap.size w w' := by
  have HP : Hid (PtsAt w b off n X Y) := hp
  clear hp
  go_enter Try.func53, Try.ntmps53
  go_wp2
  go_loopw [8] (fun i wr => ∃ k : Nat, k ≤ n ∧ i = .int .i64 k ∧ (∀ j, j < k → okP (X j) (Y j) = true) ∧ Below w.heap.size w wr) (fun i _ => n - (intOf i).toNat)
  case atStart => exact ⟨0, by omega, rfl, by omega, Below.refl _ _⟩
  case round =>
    obtain ⟨k, hk2, rfl, hok, hB⟩ := hrel
    by_cases hlt : k < n
    · obtain ⟨hx, hy⟩ := (HP.out.below hB hbl) k hlt
      have HO : Hid (∀ j, j < k → okP (X j) (Y j) = true) := hok
      have HB : Hid (Below w.heap.size w wr) := hB
      have hsz := hB.size
      clear hok hB
      have hi : (k : Int) < (n : Int) := by omega
      cases hq : okP (X k) (Y k)
      · have hz : codeP (X k) (Y k) = 3 := codeP_no hq
        go_wp2_with (go_at_call 69; refine (PointFault_any _ _ _).mono ?_; rintro e w' ⟨rfl, hb1⟩)
        go_ret
        exact ⟨ret_int (by rw [codeN_no k hlt hq]), by have HB' := HB.out; (repeat (first | exact Below.refl _ _ | assumption | refine Below.drew ?_ | refine bl_alloc ?_ _ | refine bl_then ?_ (by assumption) | refine Below.setCell ?_ (by first | omega | (simp; done) | (simp; omega)) _ | refine bl_store ?_ ?_ _ _))⟩
      · have hz : codeP (X k) (Y k) = 0 := codeP_ok hq
        go_wp2_with (go_at_call 69; refine (PointFault_any _ _ _).mono ?_; rintro e w' ⟨rfl, hb1⟩)
        go_roundw
        case rel => exact ⟨k + 1, by omega, by go_num, fun j hj => by
            by_cases e : j = k
            · rw [e]; exact hq
            · exact HO.out j (by omega), by have HB' := HB.out; (repeat (first | exact Below.refl _ _ | assumption | refine Below.drew ?_ | refine bl_alloc ?_ _ | refine bl_then ?_ (by assumption) | refine Below.setCell ?_ (by first | omega | (simp; done) | (simp; omega)) _ | refine bl_store ?_ ?_ _ _))⟩
        case measure => simp [intOf]; omega
    · go_wp2
      go_ret
      exact ⟨ret_int (codeN_ok (fun i hi => hok i (by omega))).symm, hB⟩
end Go.Proofs.Ytjnhaigmfjndhaa
