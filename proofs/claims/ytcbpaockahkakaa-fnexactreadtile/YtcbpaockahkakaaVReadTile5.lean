/- Several texts in one. -/
import Derived.Test.YtcbpaockahkakaaVReadTile2
import Derived.Test.YtcbpaockahkakaaVReadTile4
import Derived.Test.YtcbpaockahkakaaVReadTile1
import Derived.Deep.RegionHeld3
import Derived.Deep.LoopGhost

/- Numbers on either side of 0 are folded, and unfolded. -/

namespace Go.Proofs.Ytcbpaockahkakaa
open Go.RowKit
set_option linter.unusedSimpArgs false
set_option linter.unusedVariables false

/-- A number, folded. -/
def foldI (n : Int) : Int := if n < 0 then -2 * n - 1 else 2 * n
/-- A number, unfolded. -/
def unfoldI (n : Int) : Int := if n % 2 = 1 then -(n / 2) - 1 else n / 2
/-- The answer of FoldNumber. -/
def foldV (n : Int) : Value := if inB n (-1073741824) 1073741824 = true then .agg #[.int .i64 0, .int .i64 (foldI n)] else .agg #[.int .i64 3, .int .i64 0]
def unfoldV (n : Int) : Value := if inB n 0 2147483648 = true then .agg #[.int .i64 0, .int .i64 (unfoldI n)] else .agg #[.int .i64 3, .int .i64 0]
theorem unfold_fold (n : Int) : unfoldI (foldI n) = n := by unfold unfoldI foldI; split <;> split <;> omega
theorem fold_unfold (n : Int) (h : 0 ≤ n) : foldI (unfoldI n) = n := by unfold unfoldI foldI; split <;> split <;> omega
theorem foldI_bd {n B : Int} (h : -B ≤ n) (h' : n ≤ B) : 0 ≤ foldI n ∧ foldI n ≤ 2 * B := by unfold foldI; split <;> omega
theorem unfoldI_bd {n B : Int} (h : 0 ≤ n) (h' : n ≤ 2 * B) : -B ≤ unfoldI n ∧ unfoldI n ≤ B := by unfold unfoldI; split <;> omega
theorem inB_bd {n lo hi : Int} (h : inB n lo hi = true) : lo ≤ n ∧ n ≤ hi := by simpa [inB] using h

theorem impl_fold_any (n : Int) (w : World) (h1 : -1099511627776 ≤ n) (h2 : n ≤ 1099511627776) : Calls Try.prog 99 #[.int .i64 n] w fun e w' => e = .returned (.int .u64 (foldI n)) ∧ w = w' := by
  unfold foldI
  by_cases hn : n < 0
  · rw [if_pos hn]
    have e1 : IntKind.u64.wrap (-n) = -n := by rw [IntKind.wrap_u64]; omega
    have e2 : IntKind.u64.wrap (2 * -n) = 2 * -n := by rw [IntKind.wrap_u64]; omega
    have e3 : IntKind.u64.wrap (2 * -n - 1) = 2 * -n - 1 := by rw [IntKind.wrap_u64]; omega
    have e0 : IntKind.i64.wrap (-n) = -n := IntWalk.i64_in _ (by omega)
    go_enter Try.func99, Try.ntmps99
    go_wp2
    go_ret
    exact ⟨ret_int (by omega), rfl⟩
  · rw [if_neg hn]
    have e1 : IntKind.u64.wrap n = n := by rw [IntKind.wrap_u64]; omega
    have e2 : IntKind.u64.wrap (2 * n) = 2 * n := by rw [IntKind.wrap_u64]; omega
    go_enter Try.func99, Try.ntmps99
    go_wp2
    go_ret
    exact ⟨ret_int (by omega), rfl⟩
theorem impl_unfold_any (n : Int) (w : World) (h1 : 0 ≤ n) (h2 : n ≤ 1099511627776) : Calls Try.prog 110 #[.int .u64 n] w fun e w' => e = .returned (.int .i64 (unfoldI n)) ∧ w = w' := by
  unfold unfoldI
  have e1 : IntKind.u64.wrap (n / 2) = n / 2 := by rw [IntKind.wrap_u64]; omega
  have e2 : IntKind.i64.wrap (n / 2) = n / 2 := IntWalk.i64_in _ (by omega)
  have e3 : IntKind.i64.wrap (-(n / 2)) = -(n / 2) := IntWalk.i64_in _ (by omega)
  have e4 : IntKind.i64.wrap (-(n / 2) - 1) = -(n / 2) - 1 := IntWalk.i64_in _ (by omega)
  have e5 : IntKind.u64.wrap (n % 2) = n % 2 := by rw [IntKind.wrap_u64]; omega
  have t1 : n.tdiv 2 = n / 2 := Int.tdiv_eq_ediv_of_nonneg h1
  have t2 : n.tmod 2 = n % 2 := Int.tmod_eq_emod_of_nonneg h1
  by_cases hn : n % 2 = 1
  · rw [if_pos hn]
    go_enter Try.func110, Try.ntmps110
    go_wp2
    go_ret
    exact ⟨ret_int (by omega), rfl⟩
  · rw [if_neg hn]
    go_enter Try.func110, Try.ntmps110
    go_wp2
    go_ret
    exact ⟨ret_int (by omega), rfl⟩
theorem l6Fold_any (n : Int) (w : World) (h1 : -1099511627776 ≤ n) (h2 : n ≤ 1099511627776) : Calls Try.prog 86 #[.int .i64 n] w fun e w' => e = .returned (.int .i64 (foldI n)) ∧ w = w' := by
  unfold foldI
  by_cases hn : n < 0
  · rw [if_pos hn]
    have hn' : ¬ 0 ≤ n := by omega
    go_enter Try.func86, Try.ntmps86
    go_wp2
    go_ret
    exact ⟨ret_int (by omega), rfl⟩
  · rw [if_neg hn]
    have hn' : 0 ≤ n := by omega
    go_enter Try.func86, Try.ntmps86
    go_wp2
    go_ret
    exact ⟨ret_int (by omega), rfl⟩
theorem l6Unfold_any (n : Int) (w : World) (h1 : 0 ≤ n) (h2 : n ≤ 1099511627776) : Calls Try.prog 91 #[.int .i64 n] w fun e w' => e = .returned (.int .i64 (unfoldI n)) ∧ w = w' := by
  unfold unfoldI
  have t1 : n.tdiv 2 = n / 2 := Int.tdiv_eq_ediv_of_nonneg h1
  have t2 : n.tmod 2 = n % 2 := Int.tmod_eq_emod_of_nonneg h1
  have t3 : (-(n + 1)).tdiv 2 = -((n + 1) / 2) := by rw [Int.neg_tdiv, Int.tdiv_eq_ediv_of_nonneg (by omega)]
  by_cases hn : n % 2 = 1
  · rw [if_pos hn]
    have hn' : ¬ n % 2 = 0 := by omega
    go_enter Try.func91, Try.ntmps91
    go_wp2
    go_ret
    exact ⟨ret_int (by omega), rfl⟩
  · rw [if_neg hn]
    have hn' : n % 2 = 0 := by omega
    go_enter Try.func91, Try.ntmps91
    go_wp2
    go_ret
    exact ⟨ret_int (by omega), rfl⟩
end Go.Proofs.Ytcbpaockahkakaa
/- Numbers with a bound, and steps, are read from what is left of bytes: the program's way. -/

namespace Go.Proofs.Ytcbpaockahkakaa
open Go.RowKit
set_option linter.unusedSimpArgs false
set_option linter.unusedVariables false
set_option maxRecDepth 100000

/-- What a reading tells: a panic, or a value and what is left. -/
def OutP {α : Type} (r : Option (α × Nat)) (val : α → Value) (p B n : Nat) (Z : Nat → Int) (w : World) (e : Ending) (w' : World) : Prop :=
  match r with
  | none => Pan e ∧ Keeps p w w'
  | some x => e = .returned (val x.1) ∧ UpAt w' p B (n - x.2) (fun i => Z (i + x.2)) ∧ Keeps p w w'
theorem OutP.none {α : Type} {r : Option (α × Nat)} {val : α → Value} {p B n : Nat} {Z : Nat → Int} {w w' : World} {e : Ending} (h : r = none) (he : Pan e) (hk : Keeps p w w') : OutP r val p B n Z w e w' := by
  subst h; exact ⟨he, hk⟩
theorem OutP.some {α : Type} {r : Option (α × Nat)} {val : α → Value} {p B n : Nat} {Z : Nat → Int} {w w' : World} {e : Ending} {x : α} {y : Nat} (h : r = some (x, y)) (he : e = .returned (val x)) (hu : UpAt w' p B (n - y) (fun i => Z (i + y))) (hk : Keeps p w w') : OutP r val p B n Z w e w' := by
  subst h; exact ⟨he, hu, hk⟩
/-- A number of at most so much; a step. -/
def rdUp (most : Nat) (Z : Nat → Int) (n : Nat) : Option (Nat × Nat) := (rd Z n).bind fun x => if most < x.1 then none else some x
def rdStep (Z : Nat → Int) (n : Nat) : Option (Int × Nat) := (rdUp 2147483648 Z n).map fun x => (unfoldI (x.1 : Int), x.2)
theorem rdUp_bd {most : Nat} {Z : Nat → Int} {n : Nat} {x : Nat × Nat} (h : rdUp most Z n = some x) : x.1 ≤ most ∧ 0 < x.2 ∧ x.2 ≤ n ∧ x.2 ≤ 6 := by
  unfold rdUp at h
  cases hr : rd Z n with
  | none => simp [hr] at h
  | some y =>
    have hb := rd_bd hr
    rw [hr, Option.bind_some] at h
    split at h
    · cases h
    · injection h with h
      subst h
      exact ⟨by omega, hb.2⟩

set_option maxHeartbeats 2000000 in
theorem numberUpTo_any (most p B n : Nat) (Z : Nat → Int) (w : World) (h : UpAt w p B n Z) (hB : B ≤ p) (hp : p < w.heap.size) (hr : ∀ i, 0 ≤ Z i ∧ Z i ≤ 255) (hmax : n ≤ 1048576) :
    Calls Try.prog 65 #[.pointer (some ⟨p, 0, none⟩), .int .u64 (most : Int)] w fun e w' => OutP (rdUp most Z n) (fun x => .int .u64 (x : Int)) p B n Z w e w' := by
  have HN : Hid (Calls Try.prog 88 #[.pointer (some ⟨p, 0, none⟩)] w fun e w' => NumP p B n Z w e w') := number_any p B n Z w h hB hp hr hmax
  clear h hr
  cases hd : rd Z n with
  | none =>
    have HD : Hid (rdUp most Z n = none) := by show _ = _; simp [rdUp, hd]
    have HD0 : Hid (rd Z n = none) := hd
    clear hd
    go_enter Try.func65, Try.ntmps65
    go_wp2_with fail
    refine Calls.mono HN.out ?_
    intro e w1 hq
    unfold NumP at hq
    rw [HD0.out] at hq
    obtain ⟨⟨u, pv, rfl⟩, hk⟩ := hq
    exact ⟨rfl, OutP.none HD.out ⟨_, _, rfl⟩ hk⟩
  | some x =>
    obtain ⟨x, y⟩ := x
    have HD0 : Hid (rd Z n = some (x, y)) := hd
    by_cases hm : most < x
    · have HD : Hid (rdUp most Z n = none) := by show _ = _; simp [rdUp, hd, hm]
      have hm' : (most : Int) < (x : Int) := by omega
      clear hd
      go_enter Try.func65, Try.ntmps65
      go_wp2_with fail
      refine Calls.mono HN.out ?_
      intro e w1 hq
      unfold NumP at hq
      rw [HD0.out] at hq
      obtain ⟨rfl, hu, hk⟩ := hq
      have HK : Hid (Keeps p w w1) := hk
      clear hu hk
      go_wp2
      exact ⟨rfl, OutP.none HD.out ⟨_, _, rfl⟩ HK.out⟩
    · have HD : Hid (rdUp most Z n = some (x, y)) := by show _ = _; simp [rdUp, hd, hm]
      have hm' : ¬ (most : Int) < (x : Int) := by omega
      clear hd
      go_enter Try.func65, Try.ntmps65
      go_wp2_with fail
      refine Calls.mono HN.out ?_
      intro e w1 hq
      unfold NumP at hq
      rw [HD0.out] at hq
      obtain ⟨rfl, hu, hk⟩ := hq
      have HK : Hid (Keeps p w w1) := hk
      have HU : Hid (UpAt w1 p B (n - y) (fun i => Z (i + y))) := hu
      clear hu hk
      go_wp2
      go_ret
      exact OutP.some HD.out rfl HU.out HK.out
set_option maxHeartbeats 2000000 in
theorem step_any (p B n : Nat) (Z : Nat → Int) (w : World) (h : UpAt w p B n Z) (hB : B ≤ p) (hp : p < w.heap.size) (hr : ∀ i, 0 ≤ Z i ∧ Z i ≤ 255) (hmax : n ≤ 1048576) :
    Calls Try.prog 104 #[.pointer (some ⟨p, 0, none⟩)] w fun e w' => OutP (rdStep Z n) (fun x => .int .i64 x) p B n Z w e w' := by
  have HN : Hid (Calls Try.prog 65 #[.pointer (some ⟨p, 0, none⟩), .int .u64 2147483648] w fun e w' => OutP (rdUp 2147483648 Z n) (fun x => .int .u64 (x : Int)) p B n Z w e w') := numberUpTo_any 2147483648 p B n Z w h hB hp hr hmax
  clear h hr
  cases hd : rdUp 2147483648 Z n with
  | none =>
    have HD : Hid (rdStep Z n = none) := by show _ = _; simp [rdStep, hd]
    have HD0 : Hid (rdUp 2147483648 Z n = none) := hd
    clear hd
    go_enter Try.func104, Try.ntmps104
    go_wp2_with fail
    refine Calls.mono HN.out ?_
    intro e w1 hq
    rw [HD0.out] at hq
    obtain ⟨⟨u, pv, rfl⟩, hk⟩ := hq
    exact ⟨rfl, OutP.none HD.out ⟨_, _, rfl⟩ hk⟩
  | some x =>
    have hbd := rdUp_bd hd
    obtain ⟨x, y⟩ := x
    have HD : Hid (rdStep Z n = some (unfoldI (x : Int), y)) := by show _ = _; simp [rdStep, hd]
    have HD0 : Hid (rdUp 2147483648 Z n = some (x, y)) := hd
    have hx : x ≤ 2147483648 := hbd.1
    clear hd hbd
    go_enter Try.func104, Try.ntmps104
    go_wp2_with fail
    refine Calls.mono HN.out ?_
    intro e w1 hq
    rw [HD0.out] at hq
    obtain ⟨rfl, hu, hk⟩ := hq
    have HK : Hid (Keeps p w w1) := hk
    have HU : Hid (UpAt w1 p B (n - y) (fun i => Z (i + y))) := hu
    clear hu hk
    go_wp2_with fail
    refine (impl_unfold_any (x : Int) _ (by omega) (by omega)).mono ?_
    rintro e w2 ⟨rfl, rfl⟩
    obtain ⟨v, hv⟩ : ∃ v, unfoldI (x : Int) = v := ⟨_, rfl⟩
    rw [hv] at HD ⊢
    clear hv
    go_wp2
    go_ret
    exact OutP.some HD.out rfl HU.out HK.out
end Go.Proofs.Ytcbpaockahkakaa
/- One operation of a region that draws its order, taken first, its slot told: what is wanted yields, what is not wanted is passed by. -/

namespace Go.Proofs.Ytcbpaockahkakaa
open Go.RowKit
section
variable {P : Program} {ops : Array Oper} {Q : Exit → Act → World → Prop} {md : Region.Mode} {S : World → Prop}
theorem takeD {i : Nat} {d : Option Nat} {oi : Oper} {v : Value} {fuel : Nat} {listed : Array Bool} {a : Act} {w : World} (hi : ops[i]? = some oi) (hd : oi.dst = d)
    (hs : Region.noSelect ops = true) (hf : Region.free md ops listed i = true) (hr : (Region.ready md ops listed).contains i = true)
    (hQ : ∀ c a w, Q (.panic c) (a.put oi.dst v) w → Q (.panic c) a w) (hy : YieldsIf P ops S oi v a) (hS : S w)
    (h : wpAnyH P md ops Q S fuel (listed.setIfInBounds i true) (a.put d v) w) : wpAnyH P md ops Q S (fuel + 1) listed a w :=
  wpAnyH_take hi hs hf hr hQ hy hS (hd ▸ h)
theorem passD {i : Nat} {d : Option Nat} {oi : Oper} {fuel : Nat} {listed : Array Bool} {a : Act} {w : World} (hi : ops[i]? = some oi) (hd : oi.dst = d)
    (hs : Region.noSelect ops = true) (hf : Region.free md ops listed i = true) (hr : (Region.ready md ops listed).contains i = true)
    (hQ : ∀ c a w, Q (.panic c) (a.put oi.dst undef) w → Q (.panic c) a w) (hy : Region.wanted oi (yielded ops a.tmps) = false) (hS : S w)
    (h : wpAnyH P md ops Q S fuel (listed.setIfInBounds i true) (a.put d undef) w) : wpAnyH P md ops Q S (fuel + 1) listed a w :=
  wpAnyH_take hi hs hf hr hQ (.inr ⟨hy, rfl⟩) hS (hd ▸ h)
end
end Go.Proofs.Ytcbpaockahkakaa
/- PointFault answers the fault of a point. -/

namespace Go.Proofs.Ytcbpaockahkakaa
open Go.RowKit
set_option linter.unusedSimpArgs false
set_option linter.unusedVariables false

end Go.Proofs.Ytcbpaockahkakaa
/- faultIn answers the fault of the first point of a list that has one. -/

namespace Go.Proofs.Ytcbpaockahkakaa
open Go.RowKit
set_option linter.unusedSimpArgs false
set_option linter.unusedVariables false

/-- From the address on lie n points. -/
def PtsAt (w : World) (b off n : Nat) (X Y : Nat → Int) : Prop :=
  ∀ i, i < n → w.cell? ⟨b, off + i * 2, none⟩ = some (.int .i64 (X i)) ∧ w.cell? ⟨b, off + i * 2 + 1, none⟩ = some (.int .i64 (Y i))
theorem PtsAt.lt {w : World} {b off n : Nat} {X Y : Nat → Int} (h : PtsAt w b off n X Y) (hn : 0 < n) : b < w.heap.size :=
  World.block_lt_of_cell? w ⟨b, off + 0 * 2, none⟩ (h 0 hn).1
theorem PtsAt.below {w w' : World} {b off n B : Nat} {X Y : Nat → Int} (h : PtsAt w b off n X Y) (hb : Below B w w') (hB : b < B) : PtsAt w' b off n X Y := fun i hi =>
  ⟨(hb.cell (p := ⟨b, off + i * 2, none⟩) hB).trans (h i hi).1, (hb.cell (p := ⟨b, off + i * 2 + 1, none⟩) hB).trans (h i hi).2⟩
/-- No point has a fault. -/
def allOk (n : Nat) (X Y : Nat → Int) : Bool := decide (∀ i, i < n → okP (X i) (Y i) = true)
def codeN (n : Nat) (X Y : Nat → Int) : Int := if allOk n X Y = true then 0 else 3
theorem codeN_no {n : Nat} {X Y : Nat → Int} (k : Nat) (hk : k < n) (h : okP (X k) (Y k) = false) : codeN n X Y = 3 := by
  unfold codeN allOk
  rw [if_neg]
  intro hc
  have := of_decide_eq_true hc k hk
  rw [h] at this
  cases this
theorem codeN_ok {n : Nat} {X Y : Nat → Int} (h : ∀ i, i < n → okP (X i) (Y i) = true) : codeN n X Y = 0 := by
  unfold codeN allOk
  rw [if_pos (decide_eq_true h)]

end Go.Proofs.Ytcbpaockahkakaa
