/- Several texts in one. -/
import Derived.WalkKit
import Derived.Below
import Derived.Test.YtdohlnnbibnnbaaGreatRows
import Derived.WalkSpells
import Derived.WalkLawsBesides
import Derived.Outline
import Derived.Deep.LoopGhost

/- Plain definitions and facts about points and numbers: no program in sight. -/

namespace Go.Proofs.YtdohlnnbibnnbaaGreat
open Go.RowKit

/-- v is from lo to hi. -/
def inB (v lo hi : Int) : Bool := decide (lo ≤ v) && decide (v ≤ hi)
/-- A point without a fault. -/
def okP (x y : Int) : Bool := inB x (-1024) 4096 && inB y (-1024) 4096
theorem okP_iff (x y : Int) : okP x y = true ↔ (-1024 ≤ x ∧ x ≤ 4096) ∧ (-1024 ≤ y ∧ y ≤ 4096) := by
  simp [okP, inB]
/-- The fault of a point. -/
def codeP (x y : Int) : Int := if okP x y = true then 0 else 3
theorem codeP_ok {x y : Int} (h : okP x y = true) : codeP x y = 0 := by simp [codeP, h]
theorem codeP_no {x y : Int} (h : okP x y = false) : codeP x y = 3 := by simp [codeP, h]
theorem okP_bd {x y : Int} (h : okP x y = true) : (-1024 ≤ x ∧ x ≤ 4096) ∧ (-1024 ≤ y ∧ y ≤ 4096) := (okP_iff x y).1 h

/-- The product of two numbers within bounds. -/
theorem mul_bd {a b B C : Int} (ha : -B ≤ a) (ha' : a ≤ B) (hb : -C ≤ b) (hb' : b ≤ C) (hB : 0 ≤ B) : -(B * C) ≤ a * b ∧ a * b ≤ B * C := by
  have h1 : a.natAbs ≤ B.natAbs := by omega
  have h2 : b.natAbs ≤ C.natAbs := by omega
  have h3 : (a * b).natAbs ≤ B.natAbs * C.natAbs := by rw [Int.natAbs_mul]; exact Nat.mul_le_mul h1 h2
  have h4 : ((B.natAbs * C.natAbs : Nat) : Int) = B * C := by rw [Int.natCast_mul, Int.natAbs_of_nonneg hB, Int.natAbs_of_nonneg (by omega)]
  omega

/-- Below, one call behind another. -/
theorem bl_then {wr W w' : World} (hS : Below wr.heap.size wr W) (hb : Below W.heap.size W w') : Below wr.heap.size wr w' := hS.trans (hb.mono hS.size)
theorem bl_store {wr W V : World} (hS : Below wr.heap.size wr W) (hV : Below wr.heap.size wr V) (o : Nat) (u : Value) : Below wr.heap.size wr (W.setCell ⟨V.heap.size, o, none⟩ u) := hS.setCell hV.size u
theorem bl_alloc {wr W : World} (hS : Below wr.heap.size wr W) (o : Obj) : Below wr.heap.size wr (W.alloc o) := hS.alloc hS.size o

theorem ret_int {k : IntKind} {a b : Int} (h : a = b) : Ending.returned (.int k a) = .returned (.int k b) := by rw [h]
theorem ret_bool {a b : Bool} (h : a = b) : Ending.returned (.bool a) = .returned (.bool b) := by rw [h]

/-- Twice the area. -/
def crossI (ax ay bx by' cx cy : Int) : Int := (bx - ax) * (cy - ay) - (by' - ay) * (cx - ax)
/-- The square of the distance. -/
def distI (ax ay bx by' : Int) : Int := (bx - ax) * (bx - ax) + (by' - ay) * (by' - ay)
end Go.Proofs.YtdohlnnbibnnbaaGreat
/- What the smallest functions of points answer, and that they write nothing that was there. -/

namespace Go.Proofs.YtdohlnnbibnnbaaGreat
open Go.RowKit
set_option linter.unusedSimpArgs false
set_option linter.unusedVariables false

theorem l1In_any (v lo hi : Int) (w : World) : Calls Tryz.prog 73 #[.int .i64 v, .int .i64 lo, .int .i64 hi] w fun e w' => e = .returned (.bool (inB v lo hi)) ∧ w' = w := by
  unfold inB
  go_enter Tryz.func73, Tryz.ntmps73
  by_cases h1 : lo ≤ v
  · go_wp2
    all_goals (go_ret; exact ⟨ret_bool (by simp [h1]), rfl⟩)
  · have h2 : decide (lo ≤ v) = false := by simpa using h1
    go_wp2
    all_goals (go_ret; exact ⟨ret_bool (by simp [h1]), rfl⟩)

/-- The world behind toPoint. -/
abbrev toPointW (x y : Int) (w : World) : World := ((w.alloc (.cells #[.int .i64 x, .int .i64 y] 154)).alloc (.cells #[.int .i64 x, .int .i64 y] 111)).alloc (.cells #[.int .i64 x, .int .i64 y] 111)
theorem toPoint_ex (x y : Int) (w : World) : Calls Tryz.prog 121 #[.agg #[.int .i64 x, .int .i64 y]] w fun e w' => e = .returned (.agg #[.int .i64 x, .int .i64 y]) ∧ toPointW x y w = w' := by
  go_enter Tryz.func121, Tryz.ntmps121
  go_wp2
  exact bodyPost_ret (v := .agg #[.int .i64 x, .int .i64 y]) (by simp [results, Tryz.results121, go_sem]) rfl ⟨rfl, rfl⟩
theorem toPoint_any (x y : Int) (w : World) : Calls Tryz.prog 121 #[.agg #[.int .i64 x, .int .i64 y]] w fun e w' => e = .returned (.agg #[.int .i64 x, .int .i64 y]) ∧ Below w.heap.size w w' :=
  (toPoint_ex x y w).mono fun e w' ⟨he, hw⟩ => ⟨he, by subst hw; (repeat (first | exact Below.refl _ _ | assumption | refine Below.drew ?_ | refine bl_alloc ?_ _ | refine bl_then ?_ (by assumption) | refine Below.setCell ?_ (by first | omega | (simp; done) | (simp; omega)) _ | refine bl_store ?_ ?_ _ _))⟩

abbrev pairOfW (x y : Int) (w : World) : World := (w.alloc (.cells #[.int .i64 x, .int .i64 y] 111)).alloc (.cells #[.int .i64 x, .int .i64 y] 188)
theorem pairOf_ex (x y : Int) (w : World) : Calls Tryz.prog 150 #[.agg #[.int .i64 x, .int .i64 y]] w fun e w' => e = .returned (.agg #[.int .i64 x, .int .i64 y]) ∧ pairOfW x y w = w' := by
  go_enter Tryz.func150, Tryz.ntmps150
  go_wp2
  exact bodyPost_ret (v := .agg #[.int .i64 x, .int .i64 y]) (by simp [results, Tryz.results150, go_sem]) rfl ⟨rfl, rfl⟩
theorem pairOf_any (x y : Int) (w : World) : Calls Tryz.prog 150 #[.agg #[.int .i64 x, .int .i64 y]] w fun e w' => e = .returned (.agg #[.int .i64 x, .int .i64 y]) ∧ Below w.heap.size w w' :=
  (pairOf_ex x y w).mono fun e w' ⟨he, hw⟩ => ⟨he, by subst hw; (repeat (first | exact Below.refl _ _ | assumption | refine Below.drew ?_ | refine bl_alloc ?_ _ | refine bl_then ?_ (by assumption) | refine Below.setCell ?_ (by first | omega | (simp; done) | (simp; omega)) _ | refine bl_store ?_ ?_ _ _))⟩

end Go.Proofs.YtdohlnnbibnnbaaGreat
/- PointFault answers the fault of a point. -/

namespace Go.Proofs.YtdohlnnbibnnbaaGreat
open Go.RowKit
set_option linter.unusedSimpArgs false
set_option linter.unusedVariables false

theorem PointFault_any (x y : Int) (w : World) : Calls Tryz.prog 126 #[.agg #[.int .i64 x, .int .i64 y]] w fun e w' => e = .returned (.int .i64 (codeP x y)) ∧ Below w.heap.size w w' := by
  have i0 : ∀ w, (Instr.index 188 (.agg #[.int .i64 x, .int .i64 y]) (.int .i64 0)).run Tryz.prog w = .ok (.int .i64 x) w := fun _ => by kernel_rfl
  have i1 : ∀ w, (Instr.index 188 (.agg #[.int .i64 x, .int .i64 y]) (.int .i64 1)).run Tryz.prog w = .ok (.int .i64 y) w := fun _ => by kernel_rfl
  have hk : Hid (codeP x y = if (-1024 ≤ x ∧ x ≤ 4096) ∧ (-1024 ≤ y ∧ y ≤ 4096) then 0 else 3) := by
    show _ = _
    unfold codeP
    simp only [okP_iff]
  go_enter Tryz.func126, Tryz.ntmps126
  go_wp2_with (go_at_call 150; refine (pairOf_any _ _ _).mono ?_; rintro e w' ⟨rfl, hb1⟩)
  have hB : Hid (Below w.heap.size w w') := by
    show Below _ _ _
    (repeat (first | exact Below.refl _ _ | assumption | refine Below.drew ?_ | refine bl_alloc ?_ _ | refine bl_then ?_ (by assumption) | refine Below.setCell ?_ (by first | omega | (simp; done) | (simp; omega)) _ | refine bl_store ?_ ?_ _ _))
  clear hb1
  go_loop [7] (fun i => ∃ k : Nat, k ≤ 2 ∧ i = .int .i64 k ∧ (1 ≤ k → -1024 ≤ x ∧ x ≤ 4096) ∧ (2 ≤ k → -1024 ≤ y ∧ y ≤ 4096)) (fun i => 2 - (intOf i).toNat)
  case atStart => exact ⟨0, by omega, rfl, by omega, by omega⟩
  case round =>
    obtain ⟨k, hk2, rfl, hx, hy⟩ := hrel
    have hcase : k = 0 ∨ k = 1 ∨ k = 2 := by omega
    rcases hcase with rfl | rfl | rfl
    · clear hx hy
      by_cases h1 : x < -1024
      · go_wp2
        go_ret
        exact ⟨ret_int (by rw [hk.out]; simp; omega), hB.out⟩
      · have h1' : decide (x < -1024) = false := by simpa using h1
        go_wp2
        · go_ret
          exact ⟨ret_int (by rw [hk.out]; simp; omega), hB.out⟩
        · go_round
          case rel => exact ⟨1, by omega, rfl, by omega, by omega⟩
          case measure => simp [intOf]
    · have hx' := hx (by omega)
      clear hx hy
      by_cases h1 : y < -1024
      · go_wp2
        go_ret
        exact ⟨ret_int (by rw [hk.out]; simp; omega), hB.out⟩
      · have h1' : decide (y < -1024) = false := by simpa using h1
        go_wp2
        · go_ret
          exact ⟨ret_int (by rw [hk.out]; simp; omega), hB.out⟩
        · go_round
          case rel => exact ⟨2, by omega, rfl, by omega, by omega⟩
          case measure => simp [intOf]
    · have hx' := hx (by omega)
      have hy' := hy (by omega)
      clear hx hy
      go_wp2
      go_ret
      exact ⟨ret_int (by rw [hk.out, if_pos ⟨hx', hy'⟩]), hB.out⟩
end Go.Proofs.YtdohlnnbibnnbaaGreat
/- faultIn answers the fault of the first point of a list that has one. -/

namespace Go.Proofs.YtdohlnnbibnnbaaGreat
open Go.RowKit
set_option linter.unusedSimpArgs false
set_option linter.unusedVariables false

/-- From the address on lie n points. -/
def PtsAt (w : World) (b off n : Nat) (X Y : Nat → Int) : Prop :=
  ∀ i, i < n → w.cell? ⟨b, off + i * 2, none⟩ = some (.int .i64 (X i)) ∧ w.cell? ⟨b, off + i * 2 + 1, none⟩ = some (.int .i64 (Y i))
theorem PtsAt.below {w w' : World} {b off n B : Nat} {X Y : Nat → Int} (h : PtsAt w b off n X Y) (hb : Below B w w') (hB : b < B) : PtsAt w' b off n X Y := fun i hi =>
  ⟨(hb.cell (p := ⟨b, off + i * 2, none⟩) hB).trans (h i hi).1, (hb.cell (p := ⟨b, off + i * 2 + 1, none⟩) hB).trans (h i hi).2⟩
/-- No point has a fault. -/
def allOk (n : Nat) (X Y : Nat → Int) : Bool := decide (∀ i, i < n → okP (X i) (Y i) = true)
def codeN (n : Nat) (X Y : Nat → Int) : Int := if allOk n X Y = true then 0 else 3
theorem codeN_no {n : Nat} {X Y : Nat → Int} (k : Nat) (hk : k < n) (h : okP (X k) (Y k) = false) : codeN n X Y = 3 := by
  unfold codeN allOk
  rw [if_neg]
  intro hc
  have := of_decide_eq_true hc k hk
  rw [h] at this
  cases this
theorem codeN_ok {n : Nat} {X Y : Nat → Int} (h : ∀ i, i < n → okP (X i) (Y i) = true) : codeN n X Y = 0 := by
  unfold codeN allOk
  rw [if_pos (decide_eq_true h)]

theorem faultIn_any (b off n cap : Nat) (X Y : Nat → Int) (w : World) (hp : PtsAt w b off n X Y) (hbl : b < w.heap.size) (hcap : n ≤ cap) (hmax : n ≤ 1048576) :
    Calls Tryz.prog 100 #[.slice (some ⟨b, off, none⟩) n cap] w fun e w' => e = .returned (.int .i64 (codeN n X Y)) ∧ Below w.heap.size w w' := by
  have HP : Hid (PtsAt w b off n X Y) := hp
  clear hp
  go_enter Tryz.func100, Tryz.ntmps100
  go_wp2
  go_loopw [8] (fun i wr => ∃ k : Nat, k ≤ n ∧ i = .int .i64 k ∧ (∀ j, j < k → okP (X j) (Y j) = true) ∧ Below w.heap.size w wr) (fun i _ => n - (intOf i).toNat)
  case atStart => exact ⟨0, by omega, rfl, by omega, Below.refl _ _⟩
  case round =>
    obtain ⟨k, hk2, rfl, hok, hB⟩ := hrel
    by_cases hlt : k < n
    · obtain ⟨hx, hy⟩ := (HP.out.below hB hbl) k hlt
      have HO : Hid (∀ j, j < k → okP (X j) (Y j) = true) := hok
      have HB : Hid (Below w.heap.size w wr) := hB
      have hsz := hB.size
      clear hok hB
      have hi : (k : Int) < (n : Int) := by omega
      cases hq : okP (X k) (Y k)
      · have hz : codeP (X k) (Y k) = 3 := codeP_no hq
        go_wp2_with (go_at_call 126; refine (PointFault_any _ _ _).mono ?_; rintro e w' ⟨rfl, hb1⟩)
        go_ret
        exact ⟨ret_int (by rw [codeN_no k hlt hq]), by have HB' := HB.out; (repeat (first | exact Below.refl _ _ | assumption | refine Below.drew ?_ | refine bl_alloc ?_ _ | refine bl_then ?_ (by assumption) | refine Below.setCell ?_ (by first | omega | (simp; done) | (simp; omega)) _ | refine bl_store ?_ ?_ _ _))⟩
      · have hz : codeP (X k) (Y k) = 0 := codeP_ok hq
        go_wp2_with (go_at_call 126; refine (PointFault_any _ _ _).mono ?_; rintro e w' ⟨rfl, hb1⟩)
        go_roundw
        case rel => exact ⟨k + 1, by omega, by go_num, fun j hj => by
            by_cases e : j = k
            · rw [e]; exact hq
            · exact HO.out j (by omega), by have HB' := HB.out; (repeat (first | exact Below.refl _ _ | assumption | refine Below.drew ?_ | refine bl_alloc ?_ _ | refine bl_then ?_ (by assumption) | refine Below.setCell ?_ (by first | omega | (simp; done) | (simp; omega)) _ | refine bl_store ?_ ?_ _ _))⟩
        case measure => simp [intOf]; omega
    · go_wp2
      go_ret
      exact ⟨ret_int (codeN_ok (fun i hi => hok i (by omega))).symm, hB⟩
end Go.Proofs.YtdohlnnbibnnbaaGreat
/- What the small functions of points answer, and that they write nothing that was there. -/

namespace Go.Proofs.YtdohlnnbibnnbaaGreat
open Go.RowKit
set_option linter.unusedSimpArgs false
set_option linter.unusedVariables false

theorem l1Cross_any (ax ay bx by' cx cy : Int) (w : World) (ha : okP ax ay = true) (hb : okP bx by' = true) (hc : okP cx cy = true) :
    Calls Tryz.prog 168 #[.agg #[.int .i64 ax, .int .i64 ay], .agg #[.int .i64 bx, .int .i64 by'], .agg #[.int .i64 cx, .int .i64 cy]] w fun e w' => e = .returned (.int .i64 (crossI ax ay bx by' cx cy)) ∧ Below w.heap.size w w' := by
  obtain ⟨⟨a1, a2⟩, a3, a4⟩ := okP_bd ha
  obtain ⟨⟨b1, b2⟩, b3, b4⟩ := okP_bd hb
  obtain ⟨⟨c1, c2⟩, c3, c4⟩ := okP_bd hc
  clear ha hb hc
  unfold crossI
  obtain ⟨p1, p2⟩ := mul_bd (a := bx - ax) (b := cy - ay) (B := 5120) (C := 5120) (by omega) (by omega) (by omega) (by omega) (by omega)
  obtain ⟨q1, q2⟩ := mul_bd (a := by' - ay) (b := cx - ax) (B := 5120) (C := 5120) (by omega) (by omega) (by omega) (by omega) (by omega)
  go_enter Tryz.func168, Tryz.ntmps168
  go_wp2
  go_ret
  exact ⟨rfl, by (repeat (first | exact Below.refl _ _ | assumption | refine Below.drew ?_ | refine bl_alloc ?_ _ | refine bl_then ?_ (by assumption) | refine Below.setCell ?_ (by first | omega | (simp; done) | (simp; omega)) _ | refine bl_store ?_ ?_ _ _))⟩

theorem l1Distance_any (ax ay bx by' : Int) (w : World) (ha : okP ax ay = true) (hb : okP bx by' = true) :
    Calls Tryz.prog 167 #[.agg #[.int .i64 ax, .int .i64 ay], .agg #[.int .i64 bx, .int .i64 by']] w fun e w' => e = .returned (.int .i64 (distI ax ay bx by')) ∧ Below w.heap.size w w' := by
  obtain ⟨⟨a1, a2⟩, a3, a4⟩ := okP_bd ha
  obtain ⟨⟨b1, b2⟩, b3, b4⟩ := okP_bd hb
  clear ha hb
  have hd : Hid (distI ax ay bx by' = (ax - bx) * (ax - bx) + (ay - by') * (ay - by')) := by
    show _ = _
    unfold distI
    rw [← Int.neg_sub ax bx, ← Int.neg_sub ay by', Int.neg_mul_neg, Int.neg_mul_neg]
  obtain ⟨p1, p2⟩ := mul_bd (a := ax - bx) (b := ax - bx) (B := 5120) (C := 5120) (by omega) (by omega) (by omega) (by omega) (by omega)
  obtain ⟨q1, q2⟩ := mul_bd (a := ay - by') (b := ay - by') (B := 5120) (C := 5120) (by omega) (by omega) (by omega) (by omega) (by omega)
  go_enter Tryz.func167, Tryz.ntmps167
  go_wp2
  go_ret
  exact ⟨ret_int hd.out.symm, by (repeat (first | exact Below.refl _ _ | assumption | refine Below.drew ?_ | refine bl_alloc ?_ _ | refine bl_then ?_ (by assumption) | refine Below.setCell ?_ (by first | omega | (simp; done) | (simp; omega)) _ | refine bl_store ?_ ?_ _ _))⟩

/-- Both within 5120, either way. -/
def Df (x y : Int) : Prop := (-5120 ≤ x ∧ x ≤ 5120) ∧ (-5120 ≤ y ∧ y ≤ 5120)

theorem wayOf_any (ax ay bx by' : Int) (w : World) (ha : okP ax ay = true) (hb : okP bx by' = true) :
    Calls Tryz.prog 162 #[.agg #[.int .i64 ax, .int .i64 ay], .agg #[.int .i64 bx, .int .i64 by']] w fun e w' => e = .returned (.agg #[.int .i64 (bx - ax), .int .i64 (by' - ay)]) ∧ Below w.heap.size w w' := by
  obtain ⟨⟨a1, a2⟩, a3, a4⟩ := okP_bd ha
  obtain ⟨⟨b1, b2⟩, b3, b4⟩ := okP_bd hb
  clear ha hb
  go_enter Tryz.func162, Tryz.ntmps162
  go_wp2
  exact bodyPost_ret (v := .agg #[.int .i64 (bx - ax), .int .i64 (by' - ay)]) (by simp [results, Tryz.results162, go_sem]) rfl ⟨rfl, by (repeat (first | exact Below.refl _ _ | assumption | refine Below.drew ?_ | refine bl_alloc ?_ _ | refine bl_then ?_ (by assumption) | refine Below.setCell ?_ (by first | omega | (simp; done) | (simp; omega)) _ | refine bl_store ?_ ?_ _ _))⟩

theorem dotOf_any (ax ay bx by' : Int) (w : World) (ha : Df ax ay) (hb : Df bx by') :
    Calls Tryz.prog 163 #[.agg #[.int .i64 ax, .int .i64 ay], .agg #[.int .i64 bx, .int .i64 by']] w fun e w' => e = .returned (.int .i64 (ax * bx + ay * by')) ∧ Below w.heap.size w w' := by
  obtain ⟨⟨a1, a2⟩, a3, a4⟩ := ha
  obtain ⟨⟨b1, b2⟩, b3, b4⟩ := hb
  obtain ⟨p1, p2⟩ := mul_bd (a := ax) (b := bx) (B := 5120) (C := 5120) (by omega) (by omega) (by omega) (by omega) (by omega)
  obtain ⟨q1, q2⟩ := mul_bd (a := ay) (b := by') (B := 5120) (C := 5120) (by omega) (by omega) (by omega) (by omega) (by omega)
  go_enter Tryz.func163, Tryz.ntmps163
  go_wp2
  go_ret
  exact ⟨rfl, by (repeat (first | exact Below.refl _ _ | assumption | refine Below.drew ?_ | refine bl_alloc ?_ _ | refine bl_then ?_ (by assumption) | refine Below.setCell ?_ (by first | omega | (simp; done) | (simp; omega)) _ | refine bl_store ?_ ?_ _ _))⟩

theorem squareOf_any (ax ay : Int) (w : World) (ha : Df ax ay) :
    Calls Tryz.prog 161 #[.agg #[.int .i64 ax, .int .i64 ay]] w fun e w' => e = .returned (.int .i64 (ax * ax + ay * ay)) ∧ Below w.heap.size w w' := by
  have HA : Hid (Df ax ay) := ha
  clear ha
  go_enter Tryz.func161, Tryz.ntmps161
  go_wp2_with (go_at_call 163; refine (dotOf_any _ _ _ _ _ HA.out HA.out).mono ?_; rintro e w' ⟨rfl, hb1⟩)
  go_ret
  exact ⟨rfl, by (repeat (first | exact Below.refl _ _ | assumption | refine Below.drew ?_ | refine bl_alloc ?_ _ | refine bl_then ?_ (by assumption) | refine Below.setCell ?_ (by first | omega | (simp; done) | (simp; omega)) _ | refine bl_store ?_ ?_ _ _))⟩

theorem eqPoint_any (ax ay : Int) (w : World) :
    Calls Tryz.prog 122 #[.agg #[.int .i64 ax, .int .i64 ay], .agg #[.int .i64 ax, .int .i64 ay]] w fun e w' => e = .returned (.bool true) ∧ Below w.heap.size w w' := by
  go_enter Tryz.func122, Tryz.ntmps122
  go_wp2
  go_ret
  exact ⟨rfl, by (repeat (first | exact Below.refl _ _ | assumption | refine Below.drew ?_ | refine bl_alloc ?_ _ | refine bl_then ?_ (by assumption) | refine Below.setCell ?_ (by first | omega | (simp; done) | (simp; omega)) _ | refine bl_store ?_ ?_ _ _))⟩

end Go.Proofs.YtdohlnnbibnnbaaGreat
/- A region that stores into one block of its own while it calls: what is kept. -/

namespace Go.Proofs.YtdohlnnbibnnbaaGreat
open Go.RowKit

/-- Block r has n cells that may be written. -/
def There (W : World) (r n : Nat) : Prop := ∀ o, o < n → (∃ v, W.cell? ⟨r, o, none⟩ = some v) ∧ W.frozen? ⟨r, o, none⟩ = false
/-- What a cell holds. -/
def cellOr (W : World) (r o : Nat) : Value := (W.cell? ⟨r, o, none⟩).getD undef
theorem There.cell {W : World} {r n : Nat} (h : There W r n) (o : Nat) (ho : o < n) : W.cell? ⟨r, o, none⟩ = some (cellOr W r o) := by
  obtain ⟨v, hv⟩ := (h o ho).1
  simp [cellOr, hv]
theorem There.below {W W' : World} {r n : Nat} (h : There W r n) (hb : Below W.heap.size W W') : There W' r n := fun o ho => by
  obtain ⟨v, hv⟩ := (h o ho).1
  have hlt : r < W.heap.size := World.block_lt_of_cell? W ⟨r, o, none⟩ hv
  exact ⟨⟨v, (hb.cell (p := ⟨r, o, none⟩) hlt).trans hv⟩, (hb.frozen (p := ⟨r, o, none⟩) hlt).trans (h o ho).2⟩
/-- Below B all is as in W, and block r may be written. -/
structure Reg (B : Nat) (W : World) (r n : Nat) (W' : World) : Prop where
  le : B ≤ W.heap.size
  bel : Below B W W'
  there : There W' r n
theorem Reg.call {B r n : Nat} {W W1 w' : World} (h : Reg B W r n W1) (hb : Below W1.heap.size W1 w') : Reg B W r n w' :=
  ⟨h.le, h.bel.trans (hb.mono (Nat.le_trans h.le h.bel.size)), h.there.below hb⟩
theorem Reg.drew {B r n : Nat} {W W1 : World} (h : Reg B W r n W1) : Reg B W r n W1.drew := ⟨h.le, h.bel.drew, h.there⟩
theorem Reg.start {B r n : Nat} {W : World} (hB : B ≤ W.heap.size) (ht : There W r n) : Reg B W r n W := ⟨hB, Below.refl _ _, ht⟩
theorem Reg.store {B r n : Nat} {W W1 : World} (h : Reg B W r n W1) (hr : B ≤ r) (o : Nat) (v : Value) : Reg B W r n (W1.setCell ⟨r, o, none⟩ v) :=
  ⟨h.le, h.bel.setCell hr v, fun o' ho => by
    obtain ⟨u, hu⟩ := (h.there o' ho).1
    refine ⟨?_, ?_⟩
    · by_cases e : o = o'
      · subst e
        exact ⟨v, World.cell?_setCell_same _ _ _ (by rw [hu])⟩
      · exact ⟨u, by rw [World.cell?_setCell_other]; exact hu; intro hc; exact e (by simpa using hc.symm)⟩
    · rw [World.frozen?_setCell]; exact (h.there o' ho).2⟩
/-- Two stores into one block, read back. -/
theorem set2_0 {W : World} {b : Nat} {v0 v1 : Value} (h0 : (W.cell? ⟨b, 0, none⟩).isSome = true) : ((W.setCell ⟨b, 0, none⟩ v0).setCell ⟨b, 1, none⟩ v1).cell? ⟨b, 0, none⟩ = some v0 := by
  obtain ⟨u, hu⟩ := Option.isSome_iff_exists.1 h0
  rw [World.cell?_setCell_other]
  · exact World.cell?_setCell_same _ _ _ (by rw [hu])
  · simp
theorem set2_1 {W : World} {b : Nat} {v0 v1 : Value} (h1 : (W.cell? ⟨b, 1, none⟩).isSome = true) : ((W.setCell ⟨b, 0, none⟩ v0).setCell ⟨b, 1, none⟩ v1).cell? ⟨b, 1, none⟩ = some v1 := by
  obtain ⟨u, hu⟩ := Option.isSome_iff_exists.1 h1
  refine World.cell?_setCell_same (u := u) _ _ _ ?_
  rw [World.cell?_setCell_other]
  · exact hu
  · simp
end Go.Proofs.YtdohlnnbibnnbaaGreat
