/- Several texts in one. -/
import Derived.Test.YtgpdpodagoligaaGreatVAnchors21
import Derived.Test.YtgpdpodagoligaaGreatVAnchors9
import Derived.Test.YtgpdpodagoligaaGreatVAnchors1
import Derived.Test.YtgpdpodagoligaaGreatVAnchors12
import Derived.Deep.RegionHeld3
import Derived.Test.YtgpdpodagoligaaGreatVAnchors15
import Derived.Test.YtgpdpodagoligaaGreatVAnchors14
import Derived.Test.YtgpdpodagoligaaGreatVAnchors30
import Derived.Test.YtgpdpodagoligaaGreatVAnchors23
import Derived.Test.YtgpdpodagoligaaGreatVAnchors8
import Derived.Test.YtgpdpodagoligaaGreatVAnchors29
import Derived.Deep.DeepCutAuto
import Derived.Test.YtgpdpodagoligaaGreatVAnchors18
import Derived.Test.YtgpdpodagoligaaGreatVAnchors5

/- Points, doubled: the program and the model. -/

namespace Go.Proofs.YtgpdpodagoligaaGreat
open Go.RowKit
set_option linter.unusedSimpArgs false
set_option linter.unusedVariables false
set_option maxRecDepth 100000

/-- Points, doubled. -/
def dblL (X Y : Nat → Int) (n : Nat) : List (Int × Int) := (List.range n).map fun i => (2 * X i, 2 * Y i)
theorem dblL_len (X Y : Nat → Int) (n : Nat) : (dblL X Y n).length = n := by simp [dblL]
theorem dblL_add (X Y : Nat → Int) (k : Nat) : dblL X Y (k + 1) = dblL X Y k ++ [(2 * X k, 2 * Y k)] := by simp [dblL, List.range_succ]
theorem dblL_px (X Y : Nat → Int) (n i : Nat) (h : i < n) : px (dblL X Y n) i = 2 * X i ∧ py (dblL X Y n) i = 2 * Y i := by
  simp [px, py, dblL, List.getD_eq_getElem?_getD, h]

set_option maxHeartbeats 4000000 in
theorem doubled_any (b off n cap : Nat) (X Y : Nat → Int) (w : World) (hp : PtsAt w b off n X Y) (hbl : b < w.heap.size) (hn : n ≤ 40) (hin : ∀ i, i < n → inW (X i) (Y i) = true) :
    Calls Tryz.prog 106 #[.slice (some ⟨b, off, none⟩) n cap] w fun e w' => ∃ v, e = .returned v ∧ Row w.heap.size w' v (dblL X Y n) ∧ Below w.heap.size w w' := by
  obtain ⟨i0, hi, hz0, hz1, hz2⟩ := info_parts info_pt
  have HP : Hid (PtsAt w b off n X Y) := hp
  have HIN : Hid (∀ i, i < n → inW (X i) (Y i) = true) := hin
  clear hp hin
  go_enter Tryz.func106, Tryz.ntmps106
  go_wp2_with fail
  go_loopw [3, 8] (fun v i wr => ∃ k : Nat, k ≤ n ∧ i = .int .i64 (k : Int) ∧ Row w.heap.size wr v (dblL X Y k) ∧ Below w.heap.size w wr) (fun _ i _ => n - (intOf i).toNat)
  case atStart => exact ⟨0, by omega, rfl, Row.no _ _, Below.refl _ _⟩
  case round =>
    obtain ⟨k, hk, rfl, hO, hB⟩ := hrel
    by_cases hlt : k < n
    · obtain ⟨hx, hy⟩ := (HP.out.below hB hbl) k hlt
      obtain ⟨⟨x0, x1⟩, y0, y1⟩ := inW_bd (HIN.out k hlt)
      have HB : Hid (Below w.heap.size w wr) := hB
      have HO : Hid (Row w.heap.size wr u3 (dblL X Y k)) := hO
      have hbw : b < wr.heap.size := Nat.lt_of_lt_of_le hbl hB.size
      have hszc : w.heap.size ≤ wr.heap.size := hB.size
      have HLEN : Hid ((dblL X Y k).length = k) := dblL_len X Y k
      have HS : Hid (dblL X Y (k + 1) = dblL X Y k ++ [(2 * X k, 2 * Y k)]) := dblL_add X Y k
      clear hO hB
      have hi' : (k : Int) < (n : Int) := by omega
      go_wp2_with (first
        | (at_builtin; go_must (refine wpList_append_own _ rfl _ _ 24 rfl w.heap.size 30 i0 (.agg #[.int .i64 0, .int .i64 0]) 2 16 Tryz.underlying24 hi hz0 hz1 hz2 rfl (by decide) _ (dblL X Y k).length (cellsL (dblL X Y k)) rfl (World.ownsRow.alloc (World.ownsRow.alloc HO.out _) _) ⟨wr.heap.size + 1, 0, none⟩ 1 1 [.int .i64 (2 * X k), .int .i64 (2 * Y k)] rfl rfl ?c1 ?c2 ?c3 ?c4 ?c5 ?_)))
      try (case c1 =>
        intro q u hq
        match q, hq with
        | 0, hq => simp at hq; subst hq; simp [Addr.add, go_sem]
        | 1, hq => simp at hq; subst hq; simp [Addr.add, go_sem]
        | q + 2, hq => simp at hq)
      case c2 => first | (intro u hu; simp at hu; rcases hu with rfl | rfl <;> rfl) | exact ⟨rfl, rfl⟩
      case c3 => have := HLEN.out; unfold maxLen; omega
      case c4 => have := HLEN.out; omega
      case c5 => first | omega | (simp; omega)
      intro v' w3 hown' hgrow hnil
      clear hnil
      generalize hV : ((wr.alloc _).alloc _ : World) = V at hgrow
      have hBV : Below wr.heap.size wr V := by subst hV; (repeat (first | exact Below.refl _ _ | assumption | refine Below.drew ?_ | refine bl_alloc ?_ _ | refine bl_then ?_ (by assumption) | refine Below.setCell ?_ (by first | omega | (simp; done) | (simp; omega)) _ | refine bl_store ?_ ?_ _ _))
      have hBg : Below w.heap.size V w3 := (Below.refl _ _).grown hgrow (by have := hBV.size; omega) (fun k hk => (HO.out.lt k hk).1)
      have HB3 : Hid (Below w.heap.size w w3) := (HB.out.trans (hBV.mono hszc)).trans hBg
      have HO3 : Hid (Row w.heap.size w3 v' (dblL X Y (k + 1))) := by
        show Row _ _ _ _
        rw [HS.out]
        show World.ownsRow _ _ _ _ _ _ _
        rw [cellsL_add, List.length_append]
        exact hown'
      clear hown' hgrow hBg hBV hV
      go_wp2
      go_roundw
      case rel => exact ⟨k + 1, by omega, by go_num, HO3.out, HB3.out⟩
      case measure => simp [intOf]; omega
    · go_wp2
      go_ret
      have hkn : k = n := by omega
      subst hkn
      exact ⟨_, rfl, hO, hB⟩
end Go.Proofs.YtgpdpodagoligaaGreat
/- Which sides of a ring are crossed: plain facts. -/

namespace Go.Proofs.YtgpdpodagoligaaGreat
open Go.RowKit

/-- Whether the side from a to b is crossed by the way from p to greater X. -/
def sideB (px py ax ay bx by' : Int) : Bool :=
  if decide (py < ay) == decide (py < by') then false
  else if ay < by' then decide (0 < crossI ax ay bx by' px py) else decide (crossI ax ay bx by' px py < 0)

theorem cross_swap (ax ay bx by' px py : Int) : crossI bx by' ax ay px py = - crossI ax ay bx by' px py := by
  simp only [crossI, Int.mul_sub, Int.sub_mul]
  have e1 := Int.mul_comm ax ay
  have e2 := Int.mul_comm bx by'
  have e3 := Int.mul_comm ax by'
  have e4 := Int.mul_comm bx ay
  have e5 := Int.mul_comm ay px
  have e6 := Int.mul_comm by' px
  omega

/-- The number of places below k at which f holds is odd. -/
def oddTo (f : Nat → Bool) : Nat → Bool
  | 0 => false
  | k + 1 => if f k = true then !(oddTo f k) else oddTo f k

theorem oddTo_turn (f g : Nat → Bool) (n : Nat) (h0 : g 0 = f (n - 1)) (hs : ∀ i, i + 1 < n → g (i + 1) = f i) (hn : 0 < n) : oddTo g n = oddTo f n := by
  have key : ∀ k, k + 1 ≤ n → oddTo g (k + 1) = if f (n - 1) = true then !(oddTo f k) else oddTo f k := by
    intro k
    induction k with
    | zero => intro _; simp [oddTo, h0]
    | succ k ih =>
      intro hk
      rw [oddTo, ih (by omega), hs k (by omega), oddTo]
      cases f k <;> cases f (n - 1) <;> simp
  obtain ⟨m, rfl⟩ : ∃ m, n = m + 1 := ⟨n - 1, by omega⟩
  rw [key m (by omega)]
  simp [oddTo]

/-- The side from low to high, low not above high. -/
theorem side_up {px py ax ay bx by' : Int} (h : ay ≤ by') : sideB px py ax ay bx by' = (decide (ay ≤ py) && decide (py < by') && decide (0 < crossI ax ay bx by' px py)) := by
  unfold sideB
  by_cases h1 : py < ay
  · have h2 : py < by' := by omega
    have h3 : ¬ ay ≤ py := by omega
    simp [h1, h2, h3]
  · have h3 : ay ≤ py := by omega
    by_cases h2 : py < by'
    · have h4 : ay < by' := by omega
      simp [h1, h2, h3, h4]
    · simp [h1, h2, h3]
theorem side_down {px py ax ay bx by' : Int} (h : by' < ay) : sideB px py ax ay bx by' = (decide (by' ≤ py) && decide (py < ay) && decide (0 < crossI bx by' ax ay px py)) := by
  unfold sideB
  rw [cross_swap ax ay bx by']
  have h4 : ¬ ay < by' := by omega
  by_cases h1 : py < ay
  · by_cases h2 : py < by'
    · have h3 : ¬ by' ≤ py := by omega
      simp [h1, h2, h3]
    · have h3 : by' ≤ py := by omega
      simp [h1, h2, h3, h4]
  · have h2 : ¬ py < by' := by omega
    simp [h1, h2]
end Go.Proofs.YtgpdpodagoligaaGreat
/- l1Side of the model and isCrossed of the program: whether a side is crossed. -/

namespace Go.Proofs.YtgpdpodagoligaaGreat
open Go.RowKit
set_option linter.unusedSimpArgs false
set_option linter.unusedVariables false
end Go.Proofs.YtgpdpodagoligaaGreat
/- l1Inside of the model: whether an odd number of sides is crossed. -/

namespace Go.Proofs.YtgpdpodagoligaaGreat
open Go.RowKit
set_option linter.unusedSimpArgs false
set_option linter.unusedVariables false

/-- Whether the side from place i to the next one is crossed. -/
def sideAt (px py : Int) (n : Nat) (X Y : Nat → Int) (i : Nat) : Bool := sideB px py (X i) (Y i) (X ((i + 1) % n)) (Y ((i + 1) % n))

end Go.Proofs.YtgpdpodagoligaaGreat
/- IsInside of the model: what it answers at every list. -/

namespace Go.Proofs.YtgpdpodagoligaaGreat
open Go.RowKit
set_option linter.unusedSimpArgs false
set_option linter.unusedVariables false

/-- Whether p is inside the ring. -/
def insideB (px py : Int) (n : Nat) (X Y : Nat → Int) : Bool := okP px py && (decide (3 ≤ n) && (decide (n ≤ 40) && (allOk n X Y && oddTo (sideAt px py n X Y) n)))
theorem insideB_bad {px py : Int} {n : Nat} {X Y : Nat → Int} (k : Nat) (hk : k < n) (h : okP (X k) (Y k) = false) : insideB px py n X Y = false := by
  have : allOk n X Y = false := by
    cases ha : allOk n X Y
    · rfl
    · have := of_decide_eq_true ha k hk
      rw [h] at this
      cases this
  simp [insideB, this]

end Go.Proofs.YtgpdpodagoligaaGreat
/- isCrossed of the program: whether a side is crossed. -/

namespace Go.Proofs.YtgpdpodagoligaaGreat
open Go.RowKit
set_option linter.unusedSimpArgs false
set_option linter.unusedVariables false
end Go.Proofs.YtgpdpodagoligaaGreat
/- isCrossed of the program: whether a side is crossed. -/

namespace Go.Proofs.YtgpdpodagoligaaGreat
open Go.RowKit
set_option linter.unusedSimpArgs false
set_option linter.unusedVariables false
end Go.Proofs.YtgpdpodagoligaaGreat
/- IsInside of the program: what it answers at every list. -/

namespace Go.Proofs.YtgpdpodagoligaaGreat
open Go.RowKit
set_option linter.unusedSimpArgs false
set_option linter.unusedVariables false

/-- The place ahead, around the ring. -/
def prevI (n k : Nat) : Nat := if k = 0 then n - 1 else k - 1
/-- Whether the side that ends at place i is crossed. -/
def sideTo (px py : Int) (n : Nat) (X Y : Nat → Int) (i : Nat) : Bool := sideB px py (X (prevI n i)) (Y (prevI n i)) (X i) (Y i)
theorem odd_same (px py : Int) (n : Nat) (X Y : Nat → Int) (hn : 0 < n) : oddTo (sideTo px py n X Y) n = oddTo (sideAt px py n X Y) n := by
  refine oddTo_turn _ _ n ?_ (fun i hi => ?_) hn
  · have e : n - 1 + 1 = n := by omega
    simp [sideTo, sideAt, prevI, e, Nat.mod_self]
  · simp [sideTo, sideAt, prevI, Nat.mod_eq_of_lt hi]

end Go.Proofs.YtgpdpodagoligaaGreat
/- Whether points cover a centre. -/

namespace Go.Proofs.YtgpdpodagoligaaGreat
open Go.RowKit
set_option linter.unusedSimpArgs false
set_option linter.unusedVariables false
set_option maxRecDepth 100000

/-- Whether it is near one of the ways, the first one from the first point to itself. -/
def byB (cx cy r : Int) (X Y : Nat → Int) : Nat → Bool
  | 0 => false
  | k + 1 => byB cx cy r X Y k || isNearB cx cy (X (k - 1)) (Y (k - 1)) (X k) (Y k) r
/-- Whether it is near one of the first segments. -/
def segB (cx cy r : Int) (X Y : Nat → Int) : Nat → Bool
  | 0 => false
  | k + 1 => segB cx cy r X Y k || isNearB cx cy (X k) (Y k) (X (k + 1)) (Y (k + 1)) r
theorem byB_seg (cx cy r : Int) (X Y : Nat → Int) : ∀ k, byB cx cy r X Y (k + 1) = (isNearB cx cy (X 0) (Y 0) (X 0) (Y 0) r || segB cx cy r X Y k)
  | 0 => by simp [byB, segB]
  | k + 1 => by
    rw [byB, byB_seg cx cy r X Y k, segB, Bool.or_assoc]
    rfl
theorem near_self {px py ax ay bx by' r : Int} (h : isNearB px py ax ay ax ay r = true) (hb : okP bx by' = true) : isNearB px py ax ay bx by' r = true := by
  simp only [isNearB, Bool.and_eq_true] at h ⊢
  obtain ⟨h1, h2, h3, h4, h5⟩ := h
  refine ⟨h1, h2, hb, h4, near_dist ?_⟩
  have := of_decide_eq_true h5
  have ha : alongI px py ax ay ax ay = 0 := by simp [alongI]
  simp only [overI, underI, ha, Int.le_refl, if_true] at this
  omega
theorem segB_first (cx cy r : Int) (X Y : Nat → Int) (h : isNearB cx cy (X 0) (Y 0) (X 1) (Y 1) r = true) : ∀ k, segB cx cy r X Y (k + 1) = true
  | 0 => by simp [segB, h]
  | k + 1 => by rw [segB, segB_first cx cy r X Y h k]; rfl
theorem byB_line (cx cy r : Int) (X Y : Nat → Int) (n : Nat) (hn : 2 ≤ n) (h1 : okP (X 1) (Y 1) = true) : byB cx cy r X Y n = segB cx cy r X Y (n - 1) := by
  obtain ⟨k, rfl⟩ : ∃ k, n = k + 2 := ⟨n - 2, by omega⟩
  rw [byB_seg]
  show _ = segB cx cy r X Y (k + 1)
  cases h : isNearB cx cy (X 0) (Y 0) (X 0) (Y 0) r
  · rfl
  · rw [segB_first cx cy r X Y (near_self h h1) k]; rfl
theorem byB_true {cx cy r : Int} {X Y : Nat → Int} (k : Nat) (h : byB cx cy r X Y k = true) : ∀ n, k ≤ n → byB cx cy r X Y n = true := by
  intro n hn
  induction n with
  | zero => rw [show k = 0 by omega] at h; exact h
  | succ m ih =>
    by_cases e : k = m + 1
    · rw [← e]; exact h
    · rw [byB, ih (by omega)]; rfl

theorem segB_true {cx cy r : Int} {X Y : Nat → Int} (k : Nat) (h : segB cx cy r X Y k = true) : ∀ n, k ≤ n → segB cx cy r X Y n = true := by
  intro n hn
  induction n with
  | zero => rw [show k = 0 by omega] at h; exact h
  | succ m ih =>
    by_cases e : k = m + 1
    · rw [← e]; exact h
    · rw [segB, ih (by omega)]; rfl

end Go.Proofs.YtgpdpodagoligaaGreat
/- How far from its points a feature is still seen. -/

namespace Go.Proofs.YtgpdpodagoligaaGreat
open Go.RowKit
set_option linter.unusedSimpArgs false
set_option linter.unusedVariables false
set_option maxRecDepth 100000

/-- The reach, doubled. -/
def reachI (wi z : Int) : Int := (wi + 1) * unitI z
def reachR (C wi z : Int) : Int := if C = 0 then reachI wi z else 0
theorem reach_bd {wi z : Int} (hw : 0 ≤ wi ∧ wi ≤ 3) (hz : zoomB z = true) : 16 ≤ reachI wi z ∧ reachI wi z ≤ 512 := by
  unfold reachI
  rcases zoomB_cases hz with rfl | rfl | rfl | rfl
  all_goals
    simp only [show unitI 0 = 128 from rfl, show unitI 1 = 64 from rfl, show unitI 2 = 32 from rfl, show unitI 3 = 16 from rfl]
    omega
theorem unit_lit {z : Int} (hz : zoomB z = true) : unitI z = 128 ∨ unitI z = 64 ∨ unitI z = 32 ∨ unitI z = 16 := by rcases zoomB_cases hz with rfl | rfl | rfl | rfl <;> simp [unitI]

set_option maxHeartbeats 1000000 in
theorem reachAt_any (id la ki wi z : Int) (v : Value) (lab : ByteArray) (pr : Int) (w : World) (hw : 0 ≤ wi ∧ wi ≤ 3) (hz : zoomB z = true) (hv : ∃ a n c, v = .slice a n c) :
    Calls Tryz.prog 107 #[.agg #[.int .i64 id, .int .i64 la, .int .i64 ki, .int .i64 wi, v, .string lab, .int .i64 pr], .int .i64 z] w fun e w' => e = .returned (.int .i64 (reachI wi z)) ∧ Below w.heap.size w w' := by
  obtain ⟨a, n, c, rfl⟩ := hv
  have s1 := fun w => impl_UnitAt_any z w
  have hv : unitV z = .agg #[.int .i64 0, .int .i64 (unitI z)] := by simp [unitV, hz]
  simp only [hv] at s1
  have hbd := unit_lit hz
  have hr : Hid (reachI wi z = (wi + 1) * unitI z) := rfl
  generalize unitI z = u at *
  have i1 : ∀ w, (Instr.field 88 (.agg #[.int .i64 0, .int .i64 u]) 1).run Tryz.prog w = .ok (.int .i64 u) w := fun _ => by kernel_rfl
  have hS := (show Hid _ from s1)
  clear s1 hv
  obtain ⟨hw0, hw1⟩ := hw
  go_enter Tryz.func107, Tryz.ntmps107
  go_wp2_with fail
  generalize hW : (w.alloc _ : World) = W
  have hB0 : Below w.heap.size w W := by subst hW; (repeat (first | exact Below.refl _ _ | assumption | refine Below.drew ?_ | refine bl_alloc ?_ _ | refine bl_then ?_ (by assumption) | refine Below.setCell ?_ (by first | omega | (simp; done) | (simp; omega)) _ | refine bl_store ?_ ?_ _ _))
  have c3 : ∀ W', Below W.heap.size W W' → W'.cell? ⟨w.heap.size, 3, none⟩ = some (.int .i64 wi) := fun W' h => by
    rw [h.cell (by subst hW; simp)]; subst hW; simp [go_sem]
  clear hW
  have hr0 : Below W.heap.size W W := Below.refl _ _
  rcases hbd with rfl | rfl | rfl | rfl
  all_goals
    go_region_held3 (fun W' => Below W.heap.size W W') ((repeat (first | exact Below.refl _ _ | assumption | refine Below.drew ?_ | refine bl_alloc ?_ _ | refine bl_then ?_ (by assumption) | refine Below.setCell ?_ (by first | omega | (simp; done) | (simp; omega)) _ | refine bl_store ?_ ?_ _ _)))
      (first | (go_at_call 37; refine (hS.out _).mono ?_; rintro e w' ⟨rfl, hb⟩))
    go_wp2
    go_ret
    exact ⟨ret_int (by rw [IntWalk.i64_in (wi + 1) (by omega), IntWalk.i64_in _ (by omega)]; exact hr.out.symm), bl_then hB0 (by assumption)⟩
end Go.Proofs.YtgpdpodagoligaaGreat
/- A row that is not empty. -/

namespace Go.Proofs.YtgpdpodagoligaaGreat
open Go.RowKit
set_option linter.unusedVariables false
end Go.Proofs.YtgpdpodagoligaaGreat
/- Whether the own points of a feature cover a centre: the program. -/

namespace Go.Proofs.YtgpdpodagoligaaGreat
open Go.RowKit
set_option linter.unusedSimpArgs false
set_option linter.unusedVariables false
set_option maxRecDepth 100000

/-- Whether doubled points cover a centre. -/
def coverB (ki wi z cx cy : Int) (D : List (Int × Int)) : Bool := if ki = 3 then insideB cx cy D.length (px D) (py D) else byB cx cy (reachI wi z) (px D) (py D) D.length
theorem doubled_at (b off n cap : Nat) (X Y : Nat → Int) (w : World) (hp : PtsAt w b off n X Y) (hbl : b < w.heap.size) (hn0 : 0 < n) (hn : n ≤ 40) (hin : ∀ i, i < n → inW (X i) (Y i) = true) :
    Calls Tryz.prog 106 #[.slice (some ⟨b, off, none⟩) n cap] w fun e w' => ∃ g cg, e = .returned (.slice (some ⟨g, 0, none⟩) n cg) ∧ g < w'.heap.size ∧ n ≤ cg ∧ PtsAt w' g 0 n (px (dblL X Y n)) (py (dblL X Y n)) ∧ Below w.heap.size w w' :=
  (doubled_any b off n cap X Y w hp hbl hn hin).mono fun e w' ⟨v, he, hR, hb⟩ => by
    obtain ⟨g, cg, hv, h1, h2, h3, h4⟩ := hR.at (by rw [dblL_len]; exact hn0)
    rw [dblL_len] at hv h3 h4
    exact ⟨g, cg, by rw [he, hv], h2, h3, h4, hb⟩
end Go.Proofs.YtgpdpodagoligaaGreat
/- Whether a feature that is simple already covers a pixel: the model. -/

namespace Go.Proofs.YtgpdpodagoligaaGreat
open Go.RowKit
set_option linter.unusedSimpArgs false
set_option linter.unusedVariables false
set_option maxRecDepth 100000

theorem dbl_ok (X Y : Nat → Int) (n : Nat) (hin : ∀ i, i < n → inW (X i) (Y i) = true) : ∀ i, i < n → okP (px (dblL X Y n) i) (py (dblL X Y n) i) = true := fun i hi => by
  obtain ⟨e1, e2⟩ := dblL_px X Y n i hi
  have := inW_bd (hin i hi)
  rw [e1, e2, okP_iff]
  omega
theorem isNear_ok {px py ax ay bx by' r : Int} (hp : okP px py = true) (ha : okP ax ay = true) (hb : okP bx by' = true) (h0 : 0 ≤ r) (h1 : r ≤ 4096) : isNearB px py ax ay bx by' r = nearB px py ax ay bx by' r := by
  simp [isNearB, hp, ha, hb, inB, h0, h1]

end Go.Proofs.YtgpdpodagoligaaGreat
/- ReachOf and ReachBox: the program and the model. -/

namespace Go.Proofs.YtgpdpodagoligaaGreat
open Go.RowKit
set_option linter.unusedSimpArgs false
set_option linter.unusedVariables false
set_option maxRecDepth 100000

end Go.Proofs.YtgpdpodagoligaaGreat
/- SimpleAt with and without a fault. -/

namespace Go.Proofs.YtgpdpodagoligaaGreat
open Go.RowKit
set_option linter.unusedVariables false
theorem simple_ok {off : Nat} (id la ki wi z : Int) (b n cap : Nat) (X Y : Nat → Int) (lab : ByteArray) (pr : Int) (L : List Nat) (w : World) (hp : PtsAt w b off n X Y) (hbl : b < w.heap.size) (hn : n ≤ 1048576) (hcap : n ≤ cap) (hl : lab.size ≤ 1048576)
    (hL : 3 ≤ (snapL X Y z n).length → Thin (px (snapL X Y z n)) (py (snapL X Y z n)) (gridI z) 0 ((snapL X Y z n).length - 1) L) (hC : 0 = simpC z (featC id la ki wi n X Y lab pr)) (hR0 : 0 < (simpR 0 ki z n X Y L).length) :
    Calls Tryz.prog 12 #[.agg #[.int .i64 id, .int .i64 la, .int .i64 ki, .int .i64 wi, .slice (some ⟨b, off, none⟩) n cap, .string lab, .int .i64 pr], .int .i64 z] w fun e w' => ∃ g cg, e = .returned (.agg #[.int .i64 0, .int .i64 id, .int .i64 la, .int .i64 ki, .int .i64 wi, .slice (some ⟨g, 0, none⟩) (simpR 0 ki z n X Y L).length cg, .string lab, .int .i64 pr]) ∧ g < w'.heap.size ∧ (simpR 0 ki z n X Y L).length ≤ cg ∧ PtsAt w' g 0 (simpR 0 ki z n X Y L).length (px (simpR 0 ki z n X Y L)) (py (simpR 0 ki z n X Y L)) ∧ Below w.heap.size w w' :=
  (impl_SimpleAt_any id la ki wi z b n cap X Y lab pr L w hp hbl hn hcap hl hL 0 hC).mono fun e w' ⟨v, he, hR, hb⟩ => by
    obtain ⟨g, cg, hv, h1, h2, h3, h4⟩ := hR.at hR0
    refine ⟨g, cg, ?_, h2, h3, h4, hb⟩
    rw [he, hv]
    simp [zI, zS]
theorem simple_no {off : Nat} (id la ki wi z : Int) (b n cap : Nat) (X Y : Nat → Int) (lab : ByteArray) (pr : Int) (L : List Nat) (w : World) (hp : PtsAt w b off n X Y) (hbl : b < w.heap.size) (hn : n ≤ 1048576) (hcap : n ≤ cap) (hl : lab.size ≤ 1048576)
    (hL : 3 ≤ (snapL X Y z n).length → Thin (px (snapL X Y z n)) (py (snapL X Y z n)) (gridI z) 0 ((snapL X Y z n).length - 1) L) (C : Int) (hC : C = simpC z (featC id la ki wi n X Y lab pr)) (hC0 : C ≠ 0) :
    Calls Tryz.prog 12 #[.agg #[.int .i64 id, .int .i64 la, .int .i64 ki, .int .i64 wi, .slice (some ⟨b, off, none⟩) n cap, .string lab, .int .i64 pr], .int .i64 z] w fun e w' => ∃ a c, e = .returned (.agg #[.int .i64 C, .int .i64 0, .int .i64 0, .int .i64 0, .int .i64 0, .slice a 0 c, .string ⟨#[]⟩, .int .i64 0]) ∧ Below w.heap.size w w' :=
  (impl_SimpleAt_any id la ki wi z b n cap X Y lab pr L w hp hbl hn hcap hl hL C hC).mono fun e w' ⟨v, he, hR, hb⟩ => by
    rw [simpR, if_neg hC0] at hR
    obtain ⟨a, c, hv, _⟩ := hR.own
    refine ⟨a, c, ?_, hb⟩
    rw [he, hv]
    simp [zI, zS, hC0]
end Go.Proofs.YtgpdpodagoligaaGreat
/- l1Box of the model: the least box of a list. -/

namespace Go.Proofs.YtgpdpodagoligaaGreat
open Go.RowKit
set_option linter.unusedSimpArgs false
set_option linter.unusedVariables false

/-- The lesser, the greater number. -/
def mnI (a b : Int) : Int := if a < b then a else b
def mxI (a b : Int) : Int := if b < a then a else b
theorem l1Min_any (a b : Int) (w : World) : Calls Tryz.prog 47 #[.int .i64 a, .int .i64 b] w fun e w' => e = .returned (.int .i64 (mnI a b)) ∧ w' = w := by
  unfold mnI
  by_cases h : a < b
  · rw [if_pos h]
    go_enter Tryz.func47, Tryz.ntmps47
    go_wp2
    go_ret
    exact ⟨rfl, rfl⟩
  · rw [if_neg h]
    go_enter Tryz.func47, Tryz.ntmps47
    go_wp2
    go_ret
    exact ⟨rfl, rfl⟩
/-- The least, the greatest of the first k. -/
def mnTo (X : Nat → Int) : Nat → Int
  | 0 => X 0
  | k + 1 => mnI (mnTo X k) (X k)
def mxTo (X : Nat → Int) : Nat → Int
  | 0 => X 0
  | k + 1 => mxI (mxTo X k) (X k)
theorem mnTo_one (X : Nat → Int) : mnTo X 1 = X 0 := by simp [mnTo, mnI]
theorem mxTo_one (X : Nat → Int) : mxTo X 1 = X 0 := by simp [mxTo, mxI]

end Go.Proofs.YtgpdpodagoligaaGreat
/- BoxOf of the model: what it answers at every list. -/

namespace Go.Proofs.YtgpdpodagoligaaGreat
open Go.RowKit
set_option linter.unusedSimpArgs false
set_option linter.unusedVariables false

/-- Five stores into one block, read back. -/
theorem set5_at {W : World} {r : Nat} {a b c d e : Value} (hT : There W r 5) :
    (((((W.setCell ⟨r, 0, none⟩ a).setCell ⟨r, 1, none⟩ b).setCell ⟨r, 2, none⟩ c).setCell ⟨r, 3, none⟩ d).setCell ⟨r, 4, none⟩ e).cell? ⟨r, 0, none⟩ = some a ∧
    (((((W.setCell ⟨r, 0, none⟩ a).setCell ⟨r, 1, none⟩ b).setCell ⟨r, 2, none⟩ c).setCell ⟨r, 3, none⟩ d).setCell ⟨r, 4, none⟩ e).cell? ⟨r, 1, none⟩ = some b ∧
    (((((W.setCell ⟨r, 0, none⟩ a).setCell ⟨r, 1, none⟩ b).setCell ⟨r, 2, none⟩ c).setCell ⟨r, 3, none⟩ d).setCell ⟨r, 4, none⟩ e).cell? ⟨r, 2, none⟩ = some c ∧
    (((((W.setCell ⟨r, 0, none⟩ a).setCell ⟨r, 1, none⟩ b).setCell ⟨r, 2, none⟩ c).setCell ⟨r, 3, none⟩ d).setCell ⟨r, 4, none⟩ e).cell? ⟨r, 3, none⟩ = some d ∧
    (((((W.setCell ⟨r, 0, none⟩ a).setCell ⟨r, 1, none⟩ b).setCell ⟨r, 2, none⟩ c).setCell ⟨r, 3, none⟩ d).setCell ⟨r, 4, none⟩ e).cell? ⟨r, 4, none⟩ = some e := by
  have ne : ∀ i j : Nat, i ≠ j → (⟨r, i, none⟩ : Addr) ≠ ⟨r, j, none⟩ := fun i j hij h => hij (by injection h)
  have hT4 : There W r 4 := fun o ho => hT o (by omega)
  obtain ⟨x4, h4⟩ := (hT 4 (by omega)).1
  obtain ⟨q0, q1, q2, q3⟩ := set4_at (a := a) (b := b) (c := c) (d := d) hT4
  refine ⟨?_, ?_, ?_, ?_, ?_⟩
  · rw [set1_other (ne 4 0 (by omega))]; exact q0
  · rw [set1_other (ne 4 1 (by omega))]; exact q1
  · rw [set1_other (ne 4 2 (by omega))]; exact q2
  · rw [set1_other (ne 4 3 (by omega))]; exact q3
  · exact set1_same (by rw [set1_other (ne 3 4 (by omega)), set1_other (ne 2 4 (by omega)), set1_other (ne 1 4 (by omega)), set1_other (ne 0 4 (by omega))]; exact h4)

/-- What BoxOf answers of a list that is neither empty nor too long. -/
def boxV (n : Nat) (X Y : Nat → Int) : Value := if allOk n X Y = true then .agg #[.int .i64 0, .int .i64 (mnTo X n), .int .i64 (mnTo Y n), .int .i64 (mxTo X n), .int .i64 (mxTo Y n)] else .agg #[.int .i64 3, .int .i64 0, .int .i64 0, .int .i64 0, .int .i64 0]
theorem boxV_bad {n : Nat} {X Y : Nat → Int} (k : Nat) (hk : k < n) (h : okP (X k) (Y k) = false) : boxV n X Y = .agg #[.int .i64 3, .int .i64 0, .int .i64 0, .int .i64 0, .int .i64 0] := by
  have : ¬ allOk n X Y = true := fun ha => by
    have := of_decide_eq_true ha k hk
    rw [h] at this
    cases this
  simp [boxV, this]

end Go.Proofs.YtgpdpodagoligaaGreat
