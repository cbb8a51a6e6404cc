/- Several texts in one. -/
import Derived.Test.YtciidkmonfmipaaGreatVTakeTile13
import Derived.Test.YtciidkmonfmipaaGreatVTakeTile14
import Derived.Test.YtciidkmonfmipaaGreatVTakeTile9
import Derived.Test.YtciidkmonfmipaaGreatVTakeTile12

/- IsInside of the program: what it answers at every list. -/

namespace Go.Proofs.YtciidkmonfmipaaGreat
open Go.RowKit
set_option linter.unusedSimpArgs false
set_option linter.unusedVariables false

/-- The place ahead, around the ring. -/
def prevI (n k : Nat) : Nat := if k = 0 then n - 1 else k - 1
/-- Whether the side that ends at place i is crossed. -/
def sideTo (px py : Int) (n : Nat) (X Y : Nat → Int) (i : Nat) : Bool := sideB px py (X (prevI n i)) (Y (prevI n i)) (X i) (Y i)
theorem odd_same (px py : Int) (n : Nat) (X Y : Nat → Int) (hn : 0 < n) : oddTo (sideTo px py n X Y) n = oddTo (sideAt px py n X Y) n := by
  refine oddTo_turn _ _ n ?_ (fun i hi => ?_) hn
  · have e : n - 1 + 1 = n := by omega
    simp [sideTo, sideAt, prevI, e, Nat.mod_self]
  · simp [sideTo, sideAt, prevI, Nat.mod_eq_of_lt hi]

set_option maxHeartbeats 2000000 in
theorem impl_IsInside_few (px py : Int) (a : Option Addr) (n cap : Nat) (X Y : Nat → Int) (w : World) (hn : n < 3) :
    Calls Tryz.prog 142 #[.agg #[.int .i64 px, .int .i64 py], .slice a n cap] w fun e w' => e = .returned (.bool (insideB px py n X Y)) ∧ Below w.heap.size w w' := by
  have HE : Hid (insideB px py n X Y = false) := by
    show _ = _
    have : ¬ 3 ≤ n := by omega
    simp [insideB, this]
  have hni : (n : Int) < 3 := by omega
  go_enter Tryz.func142, Tryz.ntmps142
  go_wp2
  go_ret
  exact ⟨ret_bool HE.out.symm, by (repeat (first | exact Below.refl _ _ | assumption | refine Below.drew ?_ | refine bl_alloc ?_ _ | refine bl_then ?_ (by assumption) | refine Below.setCell ?_ (by first | omega | (simp; done) | (simp; omega)) _ | refine bl_store ?_ ?_ _ _))⟩

set_option maxHeartbeats 2000000 in
theorem impl_IsInside_many (px py : Int) (a : Option Addr) (n cap : Nat) (X Y : Nat → Int) (w : World) (hn : 40 < n) (hmax : n ≤ 1048576) :
    Calls Tryz.prog 142 #[.agg #[.int .i64 px, .int .i64 py], .slice a n cap] w fun e w' => e = .returned (.bool (insideB px py n X Y)) ∧ Below w.heap.size w w' := by
  have HE : Hid (insideB px py n X Y = false) := by
    show _ = _
    have : ¬ n ≤ 40 := by omega
    simp [insideB, this]
  have hni : (40 : Int) < (n : Int) := by omega
  have hn3 : decide ((n : Int) < 3) = false := by simp; omega
  go_enter Tryz.func142, Tryz.ntmps142
  go_wp2
  go_ret
  exact ⟨ret_bool HE.out.symm, by (repeat (first | exact Below.refl _ _ | assumption | refine Below.drew ?_ | refine bl_alloc ?_ _ | refine bl_then ?_ (by assumption) | refine Below.setCell ?_ (by first | omega | (simp; done) | (simp; omega)) _ | refine bl_store ?_ ?_ _ _))⟩

set_option maxHeartbeats 2000000 in
theorem impl_IsInside_p (px py : Int) (b n cap : Nat) (X Y : Nat → Int) (w : World) (hp : okP px py = false) (h3 : 3 ≤ n) (h40 : n ≤ 40) :
    Calls Tryz.prog 142 #[.agg #[.int .i64 px, .int .i64 py], .slice (some ⟨b, 0, none⟩) n cap] w fun e w' => e = .returned (.bool (insideB px py n X Y)) ∧ Below w.heap.size w w' := by
  have HE : Hid (insideB px py n X Y = false) := by show _ = _; simp [insideB, hp]
  have k1 := codeP_no hp
  have hn3 : decide ((n : Int) < 3) = false := by simp; omega
  have hn40 : decide ((40 : Int) < (n : Int)) = false := by simp; omega
  clear hp
  go_enter Tryz.func142, Tryz.ntmps142
  go_wp2_with (go_at_call 153; refine (PointFault_any _ _ _).mono ?_; rintro e w' ⟨rfl, hb⟩)
  go_ret
  exact ⟨ret_bool HE.out.symm, by (repeat (first | exact Below.refl _ _ | assumption | refine Below.drew ?_ | refine bl_alloc ?_ _ | refine bl_then ?_ (by assumption) | refine Below.setCell ?_ (by first | omega | (simp; done) | (simp; omega)) _ | refine bl_store ?_ ?_ _ _))⟩

set_option maxHeartbeats 2000000 in
theorem impl_IsInside_bad (px py : Int) (b n cap : Nat) (X Y : Nat → Int) (w : World) (hp : okP px py = true) (hpt : PtsAt w b 0 n X Y) (hbl : b < w.heap.size) (hcap : n ≤ cap) (h3 : 3 ≤ n) (h40 : n ≤ 40) (hall : allOk n X Y = false) :
    Calls Tryz.prog 142 #[.agg #[.int .i64 px, .int .i64 py], .slice (some ⟨b, 0, none⟩) n cap] w fun e w' => e = .returned (.bool (insideB px py n X Y)) ∧ Below w.heap.size w w' := by
  have HE : Hid (insideB px py n X Y = false) := by show _ = _; simp [insideB, hall]
  have hN : codeN n X Y = 3 := by simp [codeN, hall]
  have HQ : Hid (PtsAt w b 0 n X Y) := hpt
  have k1 := codeP_ok hp
  have hn3 : decide ((n : Int) < 3) = false := by simp; omega
  have hn40 : decide ((40 : Int) < (n : Int)) = false := by simp; omega
  clear hp hpt hall
  go_enter Tryz.func142, Tryz.ntmps142
  go_wp2_with fail
  refine (PointFault_any _ _ _).mono ?_
  rintro e w1 ⟨rfl, hb1⟩
  have hB1 : Below w.heap.size w w1 := by (repeat (first | exact Below.refl _ _ | assumption | refine Below.drew ?_ | refine bl_alloc ?_ _ | refine bl_then ?_ (by assumption) | refine Below.setCell ?_ (by first | omega | (simp; done) | (simp; omega)) _ | refine bl_store ?_ ?_ _ _))
  have HQ1 : Hid (PtsAt w1 b 0 n X Y) := HQ.out.below hB1 hbl
  have hbl1 : b < w1.heap.size := Nat.lt_of_lt_of_le hbl hB1.size
  have HB1 : Hid (Below w.heap.size w w1) := hB1
  clear hB1 hb1
  go_wp2_with (go_at_call 154; refine (faultIn_any _ _ _ _ X Y _ HQ1.out hbl1 hcap (by omega)).mono ?_; rintro e w2 ⟨rfl, hb2⟩)
  go_ret
  exact ⟨ret_bool HE.out.symm, bl_then HB1.out hb2⟩

set_option maxHeartbeats 4000000 in
theorem impl_IsInside_ring (px py : Int) (b n cap : Nat) (X Y : Nat → Int) (w : World) (hp : okP px py = true) (hpt : PtsAt w b 0 n X Y) (hbl : b < w.heap.size) (hcap : n ≤ cap) (h3 : 3 ≤ n) (h40 : n ≤ 40) (hall : allOk n X Y = true) :
    Calls Tryz.prog 142 #[.agg #[.int .i64 px, .int .i64 py], .slice (some ⟨b, 0, none⟩) n cap] w fun e w' => e = .returned (.bool (insideB px py n X Y)) ∧ Below w.heap.size w w' := by
  have HE : Hid (insideB px py n X Y = oddTo (sideTo px py n X Y) n) := by
    show _ = _
    rw [odd_same px py n X Y (by omega)]
    simp [insideB, hall, hp, h3, h40]
  have hN : codeN n X Y = 0 := by simp [codeN, hall]
  have HP : Hid (okP px py = true) := hp
  have HQ : Hid (PtsAt w b 0 n X Y) := hpt
  have HO : Hid (∀ i, i < n → okP (X i) (Y i) = true) := by
    show ∀ i, i < n → okP (X i) (Y i) = true
    exact of_decide_eq_true hall
  have k1 := codeP_ok hp
  have hn3 : decide ((n : Int) < 3) = false := by simp; omega
  have hn40 : decide ((40 : Int) < (n : Int)) = false := by simp; omega
  clear hp hpt hall
  go_enter Tryz.func142, Tryz.ntmps142
  go_wp2_with fail
  generalize hW : (w.alloc _ : World) = W
  have hB0 : Below w.heap.size w W := by subst hW; (repeat (first | exact Below.refl _ _ | assumption | refine Below.drew ?_ | refine bl_alloc ?_ _ | refine bl_then ?_ (by assumption) | refine Below.setCell ?_ (by first | omega | (simp; done) | (simp; omega)) _ | refine bl_store ?_ ?_ _ _))
  have c00 : ∀ W', Below W.heap.size W W' → W'.cell? ⟨w.heap.size, 0, none⟩ = some (.int .i64 px) := fun W' h => by
    rw [h.cell (by subst hW; simp <;> omega)]; subst hW; simp [go_sem]
  have c01 : ∀ W', Below W.heap.size W W' → W'.cell? ⟨w.heap.size, 1, none⟩ = some (.int .i64 py) := fun W' h => by
    rw [h.cell (by subst hW; simp <;> omega)]; subst hW; simp [go_sem]
  clear hW
  have HB0 : Hid (Below w.heap.size w W) := hB0
  have HQ1 : Hid (PtsAt W b 0 n X Y) := HQ.out.below hB0 hbl
  have hblW : b < W.heap.size := Nat.lt_of_lt_of_le hbl hB0.size
  clear hB0 HQ hbl
  refine (PointFault_any _ _ _).mono ?_
  rintro e w1 ⟨rfl, hb1⟩
  have HQ2 : Hid (PtsAt w1 b 0 n X Y) := HQ1.out.below hb1 hblW
  have hbl1 : b < w1.heap.size := Nat.lt_of_lt_of_le hblW hb1.size
  go_wp2_with fail
  refine (faultIn_any _ _ _ _ X Y _ HQ2.out hbl1 hcap (by omega)).mono ?_
  rintro e w2 ⟨rfl, hb2⟩
  have hB2 : Below W.heap.size W w2 := bl_then hb1 hb2
  have hwr : IntKind.i64.wrap ((n : Int) - 1) = (n : Int) - 1 := IntWalk.i64_in _ (by omega)
  have hi1 : (0 : Int) ≤ (n : Int) - 1 := by omega
  have hi2 : (n : Int) - 1 < (n : Int) := by omega
  have hti : ((n : Int) - 1).toNat = n - 1 := by omega
  obtain ⟨hx, hy⟩ := (HQ1.out.below hB2 hblW) (n - 1) (by omega)
  simp only [Nat.zero_add] at hx hy
  clear hb1 hb2 HQ2
  go_wp2_with fail
  refine (pairOf_any _ _ _).mono ?_
  rintro e w3 ⟨rfl, hb3⟩
  have hB3 : Below W.heap.size W w3 := bl_then hB2 hb3
  clear hx hy hB2 hb3
  have HQ3 : Hid (PtsAt w3 b 0 n X Y) := HQ1.out.below hB3 hblW
  have hbl3 : b < w3.heap.size := Nat.lt_of_lt_of_le hblW hB3.size
  replace c00 := fun W' (h : Below w3.heap.size w3 W') => c00 W' (bl_then hB3 h)
  replace c01 := fun W' (h : Below w3.heap.size w3 W') => c01 W' (bl_then hB3 h)
  have HB3 : Hid (Below w.heap.size w w3) := bl_then HB0.out hB3
  clear hB3 HB0 HQ1 hblW hbl1 hwr hi1 hi2 hti hN k1
  go_wp2
  go_loopw [5, 35] (fun q i wr => ∃ k : Nat, k ≤ n ∧ i = .int .i64 k ∧ q = .bool (oddTo (sideTo px py n X Y) k) ∧ Below w3.heap.size w3 wr ∧ wr.cell? ⟨w3.heap.size, 0, none⟩ = some (.int .i64 (X (prevI n k))) ∧ wr.cell? ⟨w3.heap.size, 1, none⟩ = some (.int .i64 (Y (prevI n k))) ∧ wr.frozen? ⟨w3.heap.size, 0, none⟩ = false ∧ wr.frozen? ⟨w3.heap.size, 1, none⟩ = false) (fun _ i _ => n - (intOf i).toNat)
  case atStart => exact ⟨0, by omega, rfl, rfl, by (repeat (first | exact Below.refl _ _ | assumption | refine Below.drew ?_ | refine bl_alloc ?_ _ | refine bl_then ?_ (by assumption) | refine Below.setCell ?_ (by first | omega | (simp; done) | (simp; omega)) _ | refine bl_store ?_ ?_ _ _)), by simp [go_sem, prevI], by simp [go_sem, prevI], by simp [go_sem], by simp [go_sem]⟩
  case round =>
    obtain ⟨k, hk, rfl, rfl, hB, f0, f1, z0, z1⟩ := hrel
    by_cases hlt : k < n
    · obtain ⟨hx, hy⟩ := (HQ3.out.below hB hbl3) k hlt
      simp only [Nat.zero_add] at hx hy
      have hFl : w3.heap.size < wr.heap.size := World.block_lt_of_cell? _ _ f0
      have HK1 : Hid (okP (X (prevI n k)) (Y (prevI n k)) = true) := HO.out _ (by unfold prevI; split <;> omega)
      have HK2 : Hid (okP (X k) (Y k) = true) := HO.out k hlt
      have hodd : Hid (oddTo (sideTo px py n X Y) (k + 1) = if sideTo px py n X Y k = true then !(oddTo (sideTo px py n X Y) k) else oddTo (sideTo px py n X Y) k) := rfl
      have HS : Hid (sideTo px py n X Y k = sideB px py (X (prevI n k)) (Y (prevI n k)) (X k) (Y k)) := rfl
      have hprev : prevI n (k + 1) = k := by simp [prevI]
      have HV : Hid (prevI n (k + 1) = k) := hprev
      clear hprev
      have hi : (k : Int) < (n : Int) := by omega
      generalize hXp : X (prevI n k) = xp at *
      generalize hYp : Y (prevI n k) = yp at *
      clear hXp hYp
      have F0 : Hid (wr.cell? ⟨w3.heap.size, 0, none⟩ = some (.int .i64 xp)) := f0
      have F1 : Hid (wr.cell? ⟨w3.heap.size, 1, none⟩ = some (.int .i64 yp)) := f1
      have Z0 : Hid (wr.frozen? ⟨w3.heap.size, 0, none⟩ = false) := z0
      have Z1 : Hid (wr.frozen? ⟨w3.heap.size, 1, none⟩ = false) := z1
      have HB : Hid (Below w3.heap.size w3 wr) := hB
      clear f0 f1 z0 z1 hB
      go_wp2_with fail
      refine (pairOf_any _ _ _).mono ?_
      rintro e w4 ⟨rfl, hb4⟩
      have hB4 : Below wr.heap.size wr w4 := by (repeat (first | exact Below.refl _ _ | assumption | refine Below.drew ?_ | refine bl_alloc ?_ _ | refine bl_then ?_ (by assumption) | refine Below.setCell ?_ (by first | omega | (simp; done) | (simp; omega)) _ | refine bl_store ?_ ?_ _ _))
      clear hb4 hx hy
      go_wp2
      generalize hV : (w4.alloc _ : World) = V
      have hBV : Below wr.heap.size wr V := by subst hV; (repeat (first | exact Below.refl _ _ | assumption | refine Below.drew ?_ | refine bl_alloc ?_ _ | refine bl_then ?_ (by assumption) | refine Below.setCell ?_ (by first | omega | (simp; done) | (simp; omega)) _ | refine bl_store ?_ ?_ _ _))
      have t0 : ∀ W', Below V.heap.size V W' → W'.cell? ⟨w4.heap.size, 0, none⟩ = some (.int .i64 (X k)) := fun W' h => by
        rw [h.cell (by subst hV; simp)]; subst hV; simp [go_sem]
      have t1 : ∀ W', Below V.heap.size V W' → W'.cell? ⟨w4.heap.size, 1, none⟩ = some (.int .i64 (Y k)) := fun W' h => by
        rw [h.cell (by subst hV; simp)]; subst hV; simp [go_sem]
      have f0 : ∀ W', Below V.heap.size V W' → W'.cell? ⟨w3.heap.size, 0, none⟩ = some (.int .i64 xp) := fun W' h => ((bl_then hBV h).cell (p := ⟨w3.heap.size, 0, none⟩) hFl).trans F0.out
      have f1 : ∀ W', Below V.heap.size V W' → W'.cell? ⟨w3.heap.size, 1, none⟩ = some (.int .i64 yp) := fun W' h => ((bl_then hBV h).cell (p := ⟨w3.heap.size, 1, none⟩) hFl).trans F1.out
      have z0 : ∀ W', Below V.heap.size V W' → W'.frozen? ⟨w3.heap.size, 0, none⟩ = false := fun W' h => ((bl_then hBV h).frozen (p := ⟨w3.heap.size, 0, none⟩) hFl).trans Z0.out
      have z1 : ∀ W', Below V.heap.size V W' → W'.frozen? ⟨w3.heap.size, 1, none⟩ = false := fun W' h => ((bl_then hBV h).frozen (p := ⟨w3.heap.size, 1, none⟩) hFl).trans Z1.out
      have hBV3 : Below w3.heap.size w3 V := bl_then HB.out hBV
      replace c00 := fun W' (h : Below V.heap.size V W') => c00 W' (bl_then hBV3 h)
      replace c01 := fun W' (h : Below V.heap.size V W') => c01 W' (bl_then hBV3 h)
      have HBV3 : Hid (Below w3.heap.size w3 V) := hBV3
      clear hV hBV hBV3 hB4
      cases hsv : sideB px py xp yp (X k) (Y k)
      all_goals
        go_region_held3 (fun W' => Below V.heap.size V W') ((repeat (first | exact Below.refl _ _ | assumption | refine Below.drew ?_ | refine bl_alloc ?_ _ | refine bl_then ?_ (by assumption) | refine Below.setCell ?_ (by first | omega | (simp; done) | (simp; omega)) _ | refine bl_store ?_ ?_ _ _)))
          (first
            | (go_at_call 155; refine (pairOf_any _ _ _).mono ?_; rintro e w' ⟨rfl, hb⟩)
            | (go_at_call 156; refine (isCrossed_any _ _ _ _ _ _ _ HP.out HK1.out HK2.out).mono ?_; rintro e w' ⟨rfl, hb⟩))
        rename_i hfin
        go_wp2
        go_roundw
        case rel =>
          refine ⟨k + 1, by omega, by go_num, congrArg Value.bool (by rw [hodd.out, HS.out, hsv]; rfl), ?_, ?_, ?_, ?_, ?_⟩
          · have hG := bl_then HBV3.out hfin
            exact (hG.setCell (Nat.le_refl _) _).setCell (Nat.le_refl _) _
          · rw [HV.out]
            exact set2_0 (Option.isSome_iff_exists.2 ⟨_, f0 _ hfin⟩)
          · rw [HV.out]
            exact set2_1 (Option.isSome_iff_exists.2 ⟨_, f1 _ hfin⟩)
          · simp [World.frozen?_setCell, z0 _ hfin]
          · simp [World.frozen?_setCell, z1 _ hfin]
        case measure => simp [intOf]; omega
    · go_wp2
      go_ret
      have hkn : k = n := by omega
      subst hkn
      exact ⟨ret_bool HE.out.symm, bl_then HB3.out hB⟩

theorem impl_IsInside_any (px py : Int) (b n cap : Nat) (X Y : Nat → Int) (w : World) (hpt : PtsAt w b 0 n X Y) (hbl : b < w.heap.size) (hcap : n ≤ cap) (hmax : n ≤ 1048576) :
    Calls Tryz.prog 142 #[.agg #[.int .i64 px, .int .i64 py], .slice (some ⟨b, 0, none⟩) n cap] w fun e w' => e = .returned (.bool (insideB px py n X Y)) ∧ Below w.heap.size w w' := by
  by_cases h3 : n < 3
  · exact impl_IsInside_few _ _ _ _ _ _ _ _ h3
  by_cases h40 : 40 < n
  · exact impl_IsInside_many _ _ _ _ _ _ _ _ h40 hmax
  cases hp : okP px py
  · exact impl_IsInside_p _ _ _ _ _ _ _ _ hp (by omega) (by omega)
  cases ha : allOk n X Y
  · exact impl_IsInside_bad _ _ _ _ _ _ _ _ hp hpt hbl hcap (by omega) (by omega) ha
  · exact impl_IsInside_ring _ _ _ _ _ _ _ _ hp hpt hbl hcap (by omega) (by omega) ha
end Go.Proofs.YtciidkmonfmipaaGreat
/- Whether points cover a centre. -/

namespace Go.Proofs.YtciidkmonfmipaaGreat
open Go.RowKit
set_option linter.unusedSimpArgs false
set_option linter.unusedVariables false
set_option maxRecDepth 100000

/-- Whether it is near one of the ways, the first one from the first point to itself. -/
def byB (cx cy r : Int) (X Y : Nat → Int) : Nat → Bool
  | 0 => false
  | k + 1 => byB cx cy r X Y k || isNearB cx cy (X (k - 1)) (Y (k - 1)) (X k) (Y k) r
/-- Whether it is near one of the first segments. -/
def segB (cx cy r : Int) (X Y : Nat → Int) : Nat → Bool
  | 0 => false
  | k + 1 => segB cx cy r X Y k || isNearB cx cy (X k) (Y k) (X (k + 1)) (Y (k + 1)) r
theorem byB_seg (cx cy r : Int) (X Y : Nat → Int) : ∀ k, byB cx cy r X Y (k + 1) = (isNearB cx cy (X 0) (Y 0) (X 0) (Y 0) r || segB cx cy r X Y k)
  | 0 => by simp [byB, segB]
  | k + 1 => by
    rw [byB, byB_seg cx cy r X Y k, segB, Bool.or_assoc]
    rfl
theorem near_self {px py ax ay bx by' r : Int} (h : isNearB px py ax ay ax ay r = true) (hb : okP bx by' = true) : isNearB px py ax ay bx by' r = true := by
  simp only [isNearB, Bool.and_eq_true] at h ⊢
  obtain ⟨h1, h2, h3, h4, h5⟩ := h
  refine ⟨h1, h2, hb, h4, near_dist ?_⟩
  have := of_decide_eq_true h5
  have ha : alongI px py ax ay ax ay = 0 := by simp [alongI]
  simp only [overI, underI, ha, Int.le_refl, if_true] at this
  omega
theorem segB_first (cx cy r : Int) (X Y : Nat → Int) (h : isNearB cx cy (X 0) (Y 0) (X 1) (Y 1) r = true) : ∀ k, segB cx cy r X Y (k + 1) = true
  | 0 => by simp [segB, h]
  | k + 1 => by rw [segB, segB_first cx cy r X Y h k]; rfl
theorem byB_line (cx cy r : Int) (X Y : Nat → Int) (n : Nat) (hn : 2 ≤ n) (h1 : okP (X 1) (Y 1) = true) : byB cx cy r X Y n = segB cx cy r X Y (n - 1) := by
  obtain ⟨k, rfl⟩ : ∃ k, n = k + 2 := ⟨n - 2, by omega⟩
  rw [byB_seg]
  show _ = segB cx cy r X Y (k + 1)
  cases h : isNearB cx cy (X 0) (Y 0) (X 0) (Y 0) r
  · rfl
  · rw [segB_first cx cy r X Y (near_self h h1) k]; rfl
theorem byB_true {cx cy r : Int} {X Y : Nat → Int} (k : Nat) (h : byB cx cy r X Y k = true) : ∀ n, k ≤ n → byB cx cy r X Y n = true := by
  intro n hn
  induction n with
  | zero => rw [show k = 0 by omega] at h; exact h
  | succ m ih =>
    by_cases e : k = m + 1
    · rw [← e]; exact h
    · rw [byB, ih (by omega)]; rfl

theorem segB_true {cx cy r : Int} {X Y : Nat → Int} (k : Nat) (h : segB cx cy r X Y k = true) : ∀ n, k ≤ n → segB cx cy r X Y n = true := by
  intro n hn
  induction n with
  | zero => rw [show k = 0 by omega] at h; exact h
  | succ m ih =>
    by_cases e : k = m + 1
    · rw [← e]; exact h
    · rw [segB, ih (by omega)]; rfl

set_option maxHeartbeats 4000000 in
theorem isByLine_any (cx cy r : Int) (b n cap : Nat) (X Y : Nat → Int) (w : World) (hp : PtsAt w b 0 n X Y) (hbl : b < w.heap.size) (hn : 0 < n) (hmax : n ≤ 1048576) (hcap : n ≤ cap) :
    Calls Tryz.prog 125 #[.agg #[.int .i64 cx, .int .i64 cy], .slice (some ⟨b, 0, none⟩) n cap, .int .i64 r] w fun e w' => e = .returned (.bool (byB cx cy r X Y n)) ∧ Below w.heap.size w w' := by
  have HP : Hid (PtsAt w b 0 n X Y) := hp
  obtain ⟨e0, e1⟩ := hp 0 hn
  simp only [Nat.zero_add, Nat.zero_mul] at e0 e1
  clear hp
  have hni : (0 : Int) < (n : Int) := by omega
  go_enter Tryz.func125, Tryz.ntmps125
  go_wp2_with fail
  generalize hW : ((w.alloc _).alloc _ : World) = W
  have HB0 : Hid (Below w.heap.size w W) := by show Below _ _ _; subst hW; (repeat (first | exact Below.refl _ _ | assumption | refine Below.drew ?_ | refine bl_alloc ?_ _ | refine bl_then ?_ (by assumption) | refine Below.setCell ?_ (by first | omega | (simp; done) | (simp; omega)) _ | refine bl_store ?_ ?_ _ _))
  have hT : There W (w.heap.size + 1) 2 := by
    subst hW
    have := there2 (w.alloc (.cells #[.int .i64 cx, .int .i64 cy] 119)) (.int .i64 (X 0)) (.int .i64 (Y 0)) 119
    simpa using this
  have c00 : ∀ W', Below W.heap.size W W' → W'.cell? ⟨w.heap.size, 0, none⟩ = some (.int .i64 cx) := fun W' h => by
    rw [h.cell (by subst hW; simp <;> omega)]; subst hW; simp [go_sem]
  have c01 : ∀ W', Below W.heap.size W W' → W'.cell? ⟨w.heap.size, 1, none⟩ = some (.int .i64 cy) := fun W' h => by
    rw [h.cell (by subst hW; simp <;> omega)]; subst hW; simp [go_sem]
  have c10 : ∀ W', Below W.heap.size W W' → W'.cell? ⟨w.heap.size + 1, 0, none⟩ = some (.int .i64 (X 0)) := fun W' h => by
    rw [h.cell (by subst hW; simp <;> omega)]; subst hW; simp [go_sem]
  have c11 : ∀ W', Below W.heap.size W W' → W'.cell? ⟨w.heap.size + 1, 1, none⟩ = some (.int .i64 (Y 0)) := fun W' h => by
    rw [h.cell (by subst hW; simp <;> omega)]; subst hW; simp [go_sem]
  have hszW : W.heap.size = w.heap.size + 1 + 1 := by subst hW; simp
  clear hW
  have q0 := c00 W (Below.refl _ _)
  have q1 := c01 W (Below.refl _ _)
  have q2 := c10 W (Below.refl _ _)
  have q3 := c11 W (Below.refl _ _)
  clear c00 c01 c10 c11
  go_loopw [15] (fun i wr => ∃ k : Nat, k ≤ n ∧ i = .int .i64 (k : Int) ∧ byB cx cy r X Y k = false ∧ Below (w.heap.size + 1) W wr ∧ There wr (w.heap.size + 1) 2 ∧ wr.cell? ⟨w.heap.size + 1, 0, none⟩ = some (.int .i64 (X (k - 1))) ∧ wr.cell? ⟨w.heap.size + 1, 1, none⟩ = some (.int .i64 (Y (k - 1)))) (fun i _ => n - (intOf i).toNat)
  case atStart => exact ⟨0, by omega, rfl, rfl, Below.refl _ _, hT, q2, q3⟩
  case round =>
    obtain ⟨k, hk, rfl, hF, hB, hT', f0, f1⟩ := hrel
    have HB : Hid (Below (w.heap.size + 1) W wr) := hB
    have HBw : Hid (Below w.heap.size w wr) := HB0.out.trans (hB.mono (by omega))
    have HF : Hid (byB cx cy r X Y k = false) := hF
    have hszr := hB.size
    have g0 := (hB.cell (p := ⟨w.heap.size, 0, none⟩) (by show w.heap.size < _; omega)).trans q0
    have g1 := (hB.cell (p := ⟨w.heap.size, 1, none⟩) (by show w.heap.size < _; omega)).trans q1
    clear hB hF
    by_cases hlt : k < n
    · obtain ⟨hx, hy⟩ := (HP.out.below HBw.out hbl) k hlt
      simp only [Nat.zero_add] at hx hy
      have hi' : (k : Int) < (n : Int) := by omega
      have hbw : b < wr.heap.size := by omega
      have HT : Hid (There wr (w.heap.size + 1) 2) := hT'
      have hl0 : w.heap.size < wr.heap.size := by omega
      have hl1 : w.heap.size + 1 < wr.heap.size := by omega
      clear hT'
      go_wp2_with fail
      generalize hV : (wr.alloc _ : World) = V
      have hbV : Below wr.heap.size wr V := by subst hV; (repeat (first | exact Below.refl _ _ | assumption | refine Below.drew ?_ | refine bl_alloc ?_ _ | refine bl_then ?_ (by assumption) | refine Below.setCell ?_ (by first | omega | (simp; done) | (simp; omega)) _ | refine bl_store ?_ ?_ _ _))
      have d0 : ∀ W', Below V.heap.size V W' → W'.cell? ⟨wr.heap.size, 0, none⟩ = some (.int .i64 (X k)) := fun W' h => by
        rw [h.cell (by subst hV; simp)]; subst hV; simp [go_sem]
      have d1 : ∀ W', Below V.heap.size V W' → W'.cell? ⟨wr.heap.size, 1, none⟩ = some (.int .i64 (Y k)) := fun W' h => by
        rw [h.cell (by subst hV; simp)]; subst hV; simp [go_sem]
      have hszV : wr.heap.size < V.heap.size := by subst hV; simp
      clear hV hx hy
      refine (impl_IsNear_any _ _ _ _ _ _ _ _).mono ?_
      rintro e w1 ⟨rfl, hb1⟩
      have hbr1 := bl_then hbV hb1
      have HB1 : Hid (Below w.heap.size w w1) := bl_then HBw.out hbr1
      cases hq : isNearB cx cy (X (k - 1)) (Y (k - 1)) (X k) (Y k) r
      · have hT1 := HT.out.below hbr1
        have t0 := hT1.cell 0 (by omega)
        have t1 := hT1.cell 1 (by omega)
        have z0 := (hT1 0 (by omega)).2
        have z1 := (hT1 1 (by omega)).2
        have p0 := d0 w1 hb1
        have p1 := d1 w1 hb1
        have HT1 : Hid (There w1 (w.heap.size + 1) 2) := hT1
        have HBW1 : Hid (Below (w.heap.size + 1) W w1) := HB.out.trans (hbr1.mono (by omega))
        have hsz1 := hbr1.size
        have HK : Hid (byB cx cy r X Y (k + 1) = false) := by show _ = _; rw [byB, HF.out, hq]; rfl
        clear hT1 d0 d1 hbr1 hb1 hbV f0 f1 g0 g1
        go_wp2_with fail
        go_roundw
        case rel =>
          refine ⟨k + 1, by omega, by go_num, HK.out, (HBW1.out.setCell (by show w.heap.size + 1 ≤ w.heap.size + 1; omega) _).setCell (by show w.heap.size + 1 ≤ w.heap.size + 1; omega) _, ?_, set2_0 (Option.isSome_iff_exists.2 ⟨_, t0⟩), set2_1 (Option.isSome_iff_exists.2 ⟨_, t1⟩)⟩
          exact (HT1.out.set 0 _).set 1 _
        case measure => simp [intOf]; omega
      · have HK : Hid (byB cx cy r X Y n = true) := byB_true (k + 1) (by rw [byB, hq]; simp) n (by omega)
        go_wp2_with fail
        go_ret
        exact ⟨ret_bool (by rw [HK.out]), HB1.out⟩
    · have hkn : k = n := by omega
      subst hkn
      go_wp2_with fail
      go_ret
      exact ⟨ret_bool (by rw [HF.out]), HBw.out⟩
theorem isInArea_any (cx cy r : Int) (b n cap : Nat) (X Y : Nat → Int) (w : World) (hp : PtsAt w b 0 n X Y) (hbl : b < w.heap.size) (hmax : n ≤ 1048576) (hcap : n ≤ cap) :
    Calls Tryz.prog 124 #[.agg #[.int .i64 cx, .int .i64 cy], .slice (some ⟨b, 0, none⟩) n cap, .int .i64 r] w fun e w' => e = .returned (.bool (insideB cx cy n X Y)) ∧ Below w.heap.size w w' := by
  have HP : Hid (PtsAt w b 0 n X Y) := hp
  clear hp
  go_enter Tryz.func124, Tryz.ntmps124
  go_wp2_with fail
  generalize hW : (w.alloc _ : World) = W
  have hB0 : Below w.heap.size w W := by subst hW; (repeat (first | exact Below.refl _ _ | assumption | refine Below.drew ?_ | refine bl_alloc ?_ _ | refine bl_then ?_ (by assumption) | refine Below.setCell ?_ (by first | omega | (simp; done) | (simp; omega)) _ | refine bl_store ?_ ?_ _ _))
  clear hW
  refine (impl_IsInside_any _ _ b n cap X Y W (HP.out.below hB0 hbl) (Nat.lt_of_lt_of_le hbl hB0.size) hcap hmax).mono ?_
  rintro e w1 ⟨rfl, hb1⟩
  go_wp2_with fail
  go_ret
  exact ⟨rfl, bl_then hB0 hb1⟩
end Go.Proofs.YtciidkmonfmipaaGreat
