/- Several texts in one. -/
import Derived.Test.YtciidkmonfmipaaGreatVPutTile8
import Derived.Test.YtciidkmonfmipaaGreatVPutTile10
import Derived.Test.YtciidkmonfmipaaGreatVPutTile12
import Derived.Test.YtciidkmonfmipaaGreatVPutTile7
import Derived.Test.YtciidkmonfmipaaGreatVPutTile4

/- Whether points cover a centre. -/

namespace Go.Proofs.YtciidkmonfmipaaGreat
open Go.RowKit
set_option linter.unusedSimpArgs false
set_option linter.unusedVariables false
set_option maxRecDepth 100000

/-- Whether it is near one of the ways, the first one from the first point to itself. -/
def byB (cx cy r : Int) (X Y : Nat → Int) : Nat → Bool
  | 0 => false
  | k + 1 => byB cx cy r X Y k || isNearB cx cy (X (k - 1)) (Y (k - 1)) (X k) (Y k) r
/-- Whether it is near one of the first segments. -/
def segB (cx cy r : Int) (X Y : Nat → Int) : Nat → Bool
  | 0 => false
  | k + 1 => segB cx cy r X Y k || isNearB cx cy (X k) (Y k) (X (k + 1)) (Y (k + 1)) r
theorem byB_seg (cx cy r : Int) (X Y : Nat → Int) : ∀ k, byB cx cy r X Y (k + 1) = (isNearB cx cy (X 0) (Y 0) (X 0) (Y 0) r || segB cx cy r X Y k)
  | 0 => by simp [byB, segB]
  | k + 1 => by
    rw [byB, byB_seg cx cy r X Y k, segB, Bool.or_assoc]
    rfl
theorem near_self {px py ax ay bx by' r : Int} (h : isNearB px py ax ay ax ay r = true) (hb : okP bx by' = true) : isNearB px py ax ay bx by' r = true := by
  simp only [isNearB, Bool.and_eq_true] at h ⊢
  obtain ⟨h1, h2, h3, h4, h5⟩ := h
  refine ⟨h1, h2, hb, h4, near_dist ?_⟩
  have := of_decide_eq_true h5
  have ha : alongI px py ax ay ax ay = 0 := by simp [alongI]
  simp only [overI, underI, ha, Int.le_refl, if_true] at this
  omega
theorem segB_first (cx cy r : Int) (X Y : Nat → Int) (h : isNearB cx cy (X 0) (Y 0) (X 1) (Y 1) r = true) : ∀ k, segB cx cy r X Y (k + 1) = true
  | 0 => by simp [segB, h]
  | k + 1 => by rw [segB, segB_first cx cy r X Y h k]; rfl
theorem byB_line (cx cy r : Int) (X Y : Nat → Int) (n : Nat) (hn : 2 ≤ n) (h1 : okP (X 1) (Y 1) = true) : byB cx cy r X Y n = segB cx cy r X Y (n - 1) := by
  obtain ⟨k, rfl⟩ : ∃ k, n = k + 2 := ⟨n - 2, by omega⟩
  rw [byB_seg]
  show _ = segB cx cy r X Y (k + 1)
  cases h : isNearB cx cy (X 0) (Y 0) (X 0) (Y 0) r
  · rfl
  · rw [segB_first cx cy r X Y (near_self h h1) k]; rfl
theorem byB_true {cx cy r : Int} {X Y : Nat → Int} (k : Nat) (h : byB cx cy r X Y k = true) : ∀ n, k ≤ n → byB cx cy r X Y n = true := by
  intro n hn
  induction n with
  | zero => rw [show k = 0 by omega] at h; exact h
  | succ m ih =>
    by_cases e : k = m + 1
    · rw [← e]; exact h
    · rw [byB, ih (by omega)]; rfl

theorem segB_true {cx cy r : Int} {X Y : Nat → Int} (k : Nat) (h : segB cx cy r X Y k = true) : ∀ n, k ≤ n → segB cx cy r X Y n = true := by
  intro n hn
  induction n with
  | zero => rw [show k = 0 by omega] at h; exact h
  | succ m ih =>
    by_cases e : k = m + 1
    · rw [← e]; exact h
    · rw [segB, ih (by omega)]; rfl

set_option maxHeartbeats 4000000 in
theorem isByLine_any (cx cy r : Int) (b n cap : Nat) (X Y : Nat → Int) (w : World) (hp : PtsAt w b 0 n X Y) (hbl : b < w.heap.size) (hn : 0 < n) (hmax : n ≤ 1048576) (hcap : n ≤ cap) :
    Calls Tryz.prog 125 #[.agg #[.int .i64 cx, .int .i64 cy], .slice (some ⟨b, 0, none⟩) n cap, .int .i64 r] w fun e w' => e = .returned (.bool (byB cx cy r X Y n)) ∧ Below w.heap.size w w' := by
  have HP : Hid (PtsAt w b 0 n X Y) := hp
  obtain ⟨e0, e1⟩ := hp 0 hn
  simp only [Nat.zero_add, Nat.zero_mul] at e0 e1
  clear hp
  have hni : (0 : Int) < (n : Int) := by omega
  go_enter Tryz.func125, Tryz.ntmps125
  go_wp2_with fail
  generalize hW : ((w.alloc _).alloc _ : World) = W
  have HB0 : Hid (Below w.heap.size w W) := by show Below _ _ _; subst hW; (repeat (first | exact Below.refl _ _ | assumption | refine Below.drew ?_ | refine bl_alloc ?_ _ | refine bl_then ?_ (by assumption) | refine Below.setCell ?_ (by first | omega | (simp; done) | (simp; omega)) _ | refine bl_store ?_ ?_ _ _))
  have hT : There W (w.heap.size + 1) 2 := by
    subst hW
    have := there2 (w.alloc (.cells #[.int .i64 cx, .int .i64 cy] 119)) (.int .i64 (X 0)) (.int .i64 (Y 0)) 119
    simpa using this
  have c00 : ∀ W', Below W.heap.size W W' → W'.cell? ⟨w.heap.size, 0, none⟩ = some (.int .i64 cx) := fun W' h => by
    rw [h.cell (by subst hW; simp <;> omega)]; subst hW; simp [go_sem]
  have c01 : ∀ W', Below W.heap.size W W' → W'.cell? ⟨w.heap.size, 1, none⟩ = some (.int .i64 cy) := fun W' h => by
    rw [h.cell (by subst hW; simp <;> omega)]; subst hW; simp [go_sem]
  have c10 : ∀ W', Below W.heap.size W W' → W'.cell? ⟨w.heap.size + 1, 0, none⟩ = some (.int .i64 (X 0)) := fun W' h => by
    rw [h.cell (by subst hW; simp <;> omega)]; subst hW; simp [go_sem]
  have c11 : ∀ W', Below W.heap.size W W' → W'.cell? ⟨w.heap.size + 1, 1, none⟩ = some (.int .i64 (Y 0)) := fun W' h => by
    rw [h.cell (by subst hW; simp <;> omega)]; subst hW; simp [go_sem]
  have hszW : W.heap.size = w.heap.size + 1 + 1 := by subst hW; simp
  clear hW
  have q0 := c00 W (Below.refl _ _)
  have q1 := c01 W (Below.refl _ _)
  have q2 := c10 W (Below.refl _ _)
  have q3 := c11 W (Below.refl _ _)
  clear c00 c01 c10 c11
  go_loopw [15] (fun i wr => ∃ k : Nat, k ≤ n ∧ i = .int .i64 (k : Int) ∧ byB cx cy r X Y k = false ∧ Below (w.heap.size + 1) W wr ∧ There wr (w.heap.size + 1) 2 ∧ wr.cell? ⟨w.heap.size + 1, 0, none⟩ = some (.int .i64 (X (k - 1))) ∧ wr.cell? ⟨w.heap.size + 1, 1, none⟩ = some (.int .i64 (Y (k - 1)))) (fun i _ => n - (intOf i).toNat)
  case atStart => exact ⟨0, by omega, rfl, rfl, Below.refl _ _, hT, q2, q3⟩
  case round =>
    obtain ⟨k, hk, rfl, hF, hB, hT', f0, f1⟩ := hrel
    have HB : Hid (Below (w.heap.size + 1) W wr) := hB
    have HBw : Hid (Below w.heap.size w wr) := HB0.out.trans (hB.mono (by omega))
    have HF : Hid (byB cx cy r X Y k = false) := hF
    have hszr := hB.size
    have g0 := (hB.cell (p := ⟨w.heap.size, 0, none⟩) (by show w.heap.size < _; omega)).trans q0
    have g1 := (hB.cell (p := ⟨w.heap.size, 1, none⟩) (by show w.heap.size < _; omega)).trans q1
    clear hB hF
    by_cases hlt : k < n
    · obtain ⟨hx, hy⟩ := (HP.out.below HBw.out hbl) k hlt
      simp only [Nat.zero_add] at hx hy
      have hi' : (k : Int) < (n : Int) := by omega
      have hbw : b < wr.heap.size := by omega
      have HT : Hid (There wr (w.heap.size + 1) 2) := hT'
      have hl0 : w.heap.size < wr.heap.size := by omega
      have hl1 : w.heap.size + 1 < wr.heap.size := by omega
      clear hT'
      go_wp2_with fail
      generalize hV : (wr.alloc _ : World) = V
      have hbV : Below wr.heap.size wr V := by subst hV; (repeat (first | exact Below.refl _ _ | assumption | refine Below.drew ?_ | refine bl_alloc ?_ _ | refine bl_then ?_ (by assumption) | refine Below.setCell ?_ (by first | omega | (simp; done) | (simp; omega)) _ | refine bl_store ?_ ?_ _ _))
      have d0 : ∀ W', Below V.heap.size V W' → W'.cell? ⟨wr.heap.size, 0, none⟩ = some (.int .i64 (X k)) := fun W' h => by
        rw [h.cell (by subst hV; simp)]; subst hV; simp [go_sem]
      have d1 : ∀ W', Below V.heap.size V W' → W'.cell? ⟨wr.heap.size, 1, none⟩ = some (.int .i64 (Y k)) := fun W' h => by
        rw [h.cell (by subst hV; simp)]; subst hV; simp [go_sem]
      have hszV : wr.heap.size < V.heap.size := by subst hV; simp
      clear hV hx hy
      refine (impl_IsNear_any _ _ _ _ _ _ _ _).mono ?_
      rintro e w1 ⟨rfl, hb1⟩
      have hbr1 := bl_then hbV hb1
      have HB1 : Hid (Below w.heap.size w w1) := bl_then HBw.out hbr1
      cases hq : isNearB cx cy (X (k - 1)) (Y (k - 1)) (X k) (Y k) r
      · have hT1 := HT.out.below hbr1
        have t0 := hT1.cell 0 (by omega)
        have t1 := hT1.cell 1 (by omega)
        have z0 := (hT1 0 (by omega)).2
        have z1 := (hT1 1 (by omega)).2
        have p0 := d0 w1 hb1
        have p1 := d1 w1 hb1
        have HT1 : Hid (There w1 (w.heap.size + 1) 2) := hT1
        have HBW1 : Hid (Below (w.heap.size + 1) W w1) := HB.out.trans (hbr1.mono (by omega))
        have hsz1 := hbr1.size
        have HK : Hid (byB cx cy r X Y (k + 1) = false) := by show _ = _; rw [byB, HF.out, hq]; rfl
        clear hT1 d0 d1 hbr1 hb1 hbV f0 f1 g0 g1
        go_wp2_with fail
        go_roundw
        case rel =>
          refine ⟨k + 1, by omega, by go_num, HK.out, (HBW1.out.setCell (by show w.heap.size + 1 ≤ w.heap.size + 1; omega) _).setCell (by show w.heap.size + 1 ≤ w.heap.size + 1; omega) _, ?_, set2_0 (Option.isSome_iff_exists.2 ⟨_, t0⟩), set2_1 (Option.isSome_iff_exists.2 ⟨_, t1⟩)⟩
          exact (HT1.out.set 0 _).set 1 _
        case measure => simp [intOf]; omega
      · have HK : Hid (byB cx cy r X Y n = true) := byB_true (k + 1) (by rw [byB, hq]; simp) n (by omega)
        go_wp2_with fail
        go_ret
        exact ⟨ret_bool (by rw [HK.out]), HB1.out⟩
    · have hkn : k = n := by omega
      subst hkn
      go_wp2_with fail
      go_ret
      exact ⟨ret_bool (by rw [HF.out]), HBw.out⟩
theorem isInArea_any (cx cy r : Int) (b n cap : Nat) (X Y : Nat → Int) (w : World) (hp : PtsAt w b 0 n X Y) (hbl : b < w.heap.size) (hmax : n ≤ 1048576) (hcap : n ≤ cap) :
    Calls Tryz.prog 124 #[.agg #[.int .i64 cx, .int .i64 cy], .slice (some ⟨b, 0, none⟩) n cap, .int .i64 r] w fun e w' => e = .returned (.bool (insideB cx cy n X Y)) ∧ Below w.heap.size w w' := by
  have HP : Hid (PtsAt w b 0 n X Y) := hp
  clear hp
  go_enter Tryz.func124, Tryz.ntmps124
  go_wp2_with fail
  generalize hW : (w.alloc _ : World) = W
  have hB0 : Below w.heap.size w W := by subst hW; (repeat (first | exact Below.refl _ _ | assumption | refine Below.drew ?_ | refine bl_alloc ?_ _ | refine bl_then ?_ (by assumption) | refine Below.setCell ?_ (by first | omega | (simp; done) | (simp; omega)) _ | refine bl_store ?_ ?_ _ _))
  clear hW
  refine (impl_IsInside_any _ _ b n cap X Y W (HP.out.below hB0 hbl) (Nat.lt_of_lt_of_le hbl hB0.size) hcap hmax).mono ?_
  rintro e w1 ⟨rfl, hb1⟩
  go_wp2_with fail
  go_ret
  exact ⟨rfl, bl_then hB0 hb1⟩
end Go.Proofs.YtciidkmonfmipaaGreat
/- How many pixels the world has on a side, and their centres. -/

namespace Go.Proofs.YtciidkmonfmipaaGreat
open Go.RowKit
set_option linter.unusedSimpArgs false
set_option linter.unusedVariables false
set_option maxRecDepth 100000

/-- How many pixels the world has on a side. -/
def pixI (z : Int) : Int := if z = 0 then 8 else if z = 1 then 16 else if z = 2 then 32 else 64
/-- The answer of PixelCount. -/
def pixV (z : Int) : Value := if zoomB z = true then .agg #[.int .i64 0, .int .i64 (pixI z)] else .agg #[.int .i64 3, .int .i64 0]
/-- A pixel. -/
def pixB (z x y : Int) : Bool := zoomB z && (inB x 0 (pixI z - 1) && inB y 0 (pixI z - 1))
/-- The centre of a pixel, doubled. -/
def centI (z x : Int) : Int := (2 * x + 1) * unitI z
/-- The answer of CentreOf. -/
def centV (z x y : Int) : Value := if pixB z x y = true then .agg #[.int .i64 0, .int .i64 (centI z x), .int .i64 (centI z y)] else .agg #[.int .i64 3, .int .i64 0, .int .i64 0]
theorem pixB_zoom {z x y : Int} (h : pixB z x y = true) : zoomB z = true := by
  simp [pixB] at h
  exact h.1
theorem pixB_in {z x y : Int} (h : pixB z x y = true) : (0 ≤ x ∧ x ≤ pixI z - 1) ∧ (0 ≤ y ∧ y ≤ pixI z - 1) := by
  simp [pixB, inB] at h
  exact h.2
theorem pixI_bd {z : Int} (h : zoomB z = true) : 8 ≤ pixI z ∧ pixI z ≤ 64 := by
  rcases zoomB_cases h with rfl | rfl | rfl | rfl <;> decide
theorem cent_ok {z x y : Int} (h : pixB z x y = true) : okP (centI z x) (centI z y) = true := by
  have hz := pixB_zoom h
  have hb := pixB_in h
  rw [okP_iff]
  unfold centI
  rcases zoomB_cases hz with rfl | rfl | rfl | rfl
  all_goals
    simp only [show unitI 0 = 128 from rfl, show unitI 1 = 64 from rfl, show unitI 2 = 32 from rfl, show unitI 3 = 16 from rfl, show pixI 0 = 8 from rfl, show pixI 1 = 16 from rfl, show pixI 2 = 32 from rfl, show pixI 3 = 64 from rfl] at *
    omega

theorem impl_PixelCount_any (z : Int) (w : World) : Calls Tryz.prog 127 #[.int .i64 z] w fun e w' => e = .returned (pixV z) ∧ Below w.heap.size w w' := by
  cases h : zoomB z
  · go_enter Tryz.func127, Tryz.ntmps127
    go_wp2_with (go_at_call 90; refine (isZoom_any _ _).mono ?_; rintro e w' ⟨rfl, rfl⟩)
    exact bodyPost_ret (v := .agg #[.int .i64 3, .int .i64 0]) (by simp [results, Tryz.results127, go_sem]) rfl ⟨by simp [pixV, h], by (repeat (first | exact Below.refl _ _ | assumption | refine Below.drew ?_ | refine bl_alloc ?_ _ | refine bl_then ?_ (by assumption) | refine Below.setCell ?_ (by first | omega | (simp; done) | (simp; omega)) _ | refine bl_store ?_ ?_ _ _))⟩
  · rcases zoomB_cases h with rfl | rfl | rfl | rfl
    all_goals
      go_enter Tryz.func127, Tryz.ntmps127
      go_wp2_with (go_at_call 90; refine (isZoom_any _ _).mono ?_; rintro e w' ⟨rfl, rfl⟩)
      first
        | exact bodyPost_ret (v := .agg #[.int .i64 0, .int .i64 8]) (by simp [results, Tryz.results127, go_sem]; done) rfl ⟨rfl, by (repeat (first | exact Below.refl _ _ | assumption | refine Below.drew ?_ | refine bl_alloc ?_ _ | refine bl_then ?_ (by assumption) | refine Below.setCell ?_ (by first | omega | (simp; done) | (simp; omega)) _ | refine bl_store ?_ ?_ _ _))⟩
        | exact bodyPost_ret (v := .agg #[.int .i64 0, .int .i64 16]) (by simp [results, Tryz.results127, go_sem]; done) rfl ⟨rfl, by (repeat (first | exact Below.refl _ _ | assumption | refine Below.drew ?_ | refine bl_alloc ?_ _ | refine bl_then ?_ (by assumption) | refine Below.setCell ?_ (by first | omega | (simp; done) | (simp; omega)) _ | refine bl_store ?_ ?_ _ _))⟩
        | exact bodyPost_ret (v := .agg #[.int .i64 0, .int .i64 32]) (by simp [results, Tryz.results127, go_sem]; done) rfl ⟨rfl, by (repeat (first | exact Below.refl _ _ | assumption | refine Below.drew ?_ | refine bl_alloc ?_ _ | refine bl_then ?_ (by assumption) | refine Below.setCell ?_ (by first | omega | (simp; done) | (simp; omega)) _ | refine bl_store ?_ ?_ _ _))⟩
        | exact bodyPost_ret (v := .agg #[.int .i64 0, .int .i64 64]) (by simp [results, Tryz.results127, go_sem]; done) rfl ⟨rfl, by (repeat (first | exact Below.refl _ _ | assumption | refine Below.drew ?_ | refine bl_alloc ?_ _ | refine bl_then ?_ (by assumption) | refine Below.setCell ?_ (by first | omega | (simp; done) | (simp; omega)) _ | refine bl_store ?_ ?_ _ _))⟩
theorem isPixel_any (z x y : Int) (w : World) : Calls Tryz.prog 101 #[.int .i64 z, .int .i64 x, .int .i64 y] w fun e w' => e = .returned (.bool (pixB z x y)) ∧ Below w.heap.size w w' := by
  have s1 := fun w => impl_PixelCount_any z w
  cases h : zoomB z
  · have hv : pixV z = .agg #[.int .i64 3, .int .i64 0] := by simp [pixV, h]
    simp only [hv] at s1
    have i1 : ∀ w, (Instr.field 157 (.agg #[.int .i64 3, .int .i64 0]) 1).run Tryz.prog w = .ok (.int .i64 0) w := fun _ => by kernel_rfl
    have hx : inB x 0 (-1) = false := by simp [inB]; omega
    have hp : Hid (pixB z x y = false) := by show _ = _; simp [pixB, h]
    go_enter Tryz.func101, Tryz.ntmps101
    go_wp2_with (first
      | (go_at_call 127; refine (s1 _).mono ?_; rintro e w1 ⟨rfl, hb1⟩)
      | (go_at_call 88; refine (isWithin_any _ _ _ _).mono ?_; rintro e w' ⟨rfl, rfl⟩))
    all_goals (go_ret; exact ⟨ret_bool (by rw [hp.out]), by (repeat (first | exact Below.refl _ _ | assumption | refine Below.drew ?_ | refine bl_alloc ?_ _ | refine bl_then ?_ (by assumption) | refine Below.setCell ?_ (by first | omega | (simp; done) | (simp; omega)) _ | refine bl_store ?_ ?_ _ _))⟩)
  · have hv : pixV z = .agg #[.int .i64 0, .int .i64 (pixI z)] := by simp [pixV, h]
    simp only [hv] at s1
    have hp : Hid (pixB z x y = (inB x 0 (pixI z - 1) && inB y 0 (pixI z - 1))) := by show _ = _; simp [pixB, h]
    obtain ⟨b1, b2⟩ := pixI_bd h
    generalize pixI z = u at *
    have i1 : ∀ w, (Instr.field 157 (.agg #[.int .i64 0, .int .i64 u]) 1).run Tryz.prog w = .ok (.int .i64 u) w := fun _ => by kernel_rfl
    cases hx : inB x 0 (u - 1) <;> cases hy : inB y 0 (u - 1)
    all_goals
      go_enter Tryz.func101, Tryz.ntmps101
      go_wp2_with (first
        | (go_at_call 127; refine (s1 _).mono ?_; rintro e w1 ⟨rfl, hb1⟩)
        | (go_at_call 88; refine (isWithin_any _ _ _ _).mono ?_; rintro e w' ⟨rfl, rfl⟩))
      all_goals (go_ret; exact ⟨ret_bool (by rw [hp.out, hx, hy]; rfl), by (repeat (first | exact Below.refl _ _ | assumption | refine Below.drew ?_ | refine bl_alloc ?_ _ | refine bl_then ?_ (by assumption) | refine Below.setCell ?_ (by first | omega | (simp; done) | (simp; omega)) _ | refine bl_store ?_ ?_ _ _))⟩)
theorem l4Centre_any (z x y : Int) (w : World) (h : pixB z x y = true) : Calls Tryz.prog 134 #[.int .i64 z, .int .i64 x, .int .i64 y] w fun e w' => e = .returned (.agg #[.int .i64 (centI z x), .int .i64 (centI z y)]) ∧ Below w.heap.size w w' := by
  have hz := pixB_zoom h
  have hb := pixB_in h
  have s1 := fun w => l3Unit_any z w hz
  clear h
  unfold centI
  rcases zoomB_cases hz with rfl | rfl | rfl | rfl
  all_goals
    simp only [show unitI 0 = 128 from rfl, show unitI 1 = 64 from rfl, show unitI 2 = 32 from rfl, show unitI 3 = 16 from rfl, show pixI 0 = 8 from rfl, show pixI 1 = 16 from rfl, show pixI 2 = 32 from rfl, show pixI 3 = 64 from rfl] at *
    obtain ⟨⟨x0, x1⟩, y0, y1⟩ := hb
    go_enter Tryz.func134, Tryz.ntmps134
    go_wp2_with (go_at_call 149; refine (s1 _).mono ?_; rintro e w1 ⟨rfl, rfl⟩)
    exact bodyPost_ret (v := .agg #[.int .i64 _, .int .i64 _]) (by simp [results, Tryz.results134, go_sem]) rfl ⟨rfl, by (repeat (first | exact Below.refl _ _ | assumption | refine Below.drew ?_ | refine bl_alloc ?_ _ | refine bl_then ?_ (by assumption) | refine Below.setCell ?_ (by first | omega | (simp; done) | (simp; omega)) _ | refine bl_store ?_ ?_ _ _))⟩
end Go.Proofs.YtciidkmonfmipaaGreat
/- What a feature without a fault has. -/

namespace Go.Proofs.YtciidkmonfmipaaGreat
open Go.RowKit
set_option linter.unusedSimpArgs false
set_option linter.unusedVariables false

/-- What a feature without a fault has. -/
theorem featC_zero {id la ki wi : Int} {n : Nat} {X Y : Nat → Int} {lab : ByteArray} {pr : Int} (h : featC id la ki wi n X Y lab pr = 0) :
    (ki = 1 ∨ ki = 2 ∨ ki = 3) ∧ 0 < n ∧ n ≤ 12 ∧ (ki ≤ n) ∧ (∀ i, i < n → inW (X i) (Y i) = true) ∧ lab.size ≤ 6 := by
  unfold featC at h
  split at h
  · rename_i h1
    split at h
    · rename_i h2
      split at h
      · rename_i h3
        split at h
        · rename_i h4
          have hk : 1 ≤ ki ∧ ki ≤ 3 := by
            simp [rngB, inB] at h1
            omega
          have hlab : lab.size ≤ 6 := by
            unfold labB at h4
            simp at h4
            exact h4.1
          have hin : ∀ i, i < n → inW (X i) (Y i) = true := of_decide_eq_true h3
          have hkk : ki = 1 ∨ ki = 2 ∨ ki = 3 := by omega
          refine ⟨hkk, ?_, ?_, ?_, hin, hlab⟩
          all_goals
            rcases hkk with rfl | rfl | rfl
            · simp [sizeB] at h2; omega
            · simp [sizeB, inB] at h2; omega
            · simp [sizeB, inB] at h2; omega
        · cases h
      · cases h
    · cases h
  · cases h
/-- What else a feature without a fault has. -/
theorem featC_rng {id la ki wi : Int} {n : Nat} {X Y : Nat → Int} {lab : ByteArray} {pr : Int} (h : featC id la ki wi n X Y lab pr = 0) :
    (1 ≤ id ∧ id ≤ 999) ∧ (0 ≤ la ∧ la ≤ 9) ∧ (0 ≤ wi ∧ wi ≤ 3) ∧ (0 ≤ pr ∧ pr ≤ 9) := by
  unfold featC at h
  split at h
  · rename_i h1
    simp [rngB, inB] at h1
    omega
  · cases h
/-- How many points a kind has. -/
def kindN (ki : Int) (n : Nat) : Prop := (ki = 1 ∧ n = 1) ∨ (ki = 2 ∧ 2 ≤ n) ∨ (ki = 3 ∧ 3 ≤ n)
theorem featC_point {id la wi : Int} {n : Nat} {X Y : Nat → Int} {lab : ByteArray} {pr : Int} (h : featC id la 1 wi n X Y lab pr = 0) : n = 1 := by
  unfold featC at h
  split at h
  · split at h
    · rename_i h2
      simp [sizeB] at h2
      omega
    · cases h
  · cases h
end Go.Proofs.YtciidkmonfmipaaGreat
/- How far from its points a feature is still seen. -/

namespace Go.Proofs.YtciidkmonfmipaaGreat
open Go.RowKit
set_option linter.unusedSimpArgs false
set_option linter.unusedVariables false
set_option maxRecDepth 100000

/-- The reach, doubled. -/
def reachI (wi z : Int) : Int := (wi + 1) * unitI z
theorem reach_bd {wi z : Int} (hw : 0 ≤ wi ∧ wi ≤ 3) (hz : zoomB z = true) : 16 ≤ reachI wi z ∧ reachI wi z ≤ 512 := by
  unfold reachI
  rcases zoomB_cases hz with rfl | rfl | rfl | rfl
  all_goals
    simp only [show unitI 0 = 128 from rfl, show unitI 1 = 64 from rfl, show unitI 2 = 32 from rfl, show unitI 3 = 16 from rfl]
    omega
theorem unit_lit {z : Int} (hz : zoomB z = true) : unitI z = 128 ∨ unitI z = 64 ∨ unitI z = 32 ∨ unitI z = 16 := by rcases zoomB_cases hz with rfl | rfl | rfl | rfl <;> simp [unitI]

set_option maxHeartbeats 1000000 in
theorem reachAt_any (id la ki wi z : Int) (v : Value) (lab : ByteArray) (pr : Int) (w : World) (hw : 0 ≤ wi ∧ wi ≤ 3) (hz : zoomB z = true) (hv : ∃ a n c, v = .slice a n c) :
    Calls Tryz.prog 97 #[.agg #[.int .i64 id, .int .i64 la, .int .i64 ki, .int .i64 wi, v, .string lab, .int .i64 pr], .int .i64 z] w fun e w' => e = .returned (.int .i64 (reachI wi z)) ∧ Below w.heap.size w w' := by
  obtain ⟨a, n, c, rfl⟩ := hv
  have s1 := fun w => impl_UnitAt_any z w
  have hv : unitV z = .agg #[.int .i64 0, .int .i64 (unitI z)] := by simp [unitV, hz]
  simp only [hv] at s1
  have hbd := unit_lit hz
  have hr : Hid (reachI wi z = (wi + 1) * unitI z) := rfl
  generalize unitI z = u at *
  have i1 : ∀ w, (Instr.field 157 (.agg #[.int .i64 0, .int .i64 u]) 1).run Tryz.prog w = .ok (.int .i64 u) w := fun _ => by kernel_rfl
  have hS := (show Hid _ from s1)
  clear s1 hv
  obtain ⟨hw0, hw1⟩ := hw
  go_enter Tryz.func97, Tryz.ntmps97
  go_wp2_with fail
  generalize hW : (w.alloc _ : World) = W
  have hB0 : Below w.heap.size w W := by subst hW; (repeat (first | exact Below.refl _ _ | assumption | refine Below.drew ?_ | refine bl_alloc ?_ _ | refine bl_then ?_ (by assumption) | refine Below.setCell ?_ (by first | omega | (simp; done) | (simp; omega)) _ | refine bl_store ?_ ?_ _ _))
  have c3 : ∀ W', Below W.heap.size W W' → W'.cell? ⟨w.heap.size, 3, none⟩ = some (.int .i64 wi) := fun W' h => by
    rw [h.cell (by subst hW; simp)]; subst hW; simp [go_sem]
  clear hW
  have hr0 : Below W.heap.size W W := Below.refl _ _
  rcases hbd with rfl | rfl | rfl | rfl
  all_goals
    go_region_held3 (fun W' => Below W.heap.size W W') ((repeat (first | exact Below.refl _ _ | assumption | refine Below.drew ?_ | refine bl_alloc ?_ _ | refine bl_then ?_ (by assumption) | refine Below.setCell ?_ (by first | omega | (simp; done) | (simp; omega)) _ | refine bl_store ?_ ?_ _ _)))
      (first | (go_at_call 102; refine (hS.out _).mono ?_; rintro e w' ⟨rfl, hb⟩))
    go_wp2
    go_ret
    exact ⟨ret_int (by rw [IntWalk.i64_in (wi + 1) (by omega), IntWalk.i64_in _ (by omega)]; exact hr.out.symm), bl_then hB0 (by assumption)⟩
end Go.Proofs.YtciidkmonfmipaaGreat
/- The centre of a pixel: the program and the model. -/

namespace Go.Proofs.YtciidkmonfmipaaGreat
open Go.RowKit
set_option linter.unusedSimpArgs false
set_option linter.unusedVariables false
set_option maxRecDepth 100000

theorem impl_CentreOf_any (z x y : Int) (w : World) : Calls Tryz.prog 68 #[.int .i64 z, .int .i64 x, .int .i64 y] w fun e w' => e = .returned (centV z x y) ∧ Below w.heap.size w w' := by
  go_enter Tryz.func68, Tryz.ntmps68
  go_wp2_with fail
  generalize hW : (w.alloc _ : World) = W
  have HB0 : Hid (Below w.heap.size w W) := by show Below _ _ _; subst hW; (repeat (first | exact Below.refl _ _ | assumption | refine Below.drew ?_ | refine bl_alloc ?_ _ | refine bl_then ?_ (by assumption) | refine Below.setCell ?_ (by first | omega | (simp; done) | (simp; omega)) _ | refine bl_store ?_ ?_ _ _))
  have HT : Hid (There W w.heap.size 3) := by
    show There _ _ _
    subst hW
    exact there3 w (.int .i64 0) (.int .i64 0) (.int .i64 0) 121
  have hsz : w.heap.size < W.heap.size := by subst hW; simp
  clear hW
  refine (isPixel_any _ _ _ _).mono ?_
  rintro e w1 ⟨rfl, hb1⟩
  have HT1 : Hid (There w1 w.heap.size 3) := HT.out.below hb1
  have HB1 : Hid (Below w.heap.size w w1) := bl_then HB0.out hb1
  have hsz1 : w.heap.size < w1.heap.size := Nat.lt_of_lt_of_le hsz hb1.size
  clear hb1 HT HB0
  cases h : pixB z x y
  · have hT' := HT1.out
    have t0 := hT'.cell 0 (by omega)
    have t1 := hT'.cell 1 (by omega)
    have t2 := hT'.cell 2 (by omega)
    have f0 := (hT' 0 (by omega)).2
    have f1 := (hT' 1 (by omega)).2
    have f2 := (hT' 2 (by omega)).2
    clear hT'
    go_wp2_with fail
    obtain ⟨q0, q1, q2⟩ := set3_at (a := .int .i64 3) (b := .int .i64 0) (c := .int .i64 0) HT1.out
    refine bodyPost_ret (v := .agg #[.int .i64 3, .int .i64 0, .int .i64 0]) (by simp [results, Tryz.results68, go_sem, q0, q1, q2]) rfl ⟨by simp [centV, h], ?_⟩
    have HB := HB1.out
    (repeat (first | exact Below.refl _ _ | assumption | refine Below.drew ?_ | refine bl_alloc ?_ _ | refine bl_then ?_ (by assumption) | refine Below.setCell ?_ (by first | omega | (simp; done) | (simp; omega)) _ | refine bl_store ?_ ?_ _ _))
  · have hz := pixB_zoom h
    have hb := pixB_in h
    have s1 := fun w => impl_UnitAt_any z w
    have hv : unitV z = .agg #[.int .i64 0, .int .i64 (unitI z)] := by simp [unitV, hz]
    simp only [hv] at s1
    have i1 : ∀ u w, (Instr.field 157 (.agg #[.int .i64 0, .int .i64 u]) 1).run Tryz.prog w = .ok (.int .i64 u) w := fun _ _ => by kernel_rfl
    have hc : Hid (centV z x y = .agg #[.int .i64 0, .int .i64 (centI z x), .int .i64 (centI z y)]) := by show _ = _; simp [centV, h]
    have hcx : centI z x = (2 * x + 1) * unitI z := rfl
    have hcy : centI z y = (2 * y + 1) * unitI z := rfl
    have hbd : unitI z = 128 ∨ unitI z = 64 ∨ unitI z = 32 ∨ unitI z = 16 := by rcases zoomB_cases hz with rfl | rfl | rfl | rfl <;> simp [unitI]
    have hpb := (pixI_bd hz).2
    go_wp2_with fail
    refine (s1 _).mono ?_
    rintro e w2 ⟨rfl, hb2⟩
    generalize unitI z = u at *
    generalize pixI z = m at *
    have hT' := HT1.out.below hb2
    have HT2 : Hid (There w2 w.heap.size 3) := hT'
    have t0 := hT'.cell 0 (by omega)
    have t1 := hT'.cell 1 (by omega)
    have t2 := hT'.cell 2 (by omega)
    have f0 := (hT' 0 (by omega)).2
    have f1 := (hT' 1 (by omega)).2
    have f2 := (hT' 2 (by omega)).2
    have HB2 : Hid (Below w.heap.size w w2) := bl_then HB1.out hb2
    have hsz2 : w.heap.size < w2.heap.size := Nat.lt_of_lt_of_le hsz1 hb2.size
    clear hT' hb2
    rcases hbd with rfl | rfl | rfl | rfl
    all_goals
      go_wp2_with fail
      obtain ⟨q0, q1, q2⟩ := set3_at (a := .int .i64 0) (b := .int .i64 (centI z x)) (c := .int .i64 (centI z y)) HT2.out
      rw [hcx, hcy] at q0 q1 q2
      refine bodyPost_ret (v := .agg #[.int .i64 0, .int .i64 (centI z x), .int .i64 (centI z y)]) (by simp [results, Tryz.results68, go_sem, q0, q1, q2, hcx, hcy]) rfl ⟨by rw [hc.out], ?_⟩
      have HB := HB2.out
      (repeat (first | exact Below.refl _ _ | assumption | refine Below.drew ?_ | refine bl_alloc ?_ _ | refine bl_then ?_ (by assumption) | refine Below.setCell ?_ (by first | omega | (simp; done) | (simp; omega)) _ | refine bl_store ?_ ?_ _ _))
end Go.Proofs.YtciidkmonfmipaaGreat
/- A row that is not empty. -/

namespace Go.Proofs.YtciidkmonfmipaaGreat
open Go.RowKit
set_option linter.unusedVariables false
end Go.Proofs.YtciidkmonfmipaaGreat
/- Whether the own points of a feature cover a centre: the program. -/

namespace Go.Proofs.YtciidkmonfmipaaGreat
open Go.RowKit
set_option linter.unusedSimpArgs false
set_option linter.unusedVariables false
set_option maxRecDepth 100000

/-- Whether doubled points cover a centre. -/
def coverB (ki wi z cx cy : Int) (D : List (Int × Int)) : Bool := if ki = 3 then insideB cx cy D.length (px D) (py D) else byB cx cy (reachI wi z) (px D) (py D) D.length
theorem coveringOf_area (w : World) : Calls Tryz.prog 95 #[.int .i64 3] w fun e w' => e = .returned (.func (.func 124) #[] #[]) ∧ w = w' := by
  go_enter Tryz.func95, Tryz.ntmps95
  go_wp2
  go_ret
  exact ⟨rfl, rfl⟩
theorem coveringOf_line (ki : Int) (w : World) (h : ki ≠ 3) : Calls Tryz.prog 95 #[.int .i64 ki] w fun e w' => e = .returned (.func (.func 125) #[] #[]) ∧ w = w' := by
  have hk : (ki == 3) = false := by simpa using h
  go_enter Tryz.func95, Tryz.ntmps95
  go_wp2
  go_ret
  exact ⟨rfl, rfl⟩
end Go.Proofs.YtciidkmonfmipaaGreat
