/- Whether points cover a centre. -/
import Derived.Test.YtiheemnjfihhfaaGreatVRasterTile7
import Derived.Test.YtiheemnjfihhfaaGreatVRasterTile11
import Derived.Test.YtiheemnjfihhfaaGreatVRasterTile12
import Derived.Test.YtiheemnjfihhfaaGreatVRasterTile17
namespace Go.Proofs.YtiheemnjfihhfaaGreat
open Go.RowKit
set_option linter.unusedSimpArgs false
set_option linter.unusedVariables false
set_option maxRecDepth 100000

/-- Whether it is near one of the ways, the first one from the first point to itself. -/
def byB (cx cy r : Int) (X Y : Nat → Int) : Nat → Bool
  | 0 => false
  | k + 1 => byB cx cy r X Y k || isNearB cx cy (X (k - 1)) (Y (k - 1)) (X k) (Y k) r
/-- Whether it is near one of the first segments. -/
def segB (cx cy r : Int) (X Y : Nat → Int) : Nat → Bool
  | 0 => false
  | k + 1 => segB cx cy r X Y k || isNearB cx cy (X k) (Y k) (X (k + 1)) (Y (k + 1)) r
theorem byB_seg (cx cy r : Int) (X Y : Nat → Int) : ∀ k, byB cx cy r X Y (k + 1) = (isNearB cx cy (X 0) (Y 0) (X 0) (Y 0) r || segB cx cy r X Y k)
  | 0 => by simp [byB, segB]
  | k + 1 => by
    rw [byB, byB_seg cx cy r X Y k, segB, Bool.or_assoc]
    rfl
theorem near_self {px py ax ay bx by' r : Int} (h : isNearB px py ax ay ax ay r = true) (hb : okP bx by' = true) : isNearB px py ax ay bx by' r = true := by
  simp only [isNearB, Bool.and_eq_true] at h ⊢
  obtain ⟨h1, h2, h3, h4, h5⟩ := h
  refine ⟨h1, h2, hb, h4, near_dist ?_⟩
  have := of_decide_eq_true h5
  have ha : alongI px py ax ay ax ay = 0 := by simp [alongI]
  simp only [overI, underI, ha, Int.le_refl, if_true] at this
  omega
theorem segB_first (cx cy r : Int) (X Y : Nat → Int) (h : isNearB cx cy (X 0) (Y 0) (X 1) (Y 1) r = true) : ∀ k, segB cx cy r X Y (k + 1) = true
  | 0 => by simp [segB, h]
  | k + 1 => by rw [segB, segB_first cx cy r X Y h k]; rfl
theorem byB_line (cx cy r : Int) (X Y : Nat → Int) (n : Nat) (hn : 2 ≤ n) (h1 : okP (X 1) (Y 1) = true) : byB cx cy r X Y n = segB cx cy r X Y (n - 1) := by
  obtain ⟨k, rfl⟩ : ∃ k, n = k + 2 := ⟨n - 2, by omega⟩
  rw [byB_seg]
  show _ = segB cx cy r X Y (k + 1)
  cases h : isNearB cx cy (X 0) (Y 0) (X 0) (Y 0) r
  · rfl
  · rw [segB_first cx cy r X Y (near_self h h1) k]; rfl
theorem byB_true {cx cy r : Int} {X Y : Nat → Int} (k : Nat) (h : byB cx cy r X Y k = true) : ∀ n, k ≤ n → byB cx cy r X Y n = true := by
  intro n hn
  induction n with
  | zero => rw [show k = 0 by omega] at h; exact h
  | succ m ih =>
    by_cases e : k = m + 1
    · rw [← e]; exact h
    · rw [byB, ih (by omega)]; rfl

theorem segB_true {cx cy r : Int} {X Y : Nat → Int} (k : Nat) (h : segB cx cy r X Y k = true) : ∀ n, k ≤ n → segB cx cy r X Y n = true := by
  intro n hn
  induction n with
  | zero => rw [show k = 0 by omega] at h; exact h
  | succ m ih =>
    by_cases e : k = m + 1
    · rw [← e]; exact h
    · rw [segB, ih (by omega)]; rfl

set_option maxHeartbeats 4000000 in
theorem isByLine_any (cx cy r : Int) (b n cap : Nat) (X Y : Nat → Int) (w : World) (hp : PtsAt w b 0 n X Y) (hbl : b < w.heap.size) (hn : 0 < n) (hmax : n ≤ 1048576) (hcap : n ≤ cap) :
    Calls Tryz.prog 72 #[.agg #[.int .i64 cx, .int .i64 cy], .slice (some ⟨b, 0, none⟩) n cap, .int .i64 r] w fun e w' => e = .returned (.bool (byB cx cy r X Y n)) ∧ Below w.heap.size w w' := by
  have HP : Hid (PtsAt w b 0 n X Y) := hp
  obtain ⟨e0, e1⟩ := hp 0 hn
  simp only [Nat.zero_add, Nat.zero_mul] at e0 e1
  clear hp
  have hni : (0 : Int) < (n : Int) := by omega
  go_enter Tryz.func72, Tryz.ntmps72
  go_wp2_with fail
  generalize hW : ((w.alloc _).alloc _ : World) = W
  have HB0 : Hid (Below w.heap.size w W) := by show Below _ _ _; subst hW; (repeat (first | exact Below.refl _ _ | assumption | refine Below.drew ?_ | refine bl_alloc ?_ _ | refine bl_then ?_ (by assumption) | refine Below.setCell ?_ (by first | omega | (simp; done) | (simp; omega)) _ | refine bl_store ?_ ?_ _ _))
  have hT : There W (w.heap.size + 1) 2 := by
    subst hW
    have := there2 (w.alloc (.cells #[.int .i64 cx, .int .i64 cy] 64)) (.int .i64 (X 0)) (.int .i64 (Y 0)) 64
    simpa using this
  have c00 : ∀ W', Below W.heap.size W W' → W'.cell? ⟨w.heap.size, 0, none⟩ = some (.int .i64 cx) := fun W' h => by
    rw [h.cell (by subst hW; simp <;> omega)]; subst hW; simp [go_sem]
  have c01 : ∀ W', Below W.heap.size W W' → W'.cell? ⟨w.heap.size, 1, none⟩ = some (.int .i64 cy) := fun W' h => by
    rw [h.cell (by subst hW; simp <;> omega)]; subst hW; simp [go_sem]
  have c10 : ∀ W', Below W.heap.size W W' → W'.cell? ⟨w.heap.size + 1, 0, none⟩ = some (.int .i64 (X 0)) := fun W' h => by
    rw [h.cell (by subst hW; simp <;> omega)]; subst hW; simp [go_sem]
  have c11 : ∀ W', Below W.heap.size W W' → W'.cell? ⟨w.heap.size + 1, 1, none⟩ = some (.int .i64 (Y 0)) := fun W' h => by
    rw [h.cell (by subst hW; simp <;> omega)]; subst hW; simp [go_sem]
  have hszW : W.heap.size = w.heap.size + 1 + 1 := by subst hW; simp
  clear hW
  have q0 := c00 W (Below.refl _ _)
  have q1 := c01 W (Below.refl _ _)
  have q2 := c10 W (Below.refl _ _)
  have q3 := c11 W (Below.refl _ _)
  clear c00 c01 c10 c11
  go_loopw [15] (fun i wr => ∃ k : Nat, k ≤ n ∧ i = .int .i64 (k : Int) ∧ byB cx cy r X Y k = false ∧ Below (w.heap.size + 1) W wr ∧ There wr (w.heap.size + 1) 2 ∧ wr.cell? ⟨w.heap.size + 1, 0, none⟩ = some (.int .i64 (X (k - 1))) ∧ wr.cell? ⟨w.heap.size + 1, 1, none⟩ = some (.int .i64 (Y (k - 1)))) (fun i _ => n - (intOf i).toNat)
  case atStart => exact ⟨0, by omega, rfl, rfl, Below.refl _ _, hT, q2, q3⟩
  case round =>
    obtain ⟨k, hk, rfl, hF, hB, hT', f0, f1⟩ := hrel
    have HB : Hid (Below (w.heap.size + 1) W wr) := hB
    have HBw : Hid (Below w.heap.size w wr) := HB0.out.trans (hB.mono (by omega))
    have HF : Hid (byB cx cy r X Y k = false) := hF
    have hszr := hB.size
    have g0 := (hB.cell (p := ⟨w.heap.size, 0, none⟩) (by show w.heap.size < _; omega)).trans q0
    have g1 := (hB.cell (p := ⟨w.heap.size, 1, none⟩) (by show w.heap.size < _; omega)).trans q1
    clear hB hF
    by_cases hlt : k < n
    · obtain ⟨hx, hy⟩ := (HP.out.below HBw.out hbl) k hlt
      simp only [Nat.zero_add] at hx hy
      have hi' : (k : Int) < (n : Int) := by omega
      have hbw : b < wr.heap.size := by omega
      have HT : Hid (There wr (w.heap.size + 1) 2) := hT'
      have hl0 : w.heap.size < wr.heap.size := by omega
      have hl1 : w.heap.size + 1 < wr.heap.size := by omega
      clear hT'
      go_wp2_with fail
      generalize hV : (wr.alloc _ : World) = V
      have hbV : Below wr.heap.size wr V := by subst hV; (repeat (first | exact Below.refl _ _ | assumption | refine Below.drew ?_ | refine bl_alloc ?_ _ | refine bl_then ?_ (by assumption) | refine Below.setCell ?_ (by first | omega | (simp; done) | (simp; omega)) _ | refine bl_store ?_ ?_ _ _))
      have d0 : ∀ W', Below V.heap.size V W' → W'.cell? ⟨wr.heap.size, 0, none⟩ = some (.int .i64 (X k)) := fun W' h => by
        rw [h.cell (by subst hV; simp)]; subst hV; simp [go_sem]
      have d1 : ∀ W', Below V.heap.size V W' → W'.cell? ⟨wr.heap.size, 1, none⟩ = some (.int .i64 (Y k)) := fun W' h => by
        rw [h.cell (by subst hV; simp)]; subst hV; simp [go_sem]
      have hszV : wr.heap.size < V.heap.size := by subst hV; simp
      clear hV hx hy
      refine (impl_IsNear_any _ _ _ _ _ _ _ _).mono ?_
      rintro e w1 ⟨rfl, hb1⟩
      have hbr1 := bl_then hbV hb1
      have HB1 : Hid (Below w.heap.size w w1) := bl_then HBw.out hbr1
      cases hq : isNearB cx cy (X (k - 1)) (Y (k - 1)) (X k) (Y k) r
      · have hT1 := HT.out.below hbr1
        have t0 := hT1.cell 0 (by omega)
        have t1 := hT1.cell 1 (by omega)
        have z0 := (hT1 0 (by omega)).2
        have z1 := (hT1 1 (by omega)).2
        have p0 := d0 w1 hb1
        have p1 := d1 w1 hb1
        have HT1 : Hid (There w1 (w.heap.size + 1) 2) := hT1
        have HBW1 : Hid (Below (w.heap.size + 1) W w1) := HB.out.trans (hbr1.mono (by omega))
        have hsz1 := hbr1.size
        have HK : Hid (byB cx cy r X Y (k + 1) = false) := by show _ = _; rw [byB, HF.out, hq]; rfl
        clear hT1 d0 d1 hbr1 hb1 hbV f0 f1 g0 g1
        go_wp2_with fail
        go_roundw
        case rel =>
          refine ⟨k + 1, by omega, by go_num, HK.out, (HBW1.out.setCell (by show w.heap.size + 1 ≤ w.heap.size + 1; omega) _).setCell (by show w.heap.size + 1 ≤ w.heap.size + 1; omega) _, ?_, set2_0 (Option.isSome_iff_exists.2 ⟨_, t0⟩), set2_1 (Option.isSome_iff_exists.2 ⟨_, t1⟩)⟩
          exact (HT1.out.set 0 _).set 1 _
        case measure => simp [intOf]; omega
      · have HK : Hid (byB cx cy r X Y n = true) := byB_true (k + 1) (by rw [byB, hq]; simp) n (by omega)
        go_wp2_with fail
        go_ret
        exact ⟨ret_bool (by rw [HK.out]), HB1.out⟩
    · have hkn : k = n := by omega
      subst hkn
      go_wp2_with fail
      go_ret
      exact ⟨ret_bool (by rw [HF.out]), HBw.out⟩
theorem isInArea_any (cx cy r : Int) (b n cap : Nat) (X Y : Nat → Int) (w : World) (hp : PtsAt w b 0 n X Y) (hbl : b < w.heap.size) (hmax : n ≤ 1048576) (hcap : n ≤ cap) :
    Calls Tryz.prog 71 #[.agg #[.int .i64 cx, .int .i64 cy], .slice (some ⟨b, 0, none⟩) n cap, .int .i64 r] w fun e w' => e = .returned (.bool (insideB cx cy n X Y)) ∧ Below w.heap.size w w' := by
  have HP : Hid (PtsAt w b 0 n X Y) := hp
  clear hp
  go_enter Tryz.func71, Tryz.ntmps71
  go_wp2_with fail
  generalize hW : (w.alloc _ : World) = W
  have hB0 : Below w.heap.size w W := by subst hW; (repeat (first | exact Below.refl _ _ | assumption | refine Below.drew ?_ | refine bl_alloc ?_ _ | refine bl_then ?_ (by assumption) | refine Below.setCell ?_ (by first | omega | (simp; done) | (simp; omega)) _ | refine bl_store ?_ ?_ _ _))
  clear hW
  refine (impl_IsInside_any _ _ b n cap X Y W (HP.out.below hB0 hbl) (Nat.lt_of_lt_of_le hbl hB0.size) hcap hmax).mono ?_
  rintro e w1 ⟨rfl, hb1⟩
  go_wp2_with fail
  go_ret
  exact ⟨rfl, bl_then hB0 hb1⟩
end Go.Proofs.YtiheemnjfihhfaaGreat
