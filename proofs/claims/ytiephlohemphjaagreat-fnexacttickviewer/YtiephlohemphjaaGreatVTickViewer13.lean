/- Texts. -/
import Derived.Test.YtiephlohemphjaaGreatVTickViewer11
import Derived.Test.YtiephlohemphjaaGreatVTickViewer10
set_option linter.unusedSimpArgs false
set_option linter.unusedVariables false
set_option maxRecDepth 100000
set_option maxHeartbeats 32000000
namespace Go.Proofs.YtiephlohemphjaaGreat
open Go.RowKit
theorem under_bd {px py ax ay bx by' : Int} (ha : okP ax ay = true) (hb : okP bx by' = true) : 0 ≤ underI px py ax ay bx by' ∧ underI px py ax ay bx by' ≤ 52428800 := by
 obtain ⟨d1,d2⟩ := dist_bd ha hb
 unfold underI
 split
 ·omega
 ·split <;> omega
theorem isNearB_no {px py ax ay bx by' r : Int} (h : r < 0 ∨ 4096 < r) : isNearB px py ax ay bx by' r = false := by
 have hr : inB r 0 4096 = false := by
  rcases h with h | h <;> simp [inB] <;> omega
 simp [isNearB,hr]
theorem impl_IsNear_neg (px py ax ay bx by' r : Int) (w : World) (h : r < 0) :
  Calls Tryz.prog 263 #[.agg #[.int .i64 px, .int .i64 py], .agg #[.int .i64 ax, .int .i64 ay], .agg #[.int .i64 bx, .int .i64 by'], .int .i64 r] w fun e w' => e = .returned (.bool (isNearB px py ax ay bx by' r)) ∧ Below w.heap.size w w' := by
 have HE : Hid _ := isNearB_no (px := px) (py := py) (ax := ax) (ay := ay) (bx := bx) (by' := by') (.inl h)
 go_enter Tryz.func263,Tryz.ntmps263
 go_wp2
 go_ret
 exact ⟨ret_bool HE.out.symm,by (repeat (first|exact Qr _ _|assumption|refine Qd ?_|refine Qa ?_ _|refine Qt ?_|refine Qs ?_ _|refine Qo ?_ ?_ _ _))⟩
theorem impl_IsNear_far (px py ax ay bx by' r : Int) (w : World) (h : 4096 < r) :
  Calls Tryz.prog 263 #[.agg #[.int .i64 px, .int .i64 py], .agg #[.int .i64 ax, .int .i64 ay], .agg #[.int .i64 bx, .int .i64 by'], .int .i64 r] w fun e w' => e = .returned (.bool (isNearB px py ax ay bx by' r)) ∧ Below w.heap.size w w' := by
 have HE : Hid _ := isNearB_no (px := px) (py := py) (ax := ax) (ay := ay) (bx := bx) (by' := by') (.inr h)
 have h2 : decide (r < 0) = false := by simp; omega
 go_enter Tryz.func263,Tryz.ntmps263
 go_wp2
 go_ret
 exact ⟨ret_bool HE.out.symm,by (repeat (first|exact Qr _ _|assumption|refine Qd ?_|refine Qa ?_ _|refine Qt ?_|refine Qs ?_ _|refine Qo ?_ ?_ _ _))⟩
theorem impl_IsNear_0 (px py ax ay bx by' r : Int) (w : World) (hr0 : 0 ≤ r) (hr1 : r ≤ 4096) (h : okP px py = false) :
  Calls Tryz.prog 263 #[.agg #[.int .i64 px, .int .i64 py], .agg #[.int .i64 ax, .int .i64 ay], .agg #[.int .i64 bx, .int .i64 by'], .int .i64 r] w fun e w' => e = .returned (.bool (isNearB px py ax ay bx by' r)) ∧ Below w.heap.size w w' := by
 have HN : Hid _ := codeN3_0 px py ax ay bx by' h
 have HE : Hid (isNearB px py ax ay bx by' r = false) := by
  show _ = _
  simp [isNearB,h]
 clear h
 go_enter Tryz.func263,Tryz.ntmps263
 go_wp2_with fail
 generalize hV : ((((w.alloc _).alloc _).alloc _).alloc _ : World) = V
 have hB0 : Below w.heap.size w V := by subst hV; exact Qb
 have g0 : V.cell? ⟨w.heap.size + 1 + 1 + 1,0,none⟩ = some (.int .i64 px) := by subst hV; simp [go_sem]
 have g1 : V.cell? ⟨w.heap.size + 1 + 1 + 1,1,none⟩ = some (.int .i64 py) := by subst hV; simp [go_sem]
 have g2 : V.cell? ⟨w.heap.size + 1 + 1 + 1,2,none⟩ = some (.int .i64 ax) := by subst hV; simp [go_sem]
 have g3 : V.cell? ⟨w.heap.size + 1 + 1 + 1,3,none⟩ = some (.int .i64 ay) := by subst hV; simp [go_sem]
 have g4 : V.cell? ⟨w.heap.size + 1 + 1 + 1,4,none⟩ = some (.int .i64 bx) := by subst hV; simp [go_sem]
 have g5 : V.cell? ⟨w.heap.size + 1 + 1 + 1,5,none⟩ = some (.int .i64 by') := by subst hV; simp [go_sem]
 clear hV
 have HB0 : Hid (Below w.heap.size w V) := hB0
 clear hB0
 refine (faultIn3 _ _ px py ax ay bx by' _ _ g0 g1 g2 g3 g4 g5 (by omega) HN.out).mono ?_
 rintro e W ⟨rfl,hbW⟩
 clear g0 g1 g2 g3 g4 g5
 go_wp2
 go_ret
 exact ⟨ret_bool HE.out.symm,bl_then HB0.out hbW⟩
theorem impl_IsNear_1 (px py ax ay bx by' r : Int) (w : World) (hr0 : 0 ≤ r) (hr1 : r ≤ 4096) (h : okP ax ay = false) :
  Calls Tryz.prog 263 #[.agg #[.int .i64 px, .int .i64 py], .agg #[.int .i64 ax, .int .i64 ay], .agg #[.int .i64 bx, .int .i64 by'], .int .i64 r] w fun e w' => e = .returned (.bool (isNearB px py ax ay bx by' r)) ∧ Below w.heap.size w w' := by
 have HN : Hid _ := codeN3_1 px py ax ay bx by' h
 have HE : Hid (isNearB px py ax ay bx by' r = false) := by
  show _ = _
  simp [isNearB,h]
 clear h
 go_enter Tryz.func263,Tryz.ntmps263
 go_wp2_with fail
 generalize hV : ((((w.alloc _).alloc _).alloc _).alloc _ : World) = V
 have hB0 : Below w.heap.size w V := by subst hV; exact Qb
 have g0 : V.cell? ⟨w.heap.size + 1 + 1 + 1,0,none⟩ = some (.int .i64 px) := by subst hV; simp [go_sem]
 have g1 : V.cell? ⟨w.heap.size + 1 + 1 + 1,1,none⟩ = some (.int .i64 py) := by subst hV; simp [go_sem]
 have g2 : V.cell? ⟨w.heap.size + 1 + 1 + 1,2,none⟩ = some (.int .i64 ax) := by subst hV; simp [go_sem]
 have g3 : V.cell? ⟨w.heap.size + 1 + 1 + 1,3,none⟩ = some (.int .i64 ay) := by subst hV; simp [go_sem]
 have g4 : V.cell? ⟨w.heap.size + 1 + 1 + 1,4,none⟩ = some (.int .i64 bx) := by subst hV; simp [go_sem]
 have g5 : V.cell? ⟨w.heap.size + 1 + 1 + 1,5,none⟩ = some (.int .i64 by') := by subst hV; simp [go_sem]
 clear hV
 have HB0 : Hid (Below w.heap.size w V) := hB0
 clear hB0
 refine (faultIn3 _ _ px py ax ay bx by' _ _ g0 g1 g2 g3 g4 g5 (by omega) HN.out).mono ?_
 rintro e W ⟨rfl,hbW⟩
 clear g0 g1 g2 g3 g4 g5
 go_wp2
 go_ret
 exact ⟨ret_bool HE.out.symm,bl_then HB0.out hbW⟩
theorem impl_IsNear_2 (px py ax ay bx by' r : Int) (w : World) (hr0 : 0 ≤ r) (hr1 : r ≤ 4096) (h : okP bx by' = false) :
  Calls Tryz.prog 263 #[.agg #[.int .i64 px, .int .i64 py], .agg #[.int .i64 ax, .int .i64 ay], .agg #[.int .i64 bx, .int .i64 by'], .int .i64 r] w fun e w' => e = .returned (.bool (isNearB px py ax ay bx by' r)) ∧ Below w.heap.size w w' := by
 have HN : Hid _ := codeN3_2 px py ax ay bx by' h
 have HE : Hid (isNearB px py ax ay bx by' r = false) := by
  show _ = _
  simp [isNearB,h]
 clear h
 go_enter Tryz.func263,Tryz.ntmps263
 go_wp2_with fail
 generalize hV : ((((w.alloc _).alloc _).alloc _).alloc _ : World) = V
 have hB0 : Below w.heap.size w V := by subst hV; exact Qb
 have g0 : V.cell? ⟨w.heap.size + 1 + 1 + 1,0,none⟩ = some (.int .i64 px) := by subst hV; simp [go_sem]
 have g1 : V.cell? ⟨w.heap.size + 1 + 1 + 1,1,none⟩ = some (.int .i64 py) := by subst hV; simp [go_sem]
 have g2 : V.cell? ⟨w.heap.size + 1 + 1 + 1,2,none⟩ = some (.int .i64 ax) := by subst hV; simp [go_sem]
 have g3 : V.cell? ⟨w.heap.size + 1 + 1 + 1,3,none⟩ = some (.int .i64 ay) := by subst hV; simp [go_sem]
 have g4 : V.cell? ⟨w.heap.size + 1 + 1 + 1,4,none⟩ = some (.int .i64 bx) := by subst hV; simp [go_sem]
 have g5 : V.cell? ⟨w.heap.size + 1 + 1 + 1,5,none⟩ = some (.int .i64 by') := by subst hV; simp [go_sem]
 clear hV
 have HB0 : Hid (Below w.heap.size w V) := hB0
 clear hB0
 refine (faultIn3 _ _ px py ax ay bx by' _ _ g0 g1 g2 g3 g4 g5 (by omega) HN.out).mono ?_
 rintro e W ⟨rfl,hbW⟩
 clear g0 g1 g2 g3 g4 g5
 go_wp2
 go_ret
 exact ⟨ret_bool HE.out.symm,bl_then HB0.out hbW⟩
theorem impl_IsNear_ok (px py ax ay bx by' r : Int) (w : World) (hr0 : 0 ≤ r) (hr1 : r ≤ 4096) (hp : okP px py = true) (ha : okP ax ay = true) (hb : okP bx by' = true) :
  Calls Tryz.prog 263 #[.agg #[.int .i64 px, .int .i64 py], .agg #[.int .i64 ax, .int .i64 ay], .agg #[.int .i64 bx, .int .i64 by'], .int .i64 r] w fun e w' => e = .returned (.bool (isNearB px py ax ay bx by' r)) ∧ Below w.heap.size w w' := by
 have HN : Hid _ := codeN3_ok px py ax ay bx by' hp ha hb
 have HE : Hid (isNearB px py ax ay bx by' r = decide (overI px py ax ay bx by' ≤ r * r * underI px py ax ay bx by')) := by
  show _ = _
  have hr : inB r 0 4096 = true := by simp [inB]; omega
  simp [isNearB,hp,ha,hb,hr,nearB]
 obtain ⟨s1,s2⟩ := sq_bd hr0 hr1
 obtain ⟨d1,d2⟩ := under_bd (px := px) (py := py) ha hb
 obtain ⟨x5,x6⟩ := mul_bd (a := r * r) (b := underI px py ax ay bx by') (B := 16777216) (C := 52428800) (by omega) (by omega) (by omega) (by omega) (by omega)
 have HP : Hid _ := hp
 have HA : Hid _ := ha
 have HB : Hid _ := hb
 clear hp ha hb
 go_enter Tryz.func263,Tryz.ntmps263
 go_wp2_with fail
 generalize hV : ((((w.alloc _).alloc _).alloc _).alloc _ : World) = V
 have hB0 : Below w.heap.size w V := by subst hV; exact Qb
 have g0 : V.cell? ⟨w.heap.size + 1 + 1 + 1,0,none⟩ = some (.int .i64 px) := by subst hV; simp [go_sem]
 have g1 : V.cell? ⟨w.heap.size + 1 + 1 + 1,1,none⟩ = some (.int .i64 py) := by subst hV; simp [go_sem]
 have g2 : V.cell? ⟨w.heap.size + 1 + 1 + 1,2,none⟩ = some (.int .i64 ax) := by subst hV; simp [go_sem]
 have g3 : V.cell? ⟨w.heap.size + 1 + 1 + 1,3,none⟩ = some (.int .i64 ay) := by subst hV; simp [go_sem]
 have g4 : V.cell? ⟨w.heap.size + 1 + 1 + 1,4,none⟩ = some (.int .i64 bx) := by subst hV; simp [go_sem]
 have g5 : V.cell? ⟨w.heap.size + 1 + 1 + 1,5,none⟩ = some (.int .i64 by') := by subst hV; simp [go_sem]
 have c00 : ∀ W',Below V.heap.size V W' → W'.cell? ⟨w.heap.size,0,none⟩ = some (.int .i64 px) := fun W' h => by
  rw [h.cell (by subst hV; simp <;> omega)]; subst hV; simp [go_sem]
 have c01 : ∀ W',Below V.heap.size V W' → W'.cell? ⟨w.heap.size,1,none⟩ = some (.int .i64 py) := fun W' h => by
  rw [h.cell (by subst hV; simp <;> omega)]; subst hV; simp [go_sem]
 have c10 : ∀ W',Below V.heap.size V W' → W'.cell? ⟨w.heap.size + 1,0,none⟩ = some (.int .i64 ax) := fun W' h => by
  rw [h.cell (by subst hV; simp <;> omega)]; subst hV; simp [go_sem]
 have c11 : ∀ W',Below V.heap.size V W' → W'.cell? ⟨w.heap.size + 1,1,none⟩ = some (.int .i64 ay) := fun W' h => by
  rw [h.cell (by subst hV; simp <;> omega)]; subst hV; simp [go_sem]
 have c20 : ∀ W',Below V.heap.size V W' → W'.cell? ⟨w.heap.size + 1 + 1,0,none⟩ = some (.int .i64 bx) := fun W' h => by
  rw [h.cell (by subst hV; simp <;> omega)]; subst hV; simp [go_sem]
 have c21 : ∀ W',Below V.heap.size V W' → W'.cell? ⟨w.heap.size + 1 + 1,1,none⟩ = some (.int .i64 by') := fun W' h => by
  rw [h.cell (by subst hV; simp <;> omega)]; subst hV; simp [go_sem]
 clear hV
 have HB0 : Hid (Below w.heap.size w V) := hB0
 clear hB0
 refine (faultIn3 _ _ px py ax ay bx by' _ _ g0 g1 g2 g3 g4 g5 (by omega) HN.out).mono ?_
 rintro e W ⟨rfl,hbW⟩
 clear g0 g1 g2 g3 g4 g5
 replace HB0 : Hid (Below w.heap.size w W) := bl_then HB0.out hbW
 have HVW : Hid (∀ W',Below W.heap.size W W' → Below V.heap.size V W') := fun W' h => bl_then hbW h
 replace c00 := fun W' h => c00 W' (HVW.out W' h)
 replace c01 := fun W' h => c01 W' (HVW.out W' h)
 replace c10 := fun W' h => c10 W' (HVW.out W' h)
 replace c11 := fun W' h => c11 W' (HVW.out W' h)
 replace c20 := fun W' h => c20 W' (HVW.out W' h)
 replace c21 := fun W' h => c21 W' (HVW.out W' h)
 clear hbW
 go_wp2
 go_region_held3 (fun W' => Below W.heap.size W W') ((repeat (first|exact Qr _ _|assumption|refine Qd ?_|refine Qa ?_ _|refine Qt ?_|refine Qs ?_ _|refine Qo ?_ ?_ _ _)))
  (first
   | (go_at_call 272; refine (pairOf_any _ _ _).mono ?_; rintro e w1 ⟨rfl,hb⟩)
   | (go_at_call 274; refine (gapOf_any _ _ _ _ _ _ _ HP.out HA.out HB.out).mono ?_; rintro e w1 ⟨rfl,hb⟩))
 go_wp2
 go_ret
 exact ⟨ret_bool HE.out.symm,bl_then HB0.out (by assumption)⟩
theorem impl_IsNear_any (px py ax ay bx by' r : Int) (w : World) : Calls Tryz.prog 263 #[.agg #[.int .i64 px, .int .i64 py], .agg #[.int .i64 ax, .int .i64 ay], .agg #[.int .i64 bx, .int .i64 by'], .int .i64 r] w fun e w' => e = .returned (.bool (isNearB px py ax ay bx by' r)) ∧ Below w.heap.size w w' := by
 by_cases h0 : r < 0
 ·exact impl_IsNear_neg _ _ _ _ _ _ _ _ h0
 by_cases h1 : 4096 < r
 ·exact impl_IsNear_far _ _ _ _ _ _ _ _ h1
 have hr0 : 0 ≤ r := by omega
 have hr1 : r ≤ 4096 := by omega
 cases hp : okP px py
 ·exact impl_IsNear_0 _ _ _ _ _ _ _ _ hr0 hr1 hp
 cases ha : okP ax ay
 ·exact impl_IsNear_1 _ _ _ _ _ _ _ _ hr0 hr1 ha
 cases hb : okP bx by'
 ·exact impl_IsNear_2 _ _ _ _ _ _ _ _ hr0 hr1 hb
 exact impl_IsNear_ok _ _ _ _ _ _ _ _ hr0 hr1 hp ha hb
theorem dist_via (px py ax ay bx by' : Int) : distI px py bx by' = distI px py ax ay - 2 * alongI px py ax ay bx by' + distI ax ay bx by' := by
 unfold distI alongI; grind
theorem lagrange (px py ax ay bx by' : Int) : crossI ax ay bx by' px py * crossI ax ay bx by' px py + alongI px py ax ay bx by' * alongI px py ax ay bx by' = distI ax ay bx by' * distI px py ax ay := by
 unfold crossI alongI distI; grind
theorem dist_nonneg (ax ay bx by' : Int) : 0 ≤ distI ax ay bx by' := by
 have s1 := sq_nonneg (bx - ax)
 have s2 := sq_nonneg (by' - ay)
 unfold distI; omega
theorem near_dist {px py ax ay bx by' r : Int} (h : distI px py ax ay ≤ r * r) : nearB px py ax ay bx by' r = true := by
 have hs := dist_nonneg ax ay bx by'
 have hv := dist_via px py ax ay bx by'
 have hl := lagrange px py ax ay bx by'
 have hq := sq_nonneg (alongI px py ax ay bx by')
 apply decide_eq_true
 unfold overI underI
 by_cases c1 : alongI px py ax ay bx by' ≤ 0
 ·simp only [c1,if_true]; omega
 ·by_cases c2 : distI ax ay bx by' ≤ alongI px py ax ay bx by'
  ·simp only [c1,c2,if_true,if_false]; omega
  ·simp only [c1,c2,if_false]
   have h3 : distI ax ay bx by' * distI px py ax ay ≤ distI ax ay bx by' * (r * r) := Int.mul_le_mul_of_nonneg_left h hs
   rw [Int.mul_comm (r * r)]
   omega
def byB (cx cy r : Int) (X Y : Nat → Int) : Nat → Bool
 | 0 => false
 | k + 1 => byB cx cy r X Y k || isNearB cx cy (X (k - 1)) (Y (k - 1)) (X k) (Y k) r
def segB (cx cy r : Int) (X Y : Nat → Int) : Nat → Bool
 | 0 => false
 | k + 1 => segB cx cy r X Y k || isNearB cx cy (X k) (Y k) (X (k + 1)) (Y (k + 1)) r
theorem byB_seg (cx cy r : Int) (X Y : Nat → Int) : ∀ k,byB cx cy r X Y (k + 1) = (isNearB cx cy (X 0) (Y 0) (X 0) (Y 0) r || segB cx cy r X Y k)
 | 0 => by simp [byB,segB]
 | k + 1 => by
  rw [byB,byB_seg cx cy r X Y k,segB,Bool.or_assoc]
  rfl
theorem near_self {px py ax ay bx by' r : Int} (h : isNearB px py ax ay ax ay r = true) (hb : okP bx by' = true) : isNearB px py ax ay bx by' r = true := by
 simp only [isNearB,Bool.and_eq_true] at h ⊢
 obtain ⟨h1,h2,h3,h4,h5⟩ := h
 refine ⟨h1,h2,hb,h4,near_dist ?_⟩
 have := of_decide_eq_true h5
 have ha : alongI px py ax ay ax ay = 0 := by simp [alongI]
 simp only [overI,underI,ha,Int.le_refl,if_true] at this
 omega
theorem segB_first (cx cy r : Int) (X Y : Nat → Int) (h : isNearB cx cy (X 0) (Y 0) (X 1) (Y 1) r = true) : ∀ k,segB cx cy r X Y (k + 1) = true
 | 0 => by simp [segB,h]
 | k + 1 => by rw [segB,segB_first cx cy r X Y h k]; rfl
theorem byB_line (cx cy r : Int) (X Y : Nat → Int) (n : Nat) (hn : 2 ≤ n) (h1 : okP (X 1) (Y 1) = true) : byB cx cy r X Y n = segB cx cy r X Y (n - 1) := by
 obtain ⟨k,rfl⟩ : ∃ k,n = k + 2 := ⟨n - 2,by omega⟩
 rw [byB_seg]
 show _ = segB cx cy r X Y (k + 1)
 cases h : isNearB cx cy (X 0) (Y 0) (X 0) (Y 0) r
 ·rfl
 ·rw [segB_first cx cy r X Y (near_self h h1) k]; rfl
theorem byB_true {cx cy r : Int} {X Y : Nat → Int} (k : Nat) (h : byB cx cy r X Y k = true) : ∀ n,k ≤ n → byB cx cy r X Y n = true := by
 intro n hn
 induction n with
 | zero => rw [show k = 0 by omega] at h; exact h
 | succ m ih =>
  by_cases e : k = m + 1
  ·rw [← e]; exact h
  ·rw [byB,ih (by omega)]; rfl
theorem segB_true {cx cy r : Int} {X Y : Nat → Int} (k : Nat) (h : segB cx cy r X Y k = true) : ∀ n,k ≤ n → segB cx cy r X Y n = true := by
 intro n hn
 induction n with
 | zero => rw [show k = 0 by omega] at h; exact h
 | succ m ih =>
  by_cases e : k = m + 1
  ·rw [← e]; exact h
  ·rw [segB,ih (by omega)]; rfl
theorem isByLine_any (cx cy r : Int) (b n cap : Nat) (X Y : Nat → Int) (w : World) (hp : PtsAt w b 0 n X Y) (hbl : b < w.heap.size) (hn : 0 < n) (hmax : n ≤ 1048576) (hcap : n ≤ cap) :
  Calls Tryz.prog 241 #[.agg #[.int .i64 cx, .int .i64 cy], .slice (some ⟨b,0,none⟩) n cap, .int .i64 r] w fun e w' => e = .returned (.bool (byB cx cy r X Y n)) ∧ Below w.heap.size w w' := by
 have HP : Hid (PtsAt w b 0 n X Y) := hp
 obtain ⟨e0,e1⟩ := hp 0 hn
 simp only [Nat.zero_add,Nat.zero_mul] at e0 e1
 clear hp
 have hni : (0 : Int) < (n : Int) := by omega
 go_enter Tryz.func241,Tryz.ntmps241
 go_wp2_with fail
 generalize hW : ((w.alloc _).alloc _ : World) = W
 have HB0 : Hid (Below w.heap.size w W) := by show Below _ _ _; subst hW; exact Qb
 have hT : There W (w.heap.size + 1) 2 := by
  subst hW
  have := there2 (w.alloc (.cells #[.int .i64 cx, .int .i64 cy] 230)) (.int .i64 (X 0)) (.int .i64 (Y 0)) 230
  simpa using this
 have c00 : ∀ W',Below W.heap.size W W' → W'.cell? ⟨w.heap.size,0,none⟩ = some (.int .i64 cx) := fun W' h => by
  rw [h.cell (by subst hW; simp <;> omega)]; subst hW; simp [go_sem]
 have c01 : ∀ W',Below W.heap.size W W' → W'.cell? ⟨w.heap.size,1,none⟩ = some (.int .i64 cy) := fun W' h => by
  rw [h.cell (by subst hW; simp <;> omega)]; subst hW; simp [go_sem]
 have c10 : ∀ W',Below W.heap.size W W' → W'.cell? ⟨w.heap.size + 1,0,none⟩ = some (.int .i64 (X 0)) := fun W' h => by
  rw [h.cell (by subst hW; simp <;> omega)]; subst hW; simp [go_sem]
 have c11 : ∀ W',Below W.heap.size W W' → W'.cell? ⟨w.heap.size + 1,1,none⟩ = some (.int .i64 (Y 0)) := fun W' h => by
  rw [h.cell (by subst hW; simp <;> omega)]; subst hW; simp [go_sem]
 have hszW : W.heap.size = w.heap.size + 1 + 1 := by subst hW; simp
 clear hW
 have q0 := c00 W (Below.refl _ _)
 have q1 := c01 W (Below.refl _ _)
 have q2 := c10 W (Below.refl _ _)
 have q3 := c11 W (Below.refl _ _)
 clear c00 c01 c10 c11
 go_loopw [15] (fun i wr => ∃ k : Nat,k ≤ n ∧ i = .int .i64 (k : Int) ∧ byB cx cy r X Y k = false ∧ Below (w.heap.size + 1) W wr ∧ There wr (w.heap.size + 1) 2 ∧ wr.cell? ⟨w.heap.size + 1,0,none⟩ = some (.int .i64 (X (k - 1))) ∧ wr.cell? ⟨w.heap.size + 1,1,none⟩ = some (.int .i64 (Y (k - 1)))) (fun i _ => n - (intOf i).toNat)
 case atStart => exact ⟨0,by omega,rfl,rfl,Below.refl _ _,hT,q2,q3⟩
 case round =>
  obtain ⟨k,hk,rfl,hF,hB,hT',f0,f1⟩ := hrel
  have HB : Hid (Below (w.heap.size + 1) W wr) := hB
  have HBw : Hid (Below w.heap.size w wr) := HB0.out.trans (hB.mono (by omega))
  have HF : Hid (byB cx cy r X Y k = false) := hF
  have hszr := hB.size
  have g0 := (hB.cell (p := ⟨w.heap.size,0,none⟩) (by show w.heap.size < _; omega)).trans q0
  have g1 := (hB.cell (p := ⟨w.heap.size,1,none⟩) (by show w.heap.size < _; omega)).trans q1
  clear hB hF
  by_cases hlt : k < n
  ·obtain ⟨hx,hy⟩ := (HP.out.below HBw.out hbl) k hlt
   simp only [Nat.zero_add] at hx hy
   have hi' : (k : Int) < (n : Int) := by omega
   have hbw : b < wr.heap.size := by omega
   have HT : Hid (There wr (w.heap.size + 1) 2) := hT'
   have hl0 : w.heap.size < wr.heap.size := by omega
   have hl1 : w.heap.size + 1 < wr.heap.size := by omega
   clear hT'
   go_wp2_with fail
   generalize hV : (wr.alloc _ : World) = V
   have hbV : Below wr.heap.size wr V := by subst hV; exact Qb
   have d0 : ∀ W',Below V.heap.size V W' → W'.cell? ⟨wr.heap.size,0,none⟩ = some (.int .i64 (X k)) := fun W' h => by
    rw [h.cell (by subst hV; simp)]; subst hV; simp [go_sem]
   have d1 : ∀ W',Below V.heap.size V W' → W'.cell? ⟨wr.heap.size,1,none⟩ = some (.int .i64 (Y k)) := fun W' h => by
    rw [h.cell (by subst hV; simp)]; subst hV; simp [go_sem]
   have hszV : wr.heap.size < V.heap.size := by subst hV; simp
   clear hV hx hy
   refine (impl_IsNear_any _ _ _ _ _ _ _ _).mono ?_
   rintro e w1 ⟨rfl,hb1⟩
   have hbr1 := bl_then hbV hb1
   have HB1 : Hid (Below w.heap.size w w1) := bl_then HBw.out hbr1
   cases hq : isNearB cx cy (X (k - 1)) (Y (k - 1)) (X k) (Y k) r
   ·have hT1 := HT.out.below hbr1
    have t0 := hT1.cell 0 (by omega)
    have t1 := hT1.cell 1 (by omega)
    have z0 := (hT1 0 (by omega)).2
    have z1 := (hT1 1 (by omega)).2
    have p0 := d0 w1 hb1
    have p1 := d1 w1 hb1
    have HT1 : Hid (There w1 (w.heap.size + 1) 2) := hT1
    have HBW1 : Hid (Below (w.heap.size + 1) W w1) := HB.out.trans (hbr1.mono (by omega))
    have hsz1 := hbr1.size
    have HK : Hid (byB cx cy r X Y (k + 1) = false) := by show _ = _; rw [byB,HF.out,hq]; rfl
    clear hT1 d0 d1 hbr1 hb1 hbV f0 f1 g0 g1
    go_wp2_with fail
    go_roundw
    case rel =>
     refine ⟨k + 1,by omega,by go_num,HK.out,(HBW1.out.setCell (by show w.heap.size + 1 ≤ w.heap.size + 1; omega) _).setCell (by show w.heap.size + 1 ≤ w.heap.size + 1; omega) _,?_,set2_0 (Option.isSome_iff_exists.2 ⟨_,t0⟩),set2_1 (Option.isSome_iff_exists.2 ⟨_,t1⟩)⟩
     exact (HT1.out.set 0 _).set 1 _
    case measure => simp [intOf]; omega
   ·have HK : Hid (byB cx cy r X Y n = true) := byB_true (k + 1) (by rw [byB,hq]; simp) n (by omega)
    go_wp2_with fail
    go_ret
    exact ⟨ret_bool (by rw [HK.out]),HB1.out⟩
  ·have hkn : k = n := by omega
   subst hkn
   go_wp2_with fail
   go_ret
   exact ⟨ret_bool (by rw [HF.out]),HBw.out⟩
theorem isInArea_any (cx cy r : Int) (b n cap : Nat) (X Y : Nat → Int) (w : World) (hp : PtsAt w b 0 n X Y) (hbl : b < w.heap.size) (hmax : n ≤ 1048576) (hcap : n ≤ cap) :
  Calls Tryz.prog 240 #[.agg #[.int .i64 cx, .int .i64 cy], .slice (some ⟨b,0,none⟩) n cap, .int .i64 r] w fun e w' => e = .returned (.bool (insideB cx cy n X Y)) ∧ Below w.heap.size w w' := by
 have HP : Hid (PtsAt w b 0 n X Y) := hp
 clear hp
 go_enter Tryz.func240,Tryz.ntmps240
 go_wp2_with fail
 generalize hW : (w.alloc _ : World) = W
 have hB0 : Below w.heap.size w W := by subst hW; exact Qb
 clear hW
 refine (impl_IsInside_any _ _ b n cap X Y W (HP.out.below hB0 hbl) (Nat.lt_of_lt_of_le hbl hB0.size) hcap hmax).mono ?_
 rintro e w1 ⟨rfl,hb1⟩
 go_wp2_with fail
 go_ret
 exact ⟨rfl,bl_then hB0 hb1⟩
theorem raster_any (f : Nat) (caps : Array Value) (z x y : Int) (G : Int → Int → Int) (w : World) (h : refB z x y = true) (hce : ∀ args w,(callFunc f args).run Tryz.prog w = .ok (.enter f args) w)
  (hF : ∀ W c r,Below w.heap.size w W → c < 8 → r < 8 → Calls Tryz.prog f (#[.int .i64 (x * 8 + (c : Nat)), .int .i64 (y * 8 + (r : Nat))] ++ caps) W fun e W' => e = .returned (.int .i64 (G (x * 8 + (c : Nat)) (y * 8 + (r : Nat)))) ∧ Below W.heap.size W W') :
  Calls Tryz.prog 183 #[refV z x y, .func (.func f) #[] caps] w fun e w' => ∃ v,e = .returned v ∧ RowN w.heap.size w' v (rowsL G (x * 8) (y * 8) 8 8) ∧ Below w.heap.size w w' := by
 obtain ⟨⟨z0,z1⟩,⟨x0,x1⟩,y0,y1⟩ := ref_bd h
 have HF := (show Hid _ from hF)
 have HE := (show Hid _ from hce)
 clear hF hce h
 go_enter Tryz.func183,Tryz.ntmps183
 go_wp2_with fail
 generalize hW : (w.alloc _ : World) = W
 have hB0 : Below w.heap.size w W := by subst hW; exact Qb
 clear hW
 refine (rowByRow_any f caps (x * 8) (y * 8) 8 8 G W (Nat.le_refl _) (Nat.le_refl _) (by omega) (by omega) HE.out (fun W' c r hb hc hr => HF.out W' c r (bl_then hB0 hb) hc hr)).mono ?_
 rintro e w' ⟨v,rfl,hO,hb⟩
 have HB : Hid (Below w.heap.size w w') := bl_then hB0 hb
 have HO : Hid (RowN w.heap.size w' v (rowsL G (x * 8) (y * 8) 8 8)) := hO.wide hB0.size
 clear hO hb hB0
 go_wp2_with fail
 go_ret
 exact ⟨_,rfl,HO.out,HB.out⟩
structure Req where
 z : Int
 x : Int
 y : Int
 du : Int
 tr : Int
abbrev reqV (e : Req) : Value := .agg #[.int .i64 e.z, .int .i64 e.x, .int .i64 e.y, .int .i64 e.du, .int .i64 e.tr]
def ReqAt (w : World) (p o : Nat) (e : Req) : Prop := w.cell? ⟨p,o,none⟩ = some (.int .i64 e.z) ∧ w.cell? ⟨p,o + 1,none⟩ = some (.int .i64 e.x) ∧ w.cell? ⟨p,o + 2,none⟩ = some (.int .i64 e.y) ∧ w.cell? ⟨p,o + 3,none⟩ = some (.int .i64 e.du) ∧ w.cell? ⟨p,o + 4,none⟩ = some (.int .i64 e.tr)
theorem ReqAt.below {w w' : World} {p o B : Nat} {e : Req} (h : ReqAt w p o e) (hb : Below B w w') (hp : p < B) : ReqAt w' p o e := by
 obtain ⟨h0,h1,h2,h3,h4⟩ := h
 exact ⟨(hb.cell (p := ⟨p,o,none⟩) hp).trans h0,(hb.cell (p := ⟨p,o + 1,none⟩) hp).trans h1,(hb.cell (p := ⟨p,o + 2,none⟩) hp).trans h2,(hb.cell (p := ⟨p,o + 3,none⟩) hp).trans h3,(hb.cell (p := ⟨p,o + 4,none⟩) hp).trans h4⟩
def WsAt (w : World) (p off n : Nat) (E : Nat → Req) : Prop := ∀ i,i < n → ReqAt w p (off + i * 5) (E i)
theorem WsAt.below {w w' : World} {p off n B : Nat} {E : Nat → Req} (h : WsAt w p off n E) (hb : Below B w w') (hp : p < B) : WsAt w' p off n E := fun i hi => (h i hi).below hb hp
def IsWs (w : World) (a : Option Addr) (n : Nat) (E : Nat → Req) : Prop := n = 0 ∨ ∃ b off,a = some ⟨b,off,none⟩ ∧ b < w.heap.size ∧ WsAt w b off n E
theorem IsWs.below {w w' : World} {a : Option Addr} {n : Nat} {E : Nat → Req} (h : IsWs w a n E) (hb : Below w.heap.size w w') : IsWs w' a n E := by
 rcases h with h | ⟨b,off,e,hl,hp⟩
 ·exact .inl h
 ·exact .inr ⟨b,off,e,Nat.lt_of_lt_of_le hl hb.size,hp.below hb hl⟩
theorem There.outW {w : World} {O r n o : Nat} {x : Value} (h : There w r n) (hne : O ≠ r) : There (w.setCell ⟨O,o,none⟩ x) r n := fun i hi => by
 obtain ⟨u,hu⟩ := (h i hi).1
 refine ⟨⟨u,?_⟩,?_⟩
 ·rw [set1_other (fun e => hne (by injection e))]; exact hu
 ·rw [World.frozen?_setCell]; exact (h i hi).2
def lay5w (W : World) (B o : Nat) (e : Req) : World := (((((W.setCell ⟨B,o,none⟩ (.int .i64 e.z)).setCell ⟨B,o + 1,none⟩ (.int .i64 e.x)).setCell ⟨B,o + 2,none⟩ (.int .i64 e.y)).setCell ⟨B,o + 3,none⟩ (.int .i64 e.du)).setCell ⟨B,o + 4,none⟩ (.int .i64 e.tr))
theorem lay5w_other {W : World} {B o : Nat} {e : Req} {p : Addr} (h : p.block ≠ B ∨ p.off < o ∨ o + 4 < p.off) : (lay5w W B o e).cell? p = W.cell? p := by
 have ne : ∀ k : Nat,k ≤ 4 → (⟨B,o + k,none⟩ : Addr) ≠ p := fun k hk e => by subst e; simp at h; omega
 have ne0 : (⟨B,o,none⟩ : Addr) ≠ p := ne 0 (by omega)
 unfold lay5w
 rw [set1_other (ne 4 (by omega)),set1_other (ne 3 (by omega)),set1_other (ne 2 (by omega)),set1_other (ne 1 (by omega)),set1_other ne0]
theorem lay5w_there {W : World} {B o m : Nat} {e : Req} (h : There W B m) : There (lay5w W B o e) B m := by
 unfold lay5w
 exact (((((h.set _ _).set _ _).set _ _).set _ _).set _ _)
theorem lay5w_size (W : World) (B o : Nat) (e : Req) : (lay5w W B o e).heap.size = W.heap.size := by unfold lay5w; simp
theorem lay5w_below {V W : World} {n B o : Nat} {e : Req} (h : Below n V W) (hB : n ≤ B) : Below n V (lay5w W B o e) := by
 unfold lay5w
 exact (((((h.setCell hB _).setCell hB _).setCell hB _).setCell hB _).setCell hB _)
theorem lay5w_at {W : World} {B o m : Nat} {e : Req} (h : There W B m) (ho : o + 4 < m) : ReqAt (lay5w W B o e) B o e := by
 have ne : ∀ i j : Nat,i ≠ j → (⟨B,i,none⟩ : Addr) ≠ ⟨B,j,none⟩ := fun i j hij h => hij (by injection h)
 obtain ⟨u0,g0⟩ := (h (o) (by omega)).1
 obtain ⟨u1,g1⟩ := ((h.set (o) (.int .i64 e.z)) (o + 1) (by omega)).1
 obtain ⟨u2,g2⟩ := (((h.set (o) (.int .i64 e.z)).set (o + 1) (.int .i64 e.x)) (o + 2) (by omega)).1
 obtain ⟨u3,g3⟩ := ((((h.set (o) (.int .i64 e.z)).set (o + 1) (.int .i64 e.x)).set (o + 2) (.int .i64 e.y)) (o + 3) (by omega)).1
 obtain ⟨u4,g4⟩ := (((((h.set (o) (.int .i64 e.z)).set (o + 1) (.int .i64 e.x)).set (o + 2) (.int .i64 e.y)).set (o + 3) (.int .i64 e.du)) (o + 4) (by omega)).1
 unfold lay5w
 refine ⟨?_,?_,?_,?_,?_⟩
 ·rw [set1_other (ne (o + 4) (o) (by omega)),set1_other (ne (o + 3) (o) (by omega)),set1_other (ne (o + 2) (o) (by omega)),set1_other (ne (o + 1) (o) (by omega))]; exact set1_same g0
 ·rw [set1_other (ne (o + 4) (o + 1) (by omega)),set1_other (ne (o + 3) (o + 1) (by omega)),set1_other (ne (o + 2) (o + 1) (by omega))]; exact set1_same g1
 ·rw [set1_other (ne (o + 4) (o + 2) (by omega)),set1_other (ne (o + 3) (o + 2) (by omega))]; exact set1_same g2
 ·rw [set1_other (ne (o + 4) (o + 3) (by omega))]; exact set1_same g3
 ·exact set1_same g4
theorem WsAt.lay {W : World} {B n k : Nat} {E : Nat → Req} (h : WsAt W B 0 k E) (hT : There W B (n * 5)) (hk : k < n) : WsAt (lay5w W B (k * 5) (E k)) B 0 (k + 1) E := fun i hi => by
 by_cases e : i = k
 ·subst e
  rw [Nat.zero_add]
  exact lay5w_at hT (by omega)
 ·have h' := h i (by omega)
  unfold ReqAt at h' ⊢
  rw [lay5w_other (.inr (.inl (by simp; omega))),lay5w_other (.inr (.inl (by simp; omega))),lay5w_other (.inr (.inl (by simp; omega))),lay5w_other (.inr (.inl (by simp; omega))),lay5w_other (.inr (.inl (by simp; omega)))]
  exact h'
abbrev zeroW : Array Value := #[.int .i64 0, .int .i64 0, .int .i64 0, .int .i64 0, .int .i64 0]
theorem info_iw : (Tryz.prog.info? 99).map (fun i => (i.zero,i.size,i.bytes)) = some (some (.agg zeroW),5,40) := by kernel_rfl
theorem make_reqs (n : Nat) (h : n ≤ 1048576) (w : World) :
  (Instr.makeSlice 36 (.int .i64 (n : Int)) (.int .i64 (n : Int))).run Tryz.prog w = .ok (.slice (some ⟨w.heap.size,0,none⟩) n n) (w.alloc (.cells (madeCells zeroW (n * 5)) 99)) := by
 obtain ⟨i,hi,hz,hs,hb⟩ := info_parts info_iw
 have hr := run_make (P := Tryz.prog) w 36 99 i _ Tryz.underlying36 hi hz .i64 .i64 (n : Int) (n : Int) (by omega) (Int.le_refl _) (by rw [hb]; omega) (by omega)
 simp only [Int.toNat_natCast,hs] at hr
 exact hr
theorem there_madeW (n : Nat) (w : World) (t : TypeId) : There (w.alloc (.cells (madeCells zeroW n) t)) w.heap.size n := fun o ho => by
 have hz := size_madeCells zeroW n
 refine ⟨⟨(madeCells zeroW n)[o]'(by rw [hz]; exact ho),?_⟩,World.frozen?_alloc_at _ _ _ _ rfl⟩
 rw [World.cell?_alloc_at _ _ _ _ rfl]
 exact Array.getElem?_eq_getElem _
theorem toRequest_any (e : Req) (w : World) : Calls Tryz.prog 69 #[reqV e] w fun r w' => r = .returned (reqV e) ∧ Below w.heap.size w w' := by
 go_enter Tryz.func69,Tryz.ntmps69
 go_wp2_with fail
 generalize hW : (((w.alloc _).alloc _).alloc _ : World) = W
 have hB0 : Below w.heap.size w W := by subst hW; exact Qb
 have hT1 : There W (w.heap.size + 1) 5 := fun o ho => by
  subst hW
  have hc : o = 0 ∨ o = 1 ∨ o = 2 ∨ o = 3 ∨ o = 4 := by omega
  rcases hc with rfl | rfl | rfl | rfl | rfl <;> exact ⟨⟨_,by simp [go_sem]; rfl⟩,by simp [go_sem]⟩
 have hT2 : There W (w.heap.size + 1 + 1) 5 := fun o ho => by
  subst hW
  have hc : o = 0 ∨ o = 1 ∨ o = 2 ∨ o = 3 ∨ o = 4 := by omega
  rcases hc with rfl | rfl | rfl | rfl | rfl <;> exact ⟨⟨_,by simp [go_sem]; rfl⟩,by simp [go_sem]⟩
 have c3 : W.cell? ⟨w.heap.size,3,none⟩ = some (.int .i64 e.du) := by subst hW; simp [go_sem]
 have c4 : W.cell? ⟨w.heap.size,4,none⟩ = some (.int .i64 e.tr) := by subst hW; simp [go_sem]
 have hsz : w.heap.size + 1 + 1 < W.heap.size := by subst hW; simp
 clear hW
 refine (toRef_any _ _ _ _).mono ?_
 rintro r w1 ⟨rfl,hb1⟩
 have hT1' := hT1.below hb1
 have hT2' := hT2.below hb1
 have c3' : w1.cell? ⟨w.heap.size,3,none⟩ = some (.int .i64 e.du) := (hb1.cell (p := ⟨w.heap.size,3,none⟩) (by show w.heap.size < _; omega)).trans c3
 have c4' : w1.cell? ⟨w.heap.size,4,none⟩ = some (.int .i64 e.tr) := (hb1.cell (p := ⟨w.heap.size,4,none⟩) (by show w.heap.size < _; omega)).trans c4
 have HB1 : Hid (Below w.heap.size w w1) := bl_then hB0 hb1
 have s0 := hT1'.cell 0 (by omega)
 have s1 := hT1'.cell 1 (by omega)
 have s2 := hT1'.cell 2 (by omega)
 have s3 := hT1'.cell 3 (by omega)
 have s4 := hT1'.cell 4 (by omega)
 have y0 := (hT1' 0 (by omega)).2
 have y1 := (hT1' 1 (by omega)).2
 have y2 := (hT1' 2 (by omega)).2
 have y3 := (hT1' 3 (by omega)).2
 have y4 := (hT1' 4 (by omega)).2
 have t0 := hT2'.cell 0 (by omega)
 have t1 := hT2'.cell 1 (by omega)
 have t2 := hT2'.cell 2 (by omega)
 have t3 := hT2'.cell 3 (by omega)
 have t4 := hT2'.cell 4 (by omega)
 have z0 := (hT2' 0 (by omega)).2
 have z1 := (hT2' 1 (by omega)).2
 have z2 := (hT2' 2 (by omega)).2
 have z3 := (hT2' 3 (by omega)).2
 have z4 := (hT2' 4 (by omega)).2
 have HT1 : Hid (There w1 (w.heap.size + 1) 5) := hT1'
 clear hT1 hT2 c3 c4 hb1 hB0 hT1' hT2'
 have hsz' := hsz
 clear hsz
 go_wp2_with fail
 have key : ∀ (T : Array Value) (Wf : World),T[2]?.getD undef = .pointer (some ⟨w.heap.size + 1,0,none⟩) → ReqAt Wf (w.heap.size + 1) 0 e → (results Tryz.f69 T).run Tryz.prog Wf = .ok (reqV e) Wf := fun T Wf hT ⟨h0,h1,h2,h3,h4⟩ => by
  simp only [Nat.zero_add] at h0 h1 h2 h3 h4
  simp [results,Tryz.results69,go_sem,hT,h0,h1,h2,h3,h4]
 have hL : ∀ V : World,There V (w.heap.size + 1) 5 → ReqAt (lay5w V (w.heap.size + 1) 0 e) (w.heap.size + 1) 0 e := fun V hV => lay5w_at hV (by omega)
 refine bodyPost_ret (key _ _ rfl (hL _ ?_)) rfl ⟨rfl,?_⟩
 ·exact (((((HT1.out.outW (by omega)).outW (by omega)).outW (by omega)).outW (by omega)).outW (by omega))
 ·exact ((((((((((HB1.out.setCell (by simp; omega) _).setCell (by simp; omega) _).setCell (by simp; omega) _).setCell (by simp; omega) _).setCell (by simp; omega) _).setCell (by simp) _).setCell (by simp) _).setCell (by simp) _).setCell (by simp) _).setCell (by simp) _)
theorem toRequestS_any (a : Option Addr) (n cap : Nat) (E : Nat → Req) (w : World) (hp : IsWs w a n E) (hmax : n ≤ 1048576) :
  Calls Tryz.prog 34 #[.slice a n cap] w fun e w' => ∃ b,e = .returned (.slice (some ⟨b,0,none⟩) n n) ∧ w.heap.size ≤ b ∧ b < w'.heap.size ∧ WsAt w' b 0 n E ∧ There w' b (n * 5) ∧ Below w.heap.size w w' := by
 have hmk := make_reqs n hmax
 have HP : Hid (IsWs w a n E) := hp
 clear hp
 go_enter Tryz.func34,Tryz.ntmps34
 go_wp2
 generalize hW : (w.alloc _ : World) = W
 have HB0 : Hid (Below w.heap.size w W) := by show Below _ _ _; subst hW; exact Qb
 have HT0 : Hid (There W w.heap.size (n * 5)) := by show There _ _ _; subst hW; exact there_madeW _ _ _
 have HL0 : Hid (w.heap.size < W.heap.size) := by show _ < _; subst hW; simp
 clear hW hmk
 go_loopw [4] (fun i wr => ∃ (k : Nat),k ≤ n ∧ i = .int .i64 k ∧ Below w.heap.size w wr ∧ There wr w.heap.size (n * 5) ∧ WsAt wr w.heap.size 0 k E ∧ w.heap.size < wr.heap.size) (fun i _ => n - (intOf i).toNat)
 case atStart => exact ⟨0,by omega,rfl,HB0.out,HT0.out,fun i hi => by omega,HL0.out⟩
 case round =>
  obtain ⟨k,hk,rfl,hB,hT,hO,hlw⟩ := hrel
  by_cases hlt : k < n
  ·rcases HP.out with h0 | ⟨b,off,rfl,hbl,hpt⟩
   ·omega
   ·obtain ⟨f0,f1,f2,f3,f4⟩ := (hpt.below hB hbl) k hlt
    have HB : Hid (Below w.heap.size w wr) := hB
    have HT : Hid (There wr w.heap.size (n * 5)) := hT
    have HO : Hid (WsAt wr w.heap.size 0 k E) := hO
    clear hB hT hO hpt
    have hi : (k : Int) < (n : Int) := by omega
    have hi0 : (0 : Int) ≤ (k : Int) := by omega
    go_wp2_with fail
    refine (toRequest_any (E k) _).mono ?_
    rintro e w' ⟨rfl,hb⟩
    have hT' := HT.out.below hb
    have t0 := hT'.cell (k * 5 + 0) (by omega)
    have t1 := hT'.cell (k * 5 + 1) (by omega)
    have t2 := hT'.cell (k * 5 + 2) (by omega)
    have t3 := hT'.cell (k * 5 + 3) (by omega)
    have t4 := hT'.cell (k * 5 + 4) (by omega)
    have y0 := (hT' (k * 5 + 0) (by omega)).2
    have y1 := (hT' (k * 5 + 1) (by omega)).2
    have y2 := (hT' (k * 5 + 2) (by omega)).2
    have y3 := (hT' (k * 5 + 3) (by omega)).2
    have y4 := (hT' (k * 5 + 4) (by omega)).2
    simp only [Nat.add_zero] at t0 y0
    have HT' : Hid (There w' w.heap.size (n * 5)) := hT'
    have HBn : Hid (Below wr.heap.size wr w') := hb
    clear hT' hb f0 f1 f2 f3 f4
    go_wp2
    go_roundw
    case rel =>
     refine ⟨k + 1,by omega,by go_num,?_,?_,?_,?_⟩
     ·exact lay5w_below (e := E k) (B := w.heap.size) (o := k * 5) (HB.out.trans (HBn.out.mono HB.out.size)) (Nat.le_refl _)
     ·exact lay5w_there (e := E k) (B := w.heap.size) (o := k * 5) HT'.out
     ·exact WsAt.lay (HO.out.below HBn.out hlw) HT'.out hlt
     ·have := HBn.out.size
      show _ < (lay5w w' w.heap.size (k * 5) (E k)).heap.size
      rw [lay5w_size]; omega
    case measure => simp [intOf]; omega
  ·go_wp2
   go_ret
   have hkn : k = n := by omega
   subst hkn
   exact ⟨_,rfl,Nat.le_refl _,hlw,hO,hT,hB⟩
theorem eqRequest_any (e : Req) (w : World) : Calls Tryz.prog 82 #[reqV e,reqV e] w fun r w' => r = .returned (.bool true) ∧ Below w.heap.size w w' := by
 go_enter Tryz.func82,Tryz.ntmps82
 go_wp2_with fail
 generalize hW : ((w.alloc _).alloc _ : World) = W
 have hB0 : Below w.heap.size w W := by subst hW; exact Qb
 have c3 : ∀ W',Below W.heap.size W W' → W'.cell? ⟨w.heap.size,3,none⟩ = some (.int .i64 e.du) := fun W' h => by rw [h.cell (by subst hW; simp; omega)]; subst hW; simp [go_sem]
 have c4 : ∀ W',Below W.heap.size W W' → W'.cell? ⟨w.heap.size,4,none⟩ = some (.int .i64 e.tr) := fun W' h => by rw [h.cell (by subst hW; simp; omega)]; subst hW; simp [go_sem]
 have d3 : ∀ W',Below W.heap.size W W' → W'.cell? ⟨w.heap.size + 1,3,none⟩ = some (.int .i64 e.du) := fun W' h => by rw [h.cell (by subst hW; simp)]; subst hW; simp [go_sem]
 have d4 : ∀ W',Below W.heap.size W W' → W'.cell? ⟨w.heap.size + 1,4,none⟩ = some (.int .i64 e.tr) := fun W' h => by rw [h.cell (by subst hW; simp)]; subst hW; simp [go_sem]
 clear hW
 refine (eqRef_any _ _ _ _).mono ?_
 rintro r w1 ⟨rfl,hb1⟩
 have k3 := c3 w1 hb1
 have k4 := c4 w1 hb1
 have l3 := d3 w1 hb1
 have l4 := d4 w1 hb1
 have HB1 : Hid (Below w.heap.size w w1) := bl_then hB0 hb1
 clear c3 c4 d3 d4 hb1 hB0
 go_wp2
 go_ret
 exact ⟨rfl,HB1.out⟩
theorem eqRequestS_any (a a' : Option Addr) (n cap cap' : Nat) (E : Nat → Req) (w : World) (hp : IsWs w a n E) (hq : IsWs w a' n E) (hmax : n ≤ 1048576) :
  Calls Tryz.prog 43 #[.slice a n cap, .slice a' n cap'] w fun e w' => e = .returned (.bool true) ∧ Below w.heap.size w w' := by
 have HP : Hid (IsWs w a n E) := hp
 have HQ : Hid (IsWs w a' n E) := hq
 clear hp hq
 go_enter Tryz.func43,Tryz.ntmps43
 go_wp2
 go_loopw [5] (fun i wr => ∃ k : Nat,k ≤ n ∧ i = .int .i64 k ∧ Below w.heap.size w wr) (fun i _ => n - (intOf i).toNat)
 case atStart => exact ⟨0,by omega,rfl,Below.refl _ _⟩
 case round =>
  obtain ⟨k,hk,rfl,hB⟩ := hrel
  by_cases hlt : k < n
  ·rcases HP.out with h0 | ⟨b,off,rfl,hb,hpt⟩
   ·omega
   rcases HQ.out with h0 | ⟨d,off',rfl,hd,hqt⟩
   ·omega
   have hpr := hpt.below hB hb
   have hqr := hqt.below hB hd
   have hbr : b < wr.heap.size := Nat.lt_of_lt_of_le hb hB.size
   have hdr : d < wr.heap.size := Nat.lt_of_lt_of_le hd hB.size
   have c0 : ∀ W',Below wr.heap.size wr W' → W'.cell? ⟨b,off + k * 5,none⟩ = some (.int .i64 (E k).z) := fun W' h => (hpr.below h hbr k hlt).1
   have c1 : ∀ W',Below wr.heap.size wr W' → W'.cell? ⟨b,off + k * 5 + 1,none⟩ = some (.int .i64 (E k).x) := fun W' h => (hpr.below h hbr k hlt).2.1
   have c2 : ∀ W',Below wr.heap.size wr W' → W'.cell? ⟨b,off + k * 5 + 2,none⟩ = some (.int .i64 (E k).y) := fun W' h => (hpr.below h hbr k hlt).2.2.1
   have c3 : ∀ W',Below wr.heap.size wr W' → W'.cell? ⟨b,off + k * 5 + 3,none⟩ = some (.int .i64 (E k).du) := fun W' h => (hpr.below h hbr k hlt).2.2.2.1
   have c4 : ∀ W',Below wr.heap.size wr W' → W'.cell? ⟨b,off + k * 5 + 4,none⟩ = some (.int .i64 (E k).tr) := fun W' h => (hpr.below h hbr k hlt).2.2.2.2
   have d0 : ∀ W',Below wr.heap.size wr W' → W'.cell? ⟨d,off' + k * 5,none⟩ = some (.int .i64 (E k).z) := fun W' h => (hqr.below h hdr k hlt).1
   have d1 : ∀ W',Below wr.heap.size wr W' → W'.cell? ⟨d,off' + k * 5 + 1,none⟩ = some (.int .i64 (E k).x) := fun W' h => (hqr.below h hdr k hlt).2.1
   have d2 : ∀ W',Below wr.heap.size wr W' → W'.cell? ⟨d,off' + k * 5 + 2,none⟩ = some (.int .i64 (E k).y) := fun W' h => (hqr.below h hdr k hlt).2.2.1
   have d3 : ∀ W',Below wr.heap.size wr W' → W'.cell? ⟨d,off' + k * 5 + 3,none⟩ = some (.int .i64 (E k).du) := fun W' h => (hqr.below h hdr k hlt).2.2.2.1
   have d4 : ∀ W',Below wr.heap.size wr W' → W'.cell? ⟨d,off' + k * 5 + 4,none⟩ = some (.int .i64 (E k).tr) := fun W' h => (hqr.below h hdr k hlt).2.2.2.2
   have HB : Hid (Below w.heap.size w wr) := hB
   have HLT : Hid (k < n) := hlt
   clear hB hpt hqt hpr hqr
   have hi : (k : Int) < (n : Int) := by omega
   have hi0 : (0 : Int) ≤ (k : Int) := by omega
   go_wp2
   go_region_held3 (fun W' => Below wr.heap.size wr W') ((repeat (first|exact Qr _ _|assumption|refine Qd ?_|refine Qa ?_ _|refine Qt ?_|refine Qs ?_ _|refine Qo ?_ ?_ _ _)))
    (first
     | (go_at_call 82; refine (eqRequest_any (E k) _).mono ?_; rintro e w' ⟨rfl,hb⟩)
     | fail)
   go_wp2
   go_roundw
   case rel => exact ⟨k + 1,by have := HLT.out; omega,by go_num,bl_then HB.out (by assumption)⟩
   case measure => have := HLT.out; simp [intOf]; omega
  ·go_wp2
   go_ret
   exact ⟨rfl,hB⟩
theorem szRequestS_no (a : Option Addr) (n cap left : Nat) (w : World) (hl : left ≤ 1048576) (hn : left < n) (hm : n ≤ maxLen) :
  Calls Tryz.prog 27 #[.slice a n cap, .int .i64 (left : Int)] w fun e w' => e = .returned (.int .i64 (-1)) ∧ Below w.heap.size w w' := by
 unfold maxLen at hm
 have hneg : (left : Int) - (n : Int) < 0 := by omega
 go_enter Tryz.func27,Tryz.ntmps27
 go_wp2
 go_ret
 exact ⟨rfl,by (repeat (first|exact Qr _ _|assumption|refine Qd ?_|refine Qa ?_ _|refine Qt ?_|refine Qs ?_ _|refine Qo ?_ ?_ _ _))⟩
theorem szRequestS_ok (a : Option Addr) (n cap left : Nat) (w : World) (hl : left ≤ 1048576) (hn : n ≤ left) :
  Calls Tryz.prog 27 #[.slice a n cap, .int .i64 (left : Int)] w fun e w' => e = .returned (.int .i64 ((left : Int) - (n : Int))) ∧ Below w.heap.size w w' := by
 have hneg : ¬ (left : Int) - (n : Int) < 0 := by omega
 go_enter Tryz.func27,Tryz.ntmps27
 go_wp2
 go_ret
 exact ⟨rfl,by (repeat (first|exact Qr _ _|assumption|refine Qd ?_|refine Qa ?_ _|refine Qt ?_|refine Qs ?_ _|refine Qo ?_ ?_ _ _))⟩
end Go.Proofs.YtiephlohemphjaaGreat
