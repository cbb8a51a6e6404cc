/- Texts. -/
import Derived.Test.YtfkonhagjahgnaaGreatWTiles16
import Derived.Test.YtfkonhagjahgnaaGreatWTiles6
import Derived.Shelf.Bits.Mul64
import Derived.Test.YtfkonhagjahgnaaGreatWTiles14
set_option linter.unusedSimpArgs false
set_option linter.unusedVariables false
set_option maxRecDepth 100000
set_option maxHeartbeats 32000000
namespace Go.Proofs.YtfkonhagjahgnaaGreat
open Go.RowKit
theorem l3Far_any (px py ax ay bx by' : Int) (w : World) (hp : okP px py = true) (ha : okP ax ay = true) (hb : okP bx by' = true) :
  Calls Tryz.prog 178 #[.agg #[.int .i64 px, .int .i64 py], .agg #[.int .i64 ax, .int .i64 ay], .agg #[.int .i64 bx, .int .i64 by']] w fun e w' => e = .returned (.tuple #[.int .i64 (overI px py ax ay bx by'), .int .i64 (underI px py ax ay bx by')]) ∧ Below w.heap.size w w' := by
 obtain ⟨⟨p1,p2⟩,p3,p4⟩ := okP_bd hp
 obtain ⟨⟨a1,a2⟩,a3,a4⟩ := okP_bd ha
 obtain ⟨⟨b1,b2⟩,b3,b4⟩ := okP_bd hb
 obtain ⟨m1,m2⟩ := mul_bd (a := px - ax) (b := bx - ax) (B := 5120) (C := 5120) (by omega) (by omega) (by omega) (by omega) (by omega)
 obtain ⟨m3,m4⟩ := mul_bd (a := py - ay) (b := by' - ay) (B := 5120) (C := 5120) (by omega) (by omega) (by omega) (by omega) (by omega)
 obtain ⟨d1,d2⟩ := dist_bd ha hb
 obtain ⟨x1,x2⟩ := cross_bd ha hb hp
 obtain ⟨x3,x4⟩ := mul_bd (a := crossI ax ay bx by' px py) (b := crossI ax ay bx by' px py) (B := 52428800) (C := 52428800) (by omega) (by omega) (by omega) (by omega) (by omega)
 have HP : Hid _ := hp
 have HA : Hid _ := ha
 have HB : Hid _ := hb
 clear hp ha hb
 by_cases c1 : (px - ax) * (bx - ax) + (py - ay) * (by' - ay) ≤ 0
 ·have HE : Hid (overI px py ax ay bx by' = distI px py ax ay ∧ underI px py ax ay bx by' = 1) := by
   show _ ∧ _
   simp [overI,underI,alongI,c1]
  go_enter Tryz.func178,Tryz.ntmps178
  go_wp2_with fail
  generalize hW : (((w.alloc _).alloc _).alloc _ : World) = W
  have hB0 : Below w.heap.size w W := by subst hW; (repeat (first|exact Qr _ _|assumption|refine Qd ?_|refine Qa ?_ _|refine Qt ?_|refine Qs ?_ _|refine Qo ?_ ?_ _ _))
  have c00 : ∀ W',Below W.heap.size W W' → W'.cell? ⟨w.heap.size,0,none⟩ = some (.int .i64 px) := fun W' h => by
   rw [h.cell (by subst hW; simp <;> omega)]; subst hW; simp [go_sem]
  have c01 : ∀ W',Below W.heap.size W W' → W'.cell? ⟨w.heap.size,1,none⟩ = some (.int .i64 py) := fun W' h => by
   rw [h.cell (by subst hW; simp <;> omega)]; subst hW; simp [go_sem]
  have c10 : ∀ W',Below W.heap.size W W' → W'.cell? ⟨w.heap.size + 1,0,none⟩ = some (.int .i64 ax) := fun W' h => by
   rw [h.cell (by subst hW; simp <;> omega)]; subst hW; simp [go_sem]
  have c11 : ∀ W',Below W.heap.size W W' → W'.cell? ⟨w.heap.size + 1,1,none⟩ = some (.int .i64 ay) := fun W' h => by
   rw [h.cell (by subst hW; simp <;> omega)]; subst hW; simp [go_sem]
  have c20 : ∀ W',Below W.heap.size W W' → W'.cell? ⟨w.heap.size + 1 + 1,0,none⟩ = some (.int .i64 bx) := fun W' h => by
   rw [h.cell (by subst hW; simp <;> omega)]; subst hW; simp [go_sem]
  have c21 : ∀ W',Below W.heap.size W W' → W'.cell? ⟨w.heap.size + 1 + 1,1,none⟩ = some (.int .i64 by') := fun W' h => by
   rw [h.cell (by subst hW; simp <;> omega)]; subst hW; simp [go_sem]
  clear hW
  have HB0 : Hid (Below w.heap.size w W) := hB0
  clear hB0
  have hr : Below W.heap.size W W := Below.refl _ _
  go_wp2_with (first
   | (go_at_call 176; refine (l1Distance_any _ _ _ _ _ (by first | exact HP.out | exact HA.out) (by first | exact HA.out | exact HB.out)).mono ?_; rintro e w' ⟨rfl,hb⟩; have hbn : Below W.heap.size W w' := (by (repeat (first|exact Qr _ _|assumption|refine Qd ?_|refine Qa ?_ _|refine Qt ?_|refine Qs ?_ _|refine Qo ?_ ?_ _ _)))))
  refine bodyPost_ret (v := .tuple #[.int .i64 (overI px py ax ay bx by'), .int .i64 (underI px py ax ay bx by')]) (by rw [HE.out.1,HE.out.2]; simp [results,Tryz.results178,go_sem]) rfl ⟨rfl,?_⟩
  have HB1 := HB0.out
  (repeat (first|exact Qr _ _|assumption|refine Qd ?_|refine Qa ?_ _|refine Qt ?_|refine Qs ?_ _|refine Qo ?_ ?_ _ _))
 ·by_cases c2 : distI ax ay bx by' ≤ (px - ax) * (bx - ax) + (py - ay) * (by' - ay)
  ·have HE : Hid (overI px py ax ay bx by' = distI px py bx by' ∧ underI px py ax ay bx by' = 1) := by
    show _ ∧ _
    simp [overI,underI,alongI,c1,c2]
   go_enter Tryz.func178,Tryz.ntmps178
   go_wp2_with fail
   generalize hW : (((w.alloc _).alloc _).alloc _ : World) = W
   have hB0 : Below w.heap.size w W := by subst hW; (repeat (first|exact Qr _ _|assumption|refine Qd ?_|refine Qa ?_ _|refine Qt ?_|refine Qs ?_ _|refine Qo ?_ ?_ _ _))
   have c00 : ∀ W',Below W.heap.size W W' → W'.cell? ⟨w.heap.size,0,none⟩ = some (.int .i64 px) := fun W' h => by
    rw [h.cell (by subst hW; simp <;> omega)]; subst hW; simp [go_sem]
   have c01 : ∀ W',Below W.heap.size W W' → W'.cell? ⟨w.heap.size,1,none⟩ = some (.int .i64 py) := fun W' h => by
    rw [h.cell (by subst hW; simp <;> omega)]; subst hW; simp [go_sem]
   have c10 : ∀ W',Below W.heap.size W W' → W'.cell? ⟨w.heap.size + 1,0,none⟩ = some (.int .i64 ax) := fun W' h => by
    rw [h.cell (by subst hW; simp <;> omega)]; subst hW; simp [go_sem]
   have c11 : ∀ W',Below W.heap.size W W' → W'.cell? ⟨w.heap.size + 1,1,none⟩ = some (.int .i64 ay) := fun W' h => by
    rw [h.cell (by subst hW; simp <;> omega)]; subst hW; simp [go_sem]
   have c20 : ∀ W',Below W.heap.size W W' → W'.cell? ⟨w.heap.size + 1 + 1,0,none⟩ = some (.int .i64 bx) := fun W' h => by
    rw [h.cell (by subst hW; simp <;> omega)]; subst hW; simp [go_sem]
   have c21 : ∀ W',Below W.heap.size W W' → W'.cell? ⟨w.heap.size + 1 + 1,1,none⟩ = some (.int .i64 by') := fun W' h => by
    rw [h.cell (by subst hW; simp <;> omega)]; subst hW; simp [go_sem]
   clear hW
   have HB0 : Hid (Below w.heap.size w W) := hB0
   clear hB0
   have hr : Below W.heap.size W W := Below.refl _ _
   go_wp2_with (first
    | (go_at_call 176; refine (l1Distance_any _ _ _ _ _ (by first | exact HP.out | exact HA.out) (by first | exact HA.out | exact HB.out)).mono ?_; rintro e w' ⟨rfl,hb⟩; have hbn : Below W.heap.size W w' := (by (repeat (first|exact Qr _ _|assumption|refine Qd ?_|refine Qa ?_ _|refine Qt ?_|refine Qs ?_ _|refine Qo ?_ ?_ _ _)))))
   refine bodyPost_ret (v := .tuple #[.int .i64 (overI px py ax ay bx by'), .int .i64 (underI px py ax ay bx by')]) (by rw [HE.out.1,HE.out.2]; simp [results,Tryz.results178,go_sem]) rfl ⟨rfl,?_⟩
   have HB1 := HB0.out
   (repeat (first|exact Qr _ _|assumption|refine Qd ?_|refine Qa ?_ _|refine Qt ?_|refine Qs ?_ _|refine Qo ?_ ?_ _ _))
  ·have HE : Hid (overI px py ax ay bx by' = crossI ax ay bx by' px py * crossI ax ay bx by' px py ∧ underI px py ax ay bx by' = distI ax ay bx by') := by
    show _ ∧ _
    simp [overI,underI,alongI,c1,c2]
   go_enter Tryz.func178,Tryz.ntmps178
   go_wp2_with fail
   generalize hW : (((w.alloc _).alloc _).alloc _ : World) = W
   have hB0 : Below w.heap.size w W := by subst hW; (repeat (first|exact Qr _ _|assumption|refine Qd ?_|refine Qa ?_ _|refine Qt ?_|refine Qs ?_ _|refine Qo ?_ ?_ _ _))
   have c00 : ∀ W',Below W.heap.size W W' → W'.cell? ⟨w.heap.size,0,none⟩ = some (.int .i64 px) := fun W' h => by
    rw [h.cell (by subst hW; simp <;> omega)]; subst hW; simp [go_sem]
   have c01 : ∀ W',Below W.heap.size W W' → W'.cell? ⟨w.heap.size,1,none⟩ = some (.int .i64 py) := fun W' h => by
    rw [h.cell (by subst hW; simp <;> omega)]; subst hW; simp [go_sem]
   have c10 : ∀ W',Below W.heap.size W W' → W'.cell? ⟨w.heap.size + 1,0,none⟩ = some (.int .i64 ax) := fun W' h => by
    rw [h.cell (by subst hW; simp <;> omega)]; subst hW; simp [go_sem]
   have c11 : ∀ W',Below W.heap.size W W' → W'.cell? ⟨w.heap.size + 1,1,none⟩ = some (.int .i64 ay) := fun W' h => by
    rw [h.cell (by subst hW; simp <;> omega)]; subst hW; simp [go_sem]
   have c20 : ∀ W',Below W.heap.size W W' → W'.cell? ⟨w.heap.size + 1 + 1,0,none⟩ = some (.int .i64 bx) := fun W' h => by
    rw [h.cell (by subst hW; simp <;> omega)]; subst hW; simp [go_sem]
   have c21 : ∀ W',Below W.heap.size W W' → W'.cell? ⟨w.heap.size + 1 + 1,1,none⟩ = some (.int .i64 by') := fun W' h => by
    rw [h.cell (by subst hW; simp <;> omega)]; subst hW; simp [go_sem]
   clear hW
   have HB0 : Hid (Below w.heap.size w W) := hB0
   clear hB0
   have hr : Below W.heap.size W W := Below.refl _ _
   go_wp2_with (first
    | (go_at_call 176; refine (l1Distance_any _ _ _ _ _ (by first | exact HP.out | exact HA.out) (by first | exact HA.out | exact HB.out)).mono ?_; rintro e w' ⟨rfl,hb⟩; have hbn : Below W.heap.size W w' := (by (repeat (first|exact Qr _ _|assumption|refine Qd ?_|refine Qa ?_ _|refine Qt ?_|refine Qs ?_ _|refine Qo ?_ ?_ _ _))))
    | (go_at_call 177; refine (l1Cross_any _ _ _ _ _ _ _ (by exact HA.out) (by exact HB.out) (by exact HP.out)).mono ?_; rintro e w' ⟨rfl,hb⟩; have hbn : Below W.heap.size W w' := (by (repeat (first|exact Qr _ _|assumption|refine Qd ?_|refine Qa ?_ _|refine Qt ?_|refine Qs ?_ _|refine Qo ?_ ?_ _ _)))))
   refine bodyPost_ret (v := .tuple #[.int .i64 (overI px py ax ay bx by'), .int .i64 (underI px py ax ay bx by')]) (by rw [HE.out.1,HE.out.2]; simp [results,Tryz.results178,go_sem]) rfl ⟨rfl,?_⟩
   have HB1 := HB0.out
   (repeat (first|exact Qr _ _|assumption|refine Qd ?_|refine Qa ?_ _|refine Qt ?_|refine Qs ?_ _|refine Qo ?_ ?_ _ _))
theorem more_eq {a b c d : Int} (ha : 0 ≤ a) (hb : 0 < b) (hc : 0 ≤ c) (hd : 0 < d) :
  aboveB a b c d = if a / b = c / d then decide (c % d * b < a % b * d) else decide (c / d < a / b) := by
 have e1 := Int.mul_ediv_add_emod a b
 have e2 := Int.mul_ediv_add_emod c d
 have m1 := Int.emod_nonneg a (by omega : b ≠ 0)
 have m2 := Int.emod_lt_of_pos a hb
 have m3 := Int.emod_nonneg c (by omega : d ≠ 0)
 have m4 := Int.emod_lt_of_pos c hd
 unfold aboveB
 generalize a / b = q at *
 generalize a % b = m at *
 generalize c / d = s at *
 generalize c % d = k at *
 have f1 : c * b = b * d * s + k * b := by rw [← e2]; grind
 have f2 : a * d = b * d * q + m * d := by rw [← e1]; grind
 have hbd : 0 < b * d := Int.mul_pos hb hd
 by_cases h : q = s
 ·subst h
  rw [if_pos rfl,f1,f2]
  congr 1
  simp
 ·rw [if_neg h,f1,f2]
  congr 1
  have g1 : k * b < b * d := by
   have := Int.mul_lt_mul_of_pos_right m4 hb
   have e : d * b = b * d := Int.mul_comm _ _
   omega
  have g2 : m * d < b * d := Int.mul_lt_mul_of_pos_right m2 hd
  have g3 : 0 ≤ k * b := Int.mul_nonneg m3 (by omega)
  have g4 : 0 ≤ m * d := Int.mul_nonneg m1 (by omega)
  rw [eq_iff_iff]
  constructor
  ·intro hlt
   by_cases h1 : s < q
   ·exact h1
   ·have h2 : q + 1 ≤ s := by omega
    have h3 : b * d * (q + 1) ≤ b * d * s := Int.mul_le_mul_of_nonneg_left h2 (by omega)
    have e : b * d * (q + 1) = b * d * q + b * d := by grind
    omega
  ·intro hlt
   have h2 : s + 1 ≤ q := by omega
   have h3 : b * d * (s + 1) ≤ b * d * q := Int.mul_le_mul_of_nonneg_left h2 (by omega)
   have e : b * d * (s + 1) = b * d * s + b * d := by grind
   omega
theorem l3More_any (a b c d : Int) (w : World) (ha : 0 ≤ a) (ha' : a ≤ 2748779069440000) (hb : 0 < b) (hb' : b ≤ 52428800) (hc : 0 ≤ c) (hc' : c ≤ 2748779069440000) (hd : 0 < d) (hd' : d ≤ 52428800) :
  Calls Tryz.prog 179 #[.int .i64 a, .int .i64 b, .int .i64 c, .int .i64 d] w fun e w' => e = .returned (.bool (aboveB a b c d)) ∧ Below w.heap.size w w' := by
 have HM : Hid (aboveB a b c d = if a / b = c / d then decide (c % d * b < a % b * d) else decide (c / d < a / b)) := more_eq ha hb hc hd
 have t1 : a.tdiv b = a / b := Int.tdiv_eq_ediv_of_nonneg ha
 have t2 : c.tdiv d = c / d := Int.tdiv_eq_ediv_of_nonneg hc
 have t3 : a.tmod b = a % b := Int.tmod_eq_emod_of_nonneg ha
 have t4 : c.tmod d = c % d := Int.tmod_eq_emod_of_nonneg hc
 have b0 : ¬ b = 0 := by omega
 have d0 : ¬ d = 0 := by omega
 have m1 := Int.emod_nonneg a (by omega : b ≠ 0)
 have m2 := Int.emod_lt_of_pos a hb
 have m3 := Int.emod_nonneg c (by omega : d ≠ 0)
 have m4 := Int.emod_lt_of_pos c hd
 have q1 : 0 ≤ a / b := Int.ediv_nonneg ha (by omega)
 have q2 : a / b ≤ a := Int.ediv_le_self b ha
 have q3 : 0 ≤ c / d := Int.ediv_nonneg hc (by omega)
 have q4 : c / d ≤ c := Int.ediv_le_self d hc
 obtain ⟨p1,p2⟩ := mul_bd (a := a % b) (b := d) (B := 52428800) (C := 52428800) (by omega) (by omega) (by omega) (by omega) (by omega)
 obtain ⟨p3,p4⟩ := mul_bd (a := c % d) (b := b) (B := 52428800) (C := 52428800) (by omega) (by omega) (by omega) (by omega) (by omega)
 by_cases h : a / b = c / d
 ·have h' : ((a / b) == (c / d)) = true := by simp [h]
  have hr : Hid (aboveB a b c d = decide (c % d * b < a % b * d)) := by show _ = _; rw [HM.out,if_pos h]
  clear h HM
  have z1 : (b == 0) = false := by simp; omega
  have z2 : (d == 0) = false := by simp; omega
  have w1 : IntKind.i64.wrap (a % b) = a % b := IntWalk.i64_in _ (by omega)
  have w2 : IntKind.i64.wrap (c % d) = c % d := IntWalk.i64_in _ (by omega)
  have w3 : IntKind.i64.wrap (a % b * d) = a % b * d := IntWalk.i64_in _ (by omega)
  have w4 : IntKind.i64.wrap (c % d * b) = c % d * b := IntWalk.i64_in _ (by omega)
  go_enter Tryz.func179,Tryz.ntmps179
  go_wp2_with fail
  go_region_held3 (fun W' => Below w.heap.size w W') ((repeat (first|exact Qr _ _|assumption|refine Qd ?_|refine Qa ?_ _|refine Qt ?_|refine Qs ?_ _|refine Qo ?_ ?_ _ _))) (fail)
  go_wp2_with fail
  go_ret
  exact ⟨ret_bool (by rw [hr.out]),by assumption⟩
 ·have h' : ((a / b) == (c / d)) = false := by simp [h]
  have hr : Hid (aboveB a b c d = decide (c / d < a / b)) := by show _ = _; rw [HM.out,if_neg h]
  clear HM
  go_enter Tryz.func179,Tryz.ntmps179
  go_wp2
  all_goals (go_ret; exact ⟨ret_bool (by rw [hr.out]),by (repeat (first|exact Qr _ _|assumption|refine Qd ?_|refine Qa ?_ _|refine Qt ?_|refine Qs ?_ _|refine Qo ?_ ?_ _ _))⟩)
theorem Mul64_any (x y : Nat) (hx : x < 18446744073709551616) (hy : y < 18446744073709551616) (w : World) :
  Calls Tryz.prog 174 #[.int .u64 x, .int .u64 y] w fun e w' => e = .returned (.tuple #[.int .u64 ((x * y / 18446744073709551616 : Nat) : Int), .int .u64 ((x * y % 18446744073709551616 : Nat) : Int)]) ∧ w' = w := by
 obtain ⟨bd,bt,bw,hhi⟩ := Lib.mul64_hi x y hx hy
 have ba := Lib.half_mul_le (a := x / 4294967296) (b := y / 4294967296) (by omega) (by omega)
 have bb := Lib.half_mul_le (a := x / 4294967296) (b := y % 4294967296) (by omega) (by omega)
 have bc := Lib.half_mul_le (a := x % 4294967296) (b := y / 4294967296) (by omega) (by omega)
 have ba' : x / 4294967296 * (y / 4294967296) < 18446744073709551616 := by omega
 have bb' : x / 4294967296 * (y % 4294967296) < 18446744073709551616 := by omega
 have bc' : x % 4294967296 * (y / 4294967296) < 18446744073709551616 := by omega
 have bh1 : x / 4294967296 * (y / 4294967296) + (x / 4294967296 * (y % 4294967296) + x % 4294967296 * (y % 4294967296) / 4294967296) / 4294967296 < 18446744073709551616 := by omega
 have bh : x / 4294967296 * (y / 4294967296) + (x / 4294967296 * (y % 4294967296) + x % 4294967296 * (y % 4294967296) / 4294967296) / 4294967296 + ((x / 4294967296 * (y % 4294967296) + x % 4294967296 * (y % 4294967296) / 4294967296) % 4294967296 + x % 4294967296 * (y / 4294967296)) / 4294967296 < 18446744073709551616 := by
  rw [hhi]
  have h1 := Nat.mul_le_mul (Nat.le_of_lt_succ (Nat.lt_succ_of_lt hx)) (Nat.le_of_lt_succ (Nat.lt_succ_of_lt hy))
  exact Nat.div_lt_of_lt_mul (Nat.mul_lt_mul'' hx hy)
 go_enter Tryz.func174,Tryz.ntmps174
 go_wp2
 simp only [Go.Proofs.Mul64.maskN x hx,Go.Proofs.Mul64.maskN y hy,Go.Proofs.Mul64.divN,Go.Proofs.Mul64.mulN,Go.Proofs.Mul64.addN,Go.Proofs.Mul64.wrapN _ bd,Go.Proofs.Mul64.wrapN _ bb',Go.Proofs.Mul64.wrapN _ bt,Go.Proofs.Mul64.maskN _ bt,Go.Proofs.Mul64.wrapN _ bc',Go.Proofs.Mul64.wrapN _ bw,Go.Proofs.Mul64.wrapN _ ba',Go.Proofs.Mul64.wrapN _ bh1,Go.Proofs.Mul64.wrapN _ bh,Go.Proofs.Mul64.wrapM]
 rw [hhi]
 go_ret2
 exact ⟨rfl,rfl⟩
def byB (cx cy r : Int) (X Y : Nat → Int) : Nat → Bool
 | 0 => false
 | k + 1 => byB cx cy r X Y k || isNearB cx cy (X (k - 1)) (Y (k - 1)) (X k) (Y k) r
theorem byB_true {cx cy r : Int} {X Y : Nat → Int} (k : Nat) (h : byB cx cy r X Y k = true) : ∀ n,k ≤ n → byB cx cy r X Y n = true := by
 intro n hn
 induction n with
 | zero => rw [show k = 0 by omega] at h; exact h
 | succ m ih =>
  by_cases e : k = m + 1
  ·rw [← e]; exact h
  ·rw [byB,ih (by omega)]; rfl
theorem isByLine_any (cx cy r : Int) (b n cap : Nat) (X Y : Nat → Int) (w : World) (hp : PtsAt w b 0 n X Y) (hbl : b < w.heap.size) (hn : 0 < n) (hmax : n ≤ 1048576) (hcap : n ≤ cap) :
  Calls Tryz.prog 112 #[.agg #[.int .i64 cx, .int .i64 cy], .slice (some ⟨b,0,none⟩) n cap, .int .i64 r] w fun e w' => e = .returned (.bool (byB cx cy r X Y n)) ∧ Below w.heap.size w w' := by
 have HP : Hid (PtsAt w b 0 n X Y) := hp
 obtain ⟨e0,e1⟩ := hp 0 hn
 simp only [Nat.zero_add,Nat.zero_mul] at e0 e1
 clear hp
 have hni : (0 : Int) < (n : Int) := by omega
 go_enter Tryz.func112,Tryz.ntmps112
 go_wp2_with fail
 generalize hW : ((w.alloc _).alloc _ : World) = W
 have HB0 : Hid (Below w.heap.size w W) := by show Below _ _ _; subst hW; (repeat (first|exact Qr _ _|assumption|refine Qd ?_|refine Qa ?_ _|refine Qt ?_|refine Qs ?_ _|refine Qo ?_ ?_ _ _))
 have hT : There W (w.heap.size + 1) 2 := by
  subst hW
  have := there2 (w.alloc (.cells #[.int .i64 cx, .int .i64 cy] 67)) (.int .i64 (X 0)) (.int .i64 (Y 0)) 67
  simpa using this
 have c00 : ∀ W',Below W.heap.size W W' → W'.cell? ⟨w.heap.size,0,none⟩ = some (.int .i64 cx) := fun W' h => by
  rw [h.cell (by subst hW; simp <;> omega)]; subst hW; simp [go_sem]
 have c01 : ∀ W',Below W.heap.size W W' → W'.cell? ⟨w.heap.size,1,none⟩ = some (.int .i64 cy) := fun W' h => by
  rw [h.cell (by subst hW; simp <;> omega)]; subst hW; simp [go_sem]
 have c10 : ∀ W',Below W.heap.size W W' → W'.cell? ⟨w.heap.size + 1,0,none⟩ = some (.int .i64 (X 0)) := fun W' h => by
  rw [h.cell (by subst hW; simp <;> omega)]; subst hW; simp [go_sem]
 have c11 : ∀ W',Below W.heap.size W W' → W'.cell? ⟨w.heap.size + 1,1,none⟩ = some (.int .i64 (Y 0)) := fun W' h => by
  rw [h.cell (by subst hW; simp <;> omega)]; subst hW; simp [go_sem]
 have hszW : W.heap.size = w.heap.size + 1 + 1 := by subst hW; simp
 clear hW
 have q0 := c00 W (Below.refl _ _)
 have q1 := c01 W (Below.refl _ _)
 have q2 := c10 W (Below.refl _ _)
 have q3 := c11 W (Below.refl _ _)
 clear c00 c01 c10 c11
 go_loopw [15] (fun i wr => ∃ k : Nat,k ≤ n ∧ i = .int .i64 (k : Int) ∧ byB cx cy r X Y k = false ∧ Below (w.heap.size + 1) W wr ∧ There wr (w.heap.size + 1) 2 ∧ wr.cell? ⟨w.heap.size + 1,0,none⟩ = some (.int .i64 (X (k - 1))) ∧ wr.cell? ⟨w.heap.size + 1,1,none⟩ = some (.int .i64 (Y (k - 1)))) (fun i _ => n - (intOf i).toNat)
 case atStart => exact ⟨0,by omega,rfl,rfl,Below.refl _ _,hT,q2,q3⟩
 case round =>
  obtain ⟨k,hk,rfl,hF,hB,hT',f0,f1⟩ := hrel
  have HB : Hid (Below (w.heap.size + 1) W wr) := hB
  have HBw : Hid (Below w.heap.size w wr) := HB0.out.trans (hB.mono (by omega))
  have HF : Hid (byB cx cy r X Y k = false) := hF
  have hszr := hB.size
  have g0 := (hB.cell (p := ⟨w.heap.size,0,none⟩) (by show w.heap.size < _; omega)).trans q0
  have g1 := (hB.cell (p := ⟨w.heap.size,1,none⟩) (by show w.heap.size < _; omega)).trans q1
  clear hB hF
  by_cases hlt : k < n
  ·obtain ⟨hx,hy⟩ := (HP.out.below HBw.out hbl) k hlt
   simp only [Nat.zero_add] at hx hy
   have hi' : (k : Int) < (n : Int) := by omega
   have hbw : b < wr.heap.size := by omega
   have HT : Hid (There wr (w.heap.size + 1) 2) := hT'
   have hl0 : w.heap.size < wr.heap.size := by omega
   have hl1 : w.heap.size + 1 < wr.heap.size := by omega
   clear hT'
   go_wp2_with fail
   generalize hV : (wr.alloc _ : World) = V
   have hbV : Below wr.heap.size wr V := by subst hV; (repeat (first|exact Qr _ _|assumption|refine Qd ?_|refine Qa ?_ _|refine Qt ?_|refine Qs ?_ _|refine Qo ?_ ?_ _ _))
   have d0 : ∀ W',Below V.heap.size V W' → W'.cell? ⟨wr.heap.size,0,none⟩ = some (.int .i64 (X k)) := fun W' h => by
    rw [h.cell (by subst hV; simp)]; subst hV; simp [go_sem]
   have d1 : ∀ W',Below V.heap.size V W' → W'.cell? ⟨wr.heap.size,1,none⟩ = some (.int .i64 (Y k)) := fun W' h => by
    rw [h.cell (by subst hV; simp)]; subst hV; simp [go_sem]
   have hszV : wr.heap.size < V.heap.size := by subst hV; simp
   clear hV hx hy
   refine (impl_IsNear_any _ _ _ _ _ _ _ _).mono ?_
   rintro e w1 ⟨rfl,hb1⟩
   have hbr1 := bl_then hbV hb1
   have HB1 : Hid (Below w.heap.size w w1) := bl_then HBw.out hbr1
   cases hq : isNearB cx cy (X (k - 1)) (Y (k - 1)) (X k) (Y k) r
   ·have hT1 := HT.out.below hbr1
    have t0 := hT1.cell 0 (by omega)
    have t1 := hT1.cell 1 (by omega)
    have z0 := (hT1 0 (by omega)).2
    have z1 := (hT1 1 (by omega)).2
    have p0 := d0 w1 hb1
    have p1 := d1 w1 hb1
    have HT1 : Hid (There w1 (w.heap.size + 1) 2) := hT1
    have HBW1 : Hid (Below (w.heap.size + 1) W w1) := HB.out.trans (hbr1.mono (by omega))
    have hsz1 := hbr1.size
    have HK : Hid (byB cx cy r X Y (k + 1) = false) := by show _ = _; rw [byB,HF.out,hq]; rfl
    clear hT1 d0 d1 hbr1 hb1 hbV f0 f1 g0 g1
    go_wp2_with fail
    go_roundw
    case rel =>
     refine ⟨k + 1,by omega,by go_num,HK.out,(HBW1.out.setCell (by show w.heap.size + 1 ≤ w.heap.size + 1; omega) _).setCell (by show w.heap.size + 1 ≤ w.heap.size + 1; omega) _,?_,set2_0 (Option.isSome_iff_exists.2 ⟨_,t0⟩),set2_1 (Option.isSome_iff_exists.2 ⟨_,t1⟩)⟩
     exact (HT1.out.set 0 _).set 1 _
    case measure => simp [intOf]; omega
   ·have HK : Hid (byB cx cy r X Y n = true) := byB_true (k + 1) (by rw [byB,hq]; simp) n (by omega)
    go_wp2_with fail
    go_ret
    exact ⟨ret_bool (by rw [HK.out]),HB1.out⟩
  ·have hkn : k = n := by omega
   subst hkn
   go_wp2_with fail
   go_ret
   exact ⟨ret_bool (by rw [HF.out]),HBw.out⟩
theorem isInArea_any (cx cy r : Int) (b n cap : Nat) (X Y : Nat → Int) (w : World) (hp : PtsAt w b 0 n X Y) (hbl : b < w.heap.size) (hmax : n ≤ 1048576) (hcap : n ≤ cap) :
  Calls Tryz.prog 111 #[.agg #[.int .i64 cx, .int .i64 cy], .slice (some ⟨b,0,none⟩) n cap, .int .i64 r] w fun e w' => e = .returned (.bool (insideB cx cy n X Y)) ∧ Below w.heap.size w w' := by
 have HP : Hid (PtsAt w b 0 n X Y) := hp
 clear hp
 go_enter Tryz.func111,Tryz.ntmps111
 go_wp2_with fail
 generalize hW : (w.alloc _ : World) = W
 have hB0 : Below w.heap.size w W := by subst hW; (repeat (first|exact Qr _ _|assumption|refine Qd ?_|refine Qa ?_ _|refine Qt ?_|refine Qs ?_ _|refine Qo ?_ ?_ _ _))
 clear hW
 refine (impl_IsInside_any _ _ b n cap X Y W (HP.out.below hB0 hbl) (Nat.lt_of_lt_of_le hbl hB0.size) hcap hmax).mono ?_
 rintro e w1 ⟨rfl,hb1⟩
 go_wp2_with fail
 go_ret
 exact ⟨rfl,bl_then hB0 hb1⟩

end Go.Proofs.YtfkonhagjahgnaaGreat
