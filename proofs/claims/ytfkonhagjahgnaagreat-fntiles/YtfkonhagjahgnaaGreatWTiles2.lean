/- Texts. -/
import Derived.Test.YtfkonhagjahgnaaGreatWTiles1
import Derived.Deep.RegionHeld3
import Derived.Deep.DeepCutAuto
import Derived.Laws.StructEq
set_option linter.unusedSimpArgs false
set_option linter.unusedVariables false
set_option maxRecDepth 100000
set_option maxHeartbeats 32000000
namespace Go.Proofs.YtfkonhagjahgnaaGreat
open Go.RowKit
def alongI (px py ax ay bx by' : Int) : Int := (px - ax) * (bx - ax) + (py - ay) * (by' - ay)
def overI (px py ax ay bx by' : Int) : Int :=
 if alongI px py ax ay bx by' ≤ 0 then distI px py ax ay
 else if distI ax ay bx by' ≤ alongI px py ax ay bx by' then distI px py bx by'
 else crossI ax ay bx by' px py * crossI ax ay bx by' px py
def underI (px py ax ay bx by' : Int) : Int :=
 if alongI px py ax ay bx by' ≤ 0 then 1
 else if distI ax ay bx by' ≤ alongI px py ax ay bx by' then 1
 else distI ax ay bx by'
def nearB (px py ax ay bx by' r : Int) : Bool := decide (overI px py ax ay bx by' ≤ r * r * underI px py ax ay bx by')
theorem sq_nonneg (a : Int) : 0 ≤ a * a := by
 rw [← Int.natAbs_mul_self]
 exact Int.natCast_nonneg _
theorem dist_bd {ax ay bx by' : Int} (ha : okP ax ay = true) (hb : okP bx by' = true) : 0 ≤ distI ax ay bx by' ∧ distI ax ay bx by' ≤ 52428800 := by
 obtain ⟨⟨a1,a2⟩,a3,a4⟩ := okP_bd ha
 obtain ⟨⟨b1,b2⟩,b3,b4⟩ := okP_bd hb
 obtain ⟨p1,p2⟩ := mul_bd (a := bx - ax) (b := bx - ax) (B := 5120) (C := 5120) (by omega) (by omega) (by omega) (by omega) (by omega)
 obtain ⟨q1,q2⟩ := mul_bd (a := by' - ay) (b := by' - ay) (B := 5120) (C := 5120) (by omega) (by omega) (by omega) (by omega) (by omega)
 have s1 : 0 ≤ (bx - ax) * (bx - ax) := sq_nonneg _
 have s2 : 0 ≤ (by' - ay) * (by' - ay) := sq_nonneg _
 unfold distI
 omega
theorem cross_bd {ax ay bx by' cx cy : Int} (ha : okP ax ay = true) (hb : okP bx by' = true) (hc : okP cx cy = true) : -52428800 ≤ crossI ax ay bx by' cx cy ∧ crossI ax ay bx by' cx cy ≤ 52428800 := by
 obtain ⟨⟨a1,a2⟩,a3,a4⟩ := okP_bd ha
 obtain ⟨⟨b1,b2⟩,b3,b4⟩ := okP_bd hb
 obtain ⟨⟨c1,c2⟩,c3,c4⟩ := okP_bd hc
 obtain ⟨p1,p2⟩ := mul_bd (a := bx - ax) (b := cy - ay) (B := 5120) (C := 5120) (by omega) (by omega) (by omega) (by omega) (by omega)
 obtain ⟨q1,q2⟩ := mul_bd (a := by' - ay) (b := cx - ax) (B := 5120) (C := 5120) (by omega) (by omega) (by omega) (by omega) (by omega)
 unfold crossI
 omega
theorem sq_bd {r : Int} (h0 : 0 ≤ r) (h1 : r ≤ 4096) : 0 ≤ r * r ∧ r * r ≤ 16777216 := by
 obtain ⟨p1,p2⟩ := mul_bd (a := r) (b := r) (B := 4096) (C := 4096) (by omega) (by omega) (by omega) (by omega) (by omega)
 exact ⟨sq_nonneg _,by omega⟩
theorem l1Near_any (px py ax ay bx by' r : Int) (w : World) (hp : okP px py = true) (ha : okP ax ay = true) (hb : okP bx by' = true) (h0 : 0 ≤ r) (h1 : r ≤ 4096) :
  Calls Tryz.prog 168 #[.agg #[.int .i64 px, .int .i64 py], .agg #[.int .i64 ax, .int .i64 ay], .agg #[.int .i64 bx, .int .i64 by'], .int .i64 r] w fun e w' => e = .returned (.bool (nearB px py ax ay bx by' r)) ∧ Below w.heap.size w w' := by
 obtain ⟨⟨p1,p2⟩,p3,p4⟩ := okP_bd hp
 obtain ⟨⟨a1,a2⟩,a3,a4⟩ := okP_bd ha
 obtain ⟨⟨b1,b2⟩,b3,b4⟩ := okP_bd hb
 obtain ⟨m1,m2⟩ := mul_bd (a := px - ax) (b := bx - ax) (B := 5120) (C := 5120) (by omega) (by omega) (by omega) (by omega) (by omega)
 obtain ⟨m3,m4⟩ := mul_bd (a := py - ay) (b := by' - ay) (B := 5120) (C := 5120) (by omega) (by omega) (by omega) (by omega) (by omega)
 obtain ⟨s1,s2⟩ := sq_bd h0 h1
 obtain ⟨d1,d2⟩ := dist_bd ha hb
 obtain ⟨x1,x2⟩ := cross_bd ha hb hp
 obtain ⟨x3,x4⟩ := mul_bd (a := crossI ax ay bx by' px py) (b := crossI ax ay bx by' px py) (B := 52428800) (C := 52428800) (by omega) (by omega) (by omega) (by omega) (by omega)
 obtain ⟨x5,x6⟩ := mul_bd (a := r * r) (b := distI ax ay bx by') (B := 16777216) (C := 52428800) (by omega) (by omega) (by omega) (by omega) (by omega)
 have HP : Hid _ := hp
 have HA : Hid _ := ha
 have HB : Hid _ := hb
 clear hp ha hb
 have HO : Hid (nearB px py ax ay bx by' r = decide (overI px py ax ay bx by' ≤ r * r * underI px py ax ay bx by')) := rfl
 by_cases c1 : (px - ax) * (bx - ax) + (py - ay) * (by' - ay) ≤ 0
 ·have HE : Hid (nearB px py ax ay bx by' r = decide (distI px py ax ay ≤ r * r)) := by
   show _ = _
   simp [nearB,overI,underI,alongI,c1]
  go_enter Tryz.func168,Tryz.ntmps168
  go_wp2_with fail
  generalize hW : (((w.alloc _).alloc _).alloc _ : World) = W
  have hB0 : Below w.heap.size w W := by subst hW; (repeat (first|exact Qr _ _|assumption|refine Qd ?_|refine Qa ?_ _|refine Qt ?_|refine Qs ?_ _|refine Qo ?_ ?_ _ _))
  have c00 : ∀ W',Below W.heap.size W W' → W'.cell? ⟨w.heap.size,0,none⟩ = some (.int .i64 px) := fun W' h => by
   rw [h.cell (by subst hW; simp <;> omega)]; subst hW; simp [go_sem]
  have c01 : ∀ W',Below W.heap.size W W' → W'.cell? ⟨w.heap.size,1,none⟩ = some (.int .i64 py) := fun W' h => by
   rw [h.cell (by subst hW; simp <;> omega)]; subst hW; simp [go_sem]
  have c10 : ∀ W',Below W.heap.size W W' → W'.cell? ⟨w.heap.size + 1,0,none⟩ = some (.int .i64 ax) := fun W' h => by
   rw [h.cell (by subst hW; simp <;> omega)]; subst hW; simp [go_sem]
  have c11 : ∀ W',Below W.heap.size W W' → W'.cell? ⟨w.heap.size + 1,1,none⟩ = some (.int .i64 ay) := fun W' h => by
   rw [h.cell (by subst hW; simp <;> omega)]; subst hW; simp [go_sem]
  have c20 : ∀ W',Below W.heap.size W W' → W'.cell? ⟨w.heap.size + 1 + 1,0,none⟩ = some (.int .i64 bx) := fun W' h => by
   rw [h.cell (by subst hW; simp <;> omega)]; subst hW; simp [go_sem]
  have c21 : ∀ W',Below W.heap.size W W' → W'.cell? ⟨w.heap.size + 1 + 1,1,none⟩ = some (.int .i64 by') := fun W' h => by
   rw [h.cell (by subst hW; simp <;> omega)]; subst hW; simp [go_sem]
  clear hW
  have HB0 : Hid (Below w.heap.size w W) := hB0
  clear hB0
  have hr : Below W.heap.size W W := Below.refl _ _
  go_wp2_with (first
   | (go_at_call 176; refine (l1Distance_any _ _ _ _ _ (by first | exact HP.out | exact HA.out) (by first | exact HA.out | exact HB.out)).mono ?_; rintro e w' ⟨rfl,hb⟩; have hbn : Below W.heap.size W w' := (by (repeat (first|exact Qr _ _|assumption|refine Qd ?_|refine Qa ?_ _|refine Qt ?_|refine Qs ?_ _|refine Qo ?_ ?_ _ _)))))
  go_ret
  exact ⟨ret_bool HE.out.symm,by have HB1 := HB0.out; (repeat (first|exact Qr _ _|assumption|refine Qd ?_|refine Qa ?_ _|refine Qt ?_|refine Qs ?_ _|refine Qo ?_ ?_ _ _))⟩
 ·by_cases c2 : distI ax ay bx by' ≤ (px - ax) * (bx - ax) + (py - ay) * (by' - ay)
  ·have HE : Hid (nearB px py ax ay bx by' r = decide (distI px py bx by' ≤ r * r)) := by
    show _ = _
    simp [nearB,overI,underI,alongI,c1,c2]
   go_enter Tryz.func168,Tryz.ntmps168
   go_wp2_with fail
   generalize hW : (((w.alloc _).alloc _).alloc _ : World) = W
   have hB0 : Below w.heap.size w W := by subst hW; (repeat (first|exact Qr _ _|assumption|refine Qd ?_|refine Qa ?_ _|refine Qt ?_|refine Qs ?_ _|refine Qo ?_ ?_ _ _))
   have c00 : ∀ W',Below W.heap.size W W' → W'.cell? ⟨w.heap.size,0,none⟩ = some (.int .i64 px) := fun W' h => by
    rw [h.cell (by subst hW; simp <;> omega)]; subst hW; simp [go_sem]
   have c01 : ∀ W',Below W.heap.size W W' → W'.cell? ⟨w.heap.size,1,none⟩ = some (.int .i64 py) := fun W' h => by
    rw [h.cell (by subst hW; simp <;> omega)]; subst hW; simp [go_sem]
   have c10 : ∀ W',Below W.heap.size W W' → W'.cell? ⟨w.heap.size + 1,0,none⟩ = some (.int .i64 ax) := fun W' h => by
    rw [h.cell (by subst hW; simp <;> omega)]; subst hW; simp [go_sem]
   have c11 : ∀ W',Below W.heap.size W W' → W'.cell? ⟨w.heap.size + 1,1,none⟩ = some (.int .i64 ay) := fun W' h => by
    rw [h.cell (by subst hW; simp <;> omega)]; subst hW; simp [go_sem]
   have c20 : ∀ W',Below W.heap.size W W' → W'.cell? ⟨w.heap.size + 1 + 1,0,none⟩ = some (.int .i64 bx) := fun W' h => by
    rw [h.cell (by subst hW; simp <;> omega)]; subst hW; simp [go_sem]
   have c21 : ∀ W',Below W.heap.size W W' → W'.cell? ⟨w.heap.size + 1 + 1,1,none⟩ = some (.int .i64 by') := fun W' h => by
    rw [h.cell (by subst hW; simp <;> omega)]; subst hW; simp [go_sem]
   clear hW
   have HB0 : Hid (Below w.heap.size w W) := hB0
   clear hB0
   have hr : Below W.heap.size W W := Below.refl _ _
   go_wp2_with (first
    | (go_at_call 176; refine (l1Distance_any _ _ _ _ _ (by first | exact HP.out | exact HA.out) (by first | exact HA.out | exact HB.out)).mono ?_; rintro e w' ⟨rfl,hb⟩; have hbn : Below W.heap.size W w' := (by (repeat (first|exact Qr _ _|assumption|refine Qd ?_|refine Qa ?_ _|refine Qt ?_|refine Qs ?_ _|refine Qo ?_ ?_ _ _)))))
   go_ret
   exact ⟨ret_bool HE.out.symm,by have HB1 := HB0.out; (repeat (first|exact Qr _ _|assumption|refine Qd ?_|refine Qa ?_ _|refine Qt ?_|refine Qs ?_ _|refine Qo ?_ ?_ _ _))⟩
  ·have HE : Hid (nearB px py ax ay bx by' r = decide (crossI ax ay bx by' px py * crossI ax ay bx by' px py ≤ r * r * distI ax ay bx by')) := by
    show _ = _
    simp [nearB,overI,underI,alongI,c1,c2]
   go_enter Tryz.func168,Tryz.ntmps168
   go_wp2_with fail
   generalize hW : (((w.alloc _).alloc _).alloc _ : World) = W
   have hB0 : Below w.heap.size w W := by subst hW; (repeat (first|exact Qr _ _|assumption|refine Qd ?_|refine Qa ?_ _|refine Qt ?_|refine Qs ?_ _|refine Qo ?_ ?_ _ _))
   have c00 : ∀ W',Below W.heap.size W W' → W'.cell? ⟨w.heap.size,0,none⟩ = some (.int .i64 px) := fun W' h => by
    rw [h.cell (by subst hW; simp <;> omega)]; subst hW; simp [go_sem]
   have c01 : ∀ W',Below W.heap.size W W' → W'.cell? ⟨w.heap.size,1,none⟩ = some (.int .i64 py) := fun W' h => by
    rw [h.cell (by subst hW; simp <;> omega)]; subst hW; simp [go_sem]
   have c10 : ∀ W',Below W.heap.size W W' → W'.cell? ⟨w.heap.size + 1,0,none⟩ = some (.int .i64 ax) := fun W' h => by
    rw [h.cell (by subst hW; simp <;> omega)]; subst hW; simp [go_sem]
   have c11 : ∀ W',Below W.heap.size W W' → W'.cell? ⟨w.heap.size + 1,1,none⟩ = some (.int .i64 ay) := fun W' h => by
    rw [h.cell (by subst hW; simp <;> omega)]; subst hW; simp [go_sem]
   have c20 : ∀ W',Below W.heap.size W W' → W'.cell? ⟨w.heap.size + 1 + 1,0,none⟩ = some (.int .i64 bx) := fun W' h => by
    rw [h.cell (by subst hW; simp <;> omega)]; subst hW; simp [go_sem]
   have c21 : ∀ W',Below W.heap.size W W' → W'.cell? ⟨w.heap.size + 1 + 1,1,none⟩ = some (.int .i64 by') := fun W' h => by
    rw [h.cell (by subst hW; simp <;> omega)]; subst hW; simp [go_sem]
   clear hW
   have HB0 : Hid (Below w.heap.size w W) := hB0
   clear hB0
   have hr : Below W.heap.size W W := Below.refl _ _
   go_wp2_with (first
    | (go_at_call 176; refine (l1Distance_any _ _ _ _ _ (by first | exact HP.out | exact HA.out) (by first | exact HA.out | exact HB.out)).mono ?_; rintro e w' ⟨rfl,hb⟩; have hbn : Below W.heap.size W w' := (by (repeat (first|exact Qr _ _|assumption|refine Qd ?_|refine Qa ?_ _|refine Qt ?_|refine Qs ?_ _|refine Qo ?_ ?_ _ _))))
    | (go_at_call 177; refine (l1Cross_any _ _ _ _ _ _ _ (by exact HA.out) (by exact HB.out) (by exact HP.out)).mono ?_; rintro e w' ⟨rfl,hb⟩; have hbn : Below W.heap.size W w' := (by (repeat (first|exact Qr _ _|assumption|refine Qd ?_|refine Qa ?_ _|refine Qt ?_|refine Qs ?_ _|refine Qo ?_ ?_ _ _)))))
   go_ret
   exact ⟨ret_bool HE.out.symm,by have HB1 := HB0.out; (repeat (first|exact Qr _ _|assumption|refine Qd ?_|refine Qa ?_ _|refine Qt ?_|refine Qs ?_ _|refine Qo ?_ ?_ _ _))⟩
abbrev wayOfW (ax ay bx by' : Int) (w : World) : World := ((w.alloc (.cells #[.int .i64 ax, .int .i64 ay] 204)).alloc (.cells #[.int .i64 bx, .int .i64 by'] 204)).alloc (.cells #[.int .i64 (bx - ax), .int .i64 (by' - ay)] 204)
theorem wayOf_ex (ax ay bx by' : Int) (w : World) (ha : okP ax ay = true) (hb : okP bx by' = true) :
  Calls Tryz.prog 171 #[.agg #[.int .i64 ax, .int .i64 ay], .agg #[.int .i64 bx, .int .i64 by']] w fun e w' => e = .returned (.agg #[.int .i64 (bx - ax), .int .i64 (by' - ay)]) ∧ wayOfW ax ay bx by' w = w' := by
 obtain ⟨⟨a1,a2⟩,a3,a4⟩ := okP_bd ha
 obtain ⟨⟨b1,b2⟩,b3,b4⟩ := okP_bd hb
 clear ha hb
 go_enter Tryz.func171,Tryz.ntmps171
 go_wp2
 exact bodyPost_ret (v := .agg #[.int .i64 (bx - ax), .int .i64 (by' - ay)]) (by simp [results,Tryz.results171,go_sem]) rfl ⟨rfl,rfl⟩
theorem turnOf_any (ax ay bx by' cx cy : Int) (w : World) (ha : okP ax ay = true) (hb : okP bx by' = true) (hc : okP cx cy = true) :
  Calls Tryz.prog 173 #[.agg #[.int .i64 ax, .int .i64 ay], .agg #[.int .i64 bx, .int .i64 by'], .agg #[.int .i64 cx, .int .i64 cy]] w fun e w' => e = .returned (.int .i64 (crossI ax ay bx by' cx cy)) ∧ Below w.heap.size w w' := by
 obtain ⟨⟨a1,a2⟩,a3,a4⟩ := okP_bd ha
 obtain ⟨⟨b1,b2⟩,b3,b4⟩ := okP_bd hb
 obtain ⟨⟨c1,c2⟩,c3,c4⟩ := okP_bd hc
 have HA : Hid _ := ha
 have HB : Hid _ := hb
 have HC : Hid _ := hc
 clear ha hb hc
 unfold crossI
 obtain ⟨p1,p2⟩ := mul_bd (a := bx - ax) (b := cy - ay) (B := 5120) (C := 5120) (by omega) (by omega) (by omega) (by omega) (by omega)
 obtain ⟨q1,q2⟩ := mul_bd (a := by' - ay) (b := cx - ax) (B := 5120) (C := 5120) (by omega) (by omega) (by omega) (by omega) (by omega)
 go_enter Tryz.func173,Tryz.ntmps173
 go_wp2
 generalize hW : (((w.alloc _).alloc _).alloc _ : World) = W
 have hB0 : Below w.heap.size w W := by subst hW; (repeat (first|exact Qr _ _|assumption|refine Qd ?_|refine Qa ?_ _|refine Qt ?_|refine Qs ?_ _|refine Qo ?_ ?_ _ _))
 have c00 : ∀ W',Below W.heap.size W W' → W'.cell? ⟨w.heap.size,0,none⟩ = some (.int .i64 ax) := fun W' h => by
  rw [h.cell (by subst hW; simp <;> omega)]; subst hW; simp [go_sem]
 have c01 : ∀ W',Below W.heap.size W W' → W'.cell? ⟨w.heap.size,1,none⟩ = some (.int .i64 ay) := fun W' h => by
  rw [h.cell (by subst hW; simp <;> omega)]; subst hW; simp [go_sem]
 have c10 : ∀ W',Below W.heap.size W W' → W'.cell? ⟨w.heap.size + 1,0,none⟩ = some (.int .i64 bx) := fun W' h => by
  rw [h.cell (by subst hW; simp <;> omega)]; subst hW; simp [go_sem]
 have c11 : ∀ W',Below W.heap.size W W' → W'.cell? ⟨w.heap.size + 1,1,none⟩ = some (.int .i64 by') := fun W' h => by
  rw [h.cell (by subst hW; simp <;> omega)]; subst hW; simp [go_sem]
 have c20 : ∀ W',Below W.heap.size W W' → W'.cell? ⟨w.heap.size + 1 + 1,0,none⟩ = some (.int .i64 cx) := fun W' h => by
  rw [h.cell (by subst hW; simp <;> omega)]; subst hW; simp [go_sem]
 have c21 : ∀ W',Below W.heap.size W W' → W'.cell? ⟨w.heap.size + 1 + 1,1,none⟩ = some (.int .i64 cy) := fun W' h => by
  rw [h.cell (by subst hW; simp <;> omega)]; subst hW; simp [go_sem]
 clear hW
 have HB0 : Hid (Below w.heap.size w W) := hB0
 clear hB0
 go_cut [7,8] (fun t s wc => ∃ b d : Nat,t = .pointer (some ⟨b,0,none⟩) ∧ s = .pointer (some ⟨d,0,none⟩) ∧ Below W.heap.size W wc ∧ wc.cell? ⟨b,0,none⟩ = some (.int .i64 (bx - ax)) ∧ wc.cell? ⟨b,1,none⟩ = some (.int .i64 (by' - ay)) ∧ wc.cell? ⟨d,0,none⟩ = some (.int .i64 (cx - ax)) ∧ wc.cell? ⟨d,1,none⟩ = some (.int .i64 (cy - ay)))
 case first =>
  go_region_held3 (fun W' => Below W.heap.size W W') ((repeat (first|exact Qr _ _|assumption|refine Qd ?_|refine Qa ?_ _|refine Qt ?_|refine Qs ?_ _|refine Qo ?_ ?_ _ _)))
   (first | (go_at_call 171; refine (wayOf_ex _ _ _ _ _ (by exact HA.out) (by first | exact HB.out | exact HC.out)).mono ?_; rintro e w' ⟨rfl,rfl⟩))
  all_goals
   go_wp2_with fail
   go_meet
   case rel =>
    refine ⟨_,_,rfl,rfl,by assumption,?_,?_,?_,?_⟩ <;> (go_simp; done)
 case rest =>
  obtain ⟨b1,d1,rfl,rfl,hB1,x1,x2,x3,x4⟩ := hcut
  clear c00 c01 c10 c11 c20 c21
  go_wp2
  go_ret
  exact ⟨rfl,bl_then HB0.out hB1⟩
theorem faultIn3 (b cap : Nat) (mx my nx ny ox oy c : Int) (w : World) (g0 : w.cell? ⟨b,0,none⟩ = some (.int .i64 mx)) (g1 : w.cell? ⟨b,1,none⟩ = some (.int .i64 my)) (g2 : w.cell? ⟨b,2,none⟩ = some (.int .i64 nx)) (g3 : w.cell? ⟨b,3,none⟩ = some (.int .i64 ny)) (g4 : w.cell? ⟨b,4,none⟩ = some (.int .i64 ox)) (g5 : w.cell? ⟨b,5,none⟩ = some (.int .i64 oy)) (hcap : 3 ≤ cap) (hc : codeN 3 (fun i => if i = 0 then mx else if i = 1 then nx else ox) (fun i => if i = 0 then my else if i = 1 then ny else oy) = c) :
  Calls Tryz.prog 105 #[.slice (some ⟨b,0,none⟩) 3 cap] w fun e w' => e = .returned (.int .i64 c) ∧ Below w.heap.size w w' := by
 rw [← hc]
 refine faultIn_any b 0 3 cap (fun i => if i = 0 then mx else if i = 1 then nx else ox) (fun i => if i = 0 then my else if i = 1 then ny else oy) w (fun i hi => ?_) (World.block_lt_of_cell? w ⟨b,0,none⟩ g0) hcap (by omega)
 have hcase : i = 0 ∨ i = 1 ∨ i = 2 := by omega
 rcases hcase with rfl | rfl | rfl <;> simp [*]
theorem codeN3_ok (mx my nx ny ox oy : Int) (h0 : okP mx my = true) (h1 : okP nx ny = true) (h2 : okP ox oy = true) : codeN 3 (fun i => if i = 0 then mx else if i = 1 then nx else ox) (fun i => if i = 0 then my else if i = 1 then ny else oy) = 0 := codeN_ok fun i hi => by
 have hcase : i = 0 ∨ i = 1 ∨ i = 2 := by omega
 rcases hcase with rfl | rfl | rfl <;> simp [*]
theorem codeN3_0 (mx my nx ny ox oy : Int) (h : okP mx my = false) : codeN 3 (fun i => if i = 0 then mx else if i = 1 then nx else ox) (fun i => if i = 0 then my else if i = 1 then ny else oy) = 3 := codeN_no 0 (by omega) (by simp [h])
theorem codeN3_1 (mx my nx ny ox oy : Int) (h : okP nx ny = false) : codeN 3 (fun i => if i = 0 then mx else if i = 1 then nx else ox) (fun i => if i = 0 then my else if i = 1 then ny else oy) = 3 := codeN_no 1 (by omega) (by simp [h])
theorem codeN3_2 (mx my nx ny ox oy : Int) (h : okP ox oy = false) : codeN 3 (fun i => if i = 0 then mx else if i = 1 then nx else ox) (fun i => if i = 0 then my else if i = 1 then ny else oy) = 3 := codeN_no 2 (by omega) (by simp [h])
theorem way_df {ax ay bx by' : Int} (ha : okP ax ay = true) (hb : okP bx by' = true) : Df (bx - ax) (by' - ay) := by
 obtain ⟨⟨a1,a2⟩,a3,a4⟩ := okP_bd ha
 obtain ⟨⟨b1,b2⟩,b3,b4⟩ := okP_bd hb
 exact ⟨⟨by omega,by omega⟩,by omega,by omega⟩
theorem equalIn_pair (n : Nat) (a b c d : Int) (w : World) : (Op.equalIn (n + 2) 204 (.agg #[.int .i64 a, .int .i64 b]) (.agg #[.int .i64 c, .int .i64 d])).run Tryz.prog w = .ok ((a == c) && (b == d)) w := by
 have hp0 : ∀ (x y : Int) (w : World),(part 2 #[.int .i64 x, .int .i64 y] 0).run Tryz.prog w = .ok (.int .i64 x) w := fun _ _ _ => by kernel_rfl
 have hp1 : ∀ (x y : Int) (w : World),(part 2 #[.int .i64 x, .int .i64 y] 1).run Tryz.prog w = .ok (.int .i64 y) w := fun _ _ _ => by kernel_rfl
 have hs : ∀ (w : World),(sizeOf 2).run Tryz.prog w = .ok 1 w := fun _ => by kernel_rfl
 have hi := fun (a b : Int) (w : World) => run_equalIn_int (P := Tryz.prog) w n 2 .i64 .i64 a b Tryz.underlying2
 rw [Op.equalIn]
 simp only [Sem.run_bind,run_underlying Tryz.underlying204,Result.andThen_ok,hs]
 simp [List.range',hp0,hp1,hi]
 by_cases h1 : a = c <;> by_cases h2 : b = d <;> simp [h1,h2]
def zoomB (z : Int) : Bool := inB z 0 3
theorem zoomB_cases {z : Int} (h : zoomB z = true) : z = 0 ∨ z = 1 ∨ z = 2 ∨ z = 3 := by
 simp [zoomB,inB] at h
 omega
def unitI (z : Int) : Int := if z = 0 then 128 else if z = 1 then 64 else if z = 2 then 32 else 16
def unitV (z : Int) : Value := if zoomB z = true then .agg #[.int .i64 0, .int .i64 (unitI z)] else .agg #[.int .i64 3, .int .i64 0]
theorem isZoom_any (z : Int) (w : World) : Calls Tryz.prog 41 #[.int .i64 z] w fun e w' => e = .returned (.bool (zoomB z)) ∧ w = w' := by
 unfold zoomB
 go_enter Tryz.func41,Tryz.ntmps41
 go_wp2_with (go_at_call 42; refine (isWithin_any _ _ _ _).mono ?_; rintro e w' ⟨rfl,rfl⟩)
 go_ret
 exact ⟨rfl,rfl⟩
theorem impl_UnitAt_any (z : Int) (w : World) : Calls Tryz.prog 72 #[.int .i64 z] w fun e w' => e = .returned (unitV z) ∧ Below w.heap.size w w' := by
 cases h : zoomB z
 ·go_enter Tryz.func72,Tryz.ntmps72
  go_wp2_with (go_at_call 41; refine (isZoom_any _ _).mono ?_; rintro e w' ⟨rfl,rfl⟩)
  exact bodyPost_ret (v := .agg #[.int .i64 3, .int .i64 0]) (by simp [results,Tryz.results72,go_sem]) rfl ⟨by simp [unitV,h],by (repeat (first|exact Qr _ _|assumption|refine Qd ?_|refine Qa ?_ _|refine Qt ?_|refine Qs ?_ _|refine Qo ?_ ?_ _ _))⟩
 ·rcases zoomB_cases h with rfl | rfl | rfl | rfl
  all_goals
   go_enter Tryz.func72,Tryz.ntmps72
   go_wp2_with (go_at_call 41; refine (isZoom_any _ _).mono ?_; rintro e w' ⟨rfl,rfl⟩)
   first
    | exact bodyPost_ret (v := .agg #[.int .i64 0, .int .i64 128]) (by simp [results,Tryz.results72,go_sem]; done) rfl ⟨rfl,by (repeat (first|exact Qr _ _|assumption|refine Qd ?_|refine Qa ?_ _|refine Qt ?_|refine Qs ?_ _|refine Qo ?_ ?_ _ _))⟩
    | exact bodyPost_ret (v := .agg #[.int .i64 0, .int .i64 64]) (by simp [results,Tryz.results72,go_sem]; done) rfl ⟨rfl,by (repeat (first|exact Qr _ _|assumption|refine Qd ?_|refine Qa ?_ _|refine Qt ?_|refine Qs ?_ _|refine Qo ?_ ?_ _ _))⟩
    | exact bodyPost_ret (v := .agg #[.int .i64 0, .int .i64 32]) (by simp [results,Tryz.results72,go_sem]; done) rfl ⟨rfl,by (repeat (first|exact Qr _ _|assumption|refine Qd ?_|refine Qa ?_ _|refine Qt ?_|refine Qs ?_ _|refine Qo ?_ ?_ _ _))⟩
    | exact bodyPost_ret (v := .agg #[.int .i64 0, .int .i64 16]) (by simp [results,Tryz.results72,go_sem]; done) rfl ⟨rfl,by (repeat (first|exact Qr _ _|assumption|refine Qd ?_|refine Qa ?_ _|refine Qt ?_|refine Qs ?_ _|refine Qo ?_ ?_ _ _))⟩
theorem l3Zoom_any (z : Int) (w : World) : Calls Tryz.prog 50 #[.int .i64 z] w fun e w' => e = .returned (.bool (zoomB z)) ∧ w = w' := by
 unfold zoomB
 go_enter Tryz.func50,Tryz.ntmps50
 go_wp2_with (go_at_call 51; refine (l1In_any _ _ _ _).mono ?_; rintro e w' ⟨rfl,rfl⟩)
 go_ret
 exact ⟨rfl,rfl⟩
theorem l3Unit_any (z : Int) (w : World) (h : zoomB z = true) : Calls Tryz.prog 138 #[.int .i64 z] w fun e w' => e = .returned (.int .i64 (unitI z)) ∧ w = w' := by
 rcases zoomB_cases h with rfl | rfl | rfl | rfl
 all_goals
  go_enter Tryz.func138,Tryz.ntmps138
  go_wp2
  go_ret
  exact ⟨rfl,rfl⟩
section
variable {P : Program} {ops : Array Oper} {Q : Exit → Act → World → Prop} {md : Region.Mode} {S : World → Prop} {z : Nat}
def wpAnyL (P : Program) (md : Region.Mode) (ops : Array Oper) (Q : Exit → Act → World → Prop) (S : World → Prop) (z : Nat) : Nat → Array Bool → Act → World → Prop
 | 0,listed,a,w => Region.ready md ops listed = [] ∧ Q .normal a w
 | fuel + 1,listed,a,w =>
  (Region.ready md ops listed = [] → Q .normal a w) ∧
  ∀ i ∈ Region.ready md ops listed,wpOp P ops Q i (fun a' w' => (i ≠ z → S w') ∧ wpAnyL P md ops Q S z fuel (listed.setIfInBounds i true) a' w') a w
theorem wpAny_of_L : ∀ (fuel : Nat) (listed : Array Bool) (a : Act) (w : World),wpAnyL P md ops Q S z fuel listed a w → wpAny P md ops Q fuel listed a w
 | 0,_,_,_,h => h
 | fuel + 1,_,_,_,h => ⟨h.1,fun i hi => wpOp_mono (fun a' w' h' => wpAny_of_L fuel _ a' w' h'.2) (h.2 i hi)⟩
def waitsFor (md : Region.Mode) (ops : Array Oper) (z i : Nat) : Bool := ((ops[z]?).map (·.after.any fun e => Region.binds md e && (e.on == i))).getD false
theorem not_ready {i : Nat} {listed : Array Bool} (hw : waitsFor md ops z i = true) (hi : listed.getD i true = false) : ¬ z ∈ Region.ready md ops listed := by
 intro hz
 obtain ⟨_,oz,hoz,hall⟩ := mem_ready.1 hz
 unfold waitsFor at hw
 rw [hoz] at hw
 simp only [Option.map_some,Option.getD_some,Array.any_eq_true] at hw
 obtain ⟨k,hk,he⟩ := hw
 rw [Bool.and_eq_true,beq_iff_eq] at he
 have h1 := hall _ (Array.getElem_mem hk) he.1
 rw [he.2] at h1
 rcases Nat.lt_or_ge i listed.size with h' | h'
 ·simp [h'] at hi h1; rw [hi] at h1; cases h1
 ·simp [Array.getElem?_eq_none h'] at h1
theorem wpAnyL_first {i : Nat} {oi : Oper} {v : Value} (hi : ops[i]? = some oi) (hsel : ∀ (j : Nat) (o : Oper) cs b,ops[j]? = some o → o.op ≠ .select cs b)
  (hQ : ∀ c a w,Q (.panic c) (a.put oi.dst v) w → Q (.panic c) a w) (hwz : waitsFor md ops z i = true) :
  ∀ (fuel : Nat) (listed : Array Bool) (a : Act) (w : World),
   (∀ j oj,ops[j]? = some oj → j ≠ i → listed.getD j true = false → (∀ e ∈ oj.after,Region.binds md e = true → e.on ≠ i) → oi.apart ops oj = true) →
   i ∈ Region.ready md ops listed → YieldsIf P ops S oi v a → S w →
   wpAnyL P md ops Q S z fuel (listed.setIfInBounds i true) (a.put oi.dst v) w → wpAnyL P md ops Q S z (fuel + 1) listed a w := by
 intro fuel
 induction fuel with
 | zero =>
  intro listed a w _ hr hy hS H
  refine ⟨fun h => (by rw [h] at hr; cases hr),fun j hj => ?_⟩
  by_cases hji : j = i
  ·subst hji; exact hy.wpOp hi hS ⟨fun _ => hS,H⟩
  ·have := ready_mono hj hji
   rw [H.1] at this
   cases this
 | succ fuel ih =>
  intro listed a w hfree hr hy hS H
  refine ⟨fun h => (by rw [h] at hr; cases hr),fun j hj => ?_⟩
  by_cases hji : j = i
  ·subst hji; exact hy.wpOp hi hS ⟨fun _ => hS,H⟩
  ·have hjz : j ≠ z := fun e => not_ready hwz (mem_ready.1 hr).1 (e ▸ hj)
   have h1 := H.2 j (ready_mono hj hji)
   obtain ⟨hjun,oj,hoj,hall⟩ := mem_ready.1 hj
   have hnot : ∀ e ∈ oj.after,Region.binds md e = true → e.on ≠ i := fun e he hb heq => by
    have h1 := hall e he hb
    have h0 := (mem_ready.1 hr).1
    rw [heq] at h1
    rcases Nat.lt_or_ge i listed.size with h' | h'
    ·simp [h'] at h0 h1; rw [h0] at h1; cases h1
    ·simp [Array.getElem?_eq_none h'] at h1
   have h2 := wpOp_putIf hoj (hfree j oj hoj hji hjun hnot) (fun cs b => hsel i oi cs b hi) (fun cs b => hsel j oj cs b hoj) hQ hy h1
   have hfree' : ∀ k ok,ops[k]? = some ok → k ≠ i → (listed.setIfInBounds j true).getD k true = false →
     (∀ e ∈ ok.after,Region.binds md e = true → e.on ≠ i) → oi.apart ops ok = true := fun k ok hk hki hun hno => by
    refine hfree k ok hk hki ?_ hno
    by_cases hjk : j = k
    ·subst hjk; exact hjun
    ·rw [getD_set_ne true hjk] at hun; exact hun
   refine wpOp_mono (fun a' w' h3 => ⟨h3.2.1,ih (listed.setIfInBounds j true) a' w' hfree' (ready_mono hr (Ne.symm hji)) h3.1 (h3.2.1 hjz) ?_⟩) h2
   rw [Array.setIfInBounds_comm _ _ hji]
   exact h3.2.2
theorem wpAnyL_take {i : Nat} {oi : Oper} {v : Value} {fuel : Nat} {listed : Array Bool} {a : Act} {w : World} (hi : ops[i]? = some oi)
  (hs : Region.noSelect ops = true) (hf : Region.free md ops listed i = true) (hr : (Region.ready md ops listed).contains i = true) (hwz : waitsFor md ops z i = true)
  (hQ : ∀ c a w,Q (.panic c) (a.put oi.dst v) w → Q (.panic c) a w) (hy : YieldsIf P ops S oi v a) (hS : S w)
  (h : wpAnyL P md ops Q S z fuel (listed.setIfInBounds i true) (a.put oi.dst v) w) : wpAnyL P md ops Q S z (fuel + 1) listed a w :=
 wpAnyL_first hi (Region.noSelect_spec hs) hQ hwz fuel listed a w (Region.free_spec hi hf) (by simpa using hr) hy hS h
theorem wpAnyL_one {i : Nat} {o : Oper} {fuel : Nat} {listed : Array Bool} {a : Act} {w : World} (hr : Region.ready md ops listed = [i]) (ho : ops[i]? = some o)
  (h : ∀ K' : Act → World → Prop,Shut (∀ a w,(i ≠ z → S w) → wpAnyL P md ops Q S z fuel (listed.setIfInBounds i true) a w → K' a w) → if Region.wanted o (yielded ops a.tmps) = true then Oper.wp P o a w K' Q else K' (a.put o.dst undef) w) :
  wpAnyL P md ops Q S z (fuel + 1) listed a w := by
 refine ⟨fun h0 => (by rw [hr] at h0; cases h0),fun j hj => ?_⟩
 rw [hr] at hj
 obtain rfl : j = i := by simpa using hj
 exact wpOp_step ho (fun K' hK => h K' (fun a w hS hW => hK a w ⟨hS,hW⟩))
theorem wpAnyL_done {listed : Array Bool} {a : Act} {w : World} (hr : Region.ready md ops listed = []) (h : Q .normal a w) :
  ∀ fuel,wpAnyL P md ops Q S z fuel listed a w
 | 0 => ⟨hr,h⟩
 | _ + 1 => ⟨fun _ => h,by rw [hr]; simp⟩
theorem wp_region_L {id : Nat} {a : Act} {w : World} (hm : P.follows .mixedOrders = true)
  (h : wpAnyL P .any ops Q S z ops.size (Array.replicate ops.size false) a w.drew) : (Code.region id ops true).wp P Q a w :=
 wp_region_any hm (wpAny_of_L _ _ _ _ h)
end
def sideB (px py ax ay bx by' : Int) : Bool :=
 if decide (py < ay) == decide (py < by') then false
 else if ay < by' then decide (0 < crossI ax ay bx by' px py) else decide (crossI ax ay bx by' px py < 0)
theorem cross_swap (ax ay bx by' px py : Int) : crossI bx by' ax ay px py = - crossI ax ay bx by' px py := by
 simp only [crossI,Int.mul_sub,Int.sub_mul]
 have e1 := Int.mul_comm ax ay
 have e2 := Int.mul_comm bx by'
 have e3 := Int.mul_comm ax by'
 have e4 := Int.mul_comm bx ay
 have e5 := Int.mul_comm ay px
 have e6 := Int.mul_comm by' px
 omega
def oddTo (f : Nat → Bool) : Nat → Bool
 | 0 => false
 | k + 1 => if f k = true then !(oddTo f k) else oddTo f k
theorem oddTo_turn (f g : Nat → Bool) (n : Nat) (h0 : g 0 = f (n - 1)) (hs : ∀ i,i + 1 < n → g (i + 1) = f i) (hn : 0 < n) : oddTo g n = oddTo f n := by
 have key : ∀ k,k + 1 ≤ n → oddTo g (k + 1) = if f (n - 1) = true then !(oddTo f k) else oddTo f k := by
  intro k
  induction k with
  | zero => intro _; simp [oddTo,h0]
  | succ k ih =>
   intro hk
   rw [oddTo,ih (by omega),hs k (by omega),oddTo]
   cases f k <;> cases f (n - 1) <;> simp
 obtain ⟨m,rfl⟩ : ∃ m,n = m + 1 := ⟨n - 1,by omega⟩
 rw [key m (by omega)]
 simp [oddTo]
theorem side_up {px py ax ay bx by' : Int} (h : ay ≤ by') : sideB px py ax ay bx by' = (decide (ay ≤ py) && decide (py < by') && decide (0 < crossI ax ay bx by' px py)) := by
 unfold sideB
 by_cases h1 : py < ay
 ·have h2 : py < by' := by omega
  have h3 : ¬ ay ≤ py := by omega
  simp [h1,h2,h3]
 ·have h3 : ay ≤ py := by omega
  by_cases h2 : py < by'
  ·have h4 : ay < by' := by omega
   simp [h1,h2,h3,h4]
  ·simp [h1,h2,h3]
theorem side_down {px py ax ay bx by' : Int} (h : by' < ay) : sideB px py ax ay bx by' = (decide (by' ≤ py) && decide (py < ay) && decide (0 < crossI bx by' ax ay px py)) := by
 unfold sideB
 rw [cross_swap ax ay bx by']
 have h4 : ¬ ay < by' := by omega
 by_cases h1 : py < ay
 ·by_cases h2 : py < by'
  ·have h3 : ¬ by' ≤ py := by omega
   simp [h1,h2,h3]
  ·have h3 : by' ≤ py := by omega
   simp [h1,h2,h3,h4]
 ·have h2 : ¬ py < by' := by omega
  simp [h1,h2]
end Go.Proofs.YtfkonhagjahgnaaGreat
