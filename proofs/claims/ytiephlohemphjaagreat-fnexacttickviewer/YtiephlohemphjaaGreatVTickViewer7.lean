/- Texts. -/
import Derived.Test.YtiephlohemphjaaGreatVTickViewer5
set_option linter.unusedSimpArgs false
set_option linter.unusedVariables false
set_option maxRecDepth 100000
set_option maxHeartbeats 32000000
namespace Go.Proofs.YtiephlohemphjaaGreat
open Go.RowKit
def letB (c : Int) : Bool := decide (97 ≤ c) && decide (c ≤ 122)
theorem isLetter_any (c : Int) (w : World) : Calls Tryz.prog 261 #[.int .u8 c] w fun e w' => e = .returned (.bool (letB c)) ∧ w' = w := by
 unfold letB
 go_enter Tryz.func261,Tryz.ntmps261
 by_cases h1 : 97 ≤ c
 ·go_wp2
  all_goals (go_ret; exact ⟨ret_bool (by simp [h1]),rfl⟩)
 ·have h2 : decide (97 ≤ c) = false := by simpa using h1
  go_wp2
  all_goals (go_ret; exact ⟨ret_bool (by simp [h1]),rfl⟩)
def sizeB (ki : Int) (n : Int) : Bool := if ki = 1 then decide (n = 1) else if ki = 2 then inB n 2 12 else inB n 3 12
theorem l2Size_any (ki n : Int) (w : World) : Calls Tryz.prog 199 #[.int .i64 ki, .int .i64 n] w fun e w' => e = .returned (.bool (sizeB ki n)) ∧ w' = w := by
 unfold sizeB
 by_cases h1 : ki = 1
 ·subst h1
  go_enter Tryz.func199,Tryz.ntmps199
  go_wp2
  go_ret
  exact ⟨ret_bool rfl,rfl⟩
 ·by_cases h2 : ki = 2
  ·subst h2
   go_enter Tryz.func199,Tryz.ntmps199
   go_wp2_with (go_at_call 30; refine (l1In_any _ _ _ _).mono ?_; rintro e w' ⟨rfl,rfl⟩)
   go_ret
   exact ⟨ret_bool (by simp),rfl⟩
  ·have k1 : (ki == 1) = false := by simpa using h1
   have k2 : (ki == 2) = false := by simpa using h2
   go_enter Tryz.func199,Tryz.ntmps199
   go_wp2_with (go_at_call 30; refine (l1In_any _ _ _ _).mono ?_; rintro e w' ⟨rfl,rfl⟩)
   go_ret
   exact ⟨ret_bool (by simp [h1,h2]),rfl⟩
abbrev kP : Value := .iface 307 (.agg #[])
abbrev kL : Value := .iface 308 (.agg #[])
abbrev kA : Value := .iface 309 (.agg #[])
theorem kinds_ex (w : World) : Calls Tryz.prog 260 #[] w fun e w' => e = .returned (.slice (some ⟨w.heap.size, 0, none⟩) 3 3) ∧ w' = w.alloc (.cells #[kP, kL, kA] 280) := by
 go_enter Tryz.func260, Tryz.ntmps260
 go_wp2
 go_ret
 exact ⟨rfl, rfl⟩
theorem numP (w : World) : (method 451 307 (.agg #[]) "loop.example/g00403/impl.number").run Tryz.prog w = .ok (296, .agg #[]) w := by kernel_rfl
theorem numberP (w : World) : Calls Tryz.prog 296 #[.agg #[]] w fun e w' => e = .returned (.int .i64 1) ∧ Below w.heap.size w w' := by
 go_enter Tryz.func296, Tryz.ntmps296
 go_wp2
 go_ret
 exact ⟨rfl, by (repeat (first|exact Qr _ _|assumption|refine Qd ?_|refine Qa ?_ _|refine Qt ?_|refine Qs ?_ _|refine Qo ?_ ?_ _ _))⟩
theorem numL (w : World) : (method 451 308 (.agg #[]) "loop.example/g00403/impl.number").run Tryz.prog w = .ok (297, .agg #[]) w := by kernel_rfl
theorem numberL (w : World) : Calls Tryz.prog 297 #[.agg #[]] w fun e w' => e = .returned (.int .i64 2) ∧ Below w.heap.size w w' := by
 go_enter Tryz.func297, Tryz.ntmps297
 go_wp2
 go_ret
 exact ⟨rfl, by (repeat (first|exact Qr _ _|assumption|refine Qd ?_|refine Qa ?_ _|refine Qt ?_|refine Qs ?_ _|refine Qo ?_ ?_ _ _))⟩
theorem numA (w : World) : (method 451 309 (.agg #[]) "loop.example/g00403/impl.number").run Tryz.prog w = .ok (298, .agg #[]) w := by kernel_rfl
theorem numberA (w : World) : Calls Tryz.prog 298 #[.agg #[]] w fun e w' => e = .returned (.int .i64 3) ∧ Below w.heap.size w w' := by
 go_enter Tryz.func298, Tryz.ntmps298
 go_wp2
 go_ret
 exact ⟨rfl, by (repeat (first|exact Qr _ _|assumption|refine Qd ?_|refine Qa ?_ _|refine Qt ?_|refine Qs ?_ _|refine Qo ?_ ?_ _ _))⟩
theorem kindOf_1 (w : World) : Calls Tryz.prog 234 #[.int .i64 1] w fun e w' => e = .returned kP ∧ Below w.heap.size w w' := by
 have h1 := numP
 have h2 := numL
 have h3 := numA
 go_enter Tryz.func234, Tryz.ntmps234
 go_wp2_with fail
 refine (kinds_ex _).mono ?_
 rintro e W ⟨rfl, hW⟩
 have hB : Below w.heap.size w W := by subst hW; exact Qb
 have c0 : ∀ W', Below W.heap.size W W' → W'.cell? ⟨w.heap.size, 0, none⟩ = some kP := fun W' h => by
  rw [h.cell (by subst hW; simp)]; subst hW; simp [go_sem]
 have c1 : ∀ W', Below W.heap.size W W' → W'.cell? ⟨w.heap.size, 1, none⟩ = some kL := fun W' h => by
  rw [h.cell (by subst hW; simp)]; subst hW; simp [go_sem]
 have c2 : ∀ W', Below W.heap.size W W' → W'.cell? ⟨w.heap.size, 2, none⟩ = some kA := fun W' h => by
  rw [h.cell (by subst hW; simp)]; subst hW; simp [go_sem]
 clear hW
 have HB : Hid (Below w.heap.size w W) := hB
 clear hB
 have hr : Below W.heap.size W W := Below.refl _ _
 go_wp2
 refine wp_loop_rounds 4 ?_
 rw [rounds_succ]
 go_wp2_with fail
 refine (numberP _).mono ?_
 rintro e w0 ⟨rfl, hb0⟩
 have hB0 : Below W.heap.size W w0 := by exact Qb
 go_wp2_with fail
 go_ret
 exact ⟨rfl, bl_then HB.out (by assumption)⟩
theorem kindOf_2 (w : World) : Calls Tryz.prog 234 #[.int .i64 2] w fun e w' => e = .returned kL ∧ Below w.heap.size w w' := by
 have h1 := numP
 have h2 := numL
 have h3 := numA
 go_enter Tryz.func234, Tryz.ntmps234
 go_wp2_with fail
 refine (kinds_ex _).mono ?_
 rintro e W ⟨rfl, hW⟩
 have hB : Below w.heap.size w W := by subst hW; exact Qb
 have c0 : ∀ W', Below W.heap.size W W' → W'.cell? ⟨w.heap.size, 0, none⟩ = some kP := fun W' h => by
  rw [h.cell (by subst hW; simp)]; subst hW; simp [go_sem]
 have c1 : ∀ W', Below W.heap.size W W' → W'.cell? ⟨w.heap.size, 1, none⟩ = some kL := fun W' h => by
  rw [h.cell (by subst hW; simp)]; subst hW; simp [go_sem]
 have c2 : ∀ W', Below W.heap.size W W' → W'.cell? ⟨w.heap.size, 2, none⟩ = some kA := fun W' h => by
  rw [h.cell (by subst hW; simp)]; subst hW; simp [go_sem]
 clear hW
 have HB : Hid (Below w.heap.size w W) := hB
 clear hB
 have hr : Below W.heap.size W W := Below.refl _ _
 go_wp2
 refine wp_loop_rounds 4 ?_
 rw [rounds_succ]
 go_wp2_with fail
 refine (numberP _).mono ?_
 rintro e w0 ⟨rfl, hb0⟩
 have hB0 : Below W.heap.size W w0 := by exact Qb
 go_wp2_with fail
 rw [rounds_succ]
 go_wp2_with fail
 refine (numberL _).mono ?_
 rintro e w1 ⟨rfl, hb1⟩
 have hB1 : Below W.heap.size W w1 := by exact Qb
 go_wp2_with fail
 go_ret
 exact ⟨rfl, bl_then HB.out (by assumption)⟩
theorem kindOf_3 (w : World) : Calls Tryz.prog 234 #[.int .i64 3] w fun e w' => e = .returned kA ∧ Below w.heap.size w w' := by
 have h1 := numP
 have h2 := numL
 have h3 := numA
 go_enter Tryz.func234, Tryz.ntmps234
 go_wp2_with fail
 refine (kinds_ex _).mono ?_
 rintro e W ⟨rfl, hW⟩
 have hB : Below w.heap.size w W := by subst hW; exact Qb
 have c0 : ∀ W', Below W.heap.size W W' → W'.cell? ⟨w.heap.size, 0, none⟩ = some kP := fun W' h => by
  rw [h.cell (by subst hW; simp)]; subst hW; simp [go_sem]
 have c1 : ∀ W', Below W.heap.size W W' → W'.cell? ⟨w.heap.size, 1, none⟩ = some kL := fun W' h => by
  rw [h.cell (by subst hW; simp)]; subst hW; simp [go_sem]
 have c2 : ∀ W', Below W.heap.size W W' → W'.cell? ⟨w.heap.size, 2, none⟩ = some kA := fun W' h => by
  rw [h.cell (by subst hW; simp)]; subst hW; simp [go_sem]
 clear hW
 have HB : Hid (Below w.heap.size w W) := hB
 clear hB
 have hr : Below W.heap.size W W := Below.refl _ _
 go_wp2
 refine wp_loop_rounds 4 ?_
 rw [rounds_succ]
 go_wp2_with fail
 refine (numberP _).mono ?_
 rintro e w0 ⟨rfl, hb0⟩
 have hB0 : Below W.heap.size W w0 := by exact Qb
 go_wp2_with fail
 rw [rounds_succ]
 go_wp2_with fail
 refine (numberL _).mono ?_
 rintro e w1 ⟨rfl, hb1⟩
 have hB1 : Below W.heap.size W w1 := by exact Qb
 go_wp2_with fail
 rw [rounds_succ]
 go_wp2_with fail
 refine (numberA _).mono ?_
 rintro e w2 ⟨rfl, hb2⟩
 have hB2 : Below W.heap.size W w2 := by exact Qb
 go_wp2_with fail
 go_ret
 exact ⟨rfl, bl_then HB.out (by assumption)⟩
theorem kindOf_no (ki : Int) (w : World) (k1 : ki ≠ 1) (k2 : ki ≠ 2) (k3 : ki ≠ 3) : Calls Tryz.prog 234 #[.int .i64 ki] w fun e w' => e = .returned .nilIface ∧ Below w.heap.size w w' := by
 have h1 := numP
 have h2 := numL
 have h3 := numA
 have e1 : ((1 : Int) == ki) = false := by simp; omega
 have e2 : ((2 : Int) == ki) = false := by simp; omega
 have e3 : ((3 : Int) == ki) = false := by simp; omega
 go_enter Tryz.func234, Tryz.ntmps234
 go_wp2_with fail
 refine (kinds_ex _).mono ?_
 rintro e W ⟨rfl, hW⟩
 have hB : Below w.heap.size w W := by subst hW; exact Qb
 have c0 : ∀ W', Below W.heap.size W W' → W'.cell? ⟨w.heap.size, 0, none⟩ = some kP := fun W' h => by
  rw [h.cell (by subst hW; simp)]; subst hW; simp [go_sem]
 have c1 : ∀ W', Below W.heap.size W W' → W'.cell? ⟨w.heap.size, 1, none⟩ = some kL := fun W' h => by
  rw [h.cell (by subst hW; simp)]; subst hW; simp [go_sem]
 have c2 : ∀ W', Below W.heap.size W W' → W'.cell? ⟨w.heap.size, 2, none⟩ = some kA := fun W' h => by
  rw [h.cell (by subst hW; simp)]; subst hW; simp [go_sem]
 clear hW
 have HB : Hid (Below w.heap.size w W) := hB
 clear hB
 have hr : Below W.heap.size W W := Below.refl _ _
 go_wp2
 refine wp_loop_rounds 4 ?_
 rw [rounds_succ]
 go_wp2_with fail
 refine (numberP _).mono ?_
 rintro e w0 ⟨rfl, hb0⟩
 have hB0 : Below W.heap.size W w0 := by exact Qb
 go_wp2_with fail
 rw [rounds_succ]
 go_wp2_with fail
 refine (numberL _).mono ?_
 rintro e w1 ⟨rfl, hb1⟩
 have hB1 : Below W.heap.size W w1 := by exact Qb
 go_wp2_with fail
 rw [rounds_succ]
 go_wp2_with fail
 refine (numberA _).mono ?_
 rintro e w2 ⟨rfl, hb2⟩
 have hB2 : Below W.heap.size W w2 := by exact Qb
 go_wp2_with fail
 rw [rounds_succ]
 go_wp2_with fail
 go_ret
 exact ⟨rfl, bl_then HB.out (by assumption)⟩
theorem asPP (w : World) : (Instr.typeAssert kP 280 307 true).run Tryz.prog w = .ok (.tuple #[.agg #[], .bool true]) w := by kernel_rfl
theorem asPL (w : World) : (Instr.typeAssert kP 280 308 true).run Tryz.prog w = .ok (.tuple #[.agg #[], .bool false]) w := by kernel_rfl
theorem asPA (w : World) : (Instr.typeAssert kP 280 309 true).run Tryz.prog w = .ok (.tuple #[.agg #[], .bool false]) w := by kernel_rfl
abbrev wordP : ByteArray := ⟨#[112, 111, 105, 110, 116]⟩
theorem tellKind_1 (w : World) : Calls Tryz.prog 235 #[kP] w fun e w' => e = .returned (.tuple #[.string wordP, .int .i64 1]) ∧ Below w.heap.size w w' := by
 have h1 := asPP
 have h2 := asPL
 have h3 := asPA
 go_enter Tryz.func235, Tryz.ntmps235
 go_wp2
 go_ret2
 exact ⟨rfl, by (repeat (first|exact Qr _ _|assumption|refine Qd ?_|refine Qa ?_ _|refine Qt ?_|refine Qs ?_ _|refine Qo ?_ ?_ _ _))⟩
theorem leastPoints_1 (w : World) : Calls Tryz.prog 236 #[kP] w fun e w' => e = .returned (.int .i64 1) ∧ Below w.heap.size w w' := by
 have h1 := numP
 have h2 := numL
 have h3 := numA
 go_enter Tryz.func236, Tryz.ntmps236
 go_wp2_with (first | (go_at_call 296; refine (numberP _).mono ?_; rintro e w' ⟨rfl, hb⟩) | (go_at_call 297; refine (numberL _).mono ?_; rintro e w' ⟨rfl, hb⟩) | (go_at_call 298; refine (numberA _).mono ?_; rintro e w' ⟨rfl, hb⟩))
 go_ret
 exact ⟨rfl, by (repeat (first|exact Qr _ _|assumption|refine Qd ?_|refine Qa ?_ _|refine Qt ?_|refine Qs ?_ _|refine Qo ?_ ?_ _ _))⟩
theorem asLP (w : World) : (Instr.typeAssert kL 280 307 true).run Tryz.prog w = .ok (.tuple #[.agg #[], .bool false]) w := by kernel_rfl
theorem asLL (w : World) : (Instr.typeAssert kL 280 308 true).run Tryz.prog w = .ok (.tuple #[.agg #[], .bool true]) w := by kernel_rfl
theorem asLA (w : World) : (Instr.typeAssert kL 280 309 true).run Tryz.prog w = .ok (.tuple #[.agg #[], .bool false]) w := by kernel_rfl
abbrev wordL : ByteArray := ⟨#[108, 105, 110, 101]⟩
theorem tellKind_2 (w : World) : Calls Tryz.prog 235 #[kL] w fun e w' => e = .returned (.tuple #[.string wordL, .int .i64 12]) ∧ Below w.heap.size w w' := by
 have h1 := asLP
 have h2 := asLL
 have h3 := asLA
 go_enter Tryz.func235, Tryz.ntmps235
 go_wp2
 go_ret2
 exact ⟨rfl, by (repeat (first|exact Qr _ _|assumption|refine Qd ?_|refine Qa ?_ _|refine Qt ?_|refine Qs ?_ _|refine Qo ?_ ?_ _ _))⟩
theorem leastPoints_2 (w : World) : Calls Tryz.prog 236 #[kL] w fun e w' => e = .returned (.int .i64 2) ∧ Below w.heap.size w w' := by
 have h1 := numP
 have h2 := numL
 have h3 := numA
 go_enter Tryz.func236, Tryz.ntmps236
 go_wp2_with (first | (go_at_call 296; refine (numberP _).mono ?_; rintro e w' ⟨rfl, hb⟩) | (go_at_call 297; refine (numberL _).mono ?_; rintro e w' ⟨rfl, hb⟩) | (go_at_call 298; refine (numberA _).mono ?_; rintro e w' ⟨rfl, hb⟩))
 go_ret
 exact ⟨rfl, by (repeat (first|exact Qr _ _|assumption|refine Qd ?_|refine Qa ?_ _|refine Qt ?_|refine Qs ?_ _|refine Qo ?_ ?_ _ _))⟩
theorem asAP (w : World) : (Instr.typeAssert kA 280 307 true).run Tryz.prog w = .ok (.tuple #[.agg #[], .bool false]) w := by kernel_rfl
theorem asAL (w : World) : (Instr.typeAssert kA 280 308 true).run Tryz.prog w = .ok (.tuple #[.agg #[], .bool false]) w := by kernel_rfl
theorem asAA (w : World) : (Instr.typeAssert kA 280 309 true).run Tryz.prog w = .ok (.tuple #[.agg #[], .bool true]) w := by kernel_rfl
abbrev wordA : ByteArray := ⟨#[97, 114, 101, 97]⟩
theorem tellKind_3 (w : World) : Calls Tryz.prog 235 #[kA] w fun e w' => e = .returned (.tuple #[.string wordA, .int .i64 12]) ∧ Below w.heap.size w w' := by
 have h1 := asAP
 have h2 := asAL
 have h3 := asAA
 go_enter Tryz.func235, Tryz.ntmps235
 go_wp2
 go_ret2
 exact ⟨rfl, by (repeat (first|exact Qr _ _|assumption|refine Qd ?_|refine Qa ?_ _|refine Qt ?_|refine Qs ?_ _|refine Qo ?_ ?_ _ _))⟩
theorem leastPoints_3 (w : World) : Calls Tryz.prog 236 #[kA] w fun e w' => e = .returned (.int .i64 3) ∧ Below w.heap.size w w' := by
 have h1 := numP
 have h2 := numL
 have h3 := numA
 go_enter Tryz.func236, Tryz.ntmps236
 go_wp2_with (first | (go_at_call 296; refine (numberP _).mono ?_; rintro e w' ⟨rfl, hb⟩) | (go_at_call 297; refine (numberL _).mono ?_; rintro e w' ⟨rfl, hb⟩) | (go_at_call 298; refine (numberA _).mono ?_; rintro e w' ⟨rfl, hb⟩))
 go_ret
 exact ⟨rfl, by (repeat (first|exact Qr _ _|assumption|refine Qd ?_|refine Qa ?_ _|refine Qt ?_|refine Qs ?_ _|refine Qo ?_ ?_ _ _))⟩
def isNearB (px py ax ay bx by' r : Int) : Bool := okP px py && (okP ax ay && (okP bx by' && (inB r 0 4096 && nearB px py ax ay bx by' r)))
theorem dist_comm (ax ay bx by' : Int) : distI ax ay bx by' = distI bx by' ax ay := by
 unfold distI
 rw [← Int.neg_sub bx ax, ← Int.neg_sub by' ay,Int.neg_mul_neg,Int.neg_mul_neg]
theorem along_comm (px py ax ay bx by' : Int) : alongI px py ax ay bx by' = (bx - ax) * (px - ax) + (by' - ay) * (py - ay) := by
 unfold alongI
 rw [Int.mul_comm (px - ax),Int.mul_comm (py - ay)]
theorem along_same (px py ax ay : Int) : alongI px py ax ay ax ay = 0 := by simp [alongI]
theorem dist_def (ax ay bx by' : Int) : (bx - ax) * (bx - ax) + (by' - ay) * (by' - ay) = distI ax ay bx by' := rfl
theorem ret_two {a b c d : Int} (h : a = b) (k : c = d) : Ending.returned (.tuple #[.int .i64 a, .int .i64 c]) = .returned (.tuple #[.int .i64 b, .int .i64 d]) := by rw [h,k]
theorem gapOf_same (px py ax ay bx by' : Int) (w : World) (hp : okP px py = true) (ha : okP ax ay = true) (hb : okP bx by' = true) (heq : ∀ w,(Op.equalIn 10000 323 (.agg #[.int .i64 ax, .int .i64 ay]) (.agg #[.int .i64 bx, .int .i64 by'])).run Tryz.prog w = .ok true w) :
  Calls Tryz.prog 274 #[.agg #[.int .i64 px, .int .i64 py], .agg #[.int .i64 ax, .int .i64 ay], .agg #[.int .i64 bx, .int .i64 by']] w fun e w' => e = .returned (.tuple #[.int .i64 ((px - ax) * (px - ax) + (py - ay) * (py - ay)), .int .i64 (1)]) ∧ Below w.heap.size w w' := by
 have HP : Hid _ := hp
 have HA : Hid _ := ha
 have HB : Hid _ := hb
 clear hp ha hb
 go_enter Tryz.func274,Tryz.ntmps274
 go_wp2_with fail
 generalize hW : (((w.alloc _).alloc _).alloc _ : World) = W
 have hB0 : Below w.heap.size w W := by subst hW; exact Qb
 have c00 : ∀ W',Below W.heap.size W W' → W'.cell? ⟨w.heap.size,0,none⟩ = some (.int .i64 px) := fun W' h => by
  rw [h.cell (by subst hW; simp <;> omega)]; subst hW; simp [go_sem]
 have c01 : ∀ W',Below W.heap.size W W' → W'.cell? ⟨w.heap.size,1,none⟩ = some (.int .i64 py) := fun W' h => by
  rw [h.cell (by subst hW; simp <;> omega)]; subst hW; simp [go_sem]
 have c10 : ∀ W',Below W.heap.size W W' → W'.cell? ⟨w.heap.size + 1,0,none⟩ = some (.int .i64 ax) := fun W' h => by
  rw [h.cell (by subst hW; simp <;> omega)]; subst hW; simp [go_sem]
 have c11 : ∀ W',Below W.heap.size W W' → W'.cell? ⟨w.heap.size + 1,1,none⟩ = some (.int .i64 ay) := fun W' h => by
  rw [h.cell (by subst hW; simp <;> omega)]; subst hW; simp [go_sem]
 have c20 : ∀ W',Below W.heap.size W W' → W'.cell? ⟨w.heap.size + 1 + 1,0,none⟩ = some (.int .i64 bx) := fun W' h => by
  rw [h.cell (by subst hW; simp <;> omega)]; subst hW; simp [go_sem]
 have c21 : ∀ W',Below W.heap.size W W' → W'.cell? ⟨w.heap.size + 1 + 1,1,none⟩ = some (.int .i64 by') := fun W' h => by
  rw [h.cell (by subst hW; simp <;> omega)]; subst hW; simp [go_sem]
 clear hW
 have HB0 : Hid (Below w.heap.size w W) := hB0
 clear hB0
 have hr : Below W.heap.size W W := Below.refl _ _
 go_wp2_with (first
  | (go_at_call 278; refine (wayOf_any _ _ _ _ _ (by first | exact HA.out | exact HB.out) (by first | exact HP.out | exact HB.out)).mono ?_; rintro e w' ⟨rfl,hb⟩; have hbn : Below W.heap.size W w' := (by exact Qb))
  | (go_at_call 277; refine (squareOf_any _ _ _ (by first | exact way_df HA.out HP.out | exact way_df HB.out HP.out | exact way_df HA.out HB.out)).mono ?_; rintro e w' ⟨rfl,hb⟩; have hbn : Below W.heap.size W w' := (by exact Qb)))
 go_ret2
 exact ⟨rfl,by have HB1 := HB0.out; exact Qb⟩
theorem gapOf_low (px py ax ay bx by' : Int) (w : World) (hp : okP px py = true) (ha : okP ax ay = true) (hb : okP bx by' = true) (heq : ∀ w,(Op.equalIn 10000 323 (.agg #[.int .i64 ax, .int .i64 ay]) (.agg #[.int .i64 bx, .int .i64 by'])).run Tryz.prog w = .ok false w) (c1 : (bx - ax) * (px - ax) + (by' - ay) * (py - ay) ≤ 0) :
  Calls Tryz.prog 274 #[.agg #[.int .i64 px, .int .i64 py], .agg #[.int .i64 ax, .int .i64 ay], .agg #[.int .i64 bx, .int .i64 by']] w fun e w' => e = .returned (.tuple #[.int .i64 ((px - ax) * (px - ax) + (py - ay) * (py - ay)), .int .i64 (1)]) ∧ Below w.heap.size w w' := by
 have HP : Hid _ := hp
 have HA : Hid _ := ha
 have HB : Hid _ := hb
 clear hp ha hb
 go_enter Tryz.func274,Tryz.ntmps274
 go_wp2_with fail
 generalize hW : (((w.alloc _).alloc _).alloc _ : World) = W
 have hB0 : Below w.heap.size w W := by subst hW; exact Qb
 have c00 : ∀ W',Below W.heap.size W W' → W'.cell? ⟨w.heap.size,0,none⟩ = some (.int .i64 px) := fun W' h => by
  rw [h.cell (by subst hW; simp <;> omega)]; subst hW; simp [go_sem]
 have c01 : ∀ W',Below W.heap.size W W' → W'.cell? ⟨w.heap.size,1,none⟩ = some (.int .i64 py) := fun W' h => by
  rw [h.cell (by subst hW; simp <;> omega)]; subst hW; simp [go_sem]
 have c10 : ∀ W',Below W.heap.size W W' → W'.cell? ⟨w.heap.size + 1,0,none⟩ = some (.int .i64 ax) := fun W' h => by
  rw [h.cell (by subst hW; simp <;> omega)]; subst hW; simp [go_sem]
 have c11 : ∀ W',Below W.heap.size W W' → W'.cell? ⟨w.heap.size + 1,1,none⟩ = some (.int .i64 ay) := fun W' h => by
  rw [h.cell (by subst hW; simp <;> omega)]; subst hW; simp [go_sem]
 have c20 : ∀ W',Below W.heap.size W W' → W'.cell? ⟨w.heap.size + 1 + 1,0,none⟩ = some (.int .i64 bx) := fun W' h => by
  rw [h.cell (by subst hW; simp <;> omega)]; subst hW; simp [go_sem]
 have c21 : ∀ W',Below W.heap.size W W' → W'.cell? ⟨w.heap.size + 1 + 1,1,none⟩ = some (.int .i64 by') := fun W' h => by
  rw [h.cell (by subst hW; simp <;> omega)]; subst hW; simp [go_sem]
 clear hW
 have HB0 : Hid (Below w.heap.size w W) := hB0
 clear hB0
 have hr : Below W.heap.size W W := Below.refl _ _
 go_wp2_with (first
  | (go_at_call 278; refine (wayOf_any _ _ _ _ _ (by first | exact HA.out | exact HB.out) (by first | exact HP.out | exact HB.out)).mono ?_; rintro e w' ⟨rfl,hb⟩; have hbn : Below W.heap.size W w' := (by exact Qb)))
 have hl : w'.heap.size < w'.heap.size + 1 := by omega
 generalize hV : (w'.alloc _ : World) = V
 have hWV : Below W.heap.size W V := by subst hV; exact Qb
 have g0 : ∀ W',Below V.heap.size V W' → W'.cell? ⟨w'.heap.size,0,none⟩ = some (.int .i64 (bx - ax)) := fun W' h => by
  rw [h.cell (by subst hV; simp)]; subst hV; simp [go_sem]
 have g1 : ∀ W',Below V.heap.size V W' → W'.cell? ⟨w'.heap.size,1,none⟩ = some (.int .i64 (by' - ay)) := fun W' h => by
  rw [h.cell (by subst hV; simp)]; subst hV; simp [go_sem]
 clear hV hl
 have HVW : Hid (∀ W',Below V.heap.size V W' → Below W.heap.size W W') := fun W' h => bl_then hWV h
 replace c00 := fun W' h => c00 W' (HVW.out W' h)
 replace c01 := fun W' h => c01 W' (HVW.out W' h)
 replace c10 := fun W' h => c10 W' (HVW.out W' h)
 replace c11 := fun W' h => c11 W' (HVW.out W' h)
 replace c20 := fun W' h => c20 W' (HVW.out W' h)
 replace c21 := fun W' h => c21 W' (HVW.out W' h)
 have HBV : Hid (Below w.heap.size w V) := bl_then HB0.out hWV
 clear hr hb hbn hWV
 go_region_held3 (fun W' => Below V.heap.size V W') ((repeat (first|exact Qr _ _|assumption|refine Qd ?_|refine Qa ?_ _|refine Qt ?_|refine Qs ?_ _|refine Qo ?_ ?_ _ _)))
  (first
   | (go_at_call 278; refine (wayOf_any _ _ _ _ _ HA.out HP.out).mono ?_; rintro e w1 ⟨rfl,hb⟩)
   | (go_at_call 279; refine (dotOf_any _ _ _ _ _ (way_df HA.out HB.out) (way_df HA.out HP.out)).mono ?_; rintro e w1 ⟨rfl,hb⟩)
   | (go_at_call 277; refine (squareOf_any _ _ _ (way_df HA.out HB.out)).mono ?_; rintro e w1 ⟨rfl,hb⟩))
 go_wp2_with (first
  | (go_at_call 278; refine (wayOf_any _ _ _ _ _ (by first | exact HA.out | exact HB.out) (by exact HP.out)).mono ?_; rintro e w2 ⟨rfl,hbz⟩; have hbn : Below V.heap.size V w2 := (by exact Qb))
  | (go_at_call 277; refine (squareOf_any _ _ _ (by first | exact way_df HA.out HP.out | exact way_df HB.out HP.out)).mono ?_; rintro e w2 ⟨rfl,hbz⟩; have hbn : Below V.heap.size V w2 := (by exact Qb)))
 go_ret2
 exact ⟨rfl,by have HB1 := HBV.out; exact Qb⟩
theorem gapOf_high (px py ax ay bx by' : Int) (w : World) (hp : okP px py = true) (ha : okP ax ay = true) (hb : okP bx by' = true) (heq : ∀ w,(Op.equalIn 10000 323 (.agg #[.int .i64 ax, .int .i64 ay]) (.agg #[.int .i64 bx, .int .i64 by'])).run Tryz.prog w = .ok false w) (c1 : ¬ (bx - ax) * (px - ax) + (by' - ay) * (py - ay) ≤ 0) (c2 : (bx - ax) * (bx - ax) + (by' - ay) * (by' - ay) ≤ (bx - ax) * (px - ax) + (by' - ay) * (py - ay)) :
  Calls Tryz.prog 274 #[.agg #[.int .i64 px, .int .i64 py], .agg #[.int .i64 ax, .int .i64 ay], .agg #[.int .i64 bx, .int .i64 by']] w fun e w' => e = .returned (.tuple #[.int .i64 ((px - bx) * (px - bx) + (py - by') * (py - by')), .int .i64 (1)]) ∧ Below w.heap.size w w' := by
 have HP : Hid _ := hp
 have HA : Hid _ := ha
 have HB : Hid _ := hb
 clear hp ha hb
 go_enter Tryz.func274,Tryz.ntmps274
 go_wp2_with fail
 generalize hW : (((w.alloc _).alloc _).alloc _ : World) = W
 have hB0 : Below w.heap.size w W := by subst hW; exact Qb
 have c00 : ∀ W',Below W.heap.size W W' → W'.cell? ⟨w.heap.size,0,none⟩ = some (.int .i64 px) := fun W' h => by
  rw [h.cell (by subst hW; simp <;> omega)]; subst hW; simp [go_sem]
 have c01 : ∀ W',Below W.heap.size W W' → W'.cell? ⟨w.heap.size,1,none⟩ = some (.int .i64 py) := fun W' h => by
  rw [h.cell (by subst hW; simp <;> omega)]; subst hW; simp [go_sem]
 have c10 : ∀ W',Below W.heap.size W W' → W'.cell? ⟨w.heap.size + 1,0,none⟩ = some (.int .i64 ax) := fun W' h => by
  rw [h.cell (by subst hW; simp <;> omega)]; subst hW; simp [go_sem]
 have c11 : ∀ W',Below W.heap.size W W' → W'.cell? ⟨w.heap.size + 1,1,none⟩ = some (.int .i64 ay) := fun W' h => by
  rw [h.cell (by subst hW; simp <;> omega)]; subst hW; simp [go_sem]
 have c20 : ∀ W',Below W.heap.size W W' → W'.cell? ⟨w.heap.size + 1 + 1,0,none⟩ = some (.int .i64 bx) := fun W' h => by
  rw [h.cell (by subst hW; simp <;> omega)]; subst hW; simp [go_sem]
 have c21 : ∀ W',Below W.heap.size W W' → W'.cell? ⟨w.heap.size + 1 + 1,1,none⟩ = some (.int .i64 by') := fun W' h => by
  rw [h.cell (by subst hW; simp <;> omega)]; subst hW; simp [go_sem]
 clear hW
 have HB0 : Hid (Below w.heap.size w W) := hB0
 clear hB0
 have hr : Below W.heap.size W W := Below.refl _ _
 go_wp2_with (first
  | (go_at_call 278; refine (wayOf_any _ _ _ _ _ (by first | exact HA.out | exact HB.out) (by first | exact HP.out | exact HB.out)).mono ?_; rintro e w' ⟨rfl,hb⟩; have hbn : Below W.heap.size W w' := (by exact Qb)))
 have hl : w'.heap.size < w'.heap.size + 1 := by omega
 generalize hV : (w'.alloc _ : World) = V
 have hWV : Below W.heap.size W V := by subst hV; exact Qb
 have g0 : ∀ W',Below V.heap.size V W' → W'.cell? ⟨w'.heap.size,0,none⟩ = some (.int .i64 (bx - ax)) := fun W' h => by
  rw [h.cell (by subst hV; simp)]; subst hV; simp [go_sem]
 have g1 : ∀ W',Below V.heap.size V W' → W'.cell? ⟨w'.heap.size,1,none⟩ = some (.int .i64 (by' - ay)) := fun W' h => by
  rw [h.cell (by subst hV; simp)]; subst hV; simp [go_sem]
 clear hV hl
 have HVW : Hid (∀ W',Below V.heap.size V W' → Below W.heap.size W W') := fun W' h => bl_then hWV h
 replace c00 := fun W' h => c00 W' (HVW.out W' h)
 replace c01 := fun W' h => c01 W' (HVW.out W' h)
 replace c10 := fun W' h => c10 W' (HVW.out W' h)
 replace c11 := fun W' h => c11 W' (HVW.out W' h)
 replace c20 := fun W' h => c20 W' (HVW.out W' h)
 replace c21 := fun W' h => c21 W' (HVW.out W' h)
 have HBV : Hid (Below w.heap.size w V) := bl_then HB0.out hWV
 clear hr hb hbn hWV
 go_region_held3 (fun W' => Below V.heap.size V W') ((repeat (first|exact Qr _ _|assumption|refine Qd ?_|refine Qa ?_ _|refine Qt ?_|refine Qs ?_ _|refine Qo ?_ ?_ _ _)))
  (first
   | (go_at_call 278; refine (wayOf_any _ _ _ _ _ HA.out HP.out).mono ?_; rintro e w1 ⟨rfl,hb⟩)
   | (go_at_call 279; refine (dotOf_any _ _ _ _ _ (way_df HA.out HB.out) (way_df HA.out HP.out)).mono ?_; rintro e w1 ⟨rfl,hb⟩)
   | (go_at_call 277; refine (squareOf_any _ _ _ (way_df HA.out HB.out)).mono ?_; rintro e w1 ⟨rfl,hb⟩))
 go_wp2_with (first
  | (go_at_call 278; refine (wayOf_any _ _ _ _ _ (by first | exact HA.out | exact HB.out) (by exact HP.out)).mono ?_; rintro e w2 ⟨rfl,hbz⟩; have hbn : Below V.heap.size V w2 := (by exact Qb))
  | (go_at_call 277; refine (squareOf_any _ _ _ (by first | exact way_df HA.out HP.out | exact way_df HB.out HP.out)).mono ?_; rintro e w2 ⟨rfl,hbz⟩; have hbn : Below V.heap.size V w2 := (by exact Qb)))
 go_ret2
 exact ⟨rfl,by have HB1 := HBV.out; exact Qb⟩
theorem gapOf_mid (px py ax ay bx by' : Int) (w : World) (hp : okP px py = true) (ha : okP ax ay = true) (hb : okP bx by' = true) (heq : ∀ w,(Op.equalIn 10000 323 (.agg #[.int .i64 ax, .int .i64 ay]) (.agg #[.int .i64 bx, .int .i64 by'])).run Tryz.prog w = .ok false w) (c1 : ¬ (bx - ax) * (px - ax) + (by' - ay) * (py - ay) ≤ 0) (c2 : ¬ (bx - ax) * (bx - ax) + (by' - ay) * (by' - ay) ≤ (bx - ax) * (px - ax) + (by' - ay) * (py - ay)) :
  Calls Tryz.prog 274 #[.agg #[.int .i64 px, .int .i64 py], .agg #[.int .i64 ax, .int .i64 ay], .agg #[.int .i64 bx, .int .i64 by']] w fun e w' => e = .returned (.tuple #[.int .i64 (crossI ax ay bx by' px py * crossI ax ay bx by' px py), .int .i64 ((bx - ax) * (bx - ax) + (by' - ay) * (by' - ay))]) ∧ Below w.heap.size w w' := by
 obtain ⟨x1,x2⟩ := cross_bd ha hb hp
 obtain ⟨x3,x4⟩ := mul_bd (a := crossI ax ay bx by' px py) (b := crossI ax ay bx by' px py) (B := 52428800) (C := 52428800) (by omega) (by omega) (by omega) (by omega) (by omega)
 have HP : Hid _ := hp
 have HA : Hid _ := ha
 have HB : Hid _ := hb
 clear hp ha hb
 go_enter Tryz.func274,Tryz.ntmps274
 go_wp2_with fail
 generalize hW : (((w.alloc _).alloc _).alloc _ : World) = W
 have hB0 : Below w.heap.size w W := by subst hW; exact Qb
 have c00 : ∀ W',Below W.heap.size W W' → W'.cell? ⟨w.heap.size,0,none⟩ = some (.int .i64 px) := fun W' h => by
  rw [h.cell (by subst hW; simp <;> omega)]; subst hW; simp [go_sem]
 have c01 : ∀ W',Below W.heap.size W W' → W'.cell? ⟨w.heap.size,1,none⟩ = some (.int .i64 py) := fun W' h => by
  rw [h.cell (by subst hW; simp <;> omega)]; subst hW; simp [go_sem]
 have c10 : ∀ W',Below W.heap.size W W' → W'.cell? ⟨w.heap.size + 1,0,none⟩ = some (.int .i64 ax) := fun W' h => by
  rw [h.cell (by subst hW; simp <;> omega)]; subst hW; simp [go_sem]
 have c11 : ∀ W',Below W.heap.size W W' → W'.cell? ⟨w.heap.size + 1,1,none⟩ = some (.int .i64 ay) := fun W' h => by
  rw [h.cell (by subst hW; simp <;> omega)]; subst hW; simp [go_sem]
 have c20 : ∀ W',Below W.heap.size W W' → W'.cell? ⟨w.heap.size + 1 + 1,0,none⟩ = some (.int .i64 bx) := fun W' h => by
  rw [h.cell (by subst hW; simp <;> omega)]; subst hW; simp [go_sem]
 have c21 : ∀ W',Below W.heap.size W W' → W'.cell? ⟨w.heap.size + 1 + 1,1,none⟩ = some (.int .i64 by') := fun W' h => by
  rw [h.cell (by subst hW; simp <;> omega)]; subst hW; simp [go_sem]
 clear hW
 have HB0 : Hid (Below w.heap.size w W) := hB0
 clear hB0
 have hr : Below W.heap.size W W := Below.refl _ _
 go_wp2_with (first
  | (go_at_call 278; refine (wayOf_any _ _ _ _ _ (by first | exact HA.out | exact HB.out) (by first | exact HP.out | exact HB.out)).mono ?_; rintro e w' ⟨rfl,hb⟩; have hbn : Below W.heap.size W w' := (by exact Qb)))
 have hl : w'.heap.size < w'.heap.size + 1 := by omega
 generalize hV : (w'.alloc _ : World) = V
 have hWV : Below W.heap.size W V := by subst hV; exact Qb
 have g0 : ∀ W',Below V.heap.size V W' → W'.cell? ⟨w'.heap.size,0,none⟩ = some (.int .i64 (bx - ax)) := fun W' h => by
  rw [h.cell (by subst hV; simp)]; subst hV; simp [go_sem]
 have g1 : ∀ W',Below V.heap.size V W' → W'.cell? ⟨w'.heap.size,1,none⟩ = some (.int .i64 (by' - ay)) := fun W' h => by
  rw [h.cell (by subst hV; simp)]; subst hV; simp [go_sem]
 clear hV hl
 have HVW : Hid (∀ W',Below V.heap.size V W' → Below W.heap.size W W') := fun W' h => bl_then hWV h
 replace c00 := fun W' h => c00 W' (HVW.out W' h)
 replace c01 := fun W' h => c01 W' (HVW.out W' h)
 replace c10 := fun W' h => c10 W' (HVW.out W' h)
 replace c11 := fun W' h => c11 W' (HVW.out W' h)
 replace c20 := fun W' h => c20 W' (HVW.out W' h)
 replace c21 := fun W' h => c21 W' (HVW.out W' h)
 have HBV : Hid (Below w.heap.size w V) := bl_then HB0.out hWV
 clear hr hb hbn hWV
 go_region_held3 (fun W' => Below V.heap.size V W') ((repeat (first|exact Qr _ _|assumption|refine Qd ?_|refine Qa ?_ _|refine Qt ?_|refine Qs ?_ _|refine Qo ?_ ?_ _ _)))
  (first
   | (go_at_call 278; refine (wayOf_any _ _ _ _ _ HA.out HP.out).mono ?_; rintro e w1 ⟨rfl,hb⟩)
   | (go_at_call 279; refine (dotOf_any _ _ _ _ _ (way_df HA.out HB.out) (way_df HA.out HP.out)).mono ?_; rintro e w1 ⟨rfl,hb⟩)
   | (go_at_call 277; refine (squareOf_any _ _ _ (way_df HA.out HB.out)).mono ?_; rintro e w1 ⟨rfl,hb⟩))
 go_wp2_with (first
  | (go_at_call 276; refine (turnOf_any _ _ _ _ _ _ _ HA.out HB.out HP.out).mono ?_; rintro e w2 ⟨rfl,hbz⟩; have hbn : Below V.heap.size V w2 := (by exact Qb)))
 go_ret2
 exact ⟨rfl,by have HB1 := HBV.out; exact Qb⟩
theorem gapOf_any (px py ax ay bx by' : Int) (w : World) (hp : okP px py = true) (ha : okP ax ay = true) (hb : okP bx by' = true) :
  Calls Tryz.prog 274 #[.agg #[.int .i64 px, .int .i64 py], .agg #[.int .i64 ax, .int .i64 ay], .agg #[.int .i64 bx, .int .i64 by']] w fun e w' => e = .returned (.tuple #[.int .i64 (overI px py ax ay bx by'), .int .i64 (underI px py ax ay bx by')]) ∧ Below w.heap.size w w' := by
 have heq := fun (w : World) => equalIn_pair 9998 ax ay bx by' w
 by_cases e1 : ax = bx ∧ ay = by'
 ·obtain ⟨rfl,rfl⟩ := e1
  refine (gapOf_same px py ax ay ax ay w hp ha hb (fun w => by rw [heq w]; simp)).mono ?_
  rintro e w' ⟨rfl,h⟩
  exact ⟨ret_two (by rw [overI,along_same,if_pos (Int.le_refl 0),dist_comm]; rfl) (by rw [underI,along_same,if_pos (Int.le_refl 0)]),h⟩
 ·have hf : ((ax == bx) && (ay == by')) = false := by
   by_cases q : ax = bx
   ·have : ¬ ay = by' := fun h => e1 ⟨q,h⟩
    simp [q,this]
   ·simp [q]
  by_cases c1 : (bx - ax) * (px - ax) + (by' - ay) * (py - ay) ≤ 0
  ·refine (gapOf_low px py ax ay bx by' w hp ha hb (fun w => by rw [heq w,hf]) c1).mono ?_
   rintro e w' ⟨rfl,h⟩
   exact ⟨ret_two (by rw [overI,along_comm,if_pos c1,dist_comm]; rfl) (by rw [underI,along_comm,if_pos c1]),h⟩
  ·by_cases c2 : (bx - ax) * (bx - ax) + (by' - ay) * (by' - ay) ≤ (bx - ax) * (px - ax) + (by' - ay) * (py - ay)
   ·refine (gapOf_high px py ax ay bx by' w hp ha hb (fun w => by rw [heq w,hf]) c1 c2).mono ?_
    rintro e w' ⟨rfl,h⟩
    exact ⟨ret_two (by rw [overI,along_comm,if_neg c1,if_pos (by rw [← dist_def]; exact c2),dist_comm]; rfl) (by rw [underI,along_comm,if_neg c1,if_pos (by rw [← dist_def]; exact c2)]),h⟩
   ·refine (gapOf_mid px py ax ay bx by' w hp ha hb (fun w => by rw [heq w,hf]) c1 c2).mono ?_
    rintro e w' ⟨rfl,h⟩
    exact ⟨ret_two (by rw [overI,along_comm,if_neg c1,if_neg (by rw [← dist_def]; exact c2)]) (by rw [underI,along_comm,if_neg c1,if_neg (by rw [← dist_def]; exact c2)]; rfl),h⟩
def lastI (z : Int) : Int := if z = 0 then 0 else if z = 1 then 1 else if z = 2 then 3 else 7
def refB (z x y : Int) : Bool := zoomB z && (inB x 0 (lastI z) && inB y 0 (lastI z))
def refC (z x y : Int) : Int := if refB z x y = true then 0 else 3
theorem refC_cases (z x y : Int) : (refC z x y = 0 ∧ refB z x y = true) ∨ (refC z x y = 3 ∧ refB z x y = false) := by
 unfold refC
 cases h : refB z x y <;> simp
theorem refB_zoom {z x y : Int} (h : refB z x y = true) : z = 0 ∨ z = 1 ∨ z = 2 ∨ z = 3 := by
 simp [refB] at h
 exact zoomB_cases h.1
theorem refB_in {z x y : Int} (h : refB z x y = true) : (0 ≤ x ∧ x ≤ lastI z) ∧ (0 ≤ y ∧ y ≤ lastI z) := by
 simp [refB,inB] at h
 exact h.2
theorem lastI_le (z : Int) : lastI z ≤ 7 := by unfold lastI; split; omega; split; omega; split <;> omega
theorem ref_bd {z x y : Int} (h : refB z x y = true) : (0 ≤ z ∧ z ≤ 3) ∧ (0 ≤ x ∧ x ≤ 7) ∧ (0 ≤ y ∧ y ≤ 7) := by
 have h1 := refB_in h
 have h2 := lastI_le z
 refine ⟨?_,⟨h1.1.1,by omega⟩,h1.2.1,by omega⟩
 rcases refB_zoom h with rfl | rfl | rfl | rfl <;> omega
theorem refFault_any (z x y : Int) (w : World) : Calls Tryz.prog 139 #[.agg #[.int .i64 z, .int .i64 x, .int .i64 y]] w fun e w' => e = .returned (.int .i64 (refC z x y)) ∧ Below w.heap.size w w' := by
 cases h : zoomB z
 ·have hk : Hid (refC z x y = 3) := by show _ = _; simp [refC,refB,h]
  go_enter Tryz.func139,Tryz.ntmps139
  go_wp2_with (first | (go_at_call 102; refine (isZoom_any _ _).mono ?_; rintro e w' ⟨rfl,rfl⟩) | (go_at_call 36; refine (isWithin_any _ _ _ _).mono ?_; rintro e w' ⟨rfl,rfl⟩))
  go_ret
  exact ⟨ret_int hk.out.symm,by (repeat (first|exact Qr _ _|assumption|refine Qd ?_|refine Qa ?_ _|refine Qt ?_|refine Qs ?_ _|refine Qo ?_ ?_ _ _))⟩
 ·have hk : Hid (refC z x y = if (inB x 0 (lastI z) && inB y 0 (lastI z)) = true then 0 else 3) := by show _ = _; simp [refC,refB,h]
  rcases zoomB_cases h with rfl | rfl | rfl | rfl
  ·simp only [show lastI 0 = 0 from rfl] at hk
   cases hx : inB x 0 0 <;> cases hy : inB y 0 0
   all_goals
    rw [hx,hy] at hk
    go_enter Tryz.func139,Tryz.ntmps139
    go_wp2_with (first | (go_at_call 102; refine (isZoom_any _ _).mono ?_; rintro e w' ⟨rfl,rfl⟩) | (go_at_call 36; refine (isWithin_any _ _ _ _).mono ?_; rintro e w' ⟨rfl,rfl⟩))
    all_goals (go_ret; exact ⟨ret_int (by rw [hk.out]; rfl),by (repeat (first|exact Qr _ _|assumption|refine Qd ?_|refine Qa ?_ _|refine Qt ?_|refine Qs ?_ _|refine Qo ?_ ?_ _ _))⟩)
  ·simp only [show lastI 1 = 1 from rfl] at hk
   cases hx : inB x 0 1 <;> cases hy : inB y 0 1
   all_goals
    rw [hx,hy] at hk
    go_enter Tryz.func139,Tryz.ntmps139
    go_wp2_with (first | (go_at_call 102; refine (isZoom_any _ _).mono ?_; rintro e w' ⟨rfl,rfl⟩) | (go_at_call 36; refine (isWithin_any _ _ _ _).mono ?_; rintro e w' ⟨rfl,rfl⟩))
    all_goals (go_ret; exact ⟨ret_int (by rw [hk.out]; rfl),by (repeat (first|exact Qr _ _|assumption|refine Qd ?_|refine Qa ?_ _|refine Qt ?_|refine Qs ?_ _|refine Qo ?_ ?_ _ _))⟩)
  ·simp only [show lastI 2 = 3 from rfl] at hk
   cases hx : inB x 0 3 <;> cases hy : inB y 0 3
   all_goals
    rw [hx,hy] at hk
    go_enter Tryz.func139,Tryz.ntmps139
    go_wp2_with (first | (go_at_call 102; refine (isZoom_any _ _).mono ?_; rintro e w' ⟨rfl,rfl⟩) | (go_at_call 36; refine (isWithin_any _ _ _ _).mono ?_; rintro e w' ⟨rfl,rfl⟩))
    all_goals (go_ret; exact ⟨ret_int (by rw [hk.out]; rfl),by (repeat (first|exact Qr _ _|assumption|refine Qd ?_|refine Qa ?_ _|refine Qt ?_|refine Qs ?_ _|refine Qo ?_ ?_ _ _))⟩)
  ·simp only [show lastI 3 = 7 from rfl] at hk
   cases hx : inB x 0 7 <;> cases hy : inB y 0 7
   all_goals
    rw [hx,hy] at hk
    go_enter Tryz.func139,Tryz.ntmps139
    go_wp2_with (first | (go_at_call 102; refine (isZoom_any _ _).mono ?_; rintro e w' ⟨rfl,rfl⟩) | (go_at_call 36; refine (isWithin_any _ _ _ _).mono ?_; rintro e w' ⟨rfl,rfl⟩))
    all_goals (go_ret; exact ⟨ret_int (by rw [hk.out]; rfl),by (repeat (first|exact Qr _ _|assumption|refine Qd ?_|refine Qa ?_ _|refine Qt ?_|refine Qs ?_ _|refine Qo ?_ ?_ _ _))⟩)
theorem l7Fault_any (z x y : Int) (w : World) : Calls Tryz.prog 111 #[.agg #[.int .i64 z, .int .i64 x, .int .i64 y]] w fun e w' => e = .returned (.int .i64 (refC z x y)) ∧ Below w.heap.size w w' := by
 cases h : zoomB z
 ·have hk : Hid (refC z x y = 3) := by show _ = _; simp [refC,refB,h]
  go_enter Tryz.func111,Tryz.ntmps111
  go_wp2_with (first | (go_at_call 86; refine (l3Zoom_any _ _).mono ?_; rintro e w' ⟨rfl,rfl⟩) | (go_at_call 30; refine (l1In_any _ _ _ _).mono ?_; rintro e w' ⟨rfl,rfl⟩))
  go_ret
  exact ⟨ret_int hk.out.symm,by (repeat (first|exact Qr _ _|assumption|refine Qd ?_|refine Qa ?_ _|refine Qt ?_|refine Qs ?_ _|refine Qo ?_ ?_ _ _))⟩
 ·have hk : Hid (refC z x y = if (inB x 0 (lastI z) && inB y 0 (lastI z)) = true then 0 else 3) := by show _ = _; simp [refC,refB,h]
  rcases zoomB_cases h with rfl | rfl | rfl | rfl
  ·simp only [show lastI 0 = 0 from rfl] at hk
   cases hx : inB x 0 0 <;> cases hy : inB y 0 0
   all_goals
    rw [hx,hy] at hk
    go_enter Tryz.func111,Tryz.ntmps111
    go_wp2_with (first | (go_at_call 86; refine (l3Zoom_any _ _).mono ?_; rintro e w' ⟨rfl,rfl⟩) | (go_at_call 30; refine (l1In_any _ _ _ _).mono ?_; rintro e w' ⟨rfl,rfl⟩))
    all_goals (go_ret; exact ⟨ret_int (by rw [hk.out]; rfl),by (repeat (first|exact Qr _ _|assumption|refine Qd ?_|refine Qa ?_ _|refine Qt ?_|refine Qs ?_ _|refine Qo ?_ ?_ _ _))⟩)
  ·simp only [show lastI 1 = 1 from rfl] at hk
   cases hx : inB x 0 1 <;> cases hy : inB y 0 1
   all_goals
    rw [hx,hy] at hk
    go_enter Tryz.func111,Tryz.ntmps111
    go_wp2_with (first | (go_at_call 86; refine (l3Zoom_any _ _).mono ?_; rintro e w' ⟨rfl,rfl⟩) | (go_at_call 30; refine (l1In_any _ _ _ _).mono ?_; rintro e w' ⟨rfl,rfl⟩))
    all_goals (go_ret; exact ⟨ret_int (by rw [hk.out]; rfl),by (repeat (first|exact Qr _ _|assumption|refine Qd ?_|refine Qa ?_ _|refine Qt ?_|refine Qs ?_ _|refine Qo ?_ ?_ _ _))⟩)
  ·simp only [show lastI 2 = 3 from rfl] at hk
   cases hx : inB x 0 3 <;> cases hy : inB y 0 3
   all_goals
    rw [hx,hy] at hk
    go_enter Tryz.func111,Tryz.ntmps111
    go_wp2_with (first | (go_at_call 86; refine (l3Zoom_any _ _).mono ?_; rintro e w' ⟨rfl,rfl⟩) | (go_at_call 30; refine (l1In_any _ _ _ _).mono ?_; rintro e w' ⟨rfl,rfl⟩))
    all_goals (go_ret; exact ⟨ret_int (by rw [hk.out]; rfl),by (repeat (first|exact Qr _ _|assumption|refine Qd ?_|refine Qa ?_ _|refine Qt ?_|refine Qs ?_ _|refine Qo ?_ ?_ _ _))⟩)
  ·simp only [show lastI 3 = 7 from rfl] at hk
   cases hx : inB x 0 7 <;> cases hy : inB y 0 7
   all_goals
    rw [hx,hy] at hk
    go_enter Tryz.func111,Tryz.ntmps111
    go_wp2_with (first | (go_at_call 86; refine (l3Zoom_any _ _).mono ?_; rintro e w' ⟨rfl,rfl⟩) | (go_at_call 30; refine (l1In_any _ _ _ _).mono ?_; rintro e w' ⟨rfl,rfl⟩))
    all_goals (go_ret; exact ⟨ret_int (by rw [hk.out]; rfl),by (repeat (first|exact Qr _ _|assumption|refine Qd ?_|refine Qa ?_ _|refine Qt ?_|refine Qs ?_ _|refine Qo ?_ ?_ _ _))⟩)
abbrev refV (z x y : Int) : Value := .agg #[.int .i64 z, .int .i64 x, .int .i64 y]
abbrev rrV (c z x y : Int) : Value := .agg #[.int .i64 c, .int .i64 z, .int .i64 x, .int .i64 y]
def atV (z x y : Int) : Value := if pixB z x y = true then rrV 0 z (x / 8) (y / 8) else rrV 3 0 0 0
theorem l7At_any (z x y : Int) (w : World) (h : pixB z x y = true) : Calls Tryz.prog 133 #[.int .i64 z, .int .i64 x, .int .i64 y] w fun e w' => e = .returned (refV z (x / 8) (y / 8)) ∧ Below w.heap.size w w' := by
 obtain ⟨⟨x0,x1⟩,y0,y1⟩ := pixB_in h
 have hp := (pixI_bd (pixB_zoom h)).2
 clear h
 generalize pixI z = u at *
 have dx : x.tdiv 8 = x / 8 := Int.tdiv_eq_ediv_of_nonneg x0
 have dy : y.tdiv 8 = y / 8 := Int.tdiv_eq_ediv_of_nonneg y0
 go_enter Tryz.func133,Tryz.ntmps133
 go_wp2
 exact bodyPost_ret (v := refV z (x / 8) (y / 8)) (by simp [results,Tryz.results133,go_sem]) rfl ⟨rfl,by (repeat (first|exact Qr _ _|assumption|refine Qd ?_|refine Qa ?_ _|refine Qt ?_|refine Qs ?_ _|refine Qo ?_ ?_ _ _))⟩
end Go.Proofs.YtiephlohemphjaaGreat
