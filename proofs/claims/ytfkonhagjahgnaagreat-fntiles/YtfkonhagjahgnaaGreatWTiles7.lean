/- Texts. -/
import Derived.Test.YtfkonhagjahgnaaGreatWTiles1
import Derived.LoopN
import Derived.Test.YtfkonhagjahgnaaGreatWTiles2
import Derived.Deep.RegionHeld3
set_option linter.unusedSimpArgs false
set_option linter.unusedVariables false
set_option maxRecDepth 100000
set_option maxHeartbeats 32000000
namespace Go.Proofs.YtfkonhagjahgnaaGreat
open Go.RowKit
def letB (c : Int) : Bool := decide (97 ≤ c) && decide (c ≤ 122)
theorem isLetter_any (c : Int) (w : World) : Calls Tryz.prog 140 #[.int .u8 c] w fun e w' => e = .returned (.bool (letB c)) ∧ w' = w := by
 unfold letB
 go_enter Tryz.func140,Tryz.ntmps140
 by_cases h1 : 97 ≤ c
 ·go_wp2
  all_goals (go_ret; exact ⟨ret_bool (by simp [h1]),rfl⟩)
 ·have h2 : decide (97 ≤ c) = false := by simpa using h1
  go_wp2
  all_goals (go_ret; exact ⟨ret_bool (by simp [h1]),rfl⟩)
def sizeB (ki : Int) (n : Int) : Bool := if ki = 1 then decide (n = 1) else if ki = 2 then inB n 2 12 else inB n 3 12
theorem l2Size_any (ki n : Int) (w : World) : Calls Tryz.prog 91 #[.int .i64 ki, .int .i64 n] w fun e w' => e = .returned (.bool (sizeB ki n)) ∧ w' = w := by
 unfold sizeB
 by_cases h1 : ki = 1
 ·subst h1
  go_enter Tryz.func91,Tryz.ntmps91
  go_wp2
  go_ret
  exact ⟨ret_bool rfl,rfl⟩
 ·by_cases h2 : ki = 2
  ·subst h2
   go_enter Tryz.func91,Tryz.ntmps91
   go_wp2_with (go_at_call 51; refine (l1In_any _ _ _ _).mono ?_; rintro e w' ⟨rfl,rfl⟩)
   go_ret
   exact ⟨ret_bool (by simp),rfl⟩
  ·have k1 : (ki == 1) = false := by simpa using h1
   have k2 : (ki == 2) = false := by simpa using h2
   go_enter Tryz.func91,Tryz.ntmps91
   go_wp2_with (go_at_call 51; refine (l1In_any _ _ _ _).mono ?_; rintro e w' ⟨rfl,rfl⟩)
   go_ret
   exact ⟨ret_bool (by simp [h1,h2]),rfl⟩
abbrev kP : Value := .iface 182 (.agg #[])
abbrev kL : Value := .iface 183 (.agg #[])
abbrev kA : Value := .iface 184 (.agg #[])
theorem kinds_ex (w : World) : Calls Tryz.prog 109 #[] w fun e w' => e = .returned (.slice (some ⟨w.heap.size, 0, none⟩) 3 3) ∧ w' = w.alloc (.cells #[kP, kL, kA] 121) := by
 go_enter Tryz.func109, Tryz.ntmps109
 go_wp2
 go_ret
 exact ⟨rfl, rfl⟩
theorem numP (w : World) : (method 347 182 (.agg #[]) "loop.example/g00403/impl.number").run Tryz.prog w = .ok (195, .agg #[]) w := by kernel_rfl
theorem numberP (w : World) : Calls Tryz.prog 195 #[.agg #[]] w fun e w' => e = .returned (.int .i64 1) ∧ Below w.heap.size w w' := by
 go_enter Tryz.func195, Tryz.ntmps195
 go_wp2
 go_ret
 exact ⟨rfl, by (repeat (first|exact Qr _ _|assumption|refine Qd ?_|refine Qa ?_ _|refine Qt ?_|refine Qs ?_ _|refine Qo ?_ ?_ _ _))⟩
theorem numL (w : World) : (method 347 183 (.agg #[]) "loop.example/g00403/impl.number").run Tryz.prog w = .ok (196, .agg #[]) w := by kernel_rfl
theorem numberL (w : World) : Calls Tryz.prog 196 #[.agg #[]] w fun e w' => e = .returned (.int .i64 2) ∧ Below w.heap.size w w' := by
 go_enter Tryz.func196, Tryz.ntmps196
 go_wp2
 go_ret
 exact ⟨rfl, by (repeat (first|exact Qr _ _|assumption|refine Qd ?_|refine Qa ?_ _|refine Qt ?_|refine Qs ?_ _|refine Qo ?_ ?_ _ _))⟩
theorem numA (w : World) : (method 347 184 (.agg #[]) "loop.example/g00403/impl.number").run Tryz.prog w = .ok (197, .agg #[]) w := by kernel_rfl
theorem numberA (w : World) : Calls Tryz.prog 197 #[.agg #[]] w fun e w' => e = .returned (.int .i64 3) ∧ Below w.heap.size w w' := by
 go_enter Tryz.func197, Tryz.ntmps197
 go_wp2
 go_ret
 exact ⟨rfl, by (repeat (first|exact Qr _ _|assumption|refine Qd ?_|refine Qa ?_ _|refine Qt ?_|refine Qs ?_ _|refine Qo ?_ ?_ _ _))⟩
theorem kindOf_1 (w : World) : Calls Tryz.prog 70 #[.int .i64 1] w fun e w' => e = .returned kP ∧ Below w.heap.size w w' := by
 have h1 := numP
 have h2 := numL
 have h3 := numA
 go_enter Tryz.func70, Tryz.ntmps70
 go_wp2_with fail
 refine (kinds_ex _).mono ?_
 rintro e W ⟨rfl, hW⟩
 have hB : Below w.heap.size w W := by subst hW; (repeat (first|exact Qr _ _|assumption|refine Qd ?_|refine Qa ?_ _|refine Qt ?_|refine Qs ?_ _|refine Qo ?_ ?_ _ _))
 have c0 : ∀ W', Below W.heap.size W W' → W'.cell? ⟨w.heap.size, 0, none⟩ = some kP := fun W' h => by
  rw [h.cell (by subst hW; simp)]; subst hW; simp [go_sem]
 have c1 : ∀ W', Below W.heap.size W W' → W'.cell? ⟨w.heap.size, 1, none⟩ = some kL := fun W' h => by
  rw [h.cell (by subst hW; simp)]; subst hW; simp [go_sem]
 have c2 : ∀ W', Below W.heap.size W W' → W'.cell? ⟨w.heap.size, 2, none⟩ = some kA := fun W' h => by
  rw [h.cell (by subst hW; simp)]; subst hW; simp [go_sem]
 clear hW
 have HB : Hid (Below w.heap.size w W) := hB
 clear hB
 have hr : Below W.heap.size W W := Below.refl _ _
 go_wp2
 refine wp_loop_rounds 4 ?_
 rw [rounds_succ]
 go_wp2_with fail
 refine (numberP _).mono ?_
 rintro e w0 ⟨rfl, hb0⟩
 have hB0 : Below W.heap.size W w0 := by (repeat (first|exact Qr _ _|assumption|refine Qd ?_|refine Qa ?_ _|refine Qt ?_|refine Qs ?_ _|refine Qo ?_ ?_ _ _))
 go_wp2_with fail
 go_ret
 exact ⟨rfl, bl_then HB.out (by assumption)⟩
theorem kindOf_2 (w : World) : Calls Tryz.prog 70 #[.int .i64 2] w fun e w' => e = .returned kL ∧ Below w.heap.size w w' := by
 have h1 := numP
 have h2 := numL
 have h3 := numA
 go_enter Tryz.func70, Tryz.ntmps70
 go_wp2_with fail
 refine (kinds_ex _).mono ?_
 rintro e W ⟨rfl, hW⟩
 have hB : Below w.heap.size w W := by subst hW; (repeat (first|exact Qr _ _|assumption|refine Qd ?_|refine Qa ?_ _|refine Qt ?_|refine Qs ?_ _|refine Qo ?_ ?_ _ _))
 have c0 : ∀ W', Below W.heap.size W W' → W'.cell? ⟨w.heap.size, 0, none⟩ = some kP := fun W' h => by
  rw [h.cell (by subst hW; simp)]; subst hW; simp [go_sem]
 have c1 : ∀ W', Below W.heap.size W W' → W'.cell? ⟨w.heap.size, 1, none⟩ = some kL := fun W' h => by
  rw [h.cell (by subst hW; simp)]; subst hW; simp [go_sem]
 have c2 : ∀ W', Below W.heap.size W W' → W'.cell? ⟨w.heap.size, 2, none⟩ = some kA := fun W' h => by
  rw [h.cell (by subst hW; simp)]; subst hW; simp [go_sem]
 clear hW
 have HB : Hid (Below w.heap.size w W) := hB
 clear hB
 have hr : Below W.heap.size W W := Below.refl _ _
 go_wp2
 refine wp_loop_rounds 4 ?_
 rw [rounds_succ]
 go_wp2_with fail
 refine (numberP _).mono ?_
 rintro e w0 ⟨rfl, hb0⟩
 have hB0 : Below W.heap.size W w0 := by (repeat (first|exact Qr _ _|assumption|refine Qd ?_|refine Qa ?_ _|refine Qt ?_|refine Qs ?_ _|refine Qo ?_ ?_ _ _))
 go_wp2_with fail
 rw [rounds_succ]
 go_wp2_with fail
 refine (numberL _).mono ?_
 rintro e w1 ⟨rfl, hb1⟩
 have hB1 : Below W.heap.size W w1 := by (repeat (first|exact Qr _ _|assumption|refine Qd ?_|refine Qa ?_ _|refine Qt ?_|refine Qs ?_ _|refine Qo ?_ ?_ _ _))
 go_wp2_with fail
 go_ret
 exact ⟨rfl, bl_then HB.out (by assumption)⟩
theorem kindOf_3 (w : World) : Calls Tryz.prog 70 #[.int .i64 3] w fun e w' => e = .returned kA ∧ Below w.heap.size w w' := by
 have h1 := numP
 have h2 := numL
 have h3 := numA
 go_enter Tryz.func70, Tryz.ntmps70
 go_wp2_with fail
 refine (kinds_ex _).mono ?_
 rintro e W ⟨rfl, hW⟩
 have hB : Below w.heap.size w W := by subst hW; (repeat (first|exact Qr _ _|assumption|refine Qd ?_|refine Qa ?_ _|refine Qt ?_|refine Qs ?_ _|refine Qo ?_ ?_ _ _))
 have c0 : ∀ W', Below W.heap.size W W' → W'.cell? ⟨w.heap.size, 0, none⟩ = some kP := fun W' h => by
  rw [h.cell (by subst hW; simp)]; subst hW; simp [go_sem]
 have c1 : ∀ W', Below W.heap.size W W' → W'.cell? ⟨w.heap.size, 1, none⟩ = some kL := fun W' h => by
  rw [h.cell (by subst hW; simp)]; subst hW; simp [go_sem]
 have c2 : ∀ W', Below W.heap.size W W' → W'.cell? ⟨w.heap.size, 2, none⟩ = some kA := fun W' h => by
  rw [h.cell (by subst hW; simp)]; subst hW; simp [go_sem]
 clear hW
 have HB : Hid (Below w.heap.size w W) := hB
 clear hB
 have hr : Below W.heap.size W W := Below.refl _ _
 go_wp2
 refine wp_loop_rounds 4 ?_
 rw [rounds_succ]
 go_wp2_with fail
 refine (numberP _).mono ?_
 rintro e w0 ⟨rfl, hb0⟩
 have hB0 : Below W.heap.size W w0 := by (repeat (first|exact Qr _ _|assumption|refine Qd ?_|refine Qa ?_ _|refine Qt ?_|refine Qs ?_ _|refine Qo ?_ ?_ _ _))
 go_wp2_with fail
 rw [rounds_succ]
 go_wp2_with fail
 refine (numberL _).mono ?_
 rintro e w1 ⟨rfl, hb1⟩
 have hB1 : Below W.heap.size W w1 := by (repeat (first|exact Qr _ _|assumption|refine Qd ?_|refine Qa ?_ _|refine Qt ?_|refine Qs ?_ _|refine Qo ?_ ?_ _ _))
 go_wp2_with fail
 rw [rounds_succ]
 go_wp2_with fail
 refine (numberA _).mono ?_
 rintro e w2 ⟨rfl, hb2⟩
 have hB2 : Below W.heap.size W w2 := by (repeat (first|exact Qr _ _|assumption|refine Qd ?_|refine Qa ?_ _|refine Qt ?_|refine Qs ?_ _|refine Qo ?_ ?_ _ _))
 go_wp2_with fail
 go_ret
 exact ⟨rfl, bl_then HB.out (by assumption)⟩
theorem kindOf_no (ki : Int) (w : World) (k1 : ki ≠ 1) (k2 : ki ≠ 2) (k3 : ki ≠ 3) : Calls Tryz.prog 70 #[.int .i64 ki] w fun e w' => e = .returned .nilIface ∧ Below w.heap.size w w' := by
 have h1 := numP
 have h2 := numL
 have h3 := numA
 have e1 : ((1 : Int) == ki) = false := by simp; omega
 have e2 : ((2 : Int) == ki) = false := by simp; omega
 have e3 : ((3 : Int) == ki) = false := by simp; omega
 go_enter Tryz.func70, Tryz.ntmps70
 go_wp2_with fail
 refine (kinds_ex _).mono ?_
 rintro e W ⟨rfl, hW⟩
 have hB : Below w.heap.size w W := by subst hW; (repeat (first|exact Qr _ _|assumption|refine Qd ?_|refine Qa ?_ _|refine Qt ?_|refine Qs ?_ _|refine Qo ?_ ?_ _ _))
 have c0 : ∀ W', Below W.heap.size W W' → W'.cell? ⟨w.heap.size, 0, none⟩ = some kP := fun W' h => by
  rw [h.cell (by subst hW; simp)]; subst hW; simp [go_sem]
 have c1 : ∀ W', Below W.heap.size W W' → W'.cell? ⟨w.heap.size, 1, none⟩ = some kL := fun W' h => by
  rw [h.cell (by subst hW; simp)]; subst hW; simp [go_sem]
 have c2 : ∀ W', Below W.heap.size W W' → W'.cell? ⟨w.heap.size, 2, none⟩ = some kA := fun W' h => by
  rw [h.cell (by subst hW; simp)]; subst hW; simp [go_sem]
 clear hW
 have HB : Hid (Below w.heap.size w W) := hB
 clear hB
 have hr : Below W.heap.size W W := Below.refl _ _
 go_wp2
 refine wp_loop_rounds 4 ?_
 rw [rounds_succ]
 go_wp2_with fail
 refine (numberP _).mono ?_
 rintro e w0 ⟨rfl, hb0⟩
 have hB0 : Below W.heap.size W w0 := by (repeat (first|exact Qr _ _|assumption|refine Qd ?_|refine Qa ?_ _|refine Qt ?_|refine Qs ?_ _|refine Qo ?_ ?_ _ _))
 go_wp2_with fail
 rw [rounds_succ]
 go_wp2_with fail
 refine (numberL _).mono ?_
 rintro e w1 ⟨rfl, hb1⟩
 have hB1 : Below W.heap.size W w1 := by (repeat (first|exact Qr _ _|assumption|refine Qd ?_|refine Qa ?_ _|refine Qt ?_|refine Qs ?_ _|refine Qo ?_ ?_ _ _))
 go_wp2_with fail
 rw [rounds_succ]
 go_wp2_with fail
 refine (numberA _).mono ?_
 rintro e w2 ⟨rfl, hb2⟩
 have hB2 : Below W.heap.size W w2 := by (repeat (first|exact Qr _ _|assumption|refine Qd ?_|refine Qa ?_ _|refine Qt ?_|refine Qs ?_ _|refine Qo ?_ ?_ _ _))
 go_wp2_with fail
 rw [rounds_succ]
 go_wp2_with fail
 go_ret
 exact ⟨rfl, bl_then HB.out (by assumption)⟩
theorem asPP (w : World) : (Instr.typeAssert kP 121 182 true).run Tryz.prog w = .ok (.tuple #[.agg #[], .bool true]) w := by kernel_rfl
theorem asPL (w : World) : (Instr.typeAssert kP 121 183 true).run Tryz.prog w = .ok (.tuple #[.agg #[], .bool false]) w := by kernel_rfl
theorem asPA (w : World) : (Instr.typeAssert kP 121 184 true).run Tryz.prog w = .ok (.tuple #[.agg #[], .bool false]) w := by kernel_rfl
abbrev wordP : ByteArray := ⟨#[112, 111, 105, 110, 116]⟩
theorem tellKind_1 (w : World) : Calls Tryz.prog 101 #[kP] w fun e w' => e = .returned (.tuple #[.string wordP, .int .i64 1]) ∧ Below w.heap.size w w' := by
 have h1 := asPP
 have h2 := asPL
 have h3 := asPA
 go_enter Tryz.func101, Tryz.ntmps101
 go_wp2
 go_ret2
 exact ⟨rfl, by (repeat (first|exact Qr _ _|assumption|refine Qd ?_|refine Qa ?_ _|refine Qt ?_|refine Qs ?_ _|refine Qo ?_ ?_ _ _))⟩
theorem leastPoints_1 (w : World) : Calls Tryz.prog 69 #[kP] w fun e w' => e = .returned (.int .i64 1) ∧ Below w.heap.size w w' := by
 have h1 := numP
 have h2 := numL
 have h3 := numA
 go_enter Tryz.func69, Tryz.ntmps69
 go_wp2_with (first | (go_at_call 195; refine (numberP _).mono ?_; rintro e w' ⟨rfl, hb⟩) | (go_at_call 196; refine (numberL _).mono ?_; rintro e w' ⟨rfl, hb⟩) | (go_at_call 197; refine (numberA _).mono ?_; rintro e w' ⟨rfl, hb⟩))
 go_ret
 exact ⟨rfl, by (repeat (first|exact Qr _ _|assumption|refine Qd ?_|refine Qa ?_ _|refine Qt ?_|refine Qs ?_ _|refine Qo ?_ ?_ _ _))⟩
theorem asLP (w : World) : (Instr.typeAssert kL 121 182 true).run Tryz.prog w = .ok (.tuple #[.agg #[], .bool false]) w := by kernel_rfl
theorem asLL (w : World) : (Instr.typeAssert kL 121 183 true).run Tryz.prog w = .ok (.tuple #[.agg #[], .bool true]) w := by kernel_rfl
theorem asLA (w : World) : (Instr.typeAssert kL 121 184 true).run Tryz.prog w = .ok (.tuple #[.agg #[], .bool false]) w := by kernel_rfl
abbrev wordL : ByteArray := ⟨#[108, 105, 110, 101]⟩
theorem tellKind_2 (w : World) : Calls Tryz.prog 101 #[kL] w fun e w' => e = .returned (.tuple #[.string wordL, .int .i64 12]) ∧ Below w.heap.size w w' := by
 have h1 := asLP
 have h2 := asLL
 have h3 := asLA
 go_enter Tryz.func101, Tryz.ntmps101
 go_wp2
 go_ret2
 exact ⟨rfl, by (repeat (first|exact Qr _ _|assumption|refine Qd ?_|refine Qa ?_ _|refine Qt ?_|refine Qs ?_ _|refine Qo ?_ ?_ _ _))⟩
theorem leastPoints_2 (w : World) : Calls Tryz.prog 69 #[kL] w fun e w' => e = .returned (.int .i64 2) ∧ Below w.heap.size w w' := by
 have h1 := numP
 have h2 := numL
 have h3 := numA
 go_enter Tryz.func69, Tryz.ntmps69
 go_wp2_with (first | (go_at_call 195; refine (numberP _).mono ?_; rintro e w' ⟨rfl, hb⟩) | (go_at_call 196; refine (numberL _).mono ?_; rintro e w' ⟨rfl, hb⟩) | (go_at_call 197; refine (numberA _).mono ?_; rintro e w' ⟨rfl, hb⟩))
 go_ret
 exact ⟨rfl, by (repeat (first|exact Qr _ _|assumption|refine Qd ?_|refine Qa ?_ _|refine Qt ?_|refine Qs ?_ _|refine Qo ?_ ?_ _ _))⟩
theorem asAP (w : World) : (Instr.typeAssert kA 121 182 true).run Tryz.prog w = .ok (.tuple #[.agg #[], .bool false]) w := by kernel_rfl
theorem asAL (w : World) : (Instr.typeAssert kA 121 183 true).run Tryz.prog w = .ok (.tuple #[.agg #[], .bool false]) w := by kernel_rfl
theorem asAA (w : World) : (Instr.typeAssert kA 121 184 true).run Tryz.prog w = .ok (.tuple #[.agg #[], .bool true]) w := by kernel_rfl
abbrev wordA : ByteArray := ⟨#[97, 114, 101, 97]⟩
theorem tellKind_3 (w : World) : Calls Tryz.prog 101 #[kA] w fun e w' => e = .returned (.tuple #[.string wordA, .int .i64 12]) ∧ Below w.heap.size w w' := by
 have h1 := asAP
 have h2 := asAL
 have h3 := asAA
 go_enter Tryz.func101, Tryz.ntmps101
 go_wp2
 go_ret2
 exact ⟨rfl, by (repeat (first|exact Qr _ _|assumption|refine Qd ?_|refine Qa ?_ _|refine Qt ?_|refine Qs ?_ _|refine Qo ?_ ?_ _ _))⟩
theorem leastPoints_3 (w : World) : Calls Tryz.prog 69 #[kA] w fun e w' => e = .returned (.int .i64 3) ∧ Below w.heap.size w w' := by
 have h1 := numP
 have h2 := numL
 have h3 := numA
 go_enter Tryz.func69, Tryz.ntmps69
 go_wp2_with (first | (go_at_call 195; refine (numberP _).mono ?_; rintro e w' ⟨rfl, hb⟩) | (go_at_call 196; refine (numberL _).mono ?_; rintro e w' ⟨rfl, hb⟩) | (go_at_call 197; refine (numberA _).mono ?_; rintro e w' ⟨rfl, hb⟩))
 go_ret
 exact ⟨rfl, by (repeat (first|exact Qr _ _|assumption|refine Qd ?_|refine Qa ?_ _|refine Qt ?_|refine Qs ?_ _|refine Qo ?_ ?_ _ _))⟩
def gridI (z : Int) : Int := if z = 0 then 32 else if z = 1 then 16 else if z = 2 then 8 else 4
def snapI (z v : Int) : Int := (v + gridI z / 2) / gridI z * gridI z
def snapV (x y z : Int) : Value := if (zoomB z && inW x y) = true then .agg #[.int .i64 0, .int .i64 (snapI z x), .int .i64 (snapI z y)] else .agg #[.int .i64 3, .int .i64 0, .int .i64 0]
theorem inW_bd {x y : Int} (h : inW x y = true) : (0 ≤ x ∧ x ≤ 1024) ∧ (0 ≤ y ∧ y ≤ 1024) := by
 simp [inW,inB] at h
 omega
theorem inW_ok {x y : Int} (h : inW x y = true) : okP x y = true := by
 rw [okP_iff]
 have := inW_bd h
 omega
theorem tdiv_nn {a b : Int} (h : 0 ≤ a) : a.tdiv b = a / b := Int.tdiv_eq_ediv_of_nonneg h
theorem unit_bd {z : Int} (h : zoomB z = true) : 0 ≤ unitI z ∧ unitI z ≤ 128 ∧ unitI z / 4 = gridI z := by
 rcases zoomB_cases h with rfl | rfl | rfl | rfl <;> decide
theorem set3_at {W : World} {r : Nat} {a b c : Value} (hT : There W r 3) :
  (((W.setCell ⟨r,0,none⟩ a).setCell ⟨r,1,none⟩ b).setCell ⟨r,2,none⟩ c).cell? ⟨r,0,none⟩ = some a ∧
  (((W.setCell ⟨r,0,none⟩ a).setCell ⟨r,1,none⟩ b).setCell ⟨r,2,none⟩ c).cell? ⟨r,1,none⟩ = some b ∧
  (((W.setCell ⟨r,0,none⟩ a).setCell ⟨r,1,none⟩ b).setCell ⟨r,2,none⟩ c).cell? ⟨r,2,none⟩ = some c := by
 obtain ⟨x0,h0⟩ := (hT 0 (by omega)).1
 obtain ⟨x1,h1⟩ := (hT 1 (by omega)).1
 obtain ⟨x2,h2⟩ := (hT 2 (by omega)).1
 have ne : ∀ i j : Nat,i ≠ j → (⟨r,i,none⟩ : Addr) ≠ ⟨r,j,none⟩ := fun i j hij h => hij (by injection h)
 refine ⟨?_,?_,?_⟩
 ·rw [set1_other (ne 2 0 (by omega)),set1_other (ne 1 0 (by omega))]; exact set1_same h0
 ·rw [set1_other (ne 2 1 (by omega))]; exact set1_same (by rw [set1_other (ne 0 1 (by omega))]; exact h1)
 ·exact set1_same (by rw [set1_other (ne 1 2 (by omega)),set1_other (ne 0 2 (by omega))]; exact h2)
theorem there3 (V : World) (a b c : Value) (t : TypeId) : There (V.alloc (.cells #[a,b,c] t)) V.heap.size 3 := fun o ho => by
 refine ⟨⟨#[a,b,c][o]'(by simpa using ho),?_⟩,World.frozen?_alloc_at _ _ _ _ rfl⟩
 rw [World.cell?_alloc_at _ _ _ _ rfl]
 exact Array.getElem?_eq_getElem _
theorem there2 (V : World) (a b : Value) (t : TypeId) : There (V.alloc (.cells #[a,b] t)) V.heap.size 2 := fun o ho => by
 refine ⟨⟨#[a,b][o]'(by simpa using ho),?_⟩,World.frozen?_alloc_at _ _ _ _ rfl⟩
 rw [World.cell?_alloc_at _ _ _ _ rfl]
 exact Array.getElem?_eq_getElem _
theorem gridAt_any (z : Int) (w : World) (h : zoomB z = true) : Calls Tryz.prog 65 #[.int .i64 z] w fun e w' => e = .returned (.int .i64 (gridI z)) ∧ Below w.heap.size w w' := by
 have s1 := fun w => impl_UnitAt_any z w
 have hv : unitV z = .agg #[.int .i64 0, .int .i64 (unitI z)] := by simp [unitV,h]
 obtain ⟨b1,b2,b3⟩ := unit_bd h
 have hg : Hid (unitI z / 4 = gridI z) := b3
 simp only [hv] at s1
 clear b3 hv
 generalize unitI z = u at *
 have i1 : ∀ w,(Instr.field 43 (.agg #[.int .i64 0, .int .i64 u]) 1).run Tryz.prog w = .ok (.int .i64 u) w := fun _ => by kernel_rfl
 go_enter Tryz.func65,Tryz.ntmps65
 go_wp2_with (go_at_call 72; refine (s1 _).mono ?_; rintro e w1 ⟨rfl,hb1⟩)
 go_ret
 exact ⟨ret_int hg.out,by (repeat (first|exact Qr _ _|assumption|refine Qd ?_|refine Qa ?_ _|refine Qt ?_|refine Qs ?_ _|refine Qo ?_ ?_ _ _))⟩
theorem nearestMultiple_any (n z : Int) (w : World) (h : zoomB z = true) (h0 : 0 ≤ n) (h1 : n ≤ 1024) : Calls Tryz.prog 142 #[.int .i64 n, .int .i64 (gridI z)] w fun e w' => e = .returned (.int .i64 (snapI z n)) ∧ w = w' := by
 rcases zoomB_cases h with rfl | rfl | rfl | rfl
 all_goals
  simp only [snapI,show gridI 0 = 32 from rfl,show gridI 1 = 16 from rfl,show gridI 2 = 8 from rfl,show gridI 3 = 4 from rfl]
  have t1 : (n + 16).tdiv 32 = (n + 16) / 32 := tdiv_nn (by omega)
  have t2 : (n + 8).tdiv 16 = (n + 8) / 16 := tdiv_nn (by omega)
  have t3 : (n + 4).tdiv 8 = (n + 4) / 8 := tdiv_nn (by omega)
  have t4 : (n + 2).tdiv 4 = (n + 2) / 4 := tdiv_nn (by omega)
  go_enter Tryz.func142,Tryz.ntmps142
  go_wp2
  go_ret
  exact ⟨rfl,rfl⟩
theorem impl_SnapPoint_any (x y z : Int) (w : World) : Calls Tryz.prog 104 #[.agg #[.int .i64 x, .int .i64 y], .int .i64 z] w fun e w' => e = .returned (snapV x y z) ∧ Below w.heap.size w w' := by
 go_enter Tryz.func104,Tryz.ntmps104
 go_wp2_with fail
 generalize hW : ((w.alloc _).alloc _ : World) = W
 have HB0 : Hid (Below w.heap.size w W) := by show Below _ _ _; subst hW; (repeat (first|exact Qr _ _|assumption|refine Qd ?_|refine Qa ?_ _|refine Qt ?_|refine Qs ?_ _|refine Qo ?_ ?_ _ _))
 have c00 : ∀ W',Below W.heap.size W W' → W'.cell? ⟨w.heap.size,0,none⟩ = some (.int .i64 x) := fun W' h => by
  rw [h.cell (by subst hW; simp <;> omega)]; subst hW; simp [go_sem]
 have c01 : ∀ W',Below W.heap.size W W' → W'.cell? ⟨w.heap.size,1,none⟩ = some (.int .i64 y) := fun W' h => by
  rw [h.cell (by subst hW; simp <;> omega)]; subst hW; simp [go_sem]
 have HT : Hid (There W (w.heap.size + 1) 3) := by
  show There _ _ _
  subst hW
  have := there3 (w.alloc (.cells #[.int .i64 x, .int .i64 y] 67)) (.int .i64 0) (.int .i64 0) (.int .i64 0) 69
  simpa using this
 have hsz : w.heap.size + 1 < W.heap.size := by subst hW; simp
 clear hW
 have hr : Below W.heap.size W W := Below.refl _ _
 refine (isZoom_any _ _).mono ?_
 rintro e w' ⟨rfl,rfl⟩
 cases h : zoomB z
 ·have HW := hr
  have hT' := HT.out.below HW
  have t0 := hT'.cell 0 (by omega)
  have t1 := hT'.cell 1 (by omega)
  have t2 := hT'.cell 2 (by omega)
  have f0 := (hT' 0 (by omega)).2
  have f1 := (hT' 1 (by omega)).2
  have f2 := (hT' 2 (by omega)).2
  have HT' : Hid (There W (w.heap.size + 1) 3) := hT'
  clear hT'
  go_wp2_with fail
  obtain ⟨q0,q1,q2⟩ := set3_at (a := .int .i64 3) (b := .int .i64 0) (c := .int .i64 0) HT'.out
  have hle : w.heap.size ≤ W.heap.size := Nat.le_trans (by omega) HW.size
  refine bodyPost_ret (v := .agg #[.int .i64 3, .int .i64 0, .int .i64 0]) (by simp [results,Tryz.results104,go_sem,q0,q1,q2]) rfl ⟨by simp [snapV,h],?_⟩
  have HB1 := bl_then HB0.out HW
  (repeat (first|exact Qr _ _|assumption|refine Qd ?_|refine Qa ?_ _|refine Qt ?_|refine Qs ?_ _|refine Qo ?_ ?_ _ _))
 ·go_wp2_with fail
  refine (PointFault_any _ _ _).mono ?_
  rintro e w1 ⟨rfl,HW⟩
  cases hk : okP x y
  ·have hi : inW x y = false := by
    cases hw : inW x y
    ·rfl
    ·rw [inW_ok hw] at hk; cases hk
   have hz : codeP x y = 3 := codeP_no hk
   have hT' := HT.out.below HW
   have t0 := hT'.cell 0 (by omega)
   have t1 := hT'.cell 1 (by omega)
   have t2 := hT'.cell 2 (by omega)
   have f0 := (hT' 0 (by omega)).2
   have f1 := (hT' 1 (by omega)).2
   have f2 := (hT' 2 (by omega)).2
   have HT' : Hid (There w1 (w.heap.size + 1) 3) := hT'
   clear hT'
   go_wp2_with fail
   obtain ⟨q0,q1,q2⟩ := set3_at (a := .int .i64 3) (b := .int .i64 0) (c := .int .i64 0) HT'.out
   have hle : w.heap.size ≤ w1.heap.size := Nat.le_trans (by omega) HW.size
   refine bodyPost_ret (v := .agg #[.int .i64 3, .int .i64 0, .int .i64 0]) (by simp [results,Tryz.results104,go_sem,q0,q1,q2]) rfl ⟨by simp [snapV,h,hi],?_⟩
   have HB1 := bl_then HB0.out HW
   (repeat (first|exact Qr _ _|assumption|refine Qd ?_|refine Qa ?_ _|refine Qt ?_|refine Qs ?_ _|refine Qo ?_ ?_ _ _))
  ·have hz : codeP x y = 0 := codeP_ok hk
   go_wp2_with fail
   refine (isInWorld_any _ _ _).mono ?_
   rintro e w2 ⟨rfl,hb2⟩
   have HW2 := bl_then HW hb2
   clear HW hb2
   have HW := HW2
   clear HW2
   cases hi : inW x y
   ·skip
    have hT' := HT.out.below HW
    have t0 := hT'.cell 0 (by omega)
    have t1 := hT'.cell 1 (by omega)
    have t2 := hT'.cell 2 (by omega)
    have f0 := (hT' 0 (by omega)).2
    have f1 := (hT' 1 (by omega)).2
    have f2 := (hT' 2 (by omega)).2
    have HT' : Hid (There w2 (w.heap.size + 1) 3) := hT'
    clear hT'
    go_wp2_with fail
    obtain ⟨q0,q1,q2⟩ := set3_at (a := .int .i64 3) (b := .int .i64 0) (c := .int .i64 0) HT'.out
    have hle : w.heap.size ≤ w2.heap.size := Nat.le_trans (by omega) HW.size
    refine bodyPost_ret (v := .agg #[.int .i64 3, .int .i64 0, .int .i64 0]) (by simp [results,Tryz.results104,go_sem,q0,q1,q2]) rfl ⟨by simp [snapV,h,hi],?_⟩
    have HB1 := bl_then HB0.out HW
    (repeat (first|exact Qr _ _|assumption|refine Qd ?_|refine Qa ?_ _|refine Qt ?_|refine Qs ?_ _|refine Qo ?_ ?_ _ _))
   ·obtain ⟨⟨x0,x1⟩,y0,y1⟩ := inW_bd hi
    go_wp2_with fail
    refine (gridAt_any _ _ h).mono ?_
    rintro e w3 ⟨rfl,hb3⟩
    have HW3 := bl_then HW hb3
    clear HW hb3
    have hz3 : w.heap.size + 1 < w3.heap.size := Nat.lt_of_lt_of_le hsz HW3.size
    have hreg : Reg (w.heap.size + 1) w3 (w.heap.size + 1) 3 w3 := Reg.start (by omega) (HT.out.below HW3)
    have d0 : ∀ W',Reg (w.heap.size + 1) w3 (w.heap.size + 1) 3 W' → W'.cell? ⟨w.heap.size,0,none⟩ = some (.int .i64 x) := fun W' h => (h.bel.cell (p := ⟨w.heap.size,0,none⟩) (by simp)).trans (c00 w3 HW3)
    have d1 : ∀ W',Reg (w.heap.size + 1) w3 (w.heap.size + 1) 3 W' → W'.cell? ⟨w.heap.size,1,none⟩ = some (.int .i64 y) := fun W' h => (h.bel.cell (p := ⟨w.heap.size,1,none⟩) (by simp)).trans (c01 w3 HW3)
    have t0 : ∀ W',Reg (w.heap.size + 1) w3 (w.heap.size + 1) 3 W' → W'.cell? ⟨w.heap.size + 1,0,none⟩ = some (cellOr W' (w.heap.size + 1) 0) := fun W' h => h.there.cell 0 (by omega)
    have t1 : ∀ W',Reg (w.heap.size + 1) w3 (w.heap.size + 1) 3 W' → W'.cell? ⟨w.heap.size + 1,1,none⟩ = some (cellOr W' (w.heap.size + 1) 1) := fun W' h => h.there.cell 1 (by omega)
    have t2 : ∀ W',Reg (w.heap.size + 1) w3 (w.heap.size + 1) 3 W' → W'.cell? ⟨w.heap.size + 1,2,none⟩ = some (cellOr W' (w.heap.size + 1) 2) := fun W' h => h.there.cell 2 (by omega)
    have s0 : ∀ W',Reg (w.heap.size + 1) w3 (w.heap.size + 1) 3 W' → W'.frozen? ⟨w.heap.size + 1,0,none⟩ = false := fun W' h => (h.there 0 (by omega)).2
    have s1 : ∀ W',Reg (w.heap.size + 1) w3 (w.heap.size + 1) 3 W' → W'.frozen? ⟨w.heap.size + 1,1,none⟩ = false := fun W' h => (h.there 1 (by omega)).2
    have s2 : ∀ W',Reg (w.heap.size + 1) w3 (w.heap.size + 1) 3 W' → W'.frozen? ⟨w.heap.size + 1,2,none⟩ = false := fun W' h => (h.there 2 (by omega)).2
    have HZ : Hid (Below w.heap.size w w3) := bl_then HB0.out HW3
    clear c00 c01 HT HB0 HW3 hr
    go_wp2_with fail
    go_region_held3 (Reg (w.heap.size + 1) w3 (w.heap.size + 1) 3) (first | exact Reg.drew hreg | exact Reg.store (Reg.store (Reg.store (by assumption) (Nat.le_refl _) _ _) (Nat.le_refl _) _ _) (Nat.le_refl _) _ _ | assumption)
     (first
      | (go_at_call 142; refine (nearestMultiple_any _ _ _ h (by omega) (by omega)).mono ?_; rintro e w' ⟨rfl,rfl⟩))
    go_wp2_with fail
    rename_i hfin
    obtain ⟨q0,q1,q2⟩ := set3_at (a := .int .i64 0) (b := .int .i64 (snapI z x)) (c := .int .i64 (snapI z y)) hreg.there
    refine bodyPost_ret (v := .agg #[.int .i64 0, .int .i64 (snapI z x), .int .i64 (snapI z y)]) (by simp [results,Tryz.results104,go_sem,q0,q1,q2]) rfl ⟨by simp [snapV,h,hi],?_⟩
    exact HZ.out.trans (hfin.bel.mono (by omega))
theorem l3Grid_any (z : Int) (w : World) (h : zoomB z = true) : Calls Tryz.prog 135 #[.int .i64 z] w fun e w' => e = .returned (.int .i64 (gridI z)) ∧ w = w' := by
 have s1 := fun w => l3Unit_any z w h
 obtain ⟨b1,b2,b3⟩ := unit_bd h
 have hg : Hid (unitI z / 4 = gridI z) := b3
 clear b3
 generalize unitI z = u at *
 go_enter Tryz.func135,Tryz.ntmps135
 go_wp2_with (go_at_call 138; refine (s1 _).mono ?_; rintro e w1 ⟨rfl,rfl⟩)
 go_ret
 exact ⟨ret_int hg.out,rfl⟩
theorem l3Near_any (n z : Int) (w : World) (h : zoomB z = true) (h0 : 0 ≤ n) (h1 : n ≤ 1024) : Calls Tryz.prog 167 #[.int .i64 n, .int .i64 (gridI z)] w fun e w' => e = .returned (.int .i64 (snapI z n)) ∧ w = w' := by
 rcases zoomB_cases h with rfl | rfl | rfl | rfl
 all_goals
  simp only [snapI,show gridI 0 = 32 from rfl,show gridI 1 = 16 from rfl,show gridI 2 = 8 from rfl,show gridI 3 = 4 from rfl]
  have t1 : (n + 16).tdiv 32 = (n + 16) / 32 := tdiv_nn (by omega)
  have t2 : (n + 8).tdiv 16 = (n + 8) / 16 := tdiv_nn (by omega)
  have t3 : (n + 4).tdiv 8 = (n + 4) / 8 := tdiv_nn (by omega)
  have t4 : (n + 2).tdiv 4 = (n + 2) / 4 := tdiv_nn (by omega)
  go_enter Tryz.func167,Tryz.ntmps167
  go_wp2
  go_ret
  exact ⟨rfl,rfl⟩
theorem l3Point_any (x y z : Int) (w : World) (h : zoomB z = true) (hi : inW x y = true) : Calls Tryz.prog 160 #[.agg #[.int .i64 x, .int .i64 y], .int .i64 z] w fun e w' => e = .returned (.agg #[.int .i64 (snapI z x), .int .i64 (snapI z y)]) ∧ Below w.heap.size w w' := by
 obtain ⟨⟨x0,x1⟩,y0,y1⟩ := inW_bd hi
 go_enter Tryz.func160,Tryz.ntmps160
 go_wp2_with (go_at_call 135; refine (l3Grid_any _ _ h).mono ?_; rintro e w' ⟨rfl,rfl⟩)
 generalize hW : ((w.alloc _).alloc _ : World) = W
 have HB0 : Hid (Below w.heap.size w W) := by show Below _ _ _; subst hW; (repeat (first|exact Qr _ _|assumption|refine Qd ?_|refine Qa ?_ _|refine Qt ?_|refine Qs ?_ _|refine Qo ?_ ?_ _ _))
 have c00 : ∀ W',Below W.heap.size W W' → W'.cell? ⟨w.heap.size,0,none⟩ = some (.int .i64 x) := fun W' h => by
  rw [h.cell (by subst hW; simp <;> omega)]; subst hW; simp [go_sem]
 have c01 : ∀ W',Below W.heap.size W W' → W'.cell? ⟨w.heap.size,1,none⟩ = some (.int .i64 y) := fun W' h => by
  rw [h.cell (by subst hW; simp <;> omega)]; subst hW; simp [go_sem]
 have hT : There W (w.heap.size + 1) 2 := by
  subst hW
  have := there2 (w.alloc (.cells #[.int .i64 x, .int .i64 y] 67)) (.int .i64 0) (.int .i64 0) 67
  simpa using this
 have hsz : w.heap.size + 1 < W.heap.size := by subst hW; simp
 clear hW
 have hr : Below W.heap.size W W := Below.refl _ _
 have hreg : Reg (w.heap.size + 1) W (w.heap.size + 1) 2 W := Reg.start (by omega) hT
 have d0 : ∀ W',Reg (w.heap.size + 1) W (w.heap.size + 1) 2 W' → W'.cell? ⟨w.heap.size,0,none⟩ = some (.int .i64 x) := fun W' h => (h.bel.cell (p := ⟨w.heap.size,0,none⟩) (by simp)).trans (c00 W hr)
 have d1 : ∀ W',Reg (w.heap.size + 1) W (w.heap.size + 1) 2 W' → W'.cell? ⟨w.heap.size,1,none⟩ = some (.int .i64 y) := fun W' h => (h.bel.cell (p := ⟨w.heap.size,1,none⟩) (by simp)).trans (c01 W hr)
 have t0 : ∀ W',Reg (w.heap.size + 1) W (w.heap.size + 1) 2 W' → W'.cell? ⟨w.heap.size + 1,0,none⟩ = some (cellOr W' (w.heap.size + 1) 0) := fun W' h => h.there.cell 0 (by omega)
 have t1 : ∀ W',Reg (w.heap.size + 1) W (w.heap.size + 1) 2 W' → W'.cell? ⟨w.heap.size + 1,1,none⟩ = some (cellOr W' (w.heap.size + 1) 1) := fun W' h => h.there.cell 1 (by omega)
 have s0 : ∀ W',Reg (w.heap.size + 1) W (w.heap.size + 1) 2 W' → W'.frozen? ⟨w.heap.size + 1,0,none⟩ = false := fun W' h => (h.there 0 (by omega)).2
 have s1 : ∀ W',Reg (w.heap.size + 1) W (w.heap.size + 1) 2 W' → W'.frozen? ⟨w.heap.size + 1,1,none⟩ = false := fun W' h => (h.there 1 (by omega)).2
 clear c00 c01 hr hT
 go_region_held3 (Reg (w.heap.size + 1) W (w.heap.size + 1) 2) (first | exact Reg.drew hreg | exact Reg.store (Reg.store (by assumption) (Nat.le_refl _) _ _) (Nat.le_refl _) _ _ | assumption)
  (first
   | (go_at_call 167; refine (l3Near_any _ _ _ h (by omega) (by omega)).mono ?_; rintro e w' ⟨rfl,rfl⟩))
 go_wp2_with fail
 rename_i hfin
 refine bodyPost_ret (v := .agg #[.int .i64 (snapI z x), .int .i64 (snapI z y)]) (by simp [results,Tryz.results160,go_sem,set2_0 (Option.isSome_iff_exists.2 ⟨_,t0 _ hreg⟩),set2_1 (Option.isSome_iff_exists.2 ⟨_,t1 _ hreg⟩)]) rfl ⟨rfl,?_⟩
 exact HB0.out.trans (hfin.bel.mono (by omega))
theorem isCrossed_up (px py ax ay bx by' : Int) (w : World) (hp : okP px py = true) (ha : okP ax ay = true) (hb : okP bx by' = true) (h : ay ≤ by') (h1 : ay ≤ py) (h2 : py < by') :
  Calls Tryz.prog 164 #[.agg #[.int .i64 px, .int .i64 py], .agg #[.int .i64 ax, .int .i64 ay], .agg #[.int .i64 bx, .int .i64 by']] w fun e w' => e = .returned (.bool (sideB px py ax ay bx by')) ∧ Below w.heap.size w w' := by
 have HP : Hid (okP px py = true) := hp
 have HA : Hid (okP ax ay = true) := ha
 have HB : Hid (okP bx by' = true) := hb
 clear hp ha hb
 have HE : Hid (sideB px py ax ay bx by' = decide (0 < crossI ax ay bx by' px py)) := by
  show _ = _
  rw [side_up h]
  simp [h1,h2]
 have h' : ¬ by' < ay := by omega
 go_enter Tryz.func164,Tryz.ntmps164
 go_wp2
 generalize hW : (((w.alloc _).alloc _).alloc _ : World) = W
 have hB0 : Below w.heap.size w W := by subst hW; (repeat (first|exact Qr _ _|assumption|refine Qd ?_|refine Qa ?_ _|refine Qt ?_|refine Qs ?_ _|refine Qo ?_ ?_ _ _))
 have c00 : ∀ W',Below W.heap.size W W' → W'.cell? ⟨w.heap.size,0,none⟩ = some (.int .i64 px) := fun W' h => by
  rw [h.cell (by subst hW; simp <;> omega)]; subst hW; simp [go_sem]
 have c01 : ∀ W',Below W.heap.size W W' → W'.cell? ⟨w.heap.size,1,none⟩ = some (.int .i64 py) := fun W' h => by
  rw [h.cell (by subst hW; simp <;> omega)]; subst hW; simp [go_sem]
 have c10 : ∀ W',Below W.heap.size W W' → W'.cell? ⟨w.heap.size + 1,0,none⟩ = some (.int .i64 ax) := fun W' h => by
  rw [h.cell (by subst hW; simp <;> omega)]; subst hW; simp [go_sem]
 have c11 : ∀ W',Below W.heap.size W W' → W'.cell? ⟨w.heap.size + 1,1,none⟩ = some (.int .i64 ay) := fun W' h => by
  rw [h.cell (by subst hW; simp <;> omega)]; subst hW; simp [go_sem]
 have c20 : ∀ W',Below W.heap.size W W' → W'.cell? ⟨w.heap.size + 1 + 1,0,none⟩ = some (.int .i64 bx) := fun W' h => by
  rw [h.cell (by subst hW; simp <;> omega)]; subst hW; simp [go_sem]
 have c21 : ∀ W',Below W.heap.size W W' → W'.cell? ⟨w.heap.size + 1 + 1,1,none⟩ = some (.int .i64 by') := fun W' h => by
  rw [h.cell (by subst hW; simp <;> omega)]; subst hW; simp [go_sem]
 clear hW
 have HB0 : Hid (Below w.heap.size w W) := hB0
 clear hB0
 go_cut [7,8] (fun t s wc => ∃ b d : Nat,t = .pointer (some ⟨b,0,none⟩) ∧ s = .pointer (some ⟨d,0,none⟩) ∧ b ≠ d ∧ Below W.heap.size W wc ∧ W.heap.size ≤ b ∧ W.heap.size ≤ d ∧ wc.cell? ⟨b,0,none⟩ = some (.int .i64 ax) ∧ wc.cell? ⟨b,1,none⟩ = some (.int .i64 ay) ∧ wc.cell? ⟨d,0,none⟩ = some (.int .i64 bx) ∧ wc.cell? ⟨d,1,none⟩ = some (.int .i64 by') ∧ wc.frozen? ⟨b,0,none⟩ = false ∧ wc.frozen? ⟨b,1,none⟩ = false ∧ wc.frozen? ⟨d,0,none⟩ = false ∧ wc.frozen? ⟨d,1,none⟩ = false)
 case first =>
  go_region_held3 (fun W' => Below W.heap.size W W') ((repeat (first|exact Qr _ _|assumption|refine Qd ?_|refine Qa ?_ _|refine Qt ?_|refine Qs ?_ _|refine Qo ?_ ?_ _ _))) (fail)
  all_goals
   go_wp2_with fail
   go_meet
   case rel =>
    refine ⟨_,_,rfl,rfl,by first | omega | (simp; done) | (simp; omega),by assumption,by first | omega | (simp; done) | (simp; omega),by first | omega | (simp; done) | (simp; omega),?_,?_,?_,?_,?_,?_,?_,?_⟩ <;> (go_simp; done)
 case rest =>
  obtain ⟨b1,d1,rfl,rfl,hne,hB1,hb1,hd1,x1,x2,x3,x4,f1,f2,f3,f4⟩ := hcut
  have hne' : d1 ≠ b1 := fun h => hne h.symm
  go_wp2_with (go_at_call 173; refine (turnOf_any _ _ _ _ _ _ _ HA.out HB.out HP.out).mono ?_; rintro e w' ⟨rfl,hbz⟩)
  go_ret
  exact ⟨ret_bool HE.out.symm,bl_then HB0.out (by (repeat (first|exact Qr _ _|assumption|refine Qd ?_|refine Qa ?_ _|refine Qt ?_|refine Qs ?_ _|refine Qo ?_ ?_ _ _)))⟩
theorem isCrossed_up1 (px py ax ay bx by' : Int) (w : World) (hp : okP px py = true) (ha : okP ax ay = true) (hb : okP bx by' = true) (h : ay ≤ by') (h1 : ¬ ay ≤ py) :
  Calls Tryz.prog 164 #[.agg #[.int .i64 px, .int .i64 py], .agg #[.int .i64 ax, .int .i64 ay], .agg #[.int .i64 bx, .int .i64 by']] w fun e w' => e = .returned (.bool (sideB px py ax ay bx by')) ∧ Below w.heap.size w w' := by
 have HP : Hid (okP px py = true) := hp
 have HA : Hid (okP ax ay = true) := ha
 have HB : Hid (okP bx by' = true) := hb
 clear hp ha hb
 have HE : Hid (sideB px py ax ay bx by' = false) := by
  show _ = _
  rw [side_up h]
  simp [h1]
 have h' : ¬ by' < ay := by omega
 have h1' : decide (ay ≤ py) = false := by simpa using h1
 go_enter Tryz.func164,Tryz.ntmps164
 go_wp2
 generalize hW : (((w.alloc _).alloc _).alloc _ : World) = W
 have hB0 : Below w.heap.size w W := by subst hW; (repeat (first|exact Qr _ _|assumption|refine Qd ?_|refine Qa ?_ _|refine Qt ?_|refine Qs ?_ _|refine Qo ?_ ?_ _ _))
 have c00 : ∀ W',Below W.heap.size W W' → W'.cell? ⟨w.heap.size,0,none⟩ = some (.int .i64 px) := fun W' h => by
  rw [h.cell (by subst hW; simp <;> omega)]; subst hW; simp [go_sem]
 have c01 : ∀ W',Below W.heap.size W W' → W'.cell? ⟨w.heap.size,1,none⟩ = some (.int .i64 py) := fun W' h => by
  rw [h.cell (by subst hW; simp <;> omega)]; subst hW; simp [go_sem]
 have c10 : ∀ W',Below W.heap.size W W' → W'.cell? ⟨w.heap.size + 1,0,none⟩ = some (.int .i64 ax) := fun W' h => by
  rw [h.cell (by subst hW; simp <;> omega)]; subst hW; simp [go_sem]
 have c11 : ∀ W',Below W.heap.size W W' → W'.cell? ⟨w.heap.size + 1,1,none⟩ = some (.int .i64 ay) := fun W' h => by
  rw [h.cell (by subst hW; simp <;> omega)]; subst hW; simp [go_sem]
 have c20 : ∀ W',Below W.heap.size W W' → W'.cell? ⟨w.heap.size + 1 + 1,0,none⟩ = some (.int .i64 bx) := fun W' h => by
  rw [h.cell (by subst hW; simp <;> omega)]; subst hW; simp [go_sem]
 have c21 : ∀ W',Below W.heap.size W W' → W'.cell? ⟨w.heap.size + 1 + 1,1,none⟩ = some (.int .i64 by') := fun W' h => by
  rw [h.cell (by subst hW; simp <;> omega)]; subst hW; simp [go_sem]
 clear hW
 have HB0 : Hid (Below w.heap.size w W) := hB0
 clear hB0
 go_cut [7,8] (fun t s wc => ∃ b d : Nat,t = .pointer (some ⟨b,0,none⟩) ∧ s = .pointer (some ⟨d,0,none⟩) ∧ b ≠ d ∧ Below W.heap.size W wc ∧ W.heap.size ≤ b ∧ W.heap.size ≤ d ∧ wc.cell? ⟨b,0,none⟩ = some (.int .i64 ax) ∧ wc.cell? ⟨b,1,none⟩ = some (.int .i64 ay) ∧ wc.cell? ⟨d,0,none⟩ = some (.int .i64 bx) ∧ wc.cell? ⟨d,1,none⟩ = some (.int .i64 by') ∧ wc.frozen? ⟨b,0,none⟩ = false ∧ wc.frozen? ⟨b,1,none⟩ = false ∧ wc.frozen? ⟨d,0,none⟩ = false ∧ wc.frozen? ⟨d,1,none⟩ = false)
 case first =>
  go_region_held3 (fun W' => Below W.heap.size W W') ((repeat (first|exact Qr _ _|assumption|refine Qd ?_|refine Qa ?_ _|refine Qt ?_|refine Qs ?_ _|refine Qo ?_ ?_ _ _))) (fail)
  all_goals
   go_wp2_with fail
   go_meet
   case rel =>
    refine ⟨_,_,rfl,rfl,by first | omega | (simp; done) | (simp; omega),by assumption,by first | omega | (simp; done) | (simp; omega),by first | omega | (simp; done) | (simp; omega),?_,?_,?_,?_,?_,?_,?_,?_⟩ <;> (go_simp; done)
 case rest =>
  obtain ⟨b1,d1,rfl,rfl,hne,hB1,hb1,hd1,x1,x2,x3,x4,f1,f2,f3,f4⟩ := hcut
  have hne' : d1 ≠ b1 := fun h => hne h.symm
  go_wp2
  go_ret
  exact ⟨ret_bool HE.out.symm,bl_then HB0.out (by (repeat (first|exact Qr _ _|assumption|refine Qd ?_|refine Qa ?_ _|refine Qt ?_|refine Qs ?_ _|refine Qo ?_ ?_ _ _)))⟩
theorem isCrossed_up2 (px py ax ay bx by' : Int) (w : World) (hp : okP px py = true) (ha : okP ax ay = true) (hb : okP bx by' = true) (h : ay ≤ by') (h1 : ay ≤ py) (h2 : ¬ py < by') :
  Calls Tryz.prog 164 #[.agg #[.int .i64 px, .int .i64 py], .agg #[.int .i64 ax, .int .i64 ay], .agg #[.int .i64 bx, .int .i64 by']] w fun e w' => e = .returned (.bool (sideB px py ax ay bx by')) ∧ Below w.heap.size w w' := by
 have HP : Hid (okP px py = true) := hp
 have HA : Hid (okP ax ay = true) := ha
 have HB : Hid (okP bx by' = true) := hb
 clear hp ha hb
 have HE : Hid (sideB px py ax ay bx by' = false) := by
  show _ = _
  rw [side_up h]
  simp [h1,h2]
 have h' : ¬ by' < ay := by omega
 have h2' : decide (py < by') = false := by simpa using h2
 go_enter Tryz.func164,Tryz.ntmps164
 go_wp2
 generalize hW : (((w.alloc _).alloc _).alloc _ : World) = W
 have hB0 : Below w.heap.size w W := by subst hW; (repeat (first|exact Qr _ _|assumption|refine Qd ?_|refine Qa ?_ _|refine Qt ?_|refine Qs ?_ _|refine Qo ?_ ?_ _ _))
 have c00 : ∀ W',Below W.heap.size W W' → W'.cell? ⟨w.heap.size,0,none⟩ = some (.int .i64 px) := fun W' h => by
  rw [h.cell (by subst hW; simp <;> omega)]; subst hW; simp [go_sem]
 have c01 : ∀ W',Below W.heap.size W W' → W'.cell? ⟨w.heap.size,1,none⟩ = some (.int .i64 py) := fun W' h => by
  rw [h.cell (by subst hW; simp <;> omega)]; subst hW; simp [go_sem]
 have c10 : ∀ W',Below W.heap.size W W' → W'.cell? ⟨w.heap.size + 1,0,none⟩ = some (.int .i64 ax) := fun W' h => by
  rw [h.cell (by subst hW; simp <;> omega)]; subst hW; simp [go_sem]
 have c11 : ∀ W',Below W.heap.size W W' → W'.cell? ⟨w.heap.size + 1,1,none⟩ = some (.int .i64 ay) := fun W' h => by
  rw [h.cell (by subst hW; simp <;> omega)]; subst hW; simp [go_sem]
 have c20 : ∀ W',Below W.heap.size W W' → W'.cell? ⟨w.heap.size + 1 + 1,0,none⟩ = some (.int .i64 bx) := fun W' h => by
  rw [h.cell (by subst hW; simp <;> omega)]; subst hW; simp [go_sem]
 have c21 : ∀ W',Below W.heap.size W W' → W'.cell? ⟨w.heap.size + 1 + 1,1,none⟩ = some (.int .i64 by') := fun W' h => by
  rw [h.cell (by subst hW; simp <;> omega)]; subst hW; simp [go_sem]
 clear hW
 have HB0 : Hid (Below w.heap.size w W) := hB0
 clear hB0
 go_cut [7,8] (fun t s wc => ∃ b d : Nat,t = .pointer (some ⟨b,0,none⟩) ∧ s = .pointer (some ⟨d,0,none⟩) ∧ b ≠ d ∧ Below W.heap.size W wc ∧ W.heap.size ≤ b ∧ W.heap.size ≤ d ∧ wc.cell? ⟨b,0,none⟩ = some (.int .i64 ax) ∧ wc.cell? ⟨b,1,none⟩ = some (.int .i64 ay) ∧ wc.cell? ⟨d,0,none⟩ = some (.int .i64 bx) ∧ wc.cell? ⟨d,1,none⟩ = some (.int .i64 by') ∧ wc.frozen? ⟨b,0,none⟩ = false ∧ wc.frozen? ⟨b,1,none⟩ = false ∧ wc.frozen? ⟨d,0,none⟩ = false ∧ wc.frozen? ⟨d,1,none⟩ = false)
 case first =>
  go_region_held3 (fun W' => Below W.heap.size W W') ((repeat (first|exact Qr _ _|assumption|refine Qd ?_|refine Qa ?_ _|refine Qt ?_|refine Qs ?_ _|refine Qo ?_ ?_ _ _))) (fail)
  all_goals
   go_wp2_with fail
   go_meet
   case rel =>
    refine ⟨_,_,rfl,rfl,by first | omega | (simp; done) | (simp; omega),by assumption,by first | omega | (simp; done) | (simp; omega),by first | omega | (simp; done) | (simp; omega),?_,?_,?_,?_,?_,?_,?_,?_⟩ <;> (go_simp; done)
 case rest =>
  obtain ⟨b1,d1,rfl,rfl,hne,hB1,hb1,hd1,x1,x2,x3,x4,f1,f2,f3,f4⟩ := hcut
  have hne' : d1 ≠ b1 := fun h => hne h.symm
  go_wp2
  go_ret
  exact ⟨ret_bool HE.out.symm,bl_then HB0.out (by (repeat (first|exact Qr _ _|assumption|refine Qd ?_|refine Qa ?_ _|refine Qt ?_|refine Qs ?_ _|refine Qo ?_ ?_ _ _)))⟩
end Go.Proofs.YtfkonhagjahgnaaGreat
