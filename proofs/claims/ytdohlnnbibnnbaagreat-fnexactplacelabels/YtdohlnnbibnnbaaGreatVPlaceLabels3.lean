/- Several texts in one. -/
import Derived.Test.YtdohlnnbibnnbaaGreatVPlaceLabels2
import Derived.LoopN

/- kinds. -/

namespace Go.Proofs.YtdohlnnbibnnbaaGreat
open Go.RowKit
set_option linter.unusedSimpArgs false
set_option linter.unusedVariables false
set_option maxRecDepth 100000

abbrev kP : Value := .iface 159 (.agg #[])
abbrev kL : Value := .iface 160 (.agg #[])
abbrev kA : Value := .iface 161 (.agg #[])
theorem kinds_ex (w : World) : Calls Tryz.prog 105 #[] w fun e w' => e = .returned (.slice (some ⟨w.heap.size, 0, none⟩) 3 3) ∧ w' = w.alloc (.cells #[kP, kL, kA] 107) := by
  go_enter Tryz.func105, Tryz.ntmps105
  go_wp2
  go_ret
  exact ⟨rfl, rfl⟩
theorem numP (w : World) : (method 332 159 (.agg #[]) "loop.example/g00403/impl.number").run Tryz.prog w = .ok (186, .agg #[]) w := by kernel_rfl
theorem numberP (w : World) : Calls Tryz.prog 186 #[.agg #[]] w fun e w' => e = .returned (.int .i64 1) ∧ Below w.heap.size w w' := by
  go_enter Tryz.func186, Tryz.ntmps186
  go_wp2
  go_ret
  exact ⟨rfl, by (repeat (first | exact Below.refl _ _ | assumption | refine Below.drew ?_ | refine bl_alloc ?_ _ | refine bl_then ?_ (by assumption) | refine Below.setCell ?_ (by first | omega | (simp; done) | (simp; omega)) _ | refine bl_store ?_ ?_ _ _))⟩
theorem numL (w : World) : (method 332 160 (.agg #[]) "loop.example/g00403/impl.number").run Tryz.prog w = .ok (187, .agg #[]) w := by kernel_rfl
theorem numberL (w : World) : Calls Tryz.prog 187 #[.agg #[]] w fun e w' => e = .returned (.int .i64 2) ∧ Below w.heap.size w w' := by
  go_enter Tryz.func187, Tryz.ntmps187
  go_wp2
  go_ret
  exact ⟨rfl, by (repeat (first | exact Below.refl _ _ | assumption | refine Below.drew ?_ | refine bl_alloc ?_ _ | refine bl_then ?_ (by assumption) | refine Below.setCell ?_ (by first | omega | (simp; done) | (simp; omega)) _ | refine bl_store ?_ ?_ _ _))⟩
theorem numA (w : World) : (method 332 161 (.agg #[]) "loop.example/g00403/impl.number").run Tryz.prog w = .ok (188, .agg #[]) w := by kernel_rfl
theorem numberA (w : World) : Calls Tryz.prog 188 #[.agg #[]] w fun e w' => e = .returned (.int .i64 3) ∧ Below w.heap.size w w' := by
  go_enter Tryz.func188, Tryz.ntmps188
  go_wp2
  go_ret
  exact ⟨rfl, by (repeat (first | exact Below.refl _ _ | assumption | refine Below.drew ?_ | refine bl_alloc ?_ _ | refine bl_then ?_ (by assumption) | refine Below.setCell ?_ (by first | omega | (simp; done) | (simp; omega)) _ | refine bl_store ?_ ?_ _ _))⟩
set_option maxHeartbeats 1000000 in
theorem kindOf_1 (w : World) : Calls Tryz.prog 67 #[.int .i64 1] w fun e w' => e = .returned kP ∧ Below w.heap.size w w' := by
  have h1 := numP
  have h2 := numL
  have h3 := numA
  go_enter Tryz.func67, Tryz.ntmps67
  go_wp2_with fail
  refine (kinds_ex _).mono ?_
  rintro e W ⟨rfl, hW⟩
  have hB : Below w.heap.size w W := by subst hW; (repeat (first | exact Below.refl _ _ | assumption | refine Below.drew ?_ | refine bl_alloc ?_ _ | refine bl_then ?_ (by assumption) | refine Below.setCell ?_ (by first | omega | (simp; done) | (simp; omega)) _ | refine bl_store ?_ ?_ _ _))
  have c0 : ∀ W', Below W.heap.size W W' → W'.cell? ⟨w.heap.size, 0, none⟩ = some kP := fun W' h => by
    rw [h.cell (by subst hW; simp)]; subst hW; simp [go_sem]
  have c1 : ∀ W', Below W.heap.size W W' → W'.cell? ⟨w.heap.size, 1, none⟩ = some kL := fun W' h => by
    rw [h.cell (by subst hW; simp)]; subst hW; simp [go_sem]
  have c2 : ∀ W', Below W.heap.size W W' → W'.cell? ⟨w.heap.size, 2, none⟩ = some kA := fun W' h => by
    rw [h.cell (by subst hW; simp)]; subst hW; simp [go_sem]
  clear hW
  have HB : Hid (Below w.heap.size w W) := hB
  clear hB
  have hr : Below W.heap.size W W := Below.refl _ _
  go_wp2
  refine wp_loop_rounds 4 ?_
  rw [rounds_succ]
  go_wp2_with fail
  refine (numberP _).mono ?_
  rintro e w0 ⟨rfl, hb0⟩
  have hB0 : Below W.heap.size W w0 := by (repeat (first | exact Below.refl _ _ | assumption | refine Below.drew ?_ | refine bl_alloc ?_ _ | refine bl_then ?_ (by assumption) | refine Below.setCell ?_ (by first | omega | (simp; done) | (simp; omega)) _ | refine bl_store ?_ ?_ _ _))
  go_wp2_with fail
  go_ret
  exact ⟨rfl, bl_then HB.out (by assumption)⟩
set_option maxHeartbeats 1000000 in
theorem kindOf_2 (w : World) : Calls Tryz.prog 67 #[.int .i64 2] w fun e w' => e = .returned kL ∧ Below w.heap.size w w' := by
  have h1 := numP
  have h2 := numL
  have h3 := numA
  go_enter Tryz.func67, Tryz.ntmps67
  go_wp2_with fail
  refine (kinds_ex _).mono ?_
  rintro e W ⟨rfl, hW⟩
  have hB : Below w.heap.size w W := by subst hW; (repeat (first | exact Below.refl _ _ | assumption | refine Below.drew ?_ | refine bl_alloc ?_ _ | refine bl_then ?_ (by assumption) | refine Below.setCell ?_ (by first | omega | (simp; done) | (simp; omega)) _ | refine bl_store ?_ ?_ _ _))
  have c0 : ∀ W', Below W.heap.size W W' → W'.cell? ⟨w.heap.size, 0, none⟩ = some kP := fun W' h => by
    rw [h.cell (by subst hW; simp)]; subst hW; simp [go_sem]
  have c1 : ∀ W', Below W.heap.size W W' → W'.cell? ⟨w.heap.size, 1, none⟩ = some kL := fun W' h => by
    rw [h.cell (by subst hW; simp)]; subst hW; simp [go_sem]
  have c2 : ∀ W', Below W.heap.size W W' → W'.cell? ⟨w.heap.size, 2, none⟩ = some kA := fun W' h => by
    rw [h.cell (by subst hW; simp)]; subst hW; simp [go_sem]
  clear hW
  have HB : Hid (Below w.heap.size w W) := hB
  clear hB
  have hr : Below W.heap.size W W := Below.refl _ _
  go_wp2
  refine wp_loop_rounds 4 ?_
  rw [rounds_succ]
  go_wp2_with fail
  refine (numberP _).mono ?_
  rintro e w0 ⟨rfl, hb0⟩
  have hB0 : Below W.heap.size W w0 := by (repeat (first | exact Below.refl _ _ | assumption | refine Below.drew ?_ | refine bl_alloc ?_ _ | refine bl_then ?_ (by assumption) | refine Below.setCell ?_ (by first | omega | (simp; done) | (simp; omega)) _ | refine bl_store ?_ ?_ _ _))
  go_wp2_with fail
  rw [rounds_succ]
  go_wp2_with fail
  refine (numberL _).mono ?_
  rintro e w1 ⟨rfl, hb1⟩
  have hB1 : Below W.heap.size W w1 := by (repeat (first | exact Below.refl _ _ | assumption | refine Below.drew ?_ | refine bl_alloc ?_ _ | refine bl_then ?_ (by assumption) | refine Below.setCell ?_ (by first | omega | (simp; done) | (simp; omega)) _ | refine bl_store ?_ ?_ _ _))
  go_wp2_with fail
  go_ret
  exact ⟨rfl, bl_then HB.out (by assumption)⟩
set_option maxHeartbeats 1000000 in
theorem kindOf_3 (w : World) : Calls Tryz.prog 67 #[.int .i64 3] w fun e w' => e = .returned kA ∧ Below w.heap.size w w' := by
  have h1 := numP
  have h2 := numL
  have h3 := numA
  go_enter Tryz.func67, Tryz.ntmps67
  go_wp2_with fail
  refine (kinds_ex _).mono ?_
  rintro e W ⟨rfl, hW⟩
  have hB : Below w.heap.size w W := by subst hW; (repeat (first | exact Below.refl _ _ | assumption | refine Below.drew ?_ | refine bl_alloc ?_ _ | refine bl_then ?_ (by assumption) | refine Below.setCell ?_ (by first | omega | (simp; done) | (simp; omega)) _ | refine bl_store ?_ ?_ _ _))
  have c0 : ∀ W', Below W.heap.size W W' → W'.cell? ⟨w.heap.size, 0, none⟩ = some kP := fun W' h => by
    rw [h.cell (by subst hW; simp)]; subst hW; simp [go_sem]
  have c1 : ∀ W', Below W.heap.size W W' → W'.cell? ⟨w.heap.size, 1, none⟩ = some kL := fun W' h => by
    rw [h.cell (by subst hW; simp)]; subst hW; simp [go_sem]
  have c2 : ∀ W', Below W.heap.size W W' → W'.cell? ⟨w.heap.size, 2, none⟩ = some kA := fun W' h => by
    rw [h.cell (by subst hW; simp)]; subst hW; simp [go_sem]
  clear hW
  have HB : Hid (Below w.heap.size w W) := hB
  clear hB
  have hr : Below W.heap.size W W := Below.refl _ _
  go_wp2
  refine wp_loop_rounds 4 ?_
  rw [rounds_succ]
  go_wp2_with fail
  refine (numberP _).mono ?_
  rintro e w0 ⟨rfl, hb0⟩
  have hB0 : Below W.heap.size W w0 := by (repeat (first | exact Below.refl _ _ | assumption | refine Below.drew ?_ | refine bl_alloc ?_ _ | refine bl_then ?_ (by assumption) | refine Below.setCell ?_ (by first | omega | (simp; done) | (simp; omega)) _ | refine bl_store ?_ ?_ _ _))
  go_wp2_with fail
  rw [rounds_succ]
  go_wp2_with fail
  refine (numberL _).mono ?_
  rintro e w1 ⟨rfl, hb1⟩
  have hB1 : Below W.heap.size W w1 := by (repeat (first | exact Below.refl _ _ | assumption | refine Below.drew ?_ | refine bl_alloc ?_ _ | refine bl_then ?_ (by assumption) | refine Below.setCell ?_ (by first | omega | (simp; done) | (simp; omega)) _ | refine bl_store ?_ ?_ _ _))
  go_wp2_with fail
  rw [rounds_succ]
  go_wp2_with fail
  refine (numberA _).mono ?_
  rintro e w2 ⟨rfl, hb2⟩
  have hB2 : Below W.heap.size W w2 := by (repeat (first | exact Below.refl _ _ | assumption | refine Below.drew ?_ | refine bl_alloc ?_ _ | refine bl_then ?_ (by assumption) | refine Below.setCell ?_ (by first | omega | (simp; done) | (simp; omega)) _ | refine bl_store ?_ ?_ _ _))
  go_wp2_with fail
  go_ret
  exact ⟨rfl, bl_then HB.out (by assumption)⟩
set_option maxHeartbeats 1000000 in
theorem kindOf_no (ki : Int) (w : World) (k1 : ki ≠ 1) (k2 : ki ≠ 2) (k3 : ki ≠ 3) : Calls Tryz.prog 67 #[.int .i64 ki] w fun e w' => e = .returned .nilIface ∧ Below w.heap.size w w' := by
  have h1 := numP
  have h2 := numL
  have h3 := numA
  have e1 : ((1 : Int) == ki) = false := by simp; omega
  have e2 : ((2 : Int) == ki) = false := by simp; omega
  have e3 : ((3 : Int) == ki) = false := by simp; omega
  go_enter Tryz.func67, Tryz.ntmps67
  go_wp2_with fail
  refine (kinds_ex _).mono ?_
  rintro e W ⟨rfl, hW⟩
  have hB : Below w.heap.size w W := by subst hW; (repeat (first | exact Below.refl _ _ | assumption | refine Below.drew ?_ | refine bl_alloc ?_ _ | refine bl_then ?_ (by assumption) | refine Below.setCell ?_ (by first | omega | (simp; done) | (simp; omega)) _ | refine bl_store ?_ ?_ _ _))
  have c0 : ∀ W', Below W.heap.size W W' → W'.cell? ⟨w.heap.size, 0, none⟩ = some kP := fun W' h => by
    rw [h.cell (by subst hW; simp)]; subst hW; simp [go_sem]
  have c1 : ∀ W', Below W.heap.size W W' → W'.cell? ⟨w.heap.size, 1, none⟩ = some kL := fun W' h => by
    rw [h.cell (by subst hW; simp)]; subst hW; simp [go_sem]
  have c2 : ∀ W', Below W.heap.size W W' → W'.cell? ⟨w.heap.size, 2, none⟩ = some kA := fun W' h => by
    rw [h.cell (by subst hW; simp)]; subst hW; simp [go_sem]
  clear hW
  have HB : Hid (Below w.heap.size w W) := hB
  clear hB
  have hr : Below W.heap.size W W := Below.refl _ _
  go_wp2
  refine wp_loop_rounds 4 ?_
  rw [rounds_succ]
  go_wp2_with fail
  refine (numberP _).mono ?_
  rintro e w0 ⟨rfl, hb0⟩
  have hB0 : Below W.heap.size W w0 := by (repeat (first | exact Below.refl _ _ | assumption | refine Below.drew ?_ | refine bl_alloc ?_ _ | refine bl_then ?_ (by assumption) | refine Below.setCell ?_ (by first | omega | (simp; done) | (simp; omega)) _ | refine bl_store ?_ ?_ _ _))
  go_wp2_with fail
  rw [rounds_succ]
  go_wp2_with fail
  refine (numberL _).mono ?_
  rintro e w1 ⟨rfl, hb1⟩
  have hB1 : Below W.heap.size W w1 := by (repeat (first | exact Below.refl _ _ | assumption | refine Below.drew ?_ | refine bl_alloc ?_ _ | refine bl_then ?_ (by assumption) | refine Below.setCell ?_ (by first | omega | (simp; done) | (simp; omega)) _ | refine bl_store ?_ ?_ _ _))
  go_wp2_with fail
  rw [rounds_succ]
  go_wp2_with fail
  refine (numberA _).mono ?_
  rintro e w2 ⟨rfl, hb2⟩
  have hB2 : Below W.heap.size W w2 := by (repeat (first | exact Below.refl _ _ | assumption | refine Below.drew ?_ | refine bl_alloc ?_ _ | refine bl_then ?_ (by assumption) | refine Below.setCell ?_ (by first | omega | (simp; done) | (simp; omega)) _ | refine bl_store ?_ ?_ _ _))
  go_wp2_with fail
  rw [rounds_succ]
  go_wp2_with fail
  go_ret
  exact ⟨rfl, bl_then HB.out (by assumption)⟩
theorem asPP (w : World) : (Instr.typeAssert kP 107 159 true).run Tryz.prog w = .ok (.tuple #[.agg #[], .bool true]) w := by kernel_rfl
theorem asPL (w : World) : (Instr.typeAssert kP 107 160 true).run Tryz.prog w = .ok (.tuple #[.agg #[], .bool false]) w := by kernel_rfl
theorem asPA (w : World) : (Instr.typeAssert kP 107 161 true).run Tryz.prog w = .ok (.tuple #[.agg #[], .bool false]) w := by kernel_rfl
abbrev wordP : ByteArray := ⟨#[112, 111, 105, 110, 116]⟩
theorem tellKind_1 (w : World) : Calls Tryz.prog 96 #[kP] w fun e w' => e = .returned (.tuple #[.string wordP, .int .i64 1]) ∧ Below w.heap.size w w' := by
  have h1 := asPP
  have h2 := asPL
  have h3 := asPA
  go_enter Tryz.func96, Tryz.ntmps96
  go_wp2
  go_ret2
  exact ⟨rfl, by (repeat (first | exact Below.refl _ _ | assumption | refine Below.drew ?_ | refine bl_alloc ?_ _ | refine bl_then ?_ (by assumption) | refine Below.setCell ?_ (by first | omega | (simp; done) | (simp; omega)) _ | refine bl_store ?_ ?_ _ _))⟩
theorem leastPoints_1 (w : World) : Calls Tryz.prog 66 #[kP] w fun e w' => e = .returned (.int .i64 1) ∧ Below w.heap.size w w' := by
  have h1 := numP
  have h2 := numL
  have h3 := numA
  go_enter Tryz.func66, Tryz.ntmps66
  go_wp2_with (first | (go_at_call 186; refine (numberP _).mono ?_; rintro e w' ⟨rfl, hb⟩) | (go_at_call 187; refine (numberL _).mono ?_; rintro e w' ⟨rfl, hb⟩) | (go_at_call 188; refine (numberA _).mono ?_; rintro e w' ⟨rfl, hb⟩))
  go_ret
  exact ⟨rfl, by (repeat (first | exact Below.refl _ _ | assumption | refine Below.drew ?_ | refine bl_alloc ?_ _ | refine bl_then ?_ (by assumption) | refine Below.setCell ?_ (by first | omega | (simp; done) | (simp; omega)) _ | refine bl_store ?_ ?_ _ _))⟩
theorem asLP (w : World) : (Instr.typeAssert kL 107 159 true).run Tryz.prog w = .ok (.tuple #[.agg #[], .bool false]) w := by kernel_rfl
theorem asLL (w : World) : (Instr.typeAssert kL 107 160 true).run Tryz.prog w = .ok (.tuple #[.agg #[], .bool true]) w := by kernel_rfl
theorem asLA (w : World) : (Instr.typeAssert kL 107 161 true).run Tryz.prog w = .ok (.tuple #[.agg #[], .bool false]) w := by kernel_rfl
abbrev wordL : ByteArray := ⟨#[108, 105, 110, 101]⟩
theorem tellKind_2 (w : World) : Calls Tryz.prog 96 #[kL] w fun e w' => e = .returned (.tuple #[.string wordL, .int .i64 12]) ∧ Below w.heap.size w w' := by
  have h1 := asLP
  have h2 := asLL
  have h3 := asLA
  go_enter Tryz.func96, Tryz.ntmps96
  go_wp2
  go_ret2
  exact ⟨rfl, by (repeat (first | exact Below.refl _ _ | assumption | refine Below.drew ?_ | refine bl_alloc ?_ _ | refine bl_then ?_ (by assumption) | refine Below.setCell ?_ (by first | omega | (simp; done) | (simp; omega)) _ | refine bl_store ?_ ?_ _ _))⟩
theorem leastPoints_2 (w : World) : Calls Tryz.prog 66 #[kL] w fun e w' => e = .returned (.int .i64 2) ∧ Below w.heap.size w w' := by
  have h1 := numP
  have h2 := numL
  have h3 := numA
  go_enter Tryz.func66, Tryz.ntmps66
  go_wp2_with (first | (go_at_call 186; refine (numberP _).mono ?_; rintro e w' ⟨rfl, hb⟩) | (go_at_call 187; refine (numberL _).mono ?_; rintro e w' ⟨rfl, hb⟩) | (go_at_call 188; refine (numberA _).mono ?_; rintro e w' ⟨rfl, hb⟩))
  go_ret
  exact ⟨rfl, by (repeat (first | exact Below.refl _ _ | assumption | refine Below.drew ?_ | refine bl_alloc ?_ _ | refine bl_then ?_ (by assumption) | refine Below.setCell ?_ (by first | omega | (simp; done) | (simp; omega)) _ | refine bl_store ?_ ?_ _ _))⟩
theorem asAP (w : World) : (Instr.typeAssert kA 107 159 true).run Tryz.prog w = .ok (.tuple #[.agg #[], .bool false]) w := by kernel_rfl
theorem asAL (w : World) : (Instr.typeAssert kA 107 160 true).run Tryz.prog w = .ok (.tuple #[.agg #[], .bool false]) w := by kernel_rfl
theorem asAA (w : World) : (Instr.typeAssert kA 107 161 true).run Tryz.prog w = .ok (.tuple #[.agg #[], .bool true]) w := by kernel_rfl
abbrev wordA : ByteArray := ⟨#[97, 114, 101, 97]⟩
theorem tellKind_3 (w : World) : Calls Tryz.prog 96 #[kA] w fun e w' => e = .returned (.tuple #[.string wordA, .int .i64 12]) ∧ Below w.heap.size w w' := by
  have h1 := asAP
  have h2 := asAL
  have h3 := asAA
  go_enter Tryz.func96, Tryz.ntmps96
  go_wp2
  go_ret2
  exact ⟨rfl, by (repeat (first | exact Below.refl _ _ | assumption | refine Below.drew ?_ | refine bl_alloc ?_ _ | refine bl_then ?_ (by assumption) | refine Below.setCell ?_ (by first | omega | (simp; done) | (simp; omega)) _ | refine bl_store ?_ ?_ _ _))⟩
theorem leastPoints_3 (w : World) : Calls Tryz.prog 66 #[kA] w fun e w' => e = .returned (.int .i64 3) ∧ Below w.heap.size w w' := by
  have h1 := numP
  have h2 := numL
  have h3 := numA
  go_enter Tryz.func66, Tryz.ntmps66
  go_wp2_with (first | (go_at_call 186; refine (numberP _).mono ?_; rintro e w' ⟨rfl, hb⟩) | (go_at_call 187; refine (numberL _).mono ?_; rintro e w' ⟨rfl, hb⟩) | (go_at_call 188; refine (numberA _).mono ?_; rintro e w' ⟨rfl, hb⟩))
  go_ret
  exact ⟨rfl, by (repeat (first | exact Below.refl _ _ | assumption | refine Below.drew ?_ | refine bl_alloc ?_ _ | refine bl_then ?_ (by assumption) | refine Below.setCell ?_ (by first | omega | (simp; done) | (simp; omega)) _ | refine bl_store ?_ ?_ _ _))⟩
end Go.Proofs.YtdohlnnbibnnbaaGreat
/- Labels: the program and the model tell the same ones. -/

namespace Go.Proofs.YtdohlnnbibnnbaaGreat
open Go.RowKit
set_option linter.unusedSimpArgs false
set_option linter.unusedVariables false
set_option maxRecDepth 100000

/-- A byte of a text. -/
def byteI (s : ByteArray) (i : Nat) : Int := if h : i < s.size then ((s[i]'h).toNat : Int) else 0
theorem byteI_at (s : ByteArray) (i : Nat) (h : i < s.size) : byteI s i = ((s[i]'h).toNat : Int) := by simp [byteI, h]
/-- All its bytes are letters. -/
def allLet (s : ByteArray) : Bool := decide (∀ i, i < s.size → letB (byteI s i) = true)
def labB (s : ByteArray) : Bool := decide (s.size ≤ 6) && allLet s
theorem labB_long {s : ByteArray} (h : 6 < s.size) : labB s = false := by simp [labB]; omega
theorem labB_bad {s : ByteArray} (k : Nat) (hk : k < s.size) (h : letB (byteI s k) = false) : labB s = false := by
  have : allLet s = false := by
    unfold allLet
    rw [decide_eq_false]
    intro hc
    have := hc k hk
    rw [h] at this; cases this
  simp [labB, this]
theorem labB_all {s : ByteArray} (h : ∀ i, i < s.size → letB (byteI s i) = true) : labB s = decide (s.size ≤ 6) := by
  have : allLet s = true := decide_eq_true h
  simp [labB, this]

set_option maxHeartbeats 1000000 in
theorem isLabel_any (s : ByteArray) (w : World) (hs : s.size ≤ 1048576) : Calls Tryz.prog 98 #[.string s] w fun e w' => e = .returned (.bool (labB s)) ∧ Below w.heap.size w w' := by
  by_cases h6 : (6 : Int) < s.size
  · go_enter Tryz.func98, Tryz.ntmps98
    go_wp2
    go_ret
    exact ⟨ret_bool (labB_long (by omega)).symm, by (repeat (first | exact Below.refl _ _ | assumption | refine Below.drew ?_ | refine bl_alloc ?_ _ | refine bl_then ?_ (by assumption) | refine Below.setCell ?_ (by first | omega | (simp; done) | (simp; omega)) _ | refine bl_store ?_ ?_ _ _))⟩
  · go_enter Tryz.func98, Tryz.ntmps98
    go_wp2
    go_loopw [9] (fun i wr => ∃ k : Nat, k ≤ s.size ∧ i = .int .i64 k ∧ (∀ j, j < k → letB (byteI s j) = true) ∧ Below w.heap.size w wr) (fun i _ => s.size - (intOf i).toNat)
    case atStart => exact ⟨0, by omega, rfl, by omega, Below.refl _ _⟩
    case round =>
      obtain ⟨k, hk, rfl, hA, hB⟩ := hrel
      by_cases hlt : k < s.size
      · have hi : (k : Int) < (s.size : Int) := by omega
        have HA : Hid (∀ j, j < k → letB (byteI s j) = true) := hA
        have HB : Hid (Below w.heap.size w wr) := hB
        have hbk := (byteI_at s k hlt).symm
        clear hA hB
        go_wp2_with fail
        refine (isLetter_any _ _).mono ?_
        rintro e w' ⟨rfl, rfl⟩
        cases hl : letB (byteI s k)
        · go_wp2
          go_ret
          exact ⟨ret_bool (labB_bad k hlt hl).symm, HB.out⟩
        · have HL : Hid (letB (byteI s k) = true) := hl
          clear hl
          go_wp2
          go_roundw
          case rel => exact ⟨k + 1, by omega, by go_num, fun j hj => by
              by_cases e : j = k
              · rw [e]; exact HL.out
              · exact HA.out j (by omega), HB.out⟩
          case measure => simp [intOf]; omega
      · go_wp2
        go_ret
        exact ⟨ret_bool (by rw [labB_all (fun i hi => hA i (by omega))]; simp; omega), hB⟩
set_option maxHeartbeats 1000000 in
theorem l2Label_any (s : ByteArray) (w : World) (hs : s.size ≤ 1048576) : Calls Tryz.prog 111 #[.string s] w fun e w' => e = .returned (.bool (labB s)) ∧ Below w.heap.size w w' := by
    go_enter Tryz.func111, Tryz.ntmps111
    go_wp2
    go_loopw [3] (fun i wr => ∃ k : Nat, k ≤ s.size ∧ i = .int .i64 k ∧ (∀ j, j < k → letB (byteI s j) = true) ∧ Below w.heap.size w wr) (fun i _ => s.size - (intOf i).toNat)
    case atStart => exact ⟨0, by omega, rfl, by omega, Below.refl _ _⟩
    case round =>
      obtain ⟨k, hk, rfl, hA, hB⟩ := hrel
      by_cases hlt : k < s.size
      · have hi : (k : Int) < (s.size : Int) := by omega
        have HA : Hid (∀ j, j < k → letB (byteI s j) = true) := hA
        have HB : Hid (Below w.heap.size w wr) := hB
        have hbk := byteI_at s k hlt
        have HK := (show Hid _ from hbk)
        clear hA hB hbk
        by_cases l1 : ((s[k]'hlt).toNat : Int) < 97
        · go_wp2
          go_ret
          exact ⟨ret_bool (labB_bad k hlt (by rw [HK.out]; simp [letB]; omega)).symm, HB.out⟩
        · have l1' : decide (((s[k]'hlt).toNat : Int) < 97) = false := by simpa using l1
          by_cases l2 : (122 : Int) < ((s[k]'hlt).toNat : Int)
          · go_wp2
            go_ret
            exact ⟨ret_bool (labB_bad k hlt (by rw [HK.out]; simp [letB]; omega)).symm, HB.out⟩
          · have l2' : decide ((122 : Int) < ((s[k]'hlt).toNat : Int)) = false := by simpa using l2
            have HL : Hid (letB (byteI s k) = true) := by show _ = _; rw [HK.out]; simp [letB]; omega
            go_wp2
            go_roundw
            case rel => exact ⟨k + 1, by omega, by go_num, fun j hj => by
                by_cases e : j = k
                · rw [e]; exact HL.out
                · exact HA.out j (by omega), HB.out⟩
            case measure => simp [intOf]; omega
      · go_wp2
        go_ret
        exact ⟨ret_bool (by rw [labB_all (fun i hi => hA i (by omega))]; simp <;> omega), hB⟩
end Go.Proofs.YtdohlnnbibnnbaaGreat
