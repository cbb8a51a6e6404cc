/- Plain definitions and facts about points and numbers: no program in sight. -/
import Derived.WalkKit
import Derived.Below
namespace Go.Proofs.Ytbijdoddalfedaa
open Go.RowKit

/-- v is from lo to hi. -/
def inB (v lo hi : Int) : Bool := decide (lo ≤ v) && decide (v ≤ hi)
/-- A point without a fault. -/
def okP (x y : Int) : Bool := inB x (-1024) 4096 && inB y (-1024) 4096
theorem okP_iff (x y : Int) : okP x y = true ↔ (-1024 ≤ x ∧ x ≤ 4096) ∧ (-1024 ≤ y ∧ y ≤ 4096) := by
  simp [okP, inB]
/-- The fault of a point. -/
def codeP (x y : Int) : Int := if okP x y = true then 0 else 3
theorem codeP_ok {x y : Int} (h : okP x y = true) : codeP x y = 0 := by simp [codeP, h]
theorem codeP_no {x y : Int} (h : okP x y = false) : codeP x y = 3 := by simp [codeP, h]
theorem okP_bd {x y : Int} (h : okP x y = true) : (-1024 ≤ x ∧ x ≤ 4096) ∧ (-1024 ≤ y ∧ y ≤ 4096) := (okP_iff x y).1 h

/-- The product of two numbers within bounds. -/
theorem mul_bd {a b B C : Int} (ha : -B ≤ a) (ha' : a ≤ B) (hb : -C ≤ b) (hb' : b ≤ C) (hB : 0 ≤ B) : -(B * C) ≤ a * b ∧ a * b ≤ B * C := by
  have h1 : a.natAbs ≤ B.natAbs := by omega
  have h2 : b.natAbs ≤ C.natAbs := by omega
  have h3 : (a * b).natAbs ≤ B.natAbs * C.natAbs := by rw [Int.natAbs_mul]; exact Nat.mul_le_mul h1 h2
  have h4 : ((B.natAbs * C.natAbs : Nat) : Int) = B * C := by rw [Int.natCast_mul, Int.natAbs_of_nonneg hB, Int.natAbs_of_nonneg (by omega)]
  omega

/-- What is below stays: all old cells, all old marks read as before. -/
theorem bcell {W w1 : World} (hb : Below W.heap.size W w1) : (∀ b o, b < W.heap.size → w1.cell? ⟨b, o, none⟩ = W.cell? ⟨b, o, none⟩) ∧ (∀ b o, b < W.heap.size → w1.frozen? ⟨b, o, none⟩ = W.frozen? ⟨b, o, none⟩) :=
  ⟨fun b o h => hb.cell (p := ⟨b, o, none⟩) h, fun b o h => hb.frozen (p := ⟨b, o, none⟩) h⟩

theorem bcell3 {W w1 : World} (hb : Below W.heap.size W w1) : (∀ b o, b < W.heap.size → w1.cell? ⟨b, o, none⟩ = W.cell? ⟨b, o, none⟩) ∧ (∀ b o, b < W.heap.size → w1.frozen? ⟨b, o, none⟩ = W.frozen? ⟨b, o, none⟩) ∧ (∀ b, b < W.heap.size → b < w1.heap.size) :=
  ⟨fun b o h => hb.cell (p := ⟨b, o, none⟩) h, fun b o h => hb.frozen (p := ⟨b, o, none⟩) h, fun _ h => Nat.lt_of_lt_of_le h hb.size⟩

/-- Below, one call behind another. -/
theorem bl_then {wr W w' : World} (hS : Below wr.heap.size wr W) (hb : Below W.heap.size W w') : Below wr.heap.size wr w' := hS.trans (hb.mono hS.size)
theorem bl_store {wr W V : World} (hS : Below wr.heap.size wr W) (hV : Below wr.heap.size wr V) (o : Nat) (u : Value) : Below wr.heap.size wr (W.setCell ⟨V.heap.size, o, none⟩ u) := hS.setCell hV.size u
theorem bl_alloc {wr W : World} (hS : Below wr.heap.size wr W) (o : Obj) : Below wr.heap.size wr (W.alloc o) := hS.alloc hS.size o

theorem ret_int {k : IntKind} {a b : Int} (h : a = b) : Ending.returned (.int k a) = .returned (.int k b) := by rw [h]
theorem ret_bool {a b : Bool} (h : a = b) : Ending.returned (.bool a) = .returned (.bool b) := by rw [h]

/-- Twice the area. -/
def crossI (ax ay bx by' cx cy : Int) : Int := (bx - ax) * (cy - ay) - (by' - ay) * (cx - ax)
/-- The square of the distance. -/
def distI (ax ay bx by' : Int) : Int := (bx - ax) * (bx - ax) + (by' - ay) * (by' - ay)
end Go.Proofs.Ytbijdoddalfedaa
