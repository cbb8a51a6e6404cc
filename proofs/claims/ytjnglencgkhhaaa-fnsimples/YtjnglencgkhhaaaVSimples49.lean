/- Several texts in one. -/
import Derived.Test.YtjnglencgkhhaaaVSimples48
import Derived.Test.YtjnglencgkhhaaaVSimples4

/- Two lists of one feature each, wherever they were laid: they are the same. -/

namespace Go.Proofs.Ytjnglencgkhhaaa
open Go.RowKit
set_option linter.unusedVariables false
set_option maxRecDepth 100000

theorem lab_self (lab : ByteArray) : (lab == lab) = true := by
  cases lab with
  | mk d =>
    show (d == d) = true
    simp
theorem lab_selfL (lab : ByteArray) : (lab.toList == lab.toList) = true := by simp
theorem FeatAt.new (w : World) (id la ki wi : Int) (v : Value) (lab : ByteArray) (pr : Int) (T : TypeId) : FeatAt (w.alloc (.cells #[.int .i64 id, .int .i64 la, .int .i64 ki, .int .i64 wi, v, .string lab, .int .i64 pr] T)) w.heap.size 0 id la ki wi v lab pr := by
  refine ⟨?_, ?_, ?_, ?_, ?_, ?_, ?_⟩ <;> simp [go_sem]
theorem same1 (w : World) (p q g g' N cg c' : Nat) (id la ki wi : Int) (X Y : Nat → Int) (lab : ByteArray) (pr : Int) (h1 : FeatAt w p 0 id la ki wi (.slice (some ⟨g, 0, none⟩) N cg) lab pr) (h2 : FeatAt w q 0 id la ki wi (.slice (some ⟨g', 0, none⟩) N c') lab pr)
    (hP : PtsAt w g 0 N X Y) (hP' : PtsAt w g' 0 N X Y) (hg : g < w.heap.size) (hg' : g' < w.heap.size) (hN : N ≤ 1048576) (hl : lab.size ≤ 1048576) :
    Calls Try.prog 10 #[.slice (some ⟨p, 0, none⟩) 1 1, .slice (some ⟨q, 0, none⟩) 1 1] w fun e w' => e = .returned (.bool true) ∧ Below w.heap.size w w' := by
  have hp : p < w.heap.size := World.block_lt_of_cell? _ _ h1.1
  have hq : q < w.heap.size := World.block_lt_of_cell? _ _ h2.1
  have hs : sameL 1 (fun _ => (⟨id, la, ki, wi, some ⟨g, 0, none⟩, N, cg, X, Y, lab, pr⟩ : Feat)) 1 (fun _ => (⟨id, la, ki, wi, some ⟨g', 0, none⟩, N, c', X, Y, lab, pr⟩ : Feat)) = true := by
    refine sameL_ok (fun i _ => ?_)
    simp [sameF, ptsEq, sameB]
  rw [← hs]
  refine impl_SameFeatures_any p q 1 1 1 1 _ _ w (fun i hi => ?_) (fun i hi => ?_) hp hq (fun i hi => ⟨g, rfl, hg, hP⟩) (fun i hi => ⟨g', rfl, hg', hP'⟩) ⟨by omega, fun i hi => ⟨hN, hl⟩⟩ ⟨by omega, fun i hi => ⟨hN, hl⟩⟩
  · have e : i = 0 := by omega
    subst e
    exact ⟨h1, .inr ⟨g, 0, rfl, hg, hP⟩⟩
  · have e : i = 0 := by omega
    subst e
    exact ⟨h2, .inr ⟨g', 0, rfl, hg', hP'⟩⟩
section
variable (U w5 w6 : World) (g cg g6 c6 N : Nat) (id la ki wi : Int) (X Y : Nat → Int) (lab : ByteArray) (pr : Int)
theorem same_A (hP : PtsAt U g 0 N X Y) (hg : g < U.heap.size) (hS : Below U.heap.size U w6)
    (hb6 : Below (w5.alloc (.cells #[.int .i64 id, .int .i64 la, .int .i64 ki, .int .i64 wi, .slice (some ⟨g, 0, none⟩) N cg, .string lab, .int .i64 pr] 32)).heap.size (w5.alloc (.cells #[.int .i64 id, .int .i64 la, .int .i64 ki, .int .i64 wi, .slice (some ⟨g, 0, none⟩) N cg, .string lab, .int .i64 pr] 32)) w6)
    (hP6 : PtsAt w6 g6 0 N X Y) (hg6 : g6 < w6.heap.size) (hN : N ≤ 1048576) (hl : lab.size ≤ 1048576) :
    Calls Try.prog 10 #[.slice (some ⟨w5.heap.size, 0, none⟩) 1 1, .slice (some ⟨w6.heap.size, 0, none⟩) 1 1] (w6.alloc (.cells #[.int .i64 id, .int .i64 la, .int .i64 ki, .int .i64 wi, .slice (some ⟨g6, 0, none⟩) N c6, .string lab, .int .i64 pr] 32)) fun e w' => e = .returned (.bool true) ∧ Below (w6.alloc (.cells #[.int .i64 id, .int .i64 la, .int .i64 ki, .int .i64 wi, .slice (some ⟨g6, 0, none⟩) N c6, .string lab, .int .i64 pr] 32)).heap.size (w6.alloc (.cells #[.int .i64 id, .int .i64 la, .int .i64 ki, .int .i64 wi, .slice (some ⟨g6, 0, none⟩) N c6, .string lab, .int .i64 pr] 32)) w' := by
  have hA : ∀ o, Below w6.heap.size w6 (w6.alloc o) := fun o => bl_alloc (Below.refl _ _) o
  have h5 : w5.heap.size < w6.heap.size := Nat.lt_of_lt_of_le (by simp) hb6.size
  have hgw : g < w6.heap.size := Nat.lt_of_lt_of_le hg hS.size
  exact same1 _ _ _ g g6 N cg c6 id la ki wi X Y lab pr (((FeatAt.new w5 _ _ _ _ _ _ _ _).below hb6 (by simp)).below (hA _) h5) (FeatAt.new w6 _ _ _ _ _ _ _ _) ((hP.below hS hg).below (hA _) hgw) (hP6.below (hA _) hg6) (Nat.lt_of_lt_of_le hgw (hA _).size) (Nat.lt_of_lt_of_le hg6 (hA _).size) hN hl
theorem same_B (hP : PtsAt U g 0 N X Y) (hg : g < U.heap.size) (hS : Below U.heap.size U w6)
    (hP6 : PtsAt w6 g6 0 N X Y) (hg6 : g6 < w6.heap.size) (hN : N ≤ 1048576) (hl : lab.size ≤ 1048576) :
    Calls Try.prog 10 #[.slice (some ⟨w6.heap.size, 0, none⟩) 1 1, .slice (some ⟨w6.heap.size + 1, 0, none⟩) 1 1] ((w6.alloc (.cells #[.int .i64 id, .int .i64 la, .int .i64 ki, .int .i64 wi, .slice (some ⟨g, 0, none⟩) N cg, .string lab, .int .i64 pr] 32)).alloc (.cells #[.int .i64 id, .int .i64 la, .int .i64 ki, .int .i64 wi, .slice (some ⟨g6, 0, none⟩) N c6, .string lab, .int .i64 pr] 32)) fun e w' => e = .returned (.bool true) ∧ Below ((w6.alloc (.cells #[.int .i64 id, .int .i64 la, .int .i64 ki, .int .i64 wi, .slice (some ⟨g, 0, none⟩) N cg, .string lab, .int .i64 pr] 32)).alloc (.cells #[.int .i64 id, .int .i64 la, .int .i64 ki, .int .i64 wi, .slice (some ⟨g6, 0, none⟩) N c6, .string lab, .int .i64 pr] 32)).heap.size ((w6.alloc (.cells #[.int .i64 id, .int .i64 la, .int .i64 ki, .int .i64 wi, .slice (some ⟨g, 0, none⟩) N cg, .string lab, .int .i64 pr] 32)).alloc (.cells #[.int .i64 id, .int .i64 la, .int .i64 ki, .int .i64 wi, .slice (some ⟨g6, 0, none⟩) N c6, .string lab, .int .i64 pr] 32)) w' := by
  have hA : ∀ (w : World) o, Below w.heap.size w (w.alloc o) := fun w o => bl_alloc (Below.refl _ _) o
  have hAA : ∀ o o', Below w6.heap.size w6 ((w6.alloc o).alloc o') := fun o o' => bl_then (hA _ _) (hA _ _)
  have hgw : g < w6.heap.size := Nat.lt_of_lt_of_le hg hS.size
  have e1 : ∀ o, (w6.alloc o).heap.size = w6.heap.size + 1 := fun o => by simp
  refine same1 _ _ _ g g6 N cg c6 id la ki wi X Y lab pr ((FeatAt.new w6 _ _ _ _ _ _ _ _).below (hA _ _) (by simp)) ?_ ((hP.below hS hg).below (hAA _ _) hgw) (hP6.below (hAA _ _) hg6) (Nat.lt_of_lt_of_le hgw (hAA _ _).size) (Nat.lt_of_lt_of_le hg6 (hAA _ _).size) hN hl
  have := FeatAt.new (w6.alloc (.cells #[.int .i64 id, .int .i64 la, .int .i64 ki, .int .i64 wi, .slice (some ⟨g, 0, none⟩) N cg, .string lab, .int .i64 pr] 32)) id la ki wi (.slice (some ⟨g6, 0, none⟩) N c6) lab pr 32
  rw [e1] at this
  exact this
theorem same_C (hP : PtsAt U g 0 N X Y) (hg : g < U.heap.size) (hS : Below U.heap.size U w6)
    (hP6 : PtsAt w6 g6 0 N X Y) (hg6 : g6 < w6.heap.size) (hN : N ≤ 1048576) (hl : lab.size ≤ 1048576) :
    Calls Try.prog 10 #[.slice (some ⟨w6.heap.size + 1, 0, none⟩) 1 1, .slice (some ⟨w6.heap.size, 0, none⟩) 1 1] ((w6.alloc (.cells #[.int .i64 id, .int .i64 la, .int .i64 ki, .int .i64 wi, .slice (some ⟨g6, 0, none⟩) N c6, .string lab, .int .i64 pr] 32)).alloc (.cells #[.int .i64 id, .int .i64 la, .int .i64 ki, .int .i64 wi, .slice (some ⟨g, 0, none⟩) N cg, .string lab, .int .i64 pr] 32)) fun e w' => e = .returned (.bool true) ∧ Below ((w6.alloc (.cells #[.int .i64 id, .int .i64 la, .int .i64 ki, .int .i64 wi, .slice (some ⟨g6, 0, none⟩) N c6, .string lab, .int .i64 pr] 32)).alloc (.cells #[.int .i64 id, .int .i64 la, .int .i64 ki, .int .i64 wi, .slice (some ⟨g, 0, none⟩) N cg, .string lab, .int .i64 pr] 32)).heap.size ((w6.alloc (.cells #[.int .i64 id, .int .i64 la, .int .i64 ki, .int .i64 wi, .slice (some ⟨g6, 0, none⟩) N c6, .string lab, .int .i64 pr] 32)).alloc (.cells #[.int .i64 id, .int .i64 la, .int .i64 ki, .int .i64 wi, .slice (some ⟨g, 0, none⟩) N cg, .string lab, .int .i64 pr] 32)) w' := by
  have hA : ∀ (w : World) o, Below w.heap.size w (w.alloc o) := fun w o => bl_alloc (Below.refl _ _) o
  have hAA : ∀ o o', Below w6.heap.size w6 ((w6.alloc o).alloc o') := fun o o' => bl_then (hA _ _) (hA _ _)
  have hgw : g < w6.heap.size := Nat.lt_of_lt_of_le hg hS.size
  have e1 : ∀ o, (w6.alloc o).heap.size = w6.heap.size + 1 := fun o => by simp
  refine same1 _ _ _ g g6 N cg c6 id la ki wi X Y lab pr ?_ ((FeatAt.new w6 _ _ _ _ _ _ _ _).below (hA _ _) (by simp)) ((hP.below hS hg).below (hAA _ _) hgw) (hP6.below (hAA _ _) hg6) (Nat.lt_of_lt_of_le hgw (hAA _ _).size) (Nat.lt_of_lt_of_le hg6 (hAA _ _).size) hN hl
  have := FeatAt.new (w6.alloc (.cells #[.int .i64 id, .int .i64 la, .int .i64 ki, .int .i64 wi, .slice (some ⟨g6, 0, none⟩) N c6, .string lab, .int .i64 pr] 32)) id la ki wi (.slice (some ⟨g, 0, none⟩) N cg) lab pr 32
  rw [e1] at this
  exact this
end
end Go.Proofs.Ytjnglencgkhhaaa
/- lwBig tells whether a code is too long. -/

namespace Go.Proofs.Ytjnglencgkhhaaa
open Go.RowKit
set_option linter.unusedSimpArgs false
set_option linter.unusedVariables false

theorem lwBig_any (a : Option Addr) (n cap : Nat) (w : World) : Calls Try.prog 5 #[.slice a n cap] w fun e w' => e = .returned (.bool (decide (1048576 < (n : Int)))) ∧ w' = w := by
  go_enter Try.func5, Try.ntmps5
  go_wp2
  go_ret
  exact ⟨rfl, rfl⟩
end Go.Proofs.Ytjnglencgkhhaaa
