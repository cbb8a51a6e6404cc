/- Features as answers: they are compared, marked, and the marks are found again. -/
import Derived.Test.YtncaibchkaadbaaVLabelBox5
import Derived.Test.YtncaibchkaadbaaVLabelBox35
namespace Go.Proofs.Ytncaibchkaadbaa
open Go.RowKit
set_option linter.unusedSimpArgs false
set_option linter.unusedVariables false
set_option maxRecDepth 100000

set_option maxHeartbeats 2000000 in
theorem eqFeatureI_any (id la ki wi : Int) (a a' : Option Addr) (n cap cap' : Nat) (X Y : Nat → Int) (lab : ByteArray) (pr : Int) (w : World) (hp : IsPts w a n X Y) (hq : IsPts w a' n X Y) (hmax : n ≤ 1048576) :
    Calls Try.prog 10 #[.agg #[.int .i64 id, .int .i64 la, .int .i64 ki, .int .i64 wi, .slice a n cap, .string lab, .int .i64 pr], .agg #[.int .i64 id, .int .i64 la, .int .i64 ki, .int .i64 wi, .slice a' n cap', .string lab, .int .i64 pr]] w fun e w' => e = .returned (.bool true) ∧ Below w.heap.size w w' := by
  have HP : Hid (IsPts w a n X Y) := hp
  have HQ : Hid (IsPts w a' n X Y) := hq
  clear hp hq
  go_enter Try.func10, Try.ntmps10
  go_wp2_with fail
  generalize hW : ((w.alloc _).alloc _ : World) = W
  have hB0 : Below w.heap.size w W := by subst hW; (repeat (first | exact Below.refl _ _ | assumption | refine Below.drew ?_ | refine bl_alloc ?_ _ | refine bl_then ?_ (by assumption) | refine Below.setCell ?_ (by first | omega | (simp; done) | (simp; omega)) _ | refine bl_store ?_ ?_ _ _))
  have hsz : W.heap.size = w.heap.size + 1 + 1 := by subst hW; simp
  have c5 : W.cell? ⟨w.heap.size, 5, none⟩ = some (.string lab) := by subst hW; simp [go_sem]
  have c6 : W.cell? ⟨w.heap.size, 6, none⟩ = some (.int .i64 pr) := by subst hW; simp [go_sem]
  have o5 : W.cell? ⟨w.heap.size + 1, 5, none⟩ = some (.string lab) := by subst hW; simp [go_sem]
  have o6 : W.cell? ⟨w.heap.size + 1, 6, none⟩ = some (.int .i64 pr) := by subst hW; simp [go_sem]
  clear hW
  refine (eqPts_any a a' n cap cap' X Y W (HP.out.below hB0) (HQ.out.below hB0) hmax).mono ?_
  rintro e w1 ⟨rfl, hb1⟩
  have d5 := (hb1.cell (p := ⟨w.heap.size, 5, none⟩) (show w.heap.size < _ by omega)).trans c5
  have d6 := (hb1.cell (p := ⟨w.heap.size, 6, none⟩) (show w.heap.size < _ by omega)).trans c6
  have e5 := (hb1.cell (p := ⟨w.heap.size + 1, 5, none⟩) (show w.heap.size + 1 < _ by omega)).trans o5
  have e6 := (hb1.cell (p := ⟨w.heap.size + 1, 6, none⟩) (show w.heap.size + 1 < _ by omega)).trans o6
  have HB1 : Hid (Below w.heap.size w w1) := bl_then hB0 hb1
  clear c5 c6 o5 o6 hb1 hB0 hsz
  go_wp2
  go_ret
  exact ⟨rfl, HB1.out⟩
set_option maxHeartbeats 1000000 in
theorem markFeature_any (id la ki wi : Int) (b n cap : Nat) (lab : ByteArray) (pr : Int) (w : World) (hT : There w b (n * 2)) (hb : b < w.heap.size) (hmax : n ≤ 1048576) :
    Calls Try.prog 14 #[.agg #[.int .i64 id, .int .i64 la, .int .i64 ki, .int .i64 wi, .slice (some ⟨b, 0, none⟩) n cap, .string lab, .int .i64 pr], .int .i64 1] w fun e w' => e = .returned (.int .i64 ((1 + 2 * n : Nat) : Int)) ∧ w.grownBy w' (some b) ∧ There w' b (n * 2) ∧ PtsAt w' b 0 n (mkX 1) (mkY 1) := by
  have HT : Hid (There w b (n * 2)) := hT
  clear hT
  go_enter Try.func14, Try.ntmps14
  go_wp2_with fail
  generalize hW : (w.alloc _ : World) = W
  have HB : Below w.heap.size w W := by subst hW; (repeat (first | exact Below.refl _ _ | assumption | refine Below.drew ?_ | refine bl_alloc ?_ _ | refine bl_then ?_ (by assumption) | refine Below.setCell ?_ (by first | omega | (simp; done) | (simp; omega)) _ | refine bl_store ?_ ?_ _ _))
  clear hW
  refine (markPointS_any b n _ 1 _ (HT.out.below HB) (Nat.lt_of_lt_of_le hb HB.size) hmax (by omega)).mono ?_
  rintro e w' ⟨rfl, hG, hT', hP⟩
  have HG : Hid (w.grownBy w' (some b)) := grown_trans (grown_below HB) hG
  have HT' : Hid (There w' b (n * 2)) := hT'
  have HP' : Hid (PtsAt w' b 0 n (mkX 1) (mkY 1)) := hP
  clear hG hT' hP HB
  go_wp2
  go_ret
  exact ⟨rfl, HG.out, HT'.out, HP'.out⟩
theorem markFeature_none (id la ki wi : Int) (a : Option Addr) (cap : Nat) (lab : ByteArray) (pr : Int) (k : Int) (w : World) :
    Calls Try.prog 14 #[.agg #[.int .i64 id, .int .i64 la, .int .i64 ki, .int .i64 wi, .slice a 0 cap, .string lab, .int .i64 pr], .int .i64 k] w fun e w' => e = .returned (.int .i64 k) ∧ Below w.heap.size w w' := by
  go_enter Try.func14, Try.ntmps14
  go_wp2_with (go_at_call 29; refine (markPointS_none _ _ _ _).mono ?_; rintro e w' ⟨rfl, rfl⟩)
  go_ret
  exact ⟨rfl, by (repeat (first | exact Below.refl _ _ | assumption | refine Below.drew ?_ | refine bl_alloc ?_ _ | refine bl_then ?_ (by assumption) | refine Below.setCell ?_ (by first | omega | (simp; done) | (simp; omega)) _ | refine bl_store ?_ ?_ _ _))⟩
/-- Block p holds an answer with a feature. -/
def RAt (w : World) (p : Nat) (c id la ki wi : Int) (v : Value) (lab : ByteArray) (pr : Int) : Prop :=
  w.cell? ⟨p, 0, none⟩ = some (.int .i64 c) ∧ w.cell? ⟨p, 1, none⟩ = some (.int .i64 id) ∧ w.cell? ⟨p, 2, none⟩ = some (.int .i64 la) ∧ w.cell? ⟨p, 3, none⟩ = some (.int .i64 ki) ∧ w.cell? ⟨p, 4, none⟩ = some (.int .i64 wi) ∧
  w.cell? ⟨p, 5, none⟩ = some v ∧ w.cell? ⟨p, 6, none⟩ = some (.string lab) ∧ w.cell? ⟨p, 7, none⟩ = some (.int .i64 pr)
theorem RAt.row {w w' : World} {p : Nat} {row : Option Nat} {c id la ki wi pr : Int} {v : Value} {lab : ByteArray} (h : RAt w p c id la ki wi v lab pr) (hg : w.grownBy w' row) (hs : ∀ s, row = some s → p ≠ s) : RAt w' p c id la ki wi v lab pr := by
  obtain ⟨h0, h1, h2, h3, h4, h5, h6, h7⟩ := h
  exact ⟨ro_cell hg h0 hs, ro_cell hg h1 hs, ro_cell hg h2 hs, ro_cell hg h3 hs, ro_cell hg h4 hs, ro_cell hg h5 hs, ro_cell hg h6 hs, ro_cell hg h7 hs⟩
theorem RAt.below {w w' : World} {p : Nat} {c id la ki wi pr : Int} {v : Value} {lab : ByteArray} (h : RAt w p c id la ki wi v lab pr) (hb : Below w.heap.size w w') : RAt w' p c id la ki wi v lab pr := h.row (grown_below (r := none) hb) (fun s hs => by cases hs)
theorem RAt.lt {w : World} {p : Nat} {c id la ki wi pr : Int} {v : Value} {lab : ByteArray} (h : RAt w p c id la ki wi v lab pr) : p < w.heap.size := World.block_lt_of_cell? _ _ h.1
theorem RAt.new (w : World) (c id la ki wi : Int) (v : Value) (lab : ByteArray) (pr : Int) (t : TypeId) : RAt (w.alloc (.cells #[.int .i64 c, .int .i64 id, .int .i64 la, .int .i64 ki, .int .i64 wi, v, .string lab, .int .i64 pr] t)) w.heap.size c id la ki wi v lab pr := by
  refine ⟨?_, ?_, ?_, ?_, ?_, ?_, ?_, ?_⟩ <;> simp [go_sem]
theorem FeatAt.row {w w' : World} {p o : Nat} {row : Option Nat} {id la ki wi pr : Int} {v : Value} {lab : ByteArray} (h : FeatAt w p o id la ki wi v lab pr) (hg : w.grownBy w' row) (hs : ∀ s, row = some s → p ≠ s) : FeatAt w' p o id la ki wi v lab pr := by
  obtain ⟨h0, h1, h2, h3, h4, h5, h6⟩ := h
  exact ⟨ro_cell hg h0 hs, ro_cell hg h1 hs, ro_cell hg h2 hs, ro_cell hg h3 hs, ro_cell hg h4 hs, ro_cell hg h5 hs, ro_cell hg h6 hs⟩
theorem FeatAt.new (w : World) (id la ki wi : Int) (v : Value) (lab : ByteArray) (pr : Int) (t : TypeId) : FeatAt (w.alloc (.cells #[.int .i64 id, .int .i64 la, .int .i64 ki, .int .i64 wi, v, .string lab, .int .i64 pr] t)) w.heap.size 0 id la ki wi v lab pr := by
  refine ⟨?_, ?_, ?_, ?_, ?_, ?_, ?_⟩ <;> simp [go_sem]
theorem FeatAt.lt {w : World} {p o : Nat} {id la ki wi pr : Int} {v : Value} {lab : ByteArray} (h : FeatAt w p o id la ki wi v lab pr) : p < w.heap.size := World.block_lt_of_cell? _ _ h.1
end Go.Proofs.Ytncaibchkaadbaa
