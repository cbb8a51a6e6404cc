/- The fault of a feature. -/
import Derived.Test.YtbijdoddalfedaaDoorFe2
import Derived.Deep.RegionHeld3
namespace Go.Proofs.YtbijdoddalfedaaDoor
open Go.RowKit
set_option linter.unusedSimpArgs false
set_option linter.unusedVariables false
set_option maxRecDepth 100000

theorem l1In_eq (v lo hi : Int) (w : World) : Calls Tryd.prog 10 #[.int .i64 v, .int .i64 lo, .int .i64 hi] w fun e w' => e = .returned (.bool (inB v lo hi)) ∧ w = w' := (l1In_any v lo hi w).mono fun e w' ⟨he, hw⟩ => ⟨he, hw.symm⟩
theorem isWithin_eq (v lo hi : Int) (w : World) : Calls Tryd.prog 17 #[.int .i64 v, .int .i64 lo, .int .i64 hi] w fun e w' => e = .returned (.bool (inB v lo hi)) ∧ w = w' := (isWithin_any v lo hi w).mono fun e w' ⟨he, hw⟩ => ⟨he, hw.symm⟩
/-- Seven cells: a feature. -/
def FeatAt (w : World) (p o : Nat) (id la ki wi : Int) (pts : Value) (lab : ByteArray) (pr : Int) : Prop :=
  w.cell? ⟨p, o, none⟩ = some (.int .i64 id) ∧ w.cell? ⟨p, o + 1, none⟩ = some (.int .i64 la) ∧ w.cell? ⟨p, o + 2, none⟩ = some (.int .i64 ki) ∧ w.cell? ⟨p, o + 3, none⟩ = some (.int .i64 wi) ∧
  w.cell? ⟨p, o + 4, none⟩ = some pts ∧ w.cell? ⟨p, o + 5, none⟩ = some (.string lab) ∧ w.cell? ⟨p, o + 6, none⟩ = some (.int .i64 pr)
theorem FeatAt.below {w w' : World} {p o B : Nat} {id la ki wi pr : Int} {pts : Value} {lab : ByteArray} (h : FeatAt w p o id la ki wi pts lab pr) (hb : Below B w w') (hp : p < B) : FeatAt w' p o id la ki wi pts lab pr := by
  obtain ⟨h0, h1, h2, h3, h4, h5, h6⟩ := h
  refine ⟨(hb.cell (p := ⟨p, o, none⟩) hp).trans h0, (hb.cell (p := ⟨p, o + 1, none⟩) hp).trans h1, (hb.cell (p := ⟨p, o + 2, none⟩) hp).trans h2, (hb.cell (p := ⟨p, o + 3, none⟩) hp).trans h3, (hb.cell (p := ⟨p, o + 4, none⟩) hp).trans h4, (hb.cell (p := ⟨p, o + 5, none⟩) hp).trans h5, (hb.cell (p := ⟨p, o + 6, none⟩) hp).trans h6⟩
/-- All points are in the world. -/
def ptsIn (n : Nat) (X Y : Nat → Int) : Bool := decide (∀ i, i < n → inW (X i) (Y i) = true)
def rngB (id la ki wi pr : Int) : Bool := inB id 1 999 && (inB la 0 9 && (inB ki 1 3 && (inB wi 0 3 && inB pr 0 9)))
/-- The fault of a feature. -/
def featC (id la ki wi : Int) (n : Nat) (X Y : Nat → Int) (lab : ByteArray) (pr : Int) : Int :=
  if rngB id la ki wi pr = true then (if sizeB ki n = true then (if ptsIn n X Y = true then (if labB lab = true then 0 else 5) else 3) else 2) else 3

theorem ptsIn_bad {n : Nat} {X Y : Nat → Int} (k : Nat) (hk : k < n) (h : inW (X k) (Y k) = false) : ptsIn n X Y = false := by
  unfold ptsIn
  rw [decide_eq_false]
  intro hc
  have := hc k hk
  rw [h] at this; cases this

end Go.Proofs.YtbijdoddalfedaaDoor
