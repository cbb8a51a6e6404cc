/- Several texts in one. -/
import Derived.Test.YtcbpaockahkakaaVReadTile11
import Derived.Test.YtcbpaockahkakaaVReadTile18
import Derived.Test.YtcbpaockahkakaaVReadTile19
import Derived.Test.YtcbpaockahkakaaVReadTile20

/- The features of a list are read from what is left of bytes: the program's way. -/

namespace Go.Proofs.Ytcbpaockahkakaa
open Go.RowKit
set_option linter.unusedSimpArgs false
set_option linter.unusedVariables false
set_option maxRecDepth 100000

/-- So many features, one behind the other, from byte o on. -/
def rdFs (Z : Nat → Int) : Nat → Nat → Nat → Option (List Fx × Nat)
  | 0, _, o => some ([], o)
  | c + 1, n, o => (rdFeat (fun i => Z (i + o)) (n - o)).bind fun d => (rdFs Z c n (o + d.2)).map fun r => (d.1 :: r.1, r.2)
def rdList (Z : Nat → Int) (n : Nat) : Option (List Fx × Nat) := (rdUp 12 Z n).bind fun c => rdFs Z c.1 n c.2
theorem rdFs_none {Z : Nat → Int} {c n o : Nat} (h : rdFeat (fun i => Z (i + o)) (n - o) = none) : rdFs Z (c + 1) n o = none := by simp [rdFs, h]
theorem rdFs_some {Z : Nat → Int} {c n o : Nat} {d : Fx × Nat} (h : rdFeat (fun i => Z (i + o)) (n - o) = some d) : rdFs Z (c + 1) n o = (rdFs Z c n (o + d.2)).map fun r => (d.1 :: r.1, r.2) := by simp [rdFs, h]
/-- A feature that was read, its points at an address. -/
def fxFeat (f : Fx) (a : Option Addr) (cap : Nat) : Feat := ⟨(f.ns.getD 0 0 : Nat), (f.ns.getD 1 0 : Nat), (f.ns.getD 2 0 : Nat), (f.ns.getD 3 0 : Nat), a, f.pts.length, cap, px f.pts, py f.pts, f.lab, (f.ns.getD 4 0 : Nat)⟩
def fxAt (fs : List Fx) (i : Nat) : Fx := fs.getD i ⟨[], ByteArray.empty, []⟩
/-- v is a row of its own with the features fs, each with a row of points of its own. -/
def FxRow (base : Nat) (w : World) (v : Value) (fs : List Fx) (H : Nat → Feat) : Prop :=
  FRow base w v H (List.range fs.length) ∧ (∀ i, i < fs.length → H i = fxFeat (fxAt fs i) (H i).a (H i).cap ∧ Row base w (.slice (H i).a (H i).n (H i).cap) (fxAt fs i).pts) ∧ ∀ i j, i < fs.length → j < fs.length → (H i).a = (H j).a → (H i).a ≠ none → i = j
theorem Row.keptU {base base' : Nat} {w w' : World} {u v : Value} {l : List (Int × Int)} {H : Nat → Feat} {m : List Nat} (h : Row base w u l) (h' : FRow base' w v H m) (hg : w.grownBy w' v.ownBlock) : Row base w' u l := by
  refine World.ownsRow.kept h hg ?_
  cases hu : u.ownBlock with
  | none => exact .inl rfl
  | some g =>
    right
    intro e
    obtain ⟨c1, h1⟩ := heap_of_row h g hu
    obtain ⟨c2, h2⟩ := heap_of_row h' g e.symm
    rw [h1] at h2
    injection h2 with h2
    injection h2 with _ h2
    exact absurd h2 (by decide)
theorem FxRow.keeps {base s : Nat} {w w' : World} {v : Value} {fs : List Fx} {H : Nat → Feat} (h : FxRow base w v fs H) (hk : Keeps s w w') (hs : s < base) : FxRow base w' v fs H :=
  ⟨ownsRow_of h.1 fun g hg => hk.block g (World.ownsRow.lt h.1 g hg).2 (by have := (World.ownsRow.lt h.1 g hg).1; omega), fun i hi => ⟨(h.2.1 i hi).1, (h.2.1 i hi).2.keeps hk hs⟩, h.2.2⟩
theorem FxRow.below {base : Nat} {w w' : World} {v : Value} {fs : List Fx} {H : Nat → Feat} (h : FxRow base w v fs H) (hk : Below w.heap.size w w') : FxRow base w' v fs H :=
  ⟨ownsRow_of h.1 fun g hg => hk.block g (World.ownsRow.lt h.1 g hg).2, fun i hi => ⟨(h.2.1 i hi).1, (h.2.1 i hi).2.below hk⟩, h.2.2⟩
theorem fxAt_app {fs : List Fx} {f : Fx} {i : Nat} (hi : i < fs.length + 1) : fxAt (fs ++ [f]) i = if i = fs.length then f else fxAt fs i := by
  unfold fxAt
  by_cases h : i = fs.length
  · subst h; simp [List.getD]
  · rw [if_neg h]
    simp [List.getD, List.getElem?_append_left (show i < fs.length by omega)]
theorem FxRow.app {base : Nat} {w w' : World} {v v' : Value} {fs : List Fx} {H : Nat → Feat} {f : Fx} {a : Option Addr} {c : Nat} (h : FxRow base w v fs H) (hR : Row base w (.slice a f.pts.length c) f.pts)
    (hown : w'.ownsRow base 71 7 v' (fs.length + 1) (cellsF H (List.range fs.length) ++ fcell (fxFeat f a c))) (hg : w.grownBy w' v.ownBlock) (hf : ∀ i, i < fs.length → (H i).a = a → a = none) :
    FxRow base w' v' (fs ++ [f]) (fun i => if i = fs.length then fxFeat f a c else H i) := by
  refine ⟨?_, fun i hi => ?_, fun i j hi hj hij hne => ?_⟩
  · unfold FRow
    have e1 : cellsF (fun i => if i = fs.length then fxFeat f a c else H i) (List.range (fs ++ [f]).length) = cellsF H (List.range fs.length) ++ fcell (fxFeat f a c) := by
      rw [List.length_append, List.length_singleton, List.range_succ, cellsF_app, cellsF_one, if_pos rfl]
      rw [cellsF_congr (H' := H) (List.range fs.length) (fun j hj => by rw [if_neg]; have := List.mem_range.1 hj; omega)]
    rw [e1, List.length_range, List.length_append, List.length_singleton]
    exact hown
  · simp only [List.length_append, List.length_singleton] at hi
    rw [fxAt_app hi]
    by_cases e : i = fs.length
    · simp only [if_pos e]
      exact ⟨rfl, hR.keptU h.1 hg⟩
    · simp only [if_neg e]
      obtain ⟨e1, r1⟩ := h.2.1 i (by omega)
      exact ⟨e1, r1.keptU h.1 hg⟩
  · simp only [List.length_append, List.length_singleton] at hi hj
    by_cases e1 : i = fs.length <;> by_cases e2 : j = fs.length
    · omega
    · simp only [if_pos e1, if_neg e2] at hij hne
      exact absurd (hf j (by omega) hij.symm) hne
    · simp only [if_neg e1, if_pos e2] at hij hne
      have := hf i (by omega) hij
      exact absurd (hij.trans this) hne
    · simp only [if_neg e1, if_neg e2] at hij hne
      exact h.2.2 i j (by omega) (by omega) hij hne
/-- A row of points that came behind is none of those that were there. -/
theorem FxRow.fresh {base : Nat} {w w' : World} {v : Value} {fs : List Fx} {H : Nat → Feat} {a : Option Addr} {n c : Nat} {l : List (Int × Int)} (h : FxRow base w v fs H) (hR : Row w.heap.size w' (.slice a n c) l) (i : Nat) (hi : i < fs.length) (e : (H i).a = a) : a = none := by
  cases ha : a with
  | none => rfl
  | some p =>
    subst ha
    have h1 := (h.2.1 i hi).2
    rw [e] at h1
    have h2 := (World.ownsRow.lt h1 p.block rfl).2
    have h3 := (World.ownsRow.lt hR p.block rfl).1
    omega
end Go.Proofs.Ytcbpaockahkakaa
/- The features of a list are read and asked for faults: the program's way. -/

namespace Go.Proofs.Ytcbpaockahkakaa
open Go.RowKit
set_option linter.unusedSimpArgs false
set_option linter.unusedVariables false
set_option maxRecDepth 100000

set_option maxHeartbeats 1000000 in
theorem FeaturesFault_zero (a : Option Addr) (cap : Nat) (w : World) : Calls Try.prog 37 #[.slice a 0 cap] w fun e w' => e = .returned (.int .i64 0) ∧ Below w.heap.size w w' := by
  go_enter Try.func37, Try.ntmps37
  go_wp2
  go_loopw [11] (fun v wr => v = .int .i64 0 ∧ Below w.heap.size w wr) (fun v _ => 0)
  case atStart => exact ⟨rfl, Below.refl _ _⟩
  case round =>
    obtain ⟨rfl, hB⟩ := hrel
    go_wp2
    go_ret
    exact ⟨rfl, hB⟩
set_option maxHeartbeats 1000000 in
theorem isSortedFunc_zero (a : Option Addr) (cap : Nat) (f : Value) (w : World) : Calls Try.prog 71 #[.slice a 0 cap, f] w fun e w' => e = .returned (.bool true) ∧ Below w.heap.size w w' := by
  go_enter Try.func71, Try.ntmps71
  go_wp2_with fail
  go_loopw [5] (fun i wr => i = .int .i64 (-1) ∧ w = wr) (fun _ _ => 0)
  case atStart => exact ⟨rfl, rfl⟩
  case round =>
    obtain ⟨rfl, rfl⟩ := hrel
    go_wp2
    go_ret
    exact ⟨rfl, Below.refl _ _⟩
theorem areInOrder_zero (a : Option Addr) (cap : Nat) (w : World) : Calls Try.prog 38 #[.slice a 0 cap] w fun e w' => e = .returned (.bool true) ∧ Below w.heap.size w w' := by
  go_enter Try.func38, Try.ntmps38
  go_wp2_with (go_at_call 71; refine (isSortedFunc_zero _ _ _ _).mono ?_; rintro e w' ⟨rfl, hb⟩)
  go_ret
  exact ⟨rfl, by assumption⟩
/-- What was read as features, wherever their points lie: the fault, and whether they are in order. -/
def fxG (fs : List Fx) : Nat → Feat := fun i => fxFeat (fxAt fs i) none 0
noncomputable def fxC (fs : List Fx) : Int := featsC fs.length (fxG fs)
def fxO (fs : List Fx) : Bool := ordI fs.length (fxG fs)
theorem FxRow.same {base : Nat} {w : World} {v : Value} {fs : List Fx} {H : Nat → Feat} (h : FxRow base w v fs H) (i : Nat) (hi : i < fs.length) : (H i).same (fxG fs i) := by
  rw [(h.2.1 i hi).1]
  exact ⟨rfl, rfl, rfl, rfl, rfl, rfl, rfl, rfl, rfl⟩
theorem FxRow.is {base : Nat} {w : World} {v : Value} {fs : List Fx} {H : Nat → Feat} (h : FxRow base w v fs H) : ∃ a cap, v = .slice a fs.length cap ∧ fs.length ≤ cap ∧ (fs.length = 0 ∨ ∃ b, a = some ⟨b, 0, none⟩ ∧ b < w.heap.size ∧ FsAt w b 0 fs.length H) := by
  rcases h.1.at with ⟨rfl, hn⟩ | ⟨g, cap, hv, hg, hgl, hc, hT, hF⟩
  · have : fs.length = 0 := by simpa using congrArg List.length hn
    exact ⟨none, 0, by rw [this], by omega, .inl this⟩
  · rw [List.length_range] at hv hc
    refine ⟨_, cap, hv, hc, .inr ⟨g, rfl, hgl, fun i hi => ⟨?_, ?_⟩⟩⟩
    · have := hF i (by simpa using hi)
      simp only [Nat.zero_add]
      simpa [List.getD, hi] using this
    · obtain ⟨e, r⟩ := h.2.1 i hi
      obtain ⟨a', c', hv', hc', hP⟩ := r.own.pts
      injection hv' with e1 e2 e3
      rw [e1, e2]
      have eX : (H i).X = px (fxAt fs i).pts := by rw [e]; rfl
      have eY : (H i).Y = py (fxAt fs i).pts := by rw [e]; rfl
      rw [eX, eY]
      exact hP
theorem ordI_fx {n : Nat} {G H : Nat → Feat} (h : ∀ i, i < n → (G i).same (H i)) : ordI n G = ordI n H := by
  unfold ordI
  rw [decide_eq_decide]
  refine forall_congr' fun i => forall_congr' fun hi => ?_
  have h1 := h i (by omega)
  have h2 := h (i + 1) (by omega)
  unfold ltF
  rw [h1.1, h1.2.1, h2.1, h2.2.1]
theorem FxRow.fault {base : Nat} {w : World} {v : Value} {fs : List Fx} {H : Nat → Feat} (h : FxRow base w v fs H) (hs : SmallFs fs.length (fxG fs)) :
    Calls Try.prog 37 #[v] w fun e w' => e = .returned (.int .i64 (fxC fs)) ∧ Below w.heap.size w w' := by
  obtain ⟨a, cap, rfl, hc, h0 | ⟨b, rfl, hb, hF⟩⟩ := h.is
  · have e : fxC fs = 0 := by unfold fxC; rw [h0]; simp [featsC, scanC]
    rw [e, h0]
    exact FeaturesFault_zero _ _ _
  · have e : fxC fs = featsC fs.length H := (featsC_same (h.same)).symm
    rw [e]
    exact FeaturesFault_any b fs.length cap H w hF hb ⟨hs.1, fun i hi => by
      have h1 := h.same i hi
      have h2 := hs.2 i hi
      rw [h1.2.2.2.2.1, h1.2.2.2.2.2.2.2.1]
      exact h2⟩ hc
theorem FxRow.order {base : Nat} {w : World} {v : Value} {fs : List Fx} {H : Nat → Feat} (h : FxRow base w v fs H) (hs : SmallFs fs.length (fxG fs)) :
    Calls Try.prog 38 #[v] w fun e w' => e = .returned (.bool (fxO fs)) ∧ Below w.heap.size w w' := by
  obtain ⟨a, cap, rfl, hc, h0 | ⟨b, rfl, hb, hF⟩⟩ := h.is
  · have e : fxO fs = true := by unfold fxO; rw [h0]; simp [ordI]
    rw [e, h0]
    exact areInOrder_zero _ _ _
  · have e : fxO fs = ordI fs.length H := (ordI_fx h.same).symm
    rw [e]
    exact areInOrder_any b fs.length cap H w hF hb hs.1
end Go.Proofs.Ytcbpaockahkakaa
