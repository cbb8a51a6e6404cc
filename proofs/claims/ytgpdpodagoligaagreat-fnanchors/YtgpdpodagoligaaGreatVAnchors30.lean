/- Several texts in one. -/
import Derived.Test.YtgpdpodagoligaaGreatVAnchors11
import Derived.Test.YtgpdpodagoligaaGreatVAnchors26
import Derived.Test.YtgpdpodagoligaaGreatVAnchors29
import Derived.Test.YtgpdpodagoligaaGreatVAnchors16
import Derived.Test.YtgpdpodagoligaaGreatVAnchors17
import Derived.Test.YtgpdpodagoligaaGreatVAnchors5

/- Features in order, simple at a zoom: the model. -/

namespace Go.Proofs.YtgpdpodagoligaaGreat
open Go.RowKit
set_option linter.unusedSimpArgs false
set_option linter.unusedVariables false
set_option maxRecDepth 100000

/-- Which points of a line stay. -/
theorem thin_exL (X Y : Nat → Int) (z : Int) (n : Nat) : ∃ L, 3 ≤ (snapL X Y z n).length → Thin (px (snapL X Y z n)) (py (snapL X Y z n)) (gridI z) 0 ((snapL X Y z n).length - 1) L := by
  by_cases h3 : 3 ≤ (snapL X Y z n).length
  · obtain ⟨L, hL⟩ := Thin.exists (px (snapL X Y z n)) (py (snapL X Y z n)) (gridI z) ((snapL X Y z n).length - 1) 0 ((snapL X Y z n).length - 1) (by omega) (by omega)
    exact ⟨L, fun _ => hL⟩
  · exact ⟨[], fun h => absurd h h3⟩
noncomputable def thinOf (z : Int) (f : Feat) : List Nat := Classical.choose (thin_exL f.X f.Y z f.n)
theorem thinOf_spec (z : Int) (f : Feat) : 3 ≤ (snapL f.X f.Y z f.n).length → Thin (px (snapL f.X f.Y z f.n)) (py (snapL f.X f.Y z f.n)) (gridI z) 0 ((snapL f.X f.Y z f.n).length - 1) (thinOf z f) := Classical.choose_spec (thin_exL f.X f.Y z f.n)
/-- The points of a feature at a zoom. -/
noncomputable def simL (z : Int) (f : Feat) : List (Int × Int) := simpR 0 f.ki z f.n f.X f.Y (thinOf z f)
/-- t is f with its points at a zoom. -/
def simOf (z : Int) (f t : Feat) : Prop := t.id = f.id ∧ t.la = f.la ∧ t.ki = f.ki ∧ t.wi = f.wi ∧ t.n = (simL z f).length ∧ t.X = px (simL z f) ∧ t.Y = py (simL z f) ∧ t.lab = f.lab ∧ t.pr = f.pr
abbrev okC (f : Feat) : Prop := featC f.id f.la f.ki f.wi f.n f.X f.Y f.lab f.pr = 0
theorem simL_facts {z : Int} {f : Feat} (h : okC f) (hz : zoomB z = true) : kindN f.ki (simL z f).length ∧ (simL z f).length ≤ 12 ∧ allW (simL z f) ∧ 0 < (simL z f).length := by
  obtain ⟨h1, h2, h3⟩ := simpR_facts h hz (thinOf_spec z f)
  exact ⟨h1, h2, h3, by show 0 < (simpR 0 f.ki z f.n f.X f.Y (thinOf z f)).length; rcases h1 with ⟨_, h⟩ | ⟨_, h⟩ | ⟨_, h⟩ <;> omega⟩
theorem simL_same {z : Int} {f g : Feat} (h : f.same g) : simL z f = simL z g := by
  obtain ⟨h1, h2, h3, h4, h5, h6, h7, h8, h9⟩ := h
  unfold simL thinOf
  rw [h3]
  congr 1
  all_goals first | rw [h5, h6, h7] | skip
  all_goals first | rfl | simp only [h5, h6, h7]
theorem Row.keptA {base base' : Nat} {w w' : World} {u v : Value} {l : List (Int × Int)} {H : Nat → Feat} {m : List Nat} (h : Row base w u l) (h' : FRow base' w v H m) (hg : w.grownBy w' v.ownBlock) : Row base w' u l := by
  refine World.ownsRow.kept h hg ?_
  cases hu : u.ownBlock with
  | none => exact .inl rfl
  | some g =>
    right
    intro e
    obtain ⟨c1, h1⟩ := heap_of_row h g hu
    obtain ⟨c2, h2⟩ := heap_of_row h' g e.symm
    rw [h1] at h2
    injection h2 with h2
    injection h2 with _ h2
    exact absurd h2 (by decide)
/-- v is a row of its own of features at a zoom, each with points of its own. -/
def SfRow (base : Nat) (w : World) (v : Value) (k : Nat) (z : Int) (H T : Nat → Feat) : Prop :=
  FRow base w v T (List.range k) ∧ (∀ i, i < k → simOf z (H i) (T i) ∧ Row base w (.slice (T i).a (T i).n (T i).cap) (simL z (H i))) ∧ ∀ i j, i < k → j < k → (T i).a = (T j).a → i = j
theorem SfRow.below {base k : Nat} {w w' : World} {v : Value} {z : Int} {H T : Nat → Feat} (h : SfRow base w v k z H T) (hb : Below w.heap.size w w') : SfRow base w' v k z H T :=
  ⟨h.1.below hb, fun i hi => ⟨(h.2.1 i hi).1, (h.2.1 i hi).2.below hb⟩, h.2.2⟩
/-- One more behind the others. -/
theorem SfRow.app {base k : Nat} {w w' : World} {v v' : Value} {z : Int} {H T : Nat → Feat} {t : Feat} (h : SfRow base w v k z H T) (hs : simOf z (H k) t) (hR : Row base w (.slice t.a t.n t.cap) (simL z (H k)))
    (hown : w'.ownsRow base 26 7 v' (k + 1) (cellsF T (List.range k) ++ fcell t)) (hg : w.grownBy w' v.ownBlock) (hfr : ∀ i, i < k → (T i).a ≠ t.a) : SfRow base w' v' (k + 1) z H (fun i => if i = k then t else T i) := by
  refine ⟨?_, fun i hi => ?_, fun i j hi hj hij => ?_⟩
  · unfold FRow
    have e1 : cellsF (fun i => if i = k then t else T i) (List.range (k + 1)) = cellsF T (List.range k) ++ fcell t := by
      rw [List.range_succ, cellsF_app, cellsF_one, if_pos rfl]
      rw [cellsF_congr (H' := T) (List.range k) (fun j hj => by rw [if_neg]; have := List.mem_range.1 hj; omega)]
    rw [e1, List.length_range]
    exact hown
  · by_cases e : i = k
    · subst e
      simp only [↓reduceIte]
      exact ⟨hs, hR.keptA h.1 hg⟩
    · simp only [if_neg e]
      exact ⟨(h.2.1 i (by omega)).1, (h.2.1 i (by omega)).2.keptA h.1 hg⟩
  · by_cases e1 : i = k <;> by_cases e2 : j = k
    · omega
    · simp only [if_pos e1, if_neg e2] at hij
      exact absurd hij.symm (hfr j (by omega))
    · simp only [if_neg e1, if_pos e2] at hij
      exact absurd hij (hfr i (by omega))
    · simp only [if_neg e1, if_neg e2] at hij
      exact h.2.2 i j (by omega) (by omega) hij
theorem SfRow.fs {base k g c : Nat} {w : World} {z : Int} {H T : Nat → Feat} (h : SfRow base w (.slice (some ⟨g, 0, none⟩) k c) k z H T) : g < w.heap.size ∧ k ≤ c ∧ FsAt w g 0 k T := by
  have hp : ∀ j, j < k → IsPts w (T j).a (T j).n (T j).X (T j).Y := fun j hj => by
    obtain ⟨⟨_, _, _, _, e5, e6, e7, _, _⟩, hR⟩ := h.2.1 j hj
    obtain ⟨a', c', hv, _, hI⟩ := hR.own.pts
    injection hv with i1 i2 i3
    rw [e6, e7, e5, i1]
    exact hI
  rcases h.1.at with ⟨hv, hl⟩ | ⟨g', c', hv, hg', hgl, hc', _, hF⟩
  · cases hv
  · injection hv with e1 e2 e3
    injection e1 with e1
    injection e1 with e1
    subst e1
    rw [List.length_range] at hc' hF
    refine ⟨hgl, by omega, fun i hi => ⟨?_, hp i hi⟩⟩
    have hF' := hF i hi
    have er : (List.range k).getD i 0 = i := by simp [List.getD, hi]
    rw [er] at hF'
    rw [Nat.zero_add]
    exact hF'
end Go.Proofs.YtgpdpodagoligaaGreat
/- How many pixels the world has on a side, and their centres. -/

namespace Go.Proofs.YtgpdpodagoligaaGreat
open Go.RowKit
set_option linter.unusedSimpArgs false
set_option linter.unusedVariables false
set_option maxRecDepth 100000

/-- How many pixels the world has on a side. -/
def pixI (z : Int) : Int := if z = 0 then 8 else if z = 1 then 16 else if z = 2 then 32 else 64
/-- The answer of PixelCount. -/
def pixV (z : Int) : Value := if zoomB z = true then .agg #[.int .i64 0, .int .i64 (pixI z)] else .agg #[.int .i64 3, .int .i64 0]
/-- A pixel. -/
def pixB (z x y : Int) : Bool := zoomB z && (inB x 0 (pixI z - 1) && inB y 0 (pixI z - 1))
/-- The centre of a pixel, doubled. -/
def centI (z x : Int) : Int := (2 * x + 1) * unitI z
/-- The answer of CentreOf. -/
def centV (z x y : Int) : Value := if pixB z x y = true then .agg #[.int .i64 0, .int .i64 (centI z x), .int .i64 (centI z y)] else .agg #[.int .i64 3, .int .i64 0, .int .i64 0]
theorem pixB_zoom {z x y : Int} (h : pixB z x y = true) : zoomB z = true := by
  simp [pixB] at h
  exact h.1
theorem pixB_in {z x y : Int} (h : pixB z x y = true) : (0 ≤ x ∧ x ≤ pixI z - 1) ∧ (0 ≤ y ∧ y ≤ pixI z - 1) := by
  simp [pixB, inB] at h
  exact h.2
theorem pixI_bd {z : Int} (h : zoomB z = true) : 8 ≤ pixI z ∧ pixI z ≤ 64 := by
  rcases zoomB_cases h with rfl | rfl | rfl | rfl <;> decide
theorem cent_ok {z x y : Int} (h : pixB z x y = true) : okP (centI z x) (centI z y) = true := by
  have hz := pixB_zoom h
  have hb := pixB_in h
  rw [okP_iff]
  unfold centI
  rcases zoomB_cases hz with rfl | rfl | rfl | rfl
  all_goals
    simp only [show unitI 0 = 128 from rfl, show unitI 1 = 64 from rfl, show unitI 2 = 32 from rfl, show unitI 3 = 16 from rfl, show pixI 0 = 8 from rfl, show pixI 1 = 16 from rfl, show pixI 2 = 32 from rfl, show pixI 3 = 64 from rfl] at *
    omega

theorem impl_PixelCount_any (z : Int) (w : World) : Calls Tryz.prog 38 #[.int .i64 z] w fun e w' => e = .returned (pixV z) ∧ Below w.heap.size w w' := by
  cases h : zoomB z
  · go_enter Tryz.func38, Tryz.ntmps38
    go_wp2_with (go_at_call 27; refine (isZoom_any _ _).mono ?_; rintro e w' ⟨rfl, rfl⟩)
    exact bodyPost_ret (v := .agg #[.int .i64 3, .int .i64 0]) (by simp [results, Tryz.results38, go_sem]) rfl ⟨by simp [pixV, h], by (repeat (first | exact Below.refl _ _ | assumption | refine Below.drew ?_ | refine bl_alloc ?_ _ | refine bl_then ?_ (by assumption) | refine Below.setCell ?_ (by first | omega | (simp; done) | (simp; omega)) _ | refine bl_store ?_ ?_ _ _))⟩
  · rcases zoomB_cases h with rfl | rfl | rfl | rfl
    all_goals
      go_enter Tryz.func38, Tryz.ntmps38
      go_wp2_with (go_at_call 27; refine (isZoom_any _ _).mono ?_; rintro e w' ⟨rfl, rfl⟩)
      first
        | exact bodyPost_ret (v := .agg #[.int .i64 0, .int .i64 8]) (by simp [results, Tryz.results38, go_sem]; done) rfl ⟨rfl, by (repeat (first | exact Below.refl _ _ | assumption | refine Below.drew ?_ | refine bl_alloc ?_ _ | refine bl_then ?_ (by assumption) | refine Below.setCell ?_ (by first | omega | (simp; done) | (simp; omega)) _ | refine bl_store ?_ ?_ _ _))⟩
        | exact bodyPost_ret (v := .agg #[.int .i64 0, .int .i64 16]) (by simp [results, Tryz.results38, go_sem]; done) rfl ⟨rfl, by (repeat (first | exact Below.refl _ _ | assumption | refine Below.drew ?_ | refine bl_alloc ?_ _ | refine bl_then ?_ (by assumption) | refine Below.setCell ?_ (by first | omega | (simp; done) | (simp; omega)) _ | refine bl_store ?_ ?_ _ _))⟩
        | exact bodyPost_ret (v := .agg #[.int .i64 0, .int .i64 32]) (by simp [results, Tryz.results38, go_sem]; done) rfl ⟨rfl, by (repeat (first | exact Below.refl _ _ | assumption | refine Below.drew ?_ | refine bl_alloc ?_ _ | refine bl_then ?_ (by assumption) | refine Below.setCell ?_ (by first | omega | (simp; done) | (simp; omega)) _ | refine bl_store ?_ ?_ _ _))⟩
        | exact bodyPost_ret (v := .agg #[.int .i64 0, .int .i64 64]) (by simp [results, Tryz.results38, go_sem]; done) rfl ⟨rfl, by (repeat (first | exact Below.refl _ _ | assumption | refine Below.drew ?_ | refine bl_alloc ?_ _ | refine bl_then ?_ (by assumption) | refine Below.setCell ?_ (by first | omega | (simp; done) | (simp; omega)) _ | refine bl_store ?_ ?_ _ _))⟩
theorem l4Count_any (z : Int) (w : World) (h : zoomB z = true) : Calls Tryz.prog 46 #[.int .i64 z] w fun e w' => e = .returned (.int .i64 (pixI z)) ∧ w = w' := by
  rcases zoomB_cases h with rfl | rfl | rfl | rfl
  all_goals
    go_enter Tryz.func46, Tryz.ntmps46
    go_wp2
    go_ret
    exact ⟨rfl, rfl⟩
theorem isPixel_any (z x y : Int) (w : World) : Calls Tryz.prog 17 #[.int .i64 z, .int .i64 x, .int .i64 y] w fun e w' => e = .returned (.bool (pixB z x y)) ∧ Below w.heap.size w w' := by
  have s1 := fun w => impl_PixelCount_any z w
  cases h : zoomB z
  · have hv : pixV z = .agg #[.int .i64 3, .int .i64 0] := by simp [pixV, h]
    simp only [hv] at s1
    have i1 : ∀ w, (Instr.field 88 (.agg #[.int .i64 3, .int .i64 0]) 1).run Tryz.prog w = .ok (.int .i64 0) w := fun _ => by kernel_rfl
    have hx : inB x 0 (-1) = false := by simp [inB]; omega
    have hp : Hid (pixB z x y = false) := by show _ = _; simp [pixB, h]
    go_enter Tryz.func17, Tryz.ntmps17
    go_wp2_with (first
      | (go_at_call 38; refine (s1 _).mono ?_; rintro e w1 ⟨rfl, hb1⟩)
      | (go_at_call 48; refine (isWithin_any _ _ _ _).mono ?_; rintro e w' ⟨rfl, rfl⟩))
    all_goals (go_ret; exact ⟨ret_bool (by rw [hp.out]), by (repeat (first | exact Below.refl _ _ | assumption | refine Below.drew ?_ | refine bl_alloc ?_ _ | refine bl_then ?_ (by assumption) | refine Below.setCell ?_ (by first | omega | (simp; done) | (simp; omega)) _ | refine bl_store ?_ ?_ _ _))⟩)
  · have hv : pixV z = .agg #[.int .i64 0, .int .i64 (pixI z)] := by simp [pixV, h]
    simp only [hv] at s1
    have hp : Hid (pixB z x y = (inB x 0 (pixI z - 1) && inB y 0 (pixI z - 1))) := by show _ = _; simp [pixB, h]
    obtain ⟨b1, b2⟩ := pixI_bd h
    generalize pixI z = u at *
    have i1 : ∀ w, (Instr.field 88 (.agg #[.int .i64 0, .int .i64 u]) 1).run Tryz.prog w = .ok (.int .i64 u) w := fun _ => by kernel_rfl
    cases hx : inB x 0 (u - 1) <;> cases hy : inB y 0 (u - 1)
    all_goals
      go_enter Tryz.func17, Tryz.ntmps17
      go_wp2_with (first
        | (go_at_call 38; refine (s1 _).mono ?_; rintro e w1 ⟨rfl, hb1⟩)
        | (go_at_call 48; refine (isWithin_any _ _ _ _).mono ?_; rintro e w' ⟨rfl, rfl⟩))
      all_goals (go_ret; exact ⟨ret_bool (by rw [hp.out, hx, hy]; rfl), by (repeat (first | exact Below.refl _ _ | assumption | refine Below.drew ?_ | refine bl_alloc ?_ _ | refine bl_then ?_ (by assumption) | refine Below.setCell ?_ (by first | omega | (simp; done) | (simp; omega)) _ | refine bl_store ?_ ?_ _ _))⟩)
end Go.Proofs.YtgpdpodagoligaaGreat
/- Refs: what is wrong of one, its parent, the one of a pixel: the program and the model. -/

namespace Go.Proofs.YtgpdpodagoligaaGreat
open Go.RowKit
set_option linter.unusedSimpArgs false
set_option linter.unusedVariables false
set_option maxRecDepth 100000

/-- The greatest X and Y of a ref. -/
def lastI (z : Int) : Int := if z = 0 then 0 else if z = 1 then 1 else if z = 2 then 3 else 7
/-- A ref without a fault. -/
def refB (z x y : Int) : Bool := zoomB z && (inB x 0 (lastI z) && inB y 0 (lastI z))
def refC (z x y : Int) : Int := if refB z x y = true then 0 else 3
theorem refC_cases (z x y : Int) : (refC z x y = 0 ∧ refB z x y = true) ∨ (refC z x y = 3 ∧ refB z x y = false) := by
  unfold refC
  cases h : refB z x y <;> simp
theorem refB_zoom {z x y : Int} (h : refB z x y = true) : z = 0 ∨ z = 1 ∨ z = 2 ∨ z = 3 := by
  simp [refB] at h
  exact zoomB_cases h.1
theorem refB_in {z x y : Int} (h : refB z x y = true) : (0 ≤ x ∧ x ≤ lastI z) ∧ (0 ≤ y ∧ y ≤ lastI z) := by
  simp [refB, inB] at h
  exact h.2
theorem lastI_le (z : Int) : lastI z ≤ 7 := by unfold lastI; split; omega; split; omega; split <;> omega
theorem ref_bd {z x y : Int} (h : refB z x y = true) : (0 ≤ z ∧ z ≤ 3) ∧ (0 ≤ x ∧ x ≤ 7) ∧ (0 ≤ y ∧ y ≤ 7) := by
  have h1 := refB_in h
  have h2 := lastI_le z
  refine ⟨?_, ⟨h1.1.1, by omega⟩, h1.2.1, by omega⟩
  rcases refB_zoom h with rfl | rfl | rfl | rfl <;> omega

theorem refFault_any (z x y : Int) (w : World) : Calls Tryz.prog 18 #[.agg #[.int .i64 z, .int .i64 x, .int .i64 y]] w fun e w' => e = .returned (.int .i64 (refC z x y)) ∧ Below w.heap.size w w' := by
  cases h : zoomB z
  · have hk : Hid (refC z x y = 3) := by show _ = _; simp [refC, refB, h]
    go_enter Tryz.func18, Tryz.ntmps18
    go_wp2_with (first | (go_at_call 27; refine (isZoom_any _ _).mono ?_; rintro e w' ⟨rfl, rfl⟩) | (go_at_call 48; refine (isWithin_any _ _ _ _).mono ?_; rintro e w' ⟨rfl, rfl⟩))
    go_ret
    exact ⟨ret_int hk.out.symm, by (repeat (first | exact Below.refl _ _ | assumption | refine Below.drew ?_ | refine bl_alloc ?_ _ | refine bl_then ?_ (by assumption) | refine Below.setCell ?_ (by first | omega | (simp; done) | (simp; omega)) _ | refine bl_store ?_ ?_ _ _))⟩
  · have hk : Hid (refC z x y = if (inB x 0 (lastI z) && inB y 0 (lastI z)) = true then 0 else 3) := by show _ = _; simp [refC, refB, h]
    rcases zoomB_cases h with rfl | rfl | rfl | rfl
    · simp only [show lastI 0 = 0 from rfl] at hk
      cases hx : inB x 0 0 <;> cases hy : inB y 0 0
      all_goals
        rw [hx, hy] at hk
        go_enter Tryz.func18, Tryz.ntmps18
        go_wp2_with (first | (go_at_call 27; refine (isZoom_any _ _).mono ?_; rintro e w' ⟨rfl, rfl⟩) | (go_at_call 48; refine (isWithin_any _ _ _ _).mono ?_; rintro e w' ⟨rfl, rfl⟩))
        all_goals (go_ret; exact ⟨ret_int (by rw [hk.out]; rfl), by (repeat (first | exact Below.refl _ _ | assumption | refine Below.drew ?_ | refine bl_alloc ?_ _ | refine bl_then ?_ (by assumption) | refine Below.setCell ?_ (by first | omega | (simp; done) | (simp; omega)) _ | refine bl_store ?_ ?_ _ _))⟩)
    · simp only [show lastI 1 = 1 from rfl] at hk
      cases hx : inB x 0 1 <;> cases hy : inB y 0 1
      all_goals
        rw [hx, hy] at hk
        go_enter Tryz.func18, Tryz.ntmps18
        go_wp2_with (first | (go_at_call 27; refine (isZoom_any _ _).mono ?_; rintro e w' ⟨rfl, rfl⟩) | (go_at_call 48; refine (isWithin_any _ _ _ _).mono ?_; rintro e w' ⟨rfl, rfl⟩))
        all_goals (go_ret; exact ⟨ret_int (by rw [hk.out]; rfl), by (repeat (first | exact Below.refl _ _ | assumption | refine Below.drew ?_ | refine bl_alloc ?_ _ | refine bl_then ?_ (by assumption) | refine Below.setCell ?_ (by first | omega | (simp; done) | (simp; omega)) _ | refine bl_store ?_ ?_ _ _))⟩)
    · simp only [show lastI 2 = 3 from rfl] at hk
      cases hx : inB x 0 3 <;> cases hy : inB y 0 3
      all_goals
        rw [hx, hy] at hk
        go_enter Tryz.func18, Tryz.ntmps18
        go_wp2_with (first | (go_at_call 27; refine (isZoom_any _ _).mono ?_; rintro e w' ⟨rfl, rfl⟩) | (go_at_call 48; refine (isWithin_any _ _ _ _).mono ?_; rintro e w' ⟨rfl, rfl⟩))
        all_goals (go_ret; exact ⟨ret_int (by rw [hk.out]; rfl), by (repeat (first | exact Below.refl _ _ | assumption | refine Below.drew ?_ | refine bl_alloc ?_ _ | refine bl_then ?_ (by assumption) | refine Below.setCell ?_ (by first | omega | (simp; done) | (simp; omega)) _ | refine bl_store ?_ ?_ _ _))⟩)
    · simp only [show lastI 3 = 7 from rfl] at hk
      cases hx : inB x 0 7 <;> cases hy : inB y 0 7
      all_goals
        rw [hx, hy] at hk
        go_enter Tryz.func18, Tryz.ntmps18
        go_wp2_with (first | (go_at_call 27; refine (isZoom_any _ _).mono ?_; rintro e w' ⟨rfl, rfl⟩) | (go_at_call 48; refine (isWithin_any _ _ _ _).mono ?_; rintro e w' ⟨rfl, rfl⟩))
        all_goals (go_ret; exact ⟨ret_int (by rw [hk.out]; rfl), by (repeat (first | exact Below.refl _ _ | assumption | refine Below.drew ?_ | refine bl_alloc ?_ _ | refine bl_then ?_ (by assumption) | refine Below.setCell ?_ (by first | omega | (simp; done) | (simp; omega)) _ | refine bl_store ?_ ?_ _ _))⟩)
/-- A ref as a value. -/
abbrev refV (z x y : Int) : Value := .agg #[.int .i64 z, .int .i64 x, .int .i64 y]
/-- An answer with a ref. -/
abbrev rrV (c z x y : Int) : Value := .agg #[.int .i64 c, .int .i64 z, .int .i64 x, .int .i64 y]
/-- The answer of ParentOf. -/
def parV (z x y : Int) : Value := if refB z x y = true then (if z = 0 then rrV 4 0 0 0 else rrV 0 (z - 1) (x / 2) (y / 2)) else rrV 3 0 0 0
/-- The answer of RefAt. -/
def atV (z x y : Int) : Value := if pixB z x y = true then rrV 0 z (x / 8) (y / 8) else rrV 3 0 0 0
end Go.Proofs.YtgpdpodagoligaaGreat
/- The parent of a ref, the ref of a pixel: the program and the model, and their laws. -/

namespace Go.Proofs.YtgpdpodagoligaaGreat
open Go.RowKit
set_option linter.unusedSimpArgs false
set_option linter.unusedVariables false
set_option maxRecDepth 100000

theorem there4r (V : World) (a b c d : Value) (t : TypeId) : There (V.alloc (.cells #[a, b, c, d] t)) V.heap.size 4 := fun o ho => by
  have : o = 0 ∨ o = 1 ∨ o = 2 ∨ o = 3 := by omega
  rcases this with rfl | rfl | rfl | rfl <;> exact ⟨⟨_, by simp [go_sem]; rfl⟩, by simp [go_sem]⟩
theorem there3r (V : World) (a b c : Value) (t : TypeId) : There (V.alloc (.cells #[a, b, c] t)) V.heap.size 3 := fun o ho => by
  have : o = 0 ∨ o = 1 ∨ o = 2 := by omega
  rcases this with rfl | rfl | rfl <;> exact ⟨⟨_, by simp [go_sem]; rfl⟩, by simp [go_sem]⟩

set_option maxHeartbeats 4000000 in
theorem impl_RefAt_any (z x y : Int) (w : World) : Calls Tryz.prog 8 #[.int .i64 z, .int .i64 x, .int .i64 y] w fun e w' => e = .returned (atV z x y) ∧ Below w.heap.size w w' := by
  go_enter Tryz.func8, Tryz.ntmps8
  go_wp2_with fail
  generalize hW : (w.alloc _ : World) = W
  have HB0 : Hid (Below w.heap.size w W) := by show Below _ _ _; subst hW; (repeat (first | exact Below.refl _ _ | assumption | refine Below.drew ?_ | refine bl_alloc ?_ _ | refine bl_then ?_ (by assumption) | refine Below.setCell ?_ (by first | omega | (simp; done) | (simp; omega)) _ | refine bl_store ?_ ?_ _ _))
  have HT : Hid (There W w.heap.size 4) := by
    show There _ _ _
    subst hW
    exact there4r w (.int .i64 0) (.int .i64 0) (.int .i64 0) (.int .i64 0) 37
  have hsz : w.heap.size < W.heap.size := by subst hW; simp
  clear hW
  refine (isPixel_any _ _ _ _).mono ?_
  rintro e w1 ⟨rfl, hb1⟩
  have hT' := HT.out.below hb1
  have HT1 : Hid (There w1 w.heap.size 4) := hT'
  have t0 := hT'.cell 0 (by omega)
  have t1 := hT'.cell 1 (by omega)
  have t2 := hT'.cell 2 (by omega)
  have t3 := hT'.cell 3 (by omega)
  have f0 := (hT' 0 (by omega)).2
  have f1 := (hT' 1 (by omega)).2
  have f2 := (hT' 2 (by omega)).2
  have f3 := (hT' 3 (by omega)).2
  have HB1 : Hid (Below w.heap.size w w1) := bl_then HB0.out hb1
  have hsz1 : w.heap.size < w1.heap.size := Nat.lt_of_lt_of_le hsz hb1.size
  clear hb1 HT HB0 hT' hsz
  cases h : pixB z x y
  · have hq : Hid (atV z x y = rrV 3 0 0 0) := by show _ = _; simp [atV, h]
    go_wp2_with fail
    obtain ⟨q0, q1, q2, q3⟩ := set4_at (a := .int .i64 3) (b := .int .i64 0) (c := .int .i64 0) (d := .int .i64 0) HT1.out
    refine bodyPost_ret (v := rrV 3 0 0 0) (by simp [results, Tryz.results8, go_sem, q0, q1, q2, q3]) rfl ⟨by rw [hq.out], ?_⟩
    have HB := HB1.out
    (repeat (first | exact Below.refl _ _ | assumption | refine Below.drew ?_ | refine bl_alloc ?_ _ | refine bl_then ?_ (by assumption) | refine Below.setCell ?_ (by first | omega | (simp; done) | (simp; omega)) _ | refine bl_store ?_ ?_ _ _))
  · have hq : Hid (atV z x y = rrV 0 z (x / 8) (y / 8)) := by show _ = _; simp [atV, h]
    obtain ⟨⟨x0, x1⟩, y0, y1⟩ := pixB_in h
    have hp := (pixI_bd (pixB_zoom h)).2
    clear h
    generalize pixI z = u at *
    have dx : x.tdiv 8 = x / 8 := Int.tdiv_eq_ediv_of_nonneg x0
    have dy : y.tdiv 8 = y / 8 := Int.tdiv_eq_ediv_of_nonneg y0
    go_wp2_with fail
    obtain ⟨q0, q1, q2, q3⟩ := set4_at (a := .int .i64 0) (b := .int .i64 z) (c := .int .i64 (x / 8)) (d := .int .i64 (y / 8)) HT1.out
    refine bodyPost_ret (v := rrV 0 z (x / 8) (y / 8)) (by simp [results, Tryz.results8, go_sem, q0, q1, q2, q3]) rfl ⟨by rw [hq.out], ?_⟩
    have HB := HB1.out
    (repeat (first | exact Below.refl _ _ | assumption | refine Below.drew ?_ | refine bl_alloc ?_ _ | refine bl_then ?_ (by assumption) | refine Below.setCell ?_ (by first | omega | (simp; done) | (simp; omega)) _ | refine bl_store ?_ ?_ _ _))
end Go.Proofs.YtgpdpodagoligaaGreat
/- The centre of a pixel: the program and the model. -/

namespace Go.Proofs.YtgpdpodagoligaaGreat
open Go.RowKit
set_option linter.unusedSimpArgs false
set_option linter.unusedVariables false
set_option maxRecDepth 100000

theorem impl_CentreOf_any (z x y : Int) (w : World) : Calls Tryz.prog 80 #[.int .i64 z, .int .i64 x, .int .i64 y] w fun e w' => e = .returned (centV z x y) ∧ Below w.heap.size w w' := by
  go_enter Tryz.func80, Tryz.ntmps80
  go_wp2_with fail
  generalize hW : (w.alloc _ : World) = W
  have HB0 : Hid (Below w.heap.size w W) := by show Below _ _ _; subst hW; (repeat (first | exact Below.refl _ _ | assumption | refine Below.drew ?_ | refine bl_alloc ?_ _ | refine bl_then ?_ (by assumption) | refine Below.setCell ?_ (by first | omega | (simp; done) | (simp; omega)) _ | refine bl_store ?_ ?_ _ _))
  have HT : Hid (There W w.heap.size 3) := by
    show There _ _ _
    subst hW
    exact there3 w (.int .i64 0) (.int .i64 0) (.int .i64 0) 32
  have hsz : w.heap.size < W.heap.size := by subst hW; simp
  clear hW
  refine (isPixel_any _ _ _ _).mono ?_
  rintro e w1 ⟨rfl, hb1⟩
  have HT1 : Hid (There w1 w.heap.size 3) := HT.out.below hb1
  have HB1 : Hid (Below w.heap.size w w1) := bl_then HB0.out hb1
  have hsz1 : w.heap.size < w1.heap.size := Nat.lt_of_lt_of_le hsz hb1.size
  clear hb1 HT HB0
  cases h : pixB z x y
  · have hT' := HT1.out
    have t0 := hT'.cell 0 (by omega)
    have t1 := hT'.cell 1 (by omega)
    have t2 := hT'.cell 2 (by omega)
    have f0 := (hT' 0 (by omega)).2
    have f1 := (hT' 1 (by omega)).2
    have f2 := (hT' 2 (by omega)).2
    clear hT'
    go_wp2_with fail
    obtain ⟨q0, q1, q2⟩ := set3_at (a := .int .i64 3) (b := .int .i64 0) (c := .int .i64 0) HT1.out
    refine bodyPost_ret (v := .agg #[.int .i64 3, .int .i64 0, .int .i64 0]) (by simp [results, Tryz.results80, go_sem, q0, q1, q2]) rfl ⟨by simp [centV, h], ?_⟩
    have HB := HB1.out
    (repeat (first | exact Below.refl _ _ | assumption | refine Below.drew ?_ | refine bl_alloc ?_ _ | refine bl_then ?_ (by assumption) | refine Below.setCell ?_ (by first | omega | (simp; done) | (simp; omega)) _ | refine bl_store ?_ ?_ _ _))
  · have hz := pixB_zoom h
    have hb := pixB_in h
    have s1 := fun w => impl_UnitAt_any z w
    have hv : unitV z = .agg #[.int .i64 0, .int .i64 (unitI z)] := by simp [unitV, hz]
    simp only [hv] at s1
    have i1 : ∀ u w, (Instr.field 88 (.agg #[.int .i64 0, .int .i64 u]) 1).run Tryz.prog w = .ok (.int .i64 u) w := fun _ _ => by kernel_rfl
    have hc : Hid (centV z x y = .agg #[.int .i64 0, .int .i64 (centI z x), .int .i64 (centI z y)]) := by show _ = _; simp [centV, h]
    have hcx : centI z x = (2 * x + 1) * unitI z := rfl
    have hcy : centI z y = (2 * y + 1) * unitI z := rfl
    have hbd : unitI z = 128 ∨ unitI z = 64 ∨ unitI z = 32 ∨ unitI z = 16 := by rcases zoomB_cases hz with rfl | rfl | rfl | rfl <;> simp [unitI]
    have hpb := (pixI_bd hz).2
    go_wp2_with fail
    refine (s1 _).mono ?_
    rintro e w2 ⟨rfl, hb2⟩
    generalize unitI z = u at *
    generalize pixI z = m at *
    have hT' := HT1.out.below hb2
    have HT2 : Hid (There w2 w.heap.size 3) := hT'
    have t0 := hT'.cell 0 (by omega)
    have t1 := hT'.cell 1 (by omega)
    have t2 := hT'.cell 2 (by omega)
    have f0 := (hT' 0 (by omega)).2
    have f1 := (hT' 1 (by omega)).2
    have f2 := (hT' 2 (by omega)).2
    have HB2 : Hid (Below w.heap.size w w2) := bl_then HB1.out hb2
    have hsz2 : w.heap.size < w2.heap.size := Nat.lt_of_lt_of_le hsz1 hb2.size
    clear hT' hb2
    rcases hbd with rfl | rfl | rfl | rfl
    all_goals
      go_wp2_with fail
      obtain ⟨q0, q1, q2⟩ := set3_at (a := .int .i64 0) (b := .int .i64 (centI z x)) (c := .int .i64 (centI z y)) HT2.out
      rw [hcx, hcy] at q0 q1 q2
      refine bodyPost_ret (v := .agg #[.int .i64 0, .int .i64 (centI z x), .int .i64 (centI z y)]) (by simp [results, Tryz.results80, go_sem, q0, q1, q2, hcx, hcy]) rfl ⟨by rw [hc.out], ?_⟩
      have HB := HB2.out
      (repeat (first | exact Below.refl _ _ | assumption | refine Below.drew ?_ | refine bl_alloc ?_ _ | refine bl_then ?_ (by assumption) | refine Below.setCell ?_ (by first | omega | (simp; done) | (simp; omega)) _ | refine bl_store ?_ ?_ _ _))
end Go.Proofs.YtgpdpodagoligaaGreat
