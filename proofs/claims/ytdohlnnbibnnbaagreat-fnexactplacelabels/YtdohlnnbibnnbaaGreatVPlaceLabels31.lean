/- Several texts in one. -/
import Derived.Test.YtdohlnnbibnnbaaGreatVPlaceLabels30
import Derived.Test.YtdohlnnbibnnbaaGreatVPlaceLabels21

/- What a feature without a fault becomes: how many points, and where. -/

namespace Go.Proofs.YtdohlnnbibnnbaaGreat
open Go.RowKit
set_option linter.unusedSimpArgs false
set_option linter.unusedVariables false

theorem inW_zero : inW 0 0 = true := by decide
/-- All points of a list lie in the world. -/
def allW (l : List (Int × Int)) : Prop := ∀ p ∈ l, inW p.1 p.2 = true
theorem allW.at {l : List (Int × Int)} (h : allW l) (i : Nat) : inW (px l i) (py l i) = true := by
  by_cases hi : i < l.length
  · have e1 : px l i = (l[i]).1 := by simp [px, List.getD_eq_getElem?_getD, List.getElem?_eq_getElem hi]
    have e2 : py l i = (l[i]).2 := by simp [py, List.getD_eq_getElem?_getD, List.getElem?_eq_getElem hi]
    rw [e1, e2]
    exact h _ (List.getElem_mem hi)
  · have e1 : px l i = 0 := by simp [px, List.getD_eq_getElem?_getD, List.getElem?_eq_none (Nat.le_of_not_lt hi)]
    have e2 : py l i = 0 := by simp [py, List.getD_eq_getElem?_getD, List.getElem?_eq_none (Nat.le_of_not_lt hi)]
    rw [e1, e2]
    exact inW_zero
theorem allW_fill {k : Nat} {l : List (Int × Int)} (h : allW l) : allW (fillL k l) := fun p hp => by
  unfold fillL at hp
  rcases List.mem_append.1 hp with hp | hp
  · exact h p hp
  · obtain ⟨_, rfl⟩ := List.mem_replicate.1 hp
    cases hl : l.getLast? with
    | none => rw [List.getLastD_eq_getLast?, hl]; exact inW_zero
    | some q => rw [List.getLastD_eq_getLast?, hl]; exact h q (List.mem_of_getLast? hl)
theorem allW_simpT (ki z : Int) (n : Nat) (X Y : Nat → Int) (L : List Nat) (hz : zoomB z = true) (hin : ∀ i, i < n → inW (X i) (Y i) = true) : allW (simpT ki z n X Y L) := by
  have hs : allW (snapL X Y z n) := snapL_in X Y z hz n hin
  unfold simpT
  split
  · intro p hp
    unfold ptsOf at hp
    obtain ⟨i, _, rfl⟩ := List.mem_map.1 hp
    exact hs.at i
  · split
    · unfold openL
      split
      · exact fun p hp => hs p (List.dropLast_subset _ hp)
      · exact hs
    · exact hs
/-- What a feature without a fault becomes. -/
theorem simpR_facts {id la ki wi z : Int} {n : Nat} {X Y : Nat → Int} {lab : ByteArray} {pr : Int} {L : List Nat} (hfc : featC id la ki wi n X Y lab pr = 0) (hz : zoomB z = true)
    (hL : 3 ≤ (snapL X Y z n).length → Thin (px (snapL X Y z n)) (py (snapL X Y z n)) (gridI z) 0 ((snapL X Y z n).length - 1) L) :
    kindN ki (simpR 0 ki z n X Y L).length ∧ (simpR 0 ki z n X Y L).length ≤ 12 ∧ allW (simpR 0 ki z n X Y L) := by
  obtain ⟨hk, h0, h12, hkn, hin, _⟩ := featC_zero hfc
  have hT := simpT_len ki z n X Y L h0 h12 hL
  have hl : (simpR 0 ki z n X Y L).length = (simpT ki z n X Y L).length + (ki.toNat - (simpT ki z n X Y L).length) := by
    rw [simpR, if_pos rfl, fillL, List.length_append, List.length_replicate]
  refine ⟨?_, by omega, by rw [simpR, if_pos rfl]; exact allW_fill (allW_simpT ki z n X Y L hz hin)⟩
  rcases hk with rfl | rfl | rfl
  · left
    have hn1 := featC_point hfc
    subst hn1
    have h1 := snapL_len X Y z 1
    have e : simpT 1 z 1 X Y L = snapL X Y z 1 := by simp [simpT]
    rw [e] at hl hT
    refine ⟨rfl, ?_⟩
    have : (1 : Int).toNat = 1 := rfl
    omega
  · right; left
    have : (2 : Int).toNat = 2 := rfl
    exact ⟨rfl, by omega⟩
  · right; right
    have : (3 : Int).toNat = 3 := rfl
    exact ⟨rfl, by omega⟩
end Go.Proofs.YtdohlnnbibnnbaaGreat
/- How many pixels the world has on a side, and their centres. -/

namespace Go.Proofs.YtdohlnnbibnnbaaGreat
open Go.RowKit
set_option linter.unusedSimpArgs false
set_option linter.unusedVariables false
set_option maxRecDepth 100000

/-- How many pixels the world has on a side. -/
def pixI (z : Int) : Int := if z = 0 then 8 else if z = 1 then 16 else if z = 2 then 32 else 64
/-- The answer of PixelCount. -/
def pixV (z : Int) : Value := if zoomB z = true then .agg #[.int .i64 0, .int .i64 (pixI z)] else .agg #[.int .i64 3, .int .i64 0]
/-- A pixel. -/
def pixB (z x y : Int) : Bool := zoomB z && (inB x 0 (pixI z - 1) && inB y 0 (pixI z - 1))
theorem pixB_zoom {z x y : Int} (h : pixB z x y = true) : zoomB z = true := by
  simp [pixB] at h
  exact h.1
theorem pixB_in {z x y : Int} (h : pixB z x y = true) : (0 ≤ x ∧ x ≤ pixI z - 1) ∧ (0 ≤ y ∧ y ≤ pixI z - 1) := by
  simp [pixB, inB] at h
  exact h.2
theorem pixI_bd {z : Int} (h : zoomB z = true) : 8 ≤ pixI z ∧ pixI z ≤ 64 := by
  rcases zoomB_cases h with rfl | rfl | rfl | rfl <;> decide
theorem impl_PixelCount_any (z : Int) (w : World) : Calls Tryz.prog 93 #[.int .i64 z] w fun e w' => e = .returned (pixV z) ∧ Below w.heap.size w w' := by
  cases h : zoomB z
  · go_enter Tryz.func93, Tryz.ntmps93
    go_wp2_with (go_at_call 59; refine (isZoom_any _ _).mono ?_; rintro e w' ⟨rfl, rfl⟩)
    exact bodyPost_ret (v := .agg #[.int .i64 3, .int .i64 0]) (by simp [results, Tryz.results93, go_sem]) rfl ⟨by simp [pixV, h], by (repeat (first | exact Below.refl _ _ | assumption | refine Below.drew ?_ | refine bl_alloc ?_ _ | refine bl_then ?_ (by assumption) | refine Below.setCell ?_ (by first | omega | (simp; done) | (simp; omega)) _ | refine bl_store ?_ ?_ _ _))⟩
  · rcases zoomB_cases h with rfl | rfl | rfl | rfl
    all_goals
      go_enter Tryz.func93, Tryz.ntmps93
      go_wp2_with (go_at_call 59; refine (isZoom_any _ _).mono ?_; rintro e w' ⟨rfl, rfl⟩)
      first
        | exact bodyPost_ret (v := .agg #[.int .i64 0, .int .i64 8]) (by simp [results, Tryz.results93, go_sem]; done) rfl ⟨rfl, by (repeat (first | exact Below.refl _ _ | assumption | refine Below.drew ?_ | refine bl_alloc ?_ _ | refine bl_then ?_ (by assumption) | refine Below.setCell ?_ (by first | omega | (simp; done) | (simp; omega)) _ | refine bl_store ?_ ?_ _ _))⟩
        | exact bodyPost_ret (v := .agg #[.int .i64 0, .int .i64 16]) (by simp [results, Tryz.results93, go_sem]; done) rfl ⟨rfl, by (repeat (first | exact Below.refl _ _ | assumption | refine Below.drew ?_ | refine bl_alloc ?_ _ | refine bl_then ?_ (by assumption) | refine Below.setCell ?_ (by first | omega | (simp; done) | (simp; omega)) _ | refine bl_store ?_ ?_ _ _))⟩
        | exact bodyPost_ret (v := .agg #[.int .i64 0, .int .i64 32]) (by simp [results, Tryz.results93, go_sem]; done) rfl ⟨rfl, by (repeat (first | exact Below.refl _ _ | assumption | refine Below.drew ?_ | refine bl_alloc ?_ _ | refine bl_then ?_ (by assumption) | refine Below.setCell ?_ (by first | omega | (simp; done) | (simp; omega)) _ | refine bl_store ?_ ?_ _ _))⟩
        | exact bodyPost_ret (v := .agg #[.int .i64 0, .int .i64 64]) (by simp [results, Tryz.results93, go_sem]; done) rfl ⟨rfl, by (repeat (first | exact Below.refl _ _ | assumption | refine Below.drew ?_ | refine bl_alloc ?_ _ | refine bl_then ?_ (by assumption) | refine Below.setCell ?_ (by first | omega | (simp; done) | (simp; omega)) _ | refine bl_store ?_ ?_ _ _))⟩
theorem l4Count_any (z : Int) (w : World) (h : zoomB z = true) : Calls Tryz.prog 74 #[.int .i64 z] w fun e w' => e = .returned (.int .i64 (pixI z)) ∧ w = w' := by
  rcases zoomB_cases h with rfl | rfl | rfl | rfl
  all_goals
    go_enter Tryz.func74, Tryz.ntmps74
    go_wp2
    go_ret
    exact ⟨rfl, rfl⟩
theorem isPixel_any (z x y : Int) (w : World) : Calls Tryz.prog 53 #[.int .i64 z, .int .i64 x, .int .i64 y] w fun e w' => e = .returned (.bool (pixB z x y)) ∧ Below w.heap.size w w' := by
  have s1 := fun w => impl_PixelCount_any z w
  cases h : zoomB z
  · have hv : pixV z = .agg #[.int .i64 3, .int .i64 0] := by simp [pixV, h]
    simp only [hv] at s1
    have i1 : ∀ w, (Instr.field 45 (.agg #[.int .i64 3, .int .i64 0]) 1).run Tryz.prog w = .ok (.int .i64 0) w := fun _ => by kernel_rfl
    have hx : inB x 0 (-1) = false := by simp [inB]; omega
    have hp : Hid (pixB z x y = false) := by show _ = _; simp [pixB, h]
    go_enter Tryz.func53, Tryz.ntmps53
    go_wp2_with (first
      | (go_at_call 93; refine (s1 _).mono ?_; rintro e w1 ⟨rfl, hb1⟩)
      | (go_at_call 92; refine (isWithin_any _ _ _ _).mono ?_; rintro e w' ⟨rfl, rfl⟩))
    all_goals (go_ret; exact ⟨ret_bool (by rw [hp.out]), by (repeat (first | exact Below.refl _ _ | assumption | refine Below.drew ?_ | refine bl_alloc ?_ _ | refine bl_then ?_ (by assumption) | refine Below.setCell ?_ (by first | omega | (simp; done) | (simp; omega)) _ | refine bl_store ?_ ?_ _ _))⟩)
  · have hv : pixV z = .agg #[.int .i64 0, .int .i64 (pixI z)] := by simp [pixV, h]
    simp only [hv] at s1
    have hp : Hid (pixB z x y = (inB x 0 (pixI z - 1) && inB y 0 (pixI z - 1))) := by show _ = _; simp [pixB, h]
    obtain ⟨b1, b2⟩ := pixI_bd h
    generalize pixI z = u at *
    have i1 : ∀ w, (Instr.field 45 (.agg #[.int .i64 0, .int .i64 u]) 1).run Tryz.prog w = .ok (.int .i64 u) w := fun _ => by kernel_rfl
    cases hx : inB x 0 (u - 1) <;> cases hy : inB y 0 (u - 1)
    all_goals
      go_enter Tryz.func53, Tryz.ntmps53
      go_wp2_with (first
        | (go_at_call 93; refine (s1 _).mono ?_; rintro e w1 ⟨rfl, hb1⟩)
        | (go_at_call 92; refine (isWithin_any _ _ _ _).mono ?_; rintro e w' ⟨rfl, rfl⟩))
      all_goals (go_ret; exact ⟨ret_bool (by rw [hp.out, hx, hy]; rfl), by (repeat (first | exact Below.refl _ _ | assumption | refine Below.drew ?_ | refine bl_alloc ?_ _ | refine bl_then ?_ (by assumption) | refine Below.setCell ?_ (by first | omega | (simp; done) | (simp; omega)) _ | refine bl_store ?_ ?_ _ _))⟩)
end Go.Proofs.YtdohlnnbibnnbaaGreat
