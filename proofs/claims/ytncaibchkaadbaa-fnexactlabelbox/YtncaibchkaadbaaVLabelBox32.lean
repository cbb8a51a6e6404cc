/- Several texts in one. -/
import Derived.Test.YtncaibchkaadbaaVLabelBox31
import Derived.Test.YtncaibchkaadbaaVLabelBox13
import Derived.Test.YtncaibchkaadbaaVLabelBox14

/- What a feature without a fault becomes: how many points, and where. -/

namespace Go.Proofs.Ytncaibchkaadbaa
open Go.RowKit
set_option linter.unusedSimpArgs false
set_option linter.unusedVariables false

/-- What else a feature without a fault has. -/
theorem featC_rng {id la ki wi : Int} {n : Nat} {X Y : Nat → Int} {lab : ByteArray} {pr : Int} (h : featC id la ki wi n X Y lab pr = 0) :
    (1 ≤ id ∧ id ≤ 999) ∧ (0 ≤ la ∧ la ≤ 9) ∧ (0 ≤ wi ∧ wi ≤ 3) ∧ (0 ≤ pr ∧ pr ≤ 9) := by
  unfold featC at h
  split at h
  · rename_i h1
    simp [rngB, inB] at h1
    omega
  · cases h
/-- How many points a kind has. -/
def kindN (ki : Int) (n : Nat) : Prop := (ki = 1 ∧ n = 1) ∨ (ki = 2 ∧ 2 ≤ n) ∨ (ki = 3 ∧ 3 ≤ n)
theorem featC_point {id la wi : Int} {n : Nat} {X Y : Nat → Int} {lab : ByteArray} {pr : Int} (h : featC id la 1 wi n X Y lab pr = 0) : n = 1 := by
  unfold featC at h
  split at h
  · split at h
    · rename_i h2
      simp [sizeB] at h2
      omega
    · cases h
  · cases h
theorem inW_zero : inW 0 0 = true := by decide
/-- All points of a list lie in the world. -/
def allW (l : List (Int × Int)) : Prop := ∀ p ∈ l, inW p.1 p.2 = true
theorem allW.at {l : List (Int × Int)} (h : allW l) (i : Nat) : inW (px l i) (py l i) = true := by
  by_cases hi : i < l.length
  · have e1 : px l i = (l[i]).1 := by simp [px, List.getD_eq_getElem?_getD, List.getElem?_eq_getElem hi]
    have e2 : py l i = (l[i]).2 := by simp [py, List.getD_eq_getElem?_getD, List.getElem?_eq_getElem hi]
    rw [e1, e2]
    exact h _ (List.getElem_mem hi)
  · have e1 : px l i = 0 := by simp [px, List.getD_eq_getElem?_getD, List.getElem?_eq_none (Nat.le_of_not_lt hi)]
    have e2 : py l i = 0 := by simp [py, List.getD_eq_getElem?_getD, List.getElem?_eq_none (Nat.le_of_not_lt hi)]
    rw [e1, e2]
    exact inW_zero
theorem allW_fill {k : Nat} {l : List (Int × Int)} (h : allW l) : allW (fillL k l) := fun p hp => by
  unfold fillL at hp
  rcases List.mem_append.1 hp with hp | hp
  · exact h p hp
  · obtain ⟨_, rfl⟩ := List.mem_replicate.1 hp
    cases hl : l.getLast? with
    | none => rw [List.getLastD_eq_getLast?, hl]; exact inW_zero
    | some q => rw [List.getLastD_eq_getLast?, hl]; exact h q (List.mem_of_getLast? hl)
theorem allW_simpT (ki z : Int) (n : Nat) (X Y : Nat → Int) (L : List Nat) (hz : zoomB z = true) (hin : ∀ i, i < n → inW (X i) (Y i) = true) : allW (simpT ki z n X Y L) := by
  have hs : allW (snapL X Y z n) := snapL_in X Y z hz n hin
  unfold simpT
  split
  · intro p hp
    unfold ptsOf at hp
    obtain ⟨i, _, rfl⟩ := List.mem_map.1 hp
    exact hs.at i
  · split
    · unfold openL
      split
      · exact fun p hp => hs p (List.dropLast_subset _ hp)
      · exact hs
    · exact hs
/-- What a feature without a fault becomes. -/
theorem simpR_facts {id la ki wi z : Int} {n : Nat} {X Y : Nat → Int} {lab : ByteArray} {pr : Int} {L : List Nat} (hfc : featC id la ki wi n X Y lab pr = 0) (hz : zoomB z = true)
    (hL : 3 ≤ (snapL X Y z n).length → Thin (px (snapL X Y z n)) (py (snapL X Y z n)) (gridI z) 0 ((snapL X Y z n).length - 1) L) :
    kindN ki (simpR 0 ki z n X Y L).length ∧ (simpR 0 ki z n X Y L).length ≤ 12 ∧ allW (simpR 0 ki z n X Y L) := by
  obtain ⟨hk, h0, h12, hkn, hin, _⟩ := featC_zero hfc
  have hT := simpT_len ki z n X Y L h0 h12 hL
  have hl : (simpR 0 ki z n X Y L).length = (simpT ki z n X Y L).length + (ki.toNat - (simpT ki z n X Y L).length) := by
    rw [simpR, if_pos rfl, fillL, List.length_append, List.length_replicate]
  refine ⟨?_, by omega, by rw [simpR, if_pos rfl]; exact allW_fill (allW_simpT ki z n X Y L hz hin)⟩
  rcases hk with rfl | rfl | rfl
  · left
    have hn1 := featC_point hfc
    subst hn1
    have h1 := snapL_len X Y z 1
    have e : simpT 1 z 1 X Y L = snapL X Y z 1 := by simp [simpT]
    rw [e] at hl hT
    refine ⟨rfl, ?_⟩
    have : (1 : Int).toNat = 1 := rfl
    omega
  · right; left
    have : (2 : Int).toNat = 2 := rfl
    exact ⟨rfl, by omega⟩
  · right; right
    have : (3 : Int).toNat = 3 := rfl
    exact ⟨rfl, by omega⟩
theorem simpT_le (ki z : Int) (n : Nat) (X Y : Nat → Int) (L : List Nat) (hL : 3 ≤ (snapL X Y z n).length → Thin (px (snapL X Y z n)) (py (snapL X Y z n)) (gridI z) 0 ((snapL X Y z n).length - 1) L) : (simpT ki z n X Y L).length ≤ n := by
  have h1 := snapL_len X Y z n
  unfold simpT
  split
  · unfold ptsOf thinP
    rw [List.length_map]
    split
    · simp; omega
    · have := ((hL (by omega)).len _ _ (by omega)).1
      simp
      omega
  · split
    · unfold openL
      split
      · rw [List.length_dropLast]; omega
      · omega
    · omega
end Go.Proofs.Ytncaibchkaadbaa
/- How many pixels the world has on a side, and their centres. -/

namespace Go.Proofs.Ytncaibchkaadbaa
open Go.RowKit
set_option linter.unusedSimpArgs false
set_option linter.unusedVariables false
set_option maxRecDepth 100000

/-- How many pixels the world has on a side. -/
def pixI (z : Int) : Int := if z = 0 then 8 else if z = 1 then 16 else if z = 2 then 32 else 64
/-- The answer of PixelCount. -/
def pixV (z : Int) : Value := if zoomB z = true then .agg #[.int .i64 0, .int .i64 (pixI z)] else .agg #[.int .i64 3, .int .i64 0]
/-- A pixel. -/
def pixB (z x y : Int) : Bool := zoomB z && (inB x 0 (pixI z - 1) && inB y 0 (pixI z - 1))
/-- The centre of a pixel, doubled. -/
def centI (z x : Int) : Int := (2 * x + 1) * unitI z
/-- The answer of CentreOf. -/
def centV (z x y : Int) : Value := if pixB z x y = true then .agg #[.int .i64 0, .int .i64 (centI z x), .int .i64 (centI z y)] else .agg #[.int .i64 3, .int .i64 0, .int .i64 0]
theorem pixB_zoom {z x y : Int} (h : pixB z x y = true) : zoomB z = true := by
  simp [pixB] at h
  exact h.1
theorem pixB_in {z x y : Int} (h : pixB z x y = true) : (0 ≤ x ∧ x ≤ pixI z - 1) ∧ (0 ≤ y ∧ y ≤ pixI z - 1) := by
  simp [pixB, inB] at h
  exact h.2
theorem pixI_bd {z : Int} (h : zoomB z = true) : 8 ≤ pixI z ∧ pixI z ≤ 64 := by
  rcases zoomB_cases h with rfl | rfl | rfl | rfl <;> decide
theorem cent_ok {z x y : Int} (h : pixB z x y = true) : okP (centI z x) (centI z y) = true := by
  have hz := pixB_zoom h
  have hb := pixB_in h
  rw [okP_iff]
  unfold centI
  rcases zoomB_cases hz with rfl | rfl | rfl | rfl
  all_goals
    simp only [show unitI 0 = 128 from rfl, show unitI 1 = 64 from rfl, show unitI 2 = 32 from rfl, show unitI 3 = 16 from rfl, show pixI 0 = 8 from rfl, show pixI 1 = 16 from rfl, show pixI 2 = 32 from rfl, show pixI 3 = 64 from rfl] at *
    omega

theorem impl_PixelCount_any (z : Int) (w : World) : Calls Try.prog 53 #[.int .i64 z] w fun e w' => e = .returned (pixV z) ∧ Below w.heap.size w w' := by
  cases h : zoomB z
  · go_enter Try.func53, Try.ntmps53
    go_wp2_with (go_at_call 42; refine (isZoom_any _ _).mono ?_; rintro e w' ⟨rfl, rfl⟩)
    exact bodyPost_ret (v := .agg #[.int .i64 3, .int .i64 0]) (by simp [results, Try.results53, go_sem]) rfl ⟨by simp [pixV, h], by (repeat (first | exact Below.refl _ _ | assumption | refine Below.drew ?_ | refine bl_alloc ?_ _ | refine bl_then ?_ (by assumption) | refine Below.setCell ?_ (by first | omega | (simp; done) | (simp; omega)) _ | refine bl_store ?_ ?_ _ _))⟩
  · rcases zoomB_cases h with rfl | rfl | rfl | rfl
    all_goals
      go_enter Try.func53, Try.ntmps53
      go_wp2_with (go_at_call 42; refine (isZoom_any _ _).mono ?_; rintro e w' ⟨rfl, rfl⟩)
      first
        | exact bodyPost_ret (v := .agg #[.int .i64 0, .int .i64 8]) (by simp [results, Try.results53, go_sem]; done) rfl ⟨rfl, by (repeat (first | exact Below.refl _ _ | assumption | refine Below.drew ?_ | refine bl_alloc ?_ _ | refine bl_then ?_ (by assumption) | refine Below.setCell ?_ (by first | omega | (simp; done) | (simp; omega)) _ | refine bl_store ?_ ?_ _ _))⟩
        | exact bodyPost_ret (v := .agg #[.int .i64 0, .int .i64 16]) (by simp [results, Try.results53, go_sem]; done) rfl ⟨rfl, by (repeat (first | exact Below.refl _ _ | assumption | refine Below.drew ?_ | refine bl_alloc ?_ _ | refine bl_then ?_ (by assumption) | refine Below.setCell ?_ (by first | omega | (simp; done) | (simp; omega)) _ | refine bl_store ?_ ?_ _ _))⟩
        | exact bodyPost_ret (v := .agg #[.int .i64 0, .int .i64 32]) (by simp [results, Try.results53, go_sem]; done) rfl ⟨rfl, by (repeat (first | exact Below.refl _ _ | assumption | refine Below.drew ?_ | refine bl_alloc ?_ _ | refine bl_then ?_ (by assumption) | refine Below.setCell ?_ (by first | omega | (simp; done) | (simp; omega)) _ | refine bl_store ?_ ?_ _ _))⟩
        | exact bodyPost_ret (v := .agg #[.int .i64 0, .int .i64 64]) (by simp [results, Try.results53, go_sem]; done) rfl ⟨rfl, by (repeat (first | exact Below.refl _ _ | assumption | refine Below.drew ?_ | refine bl_alloc ?_ _ | refine bl_then ?_ (by assumption) | refine Below.setCell ?_ (by first | omega | (simp; done) | (simp; omega)) _ | refine bl_store ?_ ?_ _ _))⟩
theorem l4Count_any (z : Int) (w : World) (h : zoomB z = true) : Calls Try.prog 39 #[.int .i64 z] w fun e w' => e = .returned (.int .i64 (pixI z)) ∧ w = w' := by
  rcases zoomB_cases h with rfl | rfl | rfl | rfl
  all_goals
    go_enter Try.func39, Try.ntmps39
    go_wp2
    go_ret
    exact ⟨rfl, rfl⟩
end Go.Proofs.Ytncaibchkaadbaa
