/- Several texts in one. -/
import Derived.Test.YthidgolnajggpaaGreatVNearestIn19
import Derived.Test.YthidgolnajggpaaGreatVNearestIn7
import Derived.Test.YthidgolnajggpaaGreatRows
import Derived.Test.YthidgolnajggpaaGreatVNearestIn1
import Derived.Test.YthidgolnajggpaaGreatVNearestIn2
import Derived.WalkKit
import Derived.WalkSpells
import Derived.WalkLawsBesides
import Derived.Outline
import Derived.Deep.RegionHeld3
import Derived.Deep.OwnRows
import Derived.Deep.LoopGhost
import Derived.Laws.OwnMore

/- Refs: what is wrong of one, its parent, the one of a pixel: the program and the model. -/

namespace Go.Proofs.YthidgolnajggpaaGreat
open Go.RowKit
set_option linter.unusedSimpArgs false
set_option linter.unusedVariables false
set_option maxRecDepth 100000

/-- The greatest X and Y of a ref. -/
def lastI (z : Int) : Int := if z = 0 then 0 else if z = 1 then 1 else if z = 2 then 3 else 7
/-- A ref without a fault. -/
def refB (z x y : Int) : Bool := zoomB z && (inB x 0 (lastI z) && inB y 0 (lastI z))
def refC (z x y : Int) : Int := if refB z x y = true then 0 else 3
theorem refC_cases (z x y : Int) : (refC z x y = 0 ∧ refB z x y = true) ∨ (refC z x y = 3 ∧ refB z x y = false) := by
  unfold refC
  cases h : refB z x y <;> simp
theorem refB_zoom {z x y : Int} (h : refB z x y = true) : z = 0 ∨ z = 1 ∨ z = 2 ∨ z = 3 := by
  simp [refB] at h
  exact zoomB_cases h.1
theorem refB_in {z x y : Int} (h : refB z x y = true) : (0 ≤ x ∧ x ≤ lastI z) ∧ (0 ≤ y ∧ y ≤ lastI z) := by
  simp [refB, inB] at h
  exact h.2
theorem lastI_le (z : Int) : lastI z ≤ 7 := by unfold lastI; split; omega; split; omega; split <;> omega
theorem ref_bd {z x y : Int} (h : refB z x y = true) : (0 ≤ z ∧ z ≤ 3) ∧ (0 ≤ x ∧ x ≤ 7) ∧ (0 ≤ y ∧ y ≤ 7) := by
  have h1 := refB_in h
  have h2 := lastI_le z
  refine ⟨?_, ⟨h1.1.1, by omega⟩, h1.2.1, by omega⟩
  rcases refB_zoom h with rfl | rfl | rfl | rfl <;> omega

theorem refFault_any (z x y : Int) (w : World) : Calls Tryz.prog 35 #[.agg #[.int .i64 z, .int .i64 x, .int .i64 y]] w fun e w' => e = .returned (.int .i64 (refC z x y)) ∧ Below w.heap.size w w' := by
  cases h : zoomB z
  · have hk : Hid (refC z x y = 3) := by show _ = _; simp [refC, refB, h]
    go_enter Tryz.func35, Tryz.ntmps35
    go_wp2_with (first | (go_at_call 65; refine (isZoom_any _ _).mono ?_; rintro e w' ⟨rfl, rfl⟩) | (go_at_call 66; refine (isWithin_any _ _ _ _).mono ?_; rintro e w' ⟨rfl, rfl⟩))
    go_ret
    exact ⟨ret_int hk.out.symm, by (repeat (first | exact Below.refl _ _ | assumption | refine Below.drew ?_ | refine bl_alloc ?_ _ | refine bl_then ?_ (by assumption) | refine Below.setCell ?_ (by first | omega | (simp; done) | (simp; omega)) _ | refine bl_store ?_ ?_ _ _))⟩
  · have hk : Hid (refC z x y = if (inB x 0 (lastI z) && inB y 0 (lastI z)) = true then 0 else 3) := by show _ = _; simp [refC, refB, h]
    rcases zoomB_cases h with rfl | rfl | rfl | rfl
    · simp only [show lastI 0 = 0 from rfl] at hk
      cases hx : inB x 0 0 <;> cases hy : inB y 0 0
      all_goals
        rw [hx, hy] at hk
        go_enter Tryz.func35, Tryz.ntmps35
        go_wp2_with (first | (go_at_call 65; refine (isZoom_any _ _).mono ?_; rintro e w' ⟨rfl, rfl⟩) | (go_at_call 66; refine (isWithin_any _ _ _ _).mono ?_; rintro e w' ⟨rfl, rfl⟩))
        all_goals (go_ret; exact ⟨ret_int (by rw [hk.out]; rfl), by (repeat (first | exact Below.refl _ _ | assumption | refine Below.drew ?_ | refine bl_alloc ?_ _ | refine bl_then ?_ (by assumption) | refine Below.setCell ?_ (by first | omega | (simp; done) | (simp; omega)) _ | refine bl_store ?_ ?_ _ _))⟩)
    · simp only [show lastI 1 = 1 from rfl] at hk
      cases hx : inB x 0 1 <;> cases hy : inB y 0 1
      all_goals
        rw [hx, hy] at hk
        go_enter Tryz.func35, Tryz.ntmps35
        go_wp2_with (first | (go_at_call 65; refine (isZoom_any _ _).mono ?_; rintro e w' ⟨rfl, rfl⟩) | (go_at_call 66; refine (isWithin_any _ _ _ _).mono ?_; rintro e w' ⟨rfl, rfl⟩))
        all_goals (go_ret; exact ⟨ret_int (by rw [hk.out]; rfl), by (repeat (first | exact Below.refl _ _ | assumption | refine Below.drew ?_ | refine bl_alloc ?_ _ | refine bl_then ?_ (by assumption) | refine Below.setCell ?_ (by first | omega | (simp; done) | (simp; omega)) _ | refine bl_store ?_ ?_ _ _))⟩)
    · simp only [show lastI 2 = 3 from rfl] at hk
      cases hx : inB x 0 3 <;> cases hy : inB y 0 3
      all_goals
        rw [hx, hy] at hk
        go_enter Tryz.func35, Tryz.ntmps35
        go_wp2_with (first | (go_at_call 65; refine (isZoom_any _ _).mono ?_; rintro e w' ⟨rfl, rfl⟩) | (go_at_call 66; refine (isWithin_any _ _ _ _).mono ?_; rintro e w' ⟨rfl, rfl⟩))
        all_goals (go_ret; exact ⟨ret_int (by rw [hk.out]; rfl), by (repeat (first | exact Below.refl _ _ | assumption | refine Below.drew ?_ | refine bl_alloc ?_ _ | refine bl_then ?_ (by assumption) | refine Below.setCell ?_ (by first | omega | (simp; done) | (simp; omega)) _ | refine bl_store ?_ ?_ _ _))⟩)
    · simp only [show lastI 3 = 7 from rfl] at hk
      cases hx : inB x 0 7 <;> cases hy : inB y 0 7
      all_goals
        rw [hx, hy] at hk
        go_enter Tryz.func35, Tryz.ntmps35
        go_wp2_with (first | (go_at_call 65; refine (isZoom_any _ _).mono ?_; rintro e w' ⟨rfl, rfl⟩) | (go_at_call 66; refine (isWithin_any _ _ _ _).mono ?_; rintro e w' ⟨rfl, rfl⟩))
        all_goals (go_ret; exact ⟨ret_int (by rw [hk.out]; rfl), by (repeat (first | exact Below.refl _ _ | assumption | refine Below.drew ?_ | refine bl_alloc ?_ _ | refine bl_then ?_ (by assumption) | refine Below.setCell ?_ (by first | omega | (simp; done) | (simp; omega)) _ | refine bl_store ?_ ?_ _ _))⟩)
theorem l7Fault_any (z x y : Int) (w : World) : Calls Tryz.prog 30 #[.agg #[.int .i64 z, .int .i64 x, .int .i64 y]] w fun e w' => e = .returned (.int .i64 (refC z x y)) ∧ Below w.heap.size w w' := by
  cases h : zoomB z
  · have hk : Hid (refC z x y = 3) := by show _ = _; simp [refC, refB, h]
    go_enter Tryz.func30, Tryz.ntmps30
    go_wp2_with (first | (go_at_call 60; refine (l3Zoom_any _ _).mono ?_; rintro e w' ⟨rfl, rfl⟩) | (go_at_call 57; refine (l1In_any _ _ _ _).mono ?_; rintro e w' ⟨rfl, rfl⟩))
    go_ret
    exact ⟨ret_int hk.out.symm, by (repeat (first | exact Below.refl _ _ | assumption | refine Below.drew ?_ | refine bl_alloc ?_ _ | refine bl_then ?_ (by assumption) | refine Below.setCell ?_ (by first | omega | (simp; done) | (simp; omega)) _ | refine bl_store ?_ ?_ _ _))⟩
  · have hk : Hid (refC z x y = if (inB x 0 (lastI z) && inB y 0 (lastI z)) = true then 0 else 3) := by show _ = _; simp [refC, refB, h]
    rcases zoomB_cases h with rfl | rfl | rfl | rfl
    · simp only [show lastI 0 = 0 from rfl] at hk
      cases hx : inB x 0 0 <;> cases hy : inB y 0 0
      all_goals
        rw [hx, hy] at hk
        go_enter Tryz.func30, Tryz.ntmps30
        go_wp2_with (first | (go_at_call 60; refine (l3Zoom_any _ _).mono ?_; rintro e w' ⟨rfl, rfl⟩) | (go_at_call 57; refine (l1In_any _ _ _ _).mono ?_; rintro e w' ⟨rfl, rfl⟩))
        all_goals (go_ret; exact ⟨ret_int (by rw [hk.out]; rfl), by (repeat (first | exact Below.refl _ _ | assumption | refine Below.drew ?_ | refine bl_alloc ?_ _ | refine bl_then ?_ (by assumption) | refine Below.setCell ?_ (by first | omega | (simp; done) | (simp; omega)) _ | refine bl_store ?_ ?_ _ _))⟩)
    · simp only [show lastI 1 = 1 from rfl] at hk
      cases hx : inB x 0 1 <;> cases hy : inB y 0 1
      all_goals
        rw [hx, hy] at hk
        go_enter Tryz.func30, Tryz.ntmps30
        go_wp2_with (first | (go_at_call 60; refine (l3Zoom_any _ _).mono ?_; rintro e w' ⟨rfl, rfl⟩) | (go_at_call 57; refine (l1In_any _ _ _ _).mono ?_; rintro e w' ⟨rfl, rfl⟩))
        all_goals (go_ret; exact ⟨ret_int (by rw [hk.out]; rfl), by (repeat (first | exact Below.refl _ _ | assumption | refine Below.drew ?_ | refine bl_alloc ?_ _ | refine bl_then ?_ (by assumption) | refine Below.setCell ?_ (by first | omega | (simp; done) | (simp; omega)) _ | refine bl_store ?_ ?_ _ _))⟩)
    · simp only [show lastI 2 = 3 from rfl] at hk
      cases hx : inB x 0 3 <;> cases hy : inB y 0 3
      all_goals
        rw [hx, hy] at hk
        go_enter Tryz.func30, Tryz.ntmps30
        go_wp2_with (first | (go_at_call 60; refine (l3Zoom_any _ _).mono ?_; rintro e w' ⟨rfl, rfl⟩) | (go_at_call 57; refine (l1In_any _ _ _ _).mono ?_; rintro e w' ⟨rfl, rfl⟩))
        all_goals (go_ret; exact ⟨ret_int (by rw [hk.out]; rfl), by (repeat (first | exact Below.refl _ _ | assumption | refine Below.drew ?_ | refine bl_alloc ?_ _ | refine bl_then ?_ (by assumption) | refine Below.setCell ?_ (by first | omega | (simp; done) | (simp; omega)) _ | refine bl_store ?_ ?_ _ _))⟩)
    · simp only [show lastI 3 = 7 from rfl] at hk
      cases hx : inB x 0 7 <;> cases hy : inB y 0 7
      all_goals
        rw [hx, hy] at hk
        go_enter Tryz.func30, Tryz.ntmps30
        go_wp2_with (first | (go_at_call 60; refine (l3Zoom_any _ _).mono ?_; rintro e w' ⟨rfl, rfl⟩) | (go_at_call 57; refine (l1In_any _ _ _ _).mono ?_; rintro e w' ⟨rfl, rfl⟩))
        all_goals (go_ret; exact ⟨ret_int (by rw [hk.out]; rfl), by (repeat (first | exact Below.refl _ _ | assumption | refine Below.drew ?_ | refine bl_alloc ?_ _ | refine bl_then ?_ (by assumption) | refine Below.setCell ?_ (by first | omega | (simp; done) | (simp; omega)) _ | refine bl_store ?_ ?_ _ _))⟩)
/-- A ref as a value. -/
abbrev refV (z x y : Int) : Value := .agg #[.int .i64 z, .int .i64 x, .int .i64 y]
/-- An answer with a ref. -/
abbrev rrV (c z x y : Int) : Value := .agg #[.int .i64 c, .int .i64 z, .int .i64 x, .int .i64 y]
theorem parent_any (z x y : Int) (w : World) (h : refB z x y = true) : Calls Tryz.prog 68 #[refV z x y] w fun e w' => e = .returned (refV (z - 1) (x / 2) (y / 2)) ∧ Below w.heap.size w w' := by
  obtain ⟨⟨z0, z1⟩, ⟨x0, x1⟩, y0, y1⟩ := ref_bd h
  clear h
  have dx : x.tdiv 2 = x / 2 := Int.tdiv_eq_ediv_of_nonneg x0
  have dy : y.tdiv 2 = y / 2 := Int.tdiv_eq_ediv_of_nonneg y0
  go_enter Tryz.func68, Tryz.ntmps68
  go_wp2
  exact bodyPost_ret (v := refV (z - 1) (x / 2) (y / 2)) (by simp [results, Tryz.results68, go_sem]) rfl ⟨rfl, by (repeat (first | exact Below.refl _ _ | assumption | refine Below.drew ?_ | refine bl_alloc ?_ _ | refine bl_then ?_ (by assumption) | refine Below.setCell ?_ (by first | omega | (simp; done) | (simp; omega)) _ | refine bl_store ?_ ?_ _ _))⟩
theorem l7Parent_any (z x y : Int) (w : World) (h : refB z x y = true) : Calls Tryz.prog 61 #[refV z x y] w fun e w' => e = .returned (refV (z - 1) (x / 2) (y / 2)) ∧ Below w.heap.size w w' := by
  obtain ⟨⟨z0, z1⟩, ⟨x0, x1⟩, y0, y1⟩ := ref_bd h
  clear h
  have dx : x.tdiv 2 = x / 2 := Int.tdiv_eq_ediv_of_nonneg x0
  have dy : y.tdiv 2 = y / 2 := Int.tdiv_eq_ediv_of_nonneg y0
  go_enter Tryz.func61, Tryz.ntmps61
  go_wp2
  exact bodyPost_ret (v := refV (z - 1) (x / 2) (y / 2)) (by simp [results, Tryz.results61, go_sem]) rfl ⟨rfl, by (repeat (first | exact Below.refl _ _ | assumption | refine Below.drew ?_ | refine bl_alloc ?_ _ | refine bl_then ?_ (by assumption) | refine Below.setCell ?_ (by first | omega | (simp; done) | (simp; omega)) _ | refine bl_store ?_ ?_ _ _))⟩
end Go.Proofs.YthidgolnajggpaaGreat
/- The parent of a ref, the ref of a pixel: the program and the model, and their laws. -/

namespace Go.Proofs.YthidgolnajggpaaGreat
open Go.RowKit
set_option linter.unusedSimpArgs false
set_option linter.unusedVariables false
set_option maxRecDepth 100000

theorem there4r (V : World) (a b c d : Value) (t : TypeId) : There (V.alloc (.cells #[a, b, c, d] t)) V.heap.size 4 := fun o ho => by
  have : o = 0 ∨ o = 1 ∨ o = 2 ∨ o = 3 := by omega
  rcases this with rfl | rfl | rfl | rfl <;> exact ⟨⟨_, by simp [go_sem]; rfl⟩, by simp [go_sem]⟩
theorem there3r (V : World) (a b c : Value) (t : TypeId) : There (V.alloc (.cells #[a, b, c] t)) V.heap.size 3 := fun o ho => by
  have : o = 0 ∨ o = 1 ∨ o = 2 := by omega
  rcases this with rfl | rfl | rfl <;> exact ⟨⟨_, by simp [go_sem]; rfl⟩, by simp [go_sem]⟩

theorem toRef_any (z x y : Int) (w : World) : Calls Tryz.prog 10 #[refV z x y] w fun e w' => e = .returned (refV z x y) ∧ Below w.heap.size w w' := by
  go_enter Tryz.func10, Tryz.ntmps10
  go_wp2
  exact bodyPost_ret (v := refV z x y) (by simp [results, Tryz.results10, go_sem]) rfl ⟨rfl, by (repeat (first | exact Below.refl _ _ | assumption | refine Below.drew ?_ | refine bl_alloc ?_ _ | refine bl_then ?_ (by assumption) | refine Below.setCell ?_ (by first | omega | (simp; done) | (simp; omega)) _ | refine bl_store ?_ ?_ _ _))⟩
theorem eqRef_any (z x y : Int) (w : World) : Calls Tryz.prog 37 #[refV z x y, refV z x y] w fun e w' => e = .returned (.bool true) ∧ Below w.heap.size w w' := by
  go_enter Tryz.func37, Tryz.ntmps37
  go_wp2
  go_ret
  exact ⟨rfl, by (repeat (first | exact Below.refl _ _ | assumption | refine Below.drew ?_ | refine bl_alloc ?_ _ | refine bl_then ?_ (by assumption) | refine Below.setCell ?_ (by first | omega | (simp; done) | (simp; omega)) _ | refine bl_store ?_ ?_ _ _))⟩
theorem eqRefResult_any (c z x y : Int) (w : World) : Calls Tryz.prog 12 #[rrV c z x y, rrV c z x y] w fun e w' => e = .returned (.bool true) ∧ Below w.heap.size w w' := by
  go_enter Tryz.func12, Tryz.ntmps12
  go_wp2_with (go_at_call 37; refine (eqRef_any _ _ _ _).mono ?_; rintro e w' ⟨rfl, hb⟩)
  go_ret
  exact ⟨rfl, by (repeat (first | exact Below.refl _ _ | assumption | refine Below.drew ?_ | refine bl_alloc ?_ _ | refine bl_then ?_ (by assumption) | refine Below.setCell ?_ (by first | omega | (simp; done) | (simp; omega)) _ | refine bl_store ?_ ?_ _ _))⟩
end Go.Proofs.YthidgolnajggpaaGreat
/- Numbers in memory of their own: they are compared, marked, and the marks are found again. -/

namespace Go.Proofs.YthidgolnajggpaaGreat
open Go.RowKit
set_option linter.unusedSimpArgs false
set_option linter.unusedVariables false
set_option maxRecDepth 100000

def IsNs (w : World) (a : Option Addr) (n : Nat) (Z : Nat → Int) : Prop :=
  n = 0 ∨ ∃ b off, a = some ⟨b, off, none⟩ ∧ b < w.heap.size ∧ ∀ i, i < n → w.cell? ⟨b, off + i, none⟩ = some (.int .i64 (Z i))
theorem IsNs.below {w w' : World} {a : Option Addr} {n : Nat} {Z : Nat → Int} (h : IsNs w a n Z) (hb : Below w.heap.size w w') : IsNs w' a n Z := by
  rcases h with h | ⟨b, off, e, hl, hz⟩
  · exact .inl h
  · exact .inr ⟨b, off, e, Nat.lt_of_lt_of_le hl hb.size, fun i hi => (hb.cell (p := ⟨b, off + i, none⟩) hl).trans (hz i hi)⟩
def NsAt (w : World) (b off n : Nat) (Z : Nat → Int) : Prop := ∀ i, i < n → w.cell? ⟨b, off + i, none⟩ = some (.int .i64 (Z i))
theorem NsAt.below {w w' : World} {b off n B : Nat} {Z : Nat → Int} (h : NsAt w b off n Z) (hb : Below B w w') (hB : b < B) : NsAt w' b off n Z := fun i hi => (hb.cell (p := ⟨b, off + i, none⟩) hB).trans (h i hi)
theorem NsAt.is {w : World} {b off n : Nat} {Z : Nat → Int} (h : NsAt w b off n Z) (hb : b < w.heap.size) : IsNs w (some ⟨b, off, none⟩) n Z := .inr ⟨b, off, rfl, hb, h⟩
theorem There.setN {W : World} {r n : Nat} (h : There W r n) (o : Nat) (v : Value) : There (W.setCell ⟨r, o, none⟩ v) r n := fun o' ho => by
  obtain ⟨u, hu⟩ := (h o' ho).1
  refine ⟨?_, ?_⟩
  · by_cases e : o = o'
    · subst e
      exact ⟨v, World.cell?_setCell_same _ _ _ (by rw [hu])⟩
    · exact ⟨u, by rw [World.cell?_setCell_other]; exact hu; simp [e]⟩
  · rw [World.frozen?_setCell]; exact (h o' ho).2
theorem fillN {W : World} {B n k : Nat} {Z : Nat → Int} (hT : There W B n) (hk : k < n) (hp : NsAt W B 0 k Z) : NsAt (W.setCell ⟨B, k, none⟩ (.int .i64 (Z k))) B 0 (k + 1) Z := fun i hi => by
  by_cases e : i = k
  · subst e
    obtain ⟨u, hu⟩ := (hT i hk).1
    simpa using World.cell?_setCell_same _ _ _ (by rw [hu])
  · rw [World.cell?_setCell_other]
    · exact hp i (by omega)
    · simp <;> omega
set_option maxHeartbeats 1000000 in
theorem eqInt64S_any (a c : Option Addr) (n capa capc : Nat) (Z : Nat → Int) (w : World) (hp : IsNs w a n Z) (hq : IsNs w c n Z) (hmax : n ≤ 1048576) :
    Calls Tryz.prog 93 #[.slice a n capa, .slice c n capc] w fun e w' => e = .returned (.bool true) ∧ Below w.heap.size w w' := by
  have HP : Hid (IsNs w a n Z) := hp
  have HQ : Hid (IsNs w c n Z) := hq
  clear hp hq
  go_enter Tryz.func93, Tryz.ntmps93
  go_wp2
  go_loopw [5] (fun i wr => ∃ k : Nat, k ≤ n ∧ i = .int .i64 k ∧ Below w.heap.size w wr) (fun i _ => n - (intOf i).toNat)
  case atStart => exact ⟨0, by omega, rfl, Below.refl _ _⟩
  case round =>
    obtain ⟨k, hk, rfl, hB⟩ := hrel
    by_cases hlt : k < n
    · rcases HP.out with h0 | ⟨b, off, rfl, hbl, hpt⟩
      · omega
      rcases HQ.out with h0 | ⟨d, offd, rfl, hdl, hqt⟩
      · omega
      have c0 : ∀ W', Below wr.heap.size wr W' → W'.cell? ⟨b, off + k, none⟩ = some (.int .i64 (Z k)) := fun W' h => by
        rw [h.cell (Nat.lt_of_lt_of_le hbl hB.size)]; exact (hB.cell (p := ⟨b, off + k, none⟩) hbl).trans (hpt k hlt)
      have e0 : ∀ W', Below wr.heap.size wr W' → W'.cell? ⟨d, offd + k, none⟩ = some (.int .i64 (Z k)) := fun W' h => by
        rw [h.cell (Nat.lt_of_lt_of_le hdl hB.size)]; exact (hB.cell (p := ⟨d, offd + k, none⟩) hdl).trans (hqt k hlt)
      have HB : Hid (Below w.heap.size w wr) := hB
      clear hB hpt hqt
      have hi : (k : Int) < (n : Int) := by omega
      have hi0 : (0 : Int) ≤ (k : Int) := by omega
      go_wp2
      go_region_held3 (fun W' => Below wr.heap.size wr W') ((repeat (first | exact Below.refl _ _ | assumption | refine Below.drew ?_ | refine bl_alloc ?_ _ | refine bl_then ?_ (by assumption) | refine Below.setCell ?_ (by first | omega | (simp; done) | (simp; omega)) _ | refine bl_store ?_ ?_ _ _))) (fail)
      go_wp2
      go_roundw
      case rel => exact ⟨k + 1, by omega, by go_num, bl_then HB.out (by assumption)⟩
      case measure => simp [intOf]; omega
    · go_wp2
      go_ret
      exact ⟨rfl, hB⟩
/-- v is a list of n bytes in a block from base on. -/
def OwnN (w : World) (base : Nat) (v : Value) (n : Nat) (Z : Nat → Int) : Prop :=
  ∃ a cap, v = .slice a n cap ∧ n ≤ cap ∧ (n = 0 ∨ ∃ b, a = some ⟨b, 0, none⟩ ∧ base ≤ b ∧ b < w.heap.size ∧ NsAt w b 0 n Z ∧ There w b n)
theorem OwnN.pts {w : World} {base : Nat} {v : Value} {n : Nat} {Z : Nat → Int} (h : OwnN w base v n Z) : ∃ a cap, v = .slice a n cap ∧ n ≤ cap ∧ IsNs w a n Z := by
  obtain ⟨a, cap, hv, hc, h0 | ⟨b, ha, hb, hl, hp, ht⟩⟩ := h
  · exact ⟨a, cap, hv, hc, .inl h0⟩
  · exact ⟨a, cap, hv, hc, .inr ⟨b, 0, ha, hl, hp⟩⟩
end Go.Proofs.YthidgolnajggpaaGreat
