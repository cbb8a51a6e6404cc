/- Several texts in one. -/
import Derived.Test.YtbllgpofpokcnaaGreatVNearestIn9
import Derived.Test.YtbllgpofpokcnaaGreatVNearestIn6
import Derived.Test.YtbllgpofpokcnaaGreatVNearestIn2
import Derived.Test.YtbllgpofpokcnaaGreatVNearestIn1
import Derived.Deep.RegionHeld3
import Derived.OwnWalk
import Derived.Deep.DeepMust
import Derived.Deep.DeepCutAuto
import Derived.Test.YtbllgpofpokcnaaGreatVNearestIn4
import Derived.Deep.RegionLawGrows

/- Rows of points beside other blocks; a block that holds a feature. -/

namespace Go.Proofs.YtbllgpofpokcnaaGreat
open Go.RowKit
set_option linter.unusedSimpArgs false
set_option linter.unusedVariables false
set_option maxRecDepth 100000

theorem ownsRow_of {w w' : World} {base size n : Nat} {e : TypeId} {v : Value} {xs : List Value} (h : w.ownsRow base e size v n xs) (hk : ∀ g, v.ownBlock = some g → w'.heap[g]? = w.heap[g]?) : w'.ownsRow base e size v n xs := by
  obtain ⟨h1, h2 | ⟨g, cp, cur, hv, hg, hh, hr⟩⟩ := h
  · exact ⟨h1, .inl h2⟩
  · refine ⟨h1, .inr ⟨g, cp, cur, hv, hg, ?_, hr⟩⟩
    rw [hk g (by rw [hv]; rfl)]
    exact hh

theorem there7 (V : World) (v0 v1 v2 v3 v4 v5 v6 : Value) (t : TypeId) : There (V.alloc (.cells #[v0, v1, v2, v3, v4, v5, v6] t)) V.heap.size 7 := fun o ho => by
  refine ⟨⟨#[v0, v1, v2, v3, v4, v5, v6][o]'(by simpa using ho), ?_⟩, World.frozen?_alloc_at _ _ _ _ rfl⟩
  rw [World.cell?_alloc_at _ _ _ _ rfl]
  exact Array.getElem?_eq_getElem _
/-- Block O holds a feature with the points v. -/
def OutAt (w : World) (O : Nat) (id la ki wi : Int) (v : Value) (lab : ByteArray) (pr : Int) : Prop := w.heap[O]? = some (Obj.cells #[.int .i64 id, .int .i64 la, .int .i64 ki, .int .i64 wi, v, .string lab, .int .i64 pr] 123 (0, 0))
theorem OutAt.cells {w : World} {O : Nat} {id la ki wi pr : Int} {v : Value} {lab : ByteArray} (h : OutAt w O id la ki wi v lab pr) :
    (w.cell? ⟨O, 0, none⟩ = some (.int .i64 id) ∧ w.cell? ⟨O, 1, none⟩ = some (.int .i64 la) ∧ w.cell? ⟨O, 2, none⟩ = some (.int .i64 ki) ∧ w.cell? ⟨O, 3, none⟩ = some (.int .i64 wi) ∧ w.cell? ⟨O, 4, none⟩ = some v ∧ w.cell? ⟨O, 5, none⟩ = some (.string lab) ∧ w.cell? ⟨O, 6, none⟩ = some (.int .i64 pr)) ∧ w.frozen? ⟨O, 4, none⟩ = false := by
  unfold OutAt at h
  refine ⟨⟨?_, ?_, ?_, ?_, ?_, ?_, ?_⟩, ?_⟩ <;> simp [World.cell?, World.frozen?, h]
theorem OutAt.lt {w : World} {O : Nat} {id la ki wi pr : Int} {v : Value} {lab : ByteArray} (h : OutAt w O id la ki wi v lab pr) : O < w.heap.size := lt_of_heap h
theorem There.out {w : World} {O r n : Nat} {x : Value} (h : There w r n) (hne : O ≠ r) : There (w.setCell ⟨O, 4, none⟩ x) r n := fun o ho => by
  obtain ⟨u, hu⟩ := (h o ho).1
  exact ⟨⟨u, by rw [set1_other (fun e => hne (by injection e))]; exact hu⟩, by rw [World.frozen?_setCell]; exact (h o ho).2⟩
theorem below7 {B r : Nat} {w W : World} {v0 v1 v2 v3 v4 v5 v6 : Value} (h : Below B w W) (hr : B ≤ r) : Below B w ((((((((W.setCell ⟨r, 0, none⟩ v0).setCell ⟨r, 1, none⟩ v1).setCell ⟨r, 2, none⟩ v2).setCell ⟨r, 3, none⟩ v3).setCell ⟨r, 4, none⟩ v4).setCell ⟨r, 5, none⟩ v5).setCell ⟨r, 6, none⟩ v6)) :=
  (((((((h.setCell (p := ⟨r, 0, none⟩) hr v0).setCell (p := ⟨r, 1, none⟩) hr v1).setCell (p := ⟨r, 2, none⟩) hr v2).setCell (p := ⟨r, 3, none⟩) hr v3).setCell (p := ⟨r, 4, none⟩) hr v4).setCell (p := ⟨r, 5, none⟩) hr v5).setCell (p := ⟨r, 6, none⟩) hr v6)
/-- What holds no points is as it was. -/
def NP (w w' : World) : Prop := ∀ (k : Nat) (cur : Array Value) (t : TypeId) (fz : Nat × Nat), w.heap[k]? = some (Obj.cells cur t fz) → t ≠ 134 → w'.heap[k]? = some (Obj.cells cur t fz)
theorem NP.refl (w : World) : NP w w := fun _ _ _ _ h _ => h
theorem NP.trans {a b c : World} (h : NP a b) (k : NP b c) : NP a c := fun i cur t fz h1 h2 => k i cur t fz (h i cur t fz h1 h2) h2
theorem NP.of_below {w w' : World} (h : Below w.heap.size w w') : NP w w' := fun k cur t fz h1 _ => (h.block k (lt_of_heap h1)).trans h1
theorem NP.of_grown {base : Nat} {w w' : World} {v : Value} {l : List (Int × Int)} (hR : Row base w v l) (hg : w.grownBy w' v.ownBlock) : NP w w' := fun k cur t fz h1 h2 => by
  refine (hg.block k (lt_of_heap h1) (fun e => ?_)).trans h1
  obtain ⟨cur', hc⟩ := heap_of_row hR k e.symm
  rw [h1] at hc
  injection hc with hc
  injection hc with _ hc2
  exact h2 hc2
theorem Row.other {base p o : Nat} {w : World} {v u : Value} {l : List (Int × Int)} {cur : Array Value} {t : TypeId} {fz : Nat × Nat} (h : Row base w v l) (hp : w.heap[p]? = some (Obj.cells cur t fz)) (ht : t ≠ 134) : Row base (w.setCell ⟨p, o, none⟩ u) v l := by
  refine ownsRow_of h fun g hg => Below.heap_setCell _ _ _ _ (fun e => ?_)
  obtain ⟨cur', hc⟩ := heap_of_row h g hg
  simp at e
  subst e
  rw [hp] at hc
  injection hc with hc
  injection hc with _ hc2
  exact ht hc2
theorem OutAt.set {w : World} {O : Nat} {id la ki wi pr : Int} {v v' : Value} {lab : ByteArray} (h : OutAt w O id la ki wi v lab pr) : OutAt (w.setCell ⟨O, 4, none⟩ v') O id la ki wi v' lab pr := by
  have := heap_setCell_same w O 4 _ 123 v' h
  simpa [OutAt] using this
theorem OutAt.below {w w' : World} {O : Nat} {id la ki wi pr : Int} {v : Value} {lab : ByteArray} (h : OutAt w O id la ki wi v lab pr) (hb : Below w.heap.size w w') : OutAt w' O id la ki wi v lab pr := (hb.block O h.lt).trans h
theorem OutAt.np {w w' : World} {O : Nat} {id la ki wi pr : Int} {v : Value} {lab : ByteArray} (h : OutAt w O id la ki wi v lab pr) (hn : NP w w') : OutAt w' O id la ki wi v lab pr := hn _ _ _ _ h (by decide)
theorem Row.out {base : Nat} {w : World} {O : Nat} {id la ki wi pr : Int} {v u x : Value} {lab : ByteArray} {l : List (Int × Int)} (h : Row base w u l) (ho : OutAt w O id la ki wi v lab pr) : Row base (w.setCell ⟨O, 4, none⟩ x) u l := Row.other h ho (by decide)
theorem Row.wide {base B : Nat} {w : World} {v : Value} {l : List (Int × Int)} (h : Row base w v l) (hB : B ≤ base) : Row B w v l := by
  obtain ⟨h1, h2 | ⟨g, cp, cur, hv, hg, hr⟩⟩ := h
  · exact ⟨h1, .inl h2⟩
  · exact ⟨h1, .inr ⟨g, cp, cur, hv, by omega, hr⟩⟩
theorem Row.no (base : Nat) (w : World) : Row base w (.slice none 0 0) [] := World.ownsRow_nil _ _ _ _
/-- A row that is not empty. -/
theorem Row.at {base : Nat} {w : World} {v : Value} {l : List (Int × Int)} (h : Row base w v l) (hne : 0 < l.length) :
    ∃ g cap, v = .slice (some ⟨g, 0, none⟩) l.length cap ∧ base ≤ g ∧ g < w.heap.size ∧ l.length ≤ cap ∧ PtsAt w g 0 l.length (px l) (py l) := by
  obtain ⟨a, cap, hv, hc, h0 | ⟨b, rfl, hb, hl, hp, ht⟩⟩ := h.own
  · omega
  · exact ⟨b, cap, hv, hb, hl, hc, hp⟩
theorem Row.set7 {base B r : Nat} {w : World} {v : Value} {l : List (Int × Int)} {v0 v1 v2 v3 v4 v5 v6 : Value} (h : Row base w v l) (hB : B ≤ base) (hr : r < base) : Row B ((((((((w.setCell ⟨r, 0, none⟩ v0).setCell ⟨r, 1, none⟩ v1).setCell ⟨r, 2, none⟩ v2).setCell ⟨r, 3, none⟩ v3).setCell ⟨r, 4, none⟩ v4).setCell ⟨r, 5, none⟩ v5).setCell ⟨r, 6, none⟩ v6)) v l := by
  obtain ⟨h1, h2 | ⟨g, cp, cur, hv, hg, hh, hr'⟩⟩ := h
  · exact ⟨h1, .inl h2⟩
  · refine ⟨h1, .inr ⟨g, cp, cur, hv, by omega, ?_, hr'⟩⟩
    rw [Below.heap_setCell _ _ _ _ (by simp; omega), Below.heap_setCell _ _ _ _ (by simp; omega), Below.heap_setCell _ _ _ _ (by simp; omega), Below.heap_setCell _ _ _ _ (by simp; omega), Below.heap_setCell _ _ _ _ (by simp; omega), Below.heap_setCell _ _ _ _ (by simp; omega), Below.heap_setCell _ _ _ _ (by simp; omega)]
    exact hh
end Go.Proofs.YtbllgpofpokcnaaGreat
/- How much of the world a pixel has at a zoom, and its grid. -/

namespace Go.Proofs.YtbllgpofpokcnaaGreat
open Go.RowKit
set_option linter.unusedSimpArgs false
set_option linter.unusedVariables false

/-- A zoom. -/
def zoomB (z : Int) : Bool := inB z 0 3
theorem zoomB_cases {z : Int} (h : zoomB z = true) : z = 0 ∨ z = 1 ∨ z = 2 ∨ z = 3 := by
  simp [zoomB, inB] at h
  omega
/-- What a pixel has of the world. -/
def unitI (z : Int) : Int := if z = 0 then 128 else if z = 1 then 64 else if z = 2 then 32 else 16
/-- The answer of UnitAt. -/
def unitV (z : Int) : Value := if zoomB z = true then .agg #[.int .i64 0, .int .i64 (unitI z)] else .agg #[.int .i64 3, .int .i64 0]

theorem isZoom_any (z : Int) (w : World) : Calls Tryz.prog 73 #[.int .i64 z] w fun e w' => e = .returned (.bool (zoomB z)) ∧ w = w' := by
  unfold zoomB
  go_enter Tryz.func73, Tryz.ntmps73
  go_wp2_with (go_at_call 74; refine (isWithin_any _ _ _ _).mono ?_; rintro e w' ⟨rfl, rfl⟩)
  go_ret
  exact ⟨rfl, rfl⟩
theorem impl_UnitAt_any (z : Int) (w : World) : Calls Tryz.prog 116 #[.int .i64 z] w fun e w' => e = .returned (unitV z) ∧ Below w.heap.size w w' := by
  cases h : zoomB z
  · go_enter Tryz.func116, Tryz.ntmps116
    go_wp2_with (go_at_call 73; refine (isZoom_any _ _).mono ?_; rintro e w' ⟨rfl, rfl⟩)
    exact bodyPost_ret (v := .agg #[.int .i64 3, .int .i64 0]) (by simp [results, Tryz.results116, go_sem]) rfl ⟨by simp [unitV, h], by (repeat (first | exact Below.refl _ _ | assumption | refine Below.drew ?_ | refine bl_alloc ?_ _ | refine bl_then ?_ (by assumption) | refine Below.setCell ?_ (by first | omega | (simp; done) | (simp; omega)) _ | refine bl_store ?_ ?_ _ _))⟩
  · rcases zoomB_cases h with rfl | rfl | rfl | rfl
    all_goals
      go_enter Tryz.func116, Tryz.ntmps116
      go_wp2_with (go_at_call 73; refine (isZoom_any _ _).mono ?_; rintro e w' ⟨rfl, rfl⟩)
      first
        | exact bodyPost_ret (v := .agg #[.int .i64 0, .int .i64 128]) (by simp [results, Tryz.results116, go_sem]; done) rfl ⟨rfl, by (repeat (first | exact Below.refl _ _ | assumption | refine Below.drew ?_ | refine bl_alloc ?_ _ | refine bl_then ?_ (by assumption) | refine Below.setCell ?_ (by first | omega | (simp; done) | (simp; omega)) _ | refine bl_store ?_ ?_ _ _))⟩
        | exact bodyPost_ret (v := .agg #[.int .i64 0, .int .i64 64]) (by simp [results, Tryz.results116, go_sem]; done) rfl ⟨rfl, by (repeat (first | exact Below.refl _ _ | assumption | refine Below.drew ?_ | refine bl_alloc ?_ _ | refine bl_then ?_ (by assumption) | refine Below.setCell ?_ (by first | omega | (simp; done) | (simp; omega)) _ | refine bl_store ?_ ?_ _ _))⟩
        | exact bodyPost_ret (v := .agg #[.int .i64 0, .int .i64 32]) (by simp [results, Tryz.results116, go_sem]; done) rfl ⟨rfl, by (repeat (first | exact Below.refl _ _ | assumption | refine Below.drew ?_ | refine bl_alloc ?_ _ | refine bl_then ?_ (by assumption) | refine Below.setCell ?_ (by first | omega | (simp; done) | (simp; omega)) _ | refine bl_store ?_ ?_ _ _))⟩
        | exact bodyPost_ret (v := .agg #[.int .i64 0, .int .i64 16]) (by simp [results, Tryz.results116, go_sem]; done) rfl ⟨rfl, by (repeat (first | exact Below.refl _ _ | assumption | refine Below.drew ?_ | refine bl_alloc ?_ _ | refine bl_then ?_ (by assumption) | refine Below.setCell ?_ (by first | omega | (simp; done) | (simp; omega)) _ | refine bl_store ?_ ?_ _ _))⟩
theorem l3Zoom_any (z : Int) (w : World) : Calls Tryz.prog 71 #[.int .i64 z] w fun e w' => e = .returned (.bool (zoomB z)) ∧ w = w' := by
  unfold zoomB
  go_enter Tryz.func71, Tryz.ntmps71
  go_wp2_with (go_at_call 64; refine (l1In_any _ _ _ _).mono ?_; rintro e w' ⟨rfl, rfl⟩)
  go_ret
  exact ⟨rfl, rfl⟩
theorem l3Unit_any (z : Int) (w : World) (h : zoomB z = true) : Calls Tryz.prog 162 #[.int .i64 z] w fun e w' => e = .returned (.int .i64 (unitI z)) ∧ w = w' := by
  rcases zoomB_cases h with rfl | rfl | rfl | rfl
  all_goals
    go_enter Tryz.func162, Tryz.ntmps162
    go_wp2
    go_ret
    exact ⟨rfl, rfl⟩
end Go.Proofs.YtbllgpofpokcnaaGreat
/- The point of the grid that is nearest. -/

namespace Go.Proofs.YtbllgpofpokcnaaGreat
open Go.RowKit
set_option linter.unusedSimpArgs false
set_option linter.unusedVariables false

/-- The grid of a zoom. -/
def gridI (z : Int) : Int := if z = 0 then 32 else if z = 1 then 16 else if z = 2 then 8 else 4
/-- The nearest multiple of the grid. -/
def snapI (z v : Int) : Int := (v + gridI z / 2) / gridI z * gridI z
/-- The answer of SnapPoint. -/
def snapV (x y z : Int) : Value := if (zoomB z && inW x y) = true then .agg #[.int .i64 0, .int .i64 (snapI z x), .int .i64 (snapI z y)] else .agg #[.int .i64 3, .int .i64 0, .int .i64 0]
theorem inW_bd {x y : Int} (h : inW x y = true) : (0 ≤ x ∧ x ≤ 1024) ∧ (0 ≤ y ∧ y ≤ 1024) := by
  simp [inW, inB] at h
  omega
theorem inW_ok {x y : Int} (h : inW x y = true) : okP x y = true := by
  rw [okP_iff]
  have := inW_bd h
  omega
theorem tdiv_nn {a b : Int} (h : 0 ≤ a) : a.tdiv b = a / b := Int.tdiv_eq_ediv_of_nonneg h

theorem unit_bd {z : Int} (h : zoomB z = true) : 0 ≤ unitI z ∧ unitI z ≤ 128 ∧ unitI z / 4 = gridI z := by
  rcases zoomB_cases h with rfl | rfl | rfl | rfl <;> decide
/-- Three stores into one block, read back. -/
theorem set3_at {W : World} {r : Nat} {a b c : Value} (hT : There W r 3) :
    (((W.setCell ⟨r, 0, none⟩ a).setCell ⟨r, 1, none⟩ b).setCell ⟨r, 2, none⟩ c).cell? ⟨r, 0, none⟩ = some a ∧
    (((W.setCell ⟨r, 0, none⟩ a).setCell ⟨r, 1, none⟩ b).setCell ⟨r, 2, none⟩ c).cell? ⟨r, 1, none⟩ = some b ∧
    (((W.setCell ⟨r, 0, none⟩ a).setCell ⟨r, 1, none⟩ b).setCell ⟨r, 2, none⟩ c).cell? ⟨r, 2, none⟩ = some c := by
  obtain ⟨x0, h0⟩ := (hT 0 (by omega)).1
  obtain ⟨x1, h1⟩ := (hT 1 (by omega)).1
  obtain ⟨x2, h2⟩ := (hT 2 (by omega)).1
  have ne : ∀ i j : Nat, i ≠ j → (⟨r, i, none⟩ : Addr) ≠ ⟨r, j, none⟩ := fun i j hij h => hij (by injection h)
  refine ⟨?_, ?_, ?_⟩
  · rw [set1_other (ne 2 0 (by omega)), set1_other (ne 1 0 (by omega))]; exact set1_same h0
  · rw [set1_other (ne 2 1 (by omega))]; exact set1_same (by rw [set1_other (ne 0 1 (by omega))]; exact h1)
  · exact set1_same (by rw [set1_other (ne 1 2 (by omega)), set1_other (ne 0 2 (by omega))]; exact h2)
theorem there3 (V : World) (a b c : Value) (t : TypeId) : There (V.alloc (.cells #[a, b, c] t)) V.heap.size 3 := fun o ho => by
  refine ⟨⟨#[a, b, c][o]'(by simpa using ho), ?_⟩, World.frozen?_alloc_at _ _ _ _ rfl⟩
  rw [World.cell?_alloc_at _ _ _ _ rfl]
  exact Array.getElem?_eq_getElem _

theorem there2 (V : World) (a b : Value) (t : TypeId) : There (V.alloc (.cells #[a, b] t)) V.heap.size 2 := fun o ho => by
  refine ⟨⟨#[a, b][o]'(by simpa using ho), ?_⟩, World.frozen?_alloc_at _ _ _ _ rfl⟩
  rw [World.cell?_alloc_at _ _ _ _ rfl]
  exact Array.getElem?_eq_getElem _

end Go.Proofs.YtbllgpofpokcnaaGreat
/- A list of points is snapped: the program's and the model's way. -/

namespace Go.Proofs.YtbllgpofpokcnaaGreat
open Go.RowKit
set_option linter.unusedSimpArgs false
set_option linter.unusedVariables false

/-- The first n points, snapped; of those that are alike behind one another the first one. -/
def snapL (X Y : Nat → Int) (z : Int) : Nat → List (Int × Int)
  | 0 => []
  | k + 1 => if (snapL X Y z k).getLast? = some (snapI z (X k), snapI z (Y k)) then snapL X Y z k else snapL X Y z k ++ [(snapI z (X k), snapI z (Y k))]
theorem snapL_len (X Y : Nat → Int) (z : Int) : ∀ n, (snapL X Y z n).length ≤ n
  | 0 => Nat.le_refl _
  | k + 1 => by
    have := snapL_len X Y z k
    unfold snapL
    split
    · omega
    · simp; omega
theorem info_pt : (Tryz.prog.info? 134).map (fun i => (i.zero, i.size, i.bytes)) = some (some (.agg #[.int .i64 0, .int .i64 0]), 2, 16) := by kernel_rfl
/-- The last point of a row. -/
theorem Row.last {base : Nat} {w : World} {v : Value} {l : List (Int × Int)} (h : Row base w v l) (hne : 0 < l.length) :
    ∃ g cap x y, v = .slice (some ⟨g, 0, none⟩) l.length cap ∧ base ≤ g ∧ g < w.heap.size ∧ l.length ≤ cap ∧ l.getLast? = some (x, y) ∧ w.cell? ⟨g, (l.length - 1) * 2, none⟩ = some (.int .i64 x) ∧ w.cell? ⟨g, (l.length - 1) * 2 + 1, none⟩ = some (.int .i64 y) := by
  obtain ⟨a, cap, hv, hc, h0 | ⟨b, rfl, hb, hl, hp, ht⟩⟩ := h.own
  · omega
  · obtain ⟨e1, e2⟩ := hp (l.length - 1) (by omega)
    simp only [Nat.zero_add] at e1 e2
    refine ⟨b, cap, px l (l.length - 1), py l (l.length - 1), hv, hb, hl, hc, ?_, e1, e2⟩
    rw [List.getLast?_eq_getElem?, List.getElem?_eq_getElem (by omega)]
    simp [px, py, List.getD_eq_getElem?_getD, List.getElem?_eq_getElem (show l.length - 1 < l.length by omega)]

end Go.Proofs.YtbllgpofpokcnaaGreat
/- The model's SnapAll. -/

namespace Go.Proofs.YtbllgpofpokcnaaGreat
open Go.RowKit
set_option linter.unusedSimpArgs false
set_option linter.unusedVariables false

/-- All points are in the world. -/
def allIn (n : Nat) (X Y : Nat → Int) : Bool := decide (∀ i, i < n → inW (X i) (Y i) = true)
/-- The code of SnapAll. -/
def snapC (z : Int) (n : Nat) (X Y : Nat → Int) : Int := if zoomB z = true then (if n ≤ 12 then (if allIn n X Y = true then 0 else 3) else 2) else 3
/-- The points that SnapAll answers. -/
def snapR (z : Int) (n : Nat) (X Y : Nat → Int) : List (Int × Int) := if snapC z n X Y = 0 then snapL X Y z n else []
theorem snapR_no {z : Int} {n : Nat} {X Y : Nat → Int} (h : snapC z n X Y ≠ 0) : snapR z n X Y = [] := by simp [snapR, h]
theorem allIn_no {n : Nat} {X Y : Nat → Int} {k : Nat} (hk : k < n) (h : inW (X k) (Y k) = false) : allIn n X Y = false := by
  unfold allIn
  rw [decide_eq_false_iff_not]
  intro hc
  have := hc k hk
  rw [h] at this
  cases this
theorem allIn_ok {n : Nat} {X Y : Nat → Int} (h : ∀ i, i < n → inW (X i) (Y i) = true) : allIn n X Y = true := decide_eq_true h

/-- A row is as it was, with another base, where another block was written. -/
theorem Row.set2 {base B r : Nat} {w : World} {v : Value} {l : List (Int × Int)} {x y : Value} (h : Row base w v l) (hB : B ≤ base ∧ r < base) : Row B ((w.setCell ⟨r, 0, none⟩ x).setCell ⟨r, 1, none⟩ y) v l := by
  obtain ⟨h1, h2 | ⟨g, cp, cur, hv, hg, hh, hr⟩⟩ := h
  · exact ⟨h1, .inl h2⟩
  · refine ⟨h1, .inr ⟨g, cp, cur, hv, by omega, ?_, hr⟩⟩
    rw [Below.heap_setCell _ _ _ _ (by simp; omega), Below.heap_setCell _ _ _ _ (by simp; omega)]
    exact hh

end Go.Proofs.YtbllgpofpokcnaaGreat
/- An append to a row of the call's own, as one step of a region that draws its order. -/

namespace Go.Proofs.YtbllgpofpokcnaaGreat
open Go

theorem step_append_own {P : Program} {ops : Array Oper} {o : Oper} {a : Act} {w : World} {K : Act → World → Prop} {Q : Exit → Act → World → Prop} {E : Prop}
    (hg : o.guard = none) (s x : Operand) (t : TypeId) (hop : o.op = Op.call { callee := Callee.builtin Builtin.append, args := #[s, x], argTypes := #[t, t] })
    (base : Nat) (e : TypeId) (i : TypeInfo) (z : Value) (size bytes : Nat) (h1 : P.underlying t = some (.slice e)) (h2 : P.info? e = some i) (h3 : i.zero = some z) (h4 : i.size = size) (h5 : i.bytes = bytes) (h6 : z.cells.size = size) (h7 : 0 < size)
    (v : Value) (n : Nat) (xs : List Value) (hs : a.eval s = v) (hown : w.ownsRow base e size v n xs)
    (ad : Addr) (m c : Nat) (news : List Value) (hx : a.eval x = .slice (some ad) m c) (hn : news.length = m * size) (hc : ∀ j u, news[j]? = some u → w.cell? (ad.add j) = some u) (h1c : ∀ u ∈ news, u.oneCell' = true)
    (b1 : n + m ≤ maxLen) (b2 : (n + m) * bytes ≤ 140737488355328) (hbase : base ≤ w.heap.size)
    (hK : ∀ v' w', w'.ownsRow base e size v' (n + m) (xs ++ news) → w.grownBy w' v.ownBlock → (v' = .slice none 0 0 ↔ v = .slice none 0 0 ∧ m = 0) → K (a.put o.dst v') w') :
    if Region.wanted o (yielded ops a.tmps) = true then Oper.wp P o a w K Q else E := by
  have hw : Region.wanted o (yielded ops a.tmps) = true := by simp [Region.wanted, hg]
  rw [if_pos hw]
  obtain ⟨v', w', hrun, r1, r2, r3⟩ := run_append_own (P := P) w base t o.type e i z size bytes h1 h2 h3 h4 h5 h6 h7 v n xs hown ad m c news hn hc h1c b1 b2 hbase
  unfold Oper.wp
  simp [execOp, hop, resolve, invoke, builtin, hs, hx, hrun, Result.andThen]
  exact hK v' w' r1 r2 r3
end Go.Proofs.YtbllgpofpokcnaaGreat
