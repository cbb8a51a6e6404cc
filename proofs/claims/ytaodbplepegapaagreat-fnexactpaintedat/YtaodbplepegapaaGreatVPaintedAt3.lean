/- Several texts in one. -/
import Derived.Test.YtaodbplepegapaaGreatVPaintedAt1
import Derived.Test.YtaodbplepegapaaGreatVPaintedAt2

/- Two stores, read back. -/

namespace Go.Proofs.YtaodbplepegapaaGreat
open Go.RowKit
theorem set1_other {W : World} {a p : Addr} {u : Value} (h : a ≠ p) : (W.setCell a u).cell? p = W.cell? p := World.cell?_setCell_other _ _ _ _ h
theorem set1_same {W : World} {a : Addr} {u x : Value} (h : W.cell? a = some x) : (W.setCell a u).cell? a = some u := World.cell?_setCell_same _ _ _ h
theorem set2_other {W : World} {a a' p : Addr} {u v : Value} (h : a ≠ p) (h' : a' ≠ p) : ((W.setCell a u).setCell a' v).cell? p = W.cell? p := by
  rw [set1_other h', set1_other h]
theorem set2_at {W : World} {r i j : Nat} {u v : Value} (hij : i ≠ j) (h0 : (W.cell? ⟨r, i, none⟩).isSome = true) (h1 : (W.cell? ⟨r, j, none⟩).isSome = true) :
    ((W.setCell ⟨r, i, none⟩ u).setCell ⟨r, j, none⟩ v).cell? ⟨r, i, none⟩ = some u ∧ ((W.setCell ⟨r, i, none⟩ u).setCell ⟨r, j, none⟩ v).cell? ⟨r, j, none⟩ = some v := by
  obtain ⟨x, hx⟩ := Option.isSome_iff_exists.1 h0
  obtain ⟨y, hy⟩ := Option.isSome_iff_exists.1 h1
  have n1 : (⟨r, i, none⟩ : Addr) ≠ ⟨r, j, none⟩ := fun h => hij (by injection h)
  have n2 : (⟨r, j, none⟩ : Addr) ≠ ⟨r, i, none⟩ := fun h => n1 h.symm
  refine ⟨?_, ?_⟩
  · rw [set1_other n2]; exact set1_same hx
  · exact set1_same (by rw [set1_other n1]; exact hy)
/-- Four stores into one block, read back. -/
theorem set4_at {W : World} {r : Nat} {a b c d : Value} (hT : There W r 4) :
    ((((W.setCell ⟨r, 0, none⟩ a).setCell ⟨r, 1, none⟩ b).setCell ⟨r, 2, none⟩ c).setCell ⟨r, 3, none⟩ d).cell? ⟨r, 0, none⟩ = some a ∧
    ((((W.setCell ⟨r, 0, none⟩ a).setCell ⟨r, 1, none⟩ b).setCell ⟨r, 2, none⟩ c).setCell ⟨r, 3, none⟩ d).cell? ⟨r, 1, none⟩ = some b ∧
    ((((W.setCell ⟨r, 0, none⟩ a).setCell ⟨r, 1, none⟩ b).setCell ⟨r, 2, none⟩ c).setCell ⟨r, 3, none⟩ d).cell? ⟨r, 2, none⟩ = some c ∧
    ((((W.setCell ⟨r, 0, none⟩ a).setCell ⟨r, 1, none⟩ b).setCell ⟨r, 2, none⟩ c).setCell ⟨r, 3, none⟩ d).cell? ⟨r, 3, none⟩ = some d := by
  obtain ⟨x0, h0⟩ := (hT 0 (by omega)).1
  obtain ⟨x1, h1⟩ := (hT 1 (by omega)).1
  obtain ⟨x2, h2⟩ := (hT 2 (by omega)).1
  obtain ⟨x3, h3⟩ := (hT 3 (by omega)).1
  have ne : ∀ i j : Nat, i ≠ j → (⟨r, i, none⟩ : Addr) ≠ ⟨r, j, none⟩ := fun i j hij h => hij (by injection h)
  refine ⟨?_, ?_, ?_, ?_⟩
  · rw [set1_other (ne 3 0 (by omega)), set1_other (ne 2 0 (by omega)), set1_other (ne 1 0 (by omega))]; exact set1_same h0
  · rw [set1_other (ne 3 1 (by omega)), set1_other (ne 2 1 (by omega))]; exact set1_same (by rw [set1_other (ne 0 1 (by omega))]; exact h1)
  · rw [set1_other (ne 3 2 (by omega))]; exact set1_same (by rw [set1_other (ne 1 2 (by omega)), set1_other (ne 0 2 (by omega))]; exact h2)
  · exact set1_same (by rw [set1_other (ne 2 3 (by omega)), set1_other (ne 1 3 (by omega)), set1_other (ne 0 3 (by omega))]; exact h3)
end Go.Proofs.YtaodbplepegapaaGreat
/- Rows of points beside other blocks; a block that holds a feature. -/

namespace Go.Proofs.YtaodbplepegapaaGreat
open Go.RowKit
set_option linter.unusedSimpArgs false
set_option linter.unusedVariables false
set_option maxRecDepth 100000

theorem ownsRow_of {w w' : World} {base size n : Nat} {e : TypeId} {v : Value} {xs : List Value} (h : w.ownsRow base e size v n xs) (hk : ∀ g, v.ownBlock = some g → w'.heap[g]? = w.heap[g]?) : w'.ownsRow base e size v n xs := by
  obtain ⟨h1, h2 | ⟨g, cp, cur, hv, hg, hh, hr⟩⟩ := h
  · exact ⟨h1, .inl h2⟩
  · refine ⟨h1, .inr ⟨g, cp, cur, hv, hg, ?_, hr⟩⟩
    rw [hk g (by rw [hv]; rfl)]
    exact hh

theorem there7 (V : World) (v0 v1 v2 v3 v4 v5 v6 : Value) (t : TypeId) : There (V.alloc (.cells #[v0, v1, v2, v3, v4, v5, v6] t)) V.heap.size 7 := fun o ho => by
  refine ⟨⟨#[v0, v1, v2, v3, v4, v5, v6][o]'(by simpa using ho), ?_⟩, World.frozen?_alloc_at _ _ _ _ rfl⟩
  rw [World.cell?_alloc_at _ _ _ _ rfl]
  exact Array.getElem?_eq_getElem _
/-- Block O holds a feature with the points v. -/
def OutAt (w : World) (O : Nat) (id la ki wi : Int) (v : Value) (lab : ByteArray) (pr : Int) : Prop := w.heap[O]? = some (Obj.cells #[.int .i64 id, .int .i64 la, .int .i64 ki, .int .i64 wi, v, .string lab, .int .i64 pr] 71 (0, 0))
theorem OutAt.cells {w : World} {O : Nat} {id la ki wi pr : Int} {v : Value} {lab : ByteArray} (h : OutAt w O id la ki wi v lab pr) :
    (w.cell? ⟨O, 0, none⟩ = some (.int .i64 id) ∧ w.cell? ⟨O, 1, none⟩ = some (.int .i64 la) ∧ w.cell? ⟨O, 2, none⟩ = some (.int .i64 ki) ∧ w.cell? ⟨O, 3, none⟩ = some (.int .i64 wi) ∧ w.cell? ⟨O, 4, none⟩ = some v ∧ w.cell? ⟨O, 5, none⟩ = some (.string lab) ∧ w.cell? ⟨O, 6, none⟩ = some (.int .i64 pr)) ∧ w.frozen? ⟨O, 4, none⟩ = false := by
  unfold OutAt at h
  refine ⟨⟨?_, ?_, ?_, ?_, ?_, ?_, ?_⟩, ?_⟩ <;> simp [World.cell?, World.frozen?, h]
theorem OutAt.lt {w : World} {O : Nat} {id la ki wi pr : Int} {v : Value} {lab : ByteArray} (h : OutAt w O id la ki wi v lab pr) : O < w.heap.size := lt_of_heap h
theorem There.out {w : World} {O r n : Nat} {x : Value} (h : There w r n) (hne : O ≠ r) : There (w.setCell ⟨O, 4, none⟩ x) r n := fun o ho => by
  obtain ⟨u, hu⟩ := (h o ho).1
  exact ⟨⟨u, by rw [set1_other (fun e => hne (by injection e))]; exact hu⟩, by rw [World.frozen?_setCell]; exact (h o ho).2⟩
theorem below7 {B r : Nat} {w W : World} {v0 v1 v2 v3 v4 v5 v6 : Value} (h : Below B w W) (hr : B ≤ r) : Below B w ((((((((W.setCell ⟨r, 0, none⟩ v0).setCell ⟨r, 1, none⟩ v1).setCell ⟨r, 2, none⟩ v2).setCell ⟨r, 3, none⟩ v3).setCell ⟨r, 4, none⟩ v4).setCell ⟨r, 5, none⟩ v5).setCell ⟨r, 6, none⟩ v6)) :=
  (((((((h.setCell (p := ⟨r, 0, none⟩) hr v0).setCell (p := ⟨r, 1, none⟩) hr v1).setCell (p := ⟨r, 2, none⟩) hr v2).setCell (p := ⟨r, 3, none⟩) hr v3).setCell (p := ⟨r, 4, none⟩) hr v4).setCell (p := ⟨r, 5, none⟩) hr v5).setCell (p := ⟨r, 6, none⟩) hr v6)
/-- What holds no points is as it was. -/
def NP (w w' : World) : Prop := ∀ (k : Nat) (cur : Array Value) (t : TypeId) (fz : Nat × Nat), w.heap[k]? = some (Obj.cells cur t fz) → t ≠ 96 → w'.heap[k]? = some (Obj.cells cur t fz)
theorem NP.refl (w : World) : NP w w := fun _ _ _ _ h _ => h
theorem NP.trans {a b c : World} (h : NP a b) (k : NP b c) : NP a c := fun i cur t fz h1 h2 => k i cur t fz (h i cur t fz h1 h2) h2
theorem NP.of_below {w w' : World} (h : Below w.heap.size w w') : NP w w' := fun k cur t fz h1 _ => (h.block k (lt_of_heap h1)).trans h1
theorem NP.of_grown {base : Nat} {w w' : World} {v : Value} {l : List (Int × Int)} (hR : Row base w v l) (hg : w.grownBy w' v.ownBlock) : NP w w' := fun k cur t fz h1 h2 => by
  refine (hg.block k (lt_of_heap h1) (fun e => ?_)).trans h1
  obtain ⟨cur', hc⟩ := heap_of_row hR k e.symm
  rw [h1] at hc
  injection hc with hc
  injection hc with _ hc2
  exact h2 hc2
theorem Row.other {base p o : Nat} {w : World} {v u : Value} {l : List (Int × Int)} {cur : Array Value} {t : TypeId} {fz : Nat × Nat} (h : Row base w v l) (hp : w.heap[p]? = some (Obj.cells cur t fz)) (ht : t ≠ 96) : Row base (w.setCell ⟨p, o, none⟩ u) v l := by
  refine ownsRow_of h fun g hg => Below.heap_setCell _ _ _ _ (fun e => ?_)
  obtain ⟨cur', hc⟩ := heap_of_row h g hg
  simp at e
  subst e
  rw [hp] at hc
  injection hc with hc
  injection hc with _ hc2
  exact ht hc2
theorem OutAt.set {w : World} {O : Nat} {id la ki wi pr : Int} {v v' : Value} {lab : ByteArray} (h : OutAt w O id la ki wi v lab pr) : OutAt (w.setCell ⟨O, 4, none⟩ v') O id la ki wi v' lab pr := by
  have := heap_setCell_same w O 4 _ 71 v' h
  simpa [OutAt] using this
theorem OutAt.below {w w' : World} {O : Nat} {id la ki wi pr : Int} {v : Value} {lab : ByteArray} (h : OutAt w O id la ki wi v lab pr) (hb : Below w.heap.size w w') : OutAt w' O id la ki wi v lab pr := (hb.block O h.lt).trans h
theorem OutAt.np {w w' : World} {O : Nat} {id la ki wi pr : Int} {v : Value} {lab : ByteArray} (h : OutAt w O id la ki wi v lab pr) (hn : NP w w') : OutAt w' O id la ki wi v lab pr := hn _ _ _ _ h (by decide)
theorem Row.out {base : Nat} {w : World} {O : Nat} {id la ki wi pr : Int} {v u x : Value} {lab : ByteArray} {l : List (Int × Int)} (h : Row base w u l) (ho : OutAt w O id la ki wi v lab pr) : Row base (w.setCell ⟨O, 4, none⟩ x) u l := Row.other h ho (by decide)
theorem Row.wide {base B : Nat} {w : World} {v : Value} {l : List (Int × Int)} (h : Row base w v l) (hB : B ≤ base) : Row B w v l := by
  obtain ⟨h1, h2 | ⟨g, cp, cur, hv, hg, hr⟩⟩ := h
  · exact ⟨h1, .inl h2⟩
  · exact ⟨h1, .inr ⟨g, cp, cur, hv, by omega, hr⟩⟩
theorem Row.no (base : Nat) (w : World) : Row base w (.slice none 0 0) [] := World.ownsRow_nil _ _ _ _
/-- A row that is not empty. -/
theorem Row.at {base : Nat} {w : World} {v : Value} {l : List (Int × Int)} (h : Row base w v l) (hne : 0 < l.length) :
    ∃ g cap, v = .slice (some ⟨g, 0, none⟩) l.length cap ∧ base ≤ g ∧ g < w.heap.size ∧ l.length ≤ cap ∧ PtsAt w g 0 l.length (px l) (py l) := by
  obtain ⟨a, cap, hv, hc, h0 | ⟨b, rfl, hb, hl, hp, ht⟩⟩ := h.own
  · omega
  · exact ⟨b, cap, hv, hb, hl, hc, hp⟩
theorem Row.set7 {base B r : Nat} {w : World} {v : Value} {l : List (Int × Int)} {v0 v1 v2 v3 v4 v5 v6 : Value} (h : Row base w v l) (hB : B ≤ base) (hr : r < base) : Row B ((((((((w.setCell ⟨r, 0, none⟩ v0).setCell ⟨r, 1, none⟩ v1).setCell ⟨r, 2, none⟩ v2).setCell ⟨r, 3, none⟩ v3).setCell ⟨r, 4, none⟩ v4).setCell ⟨r, 5, none⟩ v5).setCell ⟨r, 6, none⟩ v6)) v l := by
  obtain ⟨h1, h2 | ⟨g, cp, cur, hv, hg, hh, hr'⟩⟩ := h
  · exact ⟨h1, .inl h2⟩
  · refine ⟨h1, .inr ⟨g, cp, cur, hv, by omega, ?_, hr'⟩⟩
    rw [Below.heap_setCell _ _ _ _ (by simp; omega), Below.heap_setCell _ _ _ _ (by simp; omega), Below.heap_setCell _ _ _ _ (by simp; omega), Below.heap_setCell _ _ _ _ (by simp; omega), Below.heap_setCell _ _ _ _ (by simp; omega), Below.heap_setCell _ _ _ _ (by simp; omega), Below.heap_setCell _ _ _ _ (by simp; omega)]
    exact hh
end Go.Proofs.YtaodbplepegapaaGreat
/- Whether a number is within bounds, whether a point is in the world. -/

namespace Go.Proofs.YtaodbplepegapaaGreat
open Go.RowKit
set_option linter.unusedSimpArgs false
set_option linter.unusedVariables false

theorem isWithin_any (v lo hi : Int) (w : World) : Calls Tryz.prog 75 #[.int .i64 v, .int .i64 lo, .int .i64 hi] w fun e w' => e = .returned (.bool (inB v lo hi)) ∧ w' = w := by
  unfold inB
  go_enter Tryz.func75, Tryz.ntmps75
  by_cases h1 : lo ≤ v
  · go_wp2
    all_goals (go_ret; exact ⟨ret_bool (by simp [h1]), rfl⟩)
  · have h2 : decide (lo ≤ v) = false := by simpa using h1
    go_wp2
    all_goals (go_ret; exact ⟨ret_bool (by simp [h1]), rfl⟩)

/-- A point that a feature may have. -/
def inW (x y : Int) : Bool := inB x 0 1024 && inB y 0 1024
theorem isInWorld_any (x y : Int) (w : World) : Calls Tryz.prog 124 #[.agg #[.int .i64 x, .int .i64 y]] w fun e w' => e = .returned (.bool (inW x y)) ∧ Below w.heap.size w w' := by
  unfold inW
  cases h1 : inB x 0 1024 <;> cases h2 : inB y 0 1024
  all_goals
    go_enter Tryz.func124, Tryz.ntmps124
    go_wp2_with (go_at_call 75; refine (isWithin_any _ _ _ _).mono ?_; rintro e w' ⟨rfl, rfl⟩)
    all_goals (go_ret; exact ⟨ret_bool (by simp [h1, h2]), by (repeat (first | exact Below.refl _ _ | assumption | refine Below.drew ?_ | refine bl_alloc ?_ _ | refine bl_then ?_ (by assumption) | refine Below.setCell ?_ (by first | omega | (simp; done) | (simp; omega)) _ | refine bl_store ?_ ?_ _ _))⟩)
end Go.Proofs.YtaodbplepegapaaGreat
/- How much of the world a pixel has at a zoom, and its grid. -/

namespace Go.Proofs.YtaodbplepegapaaGreat
open Go.RowKit
set_option linter.unusedSimpArgs false
set_option linter.unusedVariables false

/-- A zoom. -/
def zoomB (z : Int) : Bool := inB z 0 3
theorem zoomB_cases {z : Int} (h : zoomB z = true) : z = 0 ∨ z = 1 ∨ z = 2 ∨ z = 3 := by
  simp [zoomB, inB] at h
  omega
/-- What a pixel has of the world. -/
def unitI (z : Int) : Int := if z = 0 then 128 else if z = 1 then 64 else if z = 2 then 32 else 16
/-- The answer of UnitAt. -/
def unitV (z : Int) : Value := if zoomB z = true then .agg #[.int .i64 0, .int .i64 (unitI z)] else .agg #[.int .i64 3, .int .i64 0]

theorem isZoom_any (z : Int) (w : World) : Calls Tryz.prog 36 #[.int .i64 z] w fun e w' => e = .returned (.bool (zoomB z)) ∧ w = w' := by
  unfold zoomB
  go_enter Tryz.func36, Tryz.ntmps36
  go_wp2_with (go_at_call 75; refine (isWithin_any _ _ _ _).mono ?_; rintro e w' ⟨rfl, rfl⟩)
  go_ret
  exact ⟨rfl, rfl⟩
theorem impl_UnitAt_any (z : Int) (w : World) : Calls Tryz.prog 92 #[.int .i64 z] w fun e w' => e = .returned (unitV z) ∧ Below w.heap.size w w' := by
  cases h : zoomB z
  · go_enter Tryz.func92, Tryz.ntmps92
    go_wp2_with (go_at_call 36; refine (isZoom_any _ _).mono ?_; rintro e w' ⟨rfl, rfl⟩)
    exact bodyPost_ret (v := .agg #[.int .i64 3, .int .i64 0]) (by simp [results, Tryz.results92, go_sem]) rfl ⟨by simp [unitV, h], by (repeat (first | exact Below.refl _ _ | assumption | refine Below.drew ?_ | refine bl_alloc ?_ _ | refine bl_then ?_ (by assumption) | refine Below.setCell ?_ (by first | omega | (simp; done) | (simp; omega)) _ | refine bl_store ?_ ?_ _ _))⟩
  · rcases zoomB_cases h with rfl | rfl | rfl | rfl
    all_goals
      go_enter Tryz.func92, Tryz.ntmps92
      go_wp2_with (go_at_call 36; refine (isZoom_any _ _).mono ?_; rintro e w' ⟨rfl, rfl⟩)
      first
        | exact bodyPost_ret (v := .agg #[.int .i64 0, .int .i64 128]) (by simp [results, Tryz.results92, go_sem]; done) rfl ⟨rfl, by (repeat (first | exact Below.refl _ _ | assumption | refine Below.drew ?_ | refine bl_alloc ?_ _ | refine bl_then ?_ (by assumption) | refine Below.setCell ?_ (by first | omega | (simp; done) | (simp; omega)) _ | refine bl_store ?_ ?_ _ _))⟩
        | exact bodyPost_ret (v := .agg #[.int .i64 0, .int .i64 64]) (by simp [results, Tryz.results92, go_sem]; done) rfl ⟨rfl, by (repeat (first | exact Below.refl _ _ | assumption | refine Below.drew ?_ | refine bl_alloc ?_ _ | refine bl_then ?_ (by assumption) | refine Below.setCell ?_ (by first | omega | (simp; done) | (simp; omega)) _ | refine bl_store ?_ ?_ _ _))⟩
        | exact bodyPost_ret (v := .agg #[.int .i64 0, .int .i64 32]) (by simp [results, Tryz.results92, go_sem]; done) rfl ⟨rfl, by (repeat (first | exact Below.refl _ _ | assumption | refine Below.drew ?_ | refine bl_alloc ?_ _ | refine bl_then ?_ (by assumption) | refine Below.setCell ?_ (by first | omega | (simp; done) | (simp; omega)) _ | refine bl_store ?_ ?_ _ _))⟩
        | exact bodyPost_ret (v := .agg #[.int .i64 0, .int .i64 16]) (by simp [results, Tryz.results92, go_sem]; done) rfl ⟨rfl, by (repeat (first | exact Below.refl _ _ | assumption | refine Below.drew ?_ | refine bl_alloc ?_ _ | refine bl_then ?_ (by assumption) | refine Below.setCell ?_ (by first | omega | (simp; done) | (simp; omega)) _ | refine bl_store ?_ ?_ _ _))⟩
theorem l3Zoom_any (z : Int) (w : World) : Calls Tryz.prog 30 #[.int .i64 z] w fun e w' => e = .returned (.bool (zoomB z)) ∧ w = w' := by
  unfold zoomB
  go_enter Tryz.func30, Tryz.ntmps30
  go_wp2_with (go_at_call 67; refine (l1In_any _ _ _ _).mono ?_; rintro e w' ⟨rfl, rfl⟩)
  go_ret
  exact ⟨rfl, rfl⟩
theorem l3Unit_any (z : Int) (w : World) (h : zoomB z = true) : Calls Tryz.prog 131 #[.int .i64 z] w fun e w' => e = .returned (.int .i64 (unitI z)) ∧ w = w' := by
  rcases zoomB_cases h with rfl | rfl | rfl | rfl
  all_goals
    go_enter Tryz.func131, Tryz.ntmps131
    go_wp2
    go_ret
    exact ⟨rfl, rfl⟩
end Go.Proofs.YtaodbplepegapaaGreat
