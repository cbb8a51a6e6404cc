/- A feature with fewer points: what it is. -/
import Derived.Test.YtdohlnnbibnnbaaGreatVPlaceLabels28
import Derived.Test.YtdohlnnbibnnbaaGreatVPlaceLabels5
import Derived.Test.YtdohlnnbibnnbaaGreatVPlaceLabels29
namespace Go.Proofs.YtdohlnnbibnnbaaGreat
open Go.RowKit
set_option linter.unusedSimpArgs false
set_option linter.unusedVariables false

/-- The code of SimpleAt. -/
def simpC (z fc : Int) : Int := if zoomB z = true then fc else 3
/-- The points ahead of the filling. -/
def simpT (ki z : Int) (n : Nat) (X Y : Nat → Int) (L : List Nat) : List (Int × Int) :=
  if ki = 2 then ptsOf (px (snapL X Y z n)) (py (snapL X Y z n)) (thinP (snapL X Y z n).length L) else if ki = 3 then openL (snapL X Y z n) else snapL X Y z n
/-- The points of SimpleAt. -/
def simpR (C ki z : Int) (n : Nat) (X Y : Nat → Int) (L : List Nat) : List (Int × Int) := if C = 0 then fillL ki.toNat (simpT ki z n X Y L) else []
/-- Beside a code all else is zero. -/
def zI (C x : Int) : Int := if C = 0 then x else 0
def zS (C : Int) (s : ByteArray) : ByteArray := if C = 0 then s else ⟨#[]⟩
theorem zI_no {C x : Int} (h : C ≠ 0) : zI C x = 0 := by simp [zI, h]
theorem zS_no {C : Int} {s : ByteArray} (h : C ≠ 0) : zS C s = ⟨#[]⟩ := by simp [zS, h]
/-- Snapped points: how many, and where. -/
theorem snapL_pos (X Y : Nat → Int) (z : Int) (n : Nat) (hn : 0 < n) : 0 < (snapL X Y z n).length := by
  cases n with
  | zero => omega
  | succ k =>
    unfold snapL
    split
    · rename_i h
      cases hs : snapL X Y z k with
      | nil => rw [hs] at h; cases h
      | cons p l => simp
    · simp
theorem snapL_in (X Y : Nat → Int) (z : Int) (hz : zoomB z = true) : ∀ n, (∀ i, i < n → inW (X i) (Y i) = true) → ∀ p ∈ snapL X Y z n, inW p.1 p.2 = true
  | 0, _ => fun p hp => by cases hp
  | k + 1, h => fun p hp => by
    have ih := snapL_in X Y z hz k (fun i hi => h i (by omega))
    unfold snapL at hp
    split at hp
    · exact ih p hp
    · rcases List.mem_append.1 hp with hp | hp
      · exact ih p hp
      · simp at hp
        subst hp
        obtain ⟨⟨a1, a2⟩, a3, a4⟩ := inW_bd (h k (by omega))
        have hg : ∀ v : Int, 0 ≤ v → v ≤ 1024 → 0 ≤ snapI z v ∧ snapI z v ≤ 1024 := fun v h0 h1 => by
          rcases zoomB_cases hz with rfl | rfl | rfl | rfl
          all_goals
            simp only [snapI, show gridI 0 = 32 from rfl, show gridI 1 = 16 from rfl, show gridI 2 = 8 from rfl, show gridI 3 = 4 from rfl]
            omega
        have g1 := hg _ a1 a2
        have g2 := hg _ a3 a4
        simp [inW, inB]
        omega
theorem snapL_ok (X Y : Nat → Int) (z : Int) (hz : zoomB z = true) (n : Nat) (h : ∀ i, i < n → inW (X i) (Y i) = true) : ∀ i, i < (snapL X Y z n).length → okP (px (snapL X Y z n) i) (py (snapL X Y z n) i) = true := fun i hi => by
  have := snapL_in X Y z hz n h ((snapL X Y z n)[i]) (List.getElem_mem hi)
  have e1 : px (snapL X Y z n) i = ((snapL X Y z n)[i]).1 := by simp [px, List.getD_eq_getElem?_getD, List.getElem?_eq_getElem hi]
  have e2 : py (snapL X Y z n) i = ((snapL X Y z n)[i]).2 := by simp [py, List.getD_eq_getElem?_getD, List.getElem?_eq_getElem hi]
  rw [e1, e2]
  exact inW_ok this
theorem grid_bd {z : Int} (hz : zoomB z = true) : 4 ≤ gridI z ∧ gridI z ≤ 32 := by
  rcases zoomB_cases hz with rfl | rfl | rfl | rfl <;> decide
theorem thin_zero (X Y : Nat → Int) (z : Int) (hz : zoomB z = true) (n : Nat) (hn : n ≤ 12) (h : ∀ i, i < n → inW (X i) (Y i) = true) : thinC (gridI z) (snapL X Y z n).length (px (snapL X Y z n)) (py (snapL X Y z n)) = 0 := by
  obtain ⟨g1, g2⟩ := grid_bd hz
  have hl := snapL_len X Y z n
  unfold thinC
  rw [if_pos (by simp [inB]; omega), if_pos (by omega), codeN_ok (snapL_ok X Y z hz n h)]
theorem simpT_len (ki z : Int) (n : Nat) (X Y : Nat → Int) (L : List Nat) (hn : 0 < n) (hn' : n ≤ 12) (hL : 3 ≤ (snapL X Y z n).length → Thin (px (snapL X Y z n)) (py (snapL X Y z n)) (gridI z) 0 ((snapL X Y z n).length - 1) L) :
    0 < (simpT ki z n X Y L).length ∧ (simpT ki z n X Y L).length ≤ 12 := by
  have h1 := snapL_len X Y z n
  have h2 := snapL_pos X Y z n hn
  unfold simpT
  split
  · unfold ptsOf thinP
    rw [List.length_map]
    split
    · simp; omega
    · have := ((hL (by omega)).len _ _ (by omega)).1
      simp
      omega
  · split
    · unfold openL
      split
      · rw [List.length_dropLast]; omega
      · omega
    · omega
/-- Eight stores into one block, read back. -/
theorem set8_at {W : World} {r : Nat} {v0 v1 v2 v3 v4 v5 v6 v7 : Value} (hT : There W r 8) :
    ((((((((W.setCell ⟨r, 0, none⟩ v0).setCell ⟨r, 1, none⟩ v1).setCell ⟨r, 2, none⟩ v2).setCell ⟨r, 3, none⟩ v3).setCell ⟨r, 4, none⟩ v4).setCell ⟨r, 5, none⟩ v5).setCell ⟨r, 6, none⟩ v6).setCell ⟨r, 7, none⟩ v7).cell? ⟨r, 0, none⟩ = some v0 ∧
    ((((((((W.setCell ⟨r, 0, none⟩ v0).setCell ⟨r, 1, none⟩ v1).setCell ⟨r, 2, none⟩ v2).setCell ⟨r, 3, none⟩ v3).setCell ⟨r, 4, none⟩ v4).setCell ⟨r, 5, none⟩ v5).setCell ⟨r, 6, none⟩ v6).setCell ⟨r, 7, none⟩ v7).cell? ⟨r, 1, none⟩ = some v1 ∧
    ((((((((W.setCell ⟨r, 0, none⟩ v0).setCell ⟨r, 1, none⟩ v1).setCell ⟨r, 2, none⟩ v2).setCell ⟨r, 3, none⟩ v3).setCell ⟨r, 4, none⟩ v4).setCell ⟨r, 5, none⟩ v5).setCell ⟨r, 6, none⟩ v6).setCell ⟨r, 7, none⟩ v7).cell? ⟨r, 2, none⟩ = some v2 ∧
    ((((((((W.setCell ⟨r, 0, none⟩ v0).setCell ⟨r, 1, none⟩ v1).setCell ⟨r, 2, none⟩ v2).setCell ⟨r, 3, none⟩ v3).setCell ⟨r, 4, none⟩ v4).setCell ⟨r, 5, none⟩ v5).setCell ⟨r, 6, none⟩ v6).setCell ⟨r, 7, none⟩ v7).cell? ⟨r, 3, none⟩ = some v3 ∧
    ((((((((W.setCell ⟨r, 0, none⟩ v0).setCell ⟨r, 1, none⟩ v1).setCell ⟨r, 2, none⟩ v2).setCell ⟨r, 3, none⟩ v3).setCell ⟨r, 4, none⟩ v4).setCell ⟨r, 5, none⟩ v5).setCell ⟨r, 6, none⟩ v6).setCell ⟨r, 7, none⟩ v7).cell? ⟨r, 4, none⟩ = some v4 ∧
    ((((((((W.setCell ⟨r, 0, none⟩ v0).setCell ⟨r, 1, none⟩ v1).setCell ⟨r, 2, none⟩ v2).setCell ⟨r, 3, none⟩ v3).setCell ⟨r, 4, none⟩ v4).setCell ⟨r, 5, none⟩ v5).setCell ⟨r, 6, none⟩ v6).setCell ⟨r, 7, none⟩ v7).cell? ⟨r, 5, none⟩ = some v5 ∧
    ((((((((W.setCell ⟨r, 0, none⟩ v0).setCell ⟨r, 1, none⟩ v1).setCell ⟨r, 2, none⟩ v2).setCell ⟨r, 3, none⟩ v3).setCell ⟨r, 4, none⟩ v4).setCell ⟨r, 5, none⟩ v5).setCell ⟨r, 6, none⟩ v6).setCell ⟨r, 7, none⟩ v7).cell? ⟨r, 6, none⟩ = some v6 ∧
    ((((((((W.setCell ⟨r, 0, none⟩ v0).setCell ⟨r, 1, none⟩ v1).setCell ⟨r, 2, none⟩ v2).setCell ⟨r, 3, none⟩ v3).setCell ⟨r, 4, none⟩ v4).setCell ⟨r, 5, none⟩ v5).setCell ⟨r, 6, none⟩ v6).setCell ⟨r, 7, none⟩ v7).cell? ⟨r, 7, none⟩ = some v7 := by
  have ne : ∀ i j : Nat, i ≠ j → (⟨r, i, none⟩ : Addr) ≠ ⟨r, j, none⟩ := fun i j hij h => hij (by injection h)
  obtain ⟨x0, h0⟩ := (hT 0 (by omega)).1
  obtain ⟨x1, h1⟩ := (hT 1 (by omega)).1
  obtain ⟨x2, h2⟩ := (hT 2 (by omega)).1
  obtain ⟨x3, h3⟩ := (hT 3 (by omega)).1
  obtain ⟨x4, h4⟩ := (hT 4 (by omega)).1
  obtain ⟨x5, h5⟩ := (hT 5 (by omega)).1
  obtain ⟨x6, h6⟩ := (hT 6 (by omega)).1
  obtain ⟨x7, h7⟩ := (hT 7 (by omega)).1
  refine ⟨?_, ?_, ?_, ?_, ?_, ?_, ?_, ?_⟩
  · rw [set1_other (ne 7 0 (by omega)), set1_other (ne 6 0 (by omega)), set1_other (ne 5 0 (by omega)), set1_other (ne 4 0 (by omega)), set1_other (ne 3 0 (by omega)), set1_other (ne 2 0 (by omega)), set1_other (ne 1 0 (by omega))]; exact set1_same h0
  · rw [set1_other (ne 7 1 (by omega)), set1_other (ne 6 1 (by omega)), set1_other (ne 5 1 (by omega)), set1_other (ne 4 1 (by omega)), set1_other (ne 3 1 (by omega)), set1_other (ne 2 1 (by omega))]; exact set1_same (by rw [set1_other (ne 0 1 (by omega))]; exact h1)
  · rw [set1_other (ne 7 2 (by omega)), set1_other (ne 6 2 (by omega)), set1_other (ne 5 2 (by omega)), set1_other (ne 4 2 (by omega)), set1_other (ne 3 2 (by omega))]; exact set1_same (by rw [set1_other (ne 1 2 (by omega)), set1_other (ne 0 2 (by omega))]; exact h2)
  · rw [set1_other (ne 7 3 (by omega)), set1_other (ne 6 3 (by omega)), set1_other (ne 5 3 (by omega)), set1_other (ne 4 3 (by omega))]; exact set1_same (by rw [set1_other (ne 2 3 (by omega)), set1_other (ne 1 3 (by omega)), set1_other (ne 0 3 (by omega))]; exact h3)
  · rw [set1_other (ne 7 4 (by omega)), set1_other (ne 6 4 (by omega)), set1_other (ne 5 4 (by omega))]; exact set1_same (by rw [set1_other (ne 3 4 (by omega)), set1_other (ne 2 4 (by omega)), set1_other (ne 1 4 (by omega)), set1_other (ne 0 4 (by omega))]; exact h4)
  · rw [set1_other (ne 7 5 (by omega)), set1_other (ne 6 5 (by omega))]; exact set1_same (by rw [set1_other (ne 4 5 (by omega)), set1_other (ne 3 5 (by omega)), set1_other (ne 2 5 (by omega)), set1_other (ne 1 5 (by omega)), set1_other (ne 0 5 (by omega))]; exact h5)
  · rw [set1_other (ne 7 6 (by omega))]; exact set1_same (by rw [set1_other (ne 5 6 (by omega)), set1_other (ne 4 6 (by omega)), set1_other (ne 3 6 (by omega)), set1_other (ne 2 6 (by omega)), set1_other (ne 1 6 (by omega)), set1_other (ne 0 6 (by omega))]; exact h6)
  · exact set1_same (by rw [set1_other (ne 6 7 (by omega)), set1_other (ne 5 7 (by omega)), set1_other (ne 4 7 (by omega)), set1_other (ne 3 7 (by omega)), set1_other (ne 2 7 (by omega)), set1_other (ne 1 7 (by omega)), set1_other (ne 0 7 (by omega))]; exact h7)

theorem res8 (T : Array Value) (Wf : World) (r : Nat) (v0 v1 v2 v3 v4 v5 v6 v7 : Value) (hT : T[4]?.getD undef = .pointer (some ⟨r, 0, none⟩)) (h0 : Wf.cell? ⟨r, 0, none⟩ = some v0) (h1 : Wf.cell? ⟨r, 1, none⟩ = some v1) (h2 : Wf.cell? ⟨r, 2, none⟩ = some v2) (h3 : Wf.cell? ⟨r, 3, none⟩ = some v3) (h4 : Wf.cell? ⟨r, 4, none⟩ = some v4) (h5 : Wf.cell? ⟨r, 5, none⟩ = some v5) (h6 : Wf.cell? ⟨r, 6, none⟩ = some v6) (h7 : Wf.cell? ⟨r, 7, none⟩ = some v7) :
    (results Tryz.f28 T).run Tryz.prog Wf = .ok (.agg #[v0, v1, v2, v3, v4, v5, v6, v7]) Wf := by
  simp [results, Tryz.results28, go_sem, hT, h0, h1, h2, h3, h4, h5, h6, h7]
theorem there8 (V : World) (v0 v1 v2 v3 v4 v5 v6 v7 : Value) (t : TypeId) : There (V.alloc (.cells #[v0, v1, v2, v3, v4, v5, v6, v7] t)) V.heap.size 8 := fun o ho => by
  refine ⟨⟨#[v0, v1, v2, v3, v4, v5, v6, v7][o]'(by simpa using ho), ?_⟩, World.frozen?_alloc_at _ _ _ _ rfl⟩
  rw [World.cell?_alloc_at _ _ _ _ rfl]
  exact Array.getElem?_eq_getElem _
theorem below8 {B r : Nat} {w W : World} {v0 v1 v2 v3 v4 v5 v6 v7 : Value} (h : Below B w W) (hr : B ≤ r) : Below B w (((((((((W.setCell ⟨r, 0, none⟩ v0).setCell ⟨r, 1, none⟩ v1).setCell ⟨r, 2, none⟩ v2).setCell ⟨r, 3, none⟩ v3).setCell ⟨r, 4, none⟩ v4).setCell ⟨r, 5, none⟩ v5).setCell ⟨r, 6, none⟩ v6).setCell ⟨r, 7, none⟩ v7)) :=
  ((((((((h.setCell (p := ⟨r, 0, none⟩) hr v0).setCell (p := ⟨r, 1, none⟩) hr v1).setCell (p := ⟨r, 2, none⟩) hr v2).setCell (p := ⟨r, 3, none⟩) hr v3).setCell (p := ⟨r, 4, none⟩) hr v4).setCell (p := ⟨r, 5, none⟩) hr v5).setCell (p := ⟨r, 6, none⟩) hr v6).setCell (p := ⟨r, 7, none⟩) hr v7)
theorem Row.set8 {base B r : Nat} {w : World} {v : Value} {l : List (Int × Int)} {v0 v1 v2 v3 v4 v5 v6 v7 : Value} (h : Row base w v l) (hB : B ≤ base) (hr : r < base) : Row B (((((((((w.setCell ⟨r, 0, none⟩ v0).setCell ⟨r, 1, none⟩ v1).setCell ⟨r, 2, none⟩ v2).setCell ⟨r, 3, none⟩ v3).setCell ⟨r, 4, none⟩ v4).setCell ⟨r, 5, none⟩ v5).setCell ⟨r, 6, none⟩ v6).setCell ⟨r, 7, none⟩ v7)) v l := by
  obtain ⟨h1, h2 | ⟨g, cp, cur, hv, hg, hh, hr'⟩⟩ := h
  · exact ⟨h1, .inl h2⟩
  · refine ⟨h1, .inr ⟨g, cp, cur, hv, by omega, ?_, hr'⟩⟩
    rw [Below.heap_setCell _ _ _ _ (by simp; omega), Below.heap_setCell _ _ _ _ (by simp; omega), Below.heap_setCell _ _ _ _ (by simp; omega), Below.heap_setCell _ _ _ _ (by simp; omega), Below.heap_setCell _ _ _ _ (by simp; omega), Below.heap_setCell _ _ _ _ (by simp; omega), Below.heap_setCell _ _ _ _ (by simp; omega), Below.heap_setCell _ _ _ _ (by simp; omega)]
    exact hh

set_option maxRecDepth 8000 in
set_option maxHeartbeats 4000000 in
theorem impl_SimpleAt_any {off : Nat} (id la ki wi z : Int) (b n cap : Nat) (X Y : Nat → Int) (lab : ByteArray) (pr : Int) (L : List Nat) (w : World) (hp : PtsAt w b off n X Y) (hbl : b < w.heap.size) (hn : n ≤ 1048576) (hcap : n ≤ cap) (hl : lab.size ≤ 1048576)
    (hL : 3 ≤ (snapL X Y z n).length → Thin (px (snapL X Y z n)) (py (snapL X Y z n)) (gridI z) 0 ((snapL X Y z n).length - 1) L) (C : Int) (hC : C = simpC z (featC id la ki wi n X Y lab pr)) :
    Calls Tryz.prog 28 #[.agg #[.int .i64 id, .int .i64 la, .int .i64 ki, .int .i64 wi, .slice (some ⟨b, off, none⟩) n cap, .string lab, .int .i64 pr], .int .i64 z] w fun e w' => ∃ v, e = .returned (.agg #[.int .i64 C, .int .i64 (zI C id), .int .i64 (zI C la), .int .i64 (zI C ki), .int .i64 (zI C wi), v, .string (zS C lab), .int .i64 (zI C pr)]) ∧ Row w.heap.size w' v (simpR C ki z n X Y L) ∧ Below w.heap.size w w' := by
  have HP : Hid (PtsAt w b off n X Y) := hp
  have HL := (show Hid _ from hL)
  have HC : Hid (C = simpC z (featC id la ki wi n X Y lab pr)) := hC
  clear hp hL hC
  go_enter Tryz.func28, Tryz.ntmps28
  go_wp2_with fail
  generalize hW : ((w.alloc _).alloc _ : World) = W
  have HB0 : Hid (Below w.heap.size w W) := by show Below _ _ _; subst hW; (repeat (first | exact Below.refl _ _ | assumption | refine Below.drew ?_ | refine bl_alloc ?_ _ | refine bl_then ?_ (by assumption) | refine Below.setCell ?_ (by first | omega | (simp; done) | (simp; omega)) _ | refine bl_store ?_ ?_ _ _))
  have HT : Hid (There W (w.heap.size + 1) 8) := by
    show There _ _ _
    subst hW
    have := there8 (w.alloc (.cells #[.int .i64 id, .int .i64 la, .int .i64 ki, .int .i64 wi, .slice (some ⟨b, off, none⟩) n cap, .string lab, .int .i64 pr] 36)) (.int .i64 0) (.int .i64 0) (.int .i64 0) (.int .i64 0) (.int .i64 0) (.slice none 0 0) (.string ⟨#[]⟩) (.int .i64 0) 61
    simpa using this
  have HF : Hid (FeatAt W w.heap.size 0 id la ki wi (.slice (some ⟨b, off, none⟩) n cap) lab pr) := by
    show FeatAt _ _ _ _ _ _ _ _ _ _
    subst hW
    refine ⟨?_, ?_, ?_, ?_, ?_, ?_, ?_⟩ <;> simp [go_sem]
  have hsz : w.heap.size + 1 < W.heap.size := by subst hW; simp
  clear hW
  refine (isZoom_any _ _).mono ?_
  rintro e w' ⟨rfl, rfl⟩
  cases h : zoomB z
  · have HCn : Hid (C ≠ 0) := by show _ ≠ _; rw [HC.out]; simp [simpC, h]
    have HCv : Hid (C = 3) := by show _ = _; rw [HC.out]; simp [simpC, h]
    have hT' := HT.out
    have HT' := (show Hid _ from hT')
    have t0 := hT'.cell 0 (by omega)
    have t1 := hT'.cell 1 (by omega)
    have t2 := hT'.cell 2 (by omega)
    have t3 := hT'.cell 3 (by omega)
    have t4 := hT'.cell 4 (by omega)
    have t5 := hT'.cell 5 (by omega)
    have t6 := hT'.cell 6 (by omega)
    have t7 := hT'.cell 7 (by omega)
    have z0 := (hT' 0 (by omega)).2
    have z1 := (hT' 1 (by omega)).2
    have z2 := (hT' 2 (by omega)).2
    have z3 := (hT' 3 (by omega)).2
    have z4 := (hT' 4 (by omega)).2
    have z5 := (hT' 5 (by omega)).2
    have z6 := (hT' 6 (by omega)).2
    have z7 := (hT' 7 (by omega)).2
    clear hT'
    go_wp2_with fail
    obtain ⟨y0, y1, y2, y3, y4, y5, y6, y7⟩ := set8_at (v0 := .int .i64 3) (v1 := .int .i64 0) (v2 := .int .i64 0) (v3 := .int .i64 0) (v4 := .int .i64 0) (v5 := .slice none 0 0) (v6 := .string ⟨#[]⟩) (v7 := .int .i64 0) HT'.out
    refine bodyPost_ret (res8 _ _ (w.heap.size + 1) _ _ _ _ _ _ _ _ rfl y0 y1 y2 y3 y4 y5 y6 y7) rfl ⟨.slice none 0 0, ?_, ?_, below8 HB0.out (Nat.le_succ _)⟩
    · rw [zI_no HCn.out, zI_no HCn.out, zI_no HCn.out, zI_no HCn.out, zI_no HCn.out, zS_no HCn.out, HCv.out]
    · rw [simpR, if_neg HCn.out]; exact Row.no _ _
  · obtain ⟨q0, q1, q2, q3, q4, q5, q6⟩ := HF.out
    simp only [Nat.zero_add] at q0 q1 q2 q3 q4 q5 q6
    go_wp2_with fail
    refine (FeatureFault_any id la ki wi _ n cap X Y lab pr W (.inr ⟨b, off, rfl, Nat.lt_of_lt_of_le hbl HB0.out.size, HP.out.below HB0.out hbl⟩) hl hn).mono ?_
    rintro e w1 ⟨rfl, hb1⟩
    have HB1 : Hid (Below w.heap.size w w1) := bl_then HB0.out hb1
    have HF1 : Hid (FeatAt w1 w.heap.size 0 id la ki wi (.slice (some ⟨b, off, none⟩) n cap) lab pr) := HF.out.below hb1 (by omega)
    have HT1 : Hid (There w1 (w.heap.size + 1) 8) := HT.out.below hb1
    have hsz1 := hb1.size
    clear hb1 q0 q1 q2 q3 q4 q5 q6
    by_cases hfc : featC id la ki wi n X Y lab pr = 0
    · have HCz : Hid (C = 0) := by show _ = _; rw [HC.out]; simp [simpC, h, hfc]
      obtain ⟨hk3, hn0, hn12, hkn, hin, hl6⟩ := featC_zero hfc
      have HIN : Hid (∀ i, i < n → inW (X i) (Y i) = true) := hin
      have hsc : snapC z n X Y = 0 := by simp [snapC, h, hn12, allIn_ok hin]
      have hsr : snapR z n X Y = snapL X Y z n := by simp [snapR, hsc]
      have HSC : Hid (snapC z n X Y = 0 ∧ snapR z n X Y = snapL X Y z n) := ⟨hsc, hsr⟩
      rw [hfc]
      clear hfc hin hsc hsr
      obtain ⟨q0, q1, q2, q3, q4, q5, q6⟩ := HF1.out
      simp only [Nat.zero_add] at q0 q1 q2 q3 q4 q5 q6
      go_wp2_with fail
      refine (impl_SnapAll_any b n cap X Y z w1 (HP.out.below HB1.out hbl) (Nat.lt_of_lt_of_le hbl HB1.out.size) hn).mono ?_
      rintro e w2 ⟨v2, rfl, hR2, hb2⟩
      rw [HSC.out.1, HSC.out.2] at *
      have hS0 := snapL_pos X Y z n hn0
      have hSl := snapL_len X Y z n
      have HR2 : Hid (Row w1.heap.size w2 v2 (snapL X Y z n)) := hR2
      obtain ⟨g, cg, _, _, hv2, _, hg2, hcg, _, _, _⟩ := hR2.last hS0
      have HB2 : Hid (Below w.heap.size w w2) := bl_then HB1.out hb2
      have HF2 : Hid (FeatAt w2 w.heap.size 0 id la ki wi (.slice (some ⟨b, off, none⟩) n cap) lab pr) := HF1.out.below hb2 (by omega)
      have HT2 : Hid (There w2 (w.heap.size + 1) 8) := HT1.out.below hb2
      have hsz2 := hb2.size
      obtain ⟨N, hN⟩ : ∃ N, N = (snapL X Y z n).length := ⟨_, rfl⟩
      have HN : Hid (N = (snapL X Y z n).length) := hN
      rw [← hN] at hv2 hS0 hSl hcg
      subst hv2
      have j1 : ∀ w, (Instr.field 99 (.agg #[.int .i64 0, .slice (some ⟨g, 0, none⟩) N cg]) 1).run Tryz.prog w = .ok (.slice (some ⟨g, 0, none⟩) N cg) w := fun _ => by kernel_rfl
      clear hR2 hb2 hN q0 q1 q2 q3 q4 q5 q6 HF1 HT1 HF HT
      have HTL' : Hid (∀ kk : Int, 0 < (simpT kk z n X Y L).length ∧ (simpT kk z n X Y L).length ≤ 12) := fun kk => simpT_len kk z n X Y L hn0 hn12 HL.out
      rcases hk3 with rfl | rfl | rfl
      · have HTt : Hid (simpT 1 z n X Y L = snapL X Y z n) := by show _ = _; simp [simpT]
        obtain ⟨T, hT⟩ : ∃ T, T = snapL X Y z n := ⟨_, rfl⟩
        rw [← hT] at HR2 HTt
        have HTL : Hid (0 < T.length ∧ T.length ≤ 12) := by have := HTL'.out 1; rw [HTt.out] at this; exact this
        clear hT
        -- the copy, and the points as often as is needed
        obtain ⟨q0, q1, q2, q3, q4, q5, q6⟩ := HF2.out
        simp only [Nat.zero_add] at q0 q1 q2 q3 q4 q5 q6
        go_wp2_with fail
        refine (copyFeature_any id la 1 wi b n cap X Y lab pr w2 (HP.out.below HB2.out hbl) (Nat.lt_of_lt_of_le hbl (Below.size HB2.out)) hn hl).mono ?_
        rintro e w5 ⟨a5, c5, rfl, hb5⟩
        have HF5 : Hid (FeatAt w5 w.heap.size 0 id la 1 wi (.slice (some ⟨b, off, none⟩) n cap) lab pr) := FeatAt.below HF2.out hb5 (by omega)
        have HT5 : Hid (There w5 (w.heap.size + 1) 8) := There.below HT2.out hb5
        have HR5 : Hid (Row w1.heap.size w5 (.slice (some ⟨g, 0, none⟩) N cg) T) := Row.below HR2.out hb5
        have HB5 : Hid (Below w.heap.size w w5) := bl_then HB2.out hb5
        have hsz5 := hb5.size
        have hlw : w.heap.size < w5.heap.size := by omega
        have hlw1 : w.heap.size + 1 < w5.heap.size := by omega
        clear hb5 q0 q1 q2 q3 q4 q5 q6
        obtain ⟨q0, q1, q2, q3, q4, q5, q6⟩ := HF5.out
        simp only [Nat.zero_add] at q0 q1 q2 q3 q4 q5 q6
        go_wp2_with fail
        generalize hV : (w5.alloc _ : World) = V
        have hbV : Below w5.heap.size w5 V := by subst hV; (repeat (first | exact Below.refl _ _ | assumption | refine Below.drew ?_ | refine bl_alloc ?_ _ | refine bl_then ?_ (by assumption) | refine Below.setCell ?_ (by first | omega | (simp; done) | (simp; omega)) _ | refine bl_store ?_ ?_ _ _))
        have hVh : V.heap[w5.heap.size]? = some (.cells #[.int .i64 id, .int .i64 la, .int .i64 1, .int .i64 wi, .slice a5 n c5, .string lab, .int .i64 pr] 36 (0, 0)) := by subst hV; exact heap_alloc_new w5 _
        have HVH := (show Hid _ from hVh)
        have HTV : Hid (There V (w.heap.size + 1) 8) := HT5.out.below hbV
        have HRV : Hid (Row w1.heap.size V (.slice (some ⟨g, 0, none⟩) N cg) T) := HR5.out.below hbV
        have HBV : Hid (Below w.heap.size w V) := bl_then HB5.out hbV
        have hszV : w5.heap.size < V.heap.size := by subst hV; simp
        clear hV hbV hVh q0 q1 q2 q3 q4 q5 q6
        refine (kindOf_1 V).mono ?_
        rintro e w6 ⟨rfl, hb6⟩
        go_wp2_with fail
        refine (leastPoints_1 w6).mono ?_
        rintro e w7 ⟨rfl, hb7⟩
        have hbV7 := bl_then hb6 hb7
        have HR7 : Hid (Row w1.heap.size w7 (.slice (some ⟨g, 0, none⟩) N cg) T) := HRV.out.below hbV7
        have HT7 : Hid (There w7 (w.heap.size + 1) 8) := HTV.out.below hbV7
        have HB7 : Hid (Below w.heap.size w w7) := bl_then HBV.out hbV7
        have HN7 : Hid (NP V w7) := NP.of_below hbV7
        have hsz7 := hbV7.size
        clear hb6 hb7 hbV7
        go_wp2_with fail
        refine (filled_any w1.heap.size 1 (.slice (some ⟨g, 0, none⟩) N cg) T w7 HR7.out HTL.out.1 (by have := HTL.out.2; omega) (by omega) (by omega)).mono ?_
        rintro e w8 ⟨v8, rfl, hR8, hB8, hN8⟩
        have hVh8 : w8.heap[w5.heap.size]? = some (.cells #[.int .i64 id, .int .i64 la, .int .i64 1, .int .i64 wi, .slice a5 n c5, .string lab, .int .i64 pr] 36 (0, 0)) := hN8 _ _ _ _ (HN7.out _ _ _ _ HVH.out (by decide)) (by decide)
        have u0 : w8.cell? ⟨w5.heap.size, 0, none⟩ = some (.int .i64 id) := by simp [World.cell?, hVh8]
        have u1 : w8.cell? ⟨w5.heap.size, 1, none⟩ = some (.int .i64 la) := by simp [World.cell?, hVh8]
        have u2 : w8.cell? ⟨w5.heap.size, 2, none⟩ = some (.int .i64 1) := by simp [World.cell?, hVh8]
        have u3 : w8.cell? ⟨w5.heap.size, 3, none⟩ = some (.int .i64 wi) := by simp [World.cell?, hVh8]
        have u4 : w8.cell? ⟨w5.heap.size, 4, none⟩ = some (.slice a5 n c5) := by simp [World.cell?, hVh8]
        have u5 : w8.cell? ⟨w5.heap.size, 5, none⟩ = some (.string lab) := by simp [World.cell?, hVh8]
        have u6 : w8.cell? ⟨w5.heap.size, 6, none⟩ = some (.int .i64 pr) := by simp [World.cell?, hVh8]
        have f4 : w8.frozen? ⟨w5.heap.size, 4, none⟩ = false := by simp [World.frozen?, hVh8]
        have HT8 : Hid (There w8 (w.heap.size + 1) 8) := HT7.out.belowB' hB8 (by omega)
        have HB8 : Hid (Below w.heap.size w w8) := HB7.out.trans (hB8.mono (by omega))
        have HR8 : Hid (Row w1.heap.size w8 v8 (fillL 1 T)) := hR8
        have hsz8 := hB8.size
        obtain ⟨a8, c8, hv8, _, _⟩ := hR8.own
        have ht8 : There (w8.setCell ⟨w5.heap.size, 4, none⟩ v8) (w.heap.size + 1) 8 := fun o ho => by
          obtain ⟨u, hu⟩ := (HT8.out o ho).1
          exact ⟨⟨u, by rw [set1_other (by first | (simp; done) | (simp; omega))]; exact hu⟩, by rw [World.frozen?_setCell]; exact (HT8.out o ho).2⟩
        have HT9 := (show Hid _ from ht8)
        generalize (fillL 1 T).length = N8 at hv8
        have hT' := HT8.out
        have t0 := hT'.cell 0 (by omega)
        have t1 := hT'.cell 1 (by omega)
        have t2 := hT'.cell 2 (by omega)
        have t3 := hT'.cell 3 (by omega)
        have t4 := hT'.cell 4 (by omega)
        have t5 := hT'.cell 5 (by omega)
        have t6 := hT'.cell 6 (by omega)
        have t7 := hT'.cell 7 (by omega)
        have z0 := (hT' 0 (by omega)).2
        have z1 := (hT' 1 (by omega)).2
        have z2 := (hT' 2 (by omega)).2
        have z3 := (hT' 3 (by omega)).2
        have z4 := (hT' 4 (by omega)).2
        have z5 := (hT' 5 (by omega)).2
        have z6 := (hT' 6 (by omega)).2
        have z7 := (hT' 7 (by omega)).2
        have hl8 : w5.heap.size < w8.heap.size := by omega
        have hne8 : ¬ w5.heap.size = w.heap.size + 1 := by omega
        have hne9 : ¬ w.heap.size + 1 = w5.heap.size := by omega
        subst hv8
        have HVH8 := (show Hid _ from hVh8)
        clear hT' hVh8 hR8 hB8 hN8 ht8
        go_wp2_with fail
        obtain ⟨y0, y1, y2, y3, y4, y5, y6, y7⟩ := set8_at (v0 := .int .i64 0) (v1 := .int .i64 id) (v2 := .int .i64 la) (v3 := .int .i64 1) (v4 := .int .i64 wi) (v5 := .slice a8 N8 c8) (v6 := .string lab) (v7 := .int .i64 pr) HT9.out
        refine bodyPost_ret (res8 _ _ (w.heap.size + 1) _ _ _ _ _ _ _ _ rfl y0 y1 y2 y3 y4 y5 y6 y7) rfl ⟨.slice a8 N8 c8, ?_, ?_, below8 (HB8.out.setCell (by show w.heap.size ≤ w5.heap.size; omega) _) (Nat.le_succ _)⟩
        · rw [HCz.out]
          simp [zI, zS]
        · rw [simpR, if_pos HCz.out, HTt.out]
          exact Row.set8 (Row.other HR8.out HVH8.out (by decide)) (by omega) (by omega)
      · have HTt : Hid (simpT 2 z n X Y L = ptsOf (px (snapL X Y z n)) (py (snapL X Y z n)) (thinP (snapL X Y z n).length L)) := by show _ = _; simp [simpT]
        obtain ⟨T, hT⟩ : ∃ T, T = ptsOf (px (snapL X Y z n)) (py (snapL X Y z n)) (thinP (snapL X Y z n).length L) := ⟨_, rfl⟩
        have HTL : Hid (0 < T.length ∧ T.length ≤ 12) := by have := HTL'.out 2; rw [HTt.out, ← hT] at this; exact this
        rw [← hT] at HTt
        have hz0 := thin_zero X Y z h n hn12 HIN.out
        obtain ⟨q0, q1, q2, q3, q4, q5, q6⟩ := HF2.out
        simp only [Nat.zero_add] at q0 q1 q2 q3 q4 q5 q6
        go_wp2_with fail
        refine (gridAt_any _ _ h).mono ?_
        rintro e w3 ⟨rfl, hb3⟩
        have HR3 : Hid (Row w1.heap.size w3 (.slice (some ⟨g, 0, none⟩) N cg) (snapL X Y z n)) := HR2.out.below hb3
        have HB3 : Hid (Below w.heap.size w w3) := bl_then HB2.out hb3
        have HF3 : Hid (FeatAt w3 w.heap.size 0 id la 2 wi (.slice (some ⟨b, off, none⟩) n cap) lab pr) := HF2.out.below hb3 (by omega)
        have HT3 : Hid (There w3 (w.heap.size + 1) 8) := HT2.out.below hb3
        have hsz3 := hb3.size
        have hPg : PtsAt w3 g 0 N (px (snapL X Y z n)) (py (snapL X Y z n)) ∧ g < w3.heap.size := by
          obtain ⟨a', cap', hv', _, h0 | ⟨b', rfl, _, hl', hp', _⟩⟩ := HR3.out.own
          · have := HN.out; omega
          · injection hv' with e1 e2 e3
            injection e1 with e1
            injection e1 with e1
            subst e1
            rw [HN.out]
            exact ⟨hp', hl'⟩
        clear hb3 q0 q1 q2 q3 q4 q5 q6
        go_wp2_with fail
        refine (impl_ThinLine_any g N cg (px (snapL X Y z n)) (py (snapL X Y z n)) (gridI z) L w3 hPg.1 hPg.2 (by omega) hcg (by rw [HN.out]; exact HL.out)).mono ?_
        rintro e w4 ⟨v4, rfl, hR4, hb4⟩
        rw [HN.out] at hR4
        have hz0' : thinC (gridI z) N (px (snapL X Y z n)) (py (snapL X Y z n)) = 0 := by rw [HN.out]; exact hz0
        have hrr : thinR (gridI z) (snapL X Y z n).length (px (snapL X Y z n)) (py (snapL X Y z n)) L = T := by rw [thinR, if_pos hz0, hT]
        rw [hrr] at hR4
        rw [hz0']
        obtain ⟨a4, c4, hv4, _, _⟩ := hR4.own
        have HR4 : Hid (Row w3.heap.size w4 v4 T) := hR4
        have HB4 : Hid (Below w.heap.size w w4) := bl_then HB3.out hb4
        have HF4 : Hid (FeatAt w4 w.heap.size 0 id la 2 wi (.slice (some ⟨b, off, none⟩) n cap) lab pr) := HF3.out.below hb4 (by omega)
        have HT4 : Hid (There w4 (w.heap.size + 1) 8) := HT3.out.below hb4
        have hsz4 := hb4.size
        obtain ⟨N4, hN4⟩ : ∃ N4, N4 = T.length := ⟨_, rfl⟩
        rw [← hN4] at hv4
        subst hv4
        have j2 : ∀ w, (Instr.field 99 (.agg #[.int .i64 0, .slice a4 N4 c4]) 1).run Tryz.prog w = .ok (.slice a4 N4 c4) w := fun _ => by kernel_rfl
        clear hR4 hb4 hT hN4 hz0 hz0' hrr hPg
        -- the copy, and the points as often as is needed
        obtain ⟨q0, q1, q2, q3, q4, q5, q6⟩ := HF4.out
        simp only [Nat.zero_add] at q0 q1 q2 q3 q4 q5 q6
        go_wp2_with fail
        refine (copyFeature_any id la 2 wi b n cap X Y lab pr w4 (HP.out.below HB4.out hbl) (Nat.lt_of_lt_of_le hbl (Below.size HB4.out)) hn hl).mono ?_
        rintro e w5 ⟨a5, c5, rfl, hb5⟩
        have HF5 : Hid (FeatAt w5 w.heap.size 0 id la 2 wi (.slice (some ⟨b, off, none⟩) n cap) lab pr) := FeatAt.below HF4.out hb5 (by omega)
        have HT5 : Hid (There w5 (w.heap.size + 1) 8) := There.below HT4.out hb5
        have HR5 : Hid (Row w3.heap.size w5 (.slice a4 N4 c4) T) := Row.below HR4.out hb5
        have HB5 : Hid (Below w.heap.size w w5) := bl_then HB4.out hb5
        have hsz5 := hb5.size
        have hlw : w.heap.size < w5.heap.size := by omega
        have hlw1 : w.heap.size + 1 < w5.heap.size := by omega
        clear hb5 q0 q1 q2 q3 q4 q5 q6
        obtain ⟨q0, q1, q2, q3, q4, q5, q6⟩ := HF5.out
        simp only [Nat.zero_add] at q0 q1 q2 q3 q4 q5 q6
        go_wp2_with fail
        generalize hV : (w5.alloc _ : World) = V
        have hbV : Below w5.heap.size w5 V := by subst hV; (repeat (first | exact Below.refl _ _ | assumption | refine Below.drew ?_ | refine bl_alloc ?_ _ | refine bl_then ?_ (by assumption) | refine Below.setCell ?_ (by first | omega | (simp; done) | (simp; omega)) _ | refine bl_store ?_ ?_ _ _))
        have hVh : V.heap[w5.heap.size]? = some (.cells #[.int .i64 id, .int .i64 la, .int .i64 2, .int .i64 wi, .slice a5 n c5, .string lab, .int .i64 pr] 36 (0, 0)) := by subst hV; exact heap_alloc_new w5 _
        have HVH := (show Hid _ from hVh)
        have HTV : Hid (There V (w.heap.size + 1) 8) := HT5.out.below hbV
        have HRV : Hid (Row w3.heap.size V (.slice a4 N4 c4) T) := HR5.out.below hbV
        have HBV : Hid (Below w.heap.size w V) := bl_then HB5.out hbV
        have hszV : w5.heap.size < V.heap.size := by subst hV; simp
        clear hV hbV hVh q0 q1 q2 q3 q4 q5 q6
        refine (kindOf_2 V).mono ?_
        rintro e w6 ⟨rfl, hb6⟩
        go_wp2_with fail
        refine (leastPoints_2 w6).mono ?_
        rintro e w7 ⟨rfl, hb7⟩
        have hbV7 := bl_then hb6 hb7
        have HR7 : Hid (Row w3.heap.size w7 (.slice a4 N4 c4) T) := HRV.out.below hbV7
        have HT7 : Hid (There w7 (w.heap.size + 1) 8) := HTV.out.below hbV7
        have HB7 : Hid (Below w.heap.size w w7) := bl_then HBV.out hbV7
        have HN7 : Hid (NP V w7) := NP.of_below hbV7
        have hsz7 := hbV7.size
        clear hb6 hb7 hbV7
        go_wp2_with fail
        refine (filled_any w3.heap.size 2 (.slice a4 N4 c4) T w7 HR7.out HTL.out.1 (by have := HTL.out.2; omega) (by omega) (by omega)).mono ?_
        rintro e w8 ⟨v8, rfl, hR8, hB8, hN8⟩
        have hVh8 : w8.heap[w5.heap.size]? = some (.cells #[.int .i64 id, .int .i64 la, .int .i64 2, .int .i64 wi, .slice a5 n c5, .string lab, .int .i64 pr] 36 (0, 0)) := hN8 _ _ _ _ (HN7.out _ _ _ _ HVH.out (by decide)) (by decide)
        have u0 : w8.cell? ⟨w5.heap.size, 0, none⟩ = some (.int .i64 id) := by simp [World.cell?, hVh8]
        have u1 : w8.cell? ⟨w5.heap.size, 1, none⟩ = some (.int .i64 la) := by simp [World.cell?, hVh8]
        have u2 : w8.cell? ⟨w5.heap.size, 2, none⟩ = some (.int .i64 2) := by simp [World.cell?, hVh8]
        have u3 : w8.cell? ⟨w5.heap.size, 3, none⟩ = some (.int .i64 wi) := by simp [World.cell?, hVh8]
        have u4 : w8.cell? ⟨w5.heap.size, 4, none⟩ = some (.slice a5 n c5) := by simp [World.cell?, hVh8]
        have u5 : w8.cell? ⟨w5.heap.size, 5, none⟩ = some (.string lab) := by simp [World.cell?, hVh8]
        have u6 : w8.cell? ⟨w5.heap.size, 6, none⟩ = some (.int .i64 pr) := by simp [World.cell?, hVh8]
        have f4 : w8.frozen? ⟨w5.heap.size, 4, none⟩ = false := by simp [World.frozen?, hVh8]
        have HT8 : Hid (There w8 (w.heap.size + 1) 8) := HT7.out.belowB' hB8 (by omega)
        have HB8 : Hid (Below w.heap.size w w8) := HB7.out.trans (hB8.mono (by omega))
        have HR8 : Hid (Row w3.heap.size w8 v8 (fillL 2 T)) := hR8
        have hsz8 := hB8.size
        obtain ⟨a8, c8, hv8, _, _⟩ := hR8.own
        have ht8 : There (w8.setCell ⟨w5.heap.size, 4, none⟩ v8) (w.heap.size + 1) 8 := fun o ho => by
          obtain ⟨u, hu⟩ := (HT8.out o ho).1
          exact ⟨⟨u, by rw [set1_other (by first | (simp; done) | (simp; omega))]; exact hu⟩, by rw [World.frozen?_setCell]; exact (HT8.out o ho).2⟩
        have HT9 := (show Hid _ from ht8)
        generalize (fillL 2 T).length = N8 at hv8
        have hT' := HT8.out
        have t0 := hT'.cell 0 (by omega)
        have t1 := hT'.cell 1 (by omega)
        have t2 := hT'.cell 2 (by omega)
        have t3 := hT'.cell 3 (by omega)
        have t4 := hT'.cell 4 (by omega)
        have t5 := hT'.cell 5 (by omega)
        have t6 := hT'.cell 6 (by omega)
        have t7 := hT'.cell 7 (by omega)
        have z0 := (hT' 0 (by omega)).2
        have z1 := (hT' 1 (by omega)).2
        have z2 := (hT' 2 (by omega)).2
        have z3 := (hT' 3 (by omega)).2
        have z4 := (hT' 4 (by omega)).2
        have z5 := (hT' 5 (by omega)).2
        have z6 := (hT' 6 (by omega)).2
        have z7 := (hT' 7 (by omega)).2
        have hl8 : w5.heap.size < w8.heap.size := by omega
        have hne8 : ¬ w5.heap.size = w.heap.size + 1 := by omega
        have hne9 : ¬ w.heap.size + 1 = w5.heap.size := by omega
        subst hv8
        have HVH8 := (show Hid _ from hVh8)
        clear hT' hVh8 hR8 hB8 hN8 ht8
        go_wp2_with fail
        obtain ⟨y0, y1, y2, y3, y4, y5, y6, y7⟩ := set8_at (v0 := .int .i64 0) (v1 := .int .i64 id) (v2 := .int .i64 la) (v3 := .int .i64 2) (v4 := .int .i64 wi) (v5 := .slice a8 N8 c8) (v6 := .string lab) (v7 := .int .i64 pr) HT9.out
        refine bodyPost_ret (res8 _ _ (w.heap.size + 1) _ _ _ _ _ _ _ _ rfl y0 y1 y2 y3 y4 y5 y6 y7) rfl ⟨.slice a8 N8 c8, ?_, ?_, below8 (HB8.out.setCell (by show w.heap.size ≤ w5.heap.size; omega) _) (Nat.le_succ _)⟩
        · rw [HCz.out]
          simp [zI, zS]
        · rw [simpR, if_pos HCz.out, HTt.out]
          exact Row.set8 (Row.other HR8.out HVH8.out (by decide)) (by omega) (by omega)
      · have HTt : Hid (simpT 3 z n X Y L = openL (snapL X Y z n)) := by show _ = _; simp [simpT]
        obtain ⟨T, hT⟩ : ∃ T, T = openL (snapL X Y z n) := ⟨_, rfl⟩
        have HTL : Hid (0 < T.length ∧ T.length ≤ 12) := by have := HTL'.out 3; rw [HTt.out, ← hT] at this; exact this
        rw [← hT] at HTt
        obtain ⟨q0, q1, q2, q3, q4, q5, q6⟩ := HF2.out
        simp only [Nat.zero_add] at q0 q1 q2 q3 q4 q5 q6
        go_wp2_with fail
        refine (opened_any w1.heap.size _ (snapL X Y z n) w2 HR2.out (by rw [← HN.out]; exact hS0) (by rw [← HN.out]; omega)).mono ?_
        rintro e w3 ⟨v3, rfl, hR3, hb3⟩
        rw [← hT] at hR3
        obtain ⟨a3, c3, hv3, _, _⟩ := hR3.own
        have HR3 : Hid (Row w1.heap.size w3 v3 T) := hR3
        have HB3 : Hid (Below w.heap.size w w3) := bl_then HB2.out hb3
        have HF3 : Hid (FeatAt w3 w.heap.size 0 id la 3 wi (.slice (some ⟨b, off, none⟩) n cap) lab pr) := HF2.out.below hb3 (by omega)
        have HT3 : Hid (There w3 (w.heap.size + 1) 8) := HT2.out.below hb3
        have hsz3 := hb3.size
        obtain ⟨N3, hN3⟩ : ∃ N3, N3 = T.length := ⟨_, rfl⟩
        rw [← hN3] at hv3
        subst hv3
        clear hR3 hb3 q0 q1 q2 q3 q4 q5 q6 hT hN3
        -- the copy, and the points as often as is needed
        obtain ⟨q0, q1, q2, q3, q4, q5, q6⟩ := HF3.out
        simp only [Nat.zero_add] at q0 q1 q2 q3 q4 q5 q6
        go_wp2_with fail
        refine (copyFeature_any id la 3 wi b n cap X Y lab pr w3 (HP.out.below HB3.out hbl) (Nat.lt_of_lt_of_le hbl (Below.size HB3.out)) hn hl).mono ?_
        rintro e w5 ⟨a5, c5, rfl, hb5⟩
        have HF5 : Hid (FeatAt w5 w.heap.size 0 id la 3 wi (.slice (some ⟨b, off, none⟩) n cap) lab pr) := FeatAt.below HF3.out hb5 (by omega)
        have HT5 : Hid (There w5 (w.heap.size + 1) 8) := There.below HT3.out hb5
        have HR5 : Hid (Row w1.heap.size w5 (.slice a3 N3 c3) T) := Row.below HR3.out hb5
        have HB5 : Hid (Below w.heap.size w w5) := bl_then HB3.out hb5
        have hsz5 := hb5.size
        have hlw : w.heap.size < w5.heap.size := by omega
        have hlw1 : w.heap.size + 1 < w5.heap.size := by omega
        clear hb5 q0 q1 q2 q3 q4 q5 q6
        obtain ⟨q0, q1, q2, q3, q4, q5, q6⟩ := HF5.out
        simp only [Nat.zero_add] at q0 q1 q2 q3 q4 q5 q6
        go_wp2_with fail
        generalize hV : (w5.alloc _ : World) = V
        have hbV : Below w5.heap.size w5 V := by subst hV; (repeat (first | exact Below.refl _ _ | assumption | refine Below.drew ?_ | refine bl_alloc ?_ _ | refine bl_then ?_ (by assumption) | refine Below.setCell ?_ (by first | omega | (simp; done) | (simp; omega)) _ | refine bl_store ?_ ?_ _ _))
        have hVh : V.heap[w5.heap.size]? = some (.cells #[.int .i64 id, .int .i64 la, .int .i64 3, .int .i64 wi, .slice a5 n c5, .string lab, .int .i64 pr] 36 (0, 0)) := by subst hV; exact heap_alloc_new w5 _
        have HVH := (show Hid _ from hVh)
        have HTV : Hid (There V (w.heap.size + 1) 8) := HT5.out.below hbV
        have HRV : Hid (Row w1.heap.size V (.slice a3 N3 c3) T) := HR5.out.below hbV
        have HBV : Hid (Below w.heap.size w V) := bl_then HB5.out hbV
        have hszV : w5.heap.size < V.heap.size := by subst hV; simp
        clear hV hbV hVh q0 q1 q2 q3 q4 q5 q6
        refine (kindOf_3 V).mono ?_
        rintro e w6 ⟨rfl, hb6⟩
        go_wp2_with fail
        refine (leastPoints_3 w6).mono ?_
        rintro e w7 ⟨rfl, hb7⟩
        have hbV7 := bl_then hb6 hb7
        have HR7 : Hid (Row w1.heap.size w7 (.slice a3 N3 c3) T) := HRV.out.below hbV7
        have HT7 : Hid (There w7 (w.heap.size + 1) 8) := HTV.out.below hbV7
        have HB7 : Hid (Below w.heap.size w w7) := bl_then HBV.out hbV7
        have HN7 : Hid (NP V w7) := NP.of_below hbV7
        have hsz7 := hbV7.size
        clear hb6 hb7 hbV7
        go_wp2_with fail
        refine (filled_any w1.heap.size 3 (.slice a3 N3 c3) T w7 HR7.out HTL.out.1 (by have := HTL.out.2; omega) (by omega) (by omega)).mono ?_
        rintro e w8 ⟨v8, rfl, hR8, hB8, hN8⟩
        have hVh8 : w8.heap[w5.heap.size]? = some (.cells #[.int .i64 id, .int .i64 la, .int .i64 3, .int .i64 wi, .slice a5 n c5, .string lab, .int .i64 pr] 36 (0, 0)) := hN8 _ _ _ _ (HN7.out _ _ _ _ HVH.out (by decide)) (by decide)
        have u0 : w8.cell? ⟨w5.heap.size, 0, none⟩ = some (.int .i64 id) := by simp [World.cell?, hVh8]
        have u1 : w8.cell? ⟨w5.heap.size, 1, none⟩ = some (.int .i64 la) := by simp [World.cell?, hVh8]
        have u2 : w8.cell? ⟨w5.heap.size, 2, none⟩ = some (.int .i64 3) := by simp [World.cell?, hVh8]
        have u3 : w8.cell? ⟨w5.heap.size, 3, none⟩ = some (.int .i64 wi) := by simp [World.cell?, hVh8]
        have u4 : w8.cell? ⟨w5.heap.size, 4, none⟩ = some (.slice a5 n c5) := by simp [World.cell?, hVh8]
        have u5 : w8.cell? ⟨w5.heap.size, 5, none⟩ = some (.string lab) := by simp [World.cell?, hVh8]
        have u6 : w8.cell? ⟨w5.heap.size, 6, none⟩ = some (.int .i64 pr) := by simp [World.cell?, hVh8]
        have f4 : w8.frozen? ⟨w5.heap.size, 4, none⟩ = false := by simp [World.frozen?, hVh8]
        have HT8 : Hid (There w8 (w.heap.size + 1) 8) := HT7.out.belowB' hB8 (by omega)
        have HB8 : Hid (Below w.heap.size w w8) := HB7.out.trans (hB8.mono (by omega))
        have HR8 : Hid (Row w1.heap.size w8 v8 (fillL 3 T)) := hR8
        have hsz8 := hB8.size
        obtain ⟨a8, c8, hv8, _, _⟩ := hR8.own
        have ht8 : There (w8.setCell ⟨w5.heap.size, 4, none⟩ v8) (w.heap.size + 1) 8 := fun o ho => by
          obtain ⟨u, hu⟩ := (HT8.out o ho).1
          exact ⟨⟨u, by rw [set1_other (by first | (simp; done) | (simp; omega))]; exact hu⟩, by rw [World.frozen?_setCell]; exact (HT8.out o ho).2⟩
        have HT9 := (show Hid _ from ht8)
        generalize (fillL 3 T).length = N8 at hv8
        have hT' := HT8.out
        have t0 := hT'.cell 0 (by omega)
        have t1 := hT'.cell 1 (by omega)
        have t2 := hT'.cell 2 (by omega)
        have t3 := hT'.cell 3 (by omega)
        have t4 := hT'.cell 4 (by omega)
        have t5 := hT'.cell 5 (by omega)
        have t6 := hT'.cell 6 (by omega)
        have t7 := hT'.cell 7 (by omega)
        have z0 := (hT' 0 (by omega)).2
        have z1 := (hT' 1 (by omega)).2
        have z2 := (hT' 2 (by omega)).2
        have z3 := (hT' 3 (by omega)).2
        have z4 := (hT' 4 (by omega)).2
        have z5 := (hT' 5 (by omega)).2
        have z6 := (hT' 6 (by omega)).2
        have z7 := (hT' 7 (by omega)).2
        have hl8 : w5.heap.size < w8.heap.size := by omega
        have hne8 : ¬ w5.heap.size = w.heap.size + 1 := by omega
        have hne9 : ¬ w.heap.size + 1 = w5.heap.size := by omega
        subst hv8
        have HVH8 := (show Hid _ from hVh8)
        clear hT' hVh8 hR8 hB8 hN8 ht8
        go_wp2_with fail
        obtain ⟨y0, y1, y2, y3, y4, y5, y6, y7⟩ := set8_at (v0 := .int .i64 0) (v1 := .int .i64 id) (v2 := .int .i64 la) (v3 := .int .i64 3) (v4 := .int .i64 wi) (v5 := .slice a8 N8 c8) (v6 := .string lab) (v7 := .int .i64 pr) HT9.out
        refine bodyPost_ret (res8 _ _ (w.heap.size + 1) _ _ _ _ _ _ _ _ rfl y0 y1 y2 y3 y4 y5 y6 y7) rfl ⟨.slice a8 N8 c8, ?_, ?_, below8 (HB8.out.setCell (by show w.heap.size ≤ w5.heap.size; omega) _) (Nat.le_succ _)⟩
        · rw [HCz.out]
          simp [zI, zS]
        · rw [simpR, if_pos HCz.out, HTt.out]
          exact Row.set8 (Row.other HR8.out HVH8.out (by decide)) (by omega) (by omega)
    · have hfb : (featC id la ki wi n X Y lab pr == 0) = false := by simp [hfc]
      have HCn : Hid (C ≠ 0) := by show _ ≠ _; rw [HC.out]; simp [simpC, h, hfc]
      have HCv : Hid (C = featC id la ki wi n X Y lab pr) := by show _ = _; rw [HC.out]; simp [simpC, h]
      generalize featC id la ki wi n X Y lab pr = fc at *
      have hT' := HT1.out
      have HT' := (show Hid _ from hT')
      have t0 := hT'.cell 0 (by omega)
      have t1 := hT'.cell 1 (by omega)
      have t2 := hT'.cell 2 (by omega)
      have t3 := hT'.cell 3 (by omega)
      have t4 := hT'.cell 4 (by omega)
      have t5 := hT'.cell 5 (by omega)
      have t6 := hT'.cell 6 (by omega)
      have t7 := hT'.cell 7 (by omega)
      have z0 := (hT' 0 (by omega)).2
      have z1 := (hT' 1 (by omega)).2
      have z2 := (hT' 2 (by omega)).2
      have z3 := (hT' 3 (by omega)).2
      have z4 := (hT' 4 (by omega)).2
      have z5 := (hT' 5 (by omega)).2
      have z6 := (hT' 6 (by omega)).2
      have z7 := (hT' 7 (by omega)).2
      clear hT'
      go_wp2_with fail
      obtain ⟨y0, y1, y2, y3, y4, y5, y6, y7⟩ := set8_at (v0 := .int .i64 fc) (v1 := .int .i64 0) (v2 := .int .i64 0) (v3 := .int .i64 0) (v4 := .int .i64 0) (v5 := .slice none 0 0) (v6 := .string ⟨#[]⟩) (v7 := .int .i64 0) HT'.out
      refine bodyPost_ret (res8 _ _ (w.heap.size + 1) _ _ _ _ _ _ _ _ rfl y0 y1 y2 y3 y4 y5 y6 y7) rfl ⟨.slice none 0 0, ?_, ?_, below8 HB1.out (Nat.le_succ _)⟩
      · rw [zI_no HCn.out, zI_no HCn.out, zI_no HCn.out, zI_no HCn.out, zI_no HCn.out, zS_no HCn.out, HCv.out]
      · rw [simpR, if_neg HCn.out]; exact Row.no _ _
end Go.Proofs.YtdohlnnbibnnbaaGreat
