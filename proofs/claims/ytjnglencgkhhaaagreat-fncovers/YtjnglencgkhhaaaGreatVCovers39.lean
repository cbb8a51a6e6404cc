/- Several texts in one. -/
import Derived.Test.YtjnglencgkhhaaaGreatVCovers31
import Derived.Test.YtjnglencgkhhaaaGreatVCovers38
import Derived.Test.YtjnglencgkhhaaaGreatVCovers29

/- The centre of a pixel: the program and the model. -/

namespace Go.Proofs.YtjnglencgkhhaaaGreat
open Go.RowKit
set_option linter.unusedSimpArgs false
set_option linter.unusedVariables false
set_option maxRecDepth 100000

theorem impl_CentreOf_any (z x y : Int) (w : World) : Calls Tryz.prog 10 #[.int .i64 z, .int .i64 x, .int .i64 y] w fun e w' => e = .returned (centV z x y) ∧ Below w.heap.size w w' := by
  go_enter Tryz.func10, Tryz.ntmps10
  go_wp2_with fail
  generalize hW : (w.alloc _ : World) = W
  have HB0 : Hid (Below w.heap.size w W) := by show Below _ _ _; subst hW; (repeat (first | exact Below.refl _ _ | assumption | refine Below.drew ?_ | refine bl_alloc ?_ _ | refine bl_then ?_ (by assumption) | refine Below.setCell ?_ (by first | omega | (simp; done) | (simp; omega)) _ | refine bl_store ?_ ?_ _ _))
  have HT : Hid (There W w.heap.size 3) := by
    show There _ _ _
    subst hW
    exact there3 w (.int .i64 0) (.int .i64 0) (.int .i64 0) 38
  have hsz : w.heap.size < W.heap.size := by subst hW; simp
  clear hW
  refine (isPixel_any _ _ _ _).mono ?_
  rintro e w1 ⟨rfl, hb1⟩
  have HT1 : Hid (There w1 w.heap.size 3) := HT.out.below hb1
  have HB1 : Hid (Below w.heap.size w w1) := bl_then HB0.out hb1
  have hsz1 : w.heap.size < w1.heap.size := Nat.lt_of_lt_of_le hsz hb1.size
  clear hb1 HT HB0
  cases h : pixB z x y
  · have hT' := HT1.out
    have t0 := hT'.cell 0 (by omega)
    have t1 := hT'.cell 1 (by omega)
    have t2 := hT'.cell 2 (by omega)
    have f0 := (hT' 0 (by omega)).2
    have f1 := (hT' 1 (by omega)).2
    have f2 := (hT' 2 (by omega)).2
    clear hT'
    go_wp2_with fail
    obtain ⟨q0, q1, q2⟩ := set3_at (a := .int .i64 3) (b := .int .i64 0) (c := .int .i64 0) HT1.out
    refine bodyPost_ret (v := .agg #[.int .i64 3, .int .i64 0, .int .i64 0]) (by simp [results, Tryz.results10, go_sem, q0, q1, q2]) rfl ⟨by simp [centV, h], ?_⟩
    have HB := HB1.out
    (repeat (first | exact Below.refl _ _ | assumption | refine Below.drew ?_ | refine bl_alloc ?_ _ | refine bl_then ?_ (by assumption) | refine Below.setCell ?_ (by first | omega | (simp; done) | (simp; omega)) _ | refine bl_store ?_ ?_ _ _))
  · have hz := pixB_zoom h
    have hb := pixB_in h
    have s1 := fun w => impl_UnitAt_any z w
    have hv : unitV z = .agg #[.int .i64 0, .int .i64 (unitI z)] := by simp [unitV, hz]
    simp only [hv] at s1
    have i1 : ∀ u w, (Instr.field 41 (.agg #[.int .i64 0, .int .i64 u]) 1).run Tryz.prog w = .ok (.int .i64 u) w := fun _ _ => by kernel_rfl
    have hc : Hid (centV z x y = .agg #[.int .i64 0, .int .i64 (centI z x), .int .i64 (centI z y)]) := by show _ = _; simp [centV, h]
    have hcx : centI z x = (2 * x + 1) * unitI z := rfl
    have hcy : centI z y = (2 * y + 1) * unitI z := rfl
    have hbd : unitI z = 128 ∨ unitI z = 64 ∨ unitI z = 32 ∨ unitI z = 16 := by rcases zoomB_cases hz with rfl | rfl | rfl | rfl <;> simp [unitI]
    have hpb := (pixI_bd hz).2
    go_wp2_with fail
    refine (s1 _).mono ?_
    rintro e w2 ⟨rfl, hb2⟩
    generalize unitI z = u at *
    generalize pixI z = m at *
    have hT' := HT1.out.below hb2
    have HT2 : Hid (There w2 w.heap.size 3) := hT'
    have t0 := hT'.cell 0 (by omega)
    have t1 := hT'.cell 1 (by omega)
    have t2 := hT'.cell 2 (by omega)
    have f0 := (hT' 0 (by omega)).2
    have f1 := (hT' 1 (by omega)).2
    have f2 := (hT' 2 (by omega)).2
    have HB2 : Hid (Below w.heap.size w w2) := bl_then HB1.out hb2
    have hsz2 : w.heap.size < w2.heap.size := Nat.lt_of_lt_of_le hsz1 hb2.size
    clear hT' hb2
    rcases hbd with rfl | rfl | rfl | rfl
    all_goals
      go_wp2_with fail
      obtain ⟨q0, q1, q2⟩ := set3_at (a := .int .i64 0) (b := .int .i64 (centI z x)) (c := .int .i64 (centI z y)) HT2.out
      rw [hcx, hcy] at q0 q1 q2
      refine bodyPost_ret (v := .agg #[.int .i64 0, .int .i64 (centI z x), .int .i64 (centI z y)]) (by simp [results, Tryz.results10, go_sem, q0, q1, q2, hcx, hcy]) rfl ⟨by rw [hc.out], ?_⟩
      have HB := HB2.out
      (repeat (first | exact Below.refl _ _ | assumption | refine Below.drew ?_ | refine bl_alloc ?_ _ | refine bl_then ?_ (by assumption) | refine Below.setCell ?_ (by first | omega | (simp; done) | (simp; omega)) _ | refine bl_store ?_ ?_ _ _))
theorem spec_CentreOf_any (z x y : Int) (w : World) : Calls Tryz.prog 12 #[.int .i64 z, .int .i64 x, .int .i64 y] w fun e w' => e = .returned (centV z x y) ∧ Below w.heap.size w w' := by
  cases hz : zoomB z
  · have hc : Hid (centV z x y = .agg #[.int .i64 3, .int .i64 0, .int .i64 0]) := by show _ = _; simp [centV, pixB, hz]
    go_enter Tryz.func12, Tryz.ntmps12
    go_wp2_with (go_at_call 25; refine (l3Zoom_any _ _).mono ?_; rintro e w' ⟨rfl, rfl⟩)
    exact bodyPost_ret (v := .agg #[.int .i64 3, .int .i64 0, .int .i64 0]) (by simp [results, Tryz.results12, go_sem]) rfl ⟨by rw [hc.out], by (repeat (first | exact Below.refl _ _ | assumption | refine Below.drew ?_ | refine bl_alloc ?_ _ | refine bl_then ?_ (by assumption) | refine Below.setCell ?_ (by first | omega | (simp; done) | (simp; omega)) _ | refine bl_store ?_ ?_ _ _))⟩
  · cases h : pixB z x y
    · have hc : Hid (centV z x y = .agg #[.int .i64 3, .int .i64 0, .int .i64 0]) := by show _ = _; simp [centV, h]
      go_enter Tryz.func12, Tryz.ntmps12
      go_wp2_with (first | (go_at_call 25; refine (l3Zoom_any _ _).mono ?_; rintro e w' ⟨rfl, rfl⟩) | (go_at_call 33; refine (l4Pixel_any _ _ _ _ hz).mono ?_; rintro e w' ⟨rfl, rfl⟩))
      exact bodyPost_ret (v := .agg #[.int .i64 3, .int .i64 0, .int .i64 0]) (by simp [results, Tryz.results12, go_sem]) rfl ⟨by rw [hc.out], by (repeat (first | exact Below.refl _ _ | assumption | refine Below.drew ?_ | refine bl_alloc ?_ _ | refine bl_then ?_ (by assumption) | refine Below.setCell ?_ (by first | omega | (simp; done) | (simp; omega)) _ | refine bl_store ?_ ?_ _ _))⟩
    · have hc : Hid (centV z x y = .agg #[.int .i64 0, .int .i64 (centI z x), .int .i64 (centI z y)]) := by show _ = _; simp [centV, h]
      have s1 := fun w => l4Centre_any z x y w h
      go_enter Tryz.func12, Tryz.ntmps12
      go_wp2_with (first | (go_at_call 25; refine (l3Zoom_any _ _).mono ?_; rintro e w' ⟨rfl, rfl⟩) | (go_at_call 33; refine (l4Pixel_any _ _ _ _ hz).mono ?_; rintro e w' ⟨rfl, rfl⟩))
      generalize hW : (w.alloc _ : World) = W
      have HB0 : Hid (Below w.heap.size w W) := by show Below _ _ _; subst hW; (repeat (first | exact Below.refl _ _ | assumption | refine Below.drew ?_ | refine bl_alloc ?_ _ | refine bl_then ?_ (by assumption) | refine Below.setCell ?_ (by first | omega | (simp; done) | (simp; omega)) _ | refine bl_store ?_ ?_ _ _))
      have HT : Hid (There W w.heap.size 3) := by
        show There _ _ _
        subst hW
        exact there3 w (.int .i64 0) (.int .i64 0) (.int .i64 0) 38
      have hsz : w.heap.size < W.heap.size := by subst hW; simp
      clear hW
      refine (s1 _).mono ?_
      rintro e w2 ⟨rfl, hb2⟩
      have hT' := HT.out.below hb2
      have HT2 : Hid (There w2 w.heap.size 3) := hT'
      have t0 := hT'.cell 0 (by omega)
      have t1 := hT'.cell 1 (by omega)
      have t2 := hT'.cell 2 (by omega)
      have f0 := (hT' 0 (by omega)).2
      have f1 := (hT' 1 (by omega)).2
      have f2 := (hT' 2 (by omega)).2
      have HB2 : Hid (Below w.heap.size w w2) := bl_then HB0.out hb2
      have hsz2 : w.heap.size < w2.heap.size := Nat.lt_of_lt_of_le hsz hb2.size
      clear hT' hb2
      go_wp2_with fail
      obtain ⟨q0, q1, q2⟩ := set3_at (a := .int .i64 0) (b := .int .i64 (centI z x)) (c := .int .i64 (centI z y)) HT2.out
      refine bodyPost_ret (v := .agg #[.int .i64 0, .int .i64 (centI z x), .int .i64 (centI z y)]) (by simp [results, Tryz.results12, go_sem, q0, q1, q2]) rfl ⟨by rw [hc.out], ?_⟩
      have HB := HB2.out
      (repeat (first | exact Below.refl _ _ | assumption | refine Below.drew ?_ | refine bl_alloc ?_ _ | refine bl_then ?_ (by assumption) | refine Below.setCell ?_ (by first | omega | (simp; done) | (simp; omega)) _ | refine bl_store ?_ ?_ _ _))
end Go.Proofs.YtjnglencgkhhaaaGreat
/- Whether the own points of a feature cover a centre: the program. -/

namespace Go.Proofs.YtjnglencgkhhaaaGreat
open Go.RowKit
set_option linter.unusedSimpArgs false
set_option linter.unusedVariables false
set_option maxRecDepth 100000

/-- Whether doubled points cover a centre. -/
def coverB (ki wi z cx cy : Int) (D : List (Int × Int)) : Bool := if ki = 3 then insideB cx cy D.length (px D) (py D) else byB cx cy (reachI wi z) (px D) (py D) D.length
theorem doubled_at (b off n cap : Nat) (X Y : Nat → Int) (w : World) (hp : PtsAt w b off n X Y) (hbl : b < w.heap.size) (hn0 : 0 < n) (hn : n ≤ 40) (hin : ∀ i, i < n → inW (X i) (Y i) = true) :
    Calls Tryz.prog 66 #[.slice (some ⟨b, off, none⟩) n cap] w fun e w' => ∃ g cg, e = .returned (.slice (some ⟨g, 0, none⟩) n cg) ∧ g < w'.heap.size ∧ n ≤ cg ∧ PtsAt w' g 0 n (px (dblL X Y n)) (py (dblL X Y n)) ∧ Below w.heap.size w w' :=
  (doubled_any b off n cap X Y w hp hbl hn hin).mono fun e w' ⟨v, he, hR, hb⟩ => by
    obtain ⟨g, cg, hv, h1, h2, h3, h4⟩ := hR.at (by rw [dblL_len]; exact hn0)
    rw [dblL_len] at hv h3 h4
    exact ⟨g, cg, by rw [he, hv], h2, h3, h4, hb⟩
theorem coveringOf_area (w : World) : Calls Tryz.prog 65 #[.int .i64 3] w fun e w' => e = .returned (.func (.func 98) #[] #[]) ∧ w = w' := by
  go_enter Tryz.func65, Tryz.ntmps65
  go_wp2
  go_ret
  exact ⟨rfl, rfl⟩
theorem coveringOf_line (ki : Int) (w : World) (h : ki ≠ 3) : Calls Tryz.prog 65 #[.int .i64 ki] w fun e w' => e = .returned (.func (.func 99) #[] #[]) ∧ w = w' := by
  have hk : (ki == 3) = false := by simpa using h
  go_enter Tryz.func65, Tryz.ntmps65
  go_wp2
  go_ret
  exact ⟨rfl, rfl⟩
set_option maxHeartbeats 4000000 in
theorem coversAsItIs_any (id la ki wi z cx cy : Int) (b n cap : Nat) (X Y : Nat → Int) (lab : ByteArray) (pr : Int) (w : World) (hp : PtsAt w b 0 n X Y) (hbl : b < w.heap.size) (hn0 : 0 < n) (hn : n ≤ 40) (hin : ∀ i, i < n → inW (X i) (Y i) = true) (hw : 0 ≤ wi ∧ wi ≤ 3) (hz : zoomB z = true) :
    Calls Tryz.prog 31 #[.agg #[.int .i64 id, .int .i64 la, .int .i64 ki, .int .i64 wi, .slice (some ⟨b, 0, none⟩) n cap, .string lab, .int .i64 pr], .int .i64 z, .agg #[.int .i64 cx, .int .i64 cy]] w fun e w' => e = .returned (.bool (coverB ki wi z cx cy (dblL X Y n))) ∧ Below w.heap.size w w' := by
  have HP : Hid (PtsAt w b 0 n X Y) := hp
  have HIN : Hid (∀ i, i < n → inW (X i) (Y i) = true) := hin
  have HW : Hid (0 ≤ wi ∧ wi ≤ 3) := hw
  have hdl := dblL_len X Y n
  clear hp hin hw
  go_enter Tryz.func31, Tryz.ntmps31
  go_wp2_with fail
  generalize hW : ((w.alloc _).alloc _ : World) = W
  have hB0 : Below w.heap.size w W := by subst hW; (repeat (first | exact Below.refl _ _ | assumption | refine Below.drew ?_ | refine bl_alloc ?_ _ | refine bl_then ?_ (by assumption) | refine Below.setCell ?_ (by first | omega | (simp; done) | (simp; omega)) _ | refine bl_store ?_ ?_ _ _))
  have c0 : ∀ W', Below W.heap.size W W' → W'.cell? ⟨w.heap.size, 0, none⟩ = some (.int .i64 id) := fun W' h => by
    rw [h.cell (by subst hW; simp <;> omega)]; subst hW; simp [go_sem]
  have c1 : ∀ W', Below W.heap.size W W' → W'.cell? ⟨w.heap.size, 1, none⟩ = some (.int .i64 la) := fun W' h => by
    rw [h.cell (by subst hW; simp <;> omega)]; subst hW; simp [go_sem]
  have c2 : ∀ W', Below W.heap.size W W' → W'.cell? ⟨w.heap.size, 2, none⟩ = some (.int .i64 ki) := fun W' h => by
    rw [h.cell (by subst hW; simp <;> omega)]; subst hW; simp [go_sem]
  have c3 : ∀ W', Below W.heap.size W W' → W'.cell? ⟨w.heap.size, 3, none⟩ = some (.int .i64 wi) := fun W' h => by
    rw [h.cell (by subst hW; simp <;> omega)]; subst hW; simp [go_sem]
  have c4 : ∀ W', Below W.heap.size W W' → W'.cell? ⟨w.heap.size, 4, none⟩ = some (.slice (some ⟨b, 0, none⟩) n cap) := fun W' h => by
    rw [h.cell (by subst hW; simp <;> omega)]; subst hW; simp [go_sem]
  have c5 : ∀ W', Below W.heap.size W W' → W'.cell? ⟨w.heap.size, 5, none⟩ = some (.string lab) := fun W' h => by
    rw [h.cell (by subst hW; simp <;> omega)]; subst hW; simp [go_sem]
  have c6 : ∀ W', Below W.heap.size W W' → W'.cell? ⟨w.heap.size, 6, none⟩ = some (.int .i64 pr) := fun W' h => by
    rw [h.cell (by subst hW; simp <;> omega)]; subst hW; simp [go_sem]
  have d0 : ∀ W', Below W.heap.size W W' → W'.cell? ⟨w.heap.size + 1, 0, none⟩ = some (.int .i64 cx) := fun W' h => by
    rw [h.cell (by subst hW; simp <;> omega)]; subst hW; simp [go_sem]
  have d1 : ∀ W', Below W.heap.size W W' → W'.cell? ⟨w.heap.size + 1, 1, none⟩ = some (.int .i64 cy) := fun W' h => by
    rw [h.cell (by subst hW; simp <;> omega)]; subst hW; simp [go_sem]
  clear hW
  have HB0 : Hid (Below w.heap.size w W) := hB0
  have HPW : Hid (PtsAt W b 0 n X Y) := HP.out.below hB0 hbl
  have hblW : b < W.heap.size := Nat.lt_of_lt_of_le hbl hB0.size
  clear hB0 HP
  have hr0 : Below W.heap.size W W := Below.refl _ _
  by_cases hk : ki = 3
  · subst hk
    have HK : Hid (coverB 3 wi z cx cy (dblL X Y n) = insideB cx cy n (px (dblL X Y n)) (py (dblL X Y n))) := by show _ = _; simp [coverB, hdl]
    refine (coveringOf_area _).mono ?_
    rintro e w1 ⟨rfl, rfl⟩
    go_wp2_with fail
    go_region_held3 (fun W' => Below W.heap.size W W') ((repeat (first | exact Below.refl _ _ | assumption | refine Below.drew ?_ | refine bl_alloc ?_ _ | refine bl_then ?_ (by assumption) | refine Below.setCell ?_ (by first | omega | (simp; done) | (simp; omega)) _ | refine bl_store ?_ ?_ _ _)))
      (first
        | (go_at_call 66; refine (doubled_at b 0 n cap X Y _ (HPW.out.below (by assumption) hblW) (Nat.lt_of_lt_of_le hblW (Below.size (by assumption))) hn0 hn HIN.out).mono ?_; rintro e w2 ⟨g, cg, rfl, hgl, hcg, hPg, hb2⟩)
        | (go_at_call 42; refine (reachAt_any id la 3 wi z _ lab pr _ HW.out hz ⟨_, _, _, rfl⟩).mono ?_; rintro e w3 ⟨rfl, hb3⟩)
        | (go_at_call 98; refine (isInArea_any _ _ _ g n cg _ _ _ (hPg.below hb3 hgl) (Nat.lt_of_lt_of_le hgl hb3.size) (by omega) hcg).mono ?_; rintro e w4 ⟨rfl, hb4⟩))
    go_wp2
    go_ret
    exact ⟨ret_bool HK.out.symm, bl_then HB0.out (by assumption)⟩
  · have HK : Hid (coverB ki wi z cx cy (dblL X Y n) = byB cx cy (reachI wi z) (px (dblL X Y n)) (py (dblL X Y n)) n) := by show _ = _; simp [coverB, hdl, hk]
    refine (coveringOf_line _ _ hk).mono ?_
    rintro e w1 ⟨rfl, rfl⟩
    go_wp2_with fail
    go_region_held3 (fun W' => Below W.heap.size W W') ((repeat (first | exact Below.refl _ _ | assumption | refine Below.drew ?_ | refine bl_alloc ?_ _ | refine bl_then ?_ (by assumption) | refine Below.setCell ?_ (by first | omega | (simp; done) | (simp; omega)) _ | refine bl_store ?_ ?_ _ _)))
      (first
        | (go_at_call 66; refine (doubled_at b 0 n cap X Y _ (HPW.out.below (by assumption) hblW) (Nat.lt_of_lt_of_le hblW (Below.size (by assumption))) hn0 hn HIN.out).mono ?_; rintro e w2 ⟨g, cg, rfl, hgl, hcg, hPg, hb2⟩)
        | (go_at_call 42; refine (reachAt_any id la ki wi z _ lab pr _ HW.out hz ⟨_, _, _, rfl⟩).mono ?_; rintro e w3 ⟨rfl, hb3⟩)
        | (go_at_call 99; refine (isByLine_any _ _ _ g n cg _ _ _ (hPg.below hb3 hgl) (Nat.lt_of_lt_of_le hgl hb3.size) hn0 (by omega) hcg).mono ?_; rintro e w4 ⟨rfl, hb4⟩))
    go_wp2
    go_ret
    exact ⟨ret_bool HK.out.symm, bl_then HB0.out (by assumption)⟩
end Go.Proofs.YtjnglencgkhhaaaGreat
