/- Several texts in one. -/
import Derived.Test.YtaodbplepegapaaGreatVPaintedAt3
import Derived.Test.YtaodbplepegapaaGreatVPaintedAt4
import Derived.Test.YtaodbplepegapaaGreatVPaintedAt2
import Derived.LoopN

/- How many pixels the world has on a side, and their centres. -/

namespace Go.Proofs.YtaodbplepegapaaGreat
open Go.RowKit
set_option linter.unusedSimpArgs false
set_option linter.unusedVariables false
set_option maxRecDepth 100000

/-- How many pixels the world has on a side. -/
def pixI (z : Int) : Int := if z = 0 then 8 else if z = 1 then 16 else if z = 2 then 32 else 64
/-- The answer of PixelCount. -/
def pixV (z : Int) : Value := if zoomB z = true then .agg #[.int .i64 0, .int .i64 (pixI z)] else .agg #[.int .i64 3, .int .i64 0]
/-- A pixel. -/
def pixB (z x y : Int) : Bool := zoomB z && (inB x 0 (pixI z - 1) && inB y 0 (pixI z - 1))
/-- The centre of a pixel, doubled. -/
def centI (z x : Int) : Int := (2 * x + 1) * unitI z
/-- The answer of CentreOf. -/
def centV (z x y : Int) : Value := if pixB z x y = true then .agg #[.int .i64 0, .int .i64 (centI z x), .int .i64 (centI z y)] else .agg #[.int .i64 3, .int .i64 0, .int .i64 0]
theorem pixB_zoom {z x y : Int} (h : pixB z x y = true) : zoomB z = true := by
  simp [pixB] at h
  exact h.1
theorem pixB_in {z x y : Int} (h : pixB z x y = true) : (0 ≤ x ∧ x ≤ pixI z - 1) ∧ (0 ≤ y ∧ y ≤ pixI z - 1) := by
  simp [pixB, inB] at h
  exact h.2
theorem pixI_bd {z : Int} (h : zoomB z = true) : 8 ≤ pixI z ∧ pixI z ≤ 64 := by
  rcases zoomB_cases h with rfl | rfl | rfl | rfl <;> decide
theorem cent_ok {z x y : Int} (h : pixB z x y = true) : okP (centI z x) (centI z y) = true := by
  have hz := pixB_zoom h
  have hb := pixB_in h
  rw [okP_iff]
  unfold centI
  rcases zoomB_cases hz with rfl | rfl | rfl | rfl
  all_goals
    simp only [show unitI 0 = 128 from rfl, show unitI 1 = 64 from rfl, show unitI 2 = 32 from rfl, show unitI 3 = 16 from rfl, show pixI 0 = 8 from rfl, show pixI 1 = 16 from rfl, show pixI 2 = 32 from rfl, show pixI 3 = 64 from rfl] at *
    omega

theorem impl_PixelCount_any (z : Int) (w : World) : Calls Tryz.prog 79 #[.int .i64 z] w fun e w' => e = .returned (pixV z) ∧ Below w.heap.size w w' := by
  cases h : zoomB z
  · go_enter Tryz.func79, Tryz.ntmps79
    go_wp2_with (go_at_call 36; refine (isZoom_any _ _).mono ?_; rintro e w' ⟨rfl, rfl⟩)
    exact bodyPost_ret (v := .agg #[.int .i64 3, .int .i64 0]) (by simp [results, Tryz.results79, go_sem]) rfl ⟨by simp [pixV, h], by (repeat (first | exact Below.refl _ _ | assumption | refine Below.drew ?_ | refine bl_alloc ?_ _ | refine bl_then ?_ (by assumption) | refine Below.setCell ?_ (by first | omega | (simp; done) | (simp; omega)) _ | refine bl_store ?_ ?_ _ _))⟩
  · rcases zoomB_cases h with rfl | rfl | rfl | rfl
    all_goals
      go_enter Tryz.func79, Tryz.ntmps79
      go_wp2_with (go_at_call 36; refine (isZoom_any _ _).mono ?_; rintro e w' ⟨rfl, rfl⟩)
      first
        | exact bodyPost_ret (v := .agg #[.int .i64 0, .int .i64 8]) (by simp [results, Tryz.results79, go_sem]; done) rfl ⟨rfl, by (repeat (first | exact Below.refl _ _ | assumption | refine Below.drew ?_ | refine bl_alloc ?_ _ | refine bl_then ?_ (by assumption) | refine Below.setCell ?_ (by first | omega | (simp; done) | (simp; omega)) _ | refine bl_store ?_ ?_ _ _))⟩
        | exact bodyPost_ret (v := .agg #[.int .i64 0, .int .i64 16]) (by simp [results, Tryz.results79, go_sem]; done) rfl ⟨rfl, by (repeat (first | exact Below.refl _ _ | assumption | refine Below.drew ?_ | refine bl_alloc ?_ _ | refine bl_then ?_ (by assumption) | refine Below.setCell ?_ (by first | omega | (simp; done) | (simp; omega)) _ | refine bl_store ?_ ?_ _ _))⟩
        | exact bodyPost_ret (v := .agg #[.int .i64 0, .int .i64 32]) (by simp [results, Tryz.results79, go_sem]; done) rfl ⟨rfl, by (repeat (first | exact Below.refl _ _ | assumption | refine Below.drew ?_ | refine bl_alloc ?_ _ | refine bl_then ?_ (by assumption) | refine Below.setCell ?_ (by first | omega | (simp; done) | (simp; omega)) _ | refine bl_store ?_ ?_ _ _))⟩
        | exact bodyPost_ret (v := .agg #[.int .i64 0, .int .i64 64]) (by simp [results, Tryz.results79, go_sem]; done) rfl ⟨rfl, by (repeat (first | exact Below.refl _ _ | assumption | refine Below.drew ?_ | refine bl_alloc ?_ _ | refine bl_then ?_ (by assumption) | refine Below.setCell ?_ (by first | omega | (simp; done) | (simp; omega)) _ | refine bl_store ?_ ?_ _ _))⟩
theorem l4Count_any (z : Int) (w : World) (h : zoomB z = true) : Calls Tryz.prog 70 #[.int .i64 z] w fun e w' => e = .returned (.int .i64 (pixI z)) ∧ w = w' := by
  rcases zoomB_cases h with rfl | rfl | rfl | rfl
  all_goals
    go_enter Tryz.func70, Tryz.ntmps70
    go_wp2
    go_ret
    exact ⟨rfl, rfl⟩
theorem isPixel_any (z x y : Int) (w : World) : Calls Tryz.prog 38 #[.int .i64 z, .int .i64 x, .int .i64 y] w fun e w' => e = .returned (.bool (pixB z x y)) ∧ Below w.heap.size w w' := by
  have s1 := fun w => impl_PixelCount_any z w
  cases h : zoomB z
  · have hv : pixV z = .agg #[.int .i64 3, .int .i64 0] := by simp [pixV, h]
    simp only [hv] at s1
    have i1 : ∀ w, (Instr.field 25 (.agg #[.int .i64 3, .int .i64 0]) 1).run Tryz.prog w = .ok (.int .i64 0) w := fun _ => by kernel_rfl
    have hx : inB x 0 (-1) = false := by simp [inB]; omega
    have hp : Hid (pixB z x y = false) := by show _ = _; simp [pixB, h]
    go_enter Tryz.func38, Tryz.ntmps38
    go_wp2_with (first
      | (go_at_call 79; refine (s1 _).mono ?_; rintro e w1 ⟨rfl, hb1⟩)
      | (go_at_call 75; refine (isWithin_any _ _ _ _).mono ?_; rintro e w' ⟨rfl, rfl⟩))
    all_goals (go_ret; exact ⟨ret_bool (by rw [hp.out]), by (repeat (first | exact Below.refl _ _ | assumption | refine Below.drew ?_ | refine bl_alloc ?_ _ | refine bl_then ?_ (by assumption) | refine Below.setCell ?_ (by first | omega | (simp; done) | (simp; omega)) _ | refine bl_store ?_ ?_ _ _))⟩)
  · have hv : pixV z = .agg #[.int .i64 0, .int .i64 (pixI z)] := by simp [pixV, h]
    simp only [hv] at s1
    have hp : Hid (pixB z x y = (inB x 0 (pixI z - 1) && inB y 0 (pixI z - 1))) := by show _ = _; simp [pixB, h]
    obtain ⟨b1, b2⟩ := pixI_bd h
    generalize pixI z = u at *
    have i1 : ∀ w, (Instr.field 25 (.agg #[.int .i64 0, .int .i64 u]) 1).run Tryz.prog w = .ok (.int .i64 u) w := fun _ => by kernel_rfl
    cases hx : inB x 0 (u - 1) <;> cases hy : inB y 0 (u - 1)
    all_goals
      go_enter Tryz.func38, Tryz.ntmps38
      go_wp2_with (first
        | (go_at_call 79; refine (s1 _).mono ?_; rintro e w1 ⟨rfl, hb1⟩)
        | (go_at_call 75; refine (isWithin_any _ _ _ _).mono ?_; rintro e w' ⟨rfl, rfl⟩))
      all_goals (go_ret; exact ⟨ret_bool (by rw [hp.out, hx, hy]; rfl), by (repeat (first | exact Below.refl _ _ | assumption | refine Below.drew ?_ | refine bl_alloc ?_ _ | refine bl_then ?_ (by assumption) | refine Below.setCell ?_ (by first | omega | (simp; done) | (simp; omega)) _ | refine bl_store ?_ ?_ _ _))⟩)
theorem l4Pixel_any (z x y : Int) (w : World) (h : zoomB z = true) : Calls Tryz.prog 32 #[.int .i64 z, .int .i64 x, .int .i64 y] w fun e w' => e = .returned (.bool (pixB z x y)) ∧ w = w' := by
  have s1 := fun w => l4Count_any z w h
  have hp : Hid (pixB z x y = (inB x 0 (pixI z - 1) && inB y 0 (pixI z - 1))) := by show _ = _; simp [pixB, h]
  obtain ⟨b1, b2⟩ := pixI_bd h
  generalize pixI z = u at *
  cases hx : inB x 0 (u - 1) <;> cases hy : inB y 0 (u - 1)
  all_goals
    go_enter Tryz.func32, Tryz.ntmps32
    go_wp2_with (first
      | (go_at_call 70; refine (s1 _).mono ?_; rintro e w1 ⟨rfl, rfl⟩)
      | (go_at_call 67; refine (l1In_any _ _ _ _).mono ?_; rintro e w' ⟨rfl, rfl⟩))
    all_goals (go_ret; exact ⟨ret_bool (by rw [hp.out, hx, hy]; rfl), rfl⟩)
theorem l4Centre_any (z x y : Int) (w : World) (h : pixB z x y = true) : Calls Tryz.prog 99 #[.int .i64 z, .int .i64 x, .int .i64 y] w fun e w' => e = .returned (.agg #[.int .i64 (centI z x), .int .i64 (centI z y)]) ∧ Below w.heap.size w w' := by
  have hz := pixB_zoom h
  have hb := pixB_in h
  have s1 := fun w => l3Unit_any z w hz
  clear h
  unfold centI
  rcases zoomB_cases hz with rfl | rfl | rfl | rfl
  all_goals
    simp only [show unitI 0 = 128 from rfl, show unitI 1 = 64 from rfl, show unitI 2 = 32 from rfl, show unitI 3 = 16 from rfl, show pixI 0 = 8 from rfl, show pixI 1 = 16 from rfl, show pixI 2 = 32 from rfl, show pixI 3 = 64 from rfl] at *
    obtain ⟨⟨x0, x1⟩, y0, y1⟩ := hb
    go_enter Tryz.func99, Tryz.ntmps99
    go_wp2_with (go_at_call 131; refine (s1 _).mono ?_; rintro e w1 ⟨rfl, rfl⟩)
    exact bodyPost_ret (v := .agg #[.int .i64 _, .int .i64 _]) (by simp [results, Tryz.results99, go_sem]) rfl ⟨rfl, by (repeat (first | exact Below.refl _ _ | assumption | refine Below.drew ?_ | refine bl_alloc ?_ _ | refine bl_then ?_ (by assumption) | refine Below.setCell ?_ (by first | omega | (simp; done) | (simp; omega)) _ | refine bl_store ?_ ?_ _ _))⟩
end Go.Proofs.YtaodbplepegapaaGreat
/- What the smallest functions of features answer. -/

namespace Go.Proofs.YtaodbplepegapaaGreat
open Go.RowKit
set_option linter.unusedSimpArgs false
set_option linter.unusedVariables false

/-- A letter a to z. -/
def letB (c : Int) : Bool := decide (97 ≤ c) && decide (c ≤ 122)
theorem isLetter_any (c : Int) (w : World) : Calls Tryz.prog 154 #[.int .u8 c] w fun e w' => e = .returned (.bool (letB c)) ∧ w' = w := by
  unfold letB
  go_enter Tryz.func154, Tryz.ntmps154
  by_cases h1 : 97 ≤ c
  · go_wp2
    all_goals (go_ret; exact ⟨ret_bool (by simp [h1]), rfl⟩)
  · have h2 : decide (97 ≤ c) = false := by simpa using h1
    go_wp2
    all_goals (go_ret; exact ⟨ret_bool (by simp [h1]), rfl⟩)

/-- The points that a kind may have. -/
def sizeB (ki : Int) (n : Int) : Bool := if ki = 1 then decide (n = 1) else if ki = 2 then inB n 2 12 else inB n 3 12
theorem l2Size_any (ki n : Int) (w : World) : Calls Tryz.prog 97 #[.int .i64 ki, .int .i64 n] w fun e w' => e = .returned (.bool (sizeB ki n)) ∧ w' = w := by
  unfold sizeB
  by_cases h1 : ki = 1
  · subst h1
    go_enter Tryz.func97, Tryz.ntmps97
    go_wp2
    go_ret
    exact ⟨ret_bool rfl, rfl⟩
  · by_cases h2 : ki = 2
    · subst h2
      go_enter Tryz.func97, Tryz.ntmps97
      go_wp2_with (go_at_call 67; refine (l1In_any _ _ _ _).mono ?_; rintro e w' ⟨rfl, rfl⟩)
      go_ret
      exact ⟨ret_bool (by simp), rfl⟩
    · have k1 : (ki == 1) = false := by simpa using h1
      have k2 : (ki == 2) = false := by simpa using h2
      go_enter Tryz.func97, Tryz.ntmps97
      go_wp2_with (go_at_call 67; refine (l1In_any _ _ _ _).mono ?_; rintro e w' ⟨rfl, rfl⟩)
      go_ret
      exact ⟨ret_bool (by simp [h1, h2]), rfl⟩
end Go.Proofs.YtaodbplepegapaaGreat
/- kinds. -/

namespace Go.Proofs.YtaodbplepegapaaGreat
open Go.RowKit
set_option linter.unusedSimpArgs false
set_option linter.unusedVariables false
set_option maxRecDepth 100000

abbrev kP : Value := .iface 195 (.agg #[])
abbrev kL : Value := .iface 196 (.agg #[])
abbrev kA : Value := .iface 197 (.agg #[])
theorem kinds_ex (w : World) : Calls Tryz.prog 153 #[] w fun e w' => e = .returned (.slice (some ⟨w.heap.size, 0, none⟩) 3 3) ∧ w' = w.alloc (.cells #[kP, kL, kA] 164) := by
  go_enter Tryz.func153, Tryz.ntmps153
  go_wp2
  go_ret
  exact ⟨rfl, rfl⟩
theorem numP (w : World) : (method 351 195 (.agg #[]) "loop.example/g00403/impl.number").run Tryz.prog w = .ok (199, .agg #[]) w := by kernel_rfl
theorem numberP (w : World) : Calls Tryz.prog 199 #[.agg #[]] w fun e w' => e = .returned (.int .i64 1) ∧ Below w.heap.size w w' := by
  go_enter Tryz.func199, Tryz.ntmps199
  go_wp2
  go_ret
  exact ⟨rfl, by (repeat (first | exact Below.refl _ _ | assumption | refine Below.drew ?_ | refine bl_alloc ?_ _ | refine bl_then ?_ (by assumption) | refine Below.setCell ?_ (by first | omega | (simp; done) | (simp; omega)) _ | refine bl_store ?_ ?_ _ _))⟩
theorem numL (w : World) : (method 351 196 (.agg #[]) "loop.example/g00403/impl.number").run Tryz.prog w = .ok (200, .agg #[]) w := by kernel_rfl
theorem numberL (w : World) : Calls Tryz.prog 200 #[.agg #[]] w fun e w' => e = .returned (.int .i64 2) ∧ Below w.heap.size w w' := by
  go_enter Tryz.func200, Tryz.ntmps200
  go_wp2
  go_ret
  exact ⟨rfl, by (repeat (first | exact Below.refl _ _ | assumption | refine Below.drew ?_ | refine bl_alloc ?_ _ | refine bl_then ?_ (by assumption) | refine Below.setCell ?_ (by first | omega | (simp; done) | (simp; omega)) _ | refine bl_store ?_ ?_ _ _))⟩
theorem numA (w : World) : (method 351 197 (.agg #[]) "loop.example/g00403/impl.number").run Tryz.prog w = .ok (201, .agg #[]) w := by kernel_rfl
theorem numberA (w : World) : Calls Tryz.prog 201 #[.agg #[]] w fun e w' => e = .returned (.int .i64 3) ∧ Below w.heap.size w w' := by
  go_enter Tryz.func201, Tryz.ntmps201
  go_wp2
  go_ret
  exact ⟨rfl, by (repeat (first | exact Below.refl _ _ | assumption | refine Below.drew ?_ | refine bl_alloc ?_ _ | refine bl_then ?_ (by assumption) | refine Below.setCell ?_ (by first | omega | (simp; done) | (simp; omega)) _ | refine bl_store ?_ ?_ _ _))⟩
set_option maxHeartbeats 1000000 in
theorem kindOf_1 (w : World) : Calls Tryz.prog 121 #[.int .i64 1] w fun e w' => e = .returned kP ∧ Below w.heap.size w w' := by
  have h1 := numP
  have h2 := numL
  have h3 := numA
  go_enter Tryz.func121, Tryz.ntmps121
  go_wp2_with fail
  refine (kinds_ex _).mono ?_
  rintro e W ⟨rfl, hW⟩
  have hB : Below w.heap.size w W := by subst hW; (repeat (first | exact Below.refl _ _ | assumption | refine Below.drew ?_ | refine bl_alloc ?_ _ | refine bl_then ?_ (by assumption) | refine Below.setCell ?_ (by first | omega | (simp; done) | (simp; omega)) _ | refine bl_store ?_ ?_ _ _))
  have c0 : ∀ W', Below W.heap.size W W' → W'.cell? ⟨w.heap.size, 0, none⟩ = some kP := fun W' h => by
    rw [h.cell (by subst hW; simp)]; subst hW; simp [go_sem]
  have c1 : ∀ W', Below W.heap.size W W' → W'.cell? ⟨w.heap.size, 1, none⟩ = some kL := fun W' h => by
    rw [h.cell (by subst hW; simp)]; subst hW; simp [go_sem]
  have c2 : ∀ W', Below W.heap.size W W' → W'.cell? ⟨w.heap.size, 2, none⟩ = some kA := fun W' h => by
    rw [h.cell (by subst hW; simp)]; subst hW; simp [go_sem]
  clear hW
  have HB : Hid (Below w.heap.size w W) := hB
  clear hB
  have hr : Below W.heap.size W W := Below.refl _ _
  go_wp2
  refine wp_loop_rounds 4 ?_
  rw [rounds_succ]
  go_wp2_with fail
  refine (numberP _).mono ?_
  rintro e w0 ⟨rfl, hb0⟩
  have hB0 : Below W.heap.size W w0 := by (repeat (first | exact Below.refl _ _ | assumption | refine Below.drew ?_ | refine bl_alloc ?_ _ | refine bl_then ?_ (by assumption) | refine Below.setCell ?_ (by first | omega | (simp; done) | (simp; omega)) _ | refine bl_store ?_ ?_ _ _))
  go_wp2_with fail
  go_ret
  exact ⟨rfl, bl_then HB.out (by assumption)⟩
set_option maxHeartbeats 1000000 in
theorem kindOf_2 (w : World) : Calls Tryz.prog 121 #[.int .i64 2] w fun e w' => e = .returned kL ∧ Below w.heap.size w w' := by
  have h1 := numP
  have h2 := numL
  have h3 := numA
  go_enter Tryz.func121, Tryz.ntmps121
  go_wp2_with fail
  refine (kinds_ex _).mono ?_
  rintro e W ⟨rfl, hW⟩
  have hB : Below w.heap.size w W := by subst hW; (repeat (first | exact Below.refl _ _ | assumption | refine Below.drew ?_ | refine bl_alloc ?_ _ | refine bl_then ?_ (by assumption) | refine Below.setCell ?_ (by first | omega | (simp; done) | (simp; omega)) _ | refine bl_store ?_ ?_ _ _))
  have c0 : ∀ W', Below W.heap.size W W' → W'.cell? ⟨w.heap.size, 0, none⟩ = some kP := fun W' h => by
    rw [h.cell (by subst hW; simp)]; subst hW; simp [go_sem]
  have c1 : ∀ W', Below W.heap.size W W' → W'.cell? ⟨w.heap.size, 1, none⟩ = some kL := fun W' h => by
    rw [h.cell (by subst hW; simp)]; subst hW; simp [go_sem]
  have c2 : ∀ W', Below W.heap.size W W' → W'.cell? ⟨w.heap.size, 2, none⟩ = some kA := fun W' h => by
    rw [h.cell (by subst hW; simp)]; subst hW; simp [go_sem]
  clear hW
  have HB : Hid (Below w.heap.size w W) := hB
  clear hB
  have hr : Below W.heap.size W W := Below.refl _ _
  go_wp2
  refine wp_loop_rounds 4 ?_
  rw [rounds_succ]
  go_wp2_with fail
  refine (numberP _).mono ?_
  rintro e w0 ⟨rfl, hb0⟩
  have hB0 : Below W.heap.size W w0 := by (repeat (first | exact Below.refl _ _ | assumption | refine Below.drew ?_ | refine bl_alloc ?_ _ | refine bl_then ?_ (by assumption) | refine Below.setCell ?_ (by first | omega | (simp; done) | (simp; omega)) _ | refine bl_store ?_ ?_ _ _))
  go_wp2_with fail
  rw [rounds_succ]
  go_wp2_with fail
  refine (numberL _).mono ?_
  rintro e w1 ⟨rfl, hb1⟩
  have hB1 : Below W.heap.size W w1 := by (repeat (first | exact Below.refl _ _ | assumption | refine Below.drew ?_ | refine bl_alloc ?_ _ | refine bl_then ?_ (by assumption) | refine Below.setCell ?_ (by first | omega | (simp; done) | (simp; omega)) _ | refine bl_store ?_ ?_ _ _))
  go_wp2_with fail
  go_ret
  exact ⟨rfl, bl_then HB.out (by assumption)⟩
set_option maxHeartbeats 1000000 in
theorem kindOf_3 (w : World) : Calls Tryz.prog 121 #[.int .i64 3] w fun e w' => e = .returned kA ∧ Below w.heap.size w w' := by
  have h1 := numP
  have h2 := numL
  have h3 := numA
  go_enter Tryz.func121, Tryz.ntmps121
  go_wp2_with fail
  refine (kinds_ex _).mono ?_
  rintro e W ⟨rfl, hW⟩
  have hB : Below w.heap.size w W := by subst hW; (repeat (first | exact Below.refl _ _ | assumption | refine Below.drew ?_ | refine bl_alloc ?_ _ | refine bl_then ?_ (by assumption) | refine Below.setCell ?_ (by first | omega | (simp; done) | (simp; omega)) _ | refine bl_store ?_ ?_ _ _))
  have c0 : ∀ W', Below W.heap.size W W' → W'.cell? ⟨w.heap.size, 0, none⟩ = some kP := fun W' h => by
    rw [h.cell (by subst hW; simp)]; subst hW; simp [go_sem]
  have c1 : ∀ W', Below W.heap.size W W' → W'.cell? ⟨w.heap.size, 1, none⟩ = some kL := fun W' h => by
    rw [h.cell (by subst hW; simp)]; subst hW; simp [go_sem]
  have c2 : ∀ W', Below W.heap.size W W' → W'.cell? ⟨w.heap.size, 2, none⟩ = some kA := fun W' h => by
    rw [h.cell (by subst hW; simp)]; subst hW; simp [go_sem]
  clear hW
  have HB : Hid (Below w.heap.size w W) := hB
  clear hB
  have hr : Below W.heap.size W W := Below.refl _ _
  go_wp2
  refine wp_loop_rounds 4 ?_
  rw [rounds_succ]
  go_wp2_with fail
  refine (numberP _).mono ?_
  rintro e w0 ⟨rfl, hb0⟩
  have hB0 : Below W.heap.size W w0 := by (repeat (first | exact Below.refl _ _ | assumption | refine Below.drew ?_ | refine bl_alloc ?_ _ | refine bl_then ?_ (by assumption) | refine Below.setCell ?_ (by first | omega | (simp; done) | (simp; omega)) _ | refine bl_store ?_ ?_ _ _))
  go_wp2_with fail
  rw [rounds_succ]
  go_wp2_with fail
  refine (numberL _).mono ?_
  rintro e w1 ⟨rfl, hb1⟩
  have hB1 : Below W.heap.size W w1 := by (repeat (first | exact Below.refl _ _ | assumption | refine Below.drew ?_ | refine bl_alloc ?_ _ | refine bl_then ?_ (by assumption) | refine Below.setCell ?_ (by first | omega | (simp; done) | (simp; omega)) _ | refine bl_store ?_ ?_ _ _))
  go_wp2_with fail
  rw [rounds_succ]
  go_wp2_with fail
  refine (numberA _).mono ?_
  rintro e w2 ⟨rfl, hb2⟩
  have hB2 : Below W.heap.size W w2 := by (repeat (first | exact Below.refl _ _ | assumption | refine Below.drew ?_ | refine bl_alloc ?_ _ | refine bl_then ?_ (by assumption) | refine Below.setCell ?_ (by first | omega | (simp; done) | (simp; omega)) _ | refine bl_store ?_ ?_ _ _))
  go_wp2_with fail
  go_ret
  exact ⟨rfl, bl_then HB.out (by assumption)⟩
set_option maxHeartbeats 1000000 in
theorem kindOf_no (ki : Int) (w : World) (k1 : ki ≠ 1) (k2 : ki ≠ 2) (k3 : ki ≠ 3) : Calls Tryz.prog 121 #[.int .i64 ki] w fun e w' => e = .returned .nilIface ∧ Below w.heap.size w w' := by
  have h1 := numP
  have h2 := numL
  have h3 := numA
  have e1 : ((1 : Int) == ki) = false := by simp; omega
  have e2 : ((2 : Int) == ki) = false := by simp; omega
  have e3 : ((3 : Int) == ki) = false := by simp; omega
  go_enter Tryz.func121, Tryz.ntmps121
  go_wp2_with fail
  refine (kinds_ex _).mono ?_
  rintro e W ⟨rfl, hW⟩
  have hB : Below w.heap.size w W := by subst hW; (repeat (first | exact Below.refl _ _ | assumption | refine Below.drew ?_ | refine bl_alloc ?_ _ | refine bl_then ?_ (by assumption) | refine Below.setCell ?_ (by first | omega | (simp; done) | (simp; omega)) _ | refine bl_store ?_ ?_ _ _))
  have c0 : ∀ W', Below W.heap.size W W' → W'.cell? ⟨w.heap.size, 0, none⟩ = some kP := fun W' h => by
    rw [h.cell (by subst hW; simp)]; subst hW; simp [go_sem]
  have c1 : ∀ W', Below W.heap.size W W' → W'.cell? ⟨w.heap.size, 1, none⟩ = some kL := fun W' h => by
    rw [h.cell (by subst hW; simp)]; subst hW; simp [go_sem]
  have c2 : ∀ W', Below W.heap.size W W' → W'.cell? ⟨w.heap.size, 2, none⟩ = some kA := fun W' h => by
    rw [h.cell (by subst hW; simp)]; subst hW; simp [go_sem]
  clear hW
  have HB : Hid (Below w.heap.size w W) := hB
  clear hB
  have hr : Below W.heap.size W W := Below.refl _ _
  go_wp2
  refine wp_loop_rounds 4 ?_
  rw [rounds_succ]
  go_wp2_with fail
  refine (numberP _).mono ?_
  rintro e w0 ⟨rfl, hb0⟩
  have hB0 : Below W.heap.size W w0 := by (repeat (first | exact Below.refl _ _ | assumption | refine Below.drew ?_ | refine bl_alloc ?_ _ | refine bl_then ?_ (by assumption) | refine Below.setCell ?_ (by first | omega | (simp; done) | (simp; omega)) _ | refine bl_store ?_ ?_ _ _))
  go_wp2_with fail
  rw [rounds_succ]
  go_wp2_with fail
  refine (numberL _).mono ?_
  rintro e w1 ⟨rfl, hb1⟩
  have hB1 : Below W.heap.size W w1 := by (repeat (first | exact Below.refl _ _ | assumption | refine Below.drew ?_ | refine bl_alloc ?_ _ | refine bl_then ?_ (by assumption) | refine Below.setCell ?_ (by first | omega | (simp; done) | (simp; omega)) _ | refine bl_store ?_ ?_ _ _))
  go_wp2_with fail
  rw [rounds_succ]
  go_wp2_with fail
  refine (numberA _).mono ?_
  rintro e w2 ⟨rfl, hb2⟩
  have hB2 : Below W.heap.size W w2 := by (repeat (first | exact Below.refl _ _ | assumption | refine Below.drew ?_ | refine bl_alloc ?_ _ | refine bl_then ?_ (by assumption) | refine Below.setCell ?_ (by first | omega | (simp; done) | (simp; omega)) _ | refine bl_store ?_ ?_ _ _))
  go_wp2_with fail
  rw [rounds_succ]
  go_wp2_with fail
  go_ret
  exact ⟨rfl, bl_then HB.out (by assumption)⟩
theorem asPP (w : World) : (Instr.typeAssert kP 164 195 true).run Tryz.prog w = .ok (.tuple #[.agg #[], .bool true]) w := by kernel_rfl
theorem asPL (w : World) : (Instr.typeAssert kP 164 196 true).run Tryz.prog w = .ok (.tuple #[.agg #[], .bool false]) w := by kernel_rfl
theorem asPA (w : World) : (Instr.typeAssert kP 164 197 true).run Tryz.prog w = .ok (.tuple #[.agg #[], .bool false]) w := by kernel_rfl
abbrev wordP : ByteArray := ⟨#[112, 111, 105, 110, 116]⟩
theorem tellKind_1 (w : World) : Calls Tryz.prog 123 #[kP] w fun e w' => e = .returned (.tuple #[.string wordP, .int .i64 1]) ∧ Below w.heap.size w w' := by
  have h1 := asPP
  have h2 := asPL
  have h3 := asPA
  go_enter Tryz.func123, Tryz.ntmps123
  go_wp2
  go_ret2
  exact ⟨rfl, by (repeat (first | exact Below.refl _ _ | assumption | refine Below.drew ?_ | refine bl_alloc ?_ _ | refine bl_then ?_ (by assumption) | refine Below.setCell ?_ (by first | omega | (simp; done) | (simp; omega)) _ | refine bl_store ?_ ?_ _ _))⟩
theorem leastPoints_1 (w : World) : Calls Tryz.prog 120 #[kP] w fun e w' => e = .returned (.int .i64 1) ∧ Below w.heap.size w w' := by
  have h1 := numP
  have h2 := numL
  have h3 := numA
  go_enter Tryz.func120, Tryz.ntmps120
  go_wp2_with (first | (go_at_call 199; refine (numberP _).mono ?_; rintro e w' ⟨rfl, hb⟩) | (go_at_call 200; refine (numberL _).mono ?_; rintro e w' ⟨rfl, hb⟩) | (go_at_call 201; refine (numberA _).mono ?_; rintro e w' ⟨rfl, hb⟩))
  go_ret
  exact ⟨rfl, by (repeat (first | exact Below.refl _ _ | assumption | refine Below.drew ?_ | refine bl_alloc ?_ _ | refine bl_then ?_ (by assumption) | refine Below.setCell ?_ (by first | omega | (simp; done) | (simp; omega)) _ | refine bl_store ?_ ?_ _ _))⟩
theorem asLP (w : World) : (Instr.typeAssert kL 164 195 true).run Tryz.prog w = .ok (.tuple #[.agg #[], .bool false]) w := by kernel_rfl
theorem asLL (w : World) : (Instr.typeAssert kL 164 196 true).run Tryz.prog w = .ok (.tuple #[.agg #[], .bool true]) w := by kernel_rfl
theorem asLA (w : World) : (Instr.typeAssert kL 164 197 true).run Tryz.prog w = .ok (.tuple #[.agg #[], .bool false]) w := by kernel_rfl
abbrev wordL : ByteArray := ⟨#[108, 105, 110, 101]⟩
theorem tellKind_2 (w : World) : Calls Tryz.prog 123 #[kL] w fun e w' => e = .returned (.tuple #[.string wordL, .int .i64 12]) ∧ Below w.heap.size w w' := by
  have h1 := asLP
  have h2 := asLL
  have h3 := asLA
  go_enter Tryz.func123, Tryz.ntmps123
  go_wp2
  go_ret2
  exact ⟨rfl, by (repeat (first | exact Below.refl _ _ | assumption | refine Below.drew ?_ | refine bl_alloc ?_ _ | refine bl_then ?_ (by assumption) | refine Below.setCell ?_ (by first | omega | (simp; done) | (simp; omega)) _ | refine bl_store ?_ ?_ _ _))⟩
theorem leastPoints_2 (w : World) : Calls Tryz.prog 120 #[kL] w fun e w' => e = .returned (.int .i64 2) ∧ Below w.heap.size w w' := by
  have h1 := numP
  have h2 := numL
  have h3 := numA
  go_enter Tryz.func120, Tryz.ntmps120
  go_wp2_with (first | (go_at_call 199; refine (numberP _).mono ?_; rintro e w' ⟨rfl, hb⟩) | (go_at_call 200; refine (numberL _).mono ?_; rintro e w' ⟨rfl, hb⟩) | (go_at_call 201; refine (numberA _).mono ?_; rintro e w' ⟨rfl, hb⟩))
  go_ret
  exact ⟨rfl, by (repeat (first | exact Below.refl _ _ | assumption | refine Below.drew ?_ | refine bl_alloc ?_ _ | refine bl_then ?_ (by assumption) | refine Below.setCell ?_ (by first | omega | (simp; done) | (simp; omega)) _ | refine bl_store ?_ ?_ _ _))⟩
theorem asAP (w : World) : (Instr.typeAssert kA 164 195 true).run Tryz.prog w = .ok (.tuple #[.agg #[], .bool false]) w := by kernel_rfl
theorem asAL (w : World) : (Instr.typeAssert kA 164 196 true).run Tryz.prog w = .ok (.tuple #[.agg #[], .bool false]) w := by kernel_rfl
theorem asAA (w : World) : (Instr.typeAssert kA 164 197 true).run Tryz.prog w = .ok (.tuple #[.agg #[], .bool true]) w := by kernel_rfl
abbrev wordA : ByteArray := ⟨#[97, 114, 101, 97]⟩
theorem tellKind_3 (w : World) : Calls Tryz.prog 123 #[kA] w fun e w' => e = .returned (.tuple #[.string wordA, .int .i64 12]) ∧ Below w.heap.size w w' := by
  have h1 := asAP
  have h2 := asAL
  have h3 := asAA
  go_enter Tryz.func123, Tryz.ntmps123
  go_wp2
  go_ret2
  exact ⟨rfl, by (repeat (first | exact Below.refl _ _ | assumption | refine Below.drew ?_ | refine bl_alloc ?_ _ | refine bl_then ?_ (by assumption) | refine Below.setCell ?_ (by first | omega | (simp; done) | (simp; omega)) _ | refine bl_store ?_ ?_ _ _))⟩
theorem leastPoints_3 (w : World) : Calls Tryz.prog 120 #[kA] w fun e w' => e = .returned (.int .i64 3) ∧ Below w.heap.size w w' := by
  have h1 := numP
  have h2 := numL
  have h3 := numA
  go_enter Tryz.func120, Tryz.ntmps120
  go_wp2_with (first | (go_at_call 199; refine (numberP _).mono ?_; rintro e w' ⟨rfl, hb⟩) | (go_at_call 200; refine (numberL _).mono ?_; rintro e w' ⟨rfl, hb⟩) | (go_at_call 201; refine (numberA _).mono ?_; rintro e w' ⟨rfl, hb⟩))
  go_ret
  exact ⟨rfl, by (repeat (first | exact Below.refl _ _ | assumption | refine Below.drew ?_ | refine bl_alloc ?_ _ | refine bl_then ?_ (by assumption) | refine Below.setCell ?_ (by first | omega | (simp; done) | (simp; omega)) _ | refine bl_store ?_ ?_ _ _))⟩
end Go.Proofs.YtaodbplepegapaaGreat
