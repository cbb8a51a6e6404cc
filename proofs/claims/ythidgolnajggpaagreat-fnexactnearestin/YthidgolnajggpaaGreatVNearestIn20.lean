/- Several texts in one. -/
import Derived.Test.YthidgolnajggpaaGreatVNearestIn5
import Derived.Test.YthidgolnajggpaaGreatVNearestIn19
import Derived.Test.YthidgolnajggpaaGreatVNearestIn9

/- What a feature without a fault has. -/

namespace Go.Proofs.YthidgolnajggpaaGreat
open Go.RowKit
set_option linter.unusedSimpArgs false
set_option linter.unusedVariables false

/-- What a feature without a fault has. -/
theorem featC_zero {id la ki wi : Int} {n : Nat} {X Y : Nat → Int} {lab : ByteArray} {pr : Int} (h : featC id la ki wi n X Y lab pr = 0) :
    (ki = 1 ∨ ki = 2 ∨ ki = 3) ∧ 0 < n ∧ n ≤ 12 ∧ (ki ≤ n) ∧ (∀ i, i < n → inW (X i) (Y i) = true) ∧ lab.size ≤ 6 := by
  unfold featC at h
  split at h
  · rename_i h1
    split at h
    · rename_i h2
      split at h
      · rename_i h3
        split at h
        · rename_i h4
          have hk : 1 ≤ ki ∧ ki ≤ 3 := by
            simp [rngB, inB] at h1
            omega
          have hlab : lab.size ≤ 6 := by
            unfold labB at h4
            simp at h4
            exact h4.1
          have hin : ∀ i, i < n → inW (X i) (Y i) = true := of_decide_eq_true h3
          have hkk : ki = 1 ∨ ki = 2 ∨ ki = 3 := by omega
          refine ⟨hkk, ?_, ?_, ?_, hin, hlab⟩
          all_goals
            rcases hkk with rfl | rfl | rfl
            · simp [sizeB] at h2; omega
            · simp [sizeB, inB] at h2; omega
            · simp [sizeB, inB] at h2; omega
        · cases h
      · cases h
    · cases h
  · cases h
/-- What else a feature without a fault has. -/
theorem featC_rng {id la ki wi : Int} {n : Nat} {X Y : Nat → Int} {lab : ByteArray} {pr : Int} (h : featC id la ki wi n X Y lab pr = 0) :
    (1 ≤ id ∧ id ≤ 999) ∧ (0 ≤ la ∧ la ≤ 9) ∧ (0 ≤ wi ∧ wi ≤ 3) ∧ (0 ≤ pr ∧ pr ≤ 9) := by
  unfold featC at h
  split at h
  · rename_i h1
    simp [rngB, inB] at h1
    omega
  · cases h
/-- How many points a kind has. -/
def kindN (ki : Int) (n : Nat) : Prop := (ki = 1 ∧ n = 1) ∨ (ki = 2 ∧ 2 ≤ n) ∨ (ki = 3 ∧ 3 ≤ n)
theorem featC_point {id la wi : Int} {n : Nat} {X Y : Nat → Int} {lab : ByteArray} {pr : Int} (h : featC id la 1 wi n X Y lab pr = 0) : n = 1 := by
  unfold featC at h
  split at h
  · split at h
    · rename_i h2
      simp [sizeB] at h2
      omega
    · cases h
  · cases h
end Go.Proofs.YthidgolnajggpaaGreat
/- How far from its points a feature is still seen. -/

namespace Go.Proofs.YthidgolnajggpaaGreat
open Go.RowKit
set_option linter.unusedSimpArgs false
set_option linter.unusedVariables false
set_option maxRecDepth 100000

/-- The reach, doubled. -/
def reachI (wi z : Int) : Int := (wi + 1) * unitI z
theorem reach_bd {wi z : Int} (hw : 0 ≤ wi ∧ wi ≤ 3) (hz : zoomB z = true) : 16 ≤ reachI wi z ∧ reachI wi z ≤ 512 := by
  unfold reachI
  rcases zoomB_cases hz with rfl | rfl | rfl | rfl
  all_goals
    simp only [show unitI 0 = 128 from rfl, show unitI 1 = 64 from rfl, show unitI 2 = 32 from rfl, show unitI 3 = 16 from rfl]
    omega
theorem unit_lit {z : Int} (hz : zoomB z = true) : unitI z = 128 ∨ unitI z = 64 ∨ unitI z = 32 ∨ unitI z = 16 := by rcases zoomB_cases hz with rfl | rfl | rfl | rfl <;> simp [unitI]

set_option maxHeartbeats 1000000 in
theorem reachAt_any (id la ki wi z : Int) (v : Value) (lab : ByteArray) (pr : Int) (w : World) (hw : 0 ≤ wi ∧ wi ≤ 3) (hz : zoomB z = true) (hv : ∃ a n c, v = .slice a n c) :
    Calls Tryz.prog 106 #[.agg #[.int .i64 id, .int .i64 la, .int .i64 ki, .int .i64 wi, v, .string lab, .int .i64 pr], .int .i64 z] w fun e w' => e = .returned (.int .i64 (reachI wi z)) ∧ Below w.heap.size w w' := by
  obtain ⟨a, n, c, rfl⟩ := hv
  have s1 := fun w => impl_UnitAt_any z w
  have hv : unitV z = .agg #[.int .i64 0, .int .i64 (unitI z)] := by simp [unitV, hz]
  simp only [hv] at s1
  have hbd := unit_lit hz
  have hr : Hid (reachI wi z = (wi + 1) * unitI z) := rfl
  generalize unitI z = u at *
  have i1 : ∀ w, (Instr.field 166 (.agg #[.int .i64 0, .int .i64 u]) 1).run Tryz.prog w = .ok (.int .i64 u) w := fun _ => by kernel_rfl
  have hS := (show Hid _ from s1)
  clear s1 hv
  obtain ⟨hw0, hw1⟩ := hw
  go_enter Tryz.func106, Tryz.ntmps106
  go_wp2_with fail
  generalize hW : (w.alloc _ : World) = W
  have hB0 : Below w.heap.size w W := by subst hW; (repeat (first | exact Below.refl _ _ | assumption | refine Below.drew ?_ | refine bl_alloc ?_ _ | refine bl_then ?_ (by assumption) | refine Below.setCell ?_ (by first | omega | (simp; done) | (simp; omega)) _ | refine bl_store ?_ ?_ _ _))
  have c3 : ∀ W', Below W.heap.size W W' → W'.cell? ⟨w.heap.size, 3, none⟩ = some (.int .i64 wi) := fun W' h => by
    rw [h.cell (by subst hW; simp)]; subst hW; simp [go_sem]
  clear hW
  have hr0 : Below W.heap.size W W := Below.refl _ _
  rcases hbd with rfl | rfl | rfl | rfl
  all_goals
    go_region_held3 (fun W' => Below W.heap.size W W') ((repeat (first | exact Below.refl _ _ | assumption | refine Below.drew ?_ | refine bl_alloc ?_ _ | refine bl_then ?_ (by assumption) | refine Below.setCell ?_ (by first | omega | (simp; done) | (simp; omega)) _ | refine bl_store ?_ ?_ _ _)))
      (first | (go_at_call 111; refine (hS.out _).mono ?_; rintro e w' ⟨rfl, hb⟩))
    go_wp2
    go_ret
    exact ⟨ret_int (by rw [IntWalk.i64_in (wi + 1) (by omega), IntWalk.i64_in _ (by omega)]; exact hr.out.symm), bl_then hB0 (by assumption)⟩
end Go.Proofs.YthidgolnajggpaaGreat
/- The centre of a pixel: the program and the model. -/

namespace Go.Proofs.YthidgolnajggpaaGreat
open Go.RowKit
set_option linter.unusedSimpArgs false
set_option linter.unusedVariables false
set_option maxRecDepth 100000

theorem impl_CentreOf_any (z x y : Int) (w : World) : Calls Tryz.prog 81 #[.int .i64 z, .int .i64 x, .int .i64 y] w fun e w' => e = .returned (centV z x y) ∧ Below w.heap.size w w' := by
  go_enter Tryz.func81, Tryz.ntmps81
  go_wp2_with fail
  generalize hW : (w.alloc _ : World) = W
  have HB0 : Hid (Below w.heap.size w W) := by show Below _ _ _; subst hW; (repeat (first | exact Below.refl _ _ | assumption | refine Below.drew ?_ | refine bl_alloc ?_ _ | refine bl_then ?_ (by assumption) | refine Below.setCell ?_ (by first | omega | (simp; done) | (simp; omega)) _ | refine bl_store ?_ ?_ _ _))
  have HT : Hid (There W w.heap.size 3) := by
    show There _ _ _
    subst hW
    exact there3 w (.int .i64 0) (.int .i64 0) (.int .i64 0) 134
  have hsz : w.heap.size < W.heap.size := by subst hW; simp
  clear hW
  refine (isPixel_any _ _ _ _).mono ?_
  rintro e w1 ⟨rfl, hb1⟩
  have HT1 : Hid (There w1 w.heap.size 3) := HT.out.below hb1
  have HB1 : Hid (Below w.heap.size w w1) := bl_then HB0.out hb1
  have hsz1 : w.heap.size < w1.heap.size := Nat.lt_of_lt_of_le hsz hb1.size
  clear hb1 HT HB0
  cases h : pixB z x y
  · have hT' := HT1.out
    have t0 := hT'.cell 0 (by omega)
    have t1 := hT'.cell 1 (by omega)
    have t2 := hT'.cell 2 (by omega)
    have f0 := (hT' 0 (by omega)).2
    have f1 := (hT' 1 (by omega)).2
    have f2 := (hT' 2 (by omega)).2
    clear hT'
    go_wp2_with fail
    obtain ⟨q0, q1, q2⟩ := set3_at (a := .int .i64 3) (b := .int .i64 0) (c := .int .i64 0) HT1.out
    refine bodyPost_ret (v := .agg #[.int .i64 3, .int .i64 0, .int .i64 0]) (by simp [results, Tryz.results81, go_sem, q0, q1, q2]) rfl ⟨by simp [centV, h], ?_⟩
    have HB := HB1.out
    (repeat (first | exact Below.refl _ _ | assumption | refine Below.drew ?_ | refine bl_alloc ?_ _ | refine bl_then ?_ (by assumption) | refine Below.setCell ?_ (by first | omega | (simp; done) | (simp; omega)) _ | refine bl_store ?_ ?_ _ _))
  · have hz := pixB_zoom h
    have hb := pixB_in h
    have s1 := fun w => impl_UnitAt_any z w
    have hv : unitV z = .agg #[.int .i64 0, .int .i64 (unitI z)] := by simp [unitV, hz]
    simp only [hv] at s1
    have i1 : ∀ u w, (Instr.field 166 (.agg #[.int .i64 0, .int .i64 u]) 1).run Tryz.prog w = .ok (.int .i64 u) w := fun _ _ => by kernel_rfl
    have hc : Hid (centV z x y = .agg #[.int .i64 0, .int .i64 (centI z x), .int .i64 (centI z y)]) := by show _ = _; simp [centV, h]
    have hcx : centI z x = (2 * x + 1) * unitI z := rfl
    have hcy : centI z y = (2 * y + 1) * unitI z := rfl
    have hbd : unitI z = 128 ∨ unitI z = 64 ∨ unitI z = 32 ∨ unitI z = 16 := by rcases zoomB_cases hz with rfl | rfl | rfl | rfl <;> simp [unitI]
    have hpb := (pixI_bd hz).2
    go_wp2_with fail
    refine (s1 _).mono ?_
    rintro e w2 ⟨rfl, hb2⟩
    generalize unitI z = u at *
    generalize pixI z = m at *
    have hT' := HT1.out.below hb2
    have HT2 : Hid (There w2 w.heap.size 3) := hT'
    have t0 := hT'.cell 0 (by omega)
    have t1 := hT'.cell 1 (by omega)
    have t2 := hT'.cell 2 (by omega)
    have f0 := (hT' 0 (by omega)).2
    have f1 := (hT' 1 (by omega)).2
    have f2 := (hT' 2 (by omega)).2
    have HB2 : Hid (Below w.heap.size w w2) := bl_then HB1.out hb2
    have hsz2 : w.heap.size < w2.heap.size := Nat.lt_of_lt_of_le hsz1 hb2.size
    clear hT' hb2
    rcases hbd with rfl | rfl | rfl | rfl
    all_goals
      go_wp2_with fail
      obtain ⟨q0, q1, q2⟩ := set3_at (a := .int .i64 0) (b := .int .i64 (centI z x)) (c := .int .i64 (centI z y)) HT2.out
      rw [hcx, hcy] at q0 q1 q2
      refine bodyPost_ret (v := .agg #[.int .i64 0, .int .i64 (centI z x), .int .i64 (centI z y)]) (by simp [results, Tryz.results81, go_sem, q0, q1, q2, hcx, hcy]) rfl ⟨by rw [hc.out], ?_⟩
      have HB := HB2.out
      (repeat (first | exact Below.refl _ _ | assumption | refine Below.drew ?_ | refine bl_alloc ?_ _ | refine bl_then ?_ (by assumption) | refine Below.setCell ?_ (by first | omega | (simp; done) | (simp; omega)) _ | refine bl_store ?_ ?_ _ _))
end Go.Proofs.YthidgolnajggpaaGreat
/- A row that is not empty. -/

namespace Go.Proofs.YthidgolnajggpaaGreat
open Go.RowKit
set_option linter.unusedVariables false
end Go.Proofs.YthidgolnajggpaaGreat
/- Whether the own points of a feature cover a centre: the program. -/

namespace Go.Proofs.YthidgolnajggpaaGreat
open Go.RowKit
set_option linter.unusedSimpArgs false
set_option linter.unusedVariables false
set_option maxRecDepth 100000

/-- Whether doubled points cover a centre. -/
def coverB (ki wi z cx cy : Int) (D : List (Int × Int)) : Bool := if ki = 3 then insideB cx cy D.length (px D) (py D) else byB cx cy (reachI wi z) (px D) (py D) D.length
theorem coveringOf_area (w : World) : Calls Tryz.prog 104 #[.int .i64 3] w fun e w' => e = .returned (.func (.func 132) #[] #[]) ∧ w = w' := by
  go_enter Tryz.func104, Tryz.ntmps104
  go_wp2
  go_ret
  exact ⟨rfl, rfl⟩
theorem coveringOf_line (ki : Int) (w : World) (h : ki ≠ 3) : Calls Tryz.prog 104 #[.int .i64 ki] w fun e w' => e = .returned (.func (.func 133) #[] #[]) ∧ w = w' := by
  have hk : (ki == 3) = false := by simpa using h
  go_enter Tryz.func104, Tryz.ntmps104
  go_wp2
  go_ret
  exact ⟨rfl, rfl⟩
end Go.Proofs.YthidgolnajggpaaGreat
