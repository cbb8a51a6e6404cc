/- Several texts in one. -/
import Derived.Test.YtjnglencgkhhaacVReachBox18
import Derived.Test.YtjnglencgkhhaacVReachBox35
import Derived.Test.YtjnglencgkhhaacVReachBox13
import Derived.Test.YtjnglencgkhhaacVReachBox17

/- How far from its points a feature is still seen. -/

namespace Go.Proofs.Ytjnglencgkhhaac
open Go.RowKit
set_option linter.unusedSimpArgs false
set_option linter.unusedVariables false
set_option maxRecDepth 100000

/-- What else a feature without a fault has. -/
theorem featC_rng {id la ki wi : Int} {n : Nat} {X Y : Nat → Int} {lab : ByteArray} {pr : Int} (h : featC id la ki wi n X Y lab pr = 0) :
    (1 ≤ id ∧ id ≤ 999) ∧ (0 ≤ la ∧ la ≤ 9) ∧ (0 ≤ wi ∧ wi ≤ 3) ∧ (0 ≤ pr ∧ pr ≤ 9) := by
  unfold featC at h
  split at h
  · rename_i h1
    simp [rngB, inB] at h1
    omega
  · cases h
/-- The reach, doubled. -/
def reachI (wi z : Int) : Int := (wi + 1) * unitI z
def reachR (C wi z : Int) : Int := if C = 0 then reachI wi z else 0
theorem reach_bd {wi z : Int} (hw : 0 ≤ wi ∧ wi ≤ 3) (hz : zoomB z = true) : 16 ≤ reachI wi z ∧ reachI wi z ≤ 512 := by
  unfold reachI
  rcases zoomB_cases hz with rfl | rfl | rfl | rfl
  all_goals
    simp only [show unitI 0 = 128 from rfl, show unitI 1 = 64 from rfl, show unitI 2 = 32 from rfl, show unitI 3 = 16 from rfl]
    omega
theorem unit_lit {z : Int} (hz : zoomB z = true) : unitI z = 128 ∨ unitI z = 64 ∨ unitI z = 32 ∨ unitI z = 16 := by rcases zoomB_cases hz with rfl | rfl | rfl | rfl <;> simp [unitI]

set_option maxHeartbeats 1000000 in
theorem reachAt_any (id la ki wi z : Int) (v : Value) (lab : ByteArray) (pr : Int) (w : World) (hw : 0 ≤ wi ∧ wi ≤ 3) (hz : zoomB z = true) (hv : ∃ a n c, v = .slice a n c) :
    Calls Try.prog 43 #[.agg #[.int .i64 id, .int .i64 la, .int .i64 ki, .int .i64 wi, v, .string lab, .int .i64 pr], .int .i64 z] w fun e w' => e = .returned (.int .i64 (reachI wi z)) ∧ Below w.heap.size w w' := by
  obtain ⟨a, n, c, rfl⟩ := hv
  have s1 := fun w => impl_UnitAt_any z w
  have hv : unitV z = .agg #[.int .i64 0, .int .i64 (unitI z)] := by simp [unitV, hz]
  simp only [hv] at s1
  have hbd := unit_lit hz
  have hr : Hid (reachI wi z = (wi + 1) * unitI z) := rfl
  generalize unitI z = u at *
  have i1 : ∀ w, (Instr.field 87 (.agg #[.int .i64 0, .int .i64 u]) 1).run Try.prog w = .ok (.int .i64 u) w := fun _ => by kernel_rfl
  have hS := (show Hid _ from s1)
  clear s1 hv
  obtain ⟨hw0, hw1⟩ := hw
  go_enter Try.func43, Try.ntmps43
  go_wp2_with fail
  generalize hW : (w.alloc _ : World) = W
  have hB0 : Below w.heap.size w W := by subst hW; (repeat (first | exact Below.refl _ _ | assumption | refine Below.drew ?_ | refine bl_alloc ?_ _ | refine bl_then ?_ (by assumption) | refine Below.setCell ?_ (by first | omega | (simp; done) | (simp; omega)) _ | refine bl_store ?_ ?_ _ _))
  have c3 : ∀ W', Below W.heap.size W W' → W'.cell? ⟨w.heap.size, 3, none⟩ = some (.int .i64 wi) := fun W' h => by
    rw [h.cell (by subst hW; simp)]; subst hW; simp [go_sem]
  clear hW
  have hr0 : Below W.heap.size W W := Below.refl _ _
  rcases hbd with rfl | rfl | rfl | rfl
  all_goals
    go_region_held3 (fun W' => Below W.heap.size W W') ((repeat (first | exact Below.refl _ _ | assumption | refine Below.drew ?_ | refine bl_alloc ?_ _ | refine bl_then ?_ (by assumption) | refine Below.setCell ?_ (by first | omega | (simp; done) | (simp; omega)) _ | refine bl_store ?_ ?_ _ _)))
      (first | (go_at_call 57; refine (hS.out _).mono ?_; rintro e w' ⟨rfl, hb⟩))
    go_wp2
    go_ret
    exact ⟨ret_int (by rw [IntWalk.i64_in (wi + 1) (by omega), IntWalk.i64_in _ (by omega)]; exact hr.out.symm), bl_then hB0 (by assumption)⟩
end Go.Proofs.Ytjnglencgkhhaac
/- The centre of a pixel: the program and the model. -/

namespace Go.Proofs.Ytjnglencgkhhaac
open Go.RowKit
set_option linter.unusedSimpArgs false
set_option linter.unusedVariables false
set_option maxRecDepth 100000

end Go.Proofs.Ytjnglencgkhhaac
/- Whether the own points of a feature cover a centre: the program. -/

namespace Go.Proofs.Ytjnglencgkhhaac
open Go.RowKit
set_option linter.unusedSimpArgs false
set_option linter.unusedVariables false
set_option maxRecDepth 100000

/-- Whether doubled points cover a centre. -/
def coverB (ki wi z cx cy : Int) (D : List (Int × Int)) : Bool := if ki = 3 then insideB cx cy D.length (px D) (py D) else byB cx cy (reachI wi z) (px D) (py D) D.length
/-- A row that is not empty. -/
theorem Row.at {base : Nat} {w : World} {v : Value} {l : List (Int × Int)} (h : Row base w v l) (hne : 0 < l.length) :
    ∃ g cap, v = .slice (some ⟨g, 0, none⟩) l.length cap ∧ base ≤ g ∧ g < w.heap.size ∧ l.length ≤ cap ∧ PtsAt w g 0 l.length (px l) (py l) := by
  obtain ⟨a, cap, hv, hc, h0 | ⟨b, rfl, hb, hl, hp, ht⟩⟩ := h.own
  · omega
  · exact ⟨b, cap, hv, hb, hl, hc, hp⟩
theorem doubled_at (b off n cap : Nat) (X Y : Nat → Int) (w : World) (hp : PtsAt w b off n X Y) (hbl : b < w.heap.size) (hn0 : 0 < n) (hn : n ≤ 40) (hin : ∀ i, i < n → inW (X i) (Y i) = true) :
    Calls Try.prog 42 #[.slice (some ⟨b, off, none⟩) n cap] w fun e w' => ∃ g cg, e = .returned (.slice (some ⟨g, 0, none⟩) n cg) ∧ g < w'.heap.size ∧ n ≤ cg ∧ PtsAt w' g 0 n (px (dblL X Y n)) (py (dblL X Y n)) ∧ Below w.heap.size w w' :=
  (doubled_any b off n cap X Y w hp hbl hn hin).mono fun e w' ⟨v, he, hR, hb⟩ => by
    obtain ⟨g, cg, hv, h1, h2, h3, h4⟩ := hR.at (by rw [dblL_len]; exact hn0)
    rw [dblL_len] at hv h3 h4
    exact ⟨g, cg, by rw [he, hv], h2, h3, h4, hb⟩
end Go.Proofs.Ytjnglencgkhhaac
/- Whether a feature that is simple already covers a pixel: the model. -/

namespace Go.Proofs.Ytjnglencgkhhaac
open Go.RowKit
set_option linter.unusedSimpArgs false
set_option linter.unusedVariables false
set_option maxRecDepth 100000

theorem dbl_ok (X Y : Nat → Int) (n : Nat) (hin : ∀ i, i < n → inW (X i) (Y i) = true) : ∀ i, i < n → okP (px (dblL X Y n) i) (py (dblL X Y n) i) = true := fun i hi => by
  obtain ⟨e1, e2⟩ := dblL_px X Y n i hi
  have := inW_bd (hin i hi)
  rw [e1, e2, okP_iff]
  omega
/-- How many points a kind has. -/
def kindN (ki : Int) (n : Nat) : Prop := (ki = 1 ∧ n = 1) ∨ (ki = 2 ∧ 2 ≤ n) ∨ (ki = 3 ∧ 3 ≤ n)
theorem isNear_ok {px py ax ay bx by' r : Int} (hp : okP px py = true) (ha : okP ax ay = true) (hb : okP bx by' = true) (h0 : 0 ≤ r) (h1 : r ≤ 4096) : isNearB px py ax ay bx by' r = nearB px py ax ay bx by' r := by
  simp [isNearB, hp, ha, hb, inB, h0, h1]

theorem l4Doubled_at (b off n cap : Nat) (X Y : Nat → Int) (w : World) (hp : PtsAt w b off n X Y) (hbl : b < w.heap.size) (hn0 : 0 < n) (hn : n ≤ 40) (hin : ∀ i, i < n → inW (X i) (Y i) = true) :
    Calls Try.prog 28 #[.slice (some ⟨b, off, none⟩) n cap] w fun e w' => ∃ g cg, e = .returned (.slice (some ⟨g, 0, none⟩) n cg) ∧ g < w'.heap.size ∧ n ≤ cg ∧ PtsAt w' g 0 n (px (dblL X Y n)) (py (dblL X Y n)) ∧ Below w.heap.size w w' :=
  (l4Doubled_any b off n cap X Y w hp hbl hn hin).mono fun e w' ⟨v, he, hR, hb⟩ => by
    obtain ⟨g, cg, hv, h1, h2, h3, h4⟩ := hR.at (by rw [dblL_len]; exact hn0)
    rw [dblL_len] at hv h3 h4
    exact ⟨g, cg, by rw [he, hv], h2, h3, h4, hb⟩
theorem l4Reach_any (q o : Nat) (wi z : Int) (w : World) (hf : w.cell? ⟨q, o + 3, none⟩ = some (.int .i64 wi)) (hw : 0 ≤ wi ∧ wi ≤ 3) (hz : zoomB z = true) :
    Calls Try.prog 29 #[.pointer (some ⟨q, o, none⟩), .int .i64 z] w fun e w' => e = .returned (.int .i64 (reachI wi z)) ∧ Below w.heap.size w w' := by
  have s1 := fun w => l3Unit_any z w hz
  have hbd := unit_lit hz
  have hr : Hid (reachI wi z = (wi + 1) * unitI z) := rfl
  generalize unitI z = u at *
  obtain ⟨hw0, hw1⟩ := hw
  have hS := (show Hid _ from s1)
  clear s1
  have c3 : ∀ W', Below w.heap.size w W' → W'.cell? ⟨q, o + 3, none⟩ = some (.int .i64 wi) := fun W' h => bl_cell h hf
  have hr0 : Below w.heap.size w w := Below.refl _ _
  clear hf
  rcases hbd with rfl | rfl | rfl | rfl
  all_goals
    go_enter Try.func29, Try.ntmps29
    go_wp2_with fail
    go_region_held3 (fun W' => Below w.heap.size w W') ((repeat (first | exact Below.refl _ _ | assumption | refine Below.drew ?_ | refine bl_alloc ?_ _ | refine bl_then ?_ (by assumption) | refine Below.setCell ?_ (by first | omega | (simp; done) | (simp; omega)) _ | refine bl_store ?_ ?_ _ _)))
      (first | (go_at_call 47; refine (hS.out _).mono ?_; rintro e w1 ⟨rfl, rfl⟩))
    go_wp2
    go_ret
    exact ⟨ret_int (by rw [IntWalk.i64_in (wi + 1) (by omega), IntWalk.i64_in _ (by omega)]; exact hr.out.symm), by assumption⟩
end Go.Proofs.Ytjnglencgkhhaac
/- ReachOf and ReachBox: the program and the model. -/

namespace Go.Proofs.Ytjnglencgkhhaac
open Go.RowKit
set_option linter.unusedSimpArgs false
set_option linter.unusedVariables false
set_option maxRecDepth 100000

end Go.Proofs.Ytjnglencgkhhaac
