/- Several texts in one. -/
import Derived.Test.YtjnglencgkhhaabVReachOf44
import Derived.Test.YtjnglencgkhhaabVReachOf1

/- ReachOf and ReachBox: the program and the model. -/

namespace Go.Proofs.Ytjnglencgkhhaab
open Go.RowKit
set_option linter.unusedSimpArgs false
set_option linter.unusedVariables false
set_option maxRecDepth 100000

set_option maxHeartbeats 4000000 in
theorem impl_ReachOf_any (id la ki wi z : Int) (a : Option Addr) (n cap : Nat) (X Y : Nat → Int) (lab : ByteArray) (pr : Int) (w : World) (hp : IsPts w a n X Y) (hn : n ≤ 1048576) (hl : lab.size ≤ 1048576) (C : Int) (hC : C = simpC z (featC id la ki wi n X Y lab pr)) :
    Calls Try.prog 26 #[.agg #[.int .i64 id, .int .i64 la, .int .i64 ki, .int .i64 wi, .slice a n cap, .string lab, .int .i64 pr], .int .i64 z] w fun e w' => e = .returned (.agg #[.int .i64 C, .int .i64 (reachR C wi z)]) ∧ Below w.heap.size w w' := by
  have HP : Hid (IsPts w a n X Y) := hp
  clear hp
  go_enter Try.func26, Try.ntmps26
  go_wp2_with fail
  generalize hW : ((w.alloc _).alloc _ : World) = W
  have HB0 : Hid (Below w.heap.size w W) := by show Below _ _ _; subst hW; (repeat (first | exact Below.refl _ _ | assumption | refine Below.drew ?_ | refine bl_alloc ?_ _ | refine bl_then ?_ (by assumption) | refine Below.setCell ?_ (by first | omega | (simp; done) | (simp; omega)) _ | refine bl_store ?_ ?_ _ _))
  have HT : Hid (There W (w.heap.size + 1) 2) := by
    show There _ _ _
    subst hW
    have := there2 (w.alloc (.cells #[.int .i64 id, .int .i64 la, .int .i64 ki, .int .i64 wi, .slice a n cap, .string lab, .int .i64 pr] 53)) (.int .i64 0) (.int .i64 0) 35
    simpa using this
  have HF : Hid (FeatAt W w.heap.size 0 id la ki wi (.slice a n cap) lab pr) := by
    show FeatAt _ _ _ _ _ _ _ _ _ _
    subst hW
    refine ⟨?_, ?_, ?_, ?_, ?_, ?_, ?_⟩ <;> simp [go_sem]
  have hsz : w.heap.size + 1 < W.heap.size := by subst hW; simp
  clear hW
  refine (isZoom_any _ _).mono ?_
  rintro e w' ⟨rfl, rfl⟩
  cases h : zoomB z
  · have hCv : C = 3 := by rw [hC]; simp [simpC, h]
    subst hCv
    clear hC
    have hT' := HT.out
    have t0 := hT'.cell 0 (by omega)
    have t1 := hT'.cell 1 (by omega)
    have z0 := (hT' 0 (by omega)).2
    have z1 := (hT' 1 (by omega)).2
    clear hT'
    go_wp2_with fail
    refine bodyPost_ret (v := .agg #[.int .i64 3, .int .i64 0]) (by simp [results, Try.results26, go_sem, set2_0 (Option.isSome_iff_exists.2 ⟨_, t0⟩), set2_1 (Option.isSome_iff_exists.2 ⟨_, t1⟩)]) rfl ⟨by simp [reachR], ?_⟩
    have HB := HB0.out
    (repeat (first | exact Below.refl _ _ | assumption | refine Below.drew ?_ | refine bl_alloc ?_ _ | refine bl_then ?_ (by assumption) | refine Below.setCell ?_ (by first | omega | (simp; done) | (simp; omega)) _ | refine bl_store ?_ ?_ _ _))
  · have hC' : C = featC id la ki wi n X Y lab pr := by rw [hC]; simp [simpC, h]
    obtain ⟨q0, q1, q2, q3, q4, q5, q6⟩ := HF.out
    simp only [Nat.zero_add] at q0 q1 q2 q3 q4 q5 q6
    go_wp2_with fail
    refine (FeatureFault_any id la ki wi _ n cap X Y lab pr W (HP.out.below HB0.out) hl hn).mono ?_
    rintro e w1 ⟨rfl, hb1⟩
    rw [← hC']
    have HB1 : Hid (Below w.heap.size w w1) := bl_then HB0.out hb1
    have HF1 : Hid (FeatAt w1 w.heap.size 0 id la ki wi (.slice a n cap) lab pr) := HF.out.below hb1 (by omega)
    have HT1 : Hid (There w1 (w.heap.size + 1) 2) := HT.out.below hb1
    have hsz1 : w.heap.size + 1 < w1.heap.size := Nat.lt_of_lt_of_le hsz hb1.size
    clear hb1 q0 q1 q2 q3 q4 q5 q6
    by_cases hC0 : C = 0
    · subst hC0
      have hwr := (featC_rng hC'.symm).2.2.1
      clear hC hC'
      obtain ⟨q0, q1, q2, q3, q4, q5, q6⟩ := HF1.out
      simp only [Nat.zero_add] at q0 q1 q2 q3 q4 q5 q6
      go_wp2_with fail
      refine (reachAt_any id la ki wi z _ lab pr _ hwr h ⟨_, _, _, rfl⟩).mono ?_
      rintro e w2 ⟨rfl, hb2⟩
      have HB2 : Hid (Below w.heap.size w w2) := bl_then HB1.out hb2
      have hT' := HT1.out.below hb2
      have hsz2 : w.heap.size + 1 < w2.heap.size := Nat.lt_of_lt_of_le hsz1 hb2.size
      have t0 := hT'.cell 0 (by omega)
      have t1 := hT'.cell 1 (by omega)
      have z0 := (hT' 0 (by omega)).2
      have z1 := (hT' 1 (by omega)).2
      clear hT' hb2 q0 q1 q2 q3 q4 q5 q6
      have HR : Hid (reachR 0 wi z = reachI wi z) := by show _ = _; simp [reachR]
      generalize reachI wi z = r at *
      go_wp2_with fail
      refine bodyPost_ret (v := .agg #[.int .i64 0, .int .i64 r]) (by simp [results, Try.results26, go_sem, set2_0 (Option.isSome_iff_exists.2 ⟨_, t0⟩), set2_1 (Option.isSome_iff_exists.2 ⟨_, t1⟩)]) rfl ⟨by rw [HR.out], ?_⟩
      have HB := HB2.out
      (repeat (first | exact Below.refl _ _ | assumption | refine Below.drew ?_ | refine bl_alloc ?_ _ | refine bl_then ?_ (by assumption) | refine Below.setCell ?_ (by first | omega | (simp; done) | (simp; omega)) _ | refine bl_store ?_ ?_ _ _))
    · have hcb : (C != 0) = true := by simpa using hC0
      have HR : Hid (reachR C wi z = 0) := by show _ = _; simp [reachR, hC0]
      have hT' := HT1.out
      have t0 := hT'.cell 0 (by omega)
      have t1 := hT'.cell 1 (by omega)
      have z0 := (hT' 0 (by omega)).2
      have z1 := (hT' 1 (by omega)).2
      clear hT' hC hC'
      go_wp2_with fail
      refine bodyPost_ret (v := .agg #[.int .i64 C, .int .i64 0]) (by simp [results, Try.results26, go_sem, set2_0 (Option.isSome_iff_exists.2 ⟨_, t0⟩), set2_1 (Option.isSome_iff_exists.2 ⟨_, t1⟩)]) rfl ⟨by rw [HR.out], ?_⟩
      have HB := HB1.out
      (repeat (first | exact Below.refl _ _ | assumption | refine Below.drew ?_ | refine bl_alloc ?_ _ | refine bl_then ?_ (by assumption) | refine Below.setCell ?_ (by first | omega | (simp; done) | (simp; omega)) _ | refine bl_store ?_ ?_ _ _))
set_option maxHeartbeats 4000000 in
theorem spec_ReachOf_any (id la ki wi z : Int) (a : Option Addr) (n cap : Nat) (X Y : Nat → Int) (lab : ByteArray) (pr : Int) (w : World) (hp : IsPts w a n X Y) (hn : n ≤ 1048576) (hl : lab.size ≤ 1048576) (C : Int) (hC : C = simpC z (featC id la ki wi n X Y lab pr)) :
    Calls Try.prog 24 #[.agg #[.int .i64 id, .int .i64 la, .int .i64 ki, .int .i64 wi, .slice a n cap, .string lab, .int .i64 pr], .int .i64 z] w fun e w' => e = .returned (.agg #[.int .i64 C, .int .i64 (reachR C wi z)]) ∧ Below w.heap.size w w' := by
  have HP : Hid (IsPts w a n X Y) := hp
  clear hp
  go_enter Try.func24, Try.ntmps24
  go_wp2_with fail
  generalize hW : ((w.alloc _).alloc _ : World) = W
  have HB0 : Hid (Below w.heap.size w W) := by show Below _ _ _; subst hW; (repeat (first | exact Below.refl _ _ | assumption | refine Below.drew ?_ | refine bl_alloc ?_ _ | refine bl_then ?_ (by assumption) | refine Below.setCell ?_ (by first | omega | (simp; done) | (simp; omega)) _ | refine bl_store ?_ ?_ _ _))
  have HT : Hid (There W (w.heap.size + 1) 2) := by
    show There _ _ _
    subst hW
    have := there2 (w.alloc (.cells #[.int .i64 id, .int .i64 la, .int .i64 ki, .int .i64 wi, .slice a n cap, .string lab, .int .i64 pr] 53)) (.int .i64 0) (.int .i64 0) 35
    simpa using this
  have HF : Hid (FeatAt W w.heap.size 0 id la ki wi (.slice a n cap) lab pr) := by
    show FeatAt _ _ _ _ _ _ _ _ _ _
    subst hW
    refine ⟨?_, ?_, ?_, ?_, ?_, ?_, ?_⟩ <;> simp [go_sem]
  have hsz : w.heap.size + 1 < W.heap.size := by subst hW; simp
  clear hW
  refine (l3Zoom_any _ _).mono ?_
  rintro e w' ⟨rfl, rfl⟩
  cases h : zoomB z
  · have hCv : C = 3 := by rw [hC]; simp [simpC, h]
    subst hCv
    clear hC
    have hT' := HT.out
    have t0 := hT'.cell 0 (by omega)
    have t1 := hT'.cell 1 (by omega)
    have z0 := (hT' 0 (by omega)).2
    have z1 := (hT' 1 (by omega)).2
    clear hT'
    go_wp2_with fail
    refine bodyPost_ret (v := .agg #[.int .i64 3, .int .i64 0]) (by simp [results, Try.results24, go_sem, set2_0 (Option.isSome_iff_exists.2 ⟨_, t0⟩), set2_1 (Option.isSome_iff_exists.2 ⟨_, t1⟩)]) rfl ⟨by simp [reachR], ?_⟩
    have HB := HB0.out
    (repeat (first | exact Below.refl _ _ | assumption | refine Below.drew ?_ | refine bl_alloc ?_ _ | refine bl_then ?_ (by assumption) | refine Below.setCell ?_ (by first | omega | (simp; done) | (simp; omega)) _ | refine bl_store ?_ ?_ _ _))
  · have hC' : C = featC id la ki wi n X Y lab pr := by rw [hC]; simp [simpC, h]
    go_wp2_with fail
    refine (l2Fault_any w.heap.size 0 id la ki wi _ n cap X Y lab pr W HF.out (HP.out.below HB0.out) hl hn).mono ?_
    rintro e w1 ⟨rfl, hb1⟩
    rw [← hC']
    have HB1 : Hid (Below w.heap.size w w1) := bl_then HB0.out hb1
    have HF1 : Hid (FeatAt w1 w.heap.size 0 id la ki wi (.slice a n cap) lab pr) := HF.out.below hb1 (by omega)
    have HT1 : Hid (There w1 (w.heap.size + 1) 2) := HT.out.below hb1
    have hsz1 : w.heap.size + 1 < w1.heap.size := Nat.lt_of_lt_of_le hsz hb1.size
    clear hb1
    by_cases hC0 : C = 0
    · subst hC0
      have hwr := (featC_rng hC'.symm).2.2.1
      clear hC hC'
      go_wp2_with fail
      refine (l4Reach_any w.heap.size 0 wi z _ HF1.out.2.2.2.1 hwr h).mono ?_
      rintro e w2 ⟨rfl, hb2⟩
      have HB2 : Hid (Below w.heap.size w w2) := bl_then HB1.out hb2
      have hT' := HT1.out.below hb2
      have hsz2 : w.heap.size + 1 < w2.heap.size := Nat.lt_of_lt_of_le hsz1 hb2.size
      have t0 := hT'.cell 0 (by omega)
      have t1 := hT'.cell 1 (by omega)
      have z0 := (hT' 0 (by omega)).2
      have z1 := (hT' 1 (by omega)).2
      clear hT' hb2
      have HR : Hid (reachR 0 wi z = reachI wi z) := by show _ = _; simp [reachR]
      generalize reachI wi z = r at *
      go_wp2_with fail
      refine bodyPost_ret (v := .agg #[.int .i64 0, .int .i64 r]) (by simp [results, Try.results24, go_sem, set2_0 (Option.isSome_iff_exists.2 ⟨_, t0⟩), set2_1 (Option.isSome_iff_exists.2 ⟨_, t1⟩)]) rfl ⟨by rw [HR.out], ?_⟩
      have HB := HB2.out
      (repeat (first | exact Below.refl _ _ | assumption | refine Below.drew ?_ | refine bl_alloc ?_ _ | refine bl_then ?_ (by assumption) | refine Below.setCell ?_ (by first | omega | (simp; done) | (simp; omega)) _ | refine bl_store ?_ ?_ _ _))
    · have hcb : (C != 0) = true := by simpa using hC0
      have HR : Hid (reachR C wi z = 0) := by show _ = _; simp [reachR, hC0]
      have hT' := HT1.out
      have t0 := hT'.cell 0 (by omega)
      have t1 := hT'.cell 1 (by omega)
      have z0 := (hT' 0 (by omega)).2
      have z1 := (hT' 1 (by omega)).2
      clear hT' hC hC'
      go_wp2_with fail
      refine bodyPost_ret (v := .agg #[.int .i64 C, .int .i64 0]) (by simp [results, Try.results24, go_sem, set2_0 (Option.isSome_iff_exists.2 ⟨_, t0⟩), set2_1 (Option.isSome_iff_exists.2 ⟨_, t1⟩)]) rfl ⟨by rw [HR.out], ?_⟩
      have HB := HB1.out
      (repeat (first | exact Below.refl _ _ | assumption | refine Below.drew ?_ | refine bl_alloc ?_ _ | refine bl_then ?_ (by assumption) | refine Below.setCell ?_ (by first | omega | (simp; done) | (simp; omega)) _ | refine bl_store ?_ ?_ _ _))
end Go.Proofs.Ytjnglencgkhhaab
/- szPointS counts the points. -/

namespace Go.Proofs.Ytjnglencgkhhaab
open Go.RowKit
set_option linter.unusedSimpArgs false
set_option linter.unusedVariables false

theorem szPointS_big (a : Option Addr) (n cap : Nat) (w : World) (hn : 1048576 < n) (hm : n ≤ maxLen) :
    Calls Try.prog 47 #[.slice a n cap, .int .i64 1048576] w fun e w' => e = .returned (.int .i64 (-1)) ∧ w' = w := by
  unfold maxLen at hm
  have hneg : (1048576 : Int) - (n : Int) < 0 := by omega
  go_enter Try.func47, Try.ntmps47
  go_wp2
  go_ret
  exact ⟨rfl, rfl⟩
theorem szPointS_small (a : Option Addr) (n cap : Nat) (w : World) (hn : n ≤ 1048576) :
    Calls Try.prog 47 #[.slice a n cap, .int .i64 1048576] w fun e w' => e = .returned (.int .i64 (1048576 - (n : Int))) ∧ w' = w := by
  have hneg : ¬ (1048576 : Int) - (n : Int) < 0 := by omega
  go_enter Try.func47, Try.ntmps47
  go_wp2
  go_ret
  exact ⟨rfl, rfl⟩

end Go.Proofs.Ytjnglencgkhhaab
