/- FnRefs: the law out of what is called. -/
import Derived.Test.YteeijaacecicdaaT9
import Derived.Test.YteeijaacecicdaaTm
import Derived.Test.YteeijaacecicdaaTake
import Derived.Deep.DeepCutAuto
namespace Go.Proofs.Yteeijaacecicdaa
open Go.RowKit
set_option linter.unusedSimpArgs false
set_option linter.unusedVariables false
set_option maxRecDepth 100000

set_option maxHeartbeats 1000000 in
theorem FnRefs_big (a : Option Addr) (n cap : Nat) (w : World) (h : 1048576 < n) : Calls Try.prog 3 #[.slice a n cap] w fun e w' => e = .returned (.bool true) ∧ Below w.heap.size w w' := by
  have hb : decide (1048576 < (n : Int)) = true := by simp; omega
  go_enter Try.func3, Try.ntmps3
  go_wp2_with (go_at_call 8; refine (lwBig_any _ _ _ _).mono ?_; rintro e w' ⟨rfl, rfl⟩)
  go_ret
  exact ⟨rfl, by (repeat (first | exact Below.refl _ _ | assumption | refine Below.drew ?_ | refine bl_alloc ?_ _ | refine bl_then ?_ (by assumption) | refine Below.setCell ?_ (by first | omega | (simp; done) | (simp; omega)) _ | refine bl_store ?_ ?_ _ _))⟩

set_option maxHeartbeats 16000000 in
theorem FnRefs_walk (a : Option Addr) (n cap : Nat) (Z : Nat → Int) (w : World) (h : IsBytes w a n Z ∧ (∀ i, 0 ≤ Z i ∧ Z i ≤ 255) ∧ n ≤ cap) :
    Calls Try.prog 3 #[.slice a n cap] w fun e w' => e = .returned (.bool true) ∧ Below w.heap.size w w' := by
  obtain ⟨hI, hR, hcap⟩ := h
  by_cases hbig : 1048576 < n
  · exact FnRefs_big a n cap w hbig
  have hn1 : n ≤ 1048576 := by omega
  have HI : Hid (IsBytes w a n Z) := hI
  have HR : Hid (∀ i, 0 ≤ Z i ∧ Z i ≤ 255) := hR
  have hn : decide (1048576 < (n : Int)) = false := by simp; omega
  clear hI hR hbig
  go_enter Try.func3, Try.ntmps3
  go_wp2_with fail
  refine (lwBig_any _ _ _ _).mono ?_
  rintro e w0 ⟨rfl, hw0⟩
  have hw0' := hw0.symm
  subst hw0'
  clear hw0
  go_wp2_with fail
  refine (DrawKidsOf_any a n cap Z _ HI.out HR.out hn1 hcap).mono ?_
  rintro e w1 ⟨z, x, y, rfl, hb1⟩
  go_wp2_with fail
  generalize hW2 : (w1.alloc _ : World) = w2
  have hb12 : Below w1.heap.size w1 w2 := by subst hW2; (repeat (first | exact Below.refl _ _ | assumption | refine Below.drew ?_ | refine bl_alloc ?_ _ | refine bl_then ?_ (by assumption) | refine Below.setCell ?_ (by first | omega | (simp; done) | (simp; omega)) _ | refine bl_store ?_ ?_ _ _))
  have c0 : ∀ W', Below w2.heap.size w2 W' → W'.cell? ⟨w1.heap.size, 0, none⟩ = some (.int .i64 z) := fun W' h => by
    rw [h.cell (by subst hW2; simp)]; subst hW2; simp [go_sem]
  have c1 : ∀ W', Below w2.heap.size w2 W' → W'.cell? ⟨w1.heap.size, 1, none⟩ = some (.int .i64 x) := fun W' h => by
    rw [h.cell (by subst hW2; simp)]; subst hW2; simp [go_sem]
  have c2 : ∀ W', Below w2.heap.size w2 W' → W'.cell? ⟨w1.heap.size, 2, none⟩ = some (.int .i64 y) := fun W' h => by
    rw [h.cell (by subst hW2; simp)]; subst hW2; simp [go_sem]
  clear hW2
  have HB2 : Hid (Below w.heap.size w w2) := bl_then hb1 hb12
  clear hb1 hb12 hn
  refine (impl_KidsOf_any z x y _).mono ?_
  rintro e w3 ⟨vk, rfl, hO3, hb3⟩
  obtain ⟨ak, ck, rfl, hck, hIk⟩ := hO3.pts
  have HIk : Hid (IsRs w3 ak (kidN z x y) (kidR z x y)) := hIk
  clear hO3 hIk
  have k0 := c0 w3 hb3
  have hl3 := World.block_lt_of_cell? _ _ k0
  clear k0
  go_wp2_with fail
  generalize hW4 : (w3.alloc _ : World) = w4
  have hb34 : Below w3.heap.size w3 w4 := by subst hW4; (repeat (first | exact Below.refl _ _ | assumption | refine Below.drew ?_ | refine bl_alloc ?_ _ | refine bl_then ?_ (by assumption) | refine Below.setCell ?_ (by first | omega | (simp; done) | (simp; omega)) _ | refine bl_store ?_ ?_ _ _))
  have d0 : ∀ W', Below w4.heap.size w4 W' → W'.cell? ⟨w3.heap.size, 0, none⟩ = some (.int .i64 (kidC z x y)) := fun W' h => by
    rw [h.cell (by subst hW4; simp)]; subst hW4; simp [go_sem]
  have d1 : ∀ W', Below w4.heap.size w4 W' → W'.cell? ⟨w3.heap.size, 1, none⟩ = some (.slice ak (kidN z x y) ck) := fun W' h => by
    rw [h.cell (by subst hW4; simp)]; subst hW4; simp [go_sem]
  clear hW4
  have hb24 := bl_then hb3 hb34
  have c0' : ∀ W', Below w4.heap.size w4 W' → W'.cell? ⟨w1.heap.size, 0, none⟩ = some (.int .i64 z) := fun W' h => c0 W' (bl_then hb24 h)
  have c1' : ∀ W', Below w4.heap.size w4 W' → W'.cell? ⟨w1.heap.size, 1, none⟩ = some (.int .i64 x) := fun W' h => c1 W' (bl_then hb24 h)
  have c2' : ∀ W', Below w4.heap.size w4 W' → W'.cell? ⟨w1.heap.size, 2, none⟩ = some (.int .i64 y) := fun W' h => c2 W' (bl_then hb24 h)
  have HIk4 : Hid (IsRs w4 ak (kidN z x y) (kidR z x y)) := HIk.out.below hb34
  have HB4 : Hid (Below w.heap.size w w4) := bl_then HB2.out hb24
  clear hb3 hb34 hb24 c0 c1 c2 HIk HB2
  refine (DrawRefAt_r a n cap Z _ (HI.out.below HB4.out) HR.out hn1 hcap).mono ?_
  rintro e w5 ⟨zz, xx, yy, rfl, hb5⟩
  go_wp2_with fail
  refine (impl_RefAt_any zz xx yy _).mono ?_
  rintro e w6 ⟨rfl, hb6⟩
  obtain ⟨c, u, v, t, hV⟩ : ∃ c u v t : Int, atV zz xx yy = rrV c u v t := by
    unfold atV
    split
    · exact ⟨_, _, _, _, rfl⟩
    · exact ⟨_, _, _, _, rfl⟩
  have HV : Hid (atV zz xx yy = rrV c u v t) := hV
  rw [hV]
  clear hV
  go_wp2_with fail
  generalize hW7 : (w6.alloc _ : World) = w7
  have hb67 : Below w6.heap.size w6 w7 := by subst hW7; (repeat (first | exact Below.refl _ _ | assumption | refine Below.drew ?_ | refine bl_alloc ?_ _ | refine bl_then ?_ (by assumption) | refine Below.setCell ?_ (by first | omega | (simp; done) | (simp; omega)) _ | refine bl_store ?_ ?_ _ _))
  have g0 : ∀ W', Below w7.heap.size w7 W' → W'.cell? ⟨w6.heap.size, 0, none⟩ = some (.int .i64 c) := fun W' h => by
    rw [h.cell (by subst hW7; simp)]; subst hW7; simp [go_sem]
  have g1 : ∀ W', Below w7.heap.size w7 W' → W'.cell? ⟨w6.heap.size, 1, none⟩ = some (.int .i64 u) := fun W' h => by
    rw [h.cell (by subst hW7; simp)]; subst hW7; simp [go_sem]
  have g2 : ∀ W', Below w7.heap.size w7 W' → W'.cell? ⟨w6.heap.size, 2, none⟩ = some (.int .i64 v) := fun W' h => by
    rw [h.cell (by subst hW7; simp)]; subst hW7; simp [go_sem]
  have g3 : ∀ W', Below w7.heap.size w7 W' → W'.cell? ⟨w6.heap.size, 3, none⟩ = some (.int .i64 t) := fun W' h => by
    rw [h.cell (by subst hW7; simp)]; subst hW7; simp [go_sem]
  clear hW7
  have hb47 := bl_then (bl_then hb5 hb6) hb67
  have c0 : ∀ W', Below w7.heap.size w7 W' → W'.cell? ⟨w1.heap.size, 0, none⟩ = some (.int .i64 z) := fun W' h => c0' W' (bl_then hb47 h)
  have c1 : ∀ W', Below w7.heap.size w7 W' → W'.cell? ⟨w1.heap.size, 1, none⟩ = some (.int .i64 x) := fun W' h => c1' W' (bl_then hb47 h)
  have c2 : ∀ W', Below w7.heap.size w7 W' → W'.cell? ⟨w1.heap.size, 2, none⟩ = some (.int .i64 y) := fun W' h => c2' W' (bl_then hb47 h)
  have d0' : ∀ W', Below w7.heap.size w7 W' → W'.cell? ⟨w3.heap.size, 0, none⟩ = some (.int .i64 (kidC z x y)) := fun W' h => d0 W' (bl_then hb47 h)
  have d1' : ∀ W', Below w7.heap.size w7 W' → W'.cell? ⟨w3.heap.size, 1, none⟩ = some (.slice ak (kidN z x y) ck) := fun W' h => d1 W' (bl_then hb47 h)
  have HIk7 : Hid (IsRs w7 ak (kidN z x y) (kidR z x y)) := HIk4.out.below hb47
  have HB7 : Hid (Below w.heap.size w w7) := bl_then HB4.out hb47
  clear hb5 hb6 hb67 hb47 c0' c1' c2' d0 d1 HIk4 HB4 HI HR
  go_cut [79] (fun t wc => Below w7.heap.size w7 wc ∧ t = .bool false)
  case first =>
    cases hp : pixB zz xx yy
    · obtain ⟨rfl, rfl, rfl, rfl⟩ : c = 3 ∧ u = 0 ∧ v = 0 ∧ t = 0 := by
        have := HV.out
        unfold atV at this
        rw [hp] at this
        simp at this
        omega
      have s1 : ∀ w, Calls Try.prog 13 #[.int .i64 zz, .int .i64 xx, .int .i64 yy] w fun e w' => e = .returned (rrV 3 0 0 0) ∧ Below w.heap.size w w' := fun w => HV.out ▸ spec_RefAt_any zz xx yy w
      have hfd : ∀ w : World, (Instr.field 34 (rrV 3 0 0 0) 0).run Try.prog w = .ok (.int .i64 3) w := fun _ => by kernel_rfl
      clear hp HV
      refine wp_region_noPanic ?_
      refine wp_region_held_drew (S := fun W' => Below w7.heap.size w7 W') (by kernel_rfl) (by (repeat (first | exact Below.refl _ _ | assumption | refine Below.drew ?_ | refine bl_alloc ?_ _ | refine bl_then ?_ (by assumption) | refine Below.setCell ?_ (by first | omega | (simp; done) | (simp; omega)) _ | refine bl_store ?_ ?_ _ _))) (fun hHeld => ?_)
      have hBda : Below w7.heap.size w7 w7.drew := hHeld
      refine takeD (i := 0) (d := some 27) (v := ?va0) rfl rfl (by kernel_rfl) (by kernel_rfl) (by kernel_rfl) (fun _ _ _ h => h) (Or.inl ⟨by rfl, ?hya0⟩) (by assumption) ?_
      case hya0 => (intro w hSw; (try dsimp only at hSw); go_simp <;> with_reducible rfl)
      try simp only [Act.put, List.setIfInBounds_toArray, List.set_cons_zero, List.set_cons_succ]
      refine takeD (i := 1) (d := some 28) (v := ?va1) rfl rfl (by kernel_rfl) (by kernel_rfl) (by kernel_rfl) (fun _ _ _ h => h) (Or.inl ⟨by rfl, ?hya1⟩) (by assumption) ?_
      case hya1 => (intro w hSw; (try dsimp only at hSw); go_simp <;> with_reducible rfl)
      try simp only [Act.put, List.setIfInBounds_toArray, List.set_cons_zero, List.set_cons_succ]
      refine takeD (i := 2) (d := some 29) (v := ?va2) rfl rfl (by kernel_rfl) (by kernel_rfl) (by kernel_rfl) (fun _ _ _ h => h) (Or.inl ⟨by rfl, ?hya2⟩) (by assumption) ?_
      case hya2 => (intro w hSw; (try dsimp only at hSw); go_simp <;> with_reducible rfl)
      try simp only [Act.put, List.setIfInBounds_toArray, List.set_cons_zero, List.set_cons_succ]
      refine takeD (i := 3) (d := some 30) (v := ?va3) rfl rfl (by kernel_rfl) (by kernel_rfl) (by kernel_rfl) (fun _ _ _ h => h) (Or.inl ⟨by rfl, ?hya3⟩) (by assumption) ?_
      case hya3 => (intro w hSw; (try dsimp only at hSw); go_simp <;> with_reducible rfl)
      try simp only [Act.put, List.setIfInBounds_toArray, List.set_cons_zero, List.set_cons_succ]
      refine takeD (i := 4) (d := some 31) (v := ?va4) rfl rfl (by kernel_rfl) (by kernel_rfl) (by kernel_rfl) (fun _ _ _ h => h) (Or.inl ⟨by rfl, ?hya4⟩) (by assumption) ?_
      case hya4 => (intro w hSw; (try dsimp only at hSw); go_simp <;> with_reducible rfl)
      try simp only [Act.put, List.setIfInBounds_toArray, List.set_cons_zero, List.set_cons_succ]
      refine wpAnyH_ready (rs := [5]) (by kernel_rfl) (by simp) ?_
      refine (AllReadyH.cons rfl (fun K hK => ?_) AllReadyH.nil)
      go_simp
      refine Calls.mono (s1 _) ?_
      rintro e wqa5 ⟨rfl, hqa5⟩
      have hBa5 : Below w7.heap.size w7 wqa5 := bl_then hBda hqa5
      go_wp2_with fail
      refine hK.out _ _ hBa5 (fun hHeld => ?_)
      clear hK K
      try simp only [Act.put, List.setIfInBounds_toArray, List.set_cons_zero, List.set_cons_succ]
      refine takeD (i := 6) (d := some 33) (v := ?va6) rfl rfl (by kernel_rfl) (by kernel_rfl) (by kernel_rfl) (fun _ _ _ h => h) (Or.inl ⟨by rfl, ?hya6⟩) (by assumption) ?_
      case hya6 => (intro w hSw; (try dsimp only at hSw); go_simp <;> with_reducible rfl)
      try simp only [Act.put, List.setIfInBounds_toArray, List.set_cons_zero, List.set_cons_succ]
      refine takeD (i := 7) (d := some 34) (v := ?va7) rfl rfl (by kernel_rfl) (by kernel_rfl) (by kernel_rfl) (fun _ _ _ h => h) (Or.inl ⟨by rfl, ?hya7⟩) (by assumption) ?_
      case hya7 => (intro w hSw; (try dsimp only at hSw); go_simp <;> with_reducible rfl)
      try simp only [Act.put, List.setIfInBounds_toArray, List.set_cons_zero, List.set_cons_succ]
      refine takeD (i := 8) (d := some 35) (v := ?va8) rfl rfl (by kernel_rfl) (by kernel_rfl) (by kernel_rfl) (fun _ _ _ h => h) (Or.inl ⟨by rfl, ?hya8⟩) (by assumption) ?_
      case hya8 => (intro w hSw; (try dsimp only at hSw); go_simp <;> with_reducible rfl)
      try simp only [Act.put, List.setIfInBounds_toArray, List.set_cons_zero, List.set_cons_succ]
      refine takeD (i := 9) (d := some 36) (v := ?va9) rfl rfl (by kernel_rfl) (by kernel_rfl) (by kernel_rfl) (fun _ _ _ h => h) (Or.inl ⟨by rfl, ?hya9⟩) (by assumption) ?_
      case hya9 => (intro w hSw; (try dsimp only at hSw); go_simp <;> with_reducible rfl)
      try simp only [Act.put, List.setIfInBounds_toArray, List.set_cons_zero, List.set_cons_succ]
      refine takeD (i := 10) (d := some 37) (v := ?va10) rfl rfl (by kernel_rfl) (by kernel_rfl) (by kernel_rfl) (fun _ _ _ h => h) (Or.inl ⟨by rfl, ?hya10⟩) (by assumption) ?_
      case hya10 => (intro w hSw; (try dsimp only at hSw); go_simp <;> with_reducible rfl)
      try simp only [Act.put, List.setIfInBounds_toArray, List.set_cons_zero, List.set_cons_succ]
      refine takeD (i := 11) (d := some 38) (v := ?va11) rfl rfl (by kernel_rfl) (by kernel_rfl) (by kernel_rfl) (fun _ _ _ h => h) (Or.inl ⟨by rfl, ?hya11⟩) (by assumption) ?_
      case hya11 => (intro w hSw; (try dsimp only at hSw); go_simp <;> with_reducible rfl)
      try simp only [Act.put, List.setIfInBounds_toArray, List.set_cons_zero, List.set_cons_succ]
      refine takeD (i := 12) (d := some 39) (v := ?va12) rfl rfl (by kernel_rfl) (by kernel_rfl) (by kernel_rfl) (fun _ _ _ h => h) (Or.inl ⟨by rfl, ?hya12⟩) (by assumption) ?_
      case hya12 => (intro w hSw; (try dsimp only at hSw); go_simp <;> with_reducible rfl)
      try simp only [Act.put, List.setIfInBounds_toArray, List.set_cons_zero, List.set_cons_succ]
      refine passD (i := 13) (d := some 40) rfl rfl (by kernel_rfl) (by kernel_rfl) (by kernel_rfl) (fun _ _ _ h => h) (by rfl) (by assumption) ?_
      try simp only [Act.put, List.setIfInBounds_toArray, List.set_cons_zero, List.set_cons_succ]
      refine passD (i := 14) (d := some 41) rfl rfl (by kernel_rfl) (by kernel_rfl) (by kernel_rfl) (fun _ _ _ h => h) (by rfl) (by assumption) ?_
      try simp only [Act.put, List.setIfInBounds_toArray, List.set_cons_zero, List.set_cons_succ]
      refine passD (i := 15) (d := some 42) rfl rfl (by kernel_rfl) (by kernel_rfl) (by kernel_rfl) (fun _ _ _ h => h) (by rfl) (by assumption) ?_
      try simp only [Act.put, List.setIfInBounds_toArray, List.set_cons_zero, List.set_cons_succ]
      refine passD (i := 16) (d := some 43) rfl rfl (by kernel_rfl) (by kernel_rfl) (by kernel_rfl) (fun _ _ _ h => h) (by rfl) (by assumption) ?_
      try simp only [Act.put, List.setIfInBounds_toArray, List.set_cons_zero, List.set_cons_succ]
      refine passD (i := 17) (d := some 44) rfl rfl (by kernel_rfl) (by kernel_rfl) (by kernel_rfl) (fun _ _ _ h => h) (by rfl) (by assumption) ?_
      try simp only [Act.put, List.setIfInBounds_toArray, List.set_cons_zero, List.set_cons_succ]
      refine passD (i := 18) (d := some 45) rfl rfl (by kernel_rfl) (by kernel_rfl) (by kernel_rfl) (fun _ _ _ h => h) (by rfl) (by assumption) ?_
      try simp only [Act.put, List.setIfInBounds_toArray, List.set_cons_zero, List.set_cons_succ]
      refine passD (i := 19) (d := some 46) rfl rfl (by kernel_rfl) (by kernel_rfl) (by kernel_rfl) (fun _ _ _ h => h) (by rfl) (by assumption) ?_
      try simp only [Act.put, List.setIfInBounds_toArray, List.set_cons_zero, List.set_cons_succ]
      refine passD (i := 20) (d := some 47) rfl rfl (by kernel_rfl) (by kernel_rfl) (by kernel_rfl) (fun _ _ _ h => h) (by rfl) (by assumption) ?_
      try simp only [Act.put, List.setIfInBounds_toArray, List.set_cons_zero, List.set_cons_succ]
      refine passD (i := 21) (d := some 48) rfl rfl (by kernel_rfl) (by kernel_rfl) (by kernel_rfl) (fun _ _ _ h => h) (by rfl) (by assumption) ?_
      try simp only [Act.put, List.setIfInBounds_toArray, List.set_cons_zero, List.set_cons_succ]
      refine passD (i := 22) (d := some 49) rfl rfl (by kernel_rfl) (by kernel_rfl) (by kernel_rfl) (fun _ _ _ h => h) (by rfl) (by assumption) ?_
      try simp only [Act.put, List.setIfInBounds_toArray, List.set_cons_zero, List.set_cons_succ]
      refine passD (i := 23) (d := some 50) rfl rfl (by kernel_rfl) (by kernel_rfl) (by kernel_rfl) (fun _ _ _ h => h) (by rfl) (by assumption) ?_
      try simp only [Act.put, List.setIfInBounds_toArray, List.set_cons_zero, List.set_cons_succ]
      refine passD (i := 24) (d := some 51) rfl rfl (by kernel_rfl) (by kernel_rfl) (by kernel_rfl) (fun _ _ _ h => h) (by rfl) (by assumption) ?_
      try simp only [Act.put, List.setIfInBounds_toArray, List.set_cons_zero, List.set_cons_succ]
      refine passD (i := 25) (d := some 52) rfl rfl (by kernel_rfl) (by kernel_rfl) (by kernel_rfl) (fun _ _ _ h => h) (by rfl) (by assumption) ?_
      try simp only [Act.put, List.setIfInBounds_toArray, List.set_cons_zero, List.set_cons_succ]
      refine passD (i := 26) (d := some 53) rfl rfl (by kernel_rfl) (by kernel_rfl) (by kernel_rfl) (fun _ _ _ h => h) (by rfl) (by assumption) ?_
      try simp only [Act.put, List.setIfInBounds_toArray, List.set_cons_zero, List.set_cons_succ]
      refine passD (i := 27) (d := some 54) rfl rfl (by kernel_rfl) (by kernel_rfl) (by kernel_rfl) (fun _ _ _ h => h) (by rfl) (by assumption) ?_
      try simp only [Act.put, List.setIfInBounds_toArray, List.set_cons_zero, List.set_cons_succ]
      refine passD (i := 28) (d := some 55) rfl rfl (by kernel_rfl) (by kernel_rfl) (by kernel_rfl) (fun _ _ _ h => h) (by rfl) (by assumption) ?_
      try simp only [Act.put, List.setIfInBounds_toArray, List.set_cons_zero, List.set_cons_succ]
      refine passD (i := 29) (d := some 56) rfl rfl (by kernel_rfl) (by kernel_rfl) (by kernel_rfl) (fun _ _ _ h => h) (by rfl) (by assumption) ?_
      try simp only [Act.put, List.setIfInBounds_toArray, List.set_cons_zero, List.set_cons_succ]
      refine passD (i := 30) (d := some 57) rfl rfl (by kernel_rfl) (by kernel_rfl) (by kernel_rfl) (fun _ _ _ h => h) (by rfl) (by assumption) ?_
      try simp only [Act.put, List.setIfInBounds_toArray, List.set_cons_zero, List.set_cons_succ]
      refine passD (i := 31) (d := some 58) rfl rfl (by kernel_rfl) (by kernel_rfl) (by kernel_rfl) (fun _ _ _ h => h) (by rfl) (by assumption) ?_
      try simp only [Act.put, List.setIfInBounds_toArray, List.set_cons_zero, List.set_cons_succ]
      refine passD (i := 32) (d := some 59) rfl rfl (by kernel_rfl) (by kernel_rfl) (by kernel_rfl) (fun _ _ _ h => h) (by rfl) (by assumption) ?_
      try simp only [Act.put, List.setIfInBounds_toArray, List.set_cons_zero, List.set_cons_succ]
      refine passD (i := 33) (d := some 60) rfl rfl (by kernel_rfl) (by kernel_rfl) (by kernel_rfl) (fun _ _ _ h => h) (by rfl) (by assumption) ?_
      try simp only [Act.put, List.setIfInBounds_toArray, List.set_cons_zero, List.set_cons_succ]
      refine passD (i := 34) (d := some 61) rfl rfl (by kernel_rfl) (by kernel_rfl) (by kernel_rfl) (fun _ _ _ h => h) (by rfl) (by assumption) ?_
      try simp only [Act.put, List.setIfInBounds_toArray, List.set_cons_zero, List.set_cons_succ]
      refine passD (i := 35) (d := some 62) rfl rfl (by kernel_rfl) (by kernel_rfl) (by kernel_rfl) (fun _ _ _ h => h) (by rfl) (by assumption) ?_
      try simp only [Act.put, List.setIfInBounds_toArray, List.set_cons_zero, List.set_cons_succ]
      refine passD (i := 36) (d := some 63) rfl rfl (by kernel_rfl) (by kernel_rfl) (by kernel_rfl) (fun _ _ _ h => h) (by rfl) (by assumption) ?_
      try simp only [Act.put, List.setIfInBounds_toArray, List.set_cons_zero, List.set_cons_succ]
      refine passD (i := 37) (d := some 64) rfl rfl (by kernel_rfl) (by kernel_rfl) (by kernel_rfl) (fun _ _ _ h => h) (by rfl) (by assumption) ?_
      try simp only [Act.put, List.setIfInBounds_toArray, List.set_cons_zero, List.set_cons_succ]
      refine passD (i := 38) (d := some 65) rfl rfl (by kernel_rfl) (by kernel_rfl) (by kernel_rfl) (fun _ _ _ h => h) (by rfl) (by assumption) ?_
      try simp only [Act.put, List.setIfInBounds_toArray, List.set_cons_zero, List.set_cons_succ]
      refine passD (i := 39) (d := some 66) rfl rfl (by kernel_rfl) (by kernel_rfl) (by kernel_rfl) (fun _ _ _ h => h) (by rfl) (by assumption) ?_
      try simp only [Act.put, List.setIfInBounds_toArray, List.set_cons_zero, List.set_cons_succ]
      refine passD (i := 40) (d := some 67) rfl rfl (by kernel_rfl) (by kernel_rfl) (by kernel_rfl) (fun _ _ _ h => h) (by rfl) (by assumption) ?_
      try simp only [Act.put, List.setIfInBounds_toArray, List.set_cons_zero, List.set_cons_succ]
      refine passD (i := 41) (d := some 68) rfl rfl (by kernel_rfl) (by kernel_rfl) (by kernel_rfl) (fun _ _ _ h => h) (by rfl) (by assumption) ?_
      try simp only [Act.put, List.setIfInBounds_toArray, List.set_cons_zero, List.set_cons_succ]
      refine passD (i := 42) (d := some 69) rfl rfl (by kernel_rfl) (by kernel_rfl) (by kernel_rfl) (fun _ _ _ h => h) (by rfl) (by assumption) ?_
      try simp only [Act.put, List.setIfInBounds_toArray, List.set_cons_zero, List.set_cons_succ]
      refine passD (i := 43) (d := some 70) rfl rfl (by kernel_rfl) (by kernel_rfl) (by kernel_rfl) (fun _ _ _ h => h) (by rfl) (by assumption) ?_
      try simp only [Act.put, List.setIfInBounds_toArray, List.set_cons_zero, List.set_cons_succ]
      refine passD (i := 44) (d := some 71) rfl rfl (by kernel_rfl) (by kernel_rfl) (by kernel_rfl) (fun _ _ _ h => h) (by rfl) (by assumption) ?_
      try simp only [Act.put, List.setIfInBounds_toArray, List.set_cons_zero, List.set_cons_succ]
      refine passD (i := 45) (d := some 72) rfl rfl (by kernel_rfl) (by kernel_rfl) (by kernel_rfl) (fun _ _ _ h => h) (by rfl) (by assumption) ?_
      try simp only [Act.put, List.setIfInBounds_toArray, List.set_cons_zero, List.set_cons_succ]
      refine passD (i := 46) (d := some 73) rfl rfl (by kernel_rfl) (by kernel_rfl) (by kernel_rfl) (fun _ _ _ h => h) (by rfl) (by assumption) ?_
      try simp only [Act.put, List.setIfInBounds_toArray, List.set_cons_zero, List.set_cons_succ]
      refine passD (i := 47) (d := some 74) rfl rfl (by kernel_rfl) (by kernel_rfl) (by kernel_rfl) (fun _ _ _ h => h) (by rfl) (by assumption) ?_
      try simp only [Act.put, List.setIfInBounds_toArray, List.set_cons_zero, List.set_cons_succ]
      refine passD (i := 48) (d := some 75) rfl rfl (by kernel_rfl) (by kernel_rfl) (by kernel_rfl) (fun _ _ _ h => h) (by rfl) (by assumption) ?_
      try simp only [Act.put, List.setIfInBounds_toArray, List.set_cons_zero, List.set_cons_succ]
      refine passD (i := 49) (d := some 76) rfl rfl (by kernel_rfl) (by kernel_rfl) (by kernel_rfl) (fun _ _ _ h => h) (by rfl) (by assumption) ?_
      try simp only [Act.put, List.setIfInBounds_toArray, List.set_cons_zero, List.set_cons_succ]
      refine passD (i := 50) (d := some 77) rfl rfl (by kernel_rfl) (by kernel_rfl) (by kernel_rfl) (fun _ _ _ h => h) (by rfl) (by assumption) ?_
      try simp only [Act.put, List.setIfInBounds_toArray, List.set_cons_zero, List.set_cons_succ]
      refine takeD (i := 51) (d := some 78) (v := ?va51) rfl rfl (by kernel_rfl) (by kernel_rfl) (by kernel_rfl) (fun _ _ _ h => h) (Or.inl ⟨by rfl, ?hya51⟩) (by assumption) ?_
      case hya51 => (intro w hSw; (try dsimp only at hSw); go_simp <;> with_reducible rfl)
      try simp only [Act.put, List.setIfInBounds_toArray, List.set_cons_zero, List.set_cons_succ]
      refine takeD (i := 52) (d := some 79) (v := ?va52) rfl rfl (by kernel_rfl) (by kernel_rfl) (by kernel_rfl) (fun _ _ _ h => h) (Or.inl ⟨by rfl, ?hya52⟩) (by assumption) ?_
      case hya52 => (intro w hSw; (try dsimp only at hSw); go_simp <;> with_reducible rfl)
      try simp only [Act.put, List.setIfInBounds_toArray, List.set_cons_zero, List.set_cons_succ]
      refine wpAnyH_done (by kernel_rfl) ?_ _
      refine NoPanic.normal ?_
      -- behind: hBa5
      go_wp2_with fail
      go_meet
      case rel => exact ⟨by assumption, rfl⟩
    · obtain ⟨hc, hu, hv, ht⟩ : c = 0 ∧ u = zz ∧ v = xx / 8 ∧ t = yy / 8 := by
        have := HV.out
        unfold atV at this
        rw [hp] at this
        simp at this
        omega
      subst hc hu
      have s1 : ∀ w, Calls Try.prog 13 #[.int .i64 u, .int .i64 xx, .int .i64 yy] w fun e w' => e = .returned (rrV 0 u v t) ∧ Below w.heap.size w w' := fun w => HV.out ▸ spec_RefAt_any u xx yy w
      have s2 : ∀ w, Calls Try.prog 14 #[refV u v t] w fun e w' => e = .returned (.int .i64 0) ∧ Below w.heap.size w w' := fun w => by
        have := impl_RefFault_any u v t w
        rw [hv, ht, pix_ref hp] at this
        rw [hv, ht]
        exact this
      have hfd : ∀ w : World, (Instr.field 34 (rrV 0 u v t) 0).run Try.prog w = .ok (.int .i64 0) w := fun _ => by kernel_rfl
      obtain ⟨⟨x0, x1⟩, y0, y1⟩ := pixB_in hp
      have hpb := (pixI_bd (pixB_zoom hp)).2
      clear hp HV
      have v1 : v * 8 ≤ xx := by omega
      have v2 : xx < (v + 1) * 8 := by omega
      have t1 : t * 8 ≤ yy := by omega
      have t2 : yy < (t + 1) * 8 := by omega
      have vb : 0 ≤ v ∧ v ≤ 7 := by omega
      have tb : 0 ≤ t ∧ t ≤ 7 := by omega
      clear hv ht
      have a1 : IntKind.i64.wrap (v * 8) = v * 8 := IntWalk.i64_in _ (by omega)
      have a2 : IntKind.i64.wrap (v + 1) = v + 1 := IntWalk.i64_in _ (by omega)
      have a3 : IntKind.i64.wrap ((v + 1) * 8) = (v + 1) * 8 := IntWalk.i64_in _ (by omega)
      have a4 : IntKind.i64.wrap (t * 8) = t * 8 := IntWalk.i64_in _ (by omega)
      have a5 : IntKind.i64.wrap (t + 1) = t + 1 := IntWalk.i64_in _ (by omega)
      have a6 : IntKind.i64.wrap ((t + 1) * 8) = (t + 1) * 8 := IntWalk.i64_in _ (by omega)
      have b1 : decide (xx < v * 8) = false := by simp; omega
      have b2 : decide ((v + 1) * 8 ≤ xx) = false := by simp; omega
      have b3 : decide (yy < t * 8) = false := by simp; omega
      have b4 : decide ((t + 1) * 8 ≤ yy) = false := by simp; omega
      go_region_held3 (fun W' => Below w7.heap.size w7 W') ((repeat (first | exact Below.refl _ _ | assumption | refine Below.drew ?_ | refine bl_alloc ?_ _ | refine bl_then ?_ (by assumption) | refine Below.setCell ?_ (by first | omega | (simp; done) | (simp; omega)) _ | refine bl_store ?_ ?_ _ _)))
        (first
          | (go_at_call 13; refine (s1 _).mono ?_; rintro e w' ⟨rfl, hb⟩)
          | (go_at_call 14; refine (s2 _).mono ?_; rintro e w' ⟨rfl, hb⟩)
          | fail)
      go_wp2_with fail
      go_meet
      case rel => exact ⟨by assumption, rfl⟩
  obtain ⟨hBc, rfl⟩ := hcut
  have cc0 : ∀ W', Below wc.heap.size wc W' → W'.cell? ⟨w1.heap.size, 0, none⟩ = some (.int .i64 z) := fun W' h => c0 W' (bl_then hBc h)
  have cc1 : ∀ W', Below wc.heap.size wc W' → W'.cell? ⟨w1.heap.size, 1, none⟩ = some (.int .i64 x) := fun W' h => c1 W' (bl_then hBc h)
  have cc2 : ∀ W', Below wc.heap.size wc W' → W'.cell? ⟨w1.heap.size, 2, none⟩ = some (.int .i64 y) := fun W' h => c2 W' (bl_then hBc h)
  have dd0 : ∀ W', Below wc.heap.size wc W' → W'.cell? ⟨w3.heap.size, 0, none⟩ = some (.int .i64 (kidC z x y)) := fun W' h => d0' W' (bl_then hBc h)
  have dd1 : ∀ W', Below wc.heap.size wc W' → W'.cell? ⟨w3.heap.size, 1, none⟩ = some (.slice ak (kidN z x y) ck) := fun W' h => d1' W' (bl_then hBc h)
  have HIc : Hid (IsRs wc ak (kidN z x y) (kidR z x y)) := HIk7.out.below hBc
  have HBc : Hid (Below w.heap.size w wc) := bl_then HB7.out hBc
  clear c0 c1 c2 d0' d1' g0 g1 g2 g3 HIk7 HB7 hBc
  generalize wc = w8 at *
  have k0 := cc0 w8 (Below.refl _ _)
  have k1 := cc1 w8 (Below.refl _ _)
  have k2 := cc2 w8 (Below.refl _ _)
  go_wp2_with fail
  refine (impl_ParentOf_any z x y _).mono ?_
  rintro e w9 ⟨rfl, hb9⟩
  obtain ⟨pc, pu, pv, pt, hV⟩ : ∃ c u v t : Int, parV z x y = rrV c u v t := by
    unfold parV
    split
    · split
      · exact ⟨_, _, _, _, rfl⟩
      · exact ⟨_, _, _, _, rfl⟩
    · exact ⟨_, _, _, _, rfl⟩
  have HV : Hid (parV z x y = rrV pc pu pv pt) := hV
  rw [hV]
  clear hV k0 k1 k2
  go_wp2_with fail
  generalize hW10 : (w9.alloc _ : World) = w10
  have hb910 : Below w9.heap.size w9 w10 := by subst hW10; (repeat (first | exact Below.refl _ _ | assumption | refine Below.drew ?_ | refine bl_alloc ?_ _ | refine bl_then ?_ (by assumption) | refine Below.setCell ?_ (by first | omega | (simp; done) | (simp; omega)) _ | refine bl_store ?_ ?_ _ _))
  have g0 : ∀ W', Below w10.heap.size w10 W' → W'.cell? ⟨w9.heap.size, 0, none⟩ = some (.int .i64 pc) := fun W' h => by
    rw [h.cell (by subst hW10; simp)]; subst hW10; simp [go_sem]
  have g1 : ∀ W', Below w10.heap.size w10 W' → W'.cell? ⟨w9.heap.size, 1, none⟩ = some (.int .i64 pu) := fun W' h => by
    rw [h.cell (by subst hW10; simp)]; subst hW10; simp [go_sem]
  clear hW10
  have hb8 := bl_then hb9 hb910
  have c0 : ∀ W', Below w10.heap.size w10 W' → W'.cell? ⟨w1.heap.size, 0, none⟩ = some (.int .i64 z) := fun W' h => cc0 W' (bl_then hb8 h)
  have c1 : ∀ W', Below w10.heap.size w10 W' → W'.cell? ⟨w1.heap.size, 1, none⟩ = some (.int .i64 x) := fun W' h => cc1 W' (bl_then hb8 h)
  have c2 : ∀ W', Below w10.heap.size w10 W' → W'.cell? ⟨w1.heap.size, 2, none⟩ = some (.int .i64 y) := fun W' h => cc2 W' (bl_then hb8 h)
  have d0 : ∀ W', Below w10.heap.size w10 W' → W'.cell? ⟨w3.heap.size, 0, none⟩ = some (.int .i64 (kidC z x y)) := fun W' h => dd0 W' (bl_then hb8 h)
  have d1 : ∀ W', Below w10.heap.size w10 W' → W'.cell? ⟨w3.heap.size, 1, none⟩ = some (.slice ak (kidN z x y) ck) := fun W' h => dd1 W' (bl_then hb8 h)
  have HI10 : Hid (IsRs w10 ak (kidN z x y) (kidR z x y)) := HIc.out.below hb8
  have HB10 : Hid (Below w.heap.size w w10) := bl_then HBc.out hb8
  clear cc0 cc1 cc2 dd0 dd1 HIc HBc hb8 hb9 hb910
  go_cut [101] (fun t wc => Below w10.heap.size w10 wc ∧ t = .bool false)
  case first =>
    by_cases hp : refB z x y = true ∧ z ≠ 0
    · obtain ⟨hc, hu⟩ : pc = 0 ∧ pu = z - 1 := by
        have := HV.out
        unfold parV at this
        rw [hp.1] at this
        simp [hp.2] at this
        omega
      subst hc
      have hzb := (ref_bd hp.1).1
      have s1 : ∀ w, Calls Try.prog 16 #[refV z x y] w fun e w' => e = .returned (rrV 0 pu pv pt) ∧ Below w.heap.size w w' := fun w => HV.out ▸ spec_ParentOf_any z x y w
      have hfd : ∀ w : World, (Instr.field 34 (rrV 0 pu pv pt) 0).run Try.prog w = .ok (.int .i64 0) w := fun _ => by kernel_rfl
      have a1 : IntKind.i64.wrap (z - 1) = z - 1 := IntWalk.i64_in _ (by omega)
      subst hu
      clear hp HV
      go_region_held3 (fun W' => Below w10.heap.size w10 W') ((repeat (first | exact Below.refl _ _ | assumption | refine Below.drew ?_ | refine bl_alloc ?_ _ | refine bl_then ?_ (by assumption) | refine Below.setCell ?_ (by first | omega | (simp; done) | (simp; omega)) _ | refine bl_store ?_ ?_ _ _)))
        (first
          | (go_at_call 16; refine (s1 _).mono ?_; rintro e w' ⟨rfl, hb⟩)
          | fail)
      go_wp2_with fail
      go_meet
      case rel => exact ⟨by assumption, rfl⟩
    · obtain ⟨hc1, hc0, hc2, hc3⟩ : (pc = 3 ∨ pc = 4) ∧ pu = 0 ∧ pv = 0 ∧ pt = 0 := by
        have := HV.out
        unfold parV at this
        cases hr : refB z x y
        · rw [hr] at this
          simp at this
          omega
        · rw [hr] at this hp
          simp at hp
          simp [hp] at this
          omega
      subst hc0 hc2 hc3
      have s1 : ∀ w, Calls Try.prog 16 #[refV z x y] w fun e w' => e = .returned (rrV pc 0 0 0) ∧ Below w.heap.size w w' := fun w => HV.out ▸ spec_ParentOf_any z x y w
      have hfd : ∀ w : World, (Instr.field 34 (rrV pc 0 0 0) 0).run Try.prog w = .ok (.int .i64 pc) w := fun _ => by kernel_rfl
      have hne : ¬ pc = 0 := by omega
      have hq1 : (pc == 0) = false := by simpa using hne
      have hq2 : decide (pc = 0) = false := by simpa using hne
      clear hp HV hc1
      refine wp_region_noPanic ?_
      refine wp_region_held_drew (S := fun W' => Below w10.heap.size w10 W') (by kernel_rfl) (by (repeat (first | exact Below.refl _ _ | assumption | refine Below.drew ?_ | refine bl_alloc ?_ _ | refine bl_then ?_ (by assumption) | refine Below.setCell ?_ (by first | omega | (simp; done) | (simp; omega)) _ | refine bl_store ?_ ?_ _ _))) (fun hHeld => ?_)
      have hBdb : Below w10.heap.size w10 w10.drew := hHeld
      refine takeD (i := 0) (d := some 82) (v := ?vb0) rfl rfl (by kernel_rfl) (by kernel_rfl) (by kernel_rfl) (fun _ _ _ h => h) (Or.inl ⟨by rfl, ?hyb0⟩) (by assumption) ?_
      case hyb0 => (intro w hSw; (try dsimp only at hSw); go_simp <;> with_reducible rfl)
      try simp only [Act.put, List.setIfInBounds_toArray, List.set_cons_zero, List.set_cons_succ]
      refine takeD (i := 1) (d := some 83) (v := ?vb1) rfl rfl (by kernel_rfl) (by kernel_rfl) (by kernel_rfl) (fun _ _ _ h => h) (Or.inl ⟨by rfl, ?hyb1⟩) (by assumption) ?_
      case hyb1 => (intro w hSw; (try dsimp only at hSw); go_simp <;> with_reducible rfl)
      try simp only [Act.put, List.setIfInBounds_toArray, List.set_cons_zero, List.set_cons_succ]
      refine takeD (i := 2) (d := some 84) (v := ?vb2) rfl rfl (by kernel_rfl) (by kernel_rfl) (by kernel_rfl) (fun _ _ _ h => h) (Or.inl ⟨by rfl, ?hyb2⟩) (by assumption) ?_
      case hyb2 => (intro w hSw; (try dsimp only at hSw); go_simp <;> with_reducible rfl)
      try simp only [Act.put, List.setIfInBounds_toArray, List.set_cons_zero, List.set_cons_succ]
      refine wpAnyH_ready (rs := [3]) (by kernel_rfl) (by simp) ?_
      refine (AllReadyH.cons rfl (fun K hK => ?_) AllReadyH.nil)
      go_simp
      refine Calls.mono (s1 _) ?_
      rintro e wqb3 ⟨rfl, hqb3⟩
      have hBb3 : Below w10.heap.size w10 wqb3 := bl_then hBdb hqb3
      go_wp2_with fail
      refine hK.out _ _ hBb3 (fun hHeld => ?_)
      clear hK K
      try simp only [Act.put, List.setIfInBounds_toArray, List.set_cons_zero, List.set_cons_succ]
      refine takeD (i := 4) (d := some 86) (v := ?vb4) rfl rfl (by kernel_rfl) (by kernel_rfl) (by kernel_rfl) (fun _ _ _ h => h) (Or.inl ⟨by rfl, ?hyb4⟩) (by assumption) ?_
      case hyb4 => (intro w hSw; (try dsimp only at hSw); go_simp <;> with_reducible rfl)
      try simp only [Act.put, List.setIfInBounds_toArray, List.set_cons_zero, List.set_cons_succ]
      refine takeD (i := 5) (d := some 87) (v := ?vb5) rfl rfl (by kernel_rfl) (by kernel_rfl) (by kernel_rfl) (fun _ _ _ h => h) (Or.inl ⟨by rfl, ?hyb5⟩) (by assumption) ?_
      case hyb5 => (intro w hSw; (try dsimp only at hSw); go_simp <;> with_reducible rfl)
      try simp only [Act.put, List.setIfInBounds_toArray, List.set_cons_zero, List.set_cons_succ]
      refine takeD (i := 6) (d := some 88) (v := ?vb6) rfl rfl (by kernel_rfl) (by kernel_rfl) (by kernel_rfl) (fun _ _ _ h => h) (Or.inl ⟨by rfl, ?hyb6⟩) (by assumption) ?_
      case hyb6 => (intro w hSw; (try dsimp only at hSw); go_simp <;> with_reducible rfl)
      try simp only [Act.put, List.setIfInBounds_toArray, List.set_cons_zero, List.set_cons_succ]
      refine takeD (i := 7) (d := some 89) (v := ?vb7) rfl rfl (by kernel_rfl) (by kernel_rfl) (by kernel_rfl) (fun _ _ _ h => h) (Or.inl ⟨by rfl, ?hyb7⟩) (by assumption) ?_
      case hyb7 => (intro w hSw; (try dsimp only at hSw); go_simp <;> with_reducible rfl)
      try simp only [Act.put, List.setIfInBounds_toArray, List.set_cons_zero, List.set_cons_succ]
      refine takeD (i := 8) (d := some 90) (v := ?vb8) rfl rfl (by kernel_rfl) (by kernel_rfl) (by kernel_rfl) (fun _ _ _ h => h) (Or.inl ⟨by rfl, ?hyb8⟩) (by assumption) ?_
      case hyb8 => (intro w hSw; (try dsimp only at hSw); go_simp <;> with_reducible rfl)
      try simp only [Act.put, List.setIfInBounds_toArray, List.set_cons_zero, List.set_cons_succ]
      refine takeD (i := 9) (d := some 91) (v := ?vb9) rfl rfl (by kernel_rfl) (by kernel_rfl) (by kernel_rfl) (fun _ _ _ h => h) (Or.inl ⟨by rfl, ?hyb9⟩) (by assumption) ?_
      case hyb9 => (intro w hSw; (try dsimp only at hSw); go_simp <;> with_reducible rfl)
      try simp only [Act.put, List.setIfInBounds_toArray, List.set_cons_zero, List.set_cons_succ]
      refine takeD (i := 10) (d := some 92) (v := ?vb10) rfl rfl (by kernel_rfl) (by kernel_rfl) (by kernel_rfl) (fun _ _ _ h => h) (Or.inl ⟨by rfl, ?hyb10⟩) (by assumption) ?_
      case hyb10 => (intro w hSw; (try dsimp only at hSw); go_simp <;> with_reducible rfl)
      try simp only [Act.put, List.setIfInBounds_toArray, List.set_cons_zero, List.set_cons_succ]
      refine passD (i := 11) (d := some 93) rfl rfl (by kernel_rfl) (by kernel_rfl) (by kernel_rfl) (fun _ _ _ h => h) (by rfl) (by assumption) ?_
      try simp only [Act.put, List.setIfInBounds_toArray, List.set_cons_zero, List.set_cons_succ]
      refine passD (i := 12) (d := some 94) rfl rfl (by kernel_rfl) (by kernel_rfl) (by kernel_rfl) (fun _ _ _ h => h) (by rfl) (by assumption) ?_
      try simp only [Act.put, List.setIfInBounds_toArray, List.set_cons_zero, List.set_cons_succ]
      refine passD (i := 13) (d := some 95) rfl rfl (by kernel_rfl) (by kernel_rfl) (by kernel_rfl) (fun _ _ _ h => h) (by rfl) (by assumption) ?_
      try simp only [Act.put, List.setIfInBounds_toArray, List.set_cons_zero, List.set_cons_succ]
      refine passD (i := 14) (d := some 96) rfl rfl (by kernel_rfl) (by kernel_rfl) (by kernel_rfl) (fun _ _ _ h => h) (by rfl) (by assumption) ?_
      try simp only [Act.put, List.setIfInBounds_toArray, List.set_cons_zero, List.set_cons_succ]
      refine passD (i := 15) (d := some 97) rfl rfl (by kernel_rfl) (by kernel_rfl) (by kernel_rfl) (fun _ _ _ h => h) (by rfl) (by assumption) ?_
      try simp only [Act.put, List.setIfInBounds_toArray, List.set_cons_zero, List.set_cons_succ]
      refine passD (i := 16) (d := some 98) rfl rfl (by kernel_rfl) (by kernel_rfl) (by kernel_rfl) (fun _ _ _ h => h) (by rfl) (by assumption) ?_
      try simp only [Act.put, List.setIfInBounds_toArray, List.set_cons_zero, List.set_cons_succ]
      refine passD (i := 17) (d := some 99) rfl rfl (by kernel_rfl) (by kernel_rfl) (by kernel_rfl) (fun _ _ _ h => h) (by rfl) (by assumption) ?_
      try simp only [Act.put, List.setIfInBounds_toArray, List.set_cons_zero, List.set_cons_succ]
      refine takeD (i := 18) (d := some 100) (v := ?vb18) rfl rfl (by kernel_rfl) (by kernel_rfl) (by kernel_rfl) (fun _ _ _ h => h) (Or.inl ⟨by rfl, ?hyb18⟩) (by assumption) ?_
      case hyb18 => (intro w hSw; (try dsimp only at hSw); go_simp <;> with_reducible rfl)
      try simp only [Act.put, List.setIfInBounds_toArray, List.set_cons_zero, List.set_cons_succ]
      refine takeD (i := 19) (d := some 101) (v := ?vb19) rfl rfl (by kernel_rfl) (by kernel_rfl) (by kernel_rfl) (fun _ _ _ h => h) (Or.inl ⟨by rfl, ?hyb19⟩) (by assumption) ?_
      case hyb19 => (intro w hSw; (try dsimp only at hSw); go_simp <;> with_reducible rfl)
      try simp only [Act.put, List.setIfInBounds_toArray, List.set_cons_zero, List.set_cons_succ]
      refine wpAnyH_done (by kernel_rfl) ?_ _
      refine NoPanic.normal ?_
      -- behind: hBb3
      go_wp2_with fail
      go_meet
      case rel => exact ⟨by assumption, rfl⟩
  obtain ⟨hBc, rfl⟩ := hcut
  have cc0 : ∀ W', Below wc.heap.size wc W' → W'.cell? ⟨w1.heap.size, 0, none⟩ = some (.int .i64 z) := fun W' h => c0 W' (bl_then hBc h)
  have cc1 : ∀ W', Below wc.heap.size wc W' → W'.cell? ⟨w1.heap.size, 1, none⟩ = some (.int .i64 x) := fun W' h => c1 W' (bl_then hBc h)
  have cc2 : ∀ W', Below wc.heap.size wc W' → W'.cell? ⟨w1.heap.size, 2, none⟩ = some (.int .i64 y) := fun W' h => c2 W' (bl_then hBc h)
  have dd0 : ∀ W', Below wc.heap.size wc W' → W'.cell? ⟨w3.heap.size, 0, none⟩ = some (.int .i64 (kidC z x y)) := fun W' h => d0 W' (bl_then hBc h)
  have dd1 : ∀ W', Below wc.heap.size wc W' → W'.cell? ⟨w3.heap.size, 1, none⟩ = some (.slice ak (kidN z x y) ck) := fun W' h => d1 W' (bl_then hBc h)
  have HIc : Hid (IsRs wc ak (kidN z x y) (kidR z x y)) := HI10.out.below hBc
  have HBc : Hid (Below w.heap.size w wc) := bl_then HB10.out hBc
  clear c0 c1 c2 d0 d1 g0 g1 HI10 HB10 hBc
  generalize wc = w11 at *
  have k0 := dd0 w11 (Below.refl _ _)
  have k1 := dd1 w11 (Below.refl _ _)
  by_cases hk : refB z x y = true ∧ z ≠ 3
  · obtain ⟨hr, hz3⟩ := hk
    have hc : kidC z x y = 0 := by simp [kidC, hr, hz3]
    have hN : kidN z x y = 4 := by simp [kidN, hr, hz3]
    rw [hc] at dd0 k0
    rw [hN] at dd1 k1 HIc hck
    have s1 : ∀ w, Calls Try.prog 17 #[refV z x y] w fun e w' => ∃ v, e = .returned (.agg #[.int .i64 0, v]) ∧ OwnT w' w.heap.size v 4 (kidR z x y) ∧ Below w.heap.size w w' := fun w => by
      have := spec_KidsOf_any z x y w
      rw [hc, hN] at this
      exact this
    have Hs1 := (show Hid _ from s1)
    clear s1
    rcases HIc.out with h0 | ⟨b, off, rfl, hbl, hat⟩
    · omega
    have HRS : Hid (RsAt w11 b off 4 (kidR z x y)) := hat
    clear hat HIc HV
    have HKO : Hid (∀ i, i < 4 → refB (z + 1) (2 * x + (i % 2 : Nat)) (2 * y + (i / 2 : Nat)) = true) := fun i hi => kid_ok hr hz3 hi
    have HKP : Hid (∀ i, i < 4 → parV (z + 1) (2 * x + (i % 2 : Nat)) (2 * y + (i / 2 : Nat)) = rrV 0 z x y) := fun i hi => kid_par hr hz3 hi
    have hbd := ref_bd hr
    clear hc hN
    go_wp2_with fail
    go_loopw [10] (fun i wr => ∃ k : Nat, k ≤ 4 ∧ i = .int .i64 (k : Int) ∧ Below w11.heap.size w11 wr) (fun i _ => 4 - (intOf i).toNat)
    case atStart => exact ⟨0, by omega, rfl, Below.refl _ _⟩
    case round =>
      obtain ⟨k, hk4, rfl, hB⟩ := hrel
      have c0 : ∀ W', Below wr.heap.size wr W' → W'.cell? ⟨w1.heap.size, 0, none⟩ = some (.int .i64 z) := fun W' h => cc0 W' (bl_then hB h)
      have c1 : ∀ W', Below wr.heap.size wr W' → W'.cell? ⟨w1.heap.size, 1, none⟩ = some (.int .i64 x) := fun W' h => cc1 W' (bl_then hB h)
      have c2 : ∀ W', Below wr.heap.size wr W' → W'.cell? ⟨w1.heap.size, 2, none⟩ = some (.int .i64 y) := fun W' h => cc2 W' (bl_then hB h)
      have d1 : ∀ W', Below wr.heap.size wr W' → W'.cell? ⟨w3.heap.size, 1, none⟩ = some (.slice (some ⟨b, off, none⟩) 4 ck) := fun W' h => dd1 W' (bl_then hB h)
      have e1 := d1 wr (Below.refl _ _)
      have HRr : Hid (∀ W', Below wr.heap.size wr W' → RsAt W' b off 4 (kidR z x y)) := fun W' h => (HRS.out.below hB hbl).below h (Nat.lt_of_lt_of_le hbl hB.size)
      have HB : Hid (Below w.heap.size w wr) := bl_then HBc.out hB
      have HB' : Hid (Below w11.heap.size w11 wr) := hB
      clear hB cc0 cc1 cc2 dd0 dd1 k0 k1 HRS HBc
      by_cases hlt : k < 4
      · have hk' : (k : Int) < 4 := by omega
        have hk0 : (0 : Int) ≤ (k : Int) := by omega
        obtain ⟨K0, K1, K2, hK0, hK1, hK2, hpar, hflt⟩ : ∃ K0 K1 K2 : Int, (∀ W', Below wr.heap.size wr W' → W'.cell? ⟨b, off + k * 3, none⟩ = some (.int .i64 K0)) ∧ (∀ W', Below wr.heap.size wr W' → W'.cell? ⟨b, off + k * 3 + 1, none⟩ = some (.int .i64 K1)) ∧ (∀ W', Below wr.heap.size wr W' → W'.cell? ⟨b, off + k * 3 + 2, none⟩ = some (.int .i64 K2)) ∧ parV K0 K1 K2 = rrV 0 z x y ∧ refC K0 K1 K2 = 0 :=
          ⟨z + 1, 2 * x + (k % 2 : Nat), 2 * y + (k / 2 : Nat), fun W' h => (HRr.out W' h k hlt).1, fun W' h => (HRr.out W' h k hlt).2.1, fun W' h => (HRr.out W' h k hlt).2.2, HKP.out k hlt, by unfold refC; rw [HKO.out k hlt]; rfl⟩
        have s2 : ∀ w, Calls Try.prog 15 #[refV K0 K1 K2] w fun e w' => e = .returned (rrV 0 z x y) ∧ Below w.heap.size w w' := fun w => by
          have := impl_ParentOf_any K0 K1 K2 w
          rw [hpar] at this
          exact this
        have s3 : ∀ w, Calls Try.prog 14 #[refV K0 K1 K2] w fun e w' => e = .returned (.int .i64 0) ∧ Below w.heap.size w w' := fun w => by
          have := impl_RefFault_any K0 K1 K2 w
          rw [hflt] at this
          exact this
        have hfd : ∀ w : World, (Instr.field 34 (rrV 0 z x y) 1).run Try.prog w = .ok (refV z x y) w := fun _ => by kernel_rfl
        clear hpar hflt HRr HKO HKP Hs1
        go_wp2_with fail
        go_region_held3 (fun W' => Below wr.heap.size wr W') ((repeat (first | exact Below.refl _ _ | assumption | refine Below.drew ?_ | refine bl_alloc ?_ _ | refine bl_then ?_ (by assumption) | refine Below.setCell ?_ (by first | omega | (simp; done) | (simp; omega)) _ | refine bl_store ?_ ?_ _ _)))
          (first
            | (go_at_call 15; refine (s2 _).mono ?_; rintro e w' ⟨rfl, hb⟩)
            | (go_at_call 14; refine (s3 _).mono ?_; rintro e w' ⟨rfl, hb⟩)
            | fail)
        go_wp2_with fail
        go_roundw
        case rel => exact ⟨k + 1, by omega, by go_num, bl_then HB'.out (by assumption)⟩
        case measure => simp [intOf]; omega
      · have hke : k = 4 := by omega
        subst hke
        go_wp2_with fail
        obtain ⟨A1, A2, B1, B2, hne, p0, p1, p2, p3, p4, p5, s4⟩ : ∃ A1 A2 B1 B2 : Int, ¬ A1 = B1 ∧ (∀ W', Below wr.heap.size wr W' → W'.cell? ⟨b, off, none⟩ = some (.int .i64 (z + 1))) ∧ (∀ W', Below wr.heap.size wr W' → W'.cell? ⟨b, off + 1, none⟩ = some (.int .i64 A1)) ∧ (∀ W', Below wr.heap.size wr W' → W'.cell? ⟨b, off + 2, none⟩ = some (.int .i64 A2)) ∧ (∀ W', Below wr.heap.size wr W' → W'.cell? ⟨b, off + 9, none⟩ = some (.int .i64 (z + 1))) ∧ (∀ W', Below wr.heap.size wr W' → W'.cell? ⟨b, off + 9 + 1, none⟩ = some (.int .i64 B1)) ∧ (∀ W', Below wr.heap.size wr W' → W'.cell? ⟨b, off + 9 + 2, none⟩ = some (.int .i64 B2)) ∧
            ∀ w, Calls Try.prog 17 #[refV z x y] w fun e w' => ∃ g c, e = .returned (.agg #[.int .i64 0, .slice (some ⟨g, 0, none⟩) 4 c]) ∧ g < w'.heap.size ∧ 4 ≤ c ∧ w'.cell? ⟨g, 9, none⟩ = some (.int .i64 (z + 1)) ∧ w'.cell? ⟨g, 10, none⟩ = some (.int .i64 B1) ∧ w'.cell? ⟨g, 11, none⟩ = some (.int .i64 B2) ∧ Below w.heap.size w w' := by
          refine ⟨(kidR z x y).x 0, (kidR z x y).y 0, (kidR z x y).x 3, (kidR z x y).y 3, by simp [kidR]; omega, fun W' h => (HRr.out W' h 0 (by omega)).1, fun W' h => (HRr.out W' h 0 (by omega)).2.1, fun W' h => (HRr.out W' h 0 (by omega)).2.2, fun W' h => (HRr.out W' h 3 (by omega)).1, fun W' h => (HRr.out W' h 3 (by omega)).2.1, fun W' h => (HRr.out W' h 3 (by omega)).2.2, fun w => (Hs1.out w).mono ?_⟩
          rintro e w' ⟨v, rfl, ⟨a', c', hv, hc', h0 | ⟨g, hg, hgb, hgl, hat, _⟩⟩, hb⟩
          · omega
          · subst hg hv
            obtain ⟨t0, t1, t2⟩ := hat 3 (by omega)
            exact ⟨g, c', rfl, hgl, hc', by simpa [kidR] using t0, by simpa using t1, by simpa using t2, hb⟩
        have hfd : ∀ (a : Option Addr) (n c : Nat) (w : World), (Instr.field 29 (.agg #[.int .i64 0, .slice a n c]) 1).run Try.prog w = .ok (.slice a n c) w := fun _ _ _ _ => by kernel_rfl
        have hq1 : (A1 == B1) = false := by simpa using hne
        have hq2 : decide (A1 = B1) = false := by simpa using hne
        clear HRr HKO HKP Hs1
        refine wp_region_noPanic ?_
        refine wp_region_held_drew (S := fun W' => Below wr.heap.size wr W') (by kernel_rfl) (by (repeat (first | exact Below.refl _ _ | assumption | refine Below.drew ?_ | refine bl_alloc ?_ _ | refine bl_then ?_ (by assumption) | refine Below.setCell ?_ (by first | omega | (simp; done) | (simp; omega)) _ | refine bl_store ?_ ?_ _ _))) (fun hHeld => ?_)
        have hBdf : Below wr.heap.size wr wr.drew := hHeld
        refine takeD (i := 0) (d := some 136) (v := ?vf0) rfl rfl (by kernel_rfl) (by kernel_rfl) (by kernel_rfl) (fun _ _ _ h => h) (Or.inl ⟨by rfl, ?hyf0⟩) (by assumption) ?_
        case hyf0 => (intro w hSw; (try dsimp only at hSw); go_simp <;> with_reducible rfl)
        try simp only [Act.put, List.setIfInBounds_toArray, List.set_cons_zero, List.set_cons_succ]
        refine takeD (i := 1) (d := some 137) (v := ?vf1) rfl rfl (by kernel_rfl) (by kernel_rfl) (by kernel_rfl) (fun _ _ _ h => h) (Or.inl ⟨by rfl, ?hyf1⟩) (by assumption) ?_
        case hyf1 => (intro w hSw; (try dsimp only at hSw); go_simp <;> with_reducible rfl)
        try simp only [Act.put, List.setIfInBounds_toArray, List.set_cons_zero, List.set_cons_succ]
        refine takeD (i := 2) (d := some 138) (v := ?vf2) rfl rfl (by kernel_rfl) (by kernel_rfl) (by kernel_rfl) (fun _ _ _ h => h) (Or.inl ⟨by rfl, ?hyf2⟩) (by assumption) ?_
        case hyf2 => (intro w hSw; (try dsimp only at hSw); go_simp <;> with_reducible rfl)
        try simp only [Act.put, List.setIfInBounds_toArray, List.set_cons_zero, List.set_cons_succ]
        refine takeD (i := 3) (d := some 139) (v := ?vf3) rfl rfl (by kernel_rfl) (by kernel_rfl) (by kernel_rfl) (fun _ _ _ h => h) (Or.inl ⟨by rfl, ?hyf3⟩) (by assumption) ?_
        case hyf3 => (intro w hSw; (try dsimp only at hSw); go_simp <;> with_reducible rfl)
        try simp only [Act.put, List.setIfInBounds_toArray, List.set_cons_zero, List.set_cons_succ]
        refine takeD (i := 4) (d := some 140) (v := ?vf4) rfl rfl (by kernel_rfl) (by kernel_rfl) (by kernel_rfl) (fun _ _ _ h => h) (Or.inl ⟨by rfl, ?hyf4⟩) (by assumption) ?_
        case hyf4 => (intro w hSw; (try dsimp only at hSw); go_simp <;> with_reducible rfl)
        try simp only [Act.put, List.setIfInBounds_toArray, List.set_cons_zero, List.set_cons_succ]
        refine takeD (i := 5) (d := some 141) (v := ?vf5) rfl rfl (by kernel_rfl) (by kernel_rfl) (by kernel_rfl) (fun _ _ _ h => h) (Or.inl ⟨by rfl, ?hyf5⟩) (by assumption) ?_
        case hyf5 => (intro w hSw; (try dsimp only at hSw); go_simp <;> with_reducible rfl)
        try simp only [Act.put, List.setIfInBounds_toArray, List.set_cons_zero, List.set_cons_succ]
        refine takeD (i := 6) (d := some 142) (v := ?vf6) rfl rfl (by kernel_rfl) (by kernel_rfl) (by kernel_rfl) (fun _ _ _ h => h) (Or.inl ⟨by rfl, ?hyf6⟩) (by assumption) ?_
        case hyf6 => (intro w hSw; (try dsimp only at hSw); go_simp <;> with_reducible rfl)
        try simp only [Act.put, List.setIfInBounds_toArray, List.set_cons_zero, List.set_cons_succ]
        refine takeD (i := 7) (d := some 143) (v := ?vf7) rfl rfl (by kernel_rfl) (by kernel_rfl) (by kernel_rfl) (fun _ _ _ h => h) (Or.inl ⟨by rfl, ?hyf7⟩) (by assumption) ?_
        case hyf7 => (intro w hSw; (try dsimp only at hSw); go_simp <;> with_reducible rfl)
        try simp only [Act.put, List.setIfInBounds_toArray, List.set_cons_zero, List.set_cons_succ]
        refine takeD (i := 8) (d := some 144) (v := ?vf8) rfl rfl (by kernel_rfl) (by kernel_rfl) (by kernel_rfl) (fun _ _ _ h => h) (Or.inl ⟨by rfl, ?hyf8⟩) (by assumption) ?_
        case hyf8 => (intro w hSw; (try dsimp only at hSw); go_simp <;> with_reducible rfl)
        try simp only [Act.put, List.setIfInBounds_toArray, List.set_cons_zero, List.set_cons_succ]
        refine takeD (i := 9) (d := some 145) (v := ?vf9) rfl rfl (by kernel_rfl) (by kernel_rfl) (by kernel_rfl) (fun _ _ _ h => h) (Or.inl ⟨by rfl, ?hyf9⟩) (by assumption) ?_
        case hyf9 => (intro w hSw; (try dsimp only at hSw); go_simp <;> with_reducible rfl)
        try simp only [Act.put, List.setIfInBounds_toArray, List.set_cons_zero, List.set_cons_succ]
        refine takeD (i := 10) (d := some 146) (v := ?vf10) rfl rfl (by kernel_rfl) (by kernel_rfl) (by kernel_rfl) (fun _ _ _ h => h) (Or.inl ⟨by rfl, ?hyf10⟩) (by assumption) ?_
        case hyf10 => (intro w hSw; (try dsimp only at hSw); go_simp <;> with_reducible rfl)
        try simp only [Act.put, List.setIfInBounds_toArray, List.set_cons_zero, List.set_cons_succ]
        refine takeD (i := 11) (d := some 147) (v := ?vf11) rfl rfl (by kernel_rfl) (by kernel_rfl) (by kernel_rfl) (fun _ _ _ h => h) (Or.inl ⟨by rfl, ?hyf11⟩) (by assumption) ?_
        case hyf11 => (intro w hSw; (try dsimp only at hSw); go_simp <;> with_reducible rfl)
        try simp only [Act.put, List.setIfInBounds_toArray, List.set_cons_zero, List.set_cons_succ]
        refine takeD (i := 12) (d := some 148) (v := ?vf12) rfl rfl (by kernel_rfl) (by kernel_rfl) (by kernel_rfl) (fun _ _ _ h => h) (Or.inl ⟨by rfl, ?hyf12⟩) (by assumption) ?_
        case hyf12 => (intro w hSw; (try dsimp only at hSw); go_simp <;> with_reducible rfl)
        try simp only [Act.put, List.setIfInBounds_toArray, List.set_cons_zero, List.set_cons_succ]
        refine takeD (i := 13) (d := some 149) (v := ?vf13) rfl rfl (by kernel_rfl) (by kernel_rfl) (by kernel_rfl) (fun _ _ _ h => h) (Or.inl ⟨by rfl, ?hyf13⟩) (by assumption) ?_
        case hyf13 => (intro w hSw; (try dsimp only at hSw); go_simp <;> with_reducible rfl)
        try simp only [Act.put, List.setIfInBounds_toArray, List.set_cons_zero, List.set_cons_succ]
        refine takeD (i := 14) (d := some 150) (v := ?vf14) rfl rfl (by kernel_rfl) (by kernel_rfl) (by kernel_rfl) (fun _ _ _ h => h) (Or.inl ⟨by rfl, ?hyf14⟩) (by assumption) ?_
        case hyf14 => (intro w hSw; (try dsimp only at hSw); go_simp <;> with_reducible rfl)
        try simp only [Act.put, List.setIfInBounds_toArray, List.set_cons_zero, List.set_cons_succ]
        refine takeD (i := 15) (d := some 151) (v := ?vf15) rfl rfl (by kernel_rfl) (by kernel_rfl) (by kernel_rfl) (fun _ _ _ h => h) (Or.inl ⟨by rfl, ?hyf15⟩) (by assumption) ?_
        case hyf15 => (intro w hSw; (try dsimp only at hSw); go_simp <;> with_reducible rfl)
        try simp only [Act.put, List.setIfInBounds_toArray, List.set_cons_zero, List.set_cons_succ]
        refine takeD (i := 16) (d := some 152) (v := ?vf16) rfl rfl (by kernel_rfl) (by kernel_rfl) (by kernel_rfl) (fun _ _ _ h => h) (Or.inl ⟨by rfl, ?hyf16⟩) (by assumption) ?_
        case hyf16 => (intro w hSw; (try dsimp only at hSw); go_simp <;> with_reducible rfl)
        try simp only [Act.put, List.setIfInBounds_toArray, List.set_cons_zero, List.set_cons_succ]
        refine takeD (i := 17) (d := some 153) (v := ?vf17) rfl rfl (by kernel_rfl) (by kernel_rfl) (by kernel_rfl) (fun _ _ _ h => h) (Or.inl ⟨by rfl, ?hyf17⟩) (by assumption) ?_
        case hyf17 => (intro w hSw; (try dsimp only at hSw); go_simp <;> with_reducible rfl)
        try simp only [Act.put, List.setIfInBounds_toArray, List.set_cons_zero, List.set_cons_succ]
        refine takeD (i := 18) (d := some 154) (v := ?vf18) rfl rfl (by kernel_rfl) (by kernel_rfl) (by kernel_rfl) (fun _ _ _ h => h) (Or.inl ⟨by rfl, ?hyf18⟩) (by assumption) ?_
        case hyf18 => (intro w hSw; (try dsimp only at hSw); go_simp <;> with_reducible rfl)
        try simp only [Act.put, List.setIfInBounds_toArray, List.set_cons_zero, List.set_cons_succ]
        refine takeD (i := 19) (d := some 155) (v := ?vf19) rfl rfl (by kernel_rfl) (by kernel_rfl) (by kernel_rfl) (fun _ _ _ h => h) (Or.inl ⟨by rfl, ?hyf19⟩) (by assumption) ?_
        case hyf19 => (intro w hSw; (try dsimp only at hSw); go_simp <;> with_reducible rfl)
        try simp only [Act.put, List.setIfInBounds_toArray, List.set_cons_zero, List.set_cons_succ]
        refine takeD (i := 20) (d := some 156) (v := ?vf20) rfl rfl (by kernel_rfl) (by kernel_rfl) (by kernel_rfl) (fun _ _ _ h => h) (Or.inl ⟨by rfl, ?hyf20⟩) (by assumption) ?_
        case hyf20 => (intro w hSw; (try dsimp only at hSw); go_simp <;> with_reducible rfl)
        try simp only [Act.put, List.setIfInBounds_toArray, List.set_cons_zero, List.set_cons_succ]
        refine wpAnyH_ready (rs := [21]) (by kernel_rfl) (by simp) ?_
        refine (AllReadyH.cons rfl (fun K hK => ?_) AllReadyH.nil)
        rw [if_pos (by rfl)]
        go_simp
        refine Calls.mono (s4 _) ?_
        rintro e wqf21 ⟨gq, cq, rfl, hgl, hcq, q0, q1, q2, hqf21⟩
        have hBf21 : Below wr.heap.size wr wqf21 := bl_then hBdf hqf21
        go_wp2_with fail
        refine hK.out _ _ hBf21 (fun hHeld => ?_)
        clear hK K
        try simp only [Act.put, List.setIfInBounds_toArray, List.set_cons_zero, List.set_cons_succ]
        refine wpAnyH_ready (rs := [22]) (by kernel_rfl) (by simp) ?_
        refine (AllReadyH.cons rfl (fun K hK => ?_) AllReadyH.nil)
        rw [if_pos (by rfl)]
        go_wp2_with fail
        refine hK.out _ _ hBf21 (fun hHeld => ?_)
        clear hK K
        try simp only [Act.put, List.setIfInBounds_toArray, List.set_cons_zero, List.set_cons_succ]
        refine wpAnyH_ready (rs := [23]) (by kernel_rfl) (by simp) ?_
        refine (AllReadyH.cons rfl (fun K hK => ?_) AllReadyH.nil)
        rw [if_pos (by rfl)]
        go_wp2_with fail
        refine hK.out _ _ hBf21 (fun hHeld => ?_)
        clear hK K
        try simp only [Act.put, List.setIfInBounds_toArray, List.set_cons_zero, List.set_cons_succ]
        refine wpAnyH_ready (rs := [24]) (by kernel_rfl) (by simp) ?_
        refine (AllReadyH.cons rfl (fun K hK => ?_) AllReadyH.nil)
        rw [if_pos (by rfl)]
        go_wp2_with fail
        refine hK.out _ _ hBf21 (fun hHeld => ?_)
        clear hK K
        try simp only [Act.put, List.setIfInBounds_toArray, List.set_cons_zero, List.set_cons_succ]
        refine wpAnyH_ready (rs := [25]) (by kernel_rfl) (by simp) ?_
        refine (AllReadyH.cons rfl (fun K hK => ?_) AllReadyH.nil)
        rw [if_pos (by rfl)]
        go_wp2_with fail
        refine hK.out _ _ hBf21 (fun hHeld => ?_)
        clear hK K
        try simp only [Act.put, List.setIfInBounds_toArray, List.set_cons_zero, List.set_cons_succ]
        refine wpAnyH_ready (rs := [26]) (by kernel_rfl) (by simp) ?_
        refine (AllReadyH.cons rfl (fun K hK => ?_) AllReadyH.nil)
        rw [if_pos (by rfl)]
        go_wp2_with fail
        refine hK.out _ _ hBf21 (fun hHeld => ?_)
        clear hK K
        try simp only [Act.put, List.setIfInBounds_toArray, List.set_cons_zero, List.set_cons_succ]
        refine wpAnyH_ready (rs := [27]) (by kernel_rfl) (by simp) ?_
        refine (AllReadyH.cons rfl (fun K hK => ?_) AllReadyH.nil)
        rw [if_pos (by rfl)]
        go_wp2_with fail
        refine hK.out _ _ hBf21 (fun hHeld => ?_)
        clear hK K
        try simp only [Act.put, List.setIfInBounds_toArray, List.set_cons_zero, List.set_cons_succ]
        refine wpAnyH_done (by kernel_rfl) ?_ _
        refine NoPanic.normal ?_
        -- behind: hBf21
        go_wp2_with fail
        go_ret
        exact ⟨rfl, bl_then HB.out (by assumption)⟩
  · have hz0 : kidC z x y ≠ 0 := by
      unfold kidC
      cases hr : refB z x y
      · simp
      · rw [hr] at hk
        simp at hk
        simp [hk]
    have s1 : ∀ w, Calls Try.prog 17 #[refV z x y] w fun e w' => ∃ a n c, e = .returned (.agg #[.int .i64 (kidC z x y), .slice a n c]) ∧ Below w.heap.size w w' := fun w => (spec_KidsOf_any z x y w).mono fun e w' ⟨v, he, ho, hb⟩ => by
      obtain ⟨a, c, hv, _⟩ := ho.pts
      subst hv
      exact ⟨a, _, c, he, hb⟩
    generalize kidC z x y = kc at *
    have hfd : ∀ (a : Option Addr) (n c : Nat) (w : World), (Instr.field 29 (.agg #[.int .i64 kc, .slice a n c]) 0).run Try.prog w = .ok (.int .i64 kc) w := fun _ _ _ _ => by kernel_rfl
    clear k0 k1 dd1 hk HV HIc
    have k0 := dd0 w11 (Below.refl _ _)
    go_wp2_with fail
    go_region_held3 (fun W' => Below w11.heap.size w11 W') ((repeat (first | exact Below.refl _ _ | assumption | refine Below.drew ?_ | refine bl_alloc ?_ _ | refine bl_then ?_ (by assumption) | refine Below.setCell ?_ (by first | omega | (simp; done) | (simp; omega)) _ | refine bl_store ?_ ?_ _ _)))
      (first
        | (go_at_call 17; refine (s1 _).mono ?_; rintro e w' ⟨qa, qn, qc, rfl, hb⟩)
        | fail)
    go_wp2_with fail
    go_ret
    exact ⟨rfl, bl_then HBc.out (by assumption)⟩
end Go.Proofs.Yteeijaacecicdaa
