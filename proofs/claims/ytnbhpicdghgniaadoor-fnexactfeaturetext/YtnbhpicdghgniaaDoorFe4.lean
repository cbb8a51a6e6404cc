/- FeatureFault of the program answers the fault of a feature. -/
import Derived.Test.YtnbhpicdghgniaaDoorFe3
import Derived.Test.YtnbhpicdghgniaaDoorTake
namespace Go.Proofs.YtnbhpicdghgniaaDoor
open Go.RowKit
set_option linter.unusedSimpArgs false
set_option linter.unusedVariables false
set_option maxRecDepth 100000

set_option maxHeartbeats 4000000 in
theorem FeatureFault_1 (id la wi : Int) (a : Option Addr) (n cap : Nat) (X Y : Nat → Int) (lab : ByteArray) (pr : Int) (w : World) (hpt : IsPts w a n X Y) (hl : lab.size ≤ 1048576) (hn : n ≤ 1048576) :
    Calls Tryd.prog 20 #[.agg #[.int .i64 id, .int .i64 la, .int .i64 1, .int .i64 wi, .slice a n cap, .string lab, .int .i64 pr]] w fun e w' => e = .returned (.int .i64 (featC id la 1 wi n X Y lab pr)) ∧ Below w.heap.size w w' := by
  have HP : Hid (IsPts w a n X Y) := hpt
  clear hpt
  go_enter Tryd.func20, Tryd.ntmps20
  go_wp2_with fail
  generalize hW : (w.alloc _ : World) = W
  have hB0 : Below w.heap.size w W := by subst hW; (repeat (first | exact Below.refl _ _ | assumption | refine Below.drew ?_ | refine bl_alloc ?_ _ | refine bl_then ?_ (by assumption) | refine Below.setCell ?_ (by first | omega | (simp; done) | (simp; omega)) _ | refine bl_store ?_ ?_ _ _))
  have c0 : ∀ W', Below W.heap.size W W' → W'.cell? ⟨w.heap.size, 0, none⟩ = some (.int .i64 id) := fun W' h => by
    rw [h.cell (by subst hW; simp)]; subst hW; simp [go_sem]
  have c1 : ∀ W', Below W.heap.size W W' → W'.cell? ⟨w.heap.size, 1, none⟩ = some (.int .i64 la) := fun W' h => by
    rw [h.cell (by subst hW; simp)]; subst hW; simp [go_sem]
  have c2 : ∀ W', Below W.heap.size W W' → W'.cell? ⟨w.heap.size, 2, none⟩ = some (.int .i64 1) := fun W' h => by
    rw [h.cell (by subst hW; simp)]; subst hW; simp [go_sem]
  have c3 : ∀ W', Below W.heap.size W W' → W'.cell? ⟨w.heap.size, 3, none⟩ = some (.int .i64 wi) := fun W' h => by
    rw [h.cell (by subst hW; simp)]; subst hW; simp [go_sem]
  have c4 : ∀ W', Below W.heap.size W W' → W'.cell? ⟨w.heap.size, 4, none⟩ = some (.slice a n cap) := fun W' h => by
    rw [h.cell (by subst hW; simp)]; subst hW; simp [go_sem]
  have c5 : ∀ W', Below W.heap.size W W' → W'.cell? ⟨w.heap.size, 5, none⟩ = some (.string lab) := fun W' h => by
    rw [h.cell (by subst hW; simp)]; subst hW; simp [go_sem]
  have c6 : ∀ W', Below W.heap.size W W' → W'.cell? ⟨w.heap.size, 6, none⟩ = some (.int .i64 pr) := fun W' h => by
    rw [h.cell (by subst hW; simp)]; subst hW; simp [go_sem]
  clear hW
  have HB0 : Hid (Below w.heap.size w W) := hB0
  clear hB0
  refine (kindOf_1 _).mono ?_
  rintro e w1 ⟨rfl, hb1⟩
  have hB1 : Below W.heap.size W w1 := hb1
  clear hb1
  cases e0 : inB id 1 999
  · have hz : Hid (featC id la 1 wi n X Y lab pr = 3) := by show _ = _; simp [featC, rngB, e0]
    go_wp2_with (go_at_call 37; refine (isWithin_eq _ _ _ _).mono ?_; rintro e w' ⟨rfl, rfl⟩)
    go_ret
    exact ⟨ret_int hz.out.symm, bl_then HB0.out hB1⟩
  cases e1 : inB la 0 9
  · have hz : Hid (featC id la 1 wi n X Y lab pr = 3) := by show _ = _; simp [featC, rngB, e0, e1]
    go_wp2_with (go_at_call 37; refine (isWithin_eq _ _ _ _).mono ?_; rintro e w' ⟨rfl, rfl⟩)
    go_ret
    exact ⟨ret_int hz.out.symm, bl_then HB0.out hB1⟩
  cases e3 : inB wi 0 3
  · have hz : Hid (featC id la 1 wi n X Y lab pr = 3) := by show _ = _; simp [featC, rngB, e0, e1, e3]
    go_wp2_with (go_at_call 37; refine (isWithin_eq _ _ _ _).mono ?_; rintro e w' ⟨rfl, rfl⟩)
    go_ret
    exact ⟨ret_int hz.out.symm, bl_then HB0.out hB1⟩
  cases e4 : inB pr 0 9
  · have hz : Hid (featC id la 1 wi n X Y lab pr = 3) := by show _ = _; simp [featC, rngB, e0, e1, e3, e4]
    go_wp2_with (go_at_call 37; refine (isWithin_eq _ _ _ _).mono ?_; rintro e w' ⟨rfl, rfl⟩)
    go_ret
    exact ⟨ret_int hz.out.symm, bl_then HB0.out hB1⟩
  have hr : Hid (rngB id la 1 wi pr = true) := by show _ = _; simp only [rngB, e0, e1, e3, e4]; decide
  go_wp2_with (go_at_call 37; refine (isWithin_eq _ _ _ _).mono ?_; rintro e w' ⟨rfl, rfl⟩)
  refine (tellKind_1 _).mono ?_
  rintro e w2 ⟨rfl, hb2⟩
  have hB2 : Below W.heap.size W w2 := by (repeat (first | exact Below.refl _ _ | assumption | refine Below.drew ?_ | refine bl_alloc ?_ _ | refine bl_then ?_ (by assumption) | refine Below.setCell ?_ (by first | omega | (simp; done) | (simp; omega)) _ | refine bl_store ?_ ?_ _ _))
  clear hb2 hB1 c0 c1 c2 c3 c6
  go_wp2_with fail
  by_cases hs1 : (n : Int) < 1
  · have hd : decide ((n : Int) < 1) = true := decide_eq_true hs1
    have hz : Hid (featC id la 1 wi n X Y lab pr = 2) := by
      show _ = _
      have : sizeB 1 n = false := by simp [sizeB, inB]; omega
      simp [featC, hr.out, this]
    refine wp_region_noPanic ?_
    refine wp_region_held_drew (S := fun W' => Below W.heap.size W W') (by kernel_rfl) (by (repeat (first | exact Below.refl _ _ | assumption | refine Below.drew ?_ | refine bl_alloc ?_ _ | refine bl_then ?_ (by assumption) | refine Below.setCell ?_ (by first | omega | (simp; done) | (simp; omega)) _ | refine bl_store ?_ ?_ _ _))) (fun hHeld => ?_)
    refine takeD (i := 0) (d := some 42) (v := ?v0) rfl rfl (by kernel_rfl) (by kernel_rfl) (by kernel_rfl) (fun _ _ _ h => h) (Or.inl ⟨by rfl, ?hy0⟩) (by assumption) ?_
    case hy0 => (intro w hSw; (try dsimp only at hSw); go_simp <;> with_reducible rfl)
    simp only [Act.put, List.setIfInBounds_toArray, List.set_cons_zero, List.set_cons_succ]
    refine takeD (i := 1) (d := some 43) (v := ?v1) rfl rfl (by kernel_rfl) (by kernel_rfl) (by kernel_rfl) (fun _ _ _ h => h) (Or.inl ⟨by rfl, ?hy1⟩) (by assumption) ?_
    case hy1 => (intro w hSw; (try dsimp only at hSw); go_simp <;> with_reducible rfl)
    simp only [Act.put, List.setIfInBounds_toArray, List.set_cons_zero, List.set_cons_succ]
    refine takeD (i := 2) (d := some 44) (v := ?v2) rfl rfl (by kernel_rfl) (by kernel_rfl) (by kernel_rfl) (fun _ _ _ h => h) (Or.inl ⟨by rfl, ?hy2⟩) (by assumption) ?_
    case hy2 => (intro w hSw; (try dsimp only at hSw); go_simp <;> with_reducible rfl)
    simp only [Act.put, List.setIfInBounds_toArray, List.set_cons_zero, List.set_cons_succ]
    refine takeD (i := 3) (d := some 45) (v := ?v3) rfl rfl (by kernel_rfl) (by kernel_rfl) (by kernel_rfl) (fun _ _ _ h => h) (Or.inl ⟨by rfl, ?hy3⟩) (by assumption) ?_
    case hy3 => (intro w hSw; (try dsimp only at hSw); go_simp <;> with_reducible rfl)
    simp only [Act.put, List.setIfInBounds_toArray, List.set_cons_zero, List.set_cons_succ]
    refine wpAnyH_ready (rs := [4]) (by kernel_rfl) (by simp) ?_
    refine AllReadyH.cons rfl (fun K hK => ?_) AllReadyH.nil
    go_simp
    refine (leastPoints_1 _).mono ?_
    rintro e w' ⟨rfl, hb⟩
    go_wp2_with fail
    refine hK.out _ _ (by (repeat (first | exact Below.refl _ _ | assumption | refine Below.drew ?_ | refine bl_alloc ?_ _ | refine bl_then ?_ (by assumption) | refine Below.setCell ?_ (by first | omega | (simp; done) | (simp; omega)) _ | refine bl_store ?_ ?_ _ _))) (fun hHeld => ?_)
    clear hK K
    try simp only [Act.put, List.setIfInBounds_toArray, List.set_cons_zero, List.set_cons_succ]
    refine takeD (i := 5) (d := some 47) (v := ?v5) rfl rfl (by kernel_rfl) (by kernel_rfl) (by kernel_rfl) (fun _ _ _ h => h) (Or.inl ⟨by rfl, ?hy5⟩) (by assumption) ?_
    case hy5 => (intro w hSw; (try dsimp only at hSw); go_simp <;> with_reducible rfl)
    simp only [Act.put, List.setIfInBounds_toArray, List.set_cons_zero, List.set_cons_succ]
    refine takeD (i := 6) (d := some 48) (v := ?v6) rfl rfl (by kernel_rfl) (by kernel_rfl) (by kernel_rfl) (fun _ _ _ h => h) (Or.inl ⟨by rfl, ?hy6⟩) (by assumption) ?_
    case hy6 => (intro w hSw; (try dsimp only at hSw); go_simp <;> with_reducible rfl)
    simp only [Act.put, List.setIfInBounds_toArray, List.set_cons_zero, List.set_cons_succ]
    refine passD (i := 7) (d := some 49) rfl rfl (by kernel_rfl) (by kernel_rfl) (by kernel_rfl) (fun _ _ _ h => h) (by rfl) (by assumption) ?_
    simp only [Act.put, List.setIfInBounds_toArray, List.set_cons_zero, List.set_cons_succ]
    refine passD (i := 8) (d := some 50) rfl rfl (by kernel_rfl) (by kernel_rfl) (by kernel_rfl) (fun _ _ _ h => h) (by rfl) (by assumption) ?_
    simp only [Act.put, List.setIfInBounds_toArray, List.set_cons_zero, List.set_cons_succ]
    refine passD (i := 9) (d := some 51) rfl rfl (by kernel_rfl) (by kernel_rfl) (by kernel_rfl) (fun _ _ _ h => h) (by rfl) (by assumption) ?_
    simp only [Act.put, List.setIfInBounds_toArray, List.set_cons_zero, List.set_cons_succ]
    refine passD (i := 10) (d := some 52) rfl rfl (by kernel_rfl) (by kernel_rfl) (by kernel_rfl) (fun _ _ _ h => h) (by rfl) (by assumption) ?_
    simp only [Act.put, List.setIfInBounds_toArray, List.set_cons_zero, List.set_cons_succ]
    refine passD (i := 11) (d := some 53) rfl rfl (by kernel_rfl) (by kernel_rfl) (by kernel_rfl) (fun _ _ _ h => h) (by rfl) (by assumption) ?_
    simp only [Act.put, List.setIfInBounds_toArray, List.set_cons_zero, List.set_cons_succ]
    refine takeD (i := 12) (d := some 54) (v := ?v12) rfl rfl (by kernel_rfl) (by kernel_rfl) (by kernel_rfl) (fun _ _ _ h => h) (Or.inl ⟨by rfl, ?hy12⟩) (by assumption) ?_
    case hy12 => (intro w hSw; (try dsimp only at hSw); go_simp <;> with_reducible rfl)
    simp only [Act.put, List.setIfInBounds_toArray, List.set_cons_zero, List.set_cons_succ]
    refine wpAnyH_done (by kernel_rfl) ?_ _
    refine NoPanic.normal ?_
    go_wp2
    go_ret
    exact ⟨ret_int hz.out.symm, bl_then HB0.out (by assumption)⟩
  have hd1 : decide ((n : Int) < 1) = false := decide_eq_false hs1
  have HS1 : Hid (¬ (n : Int) < 1) := hs1
  clear hs1
  by_cases hs2 : (1 : Int) < n
  · have hd : decide ((1 : Int) < n) = true := decide_eq_true hs2
    have hz : Hid (featC id la 1 wi n X Y lab pr = 2) := by
      show _ = _
      have : sizeB 1 n = false := by simp [sizeB, inB]; omega
      simp [featC, hr.out, this]
    go_region_held3 (fun W' => Below W.heap.size W W') ((repeat (first | exact Below.refl _ _ | assumption | refine Below.drew ?_ | refine bl_alloc ?_ _ | refine bl_then ?_ (by assumption) | refine Below.setCell ?_ (by first | omega | (simp; done) | (simp; omega)) _ | refine bl_store ?_ ?_ _ _)))
      (first | (go_at_call 38; refine (leastPoints_1 _).mono ?_; rintro e w' ⟨rfl, hb⟩))
    go_wp2
    go_ret
    exact ⟨ret_int hz.out.symm, bl_then HB0.out (by assumption)⟩
  have hd2 : decide ((1 : Int) < n) = false := decide_eq_false hs2
  have e5 : Hid (sizeB 1 n = true) := by show _ = _; have := HS1.out; simp [sizeB, inB]; omega
  have HS2 : Hid (¬ (1 : Int) < n) := hs2
  clear hs2
  go_region_held3 (fun W' => Below W.heap.size W W') ((repeat (first | exact Below.refl _ _ | assumption | refine Below.drew ?_ | refine bl_alloc ?_ _ | refine bl_then ?_ (by assumption) | refine Below.setCell ?_ (by first | omega | (simp; done) | (simp; omega)) _ | refine bl_store ?_ ?_ _ _)))
    (first | (go_at_call 38; refine (leastPoints_1 _).mono ?_; rintro e w' ⟨rfl, hb⟩))
  go_wp2
  go_loopw [58] (fun i wr => ∃ k : Nat, k ≤ n ∧ i = .int .i64 k ∧ (∀ j, j < k → inW (X j) (Y j) = true) ∧ Below W.heap.size W wr) (fun i _ => n - (intOf i).toNat)
  case atStart => exact ⟨0, by omega, rfl, by omega, by assumption⟩
  case round =>
    obtain ⟨k, hk, rfl, hA, hB⟩ := hrel
    have HA : Hid (∀ j, j < k → inW (X j) (Y j) = true) := hA
    have HB : Hid (Below w.heap.size w wr) := bl_then HB0.out hB
    have KB : Hid (Below W.heap.size W wr) := hB
    clear hA
    by_cases hlt : k < n
    · rcases HP.out with hz | ⟨b, off, rfl, hbl, hpt⟩
      · omega
      have hi : (k : Int) < (n : Int) := by omega
      have hi0 : (0 : Int) ≤ (k : Int) := by omega
      obtain ⟨dx, dy⟩ := hpt.below HB.out hbl k hlt
      clear c4 c5 hB hpt hd1 hd2
      cases hq : inW (X k) (Y k)
      · have hz : Hid (featC id la 1 wi n X Y lab pr = 3) := by show _ = _; simp [featC, hr.out, e5.out, ptsIn_bad k hlt hq]
        go_wp2_with (go_at_call 39; refine (isInWorld_any _ _ _).mono ?_; rintro e w' ⟨rfl, hb⟩)
        go_ret
        exact ⟨ret_int hz.out.symm, by have HB' := HB.out; (repeat (first | exact Below.refl _ _ | assumption | refine Below.drew ?_ | refine bl_alloc ?_ _ | refine bl_then ?_ (by assumption) | refine Below.setCell ?_ (by first | omega | (simp; done) | (simp; omega)) _ | refine bl_store ?_ ?_ _ _))⟩
      · have HI : Hid (inW (X k) (Y k) = true) := hq
        go_wp2_with (go_at_call 39; refine (isInWorld_any _ _ _).mono ?_; rintro e w' ⟨rfl, hb⟩)
        go_roundw
        case rel => exact ⟨k + 1, by omega, by go_num, fun j hj => by
            by_cases e : j = k
            · rw [e]; exact HI.out
            · exact HA.out j (by omega), by have KB' := KB.out; (repeat (first | exact Below.refl _ _ | assumption | refine Below.drew ?_ | refine bl_alloc ?_ _ | refine bl_then ?_ (by assumption) | refine Below.setCell ?_ (by first | omega | (simp; done) | (simp; omega)) _ | refine bl_store ?_ ?_ _ _))⟩
        case measure => simp [intOf]; omega
    · have hz : Hid (featC id la 1 wi n X Y lab pr = if labB lab = true then 0 else 5) := by
        show _ = _
        have : ptsIn n X Y = true := decide_eq_true (fun i hi => HA.out i (by omega))
        simp [featC, hr.out, e5.out, this]
      have d5 := c5 wr hB
      clear c4 c5 hd1 hd2
      cases el : labB lab
      all_goals
        go_wp2_with (go_at_call 40; refine (isLabel_any _ _ hl).mono ?_; rintro e w' ⟨rfl, hb⟩)
        go_ret
        exact ⟨ret_int (by rw [hz.out]; simp [el]), bl_then HB.out hb⟩
set_option maxHeartbeats 4000000 in
theorem FeatureFault_2 (id la wi : Int) (a : Option Addr) (n cap : Nat) (X Y : Nat → Int) (lab : ByteArray) (pr : Int) (w : World) (hpt : IsPts w a n X Y) (hl : lab.size ≤ 1048576) (hn : n ≤ 1048576) :
    Calls Tryd.prog 20 #[.agg #[.int .i64 id, .int .i64 la, .int .i64 2, .int .i64 wi, .slice a n cap, .string lab, .int .i64 pr]] w fun e w' => e = .returned (.int .i64 (featC id la 2 wi n X Y lab pr)) ∧ Below w.heap.size w w' := by
  have HP : Hid (IsPts w a n X Y) := hpt
  clear hpt
  go_enter Tryd.func20, Tryd.ntmps20
  go_wp2_with fail
  generalize hW : (w.alloc _ : World) = W
  have hB0 : Below w.heap.size w W := by subst hW; (repeat (first | exact Below.refl _ _ | assumption | refine Below.drew ?_ | refine bl_alloc ?_ _ | refine bl_then ?_ (by assumption) | refine Below.setCell ?_ (by first | omega | (simp; done) | (simp; omega)) _ | refine bl_store ?_ ?_ _ _))
  have c0 : ∀ W', Below W.heap.size W W' → W'.cell? ⟨w.heap.size, 0, none⟩ = some (.int .i64 id) := fun W' h => by
    rw [h.cell (by subst hW; simp)]; subst hW; simp [go_sem]
  have c1 : ∀ W', Below W.heap.size W W' → W'.cell? ⟨w.heap.size, 1, none⟩ = some (.int .i64 la) := fun W' h => by
    rw [h.cell (by subst hW; simp)]; subst hW; simp [go_sem]
  have c2 : ∀ W', Below W.heap.size W W' → W'.cell? ⟨w.heap.size, 2, none⟩ = some (.int .i64 2) := fun W' h => by
    rw [h.cell (by subst hW; simp)]; subst hW; simp [go_sem]
  have c3 : ∀ W', Below W.heap.size W W' → W'.cell? ⟨w.heap.size, 3, none⟩ = some (.int .i64 wi) := fun W' h => by
    rw [h.cell (by subst hW; simp)]; subst hW; simp [go_sem]
  have c4 : ∀ W', Below W.heap.size W W' → W'.cell? ⟨w.heap.size, 4, none⟩ = some (.slice a n cap) := fun W' h => by
    rw [h.cell (by subst hW; simp)]; subst hW; simp [go_sem]
  have c5 : ∀ W', Below W.heap.size W W' → W'.cell? ⟨w.heap.size, 5, none⟩ = some (.string lab) := fun W' h => by
    rw [h.cell (by subst hW; simp)]; subst hW; simp [go_sem]
  have c6 : ∀ W', Below W.heap.size W W' → W'.cell? ⟨w.heap.size, 6, none⟩ = some (.int .i64 pr) := fun W' h => by
    rw [h.cell (by subst hW; simp)]; subst hW; simp [go_sem]
  clear hW
  have HB0 : Hid (Below w.heap.size w W) := hB0
  clear hB0
  refine (kindOf_2 _).mono ?_
  rintro e w1 ⟨rfl, hb1⟩
  have hB1 : Below W.heap.size W w1 := hb1
  clear hb1
  cases e0 : inB id 1 999
  · have hz : Hid (featC id la 2 wi n X Y lab pr = 3) := by show _ = _; simp [featC, rngB, e0]
    go_wp2_with (go_at_call 37; refine (isWithin_eq _ _ _ _).mono ?_; rintro e w' ⟨rfl, rfl⟩)
    go_ret
    exact ⟨ret_int hz.out.symm, bl_then HB0.out hB1⟩
  cases e1 : inB la 0 9
  · have hz : Hid (featC id la 2 wi n X Y lab pr = 3) := by show _ = _; simp [featC, rngB, e0, e1]
    go_wp2_with (go_at_call 37; refine (isWithin_eq _ _ _ _).mono ?_; rintro e w' ⟨rfl, rfl⟩)
    go_ret
    exact ⟨ret_int hz.out.symm, bl_then HB0.out hB1⟩
  cases e3 : inB wi 0 3
  · have hz : Hid (featC id la 2 wi n X Y lab pr = 3) := by show _ = _; simp [featC, rngB, e0, e1, e3]
    go_wp2_with (go_at_call 37; refine (isWithin_eq _ _ _ _).mono ?_; rintro e w' ⟨rfl, rfl⟩)
    go_ret
    exact ⟨ret_int hz.out.symm, bl_then HB0.out hB1⟩
  cases e4 : inB pr 0 9
  · have hz : Hid (featC id la 2 wi n X Y lab pr = 3) := by show _ = _; simp [featC, rngB, e0, e1, e3, e4]
    go_wp2_with (go_at_call 37; refine (isWithin_eq _ _ _ _).mono ?_; rintro e w' ⟨rfl, rfl⟩)
    go_ret
    exact ⟨ret_int hz.out.symm, bl_then HB0.out hB1⟩
  have hr : Hid (rngB id la 2 wi pr = true) := by show _ = _; simp only [rngB, e0, e1, e3, e4]; decide
  go_wp2_with (go_at_call 37; refine (isWithin_eq _ _ _ _).mono ?_; rintro e w' ⟨rfl, rfl⟩)
  refine (tellKind_2 _).mono ?_
  rintro e w2 ⟨rfl, hb2⟩
  have hB2 : Below W.heap.size W w2 := by (repeat (first | exact Below.refl _ _ | assumption | refine Below.drew ?_ | refine bl_alloc ?_ _ | refine bl_then ?_ (by assumption) | refine Below.setCell ?_ (by first | omega | (simp; done) | (simp; omega)) _ | refine bl_store ?_ ?_ _ _))
  clear hb2 hB1 c0 c1 c2 c3 c6
  go_wp2_with fail
  by_cases hs1 : (n : Int) < 2
  · have hd : decide ((n : Int) < 2) = true := decide_eq_true hs1
    have hz : Hid (featC id la 2 wi n X Y lab pr = 2) := by
      show _ = _
      have : sizeB 2 n = false := by simp [sizeB, inB]; omega
      simp [featC, hr.out, this]
    refine wp_region_noPanic ?_
    refine wp_region_held_drew (S := fun W' => Below W.heap.size W W') (by kernel_rfl) (by (repeat (first | exact Below.refl _ _ | assumption | refine Below.drew ?_ | refine bl_alloc ?_ _ | refine bl_then ?_ (by assumption) | refine Below.setCell ?_ (by first | omega | (simp; done) | (simp; omega)) _ | refine bl_store ?_ ?_ _ _))) (fun hHeld => ?_)
    refine takeD (i := 0) (d := some 42) (v := ?v0) rfl rfl (by kernel_rfl) (by kernel_rfl) (by kernel_rfl) (fun _ _ _ h => h) (Or.inl ⟨by rfl, ?hy0⟩) (by assumption) ?_
    case hy0 => (intro w hSw; (try dsimp only at hSw); go_simp <;> with_reducible rfl)
    simp only [Act.put, List.setIfInBounds_toArray, List.set_cons_zero, List.set_cons_succ]
    refine takeD (i := 1) (d := some 43) (v := ?v1) rfl rfl (by kernel_rfl) (by kernel_rfl) (by kernel_rfl) (fun _ _ _ h => h) (Or.inl ⟨by rfl, ?hy1⟩) (by assumption) ?_
    case hy1 => (intro w hSw; (try dsimp only at hSw); go_simp <;> with_reducible rfl)
    simp only [Act.put, List.setIfInBounds_toArray, List.set_cons_zero, List.set_cons_succ]
    refine takeD (i := 2) (d := some 44) (v := ?v2) rfl rfl (by kernel_rfl) (by kernel_rfl) (by kernel_rfl) (fun _ _ _ h => h) (Or.inl ⟨by rfl, ?hy2⟩) (by assumption) ?_
    case hy2 => (intro w hSw; (try dsimp only at hSw); go_simp <;> with_reducible rfl)
    simp only [Act.put, List.setIfInBounds_toArray, List.set_cons_zero, List.set_cons_succ]
    refine takeD (i := 3) (d := some 45) (v := ?v3) rfl rfl (by kernel_rfl) (by kernel_rfl) (by kernel_rfl) (fun _ _ _ h => h) (Or.inl ⟨by rfl, ?hy3⟩) (by assumption) ?_
    case hy3 => (intro w hSw; (try dsimp only at hSw); go_simp <;> with_reducible rfl)
    simp only [Act.put, List.setIfInBounds_toArray, List.set_cons_zero, List.set_cons_succ]
    refine wpAnyH_ready (rs := [4]) (by kernel_rfl) (by simp) ?_
    refine AllReadyH.cons rfl (fun K hK => ?_) AllReadyH.nil
    go_simp
    refine (leastPoints_2 _).mono ?_
    rintro e w' ⟨rfl, hb⟩
    go_wp2_with fail
    refine hK.out _ _ (by (repeat (first | exact Below.refl _ _ | assumption | refine Below.drew ?_ | refine bl_alloc ?_ _ | refine bl_then ?_ (by assumption) | refine Below.setCell ?_ (by first | omega | (simp; done) | (simp; omega)) _ | refine bl_store ?_ ?_ _ _))) (fun hHeld => ?_)
    clear hK K
    try simp only [Act.put, List.setIfInBounds_toArray, List.set_cons_zero, List.set_cons_succ]
    refine takeD (i := 5) (d := some 47) (v := ?v5) rfl rfl (by kernel_rfl) (by kernel_rfl) (by kernel_rfl) (fun _ _ _ h => h) (Or.inl ⟨by rfl, ?hy5⟩) (by assumption) ?_
    case hy5 => (intro w hSw; (try dsimp only at hSw); go_simp <;> with_reducible rfl)
    simp only [Act.put, List.setIfInBounds_toArray, List.set_cons_zero, List.set_cons_succ]
    refine takeD (i := 6) (d := some 48) (v := ?v6) rfl rfl (by kernel_rfl) (by kernel_rfl) (by kernel_rfl) (fun _ _ _ h => h) (Or.inl ⟨by rfl, ?hy6⟩) (by assumption) ?_
    case hy6 => (intro w hSw; (try dsimp only at hSw); go_simp <;> with_reducible rfl)
    simp only [Act.put, List.setIfInBounds_toArray, List.set_cons_zero, List.set_cons_succ]
    refine passD (i := 7) (d := some 49) rfl rfl (by kernel_rfl) (by kernel_rfl) (by kernel_rfl) (fun _ _ _ h => h) (by rfl) (by assumption) ?_
    simp only [Act.put, List.setIfInBounds_toArray, List.set_cons_zero, List.set_cons_succ]
    refine passD (i := 8) (d := some 50) rfl rfl (by kernel_rfl) (by kernel_rfl) (by kernel_rfl) (fun _ _ _ h => h) (by rfl) (by assumption) ?_
    simp only [Act.put, List.setIfInBounds_toArray, List.set_cons_zero, List.set_cons_succ]
    refine passD (i := 9) (d := some 51) rfl rfl (by kernel_rfl) (by kernel_rfl) (by kernel_rfl) (fun _ _ _ h => h) (by rfl) (by assumption) ?_
    simp only [Act.put, List.setIfInBounds_toArray, List.set_cons_zero, List.set_cons_succ]
    refine passD (i := 10) (d := some 52) rfl rfl (by kernel_rfl) (by kernel_rfl) (by kernel_rfl) (fun _ _ _ h => h) (by rfl) (by assumption) ?_
    simp only [Act.put, List.setIfInBounds_toArray, List.set_cons_zero, List.set_cons_succ]
    refine passD (i := 11) (d := some 53) rfl rfl (by kernel_rfl) (by kernel_rfl) (by kernel_rfl) (fun _ _ _ h => h) (by rfl) (by assumption) ?_
    simp only [Act.put, List.setIfInBounds_toArray, List.set_cons_zero, List.set_cons_succ]
    refine takeD (i := 12) (d := some 54) (v := ?v12) rfl rfl (by kernel_rfl) (by kernel_rfl) (by kernel_rfl) (fun _ _ _ h => h) (Or.inl ⟨by rfl, ?hy12⟩) (by assumption) ?_
    case hy12 => (intro w hSw; (try dsimp only at hSw); go_simp <;> with_reducible rfl)
    simp only [Act.put, List.setIfInBounds_toArray, List.set_cons_zero, List.set_cons_succ]
    refine wpAnyH_done (by kernel_rfl) ?_ _
    refine NoPanic.normal ?_
    go_wp2
    go_ret
    exact ⟨ret_int hz.out.symm, bl_then HB0.out (by assumption)⟩
  have hd1 : decide ((n : Int) < 2) = false := decide_eq_false hs1
  have HS1 : Hid (¬ (n : Int) < 2) := hs1
  clear hs1
  by_cases hs2 : (12 : Int) < n
  · have hd : decide ((12 : Int) < n) = true := decide_eq_true hs2
    have hz : Hid (featC id la 2 wi n X Y lab pr = 2) := by
      show _ = _
      have : sizeB 2 n = false := by simp [sizeB, inB]; omega
      simp [featC, hr.out, this]
    go_region_held3 (fun W' => Below W.heap.size W W') ((repeat (first | exact Below.refl _ _ | assumption | refine Below.drew ?_ | refine bl_alloc ?_ _ | refine bl_then ?_ (by assumption) | refine Below.setCell ?_ (by first | omega | (simp; done) | (simp; omega)) _ | refine bl_store ?_ ?_ _ _)))
      (first | (go_at_call 38; refine (leastPoints_2 _).mono ?_; rintro e w' ⟨rfl, hb⟩))
    go_wp2
    go_ret
    exact ⟨ret_int hz.out.symm, bl_then HB0.out (by assumption)⟩
  have hd2 : decide ((12 : Int) < n) = false := decide_eq_false hs2
  have e5 : Hid (sizeB 2 n = true) := by show _ = _; have := HS1.out; simp [sizeB, inB]; omega
  have HS2 : Hid (¬ (12 : Int) < n) := hs2
  clear hs2
  go_region_held3 (fun W' => Below W.heap.size W W') ((repeat (first | exact Below.refl _ _ | assumption | refine Below.drew ?_ | refine bl_alloc ?_ _ | refine bl_then ?_ (by assumption) | refine Below.setCell ?_ (by first | omega | (simp; done) | (simp; omega)) _ | refine bl_store ?_ ?_ _ _)))
    (first | (go_at_call 38; refine (leastPoints_2 _).mono ?_; rintro e w' ⟨rfl, hb⟩))
  go_wp2
  go_loopw [58] (fun i wr => ∃ k : Nat, k ≤ n ∧ i = .int .i64 k ∧ (∀ j, j < k → inW (X j) (Y j) = true) ∧ Below W.heap.size W wr) (fun i _ => n - (intOf i).toNat)
  case atStart => exact ⟨0, by omega, rfl, by omega, by assumption⟩
  case round =>
    obtain ⟨k, hk, rfl, hA, hB⟩ := hrel
    have HA : Hid (∀ j, j < k → inW (X j) (Y j) = true) := hA
    have HB : Hid (Below w.heap.size w wr) := bl_then HB0.out hB
    have KB : Hid (Below W.heap.size W wr) := hB
    clear hA
    by_cases hlt : k < n
    · rcases HP.out with hz | ⟨b, off, rfl, hbl, hpt⟩
      · omega
      have hi : (k : Int) < (n : Int) := by omega
      have hi0 : (0 : Int) ≤ (k : Int) := by omega
      obtain ⟨dx, dy⟩ := hpt.below HB.out hbl k hlt
      clear c4 c5 hB hpt hd1 hd2
      cases hq : inW (X k) (Y k)
      · have hz : Hid (featC id la 2 wi n X Y lab pr = 3) := by show _ = _; simp [featC, hr.out, e5.out, ptsIn_bad k hlt hq]
        go_wp2_with (go_at_call 39; refine (isInWorld_any _ _ _).mono ?_; rintro e w' ⟨rfl, hb⟩)
        go_ret
        exact ⟨ret_int hz.out.symm, by have HB' := HB.out; (repeat (first | exact Below.refl _ _ | assumption | refine Below.drew ?_ | refine bl_alloc ?_ _ | refine bl_then ?_ (by assumption) | refine Below.setCell ?_ (by first | omega | (simp; done) | (simp; omega)) _ | refine bl_store ?_ ?_ _ _))⟩
      · have HI : Hid (inW (X k) (Y k) = true) := hq
        go_wp2_with (go_at_call 39; refine (isInWorld_any _ _ _).mono ?_; rintro e w' ⟨rfl, hb⟩)
        go_roundw
        case rel => exact ⟨k + 1, by omega, by go_num, fun j hj => by
            by_cases e : j = k
            · rw [e]; exact HI.out
            · exact HA.out j (by omega), by have KB' := KB.out; (repeat (first | exact Below.refl _ _ | assumption | refine Below.drew ?_ | refine bl_alloc ?_ _ | refine bl_then ?_ (by assumption) | refine Below.setCell ?_ (by first | omega | (simp; done) | (simp; omega)) _ | refine bl_store ?_ ?_ _ _))⟩
        case measure => simp [intOf]; omega
    · have hz : Hid (featC id la 2 wi n X Y lab pr = if labB lab = true then 0 else 5) := by
        show _ = _
        have : ptsIn n X Y = true := decide_eq_true (fun i hi => HA.out i (by omega))
        simp [featC, hr.out, e5.out, this]
      have d5 := c5 wr hB
      clear c4 c5 hd1 hd2
      cases el : labB lab
      all_goals
        go_wp2_with (go_at_call 40; refine (isLabel_any _ _ hl).mono ?_; rintro e w' ⟨rfl, hb⟩)
        go_ret
        exact ⟨ret_int (by rw [hz.out]; simp [el]), bl_then HB.out hb⟩
set_option maxHeartbeats 4000000 in
theorem FeatureFault_3 (id la wi : Int) (a : Option Addr) (n cap : Nat) (X Y : Nat → Int) (lab : ByteArray) (pr : Int) (w : World) (hpt : IsPts w a n X Y) (hl : lab.size ≤ 1048576) (hn : n ≤ 1048576) :
    Calls Tryd.prog 20 #[.agg #[.int .i64 id, .int .i64 la, .int .i64 3, .int .i64 wi, .slice a n cap, .string lab, .int .i64 pr]] w fun e w' => e = .returned (.int .i64 (featC id la 3 wi n X Y lab pr)) ∧ Below w.heap.size w w' := by
  have HP : Hid (IsPts w a n X Y) := hpt
  clear hpt
  go_enter Tryd.func20, Tryd.ntmps20
  go_wp2_with fail
  generalize hW : (w.alloc _ : World) = W
  have hB0 : Below w.heap.size w W := by subst hW; (repeat (first | exact Below.refl _ _ | assumption | refine Below.drew ?_ | refine bl_alloc ?_ _ | refine bl_then ?_ (by assumption) | refine Below.setCell ?_ (by first | omega | (simp; done) | (simp; omega)) _ | refine bl_store ?_ ?_ _ _))
  have c0 : ∀ W', Below W.heap.size W W' → W'.cell? ⟨w.heap.size, 0, none⟩ = some (.int .i64 id) := fun W' h => by
    rw [h.cell (by subst hW; simp)]; subst hW; simp [go_sem]
  have c1 : ∀ W', Below W.heap.size W W' → W'.cell? ⟨w.heap.size, 1, none⟩ = some (.int .i64 la) := fun W' h => by
    rw [h.cell (by subst hW; simp)]; subst hW; simp [go_sem]
  have c2 : ∀ W', Below W.heap.size W W' → W'.cell? ⟨w.heap.size, 2, none⟩ = some (.int .i64 3) := fun W' h => by
    rw [h.cell (by subst hW; simp)]; subst hW; simp [go_sem]
  have c3 : ∀ W', Below W.heap.size W W' → W'.cell? ⟨w.heap.size, 3, none⟩ = some (.int .i64 wi) := fun W' h => by
    rw [h.cell (by subst hW; simp)]; subst hW; simp [go_sem]
  have c4 : ∀ W', Below W.heap.size W W' → W'.cell? ⟨w.heap.size, 4, none⟩ = some (.slice a n cap) := fun W' h => by
    rw [h.cell (by subst hW; simp)]; subst hW; simp [go_sem]
  have c5 : ∀ W', Below W.heap.size W W' → W'.cell? ⟨w.heap.size, 5, none⟩ = some (.string lab) := fun W' h => by
    rw [h.cell (by subst hW; simp)]; subst hW; simp [go_sem]
  have c6 : ∀ W', Below W.heap.size W W' → W'.cell? ⟨w.heap.size, 6, none⟩ = some (.int .i64 pr) := fun W' h => by
    rw [h.cell (by subst hW; simp)]; subst hW; simp [go_sem]
  clear hW
  have HB0 : Hid (Below w.heap.size w W) := hB0
  clear hB0
  refine (kindOf_3 _).mono ?_
  rintro e w1 ⟨rfl, hb1⟩
  have hB1 : Below W.heap.size W w1 := hb1
  clear hb1
  cases e0 : inB id 1 999
  · have hz : Hid (featC id la 3 wi n X Y lab pr = 3) := by show _ = _; simp [featC, rngB, e0]
    go_wp2_with (go_at_call 37; refine (isWithin_eq _ _ _ _).mono ?_; rintro e w' ⟨rfl, rfl⟩)
    go_ret
    exact ⟨ret_int hz.out.symm, bl_then HB0.out hB1⟩
  cases e1 : inB la 0 9
  · have hz : Hid (featC id la 3 wi n X Y lab pr = 3) := by show _ = _; simp [featC, rngB, e0, e1]
    go_wp2_with (go_at_call 37; refine (isWithin_eq _ _ _ _).mono ?_; rintro e w' ⟨rfl, rfl⟩)
    go_ret
    exact ⟨ret_int hz.out.symm, bl_then HB0.out hB1⟩
  cases e3 : inB wi 0 3
  · have hz : Hid (featC id la 3 wi n X Y lab pr = 3) := by show _ = _; simp [featC, rngB, e0, e1, e3]
    go_wp2_with (go_at_call 37; refine (isWithin_eq _ _ _ _).mono ?_; rintro e w' ⟨rfl, rfl⟩)
    go_ret
    exact ⟨ret_int hz.out.symm, bl_then HB0.out hB1⟩
  cases e4 : inB pr 0 9
  · have hz : Hid (featC id la 3 wi n X Y lab pr = 3) := by show _ = _; simp [featC, rngB, e0, e1, e3, e4]
    go_wp2_with (go_at_call 37; refine (isWithin_eq _ _ _ _).mono ?_; rintro e w' ⟨rfl, rfl⟩)
    go_ret
    exact ⟨ret_int hz.out.symm, bl_then HB0.out hB1⟩
  have hr : Hid (rngB id la 3 wi pr = true) := by show _ = _; simp only [rngB, e0, e1, e3, e4]; decide
  go_wp2_with (go_at_call 37; refine (isWithin_eq _ _ _ _).mono ?_; rintro e w' ⟨rfl, rfl⟩)
  refine (tellKind_3 _).mono ?_
  rintro e w2 ⟨rfl, hb2⟩
  have hB2 : Below W.heap.size W w2 := by (repeat (first | exact Below.refl _ _ | assumption | refine Below.drew ?_ | refine bl_alloc ?_ _ | refine bl_then ?_ (by assumption) | refine Below.setCell ?_ (by first | omega | (simp; done) | (simp; omega)) _ | refine bl_store ?_ ?_ _ _))
  clear hb2 hB1 c0 c1 c2 c3 c6
  go_wp2_with fail
  by_cases hs1 : (n : Int) < 3
  · have hd : decide ((n : Int) < 3) = true := decide_eq_true hs1
    have hz : Hid (featC id la 3 wi n X Y lab pr = 2) := by
      show _ = _
      have : sizeB 3 n = false := by simp [sizeB, inB]; omega
      simp [featC, hr.out, this]
    refine wp_region_noPanic ?_
    refine wp_region_held_drew (S := fun W' => Below W.heap.size W W') (by kernel_rfl) (by (repeat (first | exact Below.refl _ _ | assumption | refine Below.drew ?_ | refine bl_alloc ?_ _ | refine bl_then ?_ (by assumption) | refine Below.setCell ?_ (by first | omega | (simp; done) | (simp; omega)) _ | refine bl_store ?_ ?_ _ _))) (fun hHeld => ?_)
    refine takeD (i := 0) (d := some 42) (v := ?v0) rfl rfl (by kernel_rfl) (by kernel_rfl) (by kernel_rfl) (fun _ _ _ h => h) (Or.inl ⟨by rfl, ?hy0⟩) (by assumption) ?_
    case hy0 => (intro w hSw; (try dsimp only at hSw); go_simp <;> with_reducible rfl)
    simp only [Act.put, List.setIfInBounds_toArray, List.set_cons_zero, List.set_cons_succ]
    refine takeD (i := 1) (d := some 43) (v := ?v1) rfl rfl (by kernel_rfl) (by kernel_rfl) (by kernel_rfl) (fun _ _ _ h => h) (Or.inl ⟨by rfl, ?hy1⟩) (by assumption) ?_
    case hy1 => (intro w hSw; (try dsimp only at hSw); go_simp <;> with_reducible rfl)
    simp only [Act.put, List.setIfInBounds_toArray, List.set_cons_zero, List.set_cons_succ]
    refine takeD (i := 2) (d := some 44) (v := ?v2) rfl rfl (by kernel_rfl) (by kernel_rfl) (by kernel_rfl) (fun _ _ _ h => h) (Or.inl ⟨by rfl, ?hy2⟩) (by assumption) ?_
    case hy2 => (intro w hSw; (try dsimp only at hSw); go_simp <;> with_reducible rfl)
    simp only [Act.put, List.setIfInBounds_toArray, List.set_cons_zero, List.set_cons_succ]
    refine takeD (i := 3) (d := some 45) (v := ?v3) rfl rfl (by kernel_rfl) (by kernel_rfl) (by kernel_rfl) (fun _ _ _ h => h) (Or.inl ⟨by rfl, ?hy3⟩) (by assumption) ?_
    case hy3 => (intro w hSw; (try dsimp only at hSw); go_simp <;> with_reducible rfl)
    simp only [Act.put, List.setIfInBounds_toArray, List.set_cons_zero, List.set_cons_succ]
    refine wpAnyH_ready (rs := [4]) (by kernel_rfl) (by simp) ?_
    refine AllReadyH.cons rfl (fun K hK => ?_) AllReadyH.nil
    go_simp
    refine (leastPoints_3 _).mono ?_
    rintro e w' ⟨rfl, hb⟩
    go_wp2_with fail
    refine hK.out _ _ (by (repeat (first | exact Below.refl _ _ | assumption | refine Below.drew ?_ | refine bl_alloc ?_ _ | refine bl_then ?_ (by assumption) | refine Below.setCell ?_ (by first | omega | (simp; done) | (simp; omega)) _ | refine bl_store ?_ ?_ _ _))) (fun hHeld => ?_)
    clear hK K
    try simp only [Act.put, List.setIfInBounds_toArray, List.set_cons_zero, List.set_cons_succ]
    refine takeD (i := 5) (d := some 47) (v := ?v5) rfl rfl (by kernel_rfl) (by kernel_rfl) (by kernel_rfl) (fun _ _ _ h => h) (Or.inl ⟨by rfl, ?hy5⟩) (by assumption) ?_
    case hy5 => (intro w hSw; (try dsimp only at hSw); go_simp <;> with_reducible rfl)
    simp only [Act.put, List.setIfInBounds_toArray, List.set_cons_zero, List.set_cons_succ]
    refine takeD (i := 6) (d := some 48) (v := ?v6) rfl rfl (by kernel_rfl) (by kernel_rfl) (by kernel_rfl) (fun _ _ _ h => h) (Or.inl ⟨by rfl, ?hy6⟩) (by assumption) ?_
    case hy6 => (intro w hSw; (try dsimp only at hSw); go_simp <;> with_reducible rfl)
    simp only [Act.put, List.setIfInBounds_toArray, List.set_cons_zero, List.set_cons_succ]
    refine passD (i := 7) (d := some 49) rfl rfl (by kernel_rfl) (by kernel_rfl) (by kernel_rfl) (fun _ _ _ h => h) (by rfl) (by assumption) ?_
    simp only [Act.put, List.setIfInBounds_toArray, List.set_cons_zero, List.set_cons_succ]
    refine passD (i := 8) (d := some 50) rfl rfl (by kernel_rfl) (by kernel_rfl) (by kernel_rfl) (fun _ _ _ h => h) (by rfl) (by assumption) ?_
    simp only [Act.put, List.setIfInBounds_toArray, List.set_cons_zero, List.set_cons_succ]
    refine passD (i := 9) (d := some 51) rfl rfl (by kernel_rfl) (by kernel_rfl) (by kernel_rfl) (fun _ _ _ h => h) (by rfl) (by assumption) ?_
    simp only [Act.put, List.setIfInBounds_toArray, List.set_cons_zero, List.set_cons_succ]
    refine passD (i := 10) (d := some 52) rfl rfl (by kernel_rfl) (by kernel_rfl) (by kernel_rfl) (fun _ _ _ h => h) (by rfl) (by assumption) ?_
    simp only [Act.put, List.setIfInBounds_toArray, List.set_cons_zero, List.set_cons_succ]
    refine passD (i := 11) (d := some 53) rfl rfl (by kernel_rfl) (by kernel_rfl) (by kernel_rfl) (fun _ _ _ h => h) (by rfl) (by assumption) ?_
    simp only [Act.put, List.setIfInBounds_toArray, List.set_cons_zero, List.set_cons_succ]
    refine takeD (i := 12) (d := some 54) (v := ?v12) rfl rfl (by kernel_rfl) (by kernel_rfl) (by kernel_rfl) (fun _ _ _ h => h) (Or.inl ⟨by rfl, ?hy12⟩) (by assumption) ?_
    case hy12 => (intro w hSw; (try dsimp only at hSw); go_simp <;> with_reducible rfl)
    simp only [Act.put, List.setIfInBounds_toArray, List.set_cons_zero, List.set_cons_succ]
    refine wpAnyH_done (by kernel_rfl) ?_ _
    refine NoPanic.normal ?_
    go_wp2
    go_ret
    exact ⟨ret_int hz.out.symm, bl_then HB0.out (by assumption)⟩
  have hd1 : decide ((n : Int) < 3) = false := decide_eq_false hs1
  have HS1 : Hid (¬ (n : Int) < 3) := hs1
  clear hs1
  by_cases hs2 : (12 : Int) < n
  · have hd : decide ((12 : Int) < n) = true := decide_eq_true hs2
    have hz : Hid (featC id la 3 wi n X Y lab pr = 2) := by
      show _ = _
      have : sizeB 3 n = false := by simp [sizeB, inB]; omega
      simp [featC, hr.out, this]
    go_region_held3 (fun W' => Below W.heap.size W W') ((repeat (first | exact Below.refl _ _ | assumption | refine Below.drew ?_ | refine bl_alloc ?_ _ | refine bl_then ?_ (by assumption) | refine Below.setCell ?_ (by first | omega | (simp; done) | (simp; omega)) _ | refine bl_store ?_ ?_ _ _)))
      (first | (go_at_call 38; refine (leastPoints_3 _).mono ?_; rintro e w' ⟨rfl, hb⟩))
    go_wp2
    go_ret
    exact ⟨ret_int hz.out.symm, bl_then HB0.out (by assumption)⟩
  have hd2 : decide ((12 : Int) < n) = false := decide_eq_false hs2
  have e5 : Hid (sizeB 3 n = true) := by show _ = _; have := HS1.out; simp [sizeB, inB]; omega
  have HS2 : Hid (¬ (12 : Int) < n) := hs2
  clear hs2
  go_region_held3 (fun W' => Below W.heap.size W W') ((repeat (first | exact Below.refl _ _ | assumption | refine Below.drew ?_ | refine bl_alloc ?_ _ | refine bl_then ?_ (by assumption) | refine Below.setCell ?_ (by first | omega | (simp; done) | (simp; omega)) _ | refine bl_store ?_ ?_ _ _)))
    (first | (go_at_call 38; refine (leastPoints_3 _).mono ?_; rintro e w' ⟨rfl, hb⟩))
  go_wp2
  go_loopw [58] (fun i wr => ∃ k : Nat, k ≤ n ∧ i = .int .i64 k ∧ (∀ j, j < k → inW (X j) (Y j) = true) ∧ Below W.heap.size W wr) (fun i _ => n - (intOf i).toNat)
  case atStart => exact ⟨0, by omega, rfl, by omega, by assumption⟩
  case round =>
    obtain ⟨k, hk, rfl, hA, hB⟩ := hrel
    have HA : Hid (∀ j, j < k → inW (X j) (Y j) = true) := hA
    have HB : Hid (Below w.heap.size w wr) := bl_then HB0.out hB
    have KB : Hid (Below W.heap.size W wr) := hB
    clear hA
    by_cases hlt : k < n
    · rcases HP.out with hz | ⟨b, off, rfl, hbl, hpt⟩
      · omega
      have hi : (k : Int) < (n : Int) := by omega
      have hi0 : (0 : Int) ≤ (k : Int) := by omega
      obtain ⟨dx, dy⟩ := hpt.below HB.out hbl k hlt
      clear c4 c5 hB hpt hd1 hd2
      cases hq : inW (X k) (Y k)
      · have hz : Hid (featC id la 3 wi n X Y lab pr = 3) := by show _ = _; simp [featC, hr.out, e5.out, ptsIn_bad k hlt hq]
        go_wp2_with (go_at_call 39; refine (isInWorld_any _ _ _).mono ?_; rintro e w' ⟨rfl, hb⟩)
        go_ret
        exact ⟨ret_int hz.out.symm, by have HB' := HB.out; (repeat (first | exact Below.refl _ _ | assumption | refine Below.drew ?_ | refine bl_alloc ?_ _ | refine bl_then ?_ (by assumption) | refine Below.setCell ?_ (by first | omega | (simp; done) | (simp; omega)) _ | refine bl_store ?_ ?_ _ _))⟩
      · have HI : Hid (inW (X k) (Y k) = true) := hq
        go_wp2_with (go_at_call 39; refine (isInWorld_any _ _ _).mono ?_; rintro e w' ⟨rfl, hb⟩)
        go_roundw
        case rel => exact ⟨k + 1, by omega, by go_num, fun j hj => by
            by_cases e : j = k
            · rw [e]; exact HI.out
            · exact HA.out j (by omega), by have KB' := KB.out; (repeat (first | exact Below.refl _ _ | assumption | refine Below.drew ?_ | refine bl_alloc ?_ _ | refine bl_then ?_ (by assumption) | refine Below.setCell ?_ (by first | omega | (simp; done) | (simp; omega)) _ | refine bl_store ?_ ?_ _ _))⟩
        case measure => simp [intOf]; omega
    · have hz : Hid (featC id la 3 wi n X Y lab pr = if labB lab = true then 0 else 5) := by
        show _ = _
        have : ptsIn n X Y = true := decide_eq_true (fun i hi => HA.out i (by omega))
        simp [featC, hr.out, e5.out, this]
      have d5 := c5 wr hB
      clear c4 c5 hd1 hd2
      cases el : labB lab
      all_goals
        go_wp2_with (go_at_call 40; refine (isLabel_any _ _ hl).mono ?_; rintro e w' ⟨rfl, hb⟩)
        go_ret
        exact ⟨ret_int (by rw [hz.out]; simp [el]), bl_then HB.out hb⟩
set_option maxHeartbeats 4000000 in
theorem FeatureFault_no (id la ki wi : Int) (a : Option Addr) (n cap : Nat) (X Y : Nat → Int) (lab : ByteArray) (pr : Int) (w : World) (hpt : IsPts w a n X Y) (hl : lab.size ≤ 1048576) (hn : n ≤ 1048576) (k1 : ki ≠ 1) (k2 : ki ≠ 2) (k3 : ki ≠ 3) :
    Calls Tryd.prog 20 #[.agg #[.int .i64 id, .int .i64 la, .int .i64 ki, .int .i64 wi, .slice a n cap, .string lab, .int .i64 pr]] w fun e w' => e = .returned (.int .i64 (featC id la ki wi n X Y lab pr)) ∧ Below w.heap.size w w' := by
  have HP : Hid (IsPts w a n X Y) := hpt
  clear hpt
  go_enter Tryd.func20, Tryd.ntmps20
  go_wp2_with fail
  generalize hW : (w.alloc _ : World) = W
  have hB0 : Below w.heap.size w W := by subst hW; (repeat (first | exact Below.refl _ _ | assumption | refine Below.drew ?_ | refine bl_alloc ?_ _ | refine bl_then ?_ (by assumption) | refine Below.setCell ?_ (by first | omega | (simp; done) | (simp; omega)) _ | refine bl_store ?_ ?_ _ _))
  have c0 : ∀ W', Below W.heap.size W W' → W'.cell? ⟨w.heap.size, 0, none⟩ = some (.int .i64 id) := fun W' h => by
    rw [h.cell (by subst hW; simp)]; subst hW; simp [go_sem]
  have c1 : ∀ W', Below W.heap.size W W' → W'.cell? ⟨w.heap.size, 1, none⟩ = some (.int .i64 la) := fun W' h => by
    rw [h.cell (by subst hW; simp)]; subst hW; simp [go_sem]
  have c2 : ∀ W', Below W.heap.size W W' → W'.cell? ⟨w.heap.size, 2, none⟩ = some (.int .i64 ki) := fun W' h => by
    rw [h.cell (by subst hW; simp)]; subst hW; simp [go_sem]
  have c3 : ∀ W', Below W.heap.size W W' → W'.cell? ⟨w.heap.size, 3, none⟩ = some (.int .i64 wi) := fun W' h => by
    rw [h.cell (by subst hW; simp)]; subst hW; simp [go_sem]
  have c4 : ∀ W', Below W.heap.size W W' → W'.cell? ⟨w.heap.size, 4, none⟩ = some (.slice a n cap) := fun W' h => by
    rw [h.cell (by subst hW; simp)]; subst hW; simp [go_sem]
  have c5 : ∀ W', Below W.heap.size W W' → W'.cell? ⟨w.heap.size, 5, none⟩ = some (.string lab) := fun W' h => by
    rw [h.cell (by subst hW; simp)]; subst hW; simp [go_sem]
  have c6 : ∀ W', Below W.heap.size W W' → W'.cell? ⟨w.heap.size, 6, none⟩ = some (.int .i64 pr) := fun W' h => by
    rw [h.cell (by subst hW; simp)]; subst hW; simp [go_sem]
  clear hW
  have HB0 : Hid (Below w.heap.size w W) := hB0
  clear hB0
  have hz : Hid (featC id la ki wi n X Y lab pr = 3) := by
    show _ = _
    have : inB ki 1 3 = false := by simp [inB]; omega
    simp [featC, rngB, this]
  refine (kindOf_no ki _ k1 k2 k3).mono ?_
  rintro e w1 ⟨rfl, hb1⟩
  have hB1 : Below W.heap.size W w1 := hb1
  clear hb1 k1 k2 k3
  go_wp2
  go_ret
  exact ⟨ret_int hz.out.symm, bl_then HB0.out hB1⟩
theorem FeatureFault_any (id la ki wi : Int) (a : Option Addr) (n cap : Nat) (X Y : Nat → Int) (lab : ByteArray) (pr : Int) (w : World) (hpt : IsPts w a n X Y) (hl : lab.size ≤ 1048576) (hn : n ≤ 1048576) :
    Calls Tryd.prog 20 #[.agg #[.int .i64 id, .int .i64 la, .int .i64 ki, .int .i64 wi, .slice a n cap, .string lab, .int .i64 pr]] w fun e w' => e = .returned (.int .i64 (featC id la ki wi n X Y lab pr)) ∧ Below w.heap.size w w' := by
  by_cases k1 : ki = 1
  · subst k1; exact FeatureFault_1 id la wi a n cap X Y lab pr w hpt hl hn
  by_cases k2 : ki = 2
  · subst k2; exact FeatureFault_2 id la wi a n cap X Y lab pr w hpt hl hn
  by_cases k3 : ki = 3
  · subst k3; exact FeatureFault_3 id la wi a n cap X Y lab pr w hpt hl hn
  exact FeatureFault_no id la ki wi a n cap X Y lab pr w hpt hl hn k1 k2 k3
end Go.Proofs.YtnbhpicdghgniaaDoor
