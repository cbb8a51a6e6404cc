/- Several texts in one. -/
import Derived.Test.YtciidkmonfmipaaGreatVPutTile10
import Derived.Test.YtciidkmonfmipaaGreatVPutTile1
import Derived.Deep.RegionHeld3
import Derived.Test.YtciidkmonfmipaaGreatVPutTile8

/- l1Inside of the model: whether an odd number of sides is crossed. -/

namespace Go.Proofs.YtciidkmonfmipaaGreat
open Go.RowKit
set_option linter.unusedSimpArgs false
set_option linter.unusedVariables false

/-- Whether the side from place i to the next one is crossed. -/
def sideAt (px py : Int) (n : Nat) (X Y : Nat → Int) (i : Nat) : Bool := sideB px py (X i) (Y i) (X ((i + 1) % n)) (Y ((i + 1) % n))

set_option maxHeartbeats 2000000 in
theorem l1Inside_any (px py : Int) (b n cap : Nat) (X Y : Nat → Int) (w : World) (hp : okP px py = true) (hpt : PtsAt w b 0 n X Y) (hbl : b < w.heap.size) (hok : ∀ i, i < n → okP (X i) (Y i) = true) (hcap : n ≤ cap) (hmax : n ≤ 1048576) :
    Calls Tryz.prog 136 #[.agg #[.int .i64 px, .int .i64 py], .slice (some ⟨b, 0, none⟩) n cap] w fun e w' => e = .returned (.bool (oddTo (sideAt px py n X Y) n)) ∧ Below w.heap.size w w' := by
  have HP : Hid (okP px py = true) := hp
  have HQ : Hid (PtsAt w b 0 n X Y) := hpt
  have HO : Hid (∀ i, i < n → okP (X i) (Y i) = true) := hok
  clear hp hpt hok
  go_enter Tryz.func136, Tryz.ntmps136
  go_wp2
  generalize hW : (w.alloc _ : World) = W
  have hB0 : Below w.heap.size w W := by subst hW; (repeat (first | exact Below.refl _ _ | assumption | refine Below.drew ?_ | refine bl_alloc ?_ _ | refine bl_then ?_ (by assumption) | refine Below.setCell ?_ (by first | omega | (simp; done) | (simp; omega)) _ | refine bl_store ?_ ?_ _ _))
  have c00 : ∀ W', Below W.heap.size W W' → W'.cell? ⟨w.heap.size, 0, none⟩ = some (.int .i64 px) := fun W' h => by
    rw [h.cell (by subst hW; simp <;> omega)]; subst hW; simp [go_sem]
  have c01 : ∀ W', Below W.heap.size W W' → W'.cell? ⟨w.heap.size, 1, none⟩ = some (.int .i64 py) := fun W' h => by
    rw [h.cell (by subst hW; simp <;> omega)]; subst hW; simp [go_sem]
  clear hW
  have HB0 : Hid (Below w.heap.size w W) := hB0
  have HQ1 : Hid (PtsAt W b 0 n X Y) := HQ.out.below hB0 hbl
  have hblW : b < W.heap.size := Nat.lt_of_lt_of_le hbl hB0.size
  clear hB0 HQ hbl
  go_loopw [5, 6] (fun q i wr => ∃ k : Nat, k ≤ n ∧ i = .int .i64 k ∧ q = .bool (oddTo (sideAt px py n X Y) k) ∧ Below W.heap.size W wr) (fun _ i _ => n - (intOf i).toNat)
  case atStart => exact ⟨0, by omega, rfl, rfl, Below.refl _ _⟩
  case round =>
    obtain ⟨k, hk, rfl, rfl, hB⟩ := hrel
    by_cases hlt : k < n
    · have hP1 := HQ1.out.below hB hblW
      have hbr : b < wr.heap.size := Nat.lt_of_lt_of_le hblW hB.size
      have d0 : ∀ W', Below wr.heap.size wr W' → W'.cell? ⟨b, k * 2, none⟩ = some (.int .i64 (X k)) := fun W' h => by
        simpa using (hP1.below h hbr k hlt).1
      have d1 : ∀ W', Below wr.heap.size wr W' → W'.cell? ⟨b, k * 2 + 1, none⟩ = some (.int .i64 (Y k)) := fun W' h => by
        simpa using (hP1.below h hbr k hlt).2
      replace c00 := fun W' (h : Below wr.heap.size wr W') => c00 W' (bl_then hB h)
      replace c01 := fun W' (h : Below wr.heap.size wr W') => c01 W' (bl_then hB h)
      have HB : Hid (Below W.heap.size W wr) := hB
      have hi : (k : Int) < (n : Int) := by omega
      have hi0 : (0 : Int) ≤ (k : Int) := by omega
      have hwr : IntKind.i64.wrap ((k : Int) + 1) = (k : Int) + 1 := IntWalk.i64_in _ (by omega)
      have hodd : Hid (oddTo (sideAt px py n X Y) (k + 1) = if sideAt px py n X Y k = true then !(oddTo (sideAt px py n X Y) k) else oddTo (sideAt px py n X Y) k) := rfl
      by_cases hnx : k + 1 < n
      · have hm : (k + 1) % n = k + 1 := Nat.mod_eq_of_lt hnx
        have HS : Hid (sideAt px py n X Y k = sideB px py (X k) (Y k) (X (k + 1)) (Y (k + 1))) := by show _ = _; unfold sideAt; rw [hm]
        have hmi : ((k : Int) + 1) % (n : Int) = (k : Int) + 1 := Int.emod_eq_of_lt (by omega) (by omega)
        have hmt : ((k : Int) + 1).tmod (n : Int) = (k : Int) + 1 := by rw [Int.tmod_eq_emod_of_nonneg (by omega)]; exact hmi
        have hn0 : ¬ n = 0 := by omega
        have e0 : ∀ W', Below wr.heap.size wr W' → W'.cell? ⟨b, (k + 1) * 2, none⟩ = some (.int .i64 (X (k + 1))) := fun W' h => by
          simpa using (hP1.below h hbr (k + 1) hnx).1
        have e1 : ∀ W', Below wr.heap.size wr W' → W'.cell? ⟨b, (k + 1) * 2 + 1, none⟩ = some (.int .i64 (Y (k + 1))) := fun W' h => by
          simpa using (hP1.below h hbr (k + 1) hnx).2
        have HK1 : Hid (okP (X k) (Y k) = true) := HO.out k hlt
        have HK2 : Hid (okP (X (k + 1)) (Y (k + 1)) = true) := HO.out (k + 1) hnx
        have hi2 : ((k : Int) + 1) < (n : Int) := by omega
        have hi3 : (0 : Int) ≤ (k : Int) + 1 := by omega
        clear hP1 hB
        cases hsv : sideB px py (X k) (Y k) (X (k + 1)) (Y (k + 1))
        all_goals
          go_wp2
          go_region_held3 (fun W' => Below wr.heap.size wr W') ((repeat (first | exact Below.refl _ _ | assumption | refine Below.drew ?_ | refine bl_alloc ?_ _ | refine bl_then ?_ (by assumption) | refine Below.setCell ?_ (by first | omega | (simp; done) | (simp; omega)) _ | refine bl_store ?_ ?_ _ _)))
            (first
              | (go_at_call 150; refine (l1Side_any _ _ _ _ _ _ _ HP.out HK1.out HK2.out).mono ?_; rintro e w' ⟨rfl, hb⟩))
          go_wp2
          go_roundw
          case rel => exact ⟨k + 1, by omega, by go_num, congrArg Value.bool (by rw [hodd.out, HS.out, hsv]; rfl), bl_then HB.out (by assumption)⟩
          case measure => simp [intOf]; omega
      · have hkn : k + 1 = n := by omega
        have hm : (k + 1) % n = 0 := by rw [hkn]; exact Nat.mod_self n
        have HS : Hid (sideAt px py n X Y k = sideB px py (X k) (Y k) (X 0) (Y 0)) := by show _ = _; unfold sideAt; rw [hm]
        have hmi : ((k : Int) + 1) % (n : Int) = 0 := by
          have : ((k : Int) + 1) = (n : Int) := by omega
          rw [this]; exact Int.emod_self
        have hmt : ((k : Int) + 1).tmod (n : Int) = 0 := by rw [Int.tmod_eq_emod_of_nonneg (by omega)]; exact hmi
        have hn0 : ¬ n = 0 := by omega
        have hnp : (0 : Int) < (n : Int) := by omega
        have hnp' : 0 < n := by omega
        have e0 : ∀ W', Below wr.heap.size wr W' → W'.cell? ⟨b, 0, none⟩ = some (.int .i64 (X 0)) := fun W' h => by
          simpa using (hP1.below h hbr 0 (by omega)).1
        have e1 : ∀ W', Below wr.heap.size wr W' → W'.cell? ⟨b, 1, none⟩ = some (.int .i64 (Y 0)) := fun W' h => by
          simpa using (hP1.below h hbr 0 (by omega)).2
        have HK1 : Hid (okP (X k) (Y k) = true) := HO.out k hlt
        have HK2 : Hid (okP (X 0) (Y 0) = true) := HO.out 0 (by omega)
        clear hkn hnx
        clear hP1 hB
        cases hsv : sideB px py (X k) (Y k) (X 0) (Y 0)
        all_goals
          go_wp2
          go_region_held3 (fun W' => Below wr.heap.size wr W') ((repeat (first | exact Below.refl _ _ | assumption | refine Below.drew ?_ | refine bl_alloc ?_ _ | refine bl_then ?_ (by assumption) | refine Below.setCell ?_ (by first | omega | (simp; done) | (simp; omega)) _ | refine bl_store ?_ ?_ _ _)))
            (first
              | (go_at_call 150; refine (l1Side_any _ _ _ _ _ _ _ HP.out HK1.out HK2.out).mono ?_; rintro e w' ⟨rfl, hb⟩))
          go_wp2
          go_roundw
          case rel => exact ⟨k + 1, by omega, by go_num, congrArg Value.bool (by rw [hodd.out, HS.out, hsv]; rfl), bl_then HB.out (by assumption)⟩
          case measure => simp [intOf]; omega
    · go_wp2
      go_ret
      have hkn : k = n := by omega
      subst hkn
      exact ⟨rfl, bl_then HB0.out hB⟩
end Go.Proofs.YtciidkmonfmipaaGreat
/- IsInside of the model: what it answers at every list. -/

namespace Go.Proofs.YtciidkmonfmipaaGreat
open Go.RowKit
set_option linter.unusedSimpArgs false
set_option linter.unusedVariables false

/-- Whether p is inside the ring. -/
def insideB (px py : Int) (n : Nat) (X Y : Nat → Int) : Bool := okP px py && (decide (3 ≤ n) && (decide (n ≤ 40) && (allOk n X Y && oddTo (sideAt px py n X Y) n)))
end Go.Proofs.YtciidkmonfmipaaGreat
/- isCrossed of the program: whether a side is crossed. -/

namespace Go.Proofs.YtciidkmonfmipaaGreat
open Go.RowKit
set_option linter.unusedSimpArgs false
set_option linter.unusedVariables false

set_option maxHeartbeats 2000000 in
theorem isCrossed_up (px py ax ay bx by' : Int) (w : World) (hp : okP px py = true) (ha : okP ax ay = true) (hb : okP bx by' = true) (h : ay ≤ by') (h1 : ay ≤ py) (h2 : py < by') :
    Calls Tryz.prog 156 #[.agg #[.int .i64 px, .int .i64 py], .agg #[.int .i64 ax, .int .i64 ay], .agg #[.int .i64 bx, .int .i64 by']] w fun e w' => e = .returned (.bool (sideB px py ax ay bx by')) ∧ Below w.heap.size w w' := by
  have HP : Hid (okP px py = true) := hp
  have HA : Hid (okP ax ay = true) := ha
  have HB : Hid (okP bx by' = true) := hb
  clear hp ha hb
  have HE : Hid (sideB px py ax ay bx by' = decide (0 < crossI ax ay bx by' px py)) := by
    show _ = _
    rw [side_up h]
    simp [h1, h2]
  have h' : ¬ by' < ay := by omega
  go_enter Tryz.func156, Tryz.ntmps156
  go_wp2
  generalize hW : (((w.alloc _).alloc _).alloc _ : World) = W
  have hB0 : Below w.heap.size w W := by subst hW; (repeat (first | exact Below.refl _ _ | assumption | refine Below.drew ?_ | refine bl_alloc ?_ _ | refine bl_then ?_ (by assumption) | refine Below.setCell ?_ (by first | omega | (simp; done) | (simp; omega)) _ | refine bl_store ?_ ?_ _ _))
  have c00 : ∀ W', Below W.heap.size W W' → W'.cell? ⟨w.heap.size, 0, none⟩ = some (.int .i64 px) := fun W' h => by
    rw [h.cell (by subst hW; simp <;> omega)]; subst hW; simp [go_sem]
  have c01 : ∀ W', Below W.heap.size W W' → W'.cell? ⟨w.heap.size, 1, none⟩ = some (.int .i64 py) := fun W' h => by
    rw [h.cell (by subst hW; simp <;> omega)]; subst hW; simp [go_sem]
  have c10 : ∀ W', Below W.heap.size W W' → W'.cell? ⟨w.heap.size + 1, 0, none⟩ = some (.int .i64 ax) := fun W' h => by
    rw [h.cell (by subst hW; simp <;> omega)]; subst hW; simp [go_sem]
  have c11 : ∀ W', Below W.heap.size W W' → W'.cell? ⟨w.heap.size + 1, 1, none⟩ = some (.int .i64 ay) := fun W' h => by
    rw [h.cell (by subst hW; simp <;> omega)]; subst hW; simp [go_sem]
  have c20 : ∀ W', Below W.heap.size W W' → W'.cell? ⟨w.heap.size + 1 + 1, 0, none⟩ = some (.int .i64 bx) := fun W' h => by
    rw [h.cell (by subst hW; simp <;> omega)]; subst hW; simp [go_sem]
  have c21 : ∀ W', Below W.heap.size W W' → W'.cell? ⟨w.heap.size + 1 + 1, 1, none⟩ = some (.int .i64 by') := fun W' h => by
    rw [h.cell (by subst hW; simp <;> omega)]; subst hW; simp [go_sem]
  clear hW
  have HB0 : Hid (Below w.heap.size w W) := hB0
  clear hB0
  go_cut [7, 8] (fun t s wc => ∃ b d : Nat, t = .pointer (some ⟨b, 0, none⟩) ∧ s = .pointer (some ⟨d, 0, none⟩) ∧ b ≠ d ∧ Below W.heap.size W wc ∧ W.heap.size ≤ b ∧ W.heap.size ≤ d ∧ wc.cell? ⟨b, 0, none⟩ = some (.int .i64 ax) ∧ wc.cell? ⟨b, 1, none⟩ = some (.int .i64 ay) ∧ wc.cell? ⟨d, 0, none⟩ = some (.int .i64 bx) ∧ wc.cell? ⟨d, 1, none⟩ = some (.int .i64 by') ∧ wc.frozen? ⟨b, 0, none⟩ = false ∧ wc.frozen? ⟨b, 1, none⟩ = false ∧ wc.frozen? ⟨d, 0, none⟩ = false ∧ wc.frozen? ⟨d, 1, none⟩ = false)
  case first =>
    go_region_held3 (fun W' => Below W.heap.size W W') ((repeat (first | exact Below.refl _ _ | assumption | refine Below.drew ?_ | refine bl_alloc ?_ _ | refine bl_then ?_ (by assumption) | refine Below.setCell ?_ (by first | omega | (simp; done) | (simp; omega)) _ | refine bl_store ?_ ?_ _ _))) (fail)
    all_goals
      go_wp2_with fail
      go_meet
      case rel =>
        refine ⟨_, _, rfl, rfl, by first | omega | (simp; done) | (simp; omega), by assumption, by first | omega | (simp; done) | (simp; omega), by first | omega | (simp; done) | (simp; omega), ?_, ?_, ?_, ?_, ?_, ?_, ?_, ?_⟩ <;> (go_simp; done)
  case rest =>
    obtain ⟨b1, d1, rfl, rfl, hne, hB1, hb1, hd1, x1, x2, x3, x4, f1, f2, f3, f4⟩ := hcut
    have hne' : d1 ≠ b1 := fun h => hne h.symm
    go_wp2_with (go_at_call 169; refine (turnOf_any _ _ _ _ _ _ _ HA.out HB.out HP.out).mono ?_; rintro e w' ⟨rfl, hbz⟩)
    go_ret
    exact ⟨ret_bool HE.out.symm, bl_then HB0.out (by (repeat (first | exact Below.refl _ _ | assumption | refine Below.drew ?_ | refine bl_alloc ?_ _ | refine bl_then ?_ (by assumption) | refine Below.setCell ?_ (by first | omega | (simp; done) | (simp; omega)) _ | refine bl_store ?_ ?_ _ _)))⟩

set_option maxHeartbeats 2000000 in
theorem isCrossed_up1 (px py ax ay bx by' : Int) (w : World) (hp : okP px py = true) (ha : okP ax ay = true) (hb : okP bx by' = true) (h : ay ≤ by') (h1 : ¬ ay ≤ py) :
    Calls Tryz.prog 156 #[.agg #[.int .i64 px, .int .i64 py], .agg #[.int .i64 ax, .int .i64 ay], .agg #[.int .i64 bx, .int .i64 by']] w fun e w' => e = .returned (.bool (sideB px py ax ay bx by')) ∧ Below w.heap.size w w' := by
  have HP : Hid (okP px py = true) := hp
  have HA : Hid (okP ax ay = true) := ha
  have HB : Hid (okP bx by' = true) := hb
  clear hp ha hb
  have HE : Hid (sideB px py ax ay bx by' = false) := by
    show _ = _
    rw [side_up h]
    simp [h1]
  have h' : ¬ by' < ay := by omega
  have h1' : decide (ay ≤ py) = false := by simpa using h1
  go_enter Tryz.func156, Tryz.ntmps156
  go_wp2
  generalize hW : (((w.alloc _).alloc _).alloc _ : World) = W
  have hB0 : Below w.heap.size w W := by subst hW; (repeat (first | exact Below.refl _ _ | assumption | refine Below.drew ?_ | refine bl_alloc ?_ _ | refine bl_then ?_ (by assumption) | refine Below.setCell ?_ (by first | omega | (simp; done) | (simp; omega)) _ | refine bl_store ?_ ?_ _ _))
  have c00 : ∀ W', Below W.heap.size W W' → W'.cell? ⟨w.heap.size, 0, none⟩ = some (.int .i64 px) := fun W' h => by
    rw [h.cell (by subst hW; simp <;> omega)]; subst hW; simp [go_sem]
  have c01 : ∀ W', Below W.heap.size W W' → W'.cell? ⟨w.heap.size, 1, none⟩ = some (.int .i64 py) := fun W' h => by
    rw [h.cell (by subst hW; simp <;> omega)]; subst hW; simp [go_sem]
  have c10 : ∀ W', Below W.heap.size W W' → W'.cell? ⟨w.heap.size + 1, 0, none⟩ = some (.int .i64 ax) := fun W' h => by
    rw [h.cell (by subst hW; simp <;> omega)]; subst hW; simp [go_sem]
  have c11 : ∀ W', Below W.heap.size W W' → W'.cell? ⟨w.heap.size + 1, 1, none⟩ = some (.int .i64 ay) := fun W' h => by
    rw [h.cell (by subst hW; simp <;> omega)]; subst hW; simp [go_sem]
  have c20 : ∀ W', Below W.heap.size W W' → W'.cell? ⟨w.heap.size + 1 + 1, 0, none⟩ = some (.int .i64 bx) := fun W' h => by
    rw [h.cell (by subst hW; simp <;> omega)]; subst hW; simp [go_sem]
  have c21 : ∀ W', Below W.heap.size W W' → W'.cell? ⟨w.heap.size + 1 + 1, 1, none⟩ = some (.int .i64 by') := fun W' h => by
    rw [h.cell (by subst hW; simp <;> omega)]; subst hW; simp [go_sem]
  clear hW
  have HB0 : Hid (Below w.heap.size w W) := hB0
  clear hB0
  go_cut [7, 8] (fun t s wc => ∃ b d : Nat, t = .pointer (some ⟨b, 0, none⟩) ∧ s = .pointer (some ⟨d, 0, none⟩) ∧ b ≠ d ∧ Below W.heap.size W wc ∧ W.heap.size ≤ b ∧ W.heap.size ≤ d ∧ wc.cell? ⟨b, 0, none⟩ = some (.int .i64 ax) ∧ wc.cell? ⟨b, 1, none⟩ = some (.int .i64 ay) ∧ wc.cell? ⟨d, 0, none⟩ = some (.int .i64 bx) ∧ wc.cell? ⟨d, 1, none⟩ = some (.int .i64 by') ∧ wc.frozen? ⟨b, 0, none⟩ = false ∧ wc.frozen? ⟨b, 1, none⟩ = false ∧ wc.frozen? ⟨d, 0, none⟩ = false ∧ wc.frozen? ⟨d, 1, none⟩ = false)
  case first =>
    go_region_held3 (fun W' => Below W.heap.size W W') ((repeat (first | exact Below.refl _ _ | assumption | refine Below.drew ?_ | refine bl_alloc ?_ _ | refine bl_then ?_ (by assumption) | refine Below.setCell ?_ (by first | omega | (simp; done) | (simp; omega)) _ | refine bl_store ?_ ?_ _ _))) (fail)
    all_goals
      go_wp2_with fail
      go_meet
      case rel =>
        refine ⟨_, _, rfl, rfl, by first | omega | (simp; done) | (simp; omega), by assumption, by first | omega | (simp; done) | (simp; omega), by first | omega | (simp; done) | (simp; omega), ?_, ?_, ?_, ?_, ?_, ?_, ?_, ?_⟩ <;> (go_simp; done)
  case rest =>
    obtain ⟨b1, d1, rfl, rfl, hne, hB1, hb1, hd1, x1, x2, x3, x4, f1, f2, f3, f4⟩ := hcut
    have hne' : d1 ≠ b1 := fun h => hne h.symm
    go_wp2
    go_ret
    exact ⟨ret_bool HE.out.symm, bl_then HB0.out (by (repeat (first | exact Below.refl _ _ | assumption | refine Below.drew ?_ | refine bl_alloc ?_ _ | refine bl_then ?_ (by assumption) | refine Below.setCell ?_ (by first | omega | (simp; done) | (simp; omega)) _ | refine bl_store ?_ ?_ _ _)))⟩

set_option maxHeartbeats 2000000 in
theorem isCrossed_up2 (px py ax ay bx by' : Int) (w : World) (hp : okP px py = true) (ha : okP ax ay = true) (hb : okP bx by' = true) (h : ay ≤ by') (h1 : ay ≤ py) (h2 : ¬ py < by') :
    Calls Tryz.prog 156 #[.agg #[.int .i64 px, .int .i64 py], .agg #[.int .i64 ax, .int .i64 ay], .agg #[.int .i64 bx, .int .i64 by']] w fun e w' => e = .returned (.bool (sideB px py ax ay bx by')) ∧ Below w.heap.size w w' := by
  have HP : Hid (okP px py = true) := hp
  have HA : Hid (okP ax ay = true) := ha
  have HB : Hid (okP bx by' = true) := hb
  clear hp ha hb
  have HE : Hid (sideB px py ax ay bx by' = false) := by
    show _ = _
    rw [side_up h]
    simp [h1, h2]
  have h' : ¬ by' < ay := by omega
  have h2' : decide (py < by') = false := by simpa using h2
  go_enter Tryz.func156, Tryz.ntmps156
  go_wp2
  generalize hW : (((w.alloc _).alloc _).alloc _ : World) = W
  have hB0 : Below w.heap.size w W := by subst hW; (repeat (first | exact Below.refl _ _ | assumption | refine Below.drew ?_ | refine bl_alloc ?_ _ | refine bl_then ?_ (by assumption) | refine Below.setCell ?_ (by first | omega | (simp; done) | (simp; omega)) _ | refine bl_store ?_ ?_ _ _))
  have c00 : ∀ W', Below W.heap.size W W' → W'.cell? ⟨w.heap.size, 0, none⟩ = some (.int .i64 px) := fun W' h => by
    rw [h.cell (by subst hW; simp <;> omega)]; subst hW; simp [go_sem]
  have c01 : ∀ W', Below W.heap.size W W' → W'.cell? ⟨w.heap.size, 1, none⟩ = some (.int .i64 py) := fun W' h => by
    rw [h.cell (by subst hW; simp <;> omega)]; subst hW; simp [go_sem]
  have c10 : ∀ W', Below W.heap.size W W' → W'.cell? ⟨w.heap.size + 1, 0, none⟩ = some (.int .i64 ax) := fun W' h => by
    rw [h.cell (by subst hW; simp <;> omega)]; subst hW; simp [go_sem]
  have c11 : ∀ W', Below W.heap.size W W' → W'.cell? ⟨w.heap.size + 1, 1, none⟩ = some (.int .i64 ay) := fun W' h => by
    rw [h.cell (by subst hW; simp <;> omega)]; subst hW; simp [go_sem]
  have c20 : ∀ W', Below W.heap.size W W' → W'.cell? ⟨w.heap.size + 1 + 1, 0, none⟩ = some (.int .i64 bx) := fun W' h => by
    rw [h.cell (by subst hW; simp <;> omega)]; subst hW; simp [go_sem]
  have c21 : ∀ W', Below W.heap.size W W' → W'.cell? ⟨w.heap.size + 1 + 1, 1, none⟩ = some (.int .i64 by') := fun W' h => by
    rw [h.cell (by subst hW; simp <;> omega)]; subst hW; simp [go_sem]
  clear hW
  have HB0 : Hid (Below w.heap.size w W) := hB0
  clear hB0
  go_cut [7, 8] (fun t s wc => ∃ b d : Nat, t = .pointer (some ⟨b, 0, none⟩) ∧ s = .pointer (some ⟨d, 0, none⟩) ∧ b ≠ d ∧ Below W.heap.size W wc ∧ W.heap.size ≤ b ∧ W.heap.size ≤ d ∧ wc.cell? ⟨b, 0, none⟩ = some (.int .i64 ax) ∧ wc.cell? ⟨b, 1, none⟩ = some (.int .i64 ay) ∧ wc.cell? ⟨d, 0, none⟩ = some (.int .i64 bx) ∧ wc.cell? ⟨d, 1, none⟩ = some (.int .i64 by') ∧ wc.frozen? ⟨b, 0, none⟩ = false ∧ wc.frozen? ⟨b, 1, none⟩ = false ∧ wc.frozen? ⟨d, 0, none⟩ = false ∧ wc.frozen? ⟨d, 1, none⟩ = false)
  case first =>
    go_region_held3 (fun W' => Below W.heap.size W W') ((repeat (first | exact Below.refl _ _ | assumption | refine Below.drew ?_ | refine bl_alloc ?_ _ | refine bl_then ?_ (by assumption) | refine Below.setCell ?_ (by first | omega | (simp; done) | (simp; omega)) _ | refine bl_store ?_ ?_ _ _))) (fail)
    all_goals
      go_wp2_with fail
      go_meet
      case rel =>
        refine ⟨_, _, rfl, rfl, by first | omega | (simp; done) | (simp; omega), by assumption, by first | omega | (simp; done) | (simp; omega), by first | omega | (simp; done) | (simp; omega), ?_, ?_, ?_, ?_, ?_, ?_, ?_, ?_⟩ <;> (go_simp; done)
  case rest =>
    obtain ⟨b1, d1, rfl, rfl, hne, hB1, hb1, hd1, x1, x2, x3, x4, f1, f2, f3, f4⟩ := hcut
    have hne' : d1 ≠ b1 := fun h => hne h.symm
    go_wp2
    go_ret
    exact ⟨ret_bool HE.out.symm, bl_then HB0.out (by (repeat (first | exact Below.refl _ _ | assumption | refine Below.drew ?_ | refine bl_alloc ?_ _ | refine bl_then ?_ (by assumption) | refine Below.setCell ?_ (by first | omega | (simp; done) | (simp; omega)) _ | refine bl_store ?_ ?_ _ _)))⟩
end Go.Proofs.YtciidkmonfmipaaGreat
