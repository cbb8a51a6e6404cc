/- The fault of a box, and of a list of entries: the program's and the model's. -/
import Derived.Test.YtjnhaigmfjndhaaVFindBox7
import Derived.Test.YtjnhaigmfjndhaaVFindBox8
namespace Go.Proofs.Ytjnhaigmfjndhaa
open Go.RowKit
set_option linter.unusedSimpArgs false
set_option linter.unusedVariables false
set_option maxRecDepth 100000

/-- The fault of a box. -/
def boxC (a b c d : Int) : Int := if okP a b = true ∧ okP c d = true then (if a ≤ c ∧ b ≤ d then 0 else 1) else 3
theorem boxC_0 {a b c d : Int} (h : okP a b = false) : boxC a b c d = 3 := by simp [boxC, h]
theorem boxC_1 {a b c d : Int} (h : okP c d = false) : boxC a b c d = 3 := by simp [boxC, h]
theorem boxC_ok {a b c d : Int} (h1 : okP a b = true) (h2 : okP c d = true) (h3 : a ≤ c) (h4 : b ≤ d) : boxC a b c d = 0 := by simp [boxC, h1, h2, h3, h4]
theorem boxC_form {a b c d : Int} (h1 : okP a b = true) (h2 : okP c d = true) (h3 : ¬ (a ≤ c ∧ b ≤ d)) : boxC a b c d = 1 := by
  unfold boxC; rw [if_pos ⟨h1, h2⟩, if_neg h3]

set_option maxHeartbeats 2000000 in
theorem boxFault_any (a b c d : Int) (w : World) : Calls Try.prog 28 #[.agg #[.int .i64 a, .int .i64 b, .int .i64 c, .int .i64 d]] w fun e w' => e = .returned (.int .i64 (boxC a b c d)) ∧ Below w.heap.size w w' := by
  by_cases hok : okP a b = true ∧ okP c d = true
  · have HN : Hid _ := codeN2_ok a b c d hok.1 hok.2
    have hu : Hid (boxC a b c d = if upB a b c d = true then 0 else 1) := by
      show _ = _
      unfold boxC upB
      rw [if_pos hok]
      simp
    clear hok
    cases hc : upB a b c d
    all_goals
      go_enter Try.func28, Try.ntmps28
      go_wp2_with fail
      generalize hV : ((w.alloc _).alloc _ : World) = V
      have hB0 : Below w.heap.size w V := by subst hV; (repeat (first | exact Below.refl _ _ | assumption | refine Below.drew ?_ | refine bl_alloc ?_ _ | refine bl_then ?_ (by assumption) | refine Below.setCell ?_ (by first | omega | (simp; done) | (simp; omega)) _ | refine bl_store ?_ ?_ _ _))
      have g0 : V.cell? ⟨w.heap.size + 1, 0, none⟩ = some (.int .i64 a) := by subst hV; simp [go_sem]
      have g1 : V.cell? ⟨w.heap.size + 1, 1, none⟩ = some (.int .i64 b) := by subst hV; simp [go_sem]
      have g2 : V.cell? ⟨w.heap.size + 1, 2, none⟩ = some (.int .i64 c) := by subst hV; simp [go_sem]
      have g3 : V.cell? ⟨w.heap.size + 1, 3, none⟩ = some (.int .i64 d) := by subst hV; simp [go_sem]
      have c0 : V.cell? ⟨w.heap.size, 0, none⟩ = some (.int .i64 a) := by subst hV; simp [go_sem]
      have c1 : V.cell? ⟨w.heap.size, 1, none⟩ = some (.int .i64 b) := by subst hV; simp [go_sem]
      have c2 : V.cell? ⟨w.heap.size, 2, none⟩ = some (.int .i64 c) := by subst hV; simp [go_sem]
      have c3 : V.cell? ⟨w.heap.size, 3, none⟩ = some (.int .i64 d) := by subst hV; simp [go_sem]
      clear hV
      refine (faultIn2 _ _ a b c d _ _ g0 g1 g2 g3 (by omega) HN.out).mono ?_
      rintro e W ⟨rfl, hbW⟩
      have e0 := (hbW.cell (World.block_lt_of_cell? _ _ c0)).trans c0
      have e1 := (hbW.cell (World.block_lt_of_cell? _ _ c1)).trans c1
      have e2 := (hbW.cell (World.block_lt_of_cell? _ _ c2)).trans c2
      have e3 := (hbW.cell (World.block_lt_of_cell? _ _ c3)).trans c3
      have hBW : Below w.heap.size w W := bl_then hB0 hbW
      clear g0 g1 g2 g3 c0 c1 c2 c3 hB0 hbW
      go_wp2_with (go_at_call 54; refine (isUpTo_any _ _ _ _ _).mono ?_; rintro e w' ⟨rfl, hb1⟩)
      go_ret
      exact ⟨ret_int (by rw [hu.out, hc]; rfl), by (repeat (first | exact Below.refl _ _ | assumption | refine Below.drew ?_ | refine bl_alloc ?_ _ | refine bl_then ?_ (by assumption) | refine Below.setCell ?_ (by first | omega | (simp; done) | (simp; omega)) _ | refine bl_store ?_ ?_ _ _))⟩
  · have HN : Hid (codeN 2 (fun i => if i = 0 then a else c) (fun i => if i = 0 then b else d) = 3) := by
      show _ = _
      by_cases h1 : okP a b = true
      · have h2 : okP c d = false := by cases h : okP c d with
          | true => exact absurd ⟨h1, h⟩ hok
          | false => rfl
        exact codeN2_1 a b c d h2
      · exact codeN2_0 a b c d (by simpa using h1)
    have hu : Hid (boxC a b c d = 3) := by show _ = _; unfold boxC; rw [if_neg hok]
    clear hok
    go_enter Try.func28, Try.ntmps28
    go_wp2_with fail
    generalize hV : ((w.alloc _).alloc _ : World) = V
    have hB0 : Below w.heap.size w V := by subst hV; (repeat (first | exact Below.refl _ _ | assumption | refine Below.drew ?_ | refine bl_alloc ?_ _ | refine bl_then ?_ (by assumption) | refine Below.setCell ?_ (by first | omega | (simp; done) | (simp; omega)) _ | refine bl_store ?_ ?_ _ _))
    have g0 : V.cell? ⟨w.heap.size + 1, 0, none⟩ = some (.int .i64 a) := by subst hV; simp [go_sem]
    have g1 : V.cell? ⟨w.heap.size + 1, 1, none⟩ = some (.int .i64 b) := by subst hV; simp [go_sem]
    have g2 : V.cell? ⟨w.heap.size + 1, 2, none⟩ = some (.int .i64 c) := by subst hV; simp [go_sem]
    have g3 : V.cell? ⟨w.heap.size + 1, 3, none⟩ = some (.int .i64 d) := by subst hV; simp [go_sem]
    clear hV
    refine (faultIn2 _ _ a b c d _ _ g0 g1 g2 g3 (by omega) HN.out).mono ?_
    rintro e W ⟨rfl, hbW⟩
    clear g0 g1 g2 g3
    go_wp2
    go_ret
    exact ⟨ret_int hu.out.symm, bl_then hB0 hbW⟩
set_option maxHeartbeats 4000000 in
theorem l5Box_any (p o : Nat) (a b c d : Int) (w : World) (h0 : w.cell? ⟨p, o, none⟩ = some (.int .i64 a)) (h1 : w.cell? ⟨p, o + 1, none⟩ = some (.int .i64 b)) (h2 : w.cell? ⟨p, o + 2, none⟩ = some (.int .i64 c)) (h3 : w.cell? ⟨p, o + 3, none⟩ = some (.int .i64 d)) :
    Calls Try.prog 22 #[.pointer (some ⟨p, o, none⟩)] w fun e w' => e = .returned (.int .i64 (boxC a b c d)) ∧ Below w.heap.size w w' := by
  have k0 : ∀ W', Below w.heap.size w W' → W'.cell? ⟨p, o, none⟩ = some (.int .i64 a) := fun W' h => (h.cell (World.block_lt_of_cell? _ _ h0)).trans h0
  have k1 : ∀ W', Below w.heap.size w W' → W'.cell? ⟨p, o + 1, none⟩ = some (.int .i64 b) := fun W' h => (h.cell (World.block_lt_of_cell? _ _ h1)).trans h1
  have k2 : ∀ W', Below w.heap.size w W' → W'.cell? ⟨p, o + 2, none⟩ = some (.int .i64 c) := fun W' h => (h.cell (World.block_lt_of_cell? _ _ h2)).trans h2
  have k3 : ∀ W', Below w.heap.size w W' → W'.cell? ⟨p, o + 3, none⟩ = some (.int .i64 d) := fun W' h => (h.cell (World.block_lt_of_cell? _ _ h3)).trans h3
  clear h0 h1 h2 h3
  have hr : Below w.heap.size w w := Below.refl _ _
  cases hq1 : okP a b
  · have hz : codeP a b = 3 := codeP_no hq1
    have HU : Hid (boxC a b c d = 3) := boxC_0 hq1
    go_enter Try.func22, Try.ntmps22
    go_wp2_with (go_at_call 46; refine (l1Fault_any _ _ _).mono ?_; rintro e w' ⟨rfl, hb1⟩; have hbn : Below w.heap.size w w' := (by (repeat (first | exact Below.refl _ _ | assumption | refine Below.drew ?_ | refine bl_alloc ?_ _ | refine bl_then ?_ (by assumption) | refine Below.setCell ?_ (by first | omega | (simp; done) | (simp; omega)) _ | refine bl_store ?_ ?_ _ _))))
    go_ret
    exact ⟨ret_int HU.out.symm, by (repeat (first | exact Below.refl _ _ | assumption | refine Below.drew ?_ | refine bl_alloc ?_ _ | refine bl_then ?_ (by assumption) | refine Below.setCell ?_ (by first | omega | (simp; done) | (simp; omega)) _ | refine bl_store ?_ ?_ _ _))⟩
  · have hz : codeP a b = 0 := codeP_ok hq1
    cases hq2 : okP c d
    · have hz2 : codeP c d = 3 := codeP_no hq2
      have HU : Hid (boxC a b c d = 3) := boxC_1 hq2
      go_enter Try.func22, Try.ntmps22
      go_wp2_with (go_at_call 46; refine (l1Fault_any _ _ _).mono ?_; rintro e w' ⟨rfl, hb1⟩; have hbn : Below w.heap.size w w' := (by (repeat (first | exact Below.refl _ _ | assumption | refine Below.drew ?_ | refine bl_alloc ?_ _ | refine bl_then ?_ (by assumption) | refine Below.setCell ?_ (by first | omega | (simp; done) | (simp; omega)) _ | refine bl_store ?_ ?_ _ _))))
      go_ret
      exact ⟨ret_int HU.out.symm, by (repeat (first | exact Below.refl _ _ | assumption | refine Below.drew ?_ | refine bl_alloc ?_ _ | refine bl_then ?_ (by assumption) | refine Below.setCell ?_ (by first | omega | (simp; done) | (simp; omega)) _ | refine bl_store ?_ ?_ _ _))⟩
    · have hz2 : codeP c d = 0 := codeP_ok hq2
      by_cases hx : c < a
      · have HU : Hid (boxC a b c d = 1) := boxC_form hq1 hq2 (by omega)
        go_enter Try.func22, Try.ntmps22
        go_wp2_with (go_at_call 46; refine (l1Fault_any _ _ _).mono ?_; rintro e w' ⟨rfl, hb1⟩; have hbn : Below w.heap.size w w' := (by (repeat (first | exact Below.refl _ _ | assumption | refine Below.drew ?_ | refine bl_alloc ?_ _ | refine bl_then ?_ (by assumption) | refine Below.setCell ?_ (by first | omega | (simp; done) | (simp; omega)) _ | refine bl_store ?_ ?_ _ _))))
        go_region
        go_wp2
        go_ret
        exact ⟨ret_int HU.out.symm, by (repeat (first | exact Below.refl _ _ | assumption | refine Below.drew ?_ | refine bl_alloc ?_ _ | refine bl_then ?_ (by assumption) | refine Below.setCell ?_ (by first | omega | (simp; done) | (simp; omega)) _ | refine bl_store ?_ ?_ _ _))⟩
      · have hx' : decide (c < a) = false := by simpa using hx
        by_cases hy : d < b
        · have HU : Hid (boxC a b c d = 1) := boxC_form hq1 hq2 (by omega)
          go_enter Try.func22, Try.ntmps22
          go_wp2_with (go_at_call 46; refine (l1Fault_any _ _ _).mono ?_; rintro e w' ⟨rfl, hb1⟩; have hbn : Below w.heap.size w w' := (by (repeat (first | exact Below.refl _ _ | assumption | refine Below.drew ?_ | refine bl_alloc ?_ _ | refine bl_then ?_ (by assumption) | refine Below.setCell ?_ (by first | omega | (simp; done) | (simp; omega)) _ | refine bl_store ?_ ?_ _ _))))
          go_region
          go_wp2
          go_ret
          exact ⟨ret_int HU.out.symm, by (repeat (first | exact Below.refl _ _ | assumption | refine Below.drew ?_ | refine bl_alloc ?_ _ | refine bl_then ?_ (by assumption) | refine Below.setCell ?_ (by first | omega | (simp; done) | (simp; omega)) _ | refine bl_store ?_ ?_ _ _))⟩
        · have hy' : decide (d < b) = false := by simpa using hy
          have HU : Hid (boxC a b c d = 0) := boxC_ok hq1 hq2 (by omega) (by omega)
          go_enter Try.func22, Try.ntmps22
          go_wp2_with (go_at_call 46; refine (l1Fault_any _ _ _).mono ?_; rintro e w' ⟨rfl, hb1⟩; have hbn : Below w.heap.size w w' := (by (repeat (first | exact Below.refl _ _ | assumption | refine Below.drew ?_ | refine bl_alloc ?_ _ | refine bl_then ?_ (by assumption) | refine Below.setCell ?_ (by first | omega | (simp; done) | (simp; omega)) _ | refine bl_store ?_ ?_ _ _))))
          go_region
          go_wp2
          go_ret
          exact ⟨ret_int HU.out.symm, by (repeat (first | exact Below.refl _ _ | assumption | refine Below.drew ?_ | refine bl_alloc ?_ _ | refine bl_then ?_ (by assumption) | refine Below.setCell ?_ (by first | omega | (simp; done) | (simp; omega)) _ | refine bl_store ?_ ?_ _ _))⟩
set_option maxHeartbeats 4000000 in
theorem hasEntry_any (b n cap N : Nat) (E : Nat → Ent) (t : Int) (w : World) (hnN : n ≤ N) (hg : EsAt w b 0 N E) (hbl : b < w.heap.size) (hn : n ≤ 1048576) :
    Calls Try.prog 68 #[.slice (some ⟨b, 0, none⟩) n cap, .int .i64 t] w fun e w' => ((e = .returned (.bool true) ∧ ∃ j, j < n ∧ (E j).id = t) ∨ (e = .returned (.bool false) ∧ ∀ j, j < n → (E j).id ≠ t)) ∧ Below w.heap.size w w' := by
  have HG : Hid (EsAt w b 0 N E) := hg
  clear hg
  go_enter Try.func68, Try.ntmps68
  go_wp2
  go_loopw [9] (fun v wr => ∃ k : Nat, k ≤ n ∧ v = .int .i64 k ∧ (∀ j, j < k → (E j).id ≠ t) ∧ Below w.heap.size w wr) (fun v _ => n - (intOf v).toNat)
  case atStart => exact ⟨0, by omega, rfl, by omega, Below.refl _ _⟩
  case round =>
    obtain ⟨k, hk, rfl, hA, hB⟩ := hrel
    have HB : Hid (Below w.heap.size w wr) := hB
    have HA : Hid (∀ j, j < k → (E j).id ≠ t) := hA
    by_cases hlt : k < n
    · obtain ⟨f0, f1, f2, f3, f4⟩ := (HG.out.below hB hbl) k (by omega)
      simp only [Nat.zero_add] at f0 f1 f2 f3 f4
      clear hB hA
      have hi : (k : Int) < (n : Int) := by omega
      have hi0 : (0 : Int) ≤ (k : Int) := by omega
      by_cases he : (E k).id = t
      · have he' : ((E k).id == t) = true := by simpa using he
        have HE : Hid ((E k).id = t) := he
        clear he
        go_wp2
        go_ret
        exact ⟨.inl ⟨rfl, k, hlt, HE.out⟩, by have HB' := HB.out; (repeat (first | exact Below.refl _ _ | assumption | refine Below.drew ?_ | refine bl_alloc ?_ _ | refine bl_then ?_ (by assumption) | refine Below.setCell ?_ (by first | omega | (simp; done) | (simp; omega)) _ | refine bl_store ?_ ?_ _ _))⟩
      · have he' : ((E k).id == t) = false := by simpa using he
        have HE : Hid ((E k).id ≠ t) := he
        clear he
        go_wp2
        go_roundw
        case rel => exact ⟨k + 1, by omega, by go_num, fun j hj => by
            by_cases e : j = k
            · rw [e]; exact HE.out
            · exact HA.out j (by omega), by have HB' := HB.out; (repeat (first | exact Below.refl _ _ | assumption | refine Below.drew ?_ | refine bl_alloc ?_ _ | refine bl_then ?_ (by assumption) | refine Below.setCell ?_ (by first | omega | (simp; done) | (simp; omega)) _ | refine bl_store ?_ ?_ _ _))⟩
        case measure => simp [intOf]; omega
    · go_wp2
      go_ret
      exact ⟨.inr ⟨rfl, fun j hj => hA j (by omega)⟩, hB⟩
end Go.Proofs.Ytjnhaigmfjndhaa
