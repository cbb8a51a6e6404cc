/- Whether two boxes have a pixel in common; the first of a list that overlaps one: the program and the model. -/
import Derived.Test.YtdohlnnbibnnbaaGreatVPlaceLabels39
import Derived.Test.YtdohlnnbibnnbaaGreatVPlaceLabels37
import Derived.BigQuiet
namespace Go.Proofs.YtdohlnnbibnnbaaGreat
open Go.RowKit
set_option linter.unusedSimpArgs false
set_option linter.unusedVariables false
set_option maxRecDepth 100000

/-- A box that has pixels. -/
def plB (e : Plc) : Bool := inB e.c 1 9999 && (inB e.d 1 9999 && (inB e.a (-9999) 9999 && inB e.b (-9999) 9999))
/-- They have a pixel in common. -/
def ovB (e f : Plc) : Bool := plB e && (plB f && (decide (e.a < f.a + f.c) && (decide (f.a < e.a + e.c) && (decide (e.b < f.b + f.d) && decide (f.b < e.b + e.d)))))
/-- Two ranges have something in common. -/
def meetB (a n b m : Int) : Bool := inB a (-9999) 9999 && (inB b (-9999) 9999 && (inB n 1 9999 && (inB m 1 9999 && (if a ≤ b then decide (b - a < n) else decide (a - b < m)))))
theorem meet_ov (e f : Plc) : (meetB e.a e.c f.a f.c && meetB e.b e.d f.b f.d) = ovB e f := by
  have key : ∀ a n b m : Int, 1 ≤ n → 1 ≤ m → (if a ≤ b then decide (b - a < n) else decide (a - b < m)) = (decide (a < b + m) && decide (b < a + n)) := fun a n b m hn hm => by
    rw [Bool.eq_iff_iff]
    by_cases h : a ≤ b
    · simp [h]; omega
    · simp [h]; omega
  unfold meetB ovB plB
  cases h1 : inB e.a (-9999) 9999
  · simp
  cases h2 : inB f.a (-9999) 9999
  · simp
  cases h3 : inB e.c 1 9999
  · simp
  cases h4 : inB f.c 1 9999
  · simp
  cases h5 : inB e.b (-9999) 9999
  · simp
  cases h6 : inB f.b (-9999) 9999
  · simp
  cases h7 : inB e.d 1 9999
  · simp
  cases h8 : inB f.d 1 9999
  · simp
  have g3 : 1 ≤ e.c := by simp [inB] at h3; exact h3.1
  have g4 : 1 ≤ f.c := by simp [inB] at h4; exact h4.1
  have g7 : 1 ≤ e.d := by simp [inB] at h7; exact h7.1
  have g8 : 1 ≤ f.d := by simp [inB] at h8; exact h8.1
  rw [key _ _ _ _ g3 g4, key _ _ _ _ g7 g8]
  simp [Bool.and_assoc]
theorem ov_sym (e f : Plc) : ovB e f = ovB f e := by
  unfold ovB
  cases plB e <;> cases plB f <;> simp
  rw [Bool.eq_iff_iff]
  simp
  constructor <;> (rintro ⟨h1, h2, h3, h4⟩; exact ⟨h2, h1, h4, h3⟩)
set_option maxHeartbeats 2000000 in
theorem isBox_any (e : Plc) (w : World) : Calls Tryz.prog 119 #[plcV e] w fun r w' => r = .returned (.bool (plB e)) ∧ Below w.heap.size w w' := by
  have hk : Hid (plB e = (inB e.c 1 9999 && (inB e.d 1 9999 && (inB e.a (-9999) 9999 && inB e.b (-9999) 9999)))) := rfl
  cases h1 : inB e.c 1 9999 <;> cases h2 : inB e.d 1 9999 <;> cases h3 : inB e.a (-9999) 9999
  all_goals
    rw [h1, h2, h3] at hk
    go_enter Tryz.func119, Tryz.ntmps119
    go_wp2_with (go_at_call 92; refine (isWithin_any _ _ _ _).mono ?_; rintro e w' ⟨rfl, rfl⟩)
    go_ret
    exact ⟨ret_bool (by rw [hk.out]; rfl), by (repeat (first | exact Below.refl _ _ | assumption | refine Below.drew ?_ | refine bl_alloc ?_ _ | refine bl_then ?_ (by assumption) | refine Below.setCell ?_ (by first | omega | (simp; done) | (simp; omega)) _ | refine bl_store ?_ ?_ _ _))⟩
set_option maxHeartbeats 4000000 in
theorem overlaps_any (e f : Plc) (w : World) : Calls Tryz.prog 82 #[plcV e, plcV f] w fun r w' => r = .returned (.bool (ovB e f)) ∧ Below w.heap.size w w' := by
  have hk : Hid (ovB e f = (plB e && (plB f && (decide (e.a < f.a + f.c) && (decide (f.a < e.a + e.c) && (decide (e.b < f.b + f.d) && decide (f.b < e.b + e.d))))))) := rfl
  have hbd : ∀ g : Plc, plB g = true → (1 ≤ g.c ∧ g.c ≤ 9999) ∧ (1 ≤ g.d ∧ g.d ≤ 9999) ∧ (-9999 ≤ g.a ∧ g.a ≤ 9999) ∧ (-9999 ≤ g.b ∧ g.b ≤ 9999) := fun g h => by
    simpa [plB, inB] using h
  have s1 := fun w => isBox_any e w
  have s2 := fun w => isBox_any f w
  cases h1 : plB e
  · rw [h1] at hk s1
    clear hbd s2
    go_enter Tryz.func82, Tryz.ntmps82
    go_wp2_with (go_at_call 119; refine (s1 _).mono ?_; rintro e w' ⟨rfl, hb⟩)
    go_ret
    exact ⟨ret_bool (by rw [hk.out]; rfl), by (repeat (first | exact Below.refl _ _ | assumption | refine Below.drew ?_ | refine bl_alloc ?_ _ | refine bl_then ?_ (by assumption) | refine Below.setCell ?_ (by first | omega | (simp; done) | (simp; omega)) _ | refine bl_store ?_ ?_ _ _))⟩
  cases h2 : plB f
  · rw [h1, h2] at hk
    rw [h1] at s1
    rw [h2] at s2
    clear hbd
    go_enter Tryz.func82, Tryz.ntmps82
    go_wp2_with fail
    generalize hW : ((w.alloc _).alloc _ : World) = W
    have HB0 : Hid (Below w.heap.size w W) := by show Below _ _ _; subst hW; (repeat (first | exact Below.refl _ _ | assumption | refine Below.drew ?_ | refine bl_alloc ?_ _ | refine bl_then ?_ (by assumption) | refine Below.setCell ?_ (by first | omega | (simp; done) | (simp; omega)) _ | refine bl_store ?_ ?_ _ _))
    have c00 : ∀ W', Below W.heap.size W W' → W'.cell? ⟨w.heap.size, 0, none⟩ = some (.int .i64 e.id) := fun W' h => by
      rw [h.cell (by subst hW; simp <;> omega)]; subst hW; simp [go_sem]
    have c01 : ∀ W', Below W.heap.size W W' → W'.cell? ⟨w.heap.size, 1, none⟩ = some (.int .i64 e.a) := fun W' h => by
      rw [h.cell (by subst hW; simp <;> omega)]; subst hW; simp [go_sem]
    have c02 : ∀ W', Below W.heap.size W W' → W'.cell? ⟨w.heap.size, 2, none⟩ = some (.int .i64 e.b) := fun W' h => by
      rw [h.cell (by subst hW; simp <;> omega)]; subst hW; simp [go_sem]
    have c03 : ∀ W', Below W.heap.size W W' → W'.cell? ⟨w.heap.size, 3, none⟩ = some (.int .i64 e.c) := fun W' h => by
      rw [h.cell (by subst hW; simp <;> omega)]; subst hW; simp [go_sem]
    have c04 : ∀ W', Below W.heap.size W W' → W'.cell? ⟨w.heap.size, 4, none⟩ = some (.int .i64 e.d) := fun W' h => by
      rw [h.cell (by subst hW; simp <;> omega)]; subst hW; simp [go_sem]
    have c10 : ∀ W', Below W.heap.size W W' → W'.cell? ⟨w.heap.size + 1, 0, none⟩ = some (.int .i64 f.id) := fun W' h => by
      rw [h.cell (by subst hW; simp <;> omega)]; subst hW; simp [go_sem]
    have c11 : ∀ W', Below W.heap.size W W' → W'.cell? ⟨w.heap.size + 1, 1, none⟩ = some (.int .i64 f.a) := fun W' h => by
      rw [h.cell (by subst hW; simp <;> omega)]; subst hW; simp [go_sem]
    have c12 : ∀ W', Below W.heap.size W W' → W'.cell? ⟨w.heap.size + 1, 2, none⟩ = some (.int .i64 f.b) := fun W' h => by
      rw [h.cell (by subst hW; simp <;> omega)]; subst hW; simp [go_sem]
    have c13 : ∀ W', Below W.heap.size W W' → W'.cell? ⟨w.heap.size + 1, 3, none⟩ = some (.int .i64 f.c) := fun W' h => by
      rw [h.cell (by subst hW; simp <;> omega)]; subst hW; simp [go_sem]
    have c14 : ∀ W', Below W.heap.size W W' → W'.cell? ⟨w.heap.size + 1, 4, none⟩ = some (.int .i64 f.d) := fun W' h => by
      rw [h.cell (by subst hW; simp <;> omega)]; subst hW; simp [go_sem]
    clear hW
    refine (s1 _).mono ?_
    rintro e w1 ⟨rfl, hb1⟩
    go_wp2_with fail
    refine (s2 _).mono ?_
    rintro e w2 ⟨rfl, hb2⟩
    go_wp2
    go_ret
    exact ⟨ret_bool (by rw [hk.out]; rfl), bl_then (bl_then HB0.out hb1) hb2⟩
  obtain ⟨⟨e1, e2⟩, ⟨e3, e4⟩, ⟨e5, e6⟩, e7, e8⟩ := hbd e h1
  obtain ⟨⟨f1, f2⟩, ⟨f3, f4⟩, ⟨f5, f6⟩, f7, f8⟩ := hbd f h2
  clear hbd
  rw [h1, h2] at hk
  rw [h1] at s1
  rw [h2] at s2
  go_enter Tryz.func82, Tryz.ntmps82
  go_wp2_with fail
  generalize hW : ((w.alloc _).alloc _ : World) = W
  have HB0 : Hid (Below w.heap.size w W) := by show Below _ _ _; subst hW; (repeat (first | exact Below.refl _ _ | assumption | refine Below.drew ?_ | refine bl_alloc ?_ _ | refine bl_then ?_ (by assumption) | refine Below.setCell ?_ (by first | omega | (simp; done) | (simp; omega)) _ | refine bl_store ?_ ?_ _ _))
  have c00 : ∀ W', Below W.heap.size W W' → W'.cell? ⟨w.heap.size, 0, none⟩ = some (.int .i64 e.id) := fun W' h => by
    rw [h.cell (by subst hW; simp <;> omega)]; subst hW; simp [go_sem]
  have c01 : ∀ W', Below W.heap.size W W' → W'.cell? ⟨w.heap.size, 1, none⟩ = some (.int .i64 e.a) := fun W' h => by
    rw [h.cell (by subst hW; simp <;> omega)]; subst hW; simp [go_sem]
  have c02 : ∀ W', Below W.heap.size W W' → W'.cell? ⟨w.heap.size, 2, none⟩ = some (.int .i64 e.b) := fun W' h => by
    rw [h.cell (by subst hW; simp <;> omega)]; subst hW; simp [go_sem]
  have c03 : ∀ W', Below W.heap.size W W' → W'.cell? ⟨w.heap.size, 3, none⟩ = some (.int .i64 e.c) := fun W' h => by
    rw [h.cell (by subst hW; simp <;> omega)]; subst hW; simp [go_sem]
  have c04 : ∀ W', Below W.heap.size W W' → W'.cell? ⟨w.heap.size, 4, none⟩ = some (.int .i64 e.d) := fun W' h => by
    rw [h.cell (by subst hW; simp <;> omega)]; subst hW; simp [go_sem]
  have c10 : ∀ W', Below W.heap.size W W' → W'.cell? ⟨w.heap.size + 1, 0, none⟩ = some (.int .i64 f.id) := fun W' h => by
    rw [h.cell (by subst hW; simp <;> omega)]; subst hW; simp [go_sem]
  have c11 : ∀ W', Below W.heap.size W W' → W'.cell? ⟨w.heap.size + 1, 1, none⟩ = some (.int .i64 f.a) := fun W' h => by
    rw [h.cell (by subst hW; simp <;> omega)]; subst hW; simp [go_sem]
  have c12 : ∀ W', Below W.heap.size W W' → W'.cell? ⟨w.heap.size + 1, 2, none⟩ = some (.int .i64 f.b) := fun W' h => by
    rw [h.cell (by subst hW; simp <;> omega)]; subst hW; simp [go_sem]
  have c13 : ∀ W', Below W.heap.size W W' → W'.cell? ⟨w.heap.size + 1, 3, none⟩ = some (.int .i64 f.c) := fun W' h => by
    rw [h.cell (by subst hW; simp <;> omega)]; subst hW; simp [go_sem]
  have c14 : ∀ W', Below W.heap.size W W' → W'.cell? ⟨w.heap.size + 1, 4, none⟩ = some (.int .i64 f.d) := fun W' h => by
    rw [h.cell (by subst hW; simp <;> omega)]; subst hW; simp [go_sem]
  clear hW
  refine (s1 _).mono ?_
  rintro _ w1 ⟨rfl, hb1⟩
  go_wp2_with fail
  refine (s2 _).mono ?_
  rintro _ w2 ⟨rfl, hb2⟩
  have hB2 : Below W.heap.size W w2 := bl_then hb1 hb2
  have HB2 : Hid (Below w.heap.size w w2) := bl_then HB0.out hB2
  clear hb1 hb2
  by_cases g1 : e.a < f.a + f.c
  · by_cases g2 : f.a < e.a + e.c
    · by_cases g3 : e.b < f.b + f.d
      · have hk2 : Hid (ovB e f = decide (f.b < e.b + e.d)) := by show _ = _; rw [hk.out]; simp [g1, g2, g3]
        go_wp2
        go_ret
        exact ⟨ret_bool hk2.out.symm, HB2.out⟩
      · have hk2 : Hid (ovB e f = false) := by show _ = _; rw [hk.out]; simp [g1, g2, g3]
        have g3' : decide (e.b < f.b + f.d) = false := by simpa using g3
        clear g3
        go_wp2
        go_ret
        exact ⟨ret_bool hk2.out.symm, HB2.out⟩
    · have hk2 : Hid (ovB e f = false) := by show _ = _; rw [hk.out]; simp [g1, g2]
      have g2' : decide (f.a < e.a + e.c) = false := by simpa using g2
      clear g2
      go_wp2
      go_ret
      exact ⟨ret_bool hk2.out.symm, HB2.out⟩
  · have hk2 : Hid (ovB e f = false) := by show _ = _; rw [hk.out]; simp [g1]
    have g1' : decide (e.a < f.a + f.c) = false := by simpa using g1
    clear g1
    go_wp2
    go_ret
    exact ⟨ret_bool hk2.out.symm, HB2.out⟩
theorem l10In_any (v : Int) (w : World) : Calls Tryz.prog 120 #[.int .i64 v] w fun e w' => e = .returned (.bool (inB v (-9999) 9999)) ∧ w' = w := by
  go_enter Tryz.func120, Tryz.ntmps120
  go_wp2_with (go_at_call 73; refine (l1In_any _ _ _ _).mono ?_; rintro e w' ⟨rfl, rfl⟩)
  go_ret
  exact ⟨rfl, rfl⟩
set_option maxHeartbeats 4000000 in
theorem l10Meet_any (a n b m : Int) (w : World) : Calls Tryz.prog 84 #[.int .i64 a, .int .i64 n, .int .i64 b, .int .i64 m] w fun e w' => e = .returned (.bool (meetB a n b m)) ∧ w' = w := by
  have hk : Hid (meetB a n b m = (inB a (-9999) 9999 && (inB b (-9999) 9999 && (inB n 1 9999 && (inB m 1 9999 && (if a ≤ b then decide (b - a < n) else decide (a - b < m))))))) := rfl
  cases h1 : inB a (-9999) 9999 <;> cases h2 : inB b (-9999) 9999 <;> cases h3 : inB n 1 9999 <;> cases h4 : inB m 1 9999
  case true.true.true.true =>
    have g1 : -9999 ≤ a ∧ a ≤ 9999 := by simpa [inB] using h1
    have g2 : -9999 ≤ b ∧ b ≤ 9999 := by simpa [inB] using h2
    obtain ⟨g3, g4⟩ := g1
    obtain ⟨g5, g6⟩ := g2
    rw [h1, h2, h3, h4] at hk
    go_enter Tryz.func84, Tryz.ntmps84
    by_cases hab : a ≤ b
    · have hk2 : Hid (meetB a n b m = decide (b - a < n)) := by show _ = _; rw [hk.out]; simp [hab]
      go_wp2_with (first
        | (go_at_call 120; refine (l10In_any _ _).mono ?_; rintro e w' ⟨rfl, rfl⟩)
        | (go_at_call 73; refine (l1In_any _ _ _ _).mono ?_; rintro e w' ⟨rfl, rfl⟩))
      go_ret
      exact ⟨ret_bool hk2.out.symm, rfl⟩
    · have hk2 : Hid (meetB a n b m = decide (a - b < m)) := by show _ = _; rw [hk.out]; simp [hab]
      go_wp2_with (first
        | (go_at_call 120; refine (l10In_any _ _).mono ?_; rintro e w' ⟨rfl, rfl⟩)
        | (go_at_call 73; refine (l1In_any _ _ _ _).mono ?_; rintro e w' ⟨rfl, rfl⟩))
      go_ret
      exact ⟨ret_bool hk2.out.symm, rfl⟩
  all_goals
    rw [h1, h2, h3, h4] at hk
    go_enter Tryz.func84, Tryz.ntmps84
    go_wp2_with (first
      | (go_at_call 120; refine (l10In_any _ _).mono ?_; rintro e w' ⟨rfl, rfl⟩)
      | (go_at_call 73; refine (l1In_any _ _ _ _).mono ?_; rintro e w' ⟨rfl, rfl⟩))
    go_ret
    exact ⟨ret_bool (by rw [hk.out]; rfl), rfl⟩
theorem l10Meet_q (a n b m : Int) (w : World) : Calls Tryz.prog 84 #[.int .i64 a, .int .i64 n, .int .i64 b, .int .i64 m] w fun e w' => e = .returned (.bool (meetB a n b m)) ∧ ∃ n, w' = w.drewN n :=
  (l10Meet_any a n b m w).mono fun e w' ⟨h1, h2⟩ => ⟨h1, 0, h2⟩
set_option maxHeartbeats 4000000 in
theorem l10Overlap_no (p q o o' : Nat) (e f : Plc) (w : World) (h : PlcAt w p o e) (h' : PlcAt w q o' f) (hp : p < w.heap.size) (hq : q < w.heap.size) (h1 : meetB e.a e.c f.a f.c = false) : Calls Tryz.prog 40 #[.pointer (some ⟨p, o, none⟩), .pointer (some ⟨q, o', none⟩)] w fun r w' => r = .returned (.bool (ovB e f)) ∧ Below w.heap.size w w' := by
  have hk : Hid (ovB e f = (meetB e.a e.c f.a f.c && meetB e.b e.d f.b f.d)) := (meet_ov e f).symm
  obtain ⟨p0, p1, p2, p3, p4⟩ := h
  obtain ⟨q0, q1, q2, q3, q4⟩ := h'
  rw [h1] at hk
  generalize e.a = ea at *
  generalize e.b = eb at *
  generalize e.c = ec at *
  generalize e.d = ed at *
  generalize f.a = fa at *
  generalize f.b = fb at *
  generalize f.c = fc at *
  generalize f.d = fd at *
  have s1 := fun w => l10Meet_q ea ec fa fc w
  rw [h1] at s1
  go_enter Tryz.func40, Tryz.ntmps40
  go_wp2_with fail
  go_quiet (first | (go_at_call 84; exact Calls.quiet_of (s1 _)))
  go_wp2
  go_ret
  exact ⟨ret_bool (by rw [hk.out]; rfl), below_drewN (Below.refl _ _) _⟩
set_option maxHeartbeats 4000000 in
theorem l10Overlap_yes (p q o o' : Nat) (e f : Plc) (w : World) (h : PlcAt w p o e) (h' : PlcAt w q o' f) (hp : p < w.heap.size) (hq : q < w.heap.size) (h1 : meetB e.a e.c f.a f.c = true) : Calls Tryz.prog 40 #[.pointer (some ⟨p, o, none⟩), .pointer (some ⟨q, o', none⟩)] w fun r w' => r = .returned (.bool (ovB e f)) ∧ Below w.heap.size w w' := by
  have hk : Hid (ovB e f = (meetB e.a e.c f.a f.c && meetB e.b e.d f.b f.d)) := (meet_ov e f).symm
  have P1 := fun W' (hb : Below w.heap.size w W') => h.below hb hp
  have Q1 := fun W' (hb : Below w.heap.size w W') => h'.below hb hq
  have p1 : ∀ W', Below w.heap.size w W' → W'.cell? ⟨p, o + 1, none⟩ = some (.int .i64 e.a) := fun W' hb => (P1 W' hb).2.1
  have p2 : ∀ W', Below w.heap.size w W' → W'.cell? ⟨p, o + 2, none⟩ = some (.int .i64 e.b) := fun W' hb => (P1 W' hb).2.2.1
  have p3 : ∀ W', Below w.heap.size w W' → W'.cell? ⟨p, o + 3, none⟩ = some (.int .i64 e.c) := fun W' hb => (P1 W' hb).2.2.2.1
  have p4 : ∀ W', Below w.heap.size w W' → W'.cell? ⟨p, o + 4, none⟩ = some (.int .i64 e.d) := fun W' hb => (P1 W' hb).2.2.2.2
  have q1 : ∀ W', Below w.heap.size w W' → W'.cell? ⟨q, o' + 1, none⟩ = some (.int .i64 f.a) := fun W' hb => (Q1 W' hb).2.1
  have q2 : ∀ W', Below w.heap.size w W' → W'.cell? ⟨q, o' + 2, none⟩ = some (.int .i64 f.b) := fun W' hb => (Q1 W' hb).2.2.1
  have q3 : ∀ W', Below w.heap.size w W' → W'.cell? ⟨q, o' + 3, none⟩ = some (.int .i64 f.c) := fun W' hb => (Q1 W' hb).2.2.2.1
  have q4 : ∀ W', Below w.heap.size w W' → W'.cell? ⟨q, o' + 4, none⟩ = some (.int .i64 f.d) := fun W' hb => (Q1 W' hb).2.2.2.2
  clear P1 Q1 h h'
  rw [h1] at hk
  have HH : Hid (meetB e.a e.c f.a f.c = true) := h1
  clear h1
  have hr : Below w.heap.size w w := Below.refl _ _
  have sM : ∀ (a n b m : Int) (w : World), Calls Tryz.prog 84 #[.int .i64 a, .int .i64 n, .int .i64 b, .int .i64 m] w fun e w' => e = .returned (.bool (meetB a n b m)) ∧ w = w' := fun a n b m w => (l10Meet_any a n b m w).mono fun _ _ h => ⟨h.1, h.2.symm⟩
  go_enter Tryz.func40, Tryz.ntmps40
  go_wp2_with fail
  go_region_held3 (fun W' => Below w.heap.size w W') ((repeat (first | exact Below.refl _ _ | assumption | refine Below.drew ?_ | refine bl_alloc ?_ _ | refine bl_then ?_ (by assumption) | refine Below.setCell ?_ (by first | omega | (simp; done) | (simp; omega)) _ | refine bl_store ?_ ?_ _ _)))
    (first
      | (go_at_call 84; refine (sM _ _ _ _ _).mono ?_; rintro e w1 ⟨rfl, rfl⟩; try rw [HH.out])
      | fail)
  go_wp2
  go_ret
  exact ⟨ret_bool (by rw [hk.out]; simp [HH.out]), by assumption⟩
theorem l10Overlap_any (p q o o' : Nat) (e f : Plc) (w : World) (h : PlcAt w p o e) (h' : PlcAt w q o' f) (hp : p < w.heap.size) (hq : q < w.heap.size) : Calls Tryz.prog 40 #[.pointer (some ⟨p, o, none⟩), .pointer (some ⟨q, o', none⟩)] w fun r w' => r = .returned (.bool (ovB e f)) ∧ Below w.heap.size w w' := by
  cases h1 : meetB e.a e.c f.a f.c
  · exact l10Overlap_no p q o o' e f w h h' hp hq h1
  · exact l10Overlap_yes p q o o' e f w h h' hp hq h1
end Go.Proofs.YtdohlnnbibnnbaaGreat
