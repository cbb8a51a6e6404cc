/- The law of FeatureFault: what it calls besides. -/
import Derived.Test.YtnbhpicdghgniaaDoorFe4
import Derived.Test.YtnbhpicdghgniaaDoorSz
namespace Go.Proofs.YtnbhpicdghgniaaDoor
open Go.RowKit
set_option linter.unusedSimpArgs false
set_option linter.unusedVariables false
set_option maxRecDepth 100000

/-- The value of a feature. -/
abbrev featV (id la ki wi : Int) (pts : Value) (lab : ByteArray) (pr : Int) : Value := .agg #[.int .i64 id, .int .i64 la, .int .i64 ki, .int .i64 wi, pts, .string lab, .int .i64 pr]

theorem PtsAt.store {W : World} {b off n : Nat} {X Y : Nat → Int} (h : PtsAt W b off n X Y) {r o : Nat} {v : Value} (hne : r ≠ b) : PtsAt (W.setCell ⟨r, o, none⟩ v) b off n X Y := fun i hi => by
  obtain ⟨h1, h2⟩ := h i hi
  refine ⟨?_, ?_⟩
  · rw [World.cell?_setCell_other]
    · exact h1
    · simp [hne]
  · rw [World.cell?_setCell_other]
    · exact h2
    · simp [hne]

theorem There.store {W : World} {b n : Nat} (h : There W b n) {r o : Nat} {v : Value} (hne : r ≠ b) : There (W.setCell ⟨r, o, none⟩ v) b n := fun i hi => by
  obtain ⟨u, hu⟩ := (h i hi).1
  refine ⟨⟨u, ?_⟩, by rw [World.frozen?_setCell]; exact (h i hi).2⟩
  rw [World.cell?_setCell_other]
  · exact hu
  · simp [hne]
set_option maxHeartbeats 2000000 in
theorem toFeature_own (id la ki wi : Int) (a : Option Addr) (n cap : Nat) (X Y : Nat → Int) (lab : ByteArray) (pr : Int) (w : World) (hpt : IsPts w a n X Y) (hn : n ≤ 1048576) :
    Calls Tryd.prog 7 #[.agg #[.int .i64 id, .int .i64 la, .int .i64 ki, .int .i64 wi, .slice a n cap, .string lab, .int .i64 pr]] w fun e w' => ∃ b, e = .returned (.agg #[.int .i64 id, .int .i64 la, .int .i64 ki, .int .i64 wi, .slice (some ⟨b, 0, none⟩) n n, .string lab, .int .i64 pr]) ∧ w.heap.size ≤ b ∧ b < w'.heap.size ∧ PtsAt w' b 0 n X Y ∧ There w' b (n * 2) ∧ Below w.heap.size w w' := by
  have HP : Hid (IsPts w a n X Y) := hpt
  clear hpt
  go_enter Tryd.func7, Tryd.ntmps7
  go_wp2_with fail
  generalize hW : (((w.alloc _).alloc _).alloc _ : World) = W
  have hB0 : Below w.heap.size w W := by subst hW; (repeat (first | exact Below.refl _ _ | assumption | refine Below.drew ?_ | refine bl_alloc ?_ _ | refine bl_then ?_ (by assumption) | refine Below.setCell ?_ (by first | omega | (simp; done) | (simp; omega)) _ | refine bl_store ?_ ?_ _ _))
  have hsz : W.heap.size = w.heap.size + 1 + 1 + 1 := by subst hW; simp
  have c5 : W.cell? ⟨w.heap.size, 5, none⟩ = some (.string lab) := by subst hW; simp [go_sem]
  have c6 : W.cell? ⟨w.heap.size, 6, none⟩ = some (.int .i64 pr) := by subst hW; simp [go_sem]
  have o0 : W.cell? ⟨w.heap.size + 1 + 1, 0, none⟩ = some (.int .i64 id) := by subst hW; simp [go_sem]
  have o1 : W.cell? ⟨w.heap.size + 1 + 1, 1, none⟩ = some (.int .i64 la) := by subst hW; simp [go_sem]
  have o2 : W.cell? ⟨w.heap.size + 1 + 1, 2, none⟩ = some (.int .i64 ki) := by subst hW; simp [go_sem]
  have o3 : W.cell? ⟨w.heap.size + 1 + 1, 3, none⟩ = some (.int .i64 wi) := by subst hW; simp [go_sem]
  have o4 : W.cell? ⟨w.heap.size + 1 + 1, 4, none⟩ = some (.slice none 0 0) := by subst hW; simp [go_sem]
  have o5 : W.cell? ⟨w.heap.size + 1 + 1, 5, none⟩ = some (.string ⟨#[]⟩) := by subst hW; simp [go_sem]
  have o6 : W.cell? ⟨w.heap.size + 1 + 1, 6, none⟩ = some (.int .i64 0) := by subst hW; simp [go_sem]
  have z0 : W.frozen? ⟨w.heap.size + 1 + 1, 0, none⟩ = false := by subst hW; simp [go_sem]
  have z1 : W.frozen? ⟨w.heap.size + 1 + 1, 1, none⟩ = false := by subst hW; simp [go_sem]
  have z2 : W.frozen? ⟨w.heap.size + 1 + 1, 2, none⟩ = false := by subst hW; simp [go_sem]
  have z3 : W.frozen? ⟨w.heap.size + 1 + 1, 3, none⟩ = false := by subst hW; simp [go_sem]
  have z4 : W.frozen? ⟨w.heap.size + 1 + 1, 4, none⟩ = false := by subst hW; simp [go_sem]
  have z5 : W.frozen? ⟨w.heap.size + 1 + 1, 5, none⟩ = false := by subst hW; simp [go_sem]
  have z6 : W.frozen? ⟨w.heap.size + 1 + 1, 6, none⟩ = false := by subst hW; simp [go_sem]
  have r0 : W.cell? ⟨w.heap.size + 1, 0, none⟩ = some (.int .i64 0) := by subst hW; simp [go_sem]
  have r1 : W.cell? ⟨w.heap.size + 1, 1, none⟩ = some (.int .i64 0) := by subst hW; simp [go_sem]
  have r2 : W.cell? ⟨w.heap.size + 1, 2, none⟩ = some (.int .i64 0) := by subst hW; simp [go_sem]
  have r3 : W.cell? ⟨w.heap.size + 1, 3, none⟩ = some (.int .i64 0) := by subst hW; simp [go_sem]
  have r4 : W.cell? ⟨w.heap.size + 1, 4, none⟩ = some (.slice none 0 0) := by subst hW; simp [go_sem]
  have r5 : W.cell? ⟨w.heap.size + 1, 5, none⟩ = some (.string ⟨#[]⟩) := by subst hW; simp [go_sem]
  have r6 : W.cell? ⟨w.heap.size + 1, 6, none⟩ = some (.int .i64 0) := by subst hW; simp [go_sem]
  have x0 : W.frozen? ⟨w.heap.size + 1, 0, none⟩ = false := by subst hW; simp [go_sem]
  have x1 : W.frozen? ⟨w.heap.size + 1, 1, none⟩ = false := by subst hW; simp [go_sem]
  have x2 : W.frozen? ⟨w.heap.size + 1, 2, none⟩ = false := by subst hW; simp [go_sem]
  have x3 : W.frozen? ⟨w.heap.size + 1, 3, none⟩ = false := by subst hW; simp [go_sem]
  have x4 : W.frozen? ⟨w.heap.size + 1, 4, none⟩ = false := by subst hW; simp [go_sem]
  have x5 : W.frozen? ⟨w.heap.size + 1, 5, none⟩ = false := by subst hW; simp [go_sem]
  have x6 : W.frozen? ⟨w.heap.size + 1, 6, none⟩ = false := by subst hW; simp [go_sem]
  clear hW
  refine (toPointS_own a n cap X Y W (HP.out.below hB0) hn).mono ?_
  rintro e w1 ⟨b, rfl, hle, hlt, hp, ht, hb⟩
  have hlw : w.heap.size < W.heap.size := by omega
  have hlo : w.heap.size + 1 + 1 < W.heap.size := by omega
  have d5 : w1.cell? ⟨w.heap.size, 5, none⟩ = some (.string lab) := (hb.cell (p := ⟨w.heap.size, 5, none⟩) hlw).trans c5
  have d6 : w1.cell? ⟨w.heap.size, 6, none⟩ = some (.int .i64 pr) := (hb.cell (p := ⟨w.heap.size, 6, none⟩) hlw).trans c6
  have q0 : w1.cell? ⟨w.heap.size + 1 + 1, 0, none⟩ = some (.int .i64 id) := (hb.cell (p := ⟨w.heap.size + 1 + 1, 0, none⟩) hlo).trans o0
  have q1 : w1.cell? ⟨w.heap.size + 1 + 1, 1, none⟩ = some (.int .i64 la) := (hb.cell (p := ⟨w.heap.size + 1 + 1, 1, none⟩) hlo).trans o1
  have q2 : w1.cell? ⟨w.heap.size + 1 + 1, 2, none⟩ = some (.int .i64 ki) := (hb.cell (p := ⟨w.heap.size + 1 + 1, 2, none⟩) hlo).trans o2
  have q3 : w1.cell? ⟨w.heap.size + 1 + 1, 3, none⟩ = some (.int .i64 wi) := (hb.cell (p := ⟨w.heap.size + 1 + 1, 3, none⟩) hlo).trans o3
  have q4 : w1.cell? ⟨w.heap.size + 1 + 1, 4, none⟩ = some (.slice none 0 0) := (hb.cell (p := ⟨w.heap.size + 1 + 1, 4, none⟩) hlo).trans o4
  have q5 : w1.cell? ⟨w.heap.size + 1 + 1, 5, none⟩ = some (.string ⟨#[]⟩) := (hb.cell (p := ⟨w.heap.size + 1 + 1, 5, none⟩) hlo).trans o5
  have q6 : w1.cell? ⟨w.heap.size + 1 + 1, 6, none⟩ = some (.int .i64 0) := (hb.cell (p := ⟨w.heap.size + 1 + 1, 6, none⟩) hlo).trans o6
  have y0 : w1.frozen? ⟨w.heap.size + 1 + 1, 0, none⟩ = false := (hb.frozen (p := ⟨w.heap.size + 1 + 1, 0, none⟩) hlo).trans z0
  have y1 : w1.frozen? ⟨w.heap.size + 1 + 1, 1, none⟩ = false := (hb.frozen (p := ⟨w.heap.size + 1 + 1, 1, none⟩) hlo).trans z1
  have y2 : w1.frozen? ⟨w.heap.size + 1 + 1, 2, none⟩ = false := (hb.frozen (p := ⟨w.heap.size + 1 + 1, 2, none⟩) hlo).trans z2
  have y3 : w1.frozen? ⟨w.heap.size + 1 + 1, 3, none⟩ = false := (hb.frozen (p := ⟨w.heap.size + 1 + 1, 3, none⟩) hlo).trans z3
  have y4 : w1.frozen? ⟨w.heap.size + 1 + 1, 4, none⟩ = false := (hb.frozen (p := ⟨w.heap.size + 1 + 1, 4, none⟩) hlo).trans z4
  have y5 : w1.frozen? ⟨w.heap.size + 1 + 1, 5, none⟩ = false := (hb.frozen (p := ⟨w.heap.size + 1 + 1, 5, none⟩) hlo).trans z5
  have y6 : w1.frozen? ⟨w.heap.size + 1 + 1, 6, none⟩ = false := (hb.frozen (p := ⟨w.heap.size + 1 + 1, 6, none⟩) hlo).trans z6
  have hl1 : w.heap.size + 1 < W.heap.size := by omega
  have s0 : w1.cell? ⟨w.heap.size + 1, 0, none⟩ = some (.int .i64 0) := (hb.cell (p := ⟨w.heap.size + 1, 0, none⟩) hl1).trans r0
  have s1 : w1.cell? ⟨w.heap.size + 1, 1, none⟩ = some (.int .i64 0) := (hb.cell (p := ⟨w.heap.size + 1, 1, none⟩) hl1).trans r1
  have s2 : w1.cell? ⟨w.heap.size + 1, 2, none⟩ = some (.int .i64 0) := (hb.cell (p := ⟨w.heap.size + 1, 2, none⟩) hl1).trans r2
  have s3 : w1.cell? ⟨w.heap.size + 1, 3, none⟩ = some (.int .i64 0) := (hb.cell (p := ⟨w.heap.size + 1, 3, none⟩) hl1).trans r3
  have s4 : w1.cell? ⟨w.heap.size + 1, 4, none⟩ = some (.slice none 0 0) := (hb.cell (p := ⟨w.heap.size + 1, 4, none⟩) hl1).trans r4
  have s5 : w1.cell? ⟨w.heap.size + 1, 5, none⟩ = some (.string ⟨#[]⟩) := (hb.cell (p := ⟨w.heap.size + 1, 5, none⟩) hl1).trans r5
  have s6 : w1.cell? ⟨w.heap.size + 1, 6, none⟩ = some (.int .i64 0) := (hb.cell (p := ⟨w.heap.size + 1, 6, none⟩) hl1).trans r6
  have t0 : w1.frozen? ⟨w.heap.size + 1, 0, none⟩ = false := (hb.frozen (p := ⟨w.heap.size + 1, 0, none⟩) hl1).trans x0
  have t1 : w1.frozen? ⟨w.heap.size + 1, 1, none⟩ = false := (hb.frozen (p := ⟨w.heap.size + 1, 1, none⟩) hl1).trans x1
  have t2 : w1.frozen? ⟨w.heap.size + 1, 2, none⟩ = false := (hb.frozen (p := ⟨w.heap.size + 1, 2, none⟩) hl1).trans x2
  have t3 : w1.frozen? ⟨w.heap.size + 1, 3, none⟩ = false := (hb.frozen (p := ⟨w.heap.size + 1, 3, none⟩) hl1).trans x3
  have t4 : w1.frozen? ⟨w.heap.size + 1, 4, none⟩ = false := (hb.frozen (p := ⟨w.heap.size + 1, 4, none⟩) hl1).trans x4
  have t5 : w1.frozen? ⟨w.heap.size + 1, 5, none⟩ = false := (hb.frozen (p := ⟨w.heap.size + 1, 5, none⟩) hl1).trans x5
  have t6 : w1.frozen? ⟨w.heap.size + 1, 6, none⟩ = false := (hb.frozen (p := ⟨w.heap.size + 1, 6, none⟩) hl1).trans x6
  have hne : w.heap.size + 1 + 1 ≠ b := by omega
  have hne1 : w.heap.size + 1 ≠ b := by omega
  have hS1 : w.heap.size ≤ w.heap.size + 1 := by omega
  have hS2 : w.heap.size ≤ w.heap.size + 1 + 1 := by omega
  have hge : w.heap.size ≤ b := by omega
  have HP1 : Hid (PtsAt w1 b 0 n X Y) := hp
  have HT1 : Hid (There w1 b (n * 2)) := ht
  clear ht
  have HB1 : Hid (Below w.heap.size w w1) := bl_then hB0 hb
  clear r0 r1 r2 r3 r4 r5 r6 x0 x1 x2 x3 x4 x5 x6 hl1 o0 o1 o2 o3 o4 o5 o6 z0 z1 z2 z3 z4 z5 z6 c5 c6 hp hb hB0 hsz hle hlw hlo
  go_wp2
  exact bodyPost_ret (v := .agg #[.int .i64 id, .int .i64 la, .int .i64 ki, .int .i64 wi, .slice (some ⟨b, 0, none⟩) n n, .string lab, .int .i64 pr]) (by simp [results, Tryd.results7, go_sem, *]) rfl ⟨b, rfl, hge, by simpa using hlt, ((((((((((HP1.out).store hne).store hne).store hne).store hne1).store hne1).store hne1).store hne1).store hne1).store hne1).store hne1, ((((((((((HT1.out).store hne).store hne).store hne).store hne1).store hne1).store hne1).store hne1).store hne1).store hne1).store hne1, ((((((((((HB1.out).setCell hS2 _).setCell hS2 _).setCell hS2 _).setCell hS1 _).setCell hS1 _).setCell hS1 _).setCell hS1 _).setCell hS1 _).setCell hS1 _).setCell hS1 _⟩
theorem toFeature_any (id la ki wi : Int) (a : Option Addr) (n cap : Nat) (X Y : Nat → Int) (lab : ByteArray) (pr : Int) (w : World) (hpt : IsPts w a n X Y) (hn : n ≤ 1048576) :
    Calls Tryd.prog 7 #[.agg #[.int .i64 id, .int .i64 la, .int .i64 ki, .int .i64 wi, .slice a n cap, .string lab, .int .i64 pr]] w fun e w' => ∃ b, e = .returned (.agg #[.int .i64 id, .int .i64 la, .int .i64 ki, .int .i64 wi, .slice (some ⟨b, 0, none⟩) n n, .string lab, .int .i64 pr]) ∧ w.heap.size ≤ b ∧ b < w'.heap.size ∧ PtsAt w' b 0 n X Y ∧ Below w.heap.size w w' :=
  (toFeature_own id la ki wi a n cap X Y lab pr w hpt hn).mono fun e w' ⟨b, h1, h2, h3, h4, _, h6⟩ => ⟨b, h1, h2, h3, h4, h6⟩
theorem szPointS_no (a : Option Addr) (n cap left : Nat) (w : World) (hl : left ≤ 1048576) (hn : left < n) (hm : n ≤ maxLen) :
    Calls Tryd.prog 16 #[.slice a n cap, .int .i64 left] w fun e w' => e = .returned (.int .i64 (-1)) ∧ w = w' := by
  unfold maxLen at hm
  have hneg : (left : Int) - (n : Int) < 0 := by omega
  go_enter Tryd.func16, Tryd.ntmps16
  go_wp2
  go_ret
  exact ⟨rfl, rfl⟩
theorem szPointS_ok (a : Option Addr) (n cap left : Nat) (w : World) (hl : left ≤ 1048576) (hn : n ≤ left) :
    Calls Tryd.prog 16 #[.slice a n cap, .int .i64 left] w fun e w' => e = .returned (.int .i64 ((left : Int) - (n : Int))) ∧ w = w' := by
  have hneg : ¬ (left : Int) - (n : Int) < 0 := by omega
  go_enter Tryd.func16, Tryd.ntmps16
  go_wp2
  go_ret
  exact ⟨rfl, rfl⟩
/-- What is left behind a feature; -1: nothing. -/
def szF (left n s : Nat) : Int := if left < n + s then -1 else (left : Int) - (n : Int) - (s : Int)
set_option maxHeartbeats 1000000 in
theorem szFeature_any (id la ki wi : Int) (a : Option Addr) (n cap : Nat) (lab : ByteArray) (pr : Int) (left : Nat) (w : World) (hl : left ≤ 1048576) (hn : n ≤ maxLen) (hs : lab.size ≤ maxLen) :
    Calls Tryd.prog 5 #[.agg #[.int .i64 id, .int .i64 la, .int .i64 ki, .int .i64 wi, .slice a n cap, .string lab, .int .i64 pr], .int .i64 left] w fun e w' => e = .returned (.int .i64 (szF left n lab.size)) ∧ Below w.heap.size w w' := by
  have hs' : lab.size ≤ 9223372036854775807 := by unfold maxLen at hs; omega
  clear hs
  by_cases h1 : left < n
  · have hz : Hid (szF left n lab.size = -1) := by show _ = _; unfold szF; rw [if_pos (by omega)]
    go_enter Tryd.func5, Tryd.ntmps5
    go_wp2_with (go_at_call 16; refine (szPointS_no _ _ _ _ _ hl h1 hn).mono ?_; rintro e w' ⟨rfl, rfl⟩)
    go_ret
    exact ⟨ret_int hz.out.symm, by (repeat (first | exact Below.refl _ _ | assumption | refine Below.drew ?_ | refine bl_alloc ?_ _ | refine bl_then ?_ (by assumption) | refine Below.setCell ?_ (by first | omega | (simp; done) | (simp; omega)) _ | refine bl_store ?_ ?_ _ _))⟩
  · have hge : n ≤ left := by omega
    have g1 : ¬ (left : Int) - (n : Int) < 0 := by omega
    by_cases h2 : left < n + lab.size
    · have hz : Hid (szF left n lab.size = -1) := by show _ = _; unfold szF; rw [if_pos h2]
      have g2 : (left : Int) - (n : Int) - (lab.size : Int) < 0 := by omega
      go_enter Tryd.func5, Tryd.ntmps5
      go_wp2_with (go_at_call 16; refine (szPointS_ok _ _ _ _ _ hl hge).mono ?_; rintro e w' ⟨rfl, rfl⟩)
      go_ret
      exact ⟨ret_int hz.out.symm, by (repeat (first | exact Below.refl _ _ | assumption | refine Below.drew ?_ | refine bl_alloc ?_ _ | refine bl_then ?_ (by assumption) | refine Below.setCell ?_ (by first | omega | (simp; done) | (simp; omega)) _ | refine bl_store ?_ ?_ _ _))⟩
    · have hz : Hid (szF left n lab.size = (left : Int) - (n : Int) - (lab.size : Int)) := by show _ = _; unfold szF; rw [if_neg h2]
      have g2 : ¬ (left : Int) - (n : Int) - (lab.size : Int) < 0 := by omega
      go_enter Tryd.func5, Tryd.ntmps5
      go_wp2_with (go_at_call 16; refine (szPointS_ok _ _ _ _ _ hl hge).mono ?_; rintro e w' ⟨rfl, rfl⟩)
      go_ret
      exact ⟨ret_int hz.out.symm, by (repeat (first | exact Below.refl _ _ | assumption | refine Below.drew ?_ | refine bl_alloc ?_ _ | refine bl_then ?_ (by assumption) | refine Below.setCell ?_ (by first | omega | (simp; done) | (simp; omega)) _ | refine bl_store ?_ ?_ _ _))⟩
set_option maxHeartbeats 2000000 in
theorem eqFeature_any (id la ki wi : Int) (n : Nat) (X Y : Nat → Int) (lab : ByteArray) (pr : Int) (b d : Nat) (w : World) (hp : PtsAt w b 0 n X Y) (hq : PtsAt w d 0 n X Y) (hb : b < w.heap.size) (hd : d < w.heap.size) (hmax : n ≤ 1048576) :
    Calls Tryd.prog 10 #[.agg #[.int .i64 id, .int .i64 la, .int .i64 ki, .int .i64 wi, .slice (some ⟨b, 0, none⟩) n n, .string lab, .int .i64 pr], .agg #[.int .i64 id, .int .i64 la, .int .i64 ki, .int .i64 wi, .slice (some ⟨d, 0, none⟩) n n, .string lab, .int .i64 pr]] w fun e w' => e = .returned (.bool true) ∧ Below w.heap.size w w' := by
  have HP : Hid (PtsAt w b 0 n X Y) := hp
  have HQ : Hid (PtsAt w d 0 n X Y) := hq
  clear hp hq
  go_enter Tryd.func10, Tryd.ntmps10
  go_wp2_with fail
  generalize hW : ((w.alloc _).alloc _ : World) = W
  have hB0 : Below w.heap.size w W := by subst hW; (repeat (first | exact Below.refl _ _ | assumption | refine Below.drew ?_ | refine bl_alloc ?_ _ | refine bl_then ?_ (by assumption) | refine Below.setCell ?_ (by first | omega | (simp; done) | (simp; omega)) _ | refine bl_store ?_ ?_ _ _))
  have hsz : W.heap.size = w.heap.size + 1 + 1 := by subst hW; simp
  have c5 : W.cell? ⟨w.heap.size, 5, none⟩ = some (.string lab) := by subst hW; simp [go_sem]
  have c6 : W.cell? ⟨w.heap.size, 6, none⟩ = some (.int .i64 pr) := by subst hW; simp [go_sem]
  have o5 : W.cell? ⟨w.heap.size + 1, 5, none⟩ = some (.string lab) := by subst hW; simp [go_sem]
  have o6 : W.cell? ⟨w.heap.size + 1, 6, none⟩ = some (.int .i64 pr) := by subst hW; simp [go_sem]
  clear hW
  refine (eqPointS_any b d n X Y W (HP.out.below hB0 hb) (HQ.out.below hB0 hd) (by omega) (by omega) hmax).mono ?_
  rintro e w1 ⟨rfl, hb1⟩
  have d5 := (hb1.cell (p := ⟨w.heap.size, 5, none⟩) (show w.heap.size < _ by omega)).trans c5
  have d6 := (hb1.cell (p := ⟨w.heap.size, 6, none⟩) (show w.heap.size < _ by omega)).trans c6
  have e5 := (hb1.cell (p := ⟨w.heap.size + 1, 5, none⟩) (show w.heap.size + 1 < _ by omega)).trans o5
  have e6 := (hb1.cell (p := ⟨w.heap.size + 1, 6, none⟩) (show w.heap.size + 1 < _ by omega)).trans o6
  have HB1 : Hid (Below w.heap.size w w1) := bl_then hB0 hb1
  clear c5 c6 o5 o6 hb1 hB0 hsz
  go_wp2
  go_ret
  exact ⟨rfl, HB1.out⟩

end Go.Proofs.YtnbhpicdghgniaaDoor
