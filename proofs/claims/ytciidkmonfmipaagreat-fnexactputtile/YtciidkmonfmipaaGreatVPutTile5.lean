/- Several texts in one. -/
import Derived.Test.YtciidkmonfmipaaGreatVPutTile1
import Derived.Test.YtciidkmonfmipaaGreatVPutTile4
import Derived.Deep.RegionHeld3

/- szPointS counts the points. -/

namespace Go.Proofs.YtciidkmonfmipaaGreat
open Go.RowKit
set_option linter.unusedSimpArgs false
set_option linter.unusedVariables false

end Go.Proofs.YtciidkmonfmipaaGreat
/- The law of FeatureFault: what it calls besides. -/

namespace Go.Proofs.YtciidkmonfmipaaGreat
open Go.RowKit
set_option linter.unusedSimpArgs false
set_option linter.unusedVariables false
set_option maxRecDepth 100000

theorem PtsAt.store {W : World} {b off n : Nat} {X Y : Nat → Int} (h : PtsAt W b off n X Y) {r o : Nat} {v : Value} (hne : r ≠ b) : PtsAt (W.setCell ⟨r, o, none⟩ v) b off n X Y := fun i hi => by
  obtain ⟨h1, h2⟩ := h i hi
  refine ⟨?_, ?_⟩
  · rw [World.cell?_setCell_other]
    · exact h1
    · simp [hne]
  · rw [World.cell?_setCell_other]
    · exact h2
    · simp [hne]

theorem There.store {W : World} {b n : Nat} (h : There W b n) {r o : Nat} {v : Value} (hne : r ≠ b) : There (W.setCell ⟨r, o, none⟩ v) b n := fun i hi => by
  obtain ⟨u, hu⟩ := (h i hi).1
  refine ⟨⟨u, ?_⟩, by rw [World.frozen?_setCell]; exact (h i hi).2⟩
  rw [World.cell?_setCell_other]
  · exact hu
  · simp [hne]
set_option maxHeartbeats 2000000 in
theorem toFeature_own (id la ki wi : Int) (a : Option Addr) (n cap : Nat) (X Y : Nat → Int) (lab : ByteArray) (pr : Int) (w : World) (hpt : IsPts w a n X Y) (hn : n ≤ 1048576) :
    Calls Tryz.prog 57 #[.agg #[.int .i64 id, .int .i64 la, .int .i64 ki, .int .i64 wi, .slice a n cap, .string lab, .int .i64 pr]] w fun e w' => ∃ b, e = .returned (.agg #[.int .i64 id, .int .i64 la, .int .i64 ki, .int .i64 wi, .slice (some ⟨b, 0, none⟩) n n, .string lab, .int .i64 pr]) ∧ w.heap.size ≤ b ∧ b < w'.heap.size ∧ PtsAt w' b 0 n X Y ∧ There w' b (n * 2) ∧ Below w.heap.size w w' := by
  have HP : Hid (IsPts w a n X Y) := hpt
  clear hpt
  go_enter Tryz.func57, Tryz.ntmps57
  go_wp2_with fail
  generalize hW : (((w.alloc _).alloc _).alloc _ : World) = W
  have hB0 : Below w.heap.size w W := by subst hW; (repeat (first | exact Below.refl _ _ | assumption | refine Below.drew ?_ | refine bl_alloc ?_ _ | refine bl_then ?_ (by assumption) | refine Below.setCell ?_ (by first | omega | (simp; done) | (simp; omega)) _ | refine bl_store ?_ ?_ _ _))
  have hsz : W.heap.size = w.heap.size + 1 + 1 + 1 := by subst hW; simp
  have c5 : W.cell? ⟨w.heap.size, 5, none⟩ = some (.string lab) := by subst hW; simp [go_sem]
  have c6 : W.cell? ⟨w.heap.size, 6, none⟩ = some (.int .i64 pr) := by subst hW; simp [go_sem]
  have o0 : W.cell? ⟨w.heap.size + 1 + 1, 0, none⟩ = some (.int .i64 id) := by subst hW; simp [go_sem]
  have o1 : W.cell? ⟨w.heap.size + 1 + 1, 1, none⟩ = some (.int .i64 la) := by subst hW; simp [go_sem]
  have o2 : W.cell? ⟨w.heap.size + 1 + 1, 2, none⟩ = some (.int .i64 ki) := by subst hW; simp [go_sem]
  have o3 : W.cell? ⟨w.heap.size + 1 + 1, 3, none⟩ = some (.int .i64 wi) := by subst hW; simp [go_sem]
  have o4 : W.cell? ⟨w.heap.size + 1 + 1, 4, none⟩ = some (.slice none 0 0) := by subst hW; simp [go_sem]
  have o5 : W.cell? ⟨w.heap.size + 1 + 1, 5, none⟩ = some (.string ⟨#[]⟩) := by subst hW; simp [go_sem]
  have o6 : W.cell? ⟨w.heap.size + 1 + 1, 6, none⟩ = some (.int .i64 0) := by subst hW; simp [go_sem]
  have z0 : W.frozen? ⟨w.heap.size + 1 + 1, 0, none⟩ = false := by subst hW; simp [go_sem]
  have z1 : W.frozen? ⟨w.heap.size + 1 + 1, 1, none⟩ = false := by subst hW; simp [go_sem]
  have z2 : W.frozen? ⟨w.heap.size + 1 + 1, 2, none⟩ = false := by subst hW; simp [go_sem]
  have z3 : W.frozen? ⟨w.heap.size + 1 + 1, 3, none⟩ = false := by subst hW; simp [go_sem]
  have z4 : W.frozen? ⟨w.heap.size + 1 + 1, 4, none⟩ = false := by subst hW; simp [go_sem]
  have z5 : W.frozen? ⟨w.heap.size + 1 + 1, 5, none⟩ = false := by subst hW; simp [go_sem]
  have z6 : W.frozen? ⟨w.heap.size + 1 + 1, 6, none⟩ = false := by subst hW; simp [go_sem]
  have r0 : W.cell? ⟨w.heap.size + 1, 0, none⟩ = some (.int .i64 0) := by subst hW; simp [go_sem]
  have r1 : W.cell? ⟨w.heap.size + 1, 1, none⟩ = some (.int .i64 0) := by subst hW; simp [go_sem]
  have r2 : W.cell? ⟨w.heap.size + 1, 2, none⟩ = some (.int .i64 0) := by subst hW; simp [go_sem]
  have r3 : W.cell? ⟨w.heap.size + 1, 3, none⟩ = some (.int .i64 0) := by subst hW; simp [go_sem]
  have r4 : W.cell? ⟨w.heap.size + 1, 4, none⟩ = some (.slice none 0 0) := by subst hW; simp [go_sem]
  have r5 : W.cell? ⟨w.heap.size + 1, 5, none⟩ = some (.string ⟨#[]⟩) := by subst hW; simp [go_sem]
  have r6 : W.cell? ⟨w.heap.size + 1, 6, none⟩ = some (.int .i64 0) := by subst hW; simp [go_sem]
  have x0 : W.frozen? ⟨w.heap.size + 1, 0, none⟩ = false := by subst hW; simp [go_sem]
  have x1 : W.frozen? ⟨w.heap.size + 1, 1, none⟩ = false := by subst hW; simp [go_sem]
  have x2 : W.frozen? ⟨w.heap.size + 1, 2, none⟩ = false := by subst hW; simp [go_sem]
  have x3 : W.frozen? ⟨w.heap.size + 1, 3, none⟩ = false := by subst hW; simp [go_sem]
  have x4 : W.frozen? ⟨w.heap.size + 1, 4, none⟩ = false := by subst hW; simp [go_sem]
  have x5 : W.frozen? ⟨w.heap.size + 1, 5, none⟩ = false := by subst hW; simp [go_sem]
  have x6 : W.frozen? ⟨w.heap.size + 1, 6, none⟩ = false := by subst hW; simp [go_sem]
  clear hW
  refine (toPointS_own a n cap X Y W (HP.out.below hB0) hn).mono ?_
  rintro e w1 ⟨b, rfl, hle, hlt, hp, ht, hb⟩
  have hlw : w.heap.size < W.heap.size := by omega
  have hlo : w.heap.size + 1 + 1 < W.heap.size := by omega
  have d5 : w1.cell? ⟨w.heap.size, 5, none⟩ = some (.string lab) := (hb.cell (p := ⟨w.heap.size, 5, none⟩) hlw).trans c5
  have d6 : w1.cell? ⟨w.heap.size, 6, none⟩ = some (.int .i64 pr) := (hb.cell (p := ⟨w.heap.size, 6, none⟩) hlw).trans c6
  have q0 : w1.cell? ⟨w.heap.size + 1 + 1, 0, none⟩ = some (.int .i64 id) := (hb.cell (p := ⟨w.heap.size + 1 + 1, 0, none⟩) hlo).trans o0
  have q1 : w1.cell? ⟨w.heap.size + 1 + 1, 1, none⟩ = some (.int .i64 la) := (hb.cell (p := ⟨w.heap.size + 1 + 1, 1, none⟩) hlo).trans o1
  have q2 : w1.cell? ⟨w.heap.size + 1 + 1, 2, none⟩ = some (.int .i64 ki) := (hb.cell (p := ⟨w.heap.size + 1 + 1, 2, none⟩) hlo).trans o2
  have q3 : w1.cell? ⟨w.heap.size + 1 + 1, 3, none⟩ = some (.int .i64 wi) := (hb.cell (p := ⟨w.heap.size + 1 + 1, 3, none⟩) hlo).trans o3
  have q4 : w1.cell? ⟨w.heap.size + 1 + 1, 4, none⟩ = some (.slice none 0 0) := (hb.cell (p := ⟨w.heap.size + 1 + 1, 4, none⟩) hlo).trans o4
  have q5 : w1.cell? ⟨w.heap.size + 1 + 1, 5, none⟩ = some (.string ⟨#[]⟩) := (hb.cell (p := ⟨w.heap.size + 1 + 1, 5, none⟩) hlo).trans o5
  have q6 : w1.cell? ⟨w.heap.size + 1 + 1, 6, none⟩ = some (.int .i64 0) := (hb.cell (p := ⟨w.heap.size + 1 + 1, 6, none⟩) hlo).trans o6
  have y0 : w1.frozen? ⟨w.heap.size + 1 + 1, 0, none⟩ = false := (hb.frozen (p := ⟨w.heap.size + 1 + 1, 0, none⟩) hlo).trans z0
  have y1 : w1.frozen? ⟨w.heap.size + 1 + 1, 1, none⟩ = false := (hb.frozen (p := ⟨w.heap.size + 1 + 1, 1, none⟩) hlo).trans z1
  have y2 : w1.frozen? ⟨w.heap.size + 1 + 1, 2, none⟩ = false := (hb.frozen (p := ⟨w.heap.size + 1 + 1, 2, none⟩) hlo).trans z2
  have y3 : w1.frozen? ⟨w.heap.size + 1 + 1, 3, none⟩ = false := (hb.frozen (p := ⟨w.heap.size + 1 + 1, 3, none⟩) hlo).trans z3
  have y4 : w1.frozen? ⟨w.heap.size + 1 + 1, 4, none⟩ = false := (hb.frozen (p := ⟨w.heap.size + 1 + 1, 4, none⟩) hlo).trans z4
  have y5 : w1.frozen? ⟨w.heap.size + 1 + 1, 5, none⟩ = false := (hb.frozen (p := ⟨w.heap.size + 1 + 1, 5, none⟩) hlo).trans z5
  have y6 : w1.frozen? ⟨w.heap.size + 1 + 1, 6, none⟩ = false := (hb.frozen (p := ⟨w.heap.size + 1 + 1, 6, none⟩) hlo).trans z6
  have hl1 : w.heap.size + 1 < W.heap.size := by omega
  have s0 : w1.cell? ⟨w.heap.size + 1, 0, none⟩ = some (.int .i64 0) := (hb.cell (p := ⟨w.heap.size + 1, 0, none⟩) hl1).trans r0
  have s1 : w1.cell? ⟨w.heap.size + 1, 1, none⟩ = some (.int .i64 0) := (hb.cell (p := ⟨w.heap.size + 1, 1, none⟩) hl1).trans r1
  have s2 : w1.cell? ⟨w.heap.size + 1, 2, none⟩ = some (.int .i64 0) := (hb.cell (p := ⟨w.heap.size + 1, 2, none⟩) hl1).trans r2
  have s3 : w1.cell? ⟨w.heap.size + 1, 3, none⟩ = some (.int .i64 0) := (hb.cell (p := ⟨w.heap.size + 1, 3, none⟩) hl1).trans r3
  have s4 : w1.cell? ⟨w.heap.size + 1, 4, none⟩ = some (.slice none 0 0) := (hb.cell (p := ⟨w.heap.size + 1, 4, none⟩) hl1).trans r4
  have s5 : w1.cell? ⟨w.heap.size + 1, 5, none⟩ = some (.string ⟨#[]⟩) := (hb.cell (p := ⟨w.heap.size + 1, 5, none⟩) hl1).trans r5
  have s6 : w1.cell? ⟨w.heap.size + 1, 6, none⟩ = some (.int .i64 0) := (hb.cell (p := ⟨w.heap.size + 1, 6, none⟩) hl1).trans r6
  have t0 : w1.frozen? ⟨w.heap.size + 1, 0, none⟩ = false := (hb.frozen (p := ⟨w.heap.size + 1, 0, none⟩) hl1).trans x0
  have t1 : w1.frozen? ⟨w.heap.size + 1, 1, none⟩ = false := (hb.frozen (p := ⟨w.heap.size + 1, 1, none⟩) hl1).trans x1
  have t2 : w1.frozen? ⟨w.heap.size + 1, 2, none⟩ = false := (hb.frozen (p := ⟨w.heap.size + 1, 2, none⟩) hl1).trans x2
  have t3 : w1.frozen? ⟨w.heap.size + 1, 3, none⟩ = false := (hb.frozen (p := ⟨w.heap.size + 1, 3, none⟩) hl1).trans x3
  have t4 : w1.frozen? ⟨w.heap.size + 1, 4, none⟩ = false := (hb.frozen (p := ⟨w.heap.size + 1, 4, none⟩) hl1).trans x4
  have t5 : w1.frozen? ⟨w.heap.size + 1, 5, none⟩ = false := (hb.frozen (p := ⟨w.heap.size + 1, 5, none⟩) hl1).trans x5
  have t6 : w1.frozen? ⟨w.heap.size + 1, 6, none⟩ = false := (hb.frozen (p := ⟨w.heap.size + 1, 6, none⟩) hl1).trans x6
  have hne : w.heap.size + 1 + 1 ≠ b := by omega
  have hne1 : w.heap.size + 1 ≠ b := by omega
  have hS1 : w.heap.size ≤ w.heap.size + 1 := by omega
  have hS2 : w.heap.size ≤ w.heap.size + 1 + 1 := by omega
  have hge : w.heap.size ≤ b := by omega
  have HP1 : Hid (PtsAt w1 b 0 n X Y) := hp
  have HT1 : Hid (There w1 b (n * 2)) := ht
  clear ht
  have HB1 : Hid (Below w.heap.size w w1) := bl_then hB0 hb
  clear r0 r1 r2 r3 r4 r5 r6 x0 x1 x2 x3 x4 x5 x6 hl1 o0 o1 o2 o3 o4 o5 o6 z0 z1 z2 z3 z4 z5 z6 c5 c6 hp hb hB0 hsz hle hlw hlo
  go_wp2
  exact bodyPost_ret (v := .agg #[.int .i64 id, .int .i64 la, .int .i64 ki, .int .i64 wi, .slice (some ⟨b, 0, none⟩) n n, .string lab, .int .i64 pr]) (by simp [results, Tryz.results57, go_sem, *]) rfl ⟨b, rfl, hge, by simpa using hlt, ((((((((((HP1.out).store hne).store hne).store hne).store hne1).store hne1).store hne1).store hne1).store hne1).store hne1).store hne1, ((((((((((HT1.out).store hne).store hne).store hne).store hne1).store hne1).store hne1).store hne1).store hne1).store hne1).store hne1, ((((((((((HB1.out).setCell hS2 _).setCell hS2 _).setCell hS2 _).setCell hS1 _).setCell hS1 _).setCell hS1 _).setCell hS1 _).setCell hS1 _).setCell hS1 _).setCell hS1 _⟩
theorem szPointS_no (a : Option Addr) (n cap left : Nat) (w : World) (hl : left ≤ 1048576) (hn : left < n) (hm : n ≤ maxLen) :
    Calls Tryz.prog 79 #[.slice a n cap, .int .i64 left] w fun e w' => e = .returned (.int .i64 (-1)) ∧ w = w' := by
  unfold maxLen at hm
  have hneg : (left : Int) - (n : Int) < 0 := by omega
  go_enter Tryz.func79, Tryz.ntmps79
  go_wp2
  go_ret
  exact ⟨rfl, rfl⟩
theorem szPointS_ok (a : Option Addr) (n cap left : Nat) (w : World) (hl : left ≤ 1048576) (hn : n ≤ left) :
    Calls Tryz.prog 79 #[.slice a n cap, .int .i64 left] w fun e w' => e = .returned (.int .i64 ((left : Int) - (n : Int))) ∧ w = w' := by
  have hneg : ¬ (left : Int) - (n : Int) < 0 := by omega
  go_enter Tryz.func79, Tryz.ntmps79
  go_wp2
  go_ret
  exact ⟨rfl, rfl⟩
/-- What is left behind a feature; -1: nothing. -/
def szF (left n s : Nat) : Int := if left < n + s then -1 else (left : Int) - (n : Int) - (s : Int)
set_option maxHeartbeats 1000000 in
theorem szFeature_any (id la ki wi : Int) (a : Option Addr) (n cap : Nat) (lab : ByteArray) (pr : Int) (left : Nat) (w : World) (hl : left ≤ 1048576) (hn : n ≤ maxLen) (hs : lab.size ≤ maxLen) :
    Calls Tryz.prog 48 #[.agg #[.int .i64 id, .int .i64 la, .int .i64 ki, .int .i64 wi, .slice a n cap, .string lab, .int .i64 pr], .int .i64 left] w fun e w' => e = .returned (.int .i64 (szF left n lab.size)) ∧ Below w.heap.size w w' := by
  have hs' : lab.size ≤ 9223372036854775807 := by unfold maxLen at hs; omega
  clear hs
  by_cases h1 : left < n
  · have hz : Hid (szF left n lab.size = -1) := by show _ = _; unfold szF; rw [if_pos (by omega)]
    go_enter Tryz.func48, Tryz.ntmps48
    go_wp2_with (go_at_call 79; refine (szPointS_no _ _ _ _ _ hl h1 hn).mono ?_; rintro e w' ⟨rfl, rfl⟩)
    go_ret
    exact ⟨ret_int hz.out.symm, by (repeat (first | exact Below.refl _ _ | assumption | refine Below.drew ?_ | refine bl_alloc ?_ _ | refine bl_then ?_ (by assumption) | refine Below.setCell ?_ (by first | omega | (simp; done) | (simp; omega)) _ | refine bl_store ?_ ?_ _ _))⟩
  · have hge : n ≤ left := by omega
    have g1 : ¬ (left : Int) - (n : Int) < 0 := by omega
    by_cases h2 : left < n + lab.size
    · have hz : Hid (szF left n lab.size = -1) := by show _ = _; unfold szF; rw [if_pos h2]
      have g2 : (left : Int) - (n : Int) - (lab.size : Int) < 0 := by omega
      go_enter Tryz.func48, Tryz.ntmps48
      go_wp2_with (go_at_call 79; refine (szPointS_ok _ _ _ _ _ hl hge).mono ?_; rintro e w' ⟨rfl, rfl⟩)
      go_ret
      exact ⟨ret_int hz.out.symm, by (repeat (first | exact Below.refl _ _ | assumption | refine Below.drew ?_ | refine bl_alloc ?_ _ | refine bl_then ?_ (by assumption) | refine Below.setCell ?_ (by first | omega | (simp; done) | (simp; omega)) _ | refine bl_store ?_ ?_ _ _))⟩
    · have hz : Hid (szF left n lab.size = (left : Int) - (n : Int) - (lab.size : Int)) := by show _ = _; unfold szF; rw [if_neg h2]
      have g2 : ¬ (left : Int) - (n : Int) - (lab.size : Int) < 0 := by omega
      go_enter Tryz.func48, Tryz.ntmps48
      go_wp2_with (go_at_call 79; refine (szPointS_ok _ _ _ _ _ hl hge).mono ?_; rintro e w' ⟨rfl, rfl⟩)
      go_ret
      exact ⟨ret_int hz.out.symm, by (repeat (first | exact Below.refl _ _ | assumption | refine Below.drew ?_ | refine bl_alloc ?_ _ | refine bl_then ?_ (by assumption) | refine Below.setCell ?_ (by first | omega | (simp; done) | (simp; omega)) _ | refine bl_store ?_ ?_ _ _))⟩
set_option maxHeartbeats 2000000 in
theorem eqFeature_any (id la ki wi : Int) (n : Nat) (X Y : Nat → Int) (lab : ByteArray) (pr : Int) (b d : Nat) (w : World) (hp : PtsAt w b 0 n X Y) (hq : PtsAt w d 0 n X Y) (hb : b < w.heap.size) (hd : d < w.heap.size) (hmax : n ≤ 1048576) :
    Calls Tryz.prog 72 #[.agg #[.int .i64 id, .int .i64 la, .int .i64 ki, .int .i64 wi, .slice (some ⟨b, 0, none⟩) n n, .string lab, .int .i64 pr], .agg #[.int .i64 id, .int .i64 la, .int .i64 ki, .int .i64 wi, .slice (some ⟨d, 0, none⟩) n n, .string lab, .int .i64 pr]] w fun e w' => e = .returned (.bool true) ∧ Below w.heap.size w w' := by
  have HP : Hid (PtsAt w b 0 n X Y) := hp
  have HQ : Hid (PtsAt w d 0 n X Y) := hq
  clear hp hq
  go_enter Tryz.func72, Tryz.ntmps72
  go_wp2_with fail
  generalize hW : ((w.alloc _).alloc _ : World) = W
  have hB0 : Below w.heap.size w W := by subst hW; (repeat (first | exact Below.refl _ _ | assumption | refine Below.drew ?_ | refine bl_alloc ?_ _ | refine bl_then ?_ (by assumption) | refine Below.setCell ?_ (by first | omega | (simp; done) | (simp; omega)) _ | refine bl_store ?_ ?_ _ _))
  have hsz : W.heap.size = w.heap.size + 1 + 1 := by subst hW; simp
  have c5 : W.cell? ⟨w.heap.size, 5, none⟩ = some (.string lab) := by subst hW; simp [go_sem]
  have c6 : W.cell? ⟨w.heap.size, 6, none⟩ = some (.int .i64 pr) := by subst hW; simp [go_sem]
  have o5 : W.cell? ⟨w.heap.size + 1, 5, none⟩ = some (.string lab) := by subst hW; simp [go_sem]
  have o6 : W.cell? ⟨w.heap.size + 1, 6, none⟩ = some (.int .i64 pr) := by subst hW; simp [go_sem]
  clear hW
  refine (eqPointS_any b d n X Y W (HP.out.below hB0 hb) (HQ.out.below hB0 hd) (by omega) (by omega) hmax).mono ?_
  rintro e w1 ⟨rfl, hb1⟩
  have d5 := (hb1.cell (p := ⟨w.heap.size, 5, none⟩) (show w.heap.size < _ by omega)).trans c5
  have d6 := (hb1.cell (p := ⟨w.heap.size, 6, none⟩) (show w.heap.size < _ by omega)).trans c6
  have e5 := (hb1.cell (p := ⟨w.heap.size + 1, 5, none⟩) (show w.heap.size + 1 < _ by omega)).trans o5
  have e6 := (hb1.cell (p := ⟨w.heap.size + 1, 6, none⟩) (show w.heap.size + 1 < _ by omega)).trans o6
  have HB1 : Hid (Below w.heap.size w w1) := bl_then hB0 hb1
  clear c5 c6 o5 o6 hb1 hB0 hsz
  go_wp2
  go_ret
  exact ⟨rfl, HB1.out⟩

end Go.Proofs.YtciidkmonfmipaaGreat
/- Two stores, read back. -/

namespace Go.Proofs.YtciidkmonfmipaaGreat
open Go.RowKit
theorem set1_other {W : World} {a p : Addr} {u : Value} (h : a ≠ p) : (W.setCell a u).cell? p = W.cell? p := World.cell?_setCell_other _ _ _ _ h
theorem set1_same {W : World} {a : Addr} {u x : Value} (h : W.cell? a = some x) : (W.setCell a u).cell? a = some u := World.cell?_setCell_same _ _ _ h
theorem set2_at {W : World} {r i j : Nat} {u v : Value} (hij : i ≠ j) (h0 : (W.cell? ⟨r, i, none⟩).isSome = true) (h1 : (W.cell? ⟨r, j, none⟩).isSome = true) :
    ((W.setCell ⟨r, i, none⟩ u).setCell ⟨r, j, none⟩ v).cell? ⟨r, i, none⟩ = some u ∧ ((W.setCell ⟨r, i, none⟩ u).setCell ⟨r, j, none⟩ v).cell? ⟨r, j, none⟩ = some v := by
  obtain ⟨x, hx⟩ := Option.isSome_iff_exists.1 h0
  obtain ⟨y, hy⟩ := Option.isSome_iff_exists.1 h1
  have n1 : (⟨r, i, none⟩ : Addr) ≠ ⟨r, j, none⟩ := fun h => hij (by injection h)
  have n2 : (⟨r, j, none⟩ : Addr) ≠ ⟨r, i, none⟩ := fun h => n1 h.symm
  refine ⟨?_, ?_⟩
  · rw [set1_other n2]; exact set1_same hx
  · exact set1_same (by rw [set1_other n1]; exact hy)
/-- Four stores into one block, read back. -/
theorem set4_at {W : World} {r : Nat} {a b c d : Value} (hT : There W r 4) :
    ((((W.setCell ⟨r, 0, none⟩ a).setCell ⟨r, 1, none⟩ b).setCell ⟨r, 2, none⟩ c).setCell ⟨r, 3, none⟩ d).cell? ⟨r, 0, none⟩ = some a ∧
    ((((W.setCell ⟨r, 0, none⟩ a).setCell ⟨r, 1, none⟩ b).setCell ⟨r, 2, none⟩ c).setCell ⟨r, 3, none⟩ d).cell? ⟨r, 1, none⟩ = some b ∧
    ((((W.setCell ⟨r, 0, none⟩ a).setCell ⟨r, 1, none⟩ b).setCell ⟨r, 2, none⟩ c).setCell ⟨r, 3, none⟩ d).cell? ⟨r, 2, none⟩ = some c ∧
    ((((W.setCell ⟨r, 0, none⟩ a).setCell ⟨r, 1, none⟩ b).setCell ⟨r, 2, none⟩ c).setCell ⟨r, 3, none⟩ d).cell? ⟨r, 3, none⟩ = some d := by
  obtain ⟨x0, h0⟩ := (hT 0 (by omega)).1
  obtain ⟨x1, h1⟩ := (hT 1 (by omega)).1
  obtain ⟨x2, h2⟩ := (hT 2 (by omega)).1
  obtain ⟨x3, h3⟩ := (hT 3 (by omega)).1
  have ne : ∀ i j : Nat, i ≠ j → (⟨r, i, none⟩ : Addr) ≠ ⟨r, j, none⟩ := fun i j hij h => hij (by injection h)
  refine ⟨?_, ?_, ?_, ?_⟩
  · rw [set1_other (ne 3 0 (by omega)), set1_other (ne 2 0 (by omega)), set1_other (ne 1 0 (by omega))]; exact set1_same h0
  · rw [set1_other (ne 3 1 (by omega)), set1_other (ne 2 1 (by omega))]; exact set1_same (by rw [set1_other (ne 0 1 (by omega))]; exact h1)
  · rw [set1_other (ne 3 2 (by omega))]; exact set1_same (by rw [set1_other (ne 1 2 (by omega)), set1_other (ne 0 2 (by omega))]; exact h2)
  · exact set1_same (by rw [set1_other (ne 2 3 (by omega)), set1_other (ne 1 3 (by omega)), set1_other (ne 0 3 (by omega))]; exact h3)
end Go.Proofs.YtciidkmonfmipaaGreat
/- Lists of features: how they lie in memory; the copy of a list; its size. -/

namespace Go.Proofs.YtciidkmonfmipaaGreat
open Go.RowKit
set_option linter.unusedSimpArgs false
set_option linter.unusedVariables false
set_option maxRecDepth 100000

/-- A feature as it lies: its numbers, where its points are, its points, its label. -/
structure Feat where
  id : Int
  la : Int
  ki : Int
  wi : Int
  a : Option Addr
  n : Nat
  cap : Nat
  X : Nat → Int
  Y : Nat → Int
  lab : ByteArray
  pr : Int
/-- From the address on lie n features. -/
def FsAt (w : World) (b off n : Nat) (F : Nat → Feat) : Prop :=
  ∀ i, i < n → FeatAt w b (off + i * 7) (F i).id (F i).la (F i).ki (F i).wi (.slice (F i).a (F i).n (F i).cap) (F i).lab (F i).pr ∧ IsPts w (F i).a (F i).n (F i).X (F i).Y
theorem FsAt.below {w w' : World} {b off n : Nat} {F : Nat → Feat} (h : FsAt w b off n F) (hb : Below w.heap.size w w') (hl : b < w.heap.size) : FsAt w' b off n F := fun i hi =>
  ⟨(h i hi).1.below hb hl, (h i hi).2.below hb⟩
def IsFs (w : World) (a : Option Addr) (n : Nat) (F : Nat → Feat) : Prop := n = 0 ∨ ∃ b off, a = some ⟨b, off, none⟩ ∧ b < w.heap.size ∧ FsAt w b off n F
theorem IsFs.below {w w' : World} {a : Option Addr} {n : Nat} {F : Nat → Feat} (h : IsFs w a n F) (hb : Below w.heap.size w w') : IsFs w' a n F := by
  rcases h with h | ⟨b, off, e, hl, hp⟩
  · exact .inl h
  · exact .inr ⟨b, off, e, Nat.lt_of_lt_of_le hl hb.size, hp.below hb hl⟩
/-- The same feature, wherever its points lie. -/
def Feat.same (f g : Feat) : Prop := f.id = g.id ∧ f.la = g.la ∧ f.ki = g.ki ∧ f.wi = g.wi ∧ f.n = g.n ∧ f.X = g.X ∧ f.Y = g.Y ∧ f.lab = g.lab ∧ f.pr = g.pr
/-- A list of its own: block b, and each feature's points in a block of their own, from B on. -/
def OwnFs (w : World) (B b n : Nat) (F G : Nat → Feat) : Prop :=
  B ≤ b ∧ b < w.heap.size ∧ FsAt w b 0 n G ∧ ∀ i, i < n → (G i).same (F i) ∧ ∃ q, (G i).a = some ⟨q, 0, none⟩ ∧ (G i).cap = (G i).n ∧ q ≠ b ∧ B ≤ q ∧ q < w.heap.size ∧ PtsAt w q 0 (G i).n (G i).X (G i).Y
theorem OwnFs.below {w w' : World} {B b n : Nat} {F G : Nat → Feat} (h : OwnFs w B b n F G) (hb : Below w.heap.size w w') : OwnFs w' B b n F G := by
  obtain ⟨h1, h2, h3, h4⟩ := h
  refine ⟨h1, Nat.lt_of_lt_of_le h2 hb.size, h3.below hb h2, fun i hi => ?_⟩
  obtain ⟨e, q, e1, e2, e3, e4, e5, e6⟩ := h4 i hi
  exact ⟨e, q, e1, e2, e3, e4, Nat.lt_of_lt_of_le e5 hb.size, e6.below hb e5⟩

/-- Seven stores: a feature is laid. -/
def lay7 (W : World) (B o : Nat) (f : Feat) : World := (((((((W.setCell ⟨B, o, none⟩ (.int .i64 f.id)).setCell ⟨B, o + 1, none⟩ (.int .i64 f.la)).setCell ⟨B, o + 2, none⟩ (.int .i64 f.ki)).setCell ⟨B, o + 3, none⟩ (.int .i64 f.wi)).setCell ⟨B, o + 4, none⟩ (.slice f.a f.n f.cap)).setCell ⟨B, o + 5, none⟩ (.string f.lab)).setCell ⟨B, o + 6, none⟩ (.int .i64 f.pr))

theorem lay7_other {W : World} {B o : Nat} {f : Feat} {p : Addr} (h : p.block ≠ B ∨ p.off < o ∨ o + 6 < p.off) : (lay7 W B o f).cell? p = W.cell? p := by
  have ne : ∀ k : Nat, k ≤ 6 → (⟨B, o + k, none⟩ : Addr) ≠ p := fun k hk e => by subst e; simp at h; omega
  have ne0 : (⟨B, o, none⟩ : Addr) ≠ p := ne 0 (by omega)
  unfold lay7
  rw [set1_other (ne 6 (by omega)), set1_other (ne 5 (by omega)), set1_other (ne 4 (by omega)), set1_other (ne 3 (by omega)), set1_other (ne 2 (by omega)), set1_other (ne 1 (by omega)), set1_other ne0]
theorem lay7_there {W : World} {B o m : Nat} {f : Feat} (h : There W B m) : There (lay7 W B o f) B m := by
  unfold lay7
  exact ((((((h.set _ _).set _ _).set _ _).set _ _).set _ _).set _ _).set _ _
theorem lay7_at {W : World} {B o m : Nat} {f : Feat} (h : There W B m) (ho : o + 6 < m) : FeatAt (lay7 W B o f) B o f.id f.la f.ki f.wi (.slice f.a f.n f.cap) f.lab f.pr := by
  have ne : ∀ i j : Nat, i ≠ j → (⟨B, i, none⟩ : Addr) ≠ ⟨B, j, none⟩ := fun i j hij h => hij (by injection h)
  obtain ⟨u0, g0⟩ := (h (o) (by omega)).1
  obtain ⟨u1, g1⟩ := ((h.set (o) (.int .i64 f.id)) (o + 1) (by omega)).1
  obtain ⟨u2, g2⟩ := (((h.set (o) (.int .i64 f.id)).set (o + 1) (.int .i64 f.la)) (o + 2) (by omega)).1
  obtain ⟨u3, g3⟩ := ((((h.set (o) (.int .i64 f.id)).set (o + 1) (.int .i64 f.la)).set (o + 2) (.int .i64 f.ki)) (o + 3) (by omega)).1
  obtain ⟨u4, g4⟩ := (((((h.set (o) (.int .i64 f.id)).set (o + 1) (.int .i64 f.la)).set (o + 2) (.int .i64 f.ki)).set (o + 3) (.int .i64 f.wi)) (o + 4) (by omega)).1
  obtain ⟨u5, g5⟩ := ((((((h.set (o) (.int .i64 f.id)).set (o + 1) (.int .i64 f.la)).set (o + 2) (.int .i64 f.ki)).set (o + 3) (.int .i64 f.wi)).set (o + 4) (.slice f.a f.n f.cap)) (o + 5) (by omega)).1
  obtain ⟨u6, g6⟩ := (((((((h.set (o) (.int .i64 f.id)).set (o + 1) (.int .i64 f.la)).set (o + 2) (.int .i64 f.ki)).set (o + 3) (.int .i64 f.wi)).set (o + 4) (.slice f.a f.n f.cap)).set (o + 5) (.string f.lab)) (o + 6) (by omega)).1
  unfold lay7
  refine ⟨?_, ?_, ?_, ?_, ?_, ?_, ?_⟩
  · rw [set1_other (ne _ _ (by omega)), set1_other (ne _ _ (by omega)), set1_other (ne _ _ (by omega)), set1_other (ne _ _ (by omega)), set1_other (ne _ _ (by omega)), set1_other (ne _ _ (by omega))]; exact set1_same g0
  · rw [set1_other (ne _ _ (by omega)), set1_other (ne _ _ (by omega)), set1_other (ne _ _ (by omega)), set1_other (ne _ _ (by omega)), set1_other (ne _ _ (by omega))]; exact set1_same g1
  · rw [set1_other (ne _ _ (by omega)), set1_other (ne _ _ (by omega)), set1_other (ne _ _ (by omega)), set1_other (ne _ _ (by omega))]; exact set1_same g2
  · rw [set1_other (ne _ _ (by omega)), set1_other (ne _ _ (by omega)), set1_other (ne _ _ (by omega))]; exact set1_same g3
  · rw [set1_other (ne _ _ (by omega)), set1_other (ne _ _ (by omega))]; exact set1_same g4
  · rw [set1_other (ne _ _ (by omega))]; exact set1_same g5
  · exact set1_same g6
theorem lay7_size (W : World) (B o : Nat) (f : Feat) : (lay7 W B o f).heap.size = W.heap.size := by unfold lay7; simp
theorem lay7_below {V W : World} {n B o : Nat} {f : Feat} (h : Below n V W) (hB : n ≤ B) : Below n V (lay7 W B o f) := by
  unfold lay7
  exact ((((((h.setCell hB _).setCell hB _).setCell hB _).setCell hB _).setCell hB _).setCell hB _).setCell hB _
theorem PtsAt.lay {W : World} {b off n : Nat} {X Y : Nat → Int} (h : PtsAt W b off n X Y) {B o : Nat} {f : Feat} (hne : B ≠ b) : PtsAt (lay7 W B o f) b off n X Y := by
  unfold lay7
  exact ((((((h.store hne).store hne).store hne).store hne).store hne).store hne).store hne

theorem info_if : (Tryz.prog.info? 101).map (fun i => (i.zero, i.size, i.bytes)) = some (some (.agg #[.int .i64 0, .int .i64 0, .int .i64 0, .int .i64 0, .slice none 0 0, .string ⟨#[]⟩, .int .i64 0]), 7, 80) := by kernel_rfl
abbrev zeroF : Array Value := #[.int .i64 0, .int .i64 0, .int .i64 0, .int .i64 0, .slice none 0 0, .string ⟨#[]⟩, .int .i64 0]
theorem make_feats (n : Nat) (h : n ≤ 1048576) (w : World) :
    (Instr.makeSlice 40 (.int .i64 (n : Int)) (.int .i64 (n : Int))).run Tryz.prog w = .ok (.slice (some ⟨w.heap.size, 0, none⟩) n n) (w.alloc (.cells (madeCells zeroF (n * 7)) 101)) := by
  obtain ⟨i, hi, hz, hs, hb⟩ := info_parts info_if
  have hr := run_make (P := Tryz.prog) w 40 101 i _ Tryz.underlying40 hi hz .i64 .i64 (n : Int) (n : Int) (by omega) (Int.le_refl _) (by rw [hb]; omega) (by omega)
  simp only [Int.toNat_natCast, hs] at hr
  exact hr
theorem there_madeF (n : Nat) (w : World) (t : TypeId) : There (w.alloc (.cells (madeCells zeroF n) t)) w.heap.size n := fun o ho => by
  have hz := size_madeCells zeroF n
  refine ⟨⟨(madeCells zeroF n)[o]'(by rw [hz]; exact ho), ?_⟩, World.frozen?_alloc_at _ _ _ _ rfl⟩
  rw [World.cell?_alloc_at _ _ _ _ rfl]
  exact Array.getElem?_eq_getElem _

theorem own_lay {W : World} {B n k q : Nat} {F G : Nat → Feat} (h : OwnFs W B B k F G) (hT : There W B (n * 7)) (hk : k < n) (hqB : B ≤ q) (hq : q < W.heap.size) (hp : PtsAt W q 0 (F k).n (F k).X (F k).Y) (hne : q ≠ B) :
    OwnFs (lay7 W B (k * 7) { F k with a := some ⟨q, 0, none⟩, cap := (F k).n }) B B (k + 1) F (fun i => if i = k then { F k with a := some ⟨q, 0, none⟩, cap := (F k).n } else G i) := by
  obtain ⟨h1, h2, h3, h4⟩ := h
  refine ⟨h1, by rw [lay7_size]; exact h2, fun i hi => ?_, fun i hi => ?_⟩
  · by_cases e : i = k
    · subst e
      simp only [if_pos, Nat.zero_add]
      refine ⟨lay7_at hT (by omega), .inr ⟨q, 0, rfl, by rw [lay7_size]; exact hq, hp.lay (fun h => hne h.symm)⟩⟩
    · simp only [if_neg e]
      obtain ⟨c, ip⟩ := h3 i (by omega)
      obtain ⟨_, q', e1, e2, e3, e4, e5, e6⟩ := h4 i (by omega)
      refine ⟨?_, ?_⟩
      · obtain ⟨c0, c1, c2, c3, c4, c5, c6⟩ := c
        refine ⟨?_, ?_, ?_, ?_, ?_, ?_, ?_⟩ <;> (rw [lay7_other (by right; left; simp; omega)]; assumption)
      · exact .inr ⟨q', 0, e1, by rw [lay7_size]; exact e5, e6.lay (fun h => e3 h.symm)⟩
  · by_cases e : i = k
    · subst e
      simp only [if_pos]
      exact ⟨⟨rfl, rfl, rfl, rfl, rfl, rfl, rfl, rfl, rfl⟩, q, by first | rfl | trivial, by first | trivial | rfl, hne, hqB, by rw [lay7_size]; exact hq, hp.lay (fun h => hne h.symm)⟩
    · simp only [if_neg e]
      obtain ⟨sm, q', e1, e2, e3, e4, e5, e6⟩ := h4 i (by omega)
      exact ⟨sm, q', e1, e2, e3, e4, by rw [lay7_size]; exact e5, e6.lay (fun h => e3 h.symm)⟩

end Go.Proofs.YtciidkmonfmipaaGreat
