/- Texts. -/
import Derived.Test.YtiephlohemphjaaGreatVTickViewer12
import Derived.Test.YtiephlohemphjaaGreatVTickViewer17
set_option linter.unusedSimpArgs false
set_option linter.unusedVariables false
set_option maxRecDepth 100000
set_option maxHeartbeats 32000000
namespace Go.Proofs.YtiephlohemphjaaGreat
open Go.RowKit
theorem PtsAt.store {W : World} {b off n : Nat} {X Y : Nat → Int} (h : PtsAt W b off n X Y) {r o : Nat} {v : Value} (hne : r ≠ b) : PtsAt (W.setCell ⟨r,o,none⟩ v) b off n X Y := fun i hi => by
 obtain ⟨h1,h2⟩ := h i hi
 refine ⟨?_,?_⟩
 ·rw [World.cell?_setCell_other]
  ·exact h1
  ·simp [hne]
 ·rw [World.cell?_setCell_other]
  ·exact h2
  ·simp [hne]
theorem There.store {W : World} {b n : Nat} (h : There W b n) {r o : Nat} {v : Value} (hne : r ≠ b) : There (W.setCell ⟨r,o,none⟩ v) b n := fun i hi => by
 obtain ⟨u,hu⟩ := (h i hi).1
 refine ⟨⟨u,?_⟩,by rw [World.frozen?_setCell]; exact (h i hi).2⟩
 rw [World.cell?_setCell_other]
 ·exact hu
 ·simp [hne]
theorem toFeature_own (id la ki wi : Int) (a : Option Addr) (n cap : Nat) (X Y : Nat → Int) (lab : ByteArray) (pr : Int) (w : World) (hpt : IsPts w a n X Y) (hn : n ≤ 1048576) :
  Calls Tryz.prog 206 #[.agg #[.int .i64 id, .int .i64 la, .int .i64 ki, .int .i64 wi, .slice a n cap, .string lab, .int .i64 pr]] w fun e w' => ∃ b,e = .returned (.agg #[.int .i64 id, .int .i64 la, .int .i64 ki, .int .i64 wi, .slice (some ⟨b,0,none⟩) n n, .string lab, .int .i64 pr]) ∧ w.heap.size ≤ b ∧ b < w'.heap.size ∧ PtsAt w' b 0 n X Y ∧ There w' b (n * 2) ∧ Below w.heap.size w w' := by
 have HP : Hid (IsPts w a n X Y) := hpt
 clear hpt
 go_enter Tryz.func206,Tryz.ntmps206
 go_wp2_with fail
 generalize hW : (((w.alloc _).alloc _).alloc _ : World) = W
 have hB0 : Below w.heap.size w W := by subst hW; exact Qb
 have hsz : W.heap.size = w.heap.size + 1 + 1 + 1 := by subst hW; simp
 have c5 : W.cell? ⟨w.heap.size,5,none⟩ = some (.string lab) := by subst hW; simp [go_sem]
 have c6 : W.cell? ⟨w.heap.size,6,none⟩ = some (.int .i64 pr) := by subst hW; simp [go_sem]
 have o0 : W.cell? ⟨w.heap.size + 1 + 1,0,none⟩ = some (.int .i64 id) := by subst hW; simp [go_sem]
 have o1 : W.cell? ⟨w.heap.size + 1 + 1,1,none⟩ = some (.int .i64 la) := by subst hW; simp [go_sem]
 have o2 : W.cell? ⟨w.heap.size + 1 + 1,2,none⟩ = some (.int .i64 ki) := by subst hW; simp [go_sem]
 have o3 : W.cell? ⟨w.heap.size + 1 + 1,3,none⟩ = some (.int .i64 wi) := by subst hW; simp [go_sem]
 have o4 : W.cell? ⟨w.heap.size + 1 + 1,4,none⟩ = some (.slice none 0 0) := by subst hW; simp [go_sem]
 have o5 : W.cell? ⟨w.heap.size + 1 + 1,5,none⟩ = some (.string ⟨#[]⟩) := by subst hW; simp [go_sem]
 have o6 : W.cell? ⟨w.heap.size + 1 + 1,6,none⟩ = some (.int .i64 0) := by subst hW; simp [go_sem]
 have z0 : W.frozen? ⟨w.heap.size + 1 + 1,0,none⟩ = false := by subst hW; simp [go_sem]
 have z1 : W.frozen? ⟨w.heap.size + 1 + 1,1,none⟩ = false := by subst hW; simp [go_sem]
 have z2 : W.frozen? ⟨w.heap.size + 1 + 1,2,none⟩ = false := by subst hW; simp [go_sem]
 have z3 : W.frozen? ⟨w.heap.size + 1 + 1,3,none⟩ = false := by subst hW; simp [go_sem]
 have z4 : W.frozen? ⟨w.heap.size + 1 + 1,4,none⟩ = false := by subst hW; simp [go_sem]
 have z5 : W.frozen? ⟨w.heap.size + 1 + 1,5,none⟩ = false := by subst hW; simp [go_sem]
 have z6 : W.frozen? ⟨w.heap.size + 1 + 1,6,none⟩ = false := by subst hW; simp [go_sem]
 have r0 : W.cell? ⟨w.heap.size + 1,0,none⟩ = some (.int .i64 0) := by subst hW; simp [go_sem]
 have r1 : W.cell? ⟨w.heap.size + 1,1,none⟩ = some (.int .i64 0) := by subst hW; simp [go_sem]
 have r2 : W.cell? ⟨w.heap.size + 1,2,none⟩ = some (.int .i64 0) := by subst hW; simp [go_sem]
 have r3 : W.cell? ⟨w.heap.size + 1,3,none⟩ = some (.int .i64 0) := by subst hW; simp [go_sem]
 have r4 : W.cell? ⟨w.heap.size + 1,4,none⟩ = some (.slice none 0 0) := by subst hW; simp [go_sem]
 have r5 : W.cell? ⟨w.heap.size + 1,5,none⟩ = some (.string ⟨#[]⟩) := by subst hW; simp [go_sem]
 have r6 : W.cell? ⟨w.heap.size + 1,6,none⟩ = some (.int .i64 0) := by subst hW; simp [go_sem]
 have x0 : W.frozen? ⟨w.heap.size + 1,0,none⟩ = false := by subst hW; simp [go_sem]
 have x1 : W.frozen? ⟨w.heap.size + 1,1,none⟩ = false := by subst hW; simp [go_sem]
 have x2 : W.frozen? ⟨w.heap.size + 1,2,none⟩ = false := by subst hW; simp [go_sem]
 have x3 : W.frozen? ⟨w.heap.size + 1,3,none⟩ = false := by subst hW; simp [go_sem]
 have x4 : W.frozen? ⟨w.heap.size + 1,4,none⟩ = false := by subst hW; simp [go_sem]
 have x5 : W.frozen? ⟨w.heap.size + 1,5,none⟩ = false := by subst hW; simp [go_sem]
 have x6 : W.frozen? ⟨w.heap.size + 1,6,none⟩ = false := by subst hW; simp [go_sem]
 clear hW
 refine (toPointS_own a n cap X Y W (HP.out.below hB0) hn).mono ?_
 rintro e w1 ⟨b,rfl,hle,hlt,hp,ht,hb⟩
 have hlw : w.heap.size < W.heap.size := by omega
 have hlo : w.heap.size + 1 + 1 < W.heap.size := by omega
 have d5 : w1.cell? ⟨w.heap.size,5,none⟩ = some (.string lab) := (hb.cell (p := ⟨w.heap.size,5,none⟩) hlw).trans c5
 have d6 : w1.cell? ⟨w.heap.size,6,none⟩ = some (.int .i64 pr) := (hb.cell (p := ⟨w.heap.size,6,none⟩) hlw).trans c6
 have q0 : w1.cell? ⟨w.heap.size + 1 + 1,0,none⟩ = some (.int .i64 id) := (hb.cell (p := ⟨w.heap.size + 1 + 1,0,none⟩) hlo).trans o0
 have q1 : w1.cell? ⟨w.heap.size + 1 + 1,1,none⟩ = some (.int .i64 la) := (hb.cell (p := ⟨w.heap.size + 1 + 1,1,none⟩) hlo).trans o1
 have q2 : w1.cell? ⟨w.heap.size + 1 + 1,2,none⟩ = some (.int .i64 ki) := (hb.cell (p := ⟨w.heap.size + 1 + 1,2,none⟩) hlo).trans o2
 have q3 : w1.cell? ⟨w.heap.size + 1 + 1,3,none⟩ = some (.int .i64 wi) := (hb.cell (p := ⟨w.heap.size + 1 + 1,3,none⟩) hlo).trans o3
 have q4 : w1.cell? ⟨w.heap.size + 1 + 1,4,none⟩ = some (.slice none 0 0) := (hb.cell (p := ⟨w.heap.size + 1 + 1,4,none⟩) hlo).trans o4
 have q5 : w1.cell? ⟨w.heap.size + 1 + 1,5,none⟩ = some (.string ⟨#[]⟩) := (hb.cell (p := ⟨w.heap.size + 1 + 1,5,none⟩) hlo).trans o5
 have q6 : w1.cell? ⟨w.heap.size + 1 + 1,6,none⟩ = some (.int .i64 0) := (hb.cell (p := ⟨w.heap.size + 1 + 1,6,none⟩) hlo).trans o6
 have y0 : w1.frozen? ⟨w.heap.size + 1 + 1,0,none⟩ = false := (hb.frozen (p := ⟨w.heap.size + 1 + 1,0,none⟩) hlo).trans z0
 have y1 : w1.frozen? ⟨w.heap.size + 1 + 1,1,none⟩ = false := (hb.frozen (p := ⟨w.heap.size + 1 + 1,1,none⟩) hlo).trans z1
 have y2 : w1.frozen? ⟨w.heap.size + 1 + 1,2,none⟩ = false := (hb.frozen (p := ⟨w.heap.size + 1 + 1,2,none⟩) hlo).trans z2
 have y3 : w1.frozen? ⟨w.heap.size + 1 + 1,3,none⟩ = false := (hb.frozen (p := ⟨w.heap.size + 1 + 1,3,none⟩) hlo).trans z3
 have y4 : w1.frozen? ⟨w.heap.size + 1 + 1,4,none⟩ = false := (hb.frozen (p := ⟨w.heap.size + 1 + 1,4,none⟩) hlo).trans z4
 have y5 : w1.frozen? ⟨w.heap.size + 1 + 1,5,none⟩ = false := (hb.frozen (p := ⟨w.heap.size + 1 + 1,5,none⟩) hlo).trans z5
 have y6 : w1.frozen? ⟨w.heap.size + 1 + 1,6,none⟩ = false := (hb.frozen (p := ⟨w.heap.size + 1 + 1,6,none⟩) hlo).trans z6
 have hl1 : w.heap.size + 1 < W.heap.size := by omega
 have s0 : w1.cell? ⟨w.heap.size + 1,0,none⟩ = some (.int .i64 0) := (hb.cell (p := ⟨w.heap.size + 1,0,none⟩) hl1).trans r0
 have s1 : w1.cell? ⟨w.heap.size + 1,1,none⟩ = some (.int .i64 0) := (hb.cell (p := ⟨w.heap.size + 1,1,none⟩) hl1).trans r1
 have s2 : w1.cell? ⟨w.heap.size + 1,2,none⟩ = some (.int .i64 0) := (hb.cell (p := ⟨w.heap.size + 1,2,none⟩) hl1).trans r2
 have s3 : w1.cell? ⟨w.heap.size + 1,3,none⟩ = some (.int .i64 0) := (hb.cell (p := ⟨w.heap.size + 1,3,none⟩) hl1).trans r3
 have s4 : w1.cell? ⟨w.heap.size + 1,4,none⟩ = some (.slice none 0 0) := (hb.cell (p := ⟨w.heap.size + 1,4,none⟩) hl1).trans r4
 have s5 : w1.cell? ⟨w.heap.size + 1,5,none⟩ = some (.string ⟨#[]⟩) := (hb.cell (p := ⟨w.heap.size + 1,5,none⟩) hl1).trans r5
 have s6 : w1.cell? ⟨w.heap.size + 1,6,none⟩ = some (.int .i64 0) := (hb.cell (p := ⟨w.heap.size + 1,6,none⟩) hl1).trans r6
 have t0 : w1.frozen? ⟨w.heap.size + 1,0,none⟩ = false := (hb.frozen (p := ⟨w.heap.size + 1,0,none⟩) hl1).trans x0
 have t1 : w1.frozen? ⟨w.heap.size + 1,1,none⟩ = false := (hb.frozen (p := ⟨w.heap.size + 1,1,none⟩) hl1).trans x1
 have t2 : w1.frozen? ⟨w.heap.size + 1,2,none⟩ = false := (hb.frozen (p := ⟨w.heap.size + 1,2,none⟩) hl1).trans x2
 have t3 : w1.frozen? ⟨w.heap.size + 1,3,none⟩ = false := (hb.frozen (p := ⟨w.heap.size + 1,3,none⟩) hl1).trans x3
 have t4 : w1.frozen? ⟨w.heap.size + 1,4,none⟩ = false := (hb.frozen (p := ⟨w.heap.size + 1,4,none⟩) hl1).trans x4
 have t5 : w1.frozen? ⟨w.heap.size + 1,5,none⟩ = false := (hb.frozen (p := ⟨w.heap.size + 1,5,none⟩) hl1).trans x5
 have t6 : w1.frozen? ⟨w.heap.size + 1,6,none⟩ = false := (hb.frozen (p := ⟨w.heap.size + 1,6,none⟩) hl1).trans x6
 have hne : w.heap.size + 1 + 1 ≠ b := by omega
 have hne1 : w.heap.size + 1 ≠ b := by omega
 have hS1 : w.heap.size ≤ w.heap.size + 1 := by omega
 have hS2 : w.heap.size ≤ w.heap.size + 1 + 1 := by omega
 have hge : w.heap.size ≤ b := by omega
 have HP1 : Hid (PtsAt w1 b 0 n X Y) := hp
 have HT1 : Hid (There w1 b (n * 2)) := ht
 clear ht
 have HB1 : Hid (Below w.heap.size w w1) := bl_then hB0 hb
 clear r0 r1 r2 r3 r4 r5 r6 x0 x1 x2 x3 x4 x5 x6 hl1 o0 o1 o2 o3 o4 o5 o6 z0 z1 z2 z3 z4 z5 z6 c5 c6 hp hb hB0 hsz hle hlw hlo
 go_wp2
 exact bodyPost_ret (v := .agg #[.int .i64 id, .int .i64 la, .int .i64 ki, .int .i64 wi, .slice (some ⟨b,0,none⟩) n n, .string lab, .int .i64 pr]) (by simp [results,Tryz.results206,go_sem, *]) rfl ⟨b,rfl,hge,by simpa using hlt,((((((((((HP1.out).store hne).store hne).store hne).store hne1).store hne1).store hne1).store hne1).store hne1).store hne1).store hne1,((((((((((HT1.out).store hne).store hne).store hne).store hne1).store hne1).store hne1).store hne1).store hne1).store hne1).store hne1,((((((((((HB1.out).setCell hS2 _).setCell hS2 _).setCell hS2 _).setCell hS1 _).setCell hS1 _).setCell hS1 _).setCell hS1 _).setCell hS1 _).setCell hS1 _).setCell hS1 _⟩
theorem szPointS_no (a : Option Addr) (n cap left : Nat) (w : World) (hl : left ≤ 1048576) (hn : left < n) (hm : n ≤ maxLen) :
  Calls Tryz.prog 228 #[.slice a n cap, .int .i64 left] w fun e w' => e = .returned (.int .i64 (-1)) ∧ w = w' := by
 unfold maxLen at hm
 have hneg : (left : Int) - (n : Int) < 0 := by omega
 go_enter Tryz.func228,Tryz.ntmps228
 go_wp2
 go_ret
 exact ⟨rfl,rfl⟩
theorem szPointS_ok (a : Option Addr) (n cap left : Nat) (w : World) (hl : left ≤ 1048576) (hn : n ≤ left) :
  Calls Tryz.prog 228 #[.slice a n cap, .int .i64 left] w fun e w' => e = .returned (.int .i64 ((left : Int) - (n : Int))) ∧ w = w' := by
 have hneg : ¬ (left : Int) - (n : Int) < 0 := by omega
 go_enter Tryz.func228,Tryz.ntmps228
 go_wp2
 go_ret
 exact ⟨rfl,rfl⟩
def szF (left n s : Nat) : Int := if left < n + s then -1 else (left : Int) - (n : Int) - (s : Int)
theorem szFeature_any (id la ki wi : Int) (a : Option Addr) (n cap : Nat) (lab : ByteArray) (pr : Int) (left : Nat) (w : World) (hl : left ≤ 1048576) (hn : n ≤ maxLen) (hs : lab.size ≤ maxLen) :
  Calls Tryz.prog 198 #[.agg #[.int .i64 id, .int .i64 la, .int .i64 ki, .int .i64 wi, .slice a n cap, .string lab, .int .i64 pr], .int .i64 left] w fun e w' => e = .returned (.int .i64 (szF left n lab.size)) ∧ Below w.heap.size w w' := by
 have hs' : lab.size ≤ 9223372036854775807 := by unfold maxLen at hs; omega
 clear hs
 by_cases h1 : left < n
 ·have hz : Hid (szF left n lab.size = -1) := by show _ = _; unfold szF; rw [if_pos (by omega)]
  go_enter Tryz.func198,Tryz.ntmps198
  go_wp2_with (go_at_call 228; refine (szPointS_no _ _ _ _ _ hl h1 hn).mono ?_; rintro e w' ⟨rfl,rfl⟩)
  go_ret
  exact ⟨ret_int hz.out.symm,by (repeat (first|exact Qr _ _|assumption|refine Qd ?_|refine Qa ?_ _|refine Qt ?_|refine Qs ?_ _|refine Qo ?_ ?_ _ _))⟩
 ·have hge : n ≤ left := by omega
  have g1 : ¬ (left : Int) - (n : Int) < 0 := by omega
  by_cases h2 : left < n + lab.size
  ·have hz : Hid (szF left n lab.size = -1) := by show _ = _; unfold szF; rw [if_pos h2]
   have g2 : (left : Int) - (n : Int) - (lab.size : Int) < 0 := by omega
   go_enter Tryz.func198,Tryz.ntmps198
   go_wp2_with (go_at_call 228; refine (szPointS_ok _ _ _ _ _ hl hge).mono ?_; rintro e w' ⟨rfl,rfl⟩)
   go_ret
   exact ⟨ret_int hz.out.symm,by (repeat (first|exact Qr _ _|assumption|refine Qd ?_|refine Qa ?_ _|refine Qt ?_|refine Qs ?_ _|refine Qo ?_ ?_ _ _))⟩
  ·have hz : Hid (szF left n lab.size = (left : Int) - (n : Int) - (lab.size : Int)) := by show _ = _; unfold szF; rw [if_neg h2]
   have g2 : ¬ (left : Int) - (n : Int) - (lab.size : Int) < 0 := by omega
   go_enter Tryz.func198,Tryz.ntmps198
   go_wp2_with (go_at_call 228; refine (szPointS_ok _ _ _ _ _ hl hge).mono ?_; rintro e w' ⟨rfl,rfl⟩)
   go_ret
   exact ⟨ret_int hz.out.symm,by (repeat (first|exact Qr _ _|assumption|refine Qd ?_|refine Qa ?_ _|refine Qt ?_|refine Qs ?_ _|refine Qo ?_ ?_ _ _))⟩
theorem eqFeature_any (id la ki wi : Int) (n : Nat) (X Y : Nat → Int) (lab : ByteArray) (pr : Int) (b d : Nat) (w : World) (hp : PtsAt w b 0 n X Y) (hq : PtsAt w d 0 n X Y) (hb : b < w.heap.size) (hd : d < w.heap.size) (hmax : n ≤ 1048576) :
  Calls Tryz.prog 224 #[.agg #[.int .i64 id, .int .i64 la, .int .i64 ki, .int .i64 wi, .slice (some ⟨b,0,none⟩) n n, .string lab, .int .i64 pr], .agg #[.int .i64 id, .int .i64 la, .int .i64 ki, .int .i64 wi, .slice (some ⟨d,0,none⟩) n n, .string lab, .int .i64 pr]] w fun e w' => e = .returned (.bool true) ∧ Below w.heap.size w w' := by
 have HP : Hid (PtsAt w b 0 n X Y) := hp
 have HQ : Hid (PtsAt w d 0 n X Y) := hq
 clear hp hq
 go_enter Tryz.func224,Tryz.ntmps224
 go_wp2_with fail
 generalize hW : ((w.alloc _).alloc _ : World) = W
 have hB0 : Below w.heap.size w W := by subst hW; exact Qb
 have hsz : W.heap.size = w.heap.size + 1 + 1 := by subst hW; simp
 have c5 : W.cell? ⟨w.heap.size,5,none⟩ = some (.string lab) := by subst hW; simp [go_sem]
 have c6 : W.cell? ⟨w.heap.size,6,none⟩ = some (.int .i64 pr) := by subst hW; simp [go_sem]
 have o5 : W.cell? ⟨w.heap.size + 1,5,none⟩ = some (.string lab) := by subst hW; simp [go_sem]
 have o6 : W.cell? ⟨w.heap.size + 1,6,none⟩ = some (.int .i64 pr) := by subst hW; simp [go_sem]
 clear hW
 refine (eqPointS_any b d n X Y W (HP.out.below hB0 hb) (HQ.out.below hB0 hd) (by omega) (by omega) hmax).mono ?_
 rintro e w1 ⟨rfl,hb1⟩
 have d5 := (hb1.cell (p := ⟨w.heap.size,5,none⟩) (show w.heap.size < _ by omega)).trans c5
 have d6 := (hb1.cell (p := ⟨w.heap.size,6,none⟩) (show w.heap.size < _ by omega)).trans c6
 have e5 := (hb1.cell (p := ⟨w.heap.size + 1,5,none⟩) (show w.heap.size + 1 < _ by omega)).trans o5
 have e6 := (hb1.cell (p := ⟨w.heap.size + 1,6,none⟩) (show w.heap.size + 1 < _ by omega)).trans o6
 have HB1 : Hid (Below w.heap.size w w1) := bl_then hB0 hb1
 clear c5 c6 o5 o6 hb1 hB0 hsz
 go_wp2
 go_ret
 exact ⟨rfl,HB1.out⟩
theorem atW_self {n k : Nat} {E : Nat → Req} (h : k < n) : (atW k E (E k).z (E k).x (E k).y = -1 ∧ atW n E (E k).z (E k).x (E k).y = (k : Int)) ∨ (0 ≤ atW k E (E k).z (E k).x (E k).y ∧ ∃ i : Nat,i < k ∧ atW n E (E k).z (E k).x (E k).y = (i : Int)) := by
 rcases firstI_or (fun i => isR (E i) (E k).z (E k).x (E k).y) k with ⟨h1,h2⟩ | ⟨i,hi,hg,hf,hn⟩
 ·exact .inl ⟨h1,firstI_yes (G := fun i => isR (E i) (E k).z (E k).x (E k).y) h (isR_self _) h2⟩
 ·exact .inr ⟨by unfold atW; rw [hf]; omega,i,hi,firstI_yes (G := fun i => isR (E i) (E k).z (E k).x (E k).y) (by omega) hg hn⟩
theorem reqC_cases (e : Req) : (reqC e = 0 ∧ reqB e = true) ∨ (reqC e = 3 ∧ reqB e = false) := by
 unfold reqC
 cases h : reqB e <;> simp
theorem impl_RequestsFault_any (a : Option Addr) (n cap : Nat) (E : Nat → Req) (w : World) (hp : IsWs w a n E) (hn : n ≤ 1048576) (hcap : n ≤ cap) :
  Calls Tryz.prog 75 #[.slice a n cap] w fun e w' => e = .returned (.int .i64 (reqsC n E)) ∧ Below w.heap.size w w' := by
 have HP : Hid (IsWs w a n E) := hp
 clear hp
 by_cases h8 : (8 : Int) < n
 ·have hz : Hid (reqsC n E = 2) := by show _ = _; unfold reqsC; rw [if_pos (by omega)]
  go_enter Tryz.func75,Tryz.ntmps75
  go_wp2
  go_ret
  exact ⟨ret_int hz.out.symm,by (repeat (first|exact Qr _ _|assumption|refine Qd ?_|refine Qa ?_ _|refine Qt ?_|refine Qs ?_ _|refine Qo ?_ ?_ _ _))⟩
 ·have hz : Hid (reqsC n E = scanC (rCode E) 0 n) := by show _ = _; unfold reqsC; rw [if_neg (by omega)]
  go_enter Tryz.func75,Tryz.ntmps75
  go_wp2
  go_loopw [11] (fun v wr => ∃ k : Nat,k ≤ n ∧ v = .int .i64 k ∧ (∀ j,j < k → rCode E j = 0) ∧ Below w.heap.size w wr) (fun v _ => n - (intOf v).toNat)
  case atStart => exact ⟨0,by omega,rfl,by omega,Below.refl _ _⟩
  case round =>
   obtain ⟨k,hk,rfl,hA,hB⟩ := hrel
   have HB : Hid (Below w.heap.size w wr) := hB
   have HA : Hid (∀ j,j < k → rCode E j = 0) := hA
   by_cases hlt : k < n
   ·rcases HP.out with h0 | ⟨b,off,rfl,hbl,hpt⟩
    ·omega
    have HGr : Hid (WsAt wr b off n E) := hpt.below hB hbl
    have hblr : b < wr.heap.size := Nat.lt_of_lt_of_le hbl hB.size
    obtain ⟨f0,f1,f2,f3,f4⟩ := HGr.out k hlt
    have HLT : Hid (k < n) := hlt
    have first : Hid (∀ c,rCode E k = c → c ≠ 0 → reqsC n E = c) := fun c hc h0 => by
     rw [hz.out,scan_first (rCode E) n 0 k (fun j _ hj => HA.out j hj) (by omega) (by have := HLT.out; omega) (by rw [hc]; exact h0),hc]
    have HOK : Hid (rCode E k = 0 → ∀ j,j < k + 1 → rCode E j = 0) := fun h0 j hj => by
     by_cases e : j = k
     ·rw [e]; exact h0
     ·exact HA.out j (by omega)
    clear hB hA hpt
    have hi : (k : Int) < (n : Int) := by omega
    have hi0 : (0 : Int) ≤ (k : Int) := by omega
    go_wp2_with fail
    generalize hV : (wr.alloc _ : World) = V
    have hBV : Below wr.heap.size wr V := by subst hV; exact Qb
    have v0 : ∀ W',Below V.heap.size V W' → W'.cell? ⟨wr.heap.size,0,none⟩ = some (.int .i64 (E k).z) := fun W' h => by
     rw [h.cell (by subst hV; simp)]; subst hV; simp [go_sem]
    have v1 : ∀ W',Below V.heap.size V W' → W'.cell? ⟨wr.heap.size,1,none⟩ = some (.int .i64 (E k).x) := fun W' h => by
     rw [h.cell (by subst hV; simp)]; subst hV; simp [go_sem]
    have v2 : ∀ W',Below V.heap.size V W' → W'.cell? ⟨wr.heap.size,2,none⟩ = some (.int .i64 (E k).y) := fun W' h => by
     rw [h.cell (by subst hV; simp)]; subst hV; simp [go_sem]
    clear hV
    have HBV : Hid (Below w.heap.size w V) := bl_then HB.out hBV
    have HGV : Hid (WsAt V b off n E) := HGr.out.below hBV hblr
    have hblV : b < V.heap.size := Nat.lt_of_lt_of_le hblr hBV.size
    clear hBV f0 f1 f2 f3 f4 HGr
    refine (requestFault_any (E k) _).mono ?_
    rintro e w1 ⟨rfl,hb1⟩
    rcases reqC_cases (E k) with ⟨hc0,hcB⟩ | ⟨hc3,hcB⟩
    ·rw [hc0]
     have hr1 : Below V.heap.size V w1 := hb1
     have hkn : (k : Int) ≤ (n : Int) := by omega
     have hkc : (k : Int) ≤ (cap : Int) := by omega
     have HH : Hid (∀ W',Below V.heap.size V W' → Calls Tryz.prog 124 #[.slice (some ⟨b,off,none⟩) k cap,refV (E k).z (E k).x (E k).y] W' fun e w' => e = .returned (.int .i64 (atW k E (E k).z (E k).x (E k).y)) ∧ Below W'.heap.size W' w') := fun W' h =>
      requestOf_any _ k cap E _ _ _ W' (.inr ⟨b,off,rfl,Nat.lt_of_lt_of_le hblV h.size,fun i hi => (HGV.out.below h hblV) i (by have := HLT.out; omega)⟩) (by omega)
     clear hc0 hb1
     rcases atW_self HLT.out with ⟨hq,_⟩ | ⟨hq,_⟩
     ·have hok : Hid (rCode E k = 0) := rCode_ok hcB hq
      rw [hq] at HH
      clear hq hcB
      generalize (E k).z = rz at *
      generalize (E k).x = rx at *
      generalize (E k).y = ry at *
      go_wp2_with fail
      go_region_held3 (fun W' => Below V.heap.size V W') ((repeat (first|exact Qr _ _|assumption|refine Qd ?_|refine Qa ?_ _|refine Qt ?_|refine Qs ?_ _|refine Qo ?_ ?_ _ _)))
       (first | (go_at_call 124; refine (HH.out _ (by assumption)).mono ?_; rintro e w' ⟨rfl,hb⟩) | fail)
      go_wp2
      go_roundw
      case rel => exact ⟨k + 1,by have := HLT.out; omega,by go_num,HOK.out hok.out,bl_then HBV.out (by assumption)⟩
      case measure => have := HLT.out; simp [intOf]; omega
     ·have hsc : Hid (reqsC n E = 6) := first.out 6 (rCode_taken hcB hq) (by decide)
      have hq' : (0 : Int) ≤ atW k E (E k).z (E k).x (E k).y := hq
      clear hq hcB
      generalize atW k E (E k).z (E k).x (E k).y = q at *
      generalize (E k).z = rz at *
      generalize (E k).x = rx at *
      generalize (E k).y = ry at *
      go_wp2_with fail
      go_region_held3 (fun W' => Below V.heap.size V W') ((repeat (first|exact Qr _ _|assumption|refine Qd ?_|refine Qa ?_ _|refine Qt ?_|refine Qs ?_ _|refine Qo ?_ ?_ _ _)))
       (first | (go_at_call 124; refine (HH.out _ (by assumption)).mono ?_; rintro e w' ⟨rfl,hb⟩) | fail)
      go_wp2
      go_ret
      exact ⟨ret_int hsc.out.symm,bl_then HBV.out (by assumption)⟩
    ·have hsc : Hid (reqsC n E = 3) := first.out 3 (rCode_bad hcB) (by decide)
     rw [hc3]
     have HB1 : Hid (Below w.heap.size w w1) := bl_then HBV.out hb1
     clear hc3 hcB hb1
     go_wp2
     go_ret
     exact ⟨ret_int hsc.out.symm,HB1.out⟩
   ·have hsc : Hid (reqsC n E = 0) := by
     show _ = _
     rw [hz.out]
     exact scan_none _ _ _ (fun j _ hj => HA.out j (by omega))
    go_wp2
    go_ret
    exact ⟨ret_int hsc.out.symm,HB.out⟩
theorem l12Fault_any (a : Option Addr) (n cap : Nat) (E : Nat → Req) (w : World) (hp : IsWs w a n E) (hn : n ≤ 1048576) :
  Calls Tryz.prog 62 #[.slice a n cap] w fun e w' => e = .returned (.int .i64 (reqsC n E)) ∧ Below w.heap.size w w' := by
 have HP : Hid (IsWs w a n E) := hp
 clear hp
 by_cases h8 : (8 : Int) < n
 ·have hz : Hid (reqsC n E = 2) := by show _ = _; unfold reqsC; rw [if_pos (by omega)]
  go_enter Tryz.func62,Tryz.ntmps62
  go_wp2
  go_ret
  exact ⟨ret_int hz.out.symm,by (repeat (first|exact Qr _ _|assumption|refine Qd ?_|refine Qa ?_ _|refine Qt ?_|refine Qs ?_ _|refine Qo ?_ ?_ _ _))⟩
 ·have hz : Hid (reqsC n E = scanC (rCode E) 0 n) := by show _ = _; unfold reqsC; rw [if_neg (by omega)]
  go_enter Tryz.func62,Tryz.ntmps62
  go_wp2
  go_loopw [3] (fun v wr => ∃ k : Nat,k ≤ n ∧ v = .int .i64 k ∧ (∀ j,j < k → rCode E j = 0) ∧ Below w.heap.size w wr) (fun v _ => n - (intOf v).toNat)
  case atStart => exact ⟨0,by omega,rfl,by omega,Below.refl _ _⟩
  case round =>
   obtain ⟨k,hk,rfl,hA,hB⟩ := hrel
   have HB : Hid (Below w.heap.size w wr) := hB
   have HA : Hid (∀ j,j < k → rCode E j = 0) := hA
   by_cases hlt : k < n
   ·rcases HP.out with h0 | ⟨b,off,rfl,hbl,hpt⟩
    ·omega
    have HGr : Hid (WsAt wr b off n E) := hpt.below hB hbl
    have hblr : b < wr.heap.size := Nat.lt_of_lt_of_le hbl hB.size
    have hr : Below wr.heap.size wr wr := Below.refl _ _
    obtain ⟨f0,f1,f2,_,_⟩ := HGr.out k hlt
    have HLT : Hid (k < n) := hlt
    have first : Hid (∀ c,rCode E k = c → c ≠ 0 → reqsC n E = c) := fun c hc h0 => by
     rw [hz.out,scan_first (rCode E) n 0 k (fun j _ hj => HA.out j hj) (by omega) (by have := HLT.out; omega) (by rw [hc]; exact h0),hc]
    have HOK : Hid (rCode E k = 0 → ∀ j,j < k + 1 → rCode E j = 0) := fun h0 j hj => by
     by_cases e : j = k
     ·rw [e]; exact h0
     ·exact HA.out j (by omega)
    clear hB hA hpt
    have hi : (k : Int) < (n : Int) := by omega
    have hi0 : (0 : Int) ≤ (k : Int) := by omega
    go_wp2_with fail
    refine (l7Fault_any _ _ _ _).mono ?_
    rintro e w1 ⟨rfl,hb1⟩
    have HB1 : Hid (Below w.heap.size w w1) := bl_then HB.out hb1
    have HG1 : Hid (WsAt w1 b off n E) := HGr.out.below hb1 hblr
    have hbl1 : b < w1.heap.size := Nat.lt_of_lt_of_le hblr hb1.size
    clear f0 f1 f2 hb1 hr
    rcases refC_cases (E k).z (E k).x (E k).y with ⟨h1,h2⟩ | ⟨h1,h2⟩
    ·rw [h1]
     obtain ⟨g0,g1,g2,g3,g4⟩ := HG1.out k hlt
     clear h1
     cases hcB : (inB (E k).du 0 9999 && inB (E k).tr 1 99)
     ·have hsc : Hid (reqsC n E = 3) := first.out 3 (rCode_bad (by simp [reqB,h2,hcB])) (by decide)
      clear h2
      cases h3 : inB (E k).du 0 9999
      ·clear hcB
       go_wp2_with (go_at_call 30; refine (l1In_any _ _ _ _).mono ?_; rintro e w' ⟨rfl,rfl⟩)
       go_ret
       exact ⟨ret_int hsc.out.symm,HB1.out⟩
      ·have h4 : inB (E k).tr 1 99 = false := by rw [h3] at hcB; simpa using hcB
       clear hcB
       go_wp2_with (go_at_call 30; refine (l1In_any _ _ _ _).mono ?_; rintro e w' ⟨rfl,rfl⟩)
       go_ret
       exact ⟨ret_int hsc.out.symm,HB1.out⟩
     ·have h3 : inB (E k).du 0 9999 = true := by simp at hcB; exact hcB.1
      have h4 : inB (E k).tr 1 99 = true := by simp at hcB; exact hcB.2
      have hrq : Hid (reqB (E k) = true) := by show _ = _; simp [reqB,h2,hcB]
      clear hcB h2
      have HH : Hid (Calls Tryz.prog 112 #[.slice (some ⟨b,off,none⟩) n cap,refV (E k).z (E k).x (E k).y] w1 fun e w' => e = .returned (.int .i64 (atW n E (E k).z (E k).x (E k).y)) ∧ Below w1.heap.size w1 w') :=
       l12At_any _ n cap E _ _ _ w1 (.inr ⟨b,off,rfl,hbl1,HG1.out⟩) (by omega)
      rcases atW_self HLT.out with ⟨hq,hq2⟩ | ⟨hq,i,hik,hq2⟩
      ·have hok : Hid (rCode E k = 0) := rCode_ok hrq.out hq
       rw [hq2] at HH
       clear hq hq2
       generalize (E k).z = rz at *
       generalize (E k).x = rx at *
       generalize (E k).y = ry at *
       generalize (E k).du = rd at *
       generalize (E k).tr = rt at *
       go_wp2_with (first | (go_at_call 30; refine (l1In_any _ _ _ _).mono ?_; rintro e w' ⟨rfl,rfl⟩) | (go_at_call 112; refine HH.out.mono ?_; rintro e w' ⟨rfl,hb⟩))
       go_roundw
       case rel => exact ⟨k + 1,by have := HLT.out; omega,by go_num,HOK.out hok.out,bl_then HB1.out (by assumption)⟩
       case measure => have := HLT.out; simp [intOf]; omega
      ·have hsc : Hid (reqsC n E = 6) := first.out 6 (rCode_taken hrq.out hq) (by decide)
       have hne : ((i : Int) == (k : Int)) = false := by simp; omega
       rw [hq2] at HH
       clear hq hq2
       generalize (E k).z = rz at *
       generalize (E k).x = rx at *
       generalize (E k).y = ry at *
       generalize (E k).du = rd at *
       generalize (E k).tr = rt at *
       generalize (i : Int) = ii at *
       clear hik
       go_wp2_with (first | (go_at_call 30; refine (l1In_any _ _ _ _).mono ?_; rintro e w' ⟨rfl,rfl⟩) | (go_at_call 112; refine HH.out.mono ?_; rintro e w' ⟨rfl,hb⟩))
       go_ret
       exact ⟨ret_int hsc.out.symm,bl_then HB1.out (by assumption)⟩
    ·have hsc : Hid (reqsC n E = 3) := first.out 3 (rCode_bad (by simp [reqB,h2])) (by decide)
     rw [h1]
     clear h1 h2
     go_wp2
     go_ret
     exact ⟨ret_int hsc.out.symm,HB1.out⟩
   ·have hsc : Hid (reqsC n E = 0) := by
     show _ = _
     rw [hz.out]
     exact scan_none _ _ _ (fun j _ hj => HA.out j (by omega))
    go_wp2
    go_ret
    exact ⟨ret_int hsc.out.symm,HB.out⟩
end Go.Proofs.YtiephlohemphjaaGreat
