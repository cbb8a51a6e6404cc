/- Several texts in one. -/
import Derived.Test.YtciidkmonfmipaaGreatVPutTile13
import Derived.Test.YtciidkmonfmipaaGreatVPutTile8
import Derived.Test.YtciidkmonfmipaaGreatVPutTile11
import Derived.Test.YtciidkmonfmipaaGreatRows
import Derived.WalkKit
import Derived.Below
import Derived.Test.YtciidkmonfmipaaGreatVPutTile5

/- Whether a feature that is simple already covers a pixel: the model. -/

namespace Go.Proofs.YtciidkmonfmipaaGreat
open Go.RowKit
set_option linter.unusedSimpArgs false
set_option linter.unusedVariables false
set_option maxRecDepth 100000

theorem dbl_ok (X Y : Nat → Int) (n : Nat) (hin : ∀ i, i < n → inW (X i) (Y i) = true) : ∀ i, i < n → okP (px (dblL X Y n) i) (py (dblL X Y n) i) = true := fun i hi => by
  obtain ⟨e1, e2⟩ := dblL_px X Y n i hi
  have := inW_bd (hin i hi)
  rw [e1, e2, okP_iff]
  omega
theorem isNear_ok {px py ax ay bx by' r : Int} (hp : okP px py = true) (ha : okP ax ay = true) (hb : okP bx by' = true) (h0 : 0 ≤ r) (h1 : r ≤ 4096) : isNearB px py ax ay bx by' r = nearB px py ax ay bx by' r := by
  simp [isNearB, hp, ha, hb, inB, h0, h1]

theorem l4Doubled_at (b off n cap : Nat) (X Y : Nat → Int) (w : World) (hp : PtsAt w b off n X Y) (hbl : b < w.heap.size) (hn0 : 0 < n) (hn : n ≤ 40) (hin : ∀ i, i < n → inW (X i) (Y i) = true) :
    Calls Tryz.prog 135 #[.slice (some ⟨b, off, none⟩) n cap] w fun e w' => ∃ g cg, e = .returned (.slice (some ⟨g, 0, none⟩) n cg) ∧ g < w'.heap.size ∧ n ≤ cg ∧ PtsAt w' g 0 n (px (dblL X Y n)) (py (dblL X Y n)) ∧ Below w.heap.size w w' :=
  (l4Doubled_any b off n cap X Y w hp hbl hn hin).mono fun e w' ⟨v, he, hR, hb⟩ => by
    obtain ⟨g, cg, hv, h1, h2, h3, h4⟩ := hR.at (by rw [dblL_len]; exact hn0)
    rw [dblL_len] at hv h3 h4
    exact ⟨g, cg, by rw [he, hv], h2, h3, h4, hb⟩
theorem l4Reach_any (q o : Nat) (wi z : Int) (w : World) (hf : w.cell? ⟨q, o + 3, none⟩ = some (.int .i64 wi)) (hw : 0 ≤ wi ∧ wi ≤ 3) (hz : zoomB z = true) :
    Calls Tryz.prog 137 #[.pointer (some ⟨q, o, none⟩), .int .i64 z] w fun e w' => e = .returned (.int .i64 (reachI wi z)) ∧ Below w.heap.size w w' := by
  have s1 := fun w => l3Unit_any z w hz
  have hbd := unit_lit hz
  have hr : Hid (reachI wi z = (wi + 1) * unitI z) := rfl
  generalize unitI z = u at *
  obtain ⟨hw0, hw1⟩ := hw
  have hS := (show Hid _ from s1)
  clear s1
  have c3 : ∀ W', Below w.heap.size w W' → W'.cell? ⟨q, o + 3, none⟩ = some (.int .i64 wi) := fun W' h => bl_cell h hf
  have hr0 : Below w.heap.size w w := Below.refl _ _
  clear hf
  rcases hbd with rfl | rfl | rfl | rfl
  all_goals
    go_enter Tryz.func137, Tryz.ntmps137
    go_wp2_with fail
    go_region_held3 (fun W' => Below w.heap.size w W') ((repeat (first | exact Below.refl _ _ | assumption | refine Below.drew ?_ | refine bl_alloc ?_ _ | refine bl_then ?_ (by assumption) | refine Below.setCell ?_ (by first | omega | (simp; done) | (simp; omega)) _ | refine bl_store ?_ ?_ _ _)))
      (first | (go_at_call 149; refine (hS.out _).mono ?_; rintro e w1 ⟨rfl, rfl⟩))
    go_wp2
    go_ret
    exact ⟨ret_int (by rw [IntWalk.i64_in (wi + 1) (by omega), IntWalk.i64_in _ (by omega)]; exact hr.out.symm), by assumption⟩
set_option maxHeartbeats 8000000 in
theorem l4Simple_any (q o : Nat) (id la ki wi z x y : Int) (b off n cap : Nat) (X Y : Nat → Int) (lab : ByteArray) (pr : Int) (w : World) (hf : FeatAt w q o id la ki wi (.slice (some ⟨b, off, none⟩) n cap) lab pr) (hp : PtsAt w b off n X Y) (hbl : b < w.heap.size) (hn : n ≤ 40) (hkn : kindN ki n) (hin : ∀ i, i < n → inW (X i) (Y i) = true) (hw : 0 ≤ wi ∧ wi ≤ 3) (hpx : pixB z x y = true) :
    Calls Tryz.prog 112 #[.pointer (some ⟨q, o, none⟩), .int .i64 z, .int .i64 x, .int .i64 y] w fun e w' => e = .returned (.bool (coverB ki wi z (centI z x) (centI z y) (dblL X Y n))) ∧ Below w.heap.size w w' := by
  have hz := pixB_zoom hpx
  have hcok := cent_ok hpx
  have HCK : Hid (okP (centI z x) (centI z y) = true) := hcok
  have hrb := reach_bd hw hz
  have hn0 : 0 < n := by rcases hkn with ⟨_, h⟩ | ⟨_, h⟩ | ⟨_, h⟩ <;> omega
  have HF : Hid (FeatAt w q o id la ki wi (.slice (some ⟨b, off, none⟩) n cap) lab pr) := hf
  have hql : q < w.heap.size := World.block_lt_of_cell? _ _ hf.1
  have HP : Hid (PtsAt w b off n X Y) := hp
  have HIN : Hid (∀ i, i < n → inW (X i) (Y i) = true) := hin
  have HOK : Hid (∀ i, i < n → okP (px (dblL X Y n) i) (py (dblL X Y n) i) = true) := dbl_ok X Y n hin
  have HW : Hid (0 ≤ wi ∧ wi ≤ 3) := hw
  have HPX : Hid (pixB z x y = true) := hpx
  have hdl := dblL_len X Y n
  have Hce := (show Hid _ from fun w => l4Centre_any z x y w hpx)
  generalize centI z x = cx at *
  generalize centI z y = cy at *
  generalize hD : dblL X Y n = D at *
  have HD : Hid (dblL X Y n = D) := hD
  clear hp hin hw hpx hf hcok hD
  go_enter Tryz.func112, Tryz.ntmps112
  go_wp2_with fail
  refine (Hce.out _).mono ?_
  rintro e w1 ⟨rfl, hb1⟩
  obtain ⟨q0, q1, q2, q3, q4, q5, q6⟩ := HF.out.below hb1 hql
  have hql1 : q < w1.heap.size := Nat.lt_of_lt_of_le hql hb1.size
  go_wp2_with fail
  generalize hW : (w1.alloc _ : World) = W
  have hbW1 : Below w1.heap.size w1 W := by subst hW; (repeat (first | exact Below.refl _ _ | assumption | refine Below.drew ?_ | refine bl_alloc ?_ _ | refine bl_then ?_ (by assumption) | refine Below.setCell ?_ (by first | omega | (simp; done) | (simp; omega)) _ | refine bl_store ?_ ?_ _ _))
  have d0 : ∀ W', Below W.heap.size W W' → W'.cell? ⟨w1.heap.size, 0, none⟩ = some (.int .i64 cx) := fun W' h => by
    rw [h.cell (by subst hW; simp <;> omega)]; subst hW; simp [go_sem]
  have d1 : ∀ W', Below W.heap.size W W' → W'.cell? ⟨w1.heap.size, 1, none⟩ = some (.int .i64 cy) := fun W' h => by
    rw [h.cell (by subst hW; simp <;> omega)]; subst hW; simp [go_sem]
  have hszW : w1.heap.size < W.heap.size := by subst hW; simp
  clear hW
  have hBW : Below w.heap.size w W := bl_then hb1 hbW1
  have HBW : Hid (Below w.heap.size w W) := hBW
  have HFW : Hid (FeatAt W q o id la ki wi (.slice (some ⟨b, off, none⟩) n cap) lab pr) := HF.out.below hBW hql
  have hqlW : q < W.heap.size := Nat.lt_of_lt_of_le hql hBW.size
  clear q0 q1 q2 q3 q4 q5 q6 hb1 hbW1
  refine (l4Doubled_at b off n cap X Y W (HP.out.below hBW hbl) (Nat.lt_of_lt_of_le hbl hBW.size) hn0 hn HIN.out).mono ?_
  rw [HD.out]
  rintro e w2 ⟨g, cg, rfl, hgl, hcg, hPg, hb2⟩
  have HPg : Hid (PtsAt w2 g 0 n (px D) (py D)) := hPg
  obtain ⟨q0, q1, q2, q3, q4, q5, q6⟩ := HFW.out.below hb2 hqlW
  have hB2 : Below W.heap.size W w2 := hb2
  have hql2 : q < w2.heap.size := Nat.lt_of_lt_of_le hqlW hb2.size
  have k0 := d0 w2 hb2
  have k1 := d1 w2 hb2
  have hsz2 := hb2.size
  clear hb2 hBW hPg
  rcases hkn with ⟨rfl, rfl⟩ | ⟨rfl, h2⟩ | ⟨rfl, h3⟩
  · have HK : Hid (coverB 1 wi z cx cy D = nearB cx cy (px D 0) (py D 0) (px D 0) (py D 0) (reachI wi z)) := by
      show _ = _
      simp only [coverB, hdl]
      rw [if_neg (by decide)]
      simp only [byB, Bool.false_or]
      exact isNear_ok HCK.out (HOK.out 0 (by omega)) (HOK.out 0 (by omega)) (by omega) (by omega)
    go_wp2_with fail
    refine (l4Reach_any q o wi z _ q3 HW.out hz).mono ?_
    rintro e w3 ⟨rfl, hb3⟩
    have hB3 : Below W.heap.size W w3 := bl_then hB2 hb3
    have hg3 : g < w3.heap.size := Nat.lt_of_lt_of_le hgl hb3.size
    have e0 : ∀ W', Below w3.heap.size w3 W' → W'.cell? ⟨g, 0, none⟩ = some (.int .i64 (px D 0)) := fun W' h => by simpa using ((HPg.out.below hb3 hgl).below h hg3 0 (by omega)).1
    have e1 : ∀ W', Below w3.heap.size w3 W' → W'.cell? ⟨g, 1, none⟩ = some (.int .i64 (py D 0)) := fun W' h => by simpa using ((HPg.out.below hb3 hgl).below h hg3 0 (by omega)).2
    have m0 : ∀ W', Below w3.heap.size w3 W' → W'.cell? ⟨w1.heap.size, 0, none⟩ = some (.int .i64 cx) := fun W' h => d0 W' (bl_then hB3 h)
    have m1 : ∀ W', Below w3.heap.size w3 W' → W'.cell? ⟨w1.heap.size, 1, none⟩ = some (.int .i64 cy) := fun W' h => d1 W' (bl_then hB3 h)
    have hr3 : Below w3.heap.size w3 w3 := Below.refl _ _
    obtain ⟨p0, p1, p2, p3, p4, p5, p6⟩ := HFW.out.below hB3 hqlW
    clear q0 q1 q2 q3 q4 q5 q6 k0 k1 d0 d1
    generalize reachI wi z = r at *
    go_wp2_with fail
    go_region_held3 (fun W' => Below w3.heap.size w3 W') ((repeat (first | exact Below.refl _ _ | assumption | refine Below.drew ?_ | refine bl_alloc ?_ _ | refine bl_then ?_ (by assumption) | refine Below.setCell ?_ (by first | omega | (simp; done) | (simp; omega)) _ | refine bl_store ?_ ?_ _ _)))
      (first | (go_at_call 138; refine (l1Near_any cx cy _ _ _ _ r _ HCK.out (HOK.out 0 (by omega)) (HOK.out 0 (by omega)) (by omega) (by omega)).mono ?_; rintro e w4 ⟨rfl, hb4⟩))
    go_wp2_with fail
    go_ret
    exact ⟨ret_bool HK.out.symm, bl_then HBW.out (bl_then hB3 (by assumption))⟩
  · have HK : Hid (coverB 2 wi z cx cy D = segB cx cy (reachI wi z) (px D) (py D) (n - 1)) := by
      show _ = _
      simp only [coverB, hdl]
      rw [if_neg (by decide)]
      exact byB_line _ _ _ _ _ _ h2 (HOK.out 1 (by omega))
    go_wp2_with fail
    refine (l4Reach_any q o wi z _ q3 HW.out hz).mono ?_
    rintro e w3 ⟨rfl, hb3⟩
    have hB3 : Below W.heap.size W w3 := bl_then hB2 hb3
    have HP3 : Hid (PtsAt w3 g 0 n (px D) (py D)) := HPg.out.below hb3 hgl
    have hg3 : g < w3.heap.size := Nat.lt_of_lt_of_le hgl hb3.size
    have HB3 : Hid (Below w.heap.size w w3) := bl_then HBW.out hB3
    obtain ⟨p0, p1, p2, p3, p4, p5, p6⟩ := HFW.out.below hB3 hqlW
    have m0 : ∀ W', Below w3.heap.size w3 W' → W'.cell? ⟨w1.heap.size, 0, none⟩ = some (.int .i64 cx) := fun W' h => d0 W' (bl_then hB3 h)
    have m1 : ∀ W', Below w3.heap.size w3 W' → W'.cell? ⟨w1.heap.size, 1, none⟩ = some (.int .i64 cy) := fun W' h => d1 W' (bl_then hB3 h)
    have hsz3 : w1.heap.size < w3.heap.size := by have := hB3.size; omega
    clear q0 q1 q2 q3 q4 q5 q6 k0 k1 d0 d1 hb3 hB2 hB3 HFW HF HP
    generalize reachI wi z = r at *
    go_wp2_with fail
    go_loopw [12] (fun i wr => ∃ k : Nat, k + 1 ≤ n ∧ i = .int .i64 (k : Int) ∧ segB cx cy r (px D) (py D) k = false ∧ Below w3.heap.size w3 wr) (fun i _ => n - (intOf i).toNat)
    case atStart => exact ⟨0, by omega, rfl, rfl, Below.refl _ _⟩
    case round =>
      obtain ⟨k, hk, rfl, hF, hB⟩ := hrel
      have HF : Hid (segB cx cy r (px D) (py D) k = false) := hF
      have HB : Hid (Below w3.heap.size w3 wr) := hB
      have n0 := m0 wr hB
      have n1 := m1 wr hB
      have hszr := hB.size
      by_cases hlt : k + 1 < n
      · have hgr : g < wr.heap.size := by omega
        have e0 : ∀ W', Below wr.heap.size wr W' → W'.cell? ⟨g, k * 2, none⟩ = some (.int .i64 (px D k)) := fun W' h => by simpa using ((HP3.out.below HB.out hg3).below h hgr k (by omega)).1
        have e1 : ∀ W', Below wr.heap.size wr W' → W'.cell? ⟨g, k * 2 + 1, none⟩ = some (.int .i64 (py D k)) := fun W' h => by simpa using ((HP3.out.below HB.out hg3).below h hgr k (by omega)).2
        have e2 : ∀ W', Below wr.heap.size wr W' → W'.cell? ⟨g, (k + 1) * 2, none⟩ = some (.int .i64 (px D (k + 1))) := fun W' h => by simpa using ((HP3.out.below HB.out hg3).below h hgr (k + 1) hlt).1
        have e3 : ∀ W', Below wr.heap.size wr W' → W'.cell? ⟨g, (k + 1) * 2 + 1, none⟩ = some (.int .i64 (py D (k + 1))) := fun W' h => by simpa using ((HP3.out.below HB.out hg3).below h hgr (k + 1) hlt).2
        have o0 : ∀ W', Below wr.heap.size wr W' → W'.cell? ⟨w1.heap.size, 0, none⟩ = some (.int .i64 cx) := fun W' h => m0 W' (bl_then HB.out h)
        have o1 : ∀ W', Below wr.heap.size wr W' → W'.cell? ⟨w1.heap.size, 1, none⟩ = some (.int .i64 cy) := fun W' h => m1 W' (bl_then HB.out h)
        have hrr : Below wr.heap.size wr wr := Below.refl _ _
        have hi1 : (k : Int) + 1 < (n : Int) := by omega
        have hi0 : (k : Int) < (n : Int) := by omega
        have hwr : IntKind.i64.wrap ((k : Int) + 1) = (k : Int) + 1 := IntWalk.i64_in _ (by omega)
        have hto : ((k : Int) + 1).toNat = k + 1 := by omega
        have hi00 : (0 : Int) ≤ (k : Int) + 1 := by omega
        clear hF hB n0 n1
        go_wp2_with fail
        go_region_held3 (fun W' => Below wr.heap.size wr W') ((repeat (first | exact Below.refl _ _ | assumption | refine Below.drew ?_ | refine bl_alloc ?_ _ | refine bl_then ?_ (by assumption) | refine Below.setCell ?_ (by first | omega | (simp; done) | (simp; omega)) _ | refine bl_store ?_ ?_ _ _)))
          (first | (go_at_call 138; refine (l1Near_any cx cy _ _ _ _ r _ HCK.out (HOK.out k (by omega)) (HOK.out (k + 1) hlt) (by omega) (by omega)).mono ?_; rintro e w4 ⟨rfl, hb4'⟩))
        have hb4 : Below wr.heap.size wr w4 := by assumption
        cases hq : nearB cx cy (px D k) (py D k) (px D (k + 1)) (py D (k + 1)) r
        · have HK1 : Hid (segB cx cy r (px D) (py D) (k + 1) = false) := by
            show _ = _
            rw [segB, HF.out, isNear_ok HCK.out (HOK.out k (by omega)) (HOK.out (k + 1) hlt) (by omega) (by omega), hq]; rfl
          go_wp2_with fail
          go_roundw
          case rel => exact ⟨k + 1, by omega, by go_num, HK1.out, bl_then HB.out hb4⟩
          case measure => simp [intOf]; omega
        · have HK1 : Hid (segB cx cy r (px D) (py D) (n - 1) = true) := segB_true (k + 1) (by
            rw [segB, isNear_ok HCK.out (HOK.out k (by omega)) (HOK.out (k + 1) hlt) (by omega) (by omega), hq]; simp) (n - 1) (by omega)
          go_wp2_with fail
          go_ret
          exact ⟨ret_bool (by rw [HK.out, HK1.out]), bl_then HB3.out (bl_then HB.out hb4)⟩
      · have hkk : k = n - 1 := by omega
        have hi1 : ¬ (k : Int) + 1 < (n : Int) := by omega
        have HK1 : Hid (segB cx cy r (px D) (py D) (n - 1) = false) := by show _ = _; rw [← hkk]; exact HF.out
        clear hF hB
        go_wp2_with fail
        go_ret
        exact ⟨ret_bool (by rw [HK.out, HK1.out]), bl_then HB3.out HB.out⟩
  · have HK : Hid (coverB 3 wi z cx cy D = oddTo (sideAt cx cy n (px D) (py D)) n) := by
      show _ = _
      simp only [coverB, hdl, if_true]
      have ha : allOk n (px D) (py D) = true := decide_eq_true HOK.out
      simp [insideB, HCK.out, ha, h3, hn]
    go_wp2_with fail
    refine (l1Inside_any _ _ g n cg _ _ _ HCK.out HPg.out hgl HOK.out hcg (by omega)).mono ?_
    rintro e w4 ⟨rfl, hb4⟩
    go_wp2_with fail
    go_ret
    exact ⟨ret_bool HK.out.symm, bl_then HBW.out (bl_then hB2 hb4)⟩
end Go.Proofs.YtciidkmonfmipaaGreat
/- The first of two or three numbers that is not 0. -/

namespace Go.Proofs.YtciidkmonfmipaaGreat
open Go.RowKit
set_option linter.unusedSimpArgs false
set_option linter.unusedVariables false
set_option maxRecDepth 100000

/-- The first of two that is not 0. -/
def or2 (x y : Int) : Int := if x = 0 then y else x
set_option maxHeartbeats 2000000 in
theorem cmpOr2_any (b c : Nat) (x y : Int) (w : World) (h0 : w.cell? ⟨b, 0, none⟩ = some (.int .i64 x)) (h1 : w.cell? ⟨b, 1, none⟩ = some (.int .i64 y)) :
    Calls Tryz.prog 60 #[.slice (some ⟨b, 0, none⟩) 2 c] w fun e w' => e = .returned (.int .i64 (or2 x y)) ∧ w' = w := by
  unfold or2
  by_cases hx : x = 0
  · subst hx
    by_cases hy : y = 0
    · subst hy
      go_enter Tryz.func60, Tryz.ntmps60
      go_wp2
      refine wp_loop_rounds 3 ?_
      rw [rounds_succ]
      go_wp2
      rw [rounds_succ]
      go_wp2
      rw [rounds_succ]
      go_wp2
      go_ret
      exact ⟨by simp, rfl⟩
    · have hy' : (y == 0) = false := by simpa using hy
      go_enter Tryz.func60, Tryz.ntmps60
      go_wp2
      refine wp_loop_rounds 2 ?_
      rw [rounds_succ]
      go_wp2
      rw [rounds_succ]
      go_wp2
      go_ret
      exact ⟨by simp, rfl⟩
  · have hx' : (x == 0) = false := by simpa using hx
    go_enter Tryz.func60, Tryz.ntmps60
    go_wp2
    refine wp_loop_rounds 1 ?_
    rw [rounds_succ]
    go_wp2
    go_ret
    exact ⟨by simp [hx], rfl⟩
end Go.Proofs.YtciidkmonfmipaaGreat
/- Refs: what is wrong of one, its parent, the one of a pixel: the program and the model. -/

namespace Go.Proofs.YtciidkmonfmipaaGreat
open Go.RowKit
set_option linter.unusedSimpArgs false
set_option linter.unusedVariables false
set_option maxRecDepth 100000

/-- The greatest X and Y of a ref. -/
def lastI (z : Int) : Int := if z = 0 then 0 else if z = 1 then 1 else if z = 2 then 3 else 7
/-- A ref without a fault. -/
def refB (z x y : Int) : Bool := zoomB z && (inB x 0 (lastI z) && inB y 0 (lastI z))
def refC (z x y : Int) : Int := if refB z x y = true then 0 else 3
theorem refC_cases (z x y : Int) : (refC z x y = 0 ∧ refB z x y = true) ∨ (refC z x y = 3 ∧ refB z x y = false) := by
  unfold refC
  cases h : refB z x y <;> simp
theorem refB_zoom {z x y : Int} (h : refB z x y = true) : z = 0 ∨ z = 1 ∨ z = 2 ∨ z = 3 := by
  simp [refB] at h
  exact zoomB_cases h.1
theorem refB_in {z x y : Int} (h : refB z x y = true) : (0 ≤ x ∧ x ≤ lastI z) ∧ (0 ≤ y ∧ y ≤ lastI z) := by
  simp [refB, inB] at h
  exact h.2
theorem lastI_le (z : Int) : lastI z ≤ 7 := by unfold lastI; split; omega; split; omega; split <;> omega
theorem ref_bd {z x y : Int} (h : refB z x y = true) : (0 ≤ z ∧ z ≤ 3) ∧ (0 ≤ x ∧ x ≤ 7) ∧ (0 ≤ y ∧ y ≤ 7) := by
  have h1 := refB_in h
  have h2 := lastI_le z
  refine ⟨?_, ⟨h1.1.1, by omega⟩, h1.2.1, by omega⟩
  rcases refB_zoom h with rfl | rfl | rfl | rfl <;> omega

theorem refFault_any (z x y : Int) (w : World) : Calls Tryz.prog 61 #[.agg #[.int .i64 z, .int .i64 x, .int .i64 y]] w fun e w' => e = .returned (.int .i64 (refC z x y)) ∧ Below w.heap.size w w' := by
  cases h : zoomB z
  · have hk : Hid (refC z x y = 3) := by show _ = _; simp [refC, refB, h]
    go_enter Tryz.func61, Tryz.ntmps61
    go_wp2_with (first | (go_at_call 90; refine (isZoom_any _ _).mono ?_; rintro e w' ⟨rfl, rfl⟩) | (go_at_call 88; refine (isWithin_any _ _ _ _).mono ?_; rintro e w' ⟨rfl, rfl⟩))
    go_ret
    exact ⟨ret_int hk.out.symm, by (repeat (first | exact Below.refl _ _ | assumption | refine Below.drew ?_ | refine bl_alloc ?_ _ | refine bl_then ?_ (by assumption) | refine Below.setCell ?_ (by first | omega | (simp; done) | (simp; omega)) _ | refine bl_store ?_ ?_ _ _))⟩
  · have hk : Hid (refC z x y = if (inB x 0 (lastI z) && inB y 0 (lastI z)) = true then 0 else 3) := by show _ = _; simp [refC, refB, h]
    rcases zoomB_cases h with rfl | rfl | rfl | rfl
    · simp only [show lastI 0 = 0 from rfl] at hk
      cases hx : inB x 0 0 <;> cases hy : inB y 0 0
      all_goals
        rw [hx, hy] at hk
        go_enter Tryz.func61, Tryz.ntmps61
        go_wp2_with (first | (go_at_call 90; refine (isZoom_any _ _).mono ?_; rintro e w' ⟨rfl, rfl⟩) | (go_at_call 88; refine (isWithin_any _ _ _ _).mono ?_; rintro e w' ⟨rfl, rfl⟩))
        all_goals (go_ret; exact ⟨ret_int (by rw [hk.out]; rfl), by (repeat (first | exact Below.refl _ _ | assumption | refine Below.drew ?_ | refine bl_alloc ?_ _ | refine bl_then ?_ (by assumption) | refine Below.setCell ?_ (by first | omega | (simp; done) | (simp; omega)) _ | refine bl_store ?_ ?_ _ _))⟩)
    · simp only [show lastI 1 = 1 from rfl] at hk
      cases hx : inB x 0 1 <;> cases hy : inB y 0 1
      all_goals
        rw [hx, hy] at hk
        go_enter Tryz.func61, Tryz.ntmps61
        go_wp2_with (first | (go_at_call 90; refine (isZoom_any _ _).mono ?_; rintro e w' ⟨rfl, rfl⟩) | (go_at_call 88; refine (isWithin_any _ _ _ _).mono ?_; rintro e w' ⟨rfl, rfl⟩))
        all_goals (go_ret; exact ⟨ret_int (by rw [hk.out]; rfl), by (repeat (first | exact Below.refl _ _ | assumption | refine Below.drew ?_ | refine bl_alloc ?_ _ | refine bl_then ?_ (by assumption) | refine Below.setCell ?_ (by first | omega | (simp; done) | (simp; omega)) _ | refine bl_store ?_ ?_ _ _))⟩)
    · simp only [show lastI 2 = 3 from rfl] at hk
      cases hx : inB x 0 3 <;> cases hy : inB y 0 3
      all_goals
        rw [hx, hy] at hk
        go_enter Tryz.func61, Tryz.ntmps61
        go_wp2_with (first | (go_at_call 90; refine (isZoom_any _ _).mono ?_; rintro e w' ⟨rfl, rfl⟩) | (go_at_call 88; refine (isWithin_any _ _ _ _).mono ?_; rintro e w' ⟨rfl, rfl⟩))
        all_goals (go_ret; exact ⟨ret_int (by rw [hk.out]; rfl), by (repeat (first | exact Below.refl _ _ | assumption | refine Below.drew ?_ | refine bl_alloc ?_ _ | refine bl_then ?_ (by assumption) | refine Below.setCell ?_ (by first | omega | (simp; done) | (simp; omega)) _ | refine bl_store ?_ ?_ _ _))⟩)
    · simp only [show lastI 3 = 7 from rfl] at hk
      cases hx : inB x 0 7 <;> cases hy : inB y 0 7
      all_goals
        rw [hx, hy] at hk
        go_enter Tryz.func61, Tryz.ntmps61
        go_wp2_with (first | (go_at_call 90; refine (isZoom_any _ _).mono ?_; rintro e w' ⟨rfl, rfl⟩) | (go_at_call 88; refine (isWithin_any _ _ _ _).mono ?_; rintro e w' ⟨rfl, rfl⟩))
        all_goals (go_ret; exact ⟨ret_int (by rw [hk.out]; rfl), by (repeat (first | exact Below.refl _ _ | assumption | refine Below.drew ?_ | refine bl_alloc ?_ _ | refine bl_then ?_ (by assumption) | refine Below.setCell ?_ (by first | omega | (simp; done) | (simp; omega)) _ | refine bl_store ?_ ?_ _ _))⟩)
theorem l7Fault_any (z x y : Int) (w : World) : Calls Tryz.prog 52 #[.agg #[.int .i64 z, .int .i64 x, .int .i64 y]] w fun e w' => e = .returned (.int .i64 (refC z x y)) ∧ Below w.heap.size w w' := by
  cases h : zoomB z
  · have hk : Hid (refC z x y = 3) := by show _ = _; simp [refC, refB, h]
    go_enter Tryz.func52, Tryz.ntmps52
    go_wp2_with (first | (go_at_call 81; refine (l3Zoom_any _ _).mono ?_; rintro e w' ⟨rfl, rfl⟩) | (go_at_call 49; refine (l1In_any _ _ _ _).mono ?_; rintro e w' ⟨rfl, rfl⟩))
    go_ret
    exact ⟨ret_int hk.out.symm, by (repeat (first | exact Below.refl _ _ | assumption | refine Below.drew ?_ | refine bl_alloc ?_ _ | refine bl_then ?_ (by assumption) | refine Below.setCell ?_ (by first | omega | (simp; done) | (simp; omega)) _ | refine bl_store ?_ ?_ _ _))⟩
  · have hk : Hid (refC z x y = if (inB x 0 (lastI z) && inB y 0 (lastI z)) = true then 0 else 3) := by show _ = _; simp [refC, refB, h]
    rcases zoomB_cases h with rfl | rfl | rfl | rfl
    · simp only [show lastI 0 = 0 from rfl] at hk
      cases hx : inB x 0 0 <;> cases hy : inB y 0 0
      all_goals
        rw [hx, hy] at hk
        go_enter Tryz.func52, Tryz.ntmps52
        go_wp2_with (first | (go_at_call 81; refine (l3Zoom_any _ _).mono ?_; rintro e w' ⟨rfl, rfl⟩) | (go_at_call 49; refine (l1In_any _ _ _ _).mono ?_; rintro e w' ⟨rfl, rfl⟩))
        all_goals (go_ret; exact ⟨ret_int (by rw [hk.out]; rfl), by (repeat (first | exact Below.refl _ _ | assumption | refine Below.drew ?_ | refine bl_alloc ?_ _ | refine bl_then ?_ (by assumption) | refine Below.setCell ?_ (by first | omega | (simp; done) | (simp; omega)) _ | refine bl_store ?_ ?_ _ _))⟩)
    · simp only [show lastI 1 = 1 from rfl] at hk
      cases hx : inB x 0 1 <;> cases hy : inB y 0 1
      all_goals
        rw [hx, hy] at hk
        go_enter Tryz.func52, Tryz.ntmps52
        go_wp2_with (first | (go_at_call 81; refine (l3Zoom_any _ _).mono ?_; rintro e w' ⟨rfl, rfl⟩) | (go_at_call 49; refine (l1In_any _ _ _ _).mono ?_; rintro e w' ⟨rfl, rfl⟩))
        all_goals (go_ret; exact ⟨ret_int (by rw [hk.out]; rfl), by (repeat (first | exact Below.refl _ _ | assumption | refine Below.drew ?_ | refine bl_alloc ?_ _ | refine bl_then ?_ (by assumption) | refine Below.setCell ?_ (by first | omega | (simp; done) | (simp; omega)) _ | refine bl_store ?_ ?_ _ _))⟩)
    · simp only [show lastI 2 = 3 from rfl] at hk
      cases hx : inB x 0 3 <;> cases hy : inB y 0 3
      all_goals
        rw [hx, hy] at hk
        go_enter Tryz.func52, Tryz.ntmps52
        go_wp2_with (first | (go_at_call 81; refine (l3Zoom_any _ _).mono ?_; rintro e w' ⟨rfl, rfl⟩) | (go_at_call 49; refine (l1In_any _ _ _ _).mono ?_; rintro e w' ⟨rfl, rfl⟩))
        all_goals (go_ret; exact ⟨ret_int (by rw [hk.out]; rfl), by (repeat (first | exact Below.refl _ _ | assumption | refine Below.drew ?_ | refine bl_alloc ?_ _ | refine bl_then ?_ (by assumption) | refine Below.setCell ?_ (by first | omega | (simp; done) | (simp; omega)) _ | refine bl_store ?_ ?_ _ _))⟩)
    · simp only [show lastI 3 = 7 from rfl] at hk
      cases hx : inB x 0 7 <;> cases hy : inB y 0 7
      all_goals
        rw [hx, hy] at hk
        go_enter Tryz.func52, Tryz.ntmps52
        go_wp2_with (first | (go_at_call 81; refine (l3Zoom_any _ _).mono ?_; rintro e w' ⟨rfl, rfl⟩) | (go_at_call 49; refine (l1In_any _ _ _ _).mono ?_; rintro e w' ⟨rfl, rfl⟩))
        all_goals (go_ret; exact ⟨ret_int (by rw [hk.out]; rfl), by (repeat (first | exact Below.refl _ _ | assumption | refine Below.drew ?_ | refine bl_alloc ?_ _ | refine bl_then ?_ (by assumption) | refine Below.setCell ?_ (by first | omega | (simp; done) | (simp; omega)) _ | refine bl_store ?_ ?_ _ _))⟩)
/-- A ref as a value. -/
abbrev refV (z x y : Int) : Value := .agg #[.int .i64 z, .int .i64 x, .int .i64 y]
end Go.Proofs.YtciidkmonfmipaaGreat
/- The parent of a ref, the ref of a pixel: the program and the model, and their laws. -/

namespace Go.Proofs.YtciidkmonfmipaaGreat
open Go.RowKit
set_option linter.unusedSimpArgs false
set_option linter.unusedVariables false
set_option maxRecDepth 100000

theorem there4r (V : World) (a b c d : Value) (t : TypeId) : There (V.alloc (.cells #[a, b, c, d] t)) V.heap.size 4 := fun o ho => by
  have : o = 0 ∨ o = 1 ∨ o = 2 ∨ o = 3 := by omega
  rcases this with rfl | rfl | rfl | rfl <;> exact ⟨⟨_, by simp [go_sem]; rfl⟩, by simp [go_sem]⟩
theorem there3r (V : World) (a b c : Value) (t : TypeId) : There (V.alloc (.cells #[a, b, c] t)) V.heap.size 3 := fun o ho => by
  have : o = 0 ∨ o = 1 ∨ o = 2 := by omega
  rcases this with rfl | rfl | rfl <;> exact ⟨⟨_, by simp [go_sem]; rfl⟩, by simp [go_sem]⟩

theorem toRef_any (z x y : Int) (w : World) : Calls Tryz.prog 20 #[refV z x y] w fun e w' => e = .returned (refV z x y) ∧ Below w.heap.size w w' := by
  go_enter Tryz.func20, Tryz.ntmps20
  go_wp2
  exact bodyPost_ret (v := refV z x y) (by simp [results, Tryz.results20, go_sem]) rfl ⟨rfl, by (repeat (first | exact Below.refl _ _ | assumption | refine Below.drew ?_ | refine bl_alloc ?_ _ | refine bl_then ?_ (by assumption) | refine Below.setCell ?_ (by first | omega | (simp; done) | (simp; omega)) _ | refine bl_store ?_ ?_ _ _))⟩
theorem eqRef_any (z x y : Int) (w : World) : Calls Tryz.prog 36 #[refV z x y, refV z x y] w fun e w' => e = .returned (.bool true) ∧ Below w.heap.size w w' := by
  go_enter Tryz.func36, Tryz.ntmps36
  go_wp2
  go_ret
  exact ⟨rfl, by (repeat (first | exact Below.refl _ _ | assumption | refine Below.drew ?_ | refine bl_alloc ?_ _ | refine bl_then ?_ (by assumption) | refine Below.setCell ?_ (by first | omega | (simp; done) | (simp; omega)) _ | refine bl_store ?_ ?_ _ _))⟩
end Go.Proofs.YtciidkmonfmipaaGreat
