/- The fault of one quad whose own numbers are right, by the program. -/
import Derived.Test.YtjnhaigmfjndhaaVFindBox20
namespace Go.Proofs.Ytjnhaigmfjndhaa
open Go.RowKit Go.Shelf
set_option linter.unusedSimpArgs false
set_option linter.unusedVariables false
set_option maxRecDepth 100000

theorem isWithin_same (v lo hi : Int) (w : World) : Calls Try.prog 65 #[.int .i64 v, .int .i64 lo, .int .i64 hi] w fun e w' => e = .returned (.bool (inB v lo hi)) ∧ w = w' := (isWithin_any v lo hi w).mono (fun _ _ h => ⟨h.1, h.2.symm⟩)
/-- The cells of kidBounds' answer. -/
abbrev kidsV (a b c d : Int) : Array Value := #[.int .i64 a, .int .i64 b, .int .i64 (mid a c), .int .i64 (mid b d), .int .i64 (mid a c + 1), .int .i64 b, .int .i64 c, .int .i64 (mid b d), .int .i64 a, .int .i64 (mid b d + 1), .int .i64 (mid a c), .int .i64 d, .int .i64 (mid a c + 1), .int .i64 (mid b d + 1), .int .i64 c, .int .i64 d]
theorem kids_at {V : World} {B : Nat} {a b c d : Int} {t : TypeId} (h : V.heap[B]? = some (.cells (kidsV a b c d) t (0, 0))) (k : Nat) (hk : k < 4) :
    V.cell? ⟨B, k * 4, none⟩ = some (.int .i64 (kx0 a c k)) ∧ V.cell? ⟨B, k * 4 + 1, none⟩ = some (.int .i64 (ky0 b d k)) ∧ V.cell? ⟨B, k * 4 + 2, none⟩ = some (.int .i64 (kx1 a c k)) ∧ V.cell? ⟨B, k * 4 + 3, none⟩ = some (.int .i64 (ky1 b d k)) := by
  match k, hk with
  | 0, _ | 1, _ | 2, _ | 3, _ => exact ⟨by simp [World.cell?, h, kidsV, kx0], by simp [World.cell?, h, kidsV, ky0], by simp [World.cell?, h, kidsV, kx1], by simp [World.cell?, h, kidsV, ky1]⟩

set_option maxHeartbeats 2000000 in
theorem quadFault_leaf (p off n cap i : Nat) (Q : Nat → Qd) (w : World) (hQ : QsAt w w.heap.size p off n Q) (hn : n ≤ 1048576) (hi : i < n) (hbad : badAt Q n i = false) (hbox : boxC (Q i).a (Q i).b (Q i).c (Q i).d = 0) (hfi : (Q i).fi = 0) :
    Calls Try.prog 50 #[.slice (some ⟨p, off, none⟩) n cap, .int .i64 (i : Int)] w fun e w' => e = .returned (.int .i64 0) ∧ Below w.heap.size w w' := by
  have HQ : Hid (QsAt w w.heap.size p off n Q) := hQ
  obtain ⟨⟨q0, q1, q2, q3, q4, q5, q6⟩, _⟩ := hQ.2 i hi
  have hpl : p < w.heap.size := hQ.1
  have hi1 : (i : Int) < (n : Int) := by omega
  have hi0 : (0 : Int) ≤ (i : Int) := by omega
  have hn' : (n : Int) ≤ 1048576 := by omega
  unfold badAt at hbad
  simp only [Bool.or_eq_false_iff, Bool.not_eq_false', Bool.and_eq_false_iff, decide_eq_false_iff_not, ne_eq, Classical.not_not] at hbad
  obtain ⟨h1, h2⟩ := hbad
  obtain ⟨r1, r2, r3, r4⟩ := boxC_le hbox
  have HK : Hid (∀ W : World, Calls Try.prog 66 #[.agg #[.int .i64 (Q i).a, .int .i64 (Q i).b, .int .i64 (Q i).c, .int .i64 (Q i).d]] W fun e w' => e = .returned (.agg (kidsV (Q i).a (Q i).b (Q i).c (Q i).d)) ∧ Below W.heap.size W w') := fun W => kidBounds_any _ _ _ _ W r1 r2 r3 r4
  have HBX : Hid (∀ W : World, Calls Try.prog 28 #[.agg #[.int .i64 (Q i).a, .int .i64 (Q i).b, .int .i64 (Q i).c, .int .i64 (Q i).d]] W fun e w' => e = .returned (.int .i64 0) ∧ Below W.heap.size W w') := fun W => (boxFault_any _ _ _ _ W).mono (fun _ _ h => ⟨by rw [h.1, hbox], h.2⟩)
  rw [hfi] at q5
  clear r1 r2 r3 r4 hbox h2 hQ
  go_enter Try.func50, Try.ntmps50
  go_upto_region 5 with (go_at_call 65; refine (isWithin_same _ _ _ _).mono ?_; rintro e w' ⟨rfl, rfl⟩)
  go_upto_region 7 with (go_at_call 28; refine (HBX.out _).mono ?_; rintro e w2 ⟨rfl, hb2⟩)
  have e0 := (hb2.cell (p := ⟨p, off + i * 7, none⟩) hpl).trans q0
  have e1 := (hb2.cell (p := ⟨p, off + i * 7 + 1, none⟩) hpl).trans q1
  have e2 := (hb2.cell (p := ⟨p, off + i * 7 + 2, none⟩) hpl).trans q2
  have e3 := (hb2.cell (p := ⟨p, off + i * 7 + 3, none⟩) hpl).trans q3
  clear q0 q1 q2 q3
  go_upto_region 8 with (go_at_call 66; refine (HK.out _).mono ?_; rintro e w3 ⟨rfl, hb3⟩)
  obtain ⟨V, hV⟩ : ∃ V : World, w3.alloc (.cells (kidsV (Q i).a (Q i).b (Q i).c (Q i).d) 99) = V := ⟨_, rfl⟩
  rw [show w3.alloc (.cells #[.int .i64 (Q i).a, .int .i64 (Q i).b, .int .i64 (mid (Q i).a (Q i).c), .int .i64 (mid (Q i).b (Q i).d), .int .i64 (mid (Q i).a (Q i).c + 1), .int .i64 (Q i).b, .int .i64 (Q i).c, .int .i64 (mid (Q i).b (Q i).d), .int .i64 (Q i).a, .int .i64 (mid (Q i).b (Q i).d + 1), .int .i64 (mid (Q i).a (Q i).c), .int .i64 (Q i).d, .int .i64 (mid (Q i).a (Q i).c + 1), .int .i64 (mid (Q i).b (Q i).d + 1), .int .i64 (Q i).c, .int .i64 (Q i).d] 99) = V from hV]
  have hBV : Below w.heap.size w V := by subst hV; (repeat (first | exact Below.refl _ _ | assumption | refine Below.drew ?_ | refine bl_alloc ?_ _ | refine bl_then ?_ (by assumption) | refine Below.setCell ?_ (by first | omega | (simp; done) | (simp; omega)) _ | refine bl_store ?_ ?_ _ _))
  have hkv : Hid (V.heap[w3.heap.size]? = some (.cells (kidsV (Q i).a (Q i).b (Q i).c (Q i).d) 99 (0, 0))) := by subst hV; exact World.alloc_heap_new w3 _
  have hsz : w.heap.size ≤ w3.heap.size := Nat.le_trans hb2.size hb3.size
  clear hV e0 e1 e2 e3
  have e5 := (hBV.cell (p := ⟨p, off + i * 7 + 5, none⟩) hpl).trans q5
  have e4 := (hBV.cell (p := ⟨p, off + i * 7 + 4, none⟩) hpl).trans q4
  clear q4 q5 q6 hb2 hb3 HK HBX
  go_wp2_with (go_at_call 67; refine (kidsIn_none _ _ _ _ _ _ e5).mono ?_; rintro e w4 ⟨rfl, hb4⟩)
  have HB4 : Hid (Below w.heap.size w w4) := bl_then hBV hb4
  clear hBV hb4
  go_loopw [55] (fun v wr => v = .int .i64 0 ∧ wr = w4) (fun _ _ => 0)
  case atStart => exact ⟨rfl, rfl⟩
  case round =>
    obtain ⟨rfl, rfl⟩ := hrel
    go_wp2
    go_ret
    exact ⟨rfl, HB4.out⟩
theorem kidsNot {Q : Nat → Qd} {i k : Nat} (hk : k < 4) (h : ¬ kidOk Q i k) : ¬ (kidOk Q i 0 ∧ kidOk Q i 1 ∧ kidOk Q i 2 ∧ kidOk Q i 3) := fun ⟨a, b, c, d⟩ => by
  match k, hk with
  | 0, _ => exact h a
  | 1, _ => exact h b
  | 2, _ => exact h c
  | 3, _ => exact h d
set_option maxHeartbeats 2000000 in
theorem quadFault_kids (p off n cap i : Nat) (Q : Nat → Qd) (w : World) (hQ : QsAt w w.heap.size p off n Q) (hn : n ≤ 1048576) (hi : i < n) (hbad : badAt Q n i = false) (hbox : boxC (Q i).a (Q i).b (Q i).c (Q i).d = 0) (hfi : (Q i).fi ≠ 0) (hcap : n ≤ cap) :
    Calls Try.prog 50 #[.slice (some ⟨p, off, none⟩) n cap, .int .i64 (i : Int)] w fun e w' => e = .returned (.int .i64 (if kidOk Q i 0 ∧ kidOk Q i 1 ∧ kidOk Q i 2 ∧ kidOk Q i 3 then 0 else 1)) ∧ Below w.heap.size w w' := by
  obtain ⟨rv, hrv⟩ : ∃ r : Int, (if kidOk Q i 0 ∧ kidOk Q i 1 ∧ kidOk Q i 2 ∧ kidOk Q i 3 then (0 : Int) else 1) = r := ⟨_, rfl⟩
  rw [hrv]
  have HR : Hid ((if kidOk Q i 0 ∧ kidOk Q i 1 ∧ kidOk Q i 2 ∧ kidOk Q i 3 then (0 : Int) else 1) = rv) := hrv
  clear hrv
  have HQ : Hid (QsAt w w.heap.size p off n Q) := hQ
  obtain ⟨⟨q0, q1, q2, q3, q4, q5, q6⟩, _⟩ := hQ.2 i hi
  have hpl : p < w.heap.size := hQ.1
  have hi1 : (i : Int) < (n : Int) := by omega
  have hi0 : (0 : Int) ≤ (i : Int) := by omega
  have hn' : (n : Int) ≤ 1048576 := by omega
  unfold badAt at hbad
  simp only [Bool.or_eq_false_iff, Bool.not_eq_false', Bool.and_eq_false_iff, decide_eq_false_iff_not, ne_eq, Classical.not_not] at hbad
  obtain ⟨h1, h2⟩ := hbad
  obtain ⟨r1, r2, r3, r4⟩ := boxC_le hbox
  have HK : Hid (∀ W : World, Calls Try.prog 66 #[.agg #[.int .i64 (Q i).a, .int .i64 (Q i).b, .int .i64 (Q i).c, .int .i64 (Q i).d]] W fun e w' => e = .returned (.agg (kidsV (Q i).a (Q i).b (Q i).c (Q i).d)) ∧ Below W.heap.size W w') := fun W => kidBounds_any _ _ _ _ W r1 r2 r3 r4
  have HBX : Hid (∀ W : World, Calls Try.prog 28 #[.agg #[.int .i64 (Q i).a, .int .i64 (Q i).b, .int .i64 (Q i).c, .int .i64 (Q i).d]] W fun e w' => e = .returned (.int .i64 0) ∧ Below W.heap.size W w') := fun W => (boxFault_any _ _ _ _ W).mono (fun _ _ h => ⟨by rw [h.1, hbox], h.2⟩)
  have h2' : inB (Q i).fi ((i : Int) + 1) ((n : Int) - 4) = true := h2.resolve_left hfi
  obtain ⟨f, hfe⟩ : ∃ f : Nat, (Q i).fi = (f : Int) := ⟨(Q i).fi.toNat, by simp [inB] at h2'; omega⟩
  have hf4 : 0 < f ∧ f + 4 ≤ n := by rw [hfe] at h2'; simp [inB] at h2'; omega
  have hfi' : ((f : Int) == 0) = false := by simp; omega
  have hdp : (Q i).dp ≤ 4 ∧ 0 ≤ (Q i).dp := by simp [inB] at h1; omega
  rw [hfe] at q5
  rw [hfe] at h2'
  clear r1 r2 r3 r4 hbox h2 hQ
  go_enter Try.func50, Try.ntmps50
  go_upto_region 5 with (go_at_call 65; refine (isWithin_same _ _ _ _).mono ?_; rintro e w' ⟨rfl, rfl⟩)
  go_upto_region 7 with (go_at_call 28; refine (HBX.out _).mono ?_; rintro e w2 ⟨rfl, hb2⟩)
  have e0 := (hb2.cell (p := ⟨p, off + i * 7, none⟩) hpl).trans q0
  have e1 := (hb2.cell (p := ⟨p, off + i * 7 + 1, none⟩) hpl).trans q1
  have e2 := (hb2.cell (p := ⟨p, off + i * 7 + 2, none⟩) hpl).trans q2
  have e3 := (hb2.cell (p := ⟨p, off + i * 7 + 3, none⟩) hpl).trans q3
  clear q0 q1 q2 q3
  go_upto_region 8 with (go_at_call 66; refine (HK.out _).mono ?_; rintro e w3 ⟨rfl, hb3⟩)
  obtain ⟨V, hV⟩ : ∃ V : World, w3.alloc (.cells (kidsV (Q i).a (Q i).b (Q i).c (Q i).d) 99) = V := ⟨_, rfl⟩
  rw [show w3.alloc (.cells #[.int .i64 (Q i).a, .int .i64 (Q i).b, .int .i64 (mid (Q i).a (Q i).c), .int .i64 (mid (Q i).b (Q i).d), .int .i64 (mid (Q i).a (Q i).c + 1), .int .i64 (Q i).b, .int .i64 (Q i).c, .int .i64 (mid (Q i).b (Q i).d), .int .i64 (Q i).a, .int .i64 (mid (Q i).b (Q i).d + 1), .int .i64 (mid (Q i).a (Q i).c), .int .i64 (Q i).d, .int .i64 (mid (Q i).a (Q i).c + 1), .int .i64 (mid (Q i).b (Q i).d + 1), .int .i64 (Q i).c, .int .i64 (Q i).d] 99) = V from hV]
  have hBV : Below w.heap.size w V := by subst hV; (repeat (first | exact Below.refl _ _ | assumption | refine Below.drew ?_ | refine bl_alloc ?_ _ | refine bl_then ?_ (by assumption) | refine Below.setCell ?_ (by first | omega | (simp; done) | (simp; omega)) _ | refine bl_store ?_ ?_ _ _))
  have hkv : Hid (V.heap[w3.heap.size]? = some (.cells (kidsV (Q i).a (Q i).b (Q i).c (Q i).d) 99 (0, 0))) := by subst hV; exact World.alloc_heap_new w3 _
  have hsz : w.heap.size ≤ w3.heap.size := Nat.le_trans hb2.size hb3.size
  clear hV e0 e1 e2 e3
  have e5 := (hBV.cell (p := ⟨p, off + i * 7 + 5, none⟩) hpl).trans q5
  have e4 := (hBV.cell (p := ⟨p, off + i * 7 + 4, none⟩) hpl).trans q4
  clear q4 q5 q6 hb2 hb3 HK HBX
  go_wp2_with (go_at_call 67; refine (kidsIn_some _ _ _ _ _ _ _ e5 hf4.1 hf4.2 hcap hn).mono ?_; rintro e w4 ⟨rfl, hb4⟩)
  have HBV : Hid (Below w.heap.size w V) := hBV
  have HB4 : Hid (Below V.heap.size V w4) := hb4
  have hlV : w3.heap.size < V.heap.size := (Array.getElem?_eq_some_iff.1 hkv.out).1
  have hplV : p < V.heap.size := by omega
  have HD : Hid (w.cell? ⟨p, off + i * 7 + 4, none⟩ = some (.int .i64 (Q i).dp)) := (HQ.out.2 i hi).1.2.2.2.2.1
  clear hBV hb4 e4 e5
  go_loopw [55] (fun v wr => ∃ k : Nat, k ≤ 4 ∧ v = .int .i64 k ∧ (∀ j, j < k → kidOk Q i j) ∧ Below V.heap.size V wr) (fun v _ => 4 - (intOf v).toNat)
  case atStart => exact ⟨0, by omega, rfl, by omega, HB4.out⟩
  case round =>
    obtain ⟨k, hk, rfl, hA, hB⟩ := hrel
    have HB : Hid (Below V.heap.size V wr) := hB
    have HA : Hid (∀ j, j < k → kidOk Q i j) := hA
    clear hA
    by_cases hlt : k < 4
    · have hk1 : (k : Int) < 4 := by omega
      have hk0 : (0 : Int) ≤ (k : Int) := by omega
      obtain ⟨⟨g0, g1, g2, g3, g4, g5, g6⟩, _⟩ := (HQ.out.below (HBV.out.trans (hB.mono HBV.out.size))).2 (f + k) (by omega)
      rw [show off + (f + k) * 7 = off + f * 7 + k * 7 by rw [Nat.add_mul]; omega] at g0 g1 g2 g3 g4 g5 g6
      have hBw : Below w.heap.size w wr := bl_then HBV.out hB
      have eD := (hBw.cell (p := ⟨p, off + i * 7 + 4, none⟩) hpl).trans HD.out
      have hwl : w3.heap.size < wr.heap.size := Nat.lt_of_lt_of_le hlV hB.size
      have hplr : p < wr.heap.size := Nat.lt_of_lt_of_le hpl hBw.size
      obtain ⟨x0, x1, x2, x3⟩ := kids_at ((hB.block w3.heap.size hlV).trans hkv.out) k hlt
      clear hB hBw
      go_upto_region 11 with fail
      obtain ⟨U, hU⟩ : ∃ U : World, wr.alloc (.cells #[.int .i64 (Q (f + k)).a, .int .i64 (Q (f + k)).b, .int .i64 (Q (f + k)).c, .int .i64 (Q (f + k)).d, .int .i64 (Q (f + k)).dp, .int .i64 (Q (f + k)).fi, .slice (Q (f + k)).ea (Q (f + k)).en (Q (f + k)).ec] 60) = U := ⟨_, rfl⟩
      rw [hU]
      have hBU : Below wr.heap.size wr U := by subst hU; (repeat (first | exact Below.refl _ _ | assumption | refine Below.drew ?_ | refine bl_alloc ?_ _ | refine bl_then ?_ (by assumption) | refine Below.setCell ?_ (by first | omega | (simp; done) | (simp; omega)) _ | refine bl_store ?_ ?_ _ _))
      have k0 : U.cell? ⟨wr.heap.size, 0, none⟩ = some (.int .i64 (Q (f + k)).a) := by subst hU; simp [go_sem]
      have k1 : U.cell? ⟨wr.heap.size, 1, none⟩ = some (.int .i64 (Q (f + k)).b) := by subst hU; simp [go_sem]
      have k2 : U.cell? ⟨wr.heap.size, 2, none⟩ = some (.int .i64 (Q (f + k)).c) := by subst hU; simp [go_sem]
      have k3 : U.cell? ⟨wr.heap.size, 3, none⟩ = some (.int .i64 (Q (f + k)).d) := by subst hU; simp [go_sem]
      have k4 : U.cell? ⟨wr.heap.size, 4, none⟩ = some (.int .i64 (Q (f + k)).dp) := by subst hU; simp [go_sem]
      have y0 := (hBU.cell (p := ⟨w3.heap.size, k * 4, none⟩) hwl).trans x0
      have y1 := (hBU.cell (p := ⟨w3.heap.size, k * 4 + 1, none⟩) hwl).trans x1
      have y2 := (hBU.cell (p := ⟨w3.heap.size, k * 4 + 2, none⟩) hwl).trans x2
      have y3 := (hBU.cell (p := ⟨w3.heap.size, k * 4 + 3, none⟩) hwl).trans x3
      have yD := (hBU.cell (p := ⟨p, off + i * 7 + 4, none⟩) hplr).trans eD
      have HBU : Hid (Below V.heap.size V U) := bl_then HB.out hBU
      have hok : Hid (kidOk Q i k ↔ ((Q (f + k)).a = kx0 (Q i).a (Q i).c k ∧ (Q (f + k)).b = ky0 (Q i).b (Q i).d k ∧ (Q (f + k)).c = kx1 (Q i).a (Q i).c k ∧ (Q (f + k)).d = ky1 (Q i).b (Q i).d k) ∧ (Q (f + k)).dp = (Q i).dp + 1) := by
        show _ ↔ _
        have ht : (Q i).fi.toNat = f := by rw [hfe]; rfl
        rw [← ht]
        exact Iff.rfl
      clear hU hBU x0 x1 x2 x3 eD g0 g1 g2 g3 g4 g5 g6
      generalize kx0 (Q i).a (Q i).c k = z0 at *
      generalize ky0 (Q i).b (Q i).d k = z1 at *
      generalize kx1 (Q i).a (Q i).c k = z2 at *
      generalize ky1 (Q i).b (Q i).d k = z3 at *
      by_cases hq : (Q (f + k)).a = z0 ∧ (Q (f + k)).b = z1 ∧ (Q (f + k)).c = z2 ∧ (Q (f + k)).d = z3
      · have HQQ : Hid _ := hq
        rw [hq.1] at k0
        rw [hq.2.1] at k1
        rw [hq.2.2.1] at k2
        rw [hq.2.2.2] at k3
        clear hq
        by_cases hd : (Q (f + k)).dp = (Q i).dp + 1
        · rw [hd] at k4
          have HKK : Hid (kidOk Q i k) := hok.out.2 ⟨HQQ.out, hd⟩
          clear hd
          go_region
          go_wp2
          go_roundw
          case rel => exact ⟨k + 1, by omega, by go_num, fun j hj => by
              by_cases e : j = k
              · rw [e]; exact HKK.out
              · exact HA.out j (by omega), by have HB3 := HBU.out; (repeat (first | exact Below.refl _ _ | assumption | refine Below.drew ?_ | refine bl_alloc ?_ _ | refine bl_then ?_ (by assumption) | refine Below.setCell ?_ (by first | omega | (simp; done) | (simp; omega)) _ | refine bl_store ?_ ?_ _ _))⟩
          case measure => simp [intOf]; omega
        · have hd' : ((Q (f + k)).dp == (Q i).dp + 1) = false := by simpa using hd
          have HKK : Hid (¬ kidOk Q i k) := fun h => hd (hok.out.1 h).2
          clear hd
          go_region
          go_wp2
          go_ret
          refine ⟨ret_int ?_, bl_then HBV.out (by have HB3 := HBU.out; (repeat (first | exact Below.refl _ _ | assumption | refine Below.drew ?_ | refine bl_alloc ?_ _ | refine bl_then ?_ (by assumption) | refine Below.setCell ?_ (by first | omega | (simp; done) | (simp; omega)) _ | refine bl_store ?_ ?_ _ _)))⟩
          rw [← HR.out]
          exact (if_neg (kidsNot hlt HKK.out)).symm
      · have HKK : Hid (¬ kidOk Q i k) := fun h => hq (hok.out.1 h).1
        by_cases ha : (Q (f + k)).a = z0
        · rw [ha] at k0
          by_cases hb : (Q (f + k)).b = z1
          · rw [hb] at k1
            by_cases hc : (Q (f + k)).c = z2
            · rw [hc] at k2
              have hd : ¬ (Q (f + k)).d = z3 := fun h => hq ⟨ha, hb, hc, h⟩
              clear hq ha hb hc
              go_region
              go_wp2
              go_ret
              refine ⟨ret_int ?_, bl_then HBV.out (by have HB3 := HBU.out; (repeat (first | exact Below.refl _ _ | assumption | refine Below.drew ?_ | refine bl_alloc ?_ _ | refine bl_then ?_ (by assumption) | refine Below.setCell ?_ (by first | omega | (simp; done) | (simp; omega)) _ | refine bl_store ?_ ?_ _ _)))⟩
              rw [← HR.out]
              exact (if_neg (kidsNot hlt HKK.out)).symm
            · clear hq ha hb
              go_region
              go_wp2
              go_ret
              refine ⟨ret_int ?_, bl_then HBV.out (by have HB3 := HBU.out; (repeat (first | exact Below.refl _ _ | assumption | refine Below.drew ?_ | refine bl_alloc ?_ _ | refine bl_then ?_ (by assumption) | refine Below.setCell ?_ (by first | omega | (simp; done) | (simp; omega)) _ | refine bl_store ?_ ?_ _ _)))⟩
              rw [← HR.out]
              exact (if_neg (kidsNot hlt HKK.out)).symm
          · clear hq ha
            go_region
            go_wp2
            go_ret
            refine ⟨ret_int ?_, bl_then HBV.out (by have HB3 := HBU.out; (repeat (first | exact Below.refl _ _ | assumption | refine Below.drew ?_ | refine bl_alloc ?_ _ | refine bl_then ?_ (by assumption) | refine Below.setCell ?_ (by first | omega | (simp; done) | (simp; omega)) _ | refine bl_store ?_ ?_ _ _)))⟩
            rw [← HR.out]
            exact (if_neg (kidsNot hlt HKK.out)).symm
        · clear hq 
          go_region
          go_wp2
          go_ret
          refine ⟨ret_int ?_, bl_then HBV.out (by have HB3 := HBU.out; (repeat (first | exact Below.refl _ _ | assumption | refine Below.drew ?_ | refine bl_alloc ?_ _ | refine bl_then ?_ (by assumption) | refine Below.setCell ?_ (by first | omega | (simp; done) | (simp; omega)) _ | refine bl_store ?_ ?_ _ _)))⟩
          rw [← HR.out]
          exact (if_neg (kidsNot hlt HKK.out)).symm
    · have hk1 : ¬ (k : Int) < 4 := by omega
      go_wp2
      go_ret
      refine ⟨ret_int ?_, bl_then HBV.out HB.out⟩
      rw [← HR.out]
      exact (if_pos ⟨HA.out 0 (by omega), HA.out 1 (by omega), HA.out 2 (by omega), HA.out 3 (by omega)⟩).symm
end Go.Proofs.Ytjnhaigmfjndhaa
