/- DoOverlap and LabelAt: the program and the model, and the laws' steps. -/
import Derived.Test.YtijledhbchjpnaaLb1
import Derived.Test.YtijledhbchjpnaaLeaf
namespace Go.Proofs.Ytijledhbchjpnaa
open Go.RowKit
set_option linter.unusedSimpArgs false
set_option linter.unusedVariables false
set_option maxRecDepth 100000

theorem enter_ov (args : Array Value) (w : World) : (callFunc 20 args).run Try.prog w = .ok (.enter 20 args) w := by
  have h1 : (Try.f20).name ≠ "runtime.NumGoroutine" := by
    have : ((Try.f20).name == "runtime.NumGoroutine") = false := by kernel_rfl
    simpa using this
  have hb : ∃ c, (Try.f20).body = some c := ⟨_, rfl⟩
  obtain ⟨c, hb⟩ := hb
  simp [callFunc, Try.func20, h1, hb]
set_option maxHeartbeats 4000000 in
theorem indexOv_any (a : Option Addr) (n cap : Nat) (E : Nat → Plc) (f : Plc) (w : World) (hp : IsLb w a n E) (hn : n ≤ 1048576) :
    Calls Try.prog 19 #[.slice a n cap, .func (.func 20) #[plcV f] #[]] w fun e w' => e = .returned (.int .i64 (firstI (fun i => ovB f (E i)) n)) ∧ Below w.heap.size w w' := by
  have HP : Hid (IsLb w a n E) := hp
  have hce := enter_ov
  clear hp
  go_enter Try.func19, Try.ntmps19
  go_wp2_with fail
  go_loopw [8] (fun i wr => ∃ k : Nat, k ≤ n ∧ i = .int .i64 (k : Int) ∧ (∀ j, j < k → ovB f (E j) = false) ∧ Below w.heap.size w wr) (fun i _ => n - (intOf i).toNat)
  case atStart => exact ⟨0, by omega, rfl, fun j hj => absurd hj (Nat.not_lt_zero _), Below.refl _ _⟩
  case round =>
    obtain ⟨k, hk, rfl, hno, hB⟩ := hrel
    have HN : Hid (∀ j, j < k → ovB f (E j) = false) := hno
    have HB : Hid (Below w.heap.size w wr) := hB
    by_cases hlt : k < n
    · rcases HP.out with h0 | ⟨b, off, rfl, hb, hpt⟩
      · omega
      obtain ⟨q0, q1, q2, q3, q4⟩ := (hpt.below hB hb) k hlt
      have hi : (k : Int) < (n : Int) := by omega
      have hi0 : (0 : Int) ≤ (k : Int) := by omega
      have sO : ∀ w, Calls Try.prog 20 #[plcV f, plcV (E k)] w fun r w' => r = .returned (.bool (ovB f (E k))) ∧ Below w.heap.size w w' := fun w => overlaps_any f (E k) w
      clear hno hB hpt
      cases hE : ovB f (E k)
      · rw [hE] at sO
        have HN2 : Hid (∀ j, j < k + 1 → ovB f (E j) = false) := fun j hj => by
          by_cases e : j = k
          · rw [e]; exact hE
          · exact HN.out j (by omega)
        clear hE
        go_wp2_with fail
        refine (sO _).mono ?_
        rintro e w1 ⟨rfl, hb1⟩
        go_wp2_with fail
        exact ⟨⟨k + 1, by omega, by simp, HN2.out, bl_then HB.out hb1⟩, by simp [intOf]; omega⟩
      · rw [hE] at sO
        have HY : Hid (firstI (fun i => ovB f (E i)) n = (k : Int)) := firstI_yes hlt hE HN.out
        clear hE
        go_wp2_with fail
        refine (sO _).mono ?_
        rintro e w1 ⟨rfl, hb1⟩
        go_wp2
        go_ret
        exact ⟨ret_int HY.out.symm, bl_then HB.out hb1⟩
    · obtain rfl : n = k := by omega
      have HY : Hid (firstI (fun i => ovB f (E i)) n = -1) := firstI_no HN.out
      go_wp2
      go_ret
      exact ⟨ret_int HY.out.symm, HB.out⟩
set_option maxHeartbeats 2000000 in
theorem firstOver_any (a : Option Addr) (n cap : Nat) (E : Nat → Plc) (f : Plc) (w : World) (hp : IsLb w a n E) (hn : n ≤ 1048576) :
    Calls Try.prog 15 #[plcV f, .slice a n cap] w fun e w' => e = .returned (.int .i64 (firstI (fun i => ovB f (E i)) n)) ∧ Below w.heap.size w w' := by
  have HI : Hid (∀ W, Below w.heap.size w W → Calls Try.prog 19 #[.slice a n cap, .func (.func 20) #[plcV f] #[]] W fun e w' => e = .returned (.int .i64 (firstI (fun i => ovB f (E i)) n)) ∧ Below W.heap.size W w') := fun W h => indexOv_any a n cap E f W (hp.below h) hn
  clear hp
  have hmf : ∀ (fn : Fn) (first cap : Array Value) (w : World), (Instr.makeFunc fn first cap).run Try.prog w = .ok (.func fn first cap) w := fun _ _ _ _ => rfl
  generalize firstI (fun i => ovB f (E i)) n = r at *
  go_enter Try.func15, Try.ntmps15
  go_wp2_with fail
  generalize hW : (w.alloc _ : World) = W
  have HB0 : Below w.heap.size w W := by subst hW; (repeat (first | exact Below.refl _ _ | assumption | refine Below.drew ?_ | refine bl_alloc ?_ _ | refine bl_then ?_ (by assumption) | refine Below.setCell ?_ (by first | omega | (simp; done) | (simp; omega)) _ | refine bl_store ?_ ?_ _ _))
  clear hW
  refine (HI.out _ HB0).mono ?_
  rintro e w1 ⟨rfl, hb1⟩
  go_wp2
  go_ret
  exact ⟨rfl, bl_then HB0 hb1⟩
theorem first_one (f e : Plc) : decide (0 ≤ firstI (fun i => ovB f ((fun _ => e) i)) 1) = ovB f e := by
  cases h : ovB f e
  · rw [firstI_no (fun i hi => h)]; rfl
  · rw [firstI_yes (i := 0) (by omega) h (fun j hj => absurd hj (Nat.not_lt_zero _))]; rfl
set_option maxHeartbeats 2000000 in
theorem impl_DoOverlap_any (f e : Plc) (w : World) : Calls Try.prog 7 #[plcV f, plcV e] w fun r w' => r = .returned (.bool (ovB f e)) ∧ Below w.heap.size w w' := by
  have HF : Hid (∀ (b cap : Nat) (W : World), b < W.heap.size → PlcAt W b 0 e → Calls Try.prog 15 #[plcV f, .slice (some ⟨b, 0, none⟩) 1 cap] W fun r w' => (∃ k : Int, r = .returned (.int .i64 k) ∧ decide (0 ≤ k) = ovB f e) ∧ Below W.heap.size W w') := fun b cap W hb h =>
    (firstOver_any (some ⟨b, 0, none⟩) 1 cap (fun _ => e) f W (.inr ⟨b, 0, rfl, hb, fun i hi => by
      obtain rfl : i = 0 := by omega
      exact h⟩) (by omega)).mono fun r w' ⟨h1, h2⟩ => ⟨⟨_, h1, first_one f e⟩, h2⟩
  generalize ovB f e = B at *
  go_enter Try.func7, Try.ntmps7
  go_wp2_with fail
  refine (HF.out _ _ _ (by simp) ?_).mono ?_
  · exact ⟨by simp [go_sem], by simp [go_sem], by simp [go_sem], by simp [go_sem], by simp [go_sem]⟩
  rintro r w1 ⟨⟨k, rfl, hk⟩, hb1⟩
  have HK : Hid (decide (0 ≤ k) = B) := hk
  clear hk
  go_wp2
  go_ret
  exact ⟨ret_bool HK.out, by (repeat (first | exact Below.refl _ _ | assumption | refine Below.drew ?_ | refine bl_alloc ?_ _ | refine bl_then ?_ (by assumption) | refine Below.setCell ?_ (by first | omega | (simp; done) | (simp; omega)) _ | refine bl_store ?_ ?_ _ _))⟩
set_option maxHeartbeats 2000000 in
theorem spec_DoOverlap_any (f e : Plc) (w : World) : Calls Try.prog 5 #[plcV f, plcV e] w fun r w' => r = .returned (.bool (ovB f e)) ∧ Below w.heap.size w w' := by
  go_enter Try.func5, Try.ntmps5
  go_wp2_with fail
  refine (l10Overlap_any w.heap.size (w.heap.size + 1) 0 0 f e _ ?_ ?_ (by simp; omega) (by simp)).mono ?_
  · exact ⟨by simp [go_sem], by simp [go_sem], by simp [go_sem], by simp [go_sem], by simp [go_sem]⟩
  · exact ⟨by simp [go_sem], by simp [go_sem], by simp [go_sem], by simp [go_sem], by simp [go_sem]⟩
  rintro r w1 ⟨rfl, hb1⟩
  go_wp2
  go_ret
  exact ⟨rfl, by (repeat (first | exact Below.refl _ _ | assumption | refine Below.drew ?_ | refine bl_alloc ?_ _ | refine bl_then ?_ (by assumption) | refine Below.setCell ?_ (by first | omega | (simp; done) | (simp; omega)) _ | refine bl_store ?_ ?_ _ _))⟩
set_option maxHeartbeats 4000000 in
theorem FnExactDoOverlap_walk (x0 x1 x2 x3 x4 y0 y1 y2 y3 y4 : Int) (w : World) : Calls Try.prog 3 #[.agg #[.int .i64 x0, .int .i64 x1, .int .i64 x2, .int .i64 x3, .int .i64 x4], .agg #[.int .i64 y0, .int .i64 y1, .int .i64 y2, .int .i64 y3, .int .i64 y4]] w fun e w' => e = .returned (.bool true) ∧ Below w.heap.size w w' := by
  have s1 := fun w => spec_DoOverlap_any ⟨x0, x1, x2, x3, x4⟩ ⟨y0, y1, y2, y3, y4⟩ w
  have s2 := fun w => impl_DoOverlap_any ⟨x0, x1, x2, x3, x4⟩ ⟨y0, y1, y2, y3, y4⟩ w
  have t1 := fun w => toPlaced_any ⟨x0, x1, x2, x3, x4⟩ w
  have t2 := fun w => toPlaced_any ⟨y0, y1, y2, y3, y4⟩ w
  generalize ovB ⟨x0, x1, x2, x3, x4⟩ ⟨y0, y1, y2, y3, y4⟩ = B at *
  simp only [plcV] at s1 s2 t1 t2
  have tt : ∀ (a b c d e : Int) (w : World), Calls Try.prog 6 #[.agg #[.int .i64 a, .int .i64 b, .int .i64 c, .int .i64 d, .int .i64 e]] w fun r w' => r = .returned (.agg #[.int .i64 a, .int .i64 b, .int .i64 c, .int .i64 d, .int .i64 e]) ∧ Below w.heap.size w w' := fun a b c d e w => toPlaced_any ⟨a, b, c, d, e⟩ w
  clear t1 t2
  go_enter Try.func3, Try.ntmps3
  go_wp2_with fail
  generalize hW : ((w.alloc _).alloc _ : World) = W
  have HB0 : Hid (Below w.heap.size w W) := by show Below _ _ _; subst hW; (repeat (first | exact Below.refl _ _ | assumption | refine Below.drew ?_ | refine bl_alloc ?_ _ | refine bl_then ?_ (by assumption) | refine Below.setCell ?_ (by first | omega | (simp; done) | (simp; omega)) _ | refine bl_store ?_ ?_ _ _))
  have c00 : ∀ W', Below W.heap.size W W' → W'.cell? ⟨w.heap.size, 0, none⟩ = some (.int .i64 x0) := fun W' h => by
    rw [h.cell (by subst hW; simp <;> omega)]; subst hW; simp [go_sem]
  have c01 : ∀ W', Below W.heap.size W W' → W'.cell? ⟨w.heap.size, 1, none⟩ = some (.int .i64 x1) := fun W' h => by
    rw [h.cell (by subst hW; simp <;> omega)]; subst hW; simp [go_sem]
  have c02 : ∀ W', Below W.heap.size W W' → W'.cell? ⟨w.heap.size, 2, none⟩ = some (.int .i64 x2) := fun W' h => by
    rw [h.cell (by subst hW; simp <;> omega)]; subst hW; simp [go_sem]
  have c03 : ∀ W', Below W.heap.size W W' → W'.cell? ⟨w.heap.size, 3, none⟩ = some (.int .i64 x3) := fun W' h => by
    rw [h.cell (by subst hW; simp <;> omega)]; subst hW; simp [go_sem]
  have c04 : ∀ W', Below W.heap.size W W' → W'.cell? ⟨w.heap.size, 4, none⟩ = some (.int .i64 x4) := fun W' h => by
    rw [h.cell (by subst hW; simp <;> omega)]; subst hW; simp [go_sem]
  have c10 : ∀ W', Below W.heap.size W W' → W'.cell? ⟨w.heap.size + 1, 0, none⟩ = some (.int .i64 y0) := fun W' h => by
    rw [h.cell (by subst hW; simp <;> omega)]; subst hW; simp [go_sem]
  have c11 : ∀ W', Below W.heap.size W W' → W'.cell? ⟨w.heap.size + 1, 1, none⟩ = some (.int .i64 y1) := fun W' h => by
    rw [h.cell (by subst hW; simp <;> omega)]; subst hW; simp [go_sem]
  have c12 : ∀ W', Below W.heap.size W W' → W'.cell? ⟨w.heap.size + 1, 2, none⟩ = some (.int .i64 y2) := fun W' h => by
    rw [h.cell (by subst hW; simp <;> omega)]; subst hW; simp [go_sem]
  have c13 : ∀ W', Below W.heap.size W W' → W'.cell? ⟨w.heap.size + 1, 3, none⟩ = some (.int .i64 y3) := fun W' h => by
    rw [h.cell (by subst hW; simp <;> omega)]; subst hW; simp [go_sem]
  have c14 : ∀ W', Below W.heap.size W W' → W'.cell? ⟨w.heap.size + 1, 4, none⟩ = some (.int .i64 y4) := fun W' h => by
    rw [h.cell (by subst hW; simp <;> omega)]; subst hW; simp [go_sem]
  clear hW
  have hr : Below W.heap.size W W := Below.refl _ _
  go_region_held3 (fun W' => Below W.heap.size W W') ((repeat (first | exact Below.refl _ _ | assumption | refine Below.drew ?_ | refine bl_alloc ?_ _ | refine bl_then ?_ (by assumption) | refine Below.setCell ?_ (by first | omega | (simp; done) | (simp; omega)) _ | refine bl_store ?_ ?_ _ _)))
    (first
      | (go_at_call 6; refine (tt _ _ _ _ _ _).mono ?_; rintro e w1 ⟨rfl, hb⟩)
      | (go_at_call 5; refine (s1 _).mono ?_; rintro e w1 ⟨rfl, hb⟩)
      | fail)
  go_wp2_with fail
  go_region_held3 (fun W' => Below W.heap.size W W') ((repeat (first | exact Below.refl _ _ | assumption | refine Below.drew ?_ | refine bl_alloc ?_ _ | refine bl_then ?_ (by assumption) | refine Below.setCell ?_ (by first | omega | (simp; done) | (simp; omega)) _ | refine bl_store ?_ ?_ _ _)))
    (first
      | (go_at_call 6; refine (tt _ _ _ _ _ _).mono ?_; rintro e w1 ⟨rfl, hb⟩)
      | (go_at_call 7; refine (s2 _).mono ?_; rintro e w1 ⟨rfl, hb⟩)
      | fail)
  go_wp2
  go_ret
  exact ⟨rfl, bl_then HB0.out (by assumption)⟩
/-- The Id of the first one at a place. -/
def atI (E : Nat → Plc) (k : Int) : Int := if k < 0 then 0 else (E k.toNat).id
/-- A box of one pixel. -/
abbrev pxB (x y : Int) : Plc := ⟨0, x, y, 1, 1⟩
/-- What LabelAt tells. -/
def laC (n : Nat) : Int := if n ≤ 12 then 0 else 2
def laV (n : Nat) (E : Nat → Plc) (x y : Int) : Int := if n ≤ 12 then atI E (firstI (fun i => ovB (pxB x y) (E i)) n) else 0
set_option maxHeartbeats 4000000 in
theorem impl_LabelAt_any (b n cap : Nat) (E : Nat → Plc) (x y : Int) (w : World) (hp : LbAt w b 0 n E) (hb : b < w.heap.size) (hn : n ≤ 1048576) :
    Calls Try.prog 11 #[.slice (some ⟨b, 0, none⟩) n cap, .int .i64 x, .int .i64 y] w fun e w' => e = .returned (.agg #[.int .i64 (laC n), .int .i64 (laV n E x y)]) ∧ Below w.heap.size w w' := by
  by_cases h12 : n ≤ 12
  · have hc : Hid (laC n = 0) := if_pos h12
    have hv : Hid (laV n E x y = atI E (firstI (fun i => ovB (pxB x y) (E i)) n)) := if_pos h12
    have HP : Hid (LbAt w b 0 n E) := hp
    have HF : Hid (∀ W, Below w.heap.size w W → Calls Try.prog 15 #[plcV (pxB x y), .slice (some ⟨b, 0, none⟩) n cap] W fun e w' => e = .returned (.int .i64 (firstI (fun i => ovB (pxB x y) (E i)) n)) ∧ Below W.heap.size W w') := fun W h => firstOver_any _ n cap E (pxB x y) W (IsLb.below (w := w) (.inr ⟨b, 0, rfl, hb, hp⟩) h) hn
    have hG := firstI_or (fun i => ovB (pxB x y) (E i)) n
    clear hp
    have hn12 : (n : Int) ≤ 12 := by omega
    rcases hG with ⟨h1, _⟩ | ⟨i, hi, _, h1, _⟩
    · rw [h1] at HF hv
      go_enter Try.func11, Try.ntmps11
      go_wp2_with fail
      generalize hW : (w.alloc _ : World) = W
      have HB0 : Below w.heap.size w W := by subst hW; (repeat (first | exact Below.refl _ _ | assumption | refine Below.drew ?_ | refine bl_alloc ?_ _ | refine bl_then ?_ (by assumption) | refine Below.setCell ?_ (by first | omega | (simp; done) | (simp; omega)) _ | refine bl_store ?_ ?_ _ _))
      have HT : Hid (There W w.heap.size 2) := by
        show There _ _ _
        subst hW
        exact fun o ho => by
          have : o = 0 ∨ o = 1 := by omega
          rcases this with rfl | rfl <;> exact ⟨⟨_, by simp [go_sem]; rfl⟩, by simp [go_sem]⟩
      clear hW
      refine (HF.out _ HB0).mono ?_
      rintro e w1 ⟨rfl, hb1⟩
      have hT := HT.out.below hb1
      have t0 := hT.cell 0 (by omega)
      have t1 := hT.cell 1 (by omega)
      have y0 := (hT 0 (by omega)).2
      have y1 := (hT 1 (by omega)).2
      have HB1 : Hid (Below w.heap.size w w1) := bl_then HB0 hb1
      clear hT hb1 HB0
      go_wp2
      refine bodyPost_ret (v := .agg #[.int .i64 (laC n), .int .i64 (laV n E x y)]) (by rw [hc.out, hv.out]; simp [results, Try.results11, go_sem, t0, t1, atI]) rfl ⟨rfl, ?_⟩
      exact (HB1.out.setCell (Nat.le_refl _) _).setCell (Nat.le_refl _) _
    · rw [h1] at HF hv
      have hv2 : Hid (laV n E x y = (E i).id) := by
        show _ = _
        rw [hv.out]
        unfold atI
        rw [if_neg (by omega)]
        simp
      clear hv
      have hi1 : (i : Int) < (n : Int) := by omega
      have hi0 : (0 : Int) ≤ (i : Int) := by omega
      go_enter Try.func11, Try.ntmps11
      go_wp2_with fail
      generalize hW : (w.alloc _ : World) = W
      have HB0 : Below w.heap.size w W := by subst hW; (repeat (first | exact Below.refl _ _ | assumption | refine Below.drew ?_ | refine bl_alloc ?_ _ | refine bl_then ?_ (by assumption) | refine Below.setCell ?_ (by first | omega | (simp; done) | (simp; omega)) _ | refine bl_store ?_ ?_ _ _))
      have HT : Hid (There W w.heap.size 2) := by
        show There _ _ _
        subst hW
        exact fun o ho => by
          have : o = 0 ∨ o = 1 := by omega
          rcases this with rfl | rfl <;> exact ⟨⟨_, by simp [go_sem]; rfl⟩, by simp [go_sem]⟩
      clear hW
      refine (HF.out _ HB0).mono ?_
      rintro e w1 ⟨rfl, hb1⟩
      have hT := HT.out.below hb1
      have t0 := hT.cell 0 (by omega)
      have t1 := hT.cell 1 (by omega)
      have y0 := (hT 0 (by omega)).2
      have y1 := (hT 1 (by omega)).2
      have hq : w1.cell? ⟨b, i * 5, none⟩ = some (.int .i64 (E i).id) := by
        have := ((HP.out.below (bl_then HB0 hb1) hb) i hi).1
        simpa using this
      have HB1 : Hid (Below w.heap.size w w1) := bl_then HB0 hb1
      clear hT hb1 HB0
      go_wp2
      refine bodyPost_ret (v := .agg #[.int .i64 (laC n), .int .i64 (laV n E x y)]) (by rw [hc.out, hv2.out]; simp [results, Try.results11, go_sem, t0, t1]) rfl ⟨rfl, ?_⟩
      exact (HB1.out.setCell (Nat.le_refl _) _).setCell (Nat.le_refl _) _
  · have hc : Hid (laC n = 2) := if_neg h12
    have hv : Hid (laV n E x y = 0) := if_neg h12
    have hn12 : (12 : Int) < (n : Int) := by omega
    go_enter Try.func11, Try.ntmps11
    go_wp2
    refine bodyPost_ret (v := .agg #[.int .i64 (laC n), .int .i64 (laV n E x y)]) (by rw [hc.out, hv.out]; simp [results, Try.results11, go_sem]) rfl ⟨rfl, by (repeat (first | exact Below.refl _ _ | assumption | refine Below.drew ?_ | refine bl_alloc ?_ _ | refine bl_then ?_ (by assumption) | refine Below.setCell ?_ (by first | omega | (simp; done) | (simp; omega)) _ | refine bl_store ?_ ?_ _ _))⟩
set_option maxHeartbeats 4000000 in
theorem l10At_any (b n cap : Nat) (E : Nat → Plc) (x y : Int) (w : World) (hp : LbAt w b 0 n E) (hb : b < w.heap.size) (hn : n ≤ 1048576) :
    Calls Try.prog 16 #[.slice (some ⟨b, 0, none⟩) n cap, .int .i64 x, .int .i64 y] w fun e w' => e = .returned (.int .i64 (atI E (firstI (fun i => ovB (pxB x y) (E i)) n))) ∧ Below w.heap.size w w' := by
  have HP : Hid (LbAt w b 0 n E) := hp
  clear hp
  go_enter Try.func16, Try.ntmps16
  go_wp2_with fail
  go_loopw [7] (fun i wr => ∃ k : Nat, k ≤ n ∧ i = .int .i64 (k : Int) ∧ (∀ j, j < k → ovB (pxB x y) (E j) = false) ∧ Below w.heap.size w wr) (fun i _ => n - (intOf i).toNat)
  case atStart => exact ⟨0, by omega, rfl, fun j hj => absurd hj (Nat.not_lt_zero _), Below.refl _ _⟩
  case round =>
    obtain ⟨k, hk, rfl, hno, hB⟩ := hrel
    have HN : Hid (∀ j, j < k → ovB (pxB x y) (E j) = false) := hno
    have HB : Hid (Below w.heap.size w wr) := hB
    by_cases hlt : k < n
    · obtain ⟨q0, q1, q2, q3, q4⟩ := (HP.out.below hB hb) k hlt
      simp only [Nat.zero_add] at q0 q1 q2 q3 q4
      have hi : (k : Int) < (n : Int) := by omega
      have hi0 : (0 : Int) ≤ (k : Int) := by omega
      have HE : Hid (ovB (pxB x y) (E k) = (meetB (E k).a (E k).c x 1 && meetB (E k).b (E k).d y 1)) := by
        show _ = _
        rw [ov_sym]
        exact (meet_ov (E k) (pxB x y)).symm
      have HY : Hid (ovB (pxB x y) (E k) = true → atI E (firstI (fun i => ovB (pxB x y) (E i)) n) = (E k).id) := fun h => by
        rw [firstI_yes (G := fun i => ovB (pxB x y) (E i)) hlt h HN.out]
        unfold atI
        rw [if_neg (by omega)]
        simp
      have HN2 : Hid (ovB (pxB x y) (E k) = false → ∀ j, j < k + 1 → ovB (pxB x y) (E j) = false) := fun h j hj => by
        by_cases e : j = k
        · rw [e]; exact h
        · exact HN.out j (by omega)
      clear hno hB
      generalize hid : (E k).id = eid at *
      generalize (E k).a = ea at *
      generalize (E k).b = eb at *
      generalize (E k).c = ec at *
      generalize (E k).d = ed at *
      clear hid
      cases h1 : meetB ea ec x 1
      · have HO : Hid (ovB (pxB x y) (E k) = false) := by show _ = _; rw [HE.out, h1]; rfl
        have s1 := fun w => l10Meet_q ea ec x 1 w
        rw [h1] at s1
        clear h1
        go_wp2_with fail
        go_quiet (first | (go_at_call 18; exact Calls.quiet_of (s1 _)))
        go_wp2_with fail
        exact ⟨⟨k + 1, by omega, by simp, HN2.out HO.out, below_drewN HB.out _⟩, by simp [intOf]; omega⟩
      · cases h2 : meetB eb ed y 1
        · have HO : Hid (ovB (pxB x y) (E k) = false) := by show _ = _; rw [HE.out, h1, h2]; rfl
          go_wp2_with fail
          go_quiet (first | (go_at_call 18; exact Calls.quiet_of (l10Meet_q _ _ _ _ _)))
          go_wp2_with fail
          exact ⟨⟨k + 1, by omega, by simp, HN2.out HO.out, below_drewN HB.out _⟩, by simp [intOf]; omega⟩
        · have HO : Hid (atI E (firstI (fun i => ovB (pxB x y) (E i)) n) = eid) := HY.out (by rw [HE.out, h1, h2]; rfl)
          go_wp2_with fail
          go_quiet (first | (go_at_call 18; exact Calls.quiet_of (l10Meet_q _ _ _ _ _)))
          go_wp2
          go_ret
          exact ⟨ret_int HO.out.symm, below_drewN HB.out _⟩
    · obtain rfl : n = k := by omega
      have HY : Hid (atI E (firstI (fun i => ovB (pxB x y) (E i)) n) = 0) := by show _ = _; rw [firstI_no HN.out]; rfl
      go_wp2
      go_ret
      exact ⟨ret_int HY.out.symm, HB.out⟩
set_option maxHeartbeats 4000000 in
theorem spec_LabelAt_any (b n cap : Nat) (E : Nat → Plc) (x y : Int) (w : World) (hp : LbAt w b 0 n E) (hb : b < w.heap.size) (hn : n ≤ 1048576) :
    Calls Try.prog 9 #[.slice (some ⟨b, 0, none⟩) n cap, .int .i64 x, .int .i64 y] w fun e w' => e = .returned (.agg #[.int .i64 (laC n), .int .i64 (laV n E x y)]) ∧ Below w.heap.size w w' := by
  by_cases h12 : n ≤ 12
  · have hc : Hid (laC n = 0) := if_pos h12
    have hv : Hid (laV n E x y = atI E (firstI (fun i => ovB (pxB x y) (E i)) n)) := if_pos h12
    have HF : Hid (∀ W, Below w.heap.size w W → Calls Try.prog 16 #[.slice (some ⟨b, 0, none⟩) n cap, .int .i64 x, .int .i64 y] W fun e w' => e = .returned (.int .i64 (atI E (firstI (fun i => ovB (pxB x y) (E i)) n))) ∧ Below W.heap.size W w') := fun W h => l10At_any b n cap E x y W (hp.below h hb) (Nat.lt_of_lt_of_le hb h.size) hn
    clear hp
    have hn12 : (n : Int) ≤ 12 := by omega
    generalize atI E (firstI (fun i => ovB (pxB x y) (E i)) n) = r at *
    go_enter Try.func9, Try.ntmps9
    go_wp2_with fail
    generalize hW : (w.alloc _ : World) = W
    have HB0 : Below w.heap.size w W := by subst hW; (repeat (first | exact Below.refl _ _ | assumption | refine Below.drew ?_ | refine bl_alloc ?_ _ | refine bl_then ?_ (by assumption) | refine Below.setCell ?_ (by first | omega | (simp; done) | (simp; omega)) _ | refine bl_store ?_ ?_ _ _))
    have HT : Hid (There W w.heap.size 2) := by
      show There _ _ _
      subst hW
      exact fun o ho => by
        have : o = 0 ∨ o = 1 := by omega
        rcases this with rfl | rfl <;> exact ⟨⟨_, by simp [go_sem]; rfl⟩, by simp [go_sem]⟩
    clear hW
    refine (HF.out _ HB0).mono ?_
    rintro e w1 ⟨rfl, hb1⟩
    have hT := HT.out.below hb1
    have t0 := hT.cell 0 (by omega)
    have t1 := hT.cell 1 (by omega)
    have y0 := (hT 0 (by omega)).2
    have y1 := (hT 1 (by omega)).2
    have HB1 : Hid (Below w.heap.size w w1) := bl_then HB0 hb1
    clear hT hb1 HB0
    go_wp2
    refine bodyPost_ret (v := .agg #[.int .i64 (laC n), .int .i64 (laV n E x y)]) (by rw [hc.out, hv.out]; simp [results, Try.results9, go_sem, t0, t1]) rfl ⟨rfl, ?_⟩
    exact (HB1.out.setCell (Nat.le_refl _) _).setCell (Nat.le_refl _) _
  · have hc : Hid (laC n = 2) := if_neg h12
    have hv : Hid (laV n E x y = 0) := if_neg h12
    have hn12 : (12 : Int) < (n : Int) := by omega
    go_enter Try.func9, Try.ntmps9
    go_wp2
    refine bodyPost_ret (v := .agg #[.int .i64 (laC n), .int .i64 (laV n E x y)]) (by rw [hc.out, hv.out]; simp [results, Try.results9, go_sem]) rfl ⟨rfl, by (repeat (first | exact Below.refl _ _ | assumption | refine Below.drew ?_ | refine bl_alloc ?_ _ | refine bl_then ?_ (by assumption) | refine Below.setCell ?_ (by first | omega | (simp; done) | (simp; omega)) _ | refine bl_store ?_ ?_ _ _))⟩
set_option maxHeartbeats 4000000 in
theorem FnExactLabelAt_walk (a : Option Addr) (n cap : Nat) (E : Nat → Plc) (x y : Int) (w : World) (h : IsLb w a n E ∧ n ≤ cap ∧ cap ≤ maxLen) :
    Calls Try.prog 4 #[.slice a n cap, .int .i64 x, .int .i64 y] w fun e w' => e = .returned (.bool true) ∧ Below w.heap.size w w' := by
  obtain ⟨hf, hc, hm⟩ := h
  have HI : Hid (IsLb w a n E) := hf
  have HM : Hid (n ≤ maxLen) := Nat.le_trans hc hm
  clear hf hc hm
  by_cases hbig : 1048576 < n
  · go_enter Try.func4, Try.ntmps4
    go_wp2_with (go_at_call 8; refine (szPlacedS_no a n cap 1048576 _ (by omega) hbig HM.out).mono ?_; rintro e w' ⟨rfl, hb⟩)
    go_ret
    exact ⟨rfl, by (repeat (first | exact Below.refl _ _ | assumption | refine Below.drew ?_ | refine bl_alloc ?_ _ | refine bl_then ?_ (by assumption) | refine Below.setCell ?_ (by first | omega | (simp; done) | (simp; omega)) _ | refine bl_store ?_ ?_ _ _))⟩
  have hn : n ≤ 1048576 := by omega
  have hneg : ¬ (1048576 : Int) - (n : Int) < 0 := by omega
  clear hbig
  have sI := fun (b : Nat) (w : World) (hp : LbAt w b 0 n E) (hb : b < w.heap.size) => impl_LabelAt_any b n n E x y w hp hb hn
  go_enter Try.func4, Try.ntmps4
  go_wp2_with fail
  refine (szPlacedS_ok a n cap 1048576 w (by omega) hn).mono ?_
  rintro e w1 ⟨rfl, hB1⟩
  go_wp2_with fail
  refine (toPlacedS_any a n cap E _ (HI.out.below hB1) hn).mono ?_
  rintro e w2 ⟨b2, rfl, hle2, hlt2, hE2, _, hb2⟩
  have HE2 : Hid (LbAt w2 b2 0 n E) := hE2
  have hB2 : Below w.heap.size w w2 := bl_then hB1 hb2
  clear hE2 hb2 hB1
  go_wp2_with fail
  refine (spec_LabelAt_any b2 n n E x y _ HE2.out hlt2 hn).mono ?_
  rintro e w3 ⟨rfl, hb3⟩
  have hB3 : Below w.heap.size w w3 := bl_then hB2 hb3
  clear hb3 hB2 HE2
  go_wp2_with fail
  generalize laC n = kc at *
  generalize laV n E x y = kv at *
  generalize hV : (w3.alloc _ : World) = V
  have hBV : Below w.heap.size w V := by subst hV; exact bl_alloc hB3 _
  have v0 : ∀ W', Below V.heap.size V W' → W'.cell? ⟨w3.heap.size, 0, none⟩ = some (.int .i64 kc) := fun W' h => by rw [h.cell (by subst hV; simp)]; subst hV; simp [go_sem]
  have v1 : ∀ W', Below V.heap.size V W' → W'.cell? ⟨w3.heap.size, 1, none⟩ = some (.int .i64 kv) := fun W' h => by rw [h.cell (by subst hV; simp)]; subst hV; simp [go_sem]
  have HLV : Hid (w3.heap.size < V.heap.size) := by show _ < _; subst hV; simp
  clear hV hB3
  refine (toPlacedS_any a n cap E _ (HI.out.below hBV) hn).mono ?_
  rintro e w4 ⟨b4, rfl, hle4, hlt4, hE4, _, hb4⟩
  have HE4 : Hid (LbAt w4 b4 0 n E) := hE4
  have HV4 : Hid (Below V.heap.size V w4) := hb4
  clear hE4 hb4
  go_wp2_with fail
  refine (sI b4 _ HE4.out hlt4).mono ?_
  rintro e w5 ⟨rfl, hb5⟩
  have HE5 : Hid (LbAt w5 b4 0 n E) := HE4.out.below hb5 hlt4
  have hlt5 : b4 < w5.heap.size := Nat.lt_of_lt_of_le hlt4 hb5.size
  have hV5 : Below V.heap.size V w5 := bl_then HV4.out hb5
  have r0 := v0 w5 hV5
  have r1 := v1 w5 hV5
  have hl5 : w3.heap.size < w5.heap.size := Nat.lt_of_lt_of_le HLV.out hV5.size
  have HV5 : Hid (Below V.heap.size V w5) := hV5
  clear hb5 HE4 hV5 v0 v1
  go_wp2_with fail
  refine (eqIntResult_any kc kv _).mono ?_
  rintro e w6 ⟨rfl, hb6⟩
  have hV6 : Below V.heap.size V w6 := bl_then (bl_alloc HV5.out _) hb6
  have h56 : Below w5.heap.size w5 w6 := bl_then (bl_alloc (Below.refl _ _) _) hb6
  have HE6 : Hid (LbAt w6 b4 0 n E) := HE5.out.below h56 hlt5
  have hlt6 : b4 < w6.heap.size := Nat.lt_of_lt_of_le hlt5 h56.size
  have hB6 : Below w.heap.size w w6 := bl_then hBV hV6
  clear hb6 hV6 h56 HE5 r0 r1
  go_wp2_with fail
  refine (toPlacedS_any a n cap E _ (HI.out.below hB6) hn).mono ?_
  rintro e w7 ⟨b7, rfl, hle7, hlt7, hE7, _, hb7⟩
  have HE7 : Hid (LbAt w7 b7 0 n E) := hE7
  have HE8 : Hid (LbAt w7 b4 0 n E) := HE6.out.below hb7 hlt6
  have hlt8 : b4 < w7.heap.size := Nat.lt_of_lt_of_le hlt6 hb7.size
  have hB7 : Below w.heap.size w w7 := bl_then hB6 hb7
  clear hE7 hb7 hB6 HE6
  go_wp2_with fail
  refine (eqPlacedS_any _ _ n _ _ E _ (.inr ⟨b4, 0, rfl, hlt8, HE8.out⟩) (.inr ⟨b7, 0, rfl, hlt7, HE7.out⟩) hn).mono ?_
  rintro e w8 ⟨rfl, hb8⟩
  have HB8 : Hid (Below w.heap.size w w8) := bl_then hB7 hb8
  clear hb8 hB7
  go_wp2
  go_ret
  exact ⟨rfl, HB8.out⟩
end Go.Proofs.Ytijledhbchjpnaa
