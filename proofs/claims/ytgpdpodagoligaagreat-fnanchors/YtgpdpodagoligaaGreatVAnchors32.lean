/- Several texts in one. -/
import Derived.Test.YtgpdpodagoligaaGreatVAnchors31

/- BoxOf of the program: what it answers at every list. -/

namespace Go.Proofs.YtgpdpodagoligaaGreat
open Go.RowKit
set_option linter.unusedSimpArgs false
set_option linter.unusedVariables false

set_option maxHeartbeats 1000000 in
theorem impl_BoxOf_none (a : Option Addr) (cap : Nat) (w : World) :
    Calls Tryz.prog 105 #[.slice a 0 cap] w fun e w' => e = .returned (.agg #[.int .i64 4, .int .i64 0, .int .i64 0, .int .i64 0, .int .i64 0]) ∧ Below w.heap.size w w' := by
  go_enter Tryz.func105, Tryz.ntmps105
  go_wp2
  exact bodyPost_ret (v := .agg #[.int .i64 4, .int .i64 0, .int .i64 0, .int .i64 0, .int .i64 0]) (by simp [results, Tryz.results105, go_sem]) rfl ⟨rfl, by (repeat (first | exact Below.refl _ _ | assumption | refine Below.drew ?_ | refine bl_alloc ?_ _ | refine bl_then ?_ (by assumption) | refine Below.setCell ?_ (by first | omega | (simp; done) | (simp; omega)) _ | refine bl_store ?_ ?_ _ _))⟩
set_option maxHeartbeats 1000000 in
theorem impl_BoxOf_many (a : Option Addr) (n cap : Nat) (w : World) (hn : 40 < n) (hmax : n ≤ 1048576) :
    Calls Tryz.prog 105 #[.slice a n cap] w fun e w' => e = .returned (.agg #[.int .i64 2, .int .i64 0, .int .i64 0, .int .i64 0, .int .i64 0]) ∧ Below w.heap.size w w' := by
  have hni : (40 : Int) < (n : Int) := by omega
  have h0 : ((n : Int) == 0) = false := by simp; omega
  go_enter Tryz.func105, Tryz.ntmps105
  go_wp2
  exact bodyPost_ret (v := .agg #[.int .i64 2, .int .i64 0, .int .i64 0, .int .i64 0, .int .i64 0]) (by simp [results, Tryz.results105, go_sem]) rfl ⟨rfl, by (repeat (first | exact Below.refl _ _ | assumption | refine Below.drew ?_ | refine bl_alloc ?_ _ | refine bl_then ?_ (by assumption) | refine Below.setCell ?_ (by first | omega | (simp; done) | (simp; omega)) _ | refine bl_store ?_ ?_ _ _))⟩

theorem point_any (x y : Int) (w : World) : Calls Tryz.prog 120 #[.agg #[.int .i64 x, .int .i64 y]] w fun e w' => e = .returned (.agg #[.int .i64 x, .int .i64 y]) ∧ Below w.heap.size w w' := by
  go_enter Tryz.func120, Tryz.ntmps120
  go_wp2
  exact bodyPost_ret (v := .agg #[.int .i64 x, .int .i64 y]) (by simp [results, Tryz.results120, go_sem]) rfl ⟨rfl, by (repeat (first | exact Below.refl _ _ | assumption | refine Below.drew ?_ | refine bl_alloc ?_ _ | refine bl_then ?_ (by assumption) | refine Below.setCell ?_ (by first | omega | (simp; done) | (simp; omega)) _ | refine bl_store ?_ ?_ _ _))⟩

set_option maxHeartbeats 4000000 in
theorem impl_BoxOf_bad (b n cap : Nat) (X Y : Nat → Int) (w : World) (hpt : PtsAt w b 0 n X Y) (hbl : b < w.heap.size) (hcap : n ≤ cap) (hn : 0 < n) (h40 : n ≤ 40) (hall : allOk n X Y = false) :
    Calls Tryz.prog 105 #[.slice (some ⟨b, 0, none⟩) n cap] w fun e w' => e = .returned (boxV n X Y) ∧ Below w.heap.size w w' := by
  have HQ : Hid (PtsAt w b 0 n X Y) := hpt
  have HV : Hid (boxV n X Y = .agg #[.int .i64 3, .int .i64 0, .int .i64 0, .int .i64 0, .int .i64 0]) := by show _ = _; simp [boxV, hall]
  have hN : codeN n X Y = 3 := by simp [codeN, hall]
  clear hpt hall
  have h0 : ((n : Int) == 0) = false := by simp; omega
  have hn40 : ¬ (40 : Int) < (n : Int) := by omega
  go_enter Tryz.func105, Tryz.ntmps105
  go_wp2_with fail
  generalize hW : (w.alloc _ : World) = W
  have hB0 : Below w.heap.size w W := by subst hW; (repeat (first | exact Below.refl _ _ | assumption | refine Below.drew ?_ | refine bl_alloc ?_ _ | refine bl_then ?_ (by assumption) | refine Below.setCell ?_ (by first | omega | (simp; done) | (simp; omega)) _ | refine bl_store ?_ ?_ _ _))
  have hT0 : There W w.heap.size 5 := fun o ho => by
    subst hW
    have hc : o = 0 ∨ o = 1 ∨ o = 2 ∨ o = 3 ∨ o = 4 := by omega
    rcases hc with rfl | rfl | rfl | rfl | rfl <;> exact ⟨⟨_, by simp [go_sem]; rfl⟩, by simp [go_sem]⟩
  clear hW
  have HQ1 : Hid (PtsAt W b 0 n X Y) := HQ.out.below hB0 hbl
  have hblW : b < W.heap.size := Nat.lt_of_lt_of_le hbl hB0.size
  have HT0 : Hid (There W w.heap.size 5) := hT0
  have HB0 : Hid (Below w.heap.size w W) := hB0
  clear hT0 hB0
  refine (faultIn_any _ _ _ _ X Y _ HQ1.out hblW hcap (by omega)).mono ?_
  rintro e w1 ⟨rfl, hb1⟩
  have hT1 := HT0.out.below hb1
  have t0 := hT1.cell 0 (by omega)
  have t1 := hT1.cell 1 (by omega)
  have t2 := hT1.cell 2 (by omega)
  have t3 := hT1.cell 3 (by omega)
  have t4 := hT1.cell 4 (by omega)
  have y0 := (hT1 0 (by omega)).2
  have y1 := (hT1 1 (by omega)).2
  have y2 := (hT1 2 (by omega)).2
  have y3 := (hT1 3 (by omega)).2
  have y4 := (hT1 4 (by omega)).2
  have HT1 : Hid (There w1 w.heap.size 5) := hT1
  clear hT1
  go_wp2
  obtain ⟨q0, q1, q2, q3, q4⟩ := set5_at (a := .int .i64 3) (b := .int .i64 0) (c := .int .i64 0) (d := .int .i64 0) (e := .int .i64 0) HT1.out
  refine bodyPost_ret (v := .agg #[.int .i64 3, .int .i64 0, .int .i64 0, .int .i64 0, .int .i64 0]) (by simp [results, Tryz.results105, go_sem, q0, q1, q2, q3, q4]) rfl ⟨by rw [HV.out], ?_⟩
  have HB1 := bl_then HB0.out hb1
  (repeat (first | exact Below.refl _ _ | assumption | refine Below.drew ?_ | refine bl_alloc ?_ _ | refine bl_then ?_ (by assumption) | refine Below.setCell ?_ (by first | omega | (simp; done) | (simp; omega)) _ | refine bl_store ?_ ?_ _ _))
end Go.Proofs.YtgpdpodagoligaaGreat
/- BoxOf of the program at a list without a fault. -/

namespace Go.Proofs.YtgpdpodagoligaaGreat
open Go.RowKit
set_option linter.unusedSimpArgs false
set_option linter.unusedVariables false

theorem min_is (x A : Int) : (if x < A then x else A) = mnI A x := by unfold mnI; split <;> split <;> omega
theorem max_is (x C : Int) : (if C < x then x else C) = mxI C x := by unfold mxI; split <;> split <;> omega
theorem mn_min (A x : Int) : mnI A x = min A x := by unfold mnI; split <;> omega
theorem mx_max (C x : Int) : mxI C x = max C x := by unfold mxI; split <;> omega
/-- Two stores into the cells i of two blocks, read back. -/
theorem two_blocks {W : World} {L i : Nat} {u v x y : Value} (h0 : W.cell? ⟨L, i, none⟩ = some x) (h1 : W.cell? ⟨L + 1, i, none⟩ = some y) :
    ((W.setCell ⟨L, i, none⟩ u).setCell ⟨L + 1, i, none⟩ v).cell? ⟨L, i, none⟩ = some u ∧ ((W.setCell ⟨L, i, none⟩ u).setCell ⟨L + 1, i, none⟩ v).cell? ⟨L + 1, i, none⟩ = some v := by
  have n1 : (⟨L + 1, i, none⟩ : Addr) ≠ ⟨L, i, none⟩ := fun h => by injection h with h; omega
  have n2 : (⟨L, i, none⟩ : Addr) ≠ ⟨L + 1, i, none⟩ := fun h => n1 h.symm
  refine ⟨?_, ?_⟩
  · rw [set1_other n1]; exact set1_same h0
  · exact set1_same (by rw [set1_other n2]; exact h1)
theorem two_blocks_other {W : World} {L i j : Nat} {u v : Value} (hij : i ≠ j) :
    ((W.setCell ⟨L, i, none⟩ u).setCell ⟨L + 1, i, none⟩ v).cell? ⟨L, j, none⟩ = W.cell? ⟨L, j, none⟩ ∧ ((W.setCell ⟨L, i, none⟩ u).setCell ⟨L + 1, i, none⟩ v).cell? ⟨L + 1, j, none⟩ = W.cell? ⟨L + 1, j, none⟩ := by
  have n1 : ∀ b c : Nat, (⟨b, i, none⟩ : Addr) ≠ ⟨c, j, none⟩ := fun b c h => hij (by injection h)
  exact ⟨set2_other (n1 _ _) (n1 _ _), set2_other (n1 _ _) (n1 _ _)⟩

/-- What is kept while the box is put together. -/
structure FinS (w : World) (L : Nat) (a b c d : Int) (W' : World) : Prop where
  bel : Below w.heap.size w W'
  there : There W' w.heap.size 5
  lt : w.heap.size < L
  p0 : W'.cell? ⟨L, 0, none⟩ = some (.int .i64 a)
  p1 : W'.cell? ⟨L, 1, none⟩ = some (.int .i64 b)
  p2 : W'.cell? ⟨L + 1, 0, none⟩ = some (.int .i64 c)
  p3 : W'.cell? ⟨L + 1, 1, none⟩ = some (.int .i64 d)
theorem FinS.drew {w W' : World} {L : Nat} {a b c d : Int} (h : FinS w L a b c d W') : FinS w L a b c d W'.drew := ⟨h.bel.drew, h.there, h.lt, h.p0, h.p1, h.p2, h.p3⟩
theorem FinS.call {w W' w' : World} {L : Nat} {a b c d : Int} (h : FinS w L a b c d W') (hb : Below W'.heap.size W' w') : FinS w L a b c d w' :=
  ⟨bl_then h.bel hb, h.there.below hb, h.lt, (hb.cell (p := ⟨L, 0, none⟩) (World.block_lt_of_cell? _ _ h.p0)).trans h.p0, (hb.cell (p := ⟨L, 1, none⟩) (World.block_lt_of_cell? _ _ h.p1)).trans h.p1,
    (hb.cell (p := ⟨L + 1, 0, none⟩) (World.block_lt_of_cell? _ _ h.p2)).trans h.p2, (hb.cell (p := ⟨L + 1, 1, none⟩) (World.block_lt_of_cell? _ _ h.p3)).trans h.p3⟩
theorem FinS.set {w W' : World} {L : Nat} {a b c d : Int} (h : FinS w L a b c d W') (o : Nat) (v : Value) : FinS w L a b c d (W'.setCell ⟨w.heap.size, o, none⟩ v) := by
  have hlt := h.lt
  have ne : ∀ k o', w.heap.size < k → (⟨w.heap.size, o, none⟩ : Addr) ≠ ⟨k, o', none⟩ := fun k o' hk e => by injection e with e; omega
  refine ⟨h.bel.setCell (Nat.le_refl _) v, fun o' ho => ?_, hlt, ?_, ?_, ?_, ?_⟩
  · obtain ⟨u, hu⟩ := (h.there o' ho).1
    refine ⟨?_, by rw [World.frozen?_setCell]; exact (h.there o' ho).2⟩
    by_cases e : o = o'
    · subst e; exact ⟨v, set1_same hu⟩
    · exact ⟨u, by rw [set1_other (fun hc => e (by injection hc))]; exact hu⟩
  · rw [set1_other (ne _ _ hlt)]; exact h.p0
  · rw [set1_other (ne _ _ hlt)]; exact h.p1
  · rw [set1_other (ne _ _ (by omega))]; exact h.p2
  · rw [set1_other (ne _ _ (by omega))]; exact h.p3

set_option maxHeartbeats 8000000 in
theorem impl_BoxOf_ok (b n cap : Nat) (X Y : Nat → Int) (w : World) (hpt : PtsAt w b 0 n X Y) (hbl : b < w.heap.size) (hcap : n ≤ cap) (hn : 0 < n) (h40 : n ≤ 40) (hall : allOk n X Y = true) :
    Calls Tryz.prog 105 #[.slice (some ⟨b, 0, none⟩) n cap] w fun e w' => e = .returned (boxV n X Y) ∧ Below w.heap.size w w' := by
  have HQ : Hid (PtsAt w b 0 n X Y) := hpt
  have HV : Hid (boxV n X Y = .agg #[.int .i64 0, .int .i64 (mnTo X n), .int .i64 (mnTo Y n), .int .i64 (mxTo X n), .int .i64 (mxTo Y n)]) := by show _ = _; simp [boxV, hall]
  have hN : codeN n X Y = 0 := by simp [codeN, hall]
  clear hpt hall
  have h0 : ((n : Int) == 0) = false := by simp; omega
  have hn40 : ¬ (40 : Int) < (n : Int) := by omega
  have hnp : (0 : Int) < (n : Int) := by omega
  go_enter Tryz.func105, Tryz.ntmps105
  go_wp2_with fail
  generalize hW : (w.alloc _ : World) = W
  have hB0 : Below w.heap.size w W := by subst hW; (repeat (first | exact Below.refl _ _ | assumption | refine Below.drew ?_ | refine bl_alloc ?_ _ | refine bl_then ?_ (by assumption) | refine Below.setCell ?_ (by first | omega | (simp; done) | (simp; omega)) _ | refine bl_store ?_ ?_ _ _))
  have hT0 : There W w.heap.size 5 := fun o ho => by
    subst hW
    have hc : o = 0 ∨ o = 1 ∨ o = 2 ∨ o = 3 ∨ o = 4 := by omega
    rcases hc with rfl | rfl | rfl | rfl | rfl <;> exact ⟨⟨_, by simp [go_sem]; rfl⟩, by simp [go_sem]⟩
  clear hW
  have HQ1 : Hid (PtsAt W b 0 n X Y) := HQ.out.below hB0 hbl
  have hblW : b < W.heap.size := Nat.lt_of_lt_of_le hbl hB0.size
  have HT0 : Hid (There W w.heap.size 5) := hT0
  have HB0 : Hid (Below w.heap.size w W) := hB0
  clear hT0 hB0
  refine (faultIn_any _ _ _ _ X Y _ HQ1.out hblW hcap (by omega)).mono ?_
  rintro e w1 ⟨rfl, hb1⟩
  obtain ⟨hx, hy⟩ := (HQ1.out.below hb1 hblW) 0 hn
  simp at hx hy
  go_wp2_with fail
  refine (pairOf_any _ _ _).mono ?_
  rintro e w2 ⟨rfl, hb2⟩
  have hB2 := bl_then hb1 hb2
  have HQ2 : Hid (PtsAt w2 b 0 n X Y) := HQ1.out.below hB2 hblW
  have hbl2 : b < w2.heap.size := Nat.lt_of_lt_of_le hblW hB2.size
  have HT2 : Hid (There w2 w.heap.size 5) := HT0.out.below hB2
  have HB2 : Hid (Below w.heap.size w w2) := bl_then HB0.out hB2
  clear hx hy hb1 hb2 hB2 HQ1 HT0 HB0 hN
  go_wp2
  go_loopw [31] (fun i wr => ∃ k : Nat, k ≤ n ∧ i = .int .i64 k ∧ Below w2.heap.size w2 wr ∧ wr.cell? ⟨w2.heap.size, 0, none⟩ = some (.int .i64 (mnTo X k)) ∧ wr.cell? ⟨w2.heap.size, 1, none⟩ = some (.int .i64 (mnTo Y k)) ∧ wr.cell? ⟨w2.heap.size + 1, 0, none⟩ = some (.int .i64 (mxTo X k)) ∧ wr.cell? ⟨w2.heap.size + 1, 1, none⟩ = some (.int .i64 (mxTo Y k)) ∧ (∀ o, wr.frozen? ⟨w2.heap.size, o, none⟩ = false) ∧ (∀ o, wr.frozen? ⟨w2.heap.size + 1, o, none⟩ = false)) (fun i _ => n - (intOf i).toNat)
  case atStart => exact ⟨0, by omega, rfl, by (repeat (first | exact Below.refl _ _ | assumption | refine Below.drew ?_ | refine bl_alloc ?_ _ | refine bl_then ?_ (by assumption) | refine Below.setCell ?_ (by first | omega | (simp; done) | (simp; omega)) _ | refine bl_store ?_ ?_ _ _)), by simp [go_sem, mnTo], by simp [go_sem, mnTo], by simp [go_sem, mxTo], by simp [go_sem, mxTo], fun o => by simp [go_sem], fun o => by simp [go_sem]⟩
  case round =>
    obtain ⟨k, hk, rfl, hB, o0, o1, o2, o3, fz, fy⟩ := hrel
    by_cases hlt : k < n
    · obtain ⟨hx, hy⟩ := (HQ2.out.below hB hbl2) k hlt
      simp only [Nat.zero_add] at hx hy
      have hi : (k : Int) < (n : Int) := by omega
      have KA : Hid (mnTo X (k + 1) = mnI (mnTo X k) (X k)) := rfl
      have KA' : Hid (mnTo Y (k + 1) = mnI (mnTo Y k) (Y k)) := rfl
      have KC : Hid (mxTo X (k + 1) = mxI (mxTo X k) (X k)) := rfl
      have KC' : Hid (mxTo Y (k + 1) = mxI (mxTo Y k) (Y k)) := rfl
      have hl1 : w2.heap.size + 1 < wr.heap.size := World.block_lt_of_cell? _ _ o2
      generalize mnTo X k = A at *
      generalize mnTo Y k = A' at *
      generalize mxTo X k = C at *
      generalize mxTo Y k = C' at *
      generalize X k = x at *
      generalize Y k = y at *
      have HB : Hid (Below w2.heap.size w2 wr) := hB
      have O0 : Hid (wr.cell? ⟨w2.heap.size, 0, none⟩ = some (.int .i64 A)) := o0
      have O1 : Hid (wr.cell? ⟨w2.heap.size, 1, none⟩ = some (.int .i64 A')) := o1
      have O2 : Hid (wr.cell? ⟨w2.heap.size + 1, 0, none⟩ = some (.int .i64 C)) := o2
      have O3 : Hid (wr.cell? ⟨w2.heap.size + 1, 1, none⟩ = some (.int .i64 C')) := o3
      have FZ : Hid (∀ o, wr.frozen? ⟨w2.heap.size, o, none⟩ = false) := fz
      have FY : Hid (∀ o, wr.frozen? ⟨w2.heap.size + 1, o, none⟩ = false) := fy
      clear hB o0 o1 o2 o3 fz fy
      go_wp2_with fail
      refine (pairOf_any _ _ _).mono ?_
      rintro e w3 ⟨rfl, hb3⟩
      have hB3 : Below wr.heap.size wr w3 := by (repeat (first | exact Below.refl _ _ | assumption | refine Below.drew ?_ | refine bl_alloc ?_ _ | refine bl_then ?_ (by assumption) | refine Below.setCell ?_ (by first | omega | (simp; done) | (simp; omega)) _ | refine bl_store ?_ ?_ _ _))
      have o0 : w3.cell? ⟨w2.heap.size, 0, none⟩ = some (.int .i64 A) := (hB3.cell (p := ⟨w2.heap.size, 0, none⟩) (by show w2.heap.size < _; omega)).trans O0.out
      have o1 : w3.cell? ⟨w2.heap.size, 1, none⟩ = some (.int .i64 A') := (hB3.cell (p := ⟨w2.heap.size, 1, none⟩) (by show w2.heap.size < _; omega)).trans O1.out
      have o2 : w3.cell? ⟨w2.heap.size + 1, 0, none⟩ = some (.int .i64 C) := (hB3.cell (p := ⟨w2.heap.size + 1, 0, none⟩) hl1).trans O2.out
      have o3 : w3.cell? ⟨w2.heap.size + 1, 1, none⟩ = some (.int .i64 C') := (hB3.cell (p := ⟨w2.heap.size + 1, 1, none⟩) hl1).trans O3.out
      have fz : ∀ o, w3.frozen? ⟨w2.heap.size, o, none⟩ = false := fun o => (hB3.frozen (p := ⟨w2.heap.size, o, none⟩) (by show w2.heap.size < _; omega)).trans (FZ.out o)
      have fy : ∀ o, w3.frozen? ⟨w2.heap.size + 1, o, none⟩ = false := fun o => (hB3.frozen (p := ⟨w2.heap.size + 1, o, none⟩) hl1).trans (FY.out o)
      have HB3 : Hid (Below w2.heap.size w2 w3) := bl_then HB.out hB3
      clear hb3 hB3 O0 O1 O2 O3 FZ FY HB hx hy
      have i0 : ∀ w, (Instr.index 162 (.agg #[.int .i64 x, .int .i64 y]) (.int .i64 0)).run Tryz.prog w = .ok (.int .i64 x) w := fun _ => by kernel_rfl
      have i1 : ∀ w, (Instr.index 162 (.agg #[.int .i64 x, .int .i64 y]) (.int .i64 1)).run Tryz.prog w = .ok (.int .i64 y) w := fun _ => by kernel_rfl
      go_wp2
      go_loopw [37] (fun i wq => ∃ j : Nat, j ≤ 2 ∧ i = .int .i64 j ∧ Below w2.heap.size w2 wq ∧ wq.cell? ⟨w2.heap.size, 0, none⟩ = some (.int .i64 (if 1 ≤ j then mnI A x else A)) ∧ wq.cell? ⟨w2.heap.size, 1, none⟩ = some (.int .i64 (if 2 ≤ j then mnI A' y else A')) ∧ wq.cell? ⟨w2.heap.size + 1, 0, none⟩ = some (.int .i64 (if 1 ≤ j then mxI C x else C)) ∧ wq.cell? ⟨w2.heap.size + 1, 1, none⟩ = some (.int .i64 (if 2 ≤ j then mxI C' y else C')) ∧ (∀ o, wq.frozen? ⟨w2.heap.size, o, none⟩ = false) ∧ (∀ o, wq.frozen? ⟨w2.heap.size + 1, o, none⟩ = false)) (fun i _ => 2 - (intOf i).toNat)
      case atStart => exact ⟨0, by omega, rfl, HB3.out, o0, o1, o2, o3, fz, fy⟩
      case round =>
        obtain ⟨j, hj, rfl, hBq, p0, p1, p2, p3, gz, gy⟩ := hrel
        clear o0 o1 o2 o3 fz fy
        have hc : j = 0 ∨ j = 1 ∨ j = 2 := by omega
        rcases hc with rfl | rfl | rfl
        · simp at p0 p1 p2 p3
          have HBq : Hid (Below w2.heap.size w2 wr) := hBq
          have z0 := gz 0
          have z1 := gy 0
          have GZ : Hid (∀ o, wr.frozen? ⟨w2.heap.size, o, none⟩ = false) := gz
          have GY : Hid (∀ o, wr.frozen? ⟨w2.heap.size + 1, o, none⟩ = false) := gy
          have TB := two_blocks (L := w2.heap.size) (i := 0) (u := .int .i64 (if x < A then x else A)) (v := .int .i64 (if C < x then x else C)) p0 p2
          have TO := two_blocks_other (W := wr) (L := w2.heap.size) (i := 0) (j := 1) (u := .int .i64 (if x < A then x else A)) (v := .int .i64 (if C < x then x else C)) (by omega)
          rw [p1, p3] at TO
          have HTB := (show Hid _ from TB)
          have HTO := (show Hid _ from TO)
          clear hBq gz gy TB TO
          have hne : ¬ w2.heap.size = w2.heap.size + 1 := by omega
          go_wp2
          go_roundw
          case rel =>
            refine ⟨1, by omega, rfl, (HBq.out.setCell (Nat.le_refl _) _).setCell (Nat.le_succ _) _, ?_, ?_, ?_, ?_, fun o => ?_, fun o => ?_⟩
            · first | simpa [min_is, max_is] using HTB.out.1 | simpa [min_is, max_is, mn_min, mx_max] using HTB.out.1
            · first | simpa [min_is, max_is] using HTO.out.1 | simpa [min_is, max_is, mn_min, mx_max] using HTO.out.1
            · first | simpa [min_is, max_is] using HTB.out.2 | simpa [min_is, max_is, mn_min, mx_max] using HTB.out.2
            · first | simpa [min_is, max_is] using HTO.out.2 | simpa [min_is, max_is, mn_min, mx_max] using HTO.out.2
            · rw [World.frozen?_setCell, World.frozen?_setCell]; exact GZ.out o
            · rw [World.frozen?_setCell, World.frozen?_setCell]; exact GY.out o
          case measure => simp [intOf]
        · simp at p0 p1 p2 p3
          have HBq : Hid (Below w2.heap.size w2 wr) := hBq
          have z0 := gz 1
          have z1 := gy 1
          have GZ : Hid (∀ o, wr.frozen? ⟨w2.heap.size, o, none⟩ = false) := gz
          have GY : Hid (∀ o, wr.frozen? ⟨w2.heap.size + 1, o, none⟩ = false) := gy
          have TB := two_blocks (L := w2.heap.size) (i := 1) (u := .int .i64 (if y < A' then y else A')) (v := .int .i64 (if C' < y then y else C')) p1 p3
          have TO := two_blocks_other (W := wr) (L := w2.heap.size) (i := 1) (j := 0) (u := .int .i64 (if y < A' then y else A')) (v := .int .i64 (if C' < y then y else C')) (by omega)
          rw [p0, p2] at TO
          have HTB := (show Hid _ from TB)
          have HTO := (show Hid _ from TO)
          clear hBq gz gy TB TO
          have hne : ¬ w2.heap.size = w2.heap.size + 1 := by omega
          go_wp2
          go_roundw
          case rel =>
            refine ⟨2, by omega, rfl, (HBq.out.setCell (Nat.le_refl _) _).setCell (Nat.le_succ _) _, ?_, ?_, ?_, ?_, fun o => ?_, fun o => ?_⟩
            · first | simpa [min_is, max_is] using HTO.out.1 | simpa [min_is, max_is, mn_min, mx_max] using HTO.out.1
            · first | simpa [min_is, max_is] using HTB.out.1 | simpa [min_is, max_is, mn_min, mx_max] using HTB.out.1
            · first | simpa [min_is, max_is] using HTO.out.2 | simpa [min_is, max_is, mn_min, mx_max] using HTO.out.2
            · first | simpa [min_is, max_is] using HTB.out.2 | simpa [min_is, max_is, mn_min, mx_max] using HTB.out.2
            · rw [World.frozen?_setCell, World.frozen?_setCell]; exact GZ.out o
            · rw [World.frozen?_setCell, World.frozen?_setCell]; exact GY.out o
          case measure => simp [intOf]
        · simp at p0 p1 p2 p3
          have HBq : Hid (Below w2.heap.size w2 wr) := hBq
          have P0 : Hid (wr.cell? ⟨w2.heap.size, 0, none⟩ = some (.int .i64 (mnI A x))) := p0
          have P1 : Hid (wr.cell? ⟨w2.heap.size, 1, none⟩ = some (.int .i64 (mnI A' y))) := p1
          have P2 : Hid (wr.cell? ⟨w2.heap.size + 1, 0, none⟩ = some (.int .i64 (mxI C x))) := p2
          have P3 : Hid (wr.cell? ⟨w2.heap.size + 1, 1, none⟩ = some (.int .i64 (mxI C' y))) := p3
          have GZ : Hid (∀ o, wr.frozen? ⟨w2.heap.size, o, none⟩ = false) := gz
          have GY : Hid (∀ o, wr.frozen? ⟨w2.heap.size + 1, o, none⟩ = false) := gy
          clear hBq p0 p1 p2 p3 gz gy
          go_wp2
          go_roundw
          case rel => exact ⟨k + 1, by omega, by go_num, HBq.out, by rw [KA.out]; exact P0.out, by rw [KA'.out]; exact P1.out, by rw [KC.out]; exact P2.out, by rw [KC'.out]; exact P3.out, GZ.out, GY.out⟩
          case measure => simp [intOf]; omega
    · have hkn : k = n := by omega
      subst hkn
      have hl1 : w2.heap.size + 1 < wr.heap.size := World.block_lt_of_cell? _ _ o2
      have HT : Hid (There wr w.heap.size 5) := fun o ho => by
        obtain ⟨u, hu⟩ := (HT2.out o ho).1
        have hl := World.block_lt_of_cell? _ _ hu
        exact ⟨⟨u, (hB.cell (p := ⟨w.heap.size, o, none⟩) hl).trans hu⟩, (hB.frozen (p := ⟨w.heap.size, o, none⟩) hl).trans (HT2.out o ho).2⟩
      have hwl : w.heap.size < w2.heap.size := by
        obtain ⟨u, hu⟩ := (HT2.out 0 (by omega)).1
        exact World.block_lt_of_cell? _ _ hu
      have HB : Hid (Below w.heap.size w wr) := bl_then HB2.out hB
      have hF : FinS w w2.heap.size (mnTo X k) (mnTo Y k) (mxTo X k) (mxTo Y k) wr := ⟨HB.out, HT.out, hwl, o0, o1, o2, o3⟩
      have l0 : ∀ W', FinS w w2.heap.size (mnTo X k) (mnTo Y k) (mxTo X k) (mxTo Y k) W' → W'.cell? ⟨w2.heap.size, 0, none⟩ = some (.int .i64 (mnTo X k)) := fun W' h => h.p0
      have l1 : ∀ W', FinS w w2.heap.size (mnTo X k) (mnTo Y k) (mxTo X k) (mxTo Y k) W' → W'.cell? ⟨w2.heap.size, 1, none⟩ = some (.int .i64 (mnTo Y k)) := fun W' h => h.p1
      have l2 : ∀ W', FinS w w2.heap.size (mnTo X k) (mnTo Y k) (mxTo X k) (mxTo Y k) W' → W'.cell? ⟨w2.heap.size + 1, 0, none⟩ = some (.int .i64 (mxTo X k)) := fun W' h => h.p2
      have l3 : ∀ W', FinS w w2.heap.size (mnTo X k) (mnTo Y k) (mxTo X k) (mxTo Y k) W' → W'.cell? ⟨w2.heap.size + 1, 1, none⟩ = some (.int .i64 (mxTo Y k)) := fun W' h => h.p3
      have t0 : ∀ W', FinS w w2.heap.size (mnTo X k) (mnTo Y k) (mxTo X k) (mxTo Y k) W' → W'.cell? ⟨w.heap.size, 0, none⟩ = some (cellOr W' w.heap.size 0) := fun W' h => h.there.cell 0 (by omega)
      have t1 : ∀ W', FinS w w2.heap.size (mnTo X k) (mnTo Y k) (mxTo X k) (mxTo Y k) W' → W'.cell? ⟨w.heap.size, 1, none⟩ = some (cellOr W' w.heap.size 1) := fun W' h => h.there.cell 1 (by omega)
      have t2 : ∀ W', FinS w w2.heap.size (mnTo X k) (mnTo Y k) (mxTo X k) (mxTo Y k) W' → W'.cell? ⟨w.heap.size, 2, none⟩ = some (cellOr W' w.heap.size 2) := fun W' h => h.there.cell 2 (by omega)
      have t3 : ∀ W', FinS w w2.heap.size (mnTo X k) (mnTo Y k) (mxTo X k) (mxTo Y k) W' → W'.cell? ⟨w.heap.size, 3, none⟩ = some (cellOr W' w.heap.size 3) := fun W' h => h.there.cell 3 (by omega)
      have t4 : ∀ W', FinS w w2.heap.size (mnTo X k) (mnTo Y k) (mxTo X k) (mxTo Y k) W' → W'.cell? ⟨w.heap.size, 4, none⟩ = some (cellOr W' w.heap.size 4) := fun W' h => h.there.cell 4 (by omega)
      have y0 : ∀ W', FinS w w2.heap.size (mnTo X k) (mnTo Y k) (mxTo X k) (mxTo Y k) W' → W'.frozen? ⟨w.heap.size, 0, none⟩ = false := fun W' h => (h.there 0 (by omega)).2
      have y1 : ∀ W', FinS w w2.heap.size (mnTo X k) (mnTo Y k) (mxTo X k) (mxTo Y k) W' → W'.frozen? ⟨w.heap.size, 1, none⟩ = false := fun W' h => (h.there 1 (by omega)).2
      have y2 : ∀ W', FinS w w2.heap.size (mnTo X k) (mnTo Y k) (mxTo X k) (mxTo Y k) W' → W'.frozen? ⟨w.heap.size, 2, none⟩ = false := fun W' h => (h.there 2 (by omega)).2
      have y3 : ∀ W', FinS w w2.heap.size (mnTo X k) (mnTo Y k) (mxTo X k) (mxTo Y k) W' → W'.frozen? ⟨w.heap.size, 3, none⟩ = false := fun W' h => (h.there 3 (by omega)).2
      have y4 : ∀ W', FinS w w2.heap.size (mnTo X k) (mnTo Y k) (mxTo X k) (mxTo Y k) W' → W'.frozen? ⟨w.heap.size, 4, none⟩ = false := fun W' h => (h.there 4 (by omega)).2
      clear hB fz fy o0 o1 o2 o3
      go_wp2
      go_region_held3 (FinS w w2.heap.size (mnTo X k) (mnTo Y k) (mxTo X k) (mxTo Y k)) (first | exact FinS.drew hF | exact FinS.call (by assumption) (by assumption) | exact FinS.set (FinS.set (FinS.set (FinS.set (FinS.set (by assumption) _ _) _ _) _ _) _ _) _ _ | assumption)
        (first
          | (go_at_call 120; refine (point_any _ _ _).mono ?_; rintro e w' ⟨rfl, hb⟩; have hk : FinS w w2.heap.size (mnTo X k) (mnTo Y k) (mxTo X k) (mxTo Y k) w' := FinS.call (by assumption) hb))
      rename_i hfin
      go_wp2
      obtain ⟨q0, q1, q2, q3, q4⟩ := set5_at (a := .int .i64 0) (b := .int .i64 (mnTo X k)) (c := .int .i64 (mnTo Y k)) (d := .int .i64 (mxTo X k)) (e := .int .i64 (mxTo Y k)) hk.there
      refine bodyPost_ret (v := .agg #[.int .i64 0, .int .i64 (mnTo X k), .int .i64 (mnTo Y k), .int .i64 (mxTo X k), .int .i64 (mxTo Y k)]) (by simp [results, Tryz.results105, go_sem, q0, q1, q2, q3, q4]) rfl ⟨by rw [HV.out], hfin.bel⟩
end Go.Proofs.YtgpdpodagoligaaGreat
