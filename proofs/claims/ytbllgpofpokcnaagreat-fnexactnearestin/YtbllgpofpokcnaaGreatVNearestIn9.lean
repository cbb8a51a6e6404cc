/- Several texts in one. -/
import Derived.Test.YtbllgpofpokcnaaGreatVNearestIn2
import Derived.Laws.OwnMore

/- Lists of points in memory of their own: they are compared, marked, and the marks are found again. -/

namespace Go.Proofs.YtbllgpofpokcnaaGreat
open Go.RowKit
set_option linter.unusedSimpArgs false
set_option linter.unusedVariables false

/-- The cells of a list. -/
def cellsL (l : List (Int × Int)) : List Value := l.flatMap fun p => [.int .i64 p.1, .int .i64 p.2]
def px (l : List (Int × Int)) (i : Nat) : Int := (l.getD i (0, 0)).1
def py (l : List (Int × Int)) (i : Nat) : Int := (l.getD i (0, 0)).2
theorem cellsL_nil : cellsL [] = [] := rfl
theorem cellsL_cons (p : Int × Int) (l : List (Int × Int)) : cellsL (p :: l) = .int .i64 p.1 :: .int .i64 p.2 :: cellsL l := by simp [cellsL]
theorem cellsL_add (l : List (Int × Int)) (x y : Int) : cellsL (l ++ [(x, y)]) = cellsL l ++ [.int .i64 x, .int .i64 y] := by simp [cellsL]
theorem cellsL_len : ∀ l : List (Int × Int), (cellsL l).length = l.length * 2
  | [] => rfl
  | p :: l => by rw [cellsL_cons]; simp [cellsL_len l]; omega
theorem cellsL_at : ∀ (l : List (Int × Int)) (i : Nat), i < l.length → (cellsL l)[i * 2]? = some (.int .i64 (px l i)) ∧ (cellsL l)[i * 2 + 1]? = some (.int .i64 (py l i))
  | [], i, h => absurd h (by simp)
  | p :: l, 0, h => by rw [cellsL_cons]; simp [px, py]
  | p :: l, i + 1, h => by
    obtain ⟨h1, h2⟩ := cellsL_at l i (by simpa using h)
    rw [cellsL_cons]
    have e1 : (i + 1) * 2 = i * 2 + 1 + 1 := by omega
    rw [e1]
    simp only [List.getElem?_cons_succ]
    exact ⟨h1, h2⟩

/-- v is a list of n points in a block from base on. -/
def Own (w : World) (base : Nat) (v : Value) (n : Nat) (X Y : Nat → Int) : Prop :=
  ∃ a cap, v = .slice a n cap ∧ n ≤ cap ∧ (n = 0 ∨ ∃ b, a = some ⟨b, 0, none⟩ ∧ base ≤ b ∧ b < w.heap.size ∧ PtsAt w b 0 n X Y ∧ There w b (n * 2))
/-- v is a row of its own with the points of l. -/
def Row (base : Nat) (w : World) (v : Value) (l : List (Int × Int)) : Prop := w.ownsRow base 134 2 v l.length (cellsL l)
theorem Row.own {base : Nat} {w : World} {v : Value} {l : List (Int × Int)} (h : Row base w v l) : Own w base v l.length (px l) (py l) := by
  obtain ⟨h1, h2 | ⟨g, cp, cur, hv, hg, hh, hkc, hcm, hcs, htk⟩⟩ := h
  · obtain ⟨rfl, h0⟩ := h2
    rw [h0]
    exact ⟨none, 0, rfl, Nat.le_refl _, .inl rfl⟩
  · have hgl : g < w.heap.size := by
      rcases Nat.lt_or_ge g w.heap.size with h' | h'
      · exact h'
      · rw [Array.getElem?_eq_none h'] at hh; cases hh
    have hrow : w.ownsRow base 134 2 (.slice (some ⟨g, 0, none⟩) l.length cp) l.length (cellsL l) := ⟨h1, .inr ⟨g, cp, cur, rfl, hg, hh, hkc, hcm, hcs, htk⟩⟩
    refine ⟨some ⟨g, 0, none⟩, cp, hv, hkc, .inr ⟨g, rfl, hg, hgl, fun i hi => ?_, fun o ho => ⟨?_, hrow.frozenAt o⟩⟩⟩
    · obtain ⟨e1, e2⟩ := cellsL_at l i hi
      simp only [Nat.zero_add]
      exact ⟨(hrow.cellAt _ (by omega)).trans e1, (hrow.cellAt _ (by omega)).trans e2⟩
    · rw [hrow.cellAt o ho]
      have hlt : o < (cellsL l).length := by rw [cellsL_len]; exact ho
      exact ⟨(cellsL l)[o], List.getElem?_eq_getElem hlt⟩
theorem Row.below {base : Nat} {w w' : World} {v : Value} {l : List (Int × Int)} (h : Row base w v l) (hb : Below w.heap.size w w') : Row base w' v l := by
  obtain ⟨h1, h2 | ⟨g, cp, cur, hv, hg, hh, hr⟩⟩ := h
  · exact ⟨h1, .inl h2⟩
  · refine ⟨h1, .inr ⟨g, cp, cur, hv, hg, ?_, hr⟩⟩
    have hgl : g < w.heap.size := by
      rcases Nat.lt_or_ge g w.heap.size with h' | h'
      · exact h'
      · rw [Array.getElem?_eq_none h'] at hh; cases hh
    rw [hb.block g hgl]
    exact hh
theorem Own.pts {w : World} {base : Nat} {v : Value} {n : Nat} {X Y : Nat → Int} (h : Own w base v n X Y) : ∃ a cap, v = .slice a n cap ∧ n ≤ cap ∧ IsPts w a n X Y := by
  obtain ⟨a, cap, hv, hc, h0 | ⟨b, ha, hb, hl, hp, ht⟩⟩ := h
  · exact ⟨a, cap, hv, hc, .inl h0⟩
  · exact ⟨a, cap, hv, hc, .inr ⟨b, 0, ha, hl, hp⟩⟩
theorem PtsAt.grown {w w' : World} {b off n s : Nat} {X Y : Nat → Int} (h : PtsAt w b off n X Y) (hg : w.grownBy w' (some s)) (hs : b ≠ s) : PtsAt w' b off n X Y := fun i hi =>
  ⟨hg.cell (h i hi).1 (fun e => hs (by injection e)), hg.cell (h i hi).2 (fun e => hs (by injection e))⟩
theorem grown_refl (w : World) (r : Option Nat) : w.grownBy w r := ⟨rfl, rfl, rfl, Nat.le_refl _, fun _ _ _ => rfl⟩
theorem grown_trans {a b c : World} {r : Option Nat} (h : a.grownBy b r) (k : b.grownBy c r) : a.grownBy c r :=
  ⟨k.os.trans h.os, k.tape.trans h.tape, k.output.trans h.output, Nat.le_trans h.size k.size, fun j hj hs => (k.block j (Nat.lt_of_lt_of_le hj h.size) hs).trans (h.block j hj hs)⟩
theorem grown_below {a b : World} {r : Option Nat} (h : Below a.heap.size a b) : a.grownBy b r := ⟨h.os, h.tape, h.output, h.size, fun j hj _ => h.block j hj⟩
theorem grown_set {a b : World} {s : Nat} (h : a.grownBy b (some s)) (o : Nat) (v : Value) : a.grownBy (b.setCell ⟨s, o, none⟩ v) (some s) :=
  grown_trans h ⟨rfl, rfl, rfl, by simp [World.setCell], fun j _ hs => Below.heap_setCell _ _ _ _ (fun e => hs (by simp [e]))⟩
theorem below_grown {B s : Nat} {a b : World} (h : a.grownBy b (some s)) (hB : B ≤ s) (hl : B ≤ a.heap.size) : Below B a b :=
  ⟨h.os, h.tape, h.output, h.size, fun k hk => h.block k (by omega) (fun e => by injection e with e; omega)⟩

set_option maxHeartbeats 1000000 in
theorem eqPts_any (a a' : Option Addr) (n cap cap' : Nat) (X Y : Nat → Int) (w : World) (hp : IsPts w a n X Y) (hq : IsPts w a' n X Y) (hmax : n ≤ 1048576) :
    Calls Tryz.prog 122 #[.slice a n cap, .slice a' n cap'] w fun e w' => e = .returned (.bool true) ∧ Below w.heap.size w w' := by
  have HP : Hid (IsPts w a n X Y) := hp
  have HQ : Hid (IsPts w a' n X Y) := hq
  clear hp hq
  go_enter Tryz.func122, Tryz.ntmps122
  go_wp2
  go_loopw [5] (fun i wr => ∃ k : Nat, k ≤ n ∧ i = .int .i64 k ∧ Below w.heap.size w wr) (fun i _ => n - (intOf i).toNat)
  case atStart => exact ⟨0, by omega, rfl, Below.refl _ _⟩
  case round =>
    obtain ⟨k, hk, rfl, hB⟩ := hrel
    by_cases hlt : k < n
    · rcases HP.out with h0 | ⟨b, off, rfl, hb, hpt⟩
      · omega
      rcases HQ.out with h0 | ⟨d, off', rfl, hd, hqt⟩
      · omega
      have c0 : ∀ W', Below wr.heap.size wr W' → W'.cell? ⟨b, off + k * 2, none⟩ = some (.int .i64 (X k)) := fun W' h =>
        ((hpt.below hB hb).below h (Nat.lt_of_lt_of_le hb hB.size) k hlt).1
      have c1 : ∀ W', Below wr.heap.size wr W' → W'.cell? ⟨b, off + k * 2 + 1, none⟩ = some (.int .i64 (Y k)) := fun W' h =>
        ((hpt.below hB hb).below h (Nat.lt_of_lt_of_le hb hB.size) k hlt).2
      have e0 : ∀ W', Below wr.heap.size wr W' → W'.cell? ⟨d, off' + k * 2, none⟩ = some (.int .i64 (X k)) := fun W' h =>
        ((hqt.below hB hd).below h (Nat.lt_of_lt_of_le hd hB.size) k hlt).1
      have e1 : ∀ W', Below wr.heap.size wr W' → W'.cell? ⟨d, off' + k * 2 + 1, none⟩ = some (.int .i64 (Y k)) := fun W' h =>
        ((hqt.below hB hd).below h (Nat.lt_of_lt_of_le hd hB.size) k hlt).2
      have HB : Hid (Below w.heap.size w wr) := hB
      clear hB hpt hqt
      have hi : (k : Int) < (n : Int) := by omega
      have hi0 : (0 : Int) ≤ (k : Int) := by omega
      go_wp2
      go_region_held3 (fun W' => Below wr.heap.size wr W') ((repeat (first | exact Below.refl _ _ | assumption | refine Below.drew ?_ | refine bl_alloc ?_ _ | refine bl_then ?_ (by assumption) | refine Below.setCell ?_ (by first | omega | (simp; done) | (simp; omega)) _ | refine bl_store ?_ ?_ _ _)))
        (first
          | (go_at_call 145; refine (eqPoint_any _ _ _).mono ?_; rintro e w' ⟨rfl, hb⟩))
      go_wp2
      go_roundw
      case rel => exact ⟨k + 1, by omega, by go_num, bl_then HB.out (by assumption)⟩
      case measure => simp [intOf]; omega
    · go_wp2
      go_ret
      exact ⟨rfl, hB⟩
/-- The marks. -/
def mkX (k i : Nat) : Int := ((k + 2 * i : Nat) : Int)
def mkY (k i : Nat) : Int := ((k + 2 * i + 1 : Nat) : Int)

set_option maxHeartbeats 1000000 in
theorem markPointS_any (b n cap k0 : Nat) (w : World) (hT : There w b (n * 2)) (hb : b < w.heap.size) (hmax : n ≤ 1048576) (hk0 : k0 ≤ 1125899906842624) :
    Calls Tryz.prog 91 #[.slice (some ⟨b, 0, none⟩) n cap, .int .i64 (k0 : Int)] w fun e w' => e = .returned (.int .i64 ((k0 + 2 * n : Nat) : Int)) ∧ w.grownBy w' (some b) ∧ There w' b (n * 2) ∧ PtsAt w' b 0 n (mkX k0) (mkY k0) := by
  have HT0 : Hid (There w b (n * 2)) := hT
  clear hT
  go_enter Tryz.func91, Tryz.ntmps91
  go_wp2_with fail
  go_loopw [1, 5] (fun kk i wr => ∃ j K : Nat, j ≤ n ∧ Hid (K = k0 + 2 * j) ∧ kk = .int .i64 (K : Int) ∧ i = .int .i64 (j : Int) ∧ w.grownBy wr (some b) ∧ There wr b (n * 2) ∧ PtsAt wr b 0 j (mkX k0) (mkY k0)) (fun _ i _ => n - (intOf i).toNat)
  case atStart => exact ⟨0, k0, by omega, rfl, rfl, rfl, grown_refl _ _, HT0.out, fun i hi => by omega⟩
  case round =>
    obtain ⟨j, K, hj, HK, rfl, rfl, hG, hT, hP⟩ := hrel
    by_cases hlt : j < n
    · have hKb : K ≤ 1125899908939776 := by have := HK.out; omega
      have t0 := hT.cell (j * 2) (by omega)
      have t1 := hT.cell (j * 2 + 1) (by omega)
      have f0 := (hT (j * 2) (by omega)).2
      have f1 := (hT (j * 2 + 1) (by omega)).2
      have HT : Hid (There wr b (n * 2)) := hT
      have HG : Hid (w.grownBy wr (some b)) := hG
      have HP : Hid (PtsAt wr b 0 j (mkX k0) (mkY k0)) := hP
      clear hT hG hP
      have hi : (j : Int) < (n : Int) := by omega
      go_wp2
      go_roundw
      case rel =>
        have hx : mkX k0 j = (K : Int) := by have := HK.out; simp [mkX]; omega
        have hy : mkY k0 j = (K : Int) + 1 := by have := HK.out; simp [mkY]; omega
        have hfs := fill_step (X := mkX k0) (Y := mkY k0) HT.out hlt HP.out
        rw [hx, hy] at hfs
        exact ⟨j + 1, K + 2, by omega, by have := HK.out; show _ = _; omega, by go_num, by go_num, grown_set (grown_set HG.out _ _) _ _, (HT.out.set _ _).set _ _, hfs⟩
      case measure => simp [intOf]; omega
    · go_wp2
      go_ret
      have hjn : j = n := by omega
      subst hjn
      exact ⟨ret_int (by have := HK.out; omega), hG, hT, hP⟩
set_option maxHeartbeats 1000000 in
theorem heldPointS_any (b n cap k0 : Nat) (w : World) (hp : PtsAt w b 0 n (mkX k0) (mkY k0)) (hb : b < w.heap.size) (hmax : n ≤ 1048576) (hk0 : k0 ≤ 1125899906842624) :
    Calls Tryz.prog 146 #[.slice (some ⟨b, 0, none⟩) n cap, .int .i64 (k0 : Int)] w fun e w' => e = .returned (.int .i64 ((k0 + 2 * n : Nat) : Int)) ∧ Below w.heap.size w w' := by
  have HP : Hid (PtsAt w b 0 n (mkX k0) (mkY k0)) := hp
  clear hp
  go_enter Tryz.func146, Tryz.ntmps146
  go_wp2_with fail
  go_loopw [1, 5] (fun kk i wr => ∃ j K : Nat, j ≤ n ∧ Hid (K = k0 + 2 * j) ∧ kk = .int .i64 (K : Int) ∧ i = .int .i64 (j : Int) ∧ Below w.heap.size w wr) (fun _ i _ => n - (intOf i).toNat)
  case atStart => exact ⟨0, k0, by omega, rfl, rfl, rfl, Below.refl _ _⟩
  case round =>
    obtain ⟨j, K, hj, HK, rfl, rfl, hB⟩ := hrel
    by_cases hlt : j < n
    · have hKb : K ≤ 1125899908939776 := by have := HK.out; omega
      have hx : mkX k0 j = (K : Int) := by have := HK.out; simp [mkX]; omega
      have hy : mkY k0 j = (K : Int) + 1 := by have := HK.out; simp [mkY]; omega
      obtain ⟨t0, t1⟩ := (HP.out.below hB hb) j hlt
      rw [hx] at t0
      rw [hy] at t1
      simp only [Nat.zero_add] at t0 t1
      have HB : Hid (Below w.heap.size w wr) := hB
      clear hB hx hy
      have hi : (j : Int) < (n : Int) := by omega
      go_wp2
      go_roundw
      case rel => exact ⟨j + 1, K + 2, by omega, by have := HK.out; show _ = _; omega, by go_num, by go_num, HB.out⟩
      case measure => simp [intOf]; omega
    · go_wp2
      go_ret
      have hjn : j = n := by omega
      subst hjn
      exact ⟨ret_int (by have := HK.out; omega), hB⟩
theorem markPointS_none (a : Option Addr) (cap : Nat) (k : Int) (w : World) :
    Calls Tryz.prog 91 #[.slice a 0 cap, .int .i64 k] w fun e w' => e = .returned (.int .i64 k) ∧ w = w' := by
  go_enter Tryz.func91, Tryz.ntmps91
  go_wp2_with fail
  go_loopw [1, 5] (fun kk i wr => kk = .int .i64 k ∧ i = .int .i64 0 ∧ w = wr) (fun _ _ _ => 0)
  case atStart => exact ⟨rfl, rfl, rfl⟩
  case round =>
    obtain ⟨rfl, rfl, rfl⟩ := hrel
    go_wp2
    go_ret
    exact ⟨rfl, rfl⟩
theorem heldPointS_none (a : Option Addr) (cap : Nat) (k : Int) (w : World) :
    Calls Tryz.prog 146 #[.slice a 0 cap, .int .i64 k] w fun e w' => e = .returned (.int .i64 k) ∧ w = w' := by
  go_enter Tryz.func146, Tryz.ntmps146
  go_wp2_with fail
  go_loopw [1, 5] (fun kk i wr => kk = .int .i64 k ∧ i = .int .i64 0 ∧ w = wr) (fun _ _ _ => 0)
  case atStart => exact ⟨rfl, rfl, rfl⟩
  case round =>
    obtain ⟨rfl, rfl, rfl⟩ := hrel
    go_wp2
    go_ret
    exact ⟨rfl, rfl⟩
def ptsOf (X Y : Nat → Int) (l : List Nat) : List (Int × Int) := l.map fun i => (X i, Y i)
theorem heap_of_row {w : World} {base size n : Nat} {e : TypeId} {v : Value} {xs : List Value} (h : w.ownsRow base e size v n xs) : ∀ g, v.ownBlock = some g → ∃ cur, w.heap[g]? = some (.cells cur e (0, 0)) := fun g hg => by
  obtain ⟨_, h2 | ⟨g', cp, cur, rfl, _, hh, _⟩⟩ := h
  · rw [h2.1] at hg; cases hg
  · simp [Value.ownBlock] at hg
    subst hg
    exact ⟨cur, hh⟩
theorem There.belowB' {W W' : World} {r n B : Nat} (h : There W r n) (hb : Below B W W') (hr : r < B) : There W' r n := fun o ho => by
  obtain ⟨u, hu⟩ := (h o ho).1
  exact ⟨⟨u, (hb.cell (p := ⟨r, o, none⟩) hr).trans hu⟩, (hb.frozen (p := ⟨r, o, none⟩) hr).trans (h o ho).2⟩
theorem lt_of_heap {w : World} {k : Nat} {o : Obj} (h : w.heap[k]? = some o) : k < w.heap.size := by
  rcases Nat.lt_or_ge k w.heap.size with h' | h'
  · exact h'
  · rw [Array.getElem?_eq_none h'] at h; cases h
end Go.Proofs.YtbllgpofpokcnaaGreat
/- Answers with a code and a list of points: they are compared, marked, and the marks are found again. -/

namespace Go.Proofs.YtbllgpofpokcnaaGreat
open Go.RowKit
set_option linter.unusedSimpArgs false
set_option linter.unusedVariables false

/-- The block of a list, if it has one. -/
theorem Own.block {w : World} {base : Nat} {v : Value} {n : Nat} {X Y : Nat → Int} (h : Own w base v n X Y) : ∃ a cap, v = .slice a n cap ∧ n ≤ cap ∧ (n = 0 ∨ ∃ b, a = some ⟨b, 0, none⟩ ∧ base ≤ b ∧ b < w.heap.size ∧ PtsAt w b 0 n X Y ∧ There w b (n * 2)) := h
theorem Own.below {w w' : World} {base : Nat} {v : Value} {n : Nat} {X Y : Nat → Int} (h : Own w base v n X Y) (hb : Below w.heap.size w w') : Own w' base v n X Y := by
  obtain ⟨a, cap, hv, hc, h0 | ⟨b, ha, hbb, hl, hp, ht⟩⟩ := h
  · exact ⟨a, cap, hv, hc, .inl h0⟩
  · exact ⟨a, cap, hv, hc, .inr ⟨b, ha, hbb, Nat.lt_of_lt_of_le hl hb.size, hp.below hb hl, ht.below hb⟩⟩

theorem Own.is {w : World} {base : Nat} {a : Option Addr} {n cap : Nat} {X Y : Nat → Int} (h : Own w base (.slice a n cap) n X Y) : IsPts w a n X Y := by
  obtain ⟨a', cap', hv, hc, hi⟩ := h.pts
  injection hv with h1 h2 h3
  subst h1
  exact hi

/-- A list that lies below block T. -/
def Under (T : Nat) (w : World) (a : Option Addr) (n : Nat) (X Y : Nat → Int) : Prop := n = 0 ∨ ∃ b off, a = some ⟨b, off, none⟩ ∧ b < T ∧ PtsAt w b off n X Y
theorem Under.is {T : Nat} {w : World} {a : Option Addr} {n : Nat} {X Y : Nat → Int} (h : Under T w a n X Y) (hT : T ≤ w.heap.size) : IsPts w a n X Y := by
  rcases h with h | ⟨b, off, e, hl, hp⟩
  · exact .inl h
  · exact .inr ⟨b, off, e, by omega, hp⟩
theorem Under.below {T B : Nat} {w w' : World} {a : Option Addr} {n : Nat} {X Y : Nat → Int} (h : Under T w a n X Y) (hb : Below B w w') (hB : T ≤ B) : Under T w' a n X Y := by
  rcases h with h | ⟨b, off, e, hl, hp⟩
  · exact .inl h
  · exact .inr ⟨b, off, e, hl, hp.below hb (by omega)⟩
theorem Under.grown {T s : Nat} {w w' : World} {a : Option Addr} {n : Nat} {X Y : Nat → Int} (h : Under T w a n X Y) (hg : w.grownBy w' (some s)) (hs : T ≤ s) : Under T w' a n X Y := by
  rcases h with h | ⟨b, off, e, hl, hp⟩
  · exact .inl h
  · exact .inr ⟨b, off, e, hl, hp.grown hg (by omega)⟩
theorem bl_cell {w w' : World} {p : Addr} {v : Value} (hb : Below w.heap.size w w') (h : w.cell? p = some v) : w'.cell? p = some v := (hb.cell (World.block_lt_of_cell? _ _ h)).trans h
theorem gr_cell {w w' : World} {b o s : Nat} {v : Value} (hg : w.grownBy w' (some s)) (h : w.cell? ⟨b, o, none⟩ = some v) (hs : b ≠ s) : w'.cell? ⟨b, o, none⟩ = some v := hg.cell h (fun e => hs (by injection e))

theorem ro_cell {w w' : World} {b o : Nat} {row : Option Nat} {v : Value} (hg : w.grownBy w' row) (h : w.cell? ⟨b, o, none⟩ = some v) (hs : ∀ s, row = some s → b ≠ s) : w'.cell? ⟨b, o, none⟩ = some v := hg.cell h (fun e => hs _ e.symm rfl)
theorem Under.row {T : Nat} {row : Option Nat} {w w' : World} {a : Option Addr} {n : Nat} {X Y : Nat → Int} (h : Under T w a n X Y) (hg : w.grownBy w' row) (hs : ∀ s, row = some s → T ≤ s) : Under T w' a n X Y := by
  rcases h with h | ⟨b, off, e, hl, hp⟩
  · exact .inl h
  · exact .inr ⟨b, off, e, hl, fun i hi => ⟨ro_cell hg (hp i hi).1 (fun s e => by have := hs s e; omega), ro_cell hg (hp i hi).2 (fun s e => by have := hs s e; omega)⟩⟩
theorem below_row {B : Nat} {row : Option Nat} {a b : World} (h : a.grownBy b row) (hs : ∀ s, row = some s → B ≤ s) (hl : B ≤ a.heap.size) : Below B a b :=
  ⟨h.os, h.tape, h.output, h.size, fun k hk => h.block k (by omega) (fun e => by have := hs k e.symm; omega)⟩
theorem Own.grown {w w' : World} {base s : Nat} {v : Value} {n : Nat} {X Y : Nat → Int} (h : Own w base v n X Y) (hg : w.grownBy w' (some s)) (hs : s < base ∨ w.heap.size ≤ s) : Own w' base v n X Y := by
  obtain ⟨a, cap, hv, hc, h0 | ⟨b, ha, hbb, hl, hp, ht⟩⟩ := h
  · exact ⟨a, cap, hv, hc, .inl h0⟩
  · refine ⟨a, cap, hv, hc, .inr ⟨b, ha, hbb, Nat.lt_of_lt_of_le hl hg.size, hp.grown hg (by omega), fun o ho => ?_⟩⟩
    obtain ⟨⟨u, hu⟩, hf⟩ := ht o ho
    have hne : some b ≠ some s := fun e => by injection e with e; omega
    exact ⟨⟨u, hg.cell hu hne⟩, (World.frozen?_of_block (a := ⟨b, o, none⟩) (hg.block b hl hne)).trans hf⟩
end Go.Proofs.YtbllgpofpokcnaaGreat
