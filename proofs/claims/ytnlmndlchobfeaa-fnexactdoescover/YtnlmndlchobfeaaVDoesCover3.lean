/- Several texts in one. -/
import Derived.Test.YtnlmndlchobfeaaVDoesCover1
import Derived.Test.YtnlmndlchobfeaaVDoesCover2
import Derived.ChangeMaps5
import Derived.Laws.OwnMore

/- How a list of points that came in is read. -/

namespace Go.Proofs.Ytnlmndlchobfeaa
open Go.ChangeShapes Go.WideShapes Go.ChangeAt Go.RowKit Go.Deep
set_option linter.unusedVariables false
set_option maxRecDepth 100000

theorem open_pts {H : Type} {enc : TypeId × Value → H} {w : World} {base b0 : Nat} {held : Bool} {r : Reach} {v : Value} {d : DataW H} {p : List MemPlace}
    (hv : Value.okWide Try.prog w r b0 22 v) (h : DataW.Trod enc Try.prog w base (fun _ => true) held 22 v d p) :
    ∃ (a : Option Addr) (n cap : Nat) (X Y : Nat → Int), v = .slice a n cap ∧ IsPts w a n X Y ∧ n ≤ cap ∧ cap ≤ maxLen := by
  obtain ⟨a, len, cap, rfl⟩ := okWide_slice Try.underlying22 hv
  obtain ⟨fuel, hf⟩ := h
  rcases open_slice_pairs Try.underlying22 Try.underlying60 cells_lp rfl rfl cells_i64 cells_i64 hf with ⟨hcs, _⟩ | ⟨x, l, c, m, n, V0, V1, D0, D1, P0, P1, hcs, _, hl, hc, hm, _, hx⟩
  · simp [Value.cells] at hcs
    obtain ⟨rfl, rfl, rfl⟩ := hcs
    exact ⟨none, 0, 0, fun _ => 0, fun _ => 0, rfl, .inl rfl, Nat.le_refl _, Nat.zero_le _⟩
  · simp [Value.cells] at hcs
    obtain ⟨rfl, rfl, rfl⟩ := hcs
    simp at hm
    subst hm
    refine ⟨some x, len, _, fun i => intOf (V0 i), fun i => intOf (V1 i), rfl, ?_, hl, hc⟩
    by_cases h0 : len = 0
    · exact .inl h0
    · right
      obtain ⟨b, off, spot⟩ := x
      obtain ⟨e0, _, _, _⟩ := hx 0 (by omega)
      have hspot : spot = none := by simpa [Addr.add] using World.cell?_spot e0
      subst hspot
      refine ⟨b, off, rfl, ?_, fun i hi => ?_⟩
      · have := World.block_lt_of_cell? _ _ e0
        simpa [Addr.add] using this
      · obtain ⟨e0, e1, g0, g1⟩ := hx i (by omega)
        obtain ⟨n0, q0, _, _⟩ := DataW.trod_int Try.underlying2 g0
        obtain ⟨n1, q1, _, _⟩ := DataW.trod_int Try.underlying2 g1
        simp at q0 q1
        rw [q0] at e0
        rw [q1] at e1
        simp only [q0, q1, intOf]
        rw [add_plain] at e0 e1
        exact ⟨e0, by rw [Nat.add_assoc]; exact e1⟩
end Go.Proofs.Ytnlmndlchobfeaa
/- How a feature that came in is read. -/

namespace Go.Proofs.Ytnlmndlchobfeaa
open Go.ChangeShapes Go.WideShapes Go.ChangeAt Go.RowKit Go.Deep
set_option linter.unusedVariables false
set_option maxRecDepth 100000

theorem trod_pts {H : Type} {enc : TypeId × Value → H} {w : World} {base fuel : Nat} {held : Bool} {cs : List Value} {y : DataW H × List MemPlace}
    (hf : DataW.trod enc Try.prog w base (fun _ => true) held fuel 22 cs = some y) :
    ∃ (a : Option Addr) (n cap : Nat) (X Y : Nat → Int), cs = [.slice a n cap] ∧ IsPts w a n X Y ∧ n ≤ cap ∧ cap ≤ maxLen := by
  rcases open_slice_pairs Try.underlying22 Try.underlying60 cells_lp rfl rfl cells_i64 cells_i64 hf with ⟨hcs, _⟩ | ⟨x, l, c, m, n, V0, V1, D0, D1, P0, P1, hcs, _, hl, hc, hm, _, hx⟩
  · exact ⟨none, 0, 0, fun _ => 0, fun _ => 0, hcs, .inl rfl, Nat.le_refl _, Nat.zero_le _⟩
  · simp at hm
    subst hm
    refine ⟨some x, l, _, fun i => intOf (V0 i), fun i => intOf (V1 i), hcs, ?_, hl, hc⟩
    by_cases h0 : l = 0
    · exact .inl h0
    · right
      obtain ⟨b, off, spot⟩ := x
      obtain ⟨e0, _, _, _⟩ := hx 0 (by omega)
      have hspot : spot = none := by simpa [Addr.add] using World.cell?_spot e0
      subst hspot
      refine ⟨b, off, rfl, ?_, fun i hi => ?_⟩
      · have := World.block_lt_of_cell? _ _ e0
        simpa [Addr.add] using this
      · obtain ⟨e0, e1, g0, g1⟩ := hx i (by omega)
        obtain ⟨n0, q0, _, _⟩ := DataW.trod_int Try.underlying2 g0
        obtain ⟨n1, q1, _, _⟩ := DataW.trod_int Try.underlying2 g1
        simp at q0 q1
        rw [q0] at e0
        rw [q1] at e1
        simp only [q0, q1, intOf]
        rw [add_plain] at e0 e1
        exact ⟨e0, by rw [Nat.add_assoc]; exact e1⟩
theorem cells_lf : Try.prog.cellsOf 24 = 7 := by kernel_rfl
theorem cells_ls : Try.prog.cellsOf 22 = 1 := by kernel_rfl
theorem cells_st : Try.prog.cellsOf 9 = 1 := by kernel_rfl

/-- Seven cells that read as a feature. -/
theorem trod_feat {H : Type} {enc : TypeId × Value → H} {w : World} {base fuel : Nat} {held : Bool} {cs : List Value} {y : DataW H × List MemPlace}
    (h : DataW.trod enc Try.prog w base (fun _ => true) held fuel 24 cs = some y) :
    ∃ (id la ki wi : Int) (a : Option Addr) (n cap : Nat) (X Y : Nat → Int) (lab : ByteArray) (pr : Int), cs = [.int .i64 id, .int .i64 la, .int .i64 ki, .int .i64 wi, .slice a n cap, .string lab, .int .i64 pr] ∧ IsPts w a n X Y ∧ n ≤ cap ∧ cap ≤ maxLen ∧ lab.size ≤ maxLen := by
  obtain ⟨xs, m, rfl, hx, hl, hxl, hf⟩ := DataW.trod_struct Try.underlying24 h
  rw [cells_lf] at hl
  have hxl7 : xs.length = 7 := hxl
  match cs, hl with
  | [v0, v1, v2, v3, v4, v5, v6], _ =>
    match xs, hxl7 with
    | [x0, x1, x2, x3, x4, x5, x6], _ =>
      have h0 := hf 0 _ rfl
      have h1 := hf 1 _ rfl
      have h2 := hf 2 _ rfl
      have h3 := hf 3 _ rfl
      have h4 := hf 4 _ rfl
      have h5 := hf 5 _ rfl
      have h6 := hf 6 _ rfl
      simp [cells_i64, cells_ls, cells_st] at h0 h1 h2 h3 h4 h5 h6
      obtain ⟨id, e0, _, _⟩ := DataW.trod_int Try.underlying2 h0
      obtain ⟨la, e1, _, _⟩ := DataW.trod_int Try.underlying2 h1
      obtain ⟨ki, e2, _, _⟩ := DataW.trod_int Try.underlying2 h2
      obtain ⟨wi, e3, _, _⟩ := DataW.trod_int Try.underlying2 h3
      obtain ⟨a, n, cap, X, Y, e4, hp, hn, hc⟩ := trod_pts h4
      obtain ⟨lab, e5, _, hs⟩ := DataW.trod_string Try.underlying9 h5
      obtain ⟨pr, e6, _, _⟩ := DataW.trod_int Try.underlying2 h6
      simp at e0 e1 e2 e3 e4 e5 e6
      subst e0 e1 e2 e3 e4 e5 e6
      exact ⟨id, la, ki, wi, a, n, cap, X, Y, lab, pr, rfl, hp, hn, hc, hs⟩

theorem open_feat {H : Type} {enc : TypeId × Value → H} {w : World} {base b0 : Nat} {held : Bool} {r : Reach} {v : Value} {d : DataW H} {p : List MemPlace}
    (hv : Value.okWide Try.prog w r b0 24 v) (h : DataW.Trod enc Try.prog w base (fun _ => true) held 24 v d p) :
    ∃ (id la ki wi : Int) (a : Option Addr) (n cap : Nat) (X Y : Nat → Int) (lab : ByteArray) (pr : Int), v = .agg #[.int .i64 id, .int .i64 la, .int .i64 ki, .int .i64 wi, .slice a n cap, .string lab, .int .i64 pr] ∧ (IsPts w a n X Y ∧ n ≤ cap ∧ cap ≤ maxLen ∧ lab.size ≤ maxLen) := by
  obtain ⟨cs, rfl, hsz⟩ := okWide_struct Try.underlying24 hv
  obtain ⟨m, h⟩ := h
  obtain ⟨id, la, ki, wi, a, n, cap, X, Y, lab, pr, e, hp⟩ := trod_feat h
  refine ⟨id, la, ki, wi, a, n, cap, X, Y, lab, pr, ?_, hp⟩
  have : cs = #[.int .i64 id, .int .i64 la, .int .i64 ki, .int .i64 wi, .slice a n cap, .string lab, .int .i64 pr] := by
    apply Array.toList_inj.1
    simpa [Value.cells] using e
  rw [this]
end Go.Proofs.Ytnlmndlchobfeaa
/- Lists of points in memory of their own: they are compared, marked, and the marks are found again. -/

namespace Go.Proofs.Ytnlmndlchobfeaa
open Go.RowKit
set_option linter.unusedSimpArgs false
set_option linter.unusedVariables false

/-- The cells of a list. -/
def cellsL (l : List (Int × Int)) : List Value := l.flatMap fun p => [.int .i64 p.1, .int .i64 p.2]
def px (l : List (Int × Int)) (i : Nat) : Int := (l.getD i (0, 0)).1
def py (l : List (Int × Int)) (i : Nat) : Int := (l.getD i (0, 0)).2
theorem cellsL_nil : cellsL [] = [] := rfl
theorem cellsL_cons (p : Int × Int) (l : List (Int × Int)) : cellsL (p :: l) = .int .i64 p.1 :: .int .i64 p.2 :: cellsL l := by simp [cellsL]
theorem cellsL_add (l : List (Int × Int)) (x y : Int) : cellsL (l ++ [(x, y)]) = cellsL l ++ [.int .i64 x, .int .i64 y] := by simp [cellsL]
theorem cellsL_len : ∀ l : List (Int × Int), (cellsL l).length = l.length * 2
  | [] => rfl
  | p :: l => by rw [cellsL_cons]; simp [cellsL_len l]; omega
theorem cellsL_at : ∀ (l : List (Int × Int)) (i : Nat), i < l.length → (cellsL l)[i * 2]? = some (.int .i64 (px l i)) ∧ (cellsL l)[i * 2 + 1]? = some (.int .i64 (py l i))
  | [], i, h => absurd h (by simp)
  | p :: l, 0, h => by rw [cellsL_cons]; simp [px, py]
  | p :: l, i + 1, h => by
    obtain ⟨h1, h2⟩ := cellsL_at l i (by simpa using h)
    rw [cellsL_cons]
    have e1 : (i + 1) * 2 = i * 2 + 1 + 1 := by omega
    rw [e1]
    simp only [List.getElem?_cons_succ]
    exact ⟨h1, h2⟩

/-- v is a list of n points in a block from base on. -/
def Own (w : World) (base : Nat) (v : Value) (n : Nat) (X Y : Nat → Int) : Prop :=
  ∃ a cap, v = .slice a n cap ∧ n ≤ cap ∧ (n = 0 ∨ ∃ b, a = some ⟨b, 0, none⟩ ∧ base ≤ b ∧ b < w.heap.size ∧ PtsAt w b 0 n X Y ∧ There w b (n * 2))
/-- v is a row of its own with the points of l. -/
def Row (base : Nat) (w : World) (v : Value) (l : List (Int × Int)) : Prop := w.ownsRow base 44 2 v l.length (cellsL l)
theorem Row.own {base : Nat} {w : World} {v : Value} {l : List (Int × Int)} (h : Row base w v l) : Own w base v l.length (px l) (py l) := by
  obtain ⟨h1, h2 | ⟨g, cp, cur, hv, hg, hh, hkc, hcm, hcs, htk⟩⟩ := h
  · obtain ⟨rfl, h0⟩ := h2
    rw [h0]
    exact ⟨none, 0, rfl, Nat.le_refl _, .inl rfl⟩
  · have hgl : g < w.heap.size := by
      rcases Nat.lt_or_ge g w.heap.size with h' | h'
      · exact h'
      · rw [Array.getElem?_eq_none h'] at hh; cases hh
    have hrow : w.ownsRow base 44 2 (.slice (some ⟨g, 0, none⟩) l.length cp) l.length (cellsL l) := ⟨h1, .inr ⟨g, cp, cur, rfl, hg, hh, hkc, hcm, hcs, htk⟩⟩
    refine ⟨some ⟨g, 0, none⟩, cp, hv, hkc, .inr ⟨g, rfl, hg, hgl, fun i hi => ?_, fun o ho => ⟨?_, hrow.frozenAt o⟩⟩⟩
    · obtain ⟨e1, e2⟩ := cellsL_at l i hi
      simp only [Nat.zero_add]
      exact ⟨(hrow.cellAt _ (by omega)).trans e1, (hrow.cellAt _ (by omega)).trans e2⟩
    · rw [hrow.cellAt o ho]
      have hlt : o < (cellsL l).length := by rw [cellsL_len]; exact ho
      exact ⟨(cellsL l)[o], List.getElem?_eq_getElem hlt⟩
theorem Row.below {base : Nat} {w w' : World} {v : Value} {l : List (Int × Int)} (h : Row base w v l) (hb : Below w.heap.size w w') : Row base w' v l := by
  obtain ⟨h1, h2 | ⟨g, cp, cur, hv, hg, hh, hr⟩⟩ := h
  · exact ⟨h1, .inl h2⟩
  · refine ⟨h1, .inr ⟨g, cp, cur, hv, hg, ?_, hr⟩⟩
    have hgl : g < w.heap.size := by
      rcases Nat.lt_or_ge g w.heap.size with h' | h'
      · exact h'
      · rw [Array.getElem?_eq_none h'] at hh; cases hh
    rw [hb.block g hgl]
    exact hh
theorem Own.pts {w : World} {base : Nat} {v : Value} {n : Nat} {X Y : Nat → Int} (h : Own w base v n X Y) : ∃ a cap, v = .slice a n cap ∧ n ≤ cap ∧ IsPts w a n X Y := by
  obtain ⟨a, cap, hv, hc, h0 | ⟨b, ha, hb, hl, hp, ht⟩⟩ := h
  · exact ⟨a, cap, hv, hc, .inl h0⟩
  · exact ⟨a, cap, hv, hc, .inr ⟨b, 0, ha, hl, hp⟩⟩
theorem PtsAt.grown {w w' : World} {b off n s : Nat} {X Y : Nat → Int} (h : PtsAt w b off n X Y) (hg : w.grownBy w' (some s)) (hs : b ≠ s) : PtsAt w' b off n X Y := fun i hi =>
  ⟨hg.cell (h i hi).1 (fun e => hs (by injection e)), hg.cell (h i hi).2 (fun e => hs (by injection e))⟩
theorem grown_refl (w : World) (r : Option Nat) : w.grownBy w r := ⟨rfl, rfl, rfl, Nat.le_refl _, fun _ _ _ => rfl⟩
theorem grown_trans {a b c : World} {r : Option Nat} (h : a.grownBy b r) (k : b.grownBy c r) : a.grownBy c r :=
  ⟨k.os.trans h.os, k.tape.trans h.tape, k.output.trans h.output, Nat.le_trans h.size k.size, fun j hj hs => (k.block j (Nat.lt_of_lt_of_le hj h.size) hs).trans (h.block j hj hs)⟩
theorem grown_below {a b : World} {r : Option Nat} (h : Below a.heap.size a b) : a.grownBy b r := ⟨h.os, h.tape, h.output, h.size, fun j hj _ => h.block j hj⟩
theorem grown_set {a b : World} {s : Nat} (h : a.grownBy b (some s)) (o : Nat) (v : Value) : a.grownBy (b.setCell ⟨s, o, none⟩ v) (some s) :=
  grown_trans h ⟨rfl, rfl, rfl, by simp [World.setCell], fun j _ hs => Below.heap_setCell _ _ _ _ (fun e => hs (by simp [e]))⟩
theorem below_grown {B s : Nat} {a b : World} (h : a.grownBy b (some s)) (hB : B ≤ s) (hl : B ≤ a.heap.size) : Below B a b :=
  ⟨h.os, h.tape, h.output, h.size, fun k hk => h.block k (by omega) (fun e => by injection e with e; omega)⟩

set_option maxHeartbeats 1000000 in
theorem eqPts_any (a a' : Option Addr) (n cap cap' : Nat) (X Y : Nat → Int) (w : World) (hp : IsPts w a n X Y) (hq : IsPts w a' n X Y) (hmax : n ≤ 1048576) :
    Calls Try.prog 19 #[.slice a n cap, .slice a' n cap'] w fun e w' => e = .returned (.bool true) ∧ Below w.heap.size w w' := by
  have HP : Hid (IsPts w a n X Y) := hp
  have HQ : Hid (IsPts w a' n X Y) := hq
  clear hp hq
  go_enter Try.func19, Try.ntmps19
  go_wp2
  go_loopw [5] (fun i wr => ∃ k : Nat, k ≤ n ∧ i = .int .i64 k ∧ Below w.heap.size w wr) (fun i _ => n - (intOf i).toNat)
  case atStart => exact ⟨0, by omega, rfl, Below.refl _ _⟩
  case round =>
    obtain ⟨k, hk, rfl, hB⟩ := hrel
    by_cases hlt : k < n
    · rcases HP.out with h0 | ⟨b, off, rfl, hb, hpt⟩
      · omega
      rcases HQ.out with h0 | ⟨d, off', rfl, hd, hqt⟩
      · omega
      have c0 : ∀ W', Below wr.heap.size wr W' → W'.cell? ⟨b, off + k * 2, none⟩ = some (.int .i64 (X k)) := fun W' h =>
        ((hpt.below hB hb).below h (Nat.lt_of_lt_of_le hb hB.size) k hlt).1
      have c1 : ∀ W', Below wr.heap.size wr W' → W'.cell? ⟨b, off + k * 2 + 1, none⟩ = some (.int .i64 (Y k)) := fun W' h =>
        ((hpt.below hB hb).below h (Nat.lt_of_lt_of_le hb hB.size) k hlt).2
      have e0 : ∀ W', Below wr.heap.size wr W' → W'.cell? ⟨d, off' + k * 2, none⟩ = some (.int .i64 (X k)) := fun W' h =>
        ((hqt.below hB hd).below h (Nat.lt_of_lt_of_le hd hB.size) k hlt).1
      have e1 : ∀ W', Below wr.heap.size wr W' → W'.cell? ⟨d, off' + k * 2 + 1, none⟩ = some (.int .i64 (Y k)) := fun W' h =>
        ((hqt.below hB hd).below h (Nat.lt_of_lt_of_le hd hB.size) k hlt).2
      have HB : Hid (Below w.heap.size w wr) := hB
      clear hB hpt hqt
      have hi : (k : Int) < (n : Int) := by omega
      have hi0 : (0 : Int) ≤ (k : Int) := by omega
      go_wp2
      go_region_held3 (fun W' => Below wr.heap.size wr W') ((repeat (first | exact Below.refl _ _ | assumption | refine Below.drew ?_ | refine bl_alloc ?_ _ | refine bl_then ?_ (by assumption) | refine Below.setCell ?_ (by first | omega | (simp; done) | (simp; omega)) _ | refine bl_store ?_ ?_ _ _)))
        (first
          | (go_at_call 42; refine (eqPoint_any _ _ _).mono ?_; rintro e w' ⟨rfl, hb⟩))
      go_wp2
      go_roundw
      case rel => exact ⟨k + 1, by omega, by go_num, bl_then HB.out (by assumption)⟩
      case measure => simp [intOf]; omega
    · go_wp2
      go_ret
      exact ⟨rfl, hB⟩
/-- The marks. -/
def mkX (k i : Nat) : Int := ((k + 2 * i : Nat) : Int)
def mkY (k i : Nat) : Int := ((k + 2 * i + 1 : Nat) : Int)

def ptsOf (X Y : Nat → Int) (l : List Nat) : List (Int × Int) := l.map fun i => (X i, Y i)
theorem heap_of_row {w : World} {base size n : Nat} {e : TypeId} {v : Value} {xs : List Value} (h : w.ownsRow base e size v n xs) : ∀ g, v.ownBlock = some g → ∃ cur, w.heap[g]? = some (.cells cur e (0, 0)) := fun g hg => by
  obtain ⟨_, h2 | ⟨g', cp, cur, rfl, _, hh, _⟩⟩ := h
  · rw [h2.1] at hg; cases hg
  · simp [Value.ownBlock] at hg
    subst hg
    exact ⟨cur, hh⟩
theorem There.belowB' {W W' : World} {r n B : Nat} (h : There W r n) (hb : Below B W W') (hr : r < B) : There W' r n := fun o ho => by
  obtain ⟨u, hu⟩ := (h o ho).1
  exact ⟨⟨u, (hb.cell (p := ⟨r, o, none⟩) hr).trans hu⟩, (hb.frozen (p := ⟨r, o, none⟩) hr).trans (h o ho).2⟩
theorem lt_of_heap {w : World} {k : Nat} {o : Obj} (h : w.heap[k]? = some o) : k < w.heap.size := by
  rcases Nat.lt_or_ge k w.heap.size with h' | h'
  · exact h'
  · rw [Array.getElem?_eq_none h'] at h; cases h
end Go.Proofs.Ytnlmndlchobfeaa
