/- Several texts in one. -/
import Derived.Test.YtjnglencgkhhaaaGreatVCovers3
import Derived.Test.YtjnglencgkhhaaaGreatVCovers4
import Derived.Test.YtjnglencgkhhaaaGreatVCovers1
import Derived.Deep.RegionHeld3
import Derived.Deep.OwnRows
import Derived.Laws.OwnMore

/- toPointS hands back the same points in new memory; eqPointS tells that two lists are the same. -/

namespace Go.Proofs.YtjnglencgkhhaaaGreat
open Go.RowKit
set_option linter.unusedSimpArgs false
set_option linter.unusedVariables false

/-- A list of n points that came in: there is none, or they lie at an address. -/
def IsPts (w : World) (a : Option Addr) (n : Nat) (X Y : Nat → Int) : Prop :=
  n = 0 ∨ ∃ b off, a = some ⟨b, off, none⟩ ∧ b < w.heap.size ∧ PtsAt w b off n X Y
theorem IsPts.below {w w' : World} {a : Option Addr} {n : Nat} {X Y : Nat → Int} (h : IsPts w a n X Y) (hb : Below w.heap.size w w') : IsPts w' a n X Y := by
  rcases h with h | ⟨b, off, e, hl, hp⟩
  · exact .inl h
  · exact .inr ⟨b, off, e, Nat.lt_of_lt_of_le hl hb.size, hp.below hb hl⟩

theorem There.set {W : World} {r n : Nat} (h : There W r n) (o : Nat) (v : Value) : There (W.setCell ⟨r, o, none⟩ v) r n := fun o' ho => by
  obtain ⟨u, hu⟩ := (h o' ho).1
  refine ⟨?_, ?_⟩
  · by_cases e : o = o'
    · subst e
      exact ⟨v, World.cell?_setCell_same _ _ _ (by rw [hu])⟩
    · exact ⟨u, by rw [World.cell?_setCell_other]; exact hu; simp [e]⟩
  · rw [World.frozen?_setCell]; exact (h o' ho).2

theorem fill_step {W : World} {B n k : Nat} {X Y : Nat → Int} (hT : There W B (n * 2)) (hk : k < n) (hp : PtsAt W B 0 k X Y) :
    PtsAt ((W.setCell ⟨B, k * 2, none⟩ (.int .i64 (X k))).setCell ⟨B, k * 2 + 1, none⟩ (.int .i64 (Y k))) B 0 (k + 1) X Y := fun i hi => by
  by_cases e : i = k
  · subst e
    obtain ⟨u, hu⟩ := (hT (i * 2) (by omega)).1
    obtain ⟨v, hv⟩ := ((hT.set (i * 2) (.int .i64 (X i))) (i * 2 + 1) (by omega)).1
    refine ⟨?_, ?_⟩
    · rw [World.cell?_setCell_other]
      · simpa using World.cell?_setCell_same _ _ _ (by rw [hu])
      · simp
    · simpa using World.cell?_setCell_same _ _ _ (by rw [hv])
  · obtain ⟨h1, h2⟩ := hp i (by omega)
    refine ⟨?_, ?_⟩
    · rw [World.cell?_setCell_other, World.cell?_setCell_other]
      · exact h1
      · simp <;> omega
      · simp <;> omega
    · rw [World.cell?_setCell_other, World.cell?_setCell_other]
      · exact h2
      · simp <;> omega
      · simp <;> omega

theorem info_ip : (Tryz.prog.info? 31).map (fun i => (i.zero, i.size, i.bytes)) = some (some (.agg #[.int .i64 0, .int .i64 0]), 2, 16) := by kernel_rfl
theorem make_pts (n : Nat) (h : n ≤ 1048576) (w : World) :
    (Instr.makeSlice 24 (.int .i64 (n : Int)) (.int .i64 (n : Int))).run Tryz.prog w = .ok (.slice (some ⟨w.heap.size, 0, none⟩) n n) (w.alloc (.cells (madeCells #[.int .i64 0, .int .i64 0] (n * 2)) 31)) := by
  obtain ⟨i, hi, hz, hs, hb⟩ := info_parts info_ip
  have hr := run_make (P := Tryz.prog) w 24 31 i _ Tryz.underlying24 hi hz .i64 .i64 (n : Int) (n : Int) (by omega) (Int.le_refl _) (by rw [hb]; omega) (by omega)
  simp only [Int.toNat_natCast, hs] at hr
  exact hr
theorem there_made (n : Nat) (w : World) (t : TypeId) : There (w.alloc (.cells (madeCells #[.int .i64 0, .int .i64 0] n) t)) w.heap.size n := fun o ho => by
  have hz := size_madeCells #[.int .i64 0, .int .i64 0] n
  refine ⟨⟨(madeCells #[.int .i64 0, .int .i64 0] n)[o]'(by rw [hz]; exact ho), ?_⟩, World.frozen?_alloc_at _ _ _ _ rfl⟩
  rw [World.cell?_alloc_at _ _ _ _ rfl]
  exact Array.getElem?_eq_getElem _

end Go.Proofs.YtjnglencgkhhaaaGreat
/- Lists of points in memory of their own: they are compared, marked, and the marks are found again. -/

namespace Go.Proofs.YtjnglencgkhhaaaGreat
open Go.RowKit
set_option linter.unusedSimpArgs false
set_option linter.unusedVariables false

/-- The cells of a list. -/
def cellsL (l : List (Int × Int)) : List Value := l.flatMap fun p => [.int .i64 p.1, .int .i64 p.2]
def px (l : List (Int × Int)) (i : Nat) : Int := (l.getD i (0, 0)).1
def py (l : List (Int × Int)) (i : Nat) : Int := (l.getD i (0, 0)).2
theorem cellsL_nil : cellsL [] = [] := rfl
theorem cellsL_cons (p : Int × Int) (l : List (Int × Int)) : cellsL (p :: l) = .int .i64 p.1 :: .int .i64 p.2 :: cellsL l := by simp [cellsL]
theorem cellsL_add (l : List (Int × Int)) (x y : Int) : cellsL (l ++ [(x, y)]) = cellsL l ++ [.int .i64 x, .int .i64 y] := by simp [cellsL]
theorem cellsL_len : ∀ l : List (Int × Int), (cellsL l).length = l.length * 2
  | [] => rfl
  | p :: l => by rw [cellsL_cons]; simp [cellsL_len l]; omega
theorem cellsL_at : ∀ (l : List (Int × Int)) (i : Nat), i < l.length → (cellsL l)[i * 2]? = some (.int .i64 (px l i)) ∧ (cellsL l)[i * 2 + 1]? = some (.int .i64 (py l i))
  | [], i, h => absurd h (by simp)
  | p :: l, 0, h => by rw [cellsL_cons]; simp [px, py]
  | p :: l, i + 1, h => by
    obtain ⟨h1, h2⟩ := cellsL_at l i (by simpa using h)
    rw [cellsL_cons]
    have e1 : (i + 1) * 2 = i * 2 + 1 + 1 := by omega
    rw [e1]
    simp only [List.getElem?_cons_succ]
    exact ⟨h1, h2⟩

/-- v is a list of n points in a block from base on. -/
def Own (w : World) (base : Nat) (v : Value) (n : Nat) (X Y : Nat → Int) : Prop :=
  ∃ a cap, v = .slice a n cap ∧ n ≤ cap ∧ (n = 0 ∨ ∃ b, a = some ⟨b, 0, none⟩ ∧ base ≤ b ∧ b < w.heap.size ∧ PtsAt w b 0 n X Y ∧ There w b (n * 2))
/-- v is a row of its own with the points of l. -/
def Row (base : Nat) (w : World) (v : Value) (l : List (Int × Int)) : Prop := w.ownsRow base 31 2 v l.length (cellsL l)
theorem Row.own {base : Nat} {w : World} {v : Value} {l : List (Int × Int)} (h : Row base w v l) : Own w base v l.length (px l) (py l) := by
  obtain ⟨h1, h2 | ⟨g, cp, cur, hv, hg, hh, hkc, hcm, hcs, htk⟩⟩ := h
  · obtain ⟨rfl, h0⟩ := h2
    rw [h0]
    exact ⟨none, 0, rfl, Nat.le_refl _, .inl rfl⟩
  · have hgl : g < w.heap.size := by
      rcases Nat.lt_or_ge g w.heap.size with h' | h'
      · exact h'
      · rw [Array.getElem?_eq_none h'] at hh; cases hh
    have hrow : w.ownsRow base 31 2 (.slice (some ⟨g, 0, none⟩) l.length cp) l.length (cellsL l) := ⟨h1, .inr ⟨g, cp, cur, rfl, hg, hh, hkc, hcm, hcs, htk⟩⟩
    refine ⟨some ⟨g, 0, none⟩, cp, hv, hkc, .inr ⟨g, rfl, hg, hgl, fun i hi => ?_, fun o ho => ⟨?_, hrow.frozenAt o⟩⟩⟩
    · obtain ⟨e1, e2⟩ := cellsL_at l i hi
      simp only [Nat.zero_add]
      exact ⟨(hrow.cellAt _ (by omega)).trans e1, (hrow.cellAt _ (by omega)).trans e2⟩
    · rw [hrow.cellAt o ho]
      have hlt : o < (cellsL l).length := by rw [cellsL_len]; exact ho
      exact ⟨(cellsL l)[o], List.getElem?_eq_getElem hlt⟩
theorem Row.below {base : Nat} {w w' : World} {v : Value} {l : List (Int × Int)} (h : Row base w v l) (hb : Below w.heap.size w w') : Row base w' v l := by
  obtain ⟨h1, h2 | ⟨g, cp, cur, hv, hg, hh, hr⟩⟩ := h
  · exact ⟨h1, .inl h2⟩
  · refine ⟨h1, .inr ⟨g, cp, cur, hv, hg, ?_, hr⟩⟩
    have hgl : g < w.heap.size := by
      rcases Nat.lt_or_ge g w.heap.size with h' | h'
      · exact h'
      · rw [Array.getElem?_eq_none h'] at hh; cases hh
    rw [hb.block g hgl]
    exact hh
theorem Own.pts {w : World} {base : Nat} {v : Value} {n : Nat} {X Y : Nat → Int} (h : Own w base v n X Y) : ∃ a cap, v = .slice a n cap ∧ n ≤ cap ∧ IsPts w a n X Y := by
  obtain ⟨a, cap, hv, hc, h0 | ⟨b, ha, hb, hl, hp, ht⟩⟩ := h
  · exact ⟨a, cap, hv, hc, .inl h0⟩
  · exact ⟨a, cap, hv, hc, .inr ⟨b, 0, ha, hl, hp⟩⟩
theorem PtsAt.grown {w w' : World} {b off n s : Nat} {X Y : Nat → Int} (h : PtsAt w b off n X Y) (hg : w.grownBy w' (some s)) (hs : b ≠ s) : PtsAt w' b off n X Y := fun i hi =>
  ⟨hg.cell (h i hi).1 (fun e => hs (by injection e)), hg.cell (h i hi).2 (fun e => hs (by injection e))⟩
theorem grown_refl (w : World) (r : Option Nat) : w.grownBy w r := ⟨rfl, rfl, rfl, Nat.le_refl _, fun _ _ _ => rfl⟩
theorem grown_trans {a b c : World} {r : Option Nat} (h : a.grownBy b r) (k : b.grownBy c r) : a.grownBy c r :=
  ⟨k.os.trans h.os, k.tape.trans h.tape, k.output.trans h.output, Nat.le_trans h.size k.size, fun j hj hs => (k.block j (Nat.lt_of_lt_of_le hj h.size) hs).trans (h.block j hj hs)⟩
theorem grown_below {a b : World} {r : Option Nat} (h : Below a.heap.size a b) : a.grownBy b r := ⟨h.os, h.tape, h.output, h.size, fun j hj _ => h.block j hj⟩
theorem grown_set {a b : World} {s : Nat} (h : a.grownBy b (some s)) (o : Nat) (v : Value) : a.grownBy (b.setCell ⟨s, o, none⟩ v) (some s) :=
  grown_trans h ⟨rfl, rfl, rfl, by simp [World.setCell], fun j _ hs => Below.heap_setCell _ _ _ _ (fun e => hs (by simp [e]))⟩
theorem below_grown {B s : Nat} {a b : World} (h : a.grownBy b (some s)) (hB : B ≤ s) (hl : B ≤ a.heap.size) : Below B a b :=
  ⟨h.os, h.tape, h.output, h.size, fun k hk => h.block k (by omega) (fun e => by injection e with e; omega)⟩

/-- The marks. -/
def mkX (k i : Nat) : Int := ((k + 2 * i : Nat) : Int)
def mkY (k i : Nat) : Int := ((k + 2 * i + 1 : Nat) : Int)

end Go.Proofs.YtjnglencgkhhaaaGreat
/- Answers with a code and a list of points: they are compared, marked, and the marks are found again. -/

namespace Go.Proofs.YtjnglencgkhhaaaGreat
open Go.RowKit
set_option linter.unusedSimpArgs false
set_option linter.unusedVariables false

/-- The block of a list, if it has one. -/
theorem Own.block {w : World} {base : Nat} {v : Value} {n : Nat} {X Y : Nat → Int} (h : Own w base v n X Y) : ∃ a cap, v = .slice a n cap ∧ n ≤ cap ∧ (n = 0 ∨ ∃ b, a = some ⟨b, 0, none⟩ ∧ base ≤ b ∧ b < w.heap.size ∧ PtsAt w b 0 n X Y ∧ There w b (n * 2)) := h
theorem Own.below {w w' : World} {base : Nat} {v : Value} {n : Nat} {X Y : Nat → Int} (h : Own w base v n X Y) (hb : Below w.heap.size w w') : Own w' base v n X Y := by
  obtain ⟨a, cap, hv, hc, h0 | ⟨b, ha, hbb, hl, hp, ht⟩⟩ := h
  · exact ⟨a, cap, hv, hc, .inl h0⟩
  · exact ⟨a, cap, hv, hc, .inr ⟨b, ha, hbb, Nat.lt_of_lt_of_le hl hb.size, hp.below hb hl, ht.below hb⟩⟩

theorem Own.is {w : World} {base : Nat} {a : Option Addr} {n cap : Nat} {X Y : Nat → Int} (h : Own w base (.slice a n cap) n X Y) : IsPts w a n X Y := by
  obtain ⟨a', cap', hv, hc, hi⟩ := h.pts
  injection hv with h1 h2 h3
  subst h1
  exact hi

/-- A list that lies below block T. -/
def Under (T : Nat) (w : World) (a : Option Addr) (n : Nat) (X Y : Nat → Int) : Prop := n = 0 ∨ ∃ b off, a = some ⟨b, off, none⟩ ∧ b < T ∧ PtsAt w b off n X Y
theorem Under.is {T : Nat} {w : World} {a : Option Addr} {n : Nat} {X Y : Nat → Int} (h : Under T w a n X Y) (hT : T ≤ w.heap.size) : IsPts w a n X Y := by
  rcases h with h | ⟨b, off, e, hl, hp⟩
  · exact .inl h
  · exact .inr ⟨b, off, e, by omega, hp⟩
theorem Under.below {T B : Nat} {w w' : World} {a : Option Addr} {n : Nat} {X Y : Nat → Int} (h : Under T w a n X Y) (hb : Below B w w') (hB : T ≤ B) : Under T w' a n X Y := by
  rcases h with h | ⟨b, off, e, hl, hp⟩
  · exact .inl h
  · exact .inr ⟨b, off, e, hl, hp.below hb (by omega)⟩
theorem Under.grown {T s : Nat} {w w' : World} {a : Option Addr} {n : Nat} {X Y : Nat → Int} (h : Under T w a n X Y) (hg : w.grownBy w' (some s)) (hs : T ≤ s) : Under T w' a n X Y := by
  rcases h with h | ⟨b, off, e, hl, hp⟩
  · exact .inl h
  · exact .inr ⟨b, off, e, hl, hp.grown hg (by omega)⟩
theorem bl_cell {w w' : World} {p : Addr} {v : Value} (hb : Below w.heap.size w w') (h : w.cell? p = some v) : w'.cell? p = some v := (hb.cell (World.block_lt_of_cell? _ _ h)).trans h
theorem gr_cell {w w' : World} {b o s : Nat} {v : Value} (hg : w.grownBy w' (some s)) (h : w.cell? ⟨b, o, none⟩ = some v) (hs : b ≠ s) : w'.cell? ⟨b, o, none⟩ = some v := hg.cell h (fun e => hs (by injection e))

theorem ro_cell {w w' : World} {b o : Nat} {row : Option Nat} {v : Value} (hg : w.grownBy w' row) (h : w.cell? ⟨b, o, none⟩ = some v) (hs : ∀ s, row = some s → b ≠ s) : w'.cell? ⟨b, o, none⟩ = some v := hg.cell h (fun e => hs _ e.symm rfl)
theorem Under.row {T : Nat} {row : Option Nat} {w w' : World} {a : Option Addr} {n : Nat} {X Y : Nat → Int} (h : Under T w a n X Y) (hg : w.grownBy w' row) (hs : ∀ s, row = some s → T ≤ s) : Under T w' a n X Y := by
  rcases h with h | ⟨b, off, e, hl, hp⟩
  · exact .inl h
  · exact .inr ⟨b, off, e, hl, fun i hi => ⟨ro_cell hg (hp i hi).1 (fun s e => by have := hs s e; omega), ro_cell hg (hp i hi).2 (fun s e => by have := hs s e; omega)⟩⟩
theorem below_row {B : Nat} {row : Option Nat} {a b : World} (h : a.grownBy b row) (hs : ∀ s, row = some s → B ≤ s) (hl : B ≤ a.heap.size) : Below B a b :=
  ⟨h.os, h.tape, h.output, h.size, fun k hk => h.block k (by omega) (fun e => by have := hs k e.symm; omega)⟩
theorem Own.grown {w w' : World} {base s : Nat} {v : Value} {n : Nat} {X Y : Nat → Int} (h : Own w base v n X Y) (hg : w.grownBy w' (some s)) (hs : s < base ∨ w.heap.size ≤ s) : Own w' base v n X Y := by
  obtain ⟨a, cap, hv, hc, h0 | ⟨b, ha, hbb, hl, hp, ht⟩⟩ := h
  · exact ⟨a, cap, hv, hc, .inl h0⟩
  · refine ⟨a, cap, hv, hc, .inr ⟨b, ha, hbb, Nat.lt_of_lt_of_le hl hg.size, hp.grown hg (by omega), fun o ho => ?_⟩⟩
    obtain ⟨⟨u, hu⟩, hf⟩ := ht o ho
    have hne : some b ≠ some s := fun e => by injection e with e; omega
    exact ⟨⟨u, hg.cell hu hne⟩, (World.frozen?_of_block (a := ⟨b, o, none⟩) (hg.block b hl hne)).trans hf⟩
end Go.Proofs.YtjnglencgkhhaaaGreat
