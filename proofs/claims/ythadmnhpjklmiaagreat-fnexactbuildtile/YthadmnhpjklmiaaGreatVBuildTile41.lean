/- Several texts in one. -/
import Derived.Test.YthadmnhpjklmiaaGreatVBuildTile40
import Derived.Test.YthadmnhpjklmiaaGreatVBuildTile30

/- Answers with a code and bytes in memory of their own: they are compared, marked, and the marks are found again. -/

namespace Go.Proofs.YthadmnhpjklmiaaGreat
open Go.RowKit
set_option linter.unusedSimpArgs false
set_option linter.unusedVariables false
set_option maxRecDepth 100000

/-- v is a list of n bytes in a block from base on. -/
def OwnB (w : World) (base : Nat) (v : Value) (n : Nat) (Z : Nat → Int) : Prop :=
  ∃ a cap, v = .slice a n cap ∧ n ≤ cap ∧ (n = 0 ∨ ∃ b, a = some ⟨b, 0, none⟩ ∧ base ≤ b ∧ b < w.heap.size ∧ BsAt w b 0 n Z ∧ There w b n)
/-- The cells of bytes. -/
def cellsB (l : List Int) : List Value := l.map (.int .u8 ·)
def zz (l : List Int) (i : Nat) : Int := l.getD i 0
/-- v is a row of its own with the bytes l. -/
def RowB (base : Nat) (w : World) (v : Value) (l : List Int) : Prop := w.ownsRow base 5 1 v l.length (cellsB l)
theorem cellsB_len (l : List Int) : (cellsB l).length = l.length := by simp [cellsB]
theorem cellsB_add (l m : List Int) : cellsB (l ++ m) = cellsB l ++ cellsB m := by simp [cellsB]
theorem cellsB_at (l : List Int) (i : Nat) (h : i < l.length) : (cellsB l)[i]? = some (.int .u8 (zz l i)) := by simp [cellsB, zz, h]
theorem RowB.own {base : Nat} {w : World} {v : Value} {l : List Int} (h : RowB base w v l) : OwnB w base v l.length (zz l) := by
  obtain ⟨h1, h2 | ⟨g, cp, cur, hv, hg, hh, hkc, hcm, hcs, htk⟩⟩ := h
  · obtain ⟨rfl, h0⟩ := h2
    rw [h0]
    exact ⟨none, 0, rfl, Nat.le_refl _, .inl rfl⟩
  · have hgl : g < w.heap.size := by
      rcases Nat.lt_or_ge g w.heap.size with h' | h'
      · exact h'
      · rw [Array.getElem?_eq_none h'] at hh; cases hh
    have hrow : w.ownsRow base 5 1 (.slice (some ⟨g, 0, none⟩) l.length cp) l.length (cellsB l) := ⟨h1, .inr ⟨g, cp, cur, rfl, hg, hh, hkc, hcm, hcs, htk⟩⟩
    refine ⟨some ⟨g, 0, none⟩, cp, hv, hkc, .inr ⟨g, rfl, hg, hgl, fun i hi => ?_, fun o ho => ⟨?_, hrow.frozenAt o⟩⟩⟩
    · simp only [Nat.zero_add]
      exact (hrow.cellAt _ (by omega)).trans (cellsB_at l i hi)
    · rw [hrow.cellAt o (by omega)]
      exact ⟨_, cellsB_at l o ho⟩
theorem RowB.below {base : Nat} {w w' : World} {v : Value} {l : List Int} (h : RowB base w v l) (hb : Below w.heap.size w w') : RowB base w' v l := by
  obtain ⟨h1, h2 | ⟨g, cp, cur, hv, hg, hh, hr⟩⟩ := h
  · exact ⟨h1, .inl h2⟩
  · refine ⟨h1, .inr ⟨g, cp, cur, hv, hg, ?_, hr⟩⟩
    have hgl : g < w.heap.size := by
      rcases Nat.lt_or_ge g w.heap.size with h' | h'
      · exact h'
      · rw [Array.getElem?_eq_none h'] at hh; cases hh
    rw [hb.block g hgl]
    exact hh
theorem RowB.other {base r o : Nat} {w : World} {v u : Value} {l : List Int} (h : RowB base w v l) (hr : r < base) : RowB base (w.setCell ⟨r, o, none⟩ u) v l := by
  obtain ⟨h1, h2 | ⟨g, cp, cur, hv, hg, hh, hr'⟩⟩ := h
  · exact ⟨h1, .inl h2⟩
  · exact ⟨h1, .inr ⟨g, cp, cur, hv, hg, by rw [Below.heap_setCell _ _ _ _ (by simp; omega)]; exact hh, hr'⟩⟩
theorem RowB.wide {base B : Nat} {w : World} {v : Value} {l : List Int} (h : RowB base w v l) (hB : B ≤ base) : RowB B w v l := by
  obtain ⟨h1, h2 | ⟨g, cp, cur, hv, hg, hr⟩⟩ := h
  · exact ⟨h1, .inl h2⟩
  · exact ⟨h1, .inr ⟨g, cp, cur, hv, by omega, hr⟩⟩
theorem RowB.no (base : Nat) (w : World) : RowB base w (.slice none 0 0) [] := World.ownsRow_nil _ _ _ _
/-- A row that is not empty. -/
theorem RowB.at {base : Nat} {w : World} {v : Value} {l : List Int} (h : RowB base w v l) (hne : 0 < l.length) :
    ∃ g cap, v = .slice (some ⟨g, 0, none⟩) l.length cap ∧ base ≤ g ∧ g < w.heap.size ∧ l.length ≤ cap ∧ BsAt w g 0 l.length (zz l) := by
  obtain ⟨a, cap, hv, hc, h0 | ⟨b, rfl, hb, hl, hp, ht⟩⟩ := h.own
  · omega
  · exact ⟨b, cap, hv, hb, hl, hc, hp⟩
theorem BsAt.news {w : World} {b off : Nat} {l : List Int} (h : BsAt w b off l.length (zz l)) : ∀ j u, (cellsB l)[j]? = some u → w.cell? ((⟨b, off, none⟩ : Addr).add j) = some u := fun j u hj => by
  have hl : j < l.length := by
    rcases Nat.lt_or_ge j l.length with h' | h'
    · exact h'
    · rw [List.getElem?_eq_none (by rw [cellsB_len]; exact h')] at hj; cases hj
  rw [cellsB_at l j hl] at hj
  injection hj with hj
  subst hj
  have e : (⟨b, off, none⟩ : Addr).add j = ⟨b, off + j, none⟩ := by
    unfold Addr.add
    by_cases h : j = 0 <;> simp [h]
  rw [e]
  exact h j hl
theorem cellsB_one (l : List Int) : ∀ u ∈ cellsB l, u.oneCell' = true := fun u hu => by
  simp [cellsB] at hu
  obtain ⟨z, _, rfl⟩ := hu
  rfl

theorem OwnB.below {w w' : World} {base : Nat} {v : Value} {n : Nat} {Z : Nat → Int} (h : OwnB w base v n Z) (hb : Below w.heap.size w w') : OwnB w' base v n Z := by
  obtain ⟨a, cap, hv, hc, h0 | ⟨b, ha, hbb, hl, hp, ht⟩⟩ := h
  · exact ⟨a, cap, hv, hc, .inl h0⟩
  · exact ⟨a, cap, hv, hc, .inr ⟨b, ha, hbb, Nat.lt_of_lt_of_le hl hb.size, hp.below hb hl, ht.below hb⟩⟩
theorem OwnB.pts {w : World} {base : Nat} {v : Value} {n : Nat} {Z : Nat → Int} (h : OwnB w base v n Z) : ∃ a cap, v = .slice a n cap ∧ n ≤ cap ∧ IsBytes w a n Z := by
  obtain ⟨a, cap, hv, hc, h0 | ⟨b, ha, hb, hl, hp, ht⟩⟩ := h
  · exact ⟨a, cap, hv, hc, .inl h0⟩
  · exact ⟨a, cap, hv, hc, .inr ⟨b, 0, ha, hl, hp⟩⟩
theorem OwnB.is {w : World} {base : Nat} {a : Option Addr} {n cap : Nat} {Z : Nat → Int} (h : OwnB w base (.slice a n cap) n Z) : IsBytes w a n Z := by
  obtain ⟨a', cap', hv, hc, hi⟩ := h.pts
  injection hv with h1 h2 h3
  subst h1
  exact hi
/-- Bytes that lie below block T. -/
def UnderB (T : Nat) (w : World) (a : Option Addr) (n : Nat) (Z : Nat → Int) : Prop := n = 0 ∨ ∃ b off, a = some ⟨b, off, none⟩ ∧ b < T ∧ BsAt w b off n Z
theorem UnderB.is {T : Nat} {w : World} {a : Option Addr} {n : Nat} {Z : Nat → Int} (h : UnderB T w a n Z) (hT : T ≤ w.heap.size) : IsBytes w a n Z := by
  rcases h with h | ⟨b, off, e, hl, hp⟩
  · exact .inl h
  · exact .inr ⟨b, off, e, by omega, hp⟩
theorem UnderB.below {T B : Nat} {w w' : World} {a : Option Addr} {n : Nat} {Z : Nat → Int} (h : UnderB T w a n Z) (hb : Below B w w') (hB : T ≤ B) : UnderB T w' a n Z := by
  rcases h with h | ⟨b, off, e, hl, hp⟩
  · exact .inl h
  · exact .inr ⟨b, off, e, hl, hp.below hb (by omega)⟩
theorem UnderB.row {T : Nat} {row : Option Nat} {w w' : World} {a : Option Addr} {n : Nat} {Z : Nat → Int} (h : UnderB T w a n Z) (hg : w.grownBy w' row) (hs : ∀ s, row = some s → T ≤ s) : UnderB T w' a n Z := by
  rcases h with h | ⟨b, off, e, hl, hp⟩
  · exact .inl h
  · exact .inr ⟨b, off, e, hl, fun i hi => hg.cell (hp i hi) (fun e => by have := hs b e.symm; omega)⟩
theorem below_rowB {B : Nat} {row : Option Nat} {a b : World} (h : a.grownBy b row) (hs : ∀ s, row = some s → B ≤ s) (hl : B ≤ a.heap.size) : Below B a b :=
  ⟨h.os, h.tape, h.output, h.size, fun k hk => h.block k (by omega) (fun e => by have := hs k e.symm; omega)⟩
theorem grown_transB {a b c : World} {r : Option Nat} (h : a.grownBy b r) (k : b.grownBy c r) : a.grownBy c r :=
  ⟨k.os.trans h.os, k.tape.trans h.tape, k.output.trans h.output, Nat.le_trans h.size k.size, fun j hj hs => (k.block j (Nat.lt_of_lt_of_le hj h.size) hs).trans (h.block j hj hs)⟩
theorem grown_belowB {a b : World} {r : Option Nat} (h : Below a.heap.size a b) : a.grownBy b r := ⟨h.os, h.tape, h.output, h.size, fun j hj _ => h.block j hj⟩
theorem bl_cellB {w w' : World} {p : Addr} {v : Value} (hb : Below w.heap.size w w') (h : w.cell? p = some v) : w'.cell? p = some v := (hb.cell (World.block_lt_of_cell? _ _ h)).trans h
theorem ro_cellB {w w' : World} {b o : Nat} {row : Option Nat} {v : Value} (hg : w.grownBy w' row) (h : w.cell? ⟨b, o, none⟩ = some v) (hs : ∀ s, row = some s → b ≠ s) : w'.cell? ⟨b, o, none⟩ = some v := hg.cell h (fun e => hs _ e.symm rfl)

set_option maxHeartbeats 1000000 in
theorem eqBytesResult_any (c : Int) (a a' : Option Addr) (n cap cap' : Nat) (Z : Nat → Int) (w : World) (hp : IsBytes w a n Z) (hq : IsBytes w a' n Z) (hmax : n ≤ 1048576) :
    Calls Tryz.prog 17 #[.agg #[.int .i64 c, .slice a n cap], .agg #[.int .i64 c, .slice a' n cap']] w fun e w' => e = .returned (.bool true) ∧ Below w.heap.size w w' := by
  have HP : Hid (IsBytes w a n Z) := hp
  have HQ : Hid (IsBytes w a' n Z) := hq
  clear hp hq
  go_enter Tryz.func17, Tryz.ntmps17
  go_wp2_with fail
  generalize hW : ((w.alloc _).alloc _ : World) = W
  have HB : Below w.heap.size w W := by subst hW; (repeat (first | exact Below.refl _ _ | assumption | refine Below.drew ?_ | refine bl_alloc ?_ _ | refine bl_then ?_ (by assumption) | refine Below.setCell ?_ (by first | omega | (simp; done) | (simp; omega)) _ | refine bl_store ?_ ?_ _ _))
  clear hW
  refine (eqByteS_any _ _ _ _ _ Z _ (HP.out.below HB) (HQ.out.below HB) hmax).mono ?_
  rintro e w' ⟨rfl, hb⟩
  go_wp2
  go_ret
  exact ⟨rfl, by (repeat (first | exact Below.refl _ _ | assumption | refine Below.drew ?_ | refine bl_alloc ?_ _ | refine bl_then ?_ (by assumption) | refine Below.setCell ?_ (by first | omega | (simp; done) | (simp; omega)) _ | refine bl_store ?_ ?_ _ _))⟩
set_option maxHeartbeats 1000000 in
theorem markBytesResult_some (c : Int) (b n cap : Nat) (w : World) (hT : There w b n) (hb : b < w.heap.size) (hmax : n ≤ 1048576) :
    Calls Tryz.prog 18 #[.agg #[.int .i64 c, .slice (some ⟨b, 0, none⟩) n cap], .int .i64 1] w fun e w' => e = .returned (.int .i64 ((1 + n : Nat) : Int)) ∧ w.grownBy w' (some b) ∧ There w' b n ∧ BsAt w' b 0 n (mkB 1) := by
  have HT : Hid (There w b n) := hT
  clear hT
  go_enter Tryz.func18, Tryz.ntmps18
  go_wp2_with fail
  generalize hW : (w.alloc _ : World) = W
  have HB : Below w.heap.size w W := by subst hW; (repeat (first | exact Below.refl _ _ | assumption | refine Below.drew ?_ | refine bl_alloc ?_ _ | refine bl_then ?_ (by assumption) | refine Below.setCell ?_ (by first | omega | (simp; done) | (simp; omega)) _ | refine bl_store ?_ ?_ _ _))
  clear hW
  refine (markByteS_any b n _ 1 _ (HT.out.below HB) (Nat.lt_of_lt_of_le hb HB.size) hmax (by omega)).mono ?_
  rintro e w' ⟨rfl, hG, hT', hP⟩
  have HG : Hid (w.grownBy w' (some b)) := grown_transB (grown_belowB HB) hG
  have HT' : Hid (There w' b n) := hT'
  have HP' : Hid (BsAt w' b 0 n (mkB 1)) := hP
  clear hG hT' hP HB
  go_wp2
  go_ret
  exact ⟨rfl, HG.out, HT'.out, HP'.out⟩
theorem markBytesResult_none (c : Int) (a : Option Addr) (cap : Nat) (w : World) :
    Calls Tryz.prog 18 #[.agg #[.int .i64 c, .slice a 0 cap], .int .i64 1] w fun e w' => e = .returned (.int .i64 ((1 + 0 : Nat) : Int)) ∧ Below w.heap.size w w' := by
  go_enter Tryz.func18, Tryz.ntmps18
  go_wp2_with (go_at_call 39; refine (markByteS_none _ _ _ _).mono ?_; rintro e w' ⟨rfl, rfl⟩)
  go_ret
  exact ⟨rfl, by (repeat (first | exact Below.refl _ _ | assumption | refine Below.drew ?_ | refine bl_alloc ?_ _ | refine bl_then ?_ (by assumption) | refine Below.setCell ?_ (by first | omega | (simp; done) | (simp; omega)) _ | refine bl_store ?_ ?_ _ _))⟩
theorem mark_ownB (c : Int) (base T n cap : Nat) (a : Option Addr) (Z Z0 : Nat → Int) (w w0 : World) (h : OwnB w base (.slice a n cap) n Z) (hU : UnderB T w0 a n Z0) (hmax : n ≤ 1048576) :
    ∃ row : Option Nat, (∀ s, row = some s → base ≤ s ∧ s < T) ∧ Calls Tryz.prog 18 #[.agg #[.int .i64 c, .slice a n cap], .int .i64 1] w fun e w' => e = .returned (.int .i64 ((1 + n : Nat) : Int)) ∧ w.grownBy w' row ∧ OwnB w' base (.slice a n cap) n (mkB 1) := by
  obtain ⟨a', cap', hv, hc, h0 | ⟨b, ha, hbb, hl, hp, ht⟩⟩ := h
  · subst h0
    exact ⟨none, (fun s hs => by cases hs), (markBytesResult_none c a cap w).mono fun e w' ⟨he, hb⟩ => ⟨he, grown_belowB hb, a', cap', hv, hc, .inl rfl⟩⟩
  · injection hv with h1 h2 h3
    subst h1 h3 ha
    by_cases h0 : n = 0
    · subst h0
      exact ⟨none, (fun s hs => by cases hs), (markBytesResult_none c _ cap w).mono fun e w' ⟨he, hb⟩ => ⟨he, grown_belowB hb, _, cap, rfl, hc, .inl rfl⟩⟩
    · rcases hU with h' | ⟨b', off', e', hl', _⟩
      · exact absurd h' h0
      · injection e' with e'
        injection e' with e1 e2
        subst e1
        exact ⟨some b, (fun s hs => by injection hs with hs; subst hs; exact ⟨hbb, hl'⟩), (markBytesResult_some c b n cap w ht hl hmax).mono fun e w' ⟨he, hg, ht', hp'⟩ => ⟨he, hg, _, cap, rfl, hc, .inr ⟨b, rfl, hbb, Nat.lt_of_lt_of_le hl hg.size, hp', ht'⟩⟩⟩
set_option maxHeartbeats 1000000 in
theorem heldBytesResult_any (c : Int) (a : Option Addr) (n cap : Nat) (w : World) (hp : IsBytes w a n (mkB 1)) (hmax : n ≤ 1048576) :
    Calls Tryz.prog 19 #[.agg #[.int .i64 c, .slice a n cap], .int .i64 1] w fun e w' => e = .returned (.int .i64 ((1 + n : Nat) : Int)) ∧ Below w.heap.size w w' := by
  have HP : Hid (IsBytes w a n (mkB 1)) := hp
  clear hp
  have hqm : ¬ ((1 + n : Nat) : Int) < 0 := by omega
  go_enter Tryz.func19, Tryz.ntmps19
  go_wp2_with fail
  generalize hW : (w.alloc _ : World) = W
  have HB : Below w.heap.size w W := by subst hW; (repeat (first | exact Below.refl _ _ | assumption | refine Below.drew ?_ | refine bl_alloc ?_ _ | refine bl_then ?_ (by assumption) | refine Below.setCell ?_ (by first | omega | (simp; done) | (simp; omega)) _ | refine bl_store ?_ ?_ _ _))
  clear hW
  have HH : Hid (Calls Tryz.prog 40 #[.slice a n cap, .int .i64 ((1 : Nat) : Int)] W fun e w' => e = .returned (.int .i64 ((1 + n : Nat) : Int)) ∧ Below W.heap.size W w') := heldByteS_any a n cap 1 W (HP.out.below HB) hmax (by omega)
  obtain ⟨q, hq⟩ : ∃ q : Int, ((1 + n : Nat) : Int) = q := ⟨_, rfl⟩
  rw [hq] at HH hqm
  have HQ : Hid (((1 + n : Nat) : Int) = q) := hq
  clear hq
  refine Calls.mono HH.out ?_
  rintro e w' ⟨rfl, hb⟩
  go_wp2
  go_ret
  exact ⟨ret_int HQ.out.symm, by (repeat (first | exact Below.refl _ _ | assumption | refine Below.drew ?_ | refine bl_alloc ?_ _ | refine bl_then ?_ (by assumption) | refine Below.setCell ?_ (by first | omega | (simp; done) | (simp; omega)) _ | refine bl_store ?_ ?_ _ _))⟩
end Go.Proofs.YthadmnhpjklmiaaGreat
/- Answers with a tile, compared, marked and held. -/

namespace Go.Proofs.YthadmnhpjklmiaaGreat
open Go.RowKit
set_option linter.unusedSimpArgs false
set_option linter.unusedVariables false
set_option maxRecDepth 100000

/-- An answer with a tile. -/
abbrev trV (c z x y : Int) (v : Value) : Value := .agg #[.int .i64 c, .int .i64 z, .int .i64 x, .int .i64 y, v]
set_option maxHeartbeats 1000000 in
theorem eqTile_out (z x y : Int) (a a' : Option Addr) (n cap cap' : Nat) (G H : Nat → Feat) (w : World) (hg : IsFs w a n G) (hh : IsFs w a' n H) (hs : ∀ i, i < n → (G i).same (H i)) (hn : n ≤ 1048576) (hk : ∀ i, i < n → (H i).n ≤ 1048576) :
    Calls Tryz.prog 30 #[.agg #[.int .i64 z, .int .i64 x, .int .i64 y, .slice a n cap], .agg #[.int .i64 z, .int .i64 x, .int .i64 y, .slice a' n cap']] w fun e w' => e = .returned (.bool true) ∧ Below w.heap.size w w' := by
  have HG : Hid (IsFs w a n G) := hg
  have HH : Hid (IsFs w a' n H) := hh
  have HS : Hid (∀ i, i < n → (G i).same (H i)) := hs
  have HK : Hid (∀ i, i < n → (H i).n ≤ 1048576) := hk
  clear hg hh hs hk
  go_enter Tryz.func30, Tryz.ntmps30
  go_wp2_with fail
  generalize hW : ((w.alloc _).alloc _ : World) = W
  have hB : Below w.heap.size w W := by subst hW; (repeat (first | exact Below.refl _ _ | assumption | refine Below.drew ?_ | refine bl_alloc ?_ _ | refine bl_then ?_ (by assumption) | refine Below.setCell ?_ (by first | omega | (simp; done) | (simp; omega)) _ | refine bl_store ?_ ?_ _ _))
  have HB : Hid (Below w.heap.size w W) := hB
  have c0 : W.cell? ⟨w.heap.size, 3, none⟩ = some (.slice a n cap) := by subst hW; simp [go_sem]
  have c1 : W.cell? ⟨w.heap.size + 1, 3, none⟩ = some (.slice a' n cap') := by subst hW; simp [go_sem]
  clear hW hB
  refine (eqRef_any z x y _).mono ?_
  rintro e w1 ⟨rfl, hb1⟩
  have d0 := bl_cellB hb1 c0
  have d1 := bl_cellB hb1 c1
  have hB1 := bl_then HB.out hb1
  have HB1 : Hid (Below w.heap.size w w1) := hB1
  have HC := eqFs_any a a' n cap cap' G H w1 (HG.out.below hB1) (HH.out.below hB1) HS.out hn HK.out
  clear c0 c1 hb1 hB1
  go_wp2_with fail
  refine Calls.mono HC ?_
  rintro e w2 ⟨rfl, hb2⟩
  go_wp2
  go_ret
  exact ⟨rfl, bl_then HB1.out hb2⟩
set_option maxHeartbeats 1000000 in
theorem eqTileResult_out (C z x y : Int) (a a' : Option Addr) (n cap cap' : Nat) (G H : Nat → Feat) (w : World) (hg : IsFs w a n G) (hh : IsFs w a' n H) (hs : ∀ i, i < n → (G i).same (H i)) (hn : n ≤ 1048576) (hk : ∀ i, i < n → (H i).n ≤ 1048576) :
    Calls Tryz.prog 10 #[trV C z x y (.slice a n cap), trV C z x y (.slice a' n cap')] w fun e w' => e = .returned (.bool true) ∧ Below w.heap.size w w' := by
  have HE : Hid (∀ W, Below w.heap.size w W → Calls Tryz.prog 30 #[.agg #[.int .i64 z, .int .i64 x, .int .i64 y, .slice a n cap], .agg #[.int .i64 z, .int .i64 x, .int .i64 y, .slice a' n cap']] W fun e w' => e = .returned (.bool true) ∧ Below W.heap.size W w') := fun W hb => eqTile_out z x y a a' n cap cap' G H W (hg.below hb) (hh.below hb) hs hn hk
  clear hg hh hs hk
  go_enter Tryz.func10, Tryz.ntmps10
  go_wp2_with fail
  refine (HE.out _ (by (repeat (first | exact Below.refl _ _ | assumption | refine Below.drew ?_ | refine bl_alloc ?_ _ | refine bl_then ?_ (by assumption) | refine Below.setCell ?_ (by first | omega | (simp; done) | (simp; omega)) _ | refine bl_store ?_ ?_ _ _)))).mono ?_
  rintro e w2 ⟨rfl, hb2⟩
  go_wp2
  go_ret
  exact ⟨rfl, by (repeat (first | exact Below.refl _ _ | assumption | refine Below.drew ?_ | refine bl_alloc ?_ _ | refine bl_then ?_ (by assumption) | refine Below.setCell ?_ (by first | omega | (simp; done) | (simp; omega)) _ | refine bl_store ?_ ?_ _ _))⟩
set_option maxHeartbeats 1000000 in
theorem markTile_out (lo hi : Nat) (z x y : Int) (a : Option Addr) (m cap : Nat) (N C : Nat → Nat) (w : World) (h : OwnR w lo hi a m N C) (hm : m ≤ 1048576) (hN : ∀ i, i < m → N i ≤ 1048576) :
    Calls Tryz.prog 34 #[.agg #[.int .i64 z, .int .i64 x, .int .i64 y, .slice a m cap], .int .i64 1] w fun e w' => e = .returned (.int .i64 ((kS N 1 m : Nat) : Int)) ∧ MidB lo hi w w' ∧ MarkR w' a m N C := by
  have HH : Hid (∀ W, Below w.heap.size w W → Calls Tryz.prog 12 #[.slice a m cap, .int .i64 1] W fun e w' => e = .returned (.int .i64 ((kS N 1 m : Nat) : Int)) ∧ MidB lo hi W w' ∧ MarkR w' a m N C) := fun W hb => markR_any lo hi a m cap N C W (h.below hb) hm hN
  clear h hN
  generalize ((kS N 1 m : Nat) : Int) = kk at *
  go_enter Tryz.func34, Tryz.ntmps34
  go_wp2_with fail
  generalize hW : (w.alloc _ : World) = W
  have HB : Below w.heap.size w W := by subst hW; (repeat (first | exact Below.refl _ _ | assumption | refine Below.drew ?_ | refine bl_alloc ?_ _ | refine bl_then ?_ (by assumption) | refine Below.setCell ?_ (by first | omega | (simp; done) | (simp; omega)) _ | refine bl_store ?_ ?_ _ _))
  clear hW
  refine (HH.out _ HB).mono ?_
  rintro e w' ⟨rfl, hM, hR⟩
  have HM : Hid (MidB lo hi w w') := (MidB.of_below HB).trans hM
  have HR : Hid (MarkR w' a m N C) := hR
  clear hM hR HB
  go_wp2
  go_ret
  exact ⟨rfl, HM.out, HR.out⟩
set_option maxHeartbeats 1000000 in
theorem markTileResult_out (lo hi : Nat) (c z x y : Int) (a : Option Addr) (m cap : Nat) (N C : Nat → Nat) (w : World) (h : OwnR w lo hi a m N C) (hm : m ≤ 1048576) (hN : ∀ i, i < m → N i ≤ 1048576) :
    Calls Tryz.prog 13 #[trV c z x y (.slice a m cap), .int .i64 1] w fun e w' => e = .returned (.int .i64 ((kS N 1 m : Nat) : Int)) ∧ MidB lo hi w w' ∧ MarkR w' a m N C := by
  have HH : Hid (∀ W, Below w.heap.size w W → Calls Tryz.prog 34 #[.agg #[.int .i64 z, .int .i64 x, .int .i64 y, .slice a m cap], .int .i64 1] W fun e w' => e = .returned (.int .i64 ((kS N 1 m : Nat) : Int)) ∧ MidB lo hi W w' ∧ MarkR w' a m N C) := fun W hb => markTile_out lo hi z x y a m cap N C W (h.below hb) hm hN
  clear h hN
  generalize ((kS N 1 m : Nat) : Int) = kk at *
  go_enter Tryz.func13, Tryz.ntmps13
  go_wp2_with fail
  generalize hW : (w.alloc _ : World) = W
  have HB : Below w.heap.size w W := by subst hW; (repeat (first | exact Below.refl _ _ | assumption | refine Below.drew ?_ | refine bl_alloc ?_ _ | refine bl_then ?_ (by assumption) | refine Below.setCell ?_ (by first | omega | (simp; done) | (simp; omega)) _ | refine bl_store ?_ ?_ _ _))
  clear hW
  refine (HH.out _ HB).mono ?_
  rintro e w' ⟨rfl, hM, hR⟩
  have HM : Hid (MidB lo hi w w') := (MidB.of_below HB).trans hM
  have HR : Hid (MarkR w' a m N C) := hR
  clear hM hR HB
  go_wp2
  go_ret
  exact ⟨rfl, HM.out, HR.out⟩
set_option maxHeartbeats 1000000 in
theorem heldTile_out (z x y : Int) (a : Option Addr) (m cap : Nat) (N C : Nat → Nat) (w : World) (h : MarkR w a m N C) (hm : m ≤ 1048576) (hN : ∀ i, i < m → N i ≤ 1048576) :
    Calls Tryz.prog 35 #[.agg #[.int .i64 z, .int .i64 x, .int .i64 y, .slice a m cap], .int .i64 1] w fun e w' => e = .returned (.int .i64 ((kS N 1 m : Nat) : Int)) ∧ Below w.heap.size w w' := by
  have HH : Hid (∀ W, Below w.heap.size w W → Calls Tryz.prog 63 #[.slice a m cap, .int .i64 1] W fun e w' => e = .returned (.int .i64 ((kS N 1 m : Nat) : Int)) ∧ Below W.heap.size W w') := fun W hb => heldR_any a m cap N C W (h.below hb) hm hN
  clear h hN
  have hneg : ¬ ((kS N 1 m : Nat) : Int) < 0 := by omega
  generalize ((kS N 1 m : Nat) : Int) = kk at *
  go_enter Tryz.func35, Tryz.ntmps35
  go_wp2_with fail
  generalize hW : (w.alloc _ : World) = W
  have HB : Below w.heap.size w W := by subst hW; (repeat (first | exact Below.refl _ _ | assumption | refine Below.drew ?_ | refine bl_alloc ?_ _ | refine bl_then ?_ (by assumption) | refine Below.setCell ?_ (by first | omega | (simp; done) | (simp; omega)) _ | refine bl_store ?_ ?_ _ _))
  clear hW
  refine (HH.out _ HB).mono ?_
  rintro e w' ⟨rfl, hb⟩
  go_wp2
  go_ret
  exact ⟨rfl, bl_then HB hb⟩
set_option maxHeartbeats 1000000 in
theorem heldTileResult_out (c z x y : Int) (a : Option Addr) (m cap : Nat) (N C : Nat → Nat) (w : World) (h : MarkR w a m N C) (hm : m ≤ 1048576) (hN : ∀ i, i < m → N i ≤ 1048576) :
    Calls Tryz.prog 14 #[trV c z x y (.slice a m cap), .int .i64 1] w fun e w' => e = .returned (.int .i64 ((kS N 1 m : Nat) : Int)) ∧ Below w.heap.size w w' := by
  have HH : Hid (∀ W, Below w.heap.size w W → Calls Tryz.prog 35 #[.agg #[.int .i64 z, .int .i64 x, .int .i64 y, .slice a m cap], .int .i64 1] W fun e w' => e = .returned (.int .i64 ((kS N 1 m : Nat) : Int)) ∧ Below W.heap.size W w') := fun W hb => heldTile_out z x y a m cap N C W (h.below hb) hm hN
  clear h hN
  have hneg : ¬ ((kS N 1 m : Nat) : Int) < 0 := by omega
  generalize ((kS N 1 m : Nat) : Int) = kk at *
  go_enter Tryz.func14, Tryz.ntmps14
  go_wp2_with fail
  generalize hW : (w.alloc _ : World) = W
  have HB : Below w.heap.size w W := by subst hW; (repeat (first | exact Below.refl _ _ | assumption | refine Below.drew ?_ | refine bl_alloc ?_ _ | refine bl_then ?_ (by assumption) | refine Below.setCell ?_ (by first | omega | (simp; done) | (simp; omega)) _ | refine bl_store ?_ ?_ _ _))
  clear hW
  refine (HH.out _ HB).mono ?_
  rintro e w' ⟨rfl, hb⟩
  go_wp2
  go_ret
  exact ⟨rfl, bl_then HB hb⟩
/-- An answer with a tile in memory. -/
def T5At (w : World) (p : Nat) (c z x y : Int) (v : Value) : Prop := w.cell? ⟨p, 0, none⟩ = some (.int .i64 c) ∧ w.cell? ⟨p, 1, none⟩ = some (.int .i64 z) ∧ w.cell? ⟨p, 2, none⟩ = some (.int .i64 x) ∧ w.cell? ⟨p, 3, none⟩ = some (.int .i64 y) ∧ w.cell? ⟨p, 4, none⟩ = some v
theorem T5At.below {w w' : World} {p : Nat} {c z x y : Int} {v : Value} (h : T5At w p c z x y v) (hb : Below w.heap.size w w') : T5At w' p c z x y v :=
  ⟨bl_cellB hb h.1, bl_cellB hb h.2.1, bl_cellB hb h.2.2.1, bl_cellB hb h.2.2.2.1, bl_cellB hb h.2.2.2.2⟩
theorem T5At.mid {w w' : World} {lo hi p : Nat} {c z x y : Int} {v : Value} (h : T5At w p c z x y v) (hM : MidB lo hi w w') (ho : p < lo ∨ hi ≤ p) : T5At w' p c z x y v := ⟨hM.cell h.1 ho, hM.cell h.2.1 ho, hM.cell h.2.2.1 ho, hM.cell h.2.2.2.1 ho, hM.cell h.2.2.2.2 ho⟩
end Go.Proofs.YthadmnhpjklmiaaGreat
