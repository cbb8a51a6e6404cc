/- Several texts in one. -/
import Derived.Test.YtchofahdcohibaaGreatRows
import Derived.Test.YtchofahdcohibaaGreatVPaints1
import Derived.WalkKit
import Derived.WalkSpells
import Derived.WalkLawsBesides
import Derived.Outline
import Derived.Deep.RegionHeld3
import Derived.Deep.OwnRows
import Derived.Deep.LoopGhost
import Derived.Laws.OwnMore
import Derived.Test.YtchofahdcohibaaGreatVPaints9
import Derived.Test.YtchofahdcohibaaGreatVPaints25
import Derived.Test.YtchofahdcohibaaGreatVPaints7
import Derived.Test.YtchofahdcohibaaGreatVPaints2
import Derived.Test.YtchofahdcohibaaGreatVPaints13

/- Numbers in memory of their own: they are compared, marked, and the marks are found again. -/

namespace Go.Proofs.YtchofahdcohibaaGreat
open Go.RowKit
set_option linter.unusedSimpArgs false
set_option linter.unusedVariables false
set_option maxRecDepth 100000

def IsNs (w : World) (a : Option Addr) (n : Nat) (Z : Nat → Int) : Prop :=
  n = 0 ∨ ∃ b off, a = some ⟨b, off, none⟩ ∧ b < w.heap.size ∧ ∀ i, i < n → w.cell? ⟨b, off + i, none⟩ = some (.int .i64 (Z i))
theorem IsNs.below {w w' : World} {a : Option Addr} {n : Nat} {Z : Nat → Int} (h : IsNs w a n Z) (hb : Below w.heap.size w w') : IsNs w' a n Z := by
  rcases h with h | ⟨b, off, e, hl, hz⟩
  · exact .inl h
  · exact .inr ⟨b, off, e, Nat.lt_of_lt_of_le hl hb.size, fun i hi => (hb.cell (p := ⟨b, off + i, none⟩) hl).trans (hz i hi)⟩
def NsAt (w : World) (b off n : Nat) (Z : Nat → Int) : Prop := ∀ i, i < n → w.cell? ⟨b, off + i, none⟩ = some (.int .i64 (Z i))
theorem NsAt.below {w w' : World} {b off n B : Nat} {Z : Nat → Int} (h : NsAt w b off n Z) (hb : Below B w w') (hB : b < B) : NsAt w' b off n Z := fun i hi => (hb.cell (p := ⟨b, off + i, none⟩) hB).trans (h i hi)
theorem NsAt.is {w : World} {b off n : Nat} {Z : Nat → Int} (h : NsAt w b off n Z) (hb : b < w.heap.size) : IsNs w (some ⟨b, off, none⟩) n Z := .inr ⟨b, off, rfl, hb, h⟩
theorem There.setN {W : World} {r n : Nat} (h : There W r n) (o : Nat) (v : Value) : There (W.setCell ⟨r, o, none⟩ v) r n := fun o' ho => by
  obtain ⟨u, hu⟩ := (h o' ho).1
  refine ⟨?_, ?_⟩
  · by_cases e : o = o'
    · subst e
      exact ⟨v, World.cell?_setCell_same _ _ _ (by rw [hu])⟩
    · exact ⟨u, by rw [World.cell?_setCell_other]; exact hu; simp [e]⟩
  · rw [World.frozen?_setCell]; exact (h o' ho).2
theorem fillN {W : World} {B n k : Nat} {Z : Nat → Int} (hT : There W B n) (hk : k < n) (hp : NsAt W B 0 k Z) : NsAt (W.setCell ⟨B, k, none⟩ (.int .i64 (Z k))) B 0 (k + 1) Z := fun i hi => by
  by_cases e : i = k
  · subst e
    obtain ⟨u, hu⟩ := (hT i hk).1
    simpa using World.cell?_setCell_same _ _ _ (by rw [hu])
  · rw [World.cell?_setCell_other]
    · exact hp i (by omega)
    · simp <;> omega
theorem grown_setN {w w' : World} {b : Nat} (h : w.grownBy w' (some b)) (o : Nat) (v : Value) : w.grownBy (w'.setCell ⟨b, o, none⟩ v) (some b) := by
  have hb : Below b w' (w'.setCell ⟨b, o, none⟩ v) := (Below.refl b w').setCell (Nat.le_refl _) v
  exact ⟨hb.os.trans h.os, hb.tape.trans h.tape, hb.output.trans h.output, Nat.le_trans h.size hb.size, fun k hk hne => (Below.heap_setCell w' ⟨b, o, none⟩ v k (fun e => hne (by simp at e; rw [e]))).trans (h.block k hk hne)⟩
theorem grown_reflN (w : World) (row : Option Nat) : w.grownBy w row := ⟨rfl, rfl, rfl, Nat.le_refl _, fun _ _ _ => rfl⟩
/-- The marks from k0 on. -/
def mkN (k0 i : Nat) : Int := ((k0 + i : Nat) : Int)
/-- v is a list of n bytes in a block from base on. -/
def OwnN (w : World) (base : Nat) (v : Value) (n : Nat) (Z : Nat → Int) : Prop :=
  ∃ a cap, v = .slice a n cap ∧ n ≤ cap ∧ (n = 0 ∨ ∃ b, a = some ⟨b, 0, none⟩ ∧ base ≤ b ∧ b < w.heap.size ∧ NsAt w b 0 n Z ∧ There w b n)
theorem OwnN.below {w w' : World} {base : Nat} {v : Value} {n : Nat} {Z : Nat → Int} (h : OwnN w base v n Z) (hb : Below w.heap.size w w') : OwnN w' base v n Z := by
  obtain ⟨a, cap, hv, hc, h0 | ⟨b, ha, hbb, hl, hp, ht⟩⟩ := h
  · exact ⟨a, cap, hv, hc, .inl h0⟩
  · exact ⟨a, cap, hv, hc, .inr ⟨b, ha, hbb, Nat.lt_of_lt_of_le hl hb.size, hp.below hb hl, ht.below hb⟩⟩
theorem OwnN.pts {w : World} {base : Nat} {v : Value} {n : Nat} {Z : Nat → Int} (h : OwnN w base v n Z) : ∃ a cap, v = .slice a n cap ∧ n ≤ cap ∧ IsNs w a n Z := by
  obtain ⟨a, cap, hv, hc, h0 | ⟨b, ha, hb, hl, hp, ht⟩⟩ := h
  · exact ⟨a, cap, hv, hc, .inl h0⟩
  · exact ⟨a, cap, hv, hc, .inr ⟨b, 0, ha, hl, hp⟩⟩
theorem OwnN.is {w : World} {base : Nat} {a : Option Addr} {n cap : Nat} {Z : Nat → Int} (h : OwnN w base (.slice a n cap) n Z) : IsNs w a n Z := by
  obtain ⟨a', cap', hv, hc, hi⟩ := h.pts
  injection hv with h1 h2 h3
  subst h1
  exact hi
/-- Bytes that lie below block T. -/
def UnderN (T : Nat) (w : World) (a : Option Addr) (n : Nat) (Z : Nat → Int) : Prop := n = 0 ∨ ∃ b off, a = some ⟨b, off, none⟩ ∧ b < T ∧ NsAt w b off n Z
theorem UnderN.is {T : Nat} {w : World} {a : Option Addr} {n : Nat} {Z : Nat → Int} (h : UnderN T w a n Z) (hT : T ≤ w.heap.size) : IsNs w a n Z := by
  rcases h with h | ⟨b, off, e, hl, hp⟩
  · exact .inl h
  · exact .inr ⟨b, off, e, by omega, hp⟩
theorem UnderN.below {T B : Nat} {w w' : World} {a : Option Addr} {n : Nat} {Z : Nat → Int} (h : UnderN T w a n Z) (hb : Below B w w') (hB : T ≤ B) : UnderN T w' a n Z := by
  rcases h with h | ⟨b, off, e, hl, hp⟩
  · exact .inl h
  · exact .inr ⟨b, off, e, hl, hp.below hb (by omega)⟩
theorem UnderN.row {T : Nat} {row : Option Nat} {w w' : World} {a : Option Addr} {n : Nat} {Z : Nat → Int} (h : UnderN T w a n Z) (hg : w.grownBy w' row) (hs : ∀ s, row = some s → T ≤ s) : UnderN T w' a n Z := by
  rcases h with h | ⟨b, off, e, hl, hp⟩
  · exact .inl h
  · exact .inr ⟨b, off, e, hl, fun i hi => hg.cell (hp i hi) (fun e => by have := hs b e.symm; omega)⟩
theorem below_rowN {B : Nat} {row : Option Nat} {a b : World} (h : a.grownBy b row) (hs : ∀ s, row = some s → B ≤ s) (hl : B ≤ a.heap.size) : Below B a b :=
  ⟨h.os, h.tape, h.output, h.size, fun k hk => h.block k (by omega) (fun e => by have := hs k e.symm; omega)⟩
theorem grown_transN {a b c : World} {r : Option Nat} (h : a.grownBy b r) (k : b.grownBy c r) : a.grownBy c r :=
  ⟨k.os.trans h.os, k.tape.trans h.tape, k.output.trans h.output, Nat.le_trans h.size k.size, fun j hj hs => (k.block j (Nat.lt_of_lt_of_le hj h.size) hs).trans (h.block j hj hs)⟩
theorem grown_belowN {a b : World} {r : Option Nat} (h : Below a.heap.size a b) : a.grownBy b r := ⟨h.os, h.tape, h.output, h.size, fun j hj _ => h.block j hj⟩
theorem bl_cellN {w w' : World} {p : Addr} {v : Value} (hb : Below w.heap.size w w') (h : w.cell? p = some v) : w'.cell? p = some v := (hb.cell (World.block_lt_of_cell? _ _ h)).trans h
theorem ro_cellN {w w' : World} {b o : Nat} {row : Option Nat} {v : Value} (hg : w.grownBy w' row) (h : w.cell? ⟨b, o, none⟩ = some v) (hs : ∀ s, row = some s → b ≠ s) : w'.cell? ⟨b, o, none⟩ = some v := hg.cell h (fun e => hs _ e.symm rfl)

end Go.Proofs.YtchofahdcohibaaGreat
/- Lists of numbers that grow: rows of their own. -/

namespace Go.Proofs.YtchofahdcohibaaGreat
open Go.RowKit
set_option linter.unusedSimpArgs false
set_option linter.unusedVariables false
set_option maxRecDepth 100000

theorem info_n64 : (Tryz.prog.info? 2).map (fun i => (i.zero, i.size, i.bytes)) = some (some (.int .i64 0), 1, 8) := by kernel_rfl
/-- v is a row of its own with these numbers. -/
def RowN (base : Nat) (w : World) (v : Value) (l : List Int) : Prop := w.ownsRow base 2 1 v l.length (l.map (.int .i64 ·))
def nz (l : List Int) (i : Nat) : Int := l.getD i 0
theorem RowN.own {base : Nat} {w : World} {v : Value} {l : List Int} (h : RowN base w v l) : OwnN w base v l.length (nz l) := by
  obtain ⟨h1, h2 | ⟨g, cp, cur, hv, hg, hh, hkc, hcm, hcs, htk⟩⟩ := id h
  · obtain ⟨rfl, h0⟩ := h2
    rw [h0]
    exact ⟨none, 0, rfl, Nat.le_refl _, .inl rfl⟩
  · have hgl : g < w.heap.size := by
      rcases Nat.lt_or_ge g w.heap.size with h' | h'
      · exact h'
      · rw [Array.getElem?_eq_none h'] at hh; cases hh
    have hrow : w.ownsRow base 2 1 (.slice (some ⟨g, 0, none⟩) l.length cp) l.length (l.map (.int .i64 ·)) := ⟨h1, .inr ⟨g, cp, cur, rfl, hg, hh, hkc, hcm, hcs, htk⟩⟩
    refine ⟨some ⟨g, 0, none⟩, cp, hv, hkc, .inr ⟨g, rfl, hg, hgl, fun i hi => ?_, fun o ho => ⟨?_, hrow.frozenAt o⟩⟩⟩
    · rw [Nat.zero_add, hrow.cellAt i (by omega), List.getElem?_map]
      simp [nz, List.getD_eq_getElem?_getD, hi]
    · rw [hrow.cellAt o (by omega), List.getElem?_map]
      simp [ho]
theorem RowN.below {base : Nat} {w w' : World} {v : Value} {l : List Int} (h : RowN base w v l) (hb : Below w.heap.size w w') : RowN base w' v l := by
  obtain ⟨h1, h2 | ⟨g, cp, cur, hv, hg, hh, hr⟩⟩ := h
  · exact ⟨h1, .inl h2⟩
  · refine ⟨h1, .inr ⟨g, cp, cur, hv, hg, ?_, hr⟩⟩
    have hgl : g < w.heap.size := by
      rcases Nat.lt_or_ge g w.heap.size with h' | h'
      · exact h'
      · rw [Array.getElem?_eq_none h'] at hh; cases hh
    rw [hb.block g hgl]
    exact hh
theorem RowN.no (base : Nat) (w : World) : RowN base w (.slice none 0 0) [] := World.ownsRow_nil _ _ _ _
theorem RowN.wide {base B : Nat} {w : World} {v : Value} {l : List Int} (h : RowN base w v l) (hB : B ≤ base) : RowN B w v l := by
  obtain ⟨h1, h2 | ⟨g, cp, cur, hv, hg, hr⟩⟩ := h
  · exact ⟨h1, .inl h2⟩
  · exact ⟨h1, .inr ⟨g, cp, cur, hv, by omega, hr⟩⟩
theorem RowN.other {base r o : Nat} {w : World} {v u : Value} {l : List Int} (h : RowN base w v l) (hr : r < base) : RowN base (w.setCell ⟨r, o, none⟩ u) v l := by
  obtain ⟨h1, h2 | ⟨g, cp, cur, hv, hg, hh, hr'⟩⟩ := h
  · exact ⟨h1, .inl h2⟩
  · exact ⟨h1, .inr ⟨g, cp, cur, hv, hg, by rw [Below.heap_setCell _ _ _ _ (by simp; omega)]; exact hh, hr'⟩⟩
end Go.Proofs.YtchofahdcohibaaGreat
/- Rasters: what is wrong of one, which ref lies in which: the program and the model. -/

namespace Go.Proofs.YtchofahdcohibaaGreat
open Go.RowKit
set_option linter.unusedSimpArgs false
set_option linter.unusedVariables false
set_option maxRecDepth 100000

/-- The first n numbers are Ids. -/
def rasB (Z : Nat → Int) (n : Nat) : Bool := (List.range n).all fun i => inB (Z i) 0 999
def rasC (n : Nat) (Z : Nat → Int) : Int := if n = 64 then (if rasB Z 64 = true then 0 else 3) else 2
theorem rasB_add (Z : Nat → Int) (n : Nat) : rasB Z (n + 1) = (rasB Z n && inB (Z n) 0 999) := by simp [rasB, List.range_succ]
theorem rasB_at {Z : Nat → Int} {n i : Nat} (h : rasB Z n = true) (hi : i < n) : inB (Z i) 0 999 = true := by
  simp [rasB] at h
  exact h i hi
theorem rasB_no {Z : Nat → Int} {n i : Nat} (hi : i < n) (h : inB (Z i) 0 999 = false) : rasB Z n = false := by
  cases e : rasB Z n
  · rfl
  · rw [rasB_at e hi] at h; cases h
theorem rasC_cases (n : Nat) (Z : Nat → Int) : (rasC n Z = 2 ∧ n ≠ 64) ∨ (rasC n Z = 3 ∧ n = 64 ∧ rasB Z 64 = false) ∨ (rasC n Z = 0 ∧ n = 64 ∧ rasB Z 64 = true) := by
  unfold rasC
  by_cases h : n = 64
  · cases e : rasB Z 64 <;> simp [h]
  · simp [h]
theorem set3_atq {W : World} {r : Nat} {a b c : Value} (hT : There W r 3) :
    (((W.setCell ⟨r, 0, none⟩ a).setCell ⟨r, 1, none⟩ b).setCell ⟨r, 2, none⟩ c).cell? ⟨r, 0, none⟩ = some a ∧
    (((W.setCell ⟨r, 0, none⟩ a).setCell ⟨r, 1, none⟩ b).setCell ⟨r, 2, none⟩ c).cell? ⟨r, 1, none⟩ = some b ∧
    (((W.setCell ⟨r, 0, none⟩ a).setCell ⟨r, 1, none⟩ b).setCell ⟨r, 2, none⟩ c).cell? ⟨r, 2, none⟩ = some c := by
  obtain ⟨x0, h0⟩ := (hT 0 (by omega)).1
  obtain ⟨x1, h1⟩ := (hT 1 (by omega)).1
  obtain ⟨x2, h2⟩ := (hT 2 (by omega)).1
  have ne : ∀ i j : Nat, i ≠ j → (⟨r, i, none⟩ : Addr) ≠ ⟨r, j, none⟩ := fun i j hij h => hij (by injection h)
  refine ⟨?_, ?_, ?_⟩
  · rw [set1_other (ne 2 0 (by omega)), set1_other (ne 1 0 (by omega))]; exact set1_same h0
  · rw [set1_other (ne 2 1 (by omega))]; exact set1_same (by rw [set1_other (ne 0 1 (by omega))]; exact h1)
  · exact set1_same (by rw [set1_other (ne 1 2 (by omega)), set1_other (ne 0 2 (by omega))]; exact h2)
/-- x, halved k times. -/
def halv (x : Int) : Nat → Int
  | 0 => x
  | k + 1 => halv x k / 2
/-- The first ref is the second one, or lies above it. -/
def holdB (fz fx fy tz tx ty : Int) : Bool := decide (fz ≤ tz) && (halv tx (tz - fz).toNat == fx) && (halv ty (tz - fz).toNat == fy)
theorem refB_par {z x y : Int} (h : refB z x y = true) (hz : 0 < z) : refB (z - 1) (x / 2) (y / 2) = true := by
  obtain ⟨⟨x0, x1⟩, y0, y1⟩ := refB_in h
  rcases refB_zoom h with rfl | rfl | rfl | rfl
  · omega
  all_goals
    simp [lastI] at x1 y1
    simp [refB, zoomB, inB, lastI]
    omega
end Go.Proofs.YtchofahdcohibaaGreat
/- A raster is filled, row by row, by what a function has at a pixel: the program. -/

namespace Go.Proofs.YtchofahdcohibaaGreat
open Go.RowKit
set_option linter.unusedSimpArgs false
set_option linter.unusedVariables false
set_option maxRecDepth 100000

/-- What G has at the pixels of a window, row by row. -/
def rowsL (G : Int → Int → Int) (x y : Int) (wide high : Nat) : List Int := (List.range high).flatMap fun (r : Nat) => (List.range wide).map fun (c : Nat) => G (x + (c : Int)) (y + (r : Int))
def rowsP (G : Int → Int → Int) (x y : Int) (wide r c : Nat) : List Int := rowsL G x y wide r ++ (List.range c).map fun (c : Nat) => G (x + (c : Int)) (y + (r : Int))
theorem rowsL_len (G : Int → Int → Int) (x y : Int) (wide : Nat) : ∀ high, (rowsL G x y wide high).length = high * wide
  | 0 => by simp [rowsL]
  | h + 1 => by
    have := rowsL_len G x y wide h
    unfold rowsL at this ⊢
    rw [List.range_succ, List.flatMap_append, List.length_append, this]
    simp
    rw [Nat.add_mul]; omega
theorem rowsP_next (G : Int → Int → Int) (x y : Int) (wide r c : Nat) : rowsP G x y wide r (c + 1) = rowsP G x y wide r c ++ [G (x + (c : Int)) (y + (r : Int))] := by
  simp [rowsP, List.range_succ]
theorem rowsP_full (G : Int → Int → Int) (x y : Int) (wide r : Nat) : rowsP G x y wide r wide = rowsL G x y wide (r + 1) := by
  simp [rowsP, rowsL, List.range_succ]
theorem rowsP_zero (G : Int → Int → Int) (x y : Int) (wide r : Nat) : rowsP G x y wide r 0 = rowsL G x y wide r := by simp [rowsP]
theorem rowsP_len (G : Int → Int → Int) (x y : Int) (wide r c : Nat) : (rowsP G x y wide r c).length = r * wide + c := by
  simp [rowsP, rowsL_len]
end Go.Proofs.YtchofahdcohibaaGreat
/- The raster of a tile as far as that of one above it has it: the program. -/

namespace Go.Proofs.YtchofahdcohibaaGreat
open Go.RowKit
set_option linter.unusedSimpArgs false
set_option linter.unusedVariables false
set_option maxRecDepth 100000

/-- The Id that a raster of the ref at fx, fy has for the pixel x, y, k zooms below. -/
def upI (k : Nat) (fx fy : Int) (Z : Nat → Int) (x y : Int) : Int := Z ((halv y k - fy * 8) * 8 + (halv x k - fx * 8)).toNat
theorem halv_pow (x : Int) {k : Nat} (hk : k ≤ 3) : halv x k = x / 2 ^ k := by
  have : k = 0 ∨ k = 1 ∨ k = 2 ∨ k = 3 := by omega
  rcases this with rfl | rfl | rfl | rfl <;> simp [halv] <;> omega
/-- Where in the raster above a pixel is. -/
theorem up_in {t f : Int} {c k : Nat} (hk : k ≤ 3) (hc : c < 8) (h : halv t k = f) : 0 ≤ halv (t * 8 + c) k - f * 8 ∧ halv (t * 8 + c) k - f * 8 ≤ 7 := by
  have : k = 0 ∨ k = 1 ∨ k = 2 ∨ k = 3 := by omega
  rcases this with rfl | rfl | rfl | rfl <;> simp [halv] at h ⊢ <;> omega
/-- The code that UpRaster tells. -/
def upC (n : Nat) (Z : Nat → Int) (fz fx fy tz tx ty : Int) : Int := if rasC n Z = 0 then (if refC fz fx fy = 0 then (if refC tz tx ty = 0 then (if holdB fz fx fy tz tx ty = true then 0 else 1) else 3) else 3) else rasC n Z
/-- The Ids that UpRaster tells. -/
def upL (n : Nat) (Z : Nat → Int) (fz fx fy tz tx ty : Int) : List Int := if upC n Z fz fx fy tz tx ty = 0 then rowsL (upI (tz - fz).toNat fx fy Z) (tx * 8) (ty * 8) 8 8 else []
/-- The first of three that is not 0. -/
def or3 (x y z : Int) : Int := if x = 0 then (if y = 0 then z else y) else x
end Go.Proofs.YtchofahdcohibaaGreat
/- Numbers are compared; only new blocks are laid. -/

namespace Go.Proofs.YtchofahdcohibaaGreat
open Go.RowKit
set_option linter.unusedSimpArgs false
set_option linter.unusedVariables false
set_option maxRecDepth 100000

def cmpI (x y : Int) : Int := if x < y then -1 else if y < x then 1 else 0
theorem cmpCompare_any (x y : Int) (w : World) : Calls Tryz.prog 51 #[.int .i64 x, .int .i64 y] w fun e w' => e = .returned (.int .i64 (cmpI x y)) ∧ w' = w := by
  unfold cmpI
  by_cases h1 : x < y
  · rw [if_pos h1]
    go_enter Tryz.func51, Tryz.ntmps51
    go_wp2
    go_ret
    exact ⟨rfl, rfl⟩
  · rw [if_neg h1]
    by_cases h2 : y < x
    · rw [if_pos h2]
      go_enter Tryz.func51, Tryz.ntmps51
      go_wp2
      go_ret
      exact ⟨rfl, rfl⟩
    · rw [if_neg h2]
      go_enter Tryz.func51, Tryz.ntmps51
      go_wp2
      go_ret
      exact ⟨rfl, rfl⟩
/-- Only new blocks, and draws. -/
def Gro (V W' : World) : Prop := Below V.heap.size V W' ∧ V.drawn ≤ W'.drawn
theorem Gro.refl (V : World) : Gro V V := ⟨Below.refl _ _, Nat.le_refl _⟩
theorem Gro.trans {a b c : World} (h : Gro a b) (k : Gro b c) : Gro a c := ⟨bl_then h.1 k.1, Nat.le_trans h.2 k.2⟩
theorem Gro.alloc {a b : World} (h : Gro a b) (o : Obj) : Gro a (b.alloc o) := ⟨bl_alloc h.1 o, h.2⟩
theorem Gro.drew {a b : World} (h : Gro a b) : Gro a b.drew := ⟨h.1.drew, Nat.le_trans h.2 (Nat.le_succ _)⟩
end Go.Proofs.YtchofahdcohibaaGreat
/- Features are compared: by layer, of the same by id; only new blocks are laid. -/

namespace Go.Proofs.YtchofahdcohibaaGreat
open Go.RowKit
set_option linter.unusedSimpArgs false
set_option linter.unusedVariables false
set_option maxRecDepth 100000

def orI (x y : Int) : Int := if x = 0 then y else x
set_option maxHeartbeats 2000000 in
theorem cmpOr_any (b c : Nat) (x y : Int) (w : World) (h0 : w.cell? ⟨b, 0, none⟩ = some (.int .i64 x)) (h1 : w.cell? ⟨b, 1, none⟩ = some (.int .i64 y)) : Calls Tryz.prog 50 #[.slice (some ⟨b, 0, none⟩) 2 c] w fun e w' => e = .returned (.int .i64 (orI x y)) ∧ w' = w := by
  unfold orI
  by_cases hx : x = 0
  · subst hx
    by_cases hy : y = 0
    · subst hy
      go_enter Tryz.func50, Tryz.ntmps50
      go_wp2
      refine wp_loop_rounds 3 ?_
      rw [rounds_succ]
      go_wp2
      rw [rounds_succ]
      go_wp2
      rw [rounds_succ]
      go_wp2
      go_ret
      exact ⟨by simp, rfl⟩
    · have hy' : (y == 0) = false := by simpa using hy
      go_enter Tryz.func50, Tryz.ntmps50
      go_wp2
      refine wp_loop_rounds 2 ?_
      rw [rounds_succ]
      go_wp2
      rw [rounds_succ]
      go_wp2
      go_ret
      exact ⟨by simp, rfl⟩
  · have hx' : (x == 0) = false := by simpa using hx
    rw [if_neg hx]
    go_enter Tryz.func50, Tryz.ntmps50
    go_wp2
    refine wp_loop_rounds 1 ?_
    rw [rounds_succ]
    go_wp2
    go_ret
    exact ⟨rfl, rfl⟩
/-- What comparing two features tells. -/
def cmpF (f g : Feat) : Int := orI (cmpI f.la g.la) (cmpI f.id g.id)
set_option maxHeartbeats 4000000 in
theorem compareFeatures_gro (f g : Feat) (w : World) : Calls Tryz.prog 25 #[.agg (fcell f).toArray, .agg (fcell g).toArray] w fun e w' => e = .returned (.int .i64 (cmpF f g)) ∧ Gro w w' := by
  unfold cmpF
  generalize hA : cmpI f.la g.la = A
  generalize hB : cmpI f.id g.id = B
  have H1 : Hid (∀ W, Calls Tryz.prog 51 #[.int .i64 f.la, .int .i64 g.la] W fun e w' => e = .returned (.int .i64 A) ∧ w' = W) := fun W => by subst hA; exact cmpCompare_any _ _ _
  have H2 : Hid (∀ W, Calls Tryz.prog 51 #[.int .i64 f.id, .int .i64 g.id] W fun e w' => e = .returned (.int .i64 B) ∧ w' = W) := fun W => by subst hB; exact cmpCompare_any _ _ _
  clear hA hB
  unfold fcell
  go_enter Tryz.func25, Tryz.ntmps25
  go_wp2_with fail
  generalize hV : ((w.alloc _).alloc _ : World) = V
  have hB0 : Gro w V := by subst hV; exact ((Gro.refl _).alloc _).alloc _
  have c0 : ∀ W', Gro V W' → W'.cell? ⟨w.heap.size, 0, none⟩ = some (.int .i64 f.id) := fun W' h => by
    rw [h.1.cell (by subst hV; simp <;> omega)]; subst hV; simp [go_sem]
  have c1 : ∀ W', Gro V W' → W'.cell? ⟨w.heap.size, 1, none⟩ = some (.int .i64 f.la) := fun W' h => by
    rw [h.1.cell (by subst hV; simp <;> omega)]; subst hV; simp [go_sem]
  have d0 : ∀ W', Gro V W' → W'.cell? ⟨w.heap.size + 1, 0, none⟩ = some (.int .i64 g.id) := fun W' h => by
    rw [h.1.cell (by subst hV; simp <;> omega)]; subst hV; simp [go_sem]
  have d1 : ∀ W', Gro V W' → W'.cell? ⟨w.heap.size + 1, 1, none⟩ = some (.int .i64 g.la) := fun W' h => by
    rw [h.1.cell (by subst hV; simp <;> omega)]; subst hV; simp [go_sem]
  clear hV
  refine wp_region_noPanic ?_
  refine wp_region_held_drew (S := fun W' => Gro V W') (by kernel_rfl) ((Gro.refl V).drew) (fun hHeld => ?_)
  have hBd : Gro V V.drew := hHeld
  refine takeD (i := 0) (d := some 5) (v := ?vt1) rfl rfl (by kernel_rfl) (by kernel_rfl) (by kernel_rfl) (fun _ _ _ h => h) (Or.inl ⟨by rfl, ?hyt1⟩) (by assumption) ?_
  case hyt1 => (intro w hSw; (try dsimp only at hSw); go_simp <;> with_reducible rfl)
  try simp only [Act.put, List.setIfInBounds_toArray, List.set_cons_zero, List.set_cons_succ]
  refine takeD (i := 1) (d := some 6) (v := ?vt2) rfl rfl (by kernel_rfl) (by kernel_rfl) (by kernel_rfl) (fun _ _ _ h => h) (Or.inl ⟨by rfl, ?hyt2⟩) (by assumption) ?_
  case hyt2 => (intro w hSw; (try dsimp only at hSw); go_simp <;> with_reducible rfl)
  try simp only [Act.put, List.setIfInBounds_toArray, List.set_cons_zero, List.set_cons_succ]
  refine takeD (i := 2) (d := some 7) (v := ?vt3) rfl rfl (by kernel_rfl) (by kernel_rfl) (by kernel_rfl) (fun _ _ _ h => h) (Or.inl ⟨by rfl, ?hyt3⟩) (by assumption) ?_
  case hyt3 => (intro w hSw; (try dsimp only at hSw); go_simp <;> with_reducible rfl)
  try simp only [Act.put, List.setIfInBounds_toArray, List.set_cons_zero, List.set_cons_succ]
  refine takeD (i := 3) (d := some 8) (v := ?vt4) rfl rfl (by kernel_rfl) (by kernel_rfl) (by kernel_rfl) (fun _ _ _ h => h) (Or.inl ⟨by rfl, ?hyt4⟩) (by assumption) ?_
  case hyt4 => (intro w hSw; (try dsimp only at hSw); go_simp <;> with_reducible rfl)
  try simp only [Act.put, List.setIfInBounds_toArray, List.set_cons_zero, List.set_cons_succ]
  refine takeD (i := 5) (d := some 10) (v := ?vt5) rfl rfl (by kernel_rfl) (by kernel_rfl) (by kernel_rfl) (fun _ _ _ h => h) (Or.inl ⟨by rfl, ?hyt5⟩) (by assumption) ?_
  case hyt5 => (intro w hSw; (try dsimp only at hSw); go_simp <;> with_reducible rfl)
  try simp only [Act.put, List.setIfInBounds_toArray, List.set_cons_zero, List.set_cons_succ]
  refine takeD (i := 6) (d := some 11) (v := ?vt6) rfl rfl (by kernel_rfl) (by kernel_rfl) (by kernel_rfl) (fun _ _ _ h => h) (Or.inl ⟨by rfl, ?hyt6⟩) (by assumption) ?_
  case hyt6 => (intro w hSw; (try dsimp only at hSw); go_simp <;> with_reducible rfl)
  try simp only [Act.put, List.setIfInBounds_toArray, List.set_cons_zero, List.set_cons_succ]
  refine takeD (i := 7) (d := some 12) (v := ?vt7) rfl rfl (by kernel_rfl) (by kernel_rfl) (by kernel_rfl) (fun _ _ _ h => h) (Or.inl ⟨by rfl, ?hyt7⟩) (by assumption) ?_
  case hyt7 => (intro w hSw; (try dsimp only at hSw); go_simp <;> with_reducible rfl)
  try simp only [Act.put, List.setIfInBounds_toArray, List.set_cons_zero, List.set_cons_succ]
  refine takeD (i := 8) (d := some 13) (v := ?vt8) rfl rfl (by kernel_rfl) (by kernel_rfl) (by kernel_rfl) (fun _ _ _ h => h) (Or.inl ⟨by rfl, ?hyt8⟩) (by assumption) ?_
  case hyt8 => (intro w hSw; (try dsimp only at hSw); go_simp <;> with_reducible rfl)
  try simp only [Act.put, List.setIfInBounds_toArray, List.set_cons_zero, List.set_cons_succ]
  refine wpAnyH_ready (rs := [4]) (by kernel_rfl) (by simp) ?_
  refine (AllReadyH.cons rfl (fun K hK => ?_) AllReadyH.nil)
  go_simp
  refine (H1.out _).mono ?_
  rintro e w4 ⟨rfl, rfl⟩
  go_wp2_with fail
  refine hK.out _ _ hBd (fun hHeld => ?_)
  clear hK K
  try simp only [Act.put, List.setIfInBounds_toArray, List.set_cons_zero, List.set_cons_succ]
  refine wpAnyH_ready (rs := [9]) (by kernel_rfl) (by simp) ?_
  refine (AllReadyH.cons rfl (fun K hK => ?_) AllReadyH.nil)
  go_simp
  refine (H2.out _).mono ?_
  rintro e w9 ⟨rfl, rfl⟩
  go_wp2_with fail
  refine hK.out _ _ hBd (fun hHeld => ?_)
  clear hK K
  try simp only [Act.put, List.setIfInBounds_toArray, List.set_cons_zero, List.set_cons_succ]
  refine wpAnyH_ready (rs := [10]) (by kernel_rfl) (by simp) ?_
  refine (AllReadyH.cons rfl (fun K hK => ?_) AllReadyH.nil)
  go_simp
  generalize hw9 : (World.alloc _ _ : World) = w9
  have hb9 : Gro V w9 := by subst hw9; exact (Gro.refl _).alloc _
  have g0 : w9.cell? ⟨V.heap.size, 0, none⟩ = some (.int .i64 A) := by subst hw9; simp [go_sem]
  have g1 : w9.cell? ⟨V.heap.size, 1, none⟩ = some (.int .i64 B) := by subst hw9; simp [go_sem]
  have hB9 : Gro V w9.drew := hb9.drew
  replace g0 : w9.drew.cell? ⟨V.heap.size, 0, none⟩ = some (.int .i64 A) := g0
  replace g1 : w9.drew.cell? ⟨V.heap.size, 1, none⟩ = some (.int .i64 B) := g1
  clear hw9
  refine hK.out _ _ hB9 (fun hHeld => ?_)
  clear hK K
  try simp only [Act.put, List.setIfInBounds_toArray, List.set_cons_zero, List.set_cons_succ]
  refine wpAnyH_ready (rs := [11]) (by kernel_rfl) (by simp) ?_
  refine (AllReadyH.cons rfl (fun K hK => ?_) AllReadyH.nil)
  go_simp
  refine (cmpOr_any _ _ A B _ g0 g1).mono ?_
  rintro e w11 ⟨rfl, rfl⟩
  go_wp2_with fail
  refine hK.out _ _ hB9 (fun hHeld => ?_)
  clear hK K
  try simp only [Act.put, List.setIfInBounds_toArray, List.set_cons_zero, List.set_cons_succ]
  refine takeD (i := 12) (d := some 4) (v := ?vt9) rfl rfl (by kernel_rfl) (by kernel_rfl) (by kernel_rfl) (fun _ _ _ h => h) (Or.inl ⟨by rfl, ?hyt9⟩) (by assumption) ?_
  case hyt9 => (intro w hSw; (try dsimp only at hSw); go_simp <;> with_reducible rfl)
  try simp only [Act.put, List.setIfInBounds_toArray, List.set_cons_zero, List.set_cons_succ]
  refine wpAnyH_done (by kernel_rfl) ?_ _
  refine NoPanic.normal ?_
  go_wp2_with fail
  go_ret
  exact ⟨rfl, hB0.trans hB9⟩
end Go.Proofs.YtchofahdcohibaaGreat
