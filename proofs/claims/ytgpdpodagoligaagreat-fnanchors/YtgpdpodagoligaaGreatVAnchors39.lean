/- Several texts in one. -/
import Derived.Test.YtgpdpodagoligaaGreatVAnchors6
import Derived.Test.YtgpdpodagoligaaGreatRows
import Derived.Test.YtgpdpodagoligaaGreatVAnchors38
import Derived.Test.YtgpdpodagoligaaGreatVAnchors1
import Derived.WalkKit
import Derived.WalkSpells
import Derived.WalkLawsBesides
import Derived.Outline
import Derived.Deep.RegionHeld3
import Derived.Deep.OwnRows
import Derived.Deep.LoopGhost
import Derived.Laws.OwnMore
import Derived.Test.YtgpdpodagoligaaGreatVAnchors30

/- Bytes are copied, compared, marked, and the marks are found again. -/

namespace Go.Proofs.YtgpdpodagoligaaGreat
open Go.RowKit
set_option linter.unusedSimpArgs false
set_option linter.unusedVariables false
set_option maxRecDepth 100000

theorem There.set1 {W : World} {r n : Nat} (h : There W r n) (o : Nat) (v : Value) : There (W.setCell ⟨r, o, none⟩ v) r n := fun o' ho => by
  obtain ⟨u, hu⟩ := (h o' ho).1
  refine ⟨?_, ?_⟩
  · by_cases e : o = o'
    · subst e
      exact ⟨v, World.cell?_setCell_same _ _ _ (by rw [hu])⟩
    · exact ⟨u, by rw [World.cell?_setCell_other]; exact hu; simp [e]⟩
  · rw [World.frozen?_setCell]; exact (h o' ho).2
theorem fillB {W : World} {B n k : Nat} {Z : Nat → Int} (hT : There W B n) (hk : k < n) (hp : BsAt W B 0 k Z) : BsAt (W.setCell ⟨B, k, none⟩ (.int .u8 (Z k))) B 0 (k + 1) Z := fun i hi => by
  by_cases e : i = k
  · subst e
    obtain ⟨u, hu⟩ := (hT i hk).1
    simpa using World.cell?_setCell_same _ _ _ (by rw [hu])
  · rw [World.cell?_setCell_other]
    · exact hp i (by omega)
    · simp <;> omega
theorem grown_set1 {w w' : World} {b : Nat} (h : w.grownBy w' (some b)) (o : Nat) (v : Value) : w.grownBy (w'.setCell ⟨b, o, none⟩ v) (some b) := by
  have hb : Below b w' (w'.setCell ⟨b, o, none⟩ v) := (Below.refl b w').setCell (Nat.le_refl _) v
  exact ⟨hb.os.trans h.os, hb.tape.trans h.tape, hb.output.trans h.output, Nat.le_trans h.size hb.size, fun k hk hne => (Below.heap_setCell w' ⟨b, o, none⟩ v k (fun e => hne (by simp at e; rw [e]))).trans (h.block k hk hne)⟩
theorem grown_refl1 (w : World) (row : Option Nat) : w.grownBy w row := ⟨rfl, rfl, rfl, Nat.le_refl _, fun _ _ _ => rfl⟩
theorem make_bytes (n : Nat) (h : n ≤ 1048576) (w : World) :
    (Instr.makeSlice 22 (.int .i64 (n : Int)) (.int .i64 (n : Int))).run Tryz.prog w = .ok (.slice (some ⟨w.heap.size, 0, none⟩) n n) (w.alloc (.cells (madeCells #[.int .u8 0] n) 5)) := by
  obtain ⟨i, hi, hz, hs, hb⟩ := info_parts info_u8
  have hr := run_make (P := Tryz.prog) w 22 5 i _ Tryz.underlying22 hi hz .i64 .i64 (n : Int) (n : Int) (by omega) (Int.le_refl _) (by rw [hb]; omega) (by omega)
  simp only [Int.toNat_natCast, hs, Nat.mul_one] at hr
  exact hr
theorem there_madeB (n : Nat) (w : World) (t : TypeId) : There (w.alloc (.cells (madeCells #[.int .u8 0] n) t)) w.heap.size n := fun o ho => by
  have hz := size_madeCells #[.int .u8 0] n
  refine ⟨⟨(madeCells #[.int .u8 0] n)[o]'(by rw [hz]; exact ho), ?_⟩, World.frozen?_alloc_at _ _ _ _ rfl⟩
  rw [World.cell?_alloc_at _ _ _ _ rfl]
  exact Array.getElem?_eq_getElem _

/-- The marks from k0 on. -/
def mkB (k0 i : Nat) : Int := ((k0 + i) % 256 : Nat)
end Go.Proofs.YtgpdpodagoligaaGreat
/- Answers with a code and bytes in memory of their own: they are compared, marked, and the marks are found again. -/

namespace Go.Proofs.YtgpdpodagoligaaGreat
open Go.RowKit
set_option linter.unusedSimpArgs false
set_option linter.unusedVariables false
set_option maxRecDepth 100000

/-- v is a list of n bytes in a block from base on. -/
def OwnB (w : World) (base : Nat) (v : Value) (n : Nat) (Z : Nat → Int) : Prop :=
  ∃ a cap, v = .slice a n cap ∧ n ≤ cap ∧ (n = 0 ∨ ∃ b, a = some ⟨b, 0, none⟩ ∧ base ≤ b ∧ b < w.heap.size ∧ BsAt w b 0 n Z ∧ There w b n)
/-- The cells of bytes. -/
def cellsB (l : List Int) : List Value := l.map (.int .u8 ·)
def zz (l : List Int) (i : Nat) : Int := l.getD i 0
/-- v is a row of its own with the bytes l. -/
def RowB (base : Nat) (w : World) (v : Value) (l : List Int) : Prop := w.ownsRow base 5 1 v l.length (cellsB l)
theorem cellsB_len (l : List Int) : (cellsB l).length = l.length := by simp [cellsB]
theorem cellsB_add (l m : List Int) : cellsB (l ++ m) = cellsB l ++ cellsB m := by simp [cellsB]
theorem cellsB_at (l : List Int) (i : Nat) (h : i < l.length) : (cellsB l)[i]? = some (.int .u8 (zz l i)) := by simp [cellsB, zz, h]
theorem RowB.own {base : Nat} {w : World} {v : Value} {l : List Int} (h : RowB base w v l) : OwnB w base v l.length (zz l) := by
  obtain ⟨h1, h2 | ⟨g, cp, cur, hv, hg, hh, hkc, hcm, hcs, htk⟩⟩ := h
  · obtain ⟨rfl, h0⟩ := h2
    rw [h0]
    exact ⟨none, 0, rfl, Nat.le_refl _, .inl rfl⟩
  · have hgl : g < w.heap.size := by
      rcases Nat.lt_or_ge g w.heap.size with h' | h'
      · exact h'
      · rw [Array.getElem?_eq_none h'] at hh; cases hh
    have hrow : w.ownsRow base 5 1 (.slice (some ⟨g, 0, none⟩) l.length cp) l.length (cellsB l) := ⟨h1, .inr ⟨g, cp, cur, rfl, hg, hh, hkc, hcm, hcs, htk⟩⟩
    refine ⟨some ⟨g, 0, none⟩, cp, hv, hkc, .inr ⟨g, rfl, hg, hgl, fun i hi => ?_, fun o ho => ⟨?_, hrow.frozenAt o⟩⟩⟩
    · simp only [Nat.zero_add]
      exact (hrow.cellAt _ (by omega)).trans (cellsB_at l i hi)
    · rw [hrow.cellAt o (by omega)]
      exact ⟨_, cellsB_at l o ho⟩
theorem RowB.below {base : Nat} {w w' : World} {v : Value} {l : List Int} (h : RowB base w v l) (hb : Below w.heap.size w w') : RowB base w' v l := by
  obtain ⟨h1, h2 | ⟨g, cp, cur, hv, hg, hh, hr⟩⟩ := h
  · exact ⟨h1, .inl h2⟩
  · refine ⟨h1, .inr ⟨g, cp, cur, hv, hg, ?_, hr⟩⟩
    have hgl : g < w.heap.size := by
      rcases Nat.lt_or_ge g w.heap.size with h' | h'
      · exact h'
      · rw [Array.getElem?_eq_none h'] at hh; cases hh
    rw [hb.block g hgl]
    exact hh
theorem RowB.other {base r o : Nat} {w : World} {v u : Value} {l : List Int} (h : RowB base w v l) (hr : r < base) : RowB base (w.setCell ⟨r, o, none⟩ u) v l := by
  obtain ⟨h1, h2 | ⟨g, cp, cur, hv, hg, hh, hr'⟩⟩ := h
  · exact ⟨h1, .inl h2⟩
  · exact ⟨h1, .inr ⟨g, cp, cur, hv, hg, by rw [Below.heap_setCell _ _ _ _ (by simp; omega)]; exact hh, hr'⟩⟩
theorem RowB.wide {base B : Nat} {w : World} {v : Value} {l : List Int} (h : RowB base w v l) (hB : B ≤ base) : RowB B w v l := by
  obtain ⟨h1, h2 | ⟨g, cp, cur, hv, hg, hr⟩⟩ := h
  · exact ⟨h1, .inl h2⟩
  · exact ⟨h1, .inr ⟨g, cp, cur, hv, by omega, hr⟩⟩
theorem RowB.no (base : Nat) (w : World) : RowB base w (.slice none 0 0) [] := World.ownsRow_nil _ _ _ _
/-- A row that is not empty. -/
theorem RowB.at {base : Nat} {w : World} {v : Value} {l : List Int} (h : RowB base w v l) (hne : 0 < l.length) :
    ∃ g cap, v = .slice (some ⟨g, 0, none⟩) l.length cap ∧ base ≤ g ∧ g < w.heap.size ∧ l.length ≤ cap ∧ BsAt w g 0 l.length (zz l) := by
  obtain ⟨a, cap, hv, hc, h0 | ⟨b, rfl, hb, hl, hp, ht⟩⟩ := h.own
  · omega
  · exact ⟨b, cap, hv, hb, hl, hc, hp⟩
theorem BsAt.news {w : World} {b off : Nat} {l : List Int} (h : BsAt w b off l.length (zz l)) : ∀ j u, (cellsB l)[j]? = some u → w.cell? ((⟨b, off, none⟩ : Addr).add j) = some u := fun j u hj => by
  have hl : j < l.length := by
    rcases Nat.lt_or_ge j l.length with h' | h'
    · exact h'
    · rw [List.getElem?_eq_none (by rw [cellsB_len]; exact h')] at hj; cases hj
  rw [cellsB_at l j hl] at hj
  injection hj with hj
  subst hj
  have e : (⟨b, off, none⟩ : Addr).add j = ⟨b, off + j, none⟩ := by
    unfold Addr.add
    by_cases h : j = 0 <;> simp [h]
  rw [e]
  exact h j hl
theorem cellsB_one (l : List Int) : ∀ u ∈ cellsB l, u.oneCell' = true := fun u hu => by
  simp [cellsB] at hu
  obtain ⟨z, _, rfl⟩ := hu
  rfl

theorem OwnB.below {w w' : World} {base : Nat} {v : Value} {n : Nat} {Z : Nat → Int} (h : OwnB w base v n Z) (hb : Below w.heap.size w w') : OwnB w' base v n Z := by
  obtain ⟨a, cap, hv, hc, h0 | ⟨b, ha, hbb, hl, hp, ht⟩⟩ := h
  · exact ⟨a, cap, hv, hc, .inl h0⟩
  · exact ⟨a, cap, hv, hc, .inr ⟨b, ha, hbb, Nat.lt_of_lt_of_le hl hb.size, hp.below hb hl, ht.below hb⟩⟩
theorem OwnB.pts {w : World} {base : Nat} {v : Value} {n : Nat} {Z : Nat → Int} (h : OwnB w base v n Z) : ∃ a cap, v = .slice a n cap ∧ n ≤ cap ∧ IsBytes w a n Z := by
  obtain ⟨a, cap, hv, hc, h0 | ⟨b, ha, hb, hl, hp, ht⟩⟩ := h
  · exact ⟨a, cap, hv, hc, .inl h0⟩
  · exact ⟨a, cap, hv, hc, .inr ⟨b, 0, ha, hl, hp⟩⟩
theorem OwnB.is {w : World} {base : Nat} {a : Option Addr} {n cap : Nat} {Z : Nat → Int} (h : OwnB w base (.slice a n cap) n Z) : IsBytes w a n Z := by
  obtain ⟨a', cap', hv, hc, hi⟩ := h.pts
  injection hv with h1 h2 h3
  subst h1
  exact hi
/-- Bytes that lie below block T. -/
def UnderB (T : Nat) (w : World) (a : Option Addr) (n : Nat) (Z : Nat → Int) : Prop := n = 0 ∨ ∃ b off, a = some ⟨b, off, none⟩ ∧ b < T ∧ BsAt w b off n Z
theorem UnderB.is {T : Nat} {w : World} {a : Option Addr} {n : Nat} {Z : Nat → Int} (h : UnderB T w a n Z) (hT : T ≤ w.heap.size) : IsBytes w a n Z := by
  rcases h with h | ⟨b, off, e, hl, hp⟩
  · exact .inl h
  · exact .inr ⟨b, off, e, by omega, hp⟩
theorem UnderB.below {T B : Nat} {w w' : World} {a : Option Addr} {n : Nat} {Z : Nat → Int} (h : UnderB T w a n Z) (hb : Below B w w') (hB : T ≤ B) : UnderB T w' a n Z := by
  rcases h with h | ⟨b, off, e, hl, hp⟩
  · exact .inl h
  · exact .inr ⟨b, off, e, hl, hp.below hb (by omega)⟩
theorem UnderB.row {T : Nat} {row : Option Nat} {w w' : World} {a : Option Addr} {n : Nat} {Z : Nat → Int} (h : UnderB T w a n Z) (hg : w.grownBy w' row) (hs : ∀ s, row = some s → T ≤ s) : UnderB T w' a n Z := by
  rcases h with h | ⟨b, off, e, hl, hp⟩
  · exact .inl h
  · exact .inr ⟨b, off, e, hl, fun i hi => hg.cell (hp i hi) (fun e => by have := hs b e.symm; omega)⟩
theorem below_rowB {B : Nat} {row : Option Nat} {a b : World} (h : a.grownBy b row) (hs : ∀ s, row = some s → B ≤ s) (hl : B ≤ a.heap.size) : Below B a b :=
  ⟨h.os, h.tape, h.output, h.size, fun k hk => h.block k (by omega) (fun e => by have := hs k e.symm; omega)⟩
theorem grown_transB {a b c : World} {r : Option Nat} (h : a.grownBy b r) (k : b.grownBy c r) : a.grownBy c r :=
  ⟨k.os.trans h.os, k.tape.trans h.tape, k.output.trans h.output, Nat.le_trans h.size k.size, fun j hj hs => (k.block j (Nat.lt_of_lt_of_le hj h.size) hs).trans (h.block j hj hs)⟩
theorem grown_belowB {a b : World} {r : Option Nat} (h : Below a.heap.size a b) : a.grownBy b r := ⟨h.os, h.tape, h.output, h.size, fun j hj _ => h.block j hj⟩
theorem bl_cellB {w w' : World} {p : Addr} {v : Value} (hb : Below w.heap.size w w') (h : w.cell? p = some v) : w'.cell? p = some v := (hb.cell (World.block_lt_of_cell? _ _ h)).trans h
theorem ro_cellB {w w' : World} {b o : Nat} {row : Option Nat} {v : Value} (hg : w.grownBy w' row) (h : w.cell? ⟨b, o, none⟩ = some v) (hs : ∀ s, row = some s → b ≠ s) : w'.cell? ⟨b, o, none⟩ = some v := hg.cell h (fun e => hs _ e.symm rfl)

end Go.Proofs.YtgpdpodagoligaaGreat
/- Answers with a tile, compared, marked and held. -/

namespace Go.Proofs.YtgpdpodagoligaaGreat
open Go.RowKit
set_option linter.unusedSimpArgs false
set_option linter.unusedVariables false
set_option maxRecDepth 100000

/-- An answer with a tile. -/
abbrev trV (c z x y : Int) (v : Value) : Value := .agg #[.int .i64 c, .int .i64 z, .int .i64 x, .int .i64 y, v]
/-- An answer with a tile in memory. -/
def T5At (w : World) (p : Nat) (c z x y : Int) (v : Value) : Prop := w.cell? ⟨p, 0, none⟩ = some (.int .i64 c) ∧ w.cell? ⟨p, 1, none⟩ = some (.int .i64 z) ∧ w.cell? ⟨p, 2, none⟩ = some (.int .i64 x) ∧ w.cell? ⟨p, 3, none⟩ = some (.int .i64 y) ∧ w.cell? ⟨p, 4, none⟩ = some v
theorem T5At.below {w w' : World} {p : Nat} {c z x y : Int} {v : Value} (h : T5At w p c z x y v) (hb : Below w.heap.size w w') : T5At w' p c z x y v :=
  ⟨bl_cellB hb h.1, bl_cellB hb h.2.1, bl_cellB hb h.2.2.1, bl_cellB hb h.2.2.2.1, bl_cellB hb h.2.2.2.2⟩
theorem T5At.mid {w w' : World} {lo hi p : Nat} {c z x y : Int} {v : Value} (h : T5At w p c z x y v) (hM : MidB lo hi w w') (ho : p < lo ∨ hi ≤ p) : T5At w' p c z x y v := ⟨hM.cell h.1 ho, hM.cell h.2.1 ho, hM.cell h.2.2.1 ho, hM.cell h.2.2.2.1 ho, hM.cell h.2.2.2.2 ho⟩
end Go.Proofs.YtgpdpodagoligaaGreat
/- What BuildTile tells, as an answer that owns its memory. -/

namespace Go.Proofs.YtgpdpodagoligaaGreat
open Go.RowKit
set_option linter.unusedSimpArgs false
set_option linter.unusedVariables false
set_option maxRecDepth 100000

/-- A feature as it is at a zoom. -/
noncomputable def bF (z : Int) (f : Feat) : Feat := ⟨f.id, f.la, f.ki, f.wi, none, (simL z f).length, 0, px (simL z f), py (simL z f), f.lab, f.pr⟩
theorem bF_sim {z : Int} {f t : Feat} (h : simOf z f t) : t.same (bF z f) := by
  obtain ⟨h1, h2, h3, h4, h5, h6, h7, h8, h9⟩ := h
  exact ⟨h1, h2, h3, h4, h5, h6, h7, h8, h9⟩
theorem bF_same {z : Int} {f g : Feat} (h : f.same g) : bF z f = bF z g := by
  unfold bF
  rw [simL_same h]
  obtain ⟨h1, h2, h3, h4, h5, h6, h7, h8, h9⟩ := h
  rw [h1, h2, h3, h4, h8, h9]
theorem rchF_same {z x y : Int} {f g : Feat} (h : f.same g) : rchF z x y f = rchF z x y g := by
  unfold rchF
  rw [simL_same h, h.2.2.2.1]
theorem srtF_sameB {n : Nat} {G F : Nat → Feat} (h : ∀ i, i < n → (G i).same (F i)) : srtF n G = srtF n F := srtK_congr n (fun j hj => ⟨(h j hj).2.1, (h j hj).1⟩)
theorem srtF_memB {n : Nat} {G : Nat → Feat} {j : Nat} (hj : j ∈ srtF n G) : j < n := by
  have hlen : (srtF n G).length = n := srtK_len _ _ _
  obtain ⟨i, hi, e⟩ := List.getElem_of_mem hj
  have := srtF_lt n G i (by omega)
  rw [List.getD_eq_getElem?_getD, List.getElem?_eq_getElem hi] at this
  simp at this
  omega
theorem chs_same {z x y : Int} {n : Nat} {G F : Nat → Feat} (h : ∀ i, i < n → (G i).same (F i)) : chs z x y n G = chs z x y n F := by
  unfold chs
  rw [srtF_sameB h]
  refine List.filter_congr fun j hj => ?_
  exact rchF_same (h j (srtF_memB hj))
theorem chs_lt {z x y : Int} {n : Nat} {G : Nat → Feat} (i : Nat) (hi : i < (chs z x y n G).length) : (chs z x y n G).getD i 0 < n := by
  have e : (chs z x y n G).getD i 0 = (chs z x y n G)[i] := by simp [List.getD_eq_getElem?_getD, hi]
  rw [e]
  have hm : (chs z x y n G)[i] ∈ chs z x y n G := List.getElem_mem hi
  exact srtF_memB (List.mem_filter.1 hm).1
theorem chs_le {z x y : Int} {n : Nat} {G : Nat → Feat} : (chs z x y n G).length ≤ n := by
  rw [← chsM_all]; exact chsM_le
open Classical in
/-- What BuildTile tells: so many features, these ones. -/
noncomputable def btM (z x y : Int) (n : Nat) (G : Nat → Feat) : Nat := if btC z x y n G = 0 then (chs z x y n G).length else 0
noncomputable def btG (z x y : Int) (n : Nat) (G : Nat → Feat) (i : Nat) : Feat := bF z (G ((chs z x y n G).getD i 0))
noncomputable def btK (z x y : Int) (n : Nat) (G : Nat → Feat) (v : Int) : Int := if btC z x y n G = 0 then v else 0
theorem bt_same {z x y : Int} {n : Nat} {G F : Nat → Feat} (h : ∀ i, i < n → (G i).same (F i)) : btC z x y n G = btC z x y n F ∧ btM z x y n G = btM z x y n F ∧ (∀ i, i < btM z x y n F → btG z x y n G i = btG z x y n F i) ∧ ∀ v, btK z x y n G v = btK z x y n F v := by
  have e1 : btC z x y n G = btC z x y n F := by unfold btC; rw [featsC_same h]
  have e2 := chs_same (z := z) (x := x) (y := y) h
  refine ⟨e1, by unfold btM; rw [e1, e2], fun i hi => ?_, fun v => by unfold btK; rw [e1]⟩
  unfold btG
  rw [e2]
  unfold btM at hi
  split at hi
  · exact bF_same (h _ (chs_lt i hi))
  · exact absurd hi (Nat.not_lt_zero _)
theorem btC_zero {z x y : Int} {n : Nat} {G : Nat → Feat} (h : btC z x y n G = 0) : refB z x y = true ∧ featsC n G = 0 := by
  unfold btC at h
  split at h
  · rename_i hr; exact ⟨hr, h⟩
  · exact absurd h (by decide)
theorem btM_ok (z x y : Int) (n : Nat) (G : Nat → Feat) : btM z x y n G ≤ 12 ∧ ∀ i, i < btM z x y n G → (btG z x y n G i).n ≤ 12 := by
  unfold btM
  split
  · rename_i h
    obtain ⟨hr, hf⟩ := btC_zero h
    have hz : zoomB z = true := by simp [refB] at hr; exact hr.1
    obtain ⟨h12, _, hok⟩ := featsC_ok hf
    exact ⟨Nat.le_trans chs_le h12, fun i hi => (simL_facts (hok _ (chs_lt i hi)) hz).2.1⟩
  · exact ⟨by omega, fun i hi => absurd hi (Nat.not_lt_zero _)⟩
/-- An answer of BuildTile, that owns its memory. -/
def BtAns (C z x y : Int) (m : Nat) (G : Nat → Feat) (w : World) (e : Ending) (w' : World) : Prop :=
  ∃ a cap T, e = .returned (trV C z x y (.slice a m cap)) ∧ SrcB w.heap.size w'.heap.size w' a m T ∧ (∀ i, i < m → (T i).same (G i)) ∧ OwnR w' w.heap.size w'.heap.size a m (fun i => (T i).n) (fun i => (T i).cap) ∧ m ≤ cap ∧ Below w.heap.size w w'
/-- One of the model, that need not. -/
def BsAns (C z x y : Int) (m : Nat) (G : Nat → Feat) (w : World) (e : Ending) (w' : World) : Prop :=
  ∃ a cap T, e = .returned (trV C z x y (.slice a m cap)) ∧ SrcB w.heap.size w'.heap.size w' a m T ∧ (∀ i, i < m → (T i).same (G i)) ∧ m ≤ cap ∧ Below w.heap.size w w'
theorem SrcB.is {lo : Nat} {w : World} {a : Option Addr} {n : Nat} {T : Nat → Feat} (h : SrcB lo w.heap.size w a n T) : IsFs w a n T := by
  rcases h with h | ⟨g, ea, ⟨g1, g2⟩, h⟩
  · exact .inl h
  · refine .inr ⟨g, 0, ea, g2, fun i hi => ?_⟩
    obtain ⟨hF, q, o, eq, ⟨_, q2⟩, hp⟩ := h i hi
    rw [Nat.zero_add]
    exact ⟨hF, .inr ⟨q, o, eq, q2, hp⟩⟩
theorem SfRow.own {base k : Nat} {w : World} {v : Value} {z : Int} {H T : Nat → Feat} (h : SfRow base w v k z H T) (hok : ∀ i, i < k → 0 < (simL z (H i)).length) :
    ∃ a cap, v = .slice a k cap ∧ k ≤ cap ∧ SrcB base w.heap.size w a k T ∧ OwnR w base w.heap.size a k (fun i => (T i).n) (fun i => (T i).cap) := by
  rcases h.1.at with ⟨hv, hl⟩ | ⟨g, c, hv, hg, hgl, hc, hT, hF⟩
  · have hk : k = 0 := by simpa using congrArg List.length hl
    subst hk
    exact ⟨none, 0, hv, Nat.le_refl _, .inl rfl, .inl rfl⟩
  · rw [List.length_range] at hv hc hT hF
    have hat : ∀ i, i < k → ∃ q, (T i).a = some ⟨q, 0, none⟩ ∧ (base ≤ q ∧ q < w.heap.size) ∧ q ≠ g ∧ There w q ((T i).n * 2) ∧ PtsAt w q 0 (T i).n (T i).X (T i).Y := fun i hi => by
      obtain ⟨⟨_, _, _, _, e5, e6, e7, _, _⟩, r⟩ := h.2.1 i hi
      have hp := hok i hi
      have r' := r
      obtain ⟨a', c', hv2, _, h3 | ⟨q, ha, hq, hql, hpt, hqT⟩⟩ := r'.own
      · omega
      injection hv2 with k1 k2 k3
      have hai : (T i).a = some ⟨q, 0, none⟩ := k1.trans ha
      refine ⟨q, hai, ⟨hq, hql⟩, ?_, ?_, ?_⟩
      · intro e'
        obtain ⟨c1, h1⟩ := heap_of_row r q (by rw [hai]; rfl)
        obtain ⟨c2, h2⟩ := heap_of_row h.1 g (by rw [hv]; rfl)
        rw [e', h2] at h1
        injection h1 with h1
        injection h1 with _ h1
        exact absurd h1 (by decide)
      · rw [e5]; exact hqT
      · rw [e5, e6, e7]; exact hpt
    have hFi : ∀ i, i < k → FeatAt w g (i * 7) (T i).id (T i).la (T i).ki (T i).wi (.slice (T i).a (T i).n (T i).cap) (T i).lab (T i).pr := fun i hi => by
      have hF' := hF i hi
      have er : (List.range k).getD i 0 = i := by simp [List.getD, hi]
      rw [er] at hF'
      exact hF'
    refine ⟨_, c, hv, hc, .inr ⟨g, rfl, ⟨hg, hgl⟩, fun i hi => ⟨hFi i hi, ?_⟩⟩, .inr ⟨g, fun i => (((T i).a).map (·.block)).getD 0, rfl, ⟨hg, hgl, Nat.le_refl _⟩, hT, fun i hi => ?_, fun i j hi hj hij => ?_⟩⟩
    · obtain ⟨q, ea, hq, _, _, hp⟩ := hat i hi
      exact ⟨q, 0, ea, hq, hp⟩
    · obtain ⟨q, ea, hq, hne, hTq, _⟩ := hat i hi
      simp only [ea, Option.map_some, Option.getD_some]
      refine ⟨⟨hq.1, hq.2, hne⟩, hTq, ?_⟩
      have := (hFi i hi).2.2.2.2.1
      rw [ea] at this
      exact this
    · obtain ⟨q1, e1, _⟩ := hat i hi
      obtain ⟨q2, e2, _⟩ := hat j hj
      simp only [e1, e2, Option.map_some, Option.getD_some] at hij
      subst hij
      exact h.2.2 i j hi hj (e1.trans e2.symm)
theorem SrcB.wide {lo lo' base n : Nat} {w : World} {a : Option Addr} {T : Nat → Feat} (h : SrcB lo base w a n T) (hl : lo' ≤ lo) : SrcB lo' base w a n T := by
  rcases h with h | ⟨g, ea, ⟨g1, g2⟩, h⟩
  · exact .inl h
  · refine .inr ⟨g, ea, ⟨by omega, g2⟩, fun i hi => ?_⟩
    obtain ⟨hF, q, o, eq, ⟨q1, q2⟩, hp⟩ := h i hi
    exact ⟨hF, q, o, eq, ⟨by omega, q2⟩, hp⟩
theorem OwnR.wide {lo lo' hi m : Nat} {w : World} {a : Option Addr} {N C : Nat → Nat} (h : OwnR w lo hi a m N C) (hl : lo' ≤ lo) : OwnR w lo' hi a m N C := by
  rcases h with h | ⟨g, q, e, ⟨h1, h2, h3⟩, h4, h5, h6⟩
  · exact .inl h
  · exact .inr ⟨g, q, e, ⟨by omega, h2, h3⟩, h4, fun i hi => ⟨⟨by have := (h5 i hi).1.1; omega, (h5 i hi).1.2⟩, (h5 i hi).2⟩, h6⟩
theorem impl_BuildTile_any (z x y : Int) (b n cap : Nat) (G : Nat → Feat) (w : World) (hg : FsAt w b 0 n G) (hbl : b < w.heap.size) (hs : SmallFs n G) (hcap : n ≤ cap) :
    Calls Tryz.prog 9 #[.slice (some ⟨b, 0, none⟩) n cap, refV z x y] w (BtAns (btC z x y n G) (btK z x y n G z) (btK z x y n G x) (btK z x y n G y) (btM z x y n G) (btG z x y n G) w) := by
  cases hr : refB z x y
  · have hc : btC z x y n G = 3 := by unfold btC; rw [hr]; rfl
    have hm : btM z x y n G = 0 := by unfold btM; rw [hc]; rfl
    have hk : ∀ v, btK z x y n G v = 0 := fun v => by unfold btK; rw [hc]; rfl
    rw [hc, hm, hk, hk, hk]
    refine (impl_BuildTile_ref z x y _ _ _ _ rfl w hr).mono ?_
    rintro e w' ⟨rfl, hb⟩
    exact ⟨none, 0, G, rfl, .inl rfl, fun i hi => absurd hi (Nat.not_lt_zero _), .inl rfl, Nat.le_refl _, hb⟩
  · have hc : btC z x y n G = featsC n G := by unfold btC; rw [hr]; rfl
    by_cases hf : featsC n G = 0
    · have hm : btM z x y n G = (chs z x y n G).length := by unfold btM; rw [hc, if_pos hf]
      have hk : ∀ v, btK z x y n G v = v := fun v => by unfold btK; rw [hc, if_pos hf]
      have hz : zoomB z = true := by simp [refB] at hr; exact hr.1
      rw [hc, hm, hk, hk, hk, hf]
      refine (impl_BuildTile_ok z x y b n cap G w hg hbl hs hcap hf hr).mono ?_
      rintro e w' ⟨base, a, c, T, rfl, hS, hB, hb⟩
      obtain ⟨a', c', hv, hle, h1, h2⟩ := hS.own (fun i hi => (simL_facts ((featsC_ok hf).2.2 _ (chs_lt i hi)) hz).2.2.2)
      injection hv with e1 e2 e3
      subst e1 e3
      exact ⟨a, c, T, rfl, h1.wide hB, fun i hi => bF_sim (hS.2.1 i hi).1, h2.wide hB, hle, hb⟩
    · have hm : btM z x y n G = 0 := by unfold btM; rw [hc, if_neg hf]
      have hk : ∀ v, btK z x y n G v = 0 := fun v => by unfold btK; rw [hc, if_neg hf]
      rw [hc, hm, hk, hk, hk]
      refine (impl_BuildTile_fts z x y b n cap G w hg hbl hs hcap hf hr).mono ?_
      rintro e w' ⟨rfl, hb⟩
      exact ⟨none, 0, G, rfl, .inl rfl, fun i hi => absurd hi (Nat.not_lt_zero _), .inl rfl, Nat.le_refl _, hb⟩
end Go.Proofs.YtgpdpodagoligaaGreat
