/- Several texts in one. -/
import Derived.Test.YtfknbijpimpbfaaVOnlies36
import Derived.Test.YtfknbijpimpbfaaVOnlies1
import Derived.Laws.OwnMore

/- Drawn points: whatever they are, the calls return and keep all but the source. -/

namespace Go.Proofs.Ytfknbijpimpbfaa
open Go.RowKit
set_option linter.unusedSimpArgs false
set_option linter.unusedVariables false

theorem There.keeps {s r n : Nat} {w w' : World} (h : There w r n) (k : Keeps s w w') (hs : r ≠ s) : There w' r n := fun o ho => by
  obtain ⟨u, hu⟩ := (h o ho).1
  have hl := World.block_lt_of_cell? _ _ hu
  exact ⟨⟨u, (k.cell (p := ⟨r, o, none⟩) hl hs).trans hu⟩, (k.frozen (p := ⟨r, o, none⟩) hl hs).trans (h o ho).2⟩

/-- A store into a block that is not the source's and not the bytes'. -/
theorem Src.other {a : Option Addr} {n cap : Nat} {Z : Nat → Int} {s t r : Nat} {w : World} (h : Src a n cap Z s t w) (o : Nat) (v : Value) (hr : s < r) : Src a n cap Z s t (w.setCell ⟨r, o, none⟩ v) := by
  have ne : ∀ k o', k ≤ s → (⟨r, o, none⟩ : Addr) ≠ ⟨k, o', none⟩ := fun k o' hk e => by injection e with e; omega
  refine ⟨?_, ?_, ?_, ?_, h.rng, h.max⟩
  · rw [World.cell?_setCell_other]
    · exact h.code
    · exact ne _ _ (Nat.le_refl _)
  · rw [World.cell?_setCell_other]
    · exact h.at'
    · exact ne _ _ (Nat.le_refl _)
  · rw [World.frozen?_setCell]; exact h.wr
  · rcases h.bytes with h0 | ⟨b, off, e, hs, hz⟩
    · exact .inl h0
    · refine .inr ⟨b, off, e, hs, fun i hi => ?_⟩
      rw [World.cell?_setCell_other]
      · exact hz i hi
      · exact ne _ _ (by omega)
/-- Two stores into a block that was not there keep all. -/
theorem Keeps.own1 {s r : Nat} {w w' : World} (h : Keeps s w w') (hr : w.heap.size ≤ r) (o : Nat) (v : Value) : Keeps s w (w'.setCell ⟨r, o, none⟩ v) := by
  have hb : Below r w' (w'.setCell ⟨r, o, none⟩ v) := (Below.refl r w').setCell (Nat.le_refl _) v
  exact ⟨hb.os.trans h.os, hb.tape.trans h.tape, hb.output.trans h.output, Nat.le_trans h.size hb.size, fun k hk hs => (hb.block k (by omega)).trans (h.block k hk hs)⟩

set_option maxHeartbeats 1000000 in
theorem l1Pick_any (a : Option Addr) (n cap : Nat) (Z : Nat → Int) (s t L k : Nat) (V : Nat → Int) (w : World) (h : Src a n cap Z s t w) (hcap : n ≤ cap) (ht : t ≤ 900) (hk : 0 < k) (hk9 : k ≤ 10)
    (hL : L ≠ s) (hV : ∀ i, i < k → w.cell? ⟨L, i, none⟩ = some (.int .i64 (V i))) :
    Calls Try.prog 45 #[.pointer (some ⟨s, 0, none⟩), .slice (some ⟨L, 0, none⟩) k k] w fun e w' => ∃ x : Int, e = .returned (.int .i64 x) ∧ Src a n cap Z s (t + 1) w' ∧ Keeps s w w' := by
  have HS : Hid (Src a n cap Z s t w) := h
  have HV : Hid (∀ i, i < k → w.cell? ⟨L, i, none⟩ = some (.int .i64 (V i))) := hV
  clear h hV
  go_enter Try.func45, Try.ntmps45
  go_wp2_with fail
  refine (l1Next_any a n cap Z s t k _ HS.out hcap (by omega) hk (by omega)).mono ?_
  rintro e w1 ⟨v, rfl, hv, hS1, hK1⟩
  have hc := (hK1.cell (p := ⟨L, v, none⟩) (World.block_lt_of_cell? _ _ (HV.out v hv)) hL).trans (HV.out v hv)
  have hvi : (v : Int) < (k : Int) := by omega
  have HS1 : Hid (Src a n cap Z s (t + 1) w1) := hS1
  have HK1 : Hid (Keeps s w w1) := hK1
  clear hS1 hK1
  go_wp2
  go_ret
  exact ⟨_, rfl, HS1.out, HK1.out⟩

theorem l1Pick_new4 (a : Option Addr) (n cap : Nat) (Z : Nat → Int) (s t : Nat) (x0 x1 x2 x3 : Int) (w : World) (T : TypeId) (h : Src a n cap Z s t w) (hcap : n ≤ cap) (ht : t ≤ 900) :
    Calls Try.prog 45 #[.pointer (some ⟨s, 0, none⟩), .slice (some ⟨w.heap.size, 0, none⟩) 4 4] (w.alloc (.cells #[.int .i64 x0, .int .i64 x1, .int .i64 x2, .int .i64 x3] T)) fun e w' => ∃ x : Int, e = .returned (.int .i64 x) ∧ Src a n cap Z s (t + 1) w' ∧ Keeps s w w' := by
  have hsl : s < w.heap.size := World.block_lt_of_cell? _ _ h.code
  have hb : Below w.heap.size w (w.alloc (.cells #[.int .i64 x0, .int .i64 x1, .int .i64 x2, .int .i64 x3] T)) := by (repeat (first | exact Below.refl _ _ | assumption | refine Below.drew ?_ | refine bl_alloc ?_ _ | refine bl_then ?_ (by assumption) | refine Below.setCell ?_ (by first | omega | (simp; done) | (simp; omega)) _ | refine bl_store ?_ ?_ _ _))
  refine (l1Pick_any a n cap Z s t w.heap.size 4 (fun i => if i = 0 then x0 else if i = 1 then x1 else if i = 2 then x2 else x3) _ (h.below hb) hcap ht (by omega) (by omega) (by omega) (fun i hi => ?_)).mono ?_
  · have hc : i = 0 ∨ i = 1 ∨ i = 2 ∨ i = 3 := by omega
    rcases hc with rfl | rfl | rfl | rfl <;> simp [go_sem]
  · rintro e w' ⟨x, rfl, hS, hK⟩
    exact ⟨x, rfl, hS, (Keeps.of_below hb).trans hK⟩

theorem l1Pick_new6 (a : Option Addr) (n cap : Nat) (Z : Nat → Int) (s t : Nat) (x0 x1 x2 x3 x4 x5 : Int) (w : World) (T : TypeId) (h : Src a n cap Z s t w) (hcap : n ≤ cap) (ht : t ≤ 900) :
    Calls Try.prog 45 #[.pointer (some ⟨s, 0, none⟩), .slice (some ⟨w.heap.size, 0, none⟩) 6 6] (w.alloc (.cells #[.int .i64 x0, .int .i64 x1, .int .i64 x2, .int .i64 x3, .int .i64 x4, .int .i64 x5] T)) fun e w' => ∃ x : Int, e = .returned (.int .i64 x) ∧ Src a n cap Z s (t + 1) w' ∧ Keeps s w w' := by
  have hsl : s < w.heap.size := World.block_lt_of_cell? _ _ h.code
  have hb : Below w.heap.size w (w.alloc (.cells #[.int .i64 x0, .int .i64 x1, .int .i64 x2, .int .i64 x3, .int .i64 x4, .int .i64 x5] T)) := by (repeat (first | exact Below.refl _ _ | assumption | refine Below.drew ?_ | refine bl_alloc ?_ _ | refine bl_then ?_ (by assumption) | refine Below.setCell ?_ (by first | omega | (simp; done) | (simp; omega)) _ | refine bl_store ?_ ?_ _ _))
  refine (l1Pick_any a n cap Z s t w.heap.size 6 (fun i => if i = 0 then x0 else if i = 1 then x1 else if i = 2 then x2 else if i = 3 then x3 else if i = 4 then x4 else x5) _ (h.below hb) hcap ht (by omega) (by omega) (by omega) (fun i hi => ?_)).mono ?_
  · have hc : i = 0 ∨ i = 1 ∨ i = 2 ∨ i = 3 ∨ i = 4 ∨ i = 5 := by omega
    rcases hc with rfl | rfl | rfl | rfl | rfl | rfl <;> simp [go_sem]
  · rintro e w' ⟨x, rfl, hS, hK⟩
    exact ⟨x, rfl, hS, (Keeps.of_below hb).trans hK⟩

end Go.Proofs.Ytfknbijpimpbfaa
/- The source of numbers begins; rows beside it. -/

namespace Go.Proofs.Ytfknbijpimpbfaa
open Go.RowKit
set_option linter.unusedSimpArgs false
set_option linter.unusedVariables false
set_option maxRecDepth 100000

abbrev srcW (a : Option Addr) (n cap : Nat) (w : World) : World := w.alloc (.cells #[.slice a n cap, .int .i64 0] 76)
theorem l1Source_ex (a : Option Addr) (n cap : Nat) (w : World) : Calls Try.prog 21 #[.slice a n cap] w fun e w' => e = .returned (.pointer (some ⟨w.heap.size, 0, none⟩)) ∧ srcW a n cap w = w' := by
  go_enter Try.func21, Try.ntmps21
  go_wp2
  go_ret
  exact ⟨rfl, rfl⟩
theorem src_start (a : Option Addr) (n cap : Nat) (Z : Nat → Int) (w : World) (h : IsBytes w a n Z) (hr : ∀ i, 0 ≤ Z i ∧ Z i ≤ 255) (hn : n ≤ 1048576) : Src a n cap Z w.heap.size 0 (srcW a n cap w) := by
  have hb : Below w.heap.size w (srcW a n cap w) := by unfold srcW; (repeat (first | exact Below.refl _ _ | assumption | refine Below.drew ?_ | refine bl_alloc ?_ _ | refine bl_then ?_ (by assumption) | refine Below.setCell ?_ (by first | omega | (simp; done) | (simp; omega)) _ | refine bl_store ?_ ?_ _ _))
  refine ⟨by simp [go_sem], by simp [go_sem], by simp [go_sem], ?_, hr, hn⟩
  rcases h with h | ⟨b, off, e, hl, hz⟩
  · exact .inl h
  · exact .inr ⟨b, off, e, hl, fun i hi => (hb.cell (p := ⟨b, off + i, none⟩) hl).trans (hz i hi)⟩

theorem Src.belowB {a : Option Addr} {n cap : Nat} {Z : Nat → Int} {s t B : Nat} {w w' : World} (h : Src a n cap Z s t w) (hb : Below B w w') (hs : s < B) : Src a n cap Z s t w' := by
  refine ⟨(hb.cell (p := ⟨s, 0, none⟩) hs).trans h.code, (hb.cell (p := ⟨s, 1, none⟩) hs).trans h.at', (hb.frozen (p := ⟨s, 1, none⟩) hs).trans h.wr, ?_, h.rng, h.max⟩
  rcases h.bytes with h0 | ⟨b, off, e, hs', hz⟩
  · exact .inl h0
  · exact .inr ⟨b, off, e, hs', fun i hi => (hb.cell (p := ⟨b, off + i, none⟩) (show b < B by omega)).trans (hz i hi)⟩
theorem Keeps.thenB {s : Nat} {w w1 w2 : World} (h : Keeps s w w1) (hb : Below w.heap.size w1 w2) : Keeps s w w2 :=
  ⟨hb.os.trans h.os, hb.tape.trans h.tape, hb.output.trans h.output, Nat.le_trans h.size hb.size, fun k hk hs => (hb.block k hk).trans (h.block k hk hs)⟩
theorem ownsRow_keeps {W W' : World} {base s n size : Nat} {e : TypeId} {v : Value} {xs : List Value} (h : W.ownsRow base e size v n xs) (hk : Keeps s W W') (hs : s < base) : W'.ownsRow base e size v n xs := by
  obtain ⟨h1, h2 | ⟨g, cp, cur, hv, hg, hh, hr⟩⟩ := h
  · exact ⟨h1, .inl h2⟩
  · refine ⟨h1, .inr ⟨g, cp, cur, hv, hg, ?_, hr⟩⟩
    have hgl : g < W.heap.size := by
      rcases Nat.lt_or_ge g W.heap.size with h' | h'
      · exact h'
      · rw [Array.getElem?_eq_none h'] at hh; cases hh
    rw [hk.block g hgl (by omega)]
    exact hh
end Go.Proofs.Ytfknbijpimpbfaa
/- lwBig tells whether a code is too long. -/

namespace Go.Proofs.Ytfknbijpimpbfaa
open Go.RowKit
set_option linter.unusedSimpArgs false
set_option linter.unusedVariables false

theorem lwBig_any (a : Option Addr) (n cap : Nat) (w : World) : Calls Try.prog 5 #[.slice a n cap] w fun e w' => e = .returned (.bool (decide (1048576 < (n : Int)))) ∧ w' = w := by
  go_enter Try.func5, Try.ntmps5
  go_wp2
  go_ret
  exact ⟨rfl, rfl⟩
end Go.Proofs.Ytfknbijpimpbfaa
