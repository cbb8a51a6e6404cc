/- The source of numbers begins; rows beside it. -/
import Derived.Test.YtjkmjkfakolpfaaDraw2
import Derived.Test.YtjkmjkfakolpfaaBy0
import Derived.Laws.OwnMore
namespace Go.Proofs.Ytjkmjkfakolpfaa
open Go.RowKit
set_option linter.unusedSimpArgs false
set_option linter.unusedVariables false
set_option maxRecDepth 100000

abbrev srcW (a : Option Addr) (n cap : Nat) (w : World) : World := w.alloc (.cells #[.slice a n cap, .int .i64 0] 63)
theorem l1Source_ex (a : Option Addr) (n cap : Nat) (w : World) : Calls Try.prog 19 #[.slice a n cap] w fun e w' => e = .returned (.pointer (some ⟨w.heap.size, 0, none⟩)) ∧ srcW a n cap w = w' := by
  go_enter Try.func19, Try.ntmps19
  go_wp2
  go_ret
  exact ⟨rfl, rfl⟩
theorem src_start (a : Option Addr) (n cap : Nat) (Z : Nat → Int) (w : World) (h : IsBytes w a n Z) (hr : ∀ i, 0 ≤ Z i ∧ Z i ≤ 255) (hn : n ≤ 1048576) : Src a n cap Z w.heap.size 0 (srcW a n cap w) := by
  have hb : Below w.heap.size w (srcW a n cap w) := by unfold srcW; (repeat (first | exact Below.refl _ _ | assumption | refine Below.drew ?_ | refine bl_alloc ?_ _ | refine bl_then ?_ (by assumption) | refine Below.setCell ?_ (by first | omega | (simp; done) | (simp; omega)) _ | refine bl_store ?_ ?_ _ _))
  refine ⟨by simp [go_sem], by simp [go_sem], by simp [go_sem], ?_, hr, hn⟩
  rcases h with h | ⟨b, off, e, hl, hz⟩
  · exact .inl h
  · exact .inr ⟨b, off, e, hl, fun i hi => (hb.cell (p := ⟨b, off + i, none⟩) hl).trans (hz i hi)⟩

theorem Src.belowB {a : Option Addr} {n cap : Nat} {Z : Nat → Int} {s t B : Nat} {w w' : World} (h : Src a n cap Z s t w) (hb : Below B w w') (hs : s < B) : Src a n cap Z s t w' := by
  refine ⟨(hb.cell (p := ⟨s, 0, none⟩) hs).trans h.code, (hb.cell (p := ⟨s, 1, none⟩) hs).trans h.at', (hb.frozen (p := ⟨s, 1, none⟩) hs).trans h.wr, ?_, h.rng, h.max⟩
  rcases h.bytes with h0 | ⟨b, off, e, hs', hz⟩
  · exact .inl h0
  · exact .inr ⟨b, off, e, hs', fun i hi => (hb.cell (p := ⟨b, off + i, none⟩) (show b < B by omega)).trans (hz i hi)⟩
theorem Keeps.thenB {s : Nat} {w w1 w2 : World} (h : Keeps s w w1) (hb : Below w.heap.size w1 w2) : Keeps s w w2 :=
  ⟨hb.os.trans h.os, hb.tape.trans h.tape, hb.output.trans h.output, Nat.le_trans h.size hb.size, fun k hk hs => (hb.block k hk).trans (h.block k hk hs)⟩
theorem ownsRow_keeps {W W' : World} {base s n size : Nat} {e : TypeId} {v : Value} {xs : List Value} (h : W.ownsRow base e size v n xs) (hk : Keeps s W W') (hs : s < base) : W'.ownsRow base e size v n xs := by
  obtain ⟨h1, h2 | ⟨g, cp, cur, hv, hg, hh, hr⟩⟩ := h
  · exact ⟨h1, .inl h2⟩
  · refine ⟨h1, .inr ⟨g, cp, cur, hv, hg, ?_, hr⟩⟩
    have hgl : g < W.heap.size := by
      rcases Nat.lt_or_ge g W.heap.size with h' | h'
      · exact h'
      · rw [Array.getElem?_eq_none h'] at hh; cases hh
    rw [hk.block g hgl (by omega)]
    exact hh
end Go.Proofs.Ytjkmjkfakolpfaa
