/- Several texts in one. -/
import Derived.Test.YtijegoheilmmpaaVSorts4
import Derived.Test.YtijegoheilmmpaaVSorts5
import Derived.ProofKit
import Derived.OpenShut
import Derived.ChangeOld
import Derived.Deep.Slices
import Derived.OwnWalk
import Derived.Deep.DeepMust
import Derived.Laws.OwnMore

/- Drawn arguments of CrossOf and of IsNear: whatever they are, nothing that was there is written. -/

namespace Go.Proofs.Ytijegoheilmmpaa
open Go.RowKit
set_option linter.unusedSimpArgs false
set_option linter.unusedVariables false

/-- The bytes of a code that came in. -/
def IsBytes (w : World) (a : Option Addr) (n : Nat) (Z : Nat → Int) : Prop :=
  n = 0 ∨ ∃ b off, a = some ⟨b, off, none⟩ ∧ b < w.heap.size ∧ ∀ i, i < n → w.cell? ⟨b, off + i, none⟩ = some (.int .u8 (Z i))
theorem IsBytes.below {w w' : World} {a : Option Addr} {n : Nat} {Z : Nat → Int} (h : IsBytes w a n Z) (hb : Below w.heap.size w w') : IsBytes w' a n Z := by
  rcases h with h | ⟨b, off, e, hl, hz⟩
  · exact .inl h
  · exact .inr ⟨b, off, e, Nat.lt_of_lt_of_le hl hb.size, fun i hi => (hb.cell (p := ⟨b, off + i, none⟩) hl).trans (hz i hi)⟩

abbrev srcW (a : Option Addr) (n cap : Nat) (w : World) : World := w.alloc (.cells #[.slice a n cap, .int .i64 0] 102)
theorem l1Source_ex (a : Option Addr) (n cap : Nat) (w : World) : Calls Try.prog 26 #[.slice a n cap] w fun e w' => e = .returned (.pointer (some ⟨w.heap.size, 0, none⟩)) ∧ srcW a n cap w = w' := by
  go_enter Try.func26, Try.ntmps26
  go_wp2
  go_ret
  exact ⟨rfl, rfl⟩
theorem src_start (a : Option Addr) (n cap : Nat) (Z : Nat → Int) (w : World) (h : IsBytes w a n Z) (hr : ∀ i, 0 ≤ Z i ∧ Z i ≤ 255) (hn : n ≤ 1048576) : Src a n cap Z w.heap.size 0 (srcW a n cap w) := by
  have hb : Below w.heap.size w (srcW a n cap w) := by unfold srcW; (repeat (first | exact Below.refl _ _ | assumption | refine Below.drew ?_ | refine bl_alloc ?_ _ | refine bl_then ?_ (by assumption) | refine Below.setCell ?_ (by first | omega | (simp; done) | (simp; omega)) _ | refine bl_store ?_ ?_ _ _))
  refine ⟨by simp [go_sem], by simp [go_sem], by simp [go_sem], ?_, hr, hn⟩
  rcases h with h | ⟨b, off, e, hl, hz⟩
  · exact .inl h
  · exact .inr ⟨b, off, e, hl, fun i hi => (hb.cell (p := ⟨b, off + i, none⟩) hl).trans (hz i hi)⟩

end Go.Proofs.Ytijegoheilmmpaa
/- How a list of bytes that came in is read. -/

namespace Go.Proofs.Ytijegoheilmmpaa
open Go.ChangeShapes Go.WideShapes Go.ChangeAt Go.RowKit
set_option linter.unusedVariables false

theorem own : ownKnob Try.prog.godebug = none := by kernel_rfl
theorem laidOut : laidOutB Try.prog = true := by kernel_rfl

set_option maxRecDepth 100000 in
theorem open_bytes {H : Type} {enc : TypeId × Value → H} {w : World} {base b0 : Nat} {held : Bool} {r : Reach} {v : Value} {d : DataW H} {p : List MemPlace}
    (hv : Value.okWide Try.prog w r b0 22 v) (h : DataW.Trod enc Try.prog w base (fun _ => true) held 22 v d p) :
    ∃ (a : Option Addr) (n cap : Nat) (Z : Nat → Int), v = .slice a n cap ∧ IsBytes w a n Z ∧ (∀ i, 0 ≤ Z i ∧ Z i ≤ 255) ∧ n ≤ cap := by
  obtain ⟨a, len, cap, rfl⟩ := okWide_slice Try.underlying22 hv
  obtain ⟨fuel, hf⟩ := h
  rcases open_ints Try.underlying22 Try.underlying5 (by kernel_rfl) hf with ⟨hcs, _⟩ | ⟨x, l, c, zs, hcs, _, hl, hm, hz, _, hcell, hwz⟩
  · simp [Value.cells] at hcs
    obtain ⟨rfl, rfl, rfl⟩ := hcs
    exact ⟨none, 0, 0, fun _ => 0, rfl, .inl rfl, fun _ => ⟨Int.le_refl _, by show (0 : Int) ≤ 255; omega⟩, Nat.le_refl _⟩
  · simp [Value.cells] at hcs
    obtain ⟨rfl, rfl, rfl⟩ := hcs
    have hz' : zs.length = cap := by simpa using hz
    refine ⟨some x, len, cap, fun i => zs.getD i 0, rfl, ?_, fun i => ?_, hl⟩
    · by_cases h0 : len = 0
      · exact .inl h0
      · right
        obtain ⟨b, off, spot⟩ := x
        have e0 := hcell 0 (by omega)
        have hspot : spot = none := by simpa [Addr.add] using World.cell?_spot e0
        subst hspot
        refine ⟨b, off, rfl, ?_, fun i hi => ?_⟩
        · have := World.block_lt_of_cell? _ _ e0
          simpa [Addr.add] using this
        · have := hcell i (by omega)
          have e : (⟨b, off, none⟩ : Addr).add i = ⟨b, off + i, none⟩ := by
            unfold Addr.add
            by_cases h : i = 0 <;> simp [h]
          rw [e] at this
          exact this
    · by_cases hi : i < zs.length
      · have hw := hwz zs[i] (List.getElem_mem hi)
        simp [Lit.wf, IntKind.min, IntKind.max, IntKind.signed, IntKind.bits] at hw
        simp [List.getD, hi]
        omega
      · simp [List.getD, hi]
end Go.Proofs.Ytijegoheilmmpaa
/- l1Many: a new list of drawn points, whatever they are. -/

namespace Go.Proofs.Ytijegoheilmmpaa
open Go.RowKit
set_option linter.unusedSimpArgs false
set_option linter.unusedVariables false

theorem Src.belowB {a : Option Addr} {n cap : Nat} {Z : Nat → Int} {s t B : Nat} {w w' : World} (h : Src a n cap Z s t w) (hb : Below B w w') (hs : s < B) : Src a n cap Z s t w' := by
  refine ⟨(hb.cell (p := ⟨s, 0, none⟩) hs).trans h.code, (hb.cell (p := ⟨s, 1, none⟩) hs).trans h.at', (hb.frozen (p := ⟨s, 1, none⟩) hs).trans h.wr, ?_, h.rng, h.max⟩
  rcases h.bytes with h0 | ⟨b, off, e, hs', hz⟩
  · exact .inl h0
  · exact .inr ⟨b, off, e, hs', fun i hi => (hb.cell (p := ⟨b, off + i, none⟩) (show b < B by omega)).trans (hz i hi)⟩
theorem Keeps.thenB {s : Nat} {w w1 w2 : World} (h : Keeps s w w1) (hb : Below w.heap.size w1 w2) : Keeps s w w2 :=
  ⟨hb.os.trans h.os, hb.tape.trans h.tape, hb.output.trans h.output, Nat.le_trans h.size hb.size, fun k hk hs => (hb.block k hk).trans (h.block k hk hs)⟩
/-- Every cell holds a number. -/
def Nums (xs : List Value) : Prop := ∀ u ∈ xs, ∃ z : Int, u = .int .i64 z
theorem Nums.add {xs : List Value} (h : Nums xs) (x y : Int) : Nums (xs ++ [.int .i64 x, .int .i64 y]) := fun u hu => by
  rcases List.mem_append.1 hu with hu | hu
  · exact h u hu
  · simp at hu
    rcases hu with rfl | rfl
    · exact ⟨x, rfl⟩
    · exact ⟨y, rfl⟩
theorem ownsRow_keeps {W W' : World} {base s n size : Nat} {e : TypeId} {v : Value} {xs : List Value} (h : W.ownsRow base e size v n xs) (hk : Keeps s W W') (hs : s < base) : W'.ownsRow base e size v n xs := by
  obtain ⟨h1, h2 | ⟨g, cp, cur, hv, hg, hh, hr⟩⟩ := h
  · exact ⟨h1, .inl h2⟩
  · refine ⟨h1, .inr ⟨g, cp, cur, hv, hg, ?_, hr⟩⟩
    have hgl : g < W.heap.size := by
      rcases Nat.lt_or_ge g W.heap.size with h' | h'
      · exact h'
      · rw [Array.getElem?_eq_none h'] at hh; cases hh
    rw [hk.block g hgl (by omega)]
    exact hh
theorem info_ipm : (Try.prog.info? 36).map (fun i => (i.zero, i.size, i.bytes)) = some (some (.agg #[.int .i64 0, .int .i64 0]), 2, 16) := by kernel_rfl

end Go.Proofs.Ytijegoheilmmpaa
