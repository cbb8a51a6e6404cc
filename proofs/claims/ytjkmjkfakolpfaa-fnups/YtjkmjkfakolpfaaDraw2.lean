/- Drawn points: whatever they are, the calls return and keep all but the source. -/
import Derived.Test.YtjkmjkfakolpfaaDraw
namespace Go.Proofs.Ytjkmjkfakolpfaa
open Go.RowKit
set_option linter.unusedSimpArgs false
set_option linter.unusedVariables false

theorem There.keeps {s r n : Nat} {w w' : World} (h : There w r n) (k : Keeps s w w') (hs : r ≠ s) : There w' r n := fun o ho => by
  obtain ⟨u, hu⟩ := (h o ho).1
  have hl := World.block_lt_of_cell? _ _ hu
  exact ⟨⟨u, (k.cell (p := ⟨r, o, none⟩) hl hs).trans hu⟩, (k.frozen (p := ⟨r, o, none⟩) hl hs).trans (h o ho).2⟩

/-- A store into a block that is not the source's and not the bytes'. -/
theorem Src.other {a : Option Addr} {n cap : Nat} {Z : Nat → Int} {s t r : Nat} {w : World} (h : Src a n cap Z s t w) (o : Nat) (v : Value) (hr : s < r) : Src a n cap Z s t (w.setCell ⟨r, o, none⟩ v) := by
  have ne : ∀ k o', k ≤ s → (⟨r, o, none⟩ : Addr) ≠ ⟨k, o', none⟩ := fun k o' hk e => by injection e with e; omega
  refine ⟨?_, ?_, ?_, ?_, h.rng, h.max⟩
  · rw [World.cell?_setCell_other]
    · exact h.code
    · exact ne _ _ (Nat.le_refl _)
  · rw [World.cell?_setCell_other]
    · exact h.at'
    · exact ne _ _ (Nat.le_refl _)
  · rw [World.frozen?_setCell]; exact h.wr
  · rcases h.bytes with h0 | ⟨b, off, e, hs, hz⟩
    · exact .inl h0
    · refine .inr ⟨b, off, e, hs, fun i hi => ?_⟩
      rw [World.cell?_setCell_other]
      · exact hz i hi
      · exact ne _ _ (by omega)
/-- Two stores into a block that was not there keep all. -/
theorem Keeps.own1 {s r : Nat} {w w' : World} (h : Keeps s w w') (hr : w.heap.size ≤ r) (o : Nat) (v : Value) : Keeps s w (w'.setCell ⟨r, o, none⟩ v) := by
  have hb : Below r w' (w'.setCell ⟨r, o, none⟩ v) := (Below.refl r w').setCell (Nat.le_refl _) v
  exact ⟨hb.os.trans h.os, hb.tape.trans h.tape, hb.output.trans h.output, Nat.le_trans h.size hb.size, fun k hk hs => (hb.block k (by omega)).trans (h.block k hk hs)⟩

set_option maxHeartbeats 1000000 in
theorem l1Pick_any (a : Option Addr) (n cap : Nat) (Z : Nat → Int) (s t L k : Nat) (V : Nat → Int) (w : World) (h : Src a n cap Z s t w) (hcap : n ≤ cap) (ht : t ≤ 900) (hk : 0 < k) (hk9 : k ≤ 10)
    (hL : L ≠ s) (hV : ∀ i, i < k → w.cell? ⟨L, i, none⟩ = some (.int .i64 (V i))) :
    Calls Try.prog 38 #[.pointer (some ⟨s, 0, none⟩), .slice (some ⟨L, 0, none⟩) k k] w fun e w' => ∃ x : Int, e = .returned (.int .i64 x) ∧ Src a n cap Z s (t + 1) w' ∧ Keeps s w w' := by
  have HS : Hid (Src a n cap Z s t w) := h
  have HV : Hid (∀ i, i < k → w.cell? ⟨L, i, none⟩ = some (.int .i64 (V i))) := hV
  clear h hV
  go_enter Try.func38, Try.ntmps38
  go_wp2_with fail
  refine (l1Next_any a n cap Z s t k _ HS.out hcap (by omega) hk (by omega)).mono ?_
  rintro e w1 ⟨v, rfl, hv, hS1, hK1⟩
  have hc := (hK1.cell (p := ⟨L, v, none⟩) (World.block_lt_of_cell? _ _ (HV.out v hv)) hL).trans (HV.out v hv)
  have hvi : (v : Int) < (k : Int) := by omega
  have HS1 : Hid (Src a n cap Z s (t + 1) w1) := hS1
  have HK1 : Hid (Keeps s w w1) := hK1
  clear hS1 hK1
  go_wp2
  go_ret
  exact ⟨_, rfl, HS1.out, HK1.out⟩

theorem l1Pick_new4 (a : Option Addr) (n cap : Nat) (Z : Nat → Int) (s t : Nat) (x0 x1 x2 x3 : Int) (w : World) (T : TypeId) (h : Src a n cap Z s t w) (hcap : n ≤ cap) (ht : t ≤ 900) :
    Calls Try.prog 38 #[.pointer (some ⟨s, 0, none⟩), .slice (some ⟨w.heap.size, 0, none⟩) 4 4] (w.alloc (.cells #[.int .i64 x0, .int .i64 x1, .int .i64 x2, .int .i64 x3] T)) fun e w' => ∃ x : Int, e = .returned (.int .i64 x) ∧ Src a n cap Z s (t + 1) w' ∧ Keeps s w w' := by
  have hsl : s < w.heap.size := World.block_lt_of_cell? _ _ h.code
  have hb : Below w.heap.size w (w.alloc (.cells #[.int .i64 x0, .int .i64 x1, .int .i64 x2, .int .i64 x3] T)) := by (repeat (first | exact Below.refl _ _ | assumption | refine Below.drew ?_ | refine bl_alloc ?_ _ | refine bl_then ?_ (by assumption) | refine Below.setCell ?_ (by first | omega | (simp; done) | (simp; omega)) _ | refine bl_store ?_ ?_ _ _))
  refine (l1Pick_any a n cap Z s t w.heap.size 4 (fun i => if i = 0 then x0 else if i = 1 then x1 else if i = 2 then x2 else x3) _ (h.below hb) hcap ht (by omega) (by omega) (by omega) (fun i hi => ?_)).mono ?_
  · have hc : i = 0 ∨ i = 1 ∨ i = 2 ∨ i = 3 := by omega
    rcases hc with rfl | rfl | rfl | rfl <;> simp [go_sem]
  · rintro e w' ⟨x, rfl, hS, hK⟩
    exact ⟨x, rfl, hS, (Keeps.of_below hb).trans hK⟩

theorem l1Pick_new6 (a : Option Addr) (n cap : Nat) (Z : Nat → Int) (s t : Nat) (x0 x1 x2 x3 x4 x5 : Int) (w : World) (T : TypeId) (h : Src a n cap Z s t w) (hcap : n ≤ cap) (ht : t ≤ 900) :
    Calls Try.prog 38 #[.pointer (some ⟨s, 0, none⟩), .slice (some ⟨w.heap.size, 0, none⟩) 6 6] (w.alloc (.cells #[.int .i64 x0, .int .i64 x1, .int .i64 x2, .int .i64 x3, .int .i64 x4, .int .i64 x5] T)) fun e w' => ∃ x : Int, e = .returned (.int .i64 x) ∧ Src a n cap Z s (t + 1) w' ∧ Keeps s w w' := by
  have hsl : s < w.heap.size := World.block_lt_of_cell? _ _ h.code
  have hb : Below w.heap.size w (w.alloc (.cells #[.int .i64 x0, .int .i64 x1, .int .i64 x2, .int .i64 x3, .int .i64 x4, .int .i64 x5] T)) := by (repeat (first | exact Below.refl _ _ | assumption | refine Below.drew ?_ | refine bl_alloc ?_ _ | refine bl_then ?_ (by assumption) | refine Below.setCell ?_ (by first | omega | (simp; done) | (simp; omega)) _ | refine bl_store ?_ ?_ _ _))
  refine (l1Pick_any a n cap Z s t w.heap.size 6 (fun i => if i = 0 then x0 else if i = 1 then x1 else if i = 2 then x2 else if i = 3 then x3 else if i = 4 then x4 else x5) _ (h.below hb) hcap ht (by omega) (by omega) (by omega) (fun i hi => ?_)).mono ?_
  · have hc : i = 0 ∨ i = 1 ∨ i = 2 ∨ i = 3 ∨ i = 4 ∨ i = 5 := by omega
    rcases hc with rfl | rfl | rfl | rfl | rfl | rfl <;> simp [go_sem]
  · rintro e w' ⟨x, rfl, hS, hK⟩
    exact ⟨x, rfl, hS, (Keeps.of_below hb).trans hK⟩

theorem l1Chance_any (a : Option Addr) (n cap : Nat) (Z : Nat → Int) (s t m : Nat) (w : World) (h : Src a n cap Z s t w) (hcap : n ≤ cap) (ht : t ≤ 900) (hm : 0 < m) (hmx : m ≤ 100000) :
    Calls Try.prog 24 #[.pointer (some ⟨s, 0, none⟩), .int .i64 m] w fun e w' => ∃ c : Bool, e = .returned (.bool c) ∧ Src a n cap Z s (t + 1) w' ∧ Keeps s w w' := by
  have HS : Hid (Src a n cap Z s t w) := h
  clear h
  go_enter Try.func24, Try.ntmps24
  go_wp2_with fail
  refine (l1Next_any a n cap Z s t m _ HS.out hcap (by omega) hm (by omega)).mono ?_
  rintro e w1 ⟨v, rfl, hv, hS1, hK1⟩
  have HS1 : Hid (Src a n cap Z s (t + 1) w1) := hS1
  have HK1 : Hid (Keeps s w w1) := hK1
  clear hS1 hK1
  go_wp2
  go_ret
  exact ⟨_, rfl, HS1.out, HK1.out⟩

end Go.Proofs.Ytjkmjkfakolpfaa
