/- Several texts in one. -/
import Derived.Test.YtgpdpodagoligaaGreatVAnchors43
import Derived.Test.YtgpdpodagoligaaGreatVAnchors38
import Derived.Laws.OwnMore
import Derived.OwnWalk
import Derived.Deep.DeepMust
import Derived.Test.YtgpdpodagoligaaGreatVAnchors5
import Derived.Test.YtgpdpodagoligaaGreatVAnchors1

/- Drawn points: whatever they are, the calls return and keep all but the source. -/

namespace Go.Proofs.YtgpdpodagoligaaGreat
open Go.RowKit
set_option linter.unusedSimpArgs false
set_option linter.unusedVariables false

theorem There.keeps {s r n : Nat} {w w' : World} (h : There w r n) (k : Keeps s w w') (hs : r ≠ s) : There w' r n := fun o ho => by
  obtain ⟨u, hu⟩ := (h o ho).1
  have hl := World.block_lt_of_cell? _ _ hu
  exact ⟨⟨u, (k.cell (p := ⟨r, o, none⟩) hl hs).trans hu⟩, (k.frozen (p := ⟨r, o, none⟩) hl hs).trans (h o ho).2⟩

/-- A store into a block that is not the source's and not the bytes'. -/
theorem Src.other {a : Option Addr} {n cap : Nat} {Z : Nat → Int} {s t r : Nat} {w : World} (h : Src a n cap Z s t w) (o : Nat) (v : Value) (hr : s < r) : Src a n cap Z s t (w.setCell ⟨r, o, none⟩ v) := by
  have ne : ∀ k o', k ≤ s → (⟨r, o, none⟩ : Addr) ≠ ⟨k, o', none⟩ := fun k o' hk e => by injection e with e; omega
  refine ⟨?_, ?_, ?_, ?_, h.rng, h.max⟩
  · rw [World.cell?_setCell_other]
    · exact h.code
    · exact ne _ _ (Nat.le_refl _)
  · rw [World.cell?_setCell_other]
    · exact h.at'
    · exact ne _ _ (Nat.le_refl _)
  · rw [World.frozen?_setCell]; exact h.wr
  · rcases h.bytes with h0 | ⟨b, off, e, hs, hz⟩
    · exact .inl h0
    · refine .inr ⟨b, off, e, hs, fun i hi => ?_⟩
      rw [World.cell?_setCell_other]
      · exact hz i hi
      · exact ne _ _ (by omega)
/-- Two stores into a block that was not there keep all. -/
theorem Keeps.own1 {s r : Nat} {w w' : World} (h : Keeps s w w') (hr : w.heap.size ≤ r) (o : Nat) (v : Value) : Keeps s w (w'.setCell ⟨r, o, none⟩ v) := by
  have hb : Below r w' (w'.setCell ⟨r, o, none⟩ v) := (Below.refl r w').setCell (Nat.le_refl _) v
  exact ⟨hb.os.trans h.os, hb.tape.trans h.tape, hb.output.trans h.output, Nat.le_trans h.size hb.size, fun k hk hs => (hb.block k (by omega)).trans (h.block k hk hs)⟩

set_option maxHeartbeats 1000000 in
theorem l1Pick_any (a : Option Addr) (n cap : Nat) (Z : Nat → Int) (s t L k : Nat) (V : Nat → Int) (w : World) (h : Src a n cap Z s t w) (hcap : n ≤ cap) (ht : t ≤ 900) (hk : 0 < k) (hk9 : k ≤ 10)
    (hL : L ≠ s) (hV : ∀ i, i < k → w.cell? ⟨L, i, none⟩ = some (.int .i64 (V i))) :
    Calls Tryz.prog 58 #[.pointer (some ⟨s, 0, none⟩), .slice (some ⟨L, 0, none⟩) k k] w fun e w' => ∃ x : Int, e = .returned (.int .i64 x) ∧ Src a n cap Z s (t + 1) w' ∧ Keeps s w w' := by
  have HS : Hid (Src a n cap Z s t w) := h
  have HV : Hid (∀ i, i < k → w.cell? ⟨L, i, none⟩ = some (.int .i64 (V i))) := hV
  clear h hV
  go_enter Tryz.func58, Tryz.ntmps58
  go_wp2_with fail
  refine (l1Next_any a n cap Z s t k _ HS.out hcap (by omega) hk (by omega)).mono ?_
  rintro e w1 ⟨v, rfl, hv, hS1, hK1⟩
  have hc := (hK1.cell (p := ⟨L, v, none⟩) (World.block_lt_of_cell? _ _ (HV.out v hv)) hL).trans (HV.out v hv)
  have hvi : (v : Int) < (k : Int) := by omega
  have HS1 : Hid (Src a n cap Z s (t + 1) w1) := hS1
  have HK1 : Hid (Keeps s w w1) := hK1
  clear hS1 hK1
  go_wp2
  go_ret
  exact ⟨_, rfl, HS1.out, HK1.out⟩

theorem l1Pick_new4 (a : Option Addr) (n cap : Nat) (Z : Nat → Int) (s t : Nat) (x0 x1 x2 x3 : Int) (w : World) (T : TypeId) (h : Src a n cap Z s t w) (hcap : n ≤ cap) (ht : t ≤ 900) :
    Calls Tryz.prog 58 #[.pointer (some ⟨s, 0, none⟩), .slice (some ⟨w.heap.size, 0, none⟩) 4 4] (w.alloc (.cells #[.int .i64 x0, .int .i64 x1, .int .i64 x2, .int .i64 x3] T)) fun e w' => ∃ x : Int, e = .returned (.int .i64 x) ∧ Src a n cap Z s (t + 1) w' ∧ Keeps s w w' := by
  have hsl : s < w.heap.size := World.block_lt_of_cell? _ _ h.code
  have hb : Below w.heap.size w (w.alloc (.cells #[.int .i64 x0, .int .i64 x1, .int .i64 x2, .int .i64 x3] T)) := by (repeat (first | exact Below.refl _ _ | assumption | refine Below.drew ?_ | refine bl_alloc ?_ _ | refine bl_then ?_ (by assumption) | refine Below.setCell ?_ (by first | omega | (simp; done) | (simp; omega)) _ | refine bl_store ?_ ?_ _ _))
  refine (l1Pick_any a n cap Z s t w.heap.size 4 (fun i => if i = 0 then x0 else if i = 1 then x1 else if i = 2 then x2 else x3) _ (h.below hb) hcap ht (by omega) (by omega) (by omega) (fun i hi => ?_)).mono ?_
  · have hc : i = 0 ∨ i = 1 ∨ i = 2 ∨ i = 3 := by omega
    rcases hc with rfl | rfl | rfl | rfl <;> simp [go_sem]
  · rintro e w' ⟨x, rfl, hS, hK⟩
    exact ⟨x, rfl, hS, (Keeps.of_below hb).trans hK⟩

theorem l1Pick_new6 (a : Option Addr) (n cap : Nat) (Z : Nat → Int) (s t : Nat) (x0 x1 x2 x3 x4 x5 : Int) (w : World) (T : TypeId) (h : Src a n cap Z s t w) (hcap : n ≤ cap) (ht : t ≤ 900) :
    Calls Tryz.prog 58 #[.pointer (some ⟨s, 0, none⟩), .slice (some ⟨w.heap.size, 0, none⟩) 6 6] (w.alloc (.cells #[.int .i64 x0, .int .i64 x1, .int .i64 x2, .int .i64 x3, .int .i64 x4, .int .i64 x5] T)) fun e w' => ∃ x : Int, e = .returned (.int .i64 x) ∧ Src a n cap Z s (t + 1) w' ∧ Keeps s w w' := by
  have hsl : s < w.heap.size := World.block_lt_of_cell? _ _ h.code
  have hb : Below w.heap.size w (w.alloc (.cells #[.int .i64 x0, .int .i64 x1, .int .i64 x2, .int .i64 x3, .int .i64 x4, .int .i64 x5] T)) := by (repeat (first | exact Below.refl _ _ | assumption | refine Below.drew ?_ | refine bl_alloc ?_ _ | refine bl_then ?_ (by assumption) | refine Below.setCell ?_ (by first | omega | (simp; done) | (simp; omega)) _ | refine bl_store ?_ ?_ _ _))
  refine (l1Pick_any a n cap Z s t w.heap.size 6 (fun i => if i = 0 then x0 else if i = 1 then x1 else if i = 2 then x2 else if i = 3 then x3 else if i = 4 then x4 else x5) _ (h.below hb) hcap ht (by omega) (by omega) (by omega) (fun i hi => ?_)).mono ?_
  · have hc : i = 0 ∨ i = 1 ∨ i = 2 ∨ i = 3 ∨ i = 4 ∨ i = 5 := by omega
    rcases hc with rfl | rfl | rfl | rfl | rfl | rfl <;> simp [go_sem]
  · rintro e w' ⟨x, rfl, hS, hK⟩
    exact ⟨x, rfl, hS, (Keeps.of_below hb).trans hK⟩

set_option maxHeartbeats 2000000 in
theorem l1Draw_any (a : Option Addr) (n cap : Nat) (Z : Nat → Int) (s t : Nat) (w : World) (h : Src a n cap Z s t w) (hcap : n ≤ cap) (ht : t ≤ 800) :
    Calls Tryz.prog 81 #[.pointer (some ⟨s, 0, none⟩)] w fun e w' => ∃ x y : Int, e = .returned (.agg #[.int .i64 x, .int .i64 y]) ∧ Src a n cap Z s (t + 6) w' ∧ Keeps s w w' := by
  have hsl : s < w.heap.size := World.block_lt_of_cell? _ _ h.code
  go_enter Tryz.func81, Tryz.ntmps81
  go_wp2_with fail
  generalize hW : (w.alloc _ : World) = W
  have hB0 : Below w.heap.size w W := by subst hW; (repeat (first | exact Below.refl _ _ | assumption | refine Below.drew ?_ | refine bl_alloc ?_ _ | refine bl_then ?_ (by assumption) | refine Below.setCell ?_ (by first | omega | (simp; done) | (simp; omega)) _ | refine bl_store ?_ ?_ _ _))
  have hT0 : There W w.heap.size 2 := fun o ho => by
    subst hW
    have hc : o = 0 ∨ o = 1 := by omega
    rcases hc with rfl | rfl <;> exact ⟨⟨_, by simp [go_sem]; rfl⟩, by simp [go_sem]⟩
  clear hW
  have HS0 : Hid (Src a n cap Z s t W) := h.below hB0
  have HK0 : Hid (Keeps s w W) := Keeps.of_below hB0
  have HT0 : Hid (There W w.heap.size 2) := hT0
  clear h hB0 hT0
  refine (l1Next_any a n cap Z s t 1025 _ HS0.out hcap (by omega) (by omega) (by omega)).mono ?_
  rintro e w1 ⟨v1, rfl, hv1, hS1, hK1⟩
  have HS1 : Hid (Src a n cap Z s (t + 1) w1) := hS1
  have HK1 : Hid (Keeps s w w1) := HK0.out.trans hK1
  have HT1 : Hid (There w1 w.heap.size 2) := HT0.out.keeps hK1 (by omega)
  clear hS1 hK1 HS0 HK0 HT0
  go_wp2_with fail
  refine (l1Next_any a n cap Z s (t + 1) 20 _ HS1.out hcap (by omega) (by omega) (by omega)).mono ?_
  rintro e w2 ⟨v2, rfl, hv2, hS2, hK2⟩
  have HS2 : Hid (Src a n cap Z s (t + 2) w2) := hS2
  have HK2 : Hid (Keeps s w w2) := HK1.out.trans hK2
  have HT2 : Hid (There w2 w.heap.size 2) := HT1.out.keeps hK2 (by omega)
  have hs2 : s < w2.heap.size := World.block_lt_of_cell? _ _ hS2.code
  clear hS2 hK2 HS1 HK1 HT1
  go_wp2_with fail
  refine (l1Pick_new4 a n cap Z s (t + 2) _ _ _ _ _ _ HS2.out hcap (by omega)).mono ?_
  rintro e w3 ⟨x, rfl, hS3, hK3⟩
  have HS3 : Hid (Src a n cap Z s (t + 3) w3) := hS3
  have HK3 : Hid (Keeps s w w3) := HK2.out.trans hK3
  have HT3 : Hid (There w3 w.heap.size 2) := HT2.out.keeps hK3 (by omega)
  clear hS3 hK3 HS2 HK2 HT2
  go_wp2_with fail
  refine (l1Next_any a n cap Z s (t + 3) 1025 _ HS3.out hcap (by omega) (by omega) (by omega)).mono ?_
  rintro e w4 ⟨v4, rfl, hv4, hS4, hK4⟩
  have HS4 : Hid (Src a n cap Z s (t + 4) w4) := hS4
  have HK4 : Hid (Keeps s w w4) := HK3.out.trans hK4
  have HT4 : Hid (There w4 w.heap.size 2) := HT3.out.keeps hK4 (by omega)
  clear hS4 hK4 HS3 HK3 HT3
  go_wp2_with fail
  refine (l1Next_any a n cap Z s (t + 4) 20 _ HS4.out hcap (by omega) (by omega) (by omega)).mono ?_
  rintro e w5 ⟨v5, rfl, hv5, hS5, hK5⟩
  have HS5 : Hid (Src a n cap Z s (t + 5) w5) := hS5
  have HK5 : Hid (Keeps s w w5) := HK4.out.trans hK5
  have HT5 : Hid (There w5 w.heap.size 2) := HT4.out.keeps hK5 (by omega)
  clear hS5 hK5 HS4 HK4 HT4
  go_wp2_with fail
  refine (l1Pick_new4 a n cap Z s (t + 5) _ _ _ _ _ _ HS5.out hcap (by omega)).mono ?_
  rintro e w6 ⟨y, rfl, hS6, hK6⟩
  have HK6 : Hid (Keeps s w w6) := HK5.out.trans hK6
  have hT6 : There w6 w.heap.size 2 := HT5.out.keeps hK6 (by omega)
  have HS6 : Hid (Src a n cap Z s (t + 6) w6) := hS6
  have HT6 : Hid (There w6 w.heap.size 2) := hT6
  have t0 := hT6.cell 0 (by omega)
  have t1 := hT6.cell 1 (by omega)
  have f0 := (hT6 0 (by omega)).2
  have f1 := (hT6 1 (by omega)).2
  clear hS6 hK6 HS5 HK5 HT5 hT6
  go_wp2
  refine bodyPost_ret (v := .agg #[.int .i64 x, .int .i64 y]) (by simp [results, Tryz.results81, go_sem, set2_0 (Option.isSome_iff_exists.2 ⟨_, t0⟩), set2_1 (Option.isSome_iff_exists.2 ⟨_, t1⟩)]) rfl ⟨x, y, rfl, ?_, ?_⟩
  · exact (HS6.out.other _ _ hsl).other _ _ hsl
  · exact (HK6.out.own1 (Nat.le_refl _) _ _).own1 (Nat.le_refl _) _ _
end Go.Proofs.YtgpdpodagoligaaGreat
/- Three drawn points, and a number. -/

namespace Go.Proofs.YtgpdpodagoligaaGreat
open Go.RowKit
set_option linter.unusedSimpArgs false
set_option linter.unusedVariables false
end Go.Proofs.YtgpdpodagoligaaGreat
/- The source of numbers begins; rows beside it. -/

namespace Go.Proofs.YtgpdpodagoligaaGreat
open Go.RowKit
set_option linter.unusedSimpArgs false
set_option linter.unusedVariables false
set_option maxRecDepth 100000

abbrev srcW (a : Option Addr) (n cap : Nat) (w : World) : World := w.alloc (.cells #[.slice a n cap, .int .i64 0] 106)
theorem l1Source_ex (a : Option Addr) (n cap : Nat) (w : World) : Calls Tryz.prog 24 #[.slice a n cap] w fun e w' => e = .returned (.pointer (some ⟨w.heap.size, 0, none⟩)) ∧ srcW a n cap w = w' := by
  go_enter Tryz.func24, Tryz.ntmps24
  go_wp2
  go_ret
  exact ⟨rfl, rfl⟩
theorem src_start (a : Option Addr) (n cap : Nat) (Z : Nat → Int) (w : World) (h : IsBytes w a n Z) (hr : ∀ i, 0 ≤ Z i ∧ Z i ≤ 255) (hn : n ≤ 1048576) : Src a n cap Z w.heap.size 0 (srcW a n cap w) := by
  have hb : Below w.heap.size w (srcW a n cap w) := by unfold srcW; (repeat (first | exact Below.refl _ _ | assumption | refine Below.drew ?_ | refine bl_alloc ?_ _ | refine bl_then ?_ (by assumption) | refine Below.setCell ?_ (by first | omega | (simp; done) | (simp; omega)) _ | refine bl_store ?_ ?_ _ _))
  refine ⟨by simp [go_sem], by simp [go_sem], by simp [go_sem], ?_, hr, hn⟩
  rcases h with h | ⟨b, off, e, hl, hz⟩
  · exact .inl h
  · exact .inr ⟨b, off, e, hl, fun i hi => (hb.cell (p := ⟨b, off + i, none⟩) hl).trans (hz i hi)⟩

theorem Src.belowB {a : Option Addr} {n cap : Nat} {Z : Nat → Int} {s t B : Nat} {w w' : World} (h : Src a n cap Z s t w) (hb : Below B w w') (hs : s < B) : Src a n cap Z s t w' := by
  refine ⟨(hb.cell (p := ⟨s, 0, none⟩) hs).trans h.code, (hb.cell (p := ⟨s, 1, none⟩) hs).trans h.at', (hb.frozen (p := ⟨s, 1, none⟩) hs).trans h.wr, ?_, h.rng, h.max⟩
  rcases h.bytes with h0 | ⟨b, off, e, hs', hz⟩
  · exact .inl h0
  · exact .inr ⟨b, off, e, hs', fun i hi => (hb.cell (p := ⟨b, off + i, none⟩) (show b < B by omega)).trans (hz i hi)⟩
theorem Keeps.thenB {s : Nat} {w w1 w2 : World} (h : Keeps s w w1) (hb : Below w.heap.size w1 w2) : Keeps s w w2 :=
  ⟨hb.os.trans h.os, hb.tape.trans h.tape, hb.output.trans h.output, Nat.le_trans h.size hb.size, fun k hk hs => (hb.block k hk).trans (h.block k hk hs)⟩
theorem ownsRow_keeps {W W' : World} {base s n size : Nat} {e : TypeId} {v : Value} {xs : List Value} (h : W.ownsRow base e size v n xs) (hk : Keeps s W W') (hs : s < base) : W'.ownsRow base e size v n xs := by
  obtain ⟨h1, h2 | ⟨g, cp, cur, hv, hg, hh, hr⟩⟩ := h
  · exact ⟨h1, .inl h2⟩
  · refine ⟨h1, .inr ⟨g, cp, cur, hv, hg, ?_, hr⟩⟩
    have hgl : g < W.heap.size := by
      rcases Nat.lt_or_ge g W.heap.size with h' | h'
      · exact h'
      · rw [Array.getElem?_eq_none h'] at hh; cases hh
    rw [hk.block g hgl (by omega)]
    exact hh
end Go.Proofs.YtgpdpodagoligaaGreat
/- l1Many: a new list of drawn points, whatever they are. -/

namespace Go.Proofs.YtgpdpodagoligaaGreat
open Go.RowKit
set_option linter.unusedSimpArgs false
set_option linter.unusedVariables false

/-- Every cell holds a number. -/
def Nums (xs : List Value) : Prop := ∀ u ∈ xs, ∃ z : Int, u = .int .i64 z
theorem Nums.add {xs : List Value} (h : Nums xs) (x y : Int) : Nums (xs ++ [.int .i64 x, .int .i64 y]) := fun u hu => by
  rcases List.mem_append.1 hu with hu | hu
  · exact h u hu
  · simp at hu
    rcases hu with rfl | rfl
    · exact ⟨x, rfl⟩
    · exact ⟨y, rfl⟩
theorem info_ipm : (Tryz.prog.info? 30).map (fun i => (i.zero, i.size, i.bytes)) = some (some (.agg #[.int .i64 0, .int .i64 0]), 2, 16) := by kernel_rfl

end Go.Proofs.YtgpdpodagoligaaGreat
/- Six stores into three blocks, read back. -/

namespace Go.Proofs.YtgpdpodagoligaaGreat
open Go.RowKit
theorem set6_at {W : World} {r : Nat} {a b c d e f : Value} (hT0 : There W r 2) (hT1 : There W (r + 1) 2) (hT2 : There W (r + 1 + 1) 2) :
    ((((((W.setCell ⟨r, 0, none⟩ a).setCell ⟨r, 1, none⟩ b).setCell ⟨r + 1, 0, none⟩ c).setCell ⟨r + 1, 1, none⟩ d).setCell ⟨r + 1 + 1, 0, none⟩ e).setCell ⟨r + 1 + 1, 1, none⟩ f).cell? ⟨r, 0, none⟩ = some a ∧
    ((((((W.setCell ⟨r, 0, none⟩ a).setCell ⟨r, 1, none⟩ b).setCell ⟨r + 1, 0, none⟩ c).setCell ⟨r + 1, 1, none⟩ d).setCell ⟨r + 1 + 1, 0, none⟩ e).setCell ⟨r + 1 + 1, 1, none⟩ f).cell? ⟨r, 1, none⟩ = some b ∧
    ((((((W.setCell ⟨r, 0, none⟩ a).setCell ⟨r, 1, none⟩ b).setCell ⟨r + 1, 0, none⟩ c).setCell ⟨r + 1, 1, none⟩ d).setCell ⟨r + 1 + 1, 0, none⟩ e).setCell ⟨r + 1 + 1, 1, none⟩ f).cell? ⟨r + 1, 0, none⟩ = some c ∧
    ((((((W.setCell ⟨r, 0, none⟩ a).setCell ⟨r, 1, none⟩ b).setCell ⟨r + 1, 0, none⟩ c).setCell ⟨r + 1, 1, none⟩ d).setCell ⟨r + 1 + 1, 0, none⟩ e).setCell ⟨r + 1 + 1, 1, none⟩ f).cell? ⟨r + 1, 1, none⟩ = some d ∧
    ((((((W.setCell ⟨r, 0, none⟩ a).setCell ⟨r, 1, none⟩ b).setCell ⟨r + 1, 0, none⟩ c).setCell ⟨r + 1, 1, none⟩ d).setCell ⟨r + 1 + 1, 0, none⟩ e).setCell ⟨r + 1 + 1, 1, none⟩ f).cell? ⟨r + 1 + 1, 0, none⟩ = some e ∧
    ((((((W.setCell ⟨r, 0, none⟩ a).setCell ⟨r, 1, none⟩ b).setCell ⟨r + 1, 0, none⟩ c).setCell ⟨r + 1, 1, none⟩ d).setCell ⟨r + 1 + 1, 0, none⟩ e).setCell ⟨r + 1 + 1, 1, none⟩ f).cell? ⟨r + 1 + 1, 1, none⟩ = some f := by
  have nb : ∀ i j o o' : Nat, i ≠ j → (⟨i, o, none⟩ : Addr) ≠ ⟨j, o', none⟩ := fun i j o o' h e => h (by injection e)
  have no : ∀ i o o' : Nat, o ≠ o' → (⟨i, o, none⟩ : Addr) ≠ ⟨i, o', none⟩ := fun i o o' h e => h (by injection e)
  obtain ⟨u0, h0⟩ := (hT0 0 (by omega)).1
  obtain ⟨u1, h1⟩ := (hT0 1 (by omega)).1
  obtain ⟨u2, h2⟩ := (hT1 0 (by omega)).1
  obtain ⟨u3, h3⟩ := (hT1 1 (by omega)).1
  obtain ⟨u4, h4⟩ := (hT2 0 (by omega)).1
  obtain ⟨u5, h5⟩ := (hT2 1 (by omega)).1
  refine ⟨?_, ?_, ?_, ?_, ?_, ?_⟩
  · rw [set1_other (nb _ _ _ _ (by omega)), set1_other (nb _ _ _ _ (by omega)), set1_other (nb _ _ _ _ (by omega)), set1_other (nb _ _ _ _ (by omega)), set1_other (no _ _ _ (by omega))]; exact set1_same (u := a) (x := u0) (by exact h0)
  · rw [set1_other (nb _ _ _ _ (by omega)), set1_other (nb _ _ _ _ (by omega)), set1_other (nb _ _ _ _ (by omega)), set1_other (nb _ _ _ _ (by omega))]; exact set1_same (u := b) (x := u1) (by rw [set1_other (no _ _ _ (by omega))]; exact h1)
  · rw [set1_other (nb _ _ _ _ (by omega)), set1_other (nb _ _ _ _ (by omega)), set1_other (no _ _ _ (by omega))]; exact set1_same (u := c) (x := u2) (by rw [set1_other (nb _ _ _ _ (by omega)), set1_other (nb _ _ _ _ (by omega))]; exact h2)
  · rw [set1_other (nb _ _ _ _ (by omega)), set1_other (nb _ _ _ _ (by omega))]; exact set1_same (u := d) (x := u3) (by rw [set1_other (no _ _ _ (by omega)), set1_other (nb _ _ _ _ (by omega)), set1_other (nb _ _ _ _ (by omega))]; exact h3)
  · rw [set1_other (no _ _ _ (by omega))]; exact set1_same (u := e) (x := u4) (by rw [set1_other (nb _ _ _ _ (by omega)), set1_other (nb _ _ _ _ (by omega)), set1_other (nb _ _ _ _ (by omega)), set1_other (nb _ _ _ _ (by omega))]; exact h4)
  · exact set1_same (u := f) (x := u5) (by rw [set1_other (no _ _ _ (by omega)), set1_other (nb _ _ _ _ (by omega)), set1_other (nb _ _ _ _ (by omega)), set1_other (nb _ _ _ _ (by omega)), set1_other (nb _ _ _ _ (by omega))]; exact h5)
end Go.Proofs.YtgpdpodagoligaaGreat
/- Drawn arguments of CrossOf and of IsNear: whatever they are, nothing that was there is written. -/

namespace Go.Proofs.YtgpdpodagoligaaGreat
open Go.RowKit
set_option linter.unusedSimpArgs false
set_option linter.unusedVariables false

end Go.Proofs.YtgpdpodagoligaaGreat
/- Rows of drawn points. -/

namespace Go.Proofs.YtgpdpodagoligaaGreat
open Go.RowKit
set_option linter.unusedSimpArgs false
set_option linter.unusedVariables false

/-- A row of numbers of which we own the block holds points. -/
theorem ring_of {w : World} {base : Nat} {e : TypeId} {v : Value} {k : Nat} {xs : List Value} (h : w.ownsRow base e 2 v k xs) (hn : Nums xs) (hne : v ≠ .slice none 0 0) :
    ∃ (b cp : Nat) (X Y : Nat → Int), v = .slice (some ⟨b, 0, none⟩) k cp ∧ base ≤ b ∧ b < w.heap.size ∧ k ≤ cp ∧ PtsAt w b 0 k X Y := by
  obtain ⟨h1, h2 | ⟨g, cp, cur, rfl, hg, hh, hkc, hcm, hcs, htk⟩⟩ := h
  · exact absurd h2.1 hne
  · have hgl : g < w.heap.size := by
      rcases Nat.lt_or_ge g w.heap.size with h' | h'
      · exact h'
      · rw [Array.getElem?_eq_none h'] at hh; cases hh
    have hx : ∀ j, j < k * 2 → ∃ z : Int, w.cell? ⟨g, j, none⟩ = some (.int .i64 z) := fun j hj => by
      have hc := World.ownsRow.cellAt (w := w) (base := base) (e := e) (size := 2) (g := g) (cap := cp) (n := k) (xs := xs) ⟨h1, .inr ⟨g, cp, cur, rfl, hg, hh, hkc, hcm, hcs, htk⟩⟩ j hj
      have hjl : j < xs.length := by omega
      obtain ⟨z, hz⟩ := hn (xs[j]) (List.getElem_mem hjl)
      refine ⟨z, ?_⟩
      rw [hc]
      simp [hjl, hz]
    refine ⟨g, cp, fun i => if h : i < k then (hx (i * 2) (by omega)).choose else 0, fun i => if h : i < k then (hx (i * 2 + 1) (by omega)).choose else 0, rfl, hg, hgl, hkc, fun i hi => ?_⟩
    simp only [Nat.zero_add, hi, dite_true]
    exact ⟨(hx (i * 2) (by omega)).choose_spec, (hx (i * 2 + 1) (by omega)).choose_spec⟩

/-- A slice of points behind what was there. -/
def Ring (w w' : World) (v : Value) : Prop := ∃ (b k cp : Nat) (X Y : Nat → Int), v = .slice (some ⟨b, 0, none⟩) k cp ∧ w.heap.size ≤ b ∧ b < w'.heap.size ∧ k ≤ 41 ∧ k ≤ cp ∧ PtsAt w' b 0 k X Y

theorem PtsAt.set {w : World} {b off n r o : Nat} {X Y : Nat → Int} {v : Value} (h : PtsAt w b off n X Y) (hr : r ≠ b) : PtsAt (w.setCell ⟨r, o, none⟩ v) b off n X Y := fun i hi =>
  ⟨by rw [World.cell?_setCell_other]; exact (h i hi).1; intro e; injection e with e; omega, by rw [World.cell?_setCell_other]; exact (h i hi).2; intro e; injection e with e; omega⟩
theorem ring_fin {w wz : World} {base r k : Nat} {e : TypeId} {v u0 u1 : Value} {xs : List Value} (hO : wz.ownsRow base e 2 v k xs) (hN : Nums xs) (hE : v ≠ .slice none 0 0) (hk : k ≤ 41) (hr : r < base) (hw : w.heap.size ≤ base) :
    Ring w ((wz.setCell ⟨r, 0, none⟩ u0).setCell ⟨r, 1, none⟩ u1) v := by
  obtain ⟨b, cp, X, Y, hv, h1, h2, h3, h4⟩ := ring_of hO hN hE
  refine ⟨b, k, cp, X, Y, hv, by omega, ?_, hk, h3, (h4.set (by omega)).set (by omega)⟩
  have := (((Below.refl r wz).setCell (p := ⟨r, 0, none⟩) (Nat.le_refl _) u0).setCell (p := ⟨r, 1, none⟩) (Nat.le_refl _) u1).size
  omega
theorem There.belowB {W W' : World} {r n B : Nat} (h : There W r n) (hb : Below B W W') (hr : r < B) : There W' r n := fun o ho => by
  obtain ⟨u, hu⟩ := (h o ho).1
  exact ⟨⟨u, (hb.cell (p := ⟨r, o, none⟩) hr).trans hu⟩, (hb.frozen (p := ⟨r, o, none⟩) hr).trans (h o ho).2⟩
/-- The two cells of a point. -/
def Two (w : World) (p : Nat) (x y : Int) : Prop := w.cell? ⟨p, 0, none⟩ = some (.int .i64 x) ∧ w.cell? ⟨p, 1, none⟩ = some (.int .i64 y)
theorem Two.keeps {w w' : World} {p s : Nat} {x y : Int} (h : Two w p x y) (hk : Keeps s w w') (hp : p ≠ s) : Two w' p x y :=
  ⟨(hk.cell (p := ⟨p, 0, none⟩) (World.block_lt_of_cell? _ _ h.1) hp).trans h.1, (hk.cell (p := ⟨p, 1, none⟩) (World.block_lt_of_cell? _ _ h.2) hp).trans h.2⟩
theorem nums_rep : ∀ n : Nat, Nums (List.replicate n (.int .i64 0)) := fun n u hu => ⟨0, (List.mem_replicate.1 hu).2⟩

theorem Ring.below {w w1 w2 : World} {v : Value} (h : Ring w w1 v) (hb : Below w1.heap.size w1 w2) : Ring w w2 v := by
  obtain ⟨b, k, cp, X, Y, hv, h1, h2, h3, h4, h5⟩ := h
  exact ⟨b, k, cp, X, Y, hv, h1, Nat.lt_of_lt_of_le h2 hb.size, h3, h4, h5.below hb h2⟩

end Go.Proofs.YtgpdpodagoligaaGreat
/- Drawn arguments of SnapPoint and SnapAll: whatever they are, nothing that was there is written. -/

namespace Go.Proofs.YtgpdpodagoligaaGreat
open Go.RowKit
set_option linter.unusedSimpArgs false
set_option linter.unusedVariables false

set_option maxHeartbeats 1000000 in
theorem l1Pick_new10 (a : Option Addr) (n cap : Nat) (Z : Nat → Int) (s t : Nat) (x0 x1 x2 x3 x4 x5 x6 x7 x8 x9 : Int) (w : World) (T : TypeId) (h : Src a n cap Z s t w) (hcap : n ≤ cap) (ht : t ≤ 900) :
    Calls Tryz.prog 58 #[.pointer (some ⟨s, 0, none⟩), .slice (some ⟨w.heap.size, 0, none⟩) 10 10] (w.alloc (.cells #[.int .i64 x0, .int .i64 x1, .int .i64 x2, .int .i64 x3, .int .i64 x4, .int .i64 x5, .int .i64 x6, .int .i64 x7, .int .i64 x8, .int .i64 x9] T)) fun e w' => ∃ x : Int, e = .returned (.int .i64 x) ∧ Src a n cap Z s (t + 1) w' ∧ Keeps s w w' := by
  have hsl : s < w.heap.size := World.block_lt_of_cell? _ _ h.code
  have hb : Below w.heap.size w (w.alloc (.cells #[.int .i64 x0, .int .i64 x1, .int .i64 x2, .int .i64 x3, .int .i64 x4, .int .i64 x5, .int .i64 x6, .int .i64 x7, .int .i64 x8, .int .i64 x9] T)) := by (repeat (first | exact Below.refl _ _ | assumption | refine Below.drew ?_ | refine bl_alloc ?_ _ | refine bl_then ?_ (by assumption) | refine Below.setCell ?_ (by first | omega | (simp; done) | (simp; omega)) _ | refine bl_store ?_ ?_ _ _))
  refine (l1Pick_any a n cap Z s t w.heap.size 10 (fun i => if i = 0 then x0 else if i = 1 then x1 else if i = 2 then x2 else if i = 3 then x3 else if i = 4 then x4 else if i = 5 then x5 else if i = 6 then x6 else if i = 7 then x7 else if i = 8 then x8 else x9) _ (h.below hb) hcap ht (by omega) (by omega) (by omega) (fun i hi => ?_)).mono ?_
  · have hc : i = 0 ∨ i = 1 ∨ i = 2 ∨ i = 3 ∨ i = 4 ∨ i = 5 ∨ i = 6 ∨ i = 7 ∨ i = 8 ∨ i = 9 := by omega
    rcases hc with rfl | rfl | rfl | rfl | rfl | rfl | rfl | rfl | rfl | rfl <;> simp [go_sem]
  · rintro e w' ⟨x, rfl, hS, hK⟩
    exact ⟨x, rfl, hS, (Keeps.of_below hb).trans hK⟩

theorem l3Draw_any (a : Option Addr) (n cap : Nat) (Z : Nat → Int) (s t : Nat) (w : World) (h : Src a n cap Z s t w) (hcap : n ≤ cap) (ht : t ≤ 900) :
    Calls Tryz.prog 26 #[.pointer (some ⟨s, 0, none⟩)] w fun e w' => ∃ x : Int, e = .returned (.int .i64 x) ∧ Src a n cap Z s (t + 1) w' ∧ Keeps s w w' := by
  have HS : Hid (Src a n cap Z s t w) := h
  clear h
  go_enter Tryz.func26, Tryz.ntmps26
  go_wp2_with fail
  refine (l1Pick_new10 a n cap Z s t _ _ _ _ _ _ _ _ _ _ _ _ HS.out hcap ht).mono ?_
  rintro e w1 ⟨x, rfl, hS1, hK1⟩
  have HS1 : Hid (Src a n cap Z s (t + 1) w1) := hS1
  have HK1 : Hid (Keeps s w w1) := hK1
  clear hS1 hK1
  go_wp2
  go_ret
  exact ⟨_, rfl, HS1.out, HK1.out⟩

end Go.Proofs.YtgpdpodagoligaaGreat
