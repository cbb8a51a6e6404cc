/- l1Many: a new list of drawn points, whatever they are. -/
import Derived.Test.YtdmlgfifiicmpaaDraw3
import Derived.OwnWalk
import Derived.Deep.DeepMust
import Derived.Laws.OwnMore
namespace Go.Proofs.Ytdmlgfifiicmpaa
open Go.RowKit
set_option linter.unusedSimpArgs false
set_option linter.unusedVariables false

theorem Src.belowB {a : Option Addr} {n cap : Nat} {Z : Nat → Int} {s t B : Nat} {w w' : World} (h : Src a n cap Z s t w) (hb : Below B w w') (hs : s < B) : Src a n cap Z s t w' := by
  refine ⟨(hb.cell (p := ⟨s, 0, none⟩) hs).trans h.code, (hb.cell (p := ⟨s, 1, none⟩) hs).trans h.at', (hb.frozen (p := ⟨s, 1, none⟩) hs).trans h.wr, ?_, h.rng, h.max⟩
  rcases h.bytes with h0 | ⟨b, off, e, hs', hz⟩
  · exact .inl h0
  · exact .inr ⟨b, off, e, hs', fun i hi => (hb.cell (p := ⟨b, off + i, none⟩) (show b < B by omega)).trans (hz i hi)⟩
theorem Keeps.thenB {s : Nat} {w w1 w2 : World} (h : Keeps s w w1) (hb : Below w.heap.size w1 w2) : Keeps s w w2 :=
  ⟨hb.os.trans h.os, hb.tape.trans h.tape, hb.output.trans h.output, Nat.le_trans h.size hb.size, fun k hk hs => (hb.block k hk).trans (h.block k hk hs)⟩
/-- Every cell holds a number. -/
def Nums (xs : List Value) : Prop := ∀ u ∈ xs, ∃ z : Int, u = .int .i64 z
theorem Nums.add {xs : List Value} (h : Nums xs) (x y : Int) : Nums (xs ++ [.int .i64 x, .int .i64 y]) := fun u hu => by
  rcases List.mem_append.1 hu with hu | hu
  · exact h u hu
  · simp at hu
    rcases hu with rfl | rfl
    · exact ⟨x, rfl⟩
    · exact ⟨y, rfl⟩
theorem ownsRow_keeps {W W' : World} {base s n size : Nat} {e : TypeId} {v : Value} {xs : List Value} (h : W.ownsRow base e size v n xs) (hk : Keeps s W W') (hs : s < base) : W'.ownsRow base e size v n xs := by
  obtain ⟨h1, h2 | ⟨g, cp, cur, hv, hg, hh, hr⟩⟩ := h
  · exact ⟨h1, .inl h2⟩
  · refine ⟨h1, .inr ⟨g, cp, cur, hv, hg, ?_, hr⟩⟩
    have hgl : g < W.heap.size := by
      rcases Nat.lt_or_ge g W.heap.size with h' | h'
      · exact h'
      · rw [Array.getElem?_eq_none h'] at hh; cases hh
    rw [hk.block g hgl (by omega)]
    exact hh
theorem info_ipm : (Try.prog.info? 25).map (fun i => (i.zero, i.size, i.bytes)) = some (some (.agg #[.int .i64 0, .int .i64 0]), 2, 16) := by kernel_rfl

set_option maxHeartbeats 4000000 in
theorem l1Many_any (a : Option Addr) (n cap : Nat) (Z : Nat → Int) (s t m : Nat) (w : World) (h : Src a n cap Z s t w) (hcap : n ≤ cap) (ht : t ≤ 500) (hm : 0 < m) (hm9 : m ≤ 9) :
    Calls Try.prog 51 #[.pointer (some ⟨s, 0, none⟩), .int .i64 m] w fun e w' => ∃ (v : Value) (k t' : Nat) (xs : List Value), e = .returned v ∧ k < m ∧ t' ≤ t + 60 ∧ w'.ownsRow w.heap.size 25 2 v k xs ∧ v ≠ .slice none 0 0 ∧ Nums xs ∧ Src a n cap Z s t' w' ∧ Keeps s w w' := by
  have hsl : s < w.heap.size := World.block_lt_of_cell? _ _ h.code
  obtain ⟨i0, hi, hz0, hz1, hz2⟩ := info_parts info_ipm
  go_enter Try.func51, Try.ntmps51
  go_wp2_with fail
  generalize hW : (w.alloc _ : World) = W
  have hB0 : Below w.heap.size w W := by subst hW; (repeat (first | exact Below.refl _ _ | assumption | refine Below.drew ?_ | refine bl_alloc ?_ _ | refine bl_then ?_ (by assumption) | refine Below.setCell ?_ (by first | omega | (simp; done) | (simp; omega)) _ | refine bl_store ?_ ?_ _ _))
  have hO0 : W.ownsRow w.heap.size 25 2 (.slice (some ⟨w.heap.size, 0, none⟩) 0 0) 0 [] := by
    subst hW
    exact World.ownsRow_lit (base := w.heap.size) w #[] 0 (Nat.le_refl _) (Nat.zero_le _) rfl
  clear hW
  have HO0 : Hid (W.ownsRow w.heap.size 25 2 (.slice (some ⟨w.heap.size, 0, none⟩) 0 0) 0 []) := hO0
  have HS0 : Hid (Src a n cap Z s t W) := h.below hB0
  have HK0 : Hid (Keeps s w W) := Keeps.of_below hB0
  clear h hB0 hO0
  refine (l1Next_any a n cap Z s t m _ HS0.out hcap (by omega) hm (by omega)).mono ?_
  rintro e w1 ⟨k0, rfl, hk0, hS1, hK1⟩
  have HS1 : Hid (Src a n cap Z s (t + 1) w1) := hS1
  have HK1 : Hid (Keeps s w w1) := HK0.out.trans hK1
  have HO1 : Hid (w1.ownsRow w.heap.size 25 2 (.slice (some ⟨w.heap.size, 0, none⟩) 0 0) 0 []) := ownsRow_keeps HO0.out hK1 hsl
  clear hS1 hK1 HS0 HK0 HO0
  go_wp2
  go_loopw [5, 6] (fun v kk wr => ∃ (j c t' : Nat) (xs : List Value), kk = .int .i64 j ∧ c + j = k0 ∧ t' ≤ t + 1 + 6 * c ∧ wr.ownsRow w.heap.size 25 2 v c xs ∧ v ≠ .slice none 0 0 ∧ Nums xs ∧ Src a n cap Z s t' wr ∧ Keeps s w wr) (fun _ kk _ => (intOf kk).toNat)
  case atStart => exact ⟨k0, 0, t + 1, [], rfl, by omega, by omega, HO1.out, (fun h => by cases h), (fun u hu => by cases hu), HS1.out, HK1.out⟩
  case round =>
    obtain ⟨j, c, t', xs, rfl, hcj, ht', hO, hne0, hN, hS, hK⟩ := hrel
    have HE : Hid (u5 ≠ .slice none 0 0) := hne0
    clear hne0
    by_cases hj : 0 < j
    · have hji : (0 : Int) < (j : Int) := by omega
      have HN : Hid (Nums xs) := hN
      have HK : Hid (Keeps s w wr) := hK
      have HS : Hid (Src a n cap Z s t' wr) := hS
      have HO : Hid (wr.ownsRow w.heap.size 25 2 u5 c xs) := hO
      clear hN hK hS hO
      go_wp2_with fail
      refine (l1Draw_any a n cap Z s t' _ HS.out hcap (by omega)).mono ?_
      rintro e w2 ⟨x, y, rfl, hS2, hK2⟩
      have hO2 := ownsRow_keeps HO.out hK2 hsl
      have hz2l : w.heap.size ≤ w2.heap.size := Nat.le_trans HK.out.size hK2.size
      have HS2 : Hid (Src a n cap Z s (t' + 6) w2) := hS2
      have HK2 : Hid (Keeps s w w2) := HK.out.trans hK2
      have HO2 : Hid (w2.ownsRow w.heap.size 25 2 u5 c xs) := hO2
      clear hS2 hK2 hO2 HS HK HO
      go_wp2_with (first
        | (at_builtin; go_must (refine wpList_append_own _ rfl _ _ 34 rfl w.heap.size 25 i0 (.agg #[.int .i64 0, .int .i64 0]) 2 16 Try.underlying34 hi hz0 hz1 hz2 rfl (by decide) _ c xs rfl (HO2.out.alloc _) ⟨w2.heap.size, 0, none⟩ 1 1 [.int .i64 x, .int .i64 y] rfl rfl ?c1 ?c2 ?c3 ?c4 ?c5 ?_)))
      case c1 =>
        intro q u hq
        match q, hq with
        | 0, hq => simp at hq; subst hq; simp [Addr.add, go_sem]
        | 1, hq => simp at hq; subst hq; simp [Addr.add, go_sem]
        | q + 2, hq => simp at hq
      case c2 => intro u hu; simp at hu; rcases hu with rfl | rfl <;> rfl
      case c3 => unfold maxLen; omega
      case c4 => omega
      case c5 => simp; omega
      intro v' w3 hown' hgrow hnil
      have HE3 : Hid (v' ≠ .slice none 0 0) := hnil
      clear hnil
      have hBg : Below w.heap.size (w2.alloc (.cells #[.int .i64 x, .int .i64 y] 25)) w3 := (Below.refl _ _).grown hgrow (by simp; omega) (fun k hk => (HO2.out.lt k hk).1)
      have hBa : Below w.heap.size w2 (w2.alloc (.cells #[.int .i64 x, .int .i64 y] 25)) := (Below.refl _ _).alloc hz2l _
      have HS3 : Hid (Src a n cap Z s (t' + 6) w3) := (HS2.out.belowB hBa hsl).belowB hBg hsl
      have HK3 : Hid (Keeps s w w3) := (HK2.out.thenB hBa).thenB hBg
      have HO3 : Hid (w3.ownsRow w.heap.size 25 2 v' (c + 1) (xs ++ [.int .i64 x, .int .i64 y])) := hown'
      clear hown' hgrow hBg hBa
      go_wp2
      go_roundw
      case rel => exact ⟨j - 1, c + 1, t' + 6, _, by go_num, by omega, by omega, HO3.out, HE3.out, HN.out.add x y, HS3.out, HK3.out⟩
      case measure => simp [intOf]; omega
    · go_wp2
      go_ret
      exact ⟨_, c, t', xs, rfl, by omega, by omega, hO, HE.out, hN, hS, hK⟩
end Go.Proofs.Ytdmlgfifiicmpaa
