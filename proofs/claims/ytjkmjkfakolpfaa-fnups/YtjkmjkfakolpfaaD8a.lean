/- A drawn raster: whatever it is, nothing that was there is written. -/
import Derived.Test.YtjkmjkfakolpfaaT9
import Derived.Test.YtjkmjkfakolpfaaRw0
namespace Go.Proofs.Ytjkmjkfakolpfaa
open Go.RowKit
set_option linter.unusedSimpArgs false
set_option linter.unusedVariables false
set_option maxRecDepth 100000

theorem NsAt.keeps {w w' : World} {b off n s : Nat} {Z : Nat → Int} (h : NsAt w b off n Z) (hK : Keeps s w w') (hb : b < w.heap.size) (hs : b ≠ s) : NsAt w' b off n Z := fun i hi => (hK.cell (p := ⟨b, off + i, none⟩) hb hs).trans (h i hi)
set_option maxHeartbeats 8000000 in
theorem l8Draw_any (a : Option Addr) (n cap : Nat) (Z : Nat → Int) (s t : Nat) (w : World) (h : Src a n cap Z s t w) (hcap : n ≤ cap) (ht : t ≤ 500) :
    Calls Try.prog 20 #[.pointer (some ⟨s, 0, none⟩)] w fun e w' => ∃ (b off m c t' : Nat) (Y : Nat → Int), e = .returned (.slice (some ⟨b, off, none⟩) m c) ∧ m ≤ 64 ∧ m ≤ c ∧ w.heap.size ≤ b ∧ b < w'.heap.size ∧ NsAt w' b off m Y ∧ t' ≤ t + 70 ∧ Src a n cap Z s t' w' ∧ Keeps s w w' := by
  have hsl : s < w.heap.size := World.block_lt_of_cell? _ _ h.code
  obtain ⟨i0, hi, hz0, hz1, hz2⟩ := info_parts info_n64
  go_enter Try.func20, Try.ntmps20
  go_wp2_with fail
  generalize hW : (w.alloc _ : World) = W
  have hB0 : Below w.heap.size w W := by subst hW; (repeat (first | exact Below.refl _ _ | assumption | refine Below.drew ?_ | refine bl_alloc ?_ _ | refine bl_then ?_ (by assumption) | refine Below.setCell ?_ (by first | omega | (simp; done) | (simp; omega)) _ | refine bl_store ?_ ?_ _ _))
  have hO0 : RowN w.heap.size W (.slice (some ⟨w.heap.size, 0, none⟩) 0 0) [] := by
    subst hW
    exact World.ownsRow_lit (base := w.heap.size) w #[] 0 (Nat.le_refl _) (Nat.zero_le _) rfl
  clear hW
  have HO0 : Hid (RowN w.heap.size W (.slice (some ⟨w.heap.size, 0, none⟩) 0 0) []) := hO0
  have HS0 : Hid (Src a n cap Z s t W) := h.below hB0
  have HK0 : Hid (Keeps s w W) := Keeps.of_below hB0
  clear h hB0 hO0
  go_loopw [3, 4] (fun v kk wr => ∃ (l : List Int), kk = .int .i64 (l.length : Int) ∧ l.length ≤ 64 ∧ RowN w.heap.size wr v l ∧ Src a n cap Z s (t + l.length) wr ∧ Keeps s w wr) (fun _ kk _ => 64 - (intOf kk).toNat)
  case atStart => exact ⟨[], rfl, by simp, HO0.out, HS0.out, HK0.out⟩
  case round =>
    obtain ⟨l, rfl, hlj, hO, hS, hK⟩ := hrel
    have HK : Hid (Keeps s w wr) := hK
    have HS : Hid (Src a n cap Z s (t + l.length) wr) := hS
    have HO : Hid (RowN w.heap.size wr u3 l) := hO
    clear hK hS hO HO0 HS0 HK0
    by_cases hj : l.length < 64
    · have hji : (l.length : Int) < 64 := by omega
      go_wp2_with fail
      refine (l1Next_any a n cap Z s (t + l.length) 4 _ HS.out hcap (by omega) (by omega) (by omega)).mono ?_
      rintro e w2 ⟨x, rfl, hx, hS2, hK2⟩
      have HO2 : Hid (RowN w.heap.size w2 u3 l) := ownsRow_keeps HO.out hK2 hsl
      have hz2l : w.heap.size ≤ w2.heap.size := Nat.le_trans HK.out.size hK2.size
      have HS2 : Hid (Src a n cap Z s (t + l.length + 1) w2) := hS2
      have HK2 : Hid (Keeps s w w2) := HK.out.trans hK2
      clear hS2 hK2 HS HK HO
      go_wp2_with (first
        | (at_builtin; go_must (refine wpList_append_own _ rfl _ _ 24 rfl w.heap.size 2 i0 (.int .i64 0) 1 8 Try.underlying24 hi hz0 hz1 hz2 rfl (by decide) _ l.length (l.map (.int .i64 ·)) rfl (World.ownsRow.alloc HO2.out _) ⟨w2.heap.size, 0, none⟩ 1 1 [.int .i64 (x : Int)] rfl rfl ?c1 ?c2 ?c3 ?c4 ?c5 ?_)))
      case c1 =>
        intro j u hj
        match j, hj with
        | 0, hj => simp at hj; subst hj; simp [Addr.add, go_sem]
        | j + 1, hj => simp at hj
      case c2 => intro u hu; simp at hu; subst hu; rfl
      case c3 => unfold maxLen; omega
      case c4 => omega
      case c5 => simp; omega
      intro v' w3 hown' hgrow hnil
      have hBg : Below w.heap.size (w2.alloc (.cells #[.int .i64 (x : Int)] 2)) w3 := (Below.refl _ _).grown hgrow (by simp; omega) (fun k hk => (World.ownsRow.lt HO2.out k hk).1)
      have hBa : Below w.heap.size w2 (w2.alloc (.cells #[.int .i64 (x : Int)] 2)) := (Below.refl _ _).alloc hz2l _
      have HS3 : Hid (Src a n cap Z s (t + l.length + 1) w3) := (HS2.out.belowB hBa hsl).belowB hBg hsl
      have HK3 : Hid (Keeps s w w3) := (HK2.out.thenB hBa).thenB hBg
      have HO3 : Hid (RowN w.heap.size w3 v' (l ++ [(x : Int)])) := by
        show World.ownsRow _ _ _ _ _ _ _
        rw [List.length_append, List.map_append]
        exact hown'
      clear hown' hgrow hnil hBg hBa HO2 HS2 HK2
      go_wp2
      go_roundw
      case rel => exact ⟨l ++ [(x : Int)], by simp, by rw [List.length_append, List.length_singleton]; omega, HO3.out, by rw [show t + (l ++ [(x : Int)]).length = t + l.length + 1 by simp; omega]; exact HS3.out, HK3.out⟩
      case measure => simp [intOf]; omega
    · have hl64 : l.length = 64 := by omega
      obtain ⟨va, vc, hvs, hc, h0 | ⟨b, rfl, hb, hbl, hN, hT⟩⟩ := HO.out.own
      · omega
      subst hvs
      rw [hl64] at hc hN hT HS ⊢
      have HN : Hid (NsAt wr b 0 64 (nz l)) := hN
      have HT : Hid (There wr b 64) := hT
      clear hN hT HO
      go_wp2_with fail
      refine (l1Next_any a n cap Z s (t + 64) 10 _ HS.out hcap (by omega) (by omega) (by omega)).mono ?_
      rintro e w2 ⟨x, rfl, hx, hS2, hK2⟩
      have HN2 : Hid (NsAt w2 b 0 64 (nz l)) := HN.out.keeps hK2 hbl (by omega)
      have HT2 : Hid (There w2 b 64) := HT.out.keeps hK2 (by omega)
      have hb2 : b < w2.heap.size := Nat.lt_of_lt_of_le hbl hK2.size
      have HS2 : Hid (Src a n cap Z s (t + 64 + 1) w2) := hS2
      have HK2 : Hid (Keeps s w w2) := HK.out.trans hK2
      clear hS2 hK2 HS HK HN HT hbl
      have hx' : x = 0 ∨ x = 1 ∨ (x ≠ 0 ∧ x ≠ 1) := by omega
      rcases hx' with rfl | rfl | ⟨hx0, hx1⟩
      · go_wp2_with fail
        refine (pick3r a n cap Z s (t + 64 + 1) 999 1000 (-1) w2 _ HS2.out hcap (by omega)).mono ?_
        rintro e w3 ⟨y, rfl, hS3, hK3⟩
        have HN3 : Hid (NsAt w3 b 0 64 (nz l)) := HN2.out.keeps hK3 hb2 (by omega)
        have hT3 : There w3 b 64 := HT2.out.keeps hK3 (by omega)
        have hb3 : b < w3.heap.size := Nat.lt_of_lt_of_le hb2 hK3.size
        have t0 := hT3.cell 0 (by omega)
        have f0 := (hT3 0 (by omega)).2
        have HS3 : Hid (Src a n cap Z s (t + 64 + 1 + 1) w3) := hS3
        have HK3 : Hid (Keeps s w w3) := HK2.out.trans hK3
        clear hS3 hK3
        go_wp2_with fail
        go_ret
        refine ⟨b, 0, 64, _, t + 64 + 1 + 1, fun i => if i = 0 then y else nz l i, rfl, by omega, hc, hb, by simpa [World.setCell] using hb3, fun i hi => ?_, ?_, ?_, ?_⟩
        · by_cases h0 : i = 0
          · subst h0
            simp only [if_true]
            exact set1_same t0
          · simp only [h0, if_false]
            rw [set1_other (fun e => by injection e; omega)]
            exact HN3.out i hi
        · omega
        · exact HS3.out.other 0 _ (by omega)
        · exact HK3.out.own1 hb 0 _
      · go_wp2_with fail
        go_ret
        refine ⟨b, 1, 63, _, _, fun i => nz l (i + 1), rfl, by omega, by omega, hb, hb2, fun i hi => ?_, ?_, HS2.out, HK2.out⟩
        · have := HN2.out (i + 1) (by omega)
          rw [show 1 + i = 0 + (i + 1) by omega]
          exact this
        · omega
      · have e0 : ((x : Int) == 0) = false := by simp; omega
        have e1 : ((x : Int) == 1) = false := by simp; omega
        go_wp2_with fail
        go_ret
        exact ⟨b, 0, 64, _, _, nz l, rfl, by omega, hc, hb, hb2, HN2.out, by omega, HS2.out, HK2.out⟩
end Go.Proofs.Ytjkmjkfakolpfaa
