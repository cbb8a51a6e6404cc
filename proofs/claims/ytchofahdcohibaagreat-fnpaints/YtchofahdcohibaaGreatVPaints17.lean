/- Lists of features are drawn, and what is drawn behind them. -/
import Derived.Test.YtchofahdcohibaaGreatVPaints14
import Derived.Test.YtchofahdcohibaaGreatVPaints16
namespace Go.Proofs.YtchofahdcohibaaGreat
open Go.RowKit
set_option linter.unusedSimpArgs false
set_option linter.unusedVariables false
set_option maxRecDepth 100000

/-- A list of features that was drawn, from a mark of memory on. -/
def DrawnS (lo : Nat) (w : World) (g m c : Nat) (G : Nat → Feat) : Prop := DrawnL w g m c G ∧ lo ≤ g ∧ ∀ i, i < m → ∀ q o, (G i).a = some ⟨q, o, none⟩ → lo ≤ q
theorem PtsAt.keepsS {s : Nat} {w w' : World} {b off n : Nat} {X Y : Nat → Int} (h : PtsAt w b off n X Y) (hk : Keeps s w w') (hb : b < w.heap.size) (hs : b ≠ s) : PtsAt w' b off n X Y := fun i hi =>
  ⟨(hk.cell (p := ⟨b, off + i * 2, none⟩) hb hs).trans (h i hi).1, (hk.cell (p := ⟨b, off + i * 2 + 1, none⟩) hb hs).trans (h i hi).2⟩
theorem FeatAt.keepsS {s : Nat} {w w' : World} {p o : Nat} {id la ki wi pr : Int} {v : Value} {lab : ByteArray} (h : FeatAt w p o id la ki wi v lab pr) (hk : Keeps s w w') (hs : p ≠ s) : FeatAt w' p o id la ki wi v lab pr := by
  have hp : p < w.heap.size := World.block_lt_of_cell? _ _ h.1
  have c : ∀ (k : Nat) (u : Value), w.cell? ⟨p, k, none⟩ = some u → w'.cell? ⟨p, k, none⟩ = some u := fun k u e => (hk.cell (p := ⟨p, k, none⟩) hp hs).trans e
  obtain ⟨h0, h1, h2, h3, h4, h5, h6⟩ := h
  exact ⟨c _ _ h0, c _ _ h1, c _ _ h2, c _ _ h3, c _ _ h4, c _ _ h5, c _ _ h6⟩
theorem DrawnF.lo {base : Nat} {w : World} {f : Feat} (h : DrawnF base w f) {q o : Nat} (e : f.a = some ⟨q, o, none⟩) : base ≤ q := by
  obtain ⟨l, hR, hl, h0, _⟩ := h
  obtain ⟨g, c, hv, hg, _⟩ := hR.at (by omega)
  rw [e] at hv
  injection hv with hv
  injection hv with hv
  injection hv with hv
  omega
theorem DrawnS.keeps {lo s : Nat} {w w' : World} {g m c : Nat} {G : Nat → Feat} (h : DrawnS lo w g m c G) (hk : Keeps s w w') (hs : s < lo) : DrawnS lo w' g m c G := by
  obtain ⟨⟨h1, h2, h3, h4, h5⟩, h6, h7⟩ := h
  refine ⟨⟨h1, h2, Nat.lt_of_lt_of_le h3 hk.size, fun i hi => ⟨(h4 i hi).1.keepsS hk (by omega), ?_⟩, h5⟩, h6, h7⟩
  rcases (h4 i hi).2 with h0 | ⟨q, o, ea, hl, hp⟩
  · exact .inl h0
  · exact .inr ⟨q, o, ea, Nat.lt_of_lt_of_le hl hk.size, hp.keepsS hk hl (by have := h7 i hi q o ea; omega)⟩
theorem DrawnL.below {w w' : World} {g m c : Nat} {G : Nat → Feat} (h : DrawnL w g m c G) (hb : Below w.heap.size w w') : DrawnL w' g m c G := by
  obtain ⟨h1, h2, h3, h4, h5⟩ := h
  exact ⟨h1, h2, Nat.lt_of_lt_of_le h3 hb.size, h4.below hb h3, h5⟩
set_option maxHeartbeats 8000000 in
theorem l2Wrong_src (a : Option Addr) (n cap : Nat) (Z : Nat → Int) (s t : Nat) (w : World) (h : Src a n cap Z s t w) (hcap : n ≤ cap) (ht : t ≤ 10) :
    Calls Tryz.prog 11 #[.pointer (some ⟨s, 0, none⟩)] w fun e w' => ∃ (g m c : Nat) (G : Nat → Feat) (t' : Nat), e = .returned (.slice (some ⟨g, 0, none⟩) m c) ∧ DrawnS w.heap.size w' g m c G ∧ t' ≤ t + 330 ∧ Src a n cap Z s t' w' ∧ Keeps s w w' := by
  obtain ⟨i0, hi, hz0, hz1, hz2⟩ := info_parts info_if
  have hmk := make_feats 13 (by omega)
  have hsl : s < w.heap.size := World.block_lt_of_cell? _ _ h.code
  have HS : Hid (Src a n cap Z s t w) := h
  clear h
  go_enter Tryz.func11, Tryz.ntmps11
  go_wp2_with fail
  refine (l2Right_any a n cap Z s t w HS.out hcap (by omega)).mono ?_
  rintro e w1 ⟨g, m, c, H, t1, rfl, hF1, hm5, hD1, ht1, hS1, hK1⟩
  have HF1 : Hid (FRow w.heap.size w1 (.slice (some ⟨g, 0, none⟩) m c) H (List.range m)) := hF1
  have HD1 : Hid (∀ j, j < m → DrawnF w.heap.size w1 (H j)) := hD1
  have HS1 : Hid (Src a n cap Z s t1 w1) := hS1
  have HK1 : Hid (Keeps s w w1) := hK1
  clear hF1 hD1 hS1 hK1 HS
  go_wp2_with fail
  refine (l1Next_any a n cap Z s t1 12 w1 HS1.out hcap (by omega) (by omega) (by omega)).mono ?_
  rintro e w2 ⟨v2, rfl, hv2, hS2, hK2⟩
  have HF2 : Hid (FRow w.heap.size w2 (.slice (some ⟨g, 0, none⟩) m c) H (List.range m)) := ownsRow_keeps HF1.out hK2 hsl
  have HD2 : Hid (∀ j, j < m → DrawnF w.heap.size w2 (H j)) := fun j hj => (HD1.out j hj).keeps hK2 hsl
  have HS2 : Hid (Src a n cap Z s (t1 + 1) w2) := hS2
  have HK2 : Hid (Keeps s w w2) := HK1.out.trans hK2
  clear hS2 hK2 HF1 HD1 HS1 HK1
  have hFs := HF2.out.fs (fun j hj => (HD2.out j hj).is)
  have hsmall : SmallFs m H := ⟨by omega, fun i hi => by obtain ⟨l, _, _, _, h6, _, _, h7⟩ := HD2.out i hi; exact ⟨by omega, by omega⟩⟩
  by_cases h0 : v2 = 0
  · subst h0
    clear hmk
    go_wp2_with fail
    refine (l2Bent_any a n cap Z s _ w2 HS2.out hcap (by omega)).mono ?_
    rintro e w3 ⟨id, la, ki, wi, b, off, N, cN, X, Y, lab, pr, t3, rfl, hN6, hNc, hgb, hbl, hP3, hlab, ht3, hS3, hK3⟩
    have hO3 : FRow w.heap.size w3 (.slice (some ⟨g, 0, none⟩) m c) H (List.range m) := ownsRow_keeps HF2.out hK3 hsl
    have HO3 : Hid (FRow w.heap.size w3 (.slice (some ⟨g, 0, none⟩) m c) H (List.range m)) := hO3
    have HD3 : Hid (∀ j, j < m → DrawnF w.heap.size w3 (H j)) := fun j hj => (HD2.out j hj).keeps hK3 hsl
    have HP3 : Hid (PtsAt w3 b off N X Y) := hP3
    have HS3 : Hid (Src a n cap Z s t3 w3) := hS3
    have hsl3 : s < w3.heap.size := World.block_lt_of_cell? _ _ hS3.code
    have hw2 : w.heap.size ≤ w2.heap.size := HK2.out.size
    have HK3 : Hid (Keeps s w w3) := HK2.out.trans hK3
    have hgl : g < w2.heap.size ∧ w.heap.size ≤ g := ⟨hFs.2.1, hFs.2.2.1⟩
    have hw3 : w.heap.size ≤ w3.heap.size := HK3.out.size
    clear hO3 hP3 hS3 hK3 hFs hsmall
    go_wp2_with (first
      | (at_builtin; go_must (refine wpList_append_own _ rfl _ _ 24 rfl w.heap.size 36 i0 (.agg #[.int .i64 0, .int .i64 0, .int .i64 0, .int .i64 0, .slice none 0 0, .string ⟨#[]⟩, .int .i64 0]) 7 80 Tryz.underlying24 hi hz0 hz1 hz2 rfl (by decide) (.slice (some ⟨g, 0, none⟩) m c) m (cellsF H (List.range m)) rfl ?c6 ⟨w3.heap.size, 0, none⟩ 1 1 (fcell ⟨id, la, ki, wi, some ⟨b, off, none⟩, N, cN, X, Y, lab, pr⟩) rfl ?c0 ?c1 ?c2 ?c3 ?c4 ?c5 ?_)))
    case c6 =>
      have := HO3.out.below ((Below.refl w3.heap.size w3).alloc (Nat.le_refl _) (.cells #[.int .i64 id, .int .i64 la, .int .i64 ki, .int .i64 wi, .slice (some ⟨b, off, none⟩) N cN, .string lab, .int .i64 pr] 36))
      unfold FRow at this
      rw [List.length_range] at this
      exact this
    case c0 => rfl
    case c1 =>
      intro q u hq
      have hq7 : q < 7 := (List.getElem?_eq_some_iff.1 hq).1
      have hc : q = 0 ∨ q = 1 ∨ q = 2 ∨ q = 3 ∨ q = 4 ∨ q = 5 ∨ q = 6 := by omega
      rcases hc with rfl | rfl | rfl | rfl | rfl | rfl | rfl <;> (simp [fcell] at hq; subst hq; simp [Addr.add, go_sem])
    case c2 => exact fcell_one _
    case c3 => unfold maxLen; omega
    case c4 => omega
    case c5 => simp; omega
    intro v' w4 hown' hgrow hnil
    obtain ⟨g4, c4, hv4⟩ : ∃ g4 c4, v' = .slice (some ⟨g4, 0, none⟩) (m + 1) c4 := by
      obtain ⟨_, h2 | ⟨g', cp, cur, hv, _⟩⟩ := hown'
      · first | exact absurd h2.1 hnil | (have := hnil.1 h2.1; simp at this)
      · exact ⟨g', cp, hv⟩
    subst hv4
    have hb3a : Below w3.heap.size w3 (w3.alloc (.cells #[.int .i64 id, .int .i64 la, .int .i64 ki, .int .i64 wi, .slice (some ⟨b, off, none⟩) N cN, .string lab, .int .i64 pr] 36)) := (Below.refl w3.heap.size w3).alloc (Nat.le_refl _) _
    have hO3a := HO3.out.below hb3a
    have HF4 : FRow w.heap.size w4 (.slice (some ⟨g4, 0, none⟩) (m + 1) c4) (fun i => if i = m then ⟨id, la, ki, wi, some ⟨b, off, none⟩, N, cN, X, Y, lab, pr⟩ else H i) (List.range (m + 1)) := by
      unfold FRow
      have e1 : cellsF (fun i => if i = m then ⟨id, la, ki, wi, some ⟨b, off, none⟩, N, cN, X, Y, lab, pr⟩ else H i) (List.range (m + 1)) = cellsF H (List.range m) ++ fcell ⟨id, la, ki, wi, some ⟨b, off, none⟩, N, cN, X, Y, lab, pr⟩ := by
        rw [List.range_succ, cellsF_app, cellsF_one, if_pos rfl]
        rw [cellsF_congr (H' := H) (List.range m) (fun j hj => by rw [if_neg]; have := List.mem_range.1 hj; omega)]
      rw [e1, List.length_range]
      exact hown'
    have hpt : ∀ j, j < m + 1 → IsPts w4 ((fun i => if i = m then (⟨id, la, ki, wi, some ⟨b, off, none⟩, N, cN, X, Y, lab, pr⟩ : Feat) else H i) j).a ((fun i => if i = m then (⟨id, la, ki, wi, some ⟨b, off, none⟩, N, cN, X, Y, lab, pr⟩ : Feat) else H i) j).n ((fun i => if i = m then (⟨id, la, ki, wi, some ⟨b, off, none⟩, N, cN, X, Y, lab, pr⟩ : Feat) else H i) j).X ((fun i => if i = m then (⟨id, la, ki, wi, some ⟨b, off, none⟩, N, cN, X, Y, lab, pr⟩ : Feat) else H i) j).Y := fun j hj => by
      by_cases e : j = m
      · simp only [if_pos e]
        have hs4 := hgrow.size
        refine .inr ⟨b, off, rfl, by simp at hs4; omega, ?_⟩
        exact PtsAt.grown (s := g) (HP3.out.below hb3a hbl) hgrow (by omega)
      · simp only [if_neg e]
        exact (((HD3.out j (by omega)).below hb3a).kept hO3a hgrow).is
    have hF := HF4.fs hpt
    have HS4 : Hid (Src a n cap Z s t3 w4) := (HS3.out.belowC hb3a hsl3).belowC ((Below.refl w.heap.size _).grown hgrow (by simp; omega) (fun q hq => by simp [Value.ownBlock] at hq; omega)) hsl
    have HL : Hid (DrawnS w.heap.size w4 g4 (m + 1) c4 (fun i => if i = m then ⟨id, la, ki, wi, some ⟨b, off, none⟩, N, cN, X, Y, lab, pr⟩ else H i)) := by
      refine ⟨⟨hF.1, by omega, hF.2.1, hF.2.2.2, by omega, fun i hi => ?_⟩, hF.2.2.1, fun i hi q o e' => ?_⟩
      rotate_left
      · by_cases e : i = m
        · simp only [if_pos e] at e'
          injection e' with e'
          injection e' with e'
          omega
        · simp only [if_neg e] at e'
          exact (HD3.out i (by omega)).lo e'
      by_cases e : i = m
      · simp only [if_pos e]
        show N ≤ 1048576 ∧ lab.size ≤ 1048576
        exact ⟨by omega, by omega⟩
      · simp only [if_neg e]
        obtain ⟨l, _, _, _, h6, _, _, h7⟩ := HD3.out i (by omega)
        exact ⟨by omega, by omega⟩
    have HK4 : Hid (Keeps s w w4) := (HK3.out.trans (Keeps.of_below hb3a)).grownF hgrow (fun q hq => by simp [Value.ownBlock] at hq; omega)
    clear hown' hgrow hnil HF4 hpt hF hO3a hb3a
    go_wp2
    go_ret
    exact ⟨g4, m + 1, c4, _, t3, rfl, HL.out, by omega, HS4.out, HK4.out⟩
  · have h0' : (((v2 : Nat) : Int) == 0) = false := by simp; omega
    by_cases h1 : v2 = 1
    · subst h1
      have HL : Hid (DrawnS w.heap.size (w2.alloc (.cells (madeCells zeroF (13 * 7)) 36)) w2.heap.size 13 13 (fun _ => ⟨0, 0, 0, 0, none, 0, 0, fun _ => 0, fun _ => 0, ⟨#[]⟩, 0⟩)) := by
        refine ⟨⟨by omega, by omega, by simp, fun i hi => ⟨?_, .inl rfl⟩, by omega, fun i hi => ⟨by show 0 ≤ _; omega, by show 0 ≤ _; omega⟩⟩, HK2.out.size, fun i hi q o e' => by cases e'⟩
        rw [Nat.zero_add]
        exact there_zero 13 w2 36 i hi
      have HS4 : Hid (Src a n cap Z s (t1 + 1) (w2.alloc (.cells (madeCells zeroF (13 * 7)) 36))) := HS2.out.belowC ((Below.refl w2.heap.size w2).alloc (Nat.le_refl _) _) (World.block_lt_of_cell? _ _ HS2.out.code)
      have HK4 : Hid (Keeps s w (w2.alloc (.cells (madeCells zeroF (13 * 7)) 36))) := HK2.out.trans (Keeps.of_below ((Below.refl _ _).alloc (Nat.le_refl _) _))
      obtain ⟨W', hW', HL, HS4, HK4⟩ : ∃ W', (Instr.makeSlice 24 (.int .i64 13) (.int .i64 13)).run Tryz.prog w2 = .ok (.slice (some ⟨w2.heap.size, 0, none⟩) 13 13) W' ∧ Hid (DrawnS w.heap.size W' w2.heap.size 13 13 (fun _ => ⟨0, 0, 0, 0, none, 0, 0, fun _ => 0, fun _ => 0, ⟨#[]⟩, 0⟩)) ∧ Hid (Src a n cap Z s (t1 + 1) W') ∧ Hid (Keeps s w W') := ⟨_, hmk w2, HL, HS4, HK4⟩
      clear hFs hsmall hmk
      go_wp2
      go_ret
      exact ⟨_, 13, 13, _, _, rfl, HL.out, by omega, HS4.out, HK4.out⟩
    · have h1' : (((v2 : Nat) : Int) == 1) = false := by simp; omega
      have HL : Hid (DrawnS w.heap.size w2 g m c H) := ⟨⟨hFs.1, by omega, hFs.2.1, hFs.2.2.2, hsmall⟩, hFs.2.2.1, fun i hi q o e' => (HD2.out i hi).lo e'⟩
      clear hFs hsmall hmk
      go_wp2
      go_ret
      exact ⟨g, m, c, H, _, rfl, HL.out, by omega, HS2.out, HK2.out⟩
set_option maxHeartbeats 8000000 in
theorem DrawPaintedAt_any (a : Option Addr) (n cap : Nat) (Z : Nat → Int) (w : World) (h : IsBytes w a n Z) (hrng : ∀ i, 0 ≤ Z i ∧ Z i ≤ 255) (hn : n ≤ 1048576) (hcap : n ≤ cap) :
    Calls Tryz.prog 5 #[.slice a n cap] w fun e w' => ∃ (g m c : Nat) (G : Nat → Feat) (z x y : Int), e = .returned (.tuple #[.slice (some ⟨g, 0, none⟩) m c, .int .i64 z, .int .i64 x, .int .i64 y]) ∧ DrawnL w' g m c G ∧ Below w.heap.size w w' := by
  go_enter Tryz.func5, Tryz.ntmps5
  go_wp2_with fail
  refine (l1Source_ex _ _ _ _).mono ?_
  rintro e w1 ⟨rfl, hw1⟩
  have hS1 : Src a n cap Z w.heap.size 0 w1 := by rw [← hw1]; exact src_start a n cap Z w h hrng hn
  have hb1 : Below w.heap.size w w1 := by rw [← hw1]; unfold srcW; (repeat (first | exact Below.refl _ _ | assumption | refine Below.drew ?_ | refine bl_alloc ?_ _ | refine bl_then ?_ (by assumption) | refine Below.setCell ?_ (by first | omega | (simp; done) | (simp; omega)) _ | refine bl_store ?_ ?_ _ _))
  have HS1 : Hid (Src a n cap Z w.heap.size 0 w1) := hS1
  have HB1 : Hid (Below w.heap.size w w1) := hb1
  have hsz : w.heap.size < w1.heap.size := World.block_lt_of_cell? _ _ hS1.code
  clear hw1 hS1 hb1 h hrng
  go_wp2_with fail
  refine (l2Wrong_src a n cap Z _ 0 _ HS1.out hcap (by omega)).mono ?_
  rintro e w2 ⟨g, m, c, G, t2, rfl, hL, ht2, hS2, hK2⟩
  have HL2 : Hid (DrawnS w1.heap.size w2 g m c G) := hL
  have HS2 : Hid (Src a n cap Z w.heap.size t2 w2) := hS2
  have HK2 : Hid (Keeps w.heap.size w1 w2) := hK2
  clear hL hS2 hK2
  go_wp2_with fail
  refine (l3Draw_any a n cap Z _ t2 _ HS2.out hcap (by omega)).mono ?_
  rintro e w3 ⟨z, rfl, hS3, hK3⟩
  have HL3 : Hid (DrawnS w1.heap.size w3 g m c G) := HL2.out.keeps hK3 hsz
  have HS3 : Hid (Src a n cap Z w.heap.size (t2 + 1) w3) := hS3
  have HK3 : Hid (Keeps w.heap.size w1 w3) := HK2.out.trans hK3
  clear hS3 hK3 HL2 HS2 HK2
  go_wp2_with fail
  refine (l4DrawPixel_any a n cap Z _ (t2 + 1) z _ HS3.out hcap (by omega)).mono ?_
  rintro e w4 ⟨x, y, t4, rfl, ht4, hS4, hK4⟩
  have HL4 : Hid (DrawnS w1.heap.size w4 g m c G) := HL3.out.keeps hK4 hsz
  have HB4 : Hid (Below w.heap.size w w4) := HB1.out.trans ((HK3.out.trans hK4).below (Nat.le_refl _) HB1.out.size)
  clear hS4 hK4 HL3 HS3 HK3
  go_wp2
  exact bodyPost_ret (v := .tuple #[.slice (some ⟨g, 0, none⟩) m c, .int .i64 z, .int .i64 x, .int .i64 y]) (by simp [results, Tryz.results5, go_sem]) rfl ⟨g, m, c, G, z, x, y, rfl, HL4.out.1, HB4.out⟩
end Go.Proofs.YtchofahdcohibaaGreat
