/- Several texts in one. -/
import Derived.Test.YtchofahdcohibaaGreatVPaints11
import Derived.Test.YtchofahdcohibaaGreatVPaints13
import Derived.Test.YtchofahdcohibaaGreatVPaints2

/- Lists of features are drawn. -/

namespace Go.Proofs.YtchofahdcohibaaGreat
open Go.RowKit
set_option linter.unusedSimpArgs false
set_option linter.unusedVariables false
set_option maxRecDepth 100000

theorem Src.belowC {a : Option Addr} {n cap : Nat} {Z : Nat → Int} {s t B : Nat} {w w' : World} (h : Src a n cap Z s t w) (hb : Below B w w') (hB : s < B) : Src a n cap Z s t w' := by
  refine ⟨(hb.cell (p := ⟨s, 0, none⟩) hB).trans h.code, (hb.cell (p := ⟨s, 1, none⟩) hB).trans h.at', (hb.frozen (p := ⟨s, 1, none⟩) hB).trans h.wr, ?_, h.rng, h.max⟩
  rcases h.bytes with h0 | ⟨b, off, e, hs, hz⟩
  · exact .inl h0
  · exact .inr ⟨b, off, e, hs, fun i hi => (hb.cell (p := ⟨b, off + i, none⟩) (show b < _ by omega)).trans (hz i hi)⟩
/-- A feature that was drawn: its points lie in a row of their own. -/
def DrawnF (base : Nat) (w : World) (f : Feat) : Prop := ∃ l, Row base w (.slice f.a f.n f.cap) l ∧ l.length = f.n ∧ 0 < f.n ∧ f.n ≤ 6 ∧ f.X = px l ∧ f.Y = py l ∧ f.lab.size ≤ 7
theorem DrawnF.is {base : Nat} {w : World} {f : Feat} (h : DrawnF base w f) : IsPts w f.a f.n f.X f.Y := by
  obtain ⟨l, hR, hl, _, _, hX, hY, _⟩ := h
  have := hR.own
  rw [hl, ← hX, ← hY] at this
  exact this.is
theorem DrawnF.below {base : Nat} {w w' : World} {f : Feat} (h : DrawnF base w f) (hb : Below w.heap.size w w') : DrawnF base w' f := by
  obtain ⟨l, hR, hr⟩ := h
  exact ⟨l, hR.below hb, hr⟩
theorem DrawnF.keeps {base s : Nat} {w w' : World} {f : Feat} (h : DrawnF base w f) (hk : Keeps s w w') (hs : s < base) : DrawnF base w' f := by
  obtain ⟨l, hR, hr⟩ := h
  exact ⟨l, ownsRow_keeps hR hk hs, hr⟩
theorem DrawnF.kept {base base' : Nat} {w w' : World} {v : Value} {f : Feat} {H : Nat → Feat} {m : List Nat} (h : DrawnF base w f) (h' : FRow base' w v H m) (hg : w.grownBy w' v.ownBlock) : DrawnF base w' f := by
  obtain ⟨l, hR, hr⟩ := h
  exact ⟨l, hR.keptF h' hg, hr⟩
theorem Keeps.grownF {s : Nat} {w w1 w2 : World} {v : Value} (h : Keeps s w w1) (hg : w1.grownBy w2 v.ownBlock) (hv : ∀ g, v.ownBlock = some g → w.heap.size ≤ g) : Keeps s w w2 :=
  ⟨hg.os.trans h.os, hg.tape.trans h.tape, hg.output.trans h.output, Nat.le_trans h.size hg.size, fun k hk hs => (hg.block k (Nat.lt_of_lt_of_le hk h.size) (fun e => by have := hv k e.symm; omega)).trans (h.block k hk hs)⟩

set_option maxHeartbeats 2000000 in
theorem l2At_some (b n cap : Nat) (G : Nat → Feat) (t : Int) (w : World) (hg : ∀ i, i < n → w.cell? ⟨b, i * 7, none⟩ = some (.int .i64 (G i).id)) (hbl : b < w.heap.size) (hn : n ≤ 1048576) :
    Calls Tryz.prog 41 #[.slice (some ⟨b, 0, none⟩) n cap, .int .i64 t] w fun e w' => (∃ r : Int, e = .returned (.int .i64 r)) ∧ Below w.heap.size w w' := by
  have HG : Hid (∀ i, i < n → w.cell? ⟨b, i * 7, none⟩ = some (.int .i64 (G i).id)) := hg
  clear hg
  go_enter Tryz.func41, Tryz.ntmps41
  go_wp2
  go_loopw [5] (fun v wr => ∃ k : Nat, k ≤ n ∧ v = .int .i64 k ∧ Below w.heap.size w wr) (fun v _ => n - (intOf v).toNat)
  case atStart => exact ⟨0, by omega, rfl, Below.refl _ _⟩
  case round =>
    obtain ⟨k, hk, rfl, hB⟩ := hrel
    have HB : Hid (Below w.heap.size w wr) := hB
    by_cases hlt : k < n
    · have f0 := (hB.cell (p := ⟨b, k * 7, none⟩) hbl).trans (HG.out k hlt)
      clear hB
      have hi : (k : Int) < (n : Int) := by omega
      have hi0 : (0 : Int) ≤ (k : Int) := by omega
      by_cases he : (G k).id = t
      · rw [he] at f0
        go_wp2
        go_ret
        exact ⟨⟨_, rfl⟩, HB.out⟩
      · have he' : ((G k).id == t) = false := by simpa using he
        clear he
        go_wp2
        go_roundw
        case rel => exact ⟨k + 1, by omega, by go_num, HB.out⟩
        case measure => simp [intOf]; omega
    · go_wp2
      go_ret
      exact ⟨⟨_, rfl⟩, HB.out⟩
set_option maxHeartbeats 8000000 in
theorem l2Right_any (a : Option Addr) (n cap : Nat) (Z : Nat → Int) (s t : Nat) (w : World) (h : Src a n cap Z s t w) (hcap : n ≤ cap) (ht : t ≤ 100) :
    Calls Tryz.prog 30 #[.pointer (some ⟨s, 0, none⟩)] w fun e w' => ∃ (g m c : Nat) (H : Nat → Feat) (t' : Nat), e = .returned (.slice (some ⟨g, 0, none⟩) m c) ∧ FRow w.heap.size w' (.slice (some ⟨g, 0, none⟩) m c) H (List.range m) ∧ m ≤ 5 ∧ (∀ j, j < m → DrawnF w.heap.size w' (H j)) ∧ t' ≤ t + 260 ∧ Src a n cap Z s t' w' ∧ Keeps s w w' := by
  obtain ⟨i0, hi, hz0, hz1, hz2⟩ := info_parts info_if
  have hsl : s < w.heap.size := World.block_lt_of_cell? _ _ h.code
  have HS : Hid (Src a n cap Z s t w) := h
  clear h
  go_enter Tryz.func30, Tryz.ntmps30
  go_wp2_with fail
  generalize hW : (w.alloc _ : World) = W
  have hB0 : Below w.heap.size w W := by subst hW; (repeat (first | exact Below.refl _ _ | assumption | refine Below.drew ?_ | refine bl_alloc ?_ _ | refine bl_then ?_ (by assumption) | refine Below.setCell ?_ (by first | omega | (simp; done) | (simp; omega)) _ | refine bl_store ?_ ?_ _ _))
  have HO0 : Hid (FRow w.heap.size W (.slice (some ⟨w.heap.size, 0, none⟩) 0 0) (fun _ => ⟨0, 0, 0, 0, none, 0, 0, fun _ => 0, fun _ => 0, ⟨#[]⟩, 0⟩) []) := by
    show FRow _ _ _ _ _
    subst hW
    exact World.ownsRow_lit (base := w.heap.size) w #[] 0 (Nat.le_refl _) (Nat.zero_le _) rfl
  clear hW
  refine (l1Next_any a n cap Z s t 6 W (HS.out.below hB0) hcap (by omega) (by omega) (by omega)).mono ?_
  rintro e w1 ⟨v1, rfl, hv1, hS1, hK1⟩
  have HO1 : Hid (FRow w.heap.size w1 (.slice (some ⟨w.heap.size, 0, none⟩) 0 0) (fun _ => ⟨0, 0, 0, 0, none, 0, 0, fun _ => 0, fun _ => 0, ⟨#[]⟩, 0⟩) []) := ownsRow_keeps HO0.out hK1 hsl
  have HS1 : Hid (Src a n cap Z s (t + 1) w1) := hS1
  have HK1 : Hid (Keeps s w w1) := (Keeps.of_below hB0).trans hK1
  clear hS1 hK1 hB0 HO0 HS
  go_wp2_with fail
  go_loopw [3, 4] (fun v kk wr => ∃ (m k t' g c : Nat) (H : Nat → Feat), kk = .int .i64 (k : Int) ∧ v = .slice (some ⟨g, 0, none⟩) m c ∧ m + k ≤ 5 ∧ t' + 50 * k ≤ t + 251 ∧ FRow w.heap.size wr (.slice (some ⟨g, 0, none⟩) m c) H (List.range m) ∧ (∀ j, j < m → DrawnF w.heap.size wr (H j)) ∧ Src a n cap Z s t' wr ∧ Keeps s w wr) (fun _ kk _ => (intOf kk).toNat)
  case atStart => exact ⟨0, v1, t + 1, _, _, _, rfl, rfl, by omega, by omega, HO1.out, fun j hj => by omega, HS1.out, HK1.out⟩
  case round =>
    obtain ⟨m, k, t', g, c, H, rfl, rfl, hmk, htk, hO, hD, hS, hK⟩ := hrel
    have HO : Hid (FRow w.heap.size wr (.slice (some ⟨g, 0, none⟩) m c) H (List.range m)) := hO
    have HD : Hid (∀ j, j < m → DrawnF w.heap.size wr (H j)) := hD
    have HK : Hid (Keeps s w wr) := hK
    by_cases hk0 : 0 < k
    · have hk0' : (0 : Int) < (k : Int) := by omega
      have HS2 : Hid (Src a n cap Z s t' wr) := hS
      have hwr : w.heap.size ≤ wr.heap.size := hK.size
      clear hO hD hS hK
      go_wp2_with fail
      refine (l2Draw_any a n cap Z s t' wr HS2.out hcap (by omega)).mono ?_
      rintro e w2 ⟨id, la, ki, wi, v, lab, pr, l, t2, rfl, hR2, hl0, hl6, hlab, ht2, hS2, hK2⟩
      obtain ⟨g2, c2, hv2, hg2, hg2l, hlc2, hP2⟩ := hR2.at hl0
      subst hv2
      obtain ⟨N, hN⟩ : ∃ N, N = l.length := ⟨_, rfl⟩
      have HN : Hid (N = l.length) := hN
      rw [← hN] at hl0 hl6 hR2 ⊢
      clear hN hP2 hlc2
      have hO2 : FRow w.heap.size w2 (.slice (some ⟨g, 0, none⟩) m c) H (List.range m) := ownsRow_keeps HO.out hK2 hsl
      have HO2 : Hid (FRow w.heap.size w2 (.slice (some ⟨g, 0, none⟩) m c) H (List.range m)) := hO2
      have HD2 : Hid (∀ j, j < m → DrawnF w.heap.size w2 (H j)) := fun j hj => (HD.out j hj).keeps hK2 hsl
      have HDn : Hid (DrawnF w.heap.size w2 ⟨id, la, ki, wi, some ⟨g2, 0, none⟩, N, c2, px l, py l, lab, pr⟩) := ⟨l, Row.wideB hR2 hwr, HN.out.symm, hl0, hl6, rfl, rfl, by show lab.size ≤ 7; omega⟩
      have HS3 : Hid (Src a n cap Z s t2 w2) := hS2
      have HK2 : Hid (Keeps s w w2) := HK.out.trans hK2
      clear hR2 hS2 hK2 HS2 HO HD HK hO2 hwr
      go_wp2_with fail
      generalize hV : (w2.alloc _ : World) = V
      have hBV : Below w2.heap.size w2 V := by subst hV; (repeat (first | exact Below.refl _ _ | assumption | refine Below.drew ?_ | refine bl_alloc ?_ _ | refine bl_then ?_ (by assumption) | refine Below.setCell ?_ (by first | omega | (simp; done) | (simp; omega)) _ | refine bl_store ?_ ?_ _ _))
      have v0 : ∀ W', Below V.heap.size V W' → W'.cell? ⟨w2.heap.size, 0, none⟩ = some (.int .i64 id) := fun W' h => by rw [h.cell (by subst hV; simp)]; subst hV; simp [go_sem]
      have v1' : ∀ W', Below V.heap.size V W' → W'.cell? ⟨w2.heap.size, 1, none⟩ = some (.int .i64 la) := fun W' h => by rw [h.cell (by subst hV; simp)]; subst hV; simp [go_sem]
      have v2 : ∀ W', Below V.heap.size V W' → W'.cell? ⟨w2.heap.size, 2, none⟩ = some (.int .i64 ki) := fun W' h => by rw [h.cell (by subst hV; simp)]; subst hV; simp [go_sem]
      have v3 : ∀ W', Below V.heap.size V W' → W'.cell? ⟨w2.heap.size, 3, none⟩ = some (.int .i64 wi) := fun W' h => by rw [h.cell (by subst hV; simp)]; subst hV; simp [go_sem]
      have v4 : ∀ W', Below V.heap.size V W' → W'.cell? ⟨w2.heap.size, 4, none⟩ = some (.slice (some ⟨g2, 0, none⟩) N c2) := fun W' h => by rw [h.cell (by subst hV; simp)]; subst hV; simp [go_sem]
      have v5 : ∀ W', Below V.heap.size V W' → W'.cell? ⟨w2.heap.size, 5, none⟩ = some (.string lab) := fun W' h => by rw [h.cell (by subst hV; simp)]; subst hV; simp [go_sem]
      have v6 : ∀ W', Below V.heap.size V W' → W'.cell? ⟨w2.heap.size, 6, none⟩ = some (.int .i64 pr) := fun W' h => by rw [h.cell (by subst hV; simp)]; subst hV; simp [go_sem]
      clear hV
      have hOV := HO2.out.below hBV
      have hcells : ∀ i, i < m → V.cell? ⟨g, i * 7, none⟩ = some (.int .i64 (H i).id) := fun i hi => by
        rcases hOV.at with ⟨hv, hl⟩ | ⟨g', c', hv, _, _, _, _, hF⟩
        · cases hv
        · injection hv with e1 e2 e3
          injection e1 with e1
          injection e1 with e1
          subst e1
          have := (hF i (by simpa using hi)).1
          have eg : (List.range m).getD i 0 = i := by simp [List.getD_eq_getElem?_getD, hi]
          rw [eg] at this
          exact this
      have hgV : g < V.heap.size ∧ w.heap.size ≤ g := by
        rcases hOV.at with ⟨hv, hl⟩ | ⟨g', c', hv, hg', hgl, _⟩
        · cases hv
        · injection hv with e1 e2 e3
          injection e1 with e1
          injection e1 with e1
          omega
      have HBV : Hid (Below w2.heap.size w2 V) := hBV
      refine (l2At_some g m c H id V hcells hgV.1 (by omega)).mono ?_
      rintro e w3 ⟨⟨r, rfl⟩, hb3⟩
      have HB3 : Hid (Below w2.heap.size w2 w3) := bl_then hBV hb3
      have hr3 : Below V.heap.size V w3 := hb3
      clear hOV hcells hBV hb3
      by_cases hr : r < 0
      · go_wp2_with (first
          | (at_builtin; go_must (refine wpList_append_own _ rfl _ _ 24 rfl w.heap.size 36 i0 (.agg #[.int .i64 0, .int .i64 0, .int .i64 0, .int .i64 0, .slice none 0 0, .string ⟨#[]⟩, .int .i64 0]) 7 80 Tryz.underlying24 hi hz0 hz1 hz2 rfl (by decide) (.slice (some ⟨g, 0, none⟩) m c) m (cellsF H (List.range m)) rfl ?c6 ⟨w3.heap.size, 0, none⟩ 1 1 (fcell ⟨id, la, ki, wi, some ⟨g2, 0, none⟩, N, c2, px l, py l, lab, pr⟩) rfl ?c0 ?c1 ?c2 ?c3 ?c4 ?c5 ?_)))
        case c6 =>
          have := (HO2.out.below HB3.out).below ((Below.refl w3.heap.size w3).alloc (Nat.le_refl _) (.cells #[.int .i64 id, .int .i64 la, .int .i64 ki, .int .i64 wi, .slice (some ⟨g2, 0, none⟩) N c2, .string lab, .int .i64 pr] 36))
          unfold FRow at this
          rw [List.length_range] at this
          exact this
        case c0 => rfl
        case c1 =>
          intro q u hq
          have hq7 : q < 7 := (List.getElem?_eq_some_iff.1 hq).1
          have hc : q = 0 ∨ q = 1 ∨ q = 2 ∨ q = 3 ∨ q = 4 ∨ q = 5 ∨ q = 6 := by omega
          rcases hc with rfl | rfl | rfl | rfl | rfl | rfl | rfl <;> (simp [fcell] at hq; subst hq; simp [Addr.add, go_sem])
        case c2 => exact fcell_one _
        case c3 => unfold maxLen; omega
        case c4 => omega
        case c5 => have := HB3.out.size; have := HK2.out.size; simp; omega
        intro v' w4 hown' hgrow hnil
        obtain ⟨g4, c4, hv4⟩ : ∃ g4 c4, v' = .slice (some ⟨g4, 0, none⟩) (m + 1) c4 := by
          obtain ⟨_, h2 | ⟨g', cp, cur, hv, _⟩⟩ := hown'
          · first | exact absurd h2.1 hnil | (have := hnil.1 h2.1; simp at this)
          · exact ⟨g', cp, hv⟩
        subst hv4
        have hO3 := (HO2.out.below HB3.out).below ((Below.refl w3.heap.size w3).alloc (Nat.le_refl _) (.cells #[.int .i64 id, .int .i64 la, .int .i64 ki, .int .i64 wi, .slice (some ⟨g2, 0, none⟩) N c2, .string lab, .int .i64 pr] 36))
        have hB3a : Below w2.heap.size w2 (w3.alloc (.cells #[.int .i64 id, .int .i64 la, .int .i64 ki, .int .i64 wi, .slice (some ⟨g2, 0, none⟩) N c2, .string lab, .int .i64 pr] 36)) := HB3.out.alloc HB3.out.size _
        have HF4 : Hid (FRow w.heap.size w4 (.slice (some ⟨g4, 0, none⟩) (m + 1) c4) (fun i => if i = m then ⟨id, la, ki, wi, some ⟨g2, 0, none⟩, N, c2, px l, py l, lab, pr⟩ else H i) (List.range (m + 1))) := by
          show FRow _ _ _ _ _
          unfold FRow
          have e1 : cellsF (fun i => if i = m then ⟨id, la, ki, wi, some ⟨g2, 0, none⟩, N, c2, px l, py l, lab, pr⟩ else H i) (List.range (m + 1)) = cellsF H (List.range m) ++ fcell ⟨id, la, ki, wi, some ⟨g2, 0, none⟩, N, c2, px l, py l, lab, pr⟩ := by
            rw [List.range_succ, cellsF_app, cellsF_one, if_pos rfl]
            rw [cellsF_congr (H' := H) (List.range m) (fun j hj => by rw [if_neg]; have := List.mem_range.1 hj; omega)]
          rw [e1, List.length_range]
          exact hown'
        have HD4 : Hid (∀ j, j < m + 1 → DrawnF w.heap.size w4 ((fun i => if i = m then (⟨id, la, ki, wi, some ⟨g2, 0, none⟩, N, c2, px l, py l, lab, pr⟩ : Feat) else H i) j)) := fun j hj => by
          by_cases e : j = m
          · simp only [if_pos e]
            exact (HDn.out.below hB3a).kept hO3 hgrow
          · simp only [if_neg e]
            exact ((HD2.out j (by omega)).below hB3a).kept hO3 hgrow
        have hb4 : Below w.heap.size (w3.alloc (.cells #[.int .i64 id, .int .i64 la, .int .i64 ki, .int .i64 wi, .slice (some ⟨g2, 0, none⟩) N c2, .string lab, .int .i64 pr] 36)) w4 := (Below.refl _ _).grown hgrow (by have := HB3.out.size; have := HK2.out.size; simp; omega) (fun q hq => by simp [Value.ownBlock] at hq; omega)
        have HS4 : Hid (Src a n cap Z s t2 w4) := (HS3.out.below hB3a).belowC hb4 hsl
        have HK4 : Hid (Keeps s w w4) := (HK2.out.trans (Keeps.of_below hB3a)).grownF hgrow (fun q hq => by simp [Value.ownBlock] at hq; omega)
        clear hown' hgrow hnil hO3 hB3a hb4
        go_wp2
        go_roundw
        case rel => exact ⟨m + 1, k - 1, t2, g4, c4, _, by congr 1; omega, rfl, by omega, by omega, HF4.out, HD4.out, HS4.out, HK4.out⟩
        case measure => simp [intOf]; omega
      · have hr' : decide (r < 0) = false := by simpa using hr
        have HO4 : Hid (FRow w.heap.size w3 (.slice (some ⟨g, 0, none⟩) m c) H (List.range m)) := HO2.out.below HB3.out
        have HD4 : Hid (∀ j, j < m → DrawnF w.heap.size w3 (H j)) := fun j hj => (HD2.out j hj).below HB3.out
        have HS4 : Hid (Src a n cap Z s t2 w3) := HS3.out.below HB3.out
        have HK4 : Hid (Keeps s w w3) := HK2.out.trans (Keeps.of_below HB3.out)
        go_wp2
        go_roundw
        case rel => exact ⟨m, k - 1, t2, g, c, H, by congr 1; omega, rfl, by omega, by omega, HO4.out, HD4.out, HS4.out, HK4.out⟩
        case measure => simp [intOf]; omega
    · have hk' : k = 0 := by omega
      subst hk'
      go_wp2
      go_ret
      exact ⟨g, m, c, H, t', rfl, hO, by omega, hD, by omega, hS, hK⟩
end Go.Proofs.YtchofahdcohibaaGreat
/- Lists of features are drawn, right ones and wrong ones. -/

namespace Go.Proofs.YtchofahdcohibaaGreat
open Go.RowKit
set_option linter.unusedSimpArgs false
set_option linter.unusedVariables false
set_option maxRecDepth 100000

/-- A list of features at an address, none of them too great. -/
def DrawnL (w : World) (g m c : Nat) (G : Nat → Feat) : Prop := m ≤ c ∧ m ≤ 13 ∧ g < w.heap.size ∧ FsAt w g 0 m G ∧ SmallFs m G
theorem range_getD (m i : Nat) (hi : i < m) : (List.range m).getD i 0 = i := by simp [List.getD_eq_getElem?_getD, hi]
theorem FRow.fs {base g m c : Nat} {w : World} {H : Nat → Feat} (h : FRow base w (.slice (some ⟨g, 0, none⟩) m c) H (List.range m)) (hp : ∀ j, j < m → IsPts w (H j).a (H j).n (H j).X (H j).Y) : m ≤ c ∧ g < w.heap.size ∧ base ≤ g ∧ FsAt w g 0 m H := by
  rcases h.at with ⟨hv, hl⟩ | ⟨g', c', hv, hg', hgl, hc', _, hF⟩
  · cases hv
  · rw [List.length_range] at hc' hF
    injection hv with e1 e2 e3
    injection e1 with e1
    injection e1 with e1
    subst e1 e3
    refine ⟨hc', hgl, hg', fun i hi => ⟨?_, hp i hi⟩⟩
    have := hF i hi
    rw [range_getD m i hi] at this
    rw [Nat.zero_add]
    exact this
theorem there_zero (m : Nat) (w : World) (t : TypeId) (i : Nat) (hi : i < m) : FeatAt (w.alloc (.cells (madeCells zeroF (m * 7)) t)) w.heap.size (i * 7) 0 0 0 0 (.slice none 0 0) ⟨#[]⟩ 0 := by
  have c : ∀ k (hk : k < 7), (w.alloc (.cells (madeCells zeroF (m * 7)) t)).cell? ⟨w.heap.size, i * 7 + k, none⟩ = zeroF[k]? := fun k hk => by
    rw [World.cell?_alloc_at _ _ _ _ rfl]
    unfold madeCells
    have hz : zeroF.size = 7 := rfl
    have e : (i * 7 + k) % 7 = k := by omega
    simp [hz, e, show i * 7 + k < m * 7 by omega]
    have hc : k = 0 ∨ k = 1 ∨ k = 2 ∨ k = 3 ∨ k = 4 ∨ k = 5 ∨ k = 6 := by omega
    rcases hc with rfl | rfl | rfl | rfl | rfl | rfl | rfl <;> rfl
  exact ⟨c 0 (by omega), c 1 (by omega), c 2 (by omega), c 3 (by omega), c 4 (by omega), c 5 (by omega), c 6 (by omega)⟩
set_option maxHeartbeats 8000000 in
theorem l2Wrong_any (a : Option Addr) (n cap : Nat) (Z : Nat → Int) (s t : Nat) (w : World) (h : Src a n cap Z s t w) (hcap : n ≤ cap) (ht : t ≤ 10) :
    Calls Tryz.prog 11 #[.pointer (some ⟨s, 0, none⟩)] w fun e w' => ∃ (g m c : Nat) (G : Nat → Feat), e = .returned (.slice (some ⟨g, 0, none⟩) m c) ∧ DrawnL w' g m c G ∧ Keeps s w w' := by
  obtain ⟨i0, hi, hz0, hz1, hz2⟩ := info_parts info_if
  have hmk := make_feats 13 (by omega)
  have hsl : s < w.heap.size := World.block_lt_of_cell? _ _ h.code
  have HS : Hid (Src a n cap Z s t w) := h
  clear h
  go_enter Tryz.func11, Tryz.ntmps11
  go_wp2_with fail
  refine (l2Right_any a n cap Z s t w HS.out hcap (by omega)).mono ?_
  rintro e w1 ⟨g, m, c, H, t1, rfl, hF1, hm5, hD1, ht1, hS1, hK1⟩
  have HF1 : Hid (FRow w.heap.size w1 (.slice (some ⟨g, 0, none⟩) m c) H (List.range m)) := hF1
  have HD1 : Hid (∀ j, j < m → DrawnF w.heap.size w1 (H j)) := hD1
  have HS1 : Hid (Src a n cap Z s t1 w1) := hS1
  have HK1 : Hid (Keeps s w w1) := hK1
  clear hF1 hD1 hS1 hK1 HS
  go_wp2_with fail
  refine (l1Next_any a n cap Z s t1 12 w1 HS1.out hcap (by omega) (by omega) (by omega)).mono ?_
  rintro e w2 ⟨v2, rfl, hv2, hS2, hK2⟩
  have HF2 : Hid (FRow w.heap.size w2 (.slice (some ⟨g, 0, none⟩) m c) H (List.range m)) := ownsRow_keeps HF1.out hK2 hsl
  have HD2 : Hid (∀ j, j < m → DrawnF w.heap.size w2 (H j)) := fun j hj => (HD1.out j hj).keeps hK2 hsl
  have HS2 : Hid (Src a n cap Z s (t1 + 1) w2) := hS2
  have HK2 : Hid (Keeps s w w2) := HK1.out.trans hK2
  clear hS2 hK2 HF1 HD1 HS1 HK1
  have hFs := HF2.out.fs (fun j hj => (HD2.out j hj).is)
  have hsmall : SmallFs m H := ⟨by omega, fun i hi => by obtain ⟨l, _, _, _, h6, _, _, h7⟩ := HD2.out i hi; exact ⟨by omega, by omega⟩⟩
  by_cases h0 : v2 = 0
  · subst h0
    clear hmk
    go_wp2_with fail
    refine (l2Bent_any a n cap Z s _ w2 HS2.out hcap (by omega)).mono ?_
    rintro e w3 ⟨id, la, ki, wi, b, off, N, cN, X, Y, lab, pr, t3, rfl, hN6, hNc, hgb, hbl, hP3, hlab, ht3, hS3, hK3⟩
    have hO3 : FRow w.heap.size w3 (.slice (some ⟨g, 0, none⟩) m c) H (List.range m) := ownsRow_keeps HF2.out hK3 hsl
    have HO3 : Hid (FRow w.heap.size w3 (.slice (some ⟨g, 0, none⟩) m c) H (List.range m)) := hO3
    have HD3 : Hid (∀ j, j < m → DrawnF w.heap.size w3 (H j)) := fun j hj => (HD2.out j hj).keeps hK3 hsl
    have HP3 : Hid (PtsAt w3 b off N X Y) := hP3
    have HK3 : Hid (Keeps s w w3) := HK2.out.trans hK3
    have hgl : g < w2.heap.size ∧ w.heap.size ≤ g := ⟨hFs.2.1, hFs.2.2.1⟩
    have hw3 : w.heap.size ≤ w3.heap.size := HK3.out.size
    clear hO3 hP3 hS3 hK3 hFs hsmall
    go_wp2_with (first
      | (at_builtin; go_must (refine wpList_append_own _ rfl _ _ 24 rfl w.heap.size 36 i0 (.agg #[.int .i64 0, .int .i64 0, .int .i64 0, .int .i64 0, .slice none 0 0, .string ⟨#[]⟩, .int .i64 0]) 7 80 Tryz.underlying24 hi hz0 hz1 hz2 rfl (by decide) (.slice (some ⟨g, 0, none⟩) m c) m (cellsF H (List.range m)) rfl ?c6 ⟨w3.heap.size, 0, none⟩ 1 1 (fcell ⟨id, la, ki, wi, some ⟨b, off, none⟩, N, cN, X, Y, lab, pr⟩) rfl ?c0 ?c1 ?c2 ?c3 ?c4 ?c5 ?_)))
    case c6 =>
      have := HO3.out.below ((Below.refl w3.heap.size w3).alloc (Nat.le_refl _) (.cells #[.int .i64 id, .int .i64 la, .int .i64 ki, .int .i64 wi, .slice (some ⟨b, off, none⟩) N cN, .string lab, .int .i64 pr] 36))
      unfold FRow at this
      rw [List.length_range] at this
      exact this
    case c0 => rfl
    case c1 =>
      intro q u hq
      have hq7 : q < 7 := (List.getElem?_eq_some_iff.1 hq).1
      have hc : q = 0 ∨ q = 1 ∨ q = 2 ∨ q = 3 ∨ q = 4 ∨ q = 5 ∨ q = 6 := by omega
      rcases hc with rfl | rfl | rfl | rfl | rfl | rfl | rfl <;> (simp [fcell] at hq; subst hq; simp [Addr.add, go_sem])
    case c2 => exact fcell_one _
    case c3 => unfold maxLen; omega
    case c4 => omega
    case c5 => simp; omega
    intro v' w4 hown' hgrow hnil
    obtain ⟨g4, c4, hv4⟩ : ∃ g4 c4, v' = .slice (some ⟨g4, 0, none⟩) (m + 1) c4 := by
      obtain ⟨_, h2 | ⟨g', cp, cur, hv, _⟩⟩ := hown'
      · first | exact absurd h2.1 hnil | (have := hnil.1 h2.1; simp at this)
      · exact ⟨g', cp, hv⟩
    subst hv4
    have hb3a : Below w3.heap.size w3 (w3.alloc (.cells #[.int .i64 id, .int .i64 la, .int .i64 ki, .int .i64 wi, .slice (some ⟨b, off, none⟩) N cN, .string lab, .int .i64 pr] 36)) := (Below.refl w3.heap.size w3).alloc (Nat.le_refl _) _
    have hO3a := HO3.out.below hb3a
    have HF4 : FRow w.heap.size w4 (.slice (some ⟨g4, 0, none⟩) (m + 1) c4) (fun i => if i = m then ⟨id, la, ki, wi, some ⟨b, off, none⟩, N, cN, X, Y, lab, pr⟩ else H i) (List.range (m + 1)) := by
      unfold FRow
      have e1 : cellsF (fun i => if i = m then ⟨id, la, ki, wi, some ⟨b, off, none⟩, N, cN, X, Y, lab, pr⟩ else H i) (List.range (m + 1)) = cellsF H (List.range m) ++ fcell ⟨id, la, ki, wi, some ⟨b, off, none⟩, N, cN, X, Y, lab, pr⟩ := by
        rw [List.range_succ, cellsF_app, cellsF_one, if_pos rfl]
        rw [cellsF_congr (H' := H) (List.range m) (fun j hj => by rw [if_neg]; have := List.mem_range.1 hj; omega)]
      rw [e1, List.length_range]
      exact hown'
    have hpt : ∀ j, j < m + 1 → IsPts w4 ((fun i => if i = m then (⟨id, la, ki, wi, some ⟨b, off, none⟩, N, cN, X, Y, lab, pr⟩ : Feat) else H i) j).a ((fun i => if i = m then (⟨id, la, ki, wi, some ⟨b, off, none⟩, N, cN, X, Y, lab, pr⟩ : Feat) else H i) j).n ((fun i => if i = m then (⟨id, la, ki, wi, some ⟨b, off, none⟩, N, cN, X, Y, lab, pr⟩ : Feat) else H i) j).X ((fun i => if i = m then (⟨id, la, ki, wi, some ⟨b, off, none⟩, N, cN, X, Y, lab, pr⟩ : Feat) else H i) j).Y := fun j hj => by
      by_cases e : j = m
      · simp only [if_pos e]
        have hs4 := hgrow.size
        refine .inr ⟨b, off, rfl, by simp at hs4; omega, ?_⟩
        exact PtsAt.grown (s := g) (HP3.out.below hb3a hbl) hgrow (by omega)
      · simp only [if_neg e]
        exact (((HD3.out j (by omega)).below hb3a).kept hO3a hgrow).is
    have hF := HF4.fs hpt
    have HL : Hid (DrawnL w4 g4 (m + 1) c4 (fun i => if i = m then ⟨id, la, ki, wi, some ⟨b, off, none⟩, N, cN, X, Y, lab, pr⟩ else H i)) := by
      refine ⟨hF.1, by omega, hF.2.1, hF.2.2.2, by omega, fun i hi => ?_⟩
      by_cases e : i = m
      · simp only [if_pos e]
        show N ≤ 1048576 ∧ lab.size ≤ 1048576
        exact ⟨by omega, by omega⟩
      · simp only [if_neg e]
        obtain ⟨l, _, _, _, h6, _, _, h7⟩ := HD3.out i (by omega)
        exact ⟨by omega, by omega⟩
    have HK4 : Hid (Keeps s w w4) := (HK3.out.trans (Keeps.of_below hb3a)).grownF hgrow (fun q hq => by simp [Value.ownBlock] at hq; omega)
    clear hown' hgrow hnil HF4 hpt hF hO3a hb3a
    go_wp2
    go_ret
    exact ⟨g4, m + 1, c4, _, rfl, HL.out, HK4.out⟩
  · have h0' : (((v2 : Nat) : Int) == 0) = false := by simp; omega
    by_cases h1 : v2 = 1
    · subst h1
      have HL : Hid (DrawnL (w2.alloc (.cells (madeCells zeroF (13 * 7)) 36)) w2.heap.size 13 13 (fun _ => ⟨0, 0, 0, 0, none, 0, 0, fun _ => 0, fun _ => 0, ⟨#[]⟩, 0⟩)) := by
        refine ⟨by omega, by omega, by simp, fun i hi => ⟨?_, .inl rfl⟩, by omega, fun i hi => ⟨by show 0 ≤ _; omega, by show 0 ≤ _; omega⟩⟩
        rw [Nat.zero_add]
        exact there_zero 13 w2 36 i hi
      have HK4 : Hid (Keeps s w (w2.alloc (.cells (madeCells zeroF (13 * 7)) 36))) := HK2.out.trans (Keeps.of_below ((Below.refl _ _).alloc (Nat.le_refl _) _))
      obtain ⟨W', hW', HL, HK4⟩ : ∃ W', (Instr.makeSlice 24 (.int .i64 13) (.int .i64 13)).run Tryz.prog w2 = .ok (.slice (some ⟨w2.heap.size, 0, none⟩) 13 13) W' ∧ Hid (DrawnL W' w2.heap.size 13 13 (fun _ => ⟨0, 0, 0, 0, none, 0, 0, fun _ => 0, fun _ => 0, ⟨#[]⟩, 0⟩)) ∧ Hid (Keeps s w W') := ⟨_, hmk w2, HL, HK4⟩
      clear hFs hsmall hmk
      go_wp2
      go_ret
      exact ⟨_, 13, 13, _, rfl, HL.out, HK4.out⟩
    · have h1' : (((v2 : Nat) : Int) == 1) = false := by simp; omega
      have HL : Hid (DrawnL w2 g m c H) := ⟨hFs.1, by omega, hFs.2.1, hFs.2.2.2, hsmall⟩
      clear hFs hsmall hmk
      go_wp2
      go_ret
      exact ⟨g, m, c, H, rfl, HL.out, HK2.out⟩
end Go.Proofs.YtchofahdcohibaaGreat
/- Drawn arguments of SimpleAt: whatever they are, nothing that was there is written. -/

namespace Go.Proofs.YtchofahdcohibaaGreat
open Go.RowKit
set_option linter.unusedSimpArgs false
set_option linter.unusedVariables false
set_option maxRecDepth 100000

/-- Some feature whose points lie in a block behind w's. -/
def FeatV (w w' : World) (V : Value) (id la ki wi : Int) (b off m c : Nat) (X Y : Nat → Int) (lab : ByteArray) (pr : Int) : Prop :=
  V = .agg #[.int .i64 id, .int .i64 la, .int .i64 ki, .int .i64 wi, .slice (some ⟨b, off, none⟩) m c, .string lab, .int .i64 pr] ∧ m ≤ 6 ∧ m ≤ c ∧ w.heap.size ≤ b ∧ b < w'.heap.size ∧ PtsAt w' b off m X Y ∧ lab.size ≤ 7
end Go.Proofs.YtchofahdcohibaaGreat
