/- Several texts in one. -/
import Derived.Test.YtciidkmonfmipaaGreatVPutTile16
import Derived.Test.YtciidkmonfmipaaGreatVPutTile24
import Derived.Test.YtciidkmonfmipaaGreatVPutTile7
import Derived.Test.YtciidkmonfmipaaGreatVPutTile5
import Derived.Deep.DeepCutAuto
import Derived.Sort.Grow
import Derived.Shelf.SlSortCmp.NoneTotal

/- The features of a list are copied into memory of their own. -/

namespace Go.Proofs.YtciidkmonfmipaaGreat
open Go.RowKit
set_option linter.unusedSimpArgs false
set_option linter.unusedVariables false
set_option maxRecDepth 100000

/-- The first n of H are those of G, each with a row of points of its own. -/
def Copies (base : Nat) (w : World) (n : Nat) (G H : Nat → Feat) : Prop :=
  (∀ i, i < n → (H i).same (G i) ∧ Row base w (.slice (H i).a (H i).n (H i).cap) (ptsOf (G i).X (G i).Y (List.range (G i).n))) ∧
  ∀ i j, i < n → j < n → (H i).a = (H j).a → i = j
theorem ptsOf_len (X Y : Nat → Int) (n : Nat) : (ptsOf X Y (List.range n)).length = n := by simp [ptsOf]
theorem ptsOf_px (X Y : Nat → Int) (n i : Nat) (hi : i < n) : px (ptsOf X Y (List.range n)) i = X i ∧ py (ptsOf X Y (List.range n)) i = Y i := by
  simp [px, py, ptsOf, List.getD_eq_getElem?_getD, hi]
theorem Row.atP {base : Nat} {w : World} {a : Option Addr} {n c : Nat} {X Y : Nat → Int} (h : Row base w (.slice a n c) (ptsOf X Y (List.range n))) (hn : 0 < n) :
    ∃ g, a = some ⟨g, 0, none⟩ ∧ base ≤ g ∧ g < w.heap.size ∧ PtsAt w g 0 n X Y ∧ There w g (n * 2) := by
  obtain ⟨a', cap', hv, hc, h0 | ⟨b, ha, hb, hl, hp, ht⟩⟩ := h.own
  · rw [ptsOf_len] at h0; omega
  · rw [ptsOf_len] at hp ht
    injection hv with e1 e2 e3
    refine ⟨b, e1.trans ha, hb, hl, fun i hi => ?_, ht⟩
    obtain ⟨x1, x2⟩ := ptsOf_px X Y n i hi
    have := hp i hi
    rw [x1, x2] at this
    exact this
theorem Row.keptF {base base' : Nat} {w w' : World} {u v : Value} {l : List (Int × Int)} {H : Nat → Feat} {m : List Nat} (h : Row base w u l) (h' : FRow base' w v H m) (hg : w.grownBy w' v.ownBlock) : Row base w' u l := by
  refine World.ownsRow.kept h hg ?_
  cases hu : u.ownBlock with
  | none => exact .inl rfl
  | some g =>
    right
    intro e
    obtain ⟨c1, h1⟩ := heap_of_row h g hu
    obtain ⟨c2, h2⟩ := heap_of_row h' g e.symm
    rw [h1] at h2
    injection h2 with h2
    injection h2 with _ h2
    exact absurd h2 (by decide)

set_option maxHeartbeats 4000000 in
theorem copyFeatures_any (b n cap : Nat) (G : Nat → Feat) (w : World) (hg : FsAt w b 0 n G) (hbl : b < w.heap.size) (hn : n ≤ 12) (hpos : ∀ i, i < n → 0 < (G i).n) (hs : SmallFs n G) :
    Calls Tryz.prog 106 #[.slice (some ⟨b, 0, none⟩) n cap] w fun e w' => ∃ v H, e = .returned v ∧ FRow w.heap.size w' v H (List.range n) ∧ Copies w.heap.size w' n G H ∧ Below w.heap.size w w' := by
  obtain ⟨i0, hi, hz0, hz1, hz2⟩ := info_parts info_if
  have HG : Hid (FsAt w b 0 n G) := hg
  have HPOS : Hid (∀ i, i < n → 0 < (G i).n) := hpos
  have HS : Hid (SmallFs n G) := hs
  clear hg hpos hs
  go_enter Tryz.func106, Tryz.ntmps106
  go_wp2_with fail
  go_loopw [3, 8] (fun v i wr => ∃ (k : Nat) (H : Nat → Feat), k ≤ n ∧ i = .int .i64 (k : Int) ∧ FRow w.heap.size wr v H (List.range k) ∧ Copies w.heap.size wr k G H ∧ Below w.heap.size w wr) (fun _ i _ => n - (intOf i).toNat)
  case atStart => exact ⟨0, G, by omega, rfl, World.ownsRow_nil _ _ _ _, ⟨fun i hi => by omega, fun i j hi => by omega⟩, Below.refl _ _⟩
  case round =>
    obtain ⟨k, H, hk, rfl, hO, hC, hB⟩ := hrel
    by_cases hlt : k < n
    · have hblr : b < wr.heap.size := Nat.lt_of_lt_of_le hbl hB.size
      obtain ⟨⟨f0, f1, f2, f3, f4, f5, f6⟩, hP⟩ := (HG.out.below hB hbl) k hlt
      simp only [Nat.zero_add] at f0 f1 f2 f3 f4 f5 f6
      have hp0 := HPOS.out k hlt
      obtain ⟨z1, z2⟩ := HS.out.2 k hlt
      obtain ⟨b', off', ha', hbl', hpt⟩ := hP.resolve_left (by omega)
      rw [ha'] at f4
      have HP : Hid (PtsAt wr b' off' (G k).n (G k).X (G k).Y) := hpt
      have HO : Hid (FRow w.heap.size wr u3 H (List.range k)) := hO
      have HC : Hid (Copies w.heap.size wr k G H) := hC
      have HB : Hid (Below w.heap.size w wr) := hB
      have HLT : Hid (k < n) := hlt
      clear hO hC hB hP hpt
      have hi' : (k : Int) < (n : Int) := by omega
      go_wp2_with fail
      generalize hV : (wr.alloc _ : World) = V
      have hBV : Below wr.heap.size wr V := by subst hV; (repeat (first | exact Below.refl _ _ | assumption | refine Below.drew ?_ | refine bl_alloc ?_ _ | refine bl_then ?_ (by assumption) | refine Below.setCell ?_ (by first | omega | (simp; done) | (simp; omega)) _ | refine bl_store ?_ ?_ _ _))
      clear hV f0 f1 f2 f3 f4 f5 f6
      have hOV : FRow w.heap.size V u3 H (List.range k) := HO.out.below hBV
      refine (copyFeature_row _ _ _ _ b' _ _ (G k).X (G k).Y _ _ V (HP.out.below hBV hbl') (Nat.lt_of_lt_of_le hbl' hBV.size) z1 z2).mono ?_
      rintro e w1 ⟨a1, c1, rfl, hR1, hb1⟩
      have hrV : Below wr.heap.size wr w1 := bl_then hBV hb1
      have HR1 : Hid (Row V.heap.size w1 (.slice a1 (G k).n c1) (ptsOf (G k).X (G k).Y (List.range (G k).n))) := hR1
      have HO1 : Hid (FRow w.heap.size w1 u3 H (List.range k)) := hOV.below hb1
      have HB1 : Hid (Below w.heap.size w w1) := bl_then HB.out hrV
      have HrV : Hid (Below wr.heap.size wr w1) := hrV
      have hszV := hBV.size
      have hszw := HB.out.size
      have hsz1 := hb1.size
      clear hR1 hrV hOV hBV hb1 HO HB
      have hlenr : (List.range k).length = k := by simp
      go_wp2_with (first
        | (at_builtin; go_must (refine wpList_append_own _ rfl _ _ 40 rfl w.heap.size 101 i0 (.agg #[.int .i64 0, .int .i64 0, .int .i64 0, .int .i64 0, .slice none 0 0, .string ⟨#[]⟩, .int .i64 0]) 7 80 Tryz.underlying40 hi hz0 hz1 hz2 rfl (by decide) u3 k (cellsF H (List.range k)) rfl ?c6 ⟨w1.heap.size, 0, none⟩ 1 1 (fcell { G k with a := a1, cap := c1 }) rfl ?c0 ?c1 ?c2 ?c3 ?c4 ?c5 ?_)))
      case c6 =>
        have := HO1.out.below (by (repeat (first | exact Below.refl _ _ | assumption | refine Below.drew ?_ | refine bl_alloc ?_ _ | refine bl_then ?_ (by assumption) | refine Below.setCell ?_ (by first | omega | (simp; done) | (simp; omega)) _ | refine bl_store ?_ ?_ _ _)) : Below w1.heap.size w1 (w1.alloc (.cells #[.int .i64 (G k).id, .int .i64 (G k).la, .int .i64 (G k).ki, .int .i64 (G k).wi, .slice a1 (G k).n c1, .string (G k).lab, .int .i64 (G k).pr] 101)))
        unfold FRow at this
        rw [hlenr] at this
        exact this
      case c0 => rfl
      case c1 =>
        intro q u hq
        have hq7 : q < 7 := (List.getElem?_eq_some_iff.1 hq).1
        have hc : q = 0 ∨ q = 1 ∨ q = 2 ∨ q = 3 ∨ q = 4 ∨ q = 5 ∨ q = 6 := by omega
        rcases hc with rfl | rfl | rfl | rfl | rfl | rfl | rfl <;> (simp [fcell] at hq; subst hq; simp [Addr.add, go_sem])
      case c2 => exact fcell_one _
      case c3 => unfold maxLen; omega
      case c4 => omega
      case c5 => simp; omega
      intro v' w3 hown' hgrow hnil
      clear hnil
      have hO2 : FRow w.heap.size (w1.alloc (.cells #[.int .i64 (G k).id, .int .i64 (G k).la, .int .i64 (G k).ki, .int .i64 (G k).wi, .slice a1 (G k).n c1, .string (G k).lab, .int .i64 (G k).pr] 101)) u3 H (List.range k) := HO1.out.below (by (repeat (first | exact Below.refl _ _ | assumption | refine Below.drew ?_ | refine bl_alloc ?_ _ | refine bl_then ?_ (by assumption) | refine Below.setCell ?_ (by first | omega | (simp; done) | (simp; omega)) _ | refine bl_store ?_ ?_ _ _)))
      have hR2 := HR1.out.below (by (repeat (first | exact Below.refl _ _ | assumption | refine Below.drew ?_ | refine bl_alloc ?_ _ | refine bl_then ?_ (by assumption) | refine Below.setCell ?_ (by first | omega | (simp; done) | (simp; omega)) _ | refine bl_store ?_ ?_ _ _)) : Below w1.heap.size w1 (w1.alloc (.cells #[.int .i64 (G k).id, .int .i64 (G k).la, .int .i64 (G k).ki, .int .i64 (G k).wi, .slice a1 (G k).n c1, .string (G k).lab, .int .i64 (G k).pr] 101)))
      have hb2 : Below wr.heap.size wr (w1.alloc (.cells #[.int .i64 (G k).id, .int .i64 (G k).la, .int .i64 (G k).ki, .int .i64 (G k).wi, .slice a1 (G k).n c1, .string (G k).lab, .int .i64 (G k).pr] 101)) := HrV.out.alloc (by omega) _
      obtain ⟨hC1, hC2⟩ := HC.out
      have HF : Hid (FRow w.heap.size w3 v' (fun i => if i = k then { G k with a := a1, cap := c1 } else H i) (List.range (k + 1))) := by
        show FRow _ _ _ _ _
        unfold FRow
        have e1 : cellsF (fun i => if i = k then { G k with a := a1, cap := c1 } else H i) (List.range (k + 1)) = cellsF H (List.range k) ++ fcell { G k with a := a1, cap := c1 } := by
          rw [List.range_succ, cellsF_app, cellsF_one, if_pos rfl]
          rw [cellsF_congr (H' := H) (List.range k) (fun j hj => by rw [if_neg]; have := List.mem_range.1 hj; omega)]
        rw [e1, List.length_range]
        exact hown'
      have HCn : Hid (Copies w.heap.size w3 (k + 1) G (fun i => if i = k then { G k with a := a1, cap := c1 } else H i)) := by
        show Copies _ _ _ _ _
        obtain ⟨g1, hg1, hg1', _⟩ := HR1.out.atP hp0
        refine ⟨fun i hi => ?_, fun i j hi hj e => ?_⟩
        · by_cases e : i = k
          · subst e
            simp only [if_pos]
            exact ⟨⟨rfl, rfl, rfl, rfl, rfl, rfl, rfl, rfl, rfl⟩, (hR2.keptF hO2 hgrow).wideB (by omega)⟩
          · simp only [if_neg e]
            obtain ⟨s1, r1⟩ := hC1 i (by omega)
            exact ⟨s1, (r1.below hb2).keptF hO2 hgrow⟩
        · have old : ∀ i, i < k → (H i).a ≠ a1 := fun i hi e => by
            obtain ⟨s1, r1⟩ := hC1 i hi
            have hnn : (H i).n = (G i).n := s1.2.2.2.2.1
            rw [hnn] at r1
            obtain ⟨g, hg, _, hgl, _⟩ := r1.atP (HPOS.out i (by omega))
            rw [hg, hg1] at e
            injection e with e
            injection e with e
            omega
          by_cases ei : i = k <;> by_cases ej : j = k
          · omega
          · simp only [if_pos ei, if_neg ej] at e
            exact absurd e.symm (old j (by omega))
          · simp only [if_neg ei, if_pos ej] at e
            exact absurd e (old i (by omega))
          · simp only [if_neg ei, if_neg ej] at e
            exact hC2 i j (by omega) (by omega) e
      have HB3 : Hid (Below w.heap.size w w3) := (HB1.out.alloc (by omega) _).grown hgrow (by simp; omega) (fun g hg => ((World.ownsRow.lt (show World.ownsRow _ _ _ _ _ _ _ from hO2)) g hg).1)
      clear hown' hgrow hO2 hR2 hb2 hC1 hC2
      go_wp2
      go_roundw
      case rel => exact ⟨k + 1, _, by have := HLT.out; omega, by go_num, HF.out, HCn.out, HB3.out⟩
      case measure => have := HLT.out; simp [intOf]; omega
    · go_wp2
      go_ret
      have hkn : k = n := by omega
      subst hkn
      exact ⟨_, H, rfl, hO, hC, hB⟩
end Go.Proofs.YtciidkmonfmipaaGreat
/- The model's copy of a feature. -/

namespace Go.Proofs.YtciidkmonfmipaaGreat
open Go.RowKit
set_option linter.unusedSimpArgs false
set_option linter.unusedVariables false
set_option maxRecDepth 100000

theorem resC (T : Array Value) (Wf : World) (r : Nat) (v0 v1 v2 v3 v4 v5 v6 : Value) (hT : T[2]?.getD undef = .pointer (some ⟨r, 0, none⟩)) (h0 : Wf.cell? ⟨r, 0, none⟩ = some v0) (h1 : Wf.cell? ⟨r, 1, none⟩ = some v1) (h2 : Wf.cell? ⟨r, 2, none⟩ = some v2) (h3 : Wf.cell? ⟨r, 3, none⟩ = some v3) (h4 : Wf.cell? ⟨r, 4, none⟩ = some v4) (h5 : Wf.cell? ⟨r, 5, none⟩ = some v5) (h6 : Wf.cell? ⟨r, 6, none⟩ = some v6) :
    (results Tryz.f115 T).run Tryz.prog Wf = .ok (.agg #[v0, v1, v2, v3, v4, v5, v6]) Wf := by
  simp [results, Tryz.results115, go_sem, hT, h0, h1, h2, h3, h4, h5, h6]

set_option maxRecDepth 8000 in
set_option maxHeartbeats 4000000 in
theorem l2CopyOne_row {off : Nat} (id la ki wi : Int) (b n cap : Nat) (X Y : Nat → Int) (lab : ByteArray) (pr : Int) (w : World) (hp : PtsAt w b off n X Y) (hbl : b < w.heap.size) (hn : n ≤ 1048576) :
    Calls Tryz.prog 115 #[.agg #[.int .i64 id, .int .i64 la, .int .i64 ki, .int .i64 wi, .slice (some ⟨b, off, none⟩) n cap, .string lab, .int .i64 pr]] w fun e w' => ∃ a c, e = .returned (.agg #[.int .i64 id, .int .i64 la, .int .i64 ki, .int .i64 wi, .slice a n c, .string lab, .int .i64 pr]) ∧ Row (w.heap.size + 1 + 1) w' (.slice a n c) (ptsOf X Y (List.range n)) ∧ Below w.heap.size w w' := by
  obtain ⟨i0, hi, hz0, hz1, hz2⟩ := info_parts (show (Tryz.prog.info? 119).map (fun i => (i.zero, i.size, i.bytes)) = some (some (.agg #[.int .i64 0, .int .i64 0]), 2, 16) by kernel_rfl)
  have HP : Hid (PtsAt w b off n X Y) := hp
  have HLEN : Hid ((ptsOf X Y (List.range n)).length = n) := by show _ = _; simp [ptsOf]
  clear hp
  obtain ⟨W, hWd⟩ : ∃ W, W = (((w.alloc (.cells #[.int .i64 id, .int .i64 la, .int .i64 ki, .int .i64 wi, .slice (some ⟨b, off, none⟩) n cap, .string lab, .int .i64 pr] 101)).alloc (.cells #[.int .i64 0, .int .i64 0, .int .i64 0, .int .i64 0, .slice none 0 0, .string ⟨#[]⟩, .int .i64 0] 101)) : World) := ⟨_, rfl⟩
  have hB0 : Below w.heap.size w W := by subst hWd; (repeat (first | exact Below.refl _ _ | assumption | refine Below.drew ?_ | refine bl_alloc ?_ _ | refine bl_then ?_ (by assumption) | refine Below.setCell ?_ (by first | omega | (simp; done) | (simp; omega)) _ | refine bl_store ?_ ?_ _ _))
  have hO : OutAt W w.heap.size id la ki wi (.slice (some ⟨b, off, none⟩) n cap) lab pr := by
    subst hWd
    unfold OutAt
    rw [Below.heap_alloc _ _ _ (by simp)]
    exact heap_alloc_new w _
  have hT : There W (w.heap.size + 1) 7 := by
    subst hWd
    have := there7 (w.alloc (.cells #[.int .i64 id, .int .i64 la, .int .i64 ki, .int .i64 wi, .slice (some ⟨b, off, none⟩) n cap, .string lab, .int .i64 pr] 101)) (.int .i64 0) (.int .i64 0) (.int .i64 0) (.int .i64 0) (.slice none 0 0) (.string ⟨#[]⟩) (.int .i64 0) 101
    simpa using this
  have hsW : W.heap.size = w.heap.size + 2 := by subst hWd; simp
  have HB0 := (show Hid _ from hB0)
  have HO := (show Hid _ from hO)
  have HT : Hid (There W (w.heap.size + 1) 7) := hT
  have HSW := (show Hid _ from hsW)
  have HWD := (show Hid _ from hWd)
  clear hB0 hO hT hsW hWd
  go_enter Tryz.func115, Tryz.ntmps115
  go_wp2_with (first
    | (at_builtin; go_must (refine wpList_append_own _ rfl _ _ 99 rfl (w.heap.size + 1 + 1) 119 i0 (.agg #[.int .i64 0, .int .i64 0]) 2 16 Tryz.underlying99 hi hz0 hz1 hz2 rfl (by decide) (.slice (some ⟨w.heap.size + 1 + 1, 0, none⟩) 0 0) 0 [] rfl ?c6 ⟨b, off, none⟩ n cap (cellsL (ptsOf X Y (List.range n))) rfl ?c0 ?c1 ?c2 ?c3 ?c4 ?c5 ?_)))
  case c6 =>
    have := World.ownsRow_lit (base := w.heap.size + 1 + 1) (e := 119) (size := 2) W #[] 0 (by rw [HSW.out]; exact Nat.le_refl _) (Nat.zero_le _) rfl
    rw [HSW.out, HWD.out] at this
    exact this
  case c0 => rw [cellsL_len, HLEN.out]
  case c1 =>
    intro q u hq
    have hb : Below w.heap.size w (W.alloc (.cells #[] 119)) := bl_alloc HB0.out _
    rw [HWD.out] at hb
    have h1 := pts_cellsO (HP.out.below hb hbl) q u hq
    by_cases hq0 : q = 0
    · subst hq0; simpa [Addr.add] using h1
    · simpa [Addr.add, hq0] using h1
  case c2 =>
    intro u hu
    unfold cellsL at hu
    rw [List.mem_flatMap] at hu
    obtain ⟨p, _, hp⟩ := hu
    simp at hp
    rcases hp with rfl | rfl <;> rfl
  case c3 => unfold maxLen; omega
  case c4 => omega
  case c5 => first | omega | (simp; done) | (simp; omega)
  intro v' w2 hown' hgrow hnil
  clear hnil
  obtain ⟨a', c', hv'⟩ : ∃ a' c', v' = .slice a' n c' := by
    obtain ⟨_, h2 | ⟨g, cp, cur, hv, _⟩⟩ := hown'
    · exact ⟨none, 0, by have e := h2.2; have e2 : n = 0 := by omega
                         subst e2; exact h2.1⟩
    · exact ⟨_, cp, by rw [hv]⟩
  have HOWN : Hid (Row (w.heap.size + 1 + 1) w2 v' (ptsOf X Y (List.range n))) := by
    show Row _ _ _ _
    unfold Row
    rw [HLEN.out]
    simpa using hown'
  have hgb : Below (w.heap.size + 1 + 1) (W.alloc (.cells #[] 119)) w2 := by
    rw [HWD.out]
    exact (Below.refl _ _).grown hgrow (by simp) (fun k hk => by simp [Value.ownBlock] at hk; omega)
  have hWa : Below W.heap.size W (W.alloc (.cells #[] 119)) := (Below.refl _ _).alloc (Nat.le_refl _) _
  have hW2 : Below (w.heap.size + 2) W w2 := (hWa.mono (by rw [HSW.out]; exact Nat.le_refl _)).trans hgb
  have hO2 : OutAt w2 w.heap.size id la ki wi (.slice (some ⟨b, off, none⟩) n cap) lab pr := (hW2.block _ (by omega)).trans HO.out
  have hT2 : There w2 (w.heap.size + 1) 7 := There.belowB' HT.out hW2 (by omega)
  have hB2 : Below w.heap.size w w2 := HB0.out.trans (hW2.mono (by omega))
  have hs2 : w.heap.size + 2 < w2.heap.size ∨ True := .inr trivial
  obtain ⟨⟨u0, u1, u2, u3, u4, u5, u6⟩, f4⟩ := hO2.cells
  have hlw := hO2.lt
  have t0 := hT2.cell 0 (by omega)
  have t1 := hT2.cell 1 (by omega)
  have t2 := hT2.cell 2 (by omega)
  have t3 := hT2.cell 3 (by omega)
  have t4 := hT2.cell 4 (by omega)
  have t5 := hT2.cell 5 (by omega)
  have t6 := hT2.cell 6 (by omega)
  have z0 := (hT2 0 (by omega)).2
  have z1 := (hT2 1 (by omega)).2
  have z2 := (hT2 2 (by omega)).2
  have z3 := (hT2 3 (by omega)).2
  have z4 := (hT2 4 (by omega)).2
  have z5 := (hT2 5 (by omega)).2
  have z6 := (hT2 6 (by omega)).2
  have HT9 : Hid (There (w2.setCell ⟨w.heap.size, 4, none⟩ v') (w.heap.size + 1) 7) := There.out hT2 (by omega)
  have HB9 : Hid (Below w.heap.size w w2) := hB2
  subst hv'
  clear hown' hgrow hgb hWa hW2 hO2 hT2 hB2 hs2
  go_wp2_with fail
  obtain ⟨y0, y1, y2, y3, y4, y5, y6⟩ := set7_at (v0 := .int .i64 id) (v1 := .int .i64 la) (v2 := .int .i64 ki) (v3 := .int .i64 wi) (v4 := .slice a' n c') (v5 := .string lab) (v6 := .int .i64 pr) HT9.out
  exact bodyPost_ret (resC _ _ (w.heap.size + 1) _ _ _ _ _ _ _ rfl y0 y1 y2 y3 y4 y5 y6) rfl ⟨a', c', rfl, ((((((((HOWN.out.setB (by omega)).setB (by omega)).setB (by omega)).setB (by omega)).setB (by omega)).setB (by omega)).setB (by omega)).setB (by omega)), below7 (HB9.out.setCell (Nat.le_refl _) _) (Nat.le_succ _)⟩
end Go.Proofs.YtciidkmonfmipaaGreat
/- The model's copy of a list of features. -/

namespace Go.Proofs.YtciidkmonfmipaaGreat
open Go.RowKit
set_option linter.unusedSimpArgs false
set_option linter.unusedVariables false
set_option maxRecDepth 100000

set_option maxHeartbeats 4000000 in
theorem l2Copy_any (b n cap : Nat) (G : Nat → Feat) (w : World) (hg : FsAt w b 0 n G) (hbl : b < w.heap.size) (hn : n ≤ 12) (hpos : ∀ i, i < n → 0 < (G i).n) (hs : SmallFs n G) :
    Calls Tryz.prog 85 #[.slice (some ⟨b, 0, none⟩) n cap] w fun e w' => ∃ v H, e = .returned v ∧ v ≠ .slice none 0 0 ∧ FRow w.heap.size w' v H (List.range n) ∧ Copies w.heap.size w' n G H ∧ Below w.heap.size w w' := by
  obtain ⟨i0, hi, hz0, hz1, hz2⟩ := info_parts info_if
  have HG : Hid (FsAt w b 0 n G) := hg
  have HPOS : Hid (∀ i, i < n → 0 < (G i).n) := hpos
  have HS : Hid (SmallFs n G) := hs
  clear hg hpos hs
  go_enter Tryz.func85, Tryz.ntmps85
  go_wp2_with fail
  generalize hS0 : (w.alloc _ : World) = S0
  have hB0 : Below w.heap.size w S0 := by subst hS0; (repeat (first | exact Below.refl _ _ | assumption | refine Below.drew ?_ | refine bl_alloc ?_ _ | refine bl_then ?_ (by assumption) | refine Below.setCell ?_ (by first | omega | (simp; done) | (simp; omega)) _ | refine bl_store ?_ ?_ _ _))
  have hO0 : FRow w.heap.size S0 (.slice (some ⟨w.heap.size, 0, none⟩) 0 0) G (List.range 0) := by
    subst hS0
    exact World.ownsRow_lit (base := w.heap.size) (e := 101) (size := 7) w #[] 0 (Nat.le_refl _) (Nat.zero_le _) rfl
  clear hS0
  go_loopw [3, 4] (fun v i wr => ∃ (k : Nat) (H : Nat → Feat), k ≤ n ∧ i = .int .i64 (k : Int) ∧ v ≠ .slice none 0 0 ∧ FRow w.heap.size wr v H (List.range k) ∧ Copies w.heap.size wr k G H ∧ Below w.heap.size w wr) (fun _ i _ => n - (intOf i).toNat)
  case atStart => exact ⟨0, G, by omega, rfl, (by intro h; injection h with h; cases h), hO0, ⟨fun i hi => by omega, fun i j hi => by omega⟩, hB0⟩
  case round =>
    obtain ⟨k, H, hk, rfl, hnn, hO, hC, hB⟩ := hrel
    have HNN : Hid (u3 ≠ .slice none 0 0) := hnn
    clear hnn
    by_cases hlt : k < n
    · have hblr : b < wr.heap.size := Nat.lt_of_lt_of_le hbl hB.size
      obtain ⟨⟨f0, f1, f2, f3, f4, f5, f6⟩, hP⟩ := (HG.out.below hB hbl) k hlt
      simp only [Nat.zero_add] at f0 f1 f2 f3 f4 f5 f6
      have hp0 := HPOS.out k hlt
      obtain ⟨z1, z2⟩ := HS.out.2 k hlt
      obtain ⟨b', off', ha', hbl', hpt⟩ := hP.resolve_left (by omega)
      rw [ha'] at f4
      have HP : Hid (PtsAt wr b' off' (G k).n (G k).X (G k).Y) := hpt
      have HO : Hid (FRow w.heap.size wr u3 H (List.range k)) := hO
      have HC : Hid (Copies w.heap.size wr k G H) := hC
      have HB : Hid (Below w.heap.size w wr) := hB
      have HLT : Hid (k < n) := hlt
      clear hO hC hB hP hpt
      have hi' : (k : Int) < (n : Int) := by omega
      go_wp2_with fail
      clear f0 f1 f2 f3 f4 f5 f6
      refine (l2CopyOne_row _ _ _ _ b' _ _ (G k).X (G k).Y _ _ wr HP.out hbl' z1).mono ?_
      rintro e w1 ⟨a1, c1, rfl, hR1, hb1⟩
      have hrV : Below wr.heap.size wr w1 := hb1
      have HR1 : Hid (Row (wr.heap.size + 1 + 1) w1 (.slice a1 (G k).n c1) (ptsOf (G k).X (G k).Y (List.range (G k).n))) := hR1
      have HO1 : Hid (FRow w.heap.size w1 u3 H (List.range k)) := HO.out.below hb1
      have HB1 : Hid (Below w.heap.size w w1) := bl_then HB.out hrV
      have HrV : Hid (Below wr.heap.size wr w1) := hrV
      have hszw := HB.out.size
      have hsz1 := hb1.size
      clear hR1 hrV hb1 HO HB
      have hlenr : (List.range k).length = k := by simp
      go_wp2_with (first
        | (at_builtin; go_must (refine wpList_append_own _ rfl _ _ 40 rfl w.heap.size 101 i0 (.agg #[.int .i64 0, .int .i64 0, .int .i64 0, .int .i64 0, .slice none 0 0, .string ⟨#[]⟩, .int .i64 0]) 7 80 Tryz.underlying40 hi hz0 hz1 hz2 rfl (by decide) u3 k (cellsF H (List.range k)) rfl ?c6 ⟨w1.heap.size, 0, none⟩ 1 1 (fcell { G k with a := a1, cap := c1 }) rfl ?c0 ?c1 ?c2 ?c3 ?c4 ?c5 ?_)))
      case c6 =>
        have := HO1.out.below (by (repeat (first | exact Below.refl _ _ | assumption | refine Below.drew ?_ | refine bl_alloc ?_ _ | refine bl_then ?_ (by assumption) | refine Below.setCell ?_ (by first | omega | (simp; done) | (simp; omega)) _ | refine bl_store ?_ ?_ _ _)) : Below w1.heap.size w1 (w1.alloc (.cells #[.int .i64 (G k).id, .int .i64 (G k).la, .int .i64 (G k).ki, .int .i64 (G k).wi, .slice a1 (G k).n c1, .string (G k).lab, .int .i64 (G k).pr] 101)))
        unfold FRow at this
        rw [hlenr] at this
        exact this
      case c0 => rfl
      case c1 =>
        intro q u hq
        have hq7 : q < 7 := (List.getElem?_eq_some_iff.1 hq).1
        have hc : q = 0 ∨ q = 1 ∨ q = 2 ∨ q = 3 ∨ q = 4 ∨ q = 5 ∨ q = 6 := by omega
        rcases hc with rfl | rfl | rfl | rfl | rfl | rfl | rfl <;> (simp [fcell] at hq; subst hq; simp [Addr.add, go_sem])
      case c2 => exact fcell_one _
      case c3 => unfold maxLen; omega
      case c4 => omega
      case c5 => simp; omega
      intro v' w3 hown' hgrow hnil
      have HN' : Hid (v' ≠ .slice none 0 0) := hnil
      clear hnil
      have hO2 : FRow w.heap.size (w1.alloc (.cells #[.int .i64 (G k).id, .int .i64 (G k).la, .int .i64 (G k).ki, .int .i64 (G k).wi, .slice a1 (G k).n c1, .string (G k).lab, .int .i64 (G k).pr] 101)) u3 H (List.range k) := HO1.out.below (by (repeat (first | exact Below.refl _ _ | assumption | refine Below.drew ?_ | refine bl_alloc ?_ _ | refine bl_then ?_ (by assumption) | refine Below.setCell ?_ (by first | omega | (simp; done) | (simp; omega)) _ | refine bl_store ?_ ?_ _ _)))
      have hR2 := HR1.out.below (by (repeat (first | exact Below.refl _ _ | assumption | refine Below.drew ?_ | refine bl_alloc ?_ _ | refine bl_then ?_ (by assumption) | refine Below.setCell ?_ (by first | omega | (simp; done) | (simp; omega)) _ | refine bl_store ?_ ?_ _ _)) : Below w1.heap.size w1 (w1.alloc (.cells #[.int .i64 (G k).id, .int .i64 (G k).la, .int .i64 (G k).ki, .int .i64 (G k).wi, .slice a1 (G k).n c1, .string (G k).lab, .int .i64 (G k).pr] 101)))
      have hb2 : Below wr.heap.size wr (w1.alloc (.cells #[.int .i64 (G k).id, .int .i64 (G k).la, .int .i64 (G k).ki, .int .i64 (G k).wi, .slice a1 (G k).n c1, .string (G k).lab, .int .i64 (G k).pr] 101)) := HrV.out.alloc (by omega) _
      obtain ⟨hC1, hC2⟩ := HC.out
      have HF : Hid (FRow w.heap.size w3 v' (fun i => if i = k then { G k with a := a1, cap := c1 } else H i) (List.range (k + 1))) := by
        show FRow _ _ _ _ _
        unfold FRow
        have e1 : cellsF (fun i => if i = k then { G k with a := a1, cap := c1 } else H i) (List.range (k + 1)) = cellsF H (List.range k) ++ fcell { G k with a := a1, cap := c1 } := by
          rw [List.range_succ, cellsF_app, cellsF_one, if_pos rfl]
          rw [cellsF_congr (H' := H) (List.range k) (fun j hj => by rw [if_neg]; have := List.mem_range.1 hj; omega)]
        rw [e1, List.length_range]
        exact hown'
      have HCn : Hid (Copies w.heap.size w3 (k + 1) G (fun i => if i = k then { G k with a := a1, cap := c1 } else H i)) := by
        show Copies _ _ _ _ _
        obtain ⟨g1, hg1, hg1', _⟩ := HR1.out.atP hp0
        refine ⟨fun i hi => ?_, fun i j hi hj e => ?_⟩
        · by_cases e : i = k
          · subst e
            simp only [if_pos]
            exact ⟨⟨rfl, rfl, rfl, rfl, rfl, rfl, rfl, rfl, rfl⟩, (hR2.keptF hO2 hgrow).wideB (by omega)⟩
          · simp only [if_neg e]
            obtain ⟨s1, r1⟩ := hC1 i (by omega)
            exact ⟨s1, (r1.below hb2).keptF hO2 hgrow⟩
        · have old : ∀ i, i < k → (H i).a ≠ a1 := fun i hi e => by
            obtain ⟨s1, r1⟩ := hC1 i hi
            have hnn : (H i).n = (G i).n := s1.2.2.2.2.1
            rw [hnn] at r1
            obtain ⟨g, hg, _, hgl, _⟩ := r1.atP (HPOS.out i (by omega))
            rw [hg, hg1] at e
            injection e with e
            injection e with e
            omega
          by_cases ei : i = k <;> by_cases ej : j = k
          · omega
          · simp only [if_pos ei, if_neg ej] at e
            exact absurd e.symm (old j (by omega))
          · simp only [if_neg ei, if_pos ej] at e
            exact absurd e (old i (by omega))
          · simp only [if_neg ei, if_neg ej] at e
            exact hC2 i j (by omega) (by omega) e
      have HB3 : Hid (Below w.heap.size w w3) := (HB1.out.alloc (by omega) _).grown hgrow (by simp; omega) (fun g hg => ((World.ownsRow.lt (show World.ownsRow _ _ _ _ _ _ _ from hO2)) g hg).1)
      clear hown' hgrow hO2 hR2 hb2 hC1 hC2
      go_wp2
      go_roundw
      case rel => exact ⟨k + 1, _, by have := HLT.out; omega, by go_num, HN'.out, HF.out, HCn.out, HB3.out⟩
      case measure => have := HLT.out; simp [intOf]; omega
    · go_wp2
      go_ret
      have hkn : k = n := by omega
      subst hkn
      exact ⟨_, H, rfl, HNN.out, hO, hC, hB⟩
end Go.Proofs.YtciidkmonfmipaaGreat
/- What a sort of the library lays; how numbers are compared. -/

namespace Go.Proofs.YtciidkmonfmipaaGreat
open Go.RowKit Go.Sort Go.Shelf
set_option linter.unusedSimpArgs false
set_option linter.unusedVariables false
set_option maxRecDepth 100000

theorem Gro.grow {V W' : World} (h : Gro V W') : ∃ q os', W' = Go.Sort.grow (V.drewN q) os' := by
  obtain ⟨hb, hd⟩ := h
  refine ⟨W'.drawn - V.drawn, W'.heap.extract V.heap.size W'.heap.size, ?_⟩
  obtain ⟨hp, tp, dr, os, ou⟩ := W'
  obtain ⟨h1, h2, h3, h4, h5⟩ := hb
  simp only at h1 h2 h3 h4 h5 hd
  subst h1 h2 h3
  have e1 : V.drawn + (dr - V.drawn) = dr := by omega
  have e2 : V.heap ++ hp.extract V.heap.size hp.size = hp := by
    apply Array.ext
    · simp; omega
    · intro i hi hi'
      by_cases h : i < V.heap.size
      · rw [Array.getElem_append_left h]
        have := h5 i h
        rw [Array.getElem?_eq_getElem hi', Array.getElem?_eq_getElem h] at this
        injection this with this
        exact this.symm
      · rw [Array.getElem_append_right (by omega)]
        simp only [Array.getElem_extract]
        congr 1
        omega
  simp only [Go.Sort.grow, World.drewN, e1, e2]
theorem cmpI_lt (x y : Int) : cmpI x y < 0 ↔ x < y := by
  unfold cmpI
  by_cases h1 : x < y
  · rw [if_pos h1]; simp [h1]
  · rw [if_neg h1]
    by_cases h2 : y < x
    · rw [if_pos h2]; simp [h1]
    · rw [if_neg h2]; simp [h1]
theorem grown_sortF (enc : Nat → List Value) (k : Nat) (w : World) (g off m : Nat) (d : Array Nat) (os : Array Obj) : w.grownBy (sortWorldK enc k w g off m d os) (some g) := by
  refine ⟨rfl, rfl, rfl, size_sortWorldK_c _ _ _ _ _ _ _ _, fun j hj hne => ?_⟩
  have hne' : g ≠ j := fun e => hne (by rw [e])
  show ((putRowK enc k (Sort.ahead w m) g off d).heap ++ os)[j]? = _
  have hs : (putRowK enc k (Sort.ahead w m) g off d).heap.size = w.heap.size := by
    show (putRow id (Sort.ahead w m) g off (flatK enc k d)).heap.size = _
    rw [size_putRow]; rfl
  rw [Array.getElem?_append_left (by rw [hs]; exact hj)]
  show (w.heap.modify g _)[j]? = _
  rw [Array.getElem?_modify, if_neg hne']
end Go.Proofs.YtciidkmonfmipaaGreat
