/- The features of a list are copied into memory of their own. -/
import Derived.Test.YtijegoheilmmpaaVSorts32
import Derived.Test.YtijegoheilmmpaaVSorts17
namespace Go.Proofs.Ytijegoheilmmpaa
open Go.RowKit
set_option linter.unusedSimpArgs false
set_option linter.unusedVariables false
set_option maxRecDepth 100000

/-- The first n of H are those of G, each with a row of points of its own. -/
def Copies (base : Nat) (w : World) (n : Nat) (G H : Nat → Feat) : Prop :=
  (∀ i, i < n → (H i).same (G i) ∧ Row base w (.slice (H i).a (H i).n (H i).cap) (ptsOf (G i).X (G i).Y (List.range (G i).n))) ∧
  ∀ i j, i < n → j < n → (H i).a = (H j).a → i = j
theorem ptsOf_len (X Y : Nat → Int) (n : Nat) : (ptsOf X Y (List.range n)).length = n := by simp [ptsOf]
theorem ptsOf_px (X Y : Nat → Int) (n i : Nat) (hi : i < n) : px (ptsOf X Y (List.range n)) i = X i ∧ py (ptsOf X Y (List.range n)) i = Y i := by
  simp [px, py, ptsOf, List.getD_eq_getElem?_getD, hi]
theorem Row.atP {base : Nat} {w : World} {a : Option Addr} {n c : Nat} {X Y : Nat → Int} (h : Row base w (.slice a n c) (ptsOf X Y (List.range n))) (hn : 0 < n) :
    ∃ g, a = some ⟨g, 0, none⟩ ∧ base ≤ g ∧ g < w.heap.size ∧ PtsAt w g 0 n X Y ∧ There w g (n * 2) := by
  obtain ⟨a', cap', hv, hc, h0 | ⟨b, ha, hb, hl, hp, ht⟩⟩ := h.own
  · rw [ptsOf_len] at h0; omega
  · rw [ptsOf_len] at hp ht
    injection hv with e1 e2 e3
    refine ⟨b, e1.trans ha, hb, hl, fun i hi => ?_, ht⟩
    obtain ⟨x1, x2⟩ := ptsOf_px X Y n i hi
    have := hp i hi
    rw [x1, x2] at this
    exact this
theorem Row.keptF {base base' : Nat} {w w' : World} {u v : Value} {l : List (Int × Int)} {H : Nat → Feat} {m : List Nat} (h : Row base w u l) (h' : FRow base' w v H m) (hg : w.grownBy w' v.ownBlock) : Row base w' u l := by
  refine World.ownsRow.kept h hg ?_
  cases hu : u.ownBlock with
  | none => exact .inl rfl
  | some g =>
    right
    intro e
    obtain ⟨c1, h1⟩ := heap_of_row h g hu
    obtain ⟨c2, h2⟩ := heap_of_row h' g e.symm
    rw [h1] at h2
    injection h2 with h2
    injection h2 with _ h2
    exact absurd h2 (by decide)

set_option maxHeartbeats 4000000 in
theorem copyFeatures_any (b n cap : Nat) (G : Nat → Feat) (w : World) (hg : FsAt w b 0 n G) (hbl : b < w.heap.size) (hn : n ≤ 12) (hpos : ∀ i, i < n → 0 < (G i).n) (hs : SmallFs n G) :
    Calls Try.prog 27 #[.slice (some ⟨b, 0, none⟩) n cap] w fun e w' => ∃ v H, e = .returned v ∧ FRow w.heap.size w' v H (List.range n) ∧ Copies w.heap.size w' n G H ∧ Below w.heap.size w w' := by
  obtain ⟨i0, hi, hz0, hz1, hz2⟩ := info_parts info_if
  have HG : Hid (FsAt w b 0 n G) := hg
  have HPOS : Hid (∀ i, i < n → 0 < (G i).n) := hpos
  have HS : Hid (SmallFs n G) := hs
  clear hg hpos hs
  go_enter Try.func27, Try.ntmps27
  go_wp2_with fail
  go_loopw [3, 8] (fun v i wr => ∃ (k : Nat) (H : Nat → Feat), k ≤ n ∧ i = .int .i64 (k : Int) ∧ FRow w.heap.size wr v H (List.range k) ∧ Copies w.heap.size wr k G H ∧ Below w.heap.size w wr) (fun _ i _ => n - (intOf i).toNat)
  case atStart => exact ⟨0, G, by omega, rfl, World.ownsRow_nil _ _ _ _, ⟨fun i hi => by omega, fun i j hi => by omega⟩, Below.refl _ _⟩
  case round =>
    obtain ⟨k, H, hk, rfl, hO, hC, hB⟩ := hrel
    by_cases hlt : k < n
    · have hblr : b < wr.heap.size := Nat.lt_of_lt_of_le hbl hB.size
      obtain ⟨⟨f0, f1, f2, f3, f4, f5, f6⟩, hP⟩ := (HG.out.below hB hbl) k hlt
      simp only [Nat.zero_add] at f0 f1 f2 f3 f4 f5 f6
      have hp0 := HPOS.out k hlt
      obtain ⟨z1, z2⟩ := HS.out.2 k hlt
      obtain ⟨b', off', ha', hbl', hpt⟩ := hP.resolve_left (by omega)
      rw [ha'] at f4
      have HP : Hid (PtsAt wr b' off' (G k).n (G k).X (G k).Y) := hpt
      have HO : Hid (FRow w.heap.size wr u3 H (List.range k)) := hO
      have HC : Hid (Copies w.heap.size wr k G H) := hC
      have HB : Hid (Below w.heap.size w wr) := hB
      have HLT : Hid (k < n) := hlt
      clear hO hC hB hP hpt
      have hi' : (k : Int) < (n : Int) := by omega
      go_wp2_with fail
      generalize hV : (wr.alloc _ : World) = V
      have hBV : Below wr.heap.size wr V := by subst hV; (repeat (first | exact Below.refl _ _ | assumption | refine Below.drew ?_ | refine bl_alloc ?_ _ | refine bl_then ?_ (by assumption) | refine Below.setCell ?_ (by first | omega | (simp; done) | (simp; omega)) _ | refine bl_store ?_ ?_ _ _))
      clear hV f0 f1 f2 f3 f4 f5 f6
      have hOV : FRow w.heap.size V u3 H (List.range k) := HO.out.below hBV
      refine (copyFeature_row _ _ _ _ b' _ _ (G k).X (G k).Y _ _ V (HP.out.below hBV hbl') (Nat.lt_of_lt_of_le hbl' hBV.size) z1 z2).mono ?_
      rintro e w1 ⟨a1, c1, rfl, hR1, hb1⟩
      have hrV : Below wr.heap.size wr w1 := bl_then hBV hb1
      have HR1 : Hid (Row V.heap.size w1 (.slice a1 (G k).n c1) (ptsOf (G k).X (G k).Y (List.range (G k).n))) := hR1
      have HO1 : Hid (FRow w.heap.size w1 u3 H (List.range k)) := hOV.below hb1
      have HB1 : Hid (Below w.heap.size w w1) := bl_then HB.out hrV
      have HrV : Hid (Below wr.heap.size wr w1) := hrV
      have hszV := hBV.size
      have hszw := HB.out.size
      have hsz1 := hb1.size
      clear hR1 hrV hOV hBV hb1 HO HB
      have hlenr : (List.range k).length = k := by simp
      go_wp2_with (first
        | (at_builtin; go_must (refine wpList_append_own _ rfl _ _ 24 rfl w.heap.size 32 i0 (.agg #[.int .i64 0, .int .i64 0, .int .i64 0, .int .i64 0, .slice none 0 0, .string ⟨#[]⟩, .int .i64 0]) 7 80 Try.underlying24 hi hz0 hz1 hz2 rfl (by decide) u3 k (cellsF H (List.range k)) rfl ?c6 ⟨w1.heap.size, 0, none⟩ 1 1 (fcell { G k with a := a1, cap := c1 }) rfl ?c0 ?c1 ?c2 ?c3 ?c4 ?c5 ?_)))
      case c6 =>
        have := HO1.out.below (by (repeat (first | exact Below.refl _ _ | assumption | refine Below.drew ?_ | refine bl_alloc ?_ _ | refine bl_then ?_ (by assumption) | refine Below.setCell ?_ (by first | omega | (simp; done) | (simp; omega)) _ | refine bl_store ?_ ?_ _ _)) : Below w1.heap.size w1 (w1.alloc (.cells #[.int .i64 (G k).id, .int .i64 (G k).la, .int .i64 (G k).ki, .int .i64 (G k).wi, .slice a1 (G k).n c1, .string (G k).lab, .int .i64 (G k).pr] 32)))
        unfold FRow at this
        rw [hlenr] at this
        exact this
      case c0 => rfl
      case c1 =>
        intro q u hq
        have hq7 : q < 7 := (List.getElem?_eq_some_iff.1 hq).1
        have hc : q = 0 ∨ q = 1 ∨ q = 2 ∨ q = 3 ∨ q = 4 ∨ q = 5 ∨ q = 6 := by omega
        rcases hc with rfl | rfl | rfl | rfl | rfl | rfl | rfl <;> (simp [fcell] at hq; subst hq; simp [Addr.add, go_sem])
      case c2 => exact fcell_one _
      case c3 => unfold maxLen; omega
      case c4 => omega
      case c5 => simp; omega
      intro v' w3 hown' hgrow hnil
      clear hnil
      have hO2 : FRow w.heap.size (w1.alloc (.cells #[.int .i64 (G k).id, .int .i64 (G k).la, .int .i64 (G k).ki, .int .i64 (G k).wi, .slice a1 (G k).n c1, .string (G k).lab, .int .i64 (G k).pr] 32)) u3 H (List.range k) := HO1.out.below (by (repeat (first | exact Below.refl _ _ | assumption | refine Below.drew ?_ | refine bl_alloc ?_ _ | refine bl_then ?_ (by assumption) | refine Below.setCell ?_ (by first | omega | (simp; done) | (simp; omega)) _ | refine bl_store ?_ ?_ _ _)))
      have hR2 := HR1.out.below (by (repeat (first | exact Below.refl _ _ | assumption | refine Below.drew ?_ | refine bl_alloc ?_ _ | refine bl_then ?_ (by assumption) | refine Below.setCell ?_ (by first | omega | (simp; done) | (simp; omega)) _ | refine bl_store ?_ ?_ _ _)) : Below w1.heap.size w1 (w1.alloc (.cells #[.int .i64 (G k).id, .int .i64 (G k).la, .int .i64 (G k).ki, .int .i64 (G k).wi, .slice a1 (G k).n c1, .string (G k).lab, .int .i64 (G k).pr] 32)))
      have hb2 : Below wr.heap.size wr (w1.alloc (.cells #[.int .i64 (G k).id, .int .i64 (G k).la, .int .i64 (G k).ki, .int .i64 (G k).wi, .slice a1 (G k).n c1, .string (G k).lab, .int .i64 (G k).pr] 32)) := HrV.out.alloc (by omega) _
      obtain ⟨hC1, hC2⟩ := HC.out
      have HF : Hid (FRow w.heap.size w3 v' (fun i => if i = k then { G k with a := a1, cap := c1 } else H i) (List.range (k + 1))) := by
        show FRow _ _ _ _ _
        unfold FRow
        have e1 : cellsF (fun i => if i = k then { G k with a := a1, cap := c1 } else H i) (List.range (k + 1)) = cellsF H (List.range k) ++ fcell { G k with a := a1, cap := c1 } := by
          rw [List.range_succ, cellsF_app, cellsF_one, if_pos rfl]
          rw [cellsF_congr (H' := H) (List.range k) (fun j hj => by rw [if_neg]; have := List.mem_range.1 hj; omega)]
        rw [e1, List.length_range]
        exact hown'
      have HCn : Hid (Copies w.heap.size w3 (k + 1) G (fun i => if i = k then { G k with a := a1, cap := c1 } else H i)) := by
        show Copies _ _ _ _ _
        obtain ⟨g1, hg1, hg1', _⟩ := HR1.out.atP hp0
        refine ⟨fun i hi => ?_, fun i j hi hj e => ?_⟩
        · by_cases e : i = k
          · subst e
            simp only [if_pos]
            exact ⟨⟨rfl, rfl, rfl, rfl, rfl, rfl, rfl, rfl, rfl⟩, (hR2.keptF hO2 hgrow).wideB (by omega)⟩
          · simp only [if_neg e]
            obtain ⟨s1, r1⟩ := hC1 i (by omega)
            exact ⟨s1, (r1.below hb2).keptF hO2 hgrow⟩
        · have old : ∀ i, i < k → (H i).a ≠ a1 := fun i hi e => by
            obtain ⟨s1, r1⟩ := hC1 i hi
            have hnn : (H i).n = (G i).n := s1.2.2.2.2.1
            rw [hnn] at r1
            obtain ⟨g, hg, _, hgl, _⟩ := r1.atP (HPOS.out i (by omega))
            rw [hg, hg1] at e
            injection e with e
            injection e with e
            omega
          by_cases ei : i = k <;> by_cases ej : j = k
          · omega
          · simp only [if_pos ei, if_neg ej] at e
            exact absurd e.symm (old j (by omega))
          · simp only [if_neg ei, if_pos ej] at e
            exact absurd e (old i (by omega))
          · simp only [if_neg ei, if_neg ej] at e
            exact hC2 i j (by omega) (by omega) e
      have HB3 : Hid (Below w.heap.size w w3) := (HB1.out.alloc (by omega) _).grown hgrow (by simp; omega) (fun g hg => ((World.ownsRow.lt (show World.ownsRow _ _ _ _ _ _ _ from hO2)) g hg).1)
      clear hown' hgrow hO2 hR2 hb2 hC1 hC2
      go_wp2
      go_roundw
      case rel => exact ⟨k + 1, _, by have := HLT.out; omega, by go_num, HF.out, HCn.out, HB3.out⟩
      case measure => have := HLT.out; simp [intOf]; omega
    · go_wp2
      go_ret
      have hkn : k = n := by omega
      subst hkn
      exact ⟨_, H, rfl, hO, hC, hB⟩
end Go.Proofs.Ytijegoheilmmpaa
