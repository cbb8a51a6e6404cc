/- Several texts in one. -/
import Derived.Test.YthadmnhpjklmiaaGreatVServeTile12
import Derived.Test.YthadmnhpjklmiaaGreatVServeTile25
import Derived.Test.YthadmnhpjklmiaaGreatVServeTile27
import Derived.Test.YthadmnhpjklmiaaGreatVServeTile16
import Derived.Test.YthadmnhpjklmiaaGreatVServeTile17
import Derived.Test.YthadmnhpjklmiaaGreatVServeTile5

/- Features in order, simple at a zoom: the model. -/

namespace Go.Proofs.YthadmnhpjklmiaaGreat
open Go.RowKit
set_option linter.unusedSimpArgs false
set_option linter.unusedVariables false
set_option maxRecDepth 100000

/-- Which points of a line stay. -/
theorem thin_exL (X Y : Nat → Int) (z : Int) (n : Nat) : ∃ L, 3 ≤ (snapL X Y z n).length → Thin (px (snapL X Y z n)) (py (snapL X Y z n)) (gridI z) 0 ((snapL X Y z n).length - 1) L := by
  by_cases h3 : 3 ≤ (snapL X Y z n).length
  · obtain ⟨L, hL⟩ := Thin.exists (px (snapL X Y z n)) (py (snapL X Y z n)) (gridI z) ((snapL X Y z n).length - 1) 0 ((snapL X Y z n).length - 1) (by omega) (by omega)
    exact ⟨L, fun _ => hL⟩
  · exact ⟨[], fun h => absurd h h3⟩
noncomputable def thinOf (z : Int) (f : Feat) : List Nat := Classical.choose (thin_exL f.X f.Y z f.n)
theorem thinOf_spec (z : Int) (f : Feat) : 3 ≤ (snapL f.X f.Y z f.n).length → Thin (px (snapL f.X f.Y z f.n)) (py (snapL f.X f.Y z f.n)) (gridI z) 0 ((snapL f.X f.Y z f.n).length - 1) (thinOf z f) := Classical.choose_spec (thin_exL f.X f.Y z f.n)
/-- The points of a feature at a zoom. -/
noncomputable def simL (z : Int) (f : Feat) : List (Int × Int) := simpR 0 f.ki z f.n f.X f.Y (thinOf z f)
/-- t is f with its points at a zoom. -/
def simOf (z : Int) (f t : Feat) : Prop := t.id = f.id ∧ t.la = f.la ∧ t.ki = f.ki ∧ t.wi = f.wi ∧ t.n = (simL z f).length ∧ t.X = px (simL z f) ∧ t.Y = py (simL z f) ∧ t.lab = f.lab ∧ t.pr = f.pr
abbrev okC (f : Feat) : Prop := featC f.id f.la f.ki f.wi f.n f.X f.Y f.lab f.pr = 0
theorem simL_facts {z : Int} {f : Feat} (h : okC f) (hz : zoomB z = true) : kindN f.ki (simL z f).length ∧ (simL z f).length ≤ 12 ∧ allW (simL z f) ∧ 0 < (simL z f).length := by
  obtain ⟨h1, h2, h3⟩ := simpR_facts h hz (thinOf_spec z f)
  exact ⟨h1, h2, h3, by show 0 < (simpR 0 f.ki z f.n f.X f.Y (thinOf z f)).length; rcases h1 with ⟨_, h⟩ | ⟨_, h⟩ | ⟨_, h⟩ <;> omega⟩
theorem simL_same {z : Int} {f g : Feat} (h : f.same g) : simL z f = simL z g := by
  obtain ⟨h1, h2, h3, h4, h5, h6, h7, h8, h9⟩ := h
  unfold simL thinOf
  rw [h3]
  congr 1
  all_goals first | rw [h5, h6, h7] | skip
  all_goals first | rfl | simp only [h5, h6, h7]
theorem Row.keptA {base base' : Nat} {w w' : World} {u v : Value} {l : List (Int × Int)} {H : Nat → Feat} {m : List Nat} (h : Row base w u l) (h' : FRow base' w v H m) (hg : w.grownBy w' v.ownBlock) : Row base w' u l := by
  refine World.ownsRow.kept h hg ?_
  cases hu : u.ownBlock with
  | none => exact .inl rfl
  | some g =>
    right
    intro e
    obtain ⟨c1, h1⟩ := heap_of_row h g hu
    obtain ⟨c2, h2⟩ := heap_of_row h' g e.symm
    rw [h1] at h2
    injection h2 with h2
    injection h2 with _ h2
    exact absurd h2 (by decide)
/-- v is a row of its own of features at a zoom, each with points of its own. -/
def SfRow (base : Nat) (w : World) (v : Value) (k : Nat) (z : Int) (H T : Nat → Feat) : Prop :=
  FRow base w v T (List.range k) ∧ (∀ i, i < k → simOf z (H i) (T i) ∧ Row base w (.slice (T i).a (T i).n (T i).cap) (simL z (H i))) ∧ ∀ i j, i < k → j < k → (T i).a = (T j).a → i = j
theorem SfRow.below {base k : Nat} {w w' : World} {v : Value} {z : Int} {H T : Nat → Feat} (h : SfRow base w v k z H T) (hb : Below w.heap.size w w') : SfRow base w' v k z H T :=
  ⟨h.1.below hb, fun i hi => ⟨(h.2.1 i hi).1, (h.2.1 i hi).2.below hb⟩, h.2.2⟩
/-- One more behind the others. -/
theorem SfRow.app {base k : Nat} {w w' : World} {v v' : Value} {z : Int} {H T : Nat → Feat} {t : Feat} (h : SfRow base w v k z H T) (hs : simOf z (H k) t) (hR : Row base w (.slice t.a t.n t.cap) (simL z (H k)))
    (hown : w'.ownsRow base 55 7 v' (k + 1) (cellsF T (List.range k) ++ fcell t)) (hg : w.grownBy w' v.ownBlock) (hfr : ∀ i, i < k → (T i).a ≠ t.a) : SfRow base w' v' (k + 1) z H (fun i => if i = k then t else T i) := by
  refine ⟨?_, fun i hi => ?_, fun i j hi hj hij => ?_⟩
  · unfold FRow
    have e1 : cellsF (fun i => if i = k then t else T i) (List.range (k + 1)) = cellsF T (List.range k) ++ fcell t := by
      rw [List.range_succ, cellsF_app, cellsF_one, if_pos rfl]
      rw [cellsF_congr (H' := T) (List.range k) (fun j hj => by rw [if_neg]; have := List.mem_range.1 hj; omega)]
    rw [e1, List.length_range]
    exact hown
  · by_cases e : i = k
    · subst e
      simp only [↓reduceIte]
      exact ⟨hs, hR.keptA h.1 hg⟩
    · simp only [if_neg e]
      exact ⟨(h.2.1 i (by omega)).1, (h.2.1 i (by omega)).2.keptA h.1 hg⟩
  · by_cases e1 : i = k <;> by_cases e2 : j = k
    · omega
    · simp only [if_pos e1, if_neg e2] at hij
      exact absurd hij.symm (hfr j (by omega))
    · simp only [if_neg e1, if_pos e2] at hij
      exact absurd hij (hfr i (by omega))
    · simp only [if_neg e1, if_neg e2] at hij
      exact h.2.2 i j (by omega) (by omega) hij
theorem SfRow.fs {base k g c : Nat} {w : World} {z : Int} {H T : Nat → Feat} (h : SfRow base w (.slice (some ⟨g, 0, none⟩) k c) k z H T) : g < w.heap.size ∧ k ≤ c ∧ FsAt w g 0 k T := by
  have hp : ∀ j, j < k → IsPts w (T j).a (T j).n (T j).X (T j).Y := fun j hj => by
    obtain ⟨⟨_, _, _, _, e5, e6, e7, _, _⟩, hR⟩ := h.2.1 j hj
    obtain ⟨a', c', hv, _, hI⟩ := hR.own.pts
    injection hv with i1 i2 i3
    rw [e6, e7, e5, i1]
    exact hI
  rcases h.1.at with ⟨hv, hl⟩ | ⟨g', c', hv, hg', hgl, hc', _, hF⟩
  · cases hv
  · injection hv with e1 e2 e3
    injection e1 with e1
    injection e1 with e1
    subst e1
    rw [List.length_range] at hc' hF
    refine ⟨hgl, by omega, fun i hi => ⟨?_, hp i hi⟩⟩
    have hF' := hF i hi
    have er : (List.range k).getD i 0 = i := by simp [List.getD, hi]
    rw [er] at hF'
    rw [Nat.zero_add]
    exact hF'
set_option maxHeartbeats 8000000 in
theorem l4All_any (b n cap : Nat) (G : Nat → Feat) (z : Int) (w : World) (hg : FsAt w b 0 n G) (hbl : b < w.heap.size) (hs : SmallFs n G) (hf : featsC n G = 0) (hz : zoomB z = true) :
    Calls Tryz.prog 46 #[.slice (some ⟨b, 0, none⟩) n cap, .int .i64 z] w fun e w' => ∃ g c T, e = .returned (.slice (some ⟨g, 0, none⟩) n c) ∧ w.heap.size ≤ g ∧ g < w'.heap.size ∧ FsAt w' g 0 n T ∧ (∀ i, i < n → simOf z (G ((srtF n G).getD i 0)) (T i)) ∧ (∀ i, i < n → ∀ q o, (T i).a = some ⟨q, o, none⟩ → w.heap.size ≤ q) ∧ Below w.heap.size w w' := by
  obtain ⟨i0, hi, hz0, hz1, hz2⟩ := info_parts info_if
  obtain ⟨hn12, _, hokG⟩ := featsC_ok hf
  have hlen : (srtF n G).length = n := srtK_len _ _ _
  have HLS := (show Hid _ from l2Sort_any b n cap G w hg hbl hn12 (fun i hi => (featC_zero (hokG i hi)).2.1) hs)
  have HOK : Hid (∀ i, i < n → okC (G ((srtF n G).getD i 0))) := fun i hi => hokG _ (srtF_lt n G i hi)
  have HZ : Hid (zoomB z = true) := hz
  clear hg hs hf hokG hz
  go_enter Tryz.func46, Tryz.ntmps46
  go_wp2_with fail
  refine Calls.mono HLS.out ?_
  rintro e w1 ⟨v1, H1, rfl, hF1, hC1, hb1⟩
  have hpts : ∀ j ∈ srtF n G, IsPts w1 (H1 j).a (H1 j).n (H1 j).X (H1 j).Y := fun j hj => by
    have hjn : j < n := by
      obtain ⟨i, hi, e⟩ := List.getElem_of_mem hj
      have := srtF_lt n G i (by omega)
      rw [List.getD_eq_getElem?_getD, List.getElem?_eq_getElem hi] at this
      simp at this
      omega
    obtain ⟨⟨_, _, _, _, e5, e6, e7, _, _⟩, hR⟩ := hC1.1 j hjn
    obtain ⟨a', c', hv, _, hI⟩ := hR.own.pts
    injection hv with i1 i2 i3
    rw [i1]
    have hl : (ptsOf (G j).X (G j).Y (List.range (G j).n)).length = (G j).n := by simp [ptsOf]
    rw [hl] at hI
    have eX : ∀ i, i < (G j).n → px (ptsOf (G j).X (G j).Y (List.range (G j).n)) i = (G j).X i ∧ py (ptsOf (G j).X (G j).Y (List.range (G j).n)) i = (G j).Y i := fun i hi => by simp [px, py, ptsOf, List.getD_eq_getElem?_getD, hi]
    rw [e5, e6, e7]
    rcases hI with h0 | ⟨q, o, ea, hl', hp⟩
    · exact .inl h0
    · refine .inr ⟨q, o, ea, hl', fun i hi => ?_⟩
      have := hp i hi
      rw [(eX i hi).1, (eX i hi).2] at this
      exact this
  obtain ⟨a1, c1, hv1, hc1, hI1⟩ := hF1.is hpts
  rw [hlen] at hv1 hc1 hI1
  subst hv1
  have HI1 : Hid (IsFs w1 a1 n (fun i => H1 ((srtF n G).getD i 0))) := hI1
  have HSM : Hid (∀ i, i < n → (H1 ((srtF n G).getD i 0)).same (G ((srtF n G).getD i 0))) := fun i hi => (hC1.1 _ (srtF_lt n G i hi)).1
  have HB1 : Hid (Below w.heap.size w w1) := hb1
  clear hF1 hC1 hb1 hpts hI1 HLS
  obtain ⟨H2, hH2⟩ : ∃ H2 : Nat → Feat, H2 = fun i => H1 ((srtF n G).getD i 0) := ⟨_, rfl⟩
  obtain ⟨K2, hK2⟩ : ∃ K2 : Nat → Feat, K2 = fun i => G ((srtF n G).getD i 0) := ⟨_, rfl⟩
  have HSM2 : Hid (∀ i, i < n → (H2 i).same (K2 i)) := by rw [hH2, hK2]; exact HSM.out
  have HOK2 : Hid (∀ i, i < n → okC (K2 i)) := by rw [hK2]; exact HOK.out
  have HPOST : Hid (∀ (T : Nat → Feat), (∀ i, i < n → simOf z (K2 i) (T i)) → ∀ i, i < n → simOf z (G ((srtF n G).getD i 0)) (T i)) := by rw [hK2]; exact fun T h => h
  rw [← hH2] at HI1
  clear hH2 hK2 HSM HOK
  go_wp2_with fail
  generalize hV : (w1.alloc _ : World) = V
  have hbV : Below w1.heap.size w1 V := by subst hV; (repeat (first | exact Below.refl _ _ | assumption | refine Below.drew ?_ | refine bl_alloc ?_ _ | refine bl_then ?_ (by assumption) | refine Below.setCell ?_ (by first | omega | (simp; done) | (simp; omega)) _ | refine bl_store ?_ ?_ _ _))
  have HO0 : Hid (SfRow w1.heap.size V (.slice (some ⟨w1.heap.size, 0, none⟩) 0 0) 0 z K2 K2) := by
    refine ⟨?_, fun i hi => absurd hi (Nat.not_lt_zero _), fun i j hi => absurd hi (Nat.not_lt_zero _)⟩
    subst hV
    exact World.ownsRow_lit (base := w1.heap.size) w1 #[] 0 (Nat.le_refl _) (Nat.zero_le _) rfl
  have HBV : Hid (Below w1.heap.size w1 V) := hbV
  clear hV hbV
  go_loopw [6, 7] (fun v i wr => ∃ (k g c : Nat) (T : Nat → Feat), k ≤ n ∧ i = .int .i64 (k : Int) ∧ v = .slice (some ⟨g, 0, none⟩) k c ∧ SfRow w1.heap.size wr v k z K2 T ∧ Below w1.heap.size w1 wr) (fun _ i _ => n - (intOf i).toNat)
  case atStart => exact ⟨0, w1.heap.size, 0, K2, by omega, rfl, rfl, HO0.out, HBV.out⟩
  case round =>
    obtain ⟨k, g, c, T, hk, rfl, rfl, hO, hB⟩ := hrel
    have HO : Hid (SfRow w1.heap.size wr (.slice (some ⟨g, 0, none⟩) k c) k z K2 T) := hO
    have HIr : Hid (IsFs wr a1 n H2) := HI1.out.below hB
    have HB : Hid (Below w1.heap.size w1 wr) := hB
    clear hO hB
    by_cases hlt : k < n
    · rcases HIr.out with h0 | ⟨b1, o1, rfl, hbl1, hFs⟩
      · omega
      have hok := HOK2.out k hlt
      obtain ⟨s1, s2, s3, s4, s5, s6, s7, s8, s9⟩ := HSM2.out k hlt
      have hok2 : okC (H2 k) := by unfold okC; rw [s1, s2, s3, s4, s5, s6, s7, s8, s9]; exact hok
      obtain ⟨hk3, hk0, hk12, _, hin, _⟩ := featC_zero hok2
      have hff := (hFs k hlt).1
      obtain ⟨q, o, ea, hql, hpt⟩ : ∃ q o, (H2 k).a = some ⟨q, o, none⟩ ∧ q < wr.heap.size ∧ PtsAt wr q o (H2 k).n (H2 k).X (H2 k).Y := by
        rcases (hFs k hlt).2 with h' | ⟨q, o, e, hl, hp⟩
        · omega
        · exact ⟨q, o, e, hl, hp⟩
      rw [ea] at hff
      have HS3 := (show Hid _ from l3Simple_any b1 (H2 k).id (H2 k).la (H2 k).ki (H2 k).wi z q (H2 k).n (H2 k).cap (H2 k).X (H2 k).Y (H2 k).lab (H2 k).pr (thinOf z (H2 k)) wr hff hpt hql HZ.out hk3 hk0 hk12 hin (thinOf_spec z (H2 k)))
      rw [← show simpR 0 (H2 k).ki z (H2 k).n (H2 k).X (H2 k).Y (thinOf z (H2 k)) = fillL (H2 k).ki.toNat (simpT (H2 k).ki z (H2 k).n (H2 k).X (H2 k).Y (thinOf z (H2 k))) by rw [simpR, if_pos rfl]] at HS3
      have eS : simpR 0 (H2 k).ki z (H2 k).n (H2 k).X (H2 k).Y (thinOf z (H2 k)) = simL z (K2 k) := simL_same (HSM2.out k hlt)
      rw [eS] at HS3
      have HSF : Hid (0 < (simL z (K2 k)).length ∧ (simL z (K2 k)).length ≤ 12) := ⟨(simL_facts hok HZ.out).2.2.2, (simL_facts hok HZ.out).2.1⟩
      have HSN : Hid ((H2 k).id = (K2 k).id ∧ (H2 k).la = (K2 k).la ∧ (H2 k).ki = (K2 k).ki ∧ (H2 k).wi = (K2 k).wi ∧ (H2 k).lab = (K2 k).lab ∧ (H2 k).pr = (K2 k).pr) := ⟨s1, s2, s3, s4, s8, s9⟩
      have hi1 : (k : Int) < (n : Int) := by omega
      have hi0 : (0 : Int) ≤ (k : Int) := by omega
      clear hff hpt hFs hok hok2 hk3 hk0 hk12 hin s1 s2 s3 s4 s5 s6 s7 s8 s9 eS ea
      go_wp2_with fail
      refine Calls.mono HS3.out ?_
      rintro e w2 ⟨v2, rfl, hR2, hb2⟩
      obtain ⟨g2, c2, hv2, hg2, hg2l, hc2, hP2⟩ := hR2.at HSF.out.1
      subst hv2
      generalize hLn : (simL z (K2 k)).length = N at *
      have HR2 : Hid (Row wr.heap.size w2 (.slice (some ⟨g2, 0, none⟩) N c2) (simL z (K2 k))) := hR2
      have HO2 : Hid (SfRow w1.heap.size w2 (.slice (some ⟨g, 0, none⟩) k c) k z K2 T) := HO.out.below hb2
      have HB2 : Hid (Below w1.heap.size w1 w2) := bl_then HB.out hb2
      have hwr2 := HB.out.size
      have HFR : Hid (∀ i, i < k → (T i).a ≠ some ⟨g2, 0, none⟩) := fun i hi e => by have := (World.ownsRow.lt (HO.out.2.1 i hi).2 g2 (by rw [e]; rfl)).2; omega
      clear hR2 hb2 hP2 HS3
      go_wp2_with (first
        | (at_builtin; go_must (refine wpList_append_own _ rfl _ _ 27 rfl w1.heap.size 55 i0 (.agg #[.int .i64 0, .int .i64 0, .int .i64 0, .int .i64 0, .slice none 0 0, .string ⟨#[]⟩, .int .i64 0]) 7 80 Tryz.underlying27 hi hz0 hz1 hz2 rfl (by decide) (.slice (some ⟨g, 0, none⟩) k c) k (cellsF T (List.range k)) rfl ?c6 ⟨w2.heap.size, 0, none⟩ 1 1 (fcell ⟨(H2 k).id, (H2 k).la, (H2 k).ki, (H2 k).wi, some ⟨g2, 0, none⟩, N, c2, px (simL z (K2 k)), py (simL z (K2 k)), (H2 k).lab, (H2 k).pr⟩) rfl ?c0 ?c1 ?c2 ?c3 ?c4 ?c5 ?_)))
      case c6 =>
        have := HO2.out.1.below ((Below.refl w2.heap.size w2).alloc (Nat.le_refl _) (.cells #[.int .i64 (H2 k).id, .int .i64 (H2 k).la, .int .i64 (H2 k).ki, .int .i64 (H2 k).wi, .slice (some ⟨g2, 0, none⟩) N c2, .string (H2 k).lab, .int .i64 (H2 k).pr] 55))
        unfold FRow at this
        rw [List.length_range] at this
        exact this
      case c0 => rfl
      case c1 =>
        intro q u hq
        have hq7 : q < 7 := (List.getElem?_eq_some_iff.1 hq).1
        have hc : q = 0 ∨ q = 1 ∨ q = 2 ∨ q = 3 ∨ q = 4 ∨ q = 5 ∨ q = 6 := by omega
        rcases hc with rfl | rfl | rfl | rfl | rfl | rfl | rfl <;> (simp [fcell] at hq; subst hq; simp [Addr.add, go_sem])
      case c2 => exact fcell_one _
      case c3 => unfold maxLen; omega
      case c4 => omega
      case c5 => have := HB2.out.size; simp; omega
      intro v' w4 hown' hgrow hnil
      obtain ⟨g4, c4, hv4⟩ : ∃ g4 c4, v' = .slice (some ⟨g4, 0, none⟩) (k + 1) c4 := by
        obtain ⟨_, h2 | ⟨g', cp, cur, hv, _⟩⟩ := hown'
        · first | exact absurd h2.1 hnil | (have := hnil.1 h2.1; simp at this)
        · exact ⟨g', cp, hv⟩
      subst hv4
      have hbA : Below w2.heap.size w2 (w2.alloc (.cells #[.int .i64 (H2 k).id, .int .i64 (H2 k).la, .int .i64 (H2 k).ki, .int .i64 (H2 k).wi, .slice (some ⟨g2, 0, none⟩) N c2, .string (H2 k).lab, .int .i64 (H2 k).pr] 55)) := (Below.refl w2.heap.size w2).alloc (Nat.le_refl _) _
      have hOA := HO2.out.below hbA
      have HF4 := (show Hid (SfRow w1.heap.size w4 (.slice (some ⟨g4, 0, none⟩) (k + 1) c4) (k + 1) z K2 (fun i => if i = k then ⟨(H2 k).id, (H2 k).la, (H2 k).ki, (H2 k).wi, some ⟨g2, 0, none⟩, N, c2, px (simL z (K2 k)), py (simL z (K2 k)), (H2 k).lab, (H2 k).pr⟩ else T i)) from
        SfRow.app hOA ⟨HSN.out.1, HSN.out.2.1, HSN.out.2.2.1, HSN.out.2.2.2.1, hLn.symm, rfl, rfl, HSN.out.2.2.2.2.1, HSN.out.2.2.2.2.2⟩ ((HR2.out.below hbA).wide hwr2) hown' hgrow HFR.out)
      have hBg := (Below.refl w1.heap.size (w2.alloc (.cells #[.int .i64 (H2 k).id, .int .i64 (H2 k).la, .int .i64 (H2 k).ki, .int .i64 (H2 k).wi, .slice (some ⟨g2, 0, none⟩) N c2, .string (H2 k).lab, .int .i64 (H2 k).pr] 55))).grown hgrow (by have := HB2.out.size; simp; omega) (fun q hq => (World.ownsRow.lt hOA.1 q hq).1)
      have HB4 : Hid (Below w1.heap.size w1 w4) := (bl_then HB2.out hbA).trans hBg
      clear hown' hgrow hnil hOA hBg hbA
      go_wp2
      go_roundw
      case rel => exact ⟨k + 1, g4, c4, _, by omega, by go_num, rfl, HF4.out, HB4.out⟩
      case measure => simp [intOf]; omega
    · obtain rfl : n = k := by omega
      have HQ := HO.out.fs
      have hgg : w.heap.size ≤ g := Nat.le_trans HB1.out.size (World.ownsRow.lt HO.out.1 g rfl).1
      have HS' : Hid (∀ i, i < n → simOf z (K2 i) (T i)) := fun i hi => (HO.out.2.1 i hi).1
      have HLO : Hid (∀ i, i < n → ∀ q o, (T i).a = some ⟨q, o, none⟩ → w.heap.size ≤ q) := fun i hi q o ea => Nat.le_trans HB1.out.size (World.ownsRow.lt (HO.out.2.1 i hi).2 q (by rw [ea]; rfl)).1
      go_wp2
      go_ret
      exact ⟨g, c, T, rfl, hgg, HQ.1, HQ.2.2, HPOST.out T HS'.out, HLO.out, bl_then HB1.out HB.out⟩
end Go.Proofs.YthadmnhpjklmiaaGreat
/- How many pixels the world has on a side, and their centres. -/

namespace Go.Proofs.YthadmnhpjklmiaaGreat
open Go.RowKit
set_option linter.unusedSimpArgs false
set_option linter.unusedVariables false
set_option maxRecDepth 100000

/-- How many pixels the world has on a side. -/
def pixI (z : Int) : Int := if z = 0 then 8 else if z = 1 then 16 else if z = 2 then 32 else 64
/-- The answer of PixelCount. -/
def pixV (z : Int) : Value := if zoomB z = true then .agg #[.int .i64 0, .int .i64 (pixI z)] else .agg #[.int .i64 3, .int .i64 0]
/-- A pixel. -/
def pixB (z x y : Int) : Bool := zoomB z && (inB x 0 (pixI z - 1) && inB y 0 (pixI z - 1))
/-- The centre of a pixel, doubled. -/
def centI (z x : Int) : Int := (2 * x + 1) * unitI z
/-- The answer of CentreOf. -/
def centV (z x y : Int) : Value := if pixB z x y = true then .agg #[.int .i64 0, .int .i64 (centI z x), .int .i64 (centI z y)] else .agg #[.int .i64 3, .int .i64 0, .int .i64 0]
theorem pixB_zoom {z x y : Int} (h : pixB z x y = true) : zoomB z = true := by
  simp [pixB] at h
  exact h.1
theorem pixB_in {z x y : Int} (h : pixB z x y = true) : (0 ≤ x ∧ x ≤ pixI z - 1) ∧ (0 ≤ y ∧ y ≤ pixI z - 1) := by
  simp [pixB, inB] at h
  exact h.2
theorem pixI_bd {z : Int} (h : zoomB z = true) : 8 ≤ pixI z ∧ pixI z ≤ 64 := by
  rcases zoomB_cases h with rfl | rfl | rfl | rfl <;> decide
theorem cent_ok {z x y : Int} (h : pixB z x y = true) : okP (centI z x) (centI z y) = true := by
  have hz := pixB_zoom h
  have hb := pixB_in h
  rw [okP_iff]
  unfold centI
  rcases zoomB_cases hz with rfl | rfl | rfl | rfl
  all_goals
    simp only [show unitI 0 = 128 from rfl, show unitI 1 = 64 from rfl, show unitI 2 = 32 from rfl, show unitI 3 = 16 from rfl, show pixI 0 = 8 from rfl, show pixI 1 = 16 from rfl, show pixI 2 = 32 from rfl, show pixI 3 = 64 from rfl] at *
    omega

theorem impl_PixelCount_any (z : Int) (w : World) : Calls Tryz.prog 149 #[.int .i64 z] w fun e w' => e = .returned (pixV z) ∧ Below w.heap.size w w' := by
  cases h : zoomB z
  · go_enter Tryz.func149, Tryz.ntmps149
    go_wp2_with (go_at_call 51; refine (isZoom_any _ _).mono ?_; rintro e w' ⟨rfl, rfl⟩)
    exact bodyPost_ret (v := .agg #[.int .i64 3, .int .i64 0]) (by simp [results, Tryz.results149, go_sem]) rfl ⟨by simp [pixV, h], by (repeat (first | exact Below.refl _ _ | assumption | refine Below.drew ?_ | refine bl_alloc ?_ _ | refine bl_then ?_ (by assumption) | refine Below.setCell ?_ (by first | omega | (simp; done) | (simp; omega)) _ | refine bl_store ?_ ?_ _ _))⟩
  · rcases zoomB_cases h with rfl | rfl | rfl | rfl
    all_goals
      go_enter Tryz.func149, Tryz.ntmps149
      go_wp2_with (go_at_call 51; refine (isZoom_any _ _).mono ?_; rintro e w' ⟨rfl, rfl⟩)
      first
        | exact bodyPost_ret (v := .agg #[.int .i64 0, .int .i64 8]) (by simp [results, Tryz.results149, go_sem]; done) rfl ⟨rfl, by (repeat (first | exact Below.refl _ _ | assumption | refine Below.drew ?_ | refine bl_alloc ?_ _ | refine bl_then ?_ (by assumption) | refine Below.setCell ?_ (by first | omega | (simp; done) | (simp; omega)) _ | refine bl_store ?_ ?_ _ _))⟩
        | exact bodyPost_ret (v := .agg #[.int .i64 0, .int .i64 16]) (by simp [results, Tryz.results149, go_sem]; done) rfl ⟨rfl, by (repeat (first | exact Below.refl _ _ | assumption | refine Below.drew ?_ | refine bl_alloc ?_ _ | refine bl_then ?_ (by assumption) | refine Below.setCell ?_ (by first | omega | (simp; done) | (simp; omega)) _ | refine bl_store ?_ ?_ _ _))⟩
        | exact bodyPost_ret (v := .agg #[.int .i64 0, .int .i64 32]) (by simp [results, Tryz.results149, go_sem]; done) rfl ⟨rfl, by (repeat (first | exact Below.refl _ _ | assumption | refine Below.drew ?_ | refine bl_alloc ?_ _ | refine bl_then ?_ (by assumption) | refine Below.setCell ?_ (by first | omega | (simp; done) | (simp; omega)) _ | refine bl_store ?_ ?_ _ _))⟩
        | exact bodyPost_ret (v := .agg #[.int .i64 0, .int .i64 64]) (by simp [results, Tryz.results149, go_sem]; done) rfl ⟨rfl, by (repeat (first | exact Below.refl _ _ | assumption | refine Below.drew ?_ | refine bl_alloc ?_ _ | refine bl_then ?_ (by assumption) | refine Below.setCell ?_ (by first | omega | (simp; done) | (simp; omega)) _ | refine bl_store ?_ ?_ _ _))⟩
theorem isPixel_any (z x y : Int) (w : World) : Calls Tryz.prog 130 #[.int .i64 z, .int .i64 x, .int .i64 y] w fun e w' => e = .returned (.bool (pixB z x y)) ∧ Below w.heap.size w w' := by
  have s1 := fun w => impl_PixelCount_any z w
  cases h : zoomB z
  · have hv : pixV z = .agg #[.int .i64 3, .int .i64 0] := by simp [pixV, h]
    simp only [hv] at s1
    have i1 : ∀ w, (Instr.field 167 (.agg #[.int .i64 3, .int .i64 0]) 1).run Tryz.prog w = .ok (.int .i64 0) w := fun _ => by kernel_rfl
    have hx : inB x 0 (-1) = false := by simp [inB]; omega
    have hp : Hid (pixB z x y = false) := by show _ = _; simp [pixB, h]
    go_enter Tryz.func130, Tryz.ntmps130
    go_wp2_with (first
      | (go_at_call 149; refine (s1 _).mono ?_; rintro e w1 ⟨rfl, hb1⟩)
      | (go_at_call 52; refine (isWithin_any _ _ _ _).mono ?_; rintro e w' ⟨rfl, rfl⟩))
    all_goals (go_ret; exact ⟨ret_bool (by rw [hp.out]), by (repeat (first | exact Below.refl _ _ | assumption | refine Below.drew ?_ | refine bl_alloc ?_ _ | refine bl_then ?_ (by assumption) | refine Below.setCell ?_ (by first | omega | (simp; done) | (simp; omega)) _ | refine bl_store ?_ ?_ _ _))⟩)
  · have hv : pixV z = .agg #[.int .i64 0, .int .i64 (pixI z)] := by simp [pixV, h]
    simp only [hv] at s1
    have hp : Hid (pixB z x y = (inB x 0 (pixI z - 1) && inB y 0 (pixI z - 1))) := by show _ = _; simp [pixB, h]
    obtain ⟨b1, b2⟩ := pixI_bd h
    generalize pixI z = u at *
    have i1 : ∀ w, (Instr.field 167 (.agg #[.int .i64 0, .int .i64 u]) 1).run Tryz.prog w = .ok (.int .i64 u) w := fun _ => by kernel_rfl
    cases hx : inB x 0 (u - 1) <;> cases hy : inB y 0 (u - 1)
    all_goals
      go_enter Tryz.func130, Tryz.ntmps130
      go_wp2_with (first
        | (go_at_call 149; refine (s1 _).mono ?_; rintro e w1 ⟨rfl, hb1⟩)
        | (go_at_call 52; refine (isWithin_any _ _ _ _).mono ?_; rintro e w' ⟨rfl, rfl⟩))
      all_goals (go_ret; exact ⟨ret_bool (by rw [hp.out, hx, hy]; rfl), by (repeat (first | exact Below.refl _ _ | assumption | refine Below.drew ?_ | refine bl_alloc ?_ _ | refine bl_then ?_ (by assumption) | refine Below.setCell ?_ (by first | omega | (simp; done) | (simp; omega)) _ | refine bl_store ?_ ?_ _ _))⟩)
theorem l4Centre_any (z x y : Int) (w : World) (h : pixB z x y = true) : Calls Tryz.prog 77 #[.int .i64 z, .int .i64 x, .int .i64 y] w fun e w' => e = .returned (.agg #[.int .i64 (centI z x), .int .i64 (centI z y)]) ∧ Below w.heap.size w w' := by
  have hz := pixB_zoom h
  have hb := pixB_in h
  have s1 := fun w => l3Unit_any z w hz
  clear h
  unfold centI
  rcases zoomB_cases hz with rfl | rfl | rfl | rfl
  all_goals
    simp only [show unitI 0 = 128 from rfl, show unitI 1 = 64 from rfl, show unitI 2 = 32 from rfl, show unitI 3 = 16 from rfl, show pixI 0 = 8 from rfl, show pixI 1 = 16 from rfl, show pixI 2 = 32 from rfl, show pixI 3 = 64 from rfl] at *
    obtain ⟨⟨x0, x1⟩, y0, y1⟩ := hb
    go_enter Tryz.func77, Tryz.ntmps77
    go_wp2_with (go_at_call 110; refine (s1 _).mono ?_; rintro e w1 ⟨rfl, rfl⟩)
    exact bodyPost_ret (v := .agg #[.int .i64 _, .int .i64 _]) (by simp [results, Tryz.results77, go_sem]) rfl ⟨rfl, by (repeat (first | exact Below.refl _ _ | assumption | refine Below.drew ?_ | refine bl_alloc ?_ _ | refine bl_then ?_ (by assumption) | refine Below.setCell ?_ (by first | omega | (simp; done) | (simp; omega)) _ | refine bl_store ?_ ?_ _ _))⟩
end Go.Proofs.YthadmnhpjklmiaaGreat
/- Refs: what is wrong of one, its parent, the one of a pixel: the program and the model. -/

namespace Go.Proofs.YthadmnhpjklmiaaGreat
open Go.RowKit
set_option linter.unusedSimpArgs false
set_option linter.unusedVariables false
set_option maxRecDepth 100000

/-- The greatest X and Y of a ref. -/
def lastI (z : Int) : Int := if z = 0 then 0 else if z = 1 then 1 else if z = 2 then 3 else 7
/-- A ref without a fault. -/
def refB (z x y : Int) : Bool := zoomB z && (inB x 0 (lastI z) && inB y 0 (lastI z))
def refC (z x y : Int) : Int := if refB z x y = true then 0 else 3
theorem refC_cases (z x y : Int) : (refC z x y = 0 ∧ refB z x y = true) ∨ (refC z x y = 3 ∧ refB z x y = false) := by
  unfold refC
  cases h : refB z x y <;> simp
theorem refB_zoom {z x y : Int} (h : refB z x y = true) : z = 0 ∨ z = 1 ∨ z = 2 ∨ z = 3 := by
  simp [refB] at h
  exact zoomB_cases h.1
theorem refB_in {z x y : Int} (h : refB z x y = true) : (0 ≤ x ∧ x ≤ lastI z) ∧ (0 ≤ y ∧ y ≤ lastI z) := by
  simp [refB, inB] at h
  exact h.2
theorem lastI_le (z : Int) : lastI z ≤ 7 := by unfold lastI; split; omega; split; omega; split <;> omega
theorem ref_bd {z x y : Int} (h : refB z x y = true) : (0 ≤ z ∧ z ≤ 3) ∧ (0 ≤ x ∧ x ≤ 7) ∧ (0 ≤ y ∧ y ≤ 7) := by
  have h1 := refB_in h
  have h2 := lastI_le z
  refine ⟨?_, ⟨h1.1.1, by omega⟩, h1.2.1, by omega⟩
  rcases refB_zoom h with rfl | rfl | rfl | rfl <;> omega

theorem refFault_any (z x y : Int) (w : World) : Calls Tryz.prog 25 #[.agg #[.int .i64 z, .int .i64 x, .int .i64 y]] w fun e w' => e = .returned (.int .i64 (refC z x y)) ∧ Below w.heap.size w w' := by
  cases h : zoomB z
  · have hk : Hid (refC z x y = 3) := by show _ = _; simp [refC, refB, h]
    go_enter Tryz.func25, Tryz.ntmps25
    go_wp2_with (first | (go_at_call 51; refine (isZoom_any _ _).mono ?_; rintro e w' ⟨rfl, rfl⟩) | (go_at_call 52; refine (isWithin_any _ _ _ _).mono ?_; rintro e w' ⟨rfl, rfl⟩))
    go_ret
    exact ⟨ret_int hk.out.symm, by (repeat (first | exact Below.refl _ _ | assumption | refine Below.drew ?_ | refine bl_alloc ?_ _ | refine bl_then ?_ (by assumption) | refine Below.setCell ?_ (by first | omega | (simp; done) | (simp; omega)) _ | refine bl_store ?_ ?_ _ _))⟩
  · have hk : Hid (refC z x y = if (inB x 0 (lastI z) && inB y 0 (lastI z)) = true then 0 else 3) := by show _ = _; simp [refC, refB, h]
    rcases zoomB_cases h with rfl | rfl | rfl | rfl
    · simp only [show lastI 0 = 0 from rfl] at hk
      cases hx : inB x 0 0 <;> cases hy : inB y 0 0
      all_goals
        rw [hx, hy] at hk
        go_enter Tryz.func25, Tryz.ntmps25
        go_wp2_with (first | (go_at_call 51; refine (isZoom_any _ _).mono ?_; rintro e w' ⟨rfl, rfl⟩) | (go_at_call 52; refine (isWithin_any _ _ _ _).mono ?_; rintro e w' ⟨rfl, rfl⟩))
        all_goals (go_ret; exact ⟨ret_int (by rw [hk.out]; rfl), by (repeat (first | exact Below.refl _ _ | assumption | refine Below.drew ?_ | refine bl_alloc ?_ _ | refine bl_then ?_ (by assumption) | refine Below.setCell ?_ (by first | omega | (simp; done) | (simp; omega)) _ | refine bl_store ?_ ?_ _ _))⟩)
    · simp only [show lastI 1 = 1 from rfl] at hk
      cases hx : inB x 0 1 <;> cases hy : inB y 0 1
      all_goals
        rw [hx, hy] at hk
        go_enter Tryz.func25, Tryz.ntmps25
        go_wp2_with (first | (go_at_call 51; refine (isZoom_any _ _).mono ?_; rintro e w' ⟨rfl, rfl⟩) | (go_at_call 52; refine (isWithin_any _ _ _ _).mono ?_; rintro e w' ⟨rfl, rfl⟩))
        all_goals (go_ret; exact ⟨ret_int (by rw [hk.out]; rfl), by (repeat (first | exact Below.refl _ _ | assumption | refine Below.drew ?_ | refine bl_alloc ?_ _ | refine bl_then ?_ (by assumption) | refine Below.setCell ?_ (by first | omega | (simp; done) | (simp; omega)) _ | refine bl_store ?_ ?_ _ _))⟩)
    · simp only [show lastI 2 = 3 from rfl] at hk
      cases hx : inB x 0 3 <;> cases hy : inB y 0 3
      all_goals
        rw [hx, hy] at hk
        go_enter Tryz.func25, Tryz.ntmps25
        go_wp2_with (first | (go_at_call 51; refine (isZoom_any _ _).mono ?_; rintro e w' ⟨rfl, rfl⟩) | (go_at_call 52; refine (isWithin_any _ _ _ _).mono ?_; rintro e w' ⟨rfl, rfl⟩))
        all_goals (go_ret; exact ⟨ret_int (by rw [hk.out]; rfl), by (repeat (first | exact Below.refl _ _ | assumption | refine Below.drew ?_ | refine bl_alloc ?_ _ | refine bl_then ?_ (by assumption) | refine Below.setCell ?_ (by first | omega | (simp; done) | (simp; omega)) _ | refine bl_store ?_ ?_ _ _))⟩)
    · simp only [show lastI 3 = 7 from rfl] at hk
      cases hx : inB x 0 7 <;> cases hy : inB y 0 7
      all_goals
        rw [hx, hy] at hk
        go_enter Tryz.func25, Tryz.ntmps25
        go_wp2_with (first | (go_at_call 51; refine (isZoom_any _ _).mono ?_; rintro e w' ⟨rfl, rfl⟩) | (go_at_call 52; refine (isWithin_any _ _ _ _).mono ?_; rintro e w' ⟨rfl, rfl⟩))
        all_goals (go_ret; exact ⟨ret_int (by rw [hk.out]; rfl), by (repeat (first | exact Below.refl _ _ | assumption | refine Below.drew ?_ | refine bl_alloc ?_ _ | refine bl_then ?_ (by assumption) | refine Below.setCell ?_ (by first | omega | (simp; done) | (simp; omega)) _ | refine bl_store ?_ ?_ _ _))⟩)
theorem l7Fault_any (z x y : Int) (w : World) : Calls Tryz.prog 21 #[.agg #[.int .i64 z, .int .i64 x, .int .i64 y]] w fun e w' => e = .returned (.int .i64 (refC z x y)) ∧ Below w.heap.size w w' := by
  cases h : zoomB z
  · have hk : Hid (refC z x y = 3) := by show _ = _; simp [refC, refB, h]
    go_enter Tryz.func21, Tryz.ntmps21
    go_wp2_with (first | (go_at_call 42; refine (l3Zoom_any _ _).mono ?_; rintro e w' ⟨rfl, rfl⟩) | (go_at_call 43; refine (l1In_any _ _ _ _).mono ?_; rintro e w' ⟨rfl, rfl⟩))
    go_ret
    exact ⟨ret_int hk.out.symm, by (repeat (first | exact Below.refl _ _ | assumption | refine Below.drew ?_ | refine bl_alloc ?_ _ | refine bl_then ?_ (by assumption) | refine Below.setCell ?_ (by first | omega | (simp; done) | (simp; omega)) _ | refine bl_store ?_ ?_ _ _))⟩
  · have hk : Hid (refC z x y = if (inB x 0 (lastI z) && inB y 0 (lastI z)) = true then 0 else 3) := by show _ = _; simp [refC, refB, h]
    rcases zoomB_cases h with rfl | rfl | rfl | rfl
    · simp only [show lastI 0 = 0 from rfl] at hk
      cases hx : inB x 0 0 <;> cases hy : inB y 0 0
      all_goals
        rw [hx, hy] at hk
        go_enter Tryz.func21, Tryz.ntmps21
        go_wp2_with (first | (go_at_call 42; refine (l3Zoom_any _ _).mono ?_; rintro e w' ⟨rfl, rfl⟩) | (go_at_call 43; refine (l1In_any _ _ _ _).mono ?_; rintro e w' ⟨rfl, rfl⟩))
        all_goals (go_ret; exact ⟨ret_int (by rw [hk.out]; rfl), by (repeat (first | exact Below.refl _ _ | assumption | refine Below.drew ?_ | refine bl_alloc ?_ _ | refine bl_then ?_ (by assumption) | refine Below.setCell ?_ (by first | omega | (simp; done) | (simp; omega)) _ | refine bl_store ?_ ?_ _ _))⟩)
    · simp only [show lastI 1 = 1 from rfl] at hk
      cases hx : inB x 0 1 <;> cases hy : inB y 0 1
      all_goals
        rw [hx, hy] at hk
        go_enter Tryz.func21, Tryz.ntmps21
        go_wp2_with (first | (go_at_call 42; refine (l3Zoom_any _ _).mono ?_; rintro e w' ⟨rfl, rfl⟩) | (go_at_call 43; refine (l1In_any _ _ _ _).mono ?_; rintro e w' ⟨rfl, rfl⟩))
        all_goals (go_ret; exact ⟨ret_int (by rw [hk.out]; rfl), by (repeat (first | exact Below.refl _ _ | assumption | refine Below.drew ?_ | refine bl_alloc ?_ _ | refine bl_then ?_ (by assumption) | refine Below.setCell ?_ (by first | omega | (simp; done) | (simp; omega)) _ | refine bl_store ?_ ?_ _ _))⟩)
    · simp only [show lastI 2 = 3 from rfl] at hk
      cases hx : inB x 0 3 <;> cases hy : inB y 0 3
      all_goals
        rw [hx, hy] at hk
        go_enter Tryz.func21, Tryz.ntmps21
        go_wp2_with (first | (go_at_call 42; refine (l3Zoom_any _ _).mono ?_; rintro e w' ⟨rfl, rfl⟩) | (go_at_call 43; refine (l1In_any _ _ _ _).mono ?_; rintro e w' ⟨rfl, rfl⟩))
        all_goals (go_ret; exact ⟨ret_int (by rw [hk.out]; rfl), by (repeat (first | exact Below.refl _ _ | assumption | refine Below.drew ?_ | refine bl_alloc ?_ _ | refine bl_then ?_ (by assumption) | refine Below.setCell ?_ (by first | omega | (simp; done) | (simp; omega)) _ | refine bl_store ?_ ?_ _ _))⟩)
    · simp only [show lastI 3 = 7 from rfl] at hk
      cases hx : inB x 0 7 <;> cases hy : inB y 0 7
      all_goals
        rw [hx, hy] at hk
        go_enter Tryz.func21, Tryz.ntmps21
        go_wp2_with (first | (go_at_call 42; refine (l3Zoom_any _ _).mono ?_; rintro e w' ⟨rfl, rfl⟩) | (go_at_call 43; refine (l1In_any _ _ _ _).mono ?_; rintro e w' ⟨rfl, rfl⟩))
        all_goals (go_ret; exact ⟨ret_int (by rw [hk.out]; rfl), by (repeat (first | exact Below.refl _ _ | assumption | refine Below.drew ?_ | refine bl_alloc ?_ _ | refine bl_then ?_ (by assumption) | refine Below.setCell ?_ (by first | omega | (simp; done) | (simp; omega)) _ | refine bl_store ?_ ?_ _ _))⟩)
/-- A ref as a value. -/
abbrev refV (z x y : Int) : Value := .agg #[.int .i64 z, .int .i64 x, .int .i64 y]
/-- An answer with a ref. -/
abbrev rrV (c z x y : Int) : Value := .agg #[.int .i64 c, .int .i64 z, .int .i64 x, .int .i64 y]
/-- The answer of ParentOf. -/
def parV (z x y : Int) : Value := if refB z x y = true then (if z = 0 then rrV 4 0 0 0 else rrV 0 (z - 1) (x / 2) (y / 2)) else rrV 3 0 0 0
/-- The answer of RefAt. -/
def atV (z x y : Int) : Value := if pixB z x y = true then rrV 0 z (x / 8) (y / 8) else rrV 3 0 0 0
end Go.Proofs.YthadmnhpjklmiaaGreat
