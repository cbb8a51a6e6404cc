/- Several texts in one. -/
import Derived.Test.YtdohlnnbibnnbaaGreatVPlaceLabels14
import Derived.Test.YtdohlnnbibnnbaaGreatVPlaceLabels31
import Derived.Test.YtdohlnnbibnnbaaGreatVPlaceLabels36
import Derived.Test.YtdohlnnbibnnbaaGreatRows
import Derived.WalkKit
import Derived.Below
import Derived.ProofKit
import Derived.OpenShut
import Derived.ChangeOld
import Derived.Deep.SlicePairs
import Derived.Test.YtdohlnnbibnnbaaGreatVPlaceLabels2
import Derived.ChangeMaps5

/- Features in order, simple at a zoom: the model. -/

namespace Go.Proofs.YtdohlnnbibnnbaaGreat
open Go.RowKit
set_option linter.unusedSimpArgs false
set_option linter.unusedVariables false
set_option maxRecDepth 100000

/-- Which points of a line stay. -/
theorem thin_exL (X Y : Nat → Int) (z : Int) (n : Nat) : ∃ L, 3 ≤ (snapL X Y z n).length → Thin (px (snapL X Y z n)) (py (snapL X Y z n)) (gridI z) 0 ((snapL X Y z n).length - 1) L := by
  by_cases h3 : 3 ≤ (snapL X Y z n).length
  · obtain ⟨L, hL⟩ := Thin.exists (px (snapL X Y z n)) (py (snapL X Y z n)) (gridI z) ((snapL X Y z n).length - 1) 0 ((snapL X Y z n).length - 1) (by omega) (by omega)
    exact ⟨L, fun _ => hL⟩
  · exact ⟨[], fun h => absurd h h3⟩
noncomputable def thinOf (z : Int) (f : Feat) : List Nat := Classical.choose (thin_exL f.X f.Y z f.n)
theorem thinOf_spec (z : Int) (f : Feat) : 3 ≤ (snapL f.X f.Y z f.n).length → Thin (px (snapL f.X f.Y z f.n)) (py (snapL f.X f.Y z f.n)) (gridI z) 0 ((snapL f.X f.Y z f.n).length - 1) (thinOf z f) := Classical.choose_spec (thin_exL f.X f.Y z f.n)
/-- The points of a feature at a zoom. -/
noncomputable def simL (z : Int) (f : Feat) : List (Int × Int) := simpR 0 f.ki z f.n f.X f.Y (thinOf z f)
/-- t is f with its points at a zoom. -/
def simOf (z : Int) (f t : Feat) : Prop := t.id = f.id ∧ t.la = f.la ∧ t.ki = f.ki ∧ t.wi = f.wi ∧ t.n = (simL z f).length ∧ t.X = px (simL z f) ∧ t.Y = py (simL z f) ∧ t.lab = f.lab ∧ t.pr = f.pr
abbrev okC (f : Feat) : Prop := featC f.id f.la f.ki f.wi f.n f.X f.Y f.lab f.pr = 0
theorem simL_facts {z : Int} {f : Feat} (h : okC f) (hz : zoomB z = true) : kindN f.ki (simL z f).length ∧ (simL z f).length ≤ 12 ∧ allW (simL z f) ∧ 0 < (simL z f).length := by
  obtain ⟨h1, h2, h3⟩ := simpR_facts h hz (thinOf_spec z f)
  exact ⟨h1, h2, h3, by show 0 < (simpR 0 f.ki z f.n f.X f.Y (thinOf z f)).length; rcases h1 with ⟨_, h⟩ | ⟨_, h⟩ | ⟨_, h⟩ <;> omega⟩
theorem simL_same {z : Int} {f g : Feat} (h : f.same g) : simL z f = simL z g := by
  obtain ⟨h1, h2, h3, h4, h5, h6, h7, h8, h9⟩ := h
  unfold simL thinOf
  rw [h3]
  congr 1
  all_goals first | rw [h5, h6, h7] | skip
  all_goals first | rfl | simp only [h5, h6, h7]
theorem Row.keptA {base base' : Nat} {w w' : World} {u v : Value} {l : List (Int × Int)} {H : Nat → Feat} {m : List Nat} (h : Row base w u l) (h' : FRow base' w v H m) (hg : w.grownBy w' v.ownBlock) : Row base w' u l := by
  refine World.ownsRow.kept h hg ?_
  cases hu : u.ownBlock with
  | none => exact .inl rfl
  | some g =>
    right
    intro e
    obtain ⟨c1, h1⟩ := heap_of_row h g hu
    obtain ⟨c2, h2⟩ := heap_of_row h' g e.symm
    rw [h1] at h2
    injection h2 with h2
    injection h2 with _ h2
    exact absurd h2 (by decide)
/-- v is a row of its own of features at a zoom, each with points of its own. -/
def SfRow (base : Nat) (w : World) (v : Value) (k : Nat) (z : Int) (H T : Nat → Feat) : Prop :=
  FRow base w v T (List.range k) ∧ (∀ i, i < k → simOf z (H i) (T i) ∧ Row base w (.slice (T i).a (T i).n (T i).cap) (simL z (H i))) ∧ ∀ i j, i < k → j < k → (T i).a = (T j).a → i = j
theorem SfRow.below {base k : Nat} {w w' : World} {v : Value} {z : Int} {H T : Nat → Feat} (h : SfRow base w v k z H T) (hb : Below w.heap.size w w') : SfRow base w' v k z H T :=
  ⟨h.1.below hb, fun i hi => ⟨(h.2.1 i hi).1, (h.2.1 i hi).2.below hb⟩, h.2.2⟩
/-- One more behind the others. -/
theorem SfRow.app {base k : Nat} {w w' : World} {v v' : Value} {z : Int} {H T : Nat → Feat} {t : Feat} (h : SfRow base w v k z H T) (hs : simOf z (H k) t) (hR : Row base w (.slice t.a t.n t.cap) (simL z (H k)))
    (hown : w'.ownsRow base 36 7 v' (k + 1) (cellsF T (List.range k) ++ fcell t)) (hg : w.grownBy w' v.ownBlock) (hfr : ∀ i, i < k → (T i).a ≠ t.a) : SfRow base w' v' (k + 1) z H (fun i => if i = k then t else T i) := by
  refine ⟨?_, fun i hi => ?_, fun i j hi hj hij => ?_⟩
  · unfold FRow
    have e1 : cellsF (fun i => if i = k then t else T i) (List.range (k + 1)) = cellsF T (List.range k) ++ fcell t := by
      rw [List.range_succ, cellsF_app, cellsF_one, if_pos rfl]
      rw [cellsF_congr (H' := T) (List.range k) (fun j hj => by rw [if_neg]; have := List.mem_range.1 hj; omega)]
    rw [e1, List.length_range]
    exact hown
  · by_cases e : i = k
    · subst e
      simp only [↓reduceIte]
      exact ⟨hs, hR.keptA h.1 hg⟩
    · simp only [if_neg e]
      exact ⟨(h.2.1 i (by omega)).1, (h.2.1 i (by omega)).2.keptA h.1 hg⟩
  · by_cases e1 : i = k <;> by_cases e2 : j = k
    · omega
    · simp only [if_pos e1, if_neg e2] at hij
      exact absurd hij.symm (hfr j (by omega))
    · simp only [if_neg e1, if_pos e2] at hij
      exact absurd hij (hfr i (by omega))
    · simp only [if_neg e1, if_neg e2] at hij
      exact h.2.2 i j (by omega) (by omega) hij
theorem SfRow.fs {base k g c : Nat} {w : World} {z : Int} {H T : Nat → Feat} (h : SfRow base w (.slice (some ⟨g, 0, none⟩) k c) k z H T) : g < w.heap.size ∧ k ≤ c ∧ FsAt w g 0 k T := by
  have hp : ∀ j, j < k → IsPts w (T j).a (T j).n (T j).X (T j).Y := fun j hj => by
    obtain ⟨⟨_, _, _, _, e5, e6, e7, _, _⟩, hR⟩ := h.2.1 j hj
    obtain ⟨a', c', hv, _, hI⟩ := hR.own.pts
    injection hv with i1 i2 i3
    rw [e6, e7, e5, i1]
    exact hI
  rcases h.1.at with ⟨hv, hl⟩ | ⟨g', c', hv, hg', hgl, hc', _, hF⟩
  · cases hv
  · injection hv with e1 e2 e3
    injection e1 with e1
    injection e1 with e1
    subst e1
    rw [List.length_range] at hc' hF
    refine ⟨hgl, by omega, fun i hi => ⟨?_, hp i hi⟩⟩
    have hF' := hF i hi
    have er : (List.range k).getD i 0 = i := by simp [List.getD, hi]
    rw [er] at hF'
    rw [Nat.zero_add]
    exact hF'
set_option maxHeartbeats 8000000 in
theorem l4All_any (b n cap : Nat) (G : Nat → Feat) (z : Int) (w : World) (hg : FsAt w b 0 n G) (hbl : b < w.heap.size) (hs : SmallFs n G) (hf : featsC n G = 0) (hz : zoomB z = true) :
    Calls Tryz.prog 33 #[.slice (some ⟨b, 0, none⟩) n cap, .int .i64 z] w fun e w' => ∃ g c T, e = .returned (.slice (some ⟨g, 0, none⟩) n c) ∧ w.heap.size ≤ g ∧ g < w'.heap.size ∧ FsAt w' g 0 n T ∧ (∀ i, i < n → simOf z (G ((srtF n G).getD i 0)) (T i)) ∧ (∀ i, i < n → ∀ q o, (T i).a = some ⟨q, o, none⟩ → w.heap.size ≤ q) ∧ Below w.heap.size w w' := by
  obtain ⟨i0, hi, hz0, hz1, hz2⟩ := info_parts info_if
  obtain ⟨hn12, _, hokG⟩ := featsC_ok hf
  have hlen : (srtF n G).length = n := srtK_len _ _ _
  have HLS := (show Hid _ from l2Sort_any b n cap G w hg hbl hn12 (fun i hi => (featC_zero (hokG i hi)).2.1) hs)
  have HOK : Hid (∀ i, i < n → okC (G ((srtF n G).getD i 0))) := fun i hi => hokG _ (srtF_lt n G i hi)
  have HZ : Hid (zoomB z = true) := hz
  clear hg hs hf hokG hz
  go_enter Tryz.func33, Tryz.ntmps33
  go_wp2_with fail
  refine Calls.mono HLS.out ?_
  rintro e w1 ⟨v1, H1, rfl, hF1, hC1, hb1⟩
  have hpts : ∀ j ∈ srtF n G, IsPts w1 (H1 j).a (H1 j).n (H1 j).X (H1 j).Y := fun j hj => by
    have hjn : j < n := by
      obtain ⟨i, hi, e⟩ := List.getElem_of_mem hj
      have := srtF_lt n G i (by omega)
      rw [List.getD_eq_getElem?_getD, List.getElem?_eq_getElem hi] at this
      simp at this
      omega
    obtain ⟨⟨_, _, _, _, e5, e6, e7, _, _⟩, hR⟩ := hC1.1 j hjn
    obtain ⟨a', c', hv, _, hI⟩ := hR.own.pts
    injection hv with i1 i2 i3
    rw [i1]
    have hl : (ptsOf (G j).X (G j).Y (List.range (G j).n)).length = (G j).n := by simp [ptsOf]
    rw [hl] at hI
    have eX : ∀ i, i < (G j).n → px (ptsOf (G j).X (G j).Y (List.range (G j).n)) i = (G j).X i ∧ py (ptsOf (G j).X (G j).Y (List.range (G j).n)) i = (G j).Y i := fun i hi => by simp [px, py, ptsOf, List.getD_eq_getElem?_getD, hi]
    rw [e5, e6, e7]
    rcases hI with h0 | ⟨q, o, ea, hl', hp⟩
    · exact .inl h0
    · refine .inr ⟨q, o, ea, hl', fun i hi => ?_⟩
      have := hp i hi
      rw [(eX i hi).1, (eX i hi).2] at this
      exact this
  obtain ⟨a1, c1, hv1, hc1, hI1⟩ := hF1.is hpts
  rw [hlen] at hv1 hc1 hI1
  subst hv1
  have HI1 : Hid (IsFs w1 a1 n (fun i => H1 ((srtF n G).getD i 0))) := hI1
  have HSM : Hid (∀ i, i < n → (H1 ((srtF n G).getD i 0)).same (G ((srtF n G).getD i 0))) := fun i hi => (hC1.1 _ (srtF_lt n G i hi)).1
  have HB1 : Hid (Below w.heap.size w w1) := hb1
  clear hF1 hC1 hb1 hpts hI1 HLS
  obtain ⟨H2, hH2⟩ : ∃ H2 : Nat → Feat, H2 = fun i => H1 ((srtF n G).getD i 0) := ⟨_, rfl⟩
  obtain ⟨K2, hK2⟩ : ∃ K2 : Nat → Feat, K2 = fun i => G ((srtF n G).getD i 0) := ⟨_, rfl⟩
  have HSM2 : Hid (∀ i, i < n → (H2 i).same (K2 i)) := by rw [hH2, hK2]; exact HSM.out
  have HOK2 : Hid (∀ i, i < n → okC (K2 i)) := by rw [hK2]; exact HOK.out
  have HPOST : Hid (∀ (T : Nat → Feat), (∀ i, i < n → simOf z (K2 i) (T i)) → ∀ i, i < n → simOf z (G ((srtF n G).getD i 0)) (T i)) := by rw [hK2]; exact fun T h => h
  rw [← hH2] at HI1
  clear hH2 hK2 HSM HOK
  go_wp2_with fail
  generalize hV : (w1.alloc _ : World) = V
  have hbV : Below w1.heap.size w1 V := by subst hV; (repeat (first | exact Below.refl _ _ | assumption | refine Below.drew ?_ | refine bl_alloc ?_ _ | refine bl_then ?_ (by assumption) | refine Below.setCell ?_ (by first | omega | (simp; done) | (simp; omega)) _ | refine bl_store ?_ ?_ _ _))
  have HO0 : Hid (SfRow w1.heap.size V (.slice (some ⟨w1.heap.size, 0, none⟩) 0 0) 0 z K2 K2) := by
    refine ⟨?_, fun i hi => absurd hi (Nat.not_lt_zero _), fun i j hi => absurd hi (Nat.not_lt_zero _)⟩
    subst hV
    exact World.ownsRow_lit (base := w1.heap.size) w1 #[] 0 (Nat.le_refl _) (Nat.zero_le _) rfl
  have HBV : Hid (Below w1.heap.size w1 V) := hbV
  clear hV hbV
  go_loopw [6, 7] (fun v i wr => ∃ (k g c : Nat) (T : Nat → Feat), k ≤ n ∧ i = .int .i64 (k : Int) ∧ v = .slice (some ⟨g, 0, none⟩) k c ∧ SfRow w1.heap.size wr v k z K2 T ∧ Below w1.heap.size w1 wr) (fun _ i _ => n - (intOf i).toNat)
  case atStart => exact ⟨0, w1.heap.size, 0, K2, by omega, rfl, rfl, HO0.out, HBV.out⟩
  case round =>
    obtain ⟨k, g, c, T, hk, rfl, rfl, hO, hB⟩ := hrel
    have HO : Hid (SfRow w1.heap.size wr (.slice (some ⟨g, 0, none⟩) k c) k z K2 T) := hO
    have HIr : Hid (IsFs wr a1 n H2) := HI1.out.below hB
    have HB : Hid (Below w1.heap.size w1 wr) := hB
    clear hO hB
    by_cases hlt : k < n
    · rcases HIr.out with h0 | ⟨b1, o1, rfl, hbl1, hFs⟩
      · omega
      have hok := HOK2.out k hlt
      obtain ⟨s1, s2, s3, s4, s5, s6, s7, s8, s9⟩ := HSM2.out k hlt
      have hok2 : okC (H2 k) := by unfold okC; rw [s1, s2, s3, s4, s5, s6, s7, s8, s9]; exact hok
      obtain ⟨hk3, hk0, hk12, _, hin, _⟩ := featC_zero hok2
      have hff := (hFs k hlt).1
      obtain ⟨q, o, ea, hql, hpt⟩ : ∃ q o, (H2 k).a = some ⟨q, o, none⟩ ∧ q < wr.heap.size ∧ PtsAt wr q o (H2 k).n (H2 k).X (H2 k).Y := by
        rcases (hFs k hlt).2 with h' | ⟨q, o, e, hl, hp⟩
        · omega
        · exact ⟨q, o, e, hl, hp⟩
      rw [ea] at hff
      have HS3 := (show Hid _ from l3Simple_any b1 (H2 k).id (H2 k).la (H2 k).ki (H2 k).wi z q (H2 k).n (H2 k).cap (H2 k).X (H2 k).Y (H2 k).lab (H2 k).pr (thinOf z (H2 k)) wr hff hpt hql HZ.out hk3 hk0 hk12 hin (thinOf_spec z (H2 k)))
      rw [← show simpR 0 (H2 k).ki z (H2 k).n (H2 k).X (H2 k).Y (thinOf z (H2 k)) = fillL (H2 k).ki.toNat (simpT (H2 k).ki z (H2 k).n (H2 k).X (H2 k).Y (thinOf z (H2 k))) by rw [simpR, if_pos rfl]] at HS3
      have eS : simpR 0 (H2 k).ki z (H2 k).n (H2 k).X (H2 k).Y (thinOf z (H2 k)) = simL z (K2 k) := simL_same (HSM2.out k hlt)
      rw [eS] at HS3
      have HSF : Hid (0 < (simL z (K2 k)).length ∧ (simL z (K2 k)).length ≤ 12) := ⟨(simL_facts hok HZ.out).2.2.2, (simL_facts hok HZ.out).2.1⟩
      have HSN : Hid ((H2 k).id = (K2 k).id ∧ (H2 k).la = (K2 k).la ∧ (H2 k).ki = (K2 k).ki ∧ (H2 k).wi = (K2 k).wi ∧ (H2 k).lab = (K2 k).lab ∧ (H2 k).pr = (K2 k).pr) := ⟨s1, s2, s3, s4, s8, s9⟩
      have hi1 : (k : Int) < (n : Int) := by omega
      have hi0 : (0 : Int) ≤ (k : Int) := by omega
      clear hff hpt hFs hok hok2 hk3 hk0 hk12 hin s1 s2 s3 s4 s5 s6 s7 s8 s9 eS ea
      go_wp2_with fail
      refine Calls.mono HS3.out ?_
      rintro e w2 ⟨v2, rfl, hR2, hb2⟩
      obtain ⟨g2, c2, hv2, hg2, hg2l, hc2, hP2⟩ := hR2.at HSF.out.1
      subst hv2
      generalize hLn : (simL z (K2 k)).length = N at *
      have HR2 : Hid (Row wr.heap.size w2 (.slice (some ⟨g2, 0, none⟩) N c2) (simL z (K2 k))) := hR2
      have HO2 : Hid (SfRow w1.heap.size w2 (.slice (some ⟨g, 0, none⟩) k c) k z K2 T) := HO.out.below hb2
      have HB2 : Hid (Below w1.heap.size w1 w2) := bl_then HB.out hb2
      have hwr2 := HB.out.size
      have HFR : Hid (∀ i, i < k → (T i).a ≠ some ⟨g2, 0, none⟩) := fun i hi e => by have := (World.ownsRow.lt (HO.out.2.1 i hi).2 g2 (by rw [e]; rfl)).2; omega
      clear hR2 hb2 hP2 HS3
      go_wp2_with (first
        | (at_builtin; go_must (refine wpList_append_own _ rfl _ _ 24 rfl w1.heap.size 36 i0 (.agg #[.int .i64 0, .int .i64 0, .int .i64 0, .int .i64 0, .slice none 0 0, .string ⟨#[]⟩, .int .i64 0]) 7 80 Tryz.underlying24 hi hz0 hz1 hz2 rfl (by decide) (.slice (some ⟨g, 0, none⟩) k c) k (cellsF T (List.range k)) rfl ?c6 ⟨w2.heap.size, 0, none⟩ 1 1 (fcell ⟨(H2 k).id, (H2 k).la, (H2 k).ki, (H2 k).wi, some ⟨g2, 0, none⟩, N, c2, px (simL z (K2 k)), py (simL z (K2 k)), (H2 k).lab, (H2 k).pr⟩) rfl ?c0 ?c1 ?c2 ?c3 ?c4 ?c5 ?_)))
      case c6 =>
        have := HO2.out.1.below ((Below.refl w2.heap.size w2).alloc (Nat.le_refl _) (.cells #[.int .i64 (H2 k).id, .int .i64 (H2 k).la, .int .i64 (H2 k).ki, .int .i64 (H2 k).wi, .slice (some ⟨g2, 0, none⟩) N c2, .string (H2 k).lab, .int .i64 (H2 k).pr] 36))
        unfold FRow at this
        rw [List.length_range] at this
        exact this
      case c0 => rfl
      case c1 =>
        intro q u hq
        have hq7 : q < 7 := (List.getElem?_eq_some_iff.1 hq).1
        have hc : q = 0 ∨ q = 1 ∨ q = 2 ∨ q = 3 ∨ q = 4 ∨ q = 5 ∨ q = 6 := by omega
        rcases hc with rfl | rfl | rfl | rfl | rfl | rfl | rfl <;> (simp [fcell] at hq; subst hq; simp [Addr.add, go_sem])
      case c2 => exact fcell_one _
      case c3 => unfold maxLen; omega
      case c4 => omega
      case c5 => have := HB2.out.size; simp; omega
      intro v' w4 hown' hgrow hnil
      obtain ⟨g4, c4, hv4⟩ : ∃ g4 c4, v' = .slice (some ⟨g4, 0, none⟩) (k + 1) c4 := by
        obtain ⟨_, h2 | ⟨g', cp, cur, hv, _⟩⟩ := hown'
        · first | exact absurd h2.1 hnil | (have := hnil.1 h2.1; simp at this)
        · exact ⟨g', cp, hv⟩
      subst hv4
      have hbA : Below w2.heap.size w2 (w2.alloc (.cells #[.int .i64 (H2 k).id, .int .i64 (H2 k).la, .int .i64 (H2 k).ki, .int .i64 (H2 k).wi, .slice (some ⟨g2, 0, none⟩) N c2, .string (H2 k).lab, .int .i64 (H2 k).pr] 36)) := (Below.refl w2.heap.size w2).alloc (Nat.le_refl _) _
      have hOA := HO2.out.below hbA
      have HF4 := (show Hid (SfRow w1.heap.size w4 (.slice (some ⟨g4, 0, none⟩) (k + 1) c4) (k + 1) z K2 (fun i => if i = k then ⟨(H2 k).id, (H2 k).la, (H2 k).ki, (H2 k).wi, some ⟨g2, 0, none⟩, N, c2, px (simL z (K2 k)), py (simL z (K2 k)), (H2 k).lab, (H2 k).pr⟩ else T i)) from
        SfRow.app hOA ⟨HSN.out.1, HSN.out.2.1, HSN.out.2.2.1, HSN.out.2.2.2.1, hLn.symm, rfl, rfl, HSN.out.2.2.2.2.1, HSN.out.2.2.2.2.2⟩ ((HR2.out.below hbA).wide hwr2) hown' hgrow HFR.out)
      have hBg := (Below.refl w1.heap.size (w2.alloc (.cells #[.int .i64 (H2 k).id, .int .i64 (H2 k).la, .int .i64 (H2 k).ki, .int .i64 (H2 k).wi, .slice (some ⟨g2, 0, none⟩) N c2, .string (H2 k).lab, .int .i64 (H2 k).pr] 36))).grown hgrow (by have := HB2.out.size; simp; omega) (fun q hq => (World.ownsRow.lt hOA.1 q hq).1)
      have HB4 : Hid (Below w1.heap.size w1 w4) := (bl_then HB2.out hbA).trans hBg
      clear hown' hgrow hnil hOA hBg hbA
      go_wp2
      go_roundw
      case rel => exact ⟨k + 1, g4, c4, _, by omega, by go_num, rfl, HF4.out, HB4.out⟩
      case measure => simp [intOf]; omega
    · obtain rfl : n = k := by omega
      have HQ := HO.out.fs
      have hgg : w.heap.size ≤ g := Nat.le_trans HB1.out.size (World.ownsRow.lt HO.out.1 g rfl).1
      have HS' : Hid (∀ i, i < n → simOf z (K2 i) (T i)) := fun i hi => (HO.out.2.1 i hi).1
      have HLO : Hid (∀ i, i < n → ∀ q o, (T i).a = some ⟨q, o, none⟩ → w.heap.size ≤ q) := fun i hi q o ea => Nat.le_trans HB1.out.size (World.ownsRow.lt (HO.out.2.1 i hi).2 q (by rw [ea]; rfl)).1
      go_wp2
      go_ret
      exact ⟨g, c, T, rfl, hgg, HQ.1, HQ.2.2, HPOST.out T HS'.out, HLO.out, bl_then HB1.out HB.out⟩
end Go.Proofs.YtdohlnnbibnnbaaGreat
/- The first of two or three numbers that is not 0. -/

namespace Go.Proofs.YtdohlnnbibnnbaaGreat
open Go.RowKit
set_option linter.unusedSimpArgs false
set_option linter.unusedVariables false
set_option maxRecDepth 100000

/-- The first of two that is not 0. -/
def or2 (x y : Int) : Int := if x = 0 then y else x
set_option maxHeartbeats 2000000 in
theorem cmpOr2_any (b c : Nat) (x y : Int) (w : World) (h0 : w.cell? ⟨b, 0, none⟩ = some (.int .i64 x)) (h1 : w.cell? ⟨b, 1, none⟩ = some (.int .i64 y)) :
    Calls Tryz.prog 25 #[.slice (some ⟨b, 0, none⟩) 2 c] w fun e w' => e = .returned (.int .i64 (or2 x y)) ∧ w' = w := by
  unfold or2
  by_cases hx : x = 0
  · subst hx
    by_cases hy : y = 0
    · subst hy
      go_enter Tryz.func25, Tryz.ntmps25
      go_wp2
      refine wp_loop_rounds 3 ?_
      rw [rounds_succ]
      go_wp2
      rw [rounds_succ]
      go_wp2
      rw [rounds_succ]
      go_wp2
      go_ret
      exact ⟨by simp, rfl⟩
    · have hy' : (y == 0) = false := by simpa using hy
      go_enter Tryz.func25, Tryz.ntmps25
      go_wp2
      refine wp_loop_rounds 2 ?_
      rw [rounds_succ]
      go_wp2
      rw [rounds_succ]
      go_wp2
      go_ret
      exact ⟨by simp, rfl⟩
  · have hx' : (x == 0) = false := by simpa using hx
    go_enter Tryz.func25, Tryz.ntmps25
    go_wp2
    refine wp_loop_rounds 1 ?_
    rw [rounds_succ]
    go_wp2
    go_ret
    exact ⟨by simp [hx], rfl⟩
end Go.Proofs.YtdohlnnbibnnbaaGreat
/- How a point, a box and a list of points that came in are read. -/

namespace Go.Proofs.YtdohlnnbibnnbaaGreat
open Go.ChangeShapes Go.WideShapes Go.ChangeAt Go.RowKit
set_option linter.unusedVariables false
set_option maxRecDepth 100000

theorem own : ownKnob Tryz.prog.godebug = none := by kernel_rfl
theorem laidOut : laidOutB Tryz.prog = true := by kernel_rfl
theorem cells_lp : Tryz.prog.cellsOf 154 = 2 := by kernel_rfl
theorem cells_i64 : Tryz.prog.cellsOf 2 = 1 := by kernel_rfl

end Go.Proofs.YtdohlnnbibnnbaaGreat
/- How a list of points that came in is read. -/

namespace Go.Proofs.YtdohlnnbibnnbaaGreat
open Go.ChangeShapes Go.WideShapes Go.ChangeAt Go.RowKit Go.Deep
set_option linter.unusedVariables false
set_option maxRecDepth 100000

end Go.Proofs.YtdohlnnbibnnbaaGreat
/- How a feature that came in is read. -/

namespace Go.Proofs.YtdohlnnbibnnbaaGreat
open Go.ChangeShapes Go.WideShapes Go.ChangeAt Go.RowKit Go.Deep
set_option linter.unusedVariables false
set_option maxRecDepth 100000

theorem trod_pts {H : Type} {enc : TypeId × Value → H} {w : World} {base fuel : Nat} {held : Bool} {cs : List Value} {y : DataW H × List MemPlace}
    (hf : DataW.trod enc Tryz.prog w base (fun _ => true) held fuel 79 cs = some y) :
    ∃ (a : Option Addr) (n cap : Nat) (X Y : Nat → Int), cs = [.slice a n cap] ∧ IsPts w a n X Y ∧ n ≤ cap ∧ cap ≤ maxLen := by
  rcases open_slice_pairs Tryz.underlying79 Tryz.underlying154 cells_lp rfl rfl cells_i64 cells_i64 hf with ⟨hcs, _⟩ | ⟨x, l, c, m, n, V0, V1, D0, D1, P0, P1, hcs, _, hl, hc, hm, _, hx⟩
  · exact ⟨none, 0, 0, fun _ => 0, fun _ => 0, hcs, .inl rfl, Nat.le_refl _, Nat.zero_le _⟩
  · simp at hm
    subst hm
    refine ⟨some x, l, _, fun i => intOf (V0 i), fun i => intOf (V1 i), hcs, ?_, hl, hc⟩
    by_cases h0 : l = 0
    · exact .inl h0
    · right
      obtain ⟨b, off, spot⟩ := x
      obtain ⟨e0, _, _, _⟩ := hx 0 (by omega)
      have hspot : spot = none := by simpa [Addr.add] using World.cell?_spot e0
      subst hspot
      refine ⟨b, off, rfl, ?_, fun i hi => ?_⟩
      · have := World.block_lt_of_cell? _ _ e0
        simpa [Addr.add] using this
      · obtain ⟨e0, e1, g0, g1⟩ := hx i (by omega)
        obtain ⟨n0, q0, _, _⟩ := DataW.trod_int Tryz.underlying2 g0
        obtain ⟨n1, q1, _, _⟩ := DataW.trod_int Tryz.underlying2 g1
        simp at q0 q1
        rw [q0] at e0
        rw [q1] at e1
        simp only [q0, q1, intOf]
        rw [add_plain] at e0 e1
        exact ⟨e0, by rw [Nat.add_assoc]; exact e1⟩
theorem cells_lf : Tryz.prog.cellsOf 81 = 7 := by kernel_rfl
theorem cells_ls : Tryz.prog.cellsOf 79 = 1 := by kernel_rfl
theorem cells_st : Tryz.prog.cellsOf 9 = 1 := by kernel_rfl

/-- Seven cells that read as a feature. -/
theorem trod_feat {H : Type} {enc : TypeId × Value → H} {w : World} {base fuel : Nat} {held : Bool} {cs : List Value} {y : DataW H × List MemPlace}
    (h : DataW.trod enc Tryz.prog w base (fun _ => true) held fuel 81 cs = some y) :
    ∃ (id la ki wi : Int) (a : Option Addr) (n cap : Nat) (X Y : Nat → Int) (lab : ByteArray) (pr : Int), cs = [.int .i64 id, .int .i64 la, .int .i64 ki, .int .i64 wi, .slice a n cap, .string lab, .int .i64 pr] ∧ IsPts w a n X Y ∧ n ≤ cap ∧ cap ≤ maxLen ∧ lab.size ≤ maxLen := by
  obtain ⟨xs, m, rfl, hx, hl, hxl, hf⟩ := DataW.trod_struct Tryz.underlying81 h
  rw [cells_lf] at hl
  have hxl7 : xs.length = 7 := hxl
  match cs, hl with
  | [v0, v1, v2, v3, v4, v5, v6], _ =>
    match xs, hxl7 with
    | [x0, x1, x2, x3, x4, x5, x6], _ =>
      have h0 := hf 0 _ rfl
      have h1 := hf 1 _ rfl
      have h2 := hf 2 _ rfl
      have h3 := hf 3 _ rfl
      have h4 := hf 4 _ rfl
      have h5 := hf 5 _ rfl
      have h6 := hf 6 _ rfl
      simp [cells_i64, cells_ls, cells_st] at h0 h1 h2 h3 h4 h5 h6
      obtain ⟨id, e0, _, _⟩ := DataW.trod_int Tryz.underlying2 h0
      obtain ⟨la, e1, _, _⟩ := DataW.trod_int Tryz.underlying2 h1
      obtain ⟨ki, e2, _, _⟩ := DataW.trod_int Tryz.underlying2 h2
      obtain ⟨wi, e3, _, _⟩ := DataW.trod_int Tryz.underlying2 h3
      obtain ⟨a, n, cap, X, Y, e4, hp, hn, hc⟩ := trod_pts h4
      obtain ⟨lab, e5, _, hs⟩ := DataW.trod_string Tryz.underlying9 h5
      obtain ⟨pr, e6, _, _⟩ := DataW.trod_int Tryz.underlying2 h6
      simp at e0 e1 e2 e3 e4 e5 e6
      subst e0 e1 e2 e3 e4 e5 e6
      exact ⟨id, la, ki, wi, a, n, cap, X, Y, lab, pr, rfl, hp, hn, hc, hs⟩

end Go.Proofs.YtdohlnnbibnnbaaGreat
