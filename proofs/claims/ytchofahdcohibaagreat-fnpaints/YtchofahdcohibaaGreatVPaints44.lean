/- Several texts in one. -/
import Derived.Test.YtchofahdcohibaaGreatVPaints30
import Derived.Test.YtchofahdcohibaaGreatVPaints40
import Derived.Test.YtchofahdcohibaaGreatVPaints43
import Derived.Test.YtchofahdcohibaaGreatVPaints27
import Derived.Test.YtchofahdcohibaaGreatVPaints28

/- Features in order, simple at a zoom: the model. -/

namespace Go.Proofs.YtchofahdcohibaaGreat
open Go.RowKit
set_option linter.unusedSimpArgs false
set_option linter.unusedVariables false
set_option maxRecDepth 100000

/-- Which points of a line stay. -/
theorem thin_exL (X Y : Nat → Int) (z : Int) (n : Nat) : ∃ L, 3 ≤ (snapL X Y z n).length → Thin (px (snapL X Y z n)) (py (snapL X Y z n)) (gridI z) 0 ((snapL X Y z n).length - 1) L := by
  by_cases h3 : 3 ≤ (snapL X Y z n).length
  · obtain ⟨L, hL⟩ := Thin.exists (px (snapL X Y z n)) (py (snapL X Y z n)) (gridI z) ((snapL X Y z n).length - 1) 0 ((snapL X Y z n).length - 1) (by omega) (by omega)
    exact ⟨L, fun _ => hL⟩
  · exact ⟨[], fun h => absurd h h3⟩
noncomputable def thinOf (z : Int) (f : Feat) : List Nat := Classical.choose (thin_exL f.X f.Y z f.n)
theorem thinOf_spec (z : Int) (f : Feat) : 3 ≤ (snapL f.X f.Y z f.n).length → Thin (px (snapL f.X f.Y z f.n)) (py (snapL f.X f.Y z f.n)) (gridI z) 0 ((snapL f.X f.Y z f.n).length - 1) (thinOf z f) := Classical.choose_spec (thin_exL f.X f.Y z f.n)
/-- The points of a feature at a zoom. -/
noncomputable def simL (z : Int) (f : Feat) : List (Int × Int) := simpR 0 f.ki z f.n f.X f.Y (thinOf z f)
/-- t is f with its points at a zoom. -/
def simOf (z : Int) (f t : Feat) : Prop := t.id = f.id ∧ t.la = f.la ∧ t.ki = f.ki ∧ t.wi = f.wi ∧ t.n = (simL z f).length ∧ t.X = px (simL z f) ∧ t.Y = py (simL z f) ∧ t.lab = f.lab ∧ t.pr = f.pr
abbrev okC (f : Feat) : Prop := featC f.id f.la f.ki f.wi f.n f.X f.Y f.lab f.pr = 0
theorem simL_facts {z : Int} {f : Feat} (h : okC f) (hz : zoomB z = true) : kindN f.ki (simL z f).length ∧ (simL z f).length ≤ 12 ∧ allW (simL z f) ∧ 0 < (simL z f).length := by
  obtain ⟨h1, h2, h3⟩ := simpR_facts h hz (thinOf_spec z f)
  exact ⟨h1, h2, h3, by show 0 < (simpR 0 f.ki z f.n f.X f.Y (thinOf z f)).length; rcases h1 with ⟨_, h⟩ | ⟨_, h⟩ | ⟨_, h⟩ <;> omega⟩
theorem simL_same {z : Int} {f g : Feat} (h : f.same g) : simL z f = simL z g := by
  obtain ⟨h1, h2, h3, h4, h5, h6, h7, h8, h9⟩ := h
  unfold simL thinOf
  rw [h3]
  congr 1
  all_goals first | rw [h5, h6, h7] | skip
  all_goals first | rfl | simp only [h5, h6, h7]
theorem Row.keptA {base base' : Nat} {w w' : World} {u v : Value} {l : List (Int × Int)} {H : Nat → Feat} {m : List Nat} (h : Row base w u l) (h' : FRow base' w v H m) (hg : w.grownBy w' v.ownBlock) : Row base w' u l := by
  refine World.ownsRow.kept h hg ?_
  cases hu : u.ownBlock with
  | none => exact .inl rfl
  | some g =>
    right
    intro e
    obtain ⟨c1, h1⟩ := heap_of_row h g hu
    obtain ⟨c2, h2⟩ := heap_of_row h' g e.symm
    rw [h1] at h2
    injection h2 with h2
    injection h2 with _ h2
    exact absurd h2 (by decide)
/-- v is a row of its own of features at a zoom, each with points of its own. -/
def SfRow (base : Nat) (w : World) (v : Value) (k : Nat) (z : Int) (H T : Nat → Feat) : Prop :=
  FRow base w v T (List.range k) ∧ (∀ i, i < k → simOf z (H i) (T i) ∧ Row base w (.slice (T i).a (T i).n (T i).cap) (simL z (H i))) ∧ ∀ i j, i < k → j < k → (T i).a = (T j).a → i = j
theorem SfRow.below {base k : Nat} {w w' : World} {v : Value} {z : Int} {H T : Nat → Feat} (h : SfRow base w v k z H T) (hb : Below w.heap.size w w') : SfRow base w' v k z H T :=
  ⟨h.1.below hb, fun i hi => ⟨(h.2.1 i hi).1, (h.2.1 i hi).2.below hb⟩, h.2.2⟩
/-- One more behind the others. -/
theorem SfRow.app {base k : Nat} {w w' : World} {v v' : Value} {z : Int} {H T : Nat → Feat} {t : Feat} (h : SfRow base w v k z H T) (hs : simOf z (H k) t) (hR : Row base w (.slice t.a t.n t.cap) (simL z (H k)))
    (hown : w'.ownsRow base 36 7 v' (k + 1) (cellsF T (List.range k) ++ fcell t)) (hg : w.grownBy w' v.ownBlock) (hfr : ∀ i, i < k → (T i).a ≠ t.a) : SfRow base w' v' (k + 1) z H (fun i => if i = k then t else T i) := by
  refine ⟨?_, fun i hi => ?_, fun i j hi hj hij => ?_⟩
  · unfold FRow
    have e1 : cellsF (fun i => if i = k then t else T i) (List.range (k + 1)) = cellsF T (List.range k) ++ fcell t := by
      rw [List.range_succ, cellsF_app, cellsF_one, if_pos rfl]
      rw [cellsF_congr (H' := T) (List.range k) (fun j hj => by rw [if_neg]; have := List.mem_range.1 hj; omega)]
    rw [e1, List.length_range]
    exact hown
  · by_cases e : i = k
    · subst e
      simp only [↓reduceIte]
      exact ⟨hs, hR.keptA h.1 hg⟩
    · simp only [if_neg e]
      exact ⟨(h.2.1 i (by omega)).1, (h.2.1 i (by omega)).2.keptA h.1 hg⟩
  · by_cases e1 : i = k <;> by_cases e2 : j = k
    · omega
    · simp only [if_pos e1, if_neg e2] at hij
      exact absurd hij.symm (hfr j (by omega))
    · simp only [if_neg e1, if_pos e2] at hij
      exact absurd hij (hfr i (by omega))
    · simp only [if_neg e1, if_neg e2] at hij
      exact h.2.2 i j (by omega) (by omega) hij
theorem SfRow.fs {base k g c : Nat} {w : World} {z : Int} {H T : Nat → Feat} (h : SfRow base w (.slice (some ⟨g, 0, none⟩) k c) k z H T) : g < w.heap.size ∧ k ≤ c ∧ FsAt w g 0 k T := by
  have hp : ∀ j, j < k → IsPts w (T j).a (T j).n (T j).X (T j).Y := fun j hj => by
    obtain ⟨⟨_, _, _, _, e5, e6, e7, _, _⟩, hR⟩ := h.2.1 j hj
    obtain ⟨a', c', hv, _, hI⟩ := hR.own.pts
    injection hv with i1 i2 i3
    rw [e6, e7, e5, i1]
    exact hI
  rcases h.1.at with ⟨hv, hl⟩ | ⟨g', c', hv, hg', hgl, hc', _, hF⟩
  · cases hv
  · injection hv with e1 e2 e3
    injection e1 with e1
    injection e1 with e1
    subst e1
    rw [List.length_range] at hc' hF
    refine ⟨hgl, by omega, fun i hi => ⟨?_, hp i hi⟩⟩
    have hF' := hF i hi
    have er : (List.range k).getD i 0 = i := by simp [List.getD, hi]
    rw [er] at hF'
    rw [Nat.zero_add]
    exact hF'
set_option maxHeartbeats 8000000 in
theorem l4All_any (b n cap : Nat) (G : Nat → Feat) (z : Int) (w : World) (hg : FsAt w b 0 n G) (hbl : b < w.heap.size) (hs : SmallFs n G) (hf : featsC n G = 0) (hz : zoomB z = true) :
    Calls Tryz.prog 21 #[.slice (some ⟨b, 0, none⟩) n cap, .int .i64 z] w fun e w' => ∃ g c T, e = .returned (.slice (some ⟨g, 0, none⟩) n c) ∧ w.heap.size ≤ g ∧ g < w'.heap.size ∧ FsAt w' g 0 n T ∧ (∀ i, i < n → simOf z (G ((srtF n G).getD i 0)) (T i)) ∧ (∀ i, i < n → ∀ q o, (T i).a = some ⟨q, o, none⟩ → w.heap.size ≤ q) ∧ Below w.heap.size w w' := by
  obtain ⟨i0, hi, hz0, hz1, hz2⟩ := info_parts info_if
  obtain ⟨hn12, _, hokG⟩ := featsC_ok hf
  have hlen : (srtF n G).length = n := srtK_len _ _ _
  have HLS := (show Hid _ from l2Sort_any b n cap G w hg hbl hn12 (fun i hi => (featC_zero (hokG i hi)).2.1) hs)
  have HOK : Hid (∀ i, i < n → okC (G ((srtF n G).getD i 0))) := fun i hi => hokG _ (srtF_lt n G i hi)
  have HZ : Hid (zoomB z = true) := hz
  clear hg hs hf hokG hz
  go_enter Tryz.func21, Tryz.ntmps21
  go_wp2_with fail
  refine Calls.mono HLS.out ?_
  rintro e w1 ⟨v1, H1, rfl, hF1, hC1, hb1⟩
  have hpts : ∀ j ∈ srtF n G, IsPts w1 (H1 j).a (H1 j).n (H1 j).X (H1 j).Y := fun j hj => by
    have hjn : j < n := by
      obtain ⟨i, hi, e⟩ := List.getElem_of_mem hj
      have := srtF_lt n G i (by omega)
      rw [List.getD_eq_getElem?_getD, List.getElem?_eq_getElem hi] at this
      simp at this
      omega
    obtain ⟨⟨_, _, _, _, e5, e6, e7, _, _⟩, hR⟩ := hC1.1 j hjn
    obtain ⟨a', c', hv, _, hI⟩ := hR.own.pts
    injection hv with i1 i2 i3
    rw [i1]
    have hl : (ptsOf (G j).X (G j).Y (List.range (G j).n)).length = (G j).n := by simp [ptsOf]
    rw [hl] at hI
    have eX : ∀ i, i < (G j).n → px (ptsOf (G j).X (G j).Y (List.range (G j).n)) i = (G j).X i ∧ py (ptsOf (G j).X (G j).Y (List.range (G j).n)) i = (G j).Y i := fun i hi => by simp [px, py, ptsOf, List.getD_eq_getElem?_getD, hi]
    rw [e5, e6, e7]
    rcases hI with h0 | ⟨q, o, ea, hl', hp⟩
    · exact .inl h0
    · refine .inr ⟨q, o, ea, hl', fun i hi => ?_⟩
      have := hp i hi
      rw [(eX i hi).1, (eX i hi).2] at this
      exact this
  obtain ⟨a1, c1, hv1, hc1, hI1⟩ := hF1.is hpts
  rw [hlen] at hv1 hc1 hI1
  subst hv1
  have HI1 : Hid (IsFs w1 a1 n (fun i => H1 ((srtF n G).getD i 0))) := hI1
  have HSM : Hid (∀ i, i < n → (H1 ((srtF n G).getD i 0)).same (G ((srtF n G).getD i 0))) := fun i hi => (hC1.1 _ (srtF_lt n G i hi)).1
  have HB1 : Hid (Below w.heap.size w w1) := hb1
  clear hF1 hC1 hb1 hpts hI1 HLS
  obtain ⟨H2, hH2⟩ : ∃ H2 : Nat → Feat, H2 = fun i => H1 ((srtF n G).getD i 0) := ⟨_, rfl⟩
  obtain ⟨K2, hK2⟩ : ∃ K2 : Nat → Feat, K2 = fun i => G ((srtF n G).getD i 0) := ⟨_, rfl⟩
  have HSM2 : Hid (∀ i, i < n → (H2 i).same (K2 i)) := by rw [hH2, hK2]; exact HSM.out
  have HOK2 : Hid (∀ i, i < n → okC (K2 i)) := by rw [hK2]; exact HOK.out
  have HPOST : Hid (∀ (T : Nat → Feat), (∀ i, i < n → simOf z (K2 i) (T i)) → ∀ i, i < n → simOf z (G ((srtF n G).getD i 0)) (T i)) := by rw [hK2]; exact fun T h => h
  rw [← hH2] at HI1
  clear hH2 hK2 HSM HOK
  go_wp2_with fail
  generalize hV : (w1.alloc _ : World) = V
  have hbV : Below w1.heap.size w1 V := by subst hV; (repeat (first | exact Below.refl _ _ | assumption | refine Below.drew ?_ | refine bl_alloc ?_ _ | refine bl_then ?_ (by assumption) | refine Below.setCell ?_ (by first | omega | (simp; done) | (simp; omega)) _ | refine bl_store ?_ ?_ _ _))
  have HO0 : Hid (SfRow w1.heap.size V (.slice (some ⟨w1.heap.size, 0, none⟩) 0 0) 0 z K2 K2) := by
    refine ⟨?_, fun i hi => absurd hi (Nat.not_lt_zero _), fun i j hi => absurd hi (Nat.not_lt_zero _)⟩
    subst hV
    exact World.ownsRow_lit (base := w1.heap.size) w1 #[] 0 (Nat.le_refl _) (Nat.zero_le _) rfl
  have HBV : Hid (Below w1.heap.size w1 V) := hbV
  clear hV hbV
  go_loopw [6, 7] (fun v i wr => ∃ (k g c : Nat) (T : Nat → Feat), k ≤ n ∧ i = .int .i64 (k : Int) ∧ v = .slice (some ⟨g, 0, none⟩) k c ∧ SfRow w1.heap.size wr v k z K2 T ∧ Below w1.heap.size w1 wr) (fun _ i _ => n - (intOf i).toNat)
  case atStart => exact ⟨0, w1.heap.size, 0, K2, by omega, rfl, rfl, HO0.out, HBV.out⟩
  case round =>
    obtain ⟨k, g, c, T, hk, rfl, rfl, hO, hB⟩ := hrel
    have HO : Hid (SfRow w1.heap.size wr (.slice (some ⟨g, 0, none⟩) k c) k z K2 T) := hO
    have HIr : Hid (IsFs wr a1 n H2) := HI1.out.below hB
    have HB : Hid (Below w1.heap.size w1 wr) := hB
    clear hO hB
    by_cases hlt : k < n
    · rcases HIr.out with h0 | ⟨b1, o1, rfl, hbl1, hFs⟩
      · omega
      have hok := HOK2.out k hlt
      obtain ⟨s1, s2, s3, s4, s5, s6, s7, s8, s9⟩ := HSM2.out k hlt
      have hok2 : okC (H2 k) := by unfold okC; rw [s1, s2, s3, s4, s5, s6, s7, s8, s9]; exact hok
      obtain ⟨hk3, hk0, hk12, _, hin, _⟩ := featC_zero hok2
      have hff := (hFs k hlt).1
      obtain ⟨q, o, ea, hql, hpt⟩ : ∃ q o, (H2 k).a = some ⟨q, o, none⟩ ∧ q < wr.heap.size ∧ PtsAt wr q o (H2 k).n (H2 k).X (H2 k).Y := by
        rcases (hFs k hlt).2 with h' | ⟨q, o, e, hl, hp⟩
        · omega
        · exact ⟨q, o, e, hl, hp⟩
      rw [ea] at hff
      have HS3 := (show Hid _ from l3Simple_any b1 (H2 k).id (H2 k).la (H2 k).ki (H2 k).wi z q (H2 k).n (H2 k).cap (H2 k).X (H2 k).Y (H2 k).lab (H2 k).pr (thinOf z (H2 k)) wr hff hpt hql HZ.out hk3 hk0 hk12 hin (thinOf_spec z (H2 k)))
      rw [← show simpR 0 (H2 k).ki z (H2 k).n (H2 k).X (H2 k).Y (thinOf z (H2 k)) = fillL (H2 k).ki.toNat (simpT (H2 k).ki z (H2 k).n (H2 k).X (H2 k).Y (thinOf z (H2 k))) by rw [simpR, if_pos rfl]] at HS3
      have eS : simpR 0 (H2 k).ki z (H2 k).n (H2 k).X (H2 k).Y (thinOf z (H2 k)) = simL z (K2 k) := simL_same (HSM2.out k hlt)
      rw [eS] at HS3
      have HSF : Hid (0 < (simL z (K2 k)).length ∧ (simL z (K2 k)).length ≤ 12) := ⟨(simL_facts hok HZ.out).2.2.2, (simL_facts hok HZ.out).2.1⟩
      have HSN : Hid ((H2 k).id = (K2 k).id ∧ (H2 k).la = (K2 k).la ∧ (H2 k).ki = (K2 k).ki ∧ (H2 k).wi = (K2 k).wi ∧ (H2 k).lab = (K2 k).lab ∧ (H2 k).pr = (K2 k).pr) := ⟨s1, s2, s3, s4, s8, s9⟩
      have hi1 : (k : Int) < (n : Int) := by omega
      have hi0 : (0 : Int) ≤ (k : Int) := by omega
      clear hff hpt hFs hok hok2 hk3 hk0 hk12 hin s1 s2 s3 s4 s5 s6 s7 s8 s9 eS ea
      go_wp2_with fail
      refine Calls.mono HS3.out ?_
      rintro e w2 ⟨v2, rfl, hR2, hb2⟩
      obtain ⟨g2, c2, hv2, hg2, hg2l, hc2, hP2⟩ := hR2.at HSF.out.1
      subst hv2
      generalize hLn : (simL z (K2 k)).length = N at *
      have HR2 : Hid (Row wr.heap.size w2 (.slice (some ⟨g2, 0, none⟩) N c2) (simL z (K2 k))) := hR2
      have HO2 : Hid (SfRow w1.heap.size w2 (.slice (some ⟨g, 0, none⟩) k c) k z K2 T) := HO.out.below hb2
      have HB2 : Hid (Below w1.heap.size w1 w2) := bl_then HB.out hb2
      have hwr2 := HB.out.size
      have HFR : Hid (∀ i, i < k → (T i).a ≠ some ⟨g2, 0, none⟩) := fun i hi e => by have := (World.ownsRow.lt (HO.out.2.1 i hi).2 g2 (by rw [e]; rfl)).2; omega
      clear hR2 hb2 hP2 HS3
      go_wp2_with (first
        | (at_builtin; go_must (refine wpList_append_own _ rfl _ _ 24 rfl w1.heap.size 36 i0 (.agg #[.int .i64 0, .int .i64 0, .int .i64 0, .int .i64 0, .slice none 0 0, .string ⟨#[]⟩, .int .i64 0]) 7 80 Tryz.underlying24 hi hz0 hz1 hz2 rfl (by decide) (.slice (some ⟨g, 0, none⟩) k c) k (cellsF T (List.range k)) rfl ?c6 ⟨w2.heap.size, 0, none⟩ 1 1 (fcell ⟨(H2 k).id, (H2 k).la, (H2 k).ki, (H2 k).wi, some ⟨g2, 0, none⟩, N, c2, px (simL z (K2 k)), py (simL z (K2 k)), (H2 k).lab, (H2 k).pr⟩) rfl ?c0 ?c1 ?c2 ?c3 ?c4 ?c5 ?_)))
      case c6 =>
        have := HO2.out.1.below ((Below.refl w2.heap.size w2).alloc (Nat.le_refl _) (.cells #[.int .i64 (H2 k).id, .int .i64 (H2 k).la, .int .i64 (H2 k).ki, .int .i64 (H2 k).wi, .slice (some ⟨g2, 0, none⟩) N c2, .string (H2 k).lab, .int .i64 (H2 k).pr] 36))
        unfold FRow at this
        rw [List.length_range] at this
        exact this
      case c0 => rfl
      case c1 =>
        intro q u hq
        have hq7 : q < 7 := (List.getElem?_eq_some_iff.1 hq).1
        have hc : q = 0 ∨ q = 1 ∨ q = 2 ∨ q = 3 ∨ q = 4 ∨ q = 5 ∨ q = 6 := by omega
        rcases hc with rfl | rfl | rfl | rfl | rfl | rfl | rfl <;> (simp [fcell] at hq; subst hq; simp [Addr.add, go_sem])
      case c2 => exact fcell_one _
      case c3 => unfold maxLen; omega
      case c4 => omega
      case c5 => have := HB2.out.size; simp; omega
      intro v' w4 hown' hgrow hnil
      obtain ⟨g4, c4, hv4⟩ : ∃ g4 c4, v' = .slice (some ⟨g4, 0, none⟩) (k + 1) c4 := by
        obtain ⟨_, h2 | ⟨g', cp, cur, hv, _⟩⟩ := hown'
        · first | exact absurd h2.1 hnil | (have := hnil.1 h2.1; simp at this)
        · exact ⟨g', cp, hv⟩
      subst hv4
      have hbA : Below w2.heap.size w2 (w2.alloc (.cells #[.int .i64 (H2 k).id, .int .i64 (H2 k).la, .int .i64 (H2 k).ki, .int .i64 (H2 k).wi, .slice (some ⟨g2, 0, none⟩) N c2, .string (H2 k).lab, .int .i64 (H2 k).pr] 36)) := (Below.refl w2.heap.size w2).alloc (Nat.le_refl _) _
      have hOA := HO2.out.below hbA
      have HF4 := (show Hid (SfRow w1.heap.size w4 (.slice (some ⟨g4, 0, none⟩) (k + 1) c4) (k + 1) z K2 (fun i => if i = k then ⟨(H2 k).id, (H2 k).la, (H2 k).ki, (H2 k).wi, some ⟨g2, 0, none⟩, N, c2, px (simL z (K2 k)), py (simL z (K2 k)), (H2 k).lab, (H2 k).pr⟩ else T i)) from
        SfRow.app hOA ⟨HSN.out.1, HSN.out.2.1, HSN.out.2.2.1, HSN.out.2.2.2.1, hLn.symm, rfl, rfl, HSN.out.2.2.2.2.1, HSN.out.2.2.2.2.2⟩ ((HR2.out.below hbA).wide hwr2) hown' hgrow HFR.out)
      have hBg := (Below.refl w1.heap.size (w2.alloc (.cells #[.int .i64 (H2 k).id, .int .i64 (H2 k).la, .int .i64 (H2 k).ki, .int .i64 (H2 k).wi, .slice (some ⟨g2, 0, none⟩) N c2, .string (H2 k).lab, .int .i64 (H2 k).pr] 36))).grown hgrow (by have := HB2.out.size; simp; omega) (fun q hq => (World.ownsRow.lt hOA.1 q hq).1)
      have HB4 : Hid (Below w1.heap.size w1 w4) := (bl_then HB2.out hbA).trans hBg
      clear hown' hgrow hnil hOA hBg hbA
      go_wp2
      go_roundw
      case rel => exact ⟨k + 1, g4, c4, _, by omega, by go_num, rfl, HF4.out, HB4.out⟩
      case measure => simp [intOf]; omega
    · obtain rfl : n = k := by omega
      have HQ := HO.out.fs
      have hgg : w.heap.size ≤ g := Nat.le_trans HB1.out.size (World.ownsRow.lt HO.out.1 g rfl).1
      have HS' : Hid (∀ i, i < n → simOf z (K2 i) (T i)) := fun i hi => (HO.out.2.1 i hi).1
      have HLO : Hid (∀ i, i < n → ∀ q o, (T i).a = some ⟨q, o, none⟩ → w.heap.size ≤ q) := fun i hi q o ea => Nat.le_trans HB1.out.size (World.ownsRow.lt (HO.out.2.1 i hi).2 q (by rw [ea]; rfl)).1
      go_wp2
      go_ret
      exact ⟨g, c, T, rfl, hgg, HQ.1, HQ.2.2, HPOST.out T HS'.out, HLO.out, bl_then HB1.out HB.out⟩
end Go.Proofs.YtchofahdcohibaaGreat
/- PaintedAt of the model. -/

namespace Go.Proofs.YtchofahdcohibaaGreat
open Go.RowKit
set_option linter.unusedSimpArgs false
set_option linter.unusedVariables false
set_option maxRecDepth 100000

/-- Whether a feature, at a zoom, covers a centre. -/
noncomputable def covL (z cx cy : Int) (f : Feat) : Bool := coverB f.ki f.wi z cx cy (dblL (px (simL z f)) (py (simL z f)) (simL z f).length)
/-- What is painted at a pixel of features in order. -/
noncomputable def paintS (G : Nat → Feat) (n : Nat) (z x y : Int) : Int := paintI (fun i => covL z (centI z x) (centI z y) (G ((srtF n G).getD i 0))) (fun i => (G ((srtF n G).getD i 0)).id) n
theorem paintI_congr {C C' : Nat → Bool} {I I' : Nat → Int} : ∀ {n : Nat}, (∀ i, i < n → C i = C' i ∧ I i = I' i) → paintI C I n = paintI C' I' n
  | 0, _ => rfl
  | n + 1, h => by rw [paintI, paintI, (h n (by omega)).1, (h n (by omega)).2, paintI_congr fun i hi => h i (by omega)]
theorem paint_sim {G T : Nat → Feat} {n : Nat} {z x y : Int} (h : ∀ i, i < n → simOf z (G ((srtF n G).getD i 0)) (T i)) : paintF T n z x y = paintS G n z x y := by
  unfold paintF paintS
  refine paintI_congr fun i hi => ?_
  obtain ⟨e1, e2, e3, e4, e5, e6, e7, e8, e9⟩ := h i hi
  exact ⟨by unfold covF covL; rw [e3, e4, e5, e6, e7], e1⟩
theorem okF_sim {z : Int} {f t : Feat} (h : simOf z f t) (hf : okC f) (hz : zoomB z = true) : OkF t := by
  obtain ⟨e1, e2, e3, e4, e5, e6, e7, e8, e9⟩ := h
  obtain ⟨h1, h2, h3, h4⟩ := simL_facts hf hz
  refine ⟨by rw [e3, e5]; exact h1, by rw [e5]; exact h4, by rw [e5]; exact h2, fun i _ => by rw [e6, e7]; exact h3.at i, by rw [e4]; exact (featC_rng hf).2.2.1⟩
/-- The code of PaintedAt, and its answer. -/
noncomputable def paC (z x y : Int) (n : Nat) (G : Nat → Feat) : Int := if zoomB z = true then (if featsC n G = 0 then (if pixB z x y = true then 0 else 3) else featsC n G) else 3
noncomputable def paV (z x y : Int) (n : Nat) (G : Nat → Feat) : Int := if paC z x y n G = 0 then paintS G n z x y else 0
set_option maxHeartbeats 4000000 in
theorem spec_PaintedAt_any (z x y : Int) (b n cap : Nat) (G : Nat → Feat) (w : World) (hg : FsAt w b 0 n G) (hbl : b < w.heap.size) (hs : SmallFs n G) :
    Calls Tryz.prog 7 #[.slice (some ⟨b, 0, none⟩) n cap, .int .i64 z, .int .i64 x, .int .i64 y] w fun e w' => e = .returned (.agg #[.int .i64 (paC z x y n G), .int .i64 (paV z x y n G)]) ∧ Below w.heap.size w w' := by
  have HG : Hid (FsAt w b 0 n G) := hg
  have HS : Hid (SmallFs n G) := hs
  clear hg hs
  have HC : Hid (paC z x y n G = if zoomB z = true then (if featsC n G = 0 then (if pixB z x y = true then 0 else 3) else featsC n G) else 3) := rfl
  have HV : Hid (paC z x y n G ≠ 0 → paV z x y n G = 0) := fun h => if_neg h
  go_enter Tryz.func7, Tryz.ntmps7
  go_wp2_with fail
  generalize hW : (w.alloc _ : World) = W
  have HB0 : Hid (Below w.heap.size w W) := by show Below _ _ _; subst hW; (repeat (first | exact Below.refl _ _ | assumption | refine Below.drew ?_ | refine bl_alloc ?_ _ | refine bl_then ?_ (by assumption) | refine Below.setCell ?_ (by first | omega | (simp; done) | (simp; omega)) _ | refine bl_store ?_ ?_ _ _))
  have HT : Hid (There W w.heap.size 2) := by
    show There _ _ _
    subst hW
    exact fun o ho => by
      have : o = 0 ∨ o = 1 := by omega
      rcases this with rfl | rfl <;> exact ⟨⟨_, by simp [go_sem]; rfl⟩, by simp [go_sem]⟩
  clear hW
  have res : ∀ (T : Array Value) (Wf : World) (v0 v1 : Value), T[8]?.getD undef = .pointer (some ⟨w.heap.size, 0, none⟩) → Wf.cell? ⟨w.heap.size, 0, none⟩ = some v0 → Wf.cell? ⟨w.heap.size, 1, none⟩ = some v1 → (results Tryz.f7 T).run Tryz.prog Wf = .ok (.agg #[v0, v1]) Wf := fun T Wf v0 v1 hT h0 h1 => by
    simp [results, Tryz.results7, go_sem, hT, h0, h1]
  have put : ∀ (Wf : World) (v0 v1 : Value), There Wf w.heap.size 2 → ((Wf.setCell ⟨w.heap.size, 0, none⟩ v0).setCell ⟨w.heap.size, 1, none⟩ v1).cell? ⟨w.heap.size, 0, none⟩ = some v0 ∧ ((Wf.setCell ⟨w.heap.size, 0, none⟩ v0).setCell ⟨w.heap.size, 1, none⟩ v1).cell? ⟨w.heap.size, 1, none⟩ = some v1 := fun Wf v0 v1 hT => by
    obtain ⟨u0, h0⟩ := (hT 0 (by omega)).1
    obtain ⟨u1, h1⟩ := (hT 1 (by omega)).1
    have ne : ∀ i j : Nat, i ≠ j → (⟨w.heap.size, i, none⟩ : Addr) ≠ ⟨w.heap.size, j, none⟩ := fun i j hij h => hij (by injection h)
    refine ⟨?_, ?_⟩
    · rw [set1_other (ne 1 0 (by omega))]; exact set1_same h0
    · exact set1_same (by rw [set1_other (ne 0 1 (by omega))]; exact h1)
  have hT0 := HT.out
  have t0 := hT0.cell 0 (by omega)
  have t1 := hT0.cell 1 (by omega)
  have f0 := (hT0 0 (by omega)).2
  have f1 := (hT0 1 (by omega)).2
  clear hT0
  refine (l3Zoom_any _ _).mono ?_
  rintro e w1 ⟨rfl, rfl⟩
  cases hz : zoomB z
  · have HQ : Hid (paC z x y n G = 3) := by show _ = _; rw [HC.out, hz]; rfl
    go_wp2_with fail
    refine bodyPost_ret (res _ _ _ _ rfl (put _ (.int .i64 3) (.int .i64 0) HT.out).1 (put _ (.int .i64 3) (.int .i64 0) HT.out).2) rfl ⟨by rw [HV.out (by rw [HQ.out]; omega), HQ.out], ?_⟩
    exact (HB0.out.setCell (Nat.le_refl _) _).setCell (Nat.le_refl _) _
  rw [hz, if_pos rfl] at HC
  clear t0 t1 f0 f1
  go_wp2_with fail
  refine (l2Many_any b n cap G _ (HG.out.below HB0.out hbl) (Nat.lt_of_lt_of_le hbl HB0.out.size) HS.out).mono ?_
  rintro e w2 ⟨rfl, hb2⟩
  have hT2 := HT.out.below hb2
  have HT2 : Hid (There w2 w.heap.size 2) := hT2
  have HB2 : Hid (Below w.heap.size w w2) := bl_then HB0.out hb2
  clear hb2
  have t0 := hT2.cell 0 (by omega)
  have t1 := hT2.cell 1 (by omega)
  have f0 := (hT2 0 (by omega)).2
  have f1 := (hT2 1 (by omega)).2
  clear hT2
  by_cases hf : featsC n G = 0
  · rw [hf, if_pos rfl] at HC
    have HF : Hid (featsC n G = 0) := hf
    rw [hf]
    clear hf
    cases hp : pixB z x y
    · have HQ : Hid (paC z x y n G = 3) := by show _ = _; rw [HC.out, hp]; rfl
      go_wp2_with (go_at_call 19; refine (l4Pixel_any _ _ _ _ hz).mono ?_; rintro e w3 ⟨rfl, rfl⟩)
      refine bodyPost_ret (res _ _ _ _ rfl (put _ (.int .i64 3) (.int .i64 0) HT2.out).1 (put _ (.int .i64 3) (.int .i64 0) HT2.out).2) rfl ⟨by rw [HV.out (by rw [HQ.out]; omega), HQ.out], ?_⟩
      exact (HB2.out.setCell (Nat.le_refl _) _).setCell (Nat.le_refl _) _
    · have HQ : Hid (paC z x y n G = 0) := by show _ = _; rw [HC.out, hp]; rfl
      have HQV : Hid (paV z x y n G = paintS G n z x y) := if_pos HQ.out
      have HPX : Hid (pixB z x y = true) := hp
      have hokG := (featsC_ok HF.out).2.2
      have h12 := (featsC_ok HF.out).1
      have HOK : Hid (∀ i, i < n → okC (G ((srtF n G).getD i 0))) := fun i hi => hokG _ (srtF_lt n G i hi)
      have HLA := (show Hid _ from l4All_any b n cap G z w2 (HG.out.below HB2.out hbl) (Nat.lt_of_lt_of_le hbl HB2.out.size) HS.out HF.out hz)
      clear t0 t1 f0 f1 hokG
      go_wp2_with (go_at_call 19; refine (l4Pixel_any _ _ _ _ hz).mono ?_; rintro e w3 ⟨rfl, rfl⟩)
      refine Calls.mono HLA.out ?_
      rintro e w4 ⟨g, c, T, rfl, _, hgl, hFT, hsim, _, hb4⟩
      have HPA := (show Hid _ from l4Painted_any g n c T z x y w4 hFT hgl h12 (fun i hi => okF_sim (hsim i hi) (HOK.out i hi) hz) HPX.out)
      rw [paint_sim hsim] at HPA
      have HT4 : Hid (There w4 w.heap.size 2) := HT2.out.below hb4
      have HB4 : Hid (Below w.heap.size w w4) := bl_then HB2.out hb4
      clear hFT hsim hb4 HLA
      go_wp2_with fail
      refine Calls.mono HPA.out ?_
      rintro e w5 ⟨rfl, hb5⟩
      have hT5 := HT4.out.below hb5
      have HT5 : Hid (There w5 w.heap.size 2) := hT5
      have HB5 : Hid (Below w.heap.size w w5) := bl_then HB4.out hb5
      have t0 := hT5.cell 0 (by omega)
      have t1 := hT5.cell 1 (by omega)
      have f0 := (hT5 0 (by omega)).2
      have f1 := (hT5 1 (by omega)).2
      clear hT5 hb5 HPA
      go_wp2_with fail
      refine bodyPost_ret (res _ _ _ _ rfl (put _ (.int .i64 0) (.int .i64 (paintS G n z x y)) HT5.out).1 (put _ (.int .i64 0) (.int .i64 (paintS G n z x y)) HT5.out).2) rfl ⟨by rw [HQV.out, HQ.out], ?_⟩
      exact (HB5.out.setCell (Nat.le_refl _) _).setCell (Nat.le_refl _) _
  · rw [if_neg hf] at HC
    have HQV : Hid (paV z x y n G = 0) := HV.out (by rw [HC.out]; exact hf)
    have hcb : (featsC n G == 0) = false := by simpa using hf
    obtain ⟨fc, hfc⟩ : ∃ fc, featsC n G = fc := ⟨_, rfl⟩
    rw [hfc] at HC hcb ⊢
    clear hf hfc
    go_wp2_with fail
    refine bodyPost_ret (res _ _ _ _ rfl (put _ (.int .i64 fc) (.int .i64 0) HT2.out).1 (put _ (.int .i64 fc) (.int .i64 0) HT2.out).2) rfl ⟨by rw [HC.out, HQV.out], ?_⟩
    exact (HB2.out.setCell (Nat.le_refl _) _).setCell (Nat.le_refl _) _
end Go.Proofs.YtchofahdcohibaaGreat
