/- Several texts in one. -/
import Derived.Test.YtgpdpodagoligaaGreatVAnchors10
import Derived.Test.YtgpdpodagoligaaGreatVAnchors9
import Derived.Deep.CutBlock
import Derived.Deep.DeepCutAuto

/- The program's SortFeatures: the same features, sorted, in memory of its own. -/

namespace Go.Proofs.YtgpdpodagoligaaGreat
open Go.RowKit
set_option linter.unusedSimpArgs false
set_option linter.unusedVariables false
set_option maxRecDepth 100000

/-- The places of a list without a fault, sorted. -/
def srtF (n : Nat) (G : Nat → Feat) : List Nat := srtK (fun i => (G i).la) (fun i => (G i).id) n
theorem srtF_lt (n : Nat) (G : Nat → Feat) (i : Nat) (hi : i < n) : (srtF n G).getD i 0 < n := by
  have hl : (srtF n G).length = n := srtK_len _ _ n
  refine (srtK_mem (fun i => (G i).la) (fun i => (G i).id) n _).1 ?_
  rw [List.getD_eq_getElem?_getD, List.getElem?_eq_getElem (by rw [hl]; exact hi)]
  exact List.getElem_mem _
theorem srtF_inj (n : Nat) (G : Nat → Feat) (i j : Nat) (hi : i < n) (hj : j < n) (h : (srtF n G).getD i 0 = (srtF n G).getD j 0) : i = j := by
  have hl : (srtF n G).length = n := srtK_len _ _ n
  have hnd : (srtF n G).Nodup := (srtK_perm (fun i => (G i).la) (fun i => (G i).id) n).nodup_iff.2 List.nodup_range
  rw [List.getD_eq_getElem?_getD, List.getD_eq_getElem?_getD, List.getElem?_eq_getElem (by rw [hl]; exact hi), List.getElem?_eq_getElem (by rw [hl]; exact hj)] at h
  exact (List.getElem_inj (xs := srtF n G) hnd).1 h
noncomputable def srtM (n : Nat) (G : Nat → Feat) : Nat := if featsC n G = 0 then n else 0
/-- The answer: so many features, sorted; its blocks are its own. -/
def SortRes (base : Nat) (w : World) (a : Option Addr) (n : Nat) (G T : Nat → Feat) : Prop :=
  IsFs w a (srtM n G) T ∧ (∀ i, i < srtM n G → (T i).same (G ((srtF n G).getD i 0))) ∧
  (srtM n G = 0 ∨ ∃ g q, a = some ⟨g, 0, none⟩ ∧ OwnQ w base w.heap.size g (srtM n G) (fun i => (T i).n) (fun i => (T i).cap) q)
theorem featC_pos {id la ki wi : Int} {n : Nat} {X Y : Nat → Int} {lab : ByteArray} {pr : Int} (h : featC id la ki wi n X Y lab pr = 0) : 0 < n ∧ n ≤ 12 := by
  unfold featC at h
  by_cases h1 : rngB id la ki wi pr = true
  · by_cases h2 : sizeB ki n = true
    · unfold sizeB at h2
      by_cases k1 : ki = 1
      · rw [if_pos k1] at h2; simp at h2; omega
      · rw [if_neg k1] at h2
        by_cases k2 : ki = 2
        · rw [if_pos k2] at h2; simp [inB] at h2; omega
        · rw [if_neg k2] at h2; simp [inB] at h2; omega
    · simp [h1, h2] at h
  · simp [h1] at h

theorem FeatAt.set {w : World} {p o r s : Nat} {id la ki wi : Int} {pts x : Value} {lab : ByteArray} {pr : Int} (h : FeatAt w p o id la ki wi pts lab pr) (hne : r ≠ p) : FeatAt (w.setCell ⟨r, s, none⟩ x) p o id la ki wi pts lab pr := by
  have nb : ∀ q : Nat, (⟨r, s, none⟩ : Addr) ≠ ⟨p, q, none⟩ := fun q e => hne (by injection e)
  obtain ⟨h0, h1, h2, h3, h4, h5, h6⟩ := h
  exact ⟨by rw [set1_other (nb _)]; exact h0, by rw [set1_other (nb _)]; exact h1, by rw [set1_other (nb _)]; exact h2, by rw [set1_other (nb _)]; exact h3, by rw [set1_other (nb _)]; exact h4, by rw [set1_other (nb _)]; exact h5, by rw [set1_other (nb _)]; exact h6⟩
theorem row_ne {base base' : Nat} {w : World} {q g n m c d : Nat} {l : List (Int × Int)} {H : Nat → Feat} {k : List Nat} (h : Row base w (.slice (some ⟨q, 0, none⟩) n c) l) (h' : FRow base' w (.slice (some ⟨g, 0, none⟩) m d) H k) : q ≠ g := fun e => by
  subst e
  obtain ⟨c1, h1⟩ := heap_of_row h q rfl
  obtain ⟨c2, h2⟩ := heap_of_row h' q rfl
  rw [h1] at h2
  injection h2 with h2
  injection h2 with _ h2
  exact absurd h2 (by decide)
theorem sortRes_mk {base1 r n c : Nat} {a : Option Addr} {G H : Nat → Feat} {w2 w3 : World} {x y : Value} (hc : featsC n G = 0) (hR : FRow base1 w2 (.slice a n c) H (List.range n)) (hC : Copies base1 w2 n G H) (hpos : ∀ i, i < n → 0 < (G i).n) (hap : apartK (fun i => (G i).id) n)
    (hres : (n = 0 ∧ w3 = w2) ∨ ∃ (g c' : Nat) (l : List Nat), Value.slice a n c = .slice (some ⟨g, 0, none⟩) n c' ∧ base1 ≤ g ∧ g < w2.heap.size ∧ l.Perm (List.range n) ∧ l.Pairwise (fun a b => ltK (fun i => (H i).la) (fun i => (H i).id) b a = false) ∧ w2.grownBy w3 (some g) ∧ There w3 g (n * 7) ∧
        ∀ i, i < n → FeatAt w3 g (i * 7) (H (l.getD i 0)).id (H (l.getD i 0)).la (H (l.getD i 0)).ki (H (l.getD i 0)).wi (.slice (H (l.getD i 0)).a (H (l.getD i 0)).n (H (l.getD i 0)).cap) (H (l.getD i 0)).lab (H (l.getD i 0)).pr)
    (hr : r < base1) : ∃ T, SortRes r ((w3.setCell ⟨r, 0, none⟩ x).setCell ⟨r, 1, none⟩ y) a n G T ∧ ∀ i, i < srtM n G → (T i).n ≤ (T i).cap := by
  have hM : srtM n G = n := by unfold srtM; rw [if_pos hc]
  rcases hres with ⟨h0, _⟩ | ⟨g, c', l, hv, hg, hgl, hp, hs, hgr, hT, hF⟩
  · refine ⟨G, ?_, fun i hi => by omega⟩
    unfold SortRes
    rw [hM, h0]
    exact ⟨.inl rfl, fun i hi => by omega, .inl rfl⟩
  · injection hv with e1 _ e3
    subst e1 e3
    have hl : l = srtF n G := by
      have h1 : apartK (fun i => (H i).id) n := fun i j hi hj e => hap i j hi hj (by
        have a1 := (hC.1 i hi).1.1
        have a2 := (hC.1 j hj).1.1
        show (G i).id = (G j).id
        rw [← a1, ← a2]; exact e)
      rw [srtK_unique _ _ n h1 l hp hs]
      exact srtK_congr n (fun j hj => ⟨(hC.1 j hj).1.2.1, (hC.1 j hj).1.1⟩)
    subst hl
    have hq : ∀ j, ∃ q, j < n → (H j).a = some ⟨q, 0, none⟩ ∧ base1 ≤ q ∧ q < w2.heap.size ∧ q ≠ g ∧ PtsAt w2 q 0 (G j).n (G j).X (G j).Y ∧ There w2 q ((G j).n * 2) := fun j => by
      by_cases hj : j < n
      · obtain ⟨s1, r1⟩ := hC.1 j hj
        have hnn : (H j).n = (G j).n := s1.2.2.2.2.1
        rw [hnn] at r1
        obtain ⟨q, q1, q2, q3, q4, q5⟩ := r1.atP (hpos j hj)
        rw [q1] at r1
        exact ⟨q, fun _ => ⟨q1, q2, q3, row_ne r1 hR, q4, q5⟩⟩
      · exact ⟨0, fun h => absurd h hj⟩
    obtain ⟨q, hq⟩ := Classical.skolem.1 hq
    have hsz := hgr.size
    have hlt := srtF_lt n G
    refine ⟨fun i => H ((srtF n G).getD i 0), ?_, fun i hi => ?_⟩
    case refine_2 =>
      rw [hM] at hi
      obtain ⟨a', c', hv', hc', _⟩ := (hC.1 _ (hlt i hi)).2.own
      have hl' : (ptsOf (G ((srtF n G).getD i 0)).X (G ((srtF n G).getD i 0)).Y (List.range (G ((srtF n G).getD i 0)).n)).length = (G ((srtF n G).getD i 0)).n := by simp [ptsOf]
      injection hv' with _ _ e3
      rw [hl'] at hc'
      show (H ((srtF n G).getD i 0)).n ≤ (H ((srtF n G).getD i 0)).cap
      rw [e3, (hC.1 _ (hlt i hi)).1.2.2.2.2.1]
      exact hc'
    unfold SortRes
    rw [hM]
    refine ⟨.inr ⟨g, 0, rfl, by simp; omega, fun i hi => ⟨?_, ?_⟩⟩, fun i hi => (hC.1 _ (hlt i hi)).1, .inr ⟨g, fun i => q ((srtF n G).getD i 0), rfl, ⟨by omega, by simp; omega, Nat.le_refl _⟩, (hT.store (by omega)).store (by omega), fun i hi => ⟨⟨?_, ?_, ?_⟩, ?_, ?_⟩, fun i j hi hj e => ?_⟩⟩
    · rw [Nat.zero_add]
      exact ((hF i hi).set (by omega)).set (by omega)
    · obtain ⟨q1, q2, q3, q4, q5, q6⟩ := hq _ (hlt i hi)
      obtain ⟨_, _, _, _, s5, s6, s7, _, _⟩ := (hC.1 _ (hlt i hi)).1
      show IsPts _ (H ((srtF n G).getD i 0)).a (H ((srtF n G).getD i 0)).n (H ((srtF n G).getD i 0)).X (H ((srtF n G).getD i 0)).Y
      rw [q1, s5, s6, s7]
      exact .inr ⟨_, 0, rfl, by simp only [World.size_setCell]; omega, ((q5.grown hgr q4).store (by omega)).store (by omega)⟩
    · show r ≤ q ((srtF n G).getD i 0)
      have := (hq _ (hlt i hi)).2.1; omega
    · show q ((srtF n G).getD i 0) < _
      have := (hq _ (hlt i hi)).2.2.1; simp only [World.size_setCell]; omega
    · exact (hq _ (hlt i hi)).2.2.2.1
    · obtain ⟨q1, q2, q3, q4, q5, q6⟩ := hq _ (hlt i hi)
      obtain ⟨_, _, _, _, s5, _⟩ := (hC.1 _ (hlt i hi)).1
      show There _ _ ((H ((srtF n G).getD i 0)).n * 2)
      rw [s5]
      exact ((q6.grown hgr q4).store (by omega)).store (by omega)
    · obtain ⟨q1, _⟩ := hq _ (hlt i hi)
      have := (((hF i hi).set (r := r) (s := 0) (x := x) (by omega)).set (r := r) (s := 1) (x := y) (by omega)).2.2.2.2.1
      rw [this, q1]
    · have e1 := (hq _ (hlt i hi)).1
      have e2 := (hq _ (hlt j hj)).1
      have e' : q ((srtF n G).getD i 0) = q ((srtF n G).getD j 0) := e
      have := hC.2 _ _ (hlt i hi) (hlt j hj) (by rw [e1, e2, e'])
      exact srtF_inj n G i j hi hj this

set_option maxHeartbeats 4000000 in
theorem impl_SortFeatures_cap (b n cap : Nat) (G : Nat → Feat) (w : World) (hg : FsAt w b 0 n G) (hbl : b < w.heap.size) (hs : SmallFs n G) (hcap : n ≤ cap) :
    Calls Tryz.prog 19 #[.slice (some ⟨b, 0, none⟩) n cap] w fun e w' => ∃ a c T, e = .returned (.agg #[.int .i64 (featsC n G), .slice a (srtM n G) c]) ∧ srtM n G ≤ c ∧ (SortRes w.heap.size w' a n G T ∧ ∀ i, i < srtM n G → (T i).n ≤ (T i).cap) ∧ Below w.heap.size w w' := by
  have HG : Hid (FsAt w b 0 n G) := hg
  have HS : Hid (SmallFs n G) := hs
  clear hg hs
  have key : ∀ (T : Array Value) (Wf : World) (v0 v1 : Value), T[2]?.getD undef = .pointer (some ⟨w.heap.size, 0, none⟩) → Wf.cell? ⟨w.heap.size, 0, none⟩ = some v0 → Wf.cell? ⟨w.heap.size, 1, none⟩ = some v1 → (results Tryz.f19 T).run Tryz.prog Wf = .ok (.agg #[v0, v1]) Wf := fun T Wf v0 v1 hT h0 h1 => by
    simp [results, Tryz.results19, go_sem, hT, h0, h1]
  have KEY := (show Hid _ from key)
  clear key
  go_enter Tryz.func19, Tryz.ntmps19
  go_wp2_with fail
  generalize hV : (w.alloc _ : World) = V
  have hBV : Below w.heap.size w V := by subst hV; (repeat (first | exact Below.refl _ _ | assumption | refine Below.drew ?_ | refine bl_alloc ?_ _ | refine bl_then ?_ (by assumption) | refine Below.setCell ?_ (by first | omega | (simp; done) | (simp; omega)) _ | refine bl_store ?_ ?_ _ _))
  have hTV : There V w.heap.size 2 := fun o ho => by
    subst hV
    have hc : o = 0 ∨ o = 1 := by omega
    rcases hc with rfl | rfl <;> exact ⟨⟨_, by simp [go_sem]; rfl⟩, by simp [go_sem]⟩
  have hlV : w.heap.size < V.heap.size := by subst hV; simp
  clear hV
  refine (FeaturesFault_any b n cap G V (HG.out.below hBV hbl) (Nat.lt_of_lt_of_le hbl hBV.size) HS.out hcap).mono ?_
  rintro e w1 ⟨rfl, hb1⟩
  have hB1 : Below w.heap.size w w1 := bl_then hBV hb1
  have hT1 := hTV.below hb1
  have hl1 : w.heap.size < w1.heap.size := Nat.lt_of_lt_of_le hlV hb1.size
  clear hBV hTV hb1
  by_cases hc : featsC n G = 0
  · have HC : Hid (featsC n G = 0) := hc
    have hM : Hid (srtM n G = n) := by show _ = _; unfold srtM; rw [if_pos hc]
    obtain ⟨h12, hap, hfc⟩ := featsC_ok hc
    have HPOS : Hid (∀ i, i < n → 0 < (G i).n) := fun i hi => (featC_pos (hfc i hi)).1
    have HAP : Hid (apartK (fun i => (G i).id) n) := hap
    rw [hc]
    have HT1 : Hid (There w1 w.heap.size 2) := hT1
    have HB1 : Hid (Below w.heap.size w w1) := hB1
    clear hc hap hfc hT1 hB1
    go_wp2_with fail
    refine (copyFeatures_any b n cap G w1 (HG.out.below HB1.out hbl) (Nat.lt_of_lt_of_le hbl HB1.out.size) h12 HPOS.out HS.out).mono ?_
    rintro e w2 ⟨v, H, rfl, hR2, hC2, hb2⟩
    have HT2 : Hid (There w2 w.heap.size 2) := HT1.out.below hb2
    have HB2 : Hid (Below w.heap.size w w2) := bl_then HB1.out hb2
    have HR2 : Hid (FRow w1.heap.size w2 v H (List.range n)) := hR2
    have HC2 : Hid (Copies w1.heap.size w2 n G H) := hC2
    clear hR2 hC2 hb2
    go_wp2_with fail
    refine (sortF_any n _ v H w2 HR2.out (by omega)).mono ?_
    rintro e w3 ⟨rfl, hres⟩
    have HRES := (show Hid _ from hres)
    obtain ⟨a, c, hv⟩ : ∃ a c, v = .slice a n c := by
      rcases HR2.out.at with ⟨hv, hl⟩ | ⟨g, c, hv, _⟩
      · have hn0 : n = 0 := by simpa using congrArg List.length hl
        exact ⟨none, 0, by rw [hv, hn0]⟩
      · rw [List.length_range] at hv
        exact ⟨_, c, hv⟩
    subst hv
    have hnc : Hid (n ≤ c) := by
      show n ≤ c
      rcases HR2.out.at with ⟨hv, hl⟩ | ⟨g, c', hv, _, _, hc', _⟩
      · injection hv with _ h1 h2; omega
      · rw [List.length_range] at hv hc'
        injection hv with _ _ h2
        omega
    have hT3 : There w3 w.heap.size 2 := by
      rcases HRES.out with ⟨_, rfl⟩ | ⟨g, c, l, _, hg, _, _, _, hgr, _⟩
      · exact HT2.out
      · exact HT2.out.grown hgr (by omega)
    have hB3 : Below w.heap.size w w3 := by
      rcases HRES.out with ⟨_, rfl⟩ | ⟨g, c, l, _, hg, _, _, _, hgr, _⟩
      · exact HB2.out
      · exact HB2.out.trans (below_grown hgr (by omega) HB2.out.size)
    have t0 := hT3.cell 0 (by omega)
    have t1 := hT3.cell 1 (by omega)
    have z0 := (hT3 0 (by omega)).2
    have z1 := (hT3 1 (by omega)).2
    have HB3 : Hid (Below w.heap.size w w3) := hB3
    clear hres hT3 hB3
    go_wp2_with fail
    obtain ⟨u0, u1⟩ := set2_at (W := w3) (r := w.heap.size) (i := 0) (j := 1) (u := .int .i64 0) (v := .slice a n c) (by omega) (by rw [t0]; rfl) (by rw [t1]; rfl)
    have hf := sortRes_mk (r := w.heap.size) (x := .int .i64 0) (y := .slice a n c) HC.out HR2.out HC2.out HPOS.out HAP.out HRES.out (by omega)
    obtain ⟨T, hT⟩ := hf
    refine bodyPost_ret (KEY.out _ _ _ _ rfl u0 u1) rfl ⟨a, c, T, by rw [hM.out, HC.out], by rw [hM.out]; exact hnc.out, hT, ?_⟩
    exact (HB3.out.setCell (Nat.le_refl _) _).setCell (Nat.le_refl _) _
  · have hM : Hid (srtM n G = 0) := by show _ = _; unfold srtM; rw [if_neg hc]
    have hcb : (featsC n G == 0) = false := by simpa using hc
    have t0 := hT1.cell 0 (by omega)
    have t1 := hT1.cell 1 (by omega)
    have z0 := (hT1 0 (by omega)).2
    have z1 := (hT1 1 (by omega)).2
    have HT1 : Hid (There w1 w.heap.size 2) := hT1
    clear hc hT1
    go_wp2_with fail
    obtain ⟨u0, u1⟩ := set2_at (W := w1) (r := w.heap.size) (i := 0) (j := 1) (u := .int .i64 (featsC n G)) (v := .slice none 0 0) (by omega) (by rw [t0]; rfl) (by rw [t1]; rfl)
    refine bodyPost_ret (KEY.out _ _ _ _ rfl u0 u1) rfl ⟨none, 0, G, by rw [hM.out], by rw [hM.out]; exact Nat.le_refl _, ?_, ?_⟩
    · unfold SortRes
      rw [hM.out]
      exact ⟨⟨.inl rfl, fun i hi => by omega, .inl rfl⟩, fun i hi => by omega⟩
    · exact (hB1.setCell (Nat.le_refl _) _).setCell (Nat.le_refl _) _
theorem impl_SortFeatures_any (b n cap : Nat) (G : Nat → Feat) (w : World) (hg : FsAt w b 0 n G) (hbl : b < w.heap.size) (hs : SmallFs n G) (hcap : n ≤ cap) :
    Calls Tryz.prog 19 #[.slice (some ⟨b, 0, none⟩) n cap] w fun e w' => ∃ a c T, e = .returned (.agg #[.int .i64 (featsC n G), .slice a (srtM n G) c]) ∧ srtM n G ≤ c ∧ SortRes w.heap.size w' a n G T ∧ Below w.heap.size w w' :=
  (impl_SortFeatures_cap b n cap G w hg hbl hs hcap).mono fun e w' ⟨a, c, T, h1, h2, h3, h4⟩ => ⟨a, c, T, h1, h2, h3.1, h4⟩
end Go.Proofs.YtgpdpodagoligaaGreat
/- The model's sort of features: the same features, sorted. -/

namespace Go.Proofs.YtgpdpodagoligaaGreat
open Go.RowKit
set_option linter.unusedSimpArgs false
set_option linter.unusedVariables false
set_option maxRecDepth 100000
end Go.Proofs.YtgpdpodagoligaaGreat
