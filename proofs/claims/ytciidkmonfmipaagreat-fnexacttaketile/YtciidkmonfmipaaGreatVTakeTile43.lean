/- Several texts in one. -/
import Derived.Test.YtciidkmonfmipaaGreatVTakeTile42
import Derived.Test.YtciidkmonfmipaaGreatVTakeTile18
import Derived.Test.YtciidkmonfmipaaGreatVTakeTile24
import Derived.Test.YtciidkmonfmipaaGreatVTakeTile19

/- A tile is taken out of a cache: the program. -/

namespace Go.Proofs.YtciidkmonfmipaaGreat
open Go.RowKit
set_option linter.unusedSimpArgs false
set_option linter.unusedVariables false
set_option maxRecDepth 100000

theorem leM (n : Nat) : n ≤ n + 1 + 1 := by omega
theorem agL_map (A : Nat → Kp) : ∀ n, agL A n = (List.range n).map (fun i => agK (A i) ((i : Int) + 1))
  | 0 => rfl
  | n + 1 => by rw [agL, agL_map A n, List.range_succ, List.map_append]; rfl
/-- The places of all tiles but that of a ref. -/
def lessI (n : Nat) (A : Nat → Kp) (z x y : Int) : List Nat := (List.range n).filter (fun i => !isK (A i) z x y)
theorem lessL_agL (A : Nat → Kp) (n : Nat) (z x y : Int) : lessL (agL A n) z x y = (lessI n A z x y).map (fun i => agK (A i) ((i : Int) + 1)) := by
  rw [agL_map]
  unfold lessL lessI
  rw [List.filter_map]
  rfl
theorem lessI_mem {n : Nat} {A : Nat → Kp} {z x y : Int} {i : Nat} (h : i ∈ lessI n A z x y) : i < n := by
  unfold lessI at h
  exact List.mem_range.1 (List.mem_filter.1 h).1
theorem lessI_len (n : Nat) (A : Nat → Kp) (z x y : Int) : (lessI n A z x y).length ≤ n := by
  have := List.length_filter_le (fun i => !isK (A i) z x y) (List.range n)
  simpa [lessI] using this
theorem featC_posM {id la ki wi : Int} {n : Nat} {X Y : Nat → Int} {lab : ByteArray} {pr : Int} (h : featC id la ki wi n X Y lab pr = 0) : 0 < n ∧ n ≤ 12 := by
  unfold featC at h
  by_cases h1 : rngB id la ki wi pr = true
  · by_cases h2 : sizeB ki n = true
    · unfold sizeB at h2
      by_cases k1 : ki = 1
      · rw [if_pos k1] at h2; simp at h2; omega
      · rw [if_neg k1] at h2
        by_cases k2 : ki = 2
        · rw [if_pos k2] at h2; simp [inB] at h2; omega
        · rw [if_neg k2] at h2; simp [inB] at h2; omega
    · simp [h1, h2] at h
  · simp [h1] at h
theorem SrcK_of {w : World} {b n : Nat} {A : Nat → Kp} (ha : KoAt w b n A) (hs : SmallKs n A) {i : Nat} (hi : i < n) (h0 : tC (A i) = 0) : SrcK w (A i) := by
  obtain ⟨_, ⟨fb, e1, e2, e3⟩, hids⟩ := ha.2 i hi
  have hr := tC_zero h0
  obtain ⟨_, hf, _⟩ := rtC_zero hr
  obtain ⟨h12, _, hfc⟩ := featsC_ok hf
  refine ⟨⟨fb, e1, e3, e2⟩, h12, fun j hj => (featC_posM (hfc j hj)).1, hs.2 i hi, ?_⟩
  have hm : (A i).m = 64 := by
    unfold tC at h0
    rw [if_pos hr] at h0
    by_cases hsame : sameI (A i).m (rtL (A i).z (A i).x (A i).y (A i).fn (A i).F).length (A i).I (nz (rtL (A i).z (A i).x (A i).y (A i).fn (A i).F)) = true
    · unfold sameI at hsame
      simp at hsame
      have hl : (rtL (A i).z (A i).x (A i).y (A i).fn (A i).F).length = 64 := by unfold rtL; rw [if_pos hr, rasK_len]
      omega
    · rw [if_neg hsame] at h0; cases h0
  rcases hids with h | ⟨ib, io, e, hl, hn⟩
  · omega
  · exact ⟨ib, io, e, hn, hl⟩
/-- An answer with a cache. -/
abbrev crcV (c s : Int) (v : Value) : Value := .agg #[.int .i64 c, .int .i64 s, v]
theorem There.belowK {W W' : World} {r n B : Nat} (h : There W r n) (hb : Below B W W') (hr : r < B) : There W' r n := fun o ho => by
  obtain ⟨⟨v, h1⟩, h2⟩ := h o ho
  exact ⟨⟨v, (hb.cell (p := ⟨r, o, none⟩) hr).trans h1⟩, (hb.frozen (p := ⟨r, o, none⟩) hr).trans h2⟩
theorem resTk {T : Array Value} {Wf : World} {r : Nat} {c s : Int} {v : Value} (hT : T[4]?.getD undef = .pointer (some ⟨r, 0, none⟩)) (h0 : Wf.cell? ⟨r, 0, none⟩ = some (.int .i64 c)) (h1 : Wf.cell? ⟨r, 1, none⟩ = some (.int .i64 s)) (h2 : Wf.cell? ⟨r, 2, none⟩ = some v) :
    (results Tryz.f23 T).run Tryz.prog Wf = .ok (crcV c s v) Wf := by
  simp [results, Tryz.results23, go_sem, hT, h0, h1, h2]
set_option maxHeartbeats 4000000 in
theorem impl_TakeTile_any (s : Int) (b n cap : Nat) (A : Nat → Kp) (z x y : Int) (w : World) (ha : KoAt w b n A) (hs : SmallKs n A) (hcap : ∀ i, i < n → (A i).fn ≤ (A i).fc) (hnc : n ≤ cap) (hI : I64 z ∧ I64 x ∧ I64 y) :
    Calls Tryz.prog 23 #[caV s (.slice (some ⟨b, 0, none⟩) n cap), refV z x y] w fun e w' => (withC s n A z x y ≠ 0 → e = .returned (crcV (withC s n A z x y) 0 (.slice none 0 0))) ∧ (withC s n A z x y = 0 → ∃ a c R, e = .returned (crcV 0 s (.slice a (lessI n A z x y).length c)) ∧ CaNew w' w.heap.size a (lessI n A z x y).length (fun j => A ((lessI n A z x y).getD j 0)) R) ∧ Below w.heap.size w w' := by
  have HF : Hid (∀ W, Below w.heap.size w W → Calls Tryz.prog 43 #[caV s (.slice (some ⟨b, 0, none⟩) n cap), refV z x y] W fun e w' => ∃ p, e = .returned (.tuple #[.pointer (some ⟨p, 0, none⟩), .int .i64 (withC s n A z x y)]) ∧ Below W.heap.size W w' ∧ (cacheC s n A = 0 → ShK w' W.heap.size p s n A)) := fun W h => shelfWith_any s b n cap A z x y W (ha.below h) hs hcap hnc hI.1 hI.2.1 hI.2.2
  have HA : Hid (KoAt w b n A) := ha
  have HS : Hid (SmallKs n A) := hs
  have HI : Hid (I64 z ∧ I64 x ∧ I64 y) := hI
  clear ha hs hcap hnc hI
  go_enter Tryz.func23, Tryz.ntmps23
  go_wp2_with fail
  generalize hW : (((w.alloc _).alloc _).alloc _ : World) = W
  have HB0 : Hid (Below w.heap.size w W) := by show Below _ _ _; subst hW; (repeat (first | exact Below.refl _ _ | assumption | refine Below.drew ?_ | refine bl_alloc ?_ _ | refine bl_then ?_ (by assumption) | refine Below.setCell ?_ (by first | omega | (simp; done) | (simp; omega)) _ | refine bl_store ?_ ?_ _ _))
  have HR : Hid (RK W (w.heap.size + 1) z x y) := by show RK _ _ _ _ _; subst hW; refine ⟨?_, ?_, ?_⟩ <;> simp [go_sem]
  have HT : Hid (There W (w.heap.size + 2) 3) := by
    show There _ _ _
    subst hW
    have := there3r ((w.alloc (.cells #[.int .i64 s, .slice (some ⟨b, 0, none⟩) n cap] 34)).alloc (.cells #[.int .i64 z, .int .i64 x, .int .i64 y] 39)) (.int .i64 0) (.int .i64 0) (.slice none 0 0) 36
    simpa using this
  have hsz : w.heap.size + 2 < W.heap.size := by subst hW; simp
  clear hW
  refine Calls.mono (HF.out W HB0.out) ?_
  rintro e w1 ⟨p, rfl, hb1, hK1⟩
  have HB1 : Hid (Below W.heap.size W w1) := hb1
  have HT1 : Hid (There w1 (w.heap.size + 2) 3) := HT.out.below hb1
  have HK1 : Hid (cacheC s n A = 0 → ShK w1 W.heap.size p s n A) := hK1
  obtain ⟨r0, r1, r2⟩ := HR.out.below hb1
  clear hb1 hK1 HF HT
  by_cases hc : withC s n A z x y = 0
  · have h0 : cacheC s n A = 0 := by
      unfold withC at hc
      by_cases h : cacheC s n A = 0
      · exact h
      · rw [if_neg h] at hc; exact absurd hc h
    have hall := cacheC_zero h0
    have hn10 : n ≤ 10 := by
      unfold cacheC at h0
      split at h0
      · rename_i hin
        split at h0
        · cases h0
        · rename_i hsn
          simp [inB] at hin
          omega
      · cases h0
    have HSf : Hid (Shf w1 W.heap.size p s (n : Int) (agL A n)) := (HK1.out h0).shf hall
    have HSr : Hid (∀ i, i < n → SrcK w (A i)) := fun i hi => SrcK_of HA.out HS.out hi (kC_zero (hall i hi)).1
    have HQ := (show Hid _ from Shf_take W.heap.size p s (n : Int) (agL A n) z x y w1 HSf.out HI.out)
    have HC : Hid (withC s n A z x y = 0) := hc
    rw [hc]
    clear hc h0 hall HK1 HSf
    go_wp2_with fail
    refine Calls.mono HQ.out ?_
    rintro e w2 ⟨rfl, hS2, hb2⟩
    have HB2 : Hid (Below W.heap.size W w2) := HB1.out.trans hb2
    have HT2 : Hid (There w2 (w.heap.size + 2) 3) := HT1.out.belowK hb2 hsz
    have HBw2 : Hid (Below w.heap.size w w2) := HB0.out.trans (HB2.out.mono (by omega))
    rw [lessL_agL] at hS2
    have hll : ((lessI n A z x y).map (fun i => agK (A i) ((i : Int) + 1))).length = (lessI n A z x y).length := by simp
    have hl10 := lessI_len n A z x y
    have HCa := (show Hid _ from shelfCache_any W.heap.size p s (n : Int) ((lessI n A z x y).map (fun i => agK (A i) ((i : Int) + 1))) (fun j => A ((lessI n A z x y).getD j 0)) w2 hS2 (by omega)
      (fun i a hi => by
        rw [List.getElem?_map] at hi
        cases he : (lessI n A z x y)[i]? with
        | none => rw [he] at hi; cases hi
        | some q =>
          rw [he] at hi
          simp at hi
          exact ⟨(q : Int) + 1, by simp [List.getD_eq_getElem?_getD, he, hi]⟩)
      (fun i hi => by
        have hi' : i < (lessI n A z x y).length := by simpa using hi
        have hm : (lessI n A z x y).getD i 0 ∈ lessI n A z x y := by
          rw [List.getD_eq_getElem?_getD, List.getElem?_eq_getElem hi']
          exact List.getElem_mem _
        exact (HSr.out _ (lessI_mem hm)).below HBw2.out))
    rw [hll] at HCa
    clear hS2 hb2 r0 r1 r2 HQ
    go_wp2_with fail
    refine Calls.mono HCa.out ?_
    rintro e w3 ⟨a, c, R, rfl, hN, hb3⟩
    have hT3 := HT2.out.below hb3
    have HT3 : Hid (There w3 (w.heap.size + 2) 3) := hT3
    have t0 := hT3.cell 0 (by omega)
    have t1 := hT3.cell 1 (by omega)
    have t2 := hT3.cell 2 (by omega)
    have f0 := (hT3 0 (by omega)).2
    have f1 := (hT3 1 (by omega)).2
    have f2 := (hT3 2 (by omega)).2
    have HN : Hid (CaNew w3 w2.heap.size a (lessI n A z x y).length (fun j => A ((lessI n A z x y).getD j 0)) R) := hN
    have HB3 : Hid (Below w.heap.size w w3) := bl_then HBw2.out hb3
    have hs2 := HB2.out.size
    have hs3 := hb3.size
    clear hN hb3 hT3 HCa
    go_wp2_with fail
    obtain ⟨q0, q1, q2⟩ := set3_atq (a := .int .i64 0) (b := .int .i64 s) (c := .slice a (lessI n A z x y).length c) HT3.out
    have hMM : MidB (w.heap.size + 2) (w.heap.size + 2 + 1) w3 (((w3.setCell ⟨w.heap.size + 2, 0, none⟩ (.int .i64 0)).setCell ⟨w.heap.size + 2, 1, none⟩ (.int .i64 s)).setCell ⟨w.heap.size + 2, 2, none⟩ (.slice a (lessI n A z x y).length c)) := (((MidB.refl _ _ _).set (Nat.le_refl _) (Nat.lt_succ_self _) _ _).set (Nat.le_refl _) (Nat.lt_succ_self _) _ _).set (Nat.le_refl _) (Nat.lt_succ_self _) _ _
    refine bodyPost_ret (resTk rfl q0 q1 q2) rfl ⟨fun h => absurd HC.out h, fun _ => ⟨a, c, R, rfl, ?_⟩, HB3.out.trans ((hMM.below (by omega)).mono (by omega))⟩
    rcases HN.out with h0 | ⟨g, M, e, hg, c1, c2, c3, c4, c5⟩
    · exact .inl h0
    · refine .inr ⟨g, M, e, by omega, fun j hj => ?_, hMM.there c2 (.inr (by omega)), c3, fun j hj => ⟨(c4 j hj).1, (c4 j hj).2.mid hMM (by have := marks_le c4 j (by omega); omega)⟩, Nat.le_trans c5 hMM.size⟩
      obtain ⟨a0, a1, a2, a3, a4⟩ := c1 j hj
      exact ⟨hMM.cell a0 (.inr (by omega)), hMM.cell a1 (.inr (by omega)), hMM.cell a2 (.inr (by omega)), hMM.cell a3 (.inr (by omega)), hMM.cell a4 (.inr (by omega))⟩
  · have hcb : (withC s n A z x y == 0) = false := by simpa using hc
    have hT' := HT1.out
    have t0 := hT'.cell 0 (by omega)
    have t1 := hT'.cell 1 (by omega)
    have t2 := hT'.cell 2 (by omega)
    have f0 := (hT' 0 (by omega)).2
    have f1 := (hT' 1 (by omega)).2
    have f2 := (hT' 2 (by omega)).2
    have HBw : Hid (Below w.heap.size w w1) := bl_then HB0.out HB1.out
    have HC : Hid (withC s n A z x y ≠ 0) := hc
    clear hT' r0 r1 r2 HK1 hc
    generalize hrc : withC s n A z x y = rc at *
    go_wp2_with fail
    obtain ⟨q0, q1, q2⟩ := set3_atq (a := .int .i64 rc) (b := .int .i64 0) (c := .slice none 0 0) HT1.out
    refine bodyPost_ret (resTk rfl q0 q1 q2) rfl ⟨fun _ => by rw [hrc], fun h => absurd (hrc.symm.trans h) HC.out, ?_⟩
    exact ((HBw.out.setCell (leM _) _).setCell (leM _) _).setCell (leM _) _
end Go.Proofs.YtciidkmonfmipaaGreat
/- Tiles and caches that are the same are found equal, whatever memory they have. -/

namespace Go.Proofs.YtciidkmonfmipaaGreat
open Go.RowKit
set_option linter.unusedSimpArgs false
set_option linter.unusedVariables false
set_option maxRecDepth 100000

/-- A kept tile that is the same as another. -/
def KpSm (w : World) (k r : Kp) : Prop := (r.z = k.z ∧ r.x = k.x ∧ r.y = k.y) ∧ r.fn = k.fn ∧ r.m = k.m ∧ (IsFs w r.fa k.fn r.F ∧ ∀ i, i < k.fn → (r.F i).same (k.F i)) ∧ IsNs w r.ia k.m k.I
theorem KpSm.below {w w' : World} {k r : Kp} (h : KpSm w k r) (hb : Below w.heap.size w w') : KpSm w' k r := by
  obtain ⟨h1, h2, h3, ⟨h4, h5⟩, h6⟩ := h
  exact ⟨h1, h2, h3, ⟨h4.below hb, h5⟩, h6.below hb⟩
/-- Kept tiles that are the same as others. -/
def KsSm (w : World) (a : Option Addr) (n : Nat) (K R : Nat → Kp) : Prop := n = 0 ∨ ∃ g, a = some ⟨g, 0, none⟩ ∧ g < w.heap.size ∧ ∀ i, i < n → KpAt w g (i * 5) (R i) ∧ KpSm w (K i) (R i)
theorem KsSm.below {w w' : World} {a : Option Addr} {n : Nat} {K R : Nat → Kp} (h : KsSm w a n K R) (hb : Below w.heap.size w w') : KsSm w' a n K R :=
  h.imp id (fun ⟨g, e, h1, h2⟩ => ⟨g, e, Nat.lt_of_lt_of_le h1 hb.size, fun i hi => ⟨(h2 i hi).1.below hb h1, (h2 i hi).2.below hb⟩⟩)
set_option maxHeartbeats 1000000 in
theorem eqTile_sm (z x y : Int) (a a' : Option Addr) (n cap cap' : Nat) (G H : Nat → Feat) (w : World) (hg : IsFs w a n G) (hh : IsFs w a' n H) (hs : ∀ i, i < n → (G i).same (H i)) (hn : n ≤ 1048576) (hk : ∀ i, i < n → (H i).n ≤ 1048576) :
    Calls Tryz.prog 14 #[.agg #[.int .i64 z, .int .i64 x, .int .i64 y, .slice a n cap], .agg #[.int .i64 z, .int .i64 x, .int .i64 y, .slice a' n cap']] w fun e w' => e = .returned (.bool true) ∧ Below w.heap.size w w' := by
  have HG : Hid (IsFs w a n G) := hg
  have HH : Hid (IsFs w a' n H) := hh
  have HS : Hid (∀ i, i < n → (G i).same (H i)) := hs
  have HK : Hid (∀ i, i < n → (H i).n ≤ 1048576) := hk
  clear hg hh hs hk
  go_enter Tryz.func14, Tryz.ntmps14
  go_wp2_with fail
  generalize hW : ((w.alloc _).alloc _ : World) = W
  have hB : Below w.heap.size w W := by subst hW; (repeat (first | exact Below.refl _ _ | assumption | refine Below.drew ?_ | refine bl_alloc ?_ _ | refine bl_then ?_ (by assumption) | refine Below.setCell ?_ (by first | omega | (simp; done) | (simp; omega)) _ | refine bl_store ?_ ?_ _ _))
  have HB : Hid (Below w.heap.size w W) := hB
  have c0 : W.cell? ⟨w.heap.size, 3, none⟩ = some (.slice a n cap) := by subst hW; simp [go_sem]
  have c1 : W.cell? ⟨w.heap.size + 1, 3, none⟩ = some (.slice a' n cap') := by subst hW; simp [go_sem]
  clear hW hB
  refine (eqRef_any z x y _).mono ?_
  rintro e w1 ⟨rfl, hb1⟩
  have d0 := bl_cellN hb1 c0
  have d1 := bl_cellN hb1 c1
  have hB1 := bl_then HB.out hb1
  have HB1 : Hid (Below w.heap.size w w1) := hB1
  have HC := eqFs_any a a' n cap cap' G H w1 (HG.out.below hB1) (HH.out.below hB1) HS.out hn HK.out
  clear c0 c1 hb1 hB1
  go_wp2_with fail
  refine Calls.mono HC ?_
  rintro e w2 ⟨rfl, hb2⟩
  go_wp2
  go_ret
  exact ⟨rfl, bl_then HB1.out hb2⟩
set_option maxHeartbeats 4000000 in
theorem eqKeptSm_any (k a c : Kp) (w : World) (ha : KpSm w k a) (hc : KpSm w k c) (hs : SmallK k) :
    Calls Tryz.prog 71 #[kpV a, kpV c] w fun e w' => e = .returned (.bool true) ∧ Below w.heap.size w w' := by
  obtain ⟨⟨e1, e2, e3⟩, e4, e5, ⟨hF, hFs⟩, hN⟩ := ha
  obtain ⟨⟨d1, d2, d3⟩, d4, d5, ⟨hG, hGs⟩, hM⟩ := hc
  unfold kpV
  rw [e1, e2, e3, e4, e5, d1, d2, d3, d4, d5]
  have HEt : Hid (∀ W, Below w.heap.size w W → Calls Tryz.prog 14 #[.agg #[.int .i64 k.z, .int .i64 k.x, .int .i64 k.y, .slice a.fa k.fn a.fc], .agg #[.int .i64 k.z, .int .i64 k.x, .int .i64 k.y, .slice c.fa k.fn c.fc]] W fun e w' => e = .returned (.bool true) ∧ Below W.heap.size W w') := fun W h =>
    eqTile_sm k.z k.x k.y a.fa c.fa k.fn a.fc c.fc a.F c.F W (hF.below h) (hG.below h) (fun i hi => Feat.same_trans (hFs i hi) (Feat.same_symm (hGs i hi))) hs.1.1 (fun i hi => by rw [(hGs i hi).2.2.2.2.1]; exact (hs.1.2 i hi).1)
  have HN : Hid (IsNs w a.ia k.m k.I) := hN
  have HM : Hid (IsNs w c.ia k.m k.I) := hM
  have hm := hs.2
  clear hF hG hFs hGs hN hM hs e1 e2 e3 e4 e5 d1 d2 d3 d4 d5
  generalize a.fa = afa at *
  generalize c.fa = cfa at *
  generalize a.fc = afc at *
  generalize c.fc = cfc at *
  generalize a.ia = aia at *
  generalize c.ia = cia at *
  generalize a.ic = aic at *
  generalize c.ic = cic at *
  go_enter Tryz.func71, Tryz.ntmps71
  go_wp2_with fail
  generalize hW : ((w.alloc _).alloc _ : World) = W
  have hB0 : Below w.heap.size w W := by subst hW; (repeat (first | exact Below.refl _ _ | assumption | refine Below.drew ?_ | refine bl_alloc ?_ _ | refine bl_then ?_ (by assumption) | refine Below.setCell ?_ (by first | omega | (simp; done) | (simp; omega)) _ | refine bl_store ?_ ?_ _ _))
  have c4 : ∀ W', Below W.heap.size W W' → W'.cell? ⟨w.heap.size, 4, none⟩ = some (.slice aia k.m aic) := fun W' h => by rw [h.cell (by subst hW; simp; omega)]; subst hW; simp [go_sem]
  have d4 : ∀ W', Below W.heap.size W W' → W'.cell? ⟨w.heap.size + 1, 4, none⟩ = some (.slice cia k.m cic) := fun W' h => by rw [h.cell (by subst hW; simp)]; subst hW; simp [go_sem]
  clear hW
  refine (HEt.out W hB0).mono ?_
  rintro e w1 ⟨rfl, hb1⟩
  have g4 := c4 w1 hb1
  have l4 := d4 w1 hb1
  have hB1 : Below w.heap.size w w1 := bl_then hB0 hb1
  clear c4 d4 hb1 hB0
  go_wp2_with fail
  refine (eqInt64S_any _ _ k.m _ _ k.I _ (HN.out.below hB1) (HM.out.below hB1) hm).mono ?_
  rintro e w2 ⟨rfl, hb2⟩
  have HB2 : Hid (Below w.heap.size w w2) := bl_then hB1 hb2
  clear hb2
  go_wp2
  go_ret
  exact ⟨rfl, HB2.out⟩
set_option maxHeartbeats 4000000 in
theorem eqKeptSSm_any (a' c' : Option Addr) (n ca cc : Nat) (K A H : Nat → Kp) (w : World) (ha : KsSm w a' n K A) (hh : KsSm w c' n K H) (hs : SmallKs n K) :
    Calls Tryz.prog 35 #[.slice a' n ca, .slice c' n cc] w fun e w' => e = .returned (.bool true) ∧ Below w.heap.size w w' := by
  have HA : Hid (KsSm w a' n K A) := ha
  have HH : Hid (KsSm w c' n K H) := hh
  have HS : Hid (SmallKs n K) := hs
  have hn := hs.1
  clear ha hh hs
  go_enter Tryz.func35, Tryz.ntmps35
  go_wp2
  go_loopw [5] (fun i wr => ∃ k : Nat, k ≤ n ∧ i = .int .i64 k ∧ Below w.heap.size w wr) (fun i _ => n - (intOf i).toNat)
  case atStart => exact ⟨0, by omega, rfl, Below.refl _ _⟩
  case round =>
    obtain ⟨k, hk, rfl, hB⟩ := hrel
    by_cases hlt : k < n
    · rcases HA.out.below hB with h0 | ⟨b, rfl, hbl, hAr⟩
      · omega
      rcases HH.out.below hB with h0 | ⟨d, rfl, hdl, hHr⟩
      · omega
      have HAr : Hid (∀ W', Below wr.heap.size wr W' → KpAt W' b (k * 5) (A k) ∧ KpSm W' (K k) (A k)) := fun W' h => ⟨(hAr k hlt).1.below h hbl, (hAr k hlt).2.below h⟩
      have HHr : Hid (∀ W', Below wr.heap.size wr W' → KpAt W' d (k * 5) (H k) ∧ KpSm W' (K k) (H k)) := fun W' h => ⟨(hHr k hlt).1.below h hdl, (hHr k hlt).2.below h⟩
      clear hAr hHr
      have a0 : ∀ W', Below wr.heap.size wr W' → W'.cell? ⟨b, k * 5, none⟩ = some (.int .i64 (A k).z) := fun W' h => (HAr.out W' h).1.1
      have a1 : ∀ W', Below wr.heap.size wr W' → W'.cell? ⟨b, k * 5 + 1, none⟩ = some (.int .i64 (A k).x) := fun W' h => (HAr.out W' h).1.2.1
      have a2 : ∀ W', Below wr.heap.size wr W' → W'.cell? ⟨b, k * 5 + 2, none⟩ = some (.int .i64 (A k).y) := fun W' h => (HAr.out W' h).1.2.2.1
      have a3 : ∀ W', Below wr.heap.size wr W' → W'.cell? ⟨b, k * 5 + 3, none⟩ = some (.slice (A k).fa (A k).fn (A k).fc) := fun W' h => (HAr.out W' h).1.2.2.2.1
      have a4 : ∀ W', Below wr.heap.size wr W' → W'.cell? ⟨b, k * 5 + 4, none⟩ = some (.slice (A k).ia (A k).m (A k).ic) := fun W' h => (HAr.out W' h).1.2.2.2.2
      have h0 : ∀ W', Below wr.heap.size wr W' → W'.cell? ⟨d, k * 5, none⟩ = some (.int .i64 (H k).z) := fun W' h => (HHr.out W' h).1.1
      have h1 : ∀ W', Below wr.heap.size wr W' → W'.cell? ⟨d, k * 5 + 1, none⟩ = some (.int .i64 (H k).x) := fun W' h => (HHr.out W' h).1.2.1
      have h2 : ∀ W', Below wr.heap.size wr W' → W'.cell? ⟨d, k * 5 + 2, none⟩ = some (.int .i64 (H k).y) := fun W' h => (HHr.out W' h).1.2.2.1
      have h3 : ∀ W', Below wr.heap.size wr W' → W'.cell? ⟨d, k * 5 + 3, none⟩ = some (.slice (H k).fa (H k).fn (H k).fc) := fun W' h => (HHr.out W' h).1.2.2.2.1
      have h4 : ∀ W', Below wr.heap.size wr W' → W'.cell? ⟨d, k * 5 + 4, none⟩ = some (.slice (H k).ia (H k).m (H k).ic) := fun W' h => (HHr.out W' h).1.2.2.2.2
      have HEQ : Hid (∀ W', Below wr.heap.size wr W' → Calls Tryz.prog 71 #[kpV (A k), kpV (H k)] W' fun e w' => e = .returned (.bool true) ∧ Below W'.heap.size W' w') := fun W' h => eqKeptSm_any (K k) (A k) (H k) W' (HAr.out W' h).2 (HHr.out W' h).2 (HS.out.2 k hlt)
      have HB : Hid (Below w.heap.size w wr) := hB
      have HLT : Hid (k < n) := hlt
      have hr : Below wr.heap.size wr wr := Below.refl _ _
      clear hB
      have hi : (k : Int) < (n : Int) := by omega
      have hi0 : (0 : Int) ≤ (k : Int) := by omega
      go_wp2
      go_region_held3 (fun W' => Below wr.heap.size wr W') ((repeat (first | exact Below.refl _ _ | assumption | refine Below.drew ?_ | refine bl_alloc ?_ _ | refine bl_then ?_ (by assumption) | refine Below.setCell ?_ (by first | omega | (simp; done) | (simp; omega)) _ | refine bl_store ?_ ?_ _ _)))
        (first
          | (go_at_call 71; refine (HEQ.out _ (by assumption)).mono ?_; rintro e w' ⟨rfl, hb⟩)
          | fail)
      go_wp2
      go_roundw
      case rel => exact ⟨k + 1, by have := HLT.out; omega, by go_num, bl_then HB.out (by assumption)⟩
      case measure => have := HLT.out; simp [intOf]; omega
    · go_wp2
      go_ret
      exact ⟨rfl, hB⟩
set_option maxHeartbeats 2000000 in
theorem eqCacheSm_any (s : Int) (a c : Option Addr) (n ca cc : Nat) (K A H : Nat → Kp) (w : World) (ha : KsSm w a n K A) (hh : KsSm w c n K H) (hs : SmallKs n K) :
    Calls Tryz.prog 13 #[caV s (.slice a n ca), caV s (.slice c n cc)] w fun e w' => e = .returned (.bool true) ∧ Below w.heap.size w w' := by
  have HA : Hid (KsSm w a n K A) := ha
  have HH : Hid (KsSm w c n K H) := hh
  clear ha hh
  go_enter Tryz.func13, Tryz.ntmps13
  go_wp2_with fail
  generalize hW : ((w.alloc _).alloc _ : World) = W
  have hB0 : Below w.heap.size w W := by subst hW; (repeat (first | exact Below.refl _ _ | assumption | refine Below.drew ?_ | refine bl_alloc ?_ _ | refine bl_then ?_ (by assumption) | refine Below.setCell ?_ (by first | omega | (simp; done) | (simp; omega)) _ | refine bl_store ?_ ?_ _ _))
  clear hW
  refine (eqKeptSSm_any a c n ca cc K A H W (HA.out.below hB0) (HH.out.below hB0) hs).mono ?_
  rintro e w1 ⟨rfl, hb1⟩
  go_wp2
  go_ret
  exact ⟨rfl, bl_then hB0 hb1⟩
set_option maxHeartbeats 2000000 in
theorem eqCacheResult_any (co s : Int) (a c : Option Addr) (n ca cc : Nat) (K A H : Nat → Kp) (w : World) (ha : KsSm w a n K A) (hh : KsSm w c n K H) (hs : SmallKs n K) :
    Calls Tryz.prog 12 #[.agg #[.int .i64 co, .int .i64 s, .slice a n ca], .agg #[.int .i64 co, .int .i64 s, .slice c n cc]] w fun e w' => e = .returned (.bool true) ∧ Below w.heap.size w w' := by
  have HA : Hid (KsSm w a n K A) := ha
  have HH : Hid (KsSm w c n K H) := hh
  clear ha hh
  go_enter Tryz.func12, Tryz.ntmps12
  go_wp2_with fail
  generalize hW : ((w.alloc _).alloc _ : World) = W
  have hB0 : Below w.heap.size w W := by subst hW; (repeat (first | exact Below.refl _ _ | assumption | refine Below.drew ?_ | refine bl_alloc ?_ _ | refine bl_then ?_ (by assumption) | refine Below.setCell ?_ (by first | omega | (simp; done) | (simp; omega)) _ | refine bl_store ?_ ?_ _ _))
  clear hW
  refine (eqCacheSm_any s a c n ca cc K A H W (HA.out.below hB0) (HH.out.below hB0) hs).mono ?_
  rintro e w1 ⟨rfl, hb1⟩
  go_wp2
  go_ret
  exact ⟨rfl, bl_then hB0 hb1⟩
end Go.Proofs.YtciidkmonfmipaaGreat
