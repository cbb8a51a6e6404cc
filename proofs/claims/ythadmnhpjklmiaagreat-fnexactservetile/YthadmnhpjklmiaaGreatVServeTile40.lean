/- l7Build of the model: of the features, in order and simple, those that reach the tile. -/
import Derived.Test.YthadmnhpjklmiaaGreatVServeTile39
import Derived.Test.YthadmnhpjklmiaaGreatVServeTile3
import Derived.Test.YthadmnhpjklmiaaGreatVServeTile9
namespace Go.Proofs.YthadmnhpjklmiaaGreat
open Go.RowKit
set_option linter.unusedSimpArgs false
set_option linter.unusedVariables false
set_option maxRecDepth 100000

theorem map_getD_range (l : List Nat) : (List.range l.length).map (fun j => l.getD j 0) = l := by
  apply List.ext_getElem
  · simp
  · intro i h1 h2
    simp [List.getD_eq_getElem?_getD, h2]
/-- Which places of the sorted ones a tile has. -/
noncomputable def ksM (z x y : Int) (n : Nat) (G : Nat → Feat) (k : Nat) : List Nat := (List.range k).filter fun j => rchF z x y (G ((srtF n G).getD j 0))
theorem ksM_all {z x y : Int} {n : Nat} {G : Nat → Feat} : chs z x y n G = (ksM z x y n G n).map fun j => (srtF n G).getD j 0 := by
  have hlen : (srtF n G).length = n := srtK_len _ _ _
  unfold chs ksM
  conv => lhs; rw [← map_getD_range (srtF n G), hlen]
  rw [List.filter_map]
  rfl
theorem ksM_yes {z x y : Int} {n k : Nat} {G : Nat → Feat} (h : rchF z x y (G ((srtF n G).getD k 0)) = true) : ksM z x y n G (k + 1) = ksM z x y n G k ++ [k] := by
  unfold ksM
  rw [List.range_succ, List.filter_append, List.filter_cons_of_pos (by exact h)]
  rfl
theorem ksM_no {z x y : Int} {n k : Nat} {G : Nat → Feat} (h : rchF z x y (G ((srtF n G).getD k 0)) = false) : ksM z x y n G (k + 1) = ksM z x y n G k := by
  unfold ksM
  rw [List.range_succ, List.filter_append, List.filter_cons_of_neg (by simpa using h), List.filter_nil, List.append_nil]
theorem ksM_le {z x y : Int} {n k : Nat} {G : Nat → Feat} : (ksM z x y n G k).length ≤ k := by
  refine Nat.le_trans (List.length_filter_le _ _) ?_
  simp
theorem ksM_lt {z x y : Int} {n k : Nat} {G : Nat → Feat} (i : Nat) (hi : i < (ksM z x y n G k).length) : (ksM z x y n G k).getD i 0 < k := by
  have e : (ksM z x y n G k).getD i 0 = (ksM z x y n G k)[i] := by simp [List.getD_eq_getElem?_getD, hi]
  rw [e]
  have hm : (ksM z x y n G k)[i] ∈ ksM z x y n G k := List.getElem_mem hi
  exact List.mem_range.1 (List.mem_filter.1 hm).1
theorem ksM_get {z x y : Int} {n : Nat} {G : Nat → Feat} (i : Nat) (hi : i < (ksM z x y n G n).length) : (chs z x y n G).getD i 0 = (srtF n G).getD ((ksM z x y n G n).getD i 0) 0 := by
  rw [ksM_all]
  simp [List.getD_eq_getElem?_getD, hi]
theorem FRow.put {base r o : Nat} {w : World} {v u : Value} {H : Nat → Feat} {l : List Nat} (h : FRow base w v H l) (hr : r < base) : FRow base (w.setCell ⟨r, o, none⟩ u) v H l := ownsRow_otherB h hr
/-- What is held while a feature is put behind the others. -/
def SkB (P : Nat) (W : World) (g k : Nat) (f : Feat) (W' : World) : Prop := Below P W W' ∧ FeatAt W' g (k * 7) f.id f.la f.ki f.wi (.slice f.a f.n f.cap) f.lab f.pr
theorem sim_meet {z x y : Int} {f t : Feat} (h : simOf z f t) : meetB (mnTo (px (dblL t.X t.Y t.n)) (dblL t.X t.Y t.n).length - reachI t.wi z) (mnTo (py (dblL t.X t.Y t.n)) (dblL t.X t.Y t.n).length - reachI t.wi z) (mxTo (px (dblL t.X t.Y t.n)) (dblL t.X t.Y t.n).length + reachI t.wi z) (mxTo (py (dblL t.X t.Y t.n)) (dblL t.X t.Y t.n).length + reachI t.wi z) (centI z (x * 8)) (centI z (y * 8)) (centI z (x * 8 + 7)) (centI z (y * 8 + 7)) = rchF z x y f := by
  obtain ⟨e1, e2, e3, e4, e5, e6, e7, e8, e9⟩ := h
  unfold rchF rchB rb1 rb2 rb3 rb4
  have e0 : ∀ v : Int, zI 0 v = v := fun v => if_pos rfl
  simp only [e0]
  rw [e4, e5, e6, e7]
theorem sim_okB {z : Int} {f t : Feat} (h : simOf z f t) (hf : okC f) (hz : zoomB z = true) : 0 < t.n ∧ t.n ≤ 12 ∧ (∀ i, i < t.n → inW (t.X i) (t.Y i) = true) ∧ (0 ≤ t.wi ∧ t.wi ≤ 3) := by
  obtain ⟨e1, e2, e3, e4, e5, e6, e7, e8, e9⟩ := h
  obtain ⟨h1, h2, h3, h4⟩ := simL_facts hf hz
  exact ⟨by rw [e5]; exact h4, by rw [e5]; exact h2, fun i _ => by rw [e6, e7]; exact h3.at i, by rw [e4]; exact (featC_rng hf).2.2.1⟩
theorem StayP.set {P base : Nat} (w : World) (o : Nat) (v : Value) : StayP P base w (w.setCell ⟨P, o, none⟩ v) := fun b o' v' hb hp hc => by rw [set1_other (fun e => hp (by injection e with e; exact e.symm))]; exact hc
theorem SrcB.set4 {lo base r n : Nat} {w : World} {a : Option Addr} {T : Nat → Feat} {v0 v1 v2 v3 : Value} (h : SrcB lo base w a n T) (hr : r < lo) : SrcB lo base ((((w.setCell ⟨r, 0, none⟩ v0).setCell ⟨r, 1, none⟩ v1).setCell ⟨r, 2, none⟩ v2).setCell ⟨r, 3, none⟩ v3) a n T := h.stay (((StayP.set w 0 v0).trans (StayP.set _ 1 v1)).trans ((StayP.set _ 2 v2).trans (StayP.set _ 3 v3))) hr
theorem SrcB.set5 {lo base r n : Nat} {w : World} {a : Option Addr} {T : Nat → Feat} {v0 v1 v2 v3 v4 : Value} (h : SrcB lo base w a n T) (hr : r < lo) : SrcB lo base (((((w.setCell ⟨r, 0, none⟩ v0).setCell ⟨r, 1, none⟩ v1).setCell ⟨r, 2, none⟩ v2).setCell ⟨r, 3, none⟩ v3).setCell ⟨r, 4, none⟩ v4) a n T := (h.set4 hr).stay (StayP.set _ 4 v4) hr
set_option maxHeartbeats 16000000 in
theorem l7Build_any (z x y : Int) (b n cap : Nat) (G : Nat → Feat) (w : World) (hg : FsAt w b 0 n G) (hbl : b < w.heap.size) (hs : SmallFs n G) (hf : featsC n G = 0) (hr : refB z x y = true) :
    Calls Tryz.prog 23 #[.slice (some ⟨b, 0, none⟩) n cap, refV z x y] w fun e w' => ∃ a c T, e = .returned (.agg #[.int .i64 z, .int .i64 x, .int .i64 y, .slice a (chs z x y n G).length c]) ∧ SrcB w.heap.size w'.heap.size w' a (chs z x y n G).length T ∧ (∀ i, i < (chs z x y n G).length → (T i).same (btG z x y n G i)) ∧ (chs z x y n G).length ≤ c ∧ Below w.heap.size w w' := by
  obtain ⟨i0, hi, hz0, hz1, hz2⟩ := info_parts info_if
  have hz : zoomB z = true := by simp [refB] at hr; exact hr.1
  have hn12 := (featsC_ok hf).1
  have HOK : Hid (∀ i, i < n → okC (G ((srtF n G).getD i 0))) := fun i hi => (featsC_ok hf).2.2 _ (srtF_lt n G i hi)
  have HLA : Hid (∀ W, Below w.heap.size w W → Calls Tryz.prog 46 #[.slice (some ⟨b, 0, none⟩) n cap, .int .i64 z] W fun e w' => ∃ g c T, e = .returned (.slice (some ⟨g, 0, none⟩) n c) ∧ W.heap.size ≤ g ∧ g < w'.heap.size ∧ FsAt w' g 0 n T ∧ (∀ i, i < n → simOf z (G ((srtF n G).getD i 0)) (T i)) ∧ (∀ i, i < n → ∀ q o, (T i).a = some ⟨q, o, none⟩ → W.heap.size ≤ q) ∧ Below W.heap.size W w') := fun W hW => l4All_any b n cap G z W (hg.below hW hbl) (Nat.lt_of_lt_of_le hbl hW.size) hs hf hz
  have HR : Hid (refB z x y = true) := hr
  have HKA : Hid (chs z x y n G = (ksM z x y n G n).map fun j => (srtF n G).getD j 0) := ksM_all
  clear hg hs hf hr
  go_enter Tryz.func23, Tryz.ntmps23
  go_wp2_with fail
  generalize hW : ((w.alloc _).alloc _ : World) = W
  have HB0 : Hid (Below w.heap.size w W) := by show Below _ _ _; subst hW; (repeat (first | exact Below.refl _ _ | assumption | refine Below.drew ?_ | refine bl_alloc ?_ _ | refine bl_then ?_ (by assumption) | refine Below.setCell ?_ (by first | omega | (simp; done) | (simp; omega)) _ | refine bl_store ?_ ?_ _ _))
  have hlW : W.heap.size = w.heap.size + 2 := by subst hW; simp
  have HT : Hid (There W (w.heap.size + 1) 4) := by
    show There _ _ _
    subst hW
    have := there4 (w.alloc (.cells #[.int .i64 z, .int .i64 x, .int .i64 y] 26)) (.int .i64 0) (.int .i64 0) (.int .i64 0) (.slice none 0 0) 29
    simpa using this
  have c0 : ∀ W', Below W.heap.size W W' → W'.cell? ⟨w.heap.size, 0, none⟩ = some (.int .i64 z) := fun W' h => by rw [h.cell (by simp; omega)]; subst hW; simp [go_sem]
  have c1 : ∀ W', Below W.heap.size W W' → W'.cell? ⟨w.heap.size, 1, none⟩ = some (.int .i64 x) := fun W' h => by rw [h.cell (by simp; omega)]; subst hW; simp [go_sem]
  have c2 : ∀ W', Below W.heap.size W W' → W'.cell? ⟨w.heap.size, 2, none⟩ = some (.int .i64 y) := fun W' h => by rw [h.cell (by simp; omega)]; subst hW; simp [go_sem]
  have HC : Hid (∀ W', Below W.heap.size W W' → W'.cell? ⟨w.heap.size, 0, none⟩ = some (.int .i64 z) ∧ W'.cell? ⟨w.heap.size, 1, none⟩ = some (.int .i64 x) ∧ W'.cell? ⟨w.heap.size, 2, none⟩ = some (.int .i64 y)) := fun W' h => ⟨c0 W' h, c1 W' h, c2 W' h⟩
  clear hW c0 c1 c2
  refine Calls.mono (HLA.out _ HB0.out) ?_
  rintro e w1 ⟨g, c, T, rfl, hgg, hgl, hFT, hsim, hlo, hb1⟩
  have HSIM : Hid (∀ i, i < n → simOf z (G ((srtF n G).getD i 0)) (T i)) := hsim
  have HN0 : Hid (∀ i, i < n → 0 < (T i).n) := fun i hi => by rw [(hsim i hi).2.2.2.2.1]; exact (simL_facts (HOK.out i hi) hz).2.2.2
  have HSRC1 : Hid (SrcB W.heap.size w1.heap.size w1 (some ⟨g, 0, none⟩) n T) := .inr ⟨g, rfl, ⟨hgg, hgl⟩, fun i hi => by
    obtain ⟨hF, hP⟩ := hFT i hi
    rw [Nat.zero_add] at hF
    refine ⟨hF, ?_⟩
    rcases hP with h0 | ⟨q, o, ea, hl, hp⟩
    · exact absurd h0 (Nat.ne_of_gt (HN0.out i hi))
    · exact ⟨q, o, ea, ⟨hlo i hi q o ea, hl⟩, hp⟩⟩
  have HB1 : Hid (Below W.heap.size W w1) := hb1
  obtain ⟨z0, z1, z2⟩ := HC.out _ hb1
  have hs1 := hb1.size
  clear hFT hsim hlo hb1 HLA
  go_wp2_with fail
  generalize hV : (w1.alloc _ : World) = w3
  have hb3 : Below w1.heap.size w1 w3 := by subst hV; (repeat (first | exact Below.refl _ _ | assumption | refine Below.drew ?_ | refine bl_alloc ?_ _ | refine bl_then ?_ (by assumption) | refine Below.setCell ?_ (by first | omega | (simp; done) | (simp; omega)) _ | refine bl_store ?_ ?_ _ _))
  have hl3 : w3.heap.size = w1.heap.size + 1 := by subst hV; simp
  have HTP3 : Hid (There w3 w1.heap.size 4) := by
    show There _ _ _
    subst hV
    exact there4 w1 _ _ _ _ _
  have HSh3 : Hid (ShAt w3 w1.heap.size z x y (.slice none 0 0)) := by
    show ShAt _ _ _ _ _ _
    subst hV
    refine ⟨?_, ?_, ?_, ?_⟩ <;> simp [go_sem]
  clear hV z0 z1 z2
  have HSRC : Hid (SrcB W.heap.size w1.heap.size w3 (some ⟨g, 0, none⟩) n T) := HSRC1.out.up hb3 (Nat.le_refl _)
  have HB3 : Hid (Below W.heap.size W w3) := bl_then HB1.out hb3
  clear HSRC1 hb3
  obtain ⟨P, hPP⟩ : ∃ P, P = w1.heap.size := ⟨_, rfl⟩
  rw [← hPP] at HSRC HSh3 HTP3 ⊢
  have hP3 : w3.heap.size = P + 1 := by omega
  have hPW : W.heap.size ≤ P := by omega
  have hgP : g < P := by omega
  clear hPP hl3 hs1
  obtain ⟨base, hbase⟩ : ∃ base, base = P + 1 := ⟨_, rfl⟩
  have HO0 : Hid (FRow base w3 (.slice none 0 0) T []) := ⟨by simp [cellsF], .inl ⟨rfl, rfl⟩⟩
  go_loopw [7] (fun i wr => ∃ (k : Nat) (va : Option Addr) (vc : Nat), k ≤ n ∧ i = .int .i64 (k : Int) ∧ ShAt wr P z x y (.slice va (ksM z x y n G k).length vc) ∧ There wr P 4 ∧ FRow base wr (.slice va (ksM z x y n G k).length vc) T (ksM z x y n G k) ∧ Below P w3 wr) (fun i _ => n - (intOf i).toNat)
  case atStart => exact ⟨0, none, 0, by omega, rfl, HSh3.out, HTP3.out, HO0.out, Below.refl _ _⟩
  case round =>
    obtain ⟨k, va, vc, hkn, rfl, hSr, hTr, hOr, hBr⟩ := hrel
    have HSr : Hid (ShAt wr P z x y (.slice va (ksM z x y n G k).length vc)) := hSr
    have HTr : Hid (There wr P 4) := hTr
    have HOr : Hid (FRow base wr (.slice va (ksM z x y n G k).length vc) T (ksM z x y n G k)) := hOr
    have HBr : Hid (Below P w3 wr) := hBr
    have hszr : w3.heap.size ≤ wr.heap.size := hBr.size
    have hk12 : (ksM z x y n G k).length ≤ 12 := by have := ksM_le (z := z) (x := x) (y := y) (n := n) (G := G) (k := k); omega
    have HBW : Hid (Below W.heap.size W wr) := HB3.out.trans (hBr.mono hPW)
    clear hSr hTr hOr hBr HSh3 HTP3 HO0
    by_cases hlt : k < n
    · rcases HSRC.out.up HBr.out (Nat.le_refl _) with h0 | ⟨g', eg, _, hFs⟩
      · omega
      injection eg with eg
      injection eg with eg
      subst eg
      obtain ⟨hFk, q, o, eqa, ⟨hq1, hq2⟩, hpt⟩ := hFs k hlt
      have HOF := (show Hid _ from sim_okB (HSIM.out k hlt) (HOK.out k hlt) hz)
      have HLB : Hid (∀ W', Below wr.heap.size wr W' → Calls Tryz.prog 48 #[.pointer (some ⟨g, k * 7, none⟩), .int .i64 z] W' fun e w' => e = .returned (wideV (dblL (T k).X (T k).Y (T k).n) (reachI (T k).wi z)) ∧ Below W'.heap.size W' w') := fun W' h => by
        have hF' := hFk
        rw [eqa] at hF'
        exact l4Box_any g (T k).id (T k).la (T k).ki (T k).wi z q o (T k).n (T k).cap (T k).X (T k).Y (T k).lab (T k).pr W' (hF'.below h (by omega)) (hpt.below h (by omega)) (Nat.lt_of_lt_of_le (by omega) h.size) HOF.out.1 (by have := HOF.out.2.1; omega) HOF.out.2.2.1 HOF.out.2.2.2 hz
      have HLX : Hid (∀ W', Calls Tryz.prog 49 #[refV z x y] W' fun e w' => e = .returned (ctrV z x y) ∧ Below W'.heap.size W' w') := fun W' => l7Box_any z x y W' HR.out
      have HME := (show Hid _ from sim_meet (x := x) (y := y) (HSIM.out k hlt))
      have hfk := hFk
      unfold wideV at HLB
      unfold ctrV at HLX
      generalize mnTo (px (dblL (T k).X (T k).Y (T k).n)) (dblL (T k).X (T k).Y (T k).n).length - reachI (T k).wi z = r1 at *
      generalize mnTo (py (dblL (T k).X (T k).Y (T k).n)) (dblL (T k).X (T k).Y (T k).n).length - reachI (T k).wi z = r2 at *
      generalize mxTo (px (dblL (T k).X (T k).Y (T k).n)) (dblL (T k).X (T k).Y (T k).n).length + reachI (T k).wi z = r3 at *
      generalize mxTo (py (dblL (T k).X (T k).Y (T k).n)) (dblL (T k).X (T k).Y (T k).n).length + reachI (T k).wi z = r4 at *
      generalize centI z (x * 8) = a1 at *
      generalize centI z (y * 8) = a2 at *
      generalize centI z (x * 8 + 7) = a3 at *
      generalize centI z (y * 8 + 7) = a4 at *
      have c0 : ∀ W', Below wr.heap.size wr W' → W'.cell? ⟨w.heap.size, 0, none⟩ = some (.int .i64 z) := fun W' h => (HC.out W' (bl_then HBW.out h)).1
      have c1 : ∀ W', Below wr.heap.size wr W' → W'.cell? ⟨w.heap.size, 1, none⟩ = some (.int .i64 x) := fun W' h => (HC.out W' (bl_then HBW.out h)).2.1
      have c2 : ∀ W', Below wr.heap.size wr W' → W'.cell? ⟨w.heap.size, 2, none⟩ = some (.int .i64 y) := fun W' h => (HC.out W' (bl_then HBW.out h)).2.2
      have hi1 : (k : Int) < (n : Int) := by omega
      have hi0 : (0 : Int) ≤ (k : Int) := by omega
      have HFK : Hid (FeatAt wr g (k * 7) (T k).id (T k).la (T k).ki (T k).wi (.slice (T k).a (T k).n (T k).cap) (T k).lab (T k).pr) := hFk
      have hgr : g < wr.heap.size := by omega
      have hPr : P < wr.heap.size := by omega
      clear hFk hfk hpt hFs
      go_wp2_with fail
      go_region_held3 (fun W' => Below wr.heap.size wr W') ((repeat (first | exact Below.refl _ _ | assumption | refine Below.drew ?_ | refine bl_alloc ?_ _ | refine bl_then ?_ (by assumption) | refine Below.setCell ?_ (by first | omega | (simp; done) | (simp; omega)) _ | refine bl_store ?_ ?_ _ _)))
        (first
          | (go_at_call 48; refine Calls.mono (HLB.out _ (by assumption)) ?_; rintro e w4 ⟨rfl, hb4⟩)
          | (go_at_call 49; refine Calls.mono (HLX.out _) ?_; rintro e w5 ⟨rfl, hb5⟩)
          | (go_at_call 47; refine (l1Meet_any _ _ _ _ _ _ _ _ _).mono ?_; rintro e w6 ⟨rfl, hb6⟩))
      have hBm : Below wr.heap.size wr w6 := by assumption
      generalize w6 = wm at *
      rw [HME.out]
      clear HLB HLX HME c0 c1 c2
      have hbm : Below wr.heap.size wr wm := hBm
      have HSm : Hid (ShAt wm P z x y (.slice va (ksM z x y n G k).length vc)) := HSr.out.keep hbm hPr
      have HTm : Hid (There wm P 4) := HTr.out.below hbm
      have HOm : Hid (FRow base wm (.slice va (ksM z x y n G k).length vc) T (ksM z x y n G k)) := HOr.out.below hbm
      have HBm : Hid (Below P w3 wm) := HBr.out.trans (hbm.mono (by omega))
      have HFm : Hid (FeatAt wm g (k * 7) (T k).id (T k).la (T k).ki (T k).wi (.slice (T k).a (T k).n (T k).cap) (T k).lab (T k).pr) := HFK.out.below hbm hgr
      have hsm := hbm.size
      clear hBm hbm HSr HTr HOr HBr HFK
      cases hp : rchF z x y (G ((srtF n G).getD k 0))
      · have hnx := ksM_no hp
        have HO6 : Hid (FRow base wm (.slice va (ksM z x y n G (k + 1)).length vc) T (ksM z x y n G (k + 1))) := by rw [hnx]; exact HOm.out
        have HS6 : Hid (ShAt wm P z x y (.slice va (ksM z x y n G (k + 1)).length vc)) := by rw [hnx]; exact HSm.out
        clear hnx hp
        go_wp2_with fail
        go_roundw
        case rel => exact ⟨k + 1, va, vc, by omega, by go_num, HS6.out, HTm.out, HO6.out, HBm.out⟩
        case measure => simp [intOf]; omega
      · have hnx := ksM_yes hp
        have HOB : Hid (∀ b, (Value.slice va (ksM z x y n G k).length vc).ownBlock = some b → base ≤ b ∧ b < wm.heap.size) := fun b hb => World.ownsRow.lt HOm.out b hb
        have HNX : Hid (ksM z x y n G (k + 1) = ksM z x y n G k ++ [k]) := hnx
        have hnl : (ksM z x y n G (k + 1)).length = (ksM z x y n G k).length + 1 := by rw [hnx]; simp
        clear hnx hp
        generalize hvn : (ksM z x y n G k).length = vn at *
        go_wp2_with fail
        have HPW : Hid (∀ W', Below wm.heap.size wm W' → SkB P wm g k (T k) W') := fun W' h => ⟨h.mono (by omega), HFm.out.below h (by omega)⟩
        have d0 : ∀ W', SkB P wm g k (T k) W' → W'.cell? ⟨g, k * 7, none⟩ = some (.int .i64 (T k).id) := fun W' h => h.2.1
        have d1 : ∀ W', SkB P wm g k (T k) W' → W'.cell? ⟨g, k * 7 + 1, none⟩ = some (.int .i64 (T k).la) := fun W' h => h.2.2.1
        have d2 : ∀ W', SkB P wm g k (T k) W' → W'.cell? ⟨g, k * 7 + 2, none⟩ = some (.int .i64 (T k).ki) := fun W' h => h.2.2.2.1
        have d3 : ∀ W', SkB P wm g k (T k) W' → W'.cell? ⟨g, k * 7 + 3, none⟩ = some (.int .i64 (T k).wi) := fun W' h => h.2.2.2.2.1
        have d4 : ∀ W', SkB P wm g k (T k) W' → W'.cell? ⟨g, k * 7 + 4, none⟩ = some (.slice (T k).a (T k).n (T k).cap) := fun W' h => h.2.2.2.2.2.1
        have d5 : ∀ W', SkB P wm g k (T k) W' → W'.cell? ⟨g, k * 7 + 5, none⟩ = some (.string (T k).lab) := fun W' h => h.2.2.2.2.2.2.1
        have d6 : ∀ W', SkB P wm g k (T k) W' → W'.cell? ⟨g, k * 7 + 6, none⟩ = some (.int .i64 (T k).pr) := fun W' h => h.2.2.2.2.2.2.2
        refine wp_region_noPanic ?_
        refine wp_region_held_drew (S := fun W' => SkB P wm g k (T k) W') (by kernel_rfl) (HPW.out _ (by (repeat (first | exact Below.refl _ _ | assumption | refine Below.drew ?_ | refine bl_alloc ?_ _ | refine bl_then ?_ (by assumption) | refine Below.setCell ?_ (by first | omega | (simp; done) | (simp; omega)) _ | refine bl_store ?_ ?_ _ _)))) (fun hHeld => ?_)
        have hX0 : SkB P wm g k (T k) wm.drew := hHeld
        have hb0 : Below wm.heap.size wm wm.drew := by (repeat (first | exact Below.refl _ _ | assumption | refine Below.drew ?_ | refine bl_alloc ?_ _ | refine bl_then ?_ (by assumption) | refine Below.setCell ?_ (by first | omega | (simp; done) | (simp; omega)) _ | refine bl_store ?_ ?_ _ _))
        refine takeD (i := 0) (d := some 29) (v := ?va0) rfl rfl (by kernel_rfl) (by kernel_rfl) (by kernel_rfl) (fun _ _ _ h => h) (Or.inl ⟨by rfl, ?hya0⟩) hX0 ?_
        case hya0 => (intro w hSw; (try dsimp only at hSw); go_simp <;> with_reducible rfl)
        try simp only [Act.put, List.setIfInBounds_toArray, List.set_cons_zero, List.set_cons_succ]
        refine takeD (i := 2) (d := some 31) (v := ?va2) rfl rfl (by kernel_rfl) (by kernel_rfl) (by kernel_rfl) (fun _ _ _ h => h) (Or.inl ⟨by rfl, ?hya2⟩) hX0 ?_
        case hya2 => (intro w hSw; (try dsimp only at hSw); go_simp <;> with_reducible rfl)
        try simp only [Act.put, List.setIfInBounds_toArray, List.set_cons_zero, List.set_cons_succ]
        refine takeD (i := 3) (d := some 32) (v := ?va3) rfl rfl (by kernel_rfl) (by kernel_rfl) (by kernel_rfl) (fun _ _ _ h => h) (Or.inl ⟨by rfl, ?hya3⟩) hX0 ?_
        case hya3 => (intro w hSw; (try dsimp only at hSw); go_simp <;> with_reducible rfl)
        try simp only [Act.put, List.setIfInBounds_toArray, List.set_cons_zero, List.set_cons_succ]
        refine takeD (i := 4) (d := some 33) (v := ?va4) rfl rfl (by kernel_rfl) (by kernel_rfl) (by kernel_rfl) (fun _ _ _ h => h) (Or.inl ⟨by rfl, ?hya4⟩) hX0 ?_
        case hya4 => (intro w hSw; (try dsimp only at hSw); go_simp <;> with_reducible rfl)
        try simp only [Act.put, List.setIfInBounds_toArray, List.set_cons_zero, List.set_cons_succ]
        refine takeD (i := 5) (d := some 34) (v := ?va5) rfl rfl (by kernel_rfl) (by kernel_rfl) (by kernel_rfl) (fun _ _ _ h => h) (Or.inl ⟨by rfl, ?hya5⟩) hX0 ?_
        case hya5 => (intro w hSw; (try dsimp only at hSw); go_simp <;> with_reducible rfl)
        try simp only [Act.put, List.setIfInBounds_toArray, List.set_cons_zero, List.set_cons_succ]
        refine wpAnyH_ready (rs := [1, 6]) (by kernel_rfl) (by simp) ?_
        refine (AllReadyH.cons rfl (fun K hK => ?_) (AllReadyH.cons rfl (fun K hK => ?_) AllReadyH.nil))
        · rw [if_pos (by rfl)]
          have s3 := (HSm.out.keep hb0 (by omega)).2.2.2
          go_simp
          refine hK.out _ _ hX0 (fun hHeld => ?_)
          clear hK K s3
          try simp only [Act.put, List.setIfInBounds_toArray, List.set_cons_zero, List.set_cons_succ]
          refine wpAnyH_ready (rs := [6]) (by kernel_rfl) (by simp) ?_
          refine (AllReadyH.cons rfl (fun K hK => ?_) AllReadyH.nil)
          rw [if_pos (by rfl)]
          go_simp
          generalize hwA : (World.alloc _ _ : World) = wBp
          have hdp : Below wm.heap.size wm wBp.drew := by subst hwA; (repeat (first | exact Below.refl _ _ | assumption | refine Below.drew ?_ | refine bl_alloc ?_ _ | refine bl_then ?_ (by assumption) | refine Below.setCell ?_ (by first | omega | (simp; done) | (simp; omega)) _ | refine bl_store ?_ ?_ _ _))
          have HNC : Hid (∀ j u, (fcell (T k))[j]? = some u → wBp.drew.cell? ((⟨wm.heap.size, 0, none⟩ : Addr).add j) = some u) := by
            intro j u hq
            have hq7 : j < 7 := (List.getElem?_eq_some_iff.1 hq).1
            have hc : j = 0 ∨ j = 1 ∨ j = 2 ∨ j = 3 ∨ j = 4 ∨ j = 5 ∨ j = 6 := by omega
            subst hwA
            rcases hc with rfl | rfl | rfl | rfl | rfl | rfl | rfl <;> (simp [fcell, eqa] at hq; subst hq; simp [Addr.add, go_sem, eqa])
          clear hwA
          have hXAp := HPW.out _ hdp
          refine hK.out _ _ hXAp (fun hHeld => ?_)
          clear hK K
          try simp only [Act.put, List.setIfInBounds_toArray, List.set_cons_zero, List.set_cons_succ]
          have hOA := HOm.out.below hdp
          refine wpAnyH_ready (rs := [7]) (by kernel_rfl) (by simp) ?_
          refine (AllReadyH.cons rfl (fun K hK => ?_) AllReadyH.nil)
          refine step_append_own rfl (.tmp 30) (.tmp 35) 27 rfl base 55 i0 (.agg #[.int .i64 0, .int .i64 0, .int .i64 0, .int .i64 0, .slice none 0 0, .string ⟨#[]⟩, .int .i64 0]) 7 80 Tryz.underlying27 hi hz0 hz1 hz2 rfl (by decide) (.slice va vn vc) vn (cellsF T (ksM z x y n G k)) rfl ?c6 ⟨wm.heap.size, 0, none⟩ 1 1 (fcell (T k)) rfl ?c0 ?c1 ?c2 ?c3 ?c4 ?c5 ?_
          case c6 =>
            have := hOA
            unfold FRow at this
            rw [hvn] at this
            exact this
          case c0 => rfl
          case c1 => exact HNC.out
          case c2 => exact fcell_one _
          case c3 => unfold maxLen; omega
          case c4 => omega
          case c5 => have := (hdp).size; omega
          intro v' w4 hown' hgrow hnil
          obtain ⟨g4, c4, hv4⟩ : ∃ g4 c4, v' = .slice (some ⟨g4, 0, none⟩) (vn + 1) c4 := by
            obtain ⟨_, h2 | ⟨g', cp, cur, hv, _⟩⟩ := hown'
            · first | exact absurd h2.2 (by omega) | (have := hnil.1 h2.1; simp at this)
            · exact ⟨g', cp, hv⟩
          subst hv4
          have HF4 : Hid (FRow base w4 (.slice (some ⟨g4, 0, none⟩) (vn + 1) c4) T (ksM z x y n G (k + 1))) := by
            show FRow _ _ _ _ _
            unfold FRow
            rw [hnl, HNX.out, cellsF_app, cellsF_one]
            exact hown'
          have hKB : Below base wBp.drew w4 := (Below.refl base wBp.drew).grown hgrow (by have := (hdp).size; omega) (fun r hr => (HOB.out r hr).1)
          have HB4 : Hid (Below P w3 w4) := (HBm.out.trans ((hdp).mono (by omega))).trans (hKB.mono (by omega))
          have HS4 : Hid (ShAt w4 P z x y (.slice va vn vc)) := (HSm.out.keep hdp (by omega)).keep hKB (by omega)
          have hT4 : There w4 P 4 := There.belowB' (HTm.out.below hdp) hKB (by omega)
          have hX4 : SkB P wm g k (T k) w4 := ⟨((hdp).mono (by omega)).trans (hKB.mono (by omega)), (HFm.out.below hdp (by omega)).below hKB (by omega)⟩
          clear hown' hnil hOA hgrow hKB
          show K (Act.put _ (some 36) _) w4
          refine hK.out _ _ hX4 (fun hHeld => ?_)
          clear hK K
          try simp only [Act.put, List.setIfInBounds_toArray, List.set_cons_zero, List.set_cons_succ]
          refine takeD (i := 8) (d := some 37) (v := ?vep8) rfl rfl (by kernel_rfl) (by kernel_rfl) (by kernel_rfl) (fun _ _ _ h => h) (Or.inl ⟨by rfl, ?hyep8⟩) hX4 ?_
          case hyep8 => (intro w hSw; (try dsimp only at hSw); go_simp <;> with_reducible rfl)
          try simp only [Act.put, List.setIfInBounds_toArray, List.set_cons_zero, List.set_cons_succ]
          refine wpAnyH_ready (rs := [9]) (by kernel_rfl) (by simp) ?_
          refine (AllReadyH.cons rfl (fun K hK => ?_) AllReadyH.nil)
          rw [if_pos (by rfl)]
          have t3 := hT4.cell 3 (by omega)
          have f3 := (hT4 3 (by omega)).2
          go_simp
          have hne : ∀ j, j ≠ 3 → (⟨P, 3, none⟩ : Addr) ≠ ⟨P, j, none⟩ := fun j hj e => hj (by injection e with _ e; exact e.symm)
          obtain ⟨u3, hu3⟩ := (hT4 3 (by omega)).1
          have HS5 : Hid (ShAt (w4.setCell ⟨P, 3, none⟩ (.slice (some ⟨g4, 0, none⟩) (vn + 1) c4)) P z x y (.slice (some ⟨g4, 0, none⟩) (vn + 1) c4)) := ⟨by rw [set1_other (hne 0 (by omega))]; exact HS4.out.1, by rw [set1_other (hne 1 (by omega))]; exact HS4.out.2.1, by rw [set1_other (hne 2 (by omega))]; exact HS4.out.2.2.1, set1_same hu3⟩
          have HB5 : Hid (Below P w3 (w4.setCell ⟨P, 3, none⟩ (.slice (some ⟨g4, 0, none⟩) (vn + 1) c4))) := HB4.out.setCell (Nat.le_refl _) _
          have hX5 : SkB P wm g k (T k) (w4.setCell ⟨P, 3, none⟩ (.slice (some ⟨g4, 0, none⟩) (vn + 1) c4)) := ⟨hX4.1.setCell (Nat.le_refl _) _, by
            have hnb : ∀ j : Nat, (⟨P, 3, none⟩ : Addr) ≠ ⟨g, j, none⟩ := fun j e => by injection e; omega
            obtain ⟨e0, e1, e2, e3, e4, e5, e6⟩ := hX4.2
            refine ⟨?_, ?_, ?_, ?_, ?_, ?_, ?_⟩ <;> (rw [set1_other (hnb _)]; assumption)⟩
          refine hK.out _ _ hX5 (fun hHeld => ?_)
          clear hK K
          try simp only [Act.put, List.setIfInBounds_toArray, List.set_cons_zero, List.set_cons_succ]
          refine wpAnyH_done (by kernel_rfl) ?_ _
          refine NoPanic.normal ?_
          have HO5 : Hid (FRow base (w4.setCell ⟨P, 3, none⟩ (.slice (some ⟨g4, 0, none⟩) (vn + 1) c4)) (.slice (some ⟨g4, 0, none⟩) (vn + 1) c4) T (ksM z x y n G (k + 1))) := HF4.out.put (by omega)
          have HT5 : Hid (There (w4.setCell ⟨P, 3, none⟩ (.slice (some ⟨g4, 0, none⟩) (vn + 1) c4)) P 4) := hT4.set _ _
          clear hX4 hX5 HF4 HS4 HB4 hT4 t3 f3 hne hu3
          generalize w4.setCell ⟨P, 3, none⟩ (.slice (some ⟨g4, 0, none⟩) (vn + 1) c4) = w7 at *
          clear d0 d1 d2 d3 d4 d5 d6 HPW
          go_wp2_with fail
          go_roundw
          case rel => exact ⟨k + 1, some ⟨g4, 0, none⟩, c4, by omega, by go_num, by rw [hnl]; exact HS5.out, HT5.out, by rw [hnl]; exact HO5.out, HB5.out⟩
          case measure => simp [intOf]; omega
        · rw [if_pos (by rfl)]
          go_simp
          generalize hwA : (World.alloc _ _ : World) = wBq
          have hdq : Below wm.heap.size wm wBq.drew := by subst hwA; (repeat (first | exact Below.refl _ _ | assumption | refine Below.drew ?_ | refine bl_alloc ?_ _ | refine bl_then ?_ (by assumption) | refine Below.setCell ?_ (by first | omega | (simp; done) | (simp; omega)) _ | refine bl_store ?_ ?_ _ _))
          have HNC : Hid (∀ j u, (fcell (T k))[j]? = some u → wBq.drew.cell? ((⟨wm.heap.size, 0, none⟩ : Addr).add j) = some u) := by
            intro j u hq
            have hq7 : j < 7 := (List.getElem?_eq_some_iff.1 hq).1
            have hc : j = 0 ∨ j = 1 ∨ j = 2 ∨ j = 3 ∨ j = 4 ∨ j = 5 ∨ j = 6 := by omega
            subst hwA
            rcases hc with rfl | rfl | rfl | rfl | rfl | rfl | rfl <;> (simp [fcell, eqa] at hq; subst hq; simp [Addr.add, go_sem, eqa])
          clear hwA
          have hXAq := HPW.out _ hdq
          refine hK.out _ _ hXAq (fun hHeld => ?_)
          clear hK K
          try simp only [Act.put, List.setIfInBounds_toArray, List.set_cons_zero, List.set_cons_succ]
          refine wpAnyH_ready (rs := [1]) (by kernel_rfl) (by simp) ?_
          refine (AllReadyH.cons rfl (fun K hK => ?_) AllReadyH.nil)
          rw [if_pos (by rfl)]
          have s3 := (HSm.out.keep hdq (by omega)).2.2.2
          go_simp
          refine hK.out _ _ hXAq (fun hHeld => ?_)
          clear hK K s3
          try simp only [Act.put, List.setIfInBounds_toArray, List.set_cons_zero, List.set_cons_succ]
          have hOA := HOm.out.below hdq
          refine wpAnyH_ready (rs := [7]) (by kernel_rfl) (by simp) ?_
          refine (AllReadyH.cons rfl (fun K hK => ?_) AllReadyH.nil)
          refine step_append_own rfl (.tmp 30) (.tmp 35) 27 rfl base 55 i0 (.agg #[.int .i64 0, .int .i64 0, .int .i64 0, .int .i64 0, .slice none 0 0, .string ⟨#[]⟩, .int .i64 0]) 7 80 Tryz.underlying27 hi hz0 hz1 hz2 rfl (by decide) (.slice va vn vc) vn (cellsF T (ksM z x y n G k)) rfl ?c6 ⟨wm.heap.size, 0, none⟩ 1 1 (fcell (T k)) rfl ?c0 ?c1 ?c2 ?c3 ?c4 ?c5 ?_
          case c6 =>
            have := hOA
            unfold FRow at this
            rw [hvn] at this
            exact this
          case c0 => rfl
          case c1 => exact HNC.out
          case c2 => exact fcell_one _
          case c3 => unfold maxLen; omega
          case c4 => omega
          case c5 => have := (hdq).size; omega
          intro v' w4 hown' hgrow hnil
          obtain ⟨g4, c4, hv4⟩ : ∃ g4 c4, v' = .slice (some ⟨g4, 0, none⟩) (vn + 1) c4 := by
            obtain ⟨_, h2 | ⟨g', cp, cur, hv, _⟩⟩ := hown'
            · first | exact absurd h2.2 (by omega) | (have := hnil.1 h2.1; simp at this)
            · exact ⟨g', cp, hv⟩
          subst hv4
          have HF4 : Hid (FRow base w4 (.slice (some ⟨g4, 0, none⟩) (vn + 1) c4) T (ksM z x y n G (k + 1))) := by
            show FRow _ _ _ _ _
            unfold FRow
            rw [hnl, HNX.out, cellsF_app, cellsF_one]
            exact hown'
          have hKB : Below base wBq.drew w4 := (Below.refl base wBq.drew).grown hgrow (by have := (hdq).size; omega) (fun r hr => (HOB.out r hr).1)
          have HB4 : Hid (Below P w3 w4) := (HBm.out.trans ((hdq).mono (by omega))).trans (hKB.mono (by omega))
          have HS4 : Hid (ShAt w4 P z x y (.slice va vn vc)) := (HSm.out.keep hdq (by omega)).keep hKB (by omega)
          have hT4 : There w4 P 4 := There.belowB' (HTm.out.below hdq) hKB (by omega)
          have hX4 : SkB P wm g k (T k) w4 := ⟨((hdq).mono (by omega)).trans (hKB.mono (by omega)), (HFm.out.below hdq (by omega)).below hKB (by omega)⟩
          clear hown' hnil hOA hgrow hKB
          show K (Act.put _ (some 36) _) w4
          refine hK.out _ _ hX4 (fun hHeld => ?_)
          clear hK K
          try simp only [Act.put, List.setIfInBounds_toArray, List.set_cons_zero, List.set_cons_succ]
          refine takeD (i := 8) (d := some 37) (v := ?veq8) rfl rfl (by kernel_rfl) (by kernel_rfl) (by kernel_rfl) (fun _ _ _ h => h) (Or.inl ⟨by rfl, ?hyeq8⟩) hX4 ?_
          case hyeq8 => (intro w hSw; (try dsimp only at hSw); go_simp <;> with_reducible rfl)
          try simp only [Act.put, List.setIfInBounds_toArray, List.set_cons_zero, List.set_cons_succ]
          refine wpAnyH_ready (rs := [9]) (by kernel_rfl) (by simp) ?_
          refine (AllReadyH.cons rfl (fun K hK => ?_) AllReadyH.nil)
          rw [if_pos (by rfl)]
          have t3 := hT4.cell 3 (by omega)
          have f3 := (hT4 3 (by omega)).2
          go_simp
          have hne : ∀ j, j ≠ 3 → (⟨P, 3, none⟩ : Addr) ≠ ⟨P, j, none⟩ := fun j hj e => hj (by injection e with _ e; exact e.symm)
          obtain ⟨u3, hu3⟩ := (hT4 3 (by omega)).1
          have HS5 : Hid (ShAt (w4.setCell ⟨P, 3, none⟩ (.slice (some ⟨g4, 0, none⟩) (vn + 1) c4)) P z x y (.slice (some ⟨g4, 0, none⟩) (vn + 1) c4)) := ⟨by rw [set1_other (hne 0 (by omega))]; exact HS4.out.1, by rw [set1_other (hne 1 (by omega))]; exact HS4.out.2.1, by rw [set1_other (hne 2 (by omega))]; exact HS4.out.2.2.1, set1_same hu3⟩
          have HB5 : Hid (Below P w3 (w4.setCell ⟨P, 3, none⟩ (.slice (some ⟨g4, 0, none⟩) (vn + 1) c4))) := HB4.out.setCell (Nat.le_refl _) _
          have hX5 : SkB P wm g k (T k) (w4.setCell ⟨P, 3, none⟩ (.slice (some ⟨g4, 0, none⟩) (vn + 1) c4)) := ⟨hX4.1.setCell (Nat.le_refl _) _, by
            have hnb : ∀ j : Nat, (⟨P, 3, none⟩ : Addr) ≠ ⟨g, j, none⟩ := fun j e => by injection e; omega
            obtain ⟨e0, e1, e2, e3, e4, e5, e6⟩ := hX4.2
            refine ⟨?_, ?_, ?_, ?_, ?_, ?_, ?_⟩ <;> (rw [set1_other (hnb _)]; assumption)⟩
          refine hK.out _ _ hX5 (fun hHeld => ?_)
          clear hK K
          try simp only [Act.put, List.setIfInBounds_toArray, List.set_cons_zero, List.set_cons_succ]
          refine wpAnyH_done (by kernel_rfl) ?_ _
          refine NoPanic.normal ?_
          have HO5 : Hid (FRow base (w4.setCell ⟨P, 3, none⟩ (.slice (some ⟨g4, 0, none⟩) (vn + 1) c4)) (.slice (some ⟨g4, 0, none⟩) (vn + 1) c4) T (ksM z x y n G (k + 1))) := HF4.out.put (by omega)
          have HT5 : Hid (There (w4.setCell ⟨P, 3, none⟩ (.slice (some ⟨g4, 0, none⟩) (vn + 1) c4)) P 4) := hT4.set _ _
          clear hX4 hX5 HF4 HS4 HB4 hT4 t3 f3 hne hu3
          generalize w4.setCell ⟨P, 3, none⟩ (.slice (some ⟨g4, 0, none⟩) (vn + 1) c4) = w7 at *
          clear d0 d1 d2 d3 d4 d5 d6 HPW
          go_wp2_with fail
          go_roundw
          case rel => exact ⟨k + 1, some ⟨g4, 0, none⟩, c4, by omega, by go_num, by rw [hnl]; exact HS5.out, HT5.out, by rw [hnl]; exact HO5.out, HB5.out⟩
          case measure => simp [intOf]; omega
    · obtain rfl : k = n := by omega
      have hlen : (chs z x y k G).length = (ksM z x y k G k).length := by rw [HKA.out]; simp
      have HSB : Hid (SrcB W.heap.size wr.heap.size wr va (ksM z x y k G k).length (fun i => T ((ksM z x y k G k).getD i 0)) ∧ (ksM z x y k G k).length ≤ vc) := by
        rcases HOr.out.at with ⟨hv, hl⟩ | ⟨g2, c2, hv, hg2, hgl2, hc2, _, hF2⟩
        · rw [hl]
          exact ⟨.inl rfl, Nat.zero_le _⟩
        · injection hv with e1 e2 e3
          subst e1 e3
          refine ⟨.inr ⟨g2, rfl, ⟨by omega, hgl2⟩, fun i hi => ⟨hF2 i hi, ?_⟩⟩, hc2⟩
          rcases HSRC.out.up HBr.out (Nat.le_refl _) with h0 | ⟨g', eg, _, hFs⟩
          · have := ksM_lt i hi; omega
          obtain ⟨_, q, o, eqa, ⟨hq1, hq2⟩, hpt⟩ := hFs _ (ksM_lt i hi)
          exact ⟨q, o, eqa, ⟨by omega, by omega⟩, hpt⟩
      have HSAM : Hid (∀ i, i < (ksM z x y k G k).length → (T ((ksM z x y k G k).getD i 0)).same (btG z x y k G i)) := fun i hi => by
        unfold btG
        rw [ksM_get i hi]
        exact bF_sim (HSIM.out _ (ksM_lt i hi))
      have HTR : Hid (There wr (w.heap.size + 1) 4) := There.belowB' (HT.out.below HB3.out) HBr.out (by omega)
      obtain ⟨z0, z1, z2, z3⟩ := HSr.out
      have hT9 := HTR.out
      have t0 := hT9.cell 0 (by omega)
      have t1 := hT9.cell 1 (by omega)
      have t2 := hT9.cell 2 (by omega)
      have t3 := hT9.cell 3 (by omega)
      have f0 := (hT9 0 (by omega)).2
      have f1 := (hT9 1 (by omega)).2
      have f2 := (hT9 2 (by omega)).2
      have f3 := (hT9 3 (by omega)).2
      have HBw : Hid (Below w.heap.size w wr) := bl_then HB0.out HBW.out
      have hPr : P < wr.heap.size := by omega
      clear hT9
      go_wp2_with fail
      obtain ⟨q0, q1, q2, q3⟩ := set4_at (a := .int .i64 z) (b := .int .i64 x) (c := .int .i64 y) (d := .slice va (ksM z x y k G k).length vc) HTR.out
      have hle : w.heap.size ≤ w.heap.size + 1 := Nat.le_succ _
      refine bodyPost_ret (v := .agg #[.int .i64 z, .int .i64 x, .int .i64 y, .slice va (ksM z x y k G k).length vc]) (by simp [results, Tryz.results23, go_sem, q0, q1, q2, q3]) rfl ⟨va, vc, fun i => T ((ksM z x y k G k).getD i 0), ?_, ?_, ?_, ?_, ?_⟩
      · rw [hlen]
      · rw [hlen]
        have h := (HSB.out.1.set4 (r := w.heap.size + 1) (v0 := .int .i64 z) (v1 := .int .i64 x) (v2 := .int .i64 y) (v3 := .slice va (ksM z x y k G k).length vc) (by omega)).wide HB0.out.size
        simpa using h
      · rw [hlen]; exact HSAM.out
      · rw [hlen]; exact HSB.out.2
      · exact (((HBw.out.setCell hle _).setCell hle _).setCell hle _).setCell hle _
end Go.Proofs.YthadmnhpjklmiaaGreat
