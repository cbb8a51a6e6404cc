/- Several texts in one. -/
import Derived.Test.YthadmnhpjklmiaaGreatVServeTile36
import Derived.Test.YthadmnhpjklmiaaGreatVServeTile38
import Derived.Test.YthadmnhpjklmiaaGreatVServeTile34

/- What BuildTile tells, as an answer that owns its memory. -/

namespace Go.Proofs.YthadmnhpjklmiaaGreat
open Go.RowKit
set_option linter.unusedSimpArgs false
set_option linter.unusedVariables false
set_option maxRecDepth 100000

/-- A feature as it is at a zoom. -/
noncomputable def bF (z : Int) (f : Feat) : Feat := ⟨f.id, f.la, f.ki, f.wi, none, (simL z f).length, 0, px (simL z f), py (simL z f), f.lab, f.pr⟩
theorem bF_sim {z : Int} {f t : Feat} (h : simOf z f t) : t.same (bF z f) := by
  obtain ⟨h1, h2, h3, h4, h5, h6, h7, h8, h9⟩ := h
  exact ⟨h1, h2, h3, h4, h5, h6, h7, h8, h9⟩
theorem bF_same {z : Int} {f g : Feat} (h : f.same g) : bF z f = bF z g := by
  unfold bF
  rw [simL_same h]
  obtain ⟨h1, h2, h3, h4, h5, h6, h7, h8, h9⟩ := h
  rw [h1, h2, h3, h4, h8, h9]
theorem rchF_same {z x y : Int} {f g : Feat} (h : f.same g) : rchF z x y f = rchF z x y g := by
  unfold rchF
  rw [simL_same h, h.2.2.2.1]
theorem srtF_sameB {n : Nat} {G F : Nat → Feat} (h : ∀ i, i < n → (G i).same (F i)) : srtF n G = srtF n F := srtK_congr n (fun j hj => ⟨(h j hj).2.1, (h j hj).1⟩)
theorem srtF_memB {n : Nat} {G : Nat → Feat} {j : Nat} (hj : j ∈ srtF n G) : j < n := by
  have hlen : (srtF n G).length = n := srtK_len _ _ _
  obtain ⟨i, hi, e⟩ := List.getElem_of_mem hj
  have := srtF_lt n G i (by omega)
  rw [List.getD_eq_getElem?_getD, List.getElem?_eq_getElem hi] at this
  simp at this
  omega
theorem chs_same {z x y : Int} {n : Nat} {G F : Nat → Feat} (h : ∀ i, i < n → (G i).same (F i)) : chs z x y n G = chs z x y n F := by
  unfold chs
  rw [srtF_sameB h]
  refine List.filter_congr fun j hj => ?_
  exact rchF_same (h j (srtF_memB hj))
theorem chs_lt {z x y : Int} {n : Nat} {G : Nat → Feat} (i : Nat) (hi : i < (chs z x y n G).length) : (chs z x y n G).getD i 0 < n := by
  have e : (chs z x y n G).getD i 0 = (chs z x y n G)[i] := by simp [List.getD_eq_getElem?_getD, hi]
  rw [e]
  have hm : (chs z x y n G)[i] ∈ chs z x y n G := List.getElem_mem hi
  exact srtF_memB (List.mem_filter.1 hm).1
theorem chs_le {z x y : Int} {n : Nat} {G : Nat → Feat} : (chs z x y n G).length ≤ n := by
  rw [← chsM_all]; exact chsM_le
open Classical in
/-- What BuildTile tells: so many features, these ones. -/
noncomputable def btM (z x y : Int) (n : Nat) (G : Nat → Feat) : Nat := if btC z x y n G = 0 then (chs z x y n G).length else 0
noncomputable def btG (z x y : Int) (n : Nat) (G : Nat → Feat) (i : Nat) : Feat := bF z (G ((chs z x y n G).getD i 0))
noncomputable def btK (z x y : Int) (n : Nat) (G : Nat → Feat) (v : Int) : Int := if btC z x y n G = 0 then v else 0
theorem bt_same {z x y : Int} {n : Nat} {G F : Nat → Feat} (h : ∀ i, i < n → (G i).same (F i)) : btC z x y n G = btC z x y n F ∧ btM z x y n G = btM z x y n F ∧ (∀ i, i < btM z x y n F → btG z x y n G i = btG z x y n F i) ∧ ∀ v, btK z x y n G v = btK z x y n F v := by
  have e1 : btC z x y n G = btC z x y n F := by unfold btC; rw [featsC_same h]
  have e2 := chs_same (z := z) (x := x) (y := y) h
  refine ⟨e1, by unfold btM; rw [e1, e2], fun i hi => ?_, fun v => by unfold btK; rw [e1]⟩
  unfold btG
  rw [e2]
  unfold btM at hi
  split at hi
  · exact bF_same (h _ (chs_lt i hi))
  · exact absurd hi (Nat.not_lt_zero _)
theorem btC_zero {z x y : Int} {n : Nat} {G : Nat → Feat} (h : btC z x y n G = 0) : refB z x y = true ∧ featsC n G = 0 := by
  unfold btC at h
  split at h
  · rename_i hr; exact ⟨hr, h⟩
  · exact absurd h (by decide)
theorem btM_ok (z x y : Int) (n : Nat) (G : Nat → Feat) : btM z x y n G ≤ 12 ∧ ∀ i, i < btM z x y n G → (btG z x y n G i).n ≤ 12 := by
  unfold btM
  split
  · rename_i h
    obtain ⟨hr, hf⟩ := btC_zero h
    have hz : zoomB z = true := by simp [refB] at hr; exact hr.1
    obtain ⟨h12, _, hok⟩ := featsC_ok hf
    exact ⟨Nat.le_trans chs_le h12, fun i hi => (simL_facts (hok _ (chs_lt i hi)) hz).2.1⟩
  · exact ⟨by omega, fun i hi => absurd hi (Nat.not_lt_zero _)⟩
/-- An answer of BuildTile, that owns its memory. -/
def BtAns (C z x y : Int) (m : Nat) (G : Nat → Feat) (w : World) (e : Ending) (w' : World) : Prop :=
  ∃ a cap T, e = .returned (trV C z x y (.slice a m cap)) ∧ SrcB w.heap.size w'.heap.size w' a m T ∧ (∀ i, i < m → (T i).same (G i)) ∧ OwnR w' w.heap.size w'.heap.size a m (fun i => (T i).n) (fun i => (T i).cap) ∧ m ≤ cap ∧ Below w.heap.size w w'
/-- One of the model, that need not. -/
def BsAns (C z x y : Int) (m : Nat) (G : Nat → Feat) (w : World) (e : Ending) (w' : World) : Prop :=
  ∃ a cap T, e = .returned (trV C z x y (.slice a m cap)) ∧ SrcB w.heap.size w'.heap.size w' a m T ∧ (∀ i, i < m → (T i).same (G i)) ∧ m ≤ cap ∧ Below w.heap.size w w'
theorem SrcB.is {lo : Nat} {w : World} {a : Option Addr} {n : Nat} {T : Nat → Feat} (h : SrcB lo w.heap.size w a n T) : IsFs w a n T := by
  rcases h with h | ⟨g, ea, ⟨g1, g2⟩, h⟩
  · exact .inl h
  · refine .inr ⟨g, 0, ea, g2, fun i hi => ?_⟩
    obtain ⟨hF, q, o, eq, ⟨_, q2⟩, hp⟩ := h i hi
    rw [Nat.zero_add]
    exact ⟨hF, .inr ⟨q, o, eq, q2, hp⟩⟩
theorem SfRow.own {base k : Nat} {w : World} {v : Value} {z : Int} {H T : Nat → Feat} (h : SfRow base w v k z H T) (hok : ∀ i, i < k → 0 < (simL z (H i)).length) :
    ∃ a cap, v = .slice a k cap ∧ k ≤ cap ∧ SrcB base w.heap.size w a k T ∧ OwnR w base w.heap.size a k (fun i => (T i).n) (fun i => (T i).cap) := by
  rcases h.1.at with ⟨hv, hl⟩ | ⟨g, c, hv, hg, hgl, hc, hT, hF⟩
  · have hk : k = 0 := by simpa using congrArg List.length hl
    subst hk
    exact ⟨none, 0, hv, Nat.le_refl _, .inl rfl, .inl rfl⟩
  · rw [List.length_range] at hv hc hT hF
    have hat : ∀ i, i < k → ∃ q, (T i).a = some ⟨q, 0, none⟩ ∧ (base ≤ q ∧ q < w.heap.size) ∧ q ≠ g ∧ There w q ((T i).n * 2) ∧ PtsAt w q 0 (T i).n (T i).X (T i).Y := fun i hi => by
      obtain ⟨⟨_, _, _, _, e5, e6, e7, _, _⟩, r⟩ := h.2.1 i hi
      have hp := hok i hi
      have r' := r
      obtain ⟨a', c', hv2, _, h3 | ⟨q, ha, hq, hql, hpt, hqT⟩⟩ := r'.own
      · omega
      injection hv2 with k1 k2 k3
      have hai : (T i).a = some ⟨q, 0, none⟩ := k1.trans ha
      refine ⟨q, hai, ⟨hq, hql⟩, ?_, ?_, ?_⟩
      · intro e'
        obtain ⟨c1, h1⟩ := heap_of_row r q (by rw [hai]; rfl)
        obtain ⟨c2, h2⟩ := heap_of_row h.1 g (by rw [hv]; rfl)
        rw [e', h2] at h1
        injection h1 with h1
        injection h1 with _ h1
        exact absurd h1 (by decide)
      · rw [e5]; exact hqT
      · rw [e5, e6, e7]; exact hpt
    have hFi : ∀ i, i < k → FeatAt w g (i * 7) (T i).id (T i).la (T i).ki (T i).wi (.slice (T i).a (T i).n (T i).cap) (T i).lab (T i).pr := fun i hi => by
      have hF' := hF i hi
      have er : (List.range k).getD i 0 = i := by simp [List.getD, hi]
      rw [er] at hF'
      exact hF'
    refine ⟨_, c, hv, hc, .inr ⟨g, rfl, ⟨hg, hgl⟩, fun i hi => ⟨hFi i hi, ?_⟩⟩, .inr ⟨g, fun i => (((T i).a).map (·.block)).getD 0, rfl, ⟨hg, hgl, Nat.le_refl _⟩, hT, fun i hi => ?_, fun i j hi hj hij => ?_⟩⟩
    · obtain ⟨q, ea, hq, _, _, hp⟩ := hat i hi
      exact ⟨q, 0, ea, hq, hp⟩
    · obtain ⟨q, ea, hq, hne, hTq, _⟩ := hat i hi
      simp only [ea, Option.map_some, Option.getD_some]
      refine ⟨⟨hq.1, hq.2, hne⟩, hTq, ?_⟩
      have := (hFi i hi).2.2.2.2.1
      rw [ea] at this
      exact this
    · obtain ⟨q1, e1, _⟩ := hat i hi
      obtain ⟨q2, e2, _⟩ := hat j hj
      simp only [e1, e2, Option.map_some, Option.getD_some] at hij
      subst hij
      exact h.2.2 i j hi hj (e1.trans e2.symm)
theorem SrcB.wide {lo lo' base n : Nat} {w : World} {a : Option Addr} {T : Nat → Feat} (h : SrcB lo base w a n T) (hl : lo' ≤ lo) : SrcB lo' base w a n T := by
  rcases h with h | ⟨g, ea, ⟨g1, g2⟩, h⟩
  · exact .inl h
  · refine .inr ⟨g, ea, ⟨by omega, g2⟩, fun i hi => ?_⟩
    obtain ⟨hF, q, o, eq, ⟨q1, q2⟩, hp⟩ := h i hi
    exact ⟨hF, q, o, eq, ⟨by omega, q2⟩, hp⟩
theorem OwnR.wide {lo lo' hi m : Nat} {w : World} {a : Option Addr} {N C : Nat → Nat} (h : OwnR w lo hi a m N C) (hl : lo' ≤ lo) : OwnR w lo' hi a m N C := by
  rcases h with h | ⟨g, q, e, ⟨h1, h2, h3⟩, h4, h5, h6⟩
  · exact .inl h
  · exact .inr ⟨g, q, e, ⟨by omega, h2, h3⟩, h4, fun i hi => ⟨⟨by have := (h5 i hi).1.1; omega, (h5 i hi).1.2⟩, (h5 i hi).2⟩, h6⟩
theorem impl_BuildTile_any (z x y : Int) (b n cap : Nat) (G : Nat → Feat) (w : World) (hg : FsAt w b 0 n G) (hbl : b < w.heap.size) (hs : SmallFs n G) (hcap : n ≤ cap) :
    Calls Tryz.prog 9 #[.slice (some ⟨b, 0, none⟩) n cap, refV z x y] w (BtAns (btC z x y n G) (btK z x y n G z) (btK z x y n G x) (btK z x y n G y) (btM z x y n G) (btG z x y n G) w) := by
  cases hr : refB z x y
  · have hc : btC z x y n G = 3 := by unfold btC; rw [hr]; rfl
    have hm : btM z x y n G = 0 := by unfold btM; rw [hc]; rfl
    have hk : ∀ v, btK z x y n G v = 0 := fun v => by unfold btK; rw [hc]; rfl
    rw [hc, hm, hk, hk, hk]
    refine (impl_BuildTile_ref z x y _ _ _ _ rfl w hr).mono ?_
    rintro e w' ⟨rfl, hb⟩
    exact ⟨none, 0, G, rfl, .inl rfl, fun i hi => absurd hi (Nat.not_lt_zero _), .inl rfl, Nat.le_refl _, hb⟩
  · have hc : btC z x y n G = featsC n G := by unfold btC; rw [hr]; rfl
    by_cases hf : featsC n G = 0
    · have hm : btM z x y n G = (chs z x y n G).length := by unfold btM; rw [hc, if_pos hf]
      have hk : ∀ v, btK z x y n G v = v := fun v => by unfold btK; rw [hc, if_pos hf]
      have hz : zoomB z = true := by simp [refB] at hr; exact hr.1
      rw [hc, hm, hk, hk, hk, hf]
      refine (impl_BuildTile_ok z x y b n cap G w hg hbl hs hcap hf hr).mono ?_
      rintro e w' ⟨base, a, c, T, rfl, hS, hB, hb⟩
      obtain ⟨a', c', hv, hle, h1, h2⟩ := hS.own (fun i hi => (simL_facts ((featsC_ok hf).2.2 _ (chs_lt i hi)) hz).2.2.2)
      injection hv with e1 e2 e3
      subst e1 e3
      exact ⟨a, c, T, rfl, h1.wide hB, fun i hi => bF_sim (hS.2.1 i hi).1, h2.wide hB, hle, hb⟩
    · have hm : btM z x y n G = 0 := by unfold btM; rw [hc, if_neg hf]
      have hk : ∀ v, btK z x y n G v = 0 := fun v => by unfold btK; rw [hc, if_neg hf]
      rw [hc, hm, hk, hk, hk]
      refine (impl_BuildTile_fts z x y b n cap G w hg hbl hs hcap hf hr).mono ?_
      rintro e w' ⟨rfl, hb⟩
      exact ⟨none, 0, G, rfl, .inl rfl, fun i hi => absurd hi (Nat.not_lt_zero _), .inl rfl, Nat.le_refl _, hb⟩
end Go.Proofs.YthadmnhpjklmiaaGreat
/- ReachBox of the model. -/

namespace Go.Proofs.YthadmnhpjklmiaaGreat
open Go.RowKit
set_option linter.unusedSimpArgs false
set_option linter.unusedVariables false
set_option maxRecDepth 100000

set_option maxHeartbeats 8000000 in
theorem l4Box_any {o : Nat} (q : Nat) (id la ki wi z : Int) (b off n cap : Nat) (X Y : Nat → Int) (lab : ByteArray) (pr : Int) (w : World) (hf : FeatAt w q o id la ki wi (.slice (some ⟨b, off, none⟩) n cap) lab pr) (hp : PtsAt w b off n X Y) (hbl : b < w.heap.size) (hn0 : 0 < n) (hn : n ≤ 40) (hin : ∀ i, i < n → inW (X i) (Y i) = true) (hw : 0 ≤ wi ∧ wi ≤ 3) (hz : zoomB z = true) :
    Calls Tryz.prog 48 #[.pointer (some ⟨q, o, none⟩), .int .i64 z] w fun e w' => e = .returned (wideV (dblL X Y n) (reachI wi z)) ∧ Below w.heap.size w w' := by
  have HF : Hid (FeatAt w q o id la ki wi (.slice (some ⟨b, off, none⟩) n cap) lab pr) := hf
  have hql : q < w.heap.size := World.block_lt_of_cell? _ _ hf.1
  have HP : Hid (PtsAt w b off n X Y) := hp
  have HW : Hid (0 ≤ wi ∧ wi ≤ 3) := hw
  have hrb := reach_bd hw hz
  obtain ⟨hbx, hby⟩ := dbl_bd X Y n hin
  obtain ⟨m1, m2⟩ := mnTo_bd _ 0 2048 n hn0 hbx
  obtain ⟨m3, m4⟩ := mnTo_bd _ 0 2048 n hn0 hby
  obtain ⟨m5, m6⟩ := mxTo_bd _ 0 2048 n hn0 hbx
  obtain ⟨m7, m8⟩ := mxTo_bd _ 0 2048 n hn0 hby
  have HV : Hid (wideV (dblL X Y n) (reachI wi z) = .agg #[.int .i64 (mnTo (px (dblL X Y n)) n - reachI wi z), .int .i64 (mnTo (py (dblL X Y n)) n - reachI wi z), .int .i64 (mxTo (px (dblL X Y n)) n + reachI wi z), .int .i64 (mxTo (py (dblL X Y n)) n + reachI wi z)]) := by
    show wideV _ _ = _
    unfold wideV
    rw [dblL_len]
  rw [HV.out]
  have Hdb : Hid (∀ w, PtsAt w b off n X Y → b < w.heap.size → Calls Tryz.prog 75 #[.slice (some ⟨b, off, none⟩) n cap] w fun e w' => ∃ g cg, e = .returned (.slice (some ⟨g, 0, none⟩) n cg) ∧ g < w'.heap.size ∧ n ≤ cg ∧ PtsAt w' g 0 n (px (dblL X Y n)) (py (dblL X Y n)) ∧ Below w.heap.size w w') := fun w h1 h2 => l4Doubled_at b off n cap X Y w h1 h2 hn0 hn hin
  have Hbox : Hid (∀ g cg w, PtsAt w g 0 n (px (dblL X Y n)) (py (dblL X Y n)) → g < w.heap.size → n ≤ cg → Calls Tryz.prog 74 #[.slice (some ⟨g, 0, none⟩) n cg] w fun e w' => e = .returned (.agg #[.int .i64 (mnTo (px (dblL X Y n)) n), .int .i64 (mnTo (py (dblL X Y n)) n), .int .i64 (mxTo (px (dblL X Y n)) n), .int .i64 (mxTo (py (dblL X Y n)) n)]) ∧ Below w.heap.size w w') := fun g cg w h1 h2 h3 => l1Box_any g n cg _ _ w h1 h2 hn0 h3 (by omega)
  have Hre : Hid (∀ w, w.cell? ⟨q, o + 3, none⟩ = some (.int .i64 wi) → Calls Tryz.prog 76 #[.pointer (some ⟨q, o, none⟩), .int .i64 z] w fun e w' => e = .returned (.int .i64 (reachI wi z)) ∧ Below w.heap.size w w') := fun w h => l4Reach_any q o wi z w h hw hz
  generalize mnTo (px (dblL X Y n)) n = a1 at *
  generalize mnTo (py (dblL X Y n)) n = a2 at *
  generalize mxTo (px (dblL X Y n)) n = a3 at *
  generalize mxTo (py (dblL X Y n)) n = a4 at *
  generalize reachI wi z = r at *
  generalize dblL X Y n = D at *
  obtain ⟨q0, q1, q2, q3, q4, q5, q6⟩ := hf
  clear hp hin hbx hby hw HV
  go_enter Tryz.func48, Tryz.ntmps48
  go_wp2_with fail
  generalize hW : (w.alloc _ : World) = W
  have hB0 : Below w.heap.size w W := by subst hW; (repeat (first | exact Below.refl _ _ | assumption | refine Below.drew ?_ | refine bl_alloc ?_ _ | refine bl_then ?_ (by assumption) | refine Below.setCell ?_ (by first | omega | (simp; done) | (simp; omega)) _ | refine bl_store ?_ ?_ _ _))
  have HT : Hid (There W w.heap.size 4) := by
    show There _ _ _
    subst hW
    exact there4 w (.int .i64 0) (.int .i64 0) (.int .i64 0) (.int .i64 0) 86
  have hsW : w.heap.size < W.heap.size := by subst hW; simp
  clear hW
  clear q0 q1 q2 q3 q4 q5 q6
  refine (Hdb.out W (HP.out.below hB0 hbl) (Nat.lt_of_lt_of_le hbl hB0.size)).mono ?_
  rintro e w1 ⟨g, cg, rfl, hgl, hcg, hPg, hb1⟩
  have HB1 : Hid (Below w.heap.size w w1) := bl_then hB0 hb1
  have HT1 : Hid (There w1 w.heap.size 4) := HT.out.below hb1
  have hs1 : w.heap.size < w1.heap.size := Nat.lt_of_lt_of_le hsW hb1.size
  have HPg : Hid (PtsAt w1 g 0 n (px D) (py D)) := hPg
  clear hb1 hB0 hPg HT
  go_wp2_with fail
  refine (Hbox.out g cg w1 HPg.out hgl hcg).mono ?_
  rintro e w2 ⟨rfl, hb2⟩
  have HB2 : Hid (Below w.heap.size w w2) := bl_then HB1.out hb2
  have HT2 : Hid (There w2 w.heap.size 4) := HT1.out.below hb2
  have hs2 : w.heap.size < w2.heap.size := Nat.lt_of_lt_of_le hs1 hb2.size
  clear hb2
  go_wp2_with fail
  generalize hV : (w2.alloc _ : World) = V
  have hbV : Below w2.heap.size w2 V := by subst hV; (repeat (first | exact Below.refl _ _ | assumption | refine Below.drew ?_ | refine bl_alloc ?_ _ | refine bl_then ?_ (by assumption) | refine Below.setCell ?_ (by first | omega | (simp; done) | (simp; omega)) _ | refine bl_store ?_ ?_ _ _))
  have d0 : ∀ W', Below V.heap.size V W' → W'.cell? ⟨w2.heap.size, 0, none⟩ = some (.int .i64 a1) := fun W' h => by
    rw [h.cell (by subst hV; simp)]; subst hV; simp [go_sem]
  have d1 : ∀ W', Below V.heap.size V W' → W'.cell? ⟨w2.heap.size, 1, none⟩ = some (.int .i64 a2) := fun W' h => by
    rw [h.cell (by subst hV; simp)]; subst hV; simp [go_sem]
  have d2 : ∀ W', Below V.heap.size V W' → W'.cell? ⟨w2.heap.size, 2, none⟩ = some (.int .i64 a3) := fun W' h => by
    rw [h.cell (by subst hV; simp)]; subst hV; simp [go_sem]
  have d3 : ∀ W', Below V.heap.size V W' → W'.cell? ⟨w2.heap.size, 3, none⟩ = some (.int .i64 a4) := fun W' h => by
    rw [h.cell (by subst hV; simp)]; subst hV; simp [go_sem]
  clear hV
  have HBV : Hid (Below w.heap.size w V) := bl_then HB2.out hbV
  refine (Hre.out V (HF.out.below HBV.out hql).2.2.2.1).mono ?_
  rintro e w3 ⟨rfl, hb3⟩
  have hT' := (HT2.out.below hbV).below hb3
  have HT3 : Hid (There w3 w.heap.size 4) := hT'
  have t0 := hT'.cell 0 (by omega)
  have t1 := hT'.cell 1 (by omega)
  have t2 := hT'.cell 2 (by omega)
  have t3 := hT'.cell 3 (by omega)
  have z0 := (hT' 0 (by omega)).2
  have z1 := (hT' 1 (by omega)).2
  have z2 := (hT' 2 (by omega)).2
  have z3 := (hT' 3 (by omega)).2
  have e0 := d0 w3 hb3
  have e1 := d1 w3 hb3
  have e2 := d2 w3 hb3
  have e3 := d3 w3 hb3
  have HB3 : Hid (Below w.heap.size w w3) := bl_then HBV.out hb3
  have hs3 : w.heap.size < w3.heap.size := Nat.lt_of_lt_of_le hs2 (Nat.le_trans hbV.size hb3.size)
  clear hT' d0 d1 d2 d3 hb3 hbV
  go_wp2_with fail
  obtain ⟨s0, s1, s2, s3⟩ := set4_at (a := .int .i64 (a1 - r)) (b := .int .i64 (a2 - r)) (c := .int .i64 (a3 + r)) (d := .int .i64 (a4 + r)) HT3.out
  refine bodyPost_ret (v := .agg #[.int .i64 (a1 - r), .int .i64 (a2 - r), .int .i64 (a3 + r), .int .i64 (a4 + r)]) (by simp [results, Tryz.results48, go_sem, s0, s1, s2, s3]) rfl ⟨rfl, ?_⟩
  have HB := HB3.out
  (repeat (first | exact Below.refl _ _ | assumption | refine Below.drew ?_ | refine bl_alloc ?_ _ | refine bl_then ?_ (by assumption) | refine Below.setCell ?_ (by first | omega | (simp; done) | (simp; omega)) _ | refine bl_store ?_ ?_ _ _))
end Go.Proofs.YthadmnhpjklmiaaGreat
