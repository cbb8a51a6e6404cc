/- Several texts in one. -/
import Derived.Test.YtciidkmonfmipaaGreatVPutTile18

/- Lists of features in memory of their own are marked, and the marks are found again. -/

namespace Go.Proofs.YtciidkmonfmipaaGreat
open Go.RowKit
set_option linter.unusedSimpArgs false
set_option linter.unusedVariables false
set_option maxRecDepth 100000

/-- How far the marks have come. -/
def kS (N : Nat → Nat) (k0 : Nat) : Nat → Nat
  | 0 => k0
  | j + 1 => kS N k0 j + 6 + 2 * N j
theorem kS_le (N : Nat → Nat) (k0 n : Nat) (h : ∀ i, i < n → N i ≤ 1048576) : ∀ j, j ≤ n → kS N k0 j ≤ k0 + j * 2097158
  | 0, _ => by simp [kS]
  | j + 1, hj => by
    have := kS_le N k0 n h j (by omega)
    have := h j (by omega)
    rw [kS]; omega
/-- Feature i of the list bears the marks from k on. -/
def MarkF (w : World) (b q i N C k : Nat) : Prop :=
  FeatAt w b (i * 7) ((k : Nat) : Int) ((k + 1 : Nat) : Int) ((k + 2 : Nat) : Int) ((k + 3 : Nat) : Int) (.slice (some ⟨q, 0, none⟩) N C) (mTx (k + 4 + 2 * N)) ((k + 5 + 2 * N : Nat) : Int) ∧ PtsAt w q 0 N (mkX (k + 4)) (mkY (k + 4))
theorem MarkF.below {w w' : World} {b q i N C k : Nat} (h : MarkF w b q i N C k) (hb : Below w.heap.size w w') (h1 : b < w.heap.size) (h2 : q < w.heap.size) : MarkF w' b q i N C k := ⟨h.1.below hb h1, h.2.below hb h2⟩

/-- One more feature is marked: what the six stores and the marks of its points leave. -/
theorem mark_step {wr w5 w6 : World} {lo hi b n j k : Nat} {N C q : Nat → Nat} (hO : OwnQ wr lo hi b n N C q) (hj : j < n)
    (hg : World.grownBy ((((wr.setCell ⟨b, j * 7, none⟩ (.int .i64 (k : Nat))).setCell ⟨b, j * 7 + 1, none⟩ (.int .i64 ((k + 1 : Nat) : Int))).setCell ⟨b, j * 7 + 2, none⟩ (.int .i64 ((k + 2 : Nat) : Int))).setCell ⟨b, j * 7 + 3, none⟩ (.int .i64 ((k + 3 : Nat) : Int))) w5 (some (q j)))
    (hT5 : There w5 (q j) (N j * 2)) (hP5 : PtsAt w5 (q j) 0 (N j) (mkX (k + 4)) (mkY (k + 4))) (h56 : Below w5.heap.size w5 w6)
    {N0 : Nat → Nat} {k0 : Nat} (hM : ∀ i, i < j → MarkF wr b (q i) i (N i) (C i) (kS N0 k0 i)) (hk : kS N0 k0 j = k) :
    OwnQ ((w6.setCell ⟨b, j * 7 + 5, none⟩ (.string (mTx (k + 4 + 2 * N j)))).setCell ⟨b, j * 7 + 6, none⟩ (.int .i64 ((k + 5 + 2 * N j : Nat) : Int))) lo hi b n N C q ∧
    MidB lo hi wr ((w6.setCell ⟨b, j * 7 + 5, none⟩ (.string (mTx (k + 4 + 2 * N j)))).setCell ⟨b, j * 7 + 6, none⟩ (.int .i64 ((k + 5 + 2 * N j : Nat) : Int))) ∧
    ∀ i, i < j + 1 → MarkF ((w6.setCell ⟨b, j * 7 + 5, none⟩ (.string (mTx (k + 4 + 2 * N j)))).setCell ⟨b, j * 7 + 6, none⟩ (.int .i64 ((k + 5 + 2 * N j : Nat) : Int))) b (q i) i (N i) (C i) (kS N0 k0 i) := by
  obtain ⟨⟨h1, h2, h3⟩, hTb, hq, hinj⟩ := hO
  have ne : ∀ i j : Nat, i ≠ j → (⟨b, i, none⟩ : Addr) ≠ ⟨b, j, none⟩ := fun i j hij h => hij (by injection h)
  have nb : ∀ (p o o' : Nat), p ≠ b → (⟨b, o, none⟩ : Addr) ≠ ⟨p, o', none⟩ := fun p o o' hp h => hp (by injection h with h; exact h.symm)
  obtain ⟨⟨hqj1, hqj2, hqj3⟩, hTj, hcj⟩ := hq j hj
  generalize hW4 : ((((wr.setCell ⟨b, j * 7, none⟩ (.int .i64 (k : Nat))).setCell ⟨b, j * 7 + 1, none⟩ (.int .i64 ((k + 1 : Nat) : Int))).setCell ⟨b, j * 7 + 2, none⟩ (.int .i64 ((k + 2 : Nat) : Int))).setCell ⟨b, j * 7 + 3, none⟩ (.int .i64 ((k + 3 : Nat) : Int))) = W4 at hg
  have hT4 : There W4 b (n * 7) := by subst hW4; exact ((((hTb.set _ _).set _ _).set _ _).set _ _)
  have hM4 : MidB lo hi wr W4 := by subst hW4; exact ((((MidB.refl lo hi wr).set h1 h2 _ _).set h1 h2 _ _).set h1 h2 _ _).set h1 h2 _ _
  have hT5b : There w5 b (n * 7) := hT4.grown hg (Ne.symm hqj3)
  have hT6 : There w6 b (n * 7) := hT5b.below h56
  generalize hV : ((w6.setCell ⟨b, j * 7 + 5, none⟩ (.string (mTx (k + 4 + 2 * N j)))).setCell ⟨b, j * 7 + 6, none⟩ (.int .i64 ((k + 5 + 2 * N j : Nat) : Int))) = V
  have hTV : There V b (n * 7) := by subst hV; exact (hT6.set _ _).set _ _
  have hMV : MidB lo hi wr V := by
    subst hV
    exact ((hM4.trans ((MidB.of_grown hg hqj1 hqj2).trans (MidB.of_below h56))).set h1 h2 _ _).set h1 h2 _ _
  -- a cell of the row that no store meets
  have hkeep : ∀ o v, wr.cell? ⟨b, o, none⟩ = some v → (o < j * 7 ∨ o = j * 7 + 4 ∨ j * 7 + 6 < o) → V.cell? ⟨b, o, none⟩ = some v := fun o v hv ho => by
    have hv4 : W4.cell? ⟨b, o, none⟩ = some v := by
      subst hW4
      rw [set1_other (ne _ _ (by omega)), set1_other (ne _ _ (by omega)), set1_other (ne _ _ (by omega)), set1_other (ne _ _ (by omega))]
      exact hv
    have hv6 := bl_cell h56 (gr_cell hg hv4 (Ne.symm hqj3))
    subst hV
    rw [set1_other (ne _ _ (by omega)), set1_other (ne _ _ (by omega))]
    exact hv6
  -- what lies in another block
  have hoth : ∀ p, p ≠ b → p ≠ q j → ∀ o v, wr.cell? ⟨p, o, none⟩ = some v → V.cell? ⟨p, o, none⟩ = some v := fun p hp hpq o v hv => by
    have hv4 : W4.cell? ⟨p, o, none⟩ = some v := by
      subst hW4
      rw [set1_other (nb _ _ _ hp), set1_other (nb _ _ _ hp), set1_other (nb _ _ _ hp), set1_other (nb _ _ _ hp)]
      exact hv
    have hv6 := bl_cell h56 (gr_cell hg hv4 hpq)
    subst hV
    rw [set1_other (nb _ _ _ hp), set1_other (nb _ _ _ hp)]
    exact hv6
  have hpt : ∀ p m X Y, p ≠ b → PtsAt w6 p 0 m X Y → PtsAt V p 0 m X Y := fun p m X Y hp h => by
    subst hV
    exact (h.store (Ne.symm hp)).store (Ne.symm hp)
  have hth : ∀ p m, p ≠ b → There w6 p m → There V p m := fun p m hp h => by
    subst hV
    exact (h.store (Ne.symm hp)).store (Ne.symm hp)
  have hql : q j < w5.heap.size := by have := hg.size; have := hM4.size; omega
  refine ⟨⟨⟨h1, h2, Nat.le_trans h3 hMV.size⟩, hTV, fun i hi => ⟨(hq i hi).1, ?_, hkeep _ _ (hq i hi).2.2 (by omega)⟩, hinj⟩, hMV, fun i hi => ?_⟩
  · by_cases e : i = j
    · subst e
      exact hth _ _ hqj3 (hT5.below h56)
    · have hne : q i ≠ q j := fun h => e (hinj i j hi hj h)
      have hne' := (hq i hi).1.2.2
      refine hth _ _ hne' ?_
      have h4 : There W4 (q i) (N i * 2) := by
        subst hW4
        exact ((((hq i hi).2.1.store (Ne.symm hne')).store (Ne.symm hne')).store (Ne.symm hne')).store (Ne.symm hne')
      exact (h4.grown hg hne).below h56
  · by_cases e : i = j
    · subst e
      rw [hk]
      have c4 : ∀ o v, W4.cell? ⟨b, o, none⟩ = some v → o ≠ i * 7 + 5 → o ≠ i * 7 + 6 → V.cell? ⟨b, o, none⟩ = some v := fun o v hv ho ho' => by
        have hv6 := bl_cell h56 (gr_cell hg hv (Ne.symm hqj3))
        subst hV
        rw [set1_other (ne _ _ (Ne.symm ho')), set1_other (ne _ _ (Ne.symm ho))]
        exact hv6
      obtain ⟨u0, g0⟩ := (hTb (i * 7) (by omega)).1
      obtain ⟨u1, g1⟩ := ((hTb.set (i * 7) (.int .i64 (k : Nat))) (i * 7 + 1) (by omega)).1
      obtain ⟨u2, g2⟩ := (((hTb.set (i * 7) (.int .i64 (k : Nat))).set (i * 7 + 1) (.int .i64 ((k + 1 : Nat) : Int))) (i * 7 + 2) (by omega)).1
      obtain ⟨u3, g3⟩ := ((((hTb.set (i * 7) (.int .i64 (k : Nat))).set (i * 7 + 1) (.int .i64 ((k + 1 : Nat) : Int))).set (i * 7 + 2) (.int .i64 ((k + 2 : Nat) : Int))) (i * 7 + 3) (by omega)).1
      obtain ⟨u5, g5⟩ := (hT6 (i * 7 + 5) (by omega)).1
      obtain ⟨u6, g6⟩ := ((hT6.set (i * 7 + 5) (.string (mTx (k + 4 + 2 * N i)))) (i * 7 + 6) (by omega)).1
      refine ⟨⟨c4 _ _ ?_ (by omega) (by omega), c4 _ _ ?_ (by omega) (by omega), c4 _ _ ?_ (by omega) (by omega), c4 _ _ ?_ (by omega) (by omega), hkeep _ _ hcj (by omega), ?_, ?_⟩, hpt _ _ _ _ hqj3 (hP5.below h56 hql)⟩
      · subst hW4; rw [set1_other (ne _ _ (by omega)), set1_other (ne _ _ (by omega)), set1_other (ne _ _ (by omega))]; exact set1_same g0
      · subst hW4; rw [set1_other (ne _ _ (by omega)), set1_other (ne _ _ (by omega))]; exact set1_same g1
      · subst hW4; rw [set1_other (ne _ _ (by omega))]; exact set1_same g2
      · subst hW4; exact set1_same g3
      · subst hV; rw [set1_other (ne _ _ (by omega))]; exact set1_same g5
      · subst hV; exact set1_same g6
    · have hi' : i < j := by omega
      obtain ⟨⟨m0, m1, m2, m3, m4, m5, m6⟩, mp⟩ := hM i hi'
      have hne : q i ≠ q j := fun h => e (hinj i j (by omega) hj h)
      have hne' := (hq i (by omega)).1.2.2
      refine ⟨⟨hkeep _ _ m0 (by omega), hkeep _ _ m1 (by omega), hkeep _ _ m2 (by omega), hkeep _ _ m3 (by omega), hkeep _ _ m4 (by omega), hkeep _ _ m5 (by omega), hkeep _ _ m6 (by omega)⟩, fun x hx => ?_⟩
      exact ⟨hoth _ hne' hne _ _ (mp x hx).1, hoth _ hne' hne _ _ (mp x hx).2⟩
end Go.Proofs.YtciidkmonfmipaaGreat
/- The copy of a list of features is its own: no two of its blocks are alike. -/

namespace Go.Proofs.YtciidkmonfmipaaGreat
open Go.RowKit
set_option linter.unusedSimpArgs false
set_option linter.unusedVariables false
set_option maxRecDepth 100000

theorem There.lay {W : World} {b n : Nat} (h : There W b n) {B o : Nat} {f : Feat} (hne : B ≠ b) : There (lay7 W B o f) b n := by
  unfold lay7
  exact ((((((h.store hne).store hne).store hne).store hne).store hne).store hne).store hne
theorem ownq_lay {W : World} {B n k q0 hi : Nat} {F : Nat → Feat} {q : Nat → Nat} {f : Feat} (h : OwnQ W B hi B k (fun i => (F i).n) (fun i => (F i).n) q) (hT : There W B (n * 7)) (hk : k < n) (hfa : f.a = some ⟨q0, 0, none⟩) (hfn : f.n = (F k).n) (hfc : f.cap = (F k).n) (h0 : hi ≤ q0) (h1 : q0 < W.heap.size) (hTq : There W q0 ((F k).n * 2)) :
    OwnQ (lay7 W B (k * 7) f) B (lay7 W B (k * 7) f).heap.size B (k + 1) (fun i => (F i).n) (fun i => (F i).n) (fun i => if i = k then q0 else q i) := by
  obtain ⟨⟨a1, a2, a3⟩, a4, a5, a6⟩ := h
  have hsz := lay7_size W B (k * 7) f
  refine ⟨⟨a1, by rw [hsz]; omega, Nat.le_refl _⟩, fun o ho => lay7_there hT o (by omega), fun i hi => ?_, fun i j hi hj e => ?_⟩
  · by_cases e : i = k
    · subst e
      show (B ≤ (if i = i then q0 else q i) ∧ (if i = i then q0 else q i) < _ ∧ (if i = i then q0 else q i) ≠ B) ∧ There _ (if i = i then q0 else q i) ((F i).n * 2) ∧ _ = some (Value.slice (some ⟨(if i = i then q0 else q i), 0, none⟩) (F i).n (F i).n)
      rw [if_pos rfl]
      refine ⟨⟨by omega, by rw [hsz]; exact h1, by omega⟩, hTq.lay (by omega), ?_⟩
      have := (lay7_at (f := f) (o := i * 7) hT (by omega)).2.2.2.2.1
      rw [this, hfa, hfn, hfc]
    · show (B ≤ (if i = k then q0 else q i) ∧ (if i = k then q0 else q i) < _ ∧ (if i = k then q0 else q i) ≠ B) ∧ There _ (if i = k then q0 else q i) ((F i).n * 2) ∧ _ = some (Value.slice (some ⟨(if i = k then q0 else q i), 0, none⟩) (F i).n (F i).n)
      rw [if_neg e]
      obtain ⟨b1, b2, b3⟩ := a5 i (by omega)
      refine ⟨⟨b1.1, by rw [hsz]; omega, b1.2.2⟩, b2.lay (Ne.symm b1.2.2), ?_⟩
      rw [lay7_other (p := ⟨B, i * 7 + 4, none⟩) (.inr (.inl (by show i * 7 + 4 < k * 7; omega)))]
      exact b3
  · by_cases ei : i = k <;> by_cases ej : j = k
    · omega
    · simp only [if_pos ei, if_neg ej] at e
      have := (a5 j (by omega)).1
      omega
    · simp only [if_neg ei, if_pos ej] at e
      have := (a5 i (by omega)).1
      omega
    · simp only [if_neg ei, if_neg ej] at e
      exact a6 i j (by omega) (by omega) e

set_option maxHeartbeats 4000000 in
theorem toFeatureS_own (a : Option Addr) (n cap : Nat) (F : Nat → Feat) (w : World) (hp : IsFs w a n F) (hmax : n ≤ 1048576) (hall : ∀ i, i < n → (F i).n ≤ 1048576) :
    Calls Tryz.prog 30 #[.slice a n cap] w fun e w' => ∃ b G, e = .returned (.slice (some ⟨b, 0, none⟩) n n) ∧ OwnFs w' w.heap.size b n F G ∧ (∃ q, OwnQ w' w.heap.size w'.heap.size b n (fun i => (F i).n) (fun i => (F i).n) q) ∧ Below w.heap.size w w' := by
  have hmk := make_feats n hmax
  have HP : Hid (IsFs w a n F) := hp
  have HA : Hid (∀ i, i < n → (F i).n ≤ 1048576) := hall
  clear hp hall
  go_enter Tryz.func30, Tryz.ntmps30
  go_wp2
  generalize hW : (w.alloc _ : World) = W
  have HB0 : Hid (Below w.heap.size w W) := by show Below _ _ _; subst hW; (repeat (first | exact Below.refl _ _ | assumption | refine Below.drew ?_ | refine bl_alloc ?_ _ | refine bl_then ?_ (by assumption) | refine Below.setCell ?_ (by first | omega | (simp; done) | (simp; omega)) _ | refine bl_store ?_ ?_ _ _))
  have HT0 : Hid (There W w.heap.size (n * 7)) := by show There _ _ _; subst hW; exact there_madeF _ _ _
  have HL0 : Hid (w.heap.size < W.heap.size) := by show _ < _; subst hW; simp
  clear hW hmk
  go_loopw [4] (fun i wr => ∃ (k : Nat) (G : Nat → Feat), k ≤ n ∧ i = .int .i64 k ∧ Below w.heap.size w wr ∧ There wr w.heap.size (n * 7) ∧ OwnFs wr w.heap.size w.heap.size k F G ∧ ∃ q, OwnQ wr w.heap.size wr.heap.size w.heap.size k (fun i => (F i).n) (fun i => (F i).n) q) (fun i _ => n - (intOf i).toNat)
  case atStart => exact ⟨0, F, by omega, rfl, HB0.out, HT0.out, ⟨Nat.le_refl _, HL0.out, fun i hi => by omega, fun i hi => by omega⟩, fun _ => 0, ⟨Nat.le_refl _, HL0.out, Nat.le_refl _⟩, (fun o ho => by omega), (fun i hi => by omega), fun i j hi => by omega⟩
  case round =>
    obtain ⟨k, G, hk, rfl, hB, hT, hO, qq, hQ⟩ := hrel
    by_cases hlt : k < n
    · rcases HP.out with h0 | ⟨b, off, rfl, hbl, hpt⟩
      · omega
      · obtain ⟨⟨f0, f1, f2, f3, f4, f5, f6⟩, hIP⟩ := (hpt.below hB hbl) k hlt
        have HB : Hid (Below w.heap.size w wr) := hB
        have HT : Hid (There wr w.heap.size (n * 7)) := hT
        have HO : Hid (OwnFs wr w.heap.size w.heap.size k F G) := hO
        have HIP : Hid (IsPts wr (F k).a (F k).n (F k).X (F k).Y) := hIP
        have hnk := HA.out k hlt
        have hlw : w.heap.size < wr.heap.size := hO.2.1
        have HQ : Hid (OwnQ wr w.heap.size wr.heap.size w.heap.size k (fun i => (F i).n) (fun i => (F i).n) qq) := hQ
        clear hB hT hO hpt hIP hQ
        have hi : (k : Int) < (n : Int) := by omega
        have hi0 : (0 : Int) ≤ (k : Int) := by omega
        go_wp2_with fail
        refine (toFeature_own _ _ _ _ _ _ _ (F k).X (F k).Y _ _ _ HIP.out hnk).mono ?_
        rintro e w' ⟨q, rfl, hq1, hq2, hq3, hqT, hb⟩
        have HQT : Hid (There w' q ((F k).n * 2)) := hqT
        clear hqT
        have hT' := HT.out.below hb
        have t0 := hT'.cell (k * 7) (by omega)
        have t1 := hT'.cell (k * 7 + 1) (by omega)
        have t2 := hT'.cell (k * 7 + 2) (by omega)
        have t3 := hT'.cell (k * 7 + 3) (by omega)
        have t4 := hT'.cell (k * 7 + 4) (by omega)
        have t5 := hT'.cell (k * 7 + 5) (by omega)
        have t6 := hT'.cell (k * 7 + 6) (by omega)
        have y0 := (hT' (k * 7) (by omega)).2
        have y1 := (hT' (k * 7 + 1) (by omega)).2
        have y2 := (hT' (k * 7 + 2) (by omega)).2
        have y3 := (hT' (k * 7 + 3) (by omega)).2
        have y4 := (hT' (k * 7 + 4) (by omega)).2
        have y5 := (hT' (k * 7 + 5) (by omega)).2
        have y6 := (hT' (k * 7 + 6) (by omega)).2
        have HT' : Hid (There w' w.heap.size (n * 7)) := hT'
        have HQ3 : Hid (PtsAt w' q 0 (F k).n (F k).X (F k).Y) := hq3
        have HBn : Hid (Below wr.heap.size wr w') := hb
        clear hT' hq3 hb f0 f1 f2 f3 f4 f5 f6
        go_wp2
        go_roundw
        case rel =>
          refine ⟨k + 1, fun i => if i = k then { F k with a := some ⟨q, 0, none⟩, cap := (F k).n } else G i, by omega, by go_num, ?_, ?_, ?_, ?_⟩
          · exact lay7_below (f := { F k with a := some ⟨q, 0, none⟩, cap := (F k).n }) (B := w.heap.size) (o := k * 7) (HB.out.trans (HBn.out.mono HB.out.size)) (Nat.le_refl _)
          · exact lay7_there (f := { F k with a := some ⟨q, 0, none⟩, cap := (F k).n }) (B := w.heap.size) (o := k * 7) HT'.out
          · exact own_lay (HO.out.below HBn.out) HT'.out (by omega) (by omega) hq2 HQ3.out (by omega)
          · exact ⟨_, ownq_lay (f := { F k with a := some ⟨q, 0, none⟩, cap := (F k).n }) (HQ.out.below HBn.out) HT'.out (by omega) rfl rfl rfl hq1 hq2 HQT.out⟩
        case measure => simp [intOf]; omega
    · go_wp2
      go_ret
      have hkn : k = n := by omega
      subst hkn
      exact ⟨_, G, rfl, hO, ⟨qq, hQ⟩, hB⟩
end Go.Proofs.YtciidkmonfmipaaGreat
/- A list of features in memory of its own is marked, and the marks are found again: the walks. -/

namespace Go.Proofs.YtciidkmonfmipaaGreat
open Go.RowKit
set_option linter.unusedSimpArgs false
set_option linter.unusedVariables false
set_option maxRecDepth 100000

set_option maxHeartbeats 8000000 in
theorem markFs_any (lo hi b n cap k0 : Nat) (N C q : Nat → Nat) (w : World) (hO : OwnQ w lo hi b n N C q) (hn : n ≤ 1048576) (hN : ∀ i, i < n → N i ≤ 1048576) (h0 : 0 < k0) (hk0 : k0 ≤ 5000000000000000000) :
    Calls Tryz.prog 39 #[.slice (some ⟨b, 0, none⟩) n cap, .int .i64 (k0 : Int)] w fun e w' => e = .returned (.int .i64 ((kS N k0 n : Nat) : Int)) ∧ OwnQ w' lo hi b n N C q ∧ MidB lo hi w w' ∧ ∀ i, i < n → MarkF w' b (q i) i (N i) (C i) (kS N k0 i) := by
  have HO0 : Hid (OwnQ w lo hi b n N C q) := hO
  have HN : Hid (∀ i, i < n → N i ≤ 1048576) := hN
  clear hO hN
  go_enter Tryz.func39, Tryz.ntmps39
  go_wp2_with fail
  go_loopw [1, 5] (fun kk i wr => ∃ j K : Nat, j ≤ n ∧ Hid (K = kS N k0 j) ∧ kk = .int .i64 (K : Int) ∧ i = .int .i64 (j : Int) ∧ OwnQ wr lo hi b n N C q ∧ MidB lo hi w wr ∧ ∀ i, i < j → MarkF wr b (q i) i (N i) (C i) (kS N k0 i)) (fun _ i _ => n - (intOf i).toNat)
  case atStart => exact ⟨0, k0, by omega, rfl, rfl, rfl, HO0.out, MidB.refl _ _ _, fun i hi => by omega⟩
  case round =>
    obtain ⟨j, K, hj, HK, rfl, rfl, hO, hM, hF⟩ := hrel
    by_cases hlt : j < n
    · have hKb : K ≤ 5000002200000000000 := by
        have := HK.out
        have := kS_le N k0 n HN.out j (by omega)
        omega
      have hK0 : 0 < K := by
        have h1 := HK.out
        have h2 : ∀ i, k0 ≤ kS N k0 i := fun i => by
          induction i with
          | zero => exact Nat.le_refl _
          | succ i ih => rw [kS]; omega
        have := h2 j
        omega
      have hNj := HN.out j hlt
      obtain ⟨hqj, hTj, hcj⟩ := hO.2.2.1 j hlt
      have hT := hO.2.1
      have t0 := hT.cell (j * 7) (by omega)
      have t1 := hT.cell (j * 7 + 1) (by omega)
      have t2 := hT.cell (j * 7 + 2) (by omega)
      have t3 := hT.cell (j * 7 + 3) (by omega)
      have f0 := (hT (j * 7) (by omega)).2
      have f1 := (hT (j * 7 + 1) (by omega)).2
      have f2 := (hT (j * 7 + 2) (by omega)).2
      have f3 := (hT (j * 7 + 3) (by omega)).2
      have HO : Hid (OwnQ wr lo hi b n N C q) := hO
      have HM : Hid (MidB lo hi w wr) := hM
      have HF : Hid (∀ i, i < j → MarkF wr b (q i) i (N i) (C i) (kS N k0 i)) := hF
      have HLT : Hid (j < n) := hlt
      clear hO hM hF hT
      have hi : (j : Int) < (n : Int) := by omega
      have hi0 : (0 : Int) ≤ (j : Int) := by omega
      have e4 : (K : Int) + 1 + 1 + 1 + 1 = ((K + 4 : Nat) : Int) := by omega
      have e3 : (K : Int) + 1 + 1 + 1 = ((K + 3 : Nat) : Int) := by omega
      have e2 : (K : Int) + 1 + 1 = ((K + 2 : Nat) : Int) := by omega
      have e1 : (K : Int) + 1 = ((K + 1 : Nat) : Int) := by omega
      have E := (show Hid _ from (⟨e4, e3, e2, e1⟩ : _ ∧ _ ∧ _ ∧ _))
      clear e4 e3 e2 e1
      go_wp2_with fail
      rw [E.out.1, E.out.2.1, E.out.2.2.1, E.out.2.2.2]
      have hb1 := HO.out.1
      have hql : q j < wr.heap.size := by omega
      have hne : b ≠ q j := fun e => hqj.2.2 e.symm
      refine (markPointS_any (q j) (N j) (C j) (K + 4) _ ((((hTj.store hne).store hne).store hne).store hne) (by simp only [World.size_setCell]; exact hql) hNj (by omega)).mono ?_
      rintro e w5 ⟨rfl, hG5, hT5, hP5⟩
      have hTb5 : There w5 b (n * 7) := (((((HO.out.2.1.set _ _).set _ _).set _ _).set _ _).grown hG5 hne)
      have HG5 := (show Hid _ from hG5)
      have HT5 : Hid (There w5 (q j) (N j * 2)) := hT5
      have HP5 : Hid (PtsAt w5 (q j) 0 (N j) (mkX (K + 4)) (mkY (K + 4))) := hP5
      have HTb5 : Hid (There w5 b (n * 7)) := hTb5
      clear hG5 hT5 hP5 hTb5 t0 t1 t2 t3 f0 f1 f2 f3 hcj
      have hkt : 0 < K + 4 + 2 * N j := by omega
      go_wp2_with fail
      refine (markText_any (K + 4 + 2 * N j) w5 hkt (by omega)).mono ?_
      rintro e w6 ⟨rfl, hb6⟩
      have hT6 := HTb5.out.below hb6
      have t5 := hT6.cell (j * 7 + 5) (by omega)
      have t6 := hT6.cell (j * 7 + 6) (by omega)
      have f5 := (hT6 (j * 7 + 5) (by omega)).2
      have f6 := (hT6 (j * 7 + 6) (by omega)).2
      have HB6 : Hid (Below w5.heap.size w5 w6) := hb6
      clear hT6 hb6
      have hKb2 : ((K + 4 + 2 * N j : Nat) : Int) ≤ 5000002300000000000 := by omega
      have hKb0 : (0 : Int) ≤ ((K + 4 + 2 * N j : Nat) : Int) := by omega
      have HKE : Hid (((K + 4 + 2 * N j : Nat) : Int) + 1 = ((K + 5 + 2 * N j : Nat) : Int) ∧ ((K + 4 + 2 * N j : Nat) : Int) + 1 + 1 = ((K + 6 + 2 * N j : Nat) : Int)) := ⟨by omega, by omega⟩
      have HM2 : Hid (∀ m : Nat, m = K + 4 + 2 * N j → m = K + 4 + 2 * N j) := fun _ h => h
      obtain ⟨M, hMd⟩ : ∃ M : Nat, M = K + 4 + 2 * N j := ⟨_, rfl⟩
      have HMD : Hid (M = K + 4 + 2 * N j) := hMd
      rw [← hMd] at hKb2 hKb0 ⊢
      clear hMd
      go_wp2
      go_roundw
      case rel =>
        have hMd := HMD.out
        subst hMd
        have hst := mark_step HO.out HLT.out HG5.out HT5.out HP5.out HB6.out HF.out HK.out.symm
        rw [← HKE.out.1] at hst
        obtain ⟨s1, s2, s3⟩ := hst
        refine ⟨j + 1, K + 6 + 2 * N j, by have := HLT.out; omega, by show _ = _; rw [kS, ← HK.out], by congr 1; omega, by go_num, s1, HM.out.trans s2, s3⟩
      case measure => have := HLT.out; simp [intOf]; omega
    · go_wp2
      go_ret
      have hjn : j = n := by omega
      subst hjn
      exact ⟨ret_int (by have := HK.out; omega), hO, hM, hF⟩
set_option maxHeartbeats 8000000 in
theorem heldFs_any (b n cap k0 : Nat) (N C q : Nat → Nat) (w : World) (hF : ∀ i, i < n → MarkF w b (q i) i (N i) (C i) (kS N k0 i)) (hb : b < w.heap.size) (hq : ∀ i, i < n → q i < w.heap.size) (hn : n ≤ 1048576) (hN : ∀ i, i < n → N i ≤ 1048576) (h0 : 0 < k0) (hk0 : k0 ≤ 5000000000000000000) :
    Calls Tryz.prog 110 #[.slice (some ⟨b, 0, none⟩) n cap, .int .i64 (k0 : Int)] w fun e w' => e = .returned (.int .i64 ((kS N k0 n : Nat) : Int)) ∧ Below w.heap.size w w' := by
  have HF : Hid (∀ i, i < n → MarkF w b (q i) i (N i) (C i) (kS N k0 i)) := hF
  have HN : Hid (∀ i, i < n → N i ≤ 1048576) := hN
  have HQ : Hid (∀ i, i < n → q i < w.heap.size) := hq
  clear hF hN hq
  go_enter Tryz.func110, Tryz.ntmps110
  go_wp2_with fail
  go_loopw [1, 5] (fun kk i wr => ∃ j K : Nat, j ≤ n ∧ Hid (K = kS N k0 j) ∧ kk = .int .i64 (K : Int) ∧ i = .int .i64 (j : Int) ∧ Below w.heap.size w wr) (fun _ i _ => n - (intOf i).toNat)
  case atStart => exact ⟨0, k0, by omega, rfl, rfl, rfl, Below.refl _ _⟩
  case round =>
    obtain ⟨j, K, hj, HK, rfl, rfl, hB⟩ := hrel
    by_cases hlt : j < n
    · have hKb : K ≤ 5000002200000000000 := by
        have := HK.out
        have := kS_le N k0 n HN.out j (by omega)
        omega
      have hK0 : 0 < K := by
        have h1 := HK.out
        have h2 : ∀ i, k0 ≤ kS N k0 i := fun i => by
          induction i with
          | zero => exact Nat.le_refl _
          | succ i ih => rw [kS]; omega
        have := h2 j
        omega
      have hNj := HN.out j hlt
      have hMF := (HF.out j hlt).below hB hb (HQ.out j hlt)
      rw [← HK.out] at hMF
      have hql : q j < wr.heap.size := Nat.lt_of_lt_of_le (HQ.out j hlt) hB.size
      have e3 : ((K + 3 : Nat) : Int) = (K : Int) + 1 + 1 + 1 := by omega
      have e2 : ((K + 2 : Nat) : Int) = (K : Int) + 1 + 1 := by omega
      have e1 : ((K + 1 : Nat) : Int) = (K : Int) + 1 := by omega
      have hHM : Hid (MarkF wr b (q j) j (N j) (C j) K) := hMF
      obtain ⟨⟨m0, m1, m2, m3, m4, m5, m6⟩, mp⟩ := hMF
      rw [e1] at m1
      rw [e2] at m2
      rw [e3] at m3
      have HP : Hid (PtsAt wr (q j) 0 (N j) (mkX (K + 4)) (mkY (K + 4))) := mp
      have HB : Hid (Below w.heap.size w wr) := hB
      have HLT : Hid (j < n) := hlt
      have hbr : b < wr.heap.size := Nat.lt_of_lt_of_le hb hB.size
      clear hB mp e1 e2 e3
      have hi : (j : Int) < (n : Int) := by omega
      have hi0 : (0 : Int) ≤ (j : Int) := by omega
      have e4 : Hid ((K : Int) + 1 + 1 + 1 + 1 = ((K + 4 : Nat) : Int)) := by show _ = _; omega
      go_wp2_with fail
      rw [e4.out]
      refine (heldPointS_any (q j) (N j) (C j) (K + 4) _ HP.out hql hNj (by omega)).mono ?_
      rintro e w5 ⟨rfl, hb5⟩
      obtain ⟨⟨_, _, _, _, _, x5, x6⟩, _⟩ := hHM.out.below hb5 hbr hql
      have Hb5 : Hid (Below wr.heap.size wr w5) := hb5
      have hbl5 : b < w5.heap.size := Nat.lt_of_lt_of_le hbr hb5.size
      clear hb5 m0 m1 m2 m3 m4 m5 m6
      have hneg : ¬ ((K + 4 + 2 * N j : Nat) : Int) < 0 := by omega
      have hKb2 : ((K + 4 + 2 * N j : Nat) : Int) ≤ 5000002300000000000 := by omega
      have hKb0 : (0 : Int) ≤ ((K + 4 + 2 * N j : Nat) : Int) := by omega
      have hkt : 0 < K + 4 + 2 * N j := by omega
      have e5 : ((K + 5 + 2 * N j : Nat) : Int) = ((K + 4 + 2 * N j : Nat) : Int) + 1 := by omega
      have HKE : Hid (((K + 4 + 2 * N j : Nat) : Int) + 1 + 1 = ((K + 6 + 2 * N j : Nat) : Int)) := by show _ = _; omega
      rw [e5] at x6
      clear e5
      have HTX : Hid (∀ W, Calls Tryz.prog 75 #[.int .i64 ((K + 4 + 2 * N j : Nat) : Int)] W fun e w' => e = .returned (.string (mTx (K + 4 + 2 * N j))) ∧ Below W.heap.size W w') := fun W => markText_any (K + 4 + 2 * N j) W hkt (by omega)
      generalize mTx (K + 4 + 2 * N j) = tx at x5 HTX
      clear hkt
      obtain ⟨M, hMd⟩ : ∃ M : Nat, M = K + 4 + 2 * N j := ⟨_, rfl⟩
      have HMD : Hid (M = K + 4 + 2 * N j) := hMd
      rw [← hMd] at hKb2 hKb0 hneg x6 HTX ⊢
      clear hMd
      have y5 : ∀ W', Below w5.heap.size w5 W' → W'.cell? ⟨b, j * 7 + 5, none⟩ = some (.string tx) := fun W' h => bl_cell h x5
      have y6 : ∀ W', Below w5.heap.size w5 W' → W'.cell? ⟨b, j * 7 + 6, none⟩ = some (.int .i64 ((M : Int) + 1)) := fun W' h => bl_cell h x6
      clear x5 x6
      have hr5 : Below w5.heap.size w5 w5 := Below.refl _ _
      have htx : (tx.toList == tx.toList) = true := beq_self_eq_true _
      go_wp2_with fail
      go_region_held3 (fun W' => Below w5.heap.size w5 W') ((repeat (first | exact Below.refl _ _ | assumption | refine Below.drew ?_ | refine bl_alloc ?_ _ | refine bl_then ?_ (by assumption) | refine Below.setCell ?_ (by first | omega | (simp; done) | (simp; omega)) _ | refine bl_store ?_ ?_ _ _)))
        (first | (go_at_call 75; refine (HTX.out _).mono ?_; rintro e w' ⟨rfl, hb⟩) | fail)
      go_wp2
      go_roundw
      case rel =>
        have hMd := HMD.out
        refine ⟨j + 1, K + 6 + 2 * N j, by have := HLT.out; omega, by show _ = _; rw [kS, ← HK.out], by congr 1; omega, by go_num, bl_then HB.out (bl_then Hb5.out (by assumption))⟩
      case measure => have := HLT.out; simp [intOf]; omega
    · go_wp2
      go_ret
      have hjn : j = n := by omega
      subst hjn
      exact ⟨ret_int (by have := HK.out; omega), hB⟩
end Go.Proofs.YtciidkmonfmipaaGreat
