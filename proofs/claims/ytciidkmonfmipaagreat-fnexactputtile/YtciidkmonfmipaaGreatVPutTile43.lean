/- The model's cache behind a tile that is put. -/
import Derived.Test.YtciidkmonfmipaaGreatVPutTile39
import Derived.Test.YtciidkmonfmipaaGreatVPutTile42
import Derived.Test.YtciidkmonfmipaaGreatVPutTile22
namespace Go.Proofs.YtciidkmonfmipaaGreat
open Go.RowKit
set_option linter.unusedSimpArgs false
set_option linter.unusedVariables false
set_option maxRecDepth 100000

theorem lesJ_zero : ∀ m : Nat, lesJ 0 (m + 1) = (List.range m).map (· + 1)
  | 0 => rfl
  | m + 1 => by
    have h : ¬ ((m + 1 : Nat) : Int) = 0 := by omega
    rw [lesJ, if_neg h, lesJ_zero m, List.range_succ, List.map_append]
    rfl
theorem lesJ_none (n : Nat) : ∀ k : Nat, k ≤ n → lesJ (-1) k = List.range k
  | 0, _ => rfl
  | k + 1, h => by
    have h' : ¬ (k : Int) = -1 := by omega
    rw [lesJ, if_neg h', lesJ_none n k (by omega), List.range_succ]
/-- Where all that is kept is right, a place of -1 leaves all. -/
theorem lesJ_at {n : Nat} {A : Nat → Kp} {z x y : Int} (h0 : ∀ j, j < n → kC A j = 0) : lesJ (atK n A z x y) n = lessI n A z x y := by
  by_cases hat : 0 ≤ atK n A z x y
  · exact lesJ_less h0 hat
  · rcases firstI_or (fun i => isK (A i) z x y) n with ⟨h1, h2⟩ | ⟨i, hi, hg, hf, hn⟩
    · have e : atK n A z x y = -1 := h1
      rw [e, lesJ_none n n (Nat.le_refl _)]
      unfold lessI
      symm
      rw [List.filter_eq_self]
      intro i hi
      have := h2 i (List.mem_range.1 hi)
      rw [this]
      rfl
    · exfalso; apply hat
      have e : atK n A z x y = (i : Int) := hf
      rw [e]; omega
/-- The cache that is made, ahead of what is put. -/
def PuCut (W wx : World) (q : Nat) (s : Int) (a : Option Addr) (c m : Nat) (KL R : Nat → Kp) : Prop :=
  There wx q 2 ∧ wx.cell? ⟨q, 0, none⟩ = some (.int .i64 s) ∧ wx.cell? ⟨q, 1, none⟩ = some (.slice a m c) ∧ W.heap.size ≤ q ∧ Below W.heap.size W wx ∧ ∃ B w2, LesR B w2 a c m KL R ∧ Below w2.heap.size w2 wx ∧ (w2.heap.size ≤ q ∨ q < B) ∧ W.heap.size ≤ B ∧ B ≤ w2.heap.size
theorem PuCut.of {W X w2 : World} {q B : Nat} {s : Int} {a : Option Addr} {c m : Nat} {KL R : Nat → Kp} (hX : Below W.heap.size W X) (hT : There X q 2) (hq : W.heap.size ≤ q) (h : LesR B w2 a c m KL R) (hb : Below w2.heap.size w2 X) (ho : w2.heap.size ≤ q ∨ q < B) (hB : W.heap.size ≤ B) (hB2 : B ≤ w2.heap.size) :
    PuCut W ((X.setCell ⟨q, 0, none⟩ (.int .i64 s)).setCell ⟨q, 1, none⟩ (.slice a m c)) q s a c m KL R := by
  have hM := (((MidB.refl q (q + 1) X).set (Nat.le_refl _) (Nat.lt_succ_self _) 0 (.int .i64 s)).set (Nat.le_refl _) (Nat.lt_succ_self _) 1 (.slice a m c))
  obtain ⟨v0, t0⟩ := (hT 0 (by omega)).1
  obtain ⟨v1, t1⟩ := (hT 1 (by omega)).1
  obtain ⟨z0, z1⟩ := set2_at (W := X) (r := q) (i := 0) (j := 1) (u := .int .i64 s) (v := .slice a m c) (by omega) (by rw [t0]; rfl) (by rw [t1]; rfl)
  refine ⟨(hT.setN _ _).setN _ _, z0, z1, hq, (hX.setCell hq _).setCell hq _, ?_⟩
  rcases ho with ho | ho
  · exact ⟨B, w2, h, (hb.setCell ho _).setCell ho _, .inl ho, hB, hB2⟩
  · have hXs := hb.size
    refine ⟨B, _, h.step (q := q) (fun j h1 h2 => (hM.block j (by omega) (by omega)).trans (hb.block j h1)) (fun W hW => (hW.of_mid hM ho).of_below hb) ho rfl, Below.refl _ _, .inr ho, hB, Nat.le_trans hB2 (Nat.le_trans hXs hM.size)⟩
/-- The cells that are read ahead of what is put. -/
def PuS (q p : Nat) (u : Value) (z x y : Int) (v : Value) (W : World) : Prop := W.cell? ⟨q, 1, none⟩ = some u ∧ CtS W p z x y v
theorem PuS.keepJ {q p : Nat} {u v : Value} {z x y : Int} {w W : World} (h : PuS q p u z x y v w) (hb : ∀ j, (j = q ∨ j = p) → W.heap[j]? = w.heap[j]?) : PuS q p u z x y v W := by
  obtain ⟨h0, h1, h2, h3, h4⟩ := h
  have hq := hb q (.inl rfl)
  have hp := hb p (.inr rfl)
  exact ⟨(World.cell?_of_block (a := ⟨q, _, none⟩) hq).trans h0, (World.cell?_of_block (a := ⟨p, _, none⟩) hp).trans h1, (World.cell?_of_block (a := ⟨p, _, none⟩) hp).trans h2, (World.cell?_of_block (a := ⟨p, _, none⟩) hp).trans h3, (World.cell?_of_block (a := ⟨p, _, none⟩) hp).trans h4⟩
theorem PuS.keepL {q p : Nat} {u v : Value} {z x y : Int} {w W : World} (h : PuS q p u z x y v w) (hb : Below w.heap.size w W) : PuS q p u z x y v W :=
  h.keepJ (fun j hj => hb.block j (by rcases hj with e | e <;> rw [e] <;> first | exact World.block_lt_of_cell? _ _ h.1 | exact World.block_lt_of_cell? _ _ h.2.1))
theorem resPu {T : Array Value} {Wf : World} {r : Nat} {s : Int} {v : Value} (hT : T[4]?.getD undef = .pointer (some ⟨r, 0, none⟩)) (h0 : Wf.cell? ⟨r, 0, none⟩ = some (.int .i64 s)) (h1 : Wf.cell? ⟨r, 1, none⟩ = some v) :
    (results Tryz.f28 T).run Tryz.prog Wf = .ok (.agg #[.int .i64 s, v]) Wf := by
  simp [results, Tryz.results28, go_sem, hT, h0, h1]
/-- Kept tiles told of kept tiles that are the same. -/
theorem LesR.on {B c m : Nat} {w W : World} {a : Option Addr} {K R : Nat → Kp} (h : LesR B w a c m K R) (hGW : GrF B none w W) : m = 0 ∨ ∃ g, a = some ⟨g, 0, none⟩ ∧ KoAt W g m R ∧ (∀ i, i < m → SrcK W (R i)) ∧ ∀ i, i < m → (R i).z = (K i).z ∧ (R i).x = (K i).x ∧ (R i).y = (K i).y ∧ (R i).fn = (K i).fn ∧ (R i).m = (K i).m ∧ (R i).I = (K i).I ∧ ∀ j, j < (R i).fn → ((R i).F j).same ((K i).F j) := by
  refine (h.sm hGW).imp id (fun ⟨g, e, h1, h2⟩ => ⟨g, e, ⟨h1, fun i hi => ?_⟩, fun i hi => (h2 i hi).2.2.1, fun i hi => ?_⟩)
  · obtain ⟨k1, k2, ⟨⟨fb, e1, e2, e3⟩, _, _, _, ib, io, e4, e5, e6⟩, _⟩ := h2 i hi
    exact ⟨k1, ⟨fb, e1, e3, e2⟩, .inr ⟨ib, io, e4, e6, e5⟩⟩
  · obtain ⟨k1, ⟨⟨a1, a2, a3⟩, a4, a5, ⟨a6, a7⟩, a8⟩, _, k4⟩ := h2 i hi
    exact ⟨a1, a2, a3, a4, a5, k4, fun j hj => a7 j (by omega)⟩
set_option maxHeartbeats 16000000 in
theorem l11Put_any (s : Int) (b n cap : Nat) (A : Nat → Kp) (z x y : Int) (fb fn fc : Nat) (F : Nat → Feat) (w : World) (ha : KoAt w b n A) (hsrc : ∀ i, i < n → SrcK w (A i)) (him0 : ∀ i, i < n → 0 < (A i).m) (hn : n ≤ 50) (hft : FsAt w fb 0 fn F) (hfl : fb < w.heap.size) (hfs : SmallFs fn F) (hrt : rtC z x y fn F = 0)
    (k0 : Kp) (hk0 : k0.z = z ∧ k0.x = x ∧ k0.y = y ∧ k0.fn = fn ∧ k0.F = F ∧ k0.m = 64 ∧ k0.I = nz (rtL z x y fn F)) (J : List Nat) (hJ : lesJ (atK n A z x y) n = J) (O : Nat) (hO : O = if ((J.length + 1 : Nat) : Int) ≤ s then 0 else 1) :
    Calls Tryz.prog 28 #[caV s (.slice (some ⟨b, 0, none⟩) n cap), .agg #[.int .i64 z, .int .i64 x, .int .i64 y, .slice (some ⟨fb, 0, none⟩) fn fc]] w fun e w' => ∃ a c R, e = .returned (caV s (.slice a (J.length + 1 - O) c)) ∧ (∀ W, GrF w.heap.size none w' W → KsSm W a (J.length + 1 - O) (fun j => if j + O < J.length then A (J.getD (j + O) 0) else k0) R) ∧ Below w.heap.size w w' := by
  obtain ⟨j0, hj, hy0, hy1, hy2⟩ := info_parts info_kp
  have hbl : b < w.heap.size := ha.1
  obtain ⟨hr, hf, _⟩ := rtC_zero hrt
  obtain ⟨h12, hok⟩ := feats_okF hf
  have hpos : ∀ i, i < fn → 0 < (F i).n := fun i hi => (featC_posM ((featsC_ok hf).2.2 i hi)).1
  have hl64 : (rtL z x y fn F) = rasK (paintF F fn z) (x * 8) (y * 8) 64 := if_pos hrt
  have HAt : Hid (∀ W p, Below w.heap.size w W → CaA W p s (.slice (some ⟨b, 0, none⟩) n cap) → Calls Tryz.prog 41 #[.pointer (some ⟨p, 0, none⟩), refV z x y] W fun e w' => e = .returned (.int .i64 (atK n A z x y)) ∧ Below W.heap.size W w') := fun W p h hc => l11At_any p s _ n cap A z x y W hc (ha.is.below h) (by omega)
  have HLs : Hid (∀ W, Below w.heap.size w W → Calls Tryz.prog 45 #[caV s (.slice (some ⟨b, 0, none⟩) n cap), .int .i64 (atK n A z x y)] W fun e w' => ∃ a c R, e = .returned (caV s (.slice a J.length c)) ∧ LesR (W.heap.size + 3) w' a c J.length (fun j => A (J.getD j 0)) R ∧ Below W.heap.size W w' ∧ W.heap.size + 3 ≤ w'.heap.size) := fun W h => by
    have := l11Less_own s b n cap A (atK n A z x y) W (ha.below h) (fun i hi => (hsrc i hi).below h) him0 (by omega)
    rw [hJ] at this
    exact this
  have HCp : Hid (∀ W, Below w.heap.size w W → Calls Tryz.prog 55 #[.agg #[.int .i64 z, .int .i64 x, .int .i64 y, .slice (some ⟨fb, 0, none⟩) fn fc]] W fun e w' => ∃ g c H, e = .returned (.agg #[.int .i64 z, .int .i64 x, .int .i64 y, .slice (some ⟨g, 0, none⟩) fn c]) ∧ g < w'.heap.size ∧ FOwn w' W.heap.size w'.heap.size (some ⟨g, 0, none⟩) fn F H ∧ Below W.heap.size W w') := fun W h => l11CopyTile_any z x y fb fn fc F W (hft.below h hfl) (Nat.lt_of_lt_of_le hfl h.size) h12 hpos hfs
  have HRa : Hid (∀ W p, Below w.heap.size w W → CtS W p z x y (.slice (some ⟨fb, 0, none⟩) fn fc) → Calls Tryz.prog 51 #[.pointer (some ⟨p, 0, none⟩)] W fun e w' => ∃ gi ci, e = .returned (.slice (some ⟨gi, 0, none⟩) 64 ci) ∧ NsAt w' gi 0 64 (nz (rtL z x y fn F)) ∧ W.heap.size ≤ gi ∧ gi < w'.heap.size ∧ Below W.heap.size W w') := fun W p h hc => by
    refine (l8Raster_off p 0 z x y fb fn fc F W (show TileO W p 0 z x y _ from hc) (hft.below h hfl) (Nat.lt_of_lt_of_le hfl h.size) h12 hok hr).mono ?_
    rintro e w' ⟨v, rfl, hR, hb⟩
    rw [← hl64] at hR
    have hlen : (rtL z x y fn F).length = 64 := by rw [hl64, rasK_len]
    obtain ⟨a', c', hv', _, h0 | ⟨ib, e, g1, g2, g3, _⟩⟩ := hR.own
    · omega
    · rw [hlen] at hv' g3
      subst e
      exact ⟨ib, c', by rw [hv'], g3, g1, g2, hb⟩
  have HKp : Hid (fn ≤ 12 ∧ (∀ i, i < fn → 0 < (F i).n) ∧ SmallFs fn F) := ⟨h12, hpos, hfs⟩
  have HKz : Hid (k0.z = z ∧ k0.x = x ∧ k0.y = y ∧ k0.fn = fn ∧ k0.F = F ∧ k0.m = 64 ∧ k0.I = nz (rtL z x y fn F)) := hk0
  have HO : Hid (O = if ((J.length + 1 : Nat) : Int) ≤ s then 0 else 1) := hO
  have hml := lesJ_len (atK n A z x y) n
  rw [hJ] at hml
  have HIm : Hid (∀ i, i < J.length → 0 < (A (J.getD i 0)).m) := fun i hi => him0 _ (by rw [← hJ] at hi ⊢; exact lesJ_get hi)
  clear ha hsrc him0 hft hfs hrt hk0 hr hf h12 hok hpos hl64 hJ hO
  obtain ⟨m, hm⟩ : ∃ m, J.length = m := ⟨_, rfl⟩
  rw [hm] at HLs hml HO HIm ⊢
  clear hm
  obtain ⟨KL, hKL⟩ : ∃ KL : Nat → Kp, (fun j => A (J.getD j 0)) = KL := ⟨_, rfl⟩
  have eKL : (fun j => if j + O < m then A (J.getD (j + O) 0) else k0) = fun j => if j + O < m then KL (j + O) else k0 := by rw [← hKL]
  have eIm : ∀ i, i < m → 0 < (KL i).m := by rw [← hKL]; exact HIm.out
  have HIm := (show Hid _ from eIm)
  rw [hKL] at HLs
  rw [eKL]
  clear eKL hKL eIm
  generalize nz (rtL z x y fn F) = NZ at *
  generalize atK n A z x y = AT at *
  go_enter Tryz.func28, Tryz.ntmps28
  go_wp2_with fail
  generalize hW : (((w.alloc _).alloc _).alloc _ : World) = W
  have HB0 : Hid (Below w.heap.size w W) := by show Below _ _ _; subst hW; (repeat (first | exact Below.refl _ _ | assumption | refine Below.drew ?_ | refine bl_alloc ?_ _ | refine bl_then ?_ (by assumption) | refine Below.setCell ?_ (by first | omega | (simp; done) | (simp; omega)) _ | refine bl_store ?_ ?_ _ _))
  have HCa : Hid (CaA W w.heap.size s (.slice (some ⟨b, 0, none⟩) n cap)) := by show CaA _ _ _ _; subst hW; exact ((CaA.new _ _ _ _).below (by (repeat (first | exact Below.refl _ _ | assumption | refine Below.drew ?_ | refine bl_alloc ?_ _ | refine bl_then ?_ (by assumption) | refine Below.setCell ?_ (by first | omega | (simp; done) | (simp; omega)) _ | refine bl_store ?_ ?_ _ _)))).below (by (repeat (first | exact Below.refl _ _ | assumption | refine Below.drew ?_ | refine bl_alloc ?_ _ | refine bl_then ?_ (by assumption) | refine Below.setCell ?_ (by first | omega | (simp; done) | (simp; omega)) _ | refine bl_store ?_ ?_ _ _)))
  have HCt : Hid (CtS W (w.heap.size + 1) z x y (.slice (some ⟨fb, 0, none⟩) fn fc)) := by show CtS _ _ _ _ _ _; subst hW; refine ⟨?_, ?_, ?_, ?_⟩ <;> simp [go_sem]
  have HTr0 : Hid (There W (w.heap.size + 2) 2) := by
    show There _ _ _
    subst hW
    have := there2k ((w.alloc (.cells #[.int .i64 s, .slice (some ⟨b, 0, none⟩) n cap] 34)).alloc (.cells #[.int .i64 z, .int .i64 x, .int .i64 y, .slice (some ⟨fb, 0, none⟩) fn fc] 42)) (.int .i64 0) (.slice none 0 0) 34
    simpa using this
  have hszW : w.heap.size + 3 ≤ W.heap.size := by subst hW; simp
  clear hW
  have hR1 := Below.refl W.heap.size W
  go_cut [5] (fun t wx => ∃ q a c R, t = .pointer (some ⟨q, 0, none⟩) ∧ PuCut W wx q s a c m KL R)
  case first =>
    have sy0 : ∀ W', Below W.heap.size W W' → W'.cell? ⟨w.heap.size, 0, none⟩ = some (.int .i64 s) := fun W' h => (HCa.out.below h).1
    have sy1 : ∀ W', Below W.heap.size W W' → W'.cell? ⟨w.heap.size, 1, none⟩ = some (.slice (some ⟨b, 0, none⟩) n cap) := fun W' h => (HCa.out.below h).2
    have sz0 : ∀ W', Below W.heap.size W W' → W'.cell? ⟨w.heap.size + 1, 0, none⟩ = some (.int .i64 z) := fun W' h => (HCt.out.below h).1
    have sz1 : ∀ W', Below W.heap.size W W' → W'.cell? ⟨w.heap.size + 1, 1, none⟩ = some (.int .i64 x) := fun W' h => (HCt.out.below h).2.1
    have sz2 : ∀ W', Below W.heap.size W W' → W'.cell? ⟨w.heap.size + 1, 2, none⟩ = some (.int .i64 y) := fun W' h => (HCt.out.below h).2.2.1
    refine wp_region_noPanic ?_
    refine wp_region_held_drew (S := fun W' => Below W.heap.size W W') (by kernel_rfl) (by have := Below.refl W.heap.size W; (repeat (first | exact Below.refl _ _ | assumption | refine Below.drew ?_ | refine bl_alloc ?_ _ | refine bl_then ?_ (by assumption) | refine Below.setCell ?_ (by first | omega | (simp; done) | (simp; omega)) _ | refine bl_store ?_ ?_ _ _))) (fun hHeld => ?_)
    have hX0 : Below W.heap.size W W.drew := hHeld
    refine takeD (i := 0) (d := some 6) (v := ?vf0) rfl rfl (by kernel_rfl) (by kernel_rfl) (by kernel_rfl) (fun _ _ _ h => h) (Or.inl ⟨by rfl, ?hyf0⟩) (by assumption) ?_
    case hyf0 => (intro w hSw; (try dsimp only at hSw); go_simp <;> with_reducible rfl)
    try simp only [Act.put, List.setIfInBounds_toArray, List.set_cons_zero, List.set_cons_succ]
    refine takeD (i := 1) (d := some 7) (v := ?vf1) rfl rfl (by kernel_rfl) (by kernel_rfl) (by kernel_rfl) (fun _ _ _ h => h) (Or.inl ⟨by rfl, ?hyf1⟩) (by assumption) ?_
    case hyf1 => (intro w hSw; (try dsimp only at hSw); go_simp <;> with_reducible rfl)
    try simp only [Act.put, List.setIfInBounds_toArray, List.set_cons_zero, List.set_cons_succ]
    refine takeD (i := 2) (d := some 8) (v := ?vf2) rfl rfl (by kernel_rfl) (by kernel_rfl) (by kernel_rfl) (fun _ _ _ h => h) (Or.inl ⟨by rfl, ?hyf2⟩) (by assumption) ?_
    case hyf2 => (intro w hSw; (try dsimp only at hSw); go_simp <;> with_reducible rfl)
    try simp only [Act.put, List.setIfInBounds_toArray, List.set_cons_zero, List.set_cons_succ]
    generalize W.drew = wk0 at *
    refine wpAnyH_ready (rs := [3, 5]) (by kernel_rfl) (by simp) ?_
    refine (AllReadyH.cons rfl (fun K hK => ?_) (AllReadyH.cons rfl (fun K hK => ?_) AllReadyH.nil))
    · rw [if_pos (by rfl)]
      go_simp
      refine Calls.mono (HAt.out _ _ (bl_then HB0.out hX0) (HCa.out.below hX0)) ?_
      rintro e w1 ⟨rfl, hb1⟩
      have hX1 : Below W.heap.size W w1 := bl_then hX0 hb1
      have hzs1 := hb1.size
      go_wp2_with fail
      refine hK.out _ _ hX1 (fun hHeld => ?_)
      clear hK K
      try simp only [Act.put, List.setIfInBounds_toArray, List.set_cons_zero, List.set_cons_succ]
      refine wpAnyH_ready (rs := [4, 5]) (by kernel_rfl) (by simp) ?_
      refine (AllReadyH.cons rfl (fun K hK => ?_) (AllReadyH.cons rfl (fun K hK => ?_) AllReadyH.nil))
      · rw [if_pos (by rfl)]
        go_simp
        refine Calls.mono (HLs.out _ (bl_then HB0.out hX1)) ?_
        rintro e w2 ⟨ua, uc, R, rfl, hL2, hb2, hys2⟩
        have hxs2 := hX1.size
        have hX2 : Below W.heap.size W w2 := bl_then hX1 hb2
        have hzs2 := hb2.size
        go_wp2_with fail
        refine hK.out _ _ hX2 (fun hHeld => ?_)
        clear hK K
        try simp only [Act.put, List.setIfInBounds_toArray, List.set_cons_zero, List.set_cons_succ]
        refine wpAnyH_ready (rs := [5]) (by kernel_rfl) (by simp) ?_
        refine (AllReadyH.cons rfl (fun K hK => ?_) AllReadyH.nil)
        rw [if_pos (by rfl)]
        go_simp
        generalize hwA : (World.alloc _ _ : World) = w3
        have hb3 : Below w2.heap.size w2 w3 := by subst hwA; (repeat (first | exact Below.refl _ _ | assumption | refine Below.drew ?_ | refine bl_alloc ?_ _ | refine bl_then ?_ (by assumption) | refine Below.setCell ?_ (by first | omega | (simp; done) | (simp; omega)) _ | refine bl_store ?_ ?_ _ _))
        have hT3 : There w3 w2.heap.size 2 := by subst hwA; exact there2k _ _ _ _
        have hz3 : w3.heap.size = w2.heap.size + 1 := by subst hwA; simp
        clear hwA
        have hX3 : Below W.heap.size W w3 := bl_then hX2 hb3
        have hs3 : W.heap.size ≤ w2.heap.size := hX2.size
        refine hK.out _ _ hX3 (fun hHeld => ?_)
        clear hK K
        try simp only [Act.put, List.setIfInBounds_toArray, List.set_cons_zero, List.set_cons_succ]
        refine wpAnyH_ready (rs := [6]) (by kernel_rfl) (by simp) ?_
        refine (AllReadyH.cons rfl (fun K hK => ?_) AllReadyH.nil)
        rw [if_pos (by rfl)]
        have t0 := hT3.cell 0 (by omega)
        have f0 := (hT3 0 (by omega)).2
        have t1 := hT3.cell 1 (by omega)
        have f1 := (hT3 1 (by omega)).2
        go_simp
        refine hK.out _ _ ((hX3.setCell hs3 _).setCell hs3 _) (fun hHeld => ?_)
        clear hK K
        try simp only [Act.put, List.setIfInBounds_toArray, List.set_cons_zero, List.set_cons_succ]
        have hPC := PuCut.of (s := s) (a := ua) (c := uc) hX3 hT3 hs3 hL2 hb3 (.inl (Nat.le_refl _)) (by omega) (by omega)
        refine wpAnyH_done (by kernel_rfl) ?_ _
        refine NoPanic.normal ?_
        go_wp2_with fail
        go_meet
        case rel => exact ⟨_, _, _, _, rfl, hPC⟩
      · rw [if_pos (by rfl)]
        go_simp
        generalize hwA : (World.alloc _ _ : World) = w4
        have hb4 : Below w1.heap.size w1 w4 := by subst hwA; (repeat (first | exact Below.refl _ _ | assumption | refine Below.drew ?_ | refine bl_alloc ?_ _ | refine bl_then ?_ (by assumption) | refine Below.setCell ?_ (by first | omega | (simp; done) | (simp; omega)) _ | refine bl_store ?_ ?_ _ _))
        have hT4 : There w4 w1.heap.size 2 := by subst hwA; exact there2k _ _ _ _
        have hz4 : w4.heap.size = w1.heap.size + 1 := by subst hwA; simp
        clear hwA
        have hX4 : Below W.heap.size W w4 := bl_then hX1 hb4
        have hs4 : W.heap.size ≤ w1.heap.size := hX1.size
        refine hK.out _ _ hX4 (fun hHeld => ?_)
        clear hK K
        try simp only [Act.put, List.setIfInBounds_toArray, List.set_cons_zero, List.set_cons_succ]
        refine wpAnyH_ready (rs := [4]) (by kernel_rfl) (by simp) ?_
        refine (AllReadyH.cons rfl (fun K hK => ?_) AllReadyH.nil)
        rw [if_pos (by rfl)]
        go_simp
        refine Calls.mono (HLs.out _ (bl_then HB0.out hX4)) ?_
        rintro e w5 ⟨ua, uc, R, rfl, hL5, hb5, hys5⟩
        have hxs5 := hX4.size
        have hX5 : Below W.heap.size W w5 := bl_then hX4 hb5
        have hzs5 := hb5.size
        have hT5 := There.below hT4 hb5
        go_wp2_with fail
        refine hK.out _ _ hX5 (fun hHeld => ?_)
        clear hK K
        try simp only [Act.put, List.setIfInBounds_toArray, List.set_cons_zero, List.set_cons_succ]
        refine wpAnyH_ready (rs := [6]) (by kernel_rfl) (by simp) ?_
        refine (AllReadyH.cons rfl (fun K hK => ?_) AllReadyH.nil)
        rw [if_pos (by rfl)]
        have t0 := hT5.cell 0 (by omega)
        have f0 := (hT5 0 (by omega)).2
        have t1 := hT5.cell 1 (by omega)
        have f1 := (hT5 1 (by omega)).2
        go_simp
        refine hK.out _ _ ((hX5.setCell hs4 _).setCell hs4 _) (fun hHeld => ?_)
        clear hK K
        try simp only [Act.put, List.setIfInBounds_toArray, List.set_cons_zero, List.set_cons_succ]
        have hPC := PuCut.of (s := s) (a := ua) (c := uc) hX5 hT5 hs4 hL5 (Below.refl _ _) (.inr (by omega)) (by omega) (by omega)
        refine wpAnyH_done (by kernel_rfl) ?_ _
        refine NoPanic.normal ?_
        go_wp2_with fail
        go_meet
        case rel => exact ⟨_, _, _, _, rfl, hPC⟩
    · rw [if_pos (by rfl)]
      go_simp
      generalize hwA : (World.alloc _ _ : World) = w6
      have hb6 : Below wk0.heap.size wk0 w6 := by subst hwA; (repeat (first | exact Below.refl _ _ | assumption | refine Below.drew ?_ | refine bl_alloc ?_ _ | refine bl_then ?_ (by assumption) | refine Below.setCell ?_ (by first | omega | (simp; done) | (simp; omega)) _ | refine bl_store ?_ ?_ _ _))
      have hT6 : There w6 wk0.heap.size 2 := by subst hwA; exact there2k _ _ _ _
      have hz6 : w6.heap.size = wk0.heap.size + 1 := by subst hwA; simp
      clear hwA
      have hX6 : Below W.heap.size W w6 := bl_then hX0 hb6
      have hs6 : W.heap.size ≤ wk0.heap.size := hX0.size
      refine hK.out _ _ hX6 (fun hHeld => ?_)
      clear hK K
      try simp only [Act.put, List.setIfInBounds_toArray, List.set_cons_zero, List.set_cons_succ]
      refine wpAnyH_ready (rs := [3]) (by kernel_rfl) (by simp) ?_
      refine (AllReadyH.cons rfl (fun K hK => ?_) AllReadyH.nil)
      rw [if_pos (by rfl)]
      go_simp
      refine Calls.mono (HAt.out _ _ (bl_then HB0.out hX6) (HCa.out.below hX6)) ?_
      rintro e w7 ⟨rfl, hb7⟩
      have hX7 : Below W.heap.size W w7 := bl_then hX6 hb7
      have hzs7 := hb7.size
      have hT7 := There.below hT6 hb7
      go_wp2_with fail
      refine hK.out _ _ hX7 (fun hHeld => ?_)
      clear hK K
      try simp only [Act.put, List.setIfInBounds_toArray, List.set_cons_zero, List.set_cons_succ]
      refine wpAnyH_ready (rs := [4]) (by kernel_rfl) (by simp) ?_
      refine (AllReadyH.cons rfl (fun K hK => ?_) AllReadyH.nil)
      rw [if_pos (by rfl)]
      go_simp
      refine Calls.mono (HLs.out _ (bl_then HB0.out hX7)) ?_
      rintro e w8 ⟨ua, uc, R, rfl, hL8, hb8, hys8⟩
      have hxs8 := hX7.size
      have hX8 : Below W.heap.size W w8 := bl_then hX7 hb8
      have hzs8 := hb8.size
      have hT8 := There.below hT7 hb8
      go_wp2_with fail
      refine hK.out _ _ hX8 (fun hHeld => ?_)
      clear hK K
      try simp only [Act.put, List.setIfInBounds_toArray, List.set_cons_zero, List.set_cons_succ]
      refine wpAnyH_ready (rs := [6]) (by kernel_rfl) (by simp) ?_
      refine (AllReadyH.cons rfl (fun K hK => ?_) AllReadyH.nil)
      rw [if_pos (by rfl)]
      have t0 := hT8.cell 0 (by omega)
      have f0 := (hT8 0 (by omega)).2
      have t1 := hT8.cell 1 (by omega)
      have f1 := (hT8 1 (by omega)).2
      go_simp
      refine hK.out _ _ ((hX8.setCell hs6 _).setCell hs6 _) (fun hHeld => ?_)
      clear hK K
      try simp only [Act.put, List.setIfInBounds_toArray, List.set_cons_zero, List.set_cons_succ]
      have hPC := PuCut.of (s := s) (a := ua) (c := uc) hX8 hT8 hs6 hL8 (Below.refl _ _) (.inr (by omega)) (by omega) (by omega)
      refine wpAnyH_done (by kernel_rfl) ?_ _
      refine NoPanic.normal ?_
      go_wp2_with fail
      go_meet
      case rel => exact ⟨_, _, _, _, rfl, hPC⟩
  obtain ⟨q, ua, uc, R, rfl, HTq, h0, h1, hWq, hBW, B, w2, hL, hb2r, hqB, hWB, hB2⟩ := hcut
  generalize wc = wr at *
  have HTq : Hid (There wr q 2) := HTq
  have H0 := (show Hid _ from h0)
  have HL : Hid (LesR B w2 ua uc m KL R) := hL
  have HB2r : Hid (Below w2.heap.size w2 wr) := hb2r
  have HBw2 : Hid (Below w.heap.size w wr) := bl_then HB0.out hBW
  have HBw := HBw2
  have HTr : Hid (There wr (w.heap.size + 2) 2) := HTr0.out.below hBW
  have HCt2 : Hid (CtS wr (w.heap.size + 1) z x y (.slice (some ⟨fb, 0, none⟩) fn fc)) := HCt.out.below hBW
  have hS6 : PuS q (w.heap.size + 1) (.slice ua m uc) z x y (.slice (some ⟨fb, 0, none⟩) fn fc) wr := ⟨h1, HCt2.out⟩
  have h2s := hb2r.size
  have hql : q < wr.heap.size := World.block_lt_of_cell? _ _ h0
  have hBWs := hBW.size
  clear h0 h1 hBW hL hb2r HCa HTr0 HAt hR1
  go_wp2_with fail
  refine wp_region_noPanic ?_
  refine wp_region_L (S := PuS q (w.heap.size + 1) (.slice ua m uc) z x y (.slice (some ⟨fb, 0, none⟩) fn fc)) (z := 9) (by kernel_rfl) ?_
  have hB0 : Below wr.heap.size wr wr.drew := by have := Below.refl wr.heap.size wr; (repeat (first | exact Below.refl _ _ | assumption | refine Below.drew ?_ | refine bl_alloc ?_ _ | refine bl_then ?_ (by assumption) | refine Below.setCell ?_ (by first | omega | (simp; done) | (simp; omega)) _ | refine bl_store ?_ ?_ _ _))
  have hSd : PuS q (w.heap.size + 1) (.slice ua m uc) z x y (.slice (some ⟨fb, 0, none⟩) fn fc) wr.drew := hS6
  refine wpAnyL_take (i := 0) (v := ?q1) rfl (by kernel_rfl) (by kernel_rfl) (by kernel_rfl) (by kernel_rfl) (fun _ _ _ h => h) (Or.inl ⟨by rfl, ?hq1⟩) hSd ?_
  case hq1 => (intro wz hSw; clear hSw; go_simp <;> with_reducible rfl)
  try simp only [Act.put, List.setIfInBounds_toArray, List.set_cons_zero, List.set_cons_succ]
  refine wpAnyL_take (i := 1) (v := ?q2) rfl (by kernel_rfl) (by kernel_rfl) (by kernel_rfl) (by kernel_rfl) (fun _ _ _ h => h) (Or.inl ⟨by rfl, ?hq2⟩) hSd ?_
  case hq2 => (intro wz hSw; have s0 := hSw.1; clear hSw; go_simp <;> with_reducible rfl)
  try simp only [Act.put, List.setIfInBounds_toArray, List.set_cons_zero, List.set_cons_succ]
  refine wpAnyL_take (i := 2) (v := ?q3) rfl (by kernel_rfl) (by kernel_rfl) (by kernel_rfl) (by kernel_rfl) (fun _ _ _ h => h) (Or.inl ⟨by rfl, ?hq3⟩) hSd ?_
  case hq3 => (intro wz hSw; have s1 := hSw.2.1; have s2 := hSw.2.2.1; have s3 := hSw.2.2.2.1; have s4 := hSw.2.2.2.2; clear hSw; go_simp <;> with_reducible rfl)
  try simp only [Act.put, List.setIfInBounds_toArray, List.set_cons_zero, List.set_cons_succ]
  refine wpAnyL_one (i := 3) (by kernel_rfl) rfl (fun K hK => ?_)
  go_simp
  refine Calls.mono (HCp.out _ (bl_then HBw.out hB0)) ?_
  rintro e wk1 ⟨cg, cc, CH, rfl, hcg1, hF1, hbk1⟩
  have hBk1 : Below wr.heap.size wr wk1 := bl_then hB0 hbk1
  have hSk1 : PuS q (w.heap.size + 1) (.slice ua m uc) z x y (.slice (some ⟨fb, 0, none⟩) fn fc) wk1 := hS6.keepL hBk1
  go_wp2_with fail
  refine hK.out _ _ (fun _ => hSk1) ?_
  clear hK K
  try simp only [Act.put, List.setIfInBounds_toArray, List.set_cons_zero, List.set_cons_succ]
  refine wpAnyL_one (i := 4) (by kernel_rfl) rfl (fun K hK => ?_)
  go_simp
  refine Calls.mono (HRa.out _ _ (bl_then HBw.out hBk1) hSk1.2) ?_
  rintro e wi ⟨gi, ci, rfl, hNi, hgi1, hlti, hbk2⟩
  have hBi : Below wr.heap.size wr wi := bl_then hBk1 hbk2
  have hSi : PuS q (w.heap.size + 1) (.slice ua m uc) z x y (.slice (some ⟨fb, 0, none⟩) fn fc) wi := hS6.keepL hBi
  go_wp2_with fail
  refine hK.out _ _ (fun _ => hSi) ?_
  clear hK K
  try simp only [Act.put, List.setIfInBounds_toArray, List.set_cons_zero, List.set_cons_succ]
  have hFi := hF1.keep hbk2
  have hz0 := hB0.size
  have hz1 := hbk1.size
  have hz2 := hbk2.size
  refine wpAnyL_take (i := 5) (v := ?q4) rfl (by kernel_rfl) (by kernel_rfl) (by kernel_rfl) (by kernel_rfl) (fun _ _ _ h => h) (Or.inl ⟨by rfl, ?hq4⟩) hSi ?_
  case hq4 => (intro wz hSw; clear hSw; go_simp <;> with_reducible rfl)
  try simp only [Act.put, List.setIfInBounds_toArray, List.set_cons_zero, List.set_cons_succ]
  refine wpAnyL_one (i := 6) (by kernel_rfl) rfl (fun K hK => ?_)
  go_simp
  generalize hwA : (World.alloc _ _ : World) = wA
  have hbA : Below wi.heap.size wi wA := by subst hwA; (repeat (first | exact Below.refl _ _ | assumption | refine Below.drew ?_ | refine bl_alloc ?_ _ | refine bl_then ?_ (by assumption) | refine Below.setCell ?_ (by first | omega | (simp; done) | (simp; omega)) _ | refine bl_store ?_ ?_ _ _))
  have hzA : wA.heap.size = wi.heap.size + 1 := by subst hwA; simp
  have hnew : ∀ q v, (kpCs (agK ⟨z, x, y, some ⟨cg, 0, none⟩, fn, cc, CH, some ⟨gi, 0, none⟩, 64, ci, NZ⟩ 0))[q]? = some v → wA.cell? ((⟨wi.heap.size, 0, none⟩ : Addr).add q) = some v := by
    intro q v hq
    have hq5 : q < 5 := (List.getElem?_eq_some_iff.1 hq).1
    have hc : q = 0 ∨ q = 1 ∨ q = 2 ∨ q = 3 ∨ q = 4 := by omega
    subst hwA
    rcases hc with rfl | rfl | rfl | rfl | rfl <;> (simp [kpCs, agK] at hq; subst hq; simp [Addr.add, go_sem])
  have HOA : wA.ownsRow B 72 5 (.slice ua m uc) m (kpsCs (rowL m R)) := ownsRow_belowK (ownsRow_belowK (ownsRow_belowK HL.out.1 HB2r.out) hBi) hbA
  clear hwA
  have hBA : Below wr.heap.size wr wA := bl_then hBi hbA
  have hsA := hBA.size
  have hSA : PuS q (w.heap.size + 1) (.slice ua m uc) z x y (.slice (some ⟨fb, 0, none⟩) fn fc) wA := hS6.keepL hBA
  refine hK.out _ _ (fun _ => hSA) ?_
  clear hK K
  try simp only [Act.put, List.setIfInBounds_toArray, List.set_cons_zero, List.set_cons_succ]
  refine wpAnyL_one (i := 7) (by kernel_rfl) rfl (fun K hK => ?_)
  refine step_append_lies _ rfl (.tmp 12) (.tmp 17) 32 rfl B 72 j0 (.agg zeroKp) 5 72 Tryz.underlying32 hj hy0 hy1 hy2 rfl (by decide) (.slice ua m uc) m (kpsCs (rowL m R)) rfl HOA ⟨wi.heap.size, 0, none⟩ 1 1 (kpCs (agK ⟨z, x, y, some ⟨cg, 0, none⟩, fn, cc, CH, some ⟨gi, 0, none⟩, 64, ci, NZ⟩ 0)) rfl rfl hnew (kpCs_one _) (by omega) ?f3 ?f4 ?f5 _ rfl ?_
  case f3 => unfold maxLen; omega
  case f4 => omega
  case f5 => omega
  intro gr cr w3 hO3 hg3 hl3 hlt3
  have hMg : ∀ j, (j = q ∨ j = w.heap.size + 1) → w3.heap[j]? = wr.heap[j]? := fun j hj => by
    have hjl : j < wr.heap.size := by omega
    have hjo : some j ≠ (Value.slice ua m uc).ownBlock := fun e => by have := HL.out.1.lt j e.symm; omega
    exact (hg3.block j (by omega) hjo).trans (hBA.block j hjl)
  have hS3 : PuS q (w.heap.size + 1) (.slice ua m uc) z x y (.slice (some ⟨fb, 0, none⟩) fn fc) w3 := hS6.keepJ hMg
  refine hK.out _ _ (fun _ => hS3) ?_
  clear hK K
  try simp only [Act.put, List.setIfInBounds_toArray, List.set_cons_zero, List.set_cons_succ]
  refine wpAnyL_take (i := 8) (v := ?q5) rfl (by kernel_rfl) (by kernel_rfl) (by kernel_rfl) (by kernel_rfl) (fun _ _ _ h => h) (Or.inl ⟨by rfl, ?hq5⟩) hS3 ?_
  case hq5 => (intro wz hSw; clear hSw; go_simp <;> with_reducible rfl)
  try simp only [Act.put, List.setIfInBounds_toArray, List.set_cons_zero, List.set_cons_succ]
  have HT3 : Hid (There w3 q 2) := HTq.out.keepB (hMg q (.inl rfl))
  have z1 := hS3.1
  have y1 := (HT3.out 1 (by omega)).2
  refine wpAnyL_one (i := 9) (by kernel_rfl) rfl (fun K hK => ?_)
  go_simp
  refine hK.out _ _ (fun h => absurd rfl h) ?_
  clear hK K
  try simp only [Act.put, List.setIfInBounds_toArray, List.set_cons_zero, List.set_cons_succ]
  refine wpAnyL_done (by kernel_rfl) ?_ _
  refine NoPanic.normal ?_
  have hf3 := hg3.size
  have HNw := (show Hid _ from far_new (B := wr.heap.size) (T := wr.heap.size) (ob := (Value.slice ua m uc).ownBlock) (kz := z) (kx := x) (ky := y) (kfa := some ⟨fb, 0, none⟩) (fc := fc) (cc := cc) (ic := 64) (ci := ci) (kia := none) (Nat.le_refl _) (fun j e => by have := (HL.out.1.lt j e).2; omega) hFi (Nat.lt_of_lt_of_le hcg1 hz2) (by omega) hNi (by omega) hlti HKp.out.1 HKp.out.2.1 HKp.out.2.2 (by omega))
  have HNk : Hid (KpFar wr.heap.size (Value.slice ua m uc).ownBlock wi k0 ⟨z, x, y, some ⟨cg, 0, none⟩, fn, cc, CH, some ⟨gi, 0, none⟩, 64, ci, NZ⟩) := fun WW hWW => by
    obtain ⟨⟨a1, a2, a3, a4, a5⟩, a6, a7⟩ := HNw.out WW hWW
    obtain ⟨e1, e2, e3, e4, e5, e6, e7⟩ := HKz.out
    refine ⟨⟨⟨e1.symm, e2.symm, e3.symm⟩, e4.symm, e6.symm, ?_, ?_⟩, a6, e7.symm⟩
    · rw [e4, e5]; exact a4
    · rw [e6, e7]; exact a5
  have HLn := (show Hid _ from HL.out.add (q := q) (v := .slice (some ⟨gr, 0, none⟩) (m + 1) cr) (bl_then HB2r.out hBi) hbA hO3 hg3 hl3 hqB (by omega) hql (by omega) HNk.out)
  have HB3 : Hid (Below B w2 w3) := ((HB2r.out.mono hB2).trans (hBA.mono (by omega))).trans ((Below.refl _ _).grown hg3 (by omega) (fun j e => (HL.out.1.lt j e).1))
  have HBr3 : Hid (Below w.heap.size w w3) := HBw2.out.trans ((hBA.mono (by omega)).trans ((Below.refl _ _).grown hg3 (by omega) (fun j e => by have := (HL.out.1.lt j e).1; omega)))
  have H30 : Hid (w3.cell? ⟨q, 0, none⟩ = some (.int .i64 s)) := (World.cell?_of_block (a := ⟨q, 0, none⟩) (hMg q (.inl rfl))).trans H0.out
  have HT3r : Hid (There w3 (w.heap.size + 2) 2) := HTr.out.keepB (by
    have hjo : some (w.heap.size + 2) ≠ (Value.slice ua m uc).ownBlock := fun e => by have := HL.out.1.lt _ e.symm; omega
    exact (hg3.block _ (by omega) hjo).trans (hBA.block _ (by omega)))
  clear hS3 hSA hSi hSk1 hSd hnew hO3 hg3 hl3 hFi hNi hgi1 hS6 y1 HOA hBA hbA hBi hMg hF1 hbk1 hbk2 hBk1 hB0
  generalize hwS : (World.setCell _ _ _ : World) = wS at *
  have hMS : MidB q (q + 1) w3 wS := by subst hwS; exact (MidB.refl _ _ _).set (Nat.le_refl _) (Nat.lt_succ_self _) _ _
  have c0 : wS.cell? ⟨q, 0, none⟩ = some (.int .i64 s) := by subst hwS; rw [set1_other (fun e => by injection e with _ e; omega)]; exact H30.out
  have c1 : wS.cell? ⟨q, 1, none⟩ = some (.slice (some ⟨gr, 0, none⟩) (m + 1) cr) := by subst hwS; exact set1_same z1
  have hTS : There wS (w.heap.size + 2) 2 := hMS.there HT3r.out (.inl (by omega))
  have HBS : Hid (Below w.heap.size w wS) := HBr3.out.trans (hMS.below (by omega) |>.mono (by omega))
  have hwSs := hMS.size
  clear hwS hMS z1 HBr3 HB3 HT3r H30 HNk HNw HT3
  by_cases hms : ((m + 1 : Nat) : Int) ≤ s
  · have hO0 : O = 0 := by rw [HO.out, if_pos hms]
    have hnb : ¬ s < ((m + 1 : Nat) : Int) := by omega
    have hnb2 : ¬ s < (m : Int) + 1 := by omega
    obtain ⟨v0, t0⟩ := (hTS 0 (by omega)).1
    obtain ⟨v1, t1⟩ := (hTS 1 (by omega)).1
    have f0 := (hTS 0 (by omega)).2
    have f1 := (hTS 1 (by omega)).2
    clear hms
    go_wp2_with fail
    obtain ⟨z0, z1⟩ := set2_at (W := wS) (r := w.heap.size + 2) (i := 0) (j := 1) (u := .int .i64 s) (v := .slice (some ⟨gr, 0, none⟩) (m + 1) cr) (by omega) (by rw [t0]; rfl) (by rw [t1]; rfl)
    have hMF := (((MidB.refl (w.heap.size + 2) (w.heap.size + 2 + 1) wS).set (Nat.le_refl _) (Nat.lt_succ_self _) 0 (.int .i64 s)).set (Nat.le_refl _) (Nat.lt_succ_self _) 1 (.slice (some ⟨gr, 0, none⟩) (m + 1) cr))
    refine bodyPost_ret (resPu rfl z0 z1) rfl ⟨_, ⟨_, by first | rfl | rw [hO0]⟩, ⟨fun i => if i = m then ⟨z, x, y, some ⟨cg, 0, none⟩, fn, cc, CH, some ⟨gi, 0, none⟩, 64, ci, NZ⟩ else R i, fun WW hWW => ?_⟩, (HBS.out.setCell (leM _) _).setCell (leM _) _⟩
    try rw [hO0]
    refine (LesR.ks HLn.out ((hWW.wide (show w.heap.size ≤ B by omega)).of_mid hMF (by omega))).congr (fun i hi => ?_)
    try simp only [Nat.add_zero]
    by_cases e : i = m
    · rw [if_pos e, if_neg (by omega)]
    · rw [if_neg e, if_pos (by omega)]
  · have hO1 : O = 1 := by rw [HO.out, if_neg hms]
    have hnb : s < ((m + 1 : Nat) : Int) := by omega
    have hnb2 : s < (m : Int) + 1 := by omega
    obtain ⟨hKo, hSr, hSm⟩ : KoAt wS gr (m + 1) _ ∧ _ ∧ _ := by
      rcases LesR.on HLn.out ⟨rfl, rfl, rfl, Nat.le_refl _, fun _ _ _ _ => rfl⟩ with h0 | ⟨g, e, h1, h2, h3⟩
      · omega
      · injection e with e; injection e with e1; subst e1; exact ⟨h1, h2, h3⟩
    have hLl := l11Less_own s gr (m + 1) cr _ 0 wS hKo hSr (fun i hi => by
      rw [(hSm i hi).2.2.2.2.1]
      by_cases e : i = m
      · rw [if_pos e, HKz.out.2.2.2.2.2.1]; omega
      · rw [if_neg e]; exact HIm.out i (by omega)) (by omega)
    rw [lesJ_zero] at hLl
    rw [List.length_map, List.length_range] at hLl
    have HLl := (show Hid _ from hLl)
    have HSm := (show Hid _ from hSm)
    have HTS : Hid (There wS (w.heap.size + 2) 2) := hTS
    clear hms hKo hSr hSm hLl hTS HLn
    go_wp2_with fail
    refine Calls.mono HLl.out ?_
    rintro e w7 ⟨a2, cc2, R2, rfl, hL7, hb7, _⟩
    have hT7 := HTS.out.below hb7
    obtain ⟨v0, t0⟩ := (hT7 0 (by omega)).1
    obtain ⟨v1, t1⟩ := (hT7 1 (by omega)).1
    have f0 := (hT7 0 (by omega)).2
    have f1 := (hT7 1 (by omega)).2
    have HL7 := (show Hid _ from hL7)
    have HB7 : Hid (Below w.heap.size w w7) := bl_then HBS.out hb7
    clear hL7 hb7 hT7 HLl c0 c1
    go_wp2_with fail
    obtain ⟨z0, z1⟩ := set2_at (W := w7) (r := w.heap.size + 2) (i := 0) (j := 1) (u := .int .i64 s) (v := .slice a2 m cc2) (by omega) (by rw [t0]; rfl) (by rw [t1]; rfl)
    have hMF := (((MidB.refl (w.heap.size + 2) (w.heap.size + 2 + 1) w7).set (Nat.le_refl _) (Nat.lt_succ_self _) 0 (.int .i64 s)).set (Nat.le_refl _) (Nat.lt_succ_self _) 1 (.slice a2 m cc2))
    refine bodyPost_ret (resPu rfl z0 z1) rfl ⟨a2, cc2, R2, by first | rfl | rw [hO1, Nat.add_sub_cancel], fun WW hWW => ?_, (HB7.out.setCell (leM _) _).setCell (leM _) _⟩
    try rw [hO1, Nat.add_sub_cancel]
    refine (LesR.ks HL7.out ((hWW.wide (show w.heap.size ≤ wS.heap.size + 3 by omega)).of_mid hMF (by omega))).of_same (fun i hi => ?_)
    have hge : ((List.range m).map (· + 1)).getD i 0 = i + 1 := by simp [List.getD, hi]
    have hs := HSm.out (i + 1) (by omega)
    simp only [hge]
    have eK : (if i + 1 < m then KL (i + 1) else k0) = (if i + 1 = m then k0 else KL (i + 1)) := by
      by_cases e : i + 1 = m
      · rw [if_pos e, if_neg (by omega)]
      · rw [if_neg e, if_pos (by omega)]
    rw [eK]
    exact hs
end Go.Proofs.YtciidkmonfmipaaGreat
