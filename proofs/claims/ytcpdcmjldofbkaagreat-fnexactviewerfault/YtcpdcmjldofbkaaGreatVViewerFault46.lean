/- Several texts in one. -/
import Derived.Test.YtcpdcmjldofbkaaGreatVViewerFault23
import Derived.Test.YtcpdcmjldofbkaaGreatVViewerFault42
import Derived.Test.YtcpdcmjldofbkaaGreatVViewerFault17
import Derived.Test.YtcpdcmjldofbkaaGreatVViewerFault45

/- Tiles that come in: copied into memory of their own, and marked. -/

namespace Go.Proofs.YtcpdcmjldofbkaaGreat
open Go.RowKit
set_option linter.unusedSimpArgs false
set_option linter.unusedVariables false
set_option maxRecDepth 100000

theorem OwnQ.wideQ {w : World} {lo hi lo' b n : Nat} {N C q : Nat → Nat} (h : OwnQ w lo hi b n N C q) (hl : lo' ≤ lo) : OwnQ w lo' hi b n N C q := by
  obtain ⟨⟨h1, h2, h3⟩, h4, h5, h6⟩ := h
  exact ⟨⟨by omega, h2, h3⟩, h4, fun i hi => ⟨⟨by have := (h5 i hi).1; omega, (h5 i hi).1.2⟩, (h5 i hi).2⟩, h6⟩
theorem OwnQ.atQ {w : World} {lo hi hi' b n : Nat} {N C q : Nat → Nat} (h : OwnQ w lo hi b n N C q) (e : hi' = hi) : OwnQ w lo hi' b n N C q := by rw [e]; exact h
set_option maxHeartbeats 4000000 in
theorem toTile_own (z x y : Int) (a : Option Addr) (n cap : Nat) (F : Nat → Feat) (w : World) (hp : IsFs w a n F) (hmax : n ≤ 1048576) (hall : ∀ i, i < n → (F i).n ≤ 1048576) :
    Calls Tryz.prog 90 #[tileV z x y (.slice a n cap)] w fun e w' => ∃ b G, e = .returned (tileV z x y (.slice (some ⟨b, 0, none⟩) n n)) ∧ OwnFs w' w.heap.size b n F G ∧ (∃ q, OwnQ w' w.heap.size w'.heap.size b n (fun i => (F i).n) (fun i => (F i).n) q) ∧ Below w.heap.size w w' := by
  have HF : Hid (IsFs w a n F) := hp
  have HA : Hid (∀ i, i < n → (F i).n ≤ 1048576) := hall
  clear hp hall
  go_enter Tryz.func90, Tryz.ntmps90
  go_wp2_with fail
  generalize hW : (((w.alloc _).alloc _).alloc _ : World) = W
  have hB0 : Below w.heap.size w W := by subst hW; (repeat (first | exact Below.refl _ _ | assumption | refine Below.drew ?_ | refine bl_alloc ?_ _ | refine bl_then ?_ (by assumption) | refine Below.setCell ?_ (by first | omega | (simp; done) | (simp; omega)) _ | refine bl_store ?_ ?_ _ _))
  have HT : Hid (There W (w.heap.size + 1) 4) := by
    show There _ _ _
    subst hW
    have := (there4r (w.alloc (.cells #[.int .i64 z, .int .i64 x, .int .i64 y, .slice a n cap] 104)) (.int .i64 0) (.int .i64 0) (.int .i64 0) (.slice none 0 0) 112).below (bl_alloc (Below.refl _ _) (.cells #[.int .i64 0, .int .i64 0, .int .i64 0, .slice none 0 0] 112))
    simpa using this
  have HU : Hid (There W (w.heap.size + 1 + 1) 4) := by
    show There _ _ _
    subst hW
    have := there4r ((w.alloc (.cells #[.int .i64 z, .int .i64 x, .int .i64 y, .slice a n cap] 104)).alloc (.cells #[.int .i64 0, .int .i64 0, .int .i64 0, .slice none 0 0] 112)) (.int .i64 0) (.int .i64 0) (.int .i64 0) (.slice none 0 0) 112
    simpa using this
  have c3 : W.cell? ⟨w.heap.size, 3, none⟩ = some (.slice a n cap) := by subst hW; simp [go_sem]
  have hsz : w.heap.size + 1 + 1 < W.heap.size := by subst hW; simp
  clear hW
  refine (toRef_any _ _ _ _).mono ?_
  rintro e w1 ⟨rfl, hb1⟩
  have d3 : w1.cell? ⟨w.heap.size, 3, none⟩ = some (.slice a n cap) := bl_cell hb1 c3
  have HT1 : Hid (There w1 (w.heap.size + 1) 4) := HT.out.below hb1
  have HU1 : Hid (There w1 (w.heap.size + 1 + 1) 4) := HU.out.below hb1
  have hB1 : Below w.heap.size w w1 := bl_then hB0 hb1
  have hsz1 : w.heap.size + 1 + 1 < w1.heap.size := Nat.lt_of_lt_of_le hsz hb1.size
  clear c3 HT HU hB0 hb1 hsz
  have hT' := HU1.out
  have t0 := hT'.cell 0 (by omega)
  have t1 := hT'.cell 1 (by omega)
  have t2 := hT'.cell 2 (by omega)
  have t3 := hT'.cell 3 (by omega)
  have f0 := (hT' 0 (by omega)).2
  have f1 := (hT' 1 (by omega)).2
  have f2 := (hT' 2 (by omega)).2
  have f3 := (hT' 3 (by omega)).2
  clear hT'
  go_wp2_with fail
  generalize hW2 : (((w1.setCell ⟨w.heap.size + 1 + 1, 0, none⟩ (.int .i64 z)).setCell ⟨w.heap.size + 1 + 1, 1, none⟩ (.int .i64 x)).setCell ⟨w.heap.size + 1 + 1, 2, none⟩ (.int .i64 y)) = w2
  obtain ⟨g0, g1, g2⟩ : w2.cell? ⟨w.heap.size + 1 + 1, 0, none⟩ = some (.int .i64 z) ∧ w2.cell? ⟨w.heap.size + 1 + 1, 1, none⟩ = some (.int .i64 x) ∧ w2.cell? ⟨w.heap.size + 1 + 1, 2, none⟩ = some (.int .i64 y) := by
    rw [← hW2]
    exact set3_atj t0 t1 t2
  have HU2 : Hid (There w2 (w.heap.size + 1 + 1) 4) := by
    show There _ _ _
    rw [← hW2]
    exact ((HU1.out.set _ _).set _ _).set _ _
  have hM2 : MidB w.heap.size (w.heap.size + 1 + 1 + 1) w1 w2 := by
    rw [← hW2]
    exact (((MidB.refl _ _ _).set (by omega) (by omega) _ _).set (by omega) (by omega) _ _).set (by omega) (by omega) _ _
  have HT2 : Hid (There w2 (w.heap.size + 1) 4) := by
    show There _ _ _
    rw [← hW2]
    exact ((HT1.out.otherJ (by omega)).otherJ (by omega)).otherJ (by omega)
  have hB2 : Below w.heap.size w w2 := hB1.trans (hM2.below (by omega))
  have hsz2 : w.heap.size + 1 + 1 < w2.heap.size := Nat.lt_of_lt_of_le hsz1 hM2.size
  clear hW2 hM2 t0 t1 t2 t3 f0 f1 f2 f3 HU1 HT1 hB1 d3 hsz1
  refine (toFeatureS_own a n cap F _ (HF.out.below hB2) hmax HA.out).mono ?_
  rintro e w3 ⟨b, G, rfl, hO3, ⟨q3, hQ3⟩, hb3⟩
  have HQ3 : Hid (OwnQ w3 w2.heap.size w3.heap.size b n (fun i => (F i).n) (fun i => (F i).n) q3) := hQ3
  clear hQ3
  have k0 := bl_cell hb3 g0
  have k1 := bl_cell hb3 g1
  have k2 := bl_cell hb3 g2
  have hT3 := HT2.out.below hb3
  have hU3 := HU2.out.below hb3
  have hz3 := (hU3 3 (by omega)).2
  obtain ⟨u3, k3⟩ := (hU3 3 (by omega)).1
  have HO3 : Hid (OwnFs w3 w2.heap.size b n F G) := hO3
  have hsz3 : w.heap.size + 1 + 1 < w3.heap.size := Nat.lt_of_lt_of_le hsz2 hb3.size
  have HB3 : Hid (Below w.heap.size w w3) := bl_then hB2 hb3
  have hne : ∀ i j : Nat, i ≠ j → (⟨w.heap.size + 1 + 1, i, none⟩ : Addr) ≠ ⟨w.heap.size + 1 + 1, j, none⟩ := fun i j hij h => hij (by injection h)
  have i0 : (w3.setCell ⟨w.heap.size + 1 + 1, 3, none⟩ (.slice (some ⟨b, 0, none⟩) n n)).cell? ⟨w.heap.size + 1 + 1, 0, none⟩ = some (.int .i64 z) := by rw [set1_other (hne _ _ (by omega))]; exact k0
  have i1 : (w3.setCell ⟨w.heap.size + 1 + 1, 3, none⟩ (.slice (some ⟨b, 0, none⟩) n n)).cell? ⟨w.heap.size + 1 + 1, 1, none⟩ = some (.int .i64 x) := by rw [set1_other (hne _ _ (by omega))]; exact k1
  have i2 : (w3.setCell ⟨w.heap.size + 1 + 1, 3, none⟩ (.slice (some ⟨b, 0, none⟩) n n)).cell? ⟨w.heap.size + 1 + 1, 2, none⟩ = some (.int .i64 y) := by rw [set1_other (hne _ _ (by omega))]; exact k2
  have i3 : (w3.setCell ⟨w.heap.size + 1 + 1, 3, none⟩ (.slice (some ⟨b, 0, none⟩) n n)).cell? ⟨w.heap.size + 1 + 1, 3, none⟩ = some (.slice (some ⟨b, 0, none⟩) n n) := set1_same k3
  have HT4 : Hid (There (w3.setCell ⟨w.heap.size + 1 + 1, 3, none⟩ (.slice (some ⟨b, 0, none⟩) n n)) (w.heap.size + 1) 4) := hT3.otherJ (by omega)
  have hT' := HT4.out
  have t0 := hT'.cell 0 (by omega)
  have t1 := hT'.cell 1 (by omega)
  have t2 := hT'.cell 2 (by omega)
  have t3 := hT'.cell 3 (by omega)
  have f0 := (hT' 0 (by omega)).2
  have f1 := (hT' 1 (by omega)).2
  have f2 := (hT' 2 (by omega)).2
  have f3 := (hT' 3 (by omega)).2
  clear hT' g0 g1 g2 HT2 HU2 hB2 hO3 hb3 hT3 hU3 hne k0 k1 k2 HF HA
  go_wp2_with fail
  refine bodyPost_ret (resTT _ _ _ _ _ _ _ rfl (set4_at HT4.out).1 (set4_at HT4.out).2.1 (set4_at HT4.out).2.2.1 (set4_at HT4.out).2.2.2) rfl ⟨b, G, rfl, ?_, ?_, ?_⟩
  · exact HO3.out.midB (lo := w.heap.size) (hi := w.heap.size + 1 + 1 + 1) (((((((MidB.refl _ _ _).set (by omega) (by omega) _ _).set (by omega) (by omega) _ _).set (by omega) (by omega) _ _).set (by omega) (by omega) _ _).set (by omega) (by omega) _ _)) (by omega) (by omega)
  · refine ⟨q3, OwnQ.atQ (hi := w3.heap.size) (OwnQ.wideQ (lo := w2.heap.size) (OwnQ.away (lo' := w.heap.size) (hi' := w.heap.size + 1 + 1 + 1) HQ3.out ?_ (.inl (by omega))) (by omega)) (by simp)⟩
    exact (((((((MidB.refl _ _ _).set (by omega) (by omega) _ _).set (by omega) (by omega) _ _).set (by omega) (by omega) _ _).set (by omega) (by omega) _ _).set (by omega) (by omega) _ _))
  · have HB := HB3.out
    (repeat (first | exact Below.refl _ _ | assumption | refine Below.drew ?_ | refine bl_alloc ?_ _ | refine bl_then ?_ (by assumption) | refine Below.setCell ?_ (by first | omega | (simp; done) | (simp; omega)) _ | refine bl_store ?_ ?_ _ _))
end Go.Proofs.YtcpdcmjldofbkaaGreat
/- The law of RasterTile returns true at every tile. -/

namespace Go.Proofs.YtcpdcmjldofbkaaGreat
open Go.RowKit
set_option linter.unusedSimpArgs false
set_option linter.unusedVariables false
set_option maxRecDepth 100000

/-- Block p holds a code and a list. -/
def R2N (w : World) (p : Nat) (c : Int) (v : Value) : Prop := w.cell? ⟨p, 0, none⟩ = some (.int .i64 c) ∧ w.cell? ⟨p, 1, none⟩ = some v
theorem R2N.row {w w' : World} {p : Nat} {row : Option Nat} {c : Int} {v : Value} (h : R2N w p c v) (hg : w.grownBy w' row) (hs : ∀ s, row = some s → p ≠ s) : R2N w' p c v := ⟨hg.cell h.1 (fun e => hs _ e.symm rfl), hg.cell h.2 (fun e => hs _ e.symm rfl)⟩
theorem R2N.below {w w' : World} {p : Nat} {c : Int} {v : Value} (h : R2N w p c v) (hb : Below w.heap.size w w') : R2N w' p c v := ⟨(hb.cell (World.block_lt_of_cell? _ _ h.1)).trans h.1, (hb.cell (World.block_lt_of_cell? _ _ h.2)).trans h.2⟩
theorem R2N.new (w : World) (c : Int) (v : Value) (t : TypeId) : R2N (w.alloc (.cells #[.int .i64 c, v] t)) w.heap.size c v := by
  refine ⟨?_, ?_⟩ <;> simp [go_sem]
theorem R2N.mid {w w' : World} {lo hi p : Nat} {c : Int} {v : Value} (h : R2N w p c v) (hM : MidB lo hi w w') (ho : p < lo ∨ hi ≤ p) : R2N w' p c v := ⟨hM.cell h.1 ho, hM.cell h.2 ho⟩
theorem ownN_mid {w w' : World} {base lo hi : Nat} {v : Value} {n : Nat} {Z : Nat → Int} (h : OwnN w base v n Z) (hM : MidB lo hi w w') (hb : hi ≤ base) : OwnN w' base v n Z := by
  obtain ⟨a, cap, hv, hc, h0 | ⟨b, ha, hbb, hl, hp, ht⟩⟩ := h
  · exact ⟨a, cap, hv, hc, .inl h0⟩
  · exact ⟨a, cap, hv, hc, .inr ⟨b, ha, hbb, Nat.lt_of_lt_of_le hl hM.size, fun i hi => hM.cell (hp i hi) (.inr (by omega)), hM.there ht (.inr (by omega))⟩⟩
theorem TileA.mid {w w' : World} {lo hi p : Nat} {z x y : Int} {v : Value} (h : TileA w p z x y v) (hM : MidB lo hi w w') (ho : p < lo ∨ hi ≤ p) : TileA w' p z x y v := ⟨hM.cell h.1 ho, hM.cell h.2.1 ho, hM.cell h.2.2.1 ho, hM.cell h.2.2.2 ho⟩
theorem TileA.at {w w' : World} {p : Nat} {z x y : Int} {v : Value} (h : TileA w p z x y v) (hb : Below w.heap.size w w') : TileA w' p z x y v := h.below hb (World.block_lt_of_cell? _ _ h.1)
theorem tile_new (w : World) (z x y : Int) (v : Value) (t : TypeId) : TileA (w.alloc (.cells #[.int .i64 z, .int .i64 x, .int .i64 y, v] t)) w.heap.size z x y v := by
  refine ⟨?_, ?_, ?_, ?_⟩ <;> simp [go_sem]
theorem rt_same {z x y : Int} {n : Nat} {G F : Nat → Feat} (h : ∀ i, i < n → (G i).same (F i)) : rtC z x y n G = rtC z x y n F ∧ rtL z x y n G = rtL z x y n F := by
  have e1 : featsC n G = featsC n F := featsC_same h
  have e2 : ordS n G = ordS n F := by
    unfold ordS
    rw [decide_eq_decide]
    refine forall_congr' fun i => forall_congr' fun hi => ?_
    have a := h i (by omega)
    have b := h (i + 1) (by omega)
    have e : ltF (G i) (G (i + 1)) = ltF (F i) (F (i + 1)) := by unfold ltF; rw [a.1, a.2.1, b.1, b.2.1]
    rw [e]
  have e3 : rtC z x y n G = rtC z x y n F := by unfold rtC; rw [e1, e2]
  have e4 : paintF G n z = paintF F n z := by
    funext X Y
    unfold paintF
    have : ∀ k, k ≤ n → paintI (fun i => covF z (centI z X) (centI z Y) (G i)) (fun i => (G i).id) k = paintI (fun i => covF z (centI z X) (centI z Y) (F i)) (fun i => (F i).id) k := fun k hk => by
      induction k with
      | zero => rfl
      | succ k ih =>
        obtain ⟨i1, i2, i3, i4, i5, i6, i7, i8, i9⟩ := h k (by omega)
        have ec : covF z (centI z X) (centI z Y) (G k) = covF z (centI z X) (centI z Y) (F k) := by unfold covF; rw [i3, i4, i5, i6, i7]
        rw [paintI, paintI, ih (by omega), ec, i1]
    exact this n (Nat.le_refl _)
  exact ⟨e3, by unfold rtL; rw [e3, e4]⟩
theorem rtL_len (z x y : Int) (n : Nat) (G : Nat → Feat) : (rtL z x y n G).length ≤ 1048576 := by
  unfold rtL
  split
  · rw [rasK_len]; omega
  · simp
end Go.Proofs.YtcpdcmjldofbkaaGreat
/- The laws of CacheFault, HasTile and NearestIn return true at every cache and every ref. -/

namespace Go.Proofs.YtcpdcmjldofbkaaGreat
open Go.RowKit
set_option linter.unusedSimpArgs false
set_option linter.unusedVariables false
set_option maxRecDepth 100000

theorem KpOwn.feats {w : World} {B : Nat} {k a : Kp} (h : KpOwn w B k a) : ∀ i, i < k.fn → (a.F i).same (k.F i) := by
  obtain ⟨_, ⟨fb, _, _, _, ho⟩, _⟩ := h
  exact fun i hi => (ho.2.2.2 i hi).1
theorem KpOwn.rt {w : World} {B : Nat} {k a : Kp} (h : KpOwn w B k a) : rtC a.z a.x a.y a.fn a.F = rtC k.z k.x k.y k.fn k.F ∧ rtL a.z a.x a.y a.fn a.F = rtL k.z k.x k.y k.fn k.F := by
  have hf := h.feats
  obtain ⟨⟨e1, e2, e3⟩, ⟨fb, _, e4, _⟩, _⟩ := h
  rw [e1, e2, e3, e4]
  exact rt_same hf
theorem KpOwn.tC {w : World} {B : Nat} {k a : Kp} (h : KpOwn w B k a) : Go.Proofs.YtcpdcmjldofbkaaGreat.tC a = Go.Proofs.YtcpdcmjldofbkaaGreat.tC k := by
  obtain ⟨r1, r2⟩ := h.rt
  obtain ⟨_, _, ib, _, e5, _, e7, _⟩ := h
  unfold Go.Proofs.YtcpdcmjldofbkaaGreat.tC
  rw [r1, r2, e5, e7]
theorem KpOwn.small {w : World} {B : Nat} {k a : Kp} (h : KpOwn w B k a) (hs : SmallK k) : SmallK a := by
  have hf := h.feats
  obtain ⟨_, ⟨fb, _, e4, _⟩, ib, _, e5, _⟩ := h
  refine ⟨⟨by rw [e4]; exact hs.1.1, fun i hi => ?_⟩, by rw [e5]; exact hs.2⟩
  rw [e4] at hi
  obtain ⟨_, _, _, _, f5, _, _, f8, _⟩ := hf i hi
  rw [f5, f8]
  exact hs.1.2 i hi
theorem OwnKs.small {w : World} {B b n : Nat} {K A : Nat → Kp} (h : OwnKs w B b n K A) (hs : SmallKs n K) : SmallKs n A := ⟨hs.1, fun i hi => (h.2.2 i hi).2.small (hs.2 i hi)⟩
theorem OwnKs.caps {w : World} {B b n : Nat} {K A : Nat → Kp} (h : OwnKs w B b n K A) : ∀ i, i < n → (A i).fn ≤ (A i).fc := fun i hi => by
  obtain ⟨_, ⟨fb, _, e4, e6, _⟩, _⟩ := (h.2.2 i hi).2
  rw [e4, e6]; exact Nat.le_refl _
theorem OwnKs.ref {w : World} {B b n : Nat} {K A : Nat → Kp} (h : OwnKs w B b n K A) {i : Nat} (hi : i < n) : (A i).z = (K i).z ∧ (A i).x = (K i).x ∧ (A i).y = (K i).y := (h.2.2 i hi).2.1
theorem OwnKs.atK {w : World} {B b n : Nat} {K A : Nat → Kp} (h : OwnKs w B b n K A) (z x y : Int) : ∀ m, m ≤ n → Go.Proofs.YtcpdcmjldofbkaaGreat.atK m A z x y = Go.Proofs.YtcpdcmjldofbkaaGreat.atK m K z x y := fun m hm => by
  have e : ∀ i, i < m → isK (A i) z x y = isK (K i) z x y := fun i hi => by
    obtain ⟨e1, e2, e3⟩ := h.ref (show i < n by omega)
    unfold isK; rw [e1, e2, e3]
  unfold Go.Proofs.YtcpdcmjldofbkaaGreat.atK
  rcases firstI_or (fun i => isK (A i) z x y) m with ⟨h1, h2⟩ | ⟨i, hi, hg, hf, hn⟩
  · rw [h1]
    exact (firstI_no (fun i hi => (e i hi).symm.trans (h2 i hi))).symm
  · rw [hf]
    exact (firstI_yes hi ((e i hi).symm.trans hg) (fun j hj => (e j (by omega)).symm.trans (hn j hj))).symm
theorem OwnKs.kC {w : World} {B b n : Nat} {K A : Nat → Kp} (h : OwnKs w B b n K A) : ∀ i, i < n → Go.Proofs.YtcpdcmjldofbkaaGreat.kC A i = Go.Proofs.YtcpdcmjldofbkaaGreat.kC K i := fun i hi => by
  obtain ⟨e1, e2, e3⟩ := h.ref hi
  unfold Go.Proofs.YtcpdcmjldofbkaaGreat.kC
  rw [(h.2.2 i hi).2.tC, e1, e2, e3, h.atK _ _ _ i (by omega)]
theorem OwnKs.cacheC {w : World} {B b n : Nat} {K A : Nat → Kp} (h : OwnKs w B b n K A) (s : Int) : Go.Proofs.YtcpdcmjldofbkaaGreat.cacheC s n A = Go.Proofs.YtcpdcmjldofbkaaGreat.cacheC s n K := by
  have e : scanC (Go.Proofs.YtcpdcmjldofbkaaGreat.kC A) 0 n = scanC (Go.Proofs.YtcpdcmjldofbkaaGreat.kC K) 0 n := by
    by_cases hall : ∀ j, j < n → Go.Proofs.YtcpdcmjldofbkaaGreat.kC K j = 0
    · rw [scan_none _ _ _ (fun j _ hj => hall j (by omega)), scan_none _ _ _ (fun j _ hj => (h.kC j (by omega)).trans (hall j (by omega)))]
    · obtain ⟨k, hk, hne, hno⟩ : ∃ k, k < n ∧ Go.Proofs.YtcpdcmjldofbkaaGreat.kC K k ≠ 0 ∧ ∀ l, l < k → Go.Proofs.YtcpdcmjldofbkaaGreat.kC K l = 0 := by
        have : ∀ m, (∃ i, i < m ∧ Go.Proofs.YtcpdcmjldofbkaaGreat.kC K i ≠ 0) → ∃ i, i < m ∧ Go.Proofs.YtcpdcmjldofbkaaGreat.kC K i ≠ 0 ∧ ∀ l, l < i → Go.Proofs.YtcpdcmjldofbkaaGreat.kC K l = 0 := by
          intro m
          induction m with
          | zero => rintro ⟨i, hi, _⟩; omega
          | succ m ih =>
            rintro ⟨i, hi, h⟩
            by_cases hx : ∃ i, i < m ∧ Go.Proofs.YtcpdcmjldofbkaaGreat.kC K i ≠ 0
            · obtain ⟨i, h1, h2⟩ := ih hx; exact ⟨i, by omega, h2⟩
            · refine ⟨i, hi, h, fun l hl => ?_⟩
              by_cases e : Go.Proofs.YtcpdcmjldofbkaaGreat.kC K l = 0
              · exact e
              · exact absurd ⟨l, by omega, e⟩ hx
        refine this n ?_
        by_cases hx : ∃ i, i < n ∧ Go.Proofs.YtcpdcmjldofbkaaGreat.kC K i ≠ 0
        · exact hx
        · exact absurd (fun j hj => by
            by_cases e : Go.Proofs.YtcpdcmjldofbkaaGreat.kC K j = 0
            · exact e
            · exact absurd ⟨j, hj, e⟩ hx) hall
      rw [scan_first (Go.Proofs.YtcpdcmjldofbkaaGreat.kC K) n 0 k (fun l _ hl => hno l hl) (by omega) (by omega) hne,
        scan_first (Go.Proofs.YtcpdcmjldofbkaaGreat.kC A) n 0 k (fun l _ hl => (h.kC l (by omega)).trans (hno l hl)) (by omega) (by omega) (by rw [h.kC k hk]; exact hne), h.kC k hk]
  unfold Go.Proofs.YtcpdcmjldofbkaaGreat.cacheC
  rw [e]
theorem OwnKs.hasK {w : World} {B b n : Nat} {K A : Nat → Kp} (h : OwnKs w B b n K A) (s z x y : Int) : Go.Proofs.YtcpdcmjldofbkaaGreat.hasK s n A z x y = Go.Proofs.YtcpdcmjldofbkaaGreat.hasK s n K z x y := by
  unfold Go.Proofs.YtcpdcmjldofbkaaGreat.hasK
  rw [h.cacheC, h.atK _ _ _ n (Nat.le_refl _)]
theorem OwnKs.nearK {w : World} {B b n : Nat} {K A : Nat → Kp} (h : OwnKs w B b n K A) : ∀ (z : Nat) (x y : Int), Go.Proofs.YtcpdcmjldofbkaaGreat.nearK n A z x y = Go.Proofs.YtcpdcmjldofbkaaGreat.nearK n K z x y
  | 0, x, y => h.atK _ _ _ n (Nat.le_refl _)
  | z + 1, x, y => by
    unfold Go.Proofs.YtcpdcmjldofbkaaGreat.nearK
    rw [h.atK _ _ _ n (Nat.le_refl _), h.nearK z (x / 2) (y / 2)]
theorem OwnKs.nearV {w : World} {B b n : Nat} {K A : Nat → Kp} (h : OwnKs w B b n K A) (s z x y : Int) : Go.Proofs.YtcpdcmjldofbkaaGreat.nearV s n A z x y = Go.Proofs.YtcpdcmjldofbkaaGreat.nearV s n K z x y := by
  unfold Go.Proofs.YtcpdcmjldofbkaaGreat.nearV
  rw [h.cacheC, h.nearK]
  by_cases h0 : 0 ≤ Go.Proofs.YtcpdcmjldofbkaaGreat.nearK n K z.toNat x y
  · rcases nearK_or n K z.toNat x y with hN | ⟨i, hi, hN⟩
    · rw [hN] at h0; omega
    · obtain ⟨e1, e2, e3⟩ := h.ref hi
      rw [hN, Int.toNat_natCast, e1, e2, e3]
  · rw [if_neg h0, if_neg h0]
theorem nearV_rr (s : Int) (n : Nat) (K : Nat → Kp) (z x y : Int) : ∃ c a b d : Int, nearV s n K z x y = rrV c a b d := by
  unfold nearV
  repeat' split
  all_goals exact ⟨_, _, _, _, rfl⟩
end Go.Proofs.YtcpdcmjldofbkaaGreat
