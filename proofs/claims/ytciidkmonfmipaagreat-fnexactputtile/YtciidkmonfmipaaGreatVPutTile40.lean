/- Several texts in one. -/
import Derived.Test.YtciidkmonfmipaaGreatVPutTile39
import Derived.Test.YtciidkmonfmipaaGreatVPutTile21
import Derived.Test.YtciidkmonfmipaaGreatVPutTile20

/- The marks of kept tiles are found again; those of a cache, and of an answer with one. -/

namespace Go.Proofs.YtciidkmonfmipaaGreat
open Go.RowKit
set_option linter.unusedSimpArgs false
set_option linter.unusedVariables false
set_option maxRecDepth 100000

set_option maxHeartbeats 8000000 in
theorem heldKeptS_any (g n cap k0 : Nat) (R : Nat → Kp) (M : Nat → Nat) (w : World) (hW : KsM w g n R M k0) (hs : SmallKs n R) (h0 : 0 < k0) (hk0 : k0 ≤ 1000000000) :
    Calls Tryz.prog 76 #[.slice (some ⟨g, 0, none⟩) n cap, .int .i64 (k0 : Int)] w fun e w' => e = .returned (.int .i64 ((kK R k0 n : Nat) : Int)) ∧ Below w.heap.size w w' := by
  have HS : Hid (SmallKs n R) := hs
  have hn : n ≤ 1048576 := hs.1
  have HW : Hid (KsM w g n R M k0) := hW
  clear hs hW
  go_enter Tryz.func76, Tryz.ntmps76
  go_wp2_with fail
  go_loopw [1, 5] (fun kk i wr => ∃ j K : Nat, j ≤ n ∧ Hid (K = kK R k0 j) ∧ kk = .int .i64 (K : Int) ∧ i = .int .i64 (j : Int) ∧ Below w.heap.size w wr) (fun _ i _ => n - (intOf i).toNat)
  case atStart => exact ⟨0, k0, by omega, rfl, rfl, rfl, Below.refl _ _⟩
  case round =>
    obtain ⟨j, K, hj, HK, rfl, rfl, hB⟩ := hrel
    have HB : Hid (Below w.heap.size w wr) := hB
    by_cases hlt : j < n
    · have hKb : K ≤ 2400000000000000000 := by have := HK.out; have := (kK_small HS.out hk0 (j := j) (by omega)).2; omega
      have hK0 : 0 < K := by have := HK.out; have := (kK_small HS.out hk0 (j := j) (by omega)).1; omega
      have hsm := HS.out.2 j hlt
      have hWr := HW.out.below hB
      obtain ⟨_, hS2, hR3, md, m1, m2, m3, m4, m5⟩ := hWr.2.2 j hlt
      rw [← HK.out] at hR3 m4 m5
      obtain ⟨c0, c1, c2⟩ := hR3
      obtain ⟨c3, c4⟩ := hS2
      have hi : (j : Int) < (n : Int) := by omega
      have hi0 : (0 : Int) ≤ (j : Int) := by omega
      have e3 : (K : Int) + 1 + 1 + 1 = ((K + 3 : Nat) : Int) := by omega
      have e2 : (K : Int) + 1 + 1 = ((K + 2 : Nat) : Int) := by omega
      have e1 : (K : Int) + 1 = ((K + 1 : Nat) : Int) := by omega
      rw [← e1] at c1
      rw [← e2] at c2
      have E := (show Hid _ from e3)
      clear e1 e2 e3
      have HF : Hid (∀ W, Below wr.heap.size wr W → Calls Tryz.prog 110 #[.slice (R j).fa (R j).fn (R j).fc, .int .i64 ((K + 3 : Nat) : Int)] W fun e w' => e = .returned (.int .i64 ((kS (ptN (R j)) (K + 3) (R j).fn : Nat) : Int)) ∧ Below W.heap.size W w') := fun W h =>
        heldFsK_any (M j) md _ _ _ (K + 3) _ _ W (m4.mid (MidB.of_below (lo := md) (hi := md) h) (.inr (Nat.le_refl _))) (by have := h.size; omega) hsm.1.1 (fun i hi => (hsm.1.2 i hi).1) (by omega) (by omega)
      have HI : Hid (∀ W, Below wr.heap.size wr W → Calls Tryz.prog 111 #[.slice (R j).ia (R j).m (R j).ic, .int .i64 ((kS (ptN (R j)) (K + 3) (R j).fn : Nat) : Int)] W fun e w' => e = .returned (.int .i64 ((kS (ptN (R j)) (K + 3) (R j).fn + (R j).m : Nat) : Int)) ∧ Below W.heap.size W w') := fun W h => by
        refine (heldInt64S_any (R j).ia (R j).m (R j).ic (kS (ptN (R j)) (K + 3) (R j).fn) W ?_ hsm.2 (by have := (kS_small (k := K + 3) hsm).2; omega)).mono ?_
        · rcases m5 with h0 | ⟨ib, e, a, b, c⟩
          · exact .inl h0
          · exact .inr ⟨ib, 0, e, by have := h.size; omega, c.below h (by omega)⟩
        · rintro e w' ⟨rfl, hw⟩
          exact ⟨rfl, by first | exact hw | (subst hw; exact Below.refl _ _)⟩
      have HSS : Hid (kS (ptN (R j)) (K + 3) (R j).fn ≤ 6000000000000000000) := by show _ ≤ _; have := (kS_small (k := K + 3) hsm).2; omega
      have HNx : Hid (kS (ptN (R j)) (K + 3) (R j).fn + (R j).m = kK R k0 (j + 1)) := by show _ = _; rw [kK, ← HK.out]; rfl
      have hm2 : (R j).m ≤ 1048576 := hsm.2
      clear hWr m3 m4 m5 m1 m2 hsm hB
      go_wp2_with fail
      rw [E.out]
      refine (HF.out _ (Below.refl _ _)).mono ?_
      rintro e w5 ⟨rfl, hb5⟩
      have HB5 : Hid (Below wr.heap.size wr w5) := hb5
      have d4 := bl_cellN hb5 c4
      have hSS := HSS.out
      have HI5 := (show Hid _ from HI.out w5 hb5)
      clear hb5 c0 c1 c2 c3 c4 HF HI HSS
      generalize kS (ptN (R j)) (K + 3) (R j).fn = Q at *
      go_wp2_with fail
      refine Calls.mono HI5.out ?_
      rintro e w6 ⟨rfl, hb6⟩
      have HB6 : Hid (Below w.heap.size w w6) := bl_then HB.out (bl_then HB5.out hb6)
      clear hb6 HI5 d4 HB5
      generalize hm : (R j).m = mm at *
      have hq0 : ¬ (((Q + mm : Nat) : Int) < 0) := by omega
      go_wp2_with fail
      go_roundw
      case rel => exact ⟨j + 1, Q + mm, by omega, by show _ = _; exact HNx.out, rfl, by go_num, HB6.out⟩
      case measure => simp [intOf]; omega
    · go_wp2
      go_ret
      have hjn : j = n := by omega
      subst hjn
      exact ⟨ret_int (by have := HK.out; omega), HB.out⟩
end Go.Proofs.YtciidkmonfmipaaGreat
/- Tiles that come in: copied into memory of their own, and marked. -/

namespace Go.Proofs.YtciidkmonfmipaaGreat
open Go.RowKit
set_option linter.unusedSimpArgs false
set_option linter.unusedVariables false
set_option maxRecDepth 100000

theorem OwnQ.wideQ {w : World} {lo hi lo' b n : Nat} {N C q : Nat → Nat} (h : OwnQ w lo hi b n N C q) (hl : lo' ≤ lo) : OwnQ w lo' hi b n N C q := by
  obtain ⟨⟨h1, h2, h3⟩, h4, h5, h6⟩ := h
  exact ⟨⟨by omega, h2, h3⟩, h4, fun i hi => ⟨⟨by have := (h5 i hi).1; omega, (h5 i hi).1.2⟩, (h5 i hi).2⟩, h6⟩
theorem OwnQ.atQ {w : World} {lo hi hi' b n : Nat} {N C q : Nat → Nat} (h : OwnQ w lo hi b n N C q) (e : hi' = hi) : OwnQ w lo hi' b n N C q := by rw [e]; exact h
set_option maxHeartbeats 4000000 in
theorem toTile_own (z x y : Int) (a : Option Addr) (n cap : Nat) (F : Nat → Feat) (w : World) (hp : IsFs w a n F) (hmax : n ≤ 1048576) (hall : ∀ i, i < n → (F i).n ≤ 1048576) :
    Calls Tryz.prog 10 #[tileV z x y (.slice a n cap)] w fun e w' => ∃ b G, e = .returned (tileV z x y (.slice (some ⟨b, 0, none⟩) n n)) ∧ OwnFs w' w.heap.size b n F G ∧ (∃ q, OwnQ w' w.heap.size w'.heap.size b n (fun i => (F i).n) (fun i => (F i).n) q) ∧ Below w.heap.size w w' := by
  have HF : Hid (IsFs w a n F) := hp
  have HA : Hid (∀ i, i < n → (F i).n ≤ 1048576) := hall
  clear hp hall
  go_enter Tryz.func10, Tryz.ntmps10
  go_wp2_with fail
  generalize hW : (((w.alloc _).alloc _).alloc _ : World) = W
  have hB0 : Below w.heap.size w W := by subst hW; (repeat (first | exact Below.refl _ _ | assumption | refine Below.drew ?_ | refine bl_alloc ?_ _ | refine bl_then ?_ (by assumption) | refine Below.setCell ?_ (by first | omega | (simp; done) | (simp; omega)) _ | refine bl_store ?_ ?_ _ _))
  have HT : Hid (There W (w.heap.size + 1) 4) := by
    show There _ _ _
    subst hW
    have := (there4r (w.alloc (.cells #[.int .i64 z, .int .i64 x, .int .i64 y, .slice a n cap] 29)) (.int .i64 0) (.int .i64 0) (.int .i64 0) (.slice none 0 0) 42).below (bl_alloc (Below.refl _ _) (.cells #[.int .i64 0, .int .i64 0, .int .i64 0, .slice none 0 0] 42))
    simpa using this
  have HU : Hid (There W (w.heap.size + 1 + 1) 4) := by
    show There _ _ _
    subst hW
    have := there4r ((w.alloc (.cells #[.int .i64 z, .int .i64 x, .int .i64 y, .slice a n cap] 29)).alloc (.cells #[.int .i64 0, .int .i64 0, .int .i64 0, .slice none 0 0] 42)) (.int .i64 0) (.int .i64 0) (.int .i64 0) (.slice none 0 0) 42
    simpa using this
  have c3 : W.cell? ⟨w.heap.size, 3, none⟩ = some (.slice a n cap) := by subst hW; simp [go_sem]
  have hsz : w.heap.size + 1 + 1 < W.heap.size := by subst hW; simp
  clear hW
  refine (toRef_any _ _ _ _).mono ?_
  rintro e w1 ⟨rfl, hb1⟩
  have d3 : w1.cell? ⟨w.heap.size, 3, none⟩ = some (.slice a n cap) := bl_cell hb1 c3
  have HT1 : Hid (There w1 (w.heap.size + 1) 4) := HT.out.below hb1
  have HU1 : Hid (There w1 (w.heap.size + 1 + 1) 4) := HU.out.below hb1
  have hB1 : Below w.heap.size w w1 := bl_then hB0 hb1
  have hsz1 : w.heap.size + 1 + 1 < w1.heap.size := Nat.lt_of_lt_of_le hsz hb1.size
  clear c3 HT HU hB0 hb1 hsz
  have hT' := HU1.out
  have t0 := hT'.cell 0 (by omega)
  have t1 := hT'.cell 1 (by omega)
  have t2 := hT'.cell 2 (by omega)
  have t3 := hT'.cell 3 (by omega)
  have f0 := (hT' 0 (by omega)).2
  have f1 := (hT' 1 (by omega)).2
  have f2 := (hT' 2 (by omega)).2
  have f3 := (hT' 3 (by omega)).2
  clear hT'
  go_wp2_with fail
  generalize hW2 : (((w1.setCell ⟨w.heap.size + 1 + 1, 0, none⟩ (.int .i64 z)).setCell ⟨w.heap.size + 1 + 1, 1, none⟩ (.int .i64 x)).setCell ⟨w.heap.size + 1 + 1, 2, none⟩ (.int .i64 y)) = w2
  obtain ⟨g0, g1, g2⟩ : w2.cell? ⟨w.heap.size + 1 + 1, 0, none⟩ = some (.int .i64 z) ∧ w2.cell? ⟨w.heap.size + 1 + 1, 1, none⟩ = some (.int .i64 x) ∧ w2.cell? ⟨w.heap.size + 1 + 1, 2, none⟩ = some (.int .i64 y) := by
    rw [← hW2]
    exact set3_atj t0 t1 t2
  have HU2 : Hid (There w2 (w.heap.size + 1 + 1) 4) := by
    show There _ _ _
    rw [← hW2]
    exact ((HU1.out.set _ _).set _ _).set _ _
  have hM2 : MidB w.heap.size (w.heap.size + 1 + 1 + 1) w1 w2 := by
    rw [← hW2]
    exact (((MidB.refl _ _ _).set (by omega) (by omega) _ _).set (by omega) (by omega) _ _).set (by omega) (by omega) _ _
  have HT2 : Hid (There w2 (w.heap.size + 1) 4) := by
    show There _ _ _
    rw [← hW2]
    exact ((HT1.out.otherJ (by omega)).otherJ (by omega)).otherJ (by omega)
  have hB2 : Below w.heap.size w w2 := hB1.trans (hM2.below (by omega))
  have hsz2 : w.heap.size + 1 + 1 < w2.heap.size := Nat.lt_of_lt_of_le hsz1 hM2.size
  clear hW2 hM2 t0 t1 t2 t3 f0 f1 f2 f3 HU1 HT1 hB1 d3 hsz1
  refine (toFeatureS_own a n cap F _ (HF.out.below hB2) hmax HA.out).mono ?_
  rintro e w3 ⟨b, G, rfl, hO3, ⟨q3, hQ3⟩, hb3⟩
  have HQ3 : Hid (OwnQ w3 w2.heap.size w3.heap.size b n (fun i => (F i).n) (fun i => (F i).n) q3) := hQ3
  clear hQ3
  have k0 := bl_cell hb3 g0
  have k1 := bl_cell hb3 g1
  have k2 := bl_cell hb3 g2
  have hT3 := HT2.out.below hb3
  have hU3 := HU2.out.below hb3
  have hz3 := (hU3 3 (by omega)).2
  obtain ⟨u3, k3⟩ := (hU3 3 (by omega)).1
  have HO3 : Hid (OwnFs w3 w2.heap.size b n F G) := hO3
  have hsz3 : w.heap.size + 1 + 1 < w3.heap.size := Nat.lt_of_lt_of_le hsz2 hb3.size
  have HB3 : Hid (Below w.heap.size w w3) := bl_then hB2 hb3
  have hne : ∀ i j : Nat, i ≠ j → (⟨w.heap.size + 1 + 1, i, none⟩ : Addr) ≠ ⟨w.heap.size + 1 + 1, j, none⟩ := fun i j hij h => hij (by injection h)
  have i0 : (w3.setCell ⟨w.heap.size + 1 + 1, 3, none⟩ (.slice (some ⟨b, 0, none⟩) n n)).cell? ⟨w.heap.size + 1 + 1, 0, none⟩ = some (.int .i64 z) := by rw [set1_other (hne _ _ (by omega))]; exact k0
  have i1 : (w3.setCell ⟨w.heap.size + 1 + 1, 3, none⟩ (.slice (some ⟨b, 0, none⟩) n n)).cell? ⟨w.heap.size + 1 + 1, 1, none⟩ = some (.int .i64 x) := by rw [set1_other (hne _ _ (by omega))]; exact k1
  have i2 : (w3.setCell ⟨w.heap.size + 1 + 1, 3, none⟩ (.slice (some ⟨b, 0, none⟩) n n)).cell? ⟨w.heap.size + 1 + 1, 2, none⟩ = some (.int .i64 y) := by rw [set1_other (hne _ _ (by omega))]; exact k2
  have i3 : (w3.setCell ⟨w.heap.size + 1 + 1, 3, none⟩ (.slice (some ⟨b, 0, none⟩) n n)).cell? ⟨w.heap.size + 1 + 1, 3, none⟩ = some (.slice (some ⟨b, 0, none⟩) n n) := set1_same k3
  have HT4 : Hid (There (w3.setCell ⟨w.heap.size + 1 + 1, 3, none⟩ (.slice (some ⟨b, 0, none⟩) n n)) (w.heap.size + 1) 4) := hT3.otherJ (by omega)
  have hT' := HT4.out
  have t0 := hT'.cell 0 (by omega)
  have t1 := hT'.cell 1 (by omega)
  have t2 := hT'.cell 2 (by omega)
  have t3 := hT'.cell 3 (by omega)
  have f0 := (hT' 0 (by omega)).2
  have f1 := (hT' 1 (by omega)).2
  have f2 := (hT' 2 (by omega)).2
  have f3 := (hT' 3 (by omega)).2
  clear hT' g0 g1 g2 HT2 HU2 hB2 hO3 hb3 hT3 hU3 hne k0 k1 k2 HF HA
  go_wp2_with fail
  refine bodyPost_ret (resTT _ _ _ _ _ _ _ rfl (set4_at HT4.out).1 (set4_at HT4.out).2.1 (set4_at HT4.out).2.2.1 (set4_at HT4.out).2.2.2) rfl ⟨b, G, rfl, ?_, ?_, ?_⟩
  · exact HO3.out.midB (lo := w.heap.size) (hi := w.heap.size + 1 + 1 + 1) (((((((MidB.refl _ _ _).set (by omega) (by omega) _ _).set (by omega) (by omega) _ _).set (by omega) (by omega) _ _).set (by omega) (by omega) _ _).set (by omega) (by omega) _ _)) (by omega) (by omega)
  · refine ⟨q3, OwnQ.atQ (hi := w3.heap.size) (OwnQ.wideQ (lo := w2.heap.size) (OwnQ.away (lo' := w.heap.size) (hi' := w.heap.size + 1 + 1 + 1) HQ3.out ?_ (.inl (by omega))) (by omega)) (by simp)⟩
    exact (((((((MidB.refl _ _ _).set (by omega) (by omega) _ _).set (by omega) (by omega) _ _).set (by omega) (by omega) _ _).set (by omega) (by omega) _ _).set (by omega) (by omega) _ _))
  · have HB := HB3.out
    (repeat (first | exact Below.refl _ _ | assumption | refine Below.drew ?_ | refine bl_alloc ?_ _ | refine bl_then ?_ (by assumption) | refine Below.setCell ?_ (by first | omega | (simp; done) | (simp; omega)) _ | refine bl_store ?_ ?_ _ _))
end Go.Proofs.YtciidkmonfmipaaGreat
