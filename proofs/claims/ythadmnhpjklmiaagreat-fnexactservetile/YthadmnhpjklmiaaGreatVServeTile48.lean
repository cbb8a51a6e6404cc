/- Several texts in one. -/
import Derived.Test.YthadmnhpjklmiaaGreatVServeTile44
import Derived.Test.YthadmnhpjklmiaaGreatVServeTile37
import Derived.Test.YthadmnhpjklmiaaGreatVServeTile41
import Derived.Test.YthadmnhpjklmiaaGreatVServeTile47
import Derived.Test.YthadmnhpjklmiaaGreatRows
import Derived.Test.YthadmnhpjklmiaaGreatVServeTile1
import Derived.WalkKit
import Derived.WalkSpells
import Derived.WalkLawsBesides
import Derived.Outline
import Derived.Deep.RegionHeld3
import Derived.Deep.OwnRows
import Derived.Deep.LoopGhost
import Derived.Laws.OwnMore
import Derived.Test.YthadmnhpjklmiaaGreatVServeTile6
import Derived.Test.YthadmnhpjklmiaaGreatVServeTile7
import Derived.Test.YthadmnhpjklmiaaGreatVServeTile5
import Derived.Deep.DeepCutAuto

/- What PackList answers hangs on what features have alone; its bytes. -/

namespace Go.Proofs.YthadmnhpjklmiaaGreat
open Go.RowKit
set_option linter.unusedSimpArgs false
set_option linter.unusedVariables false
set_option maxRecDepth 100000

theorem fL_same {f g : Feat} (h : f.same g) : fL f = fL g := by
  obtain ⟨h1, h2, h3, h4, h5, h6, h7, h8, h9⟩ := h
  unfold fL
  rw [h1, h2, h3, h4, h5, h6, h7, h8, h9]
theorem catL_same {G H : Nat → Feat} {n : Nat} (h : ∀ i, i < n → (G i).same (H i)) : ∀ k, k ≤ n → catL G k = catL H k
  | 0, _ => rfl
  | k + 1, hk => by rw [catL, catL, catL_same h k (by omega), fL_same (h k (by omega))]
theorem pl_same {G H : Nat → Feat} {n : Nat} (h : ∀ i, i < n → (G i).same (H i)) : plC n G = plC n H ∧ plL n G = plL n H := by
  have e1 : featsC n G = featsC n H := featsC_same h
  have e2 : ordS n G = ordS n H := ord_congr h
  have e3 : datL n G = datL n H := by unfold datL; rw [catL_same h n (Nat.le_refl _)]
  have e4 : plC n G = plC n H := by unfold plC; rw [e1, e2, e3]
  refine ⟨e4, ?_⟩
  unfold plL
  rw [e4, e3]
theorem plL_len (n : Nat) (G : Nat → Feat) : (plL n G).length ≤ 1048576 := by
  unfold plL
  split
  · rename_i h
    have h1 : (datL n G).length + 2 ≤ 900 ∨ featsC n G ≠ 0 ∨ True := .inr (.inr trivial)
    unfold plC at h
    split at h
    · split at h
      · split at h
        · omega
        · simp [endL]; omega
      · omega
    · contradiction
  · simp
theorem plL_byt (n : Nat) (G : Nat → Feat) : Byt (plL n G) := by
  unfold plL
  split
  · intro z hz
    unfold endL at hz
    rcases List.mem_append.1 hz with h | h
    · exact datL_byt n G z h
    · have := sumL_lt (datL n G)
      simp at h
      omega
  · intro z hz
    cases hz
end Go.Proofs.YthadmnhpjklmiaaGreat
/- ServeTile: the program and the model. -/

namespace Go.Proofs.YthadmnhpjklmiaaGreat
open Go.RowKit
set_option linter.unusedSimpArgs false
set_option linter.unusedVariables false
set_option maxRecDepth 100000

/-- The code of ServeTile, and its bytes. -/
noncomputable def svC (z x y : Int) (n : Nat) (G : Nat → Feat) : Int := if btC z x y n G = 0 then plC (btM z x y n G) (btG z x y n G) else btC z x y n G
noncomputable def svL (z x y : Int) (n : Nat) (G : Nat → Feat) : List Int := if btC z x y n G = 0 then plL (btM z x y n G) (btG z x y n G) else []
theorem BtAns.bs {C z x y : Int} {m : Nat} {G : Nat → Feat} {w w' : World} {e : Ending} (h : BtAns C z x y m G w e w') : BsAns C z x y m G w e w' := by
  obtain ⟨a, cap, T, h1, h2, h3, _, h5, h6⟩ := h
  exact ⟨a, cap, T, h1, h2, h3, h5, h6⟩
theorem btG_lab {z x y : Int} {n : Nat} {G : Nat → Feat} (hs : SmallFs n G) (i : Nat) (hi : i < btM z x y n G) : (btG z x y n G i).lab.size ≤ 1048576 := by
  unfold btM at hi
  split at hi
  · exact (hs.2 _ (chs_lt i hi)).2
  · exact absurd hi (Nat.not_lt_zero _)
/-- A list that PackList takes. -/
theorem SrcB.take {lo : Nat} {w : World} {a : Option Addr} {m : Nat} {T : Nat → Feat} {r : Nat} (h : SrcB lo w.heap.size w a m T) (hr : r < w.heap.size) : ∃ b, (m = 0 ∨ a = some ⟨b, 0, none⟩) ∧ FsAt w b 0 m T ∧ b < w.heap.size := by
  rcases h with h | ⟨g, ea, ⟨g1, g2⟩, h⟩
  · exact ⟨r, .inl h, fun i hi => absurd hi (by omega), hr⟩
  · refine ⟨g, .inr ea, fun i hi => ?_, g2⟩
    obtain ⟨hF, q, o, eq, ⟨_, q2⟩, hp⟩ := h i hi
    rw [Nat.zero_add]
    exact ⟨hF, .inr ⟨q, o, eq, q2, hp⟩⟩
set_option maxHeartbeats 8000000 in
theorem impl_ServeTile_any (z x y : Int) (b n cap : Nat) (G : Nat → Feat) (w : World) (hg : FsAt w b 0 n G) (hbl : b < w.heap.size) (hs : SmallFs n G) (hcap : n ≤ cap) :
    Calls Tryz.prog 16 #[.slice (some ⟨b, 0, none⟩) n cap, refV z x y] w fun e w' => ∃ v, e = .returned (.agg #[.int .i64 (svC z x y n G), v]) ∧ RowB w.heap.size w' v (svL z x y n G) ∧ Below w.heap.size w w' := by
  have HBT : Hid (∀ W, Below w.heap.size w W → Calls Tryz.prog 9 #[.slice (some ⟨b, 0, none⟩) n cap, .agg #[.int .i64 z, .int .i64 x, .int .i64 y]] W (BsAns (btC z x y n G) (btK z x y n G z) (btK z x y n G x) (btK z x y n G y) (btM z x y n G) (btG z x y n G) W)) := fun W hW => (impl_BuildTile_any z x y b n cap G W (hg.below hW hbl) (Nat.lt_of_lt_of_le hbl hW.size) hs hcap).mono fun e w' h => h.bs
  have HM : Hid (btM z x y n G ≤ 12 ∧ (∀ i, i < btM z x y n G → (btG z x y n G i).n ≤ 12) ∧ ∀ i, i < btM z x y n G → (btG z x y n G i).lab.size ≤ 1048576) := ⟨(btM_ok z x y n G).1, (btM_ok z x y n G).2, btG_lab hs⟩
  have HC0 : Hid (btC z x y n G = 0 → svC z x y n G = plC (btM z x y n G) (btG z x y n G) ∧ svL z x y n G = plL (btM z x y n G) (btG z x y n G)) := fun h => by unfold svC svL; rw [if_pos h, if_pos h]; exact ⟨rfl, rfl⟩
  have HC1 : Hid (btC z x y n G ≠ 0 → svC z x y n G = btC z x y n G ∧ svL z x y n G = []) := fun h => by unfold svC svL; rw [if_neg h, if_neg h]; exact ⟨rfl, rfl⟩
  clear hg hs
  generalize btC z x y n G = C at *
  generalize btK z x y n G z = z' at *
  generalize btK z x y n G x = x' at *
  generalize btK z x y n G y = y' at *
  generalize btM z x y n G = M at *
  generalize btG z x y n G = GG at *
  unfold BsAns at HBT
  generalize svC z x y n G = SC at *
  generalize svL z x y n G = SL at *
  go_enter Tryz.func16, Tryz.ntmps16
  go_wp2_with fail
  generalize hW : ((w.alloc _).alloc _ : World) = W
  have HB0 : Hid (Below w.heap.size w W) := by show Below _ _ _; subst hW; (repeat (first | exact Below.refl _ _ | assumption | refine Below.drew ?_ | refine bl_alloc ?_ _ | refine bl_then ?_ (by assumption) | refine Below.setCell ?_ (by first | omega | (simp; done) | (simp; omega)) _ | refine bl_store ?_ ?_ _ _))
  have hlW : W.heap.size = w.heap.size + 2 := by subst hW; simp
  have HT : Hid (There W (w.heap.size + 1) 2) := fun o ho => by
    subst hW
    match o, ho with
    | 0, _ => exact ⟨⟨_, by simp [go_sem]; rfl⟩, by simp [go_sem]⟩
    | 1, _ => exact ⟨⟨_, by simp [go_sem]; rfl⟩, by simp [go_sem]⟩
  clear hW
  refine Calls.mono (HBT.out _ HB0.out) ?_
  rintro e w1 ⟨a, c, T, rfl, hS, hsam, hc, hb1⟩
  have HS1 : Hid (SrcB W.heap.size w1.heap.size w1 a M T) := hS
  have HSAM : Hid (∀ i, i < M → (T i).same (GG i)) := hsam
  have HB1 : Hid (Below w.heap.size w w1) := bl_then HB0.out hb1
  have HT1 : Hid (There w1 (w.heap.size + 1) 2) := HT.out.below hb1
  have hs1 := hb1.size
  clear hS hsam hb1
  by_cases h0 : C = 0
  · subst h0
    have HEE := (show Hid (_ ∧ _) from HC0.out rfl)
    clear HC0 HC1
    go_wp2_with fail
    generalize hV : (w1.alloc _ : World) = w2
    have hb2 : Below w1.heap.size w1 w2 := by subst hV; (repeat (first | exact Below.refl _ _ | assumption | refine Below.drew ?_ | refine bl_alloc ?_ _ | refine bl_then ?_ (by assumption) | refine Below.setCell ?_ (by first | omega | (simp; done) | (simp; omega)) _ | refine bl_store ?_ ?_ _ _))
    have k0 : w2.cell? ⟨w1.heap.size, 0, none⟩ = some (.int .i64 0) := by subst hV; simp [go_sem]
    have k4 : w2.cell? ⟨w1.heap.size, 4, none⟩ = some (.slice a M c) := by subst hV; simp [go_sem]
    have hl2 : w1.heap.size < w2.heap.size := by subst hV; simp
    clear hV
    have HS2 : Hid (SrcB W.heap.size w2.heap.size w2 a M T) := HS1.out.up hb2 (by omega)
    have HB2 : Hid (Below w.heap.size w w2) := bl_then HB1.out hb2
    have hT2 := HT1.out.below hb2
    have HT2 : Hid (There w2 (w.heap.size + 1) 2) := hT2
    have hle : w.heap.size ≤ w.heap.size + 1 := Nat.le_succ _
    obtain ⟨r, hr⟩ : ∃ r, w.heap.size + 1 = r := ⟨_, rfl⟩
    rw [hr] at HT1 HT2 hle hT2 ⊢
    have hrW : r < W.heap.size := by omega
    clear hb2 HS1 hr hlW HT
    obtain ⟨e1, e2⟩ := HEE.out
    obtain ⟨bq, haa, hF, hbq⟩ := HS2.out.take (r := r) (by omega)
    obtain ⟨p1, p2⟩ := pl_same HSAM.out
    have hsm : SmallFs M T := ⟨by have := HM.out.1; omega, fun i hi => ⟨by have h1 := (HSAM.out i hi).2.2.2.2.1; have h2 := HM.out.2.1 i hi; omega, by rw [(HSAM.out i hi).2.2.2.2.2.2.2.1]; exact HM.out.2.2 i hi⟩⟩
    have HPK := (show Hid _ from impl_PackList_a a bq M c T haa w2 hF hbq hsm hc)
    rw [p1, p2, ← e1, ← e2] at HPK
    clear e1 e2 p1 p2 hF hsm haa hT2
    go_wp2_with fail
    refine Calls.mono HPK.out ?_
    rintro e w3 ⟨v3, rfl, hR3, hb3⟩
    obtain ⟨a3, c3, rfl, hc3, _⟩ := hR3.own.pts
    have HR3 : Hid (RowB w2.heap.size w3 (.slice a3 SL.length c3) SL) := hR3
    have hT3 := HT2.out.below hb3
    have HT3 : Hid (There w3 r 2) := hT3
    have HB3 : Hid (Below w.heap.size w w3) := bl_then HB2.out hb3
    have x0 := hT3.cell 0 (by omega)
    have x1 := hT3.cell 1 (by omega)
    have f0 := (hT3 0 (by omega)).2
    have f1 := (hT3 1 (by omega)).2
    clear hb3 hT3 hR3 k0 k4
    go_wp2_with fail
    have s0 : ((w3.setCell ⟨r, 0, none⟩ (.int .i64 SC)).setCell ⟨r, 1, none⟩ (.slice a3 SL.length c3)).cell? ⟨r, 0, none⟩ = some (.int .i64 SC) := set2_0 (by rw [x0]; rfl)
    have s1 : ((w3.setCell ⟨r, 0, none⟩ (.int .i64 SC)).setCell ⟨r, 1, none⟩ (.slice a3 SL.length c3)).cell? ⟨r, 1, none⟩ = some (.slice a3 SL.length c3) := set2_1 (by rw [x1]; rfl)
    have hBf : Below w.heap.size w ((w3.setCell ⟨r, 0, none⟩ (.int .i64 SC)).setCell ⟨r, 1, none⟩ (.slice a3 SL.length c3)) := (HB3.out.setCell (p := ⟨r, 0, none⟩) hle _).setCell (p := ⟨r, 1, none⟩) hle _
    have hRf : RowB w.heap.size ((w3.setCell ⟨r, 0, none⟩ (.int .i64 SC)).setCell ⟨r, 1, none⟩ (.slice a3 SL.length c3)) (.slice a3 SL.length c3) SL := (RowB.other (RowB.other HR3.out (by omega)) (by omega)).wide HB2.out.size
    generalize ((w3.setCell ⟨r, 0, none⟩ (.int .i64 SC)).setCell ⟨r, 1, none⟩ (.slice a3 SL.length c3)) = Wf at *
    exact bodyPost_ret (v := .agg #[.int .i64 SC, .slice a3 SL.length c3]) (by simp [results, Tryz.results16, go_sem, s0, s1]) rfl ⟨_, rfl, hRf, hBf⟩
  · have hcb : (C == 0) = false := by simpa using h0
    obtain ⟨e1, e2⟩ := HC1.out h0
    subst e1
    subst e2
    clear HC0 HC1 h0
    have hle : w.heap.size ≤ w.heap.size + 1 := Nat.le_succ _
    have hT2 := HT1.out.below (bl_alloc (Below.refl _ _) (.cells #[.int .i64 SC, .int .i64 z', .int .i64 x', .int .i64 y', .slice a M c] 31))
    have HB2 : Hid (Below w.heap.size w (w1.alloc (.cells #[.int .i64 SC, .int .i64 z', .int .i64 x', .int .i64 y', .slice a M c] 31))) := bl_alloc HB1.out _
    have HT2 : Hid (There (w1.alloc (.cells #[.int .i64 SC, .int .i64 z', .int .i64 x', .int .i64 y', .slice a M c] 31)) (w.heap.size + 1) 2) := hT2
    have x0 := hT2.cell 0 (by omega)
    have x1 := hT2.cell 1 (by omega)
    have f0 := (hT2 0 (by omega)).2
    have f1 := (hT2 1 (by omega)).2
    clear hT2
    go_wp2_with fail
    generalize hV : (w1.alloc _ : World) = w2 at *
    clear hV
    have s0 : ((w2.setCell ⟨w.heap.size + 1, 0, none⟩ (.int .i64 SC)).setCell ⟨w.heap.size + 1, 1, none⟩ (.slice none 0 0)).cell? ⟨w.heap.size + 1, 0, none⟩ = some (.int .i64 SC) := set2_0 (by rw [HT2.out.cell 0 (by omega)]; rfl)
    have s1 : ((w2.setCell ⟨w.heap.size + 1, 0, none⟩ (.int .i64 SC)).setCell ⟨w.heap.size + 1, 1, none⟩ (.slice none 0 0)).cell? ⟨w.heap.size + 1, 1, none⟩ = some (.slice none 0 0) := set2_1 (by rw [HT2.out.cell 1 (by omega)]; rfl)
    have hBf : Below w.heap.size w ((w2.setCell ⟨w.heap.size + 1, 0, none⟩ (.int .i64 SC)).setCell ⟨w.heap.size + 1, 1, none⟩ (.slice none 0 0)) := (HB2.out.setCell (p := ⟨w.heap.size + 1, 0, none⟩) hle _).setCell (p := ⟨w.heap.size + 1, 1, none⟩) hle _
    exact bodyPost_ret (v := .agg #[.int .i64 SC, .slice none 0 0]) (by simp [results, Tryz.results16, go_sem, s0, s1]) rfl ⟨_, rfl, RowB.no _ _, hBf⟩
set_option maxHeartbeats 8000000 in
theorem spec_ServeTile_any (z x y : Int) (b n cap : Nat) (G : Nat → Feat) (w : World) (hg : FsAt w b 0 n G) (hbl : b < w.heap.size) (hs : SmallFs n G) :
    Calls Tryz.prog 15 #[.slice (some ⟨b, 0, none⟩) n cap, refV z x y] w fun e w' => ∃ v, e = .returned (.agg #[.int .i64 (svC z x y n G), v]) ∧ RowB w.heap.size w' v (svL z x y n G) ∧ Below w.heap.size w w' := by
  have HBT : Hid (∀ W, Below w.heap.size w W → Calls Tryz.prog 6 #[.slice (some ⟨b, 0, none⟩) n cap, .agg #[.int .i64 z, .int .i64 x, .int .i64 y]] W (BsAns (btC z x y n G) (btK z x y n G z) (btK z x y n G x) (btK z x y n G y) (btM z x y n G) (btG z x y n G) W)) := fun W hW => spec_BuildTile_any z x y b n cap G W (hg.below hW hbl) (Nat.lt_of_lt_of_le hbl hW.size) hs
  have HM : Hid (btM z x y n G ≤ 12 ∧ (∀ i, i < btM z x y n G → (btG z x y n G i).n ≤ 12) ∧ ∀ i, i < btM z x y n G → (btG z x y n G i).lab.size ≤ 1048576) := ⟨(btM_ok z x y n G).1, (btM_ok z x y n G).2, btG_lab hs⟩
  have HC0 : Hid (btC z x y n G = 0 → svC z x y n G = plC (btM z x y n G) (btG z x y n G) ∧ svL z x y n G = plL (btM z x y n G) (btG z x y n G)) := fun h => by unfold svC svL; rw [if_pos h, if_pos h]; exact ⟨rfl, rfl⟩
  have HC1 : Hid (btC z x y n G ≠ 0 → svC z x y n G = btC z x y n G ∧ svL z x y n G = []) := fun h => by unfold svC svL; rw [if_neg h, if_neg h]; exact ⟨rfl, rfl⟩
  clear hg hs
  generalize btC z x y n G = C at *
  generalize btK z x y n G z = z' at *
  generalize btK z x y n G x = x' at *
  generalize btK z x y n G y = y' at *
  generalize btM z x y n G = M at *
  generalize btG z x y n G = GG at *
  unfold BsAns at HBT
  generalize svC z x y n G = SC at *
  generalize svL z x y n G = SL at *
  go_enter Tryz.func15, Tryz.ntmps15
  go_wp2_with fail
  generalize hW : ((w.alloc _).alloc _ : World) = W
  have HB0 : Hid (Below w.heap.size w W) := by show Below _ _ _; subst hW; (repeat (first | exact Below.refl _ _ | assumption | refine Below.drew ?_ | refine bl_alloc ?_ _ | refine bl_then ?_ (by assumption) | refine Below.setCell ?_ (by first | omega | (simp; done) | (simp; omega)) _ | refine bl_store ?_ ?_ _ _))
  have hlW : W.heap.size = w.heap.size + 2 := by subst hW; simp
  have HT : Hid (There W (w.heap.size + 1) 2) := fun o ho => by
    subst hW
    match o, ho with
    | 0, _ => exact ⟨⟨_, by simp [go_sem]; rfl⟩, by simp [go_sem]⟩
    | 1, _ => exact ⟨⟨_, by simp [go_sem]; rfl⟩, by simp [go_sem]⟩
  clear hW
  refine Calls.mono (HBT.out _ HB0.out) ?_
  rintro e w1 ⟨a, c, T, rfl, hS, hsam, hc, hb1⟩
  have HS1 : Hid (SrcB W.heap.size w1.heap.size w1 a M T) := hS
  have HSAM : Hid (∀ i, i < M → (T i).same (GG i)) := hsam
  have HB1 : Hid (Below w.heap.size w w1) := bl_then HB0.out hb1
  have HT1 : Hid (There w1 (w.heap.size + 1) 2) := HT.out.below hb1
  have hs1 := hb1.size
  clear hS hsam hb1
  by_cases h0 : C = 0
  · subst h0
    have HEE := (show Hid (_ ∧ _) from HC0.out rfl)
    clear HC0 HC1
    go_wp2_with fail
    generalize hV : (w1.alloc _ : World) = w2
    have hb2 : Below w1.heap.size w1 w2 := by subst hV; (repeat (first | exact Below.refl _ _ | assumption | refine Below.drew ?_ | refine bl_alloc ?_ _ | refine bl_then ?_ (by assumption) | refine Below.setCell ?_ (by first | omega | (simp; done) | (simp; omega)) _ | refine bl_store ?_ ?_ _ _))
    have k0 : w2.cell? ⟨w1.heap.size, 0, none⟩ = some (.int .i64 0) := by subst hV; simp [go_sem]
    have k4 : w2.cell? ⟨w1.heap.size, 4, none⟩ = some (.slice a M c) := by subst hV; simp [go_sem]
    have hl2 : w1.heap.size < w2.heap.size := by subst hV; simp
    clear hV
    have HS2 : Hid (SrcB W.heap.size w2.heap.size w2 a M T) := HS1.out.up hb2 (by omega)
    have HB2 : Hid (Below w.heap.size w w2) := bl_then HB1.out hb2
    have hT2 := HT1.out.below hb2
    have HT2 : Hid (There w2 (w.heap.size + 1) 2) := hT2
    have hle : w.heap.size ≤ w.heap.size + 1 := Nat.le_succ _
    obtain ⟨r, hr⟩ : ∃ r, w.heap.size + 1 = r := ⟨_, rfl⟩
    rw [hr] at HT1 HT2 hle hT2 ⊢
    have hrW : r < W.heap.size := by omega
    clear hb2 HS1 hr hlW HT
    obtain ⟨e1, e2⟩ := HEE.out
    obtain ⟨bq, haa, hF, hbq⟩ := HS2.out.take (r := r) (by omega)
    obtain ⟨p1, p2⟩ := pl_same HSAM.out
    have hsm : SmallFs M T := ⟨by have := HM.out.1; omega, fun i hi => ⟨by have h1 := (HSAM.out i hi).2.2.2.2.1; have h2 := HM.out.2.1 i hi; omega, by rw [(HSAM.out i hi).2.2.2.2.2.2.2.1]; exact HM.out.2.2 i hi⟩⟩
    have HPK := (show Hid _ from spec_PackList_a a bq M c T haa w2 hF hbq hsm)
    rw [p1, p2, ← e1, ← e2] at HPK
    clear e1 e2 p1 p2 hF hsm haa hT2
    go_wp2_with fail
    refine Calls.mono HPK.out ?_
    rintro e w3 ⟨v3, rfl, hR3, hb3⟩
    obtain ⟨a3, c3, rfl, hc3, _⟩ := hR3.own.pts
    have HR3 : Hid (RowB w2.heap.size w3 (.slice a3 SL.length c3) SL) := hR3
    have hT3 := HT2.out.below hb3
    have HT3 : Hid (There w3 r 2) := hT3
    have HB3 : Hid (Below w.heap.size w w3) := bl_then HB2.out hb3
    have x0 := hT3.cell 0 (by omega)
    have x1 := hT3.cell 1 (by omega)
    have f0 := (hT3 0 (by omega)).2
    have f1 := (hT3 1 (by omega)).2
    clear hb3 hT3 hR3 k0 k4
    go_wp2_with fail
    have s0 : ((w3.setCell ⟨r, 0, none⟩ (.int .i64 SC)).setCell ⟨r, 1, none⟩ (.slice a3 SL.length c3)).cell? ⟨r, 0, none⟩ = some (.int .i64 SC) := set2_0 (by rw [x0]; rfl)
    have s1 : ((w3.setCell ⟨r, 0, none⟩ (.int .i64 SC)).setCell ⟨r, 1, none⟩ (.slice a3 SL.length c3)).cell? ⟨r, 1, none⟩ = some (.slice a3 SL.length c3) := set2_1 (by rw [x1]; rfl)
    have hBf : Below w.heap.size w ((w3.setCell ⟨r, 0, none⟩ (.int .i64 SC)).setCell ⟨r, 1, none⟩ (.slice a3 SL.length c3)) := (HB3.out.setCell (p := ⟨r, 0, none⟩) hle _).setCell (p := ⟨r, 1, none⟩) hle _
    have hRf : RowB w.heap.size ((w3.setCell ⟨r, 0, none⟩ (.int .i64 SC)).setCell ⟨r, 1, none⟩ (.slice a3 SL.length c3)) (.slice a3 SL.length c3) SL := (RowB.other (RowB.other HR3.out (by omega)) (by omega)).wide HB2.out.size
    generalize ((w3.setCell ⟨r, 0, none⟩ (.int .i64 SC)).setCell ⟨r, 1, none⟩ (.slice a3 SL.length c3)) = Wf at *
    exact bodyPost_ret (v := .agg #[.int .i64 SC, .slice a3 SL.length c3]) (by simp [results, Tryz.results15, go_sem, s0, s1]) rfl ⟨_, rfl, hRf, hBf⟩
  · have hcb : (C == 0) = false := by simpa using h0
    obtain ⟨e1, e2⟩ := HC1.out h0
    subst e1
    subst e2
    clear HC0 HC1 h0
    have hle : w.heap.size ≤ w.heap.size + 1 := Nat.le_succ _
    have hT2 := HT1.out.below (bl_alloc (Below.refl _ _) (.cells #[.int .i64 SC, .int .i64 z', .int .i64 x', .int .i64 y', .slice a M c] 31))
    have HB2 : Hid (Below w.heap.size w (w1.alloc (.cells #[.int .i64 SC, .int .i64 z', .int .i64 x', .int .i64 y', .slice a M c] 31))) := bl_alloc HB1.out _
    have HT2 : Hid (There (w1.alloc (.cells #[.int .i64 SC, .int .i64 z', .int .i64 x', .int .i64 y', .slice a M c] 31)) (w.heap.size + 1) 2) := hT2
    have x0 := hT2.cell 0 (by omega)
    have x1 := hT2.cell 1 (by omega)
    have f0 := (hT2 0 (by omega)).2
    have f1 := (hT2 1 (by omega)).2
    clear hT2
    go_wp2_with fail
    generalize hV : (w1.alloc _ : World) = w2 at *
    clear hV
    have s0 : ((w2.setCell ⟨w.heap.size + 1, 0, none⟩ (.int .i64 SC)).setCell ⟨w.heap.size + 1, 1, none⟩ (.slice none 0 0)).cell? ⟨w.heap.size + 1, 0, none⟩ = some (.int .i64 SC) := set2_0 (by rw [HT2.out.cell 0 (by omega)]; rfl)
    have s1 : ((w2.setCell ⟨w.heap.size + 1, 0, none⟩ (.int .i64 SC)).setCell ⟨w.heap.size + 1, 1, none⟩ (.slice none 0 0)).cell? ⟨w.heap.size + 1, 1, none⟩ = some (.slice none 0 0) := set2_1 (by rw [HT2.out.cell 1 (by omega)]; rfl)
    have hBf : Below w.heap.size w ((w2.setCell ⟨w.heap.size + 1, 0, none⟩ (.int .i64 SC)).setCell ⟨w.heap.size + 1, 1, none⟩ (.slice none 0 0)) := (HB2.out.setCell (p := ⟨w.heap.size + 1, 0, none⟩) hle _).setCell (p := ⟨w.heap.size + 1, 1, none⟩) hle _
    exact bodyPost_ret (v := .agg #[.int .i64 SC, .slice none 0 0]) (by simp [results, Tryz.results15, go_sem, s0, s1]) rfl ⟨_, rfl, RowB.no _ _, hBf⟩
end Go.Proofs.YthadmnhpjklmiaaGreat
/- Numbers in memory of their own: they are compared, marked, and the marks are found again. -/

namespace Go.Proofs.YthadmnhpjklmiaaGreat
open Go.RowKit
set_option linter.unusedSimpArgs false
set_option linter.unusedVariables false
set_option maxRecDepth 100000

def IsNs (w : World) (a : Option Addr) (n : Nat) (Z : Nat → Int) : Prop :=
  n = 0 ∨ ∃ b off, a = some ⟨b, off, none⟩ ∧ b < w.heap.size ∧ ∀ i, i < n → w.cell? ⟨b, off + i, none⟩ = some (.int .i64 (Z i))
theorem IsNs.below {w w' : World} {a : Option Addr} {n : Nat} {Z : Nat → Int} (h : IsNs w a n Z) (hb : Below w.heap.size w w') : IsNs w' a n Z := by
  rcases h with h | ⟨b, off, e, hl, hz⟩
  · exact .inl h
  · exact .inr ⟨b, off, e, Nat.lt_of_lt_of_le hl hb.size, fun i hi => (hb.cell (p := ⟨b, off + i, none⟩) hl).trans (hz i hi)⟩
def NsAt (w : World) (b off n : Nat) (Z : Nat → Int) : Prop := ∀ i, i < n → w.cell? ⟨b, off + i, none⟩ = some (.int .i64 (Z i))
theorem NsAt.below {w w' : World} {b off n B : Nat} {Z : Nat → Int} (h : NsAt w b off n Z) (hb : Below B w w') (hB : b < B) : NsAt w' b off n Z := fun i hi => (hb.cell (p := ⟨b, off + i, none⟩) hB).trans (h i hi)
theorem NsAt.is {w : World} {b off n : Nat} {Z : Nat → Int} (h : NsAt w b off n Z) (hb : b < w.heap.size) : IsNs w (some ⟨b, off, none⟩) n Z := .inr ⟨b, off, rfl, hb, h⟩
theorem There.setN {W : World} {r n : Nat} (h : There W r n) (o : Nat) (v : Value) : There (W.setCell ⟨r, o, none⟩ v) r n := fun o' ho => by
  obtain ⟨u, hu⟩ := (h o' ho).1
  refine ⟨?_, ?_⟩
  · by_cases e : o = o'
    · subst e
      exact ⟨v, World.cell?_setCell_same _ _ _ (by rw [hu])⟩
    · exact ⟨u, by rw [World.cell?_setCell_other]; exact hu; simp [e]⟩
  · rw [World.frozen?_setCell]; exact (h o' ho).2
theorem fillN {W : World} {B n k : Nat} {Z : Nat → Int} (hT : There W B n) (hk : k < n) (hp : NsAt W B 0 k Z) : NsAt (W.setCell ⟨B, k, none⟩ (.int .i64 (Z k))) B 0 (k + 1) Z := fun i hi => by
  by_cases e : i = k
  · subst e
    obtain ⟨u, hu⟩ := (hT i hk).1
    simpa using World.cell?_setCell_same _ _ _ (by rw [hu])
  · rw [World.cell?_setCell_other]
    · exact hp i (by omega)
    · simp <;> omega
theorem grown_setN {w w' : World} {b : Nat} (h : w.grownBy w' (some b)) (o : Nat) (v : Value) : w.grownBy (w'.setCell ⟨b, o, none⟩ v) (some b) := by
  have hb : Below b w' (w'.setCell ⟨b, o, none⟩ v) := (Below.refl b w').setCell (Nat.le_refl _) v
  exact ⟨hb.os.trans h.os, hb.tape.trans h.tape, hb.output.trans h.output, Nat.le_trans h.size hb.size, fun k hk hne => (Below.heap_setCell w' ⟨b, o, none⟩ v k (fun e => hne (by simp at e; rw [e]))).trans (h.block k hk hne)⟩
theorem grown_reflN (w : World) (row : Option Nat) : w.grownBy w row := ⟨rfl, rfl, rfl, Nat.le_refl _, fun _ _ _ => rfl⟩
/-- The marks from k0 on. -/
def mkN (k0 i : Nat) : Int := ((k0 + i : Nat) : Int)
/-- v is a list of n bytes in a block from base on. -/
def OwnN (w : World) (base : Nat) (v : Value) (n : Nat) (Z : Nat → Int) : Prop :=
  ∃ a cap, v = .slice a n cap ∧ n ≤ cap ∧ (n = 0 ∨ ∃ b, a = some ⟨b, 0, none⟩ ∧ base ≤ b ∧ b < w.heap.size ∧ NsAt w b 0 n Z ∧ There w b n)
theorem OwnN.below {w w' : World} {base : Nat} {v : Value} {n : Nat} {Z : Nat → Int} (h : OwnN w base v n Z) (hb : Below w.heap.size w w') : OwnN w' base v n Z := by
  obtain ⟨a, cap, hv, hc, h0 | ⟨b, ha, hbb, hl, hp, ht⟩⟩ := h
  · exact ⟨a, cap, hv, hc, .inl h0⟩
  · exact ⟨a, cap, hv, hc, .inr ⟨b, ha, hbb, Nat.lt_of_lt_of_le hl hb.size, hp.below hb hl, ht.below hb⟩⟩
theorem OwnN.pts {w : World} {base : Nat} {v : Value} {n : Nat} {Z : Nat → Int} (h : OwnN w base v n Z) : ∃ a cap, v = .slice a n cap ∧ n ≤ cap ∧ IsNs w a n Z := by
  obtain ⟨a, cap, hv, hc, h0 | ⟨b, ha, hb, hl, hp, ht⟩⟩ := h
  · exact ⟨a, cap, hv, hc, .inl h0⟩
  · exact ⟨a, cap, hv, hc, .inr ⟨b, 0, ha, hl, hp⟩⟩
theorem OwnN.is {w : World} {base : Nat} {a : Option Addr} {n cap : Nat} {Z : Nat → Int} (h : OwnN w base (.slice a n cap) n Z) : IsNs w a n Z := by
  obtain ⟨a', cap', hv, hc, hi⟩ := h.pts
  injection hv with h1 h2 h3
  subst h1
  exact hi
/-- Bytes that lie below block T. -/
def UnderN (T : Nat) (w : World) (a : Option Addr) (n : Nat) (Z : Nat → Int) : Prop := n = 0 ∨ ∃ b off, a = some ⟨b, off, none⟩ ∧ b < T ∧ NsAt w b off n Z
theorem UnderN.is {T : Nat} {w : World} {a : Option Addr} {n : Nat} {Z : Nat → Int} (h : UnderN T w a n Z) (hT : T ≤ w.heap.size) : IsNs w a n Z := by
  rcases h with h | ⟨b, off, e, hl, hp⟩
  · exact .inl h
  · exact .inr ⟨b, off, e, by omega, hp⟩
theorem UnderN.below {T B : Nat} {w w' : World} {a : Option Addr} {n : Nat} {Z : Nat → Int} (h : UnderN T w a n Z) (hb : Below B w w') (hB : T ≤ B) : UnderN T w' a n Z := by
  rcases h with h | ⟨b, off, e, hl, hp⟩
  · exact .inl h
  · exact .inr ⟨b, off, e, hl, hp.below hb (by omega)⟩
theorem UnderN.row {T : Nat} {row : Option Nat} {w w' : World} {a : Option Addr} {n : Nat} {Z : Nat → Int} (h : UnderN T w a n Z) (hg : w.grownBy w' row) (hs : ∀ s, row = some s → T ≤ s) : UnderN T w' a n Z := by
  rcases h with h | ⟨b, off, e, hl, hp⟩
  · exact .inl h
  · exact .inr ⟨b, off, e, hl, fun i hi => hg.cell (hp i hi) (fun e => by have := hs b e.symm; omega)⟩
theorem below_rowN {B : Nat} {row : Option Nat} {a b : World} (h : a.grownBy b row) (hs : ∀ s, row = some s → B ≤ s) (hl : B ≤ a.heap.size) : Below B a b :=
  ⟨h.os, h.tape, h.output, h.size, fun k hk => h.block k (by omega) (fun e => by have := hs k e.symm; omega)⟩
theorem grown_transN {a b c : World} {r : Option Nat} (h : a.grownBy b r) (k : b.grownBy c r) : a.grownBy c r :=
  ⟨k.os.trans h.os, k.tape.trans h.tape, k.output.trans h.output, Nat.le_trans h.size k.size, fun j hj hs => (k.block j (Nat.lt_of_lt_of_le hj h.size) hs).trans (h.block j hj hs)⟩
theorem grown_belowN {a b : World} {r : Option Nat} (h : Below a.heap.size a b) : a.grownBy b r := ⟨h.os, h.tape, h.output, h.size, fun j hj _ => h.block j hj⟩
theorem bl_cellN {w w' : World} {p : Addr} {v : Value} (hb : Below w.heap.size w w') (h : w.cell? p = some v) : w'.cell? p = some v := (hb.cell (World.block_lt_of_cell? _ _ h)).trans h
theorem ro_cellN {w w' : World} {b o : Nat} {row : Option Nat} {v : Value} (hg : w.grownBy w' row) (h : w.cell? ⟨b, o, none⟩ = some v) (hs : ∀ s, row = some s → b ≠ s) : w'.cell? ⟨b, o, none⟩ = some v := hg.cell h (fun e => hs _ e.symm rfl)

end Go.Proofs.YthadmnhpjklmiaaGreat
/- Helpers for the law of a function of a list of features and a struct of numbers. -/

namespace Go.Proofs.YthadmnhpjklmiaaGreat
open Go.RowKit
set_option linter.unusedSimpArgs false
set_option linter.unusedVariables false
set_option maxRecDepth 100000

theorem OwnN.mid {w w' : World} {base lo hi : Nat} {v : Value} {n : Nat} {Z : Nat → Int} (h : OwnN w base v n Z) (hM : MidB lo hi w w') (hh : hi ≤ base) : OwnN w' base v n Z := by
  obtain ⟨a, cap, hv, hc, h0 | ⟨b, ha, hbb, hl, hp, ht⟩⟩ := h
  · exact ⟨a, cap, hv, hc, .inl h0⟩
  · exact ⟨a, cap, hv, hc, .inr ⟨b, ha, hbb, Nat.lt_of_lt_of_le hl hM.size, fun i hi => hM.cell (hp i hi) (.inr (by omega)), hM.there ht (.inr (by omega))⟩⟩
theorem UnderN.mid {T lo hi : Nat} {w w' : World} {a : Option Addr} {n : Nat} {Z : Nat → Int} (h : UnderN T w a n Z) (hM : MidB lo hi w w') (hT : T ≤ lo) : UnderN T w' a n Z := by
  rcases h with h | ⟨b, off, e, hl, hp⟩
  · exact .inl h
  · exact .inr ⟨b, off, e, hl, fun i hi => hM.cell (hp i hi) (.inl (by omega))⟩
theorem OwnN.wide {w : World} {base B : Nat} {v : Value} {n : Nat} {Z : Nat → Int} (h : OwnN w base v n Z) (hB : B ≤ base) : OwnN w B v n Z := by
  obtain ⟨a, cap, hv, hc, h0 | ⟨b, ha, hbb, hr⟩⟩ := h
  · exact ⟨a, cap, hv, hc, .inl h0⟩
  · exact ⟨a, cap, hv, hc, .inr ⟨b, ha, by omega, hr⟩⟩
theorem There.lt2z {W : World} {r : Nat} (h : There W r 2) : r < W.heap.size := by
  obtain ⟨⟨v, hv⟩, _⟩ := h 0 (by omega)
  exact World.block_lt_of_cell? _ _ hv
theorem OwnN.setZ {w : World} {base B r o : Nat} {v u : Value} {n : Nat} {Z : Nat → Int} (h : OwnN w base v n Z) (hr : r < base) (hB : B ≤ base) : OwnN (w.setCell ⟨r, o, none⟩ u) B v n Z := by
  obtain ⟨a, cap, hv, hc, h0 | ⟨b, ha, hbb, hl, hp, ht⟩⟩ := h
  · exact ⟨a, cap, hv, hc, .inl h0⟩
  · have hne : ∀ i : Nat, (⟨r, o, none⟩ : Addr) ≠ ⟨b, i, none⟩ := fun i e => by injection e with e; omega
    refine ⟨a, cap, hv, hc, .inr ⟨b, ha, by omega, by simpa [World.setCell] using hl, fun i hi => ?_, fun o' ho' => ?_⟩⟩
    · rw [set1_other (hne _)]; exact hp i hi
    · obtain ⟨⟨x, hx⟩, hf⟩ := ht o' ho'
      exact ⟨⟨x, by rw [set1_other (hne _)]; exact hx⟩, by rw [World.frozen?_setCell]; exact hf⟩
theorem there2z (V : World) (a b : Value) (t : TypeId) : There (V.alloc (.cells #[a, b] t)) V.heap.size 2 := fun o ho => by
  have : o = 0 ∨ o = 1 := by omega
  rcases this with rfl | rfl <;> exact ⟨⟨_, by simp [go_sem]; rfl⟩, by simp [go_sem]⟩
end Go.Proofs.YthadmnhpjklmiaaGreat
