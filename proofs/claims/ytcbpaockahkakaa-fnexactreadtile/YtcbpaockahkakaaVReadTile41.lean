/- Several texts in one. -/
import Derived.Test.YtcbpaockahkakaaVReadTile40
import Derived.Test.YtcbpaockahkakaaVReadTile24
import Derived.Test.YtcbpaockahkakaaVReadTile38
import Derived.Test.YtcbpaockahkakaaVReadTile2
import Derived.Test.YtcbpaockahkakaaVReadTile8

/- Marks of an answer with features. -/

namespace Go.Proofs.Ytcbpaockahkakaa
open Go.RowKit
set_option linter.unusedSimpArgs false
set_option linter.unusedVariables false
set_option maxRecDepth 100000

/-- An answer whose blocks lie from lo to hi. -/
def OwnR (w : World) (lo hi : Nat) (a : Option Addr) (m : Nat) (N C : Nat → Nat) : Prop := m = 0 ∨ ∃ g q, a = some ⟨g, 0, none⟩ ∧ OwnQ w lo hi g m N C q
theorem OwnR.below {w w' : World} {lo hi m : Nat} {a : Option Addr} {N C : Nat → Nat} (h : OwnR w lo hi a m N C) (hb : Below w.heap.size w w') : OwnR w' lo hi a m N C := by
  rcases h with h | ⟨g, q, e, hq⟩
  · exact .inl h
  · exact .inr ⟨g, q, e, hq.below hb⟩
theorem OwnR.away {w w' : World} {lo hi lo' hi' m : Nat} {a : Option Addr} {N C : Nat → Nat} (h : OwnR w lo hi a m N C) (hm : MidB lo' hi' w w') (ho : hi' ≤ lo ∨ hi ≤ lo') : OwnR w' lo hi a m N C := by
  rcases h with h | ⟨g, q, e, hq⟩
  · exact .inl h
  · exact .inr ⟨g, q, e, hq.away hm ho⟩
/-- The features of an answer stay where other blocks are written. -/
theorem isFs_mid {w w' : World} {lo up lo' up' m : Nat} {a : Option Addr} {T : Nat → Feat} (hF : IsFs w a m T) (hO : OwnR w lo' up' a m (fun i => (T i).n) (fun i => (T i).cap)) (hM : MidB lo up w w') (h : up ≤ lo') : IsFs w' a m T := by
  rcases hO with h0 | ⟨g, q, rfl, ⟨h1, h2, h3⟩, hT, hq, _⟩
  · exact .inl h0
  · rcases hF with h0 | ⟨b, off, e, hbl, hFs⟩
    · exact .inl h0
    · injection e with e
      injection e with e1 e2
      subst e1 e2
      refine .inr ⟨g, 0, rfl, Nat.lt_of_lt_of_le hbl hM.size, fun i hi => ?_⟩
      obtain ⟨⟨c0, c1, c2, c3, c4, c5, c6⟩, hp⟩ := hFs i hi
      obtain ⟨⟨q1, q2, q3⟩, q4, q5⟩ := hq i hi
      have ho : g < lo ∨ up ≤ g := .inr (Nat.le_trans h h1)
      refine ⟨⟨hM.cell c0 ho, hM.cell c1 ho, hM.cell c2 ho, hM.cell c3 ho, hM.cell c4 ho, hM.cell c5 ho, hM.cell c6 ho⟩, ?_⟩
      rw [Nat.zero_add] at c4
      rw [q5] at c4
      injection c4 with c4
      injection c4 with c4 _ _
      rcases hp with hp | ⟨b', off', e', hbl', hpt⟩
      · exact .inl hp
      · rw [← c4] at e'
        injection e' with e'
        injection e' with e1' e2'
        refine .inr ⟨b', off', by rw [← c4, e1', e2'], Nat.lt_of_lt_of_le hbl' hM.size, fun x hx => ?_⟩
        have ho' : b' < lo ∨ up ≤ b' := .inr (by omega)
        exact ⟨hM.cell (hpt x hx).1 ho', hM.cell (hpt x hx).2 ho'⟩
/-- The marks of an answer. -/
def MarkR (w : World) (a : Option Addr) (m : Nat) (N C : Nat → Nat) : Prop := m = 0 ∨ ∃ (g : Nat) (q : Nat → Nat), a = some ⟨g, 0, none⟩ ∧ g < w.heap.size ∧ (∀ i, i < m → q i < w.heap.size) ∧ ∀ i, i < m → MarkF w g (q i) i (N i) (C i) (kS N 1 i)
theorem MarkR.below {w w' : World} {a : Option Addr} {m : Nat} {N C : Nat → Nat} (h : MarkR w a m N C) (hb : Below w.heap.size w w') : MarkR w' a m N C := by
  rcases h with h | ⟨g, q, e, h1, h2, h3⟩
  · exact .inl h
  · exact .inr ⟨g, q, e, Nat.lt_of_lt_of_le h1 hb.size, fun i hi => Nat.lt_of_lt_of_le (h2 i hi) hb.size, fun i hi => (h3 i hi).below hb h1 (h2 i hi)⟩

theorem markFs_none (a : Option Addr) (cap : Nat) (k : Int) (w : World) :
    Calls Try.prog 49 #[.slice a 0 cap, .int .i64 k] w fun e w' => e = .returned (.int .i64 k) ∧ w = w' := by
  go_enter Try.func49, Try.ntmps49
  go_wp2_with fail
  go_loopw [1, 5] (fun kk i wr => kk = .int .i64 k ∧ i = .int .i64 0 ∧ w = wr) (fun _ _ _ => 0)
  case atStart => exact ⟨rfl, rfl, rfl⟩
  case round =>
    obtain ⟨rfl, rfl, rfl⟩ := hrel
    go_wp2
    go_ret
    exact ⟨rfl, rfl⟩
theorem heldFs_none (a : Option Addr) (cap : Nat) (k : Int) (w : World) :
    Calls Try.prog 50 #[.slice a 0 cap, .int .i64 k] w fun e w' => e = .returned (.int .i64 k) ∧ w = w' := by
  go_enter Try.func50, Try.ntmps50
  go_wp2_with fail
  go_loopw [1, 5] (fun kk i wr => kk = .int .i64 k ∧ i = .int .i64 0 ∧ w = wr) (fun _ _ _ => 0)
  case atStart => exact ⟨rfl, rfl, rfl⟩
  case round =>
    obtain ⟨rfl, rfl, rfl⟩ := hrel
    go_wp2
    go_ret
    exact ⟨rfl, rfl⟩
theorem markR_any (lo hi : Nat) (a : Option Addr) (m cap : Nat) (N C : Nat → Nat) (w : World) (h : OwnR w lo hi a m N C) (hm : m ≤ 1048576) (hN : ∀ i, i < m → N i ≤ 1048576) :
    Calls Try.prog 49 #[.slice a m cap, .int .i64 1] w fun e w' => e = .returned (.int .i64 ((kS N 1 m : Nat) : Int)) ∧ MidB lo hi w w' ∧ MarkR w' a m N C := by
  rcases h with rfl | ⟨g, q, rfl, hq⟩
  · exact (markFs_none a cap 1 w).mono fun e w' ⟨he, hw⟩ => ⟨he, by subst hw; exact MidB.refl _ _ _, .inl rfl⟩
  · refine (markFs_any lo hi g m cap 1 N C q w hq hm hN (by omega) (by omega)).mono fun e w' ⟨he, hO, hM, hF⟩ => ⟨he, hM, .inr ⟨g, q, rfl, ?_, fun i hi => ?_, hF⟩⟩
    · have := hO.1; omega
    · have := hO.1; have := (hO.2.2.1 i hi).1; omega
theorem heldR_any (a : Option Addr) (m cap : Nat) (N C : Nat → Nat) (w : World) (h : MarkR w a m N C) (hm : m ≤ 1048576) (hN : ∀ i, i < m → N i ≤ 1048576) :
    Calls Try.prog 50 #[.slice a m cap, .int .i64 1] w fun e w' => e = .returned (.int .i64 ((kS N 1 m : Nat) : Int)) ∧ Below w.heap.size w w' := by
  rcases h with rfl | ⟨g, q, rfl, h1, h2, h3⟩
  · exact (heldFs_none a cap 1 w).mono fun e w' ⟨he, hw⟩ => ⟨he, by subst hw; exact Below.refl _ _⟩
  · exact heldFs_any g m cap 1 N C q w h3 h1 h2 hm hN (by omega) (by omega)
set_option maxHeartbeats 1000000 in
theorem markFeaturesResult_any (lo hi : Nat) (c : Int) (a : Option Addr) (m cap : Nat) (N C : Nat → Nat) (w : World) (h : OwnR w lo hi a m N C) (hm : m ≤ 1048576) (hN : ∀ i, i < m → N i ≤ 1048576) :
    Calls Try.prog 20 #[.agg #[.int .i64 c, .slice a m cap], .int .i64 1] w fun e w' => e = .returned (.int .i64 ((kS N 1 m : Nat) : Int)) ∧ MidB lo hi w w' ∧ MarkR w' a m N C := by
  have HH : Hid (∀ W, Below w.heap.size w W → Calls Try.prog 49 #[.slice a m cap, .int .i64 1] W fun e w' => e = .returned (.int .i64 ((kS N 1 m : Nat) : Int)) ∧ MidB lo hi W w' ∧ MarkR w' a m N C) := fun W hb => markR_any lo hi a m cap N C W (h.below hb) hm hN
  clear h hN
  generalize ((kS N 1 m : Nat) : Int) = kk at *
  go_enter Try.func20, Try.ntmps20
  go_wp2_with fail
  generalize hW : (w.alloc _ : World) = W
  have HB : Below w.heap.size w W := by subst hW; (repeat (first | exact Below.refl _ _ | assumption | refine Below.drew ?_ | refine bl_alloc ?_ _ | refine bl_then ?_ (by assumption) | refine Below.setCell ?_ (by first | omega | (simp; done) | (simp; omega)) _ | refine bl_store ?_ ?_ _ _))
  clear hW
  refine (HH.out _ HB).mono ?_
  rintro e w' ⟨rfl, hM, hR⟩
  have HM : Hid (MidB lo hi w w') := (MidB.of_below HB).trans hM
  have HR : Hid (MarkR w' a m N C) := hR
  clear hM hR HB
  go_wp2
  go_ret
  exact ⟨rfl, HM.out, HR.out⟩
set_option maxHeartbeats 1000000 in
theorem heldFeaturesResult_any (c : Int) (a : Option Addr) (m cap : Nat) (N C : Nat → Nat) (w : World) (h : MarkR w a m N C) (hm : m ≤ 1048576) (hN : ∀ i, i < m → N i ≤ 1048576) :
    Calls Try.prog 21 #[.agg #[.int .i64 c, .slice a m cap], .int .i64 1] w fun e w' => e = .returned (.int .i64 ((kS N 1 m : Nat) : Int)) ∧ Below w.heap.size w w' := by
  have HH : Hid (∀ W, Below w.heap.size w W → Calls Try.prog 50 #[.slice a m cap, .int .i64 1] W fun e w' => e = .returned (.int .i64 ((kS N 1 m : Nat) : Int)) ∧ Below W.heap.size W w') := fun W hb => heldR_any a m cap N C W (h.below hb) hm hN
  clear h hN
  have hneg : ¬ ((kS N 1 m : Nat) : Int) < 0 := by omega
  generalize ((kS N 1 m : Nat) : Int) = kk at *
  go_enter Try.func21, Try.ntmps21
  go_wp2_with fail
  generalize hW : (w.alloc _ : World) = W
  have HB : Below w.heap.size w W := by subst hW; (repeat (first | exact Below.refl _ _ | assumption | refine Below.drew ?_ | refine bl_alloc ?_ _ | refine bl_then ?_ (by assumption) | refine Below.setCell ?_ (by first | omega | (simp; done) | (simp; omega)) _ | refine bl_store ?_ ?_ _ _))
  clear hW
  refine (HH.out _ HB).mono ?_
  rintro e w' ⟨rfl, hb⟩
  go_wp2
  go_ret
  exact ⟨rfl, bl_then HB hb⟩
theorem R2At.mid {w w' : World} {lo hi p : Nat} {c : Int} {v : Value} (h : R2At w p c v) (hM : MidB lo hi w w') (ho : p < lo ∨ hi ≤ p) : R2At w' p c v := ⟨hM.cell h.1 ho, hM.cell h.2 ho⟩
end Go.Proofs.Ytcbpaockahkakaa
/- What UnpackList tells, as an answer that owns its memory. -/

namespace Go.Proofs.Ytcbpaockahkakaa
open Go.RowKit
set_option linter.unusedSimpArgs false
set_option linter.unusedVariables false
set_option maxRecDepth 100000

theorem fx_pts {fs : List Fx} (hc : fxC fs = 0) (i : Nat) (hi : i < fs.length) : 0 < (fxAt fs i).pts.length ∧ (fxAt fs i).pts.length ≤ 12 := by
  have h := (featsC_ok hc).2.2 i hi
  obtain ⟨_, _, _, _, _, _, _, _, _, _, _, _, _, _, _, h1, h2, _⟩ := feat_ok h
  exact ⟨h1, h2⟩
theorem FxRow.ownR {base : Nat} {w : World} {v : Value} {fs : List Fx} {H : Nat → Feat} (h : FxRow base w v fs H) (hc : fxC fs = 0) :
    ∃ a cap, v = .slice a fs.length cap ∧ IsFs w a fs.length H ∧ OwnR w base w.heap.size a fs.length (fun i => (H i).n) (fun i => (H i).cap) := by
  obtain ⟨a, cap, hv, hcap, h0 | ⟨b, rfl, hb, hF⟩⟩ := h.is
  · exact ⟨a, cap, hv, .inl h0, .inl h0⟩
  · refine ⟨_, cap, hv, .inr ⟨b, 0, rfl, hb, hF⟩, ?_⟩
    rcases h.1.at with ⟨h1, h2⟩ | ⟨g, cap', hv', hg, hgl, hc', hT, _⟩
    · left
      simpa using congrArg List.length h2
    · rw [List.length_range] at hv' hT
      rw [hv] at hv'
      injection hv' with e1 e2 e3
      injection e1 with e1
      injection e1 with e1
      subst e1
      refine .inr ⟨b, fun i => (((H i).a).map (·.block)).getD 0, rfl, ⟨hg, hb, Nat.le_refl _⟩, hT, fun i hi => ?_, fun i j hi hj hij => ?_⟩
      · obtain ⟨e, r⟩ := h.2.1 i hi
        have hp := fx_pts hc i hi
        have hn : (H i).n = (fxAt fs i).pts.length := by rw [e]; rfl
        obtain ⟨a', c', hv2, _, h3 | ⟨q, ha, hq, hql, _, hqT⟩⟩ := r.own
        · omega
        · injection hv2 with k1 k2 k3
          have hai : (H i).a = some ⟨q, 0, none⟩ := k1.trans ha
          have hcell : w.cell? ⟨b, i * 7 + 4, none⟩ = some (.slice (H i).a (H i).n (H i).cap) := by
            obtain ⟨_, _, _, _, c4, _, _⟩ := (hF i hi).1
            simpa using c4
          have hqb : q ≠ b := by
            intro e'
            obtain ⟨c1, h1⟩ := heap_of_row r q (by rw [hai]; rfl)
            obtain ⟨c2, h2⟩ := heap_of_row h.1 b (by rw [hv]; rfl)
            rw [e', h2] at h1
            injection h1 with h1
            injection h1 with _ h1
            exact absurd h1 (by decide)
          simp only [hai, Option.map_some, Option.getD_some]
          refine ⟨⟨hq, hql, hqb⟩, ?_, ?_⟩
          · rw [hn]; exact hqT
          · rw [hcell, hai]
      · obtain ⟨_, r1⟩ := h.2.1 i hi
        obtain ⟨_, r2⟩ := h.2.1 j hj
        have hp1 := fx_pts hc i hi
        have hp2 := fx_pts hc j hj
        obtain ⟨_, _, hv1, _, h3 | ⟨q1, ha1, _⟩⟩ := r1.own
        · omega
        obtain ⟨_, _, hv2, _, h4 | ⟨q2, ha2, _⟩⟩ := r2.own
        · omega
        injection hv1 with k1
        injection hv2 with k2
        have e1 := k1.trans ha1
        have e2 := k2.trans ha2
        simp only [e1, e2, Option.map_some, Option.getD_some] at hij
        subst hij
        exact h.2.2 i j hi hj (e1.trans e2.symm) (by rw [e1]; simp)

/-- The code and the features that bytes tell. -/
noncomputable def upC (Z : Nat → Int) (n : Nat) : Int := if 900 < n then 2 else (match upG Z n with | none => 5 | some _ => 0)
noncomputable def upL (Z : Nat → Int) (n : Nat) : List Fx := if 900 < n then [] else (upG Z n).getD []
theorem upG_ok {Z : Nat → Int} {n : Nat} {fs : List Fx} (h : upG Z n = some fs) : fxC fs = 0 := by
  unfold upG at h
  split at h
  · cases hr : rdList Z (n - 2) with
    | none => rw [hr] at h; cases h
    | some x =>
      rw [hr] at h
      simp only [Option.bind_some] at h
      split at h
      · rename_i hh
        injection h with h
        subst h
        exact hh.2.1
      · cases h
  · cases h
theorem upL_ok (Z : Nat → Int) (n : Nat) : (upL Z n).length ≤ 12 ∧ ∀ i, i < (upL Z n).length → (fxG (upL Z n) i).n ≤ 12 := by
  unfold upL
  split
  · exact ⟨by simp, fun i hi => absurd hi (Nat.not_lt_zero _)⟩
  · cases h : upG Z n with
    | none => exact ⟨by simp, fun i hi => absurd hi (Nat.not_lt_zero _)⟩
    | some fs => exact ⟨(featsC_ok (upG_ok h)).1, fun i hi => (fx_pts (upG_ok h) i hi).2⟩
/-- An answer with features that owns its memory. -/
def UpAns (C : Int) (L : List Fx) (w : World) (e : Ending) (w' : World) : Prop :=
  ∃ a cap T, e = .returned (.agg #[.int .i64 C, .slice a L.length cap]) ∧ IsFs w' a L.length T ∧ (∀ i, i < L.length → (T i).same (fxG L i)) ∧ OwnR w' w.heap.size w'.heap.size a L.length (fun i => (T i).n) (fun i => (T i).cap) ∧ Below w.heap.size w w'
theorem unP_ans {Z : Nat → Int} {n : Nat} {w w' : World} {e : Ending} (h : UnP Z n w e w') : UpAns (upC Z n) (upL Z n) w e w' := by
  obtain ⟨h, hb⟩ := h
  unfold upC upL
  split at h
  · rename_i hn
    rw [if_pos hn, if_pos hn]
    exact ⟨none, 0, fun _ => fxFeat ⟨[], ByteArray.empty, []⟩ none 0, h, .inl rfl, fun i hi => absurd hi (Nat.not_lt_zero _), .inl rfl, hb⟩
  · rename_i hn
    rw [if_neg hn, if_neg hn]
    cases hg : upG Z n with
    | none =>
      rw [hg] at h
      exact ⟨none, 0, fun _ => fxFeat ⟨[], ByteArray.empty, []⟩ none 0, h, .inl rfl, fun i hi => absurd hi (Nat.not_lt_zero _), .inl rfl, hb⟩
    | some fs =>
      rw [hg] at h
      obtain ⟨v, H, he, hX⟩ := h
      obtain ⟨a, cap, rfl, hF, hO⟩ := hX.ownR (upG_ok hg)
      exact ⟨a, cap, H, he, hF, hX.same, hO, hb⟩
end Go.Proofs.Ytcbpaockahkakaa
/- How many pixels the world has on a side, and their centres. -/

namespace Go.Proofs.Ytcbpaockahkakaa
open Go.RowKit
set_option linter.unusedSimpArgs false
set_option linter.unusedVariables false
set_option maxRecDepth 100000

/-- How many pixels the world has on a side. -/
def pixI (z : Int) : Int := if z = 0 then 8 else if z = 1 then 16 else if z = 2 then 32 else 64
/-- The answer of PixelCount. -/
def pixV (z : Int) : Value := if zoomB z = true then .agg #[.int .i64 0, .int .i64 (pixI z)] else .agg #[.int .i64 3, .int .i64 0]
/-- A pixel. -/
def pixB (z x y : Int) : Bool := zoomB z && (inB x 0 (pixI z - 1) && inB y 0 (pixI z - 1))
/-- The centre of a pixel, doubled. -/
def centI (z x : Int) : Int := (2 * x + 1) * unitI z
/-- The answer of CentreOf. -/
def centV (z x y : Int) : Value := if pixB z x y = true then .agg #[.int .i64 0, .int .i64 (centI z x), .int .i64 (centI z y)] else .agg #[.int .i64 3, .int .i64 0, .int .i64 0]
theorem pixB_zoom {z x y : Int} (h : pixB z x y = true) : zoomB z = true := by
  simp [pixB] at h
  exact h.1
theorem pixB_in {z x y : Int} (h : pixB z x y = true) : (0 ≤ x ∧ x ≤ pixI z - 1) ∧ (0 ≤ y ∧ y ≤ pixI z - 1) := by
  simp [pixB, inB] at h
  exact h.2
theorem pixI_bd {z : Int} (h : zoomB z = true) : 8 ≤ pixI z ∧ pixI z ≤ 64 := by
  rcases zoomB_cases h with rfl | rfl | rfl | rfl <;> decide
theorem cent_ok {z x y : Int} (h : pixB z x y = true) : okP (centI z x) (centI z y) = true := by
  have hz := pixB_zoom h
  have hb := pixB_in h
  rw [okP_iff]
  unfold centI
  rcases zoomB_cases hz with rfl | rfl | rfl | rfl
  all_goals
    simp only [show unitI 0 = 128 from rfl, show unitI 1 = 64 from rfl, show unitI 2 = 32 from rfl, show unitI 3 = 16 from rfl, show pixI 0 = 8 from rfl, show pixI 1 = 16 from rfl, show pixI 2 = 32 from rfl, show pixI 3 = 64 from rfl] at *
    omega

end Go.Proofs.Ytcbpaockahkakaa
