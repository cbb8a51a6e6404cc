/- Several texts in one. -/
import Derived.Test.YtcbpaockahkakaaVReadTile22
import Derived.Test.YtcbpaockahkakaaVReadTile23
import Derived.Tactics
import Derived.Tactics2
import Derived.Defers
import Derived.Recover
import Derived.Laws.Pointers

/- UnpackList: the program's way; what cannot be read is a panic that is recovered. -/

namespace Go.Proofs.Ytcbpaockahkakaa
open Go.RowKit
set_option linter.unusedSimpArgs false
set_option linter.unusedVariables false
set_option maxRecDepth 100000

open Classical in
/-- The features that bytes tell, if they tell some. -/
noncomputable def upG (Z : Nat → Int) (n : Nat) : Option (List Fx) :=
  if sumOk Z n then (rdList Z (n - 2)).bind fun x => if n - 2 ≤ x.2 ∧ fxC x.1 = 0 ∧ fxO x.1 = true then some x.1 else none else none
/-- What UnpackList tells. -/
def UnP (Z : Nat → Int) (n : Nat) (w : World) (e : Ending) (w' : World) : Prop :=
  (if 900 < n then e = .returned (.agg #[.int .i64 2, .slice none 0 0]) else
    match upG Z n with
    | none => e = .returned (.agg #[.int .i64 5, .slice none 0 0])
    | some fs => ∃ v H, e = .returned (.agg #[.int .i64 0, v]) ∧ FxRow w.heap.size w' v fs H) ∧ Below w.heap.size w w'
theorem UnP.none {Z : Nat → Int} {n : Nat} {w w' : World} (hn : ¬ 900 < n) (h : upG Z n = none) (hb : Below w.heap.size w w') : UnP Z n w (.returned (.agg #[.int .i64 5, .slice none 0 0])) w' := by
  unfold UnP
  rw [if_neg hn, h]
  exact ⟨rfl, hb⟩
theorem UnP.some {Z : Nat → Int} {n : Nat} {w w' : World} {fs : List Fx} {v : Value} {H : Nat → Feat} (hn : ¬ 900 < n) (h : upG Z n = some fs) (hx : FxRow w.heap.size w' v fs H) (hb : Below w.heap.size w w') : UnP Z n w (.returned (.agg #[.int .i64 0, v])) w' := by
  unfold UnP
  rw [if_neg hn, h]
  exact ⟨⟨v, H, rfl, hx⟩, hb⟩
theorem unpackCatch_panicking (r : Nat) (u : TypeId) (pv : Value) (older : List PanicEntry) (w : World) (ht : There w r 2) :
    CallsD Try.prog 33 #[.pointer (some ⟨r, 0, none⟩)] (.panicking ({ v := .iface u pv, recovered := false } :: older)) w fun e u' w' =>
      e = .returned (.tuple #[]) ∧ u' = .panicking ({ v := .iface u pv, recovered := true } :: older) ∧ (w.setCell ⟨r, 0, none⟩ (.int .i64 5)).setCell ⟨r, 1, none⟩ (.slice none 0 0) = w' := by
  have c0 := ht.cell 0 (by omega)
  have c1 := ht.cell 1 (by omega)
  have f0 := (ht 0 (by omega)).2
  have f1 := (ht 1 (by omega)).2
  refine callsD_of_wpS Try.func33 rfl fun a₀ cs hu => ?_
  apply wpS_seq
  apply wpS_region
  simp [wpOpsS, go_sem, recoverD, hu, Try.ntmps33, Exit.thenS]
  refine wpS_cond (t := true) (by simp [Act.eval, Array.replicate]) ?_
  simp only [if_true]
  apply wpS_region
  simp [wpOpsS, go_sem, c0, c1, f0, f1, bodyPostS, results, Try.results33]
theorem unpackCatch_idle (p : Addr) (w : World) :
    CallsD Try.prog 33 #[.pointer (some p)] .returning w fun e u' w' => e = .returned (.tuple #[]) ∧ u' = .returning ∧ w = w' := by
  refine callsD_of_wpS Try.func33 rfl fun a₀ cs hu => ?_
  apply wpS_seq
  apply wpS_region
  simp [wpOpsS, go_sem, recoverD, hu, Try.ntmps33, Exit.thenS]
  refine wpS_cond (t := false) (by simp [Act.eval, Array.replicate]) ?_
  simp only [Bool.false_eq_true, if_false]
  refine wpS_of_wp (wp_skip ?_)
  cases a₀
  simp_all [bodyPostS, results, Try.results33]
open Classical in
theorem checkSum_any (p B n : Nat) (Z : Nat → Int) (w : World) (h : UpAt w p B n Z) (hB : B ≤ p) (hp : p < w.heap.size) (hr : ∀ i, 0 ≤ Z i ∧ Z i ≤ 255) (hmax : n ≤ 1048576) :
    Calls Try.prog 34 #[.pointer (some ⟨p, 0, none⟩)] w fun e w' => if sumOk Z n then e = .returned (.tuple #[]) ∧ UpAt w' p B (n - 2) Z ∧ Keeps p w w' else Pan e ∧ Keeps p w w' := by
  by_cases hn : n < 2
  · refine (checkSum_short p B n Z w h hn).mono ?_
    intro e w' hq
    rw [if_neg (fun hs => by have := hs.1; omega)]
    exact hq
  · refine (checkSum_long p B n Z w h hB hp hr (by omega) hmax).mono ?_
    intro e w' hq
    by_cases hs : Z (n - 2) * 256 + Z (n - 1) = sumZ Z (n - 2)
    · rw [if_pos hs] at hq
      rw [if_pos (show sumOk Z n from ⟨by omega, hs⟩)]
      exact hq
    · rw [if_neg hs] at hq
      rw [if_neg (fun h' => hs h'.2)]
      exact hq
end Go.Proofs.Ytcbpaockahkakaa
/- UnpackList of the program, whole. -/

namespace Go.Proofs.Ytcbpaockahkakaa
open Go.RowKit
set_option linter.unusedSimpArgs false
set_option linter.unusedVariables false
set_option maxRecDepth 100000

theorem FxRow.setLow {base r o : Nat} {w : World} {v u : Value} {fs : List Fx} {H : Nat → Feat} (h : FxRow base w v fs H) (hr : r < base) : FxRow base (w.setCell ⟨r, o, none⟩ u) v fs H :=
  ⟨ownsRow_of h.1 fun g hg => Below.heap_setCell _ _ _ _ (by have := (World.ownsRow.lt h.1 g hg).1; show g ≠ r; omega), fun i hi => ⟨(h.2.1 i hi).1, (h.2.1 i hi).2.setLow hr⟩, h.2.2⟩
theorem FxRow.wide {base B : Nat} {w : World} {v : Value} {fs : List Fx} {H : Nat → Feat} (h : FxRow base w v fs H) (hB : B ≤ base) : FxRow B w v fs H := by
  refine ⟨?_, fun i hi => ⟨(h.2.1 i hi).1, (h.2.1 i hi).2.wide hB⟩, h.2.2⟩
  obtain ⟨h1, h2 | ⟨g, cp, cur, hv, hg, hrest⟩⟩ := h.1
  · exact ⟨h1, .inl h2⟩
  · exact ⟨h1, .inr ⟨g, cp, cur, hv, by omega, hrest⟩⟩
set_option maxHeartbeats 4000000 in
open Classical in
theorem impl_UnpackList_any (a : Option Addr) (n cap : Nat) (Z : Nat → Int) (w : World) (hp : IsBytes w a n Z) (hr : ∀ i, 0 ≤ Z i ∧ Z i ≤ 255) (hmax : n ≤ 1048576) (hcap : n ≤ cap) :
    Calls Try.prog 8 #[.slice a n cap] w fun e w' => UnP Z n w e w' := by
  have hmf : ∀ (fn : Fn) (first cap : Array Value) (w : World), (Instr.makeFunc fn first cap).run Try.prog w = .ok (.func fn first cap) w := fun _ _ _ _ => rfl
  have HP : Hid (IsBytes w a n Z) := hp
  have HR : Hid (∀ i, 0 ≤ Z i ∧ Z i ≤ 255) := hr
  clear hp hr
  by_cases h9 : 900 < n
  · have h9' : (900 : Int) < (n : Int) := by omega
    have HE : Hid (∀ w', Below w.heap.size w w' → UnP Z n w (.returned (.agg #[.int .i64 2, .slice none 0 0])) w') := fun w' hb => by unfold UnP; rw [if_pos h9]; exact ⟨rfl, hb⟩
    go_enter_defers Try.func8, Try.ntmps8
    go_wp2_with fail
    have HE2 := HE.out _ (bl_alloc (Below.refl w.heap.size w) (.cells #[.int .i64 2, .slice none 0 0] 27))
    simp [bodyPostD, Leaves, settle, results, Try.results8, go_sem]
    exact HE2
  · have h9' : ¬ (900 : Int) < (n : Int) := by omega
    go_enter_defers Try.func8, Try.ntmps8
    go_wp2_with fail
    generalize hW : ((w.alloc _).alloc _ : World) = W
    have hB0 : Below w.heap.size w W := by subst hW; (repeat (first | exact Below.refl _ _ | assumption | refine Below.drew ?_ | refine bl_alloc ?_ _ | refine bl_then ?_ (by assumption) | refine Below.setCell ?_ (by first | omega | (simp; done) | (simp; omega)) _ | refine bl_store ?_ ?_ _ _))
    have hT0 : There W w.heap.size 2 := fun o ho => by
      subst hW
      match o, ho with
      | 0, _ => exact ⟨⟨_, by simp [go_sem]; rfl⟩, by simp [go_sem]⟩
      | 1, _ => exact ⟨⟨_, by simp [go_sem]; rfl⟩, by simp [go_sem]⟩
    have hU0 : UpAt W (w.heap.size + 1) w.heap.size n Z := by
      refine ⟨a, cap, by subst hW; simp [go_sem], by subst hW; simp [go_sem], hcap, ?_⟩
      rcases HP.out with h | ⟨b, off, e, hb, hz⟩
      · exact .inl h
      · exact .inr ⟨b, off, e, hb, fun i hi => (hB0.cell (p := ⟨b, off + i, none⟩) hb).trans (hz i hi)⟩
    have hlW : w.heap.size + 1 < W.heap.size := by subst hW; simp
    clear hW
    refine (checkSum_any (w.heap.size + 1) w.heap.size n Z W hU0 (by omega) hlW HR.out hmax).mono ?_
    rintro e w1 hN
    by_cases hs : sumOk Z n
    · rw [if_pos hs] at hN
      obtain ⟨rfl, hU1, hK1⟩ := hN
      have HS : Hid (sumOk Z n) := hs
      have HT1 : Hid (There w1 w.heap.size 2) := hT0.keepsU hK1 (by omega) (by omega)
      have HB1 : Hid (Below w.heap.size w w1) := hB0.trans (hK1.below (by omega) (by omega))
      have HU1 : Hid (UpAt w1 (w.heap.size + 1) w.heap.size (n - 2) Z) := hU1
      have hl1 : w.heap.size + 1 < w1.heap.size := Nat.lt_of_lt_of_le hlW hK1.size
      clear hs hU1 hK1 hU0 hT0 hB0
      go_wp2_with fail
      refine (features_any (w.heap.size + 1) w.heap.size (n - 2) Z w1 HU1.out (by omega) hl1 HR.out (by omega)).mono ?_
      rintro e w2 hN
      cases hrd : rdList Z (n - 2) with
      | none =>
        rw [hrd] at hN
        obtain ⟨⟨u, pv, rfl⟩, hK⟩ := hN
        have HV : Hid (upG Z n = none) := by show _ = _; unfold upG; rw [if_pos HS.out, hrd]; rfl
        have hT2 : There w2 w.heap.size 2 := HT1.out.keepsU hK (by omega) (by omega)
        have hB2 : Below w.heap.size w w2 := HB1.out.trans (hK.below (by omega) (by omega))
        simp only [Exit.then]
        refine leaves_cons (f := 33) (args := #[.pointer (some ⟨w.heap.size, 0, none⟩)]) (by simp) (by simp [go_sem]) ?_
        refine (unpackCatch_panicking w.heap.size u pv [] _ hT2).mono ?_
        rintro e u' w3 ⟨rfl, rfl, rfl⟩
        obtain ⟨s0, s1⟩ := set2_at (r := w.heap.size) (W := w2) (i := 0) (j := 1) (u := .int .i64 5) (v := .slice none 0 0) (by omega) (by rw [hT2.cell 0 (by omega)]; rfl) (by rw [hT2.cell 1 (by omega)]; rfl)
        have HBf : Below w.heap.size w ((w2.setCell ⟨w.heap.size, 0, none⟩ (.int .i64 5)).setCell ⟨w.heap.size, 1, none⟩ (.slice none 0 0)) := (hB2.setCell (p := ⟨w.heap.size, 0, none⟩) (Nat.le_refl _) _).setCell (p := ⟨w.heap.size, 1, none⟩) (Nat.le_refl _) _
        generalize ((w2.setCell ⟨w.heap.size, 0, none⟩ (.int .i64 5)).setCell ⟨w.heap.size, 1, none⟩ (.slice none 0 0)) = Wf at *
        have HE := UnP.none h9 HV.out HBf
        simp [Leaves, settle, results, Try.results8, go_sem, s0, s1]
        exact HE
      | some x =>
        rw [hrd] at hN
        unfold FsP at hN
        simp only at hN
        by_cases hg : n - 2 ≤ x.2 ∧ fxC x.1 = 0 ∧ fxO x.1 = true
        · rw [if_pos hg] at hN
          obtain ⟨v, H, rfl, hX, hK⟩ := hN
          have HV : Hid (upG Z n = some x.1) := by show _ = _; unfold upG; rw [if_pos HS.out, hrd, Option.bind_some, if_pos hg]
          have hT2 : There w2 w.heap.size 2 := HT1.out.keepsU hK (by omega) (by omega)
          have HT2 : Hid (There w2 w.heap.size 2) := hT2
          have HB2 : Hid (Below w.heap.size w w2) := HB1.out.trans (hK.below (by omega) (by omega))
          have HX2 : Hid (FxRow w1.heap.size w2 v x.1 H) := hX
          obtain ⟨a6, c6, hv6, _, _⟩ := hX.is
          have c0 := hT2.cell 0 (by omega)
          have c1 := hT2.cell 1 (by omega)
          have f0 := (hT2 0 (by omega)).2
          have f1 := (hT2 1 (by omega)).2
          clear hX hK hT2 hrd
          generalize x.1.length = L6 at hv6
          subst hv6
          go_wp2
          refine leaves_cons (f := 33) (args := #[.pointer (some ⟨w.heap.size, 0, none⟩)]) (by simp) (by simp [go_sem]) ?_
          refine (unpackCatch_idle _ _).mono ?_
          rintro e u' w3 ⟨rfl, rfl, rfl⟩
          obtain ⟨s0, s1⟩ := set2_at (r := w.heap.size) (W := w2) (i := 0) (j := 1) (u := .int .i64 0) (v := .slice a6 L6 c6) (by omega) (by rw [c0]; rfl) (by rw [c1]; rfl)
          have HBf : Below w.heap.size w ((w2.setCell ⟨w.heap.size, 0, none⟩ (.int .i64 0)).setCell ⟨w.heap.size, 1, none⟩ (.slice a6 L6 c6)) := (HB2.out.setCell (p := ⟨w.heap.size, 0, none⟩) (Nat.le_refl _) _).setCell (p := ⟨w.heap.size, 1, none⟩) (Nat.le_refl _) _
          have HXf : FxRow w.heap.size ((w2.setCell ⟨w.heap.size, 0, none⟩ (.int .i64 0)).setCell ⟨w.heap.size, 1, none⟩ (.slice a6 L6 c6)) (.slice a6 L6 c6) x.1 H := ((HX2.out.setLow (by omega)).setLow (by omega)).wide (by omega)
          generalize ((w2.setCell ⟨w.heap.size, 0, none⟩ (.int .i64 0)).setCell ⟨w.heap.size, 1, none⟩ (.slice a6 L6 c6)) = Wf at *
          have HE := UnP.some h9 HV.out HXf HBf
          simp [Leaves, settle, results, Try.results8, go_sem, s0, s1]
          exact HE
        · rw [if_neg hg] at hN
          obtain ⟨⟨u, pv, rfl⟩, hK⟩ := hN
          have HV : Hid (upG Z n = none) := by show _ = _; unfold upG; rw [if_pos HS.out, hrd, Option.bind_some, if_neg hg]
          have hT2 : There w2 w.heap.size 2 := HT1.out.keepsU hK (by omega) (by omega)
          have hB2 : Below w.heap.size w w2 := HB1.out.trans (hK.below (by omega) (by omega))
          simp only [Exit.then]
          refine leaves_cons (f := 33) (args := #[.pointer (some ⟨w.heap.size, 0, none⟩)]) (by simp) (by simp [go_sem]) ?_
          refine (unpackCatch_panicking w.heap.size u pv [] _ hT2).mono ?_
          rintro e u' w3 ⟨rfl, rfl, rfl⟩
          obtain ⟨s0, s1⟩ := set2_at (r := w.heap.size) (W := w2) (i := 0) (j := 1) (u := .int .i64 5) (v := .slice none 0 0) (by omega) (by rw [hT2.cell 0 (by omega)]; rfl) (by rw [hT2.cell 1 (by omega)]; rfl)
          have HBf : Below w.heap.size w ((w2.setCell ⟨w.heap.size, 0, none⟩ (.int .i64 5)).setCell ⟨w.heap.size, 1, none⟩ (.slice none 0 0)) := (hB2.setCell (p := ⟨w.heap.size, 0, none⟩) (Nat.le_refl _) _).setCell (p := ⟨w.heap.size, 1, none⟩) (Nat.le_refl _) _
          generalize ((w2.setCell ⟨w.heap.size, 0, none⟩ (.int .i64 5)).setCell ⟨w.heap.size, 1, none⟩ (.slice none 0 0)) = Wf at *
          have HE := UnP.none h9 HV.out HBf
          simp [Leaves, settle, results, Try.results8, go_sem, s0, s1]
          exact HE
    · rw [if_neg hs] at hN
      obtain ⟨⟨u, pv, rfl⟩, hK⟩ := hN
      have HV : Hid (upG Z n = none) := by show _ = _; unfold upG; rw [if_neg hs]
      have hT2 : There w1 w.heap.size 2 := hT0.keepsU hK (by omega) (by omega)
      have hB2 : Below w.heap.size w w1 := hB0.trans (hK.below (by omega) (by omega))
      simp only [Exit.then]
      refine leaves_cons (f := 33) (args := #[.pointer (some ⟨w.heap.size, 0, none⟩)]) (by simp) (by simp [go_sem]) ?_
      refine (unpackCatch_panicking w.heap.size u pv [] _ hT2).mono ?_
      rintro e u' w3 ⟨rfl, rfl, rfl⟩
      obtain ⟨s0, s1⟩ := set2_at (r := w.heap.size) (W := w1) (i := 0) (j := 1) (u := .int .i64 5) (v := .slice none 0 0) (by omega) (by rw [hT2.cell 0 (by omega)]; rfl) (by rw [hT2.cell 1 (by omega)]; rfl)
      have HBf : Below w.heap.size w ((w1.setCell ⟨w.heap.size, 0, none⟩ (.int .i64 5)).setCell ⟨w.heap.size, 1, none⟩ (.slice none 0 0)) := (hB2.setCell (p := ⟨w.heap.size, 0, none⟩) (Nat.le_refl _) _).setCell (p := ⟨w.heap.size, 1, none⟩) (Nat.le_refl _) _
      generalize ((w1.setCell ⟨w.heap.size, 0, none⟩ (.int .i64 5)).setCell ⟨w.heap.size, 1, none⟩ (.slice none 0 0)) = Wf at *
      have HE := UnP.none h9 HV.out HBf
      simp [Leaves, settle, results, Try.results8, go_sem, s0, s1]
      exact HE
end Go.Proofs.Ytcbpaockahkakaa
