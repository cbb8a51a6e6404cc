/- Several texts in one. -/
import Derived.Test.YtciidkmonfmipaaGreatVTouchTile32
import Derived.Test.YtciidkmonfmipaaGreatVTouchTile15
import Derived.Test.YtciidkmonfmipaaGreatVTouchTile14
import Derived.Test.YtciidkmonfmipaaGreatVTouchTile39
import Derived.Test.YtciidkmonfmipaaGreatVTouchTile41
import Derived.Test.YtciidkmonfmipaaGreatVTouchTile7
import Derived.Test.YtciidkmonfmipaaGreatVTouchTile19

/- The nearest tile that is kept: the model and the program. -/

namespace Go.Proofs.YtciidkmonfmipaaGreat
open Go.RowKit
set_option linter.unusedSimpArgs false
set_option linter.unusedVariables false
set_option maxRecDepth 100000

theorem atK_or (n : Nat) (K : Nat → Kp) (z x y : Int) : atK n K z x y = -1 ∨ ∃ i : Nat, i < n ∧ atK n K z x y = (i : Int) ∧ (K i).z = z ∧ (K i).x = x ∧ (K i).y = y := by
  unfold atK
  rcases firstI_or (fun i => isK (K i) z x y) n with ⟨h1, h2⟩ | ⟨i, hi, hg, hf, hn⟩
  · exact .inl h1
  · exact .inr ⟨i, hi, hf, isK_iff.1 hg⟩
end Go.Proofs.YtciidkmonfmipaaGreat
/- TakeTile: the model. -/

namespace Go.Proofs.YtciidkmonfmipaaGreat
open Go.RowKit
set_option linter.unusedSimpArgs false
set_option linter.unusedVariables false
set_option maxRecDepth 100000

theorem kC_m {A : Nat → Kp} {i : Nat} (h : kC A i = 0) : (A i).m = 64 := by
  have h1 := (kC_zero h).1
  have h2 := tC_zero h1
  have h3 : (rtL (A i).z (A i).x (A i).y (A i).fn (A i).F).length = 64 := by unfold rtL; rw [if_pos h2, rasK_len]
  by_cases e : (A i).m = 64
  · exact e
  · have := tC_state h2 (sameI_len (by rw [h3]; exact e))
    rw [h1] at this; cases this
/-- The places that stay where the tile of a ref goes. -/
theorem lesJ_less {n : Nat} {A : Nat → Kp} {z x y : Int} (h0 : ∀ j, j < n → kC A j = 0) (hat : 0 ≤ atK n A z x y) : lesJ (atK n A z x y) n = lessI n A z x y := by
  rcases atK_or n A z x y with h | ⟨i, hi, h, a1, a2, a3⟩
  · rw [h] at hat; omega
  rw [h]
  have hi1 : isK (A i) z x y = true := isK_iff.2 ⟨a1, a2, a3⟩
  have hno : ∀ k, k < n → k ≠ i → isK (A k) z x y = false := fun k hk hne => by
    cases e : isK (A k) z x y
    · rfl
    · obtain ⟨b1, b2, b3⟩ := isK_iff.1 e
      rcases Nat.lt_or_ge k i with hl | hl
      · exact absurd (atK_pos.2 ⟨k, hl, isK_iff.2 ⟨b1.trans a1.symm, b2.trans a2.symm, b3.trans a3.symm⟩⟩) (kC_zero (h0 i hi)).2
      · exact absurd (atK_pos.2 ⟨i, by omega, isK_iff.2 ⟨a1.trans b1.symm, a2.trans b2.symm, a3.trans b3.symm⟩⟩) (kC_zero (h0 k hk)).2
  have hall : ∀ k, k ≤ n → lesJ (i : Int) k = (List.range k).filter (fun j => !isK (A j) z x y) := by
    intro k
    induction k with
    | zero => intro _; rfl
    | succ k ih =>
      intro hk
      rw [lesJ, List.range_succ, List.filter_append, ih (by omega)]
      by_cases e : (k : Int) = (i : Int)
      · have e' : k = i := by omega
        rw [if_pos e, e']
        simp [hi1]
      · have e' : k ≠ i := by omega
        rw [if_neg e]
        simp [hno k (by omega) e']
  exact hall n (Nat.le_refl _)
end Go.Proofs.YtciidkmonfmipaaGreat
/- TouchTile: the model. -/

namespace Go.Proofs.YtciidkmonfmipaaGreat
open Go.RowKit
set_option linter.unusedSimpArgs false
set_option linter.unusedVariables false
set_option maxRecDepth 100000

theorem KsSm.congr {w : World} {a : Option Addr} {n : Nat} {K K' R : Nat → Kp} (h : KsSm w a n K R) (hs : ∀ i, i < n → K i = K' i) : KsSm w a n K' R :=
  h.imp id (fun ⟨g, e, h1, h2⟩ => ⟨g, e, h1, fun i hi => by rw [← hs i hi]; exact h2 i hi⟩)
theorem resTsT {T : Array Value} {Wf : World} {r : Nat} {c s : Int} {v : Value} (hT : T[4]?.getD undef = .pointer (some ⟨r, 0, none⟩)) (h0 : Wf.cell? ⟨r, 0, none⟩ = some (.int .i64 c)) (h1 : Wf.cell? ⟨r, 1, none⟩ = some (.int .i64 s)) (h2 : Wf.cell? ⟨r, 2, none⟩ = some v) :
    (results Tryz.f19 T).run Tryz.prog Wf = .ok (crcV c s v) Wf := by
  simp [results, Tryz.results19, go_sem, hT, h0, h1, h2]
set_option maxHeartbeats 8000000 in
theorem spec_TouchTile_any (s : Int) (b n cap : Nat) (A : Nat → Kp) (z x y : Int) (w : World) (ha : KoAt w b n A) (hs : SmallKs n A) :
    Calls Tryz.prog 19 #[caV s (.slice (some ⟨b, 0, none⟩) n cap), refV z x y] w fun e w' => (withC s n A z x y ≠ 0 → e = .returned (crcV (withC s n A z x y) 0 (.slice none 0 0))) ∧ (withC s n A z x y = 0 → ∃ a c R, e = .returned (crcV 0 s (.slice a (touI n A z x y).length c)) ∧ ∀ V, MidB 0 w.heap.size w' V → KsSm V a (touI n A z x y).length (fun j => A ((touI n A z x y).getD j 0)) R) ∧ Below w.heap.size w w' := by
  have HA : Hid (KoAt w b n A) := ha
  have HS : Hid (SmallKs n A) := hs
  have hn : n ≤ 1048576 := hs.1
  obtain ⟨WC, hWC⟩ : ∃ WC, withC s n A z x y = WC := ⟨_, rfl⟩
  have HWC : Hid (withC s n A z x y = WC) := hWC
  rw [hWC]
  obtain ⟨L, hL⟩ : ∃ L, touI n A z x y = L := ⟨_, rfl⟩
  rw [hL]
  have HLL : Hid (touI n A z x y = L) := hL
  clear ha hs hWC hL
  go_enter Tryz.func19, Tryz.ntmps19
  go_wp2_with fail
  generalize hW : (((w.alloc _).alloc _).alloc _ : World) = W
  have HB0 : Hid (Below w.heap.size w W) := by show Below _ _ _; subst hW; (repeat (first | exact Below.refl _ _ | assumption | refine Below.drew ?_ | refine bl_alloc ?_ _ | refine bl_then ?_ (by assumption) | refine Below.setCell ?_ (by first | omega | (simp; done) | (simp; omega)) _ | refine bl_store ?_ ?_ _ _))
  have HC : Hid (CaA W w.heap.size s (.slice (some ⟨b, 0, none⟩) n cap)) := by show CaA _ _ _ _; subst hW; exact ((CaA.new _ _ _ _).below (by (repeat (first | exact Below.refl _ _ | assumption | refine Below.drew ?_ | refine bl_alloc ?_ _ | refine bl_then ?_ (by assumption) | refine Below.setCell ?_ (by first | omega | (simp; done) | (simp; omega)) _ | refine bl_store ?_ ?_ _ _)))).below (by (repeat (first | exact Below.refl _ _ | assumption | refine Below.drew ?_ | refine bl_alloc ?_ _ | refine bl_then ?_ (by assumption) | refine Below.setCell ?_ (by first | omega | (simp; done) | (simp; omega)) _ | refine bl_store ?_ ?_ _ _)))
  have HR : Hid (RK W (w.heap.size + 1) z x y) := by show RK _ _ _ _ _; subst hW; refine ⟨?_, ?_, ?_⟩ <;> simp [go_sem]
  have HT : Hid (There W (w.heap.size + 2) 3) := by
    show There _ _ _
    subst hW
    have := there3r ((w.alloc (.cells #[.int .i64 s, .slice (some ⟨b, 0, none⟩) n cap] 34)).alloc (.cells #[.int .i64 z, .int .i64 x, .int .i64 y] 39)) (.int .i64 0) (.int .i64 0) (.slice none 0 0) 36
    simpa using this
  have hsz : w.heap.size + 2 < W.heap.size := by subst hW; simp
  clear hW
  refine (l11Fault_any w.heap.size s b n cap A W HC.out (HA.out.below HB0.out) HS.out).mono ?_
  rintro e w1 ⟨rfl, hb1⟩
  have HB1 : Hid (Below w.heap.size w w1) := bl_then HB0.out hb1
  have HC1 : Hid (CaA w1 w.heap.size s (.slice (some ⟨b, 0, none⟩) n cap)) := HC.out.below hb1
  have HR1 : Hid (RK w1 (w.heap.size + 1) z x y) := HR.out.below hb1
  have HT1 : Hid (There w1 (w.heap.size + 2) 3) := HT.out.below hb1
  have hs1 : W.heap.size ≤ w1.heap.size := hb1.size
  clear hb1 HC HR HT HB0
  by_cases h0 : cacheC s n A = 0
  case neg =>
    have HE : Hid (WC = cacheC s n A) := by show _ = _; rw [← HWC.out]; unfold withC; rw [if_neg h0]
    have hcb : (cacheC s n A == 0) = false := by simpa using h0
    have HN : Hid (cacheC s n A ≠ 0) := h0
    have hT' := HT1.out
    have t0 := hT'.cell 0 (by omega)
    have t1 := hT'.cell 1 (by omega)
    have t2 := hT'.cell 2 (by omega)
    have f0 := (hT' 0 (by omega)).2
    have f1 := (hT' 1 (by omega)).2
    have f2 := (hT' 2 (by omega)).2
    clear hT' h0 HWC
    generalize cacheC s n A = rc at *
    go_wp2_with fail
    obtain ⟨q0, q1, q2⟩ := set3_atq (a := .int .i64 rc) (b := .int .i64 0) (c := .slice none 0 0) HT1.out
    refine bodyPost_ret (resTsT rfl q0 q1 q2) rfl ⟨fun _ => by rw [HE.out], fun h => absurd (HE.out.symm.trans h) HN.out, ?_⟩
    exact ((HB1.out.setCell (leM _) _).setCell (leM _) _).setCell (leM _) _
  have hall := cacheC_zero h0
  have HWA : Hid (WC = if 0 ≤ atK n A z x y then 0 else 4) := by show _ = _; rw [← HWC.out]; unfold withC; rw [if_pos h0]
  have hn10 : n ≤ 10 := by
    unfold cacheC at h0
    split at h0
    · rename_i hin
      split at h0
      · cases h0
      · rename_i hsn
        simp [inB] at hin
        omega
    · cases h0
  have HAt : Hid (∀ W', Below w1.heap.size w1 W' → Calls Tryz.prog 41 #[.pointer (some ⟨w.heap.size, 0, none⟩), refV z x y] W' fun e w' => e = .returned (.int .i64 (atK n A z x y)) ∧ Below W'.heap.size W' w') := fun W' h => l11At_any w.heap.size s _ n cap A z x y W' (HC1.out.below h) (HA.out.is.below (bl_then HB1.out h)) hn
  have HLe : Hid (0 ≤ atK n A z x y → ∀ W', Below w1.heap.size w1 W' → Calls Tryz.prog 42 #[caV s (.slice (some ⟨b, 0, none⟩) n cap), .int .i64 (atK n A z x y)] W' fun e w' => ∃ a c R, e = .returned (caV s (.slice a L.length c)) ∧ (∀ W, GrF W'.heap.size none w' W → KsSm W a L.length (fun j => A (L.getD j 0)) R) ∧ Below W'.heap.size W' w') := fun hat W' h => by
    have hW := bl_then HB1.out h
    obtain ⟨i, hi, hq⟩ : ∃ i : Nat, i < n ∧ atK n A z x y = (i : Int) := by
      rcases atK_or n A z x y with h | ⟨i, hi, h, _⟩
      · rw [h] at hat; omega
      · exact ⟨i, hi, h⟩
    have := l11Touch_any s b n cap A i hi W' (HA.out.below hW) (fun i hi => SrcK_of (HA.out.below hW) HS.out hi (kC_zero (hall i hi)).1) (fun i hi => by rw [kC_m (hall i hi)]; omega) (by omega)
    have hJ : lesJ (i : Int) n = lessI n A z x y := by rw [← hq]; exact lesJ_less hall hat
    have hL : L = lessI n A z x y ++ [i] := by rw [← HLL.out]; unfold touI; rw [hq]; simp
    rw [hJ] at this
    rw [hq]
    refine this.mono ?_
    rintro e w' ⟨gr, c, R, rfl, h1, h2⟩
    have hl : L.length = (lessI n A z x y).length + 1 := by rw [hL]; simp
    refine ⟨_, c, R, by rw [hl], fun W hW => ?_, h2⟩
    rw [hl]
    refine (h1.ks (hW.wide (by omega))).congr (fun k hk => ?_)
    rw [hL]
    by_cases e : k = (lessI n A z x y).length
    · simp [e]
    · simp only [if_neg e, List.getD]
      rw [List.getElem?_append_left (by omega)]
  rw [h0]
  clear h0 hall HWC
  generalize atK n A z x y = AT at *
  obtain ⟨p0, p1, p2⟩ := HR1.out
  go_wp2_with fail
  refine Calls.mono (HAt.out _ (Below.refl _ _)) ?_
  rintro e w2 ⟨rfl, hb2⟩
  have HB2 : Hid (Below w1.heap.size w1 w2) := hb2
  have HT2 : Hid (There w2 (w.heap.size + 2) 3) := HT1.out.below hb2
  obtain ⟨c0, c1⟩ := HC1.out.below hb2
  clear hb2 HAt p0 p1 p2 HT1
  by_cases hat : 0 ≤ AT
  · have HE : Hid (WC = 0) := by show _ = _; rw [HWA.out, if_pos hat]
    have hnl : ¬ AT < 0 := by omega
    have HL := (show Hid _ from HLe.out hat w2 HB2.out)
    clear HLe HWA
    go_wp2_with fail
    refine Calls.mono HL.out ?_
    rintro e w3 ⟨a, c, R, rfl, hK, hb3⟩
    have HK : Hid (∀ W, GrF w2.heap.size none w3 W → KsSm W a L.length (fun j => A (L.getD j 0)) R) := hK
    have hs2 : W.heap.size ≤ w2.heap.size := Nat.le_trans hs1 HB2.out.size
    have HB3 : Hid (Below w.heap.size w w3) := bl_then HB1.out (bl_then HB2.out hb3)
    have hT' := HT2.out.below hb3
    have HT3 : Hid (There w3 (w.heap.size + 2) 3) := hT'
    have t0 := hT'.cell 0 (by omega)
    have t1 := hT'.cell 1 (by omega)
    have t2 := hT'.cell 2 (by omega)
    have f0 := (hT' 0 (by omega)).2
    have f1 := (hT' 1 (by omega)).2
    have f2 := (hT' 2 (by omega)).2
    clear hT' hK hb3 HL HT2 c0 c1
    go_wp2_with fail
    obtain ⟨q0, q1, q2⟩ := set3_atq (a := .int .i64 0) (b := .int .i64 s) (c := .slice a L.length c) HT3.out
    have hMM : MidB (w.heap.size + 2) (w.heap.size + 2 + 1) w3 (((w3.setCell ⟨w.heap.size + 2, 0, none⟩ (.int .i64 0)).setCell ⟨w.heap.size + 2, 1, none⟩ (.int .i64 s)).setCell ⟨w.heap.size + 2, 2, none⟩ (.slice a L.length c)) := (((MidB.refl _ _ _).set (Nat.le_refl _) (Nat.lt_succ_self _) _ _).set (Nat.le_refl _) (Nat.lt_succ_self _) _ _).set (Nat.le_refl _) (Nat.lt_succ_self _) _ _
    refine bodyPost_ret (resTsT rfl q0 q1 q2) rfl ⟨fun h => absurd HE.out h, fun _ => ⟨a, c, R, rfl, fun V hV => HK.out V ⟨hV.os.trans hMM.os, hV.tape.trans hMM.tape, hV.output.trans hMM.output, Nat.le_trans hMM.size hV.size, fun j h1 h2 _ => (hV.block j (Nat.lt_of_lt_of_le h2 hMM.size) (.inr (by omega))).trans (hMM.block j h2 (.inr (by omega)))⟩⟩, ?_⟩
    exact ((HB3.out.setCell (leM _) _).setCell (leM _) _).setCell (leM _) _
  · have HE : Hid (WC = 4) := by show _ = _; rw [HWA.out, if_neg hat]
    have hnl : AT < 0 := by omega
    have hT' := HT2.out
    have t0 := hT'.cell 0 (by omega)
    have t1 := hT'.cell 1 (by omega)
    have t2 := hT'.cell 2 (by omega)
    have f0 := (hT' 0 (by omega)).2
    have f1 := (hT' 1 (by omega)).2
    have f2 := (hT' 2 (by omega)).2
    have HB3 : Hid (Below w.heap.size w w2) := bl_then HB1.out HB2.out
    clear hT' HLe HWA
    go_wp2_with fail
    obtain ⟨q0, q1, q2⟩ := set3_atq (a := .int .i64 4) (b := .int .i64 0) (c := .slice none 0 0) HT2.out
    refine bodyPost_ret (resTsT rfl q0 q1 q2) rfl ⟨fun _ => by rw [HE.out], fun h => (by rw [HE.out] at h; cases h), ?_⟩
    exact ((HB3.out.setCell (leM _) _).setCell (leM _) _).setCell (leM _) _
end Go.Proofs.YtciidkmonfmipaaGreat
/- A block that holds an answer with a code and one thing more. -/

namespace Go.Proofs.YtciidkmonfmipaaGreat
open Go.RowKit
end Go.Proofs.YtciidkmonfmipaaGreat
/- Marks of an answer with features. -/

namespace Go.Proofs.YtciidkmonfmipaaGreat
open Go.RowKit
set_option linter.unusedSimpArgs false
set_option linter.unusedVariables false
set_option maxRecDepth 100000

/-- An answer whose blocks lie from lo to hi. -/
def OwnR (w : World) (lo hi : Nat) (a : Option Addr) (m : Nat) (N C : Nat → Nat) : Prop := m = 0 ∨ ∃ g q, a = some ⟨g, 0, none⟩ ∧ OwnQ w lo hi g m N C q
theorem OwnR.away {w w' : World} {lo hi lo' hi' m : Nat} {a : Option Addr} {N C : Nat → Nat} (h : OwnR w lo hi a m N C) (hm : MidB lo' hi' w w') (ho : hi' ≤ lo ∨ hi ≤ lo') : OwnR w' lo hi a m N C := by
  rcases h with h | ⟨g, q, e, hq⟩
  · exact .inl h
  · exact .inr ⟨g, q, e, hq.away hm ho⟩
theorem markFs_none (a : Option Addr) (cap : Nat) (k : Int) (w : World) :
    Calls Tryz.prog 39 #[.slice a 0 cap, .int .i64 k] w fun e w' => e = .returned (.int .i64 k) ∧ w = w' := by
  go_enter Tryz.func39, Tryz.ntmps39
  go_wp2_with fail
  go_loopw [1, 5] (fun kk i wr => kk = .int .i64 k ∧ i = .int .i64 0 ∧ w = wr) (fun _ _ _ => 0)
  case atStart => exact ⟨rfl, rfl, rfl⟩
  case round =>
    obtain ⟨rfl, rfl, rfl⟩ := hrel
    go_wp2
    go_ret
    exact ⟨rfl, rfl⟩
theorem heldFs_none (a : Option Addr) (cap : Nat) (k : Int) (w : World) :
    Calls Tryz.prog 110 #[.slice a 0 cap, .int .i64 k] w fun e w' => e = .returned (.int .i64 k) ∧ w = w' := by
  go_enter Tryz.func110, Tryz.ntmps110
  go_wp2_with fail
  go_loopw [1, 5] (fun kk i wr => kk = .int .i64 k ∧ i = .int .i64 0 ∧ w = wr) (fun _ _ _ => 0)
  case atStart => exact ⟨rfl, rfl, rfl⟩
  case round =>
    obtain ⟨rfl, rfl, rfl⟩ := hrel
    go_wp2
    go_ret
    exact ⟨rfl, rfl⟩
end Go.Proofs.YtciidkmonfmipaaGreat
