/- The law of LabelsText. -/
import Derived.Test.YtbijdoddalfedaaDoorLt2
namespace Go.Proofs.YtbijdoddalfedaaDoor
open Go.RowKit
set_option linter.unusedSimpArgs false
set_option linter.unusedVariables false
set_option maxRecDepth 100000

theorem eqTextL_same (c : Int) (T : ByteArray) (w : World) : Calls Tryd.prog 8 #[.agg #[.int .i64 c, .string T], .agg #[.int .i64 c, .string T]] w fun e w' => e = .returned (.bool true) ∧ Below w.heap.size w w' := by
  go_enter Tryd.func8, Tryd.ntmps8
  go_wp2
  go_ret
  exact ⟨rfl, by (repeat (first | exact Below.refl _ _ | assumption | refine Below.drew ?_ | refine bl_alloc ?_ _ | refine bl_then ?_ (by assumption) | refine Below.setCell ?_ (by first | omega | (simp; done) | (simp; omega)) _ | refine bl_store ?_ ?_ _ _))⟩
set_option maxHeartbeats 8000000 in
theorem FnExactLabelsText_walk (a : Option Addr) (n cap : Nat) (E : Nat → Plc) (w : World) (h : IsLb w a n E ∧ n ≤ cap ∧ cap ≤ maxLen) (ht : TabB w) :
    Calls Tryd.prog 3 #[.slice a n cap] w fun e w' => e = .returned (.bool true) ∧ Below w.heap.size w w' := by
  obtain ⟨hf, hc, hm⟩ := h
  have HI : Hid (IsLb w a n E) := hf
  have HM : Hid (n ≤ maxLen) := Nat.le_trans hc hm
  have HTb : Hid (TabB w) := ht
  clear hf hc hm ht
  by_cases hbig : 1048576 < n
  · go_enter Tryd.func3, Tryd.ntmps3
    go_wp2_with (go_at_call 4; refine (szPlacedS_no a n cap 1048576 _ (by omega) hbig HM.out).mono ?_; rintro e w' ⟨rfl, hb⟩)
    go_ret
    exact ⟨rfl, by (repeat (first | exact Below.refl _ _ | assumption | refine Below.drew ?_ | refine bl_alloc ?_ _ | refine bl_then ?_ (by assumption) | refine Below.setCell ?_ (by first | omega | (simp; done) | (simp; omega)) _ | refine bl_store ?_ ?_ _ _))⟩
  have hn : n ≤ 1048576 := by omega
  have hneg : ¬ (1048576 : Int) - (n : Int) < 0 := by omega
  clear hbig
  have HS : Hid (∀ (b : Nat) (W : World), LbAt W b 0 n E → b < W.heap.size → Calls Tryd.prog 5 #[.slice (some ⟨b, 0, none⟩) n n] W fun e w' => e = .returned (.agg #[.int .i64 (lblC n E), .string (lblT n E)]) ∧ Below W.heap.size W w') := fun b W hp hb => spec_LabelsText_any _ n n E W (.inr ⟨b, 0, rfl, hb, hp⟩) hn
  have HIm : Hid (∀ (b : Nat) (W : World), LbAt W b 0 n E → b < W.heap.size → Below w.heap.size w W → Calls Tryd.prog 7 #[.slice (some ⟨b, 0, none⟩) n n] W fun e w' => e = .returned (.agg #[.int .i64 (lblC n E), .string (lblT n E)]) ∧ Below W.heap.size W w') := fun b W hp hb hB => impl_LabelsText_any _ n n E W (.inr ⟨b, 0, rfl, hb, hp⟩) hn (HTb.out.below hB)
  generalize lblC n E = C at *
  generalize lblT n E = TT at *
  go_enter Tryd.func3, Tryd.ntmps3
  go_wp2_with fail
  refine (szPlacedS_ok a n cap 1048576 w (by omega) hn).mono ?_
  rintro e w1 ⟨rfl, hB1⟩
  go_wp2_with fail
  refine (toPlacedS_any a n cap E _ (HI.out.below hB1) hn).mono ?_
  rintro e w2 ⟨b2, rfl, hle2, hlt2, hE2, _, hb2⟩
  have HE2 : Hid (LbAt w2 b2 0 n E) := hE2
  have HB2 : Hid (Below w.heap.size w w2) := bl_then hB1 hb2
  clear hE2 hb2 hB1
  go_wp2_with fail
  refine Calls.mono (HS.out b2 w2 HE2.out hlt2) ?_
  rintro e w3 ⟨rfl, hb3⟩
  have HB3 : Hid (Below w.heap.size w w3) := bl_then HB2.out hb3
  clear hb3 HB2 HE2 HS
  go_wp2_with fail
  generalize hV : (w3.alloc _ : World) = V
  have HBV : Hid (Below w.heap.size w V) := by show Below _ _ _; subst hV; exact bl_alloc HB3.out _
  have HV : Hid (∀ W', Below V.heap.size V W' → W'.cell? ⟨w3.heap.size, 0, none⟩ = some (.int .i64 C) ∧ W'.cell? ⟨w3.heap.size, 1, none⟩ = some (.string TT)) := fun W' h => by
    rw [h.cell (by subst hV; simp), h.cell (by subst hV; simp)]
    subst hV
    simp [go_sem]
  clear hV HB3
  generalize w3.heap.size = pv at *
  refine (toPlacedS_any a n cap E _ (HI.out.below HBV.out) hn).mono ?_
  rintro e w4 ⟨b4, rfl, hle4, hlt4, hE4, _, hb4⟩
  have HE4 : Hid (LbAt w4 b4 0 n E) := hE4
  have HB4 : Hid (Below V.heap.size V w4) := hb4
  clear hE4 hb4
  go_wp2_with fail
  refine Calls.mono (HIm.out b4 w4 HE4.out hlt4 (bl_then HBV.out HB4.out)) ?_
  rintro e w5 ⟨rfl, hb5⟩
  have HB5 : Hid (Below V.heap.size V w5) := bl_then HB4.out hb5
  have HE5 : Hid (LbAt w5 b4 0 n E) := HE4.out.below hb5 hlt4
  have hlt5 : b4 < w5.heap.size := Nat.lt_of_lt_of_le hlt4 hb5.size
  obtain ⟨v0, v1⟩ := HV.out w5 HB5.out
  have x0 : ∀ o, (w5.alloc o).cell? ⟨pv, 0, none⟩ = some (.int .i64 C) := fun o => by
    have hl : pv < w5.heap.size := World.block_lt_of_cell? _ _ v0
    rw [World.cell?_alloc_lt _ _ _ hl]; exact v0
  have x1 : ∀ o, (w5.alloc o).cell? ⟨pv, 1, none⟩ = some (.string TT) := fun o => by
    have hl : pv < w5.heap.size := World.block_lt_of_cell? _ _ v0
    rw [World.cell?_alloc_lt _ _ _ hl]; exact v1
  clear hb5 HIm HE4 HB4 HV v0 v1
  go_wp2_with fail
  refine (eqTextL_same _ _ _).mono ?_
  rintro e w6 ⟨rfl, hb6⟩
  have HX : Hid (Below w5.heap.size w5 w6) := bl_then (bl_alloc (Below.refl _ _) _) hb6
  have HB6 : Hid (Below w.heap.size w w6) := bl_then HBV.out (bl_then HB5.out HX.out)
  have HE6 : Hid (LbAt w6 b4 0 n E) := HE5.out.below HX.out hlt5
  have hlt6 : b4 < w6.heap.size := Nat.lt_of_lt_of_le hlt5 HX.out.size
  clear hb6 x0 x1 HE5 HX HB5 HBV
  go_wp2_with fail
  refine (toPlacedS_any a n cap E _ (HI.out.below HB6.out) hn).mono ?_
  rintro e w7 ⟨b7, rfl, hle7, hlt7, hE7, _, hb7⟩
  have HB7 : Hid (Below w.heap.size w w7) := bl_then HB6.out hb7
  have hq1 : IsLb w7 (some ⟨b4, 0, none⟩) n E := .inr ⟨b4, 0, rfl, Nat.lt_of_lt_of_le hlt6 hb7.size, HE6.out.below hb7 hlt6⟩
  have hq2 : IsLb w7 (some ⟨b7, 0, none⟩) n E := .inr ⟨b7, 0, rfl, hlt7, hE7⟩
  have HEq := (show Hid _ from eqPlacedS_any _ _ n n n E w7 hq1 hq2 hn)
  clear hE7 hb7 hq1 hq2 HE6 HB6
  go_wp2_with fail
  refine Calls.mono HEq.out ?_
  rintro e w8 ⟨rfl, hb8⟩
  go_wp2
  go_ret
  exact ⟨rfl, bl_then HB7.out hb8⟩
end Go.Proofs.YtbijdoddalfedaaDoor
