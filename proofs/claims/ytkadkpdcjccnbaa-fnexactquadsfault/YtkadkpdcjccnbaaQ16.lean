/- The law of QuadsFault returns true at every list of quads. -/
import Derived.Test.YtkadkpdcjccnbaaQ15
namespace Go.Proofs.Ytkadkpdcjccnbaa
open Go.RowKit Go.Shelf
set_option linter.unusedSimpArgs false
set_option linter.unusedVariables false
set_option maxRecDepth 100000

set_option maxHeartbeats 4000000 in
theorem FnExactQuadsFault_walk (a : Option Addr) (n cap : Nat) (Q : Nat → Qd) (w : World) (h : IsQs w a n Q ∧ CameQs n Q) :
    Calls Try.prog 5 #[.slice a n cap] w fun e w' => e = .returned (.bool true) ∧ Below w.heap.size w w' := by
  obtain ⟨hI, hC⟩ := h
  have HI : Hid (IsQs w a n Q) := hI
  have HZ : Hid (Calls Try.prog 29 #[.slice a n cap, .int .i64 1048576] w fun e w' => (e = .returned (.int .i64 (-1)) ∨ ∃ m : Nat, SmallQs n Q ∧ e = .returned (.int .i64 m)) ∧ Below w.heap.size w w') := szQuadS_any a n cap Q w hI hC
  clear hI hC
  go_enter Try.func5, Try.ntmps5
  go_wp2_with fail
  refine Calls.mono HZ.out ?_
  rintro e w0 ⟨rfl | ⟨m, hS, rfl⟩, hb0⟩
  · go_wp2
    go_ret
    exact ⟨rfl, hb0⟩
  · obtain ⟨hn, hen, hall⟩ := hS
    have HE : Hid (∀ i, i < n → (Q i).en ≤ 1048576) := hen
    have HA : Hid ((allE Q n).length ≤ 1048576) := hall
    have hm : ¬ (m : Int) < 0 := by omega
    have HB0 : Hid (Below w.heap.size w w0) := hb0
    clear hen hall hb0 HZ
    go_wp2_with fail
    refine (toQuadS_any a n cap Q _ (HI.out.below HB0.out) hn HE.out).mono ?_
    rintro e w1 ⟨b1, A1, rfl, hO1, _, hb1⟩
    have HO1 : Hid (OwnQs w1 w0.heap.size b1 n Q A1) := hO1
    have HB1 : Hid (Below w.heap.size w w1) := bl_then HB0.out hb1
    clear hO1 hb1 HB0
    have HS1 : Hid (Calls Try.prog 30 #[.slice (some ⟨b1, 0, none⟩) n n] w1 fun e w' => e = .returned (.int .i64 (quadsC Q n)) ∧ Below w1.heap.size w1 w') := quadsC_re Q A1 n ▸ spec_QuadsFault_any b1 0 n n (reQ Q A1) w1 HO1.out.qs hn HO1.out.es HE.out HA.out
    go_wp2_with fail
    refine Calls.mono HS1.out ?_
    rintro e w2 ⟨rfl, hb2⟩
    have HB2 : Hid (Below w.heap.size w w2) := bl_then HB1.out hb2
    clear HB1 hb2 HO1 HS1
    go_wp2_with fail
    refine (toQuadS_any a n cap Q _ (HI.out.below HB2.out) hn HE.out).mono ?_
    rintro e w3 ⟨b3, A3, rfl, hO3, _, hb3⟩
    have HO3 : Hid (OwnQs w3 w2.heap.size b3 n Q A3) := hO3
    have HB3 : Hid (Below w.heap.size w w3) := bl_then HB2.out hb3
    clear hO3 hb3 HB2
    have HS3 : Hid (Calls Try.prog 32 #[.slice (some ⟨b3, 0, none⟩) n n] w3 fun e w' => e = .returned (.int .i64 (quadsC Q n)) ∧ Below w3.heap.size w3 w') := quadsC_re Q A3 n ▸ impl_QuadsFault_any b3 0 n n (reQ Q A3) w3 HO3.out.qs hn (Nat.le_refl _) HE.out HA.out
    generalize quadsC Q n = c at *
    go_wp2_with fail
    refine Calls.mono HS3.out ?_
    rintro e w4 ⟨rfl, hb4⟩
    have HO4 : Hid (OwnQs w4 w2.heap.size b3 n Q A3) := HO3.out.below hb4
    have HB4 : Hid (Below w.heap.size w w4) := bl_then HB3.out hb4
    clear HO3 HB3 hb4 HS3
    go_wp2_with fail
    refine (toQuadS_any a n cap Q _ (HI.out.below HB4.out) hn HE.out).mono ?_
    rintro e w5 ⟨b5, A5, rfl, hO5, _, hb5⟩
    have HO5 : Hid (OwnQs w5 w4.heap.size b5 n Q A5) := hO5
    have HP5 : Hid (OwnQs w5 w2.heap.size b3 n Q A3) := HO4.out.below hb5
    have HB5 : Hid (Below w.heap.size w w5) := bl_then HB4.out hb5
    clear hO5 hb5 HO4 HB4
    go_wp2_with fail
    refine (eqQuadS_any b3 b5 n _ _ Q A3 A5 _ HP5.out HO5.out hn HE.out).mono ?_
    rintro e w6 ⟨rfl, hb6⟩
    have HB6 : Hid (Below w.heap.size w w6) := bl_then HB5.out hb6
    clear hb6 HB5
    go_wp2
    go_ret
    exact ⟨rfl, HB6.out⟩
end Go.Proofs.Ytkadkpdcjccnbaa
