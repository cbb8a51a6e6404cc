/- The law of SameFeatures returns true at every two lists. -/
import Derived.Test.YtlkjdbigpjpgeacSm4
import Derived.Test.YtlkjdbigpjpgeacFl4
namespace Go.Proofs.Ytlkjdbigpjpgeac
open Go.RowKit
set_option linter.unusedSimpArgs false
set_option linter.unusedVariables false
set_option maxRecDepth 100000

theorem OwnFs.sameL {w v : World} {B b n C d m : Nat} {F G E H : Nat → Feat} (h : OwnFs w B b n F G) (h' : OwnFs v C d m E H) : sameL n G m H = Go.Proofs.Ytlkjdbigpjpgeac.sameL n F m E :=
  sameL_same (fun j hj => (h.2.2.2 j hj).1) (fun j hj => (h'.2.2.2 j hj).1)

set_option maxHeartbeats 8000000 in
theorem FnExactSameFeatures_walk (a : Option Addr) (n cap : Nat) (F : Nat → Feat) (a' : Option Addr) (m cap' : Nat) (E : Nat → Feat) (w : World) (h : IsFs w a n F ∧ CameFs n F) (h' : IsFs w a' m E ∧ CameFs m E) :
    Calls Try.prog 6 #[.slice a n cap, .slice a' m cap'] w fun e w' => e = .returned (.bool true) ∧ Below w.heap.size w w' := by
  have HI : Hid (IsFs w a n F) := h.1
  have HC : Hid (CameFs n F) := h.2
  have HJ : Hid (IsFs w a' m E) := h'.1
  have HD : Hid (CameFs m E) := h'.2
  clear h h'
  go_enter Try.func6, Try.ntmps6
  go_wp2_with fail
  refine (szFeatureS_any a n cap F 1048576 w (by omega) HI.out HC.out).mono ?_
  rintro e w1 ⟨rfl | ⟨l1, hl1, hS, rfl⟩, hb1⟩
  · go_wp2
    go_ret
    exact ⟨rfl, hb1⟩
  have HS : Hid (SmallFs n F) := hS
  have hall : Hid (∀ i, i < n → (F i).n ≤ 1048576) := fun i hi => (hS.2 i hi).1
  have hn := hS.1
  have hneg : ¬ ((l1 : Nat) : Int) < 0 := by omega
  have hB1 : Below w.heap.size w w1 := hb1
  clear hb1 hS
  go_wp2_with fail
  refine (szFeatureS_any a' m cap' E l1 w1 hl1 (HJ.out.below hB1) HD.out).mono ?_
  rintro e w2 ⟨rfl | ⟨l2, hl2, hS2, rfl⟩, hb2⟩
  · go_wp2
    go_ret
    exact ⟨rfl, bl_then hB1 hb2⟩
  have HS2 : Hid (SmallFs m E) := hS2
  have hall2 : Hid (∀ i, i < m → (E i).n ≤ 1048576) := fun i hi => (hS2.2 i hi).1
  have hm := hS2.1
  have hneg2 : ¬ ((l2 : Nat) : Int) < 0 := by omega
  have hB2 : Below w.heap.size w w2 := bl_then hB1 hb2
  clear hb2 hS2 hB1
  go_wp2_with fail
  refine (toFeatureS_any a n cap F _ (HI.out.below hB2) hn hall.out).mono ?_
  rintro e w3 ⟨b3, G3, rfl, hO3, hb3⟩
  have HO3 : Hid (OwnFs w3 w2.heap.size b3 n F G3) := hO3
  have hB3 : Below w.heap.size w w3 := bl_then hB2 hb3
  clear hO3 hb3 hB2
  go_wp2_with fail
  refine (toFeatureS_any a' m cap' E _ (HJ.out.below hB3) hm hall2.out).mono ?_
  rintro e w4 ⟨b4, G4, rfl, hO4, hb4⟩
  have HO4 : Hid (OwnFs w4 w3.heap.size b4 m E G4) := hO4
  have HO3' : Hid (OwnFs w4 w2.heap.size b3 n F G3) := HO3.out.below hb4
  have hB4 : Below w.heap.size w w4 := bl_then hB3 hb4
  clear hO4 hb4 hB3 HO3
  go_wp2_with fail
  refine (spec_SameFeatures_any b3 b4 n m n m G3 G4 _ HO3'.out.2.2.1 HO4.out.2.2.1 HO3'.out.2.1 HO4.out.2.1 HO3'.out.pts0 HO4.out.pts0 (HO3'.out.small HS.out) (HO4.out.small HS2.out)).mono ?_
  rintro e w5 ⟨rfl, hb5⟩
  rw [HO3'.out.sameL HO4.out]
  have hB5 : Below w.heap.size w w5 := bl_then hB4 hb5
  clear hb5 hB4 HO3' HO4
  go_wp2_with fail
  refine (toFeatureS_any a n cap F _ (HI.out.below hB5) hn hall.out).mono ?_
  rintro e w6 ⟨b6, G6, rfl, hO6, hb6⟩
  have HO6 : Hid (OwnFs w6 w5.heap.size b6 n F G6) := hO6
  have hB6 : Below w.heap.size w w6 := bl_then hB5 hb6
  clear hO6 hb6 hB5
  go_wp2_with fail
  refine (toFeatureS_any a' m cap' E _ (HJ.out.below hB6) hm hall2.out).mono ?_
  rintro e w7 ⟨b7, G7, rfl, hO7, hb7⟩
  have HO7 : Hid (OwnFs w7 w6.heap.size b7 m E G7) := hO7
  have HO6' : Hid (OwnFs w7 w5.heap.size b6 n F G6) := HO6.out.below hb7
  have hB7 : Below w.heap.size w w7 := bl_then hB6 hb7
  clear hO7 hb7 hB6 HO6
  go_wp2_with fail
  refine (impl_SameFeatures_any b6 b7 n m n m G6 G7 _ HO6'.out.2.2.1 HO7.out.2.2.1 HO6'.out.2.1 HO7.out.2.1 HO6'.out.pts0 HO7.out.pts0 (HO6'.out.small HS.out) (HO7.out.small HS2.out)).mono ?_
  rintro e w8 ⟨rfl, hb8⟩
  rw [HO6'.out.sameL HO7.out]
  have HO8 : Hid (OwnFs w8 w5.heap.size b6 n F G6) := HO6'.out.below hb8
  have HO9 : Hid (OwnFs w8 w6.heap.size b7 m E G7) := HO7.out.below hb8
  have hB8 : Below w.heap.size w w8 := bl_then hB7 hb8
  clear hb8 hB7 HO6' HO7
  generalize sameL n F m E = R
  go_wp2_with fail
  refine (toFeatureS_any a n cap F _ (HI.out.below hB8) hn hall.out).mono ?_
  rintro e w9 ⟨b9, G9, rfl, hO9, hb9⟩
  have K9 : Hid (OwnFs w9 w8.heap.size b9 n F G9) := hO9
  have K8 : Hid (OwnFs w9 w5.heap.size b6 n F G6) := HO8.out.below hb9
  have K7 : Hid (OwnFs w9 w6.heap.size b7 m E G7) := HO9.out.below hb9
  have hB9 : Below w.heap.size w w9 := bl_then hB8 hb9
  clear hO9 hb9 hB8 HO8 HO9
  go_wp2_with fail
  refine (eqFeatureS_any b6 b9 n _ _ F G6 G9 _ K8.out K9.out HS.out).mono ?_
  rintro e u1 ⟨rfl, hbu⟩
  have K7' : Hid (OwnFs u1 w6.heap.size b7 m E G7) := K7.out.below hbu
  have hBu : Below w.heap.size w u1 := bl_then hB9 hbu
  clear hbu hB9 K7 K8 K9
  go_wp2_with fail
  refine (toFeatureS_any a' m cap' E _ (HJ.out.below hBu) hm hall2.out).mono ?_
  rintro e u2 ⟨c2, J2, rfl, hO2, hbu2⟩
  have M2 : Hid (OwnFs u2 u1.heap.size c2 m E J2) := hO2
  have M1 : Hid (OwnFs u2 w6.heap.size b7 m E G7) := K7'.out.below hbu2
  have hBu2 : Below w.heap.size w u2 := bl_then hBu hbu2
  clear hO2 hbu2 hBu K7'
  go_wp2_with fail
  refine (eqFeatureS_any b7 c2 m _ _ E G7 J2 _ M1.out M2.out HS2.out).mono ?_
  rintro e u3 ⟨rfl, hbu3⟩
  have HB3 : Hid (Below w.heap.size w u3) := bl_then hBu2 hbu3
  clear hbu3 hBu2 M1 M2
  go_wp2
  go_ret
  exact ⟨rfl, HB3.out⟩
end Go.Proofs.Ytlkjdbigpjpgeac
