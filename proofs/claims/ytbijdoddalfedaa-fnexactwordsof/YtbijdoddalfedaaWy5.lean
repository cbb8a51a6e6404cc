/- The law of WordsOf returns true at every line. -/
import Derived.Test.YtbijdoddalfedaaWy4
namespace Go.Proofs.Ytbijdoddalfedaa
open Go.RowKit
set_option linter.unusedSimpArgs false
set_option linter.unusedVariables false
set_option maxRecDepth 100000

theorem eqWords_any (v v' : Value) (L : List ByteArray) (w : World) (h1 : IsSt w v L) (h2 : IsSt w v' L) (hl : L.length ≤ 4194304) :
    Calls Try.prog 6 #[.agg #[.int .i64 0, v], .agg #[.int .i64 0, v']] w fun e w' => e = .returned (.bool true) ∧ Below w.heap.size w w' := by
  have HA : Hid (IsSt w v L) := h1
  have HB : Hid (IsSt w v' L) := h2
  obtain ⟨va, vc, hv, _⟩ := h1
  obtain ⟨ua, uc, hu, _⟩ := h2
  subst hv hu
  go_enter Try.func6, Try.ntmps6
  go_wp2_with fail
  generalize hW : (World.alloc (World.alloc w _) _ : World) = W
  have hB0 : Below w.heap.size w W := by subst hW; (repeat (first | exact Below.refl _ _ | assumption | refine Below.drew ?_ | refine bl_alloc ?_ _ | refine bl_then ?_ (by assumption) | refine Below.setCell ?_ (by first | omega | (simp; done) | (simp; omega)) _ | refine bl_store ?_ ?_ _ _))
  have HE := (show Hid _ from eqStringS_any _ _ L W (HA.out.below hB0) (HB.out.below hB0) hl)
  refine Calls.mono HE.out ?_
  rintro e w1 ⟨rfl, hb⟩
  go_wp2
  go_ret
  exact ⟨rfl, bl_then hB0 hb⟩
theorem markWords_any (base k : Nat) (v : Value) (L : List ByteArray) (w : World) (hR : RowB base w v L) (hb : base ≤ w.heap.size) (hk : 0 < k) (hl : k + L.length ≤ 4194304) :
    Calls Try.prog 7 #[.agg #[.int .i64 0, v], .int .i64 (k : Int)] w fun e w' => e = .returned (.int .i64 ((k + L.length : Nat) : Int)) ∧ RowB base w' v (mkL k L.length) ∧ Below base w w' ∧ ∀ j, j < w.heap.size → v.ownBlock ≠ some j → w'.heap[j]? = w.heap[j]? := by
  have HR : Hid (RowB base w v L) := hR
  obtain ⟨va, vc, hv, _⟩ := hR.is
  subst hv
  clear hR
  go_enter Try.func7, Try.ntmps7
  go_wp2_with fail
  generalize hW : (World.alloc w _ : World) = W
  have hB0 : Below w.heap.size w W := by subst hW; (repeat (first | exact Below.refl _ _ | assumption | refine Below.drew ?_ | refine bl_alloc ?_ _ | refine bl_then ?_ (by assumption) | refine Below.setCell ?_ (by first | omega | (simp; done) | (simp; omega)) _ | refine bl_store ?_ ?_ _ _))
  have hs0 := hB0.size
  have HM := (show Hid _ from markStringS_any base k _ L W (rowB_but HR.out hB0) (by omega) hk hl)
  refine Calls.mono HM.out ?_
  rintro e w1 ⟨rfl, hr1, hb1, ho1⟩
  have HR1 := (show Hid _ from hr1)
  have HB1 := (show Hid _ from hb1)
  have HO1 := (show Hid _ from ho1)
  clear hr1 hb1 ho1 HM hW
  go_wp2
  go_ret
  exact ⟨rfl, HR1.out, (hB0.mono hb).trans HB1.out, fun j h1 h2 => (HO1.out j (by omega) h2).trans (hB0.block j h1)⟩
theorem heldWords_any (k n : Nat) (v : Value) (w : World) (hR : IsSt w v (mkL k n)) (hk : 0 < k) (hl : k + n ≤ 4194304) :
    Calls Try.prog 8 #[.agg #[.int .i64 0, v], .int .i64 (k : Int)] w fun e w' => e = .returned (.int .i64 ((k + n : Nat) : Int)) ∧ Below w.heap.size w w' := by
  have HR : Hid (IsSt w v (mkL k n)) := hR
  obtain ⟨va, vc, hv, _⟩ := hR
  rw [mkL_len] at hv
  subst hv
  have hneg : ¬ (((k + n : Nat) : Int)) < 0 := by omega
  have hneg2 : ¬ ((k : Int) + (n : Int)) < 0 := by omega
  go_enter Try.func8, Try.ntmps8
  go_wp2_with fail
  generalize hW : (World.alloc w _ : World) = W
  have hB0 : Below w.heap.size w W := by subst hW; (repeat (first | exact Below.refl _ _ | assumption | refine Below.drew ?_ | refine bl_alloc ?_ _ | refine bl_then ?_ (by assumption) | refine Below.setCell ?_ (by first | omega | (simp; done) | (simp; omega)) _ | refine bl_store ?_ ?_ _ _))
  have HM := (show Hid _ from heldStringS_any k n _ W (HR.out.below hB0) hk hl)
  refine Calls.mono HM.out ?_
  rintro e w1 ⟨rfl, hb1⟩
  clear hW HM
  go_wp2
  go_ret
  exact ⟨rfl, bl_then hB0 hb1⟩
set_option maxHeartbeats 16000000 in
theorem FnExactWordsOf_walk (s : ByteArray) (w : World) (h : s.size ≤ maxLen) :
    Calls Try.prog 3 #[.string s] w fun e w' => e = .returned (.bool true) ∧ Below w.heap.size w w' := by
  by_cases hbig : 1048576 < s.size
  · have hbi : (1048576 : Int) < (s.size : Int) := by omega
    go_enter Try.func3, Try.ntmps3
    go_wp2
    go_ret
    exact ⟨rfl, Below.refl _ _⟩
  have hs : s.size ≤ 1048576 := by omega
  have hbi : ¬ (1048576 : Int) < (s.size : Int) := by omega
  have hll := wdsB_len s
  have HS : Hid (∀ W, Calls Try.prog 4 #[.string s] W fun e w' => ∃ v, e = .returned (.agg #[.int .i64 0, v]) ∧ RowB W.heap.size w' v (wdsB s) ∧ Below W.heap.size W w') := fun W => spec_WordsOf_any s W hs
  have HI : Hid (∀ W, Calls Try.prog 5 #[.string s] W fun e w' => ∃ v, e = .returned (.agg #[.int .i64 0, v]) ∧ RowB W.heap.size w' v (wdsB s) ∧ Below W.heap.size W w') := fun W => impl_WordsOf_any s W hs
  generalize wdsB s = L at *
  have hl4 : L.length ≤ 4194304 := by omega
  go_enter Try.func3, Try.ntmps3
  go_wp2_with fail
  refine Calls.mono (HS.out w) ?_
  rintro e w1 ⟨v1, rfl, hr1, hb1⟩
  obtain ⟨a1, c1, hv1, _⟩ := hr1.is
  subst hv1
  have HR1 : Hid (RowB w.heap.size w1 (.slice a1 L.length c1) L) := hr1
  have HB1 : Hid (Below w.heap.size w w1) := hb1
  clear hr1 hb1 HS
  go_wp2_with fail
  generalize hV : (World.alloc w1 _ : World) = V
  have hbV : Below w1.heap.size w1 V := by subst hV; (repeat (first | exact Below.refl _ _ | assumption | refine Below.drew ?_ | refine bl_alloc ?_ _ | refine bl_then ?_ (by assumption) | refine Below.setCell ?_ (by first | omega | (simp; done) | (simp; omega)) _ | refine bl_store ?_ ?_ _ _))
  have hzV : V.heap.size = w1.heap.size + 1 := by subst hV; simp
  have HP : Hid (∀ W' : World, W'.heap[w1.heap.size]? = V.heap[w1.heap.size]? → W'.cell? ⟨w1.heap.size, 0, none⟩ = some (.int .i64 0) ∧ W'.cell? ⟨w1.heap.size, 1, none⟩ = some (.slice a1 L.length c1)) := fun W' h => by
    rw [World.cell?_of_block (a := ⟨w1.heap.size, 0, none⟩) h, World.cell?_of_block (a := ⟨w1.heap.size, 1, none⟩) h]
    subst hV
    simp [go_sem]
  have HI1 : Hid (IsSt V (.slice a1 L.length c1) L) := (rowB_but HR1.out hbV).is
  have HBV : Hid (Below w.heap.size w V) := bl_then HB1.out hbV
  clear hV hbV HR1 HB1
  generalize w1.heap.size = p1 at *
  refine Calls.mono (HI.out V) ?_
  rintro e w2 ⟨v2, rfl, hr2, hb2⟩
  obtain ⟨a2, c2, hv2, _⟩ := hr2.is
  subst hv2
  have HR2 : Hid (RowB V.heap.size w2 (.slice a2 L.length c2) L) := hr2
  have HB2 : Hid (Below V.heap.size V w2) := hb2
  have hs2 := hb2.size
  have HOl : Hid (∀ g, (Value.slice a2 L.length c2).ownBlock = some g → V.heap.size ≤ g ∧ g < w2.heap.size) := fun g hg => World.ownsRow.lt hr2 g hg
  clear hr2 hb2
  go_upto_region 5 with fail
  generalize hU : (World.alloc w2 _ : World) = U
  have hbU : Below w2.heap.size w2 U := by subst hU; (repeat (first | exact Below.refl _ _ | assumption | refine Below.drew ?_ | refine bl_alloc ?_ _ | refine bl_then ?_ (by assumption) | refine Below.setCell ?_ (by first | omega | (simp; done) | (simp; omega)) _ | refine bl_store ?_ ?_ _ _))
  have hzU : U.heap.size = w2.heap.size + 1 := by subst hU; simp
  have HQ : Hid (∀ W' : World, W'.heap[w2.heap.size]? = U.heap[w2.heap.size]? → W'.cell? ⟨w2.heap.size, 0, none⟩ = some (.int .i64 0) ∧ W'.cell? ⟨w2.heap.size, 1, none⟩ = some (.slice a2 L.length c2)) := fun W' h => by
    rw [World.cell?_of_block (a := ⟨w2.heap.size, 0, none⟩) h, World.cell?_of_block (a := ⟨w2.heap.size, 1, none⟩) h]
    subst hU
    simp [go_sem]
  have HRU : Hid (RowB V.heap.size U (.slice a2 L.length c2) L) := rowB_but HR2.out hbU
  have HBU : Hid (Below V.heap.size V U) := bl_then HB2.out hbU
  clear hU hbU HR2 HB2
  obtain ⟨q0, q1⟩ := HQ.out U rfl
  obtain ⟨p0, p1'⟩ := HP.out U (HBU.out.block _ (by omega))
  generalize hp2 : w2.heap.size = p2 at *
  go_wp2_with fail
  refine (eqWords_any _ _ L U HRU.out.is (HI1.out.below HBU.out) hl4).mono ?_
  rintro e w3 ⟨rfl, hb3⟩
  have HR3 : Hid (RowB V.heap.size w3 (.slice a2 L.length c2) L) := rowB_but HRU.out hb3
  have HB3 : Hid (Below V.heap.size V w3) := bl_then HBU.out hb3
  have HU3 : Hid (Below U.heap.size U w3) := hb3
  have hs3 := hb3.size
  obtain ⟨r0, r1⟩ := HQ.out w3 (hb3.block _ (by omega))
  clear hb3 HRU HBU q0 q1 p0 p1'
  have hm1 : ((1 : Nat) : Int) = 1 := rfl
  have HMk := (show Hid _ from markWords_any V.heap.size 1 _ L w3 HR3.out (by omega) (by omega) (by omega))
  go_wp2_with fail
  refine Calls.mono HMk.out ?_
  rintro e w4 ⟨rfl, hr4, hb4, ho4⟩
  have HR4 : Hid (RowB V.heap.size w4 (.slice a2 L.length c2) (mkL 1 L.length)) := hr4
  have HB4 : Hid (Below V.heap.size V w4) := HB3.out.trans hb4
  have hs4 := hb4.size
  have HQ4 : Hid (w4.heap[p2]? = U.heap[p2]?) := (ho4 p2 (by omega) (fun e => by have := HOl.out p2 e; omega)).trans (HU3.out.block _ (by omega))
  obtain ⟨t0, t1⟩ := HQ.out w4 HQ4.out
  clear hr4 hb4 ho4 HR3 HB3 HU3 HMk r0 r1
  have HHd := (show Hid _ from fun W (h : Below w4.heap.size w4 W) => heldWords_any 1 L.length _ W (HR4.out.is.below h) (by omega) (by omega))
  go_wp2_with fail
  refine Calls.mono (HHd.out w4 (Below.refl _ _)) ?_
  rintro e w5 ⟨rfl, hb5⟩
  have HB5 : Hid (Below w4.heap.size w4 w5) := hb5
  have hs5 := hb5.size
  have hneg : ¬ (((1 + L.length : Nat) : Int)) < 0 := by omega
  have hneg2 : ¬ ((1 : Int) + (L.length : Int)) < 0 := by omega
  clear hb5 t0 t1
  go_wp2_with fail
  refine Calls.mono (HI.out w5) ?_
  rintro e w6 ⟨v6, rfl, hr6, hb6⟩
  obtain ⟨a6, c6, hv6, _⟩ := hr6.is
  subst hv6
  have HR6 : Hid (RowB w5.heap.size w6 (.slice a6 L.length c6) L) := hr6
  have HB6 : Hid (Below w4.heap.size w4 w6) := bl_then HB5.out hb6
  have hs6 := hb6.size
  clear hr6 hb6 HI
  go_upto_region 16 with fail
  generalize hX : (World.alloc w6 _ : World) = X
  have hbX : Below w6.heap.size w6 X := by subst hX; (repeat (first | exact Below.refl _ _ | assumption | refine Below.drew ?_ | refine bl_alloc ?_ _ | refine bl_then ?_ (by assumption) | refine Below.setCell ?_ (by first | omega | (simp; done) | (simp; omega)) _ | refine bl_store ?_ ?_ _ _))
  have hzX : X.heap.size = w6.heap.size + 1 := by subst hX; simp
  have x0 : X.cell? ⟨w6.heap.size, 0, none⟩ = some (.int .i64 0) := by subst hX; simp [go_sem]
  have x1 : X.cell? ⟨w6.heap.size, 1, none⟩ = some (.slice a6 L.length c6) := by subst hX; simp [go_sem]
  have HRX : Hid (RowB w5.heap.size X (.slice a6 L.length c6) L) := rowB_but HR6.out hbX
  have HBX : Hid (Below w4.heap.size w4 X) := bl_then HB6.out hbX
  have HVX : Hid (Below V.heap.size V X) := HB4.out.trans (HBX.out.mono (by omega))
  clear hX hbX HR6 HB6
  obtain ⟨p0, p1'⟩ := HP.out X (HVX.out.block _ (by omega))
  go_wp2_with fail
  refine (eqWords_any _ _ L X HRX.out.is (HI1.out.below HVX.out) hl4).mono ?_
  rintro e w7 ⟨rfl, hb7⟩
  have HB7 : Hid (Below w4.heap.size w4 w7) := bl_then HBX.out hb7
  obtain ⟨t0, t1⟩ := HQ.out w7 ((HB7.out.block _ (by omega)).trans HQ4.out)
  clear hb7 x0 x1 p0 p1' HRX HBX HVX
  go_wp2_with fail
  refine Calls.mono (HHd.out w7 HB7.out) ?_
  rintro e w8 ⟨rfl, hb8⟩
  have HBF : Hid (Below w.heap.size w w8) := bl_then HBV.out (HB4.out.trans ((bl_then HB7.out hb8).mono (by omega)))
  clear hb8
  go_wp2
  go_ret
  exact ⟨rfl, HBF.out⟩
end Go.Proofs.Ytbijdoddalfedaa
