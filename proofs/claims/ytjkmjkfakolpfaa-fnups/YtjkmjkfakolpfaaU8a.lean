/- A raster is filled, row by row, by what a function has at a pixel: the program. -/
import Derived.Test.YtjkmjkfakolpfaaRa
import Derived.Deep.RegionHeld3
namespace Go.Proofs.Ytjkmjkfakolpfaa
open Go.RowKit
set_option linter.unusedSimpArgs false
set_option linter.unusedVariables false
set_option maxRecDepth 100000

/-- What G has at the pixels of a window, row by row. -/
def rowsL (G : Int → Int → Int) (x y : Int) (wide high : Nat) : List Int := (List.range high).flatMap fun (r : Nat) => (List.range wide).map fun (c : Nat) => G (x + (c : Int)) (y + (r : Int))
def rowsP (G : Int → Int → Int) (x y : Int) (wide r c : Nat) : List Int := rowsL G x y wide r ++ (List.range c).map fun (c : Nat) => G (x + (c : Int)) (y + (r : Int))
theorem rowsL_len (G : Int → Int → Int) (x y : Int) (wide : Nat) : ∀ high, (rowsL G x y wide high).length = high * wide
  | 0 => by simp [rowsL]
  | h + 1 => by
    have := rowsL_len G x y wide h
    unfold rowsL at this ⊢
    rw [List.range_succ, List.flatMap_append, List.length_append, this]
    simp
    rw [Nat.add_mul]; omega
theorem rowsP_next (G : Int → Int → Int) (x y : Int) (wide r c : Nat) : rowsP G x y wide r (c + 1) = rowsP G x y wide r c ++ [G (x + (c : Int)) (y + (r : Int))] := by
  simp [rowsP, List.range_succ]
theorem rowsP_full (G : Int → Int → Int) (x y : Int) (wide r : Nat) : rowsP G x y wide r wide = rowsL G x y wide (r + 1) := by
  simp [rowsP, rowsL, List.range_succ]
theorem rowsP_zero (G : Int → Int → Int) (x y : Int) (wide r : Nat) : rowsP G x y wide r 0 = rowsL G x y wide r := by simp [rowsP]
theorem rowsP_len (G : Int → Int → Int) (x y : Int) (wide r c : Nat) : (rowsP G x y wide r c).length = r * wide + c := by
  simp [rowsP, rowsL_len]
set_option maxHeartbeats 4000000 in
theorem rowByRow_any (f : Nat) (caps : Array Value) (x y : Int) (wide high : Nat) (G : Int → Int → Int) (w : World) (hwide : wide ≤ 8) (hhigh : high ≤ 8) (hx : 0 ≤ x ∧ x ≤ 1000) (hy : 0 ≤ y ∧ y ≤ 1000) (hce : ∀ args w, (callFunc f args).run Try.prog w = .ok (.enter f args) w)
    (hF : ∀ W c r, Below w.heap.size w W → c < wide → r < high → Calls Try.prog f (#[.int .i64 (x + (c : Nat)), .int .i64 (y + (r : Nat))] ++ caps) W fun e W' => e = .returned (.int .i64 (G (x + (c : Nat)) (y + (r : Nat)))) ∧ Below W.heap.size W W') :
    Calls Try.prog 42 #[.int .i64 x, .int .i64 y, .int .i64 (wide : Int), .int .i64 (high : Int), .func (.func f) #[] caps] w fun e w' => ∃ v, e = .returned v ∧ RowN w.heap.size w' v (rowsL G x y wide high) ∧ Below w.heap.size w w' := by
  obtain ⟨i0, hi, hz0, hz1, hz2⟩ := info_parts info_n64
  have HF := (show Hid _ from hF)
  clear hF
  go_enter Try.func42, Try.ntmps42
  go_wp2_with fail
  go_loopw [11, 15] (fun v j wr => ∃ r : Nat, r ≤ high ∧ j = .int .i64 ((r : Nat) : Int) ∧ RowN w.heap.size wr v (rowsL G x y wide r) ∧ Below w.heap.size w wr) (fun _ j _ => high - (intOf j).toNat)
  case atStart => exact ⟨0, by omega, rfl, RowN.no _ _, Below.refl _ _⟩
  case round =>
    obtain ⟨r, hr, rfl, hO, hB⟩ := hrel
    have HO0 : Hid (RowN w.heap.size wr u11 (rowsL G x y wide r)) := hO
    have HB0 : Hid (Below w.heap.size w wr) := hB
    clear hO hB
    by_cases hlt : r < high
    · have hi' : (r : Int) < (high : Int) := by omega
      go_wp2_with fail
      go_loopw [11, 19] (fun v j wr => ∃ m : Nat, m ≤ wide ∧ j = .int .i64 (m : Int) ∧ RowN w.heap.size wr v (rowsP G x y wide r m) ∧ Below w.heap.size w wr) (fun _ j _ => wide - (intOf j).toNat)
      case atStart => exact ⟨0, by omega, rfl, by rw [rowsP_zero]; exact HO0.out, HB0.out⟩
      case round =>
        obtain ⟨m, hm, rfl, hO, hB⟩ := hrel
        have HO : Hid (RowN w.heap.size wr u11 (rowsP G x y wide r m)) := hO
        have HB : Hid (Below w.heap.size w wr) := hB
        have hszr : w.heap.size ≤ wr.heap.size := hB.size
        clear hO hB HO0 HB0
        by_cases hlm : m < wide
        · have hm' : (m : Int) < (wide : Int) := by omega
          have HC : Hid (Calls Try.prog f (#[.int .i64 (x + (m : Nat)), .int .i64 (y + (r : Nat))] ++ caps) wr fun e W' => e = .returned (.int .i64 (G (x + (m : Nat)) (y + (r : Nat)))) ∧ Below wr.heap.size wr W') := HF.out wr m r HB.out hlm hlt
          have HS : Hid (rowsP G x y wide r (m + 1) = rowsP G x y wide r m ++ [G (x + (m : Int)) (y + (r : Int))]) := rowsP_next _ _ _ _ _ _
          have HL : Hid ((rowsP G x y wide r m).length ≤ 64) := by
            show _ ≤ _
            rw [rowsP_len]
            have : r * wide ≤ 7 * 8 := Nat.mul_le_mul (by omega) hwide
            omega
          go_wp2_with fail
          refine Calls.mono HC.out ?_
          rintro e w2 ⟨rfl, hb2⟩
          have HO2 : Hid (RowN w.heap.size w2 u11 (rowsP G x y wide r m)) := HO.out.below hb2
          have HB2 : Hid (Below w.heap.size w w2) := bl_then HB.out hb2
          have hsz2 : w.heap.size ≤ w2.heap.size := Nat.le_trans hszr hb2.size
          clear HC hb2 HO HB
          generalize G (x + (m : Int)) (y + (r : Int)) = g at *
          have hlen := HL.out
          have hblk : ∀ b, u11.ownBlock = some b → w.heap.size ≤ b := fun b hb => (World.ownsRow.lt HO2.out b hb).1
          have HR : Hid (∀ w' v', w'.ownsRow w.heap.size 2 1 v' ((rowsP G x y wide r m).length + 1) ((rowsP G x y wide r m).map (.int .i64 ·) ++ [.int .i64 g]) → RowN w.heap.size w' v' (rowsP G x y wide r (m + 1))) := fun w' v' h => by
            rw [HS.out]
            show World.ownsRow _ _ _ _ _ _ _
            rw [List.length_append, List.map_append]
            exact h
          clear HS HL
          go_wp2_with (first
            | (at_builtin; go_must (refine wpList_append_own _ rfl _ _ 24 rfl w.heap.size 2 i0 (.int .i64 0) 1 8 Try.underlying24 hi hz0 hz1 hz2 rfl (by decide) _ (rowsP G x y wide r m).length ((rowsP G x y wide r m).map (.int .i64 ·)) rfl (World.ownsRow.alloc HO2.out _) ⟨w2.heap.size, 0, none⟩ 1 1 [.int .i64 g] rfl rfl ?c1 ?c2 ?c3 ?c4 ?c5 ?_)))
          case c1 =>
            intro q u hq
            match q, hq with
            | 0, hq => simp at hq; subst hq; simp [Addr.add, go_sem]
            | q + 1, hq => simp at hq
          case c2 => intro u hu; simp at hu; subst hu; rfl
          case c3 => unfold maxLen; omega
          case c4 => omega
          case c5 => simp; omega
          intro v' w3 hown' hgrow hnil
          clear hnil
          generalize hV : (w2.alloc _ : World) = V at hgrow
          have hBV : Below w2.heap.size w2 V := by subst hV; (repeat (first | exact Below.refl _ _ | assumption | refine Below.drew ?_ | refine bl_alloc ?_ _ | refine bl_then ?_ (by assumption) | refine Below.setCell ?_ (by first | omega | (simp; done) | (simp; omega)) _ | refine bl_store ?_ ?_ _ _))
          have hBg : Below w.heap.size V w3 := (Below.refl _ _).grown hgrow (by have := hBV.size; omega) (fun k hk => hblk k hk)
          have HB3 : Hid (Below w.heap.size w w3) := HB2.out.trans ((hBV.mono hsz2).trans hBg)
          have HO3 : Hid (RowN w.heap.size w3 v' (rowsP G x y wide r (m + 1))) := HR.out _ _ hown'
          clear hown' hgrow hBg hBV hV HO2 HB2 HR hblk
          go_wp2
          go_roundw
          case rel => exact ⟨m + 1, by omega, by go_num, HO3.out, HB3.out⟩
          case measure => simp [intOf]; omega
        · have hmw : m = wide := by omega
          subst hmw
          rw [rowsP_full] at HO
          go_wp2_with fail
          go_roundw
          case rel => exact ⟨r + 1, by omega, by go_num, HO.out, HB.out⟩
          case measure => simp [intOf]; omega
    · have hrh : r = high := by omega
      subst hrh
      obtain ⟨av, cv, hvs, _, _⟩ := HO0.out.own
      have HV : Hid (∃ nv, u11 = .slice av nv cv) := ⟨_, hvs⟩
      go_wp2
      go_ret
      exact ⟨_, rfl, HO0.out, HB0.out⟩
end Go.Proofs.Ytjkmjkfakolpfaa
