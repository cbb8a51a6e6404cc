/- Several texts in one. -/
import Derived.Test.YthidgolnajggpaaGreatVNearestIn22
import Derived.Test.YthidgolnajggpaaGreatVNearestIn9
import Derived.Test.YthidgolnajggpaaGreatVNearestIn4
import Derived.Deep.RegionHeld3
import Derived.Test.YthidgolnajggpaaGreatVNearestIn21
import Derived.Test.YthidgolnajggpaaGreatVNearestIn7
import Derived.WalkKit

/- Lists of numbers that grow: rows of their own. -/

namespace Go.Proofs.YthidgolnajggpaaGreat
open Go.RowKit
set_option linter.unusedSimpArgs false
set_option linter.unusedVariables false
set_option maxRecDepth 100000

theorem info_n64 : (Tryz.prog.info? 2).map (fun i => (i.zero, i.size, i.bytes)) = some (some (.int .i64 0), 1, 8) := by kernel_rfl
/-- v is a row of its own with these numbers. -/
def RowN (base : Nat) (w : World) (v : Value) (l : List Int) : Prop := w.ownsRow base 2 1 v l.length (l.map (.int .i64 ·))
def nz (l : List Int) (i : Nat) : Int := l.getD i 0
theorem RowN.own {base : Nat} {w : World} {v : Value} {l : List Int} (h : RowN base w v l) : OwnN w base v l.length (nz l) := by
  obtain ⟨h1, h2 | ⟨g, cp, cur, hv, hg, hh, hkc, hcm, hcs, htk⟩⟩ := id h
  · obtain ⟨rfl, h0⟩ := h2
    rw [h0]
    exact ⟨none, 0, rfl, Nat.le_refl _, .inl rfl⟩
  · have hgl : g < w.heap.size := by
      rcases Nat.lt_or_ge g w.heap.size with h' | h'
      · exact h'
      · rw [Array.getElem?_eq_none h'] at hh; cases hh
    have hrow : w.ownsRow base 2 1 (.slice (some ⟨g, 0, none⟩) l.length cp) l.length (l.map (.int .i64 ·)) := ⟨h1, .inr ⟨g, cp, cur, rfl, hg, hh, hkc, hcm, hcs, htk⟩⟩
    refine ⟨some ⟨g, 0, none⟩, cp, hv, hkc, .inr ⟨g, rfl, hg, hgl, fun i hi => ?_, fun o ho => ⟨?_, hrow.frozenAt o⟩⟩⟩
    · rw [Nat.zero_add, hrow.cellAt i (by omega), List.getElem?_map]
      simp [nz, List.getD_eq_getElem?_getD, hi]
    · rw [hrow.cellAt o (by omega), List.getElem?_map]
      simp [ho]
theorem RowN.below {base : Nat} {w w' : World} {v : Value} {l : List Int} (h : RowN base w v l) (hb : Below w.heap.size w w') : RowN base w' v l := by
  obtain ⟨h1, h2 | ⟨g, cp, cur, hv, hg, hh, hr⟩⟩ := h
  · exact ⟨h1, .inl h2⟩
  · refine ⟨h1, .inr ⟨g, cp, cur, hv, hg, ?_, hr⟩⟩
    have hgl : g < w.heap.size := by
      rcases Nat.lt_or_ge g w.heap.size with h' | h'
      · exact h'
      · rw [Array.getElem?_eq_none h'] at hh; cases hh
    rw [hb.block g hgl]
    exact hh
theorem RowN.no (base : Nat) (w : World) : RowN base w (.slice none 0 0) [] := World.ownsRow_nil _ _ _ _
theorem RowN.wide {base B : Nat} {w : World} {v : Value} {l : List Int} (h : RowN base w v l) (hB : B ≤ base) : RowN B w v l := by
  obtain ⟨h1, h2 | ⟨g, cp, cur, hv, hg, hr⟩⟩ := h
  · exact ⟨h1, .inl h2⟩
  · exact ⟨h1, .inr ⟨g, cp, cur, hv, by omega, hr⟩⟩
theorem RowN.other {base r o : Nat} {w : World} {v u : Value} {l : List Int} (h : RowN base w v l) (hr : r < base) : RowN base (w.setCell ⟨r, o, none⟩ u) v l := by
  obtain ⟨h1, h2 | ⟨g, cp, cur, hv, hg, hh, hr'⟩⟩ := h
  · exact ⟨h1, .inl h2⟩
  · exact ⟨h1, .inr ⟨g, cp, cur, hv, hg, by rw [Below.heap_setCell _ _ _ _ (by simp; omega)]; exact hh, hr'⟩⟩
end Go.Proofs.YthidgolnajggpaaGreat
/- Rasters: what is wrong of one, which ref lies in which: the program and the model. -/

namespace Go.Proofs.YthidgolnajggpaaGreat
open Go.RowKit
set_option linter.unusedSimpArgs false
set_option linter.unusedVariables false
set_option maxRecDepth 100000

theorem set3_atq {W : World} {r : Nat} {a b c : Value} (hT : There W r 3) :
    (((W.setCell ⟨r, 0, none⟩ a).setCell ⟨r, 1, none⟩ b).setCell ⟨r, 2, none⟩ c).cell? ⟨r, 0, none⟩ = some a ∧
    (((W.setCell ⟨r, 0, none⟩ a).setCell ⟨r, 1, none⟩ b).setCell ⟨r, 2, none⟩ c).cell? ⟨r, 1, none⟩ = some b ∧
    (((W.setCell ⟨r, 0, none⟩ a).setCell ⟨r, 1, none⟩ b).setCell ⟨r, 2, none⟩ c).cell? ⟨r, 2, none⟩ = some c := by
  obtain ⟨x0, h0⟩ := (hT 0 (by omega)).1
  obtain ⟨x1, h1⟩ := (hT 1 (by omega)).1
  obtain ⟨x2, h2⟩ := (hT 2 (by omega)).1
  have ne : ∀ i j : Nat, i ≠ j → (⟨r, i, none⟩ : Addr) ≠ ⟨r, j, none⟩ := fun i j hij h => hij (by injection h)
  refine ⟨?_, ?_, ?_⟩
  · rw [set1_other (ne 2 0 (by omega)), set1_other (ne 1 0 (by omega))]; exact set1_same h0
  · rw [set1_other (ne 2 1 (by omega))]; exact set1_same (by rw [set1_other (ne 0 1 (by omega))]; exact h1)
  · exact set1_same (by rw [set1_other (ne 1 2 (by omega)), set1_other (ne 0 2 (by omega))]; exact h2)
theorem refB_par {z x y : Int} (h : refB z x y = true) (hz : 0 < z) : refB (z - 1) (x / 2) (y / 2) = true := by
  obtain ⟨⟨x0, x1⟩, y0, y1⟩ := refB_in h
  rcases refB_zoom h with rfl | rfl | rfl | rfl
  · omega
  all_goals
    simp [lastI] at x1 y1
    simp [refB, zoomB, inB, lastI]
    omega
end Go.Proofs.YthidgolnajggpaaGreat
/- A raster is filled, row by row, by what a function has at a pixel: the program. -/

namespace Go.Proofs.YthidgolnajggpaaGreat
open Go.RowKit
set_option linter.unusedSimpArgs false
set_option linter.unusedVariables false
set_option maxRecDepth 100000

/-- What G has at the pixels of a window, row by row. -/
def rowsL (G : Int → Int → Int) (x y : Int) (wide high : Nat) : List Int := (List.range high).flatMap fun (r : Nat) => (List.range wide).map fun (c : Nat) => G (x + (c : Int)) (y + (r : Int))
def rowsP (G : Int → Int → Int) (x y : Int) (wide r c : Nat) : List Int := rowsL G x y wide r ++ (List.range c).map fun (c : Nat) => G (x + (c : Int)) (y + (r : Int))
theorem rowsL_len (G : Int → Int → Int) (x y : Int) (wide : Nat) : ∀ high, (rowsL G x y wide high).length = high * wide
  | 0 => by simp [rowsL]
  | h + 1 => by
    have := rowsL_len G x y wide h
    unfold rowsL at this ⊢
    rw [List.range_succ, List.flatMap_append, List.length_append, this]
    simp
    rw [Nat.add_mul]; omega
theorem rowsP_next (G : Int → Int → Int) (x y : Int) (wide r c : Nat) : rowsP G x y wide r (c + 1) = rowsP G x y wide r c ++ [G (x + (c : Int)) (y + (r : Int))] := by
  simp [rowsP, List.range_succ]
theorem rowsP_full (G : Int → Int → Int) (x y : Int) (wide r : Nat) : rowsP G x y wide r wide = rowsL G x y wide (r + 1) := by
  simp [rowsP, rowsL, List.range_succ]
theorem rowsP_zero (G : Int → Int → Int) (x y : Int) (wide r : Nat) : rowsP G x y wide r 0 = rowsL G x y wide r := by simp [rowsP]
theorem rowsP_len (G : Int → Int → Int) (x y : Int) (wide r c : Nat) : (rowsP G x y wide r c).length = r * wide + c := by
  simp [rowsP, rowsL_len]
set_option maxHeartbeats 4000000 in
theorem rowByRow_any (f : Nat) (caps : Array Value) (x y : Int) (wide high : Nat) (G : Int → Int → Int) (w : World) (hwide : wide ≤ 8) (hhigh : high ≤ 8) (hx : 0 ≤ x ∧ x ≤ 1000) (hy : 0 ≤ y ∧ y ≤ 1000) (hce : ∀ args w, (callFunc f args).run Tryz.prog w = .ok (.enter f args) w)
    (hF : ∀ W c r, Below w.heap.size w W → c < wide → r < high → Calls Tryz.prog f (#[.int .i64 (x + (c : Nat)), .int .i64 (y + (r : Nat))] ++ caps) W fun e W' => e = .returned (.int .i64 (G (x + (c : Nat)) (y + (r : Nat)))) ∧ Below W.heap.size W W') :
    Calls Tryz.prog 107 #[.int .i64 x, .int .i64 y, .int .i64 (wide : Int), .int .i64 (high : Int), .func (.func f) #[] caps] w fun e w' => ∃ v, e = .returned v ∧ RowN w.heap.size w' v (rowsL G x y wide high) ∧ Below w.heap.size w w' := by
  obtain ⟨i0, hi, hz0, hz1, hz2⟩ := info_parts info_n64
  have HF := (show Hid _ from hF)
  clear hF
  go_enter Tryz.func107, Tryz.ntmps107
  go_wp2_with fail
  go_loopw [11, 15] (fun v j wr => ∃ r : Nat, r ≤ high ∧ j = .int .i64 ((r : Nat) : Int) ∧ RowN w.heap.size wr v (rowsL G x y wide r) ∧ Below w.heap.size w wr) (fun _ j _ => high - (intOf j).toNat)
  case atStart => exact ⟨0, by omega, rfl, RowN.no _ _, Below.refl _ _⟩
  case round =>
    obtain ⟨r, hr, rfl, hO, hB⟩ := hrel
    have HO0 : Hid (RowN w.heap.size wr u11 (rowsL G x y wide r)) := hO
    have HB0 : Hid (Below w.heap.size w wr) := hB
    clear hO hB
    by_cases hlt : r < high
    · have hi' : (r : Int) < (high : Int) := by omega
      go_wp2_with fail
      go_loopw [11, 19] (fun v j wr => ∃ m : Nat, m ≤ wide ∧ j = .int .i64 (m : Int) ∧ RowN w.heap.size wr v (rowsP G x y wide r m) ∧ Below w.heap.size w wr) (fun _ j _ => wide - (intOf j).toNat)
      case atStart => exact ⟨0, by omega, rfl, by rw [rowsP_zero]; exact HO0.out, HB0.out⟩
      case round =>
        obtain ⟨m, hm, rfl, hO, hB⟩ := hrel
        have HO : Hid (RowN w.heap.size wr u11 (rowsP G x y wide r m)) := hO
        have HB : Hid (Below w.heap.size w wr) := hB
        have hszr : w.heap.size ≤ wr.heap.size := hB.size
        clear hO hB HO0 HB0
        by_cases hlm : m < wide
        · have hm' : (m : Int) < (wide : Int) := by omega
          have HC : Hid (Calls Tryz.prog f (#[.int .i64 (x + (m : Nat)), .int .i64 (y + (r : Nat))] ++ caps) wr fun e W' => e = .returned (.int .i64 (G (x + (m : Nat)) (y + (r : Nat)))) ∧ Below wr.heap.size wr W') := HF.out wr m r HB.out hlm hlt
          have HS : Hid (rowsP G x y wide r (m + 1) = rowsP G x y wide r m ++ [G (x + (m : Int)) (y + (r : Int))]) := rowsP_next _ _ _ _ _ _
          have HL : Hid ((rowsP G x y wide r m).length ≤ 64) := by
            show _ ≤ _
            rw [rowsP_len]
            have : r * wide ≤ 7 * 8 := Nat.mul_le_mul (by omega) hwide
            omega
          go_wp2_with fail
          refine Calls.mono HC.out ?_
          rintro e w2 ⟨rfl, hb2⟩
          have HO2 : Hid (RowN w.heap.size w2 u11 (rowsP G x y wide r m)) := HO.out.below hb2
          have HB2 : Hid (Below w.heap.size w w2) := bl_then HB.out hb2
          have hsz2 : w.heap.size ≤ w2.heap.size := Nat.le_trans hszr hb2.size
          clear HC hb2 HO HB
          generalize G (x + (m : Int)) (y + (r : Int)) = g at *
          have hlen := HL.out
          have hblk : ∀ b, u11.ownBlock = some b → w.heap.size ≤ b := fun b hb => (World.ownsRow.lt HO2.out b hb).1
          have HR : Hid (∀ w' v', w'.ownsRow w.heap.size 2 1 v' ((rowsP G x y wide r m).length + 1) ((rowsP G x y wide r m).map (.int .i64 ·) ++ [.int .i64 g]) → RowN w.heap.size w' v' (rowsP G x y wide r (m + 1))) := fun w' v' h => by
            rw [HS.out]
            show World.ownsRow _ _ _ _ _ _ _
            rw [List.length_append, List.map_append]
            exact h
          clear HS HL
          go_wp2_with (first
            | (at_builtin; go_must (refine wpList_append_own _ rfl _ _ 63 rfl w.heap.size 2 i0 (.int .i64 0) 1 8 Tryz.underlying63 hi hz0 hz1 hz2 rfl (by decide) _ (rowsP G x y wide r m).length ((rowsP G x y wide r m).map (.int .i64 ·)) rfl (World.ownsRow.alloc HO2.out _) ⟨w2.heap.size, 0, none⟩ 1 1 [.int .i64 g] rfl rfl ?c1 ?c2 ?c3 ?c4 ?c5 ?_)))
          case c1 =>
            intro q u hq
            match q, hq with
            | 0, hq => simp at hq; subst hq; simp [Addr.add, go_sem]
            | q + 1, hq => simp at hq
          case c2 => intro u hu; simp at hu; subst hu; rfl
          case c3 => unfold maxLen; omega
          case c4 => omega
          case c5 => simp; omega
          intro v' w3 hown' hgrow hnil
          clear hnil
          generalize hV : (w2.alloc _ : World) = V at hgrow
          have hBV : Below w2.heap.size w2 V := by subst hV; (repeat (first | exact Below.refl _ _ | assumption | refine Below.drew ?_ | refine bl_alloc ?_ _ | refine bl_then ?_ (by assumption) | refine Below.setCell ?_ (by first | omega | (simp; done) | (simp; omega)) _ | refine bl_store ?_ ?_ _ _))
          have hBg : Below w.heap.size V w3 := (Below.refl _ _).grown hgrow (by have := hBV.size; omega) (fun k hk => hblk k hk)
          have HB3 : Hid (Below w.heap.size w w3) := HB2.out.trans ((hBV.mono hsz2).trans hBg)
          have HO3 : Hid (RowN w.heap.size w3 v' (rowsP G x y wide r (m + 1))) := HR.out _ _ hown'
          clear hown' hgrow hBg hBV hV HO2 HB2 HR hblk
          go_wp2
          go_roundw
          case rel => exact ⟨m + 1, by omega, by go_num, HO3.out, HB3.out⟩
          case measure => simp [intOf]; omega
        · have hmw : m = wide := by omega
          subst hmw
          rw [rowsP_full] at HO
          go_wp2_with fail
          go_roundw
          case rel => exact ⟨r + 1, by omega, by go_num, HO.out, HB.out⟩
          case measure => simp [intOf]; omega
    · have hrh : r = high := by omega
      subst hrh
      obtain ⟨av, cv, hvs, _, _⟩ := HO0.out.own
      have HV : Hid (∃ nv, u11 = .slice av nv cv) := ⟨_, hvs⟩
      go_wp2
      go_ret
      exact ⟨_, rfl, HO0.out, HB0.out⟩
end Go.Proofs.YthidgolnajggpaaGreat
/- The raster of a tile as far as that of one above it has it: the program. -/

namespace Go.Proofs.YthidgolnajggpaaGreat
open Go.RowKit
set_option linter.unusedSimpArgs false
set_option linter.unusedVariables false
set_option maxRecDepth 100000

set_option maxHeartbeats 2000000 in
theorem raster_any (f : Nat) (caps : Array Value) (z x y : Int) (G : Int → Int → Int) (w : World) (h : refB z x y = true) (hce : ∀ args w, (callFunc f args).run Tryz.prog w = .ok (.enter f args) w)
    (hF : ∀ W c r, Below w.heap.size w W → c < 8 → r < 8 → Calls Tryz.prog f (#[.int .i64 (x * 8 + (c : Nat)), .int .i64 (y * 8 + (r : Nat))] ++ caps) W fun e W' => e = .returned (.int .i64 (G (x * 8 + (c : Nat)) (y * 8 + (r : Nat)))) ∧ Below W.heap.size W W') :
    Calls Tryz.prog 78 #[refV z x y, .func (.func f) #[] caps] w fun e w' => ∃ v, e = .returned v ∧ RowN w.heap.size w' v (rowsL G (x * 8) (y * 8) 8 8) ∧ Below w.heap.size w w' := by
  obtain ⟨⟨z0, z1⟩, ⟨x0, x1⟩, y0, y1⟩ := ref_bd h
  have HF := (show Hid _ from hF)
  have HE := (show Hid _ from hce)
  clear hF hce h
  go_enter Tryz.func78, Tryz.ntmps78
  go_wp2_with fail
  generalize hW : (w.alloc _ : World) = W
  have hB0 : Below w.heap.size w W := by subst hW; (repeat (first | exact Below.refl _ _ | assumption | refine Below.drew ?_ | refine bl_alloc ?_ _ | refine bl_then ?_ (by assumption) | refine Below.setCell ?_ (by first | omega | (simp; done) | (simp; omega)) _ | refine bl_store ?_ ?_ _ _))
  clear hW
  refine (rowByRow_any f caps (x * 8) (y * 8) 8 8 G W (Nat.le_refl _) (Nat.le_refl _) (by omega) (by omega) HE.out (fun W' c r hb hc hr => HF.out W' c r (bl_then hB0 hb) hc hr)).mono ?_
  rintro e w' ⟨v, rfl, hO, hb⟩
  have HB : Hid (Below w.heap.size w w') := bl_then hB0 hb
  have HO : Hid (RowN w.heap.size w' v (rowsL G (x * 8) (y * 8) 8 8)) := hO.wide hB0.size
  clear hO hb hB0
  go_wp2_with fail
  go_ret
  exact ⟨_, rfl, HO.out, HB.out⟩
end Go.Proofs.YthidgolnajggpaaGreat
/- The first of a list of codes that is not 0. -/

namespace Go.Proofs.YthidgolnajggpaaGreat
/-- The first that is not 0. -/
def scanC (c : Nat → Int) : Nat → Nat → Int
  | _, 0 => 0
  | i, k + 1 => if c i ≠ 0 then c i else scanC c (i + 1) k
theorem scan_first (c : Nat → Int) : ∀ (m i k : Nat), (∀ j, i ≤ j → j < k → c j = 0) → i ≤ k → k < i + m → c k ≠ 0 → scanC c i m = c k
  | 0, i, k, _, h1, h2, _ => by omega
  | m + 1, i, k, h, h1, h2, hne => by
    rw [scanC]
    by_cases e : i = k
    · subst e; rw [if_pos hne]
    · rw [if_neg (by rw [h i (Nat.le_refl _) (by omega)]; simp)]
      exact scan_first c m (i + 1) k (fun j hj => h j (by omega)) (by omega) (by omega) hne
theorem scan_none (c : Nat → Int) : ∀ (m i : Nat), (∀ j, i ≤ j → j < i + m → c j = 0) → scanC c i m = 0
  | 0, _, _ => rfl
  | m + 1, i, h => by
    rw [scanC, if_neg (by rw [h i (Nat.le_refl _) (by omega)]; simp)]
    exact scan_none c m (i + 1) (fun j hj hj' => h j (by omega) (by omega))
theorem scan_congr (c d : Nat → Int) : ∀ (m i : Nat), (∀ j, i ≤ j → j < i + m → c j = d j) → scanC c i m = scanC d i m
  | 0, _, _ => rfl
  | m + 1, i, h => by
    rw [scanC, scanC, h i (Nat.le_refl _) (by omega), scan_congr c d m (i + 1) (fun j hj hj' => h j (by omega) (by omega))]
theorem scan_zero (c : Nat → Int) : ∀ (m i : Nat), scanC c i m = 0 → ∀ j, i ≤ j → j < i + m → c j = 0
  | 0, i, _, j, h1, h2 => by omega
  | m + 1, i, h, j, h1, h2 => by
    rw [scanC] at h
    by_cases hc : c i ≠ 0
    · rw [if_pos hc] at h; exact absurd h hc
    · rw [if_neg hc] at h
      by_cases e : j = i
      · subst e; simpa using hc
      · exact scan_zero c m (i + 1) h j (by omega) (by omega)
end Go.Proofs.YthidgolnajggpaaGreat
