/- Several texts in one. -/
import Derived.Test.YtaodbplepegapaaGreatVRefRaster15
import Derived.Test.YtaodbplepegapaaGreatVRefRaster4
import Derived.Deep.RegionHeld3
import Derived.Test.YtaodbplepegapaaGreatVRefRaster2
import Derived.Test.YtaodbplepegapaaGreatVRefRaster1

/- Lists of numbers that grow: rows of their own. -/

namespace Go.Proofs.YtaodbplepegapaaGreat
open Go.RowKit
set_option linter.unusedSimpArgs false
set_option linter.unusedVariables false
set_option maxRecDepth 100000

theorem info_n64 : (Tryz.prog.info? 2).map (fun i => (i.zero, i.size, i.bytes)) = some (some (.int .i64 0), 1, 8) := by kernel_rfl
/-- v is a row of its own with these numbers. -/
def RowN (base : Nat) (w : World) (v : Value) (l : List Int) : Prop := w.ownsRow base 2 1 v l.length (l.map (.int .i64 ·))
def nz (l : List Int) (i : Nat) : Int := l.getD i 0
theorem RowN.own {base : Nat} {w : World} {v : Value} {l : List Int} (h : RowN base w v l) : OwnN w base v l.length (nz l) := by
  obtain ⟨h1, h2 | ⟨g, cp, cur, hv, hg, hh, hkc, hcm, hcs, htk⟩⟩ := id h
  · obtain ⟨rfl, h0⟩ := h2
    rw [h0]
    exact ⟨none, 0, rfl, Nat.le_refl _, .inl rfl⟩
  · have hgl : g < w.heap.size := by
      rcases Nat.lt_or_ge g w.heap.size with h' | h'
      · exact h'
      · rw [Array.getElem?_eq_none h'] at hh; cases hh
    have hrow : w.ownsRow base 2 1 (.slice (some ⟨g, 0, none⟩) l.length cp) l.length (l.map (.int .i64 ·)) := ⟨h1, .inr ⟨g, cp, cur, rfl, hg, hh, hkc, hcm, hcs, htk⟩⟩
    refine ⟨some ⟨g, 0, none⟩, cp, hv, hkc, .inr ⟨g, rfl, hg, hgl, fun i hi => ?_, fun o ho => ⟨?_, hrow.frozenAt o⟩⟩⟩
    · rw [Nat.zero_add, hrow.cellAt i (by omega), List.getElem?_map]
      simp [nz, List.getD_eq_getElem?_getD, hi]
    · rw [hrow.cellAt o (by omega), List.getElem?_map]
      simp [ho]
theorem RowN.below {base : Nat} {w w' : World} {v : Value} {l : List Int} (h : RowN base w v l) (hb : Below w.heap.size w w') : RowN base w' v l := by
  obtain ⟨h1, h2 | ⟨g, cp, cur, hv, hg, hh, hr⟩⟩ := h
  · exact ⟨h1, .inl h2⟩
  · refine ⟨h1, .inr ⟨g, cp, cur, hv, hg, ?_, hr⟩⟩
    have hgl : g < w.heap.size := by
      rcases Nat.lt_or_ge g w.heap.size with h' | h'
      · exact h'
      · rw [Array.getElem?_eq_none h'] at hh; cases hh
    rw [hb.block g hgl]
    exact hh
theorem RowN.no (base : Nat) (w : World) : RowN base w (.slice none 0 0) [] := World.ownsRow_nil _ _ _ _
theorem RowN.wide {base B : Nat} {w : World} {v : Value} {l : List Int} (h : RowN base w v l) (hB : B ≤ base) : RowN B w v l := by
  obtain ⟨h1, h2 | ⟨g, cp, cur, hv, hg, hr⟩⟩ := h
  · exact ⟨h1, .inl h2⟩
  · exact ⟨h1, .inr ⟨g, cp, cur, hv, by omega, hr⟩⟩
theorem RowN.other {base r o : Nat} {w : World} {v u : Value} {l : List Int} (h : RowN base w v l) (hr : r < base) : RowN base (w.setCell ⟨r, o, none⟩ u) v l := by
  obtain ⟨h1, h2 | ⟨g, cp, cur, hv, hg, hh, hr'⟩⟩ := h
  · exact ⟨h1, .inl h2⟩
  · exact ⟨h1, .inr ⟨g, cp, cur, hv, hg, by rw [Below.heap_setCell _ _ _ _ (by simp; omega)]; exact hh, hr'⟩⟩
end Go.Proofs.YtaodbplepegapaaGreat
/- Rasters: what is wrong of one, which ref lies in which: the program and the model. -/

namespace Go.Proofs.YtaodbplepegapaaGreat
open Go.RowKit
set_option linter.unusedSimpArgs false
set_option linter.unusedVariables false
set_option maxRecDepth 100000

/-- The first n numbers are Ids. -/
def rasB (Z : Nat → Int) (n : Nat) : Bool := (List.range n).all fun i => inB (Z i) 0 999
def rasC (n : Nat) (Z : Nat → Int) : Int := if n = 64 then (if rasB Z 64 = true then 0 else 3) else 2
theorem rasB_add (Z : Nat → Int) (n : Nat) : rasB Z (n + 1) = (rasB Z n && inB (Z n) 0 999) := by simp [rasB, List.range_succ]
theorem rasB_at {Z : Nat → Int} {n i : Nat} (h : rasB Z n = true) (hi : i < n) : inB (Z i) 0 999 = true := by
  simp [rasB] at h
  exact h i hi
theorem rasB_no {Z : Nat → Int} {n i : Nat} (hi : i < n) (h : inB (Z i) 0 999 = false) : rasB Z n = false := by
  cases e : rasB Z n
  · rfl
  · rw [rasB_at e hi] at h; cases h
theorem rasC_cases (n : Nat) (Z : Nat → Int) : (rasC n Z = 2 ∧ n ≠ 64) ∨ (rasC n Z = 3 ∧ n = 64 ∧ rasB Z 64 = false) ∨ (rasC n Z = 0 ∧ n = 64 ∧ rasB Z 64 = true) := by
  unfold rasC
  by_cases h : n = 64
  · cases e : rasB Z 64 <;> simp [h]
  · simp [h]
theorem set3_atq {W : World} {r : Nat} {a b c : Value} (hT : There W r 3) :
    (((W.setCell ⟨r, 0, none⟩ a).setCell ⟨r, 1, none⟩ b).setCell ⟨r, 2, none⟩ c).cell? ⟨r, 0, none⟩ = some a ∧
    (((W.setCell ⟨r, 0, none⟩ a).setCell ⟨r, 1, none⟩ b).setCell ⟨r, 2, none⟩ c).cell? ⟨r, 1, none⟩ = some b ∧
    (((W.setCell ⟨r, 0, none⟩ a).setCell ⟨r, 1, none⟩ b).setCell ⟨r, 2, none⟩ c).cell? ⟨r, 2, none⟩ = some c := by
  obtain ⟨x0, h0⟩ := (hT 0 (by omega)).1
  obtain ⟨x1, h1⟩ := (hT 1 (by omega)).1
  obtain ⟨x2, h2⟩ := (hT 2 (by omega)).1
  have ne : ∀ i j : Nat, i ≠ j → (⟨r, i, none⟩ : Addr) ≠ ⟨r, j, none⟩ := fun i j hij h => hij (by injection h)
  refine ⟨?_, ?_, ?_⟩
  · rw [set1_other (ne 2 0 (by omega)), set1_other (ne 1 0 (by omega))]; exact set1_same h0
  · rw [set1_other (ne 2 1 (by omega))]; exact set1_same (by rw [set1_other (ne 0 1 (by omega))]; exact h1)
  · exact set1_same (by rw [set1_other (ne 1 2 (by omega)), set1_other (ne 0 2 (by omega))]; exact h2)
/-- x, halved k times. -/
def halv (x : Int) : Nat → Int
  | 0 => x
  | k + 1 => halv x k / 2
/-- The first ref is the second one, or lies above it. -/
def holdB (fz fx fy tz tx ty : Int) : Bool := decide (fz ≤ tz) && (halv tx (tz - fz).toNat == fx) && (halv ty (tz - fz).toNat == fy)
theorem refB_par {z x y : Int} (h : refB z x y = true) (hz : 0 < z) : refB (z - 1) (x / 2) (y / 2) = true := by
  obtain ⟨⟨x0, x1⟩, y0, y1⟩ := refB_in h
  rcases refB_zoom h with rfl | rfl | rfl | rfl
  · omega
  all_goals
    simp [lastI] at x1 y1
    simp [refB, zoomB, inB, lastI]
    omega
end Go.Proofs.YtaodbplepegapaaGreat
/- A raster is filled, row by row, by what a function has at a pixel: the program. -/

namespace Go.Proofs.YtaodbplepegapaaGreat
open Go.RowKit
set_option linter.unusedSimpArgs false
set_option linter.unusedVariables false
set_option maxRecDepth 100000

/-- What G has at the pixels of a window, row by row. -/
def rowsL (G : Int → Int → Int) (x y : Int) (wide high : Nat) : List Int := (List.range high).flatMap fun (r : Nat) => (List.range wide).map fun (c : Nat) => G (x + (c : Int)) (y + (r : Int))
def rowsP (G : Int → Int → Int) (x y : Int) (wide r c : Nat) : List Int := rowsL G x y wide r ++ (List.range c).map fun (c : Nat) => G (x + (c : Int)) (y + (r : Int))
theorem rowsL_len (G : Int → Int → Int) (x y : Int) (wide : Nat) : ∀ high, (rowsL G x y wide high).length = high * wide
  | 0 => by simp [rowsL]
  | h + 1 => by
    have := rowsL_len G x y wide h
    unfold rowsL at this ⊢
    rw [List.range_succ, List.flatMap_append, List.length_append, this]
    simp
    rw [Nat.add_mul]; omega
theorem rowsP_next (G : Int → Int → Int) (x y : Int) (wide r c : Nat) : rowsP G x y wide r (c + 1) = rowsP G x y wide r c ++ [G (x + (c : Int)) (y + (r : Int))] := by
  simp [rowsP, List.range_succ]
theorem rowsP_full (G : Int → Int → Int) (x y : Int) (wide r : Nat) : rowsP G x y wide r wide = rowsL G x y wide (r + 1) := by
  simp [rowsP, rowsL, List.range_succ]
theorem rowsP_zero (G : Int → Int → Int) (x y : Int) (wide r : Nat) : rowsP G x y wide r 0 = rowsL G x y wide r := by simp [rowsP]
theorem rowsP_len (G : Int → Int → Int) (x y : Int) (wide r c : Nat) : (rowsP G x y wide r c).length = r * wide + c := by
  simp [rowsP, rowsL_len]
set_option maxHeartbeats 4000000 in
theorem rowByRow_any (f : Nat) (caps : Array Value) (x y : Int) (wide high : Nat) (G : Int → Int → Int) (w : World) (hwide : wide ≤ 8) (hhigh : high ≤ 8) (hx : 0 ≤ x ∧ x ≤ 1000) (hy : 0 ≤ y ∧ y ≤ 1000) (hce : ∀ args w, (callFunc f args).run Tryz.prog w = .ok (.enter f args) w)
    (hF : ∀ W c r, Below w.heap.size w W → c < wide → r < high → Calls Tryz.prog f (#[.int .i64 (x + (c : Nat)), .int .i64 (y + (r : Nat))] ++ caps) W fun e W' => e = .returned (.int .i64 (G (x + (c : Nat)) (y + (r : Nat)))) ∧ Below W.heap.size W W') :
    Calls Tryz.prog 64 #[.int .i64 x, .int .i64 y, .int .i64 (wide : Int), .int .i64 (high : Int), .func (.func f) #[] caps] w fun e w' => ∃ v, e = .returned v ∧ RowN w.heap.size w' v (rowsL G x y wide high) ∧ Below w.heap.size w w' := by
  obtain ⟨i0, hi, hz0, hz1, hz2⟩ := info_parts info_n64
  have HF := (show Hid _ from hF)
  clear hF
  go_enter Tryz.func64, Tryz.ntmps64
  go_wp2_with fail
  go_loopw [11, 15] (fun v j wr => ∃ r : Nat, r ≤ high ∧ j = .int .i64 ((r : Nat) : Int) ∧ RowN w.heap.size wr v (rowsL G x y wide r) ∧ Below w.heap.size w wr) (fun _ j _ => high - (intOf j).toNat)
  case atStart => exact ⟨0, by omega, rfl, RowN.no _ _, Below.refl _ _⟩
  case round =>
    obtain ⟨r, hr, rfl, hO, hB⟩ := hrel
    have HO0 : Hid (RowN w.heap.size wr u11 (rowsL G x y wide r)) := hO
    have HB0 : Hid (Below w.heap.size w wr) := hB
    clear hO hB
    by_cases hlt : r < high
    · have hi' : (r : Int) < (high : Int) := by omega
      go_wp2_with fail
      go_loopw [11, 19] (fun v j wr => ∃ m : Nat, m ≤ wide ∧ j = .int .i64 (m : Int) ∧ RowN w.heap.size wr v (rowsP G x y wide r m) ∧ Below w.heap.size w wr) (fun _ j _ => wide - (intOf j).toNat)
      case atStart => exact ⟨0, by omega, rfl, by rw [rowsP_zero]; exact HO0.out, HB0.out⟩
      case round =>
        obtain ⟨m, hm, rfl, hO, hB⟩ := hrel
        have HO : Hid (RowN w.heap.size wr u11 (rowsP G x y wide r m)) := hO
        have HB : Hid (Below w.heap.size w wr) := hB
        have hszr : w.heap.size ≤ wr.heap.size := hB.size
        clear hO hB HO0 HB0
        by_cases hlm : m < wide
        · have hm' : (m : Int) < (wide : Int) := by omega
          have HC : Hid (Calls Tryz.prog f (#[.int .i64 (x + (m : Nat)), .int .i64 (y + (r : Nat))] ++ caps) wr fun e W' => e = .returned (.int .i64 (G (x + (m : Nat)) (y + (r : Nat)))) ∧ Below wr.heap.size wr W') := HF.out wr m r HB.out hlm hlt
          have HS : Hid (rowsP G x y wide r (m + 1) = rowsP G x y wide r m ++ [G (x + (m : Int)) (y + (r : Int))]) := rowsP_next _ _ _ _ _ _
          have HL : Hid ((rowsP G x y wide r m).length ≤ 64) := by
            show _ ≤ _
            rw [rowsP_len]
            have : r * wide ≤ 7 * 8 := Nat.mul_le_mul (by omega) hwide
            omega
          go_wp2_with fail
          refine Calls.mono HC.out ?_
          rintro e w2 ⟨rfl, hb2⟩
          have HO2 : Hid (RowN w.heap.size w2 u11 (rowsP G x y wide r m)) := HO.out.below hb2
          have HB2 : Hid (Below w.heap.size w w2) := bl_then HB.out hb2
          have hsz2 : w.heap.size ≤ w2.heap.size := Nat.le_trans hszr hb2.size
          clear HC hb2 HO HB
          generalize G (x + (m : Int)) (y + (r : Int)) = g at *
          have hlen := HL.out
          have hblk : ∀ b, u11.ownBlock = some b → w.heap.size ≤ b := fun b hb => (World.ownsRow.lt HO2.out b hb).1
          have HR : Hid (∀ w' v', w'.ownsRow w.heap.size 2 1 v' ((rowsP G x y wide r m).length + 1) ((rowsP G x y wide r m).map (.int .i64 ·) ++ [.int .i64 g]) → RowN w.heap.size w' v' (rowsP G x y wide r (m + 1))) := fun w' v' h => by
            rw [HS.out]
            show World.ownsRow _ _ _ _ _ _ _
            rw [List.length_append, List.map_append]
            exact h
          clear HS HL
          go_wp2_with (first
            | (at_builtin; go_must (refine wpList_append_own _ rfl _ _ 37 rfl w.heap.size 2 i0 (.int .i64 0) 1 8 Tryz.underlying37 hi hz0 hz1 hz2 rfl (by decide) _ (rowsP G x y wide r m).length ((rowsP G x y wide r m).map (.int .i64 ·)) rfl (World.ownsRow.alloc HO2.out _) ⟨w2.heap.size, 0, none⟩ 1 1 [.int .i64 g] rfl rfl ?c1 ?c2 ?c3 ?c4 ?c5 ?_)))
          case c1 =>
            intro q u hq
            match q, hq with
            | 0, hq => simp at hq; subst hq; simp [Addr.add, go_sem]
            | q + 1, hq => simp at hq
          case c2 => intro u hu; simp at hu; subst hu; rfl
          case c3 => unfold maxLen; omega
          case c4 => omega
          case c5 => simp; omega
          intro v' w3 hown' hgrow hnil
          clear hnil
          generalize hV : (w2.alloc _ : World) = V at hgrow
          have hBV : Below w2.heap.size w2 V := by subst hV; (repeat (first | exact Below.refl _ _ | assumption | refine Below.drew ?_ | refine bl_alloc ?_ _ | refine bl_then ?_ (by assumption) | refine Below.setCell ?_ (by first | omega | (simp; done) | (simp; omega)) _ | refine bl_store ?_ ?_ _ _))
          have hBg : Below w.heap.size V w3 := (Below.refl _ _).grown hgrow (by have := hBV.size; omega) (fun k hk => hblk k hk)
          have HB3 : Hid (Below w.heap.size w w3) := HB2.out.trans ((hBV.mono hsz2).trans hBg)
          have HO3 : Hid (RowN w.heap.size w3 v' (rowsP G x y wide r (m + 1))) := HR.out _ _ hown'
          clear hown' hgrow hBg hBV hV HO2 HB2 HR hblk
          go_wp2
          go_roundw
          case rel => exact ⟨m + 1, by omega, by go_num, HO3.out, HB3.out⟩
          case measure => simp [intOf]; omega
        · have hmw : m = wide := by omega
          subst hmw
          rw [rowsP_full] at HO
          go_wp2_with fail
          go_roundw
          case rel => exact ⟨r + 1, by omega, by go_num, HO.out, HB.out⟩
          case measure => simp [intOf]; omega
    · have hrh : r = high := by omega
      subst hrh
      obtain ⟨av, cv, hvs, _, _⟩ := HO0.out.own
      have HV : Hid (∃ nv, u11 = .slice av nv cv) := ⟨_, hvs⟩
      go_wp2
      go_ret
      exact ⟨_, rfl, HO0.out, HB0.out⟩
end Go.Proofs.YtaodbplepegapaaGreat
/- The raster of a tile as far as that of one above it has it: the program. -/

namespace Go.Proofs.YtaodbplepegapaaGreat
open Go.RowKit
set_option linter.unusedSimpArgs false
set_option linter.unusedVariables false
set_option maxRecDepth 100000

set_option maxHeartbeats 2000000 in
theorem raster_any (f : Nat) (caps : Array Value) (z x y : Int) (G : Int → Int → Int) (w : World) (h : refB z x y = true) (hce : ∀ args w, (callFunc f args).run Tryz.prog w = .ok (.enter f args) w)
    (hF : ∀ W c r, Below w.heap.size w W → c < 8 → r < 8 → Calls Tryz.prog f (#[.int .i64 (x * 8 + (c : Nat)), .int .i64 (y * 8 + (r : Nat))] ++ caps) W fun e W' => e = .returned (.int .i64 (G (x * 8 + (c : Nat)) (y * 8 + (r : Nat)))) ∧ Below W.heap.size W W') :
    Calls Tryz.prog 49 #[refV z x y, .func (.func f) #[] caps] w fun e w' => ∃ v, e = .returned v ∧ RowN w.heap.size w' v (rowsL G (x * 8) (y * 8) 8 8) ∧ Below w.heap.size w w' := by
  obtain ⟨⟨z0, z1⟩, ⟨x0, x1⟩, y0, y1⟩ := ref_bd h
  have HF := (show Hid _ from hF)
  have HE := (show Hid _ from hce)
  clear hF hce h
  go_enter Tryz.func49, Tryz.ntmps49
  go_wp2_with fail
  generalize hW : (w.alloc _ : World) = W
  have hB0 : Below w.heap.size w W := by subst hW; (repeat (first | exact Below.refl _ _ | assumption | refine Below.drew ?_ | refine bl_alloc ?_ _ | refine bl_then ?_ (by assumption) | refine Below.setCell ?_ (by first | omega | (simp; done) | (simp; omega)) _ | refine bl_store ?_ ?_ _ _))
  clear hW
  refine (rowByRow_any f caps (x * 8) (y * 8) 8 8 G W (Nat.le_refl _) (Nat.le_refl _) (by omega) (by omega) HE.out (fun W' c r hb hc hr => HF.out W' c r (bl_then hB0 hb) hc hr)).mono ?_
  rintro e w' ⟨v, rfl, hO, hb⟩
  have HB : Hid (Below w.heap.size w w') := bl_then hB0 hb
  have HO : Hid (RowN w.heap.size w' v (rowsL G (x * 8) (y * 8) 8 8)) := hO.wide hB0.size
  clear hO hb hB0
  go_wp2_with fail
  go_ret
  exact ⟨_, rfl, HO.out, HB.out⟩
/-- The Id that a raster of the ref at fx, fy has for the pixel x, y, k zooms below. -/
def upI (k : Nat) (fx fy : Int) (Z : Nat → Int) (x y : Int) : Int := Z ((halv y k - fy * 8) * 8 + (halv x k - fx * 8)).toNat
theorem halv_pow (x : Int) {k : Nat} (hk : k ≤ 3) : halv x k = x / 2 ^ k := by
  have : k = 0 ∨ k = 1 ∨ k = 2 ∨ k = 3 := by omega
  rcases this with rfl | rfl | rfl | rfl <;> simp [halv] <;> omega
/-- Where in the raster above a pixel is. -/
theorem up_in {t f : Int} {c k : Nat} (hk : k ≤ 3) (hc : c < 8) (h : halv t k = f) : 0 ≤ halv (t * 8 + c) k - f * 8 ∧ halv (t * 8 + c) k - f * 8 ≤ 7 := by
  have : k = 0 ∨ k = 1 ∨ k = 2 ∨ k = 3 := by omega
  rcases this with rfl | rfl | rfl | rfl <;> simp [halv] at h ⊢ <;> omega
/-- The code that UpRaster tells. -/
def upC (n : Nat) (Z : Nat → Int) (fz fx fy tz tx ty : Int) : Int := if rasC n Z = 0 then (if refC fz fx fy = 0 then (if refC tz tx ty = 0 then (if holdB fz fx fy tz tx ty = true then 0 else 1) else 3) else 3) else rasC n Z
/-- The Ids that UpRaster tells. -/
def upL (n : Nat) (Z : Nat → Int) (fz fx fy tz tx ty : Int) : List Int := if upC n Z fz fx fy tz tx ty = 0 then rowsL (upI (tz - fz).toNat fx fy Z) (tx * 8) (ty * 8) 8 8 else []
/-- The first of three that is not 0. -/
def or3 (x y z : Int) : Int := if x = 0 then (if y = 0 then z else y) else x
set_option maxHeartbeats 2000000 in
theorem cmpOr3_any (b c : Nat) (x y z : Int) (w : World) (h0 : w.cell? ⟨b, 0, none⟩ = some (.int .i64 x)) (h1 : w.cell? ⟨b, 1, none⟩ = some (.int .i64 y)) (h2 : w.cell? ⟨b, 2, none⟩ = some (.int .i64 z)) :
    Calls Tryz.prog 44 #[.slice (some ⟨b, 0, none⟩) 3 c] w fun e w' => e = .returned (.int .i64 (or3 x y z)) ∧ w' = w := by
  unfold or3
  by_cases hx : x = 0
  · subst hx
    by_cases hy : y = 0
    · subst hy
      by_cases hz : z = 0
      · subst hz
        go_enter Tryz.func44, Tryz.ntmps44
        go_wp2
        refine wp_loop_rounds 4 ?_
        rw [rounds_succ]
        go_wp2
        rw [rounds_succ]
        go_wp2
        rw [rounds_succ]
        go_wp2
        rw [rounds_succ]
        go_wp2
        go_ret
        exact ⟨by simp, rfl⟩
      · have hz' : (z == 0) = false := by simpa using hz
        go_enter Tryz.func44, Tryz.ntmps44
        go_wp2
        refine wp_loop_rounds 3 ?_
        rw [rounds_succ]
        go_wp2
        rw [rounds_succ]
        go_wp2
        rw [rounds_succ]
        go_wp2
        go_ret
        exact ⟨by simp, rfl⟩
    · have hy' : (y == 0) = false := by simpa using hy
      go_enter Tryz.func44, Tryz.ntmps44
      go_wp2
      refine wp_loop_rounds 2 ?_
      rw [rounds_succ]
      go_wp2
      rw [rounds_succ]
      go_wp2
      go_ret
      exact ⟨by simp [hy], rfl⟩
  · have hx' : (x == 0) = false := by simpa using hx
    rw [if_neg hx]
    go_enter Tryz.func44, Tryz.ntmps44
    go_wp2
    refine wp_loop_rounds 1 ?_
    rw [rounds_succ]
    go_wp2
    go_ret
    exact ⟨rfl, rfl⟩
end Go.Proofs.YtaodbplepegapaaGreat
/- szPointS counts the points. -/

namespace Go.Proofs.YtaodbplepegapaaGreat
open Go.RowKit
set_option linter.unusedSimpArgs false
set_option linter.unusedVariables false

theorem szPointS_big (a : Option Addr) (n cap : Nat) (w : World) (hn : 1048576 < n) (hm : n ≤ maxLen) :
    Calls Tryz.prog 66 #[.slice a n cap, .int .i64 1048576] w fun e w' => e = .returned (.int .i64 (-1)) ∧ w' = w := by
  unfold maxLen at hm
  have hneg : (1048576 : Int) - (n : Int) < 0 := by omega
  go_enter Tryz.func66, Tryz.ntmps66
  go_wp2
  go_ret
  exact ⟨rfl, rfl⟩
theorem szPointS_small (a : Option Addr) (n cap : Nat) (w : World) (hn : n ≤ 1048576) :
    Calls Tryz.prog 66 #[.slice a n cap, .int .i64 1048576] w fun e w' => e = .returned (.int .i64 (1048576 - (n : Int))) ∧ w' = w := by
  have hneg : ¬ (1048576 : Int) - (n : Int) < 0 := by omega
  go_enter Tryz.func66, Tryz.ntmps66
  go_wp2
  go_ret
  exact ⟨rfl, rfl⟩

end Go.Proofs.YtaodbplepegapaaGreat
