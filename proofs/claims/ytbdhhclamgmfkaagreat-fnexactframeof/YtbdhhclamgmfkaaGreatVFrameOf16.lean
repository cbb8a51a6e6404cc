/- Several texts in one. -/
import Derived.Test.YtbdhhclamgmfkaaGreatVFrameOf15
import Derived.Deep.RegionHeld3
import Derived.Test.YtbdhhclamgmfkaaGreatVFrameOf14
import Derived.Test.YtbdhhclamgmfkaaGreatVFrameOf5
import Derived.WalkKit
import Derived.Test.YtbdhhclamgmfkaaGreatVFrameOf6
import Derived.Test.YtbdhhclamgmfkaaGreatRows
import Derived.Test.YtbdhhclamgmfkaaGreatVFrameOf1
import Derived.WalkSpells
import Derived.WalkLawsBesides
import Derived.Outline

/- A raster is filled, row by row, by what a function has at a pixel: the program. -/

namespace Go.Proofs.YtbdhhclamgmfkaaGreat
open Go.RowKit
set_option linter.unusedSimpArgs false
set_option linter.unusedVariables false
set_option maxRecDepth 100000

/-- What G has at the pixels of a window, row by row. -/
def rowsL (G : Int → Int → Int) (x y : Int) (wide high : Nat) : List Int := (List.range high).flatMap fun (r : Nat) => (List.range wide).map fun (c : Nat) => G (x + (c : Int)) (y + (r : Int))
def rowsP (G : Int → Int → Int) (x y : Int) (wide r c : Nat) : List Int := rowsL G x y wide r ++ (List.range c).map fun (c : Nat) => G (x + (c : Int)) (y + (r : Int))
theorem rowsL_len (G : Int → Int → Int) (x y : Int) (wide : Nat) : ∀ high, (rowsL G x y wide high).length = high * wide
  | 0 => by simp [rowsL]
  | h + 1 => by
    have := rowsL_len G x y wide h
    unfold rowsL at this ⊢
    rw [List.range_succ, List.flatMap_append, List.length_append, this]
    simp
    rw [Nat.add_mul]; omega
theorem rowsP_next (G : Int → Int → Int) (x y : Int) (wide r c : Nat) : rowsP G x y wide r (c + 1) = rowsP G x y wide r c ++ [G (x + (c : Int)) (y + (r : Int))] := by
  simp [rowsP, List.range_succ]
theorem rowsP_full (G : Int → Int → Int) (x y : Int) (wide r : Nat) : rowsP G x y wide r wide = rowsL G x y wide (r + 1) := by
  simp [rowsP, rowsL, List.range_succ]
theorem rowsP_zero (G : Int → Int → Int) (x y : Int) (wide r : Nat) : rowsP G x y wide r 0 = rowsL G x y wide r := by simp [rowsP]
theorem rowsP_len (G : Int → Int → Int) (x y : Int) (wide r c : Nat) : (rowsP G x y wide r c).length = r * wide + c := by
  simp [rowsP, rowsL_len]
set_option maxHeartbeats 4000000 in
theorem rowByRow_any (f : Nat) (caps : Array Value) (x y : Int) (wide high : Nat) (G : Int → Int → Int) (w : World) (hwide : wide ≤ 8) (hhigh : high ≤ 8) (hx : 0 ≤ x ∧ x ≤ 1000) (hy : 0 ≤ y ∧ y ≤ 1000) (hce : ∀ args w, (callFunc f args).run Tryz.prog w = .ok (.enter f args) w)
    (hF : ∀ W c r, Below w.heap.size w W → c < wide → r < high → Calls Tryz.prog f (#[.int .i64 (x + (c : Nat)), .int .i64 (y + (r : Nat))] ++ caps) W fun e W' => e = .returned (.int .i64 (G (x + (c : Nat)) (y + (r : Nat)))) ∧ Below W.heap.size W W') :
    Calls Tryz.prog 70 #[.int .i64 x, .int .i64 y, .int .i64 (wide : Int), .int .i64 (high : Int), .func (.func f) #[] caps] w fun e w' => ∃ v, e = .returned v ∧ RowN w.heap.size w' v (rowsL G x y wide high) ∧ Below w.heap.size w w' := by
  obtain ⟨i0, hi, hz0, hz1, hz2⟩ := info_parts info_n64
  have HF := (show Hid _ from hF)
  clear hF
  go_enter Tryz.func70, Tryz.ntmps70
  go_wp2_with fail
  go_loopw [11, 15] (fun v j wr => ∃ r : Nat, r ≤ high ∧ j = .int .i64 ((r : Nat) : Int) ∧ RowN w.heap.size wr v (rowsL G x y wide r) ∧ Below w.heap.size w wr) (fun _ j _ => high - (intOf j).toNat)
  case atStart => exact ⟨0, by omega, rfl, RowN.no _ _, Below.refl _ _⟩
  case round =>
    obtain ⟨r, hr, rfl, hO, hB⟩ := hrel
    have HO0 : Hid (RowN w.heap.size wr u11 (rowsL G x y wide r)) := hO
    have HB0 : Hid (Below w.heap.size w wr) := hB
    clear hO hB
    by_cases hlt : r < high
    · have hi' : (r : Int) < (high : Int) := by omega
      go_wp2_with fail
      go_loopw [11, 19] (fun v j wr => ∃ m : Nat, m ≤ wide ∧ j = .int .i64 (m : Int) ∧ RowN w.heap.size wr v (rowsP G x y wide r m) ∧ Below w.heap.size w wr) (fun _ j _ => wide - (intOf j).toNat)
      case atStart => exact ⟨0, by omega, rfl, by rw [rowsP_zero]; exact HO0.out, HB0.out⟩
      case round =>
        obtain ⟨m, hm, rfl, hO, hB⟩ := hrel
        have HO : Hid (RowN w.heap.size wr u11 (rowsP G x y wide r m)) := hO
        have HB : Hid (Below w.heap.size w wr) := hB
        have hszr : w.heap.size ≤ wr.heap.size := hB.size
        clear hO hB HO0 HB0
        by_cases hlm : m < wide
        · have hm' : (m : Int) < (wide : Int) := by omega
          have HC : Hid (Calls Tryz.prog f (#[.int .i64 (x + (m : Nat)), .int .i64 (y + (r : Nat))] ++ caps) wr fun e W' => e = .returned (.int .i64 (G (x + (m : Nat)) (y + (r : Nat)))) ∧ Below wr.heap.size wr W') := HF.out wr m r HB.out hlm hlt
          have HS : Hid (rowsP G x y wide r (m + 1) = rowsP G x y wide r m ++ [G (x + (m : Int)) (y + (r : Int))]) := rowsP_next _ _ _ _ _ _
          have HL : Hid ((rowsP G x y wide r m).length ≤ 64) := by
            show _ ≤ _
            rw [rowsP_len]
            have : r * wide ≤ 7 * 8 := Nat.mul_le_mul (by omega) hwide
            omega
          go_wp2_with fail
          refine Calls.mono HC.out ?_
          rintro e w2 ⟨rfl, hb2⟩
          have HO2 : Hid (RowN w.heap.size w2 u11 (rowsP G x y wide r m)) := HO.out.below hb2
          have HB2 : Hid (Below w.heap.size w w2) := bl_then HB.out hb2
          have hsz2 : w.heap.size ≤ w2.heap.size := Nat.le_trans hszr hb2.size
          clear HC hb2 HO HB
          generalize G (x + (m : Int)) (y + (r : Int)) = g at *
          have hlen := HL.out
          have hblk : ∀ b, u11.ownBlock = some b → w.heap.size ≤ b := fun b hb => (World.ownsRow.lt HO2.out b hb).1
          have HR : Hid (∀ w' v', w'.ownsRow w.heap.size 2 1 v' ((rowsP G x y wide r m).length + 1) ((rowsP G x y wide r m).map (.int .i64 ·) ++ [.int .i64 g]) → RowN w.heap.size w' v' (rowsP G x y wide r (m + 1))) := fun w' v' h => by
            rw [HS.out]
            show World.ownsRow _ _ _ _ _ _ _
            rw [List.length_append, List.map_append]
            exact h
          clear HS HL
          go_wp2_with (first
            | (at_builtin; go_must (refine wpList_append_own _ rfl _ _ 49 rfl w.heap.size 2 i0 (.int .i64 0) 1 8 Tryz.underlying49 hi hz0 hz1 hz2 rfl (by decide) _ (rowsP G x y wide r m).length ((rowsP G x y wide r m).map (.int .i64 ·)) rfl (World.ownsRow.alloc HO2.out _) ⟨w2.heap.size, 0, none⟩ 1 1 [.int .i64 g] rfl rfl ?c1 ?c2 ?c3 ?c4 ?c5 ?_)))
          case c1 =>
            intro q u hq
            match q, hq with
            | 0, hq => simp at hq; subst hq; simp [Addr.add, go_sem]
            | q + 1, hq => simp at hq
          case c2 => intro u hu; simp at hu; subst hu; rfl
          case c3 => unfold maxLen; omega
          case c4 => omega
          case c5 => simp; omega
          intro v' w3 hown' hgrow hnil
          clear hnil
          generalize hV : (w2.alloc _ : World) = V at hgrow
          have hBV : Below w2.heap.size w2 V := by subst hV; (repeat (first | exact Below.refl _ _ | assumption | refine Below.drew ?_ | refine bl_alloc ?_ _ | refine bl_then ?_ (by assumption) | refine Below.setCell ?_ (by first | omega | (simp; done) | (simp; omega)) _ | refine bl_store ?_ ?_ _ _))
          have hBg : Below w.heap.size V w3 := (Below.refl _ _).grown hgrow (by have := hBV.size; omega) (fun k hk => hblk k hk)
          have HB3 : Hid (Below w.heap.size w w3) := HB2.out.trans ((hBV.mono hsz2).trans hBg)
          have HO3 : Hid (RowN w.heap.size w3 v' (rowsP G x y wide r (m + 1))) := HR.out _ _ hown'
          clear hown' hgrow hBg hBV hV HO2 HB2 HR hblk
          go_wp2
          go_roundw
          case rel => exact ⟨m + 1, by omega, by go_num, HO3.out, HB3.out⟩
          case measure => simp [intOf]; omega
        · have hmw : m = wide := by omega
          subst hmw
          rw [rowsP_full] at HO
          go_wp2_with fail
          go_roundw
          case rel => exact ⟨r + 1, by omega, by go_num, HO.out, HB.out⟩
          case measure => simp [intOf]; omega
    · have hrh : r = high := by omega
      subst hrh
      obtain ⟨av, cv, hvs, _, _⟩ := HO0.out.own
      have HV : Hid (∃ nv, u11 = .slice av nv cv) := ⟨_, hvs⟩
      go_wp2
      go_ret
      exact ⟨_, rfl, HO0.out, HB0.out⟩
end Go.Proofs.YtbdhhclamgmfkaaGreat
/- The raster of a tile as far as that of one above it has it: the program. -/

namespace Go.Proofs.YtbdhhclamgmfkaaGreat
open Go.RowKit
set_option linter.unusedSimpArgs false
set_option linter.unusedVariables false
set_option maxRecDepth 100000

set_option maxHeartbeats 2000000 in
theorem raster_any (f : Nat) (caps : Array Value) (z x y : Int) (G : Int → Int → Int) (w : World) (h : refB z x y = true) (hce : ∀ args w, (callFunc f args).run Tryz.prog w = .ok (.enter f args) w)
    (hF : ∀ W c r, Below w.heap.size w W → c < 8 → r < 8 → Calls Tryz.prog f (#[.int .i64 (x * 8 + (c : Nat)), .int .i64 (y * 8 + (r : Nat))] ++ caps) W fun e W' => e = .returned (.int .i64 (G (x * 8 + (c : Nat)) (y * 8 + (r : Nat)))) ∧ Below W.heap.size W W') :
    Calls Tryz.prog 136 #[refV z x y, .func (.func f) #[] caps] w fun e w' => ∃ v, e = .returned v ∧ RowN w.heap.size w' v (rowsL G (x * 8) (y * 8) 8 8) ∧ Below w.heap.size w w' := by
  obtain ⟨⟨z0, z1⟩, ⟨x0, x1⟩, y0, y1⟩ := ref_bd h
  have HF := (show Hid _ from hF)
  have HE := (show Hid _ from hce)
  clear hF hce h
  go_enter Tryz.func136, Tryz.ntmps136
  go_wp2_with fail
  generalize hW : (w.alloc _ : World) = W
  have hB0 : Below w.heap.size w W := by subst hW; (repeat (first | exact Below.refl _ _ | assumption | refine Below.drew ?_ | refine bl_alloc ?_ _ | refine bl_then ?_ (by assumption) | refine Below.setCell ?_ (by first | omega | (simp; done) | (simp; omega)) _ | refine bl_store ?_ ?_ _ _))
  clear hW
  refine (rowByRow_any f caps (x * 8) (y * 8) 8 8 G W (Nat.le_refl _) (Nat.le_refl _) (by omega) (by omega) HE.out (fun W' c r hb hc hr => HF.out W' c r (bl_then hB0 hb) hc hr)).mono ?_
  rintro e w' ⟨v, rfl, hO, hb⟩
  have HB : Hid (Below w.heap.size w w') := bl_then hB0 hb
  have HO : Hid (RowN w.heap.size w' v (rowsL G (x * 8) (y * 8) 8 8)) := hO.wide hB0.size
  clear hO hb hB0
  go_wp2_with fail
  go_ret
  exact ⟨_, rfl, HO.out, HB.out⟩
/-- The Id that a raster of the ref at fx, fy has for the pixel x, y, k zooms below. -/
def upI (k : Nat) (fx fy : Int) (Z : Nat → Int) (x y : Int) : Int := Z ((halv y k - fy * 8) * 8 + (halv x k - fx * 8)).toNat
theorem halv_pow (x : Int) {k : Nat} (hk : k ≤ 3) : halv x k = x / 2 ^ k := by
  have : k = 0 ∨ k = 1 ∨ k = 2 ∨ k = 3 := by omega
  rcases this with rfl | rfl | rfl | rfl <;> simp [halv] <;> omega
set_option maxHeartbeats 2000000 in
/-- The Id that a raster has at a pixel of its own zoom or of one below. -/
theorem idIn_any (b off cap k : Nat) (fz fx fy z x y : Int) (Z : Nat → Int) (w : World) (hk : k ≤ 3) (hzk : z - fz = (k : Int)) (hfz : 0 ≤ fz ∧ fz ≤ 3)
    (hz : NsAt w b off 64 Z) (hb : b < w.heap.size) (hfx : 0 ≤ fx ∧ fx ≤ 7) (hfy : 0 ≤ fy ∧ fy ≤ 7) (hx : 0 ≤ x ∧ x ≤ 1000) (hy : 0 ≤ y ∧ y ≤ 1000)
    (hi : 0 ≤ halv x k - fx * 8 ∧ halv x k - fx * 8 ≤ 7) (hj : 0 ≤ halv y k - fy * 8 ∧ halv y k - fy * 8 ≤ 7) :
    Calls Tryz.prog 103 #[refV fz fx fy, .slice (some ⟨b, off, none⟩) 64 cap, .int .i64 z, .int .i64 x, .int .i64 y] w fun e w' => e = .returned (.int .i64 (upI k fx fy Z x y)) ∧ Below w.heap.size w w' := by
  obtain ⟨xi, hxi⟩ : ∃ i : Int, halv x k - fx * 8 = i := ⟨_, rfl⟩
  obtain ⟨yi, hyi⟩ : ∃ i : Int, halv y k - fy * 8 = i := ⟨_, rfl⟩
  have HU : Hid (upI k fx fy Z x y = Z (yi * 8 + xi).toNat) := by show _ = _; unfold upI; rw [hxi, hyi]
  rw [hxi] at hi
  rw [hyi] at hj
  have e1 : x / 2 ^ k - fx * 8 = xi := by rw [← halv_pow _ hk]; exact hxi
  have e2 : y / 2 ^ k - fy * 8 = yi := by rw [← halv_pow _ hk]; exact hyi
  obtain ⟨xk, hxk⟩ : ∃ i : Int, x / 2 ^ k = i := ⟨_, rfl⟩
  obtain ⟨yk, hyk⟩ : ∃ i : Int, y / 2 ^ k = i := ⟨_, rfl⟩
  rw [hxk] at e1
  rw [hyk] at e2
  have kk : ∀ W', Below w.heap.size w W' → W'.cell? ⟨b, off + (yi * 8 + xi).toNat, none⟩ = some (.int .i64 (Z (yi * 8 + xi).toNat)) := fun W' h => bl_cellN h (hz _ (by omega))
  have hk0 : (0 : Int) ≤ (k : Int) := by omega
  have hk1 : (k : Int) ≤ 64 := by omega
  have s0 : IntKind.i64.wrap xi = xi := IntWalk.i64_in _ (by omega)
  have s1 : IntKind.i64.wrap yi = yi := IntWalk.i64_in _ (by omega)
  have m0 : IntKind.i64.wrap (fx * 8) = fx * 8 := IntWalk.i64_in _ (by omega)
  have m1 : IntKind.i64.wrap (fy * 8) = fy * 8 := IntWalk.i64_in _ (by omega)
  have HZ : Hid (z - fz = (k : Int)) := hzk
  have hz3 : z ≤ 6 := by omega
  have hz0 : 0 ≤ z := by omega
  clear hxi hyi hz hzk
  go_enter Tryz.func103, Tryz.ntmps103
  go_wp2_with fail
  generalize hW : (w.alloc _ : World) = W
  have hB0 : Below w.heap.size w W := by subst hW; (repeat (first | exact Below.refl _ _ | assumption | refine Below.drew ?_ | refine bl_alloc ?_ _ | refine bl_then ?_ (by assumption) | refine Below.setCell ?_ (by first | omega | (simp; done) | (simp; omega)) _ | refine bl_store ?_ ?_ _ _))
  have c0 : W.cell? ⟨w.heap.size, 0, none⟩ = some (.int .i64 fz) := by subst hW; simp [go_sem]
  have c1 : W.cell? ⟨w.heap.size, 1, none⟩ = some (.int .i64 fx) := by subst hW; simp [go_sem]
  have c2 : W.cell? ⟨w.heap.size, 2, none⟩ = some (.int .i64 fy) := by subst hW; simp [go_sem]
  clear hW
  have k1 : ∀ W', Below W.heap.size W W' → W'.cell? ⟨w.heap.size, 1, none⟩ = some (.int .i64 fx) := fun W' h => bl_cellN h c1
  have k2 : ∀ W', Below W.heap.size W W' → W'.cell? ⟨w.heap.size, 2, none⟩ = some (.int .i64 fy) := fun W' h => bl_cellN h c2
  have hkk : z - fz = (k : Int) := HZ.out
  go_wp2_with fail
  simp only [hkk]
  clear hkk
  go_wp2_with fail
  go_region_held3 (fun W' => Below W.heap.size W W') ((repeat (first | exact Below.refl _ _ | assumption | refine Below.drew ?_ | refine bl_alloc ?_ _ | refine bl_then ?_ (by assumption) | refine Below.setCell ?_ (by first | omega | (simp; done) | (simp; omega)) _ | refine bl_store ?_ ?_ _ _))) (fail)
  have hd : Below w.heap.size w W.drew := bl_then hB0 (by (repeat (first | exact Below.refl _ _ | assumption | refine Below.drew ?_ | refine bl_alloc ?_ _ | refine bl_then ?_ (by assumption) | refine Below.setCell ?_ (by first | omega | (simp; done) | (simp; omega)) _ | refine bl_store ?_ ?_ _ _)))
  have gk := kk _ hd
  have hix : (0 : Int) ≤ yi * 8 + xi := by omega
  have hix' : yi * 8 + xi < 64 := by omega
  clear k1 k2 c0 c1 c2 kk e1 e2 hxk hyk m0 m1 s0 s1
  generalize (W.drew : World) = V at *
  go_wp2
  go_ret
  exact ⟨ret_int HU.out.symm, by assumption⟩
end Go.Proofs.YtbdhhclamgmfkaaGreat
/- The first of a list of codes that is not 0. -/

namespace Go.Proofs.YtbdhhclamgmfkaaGreat
/-- The first that is not 0. -/
def scanC (c : Nat → Int) : Nat → Nat → Int
  | _, 0 => 0
  | i, k + 1 => if c i ≠ 0 then c i else scanC c (i + 1) k
theorem scan_first (c : Nat → Int) : ∀ (m i k : Nat), (∀ j, i ≤ j → j < k → c j = 0) → i ≤ k → k < i + m → c k ≠ 0 → scanC c i m = c k
  | 0, i, k, _, h1, h2, _ => by omega
  | m + 1, i, k, h, h1, h2, hne => by
    rw [scanC]
    by_cases e : i = k
    · subst e; rw [if_pos hne]
    · rw [if_neg (by rw [h i (Nat.le_refl _) (by omega)]; simp)]
      exact scan_first c m (i + 1) k (fun j hj => h j (by omega)) (by omega) (by omega) hne
theorem scan_none (c : Nat → Int) : ∀ (m i : Nat), (∀ j, i ≤ j → j < i + m → c j = 0) → scanC c i m = 0
  | 0, _, _ => rfl
  | m + 1, i, h => by
    rw [scanC, if_neg (by rw [h i (Nat.le_refl _) (by omega)]; simp)]
    exact scan_none c m (i + 1) (fun j hj hj' => h j (by omega) (by omega))
theorem scan_congr (c d : Nat → Int) : ∀ (m i : Nat), (∀ j, i ≤ j → j < i + m → c j = d j) → scanC c i m = scanC d i m
  | 0, _, _ => rfl
  | m + 1, i, h => by
    rw [scanC, scanC, h i (Nat.le_refl _) (by omega), scan_congr c d m (i + 1) (fun j hj hj' => h j (by omega) (by omega))]
theorem scan_zero (c : Nat → Int) : ∀ (m i : Nat), scanC c i m = 0 → ∀ j, i ≤ j → j < i + m → c j = 0
  | 0, i, _, j, h1, h2 => by omega
  | m + 1, i, h, j, h1, h2 => by
    rw [scanC] at h
    by_cases hc : c i ≠ 0
    · rw [if_pos hc] at h; exact absurd h hc
    · rw [if_neg hc] at h
      by_cases e : j = i
      · subst e; simpa using hc
      · exact scan_zero c m (i + 1) h j (by omega) (by omega)
end Go.Proofs.YtbdhhclamgmfkaaGreat
/- The fault of a list of features: the program and the model. -/

namespace Go.Proofs.YtbdhhclamgmfkaaGreat
open Go.RowKit
set_option linter.unusedSimpArgs false
set_option linter.unusedVariables false
set_option maxRecDepth 100000

/-- What is not right of one feature of a list. -/
noncomputable def codeAt (G : Nat → Feat) (i : Nat) : Int := by
  classical exact if featC (G i).id (G i).la (G i).ki (G i).wi (G i).n (G i).X (G i).Y (G i).lab (G i).pr ≠ 0 then featC (G i).id (G i).la (G i).ki (G i).wi (G i).n (G i).X (G i).Y (G i).lab (G i).pr else if ∃ j, j < i ∧ (G j).id = (G i).id then 6 else 0
noncomputable def featsC (n : Nat) (G : Nat → Feat) : Int := if 12 < n then 2 else scanC (codeAt G) 0 n
theorem codeAt_fault {G : Nat → Feat} {i : Nat} (h : featC (G i).id (G i).la (G i).ki (G i).wi (G i).n (G i).X (G i).Y (G i).lab (G i).pr ≠ 0) : codeAt G i = featC (G i).id (G i).la (G i).ki (G i).wi (G i).n (G i).X (G i).Y (G i).lab (G i).pr := by unfold codeAt; rw [if_pos h]
theorem codeAt_taken {G : Nat → Feat} {i : Nat} (h : featC (G i).id (G i).la (G i).ki (G i).wi (G i).n (G i).X (G i).Y (G i).lab (G i).pr = 0) (h2 : ∃ j, j < i ∧ (G j).id = (G i).id) : codeAt G i = 6 := by unfold codeAt; rw [if_neg (by simp [h]), if_pos h2]
theorem codeAt_ok {G : Nat → Feat} {i : Nat} (h : featC (G i).id (G i).la (G i).ki (G i).wi (G i).n (G i).X (G i).Y (G i).lab (G i).pr = 0) (h2 : ¬ ∃ j, j < i ∧ (G j).id = (G i).id) : codeAt G i = 0 := by unfold codeAt; rw [if_neg (by simp [h]), if_neg h2]
theorem codeAt_same {G H : Nat → Feat} {n i : Nat} (h : ∀ j, j < n → (G j).same (H j)) (hi : i < n) : codeAt G i = codeAt H i := by
  obtain ⟨s1, s2, s3, s4, s5, s6, s7, s8, s9⟩ := h i hi
  have e : (∃ j, j < i ∧ (G j).id = (G i).id) ↔ (∃ j, j < i ∧ (H j).id = (H i).id) := by
    constructor
    · rintro ⟨j, hj, e⟩; exact ⟨j, hj, by rw [← (h j (by omega)).1, ← s1]; exact e⟩
    · rintro ⟨j, hj, e⟩; exact ⟨j, hj, by rw [(h j (by omega)).1, s1]; exact e⟩
  unfold codeAt
  rw [s1, s2, s3, s4, s5, s6, s7, s8, s9]
  rw [s1] at e
  simp only [e]
theorem featsC_same {G H : Nat → Feat} {n : Nat} (h : ∀ j, j < n → (G j).same (H j)) : featsC n G = featsC n H := by
  unfold featsC
  rw [scan_congr (codeAt G) (codeAt H) n 0 (fun j _ hj => codeAt_same h (by omega))]

set_option maxHeartbeats 4000000 in
theorem l2Many_any (b n cap : Nat) (G : Nat → Feat) (w : World) (hg : FsAt w b 0 n G) (hbl : b < w.heap.size) (hs : SmallFs n G) :
    Calls Tryz.prog 106 #[.slice (some ⟨b, 0, none⟩) n cap] w fun e w' => e = .returned (.int .i64 (featsC n G)) ∧ Below w.heap.size w w' := by
  have HG : Hid (FsAt w b 0 n G) := hg
  have HS : Hid (SmallFs n G) := hs
  have hn := hs.1
  clear hg hs
  by_cases h12 : (12 : Int) < n
  · have hz : Hid (featsC n G = 2) := by show _ = _; unfold featsC; rw [if_pos (by omega)]
    go_enter Tryz.func106, Tryz.ntmps106
    go_wp2
    go_ret
    exact ⟨ret_int hz.out.symm, by (repeat (first | exact Below.refl _ _ | assumption | refine Below.drew ?_ | refine bl_alloc ?_ _ | refine bl_then ?_ (by assumption) | refine Below.setCell ?_ (by first | omega | (simp; done) | (simp; omega)) _ | refine bl_store ?_ ?_ _ _))⟩
  · have hz : Hid (featsC n G = scanC (codeAt G) 0 n) := by show _ = _; unfold featsC; rw [if_neg (by omega)]
    go_enter Tryz.func106, Tryz.ntmps106
    go_wp2
    go_loopw [3] (fun v wr => ∃ k : Nat, k ≤ n ∧ v = .int .i64 k ∧ (∀ j, j < k → codeAt G j = 0) ∧ Below w.heap.size w wr) (fun v _ => n - (intOf v).toNat)
    case atStart => exact ⟨0, by omega, rfl, by omega, Below.refl _ _⟩
    case round =>
      obtain ⟨k, hk, rfl, hA, hB⟩ := hrel
      have HB : Hid (Below w.heap.size w wr) := hB
      have HA : Hid (∀ j, j < k → codeAt G j = 0) := hA
      by_cases hlt : k < n
      · have HGr : Hid (FsAt wr b 0 n G) := HG.out.below hB hbl
        have hblr : b < wr.heap.size := Nat.lt_of_lt_of_le hbl hB.size
        obtain ⟨hF, hP⟩ := HGr.out k hlt
        rw [Nat.zero_add] at hF
        have HF : Hid (FeatAt wr b (k * 7) (G k).id (G k).la (G k).ki (G k).wi (.slice (G k).a (G k).n (G k).cap) (G k).lab (G k).pr) := hF
        have HP : Hid (IsPts wr (G k).a (G k).n (G k).X (G k).Y) := hP
        obtain ⟨z1, z2⟩ := HS.out.2 k hlt
        have HLT : Hid (k < n) := hlt
        clear hB hA hF hP
        have hi : (k : Int) < (n : Int) := by omega
        have hi0 : (0 : Int) ≤ (k : Int) := by omega
        go_wp2_with fail
        refine (l2Fault_any b (k * 7) _ _ _ _ _ _ _ (G k).X (G k).Y _ _ _ HF.out HP.out z2 z1).mono ?_
        rintro e w1 ⟨rfl, hb1⟩
        by_cases hc : featC (G k).id (G k).la (G k).ki (G k).wi (G k).n (G k).X (G k).Y (G k).lab (G k).pr = 0
        · rw [hc]
          have HC : Hid (featC (G k).id (G k).la (G k).ki (G k).wi (G k).n (G k).X (G k).Y (G k).lab (G k).pr = 0) := hc
          have d0 : ∀ W', Below w1.heap.size w1 W' → W'.cell? ⟨b, k * 7, none⟩ = some (.int .i64 (G k).id) := fun W' h => ((HF.out.below hb1 hblr).below h (Nat.lt_of_lt_of_le hblr hb1.size)).1
          have HG1 : Hid (FsAt w1 b 0 n G) := HGr.out.below hb1 hblr
          have hbl1 : b < w1.heap.size := Nat.lt_of_lt_of_le hblr hb1.size
          have HB1 : Hid (Below w.heap.size w w1) := bl_then HB.out hb1
          clear hc hb1
          have hr1 : Below w1.heap.size w1 w1 := Below.refl _ _
          go_wp2_with fail
          refine (l2At_any b n cap G k _ HLT.out HG1.out hbl1 hn).mono ?_
          rintro e w2 ⟨⟨r, hr, hre, hrl, rfl⟩, hb2⟩
          have HB2 : Hid (Below w.heap.size w w2) := bl_then HB1.out hb2
          clear hb2
          by_cases hrk : r = k
          · subst hrk
            have hok : codeAt G r = 0 := codeAt_ok HC.out (fun ⟨j, hj, hje⟩ => hrl j hj hje)
            have HOK : Hid (codeAt G r = 0) := hok
            clear hok hre hrl
            go_wp2
            go_roundw
            case rel => exact ⟨r + 1, by have := HLT.out; omega, by go_num, fun j hj => by
                by_cases e : j = r
                · rw [e]; exact HOK.out
                · exact HA.out j (by omega), HB2.out⟩
            case measure => have := HLT.out; simp [intOf]; omega
          · have hne : (((r : Nat) : Int) == ((k : Nat) : Int)) = false := by simp; omega
            have htk : Hid (codeAt G k = 6) := codeAt_taken HC.out ⟨r, by omega, hre⟩
            have hsc : Hid (featsC n G = 6) := by
              show _ = _
              rw [hz.out, scan_first (codeAt G) n 0 k (fun j _ hj => HA.out j hj) (by omega) (by have := HLT.out; omega) (by rw [htk.out]; decide), htk.out]
            clear hre hrl
            go_wp2
            go_ret
            exact ⟨ret_int hsc.out.symm, HB2.out⟩
        · have hsc : Hid (featsC n G = featC (G k).id (G k).la (G k).ki (G k).wi (G k).n (G k).X (G k).Y (G k).lab (G k).pr) := by
            show _ = _
            have h6 := codeAt_fault hc
            rw [hz.out, scan_first (codeAt G) n 0 k (fun j _ hj => HA.out j hj) (by omega) (by have := HLT.out; omega) (by rw [h6]; exact hc), h6]
          have hcb : (featC (G k).id (G k).la (G k).ki (G k).wi (G k).n (G k).X (G k).Y (G k).lab (G k).pr == 0) = false := by simpa using hc
          have HB1 : Hid (Below w.heap.size w w1) := bl_then HB.out hb1
          clear hc hb1
          go_wp2
          go_ret
          exact ⟨ret_int hsc.out.symm, HB1.out⟩
      · have hsc : Hid (featsC n G = 0) := by
          show _ = _
          rw [hz.out]
          exact scan_none _ _ _ (fun j _ hj => HA.out j (by omega))
        go_wp2
        go_ret
        exact ⟨ret_int hsc.out.symm, HB.out⟩
end Go.Proofs.YtbdhhclamgmfkaaGreat
/- Features as answers: they are compared, marked, and the marks are found again. -/

namespace Go.Proofs.YtbdhhclamgmfkaaGreat
open Go.RowKit
set_option linter.unusedSimpArgs false
set_option linter.unusedVariables false
set_option maxRecDepth 100000

end Go.Proofs.YtbdhhclamgmfkaaGreat
/- The order by layer, of the same by id: places are sorted, and there is one sorted list alone. No program in sight. -/

namespace Go.Proofs.YtbdhhclamgmfkaaGreat

/-- No two places have the same id. -/
def apartK (I : Nat → Int) (n : Nat) : Prop := ∀ i j, i < n → j < n → I i = I j → i = j
end Go.Proofs.YtbdhhclamgmfkaaGreat
/- Rows of features: their cells; two lists of the same features are compared. -/

namespace Go.Proofs.YtbdhhclamgmfkaaGreat
open Go.RowKit
set_option linter.unusedSimpArgs false
set_option linter.unusedVariables false
set_option maxRecDepth 100000

/-- The cells of a feature. -/
def fcell (f : Feat) : List Value := [.int .i64 f.id, .int .i64 f.la, .int .i64 f.ki, .int .i64 f.wi, .slice f.a f.n f.cap, .string f.lab, .int .i64 f.pr]
theorem featsC_ok {n : Nat} {G : Nat → Feat} (h : featsC n G = 0) : n ≤ 12 ∧ apartK (fun i => (G i).id) n ∧ ∀ i, i < n → featC (G i).id (G i).la (G i).ki (G i).wi (G i).n (G i).X (G i).Y (G i).lab (G i).pr = 0 := by
  unfold featsC at h
  by_cases h12 : 12 < n
  · rw [if_pos h12] at h; cases h
  · rw [if_neg h12] at h
    have hz := scan_zero _ _ _ h
    have hA : ∀ i, i < n → featC (G i).id (G i).la (G i).ki (G i).wi (G i).n (G i).X (G i).Y (G i).lab (G i).pr = 0 ∧ ¬ ∃ j, j < i ∧ (G j).id = (G i).id := fun i hi => by
      have := hz i (Nat.zero_le _) (by omega)
      unfold codeAt at this
      by_cases hf : featC (G i).id (G i).la (G i).ki (G i).wi (G i).n (G i).X (G i).Y (G i).lab (G i).pr ≠ 0
      · rw [if_pos hf] at this; exact absurd this hf
      · rw [if_neg hf] at this
        by_cases hj : ∃ j, j < i ∧ (G j).id = (G i).id
        · rw [if_pos hj] at this; cases this
        · exact ⟨by simpa using hf, hj⟩
    refine ⟨by omega, fun i j hi hj e => ?_, fun i hi => (hA i hi).1⟩
    rcases Nat.lt_trichotomy i j with h | h | h
    · exact absurd ⟨i, h, e⟩ (hA j hj).2
    · exact h
    · exact absurd ⟨j, h, e.symm⟩ (hA i hi).2

end Go.Proofs.YtbdhhclamgmfkaaGreat
/- Numbers are compared; only new blocks are laid. -/

namespace Go.Proofs.YtbdhhclamgmfkaaGreat
open Go.RowKit
set_option linter.unusedSimpArgs false
set_option linter.unusedVariables false
set_option maxRecDepth 100000

def cmpI (x y : Int) : Int := if x < y then -1 else if y < x then 1 else 0
theorem cmpCompare_any (x y : Int) (w : World) : Calls Tryz.prog 167 #[.int .i64 x, .int .i64 y] w fun e w' => e = .returned (.int .i64 (cmpI x y)) ∧ w' = w := by
  unfold cmpI
  by_cases h1 : x < y
  · rw [if_pos h1]
    go_enter Tryz.func167, Tryz.ntmps167
    go_wp2
    go_ret
    exact ⟨rfl, rfl⟩
  · rw [if_neg h1]
    by_cases h2 : y < x
    · rw [if_pos h2]
      go_enter Tryz.func167, Tryz.ntmps167
      go_wp2
      go_ret
      exact ⟨rfl, rfl⟩
    · rw [if_neg h2]
      go_enter Tryz.func167, Tryz.ntmps167
      go_wp2
      go_ret
      exact ⟨rfl, rfl⟩
/-- Only new blocks, and draws. -/
def Gro (V W' : World) : Prop := Below V.heap.size V W' ∧ V.drawn ≤ W'.drawn
theorem Gro.refl (V : World) : Gro V V := ⟨Below.refl _ _, Nat.le_refl _⟩
theorem Gro.trans {a b c : World} (h : Gro a b) (k : Gro b c) : Gro a c := ⟨bl_then h.1 k.1, Nat.le_trans h.2 k.2⟩
theorem Gro.alloc {a b : World} (h : Gro a b) (o : Obj) : Gro a (b.alloc o) := ⟨bl_alloc h.1 o, h.2⟩
theorem Gro.drew {a b : World} (h : Gro a b) : Gro a b.drew := ⟨h.1.drew, Nat.le_trans h.2 (Nat.le_succ _)⟩
end Go.Proofs.YtbdhhclamgmfkaaGreat
