/- Several texts in one. -/
import Derived.Test.YtcpdcmjldofbkaaGreatVViewerFault16
import Derived.Test.YtcpdcmjldofbkaaGreatVViewerFault17
import Derived.Test.YtcpdcmjldofbkaaGreatVViewerFault6
import Derived.WalkKit
import Derived.Test.YtcpdcmjldofbkaaGreatVViewerFault7
import Derived.Test.YtcpdcmjldofbkaaGreatVViewerFault8

/- The raster of a tile as far as that of one above it has it: the program. -/

namespace Go.Proofs.YtcpdcmjldofbkaaGreat
open Go.RowKit
set_option linter.unusedSimpArgs false
set_option linter.unusedVariables false
set_option maxRecDepth 100000

set_option maxHeartbeats 2000000 in
theorem raster_any (f : Nat) (caps : Array Value) (z x y : Int) (G : Int → Int → Int) (w : World) (h : refB z x y = true) (hce : ∀ args w, (callFunc f args).run Tryz.prog w = .ok (.enter f args) w)
    (hF : ∀ W c r, Below w.heap.size w W → c < 8 → r < 8 → Calls Tryz.prog f (#[.int .i64 (x * 8 + (c : Nat)), .int .i64 (y * 8 + (r : Nat))] ++ caps) W fun e W' => e = .returned (.int .i64 (G (x * 8 + (c : Nat)) (y * 8 + (r : Nat)))) ∧ Below W.heap.size W W') :
    Calls Tryz.prog 118 #[refV z x y, .func (.func f) #[] caps] w fun e w' => ∃ v, e = .returned v ∧ RowN w.heap.size w' v (rowsL G (x * 8) (y * 8) 8 8) ∧ Below w.heap.size w w' := by
  obtain ⟨⟨z0, z1⟩, ⟨x0, x1⟩, y0, y1⟩ := ref_bd h
  have HF := (show Hid _ from hF)
  have HE := (show Hid _ from hce)
  clear hF hce h
  go_enter Tryz.func118, Tryz.ntmps118
  go_wp2_with fail
  generalize hW : (w.alloc _ : World) = W
  have hB0 : Below w.heap.size w W := by subst hW; (repeat (first | exact Below.refl _ _ | assumption | refine Below.drew ?_ | refine bl_alloc ?_ _ | refine bl_then ?_ (by assumption) | refine Below.setCell ?_ (by first | omega | (simp; done) | (simp; omega)) _ | refine bl_store ?_ ?_ _ _))
  clear hW
  refine (rowByRow_any f caps (x * 8) (y * 8) 8 8 G W (Nat.le_refl _) (Nat.le_refl _) (by omega) (by omega) HE.out (fun W' c r hb hc hr => HF.out W' c r (bl_then hB0 hb) hc hr)).mono ?_
  rintro e w' ⟨v, rfl, hO, hb⟩
  have HB : Hid (Below w.heap.size w w') := bl_then hB0 hb
  have HO : Hid (RowN w.heap.size w' v (rowsL G (x * 8) (y * 8) 8 8)) := hO.wide hB0.size
  clear hO hb hB0
  go_wp2_with fail
  go_ret
  exact ⟨_, rfl, HO.out, HB.out⟩
/-- The Id that a raster of the ref at fx, fy has for the pixel x, y, k zooms below. -/
def upI (k : Nat) (fx fy : Int) (Z : Nat → Int) (x y : Int) : Int := Z ((halv y k - fy * 8) * 8 + (halv x k - fx * 8)).toNat
theorem halv_pow (x : Int) {k : Nat} (hk : k ≤ 3) : halv x k = x / 2 ^ k := by
  have : k = 0 ∨ k = 1 ∨ k = 2 ∨ k = 3 := by omega
  rcases this with rfl | rfl | rfl | rfl <;> simp [halv] <;> omega
/-- Where in the raster above a pixel is. -/
theorem up_in {t f : Int} {c k : Nat} (hk : k ≤ 3) (hc : c < 8) (h : halv t k = f) : 0 ≤ halv (t * 8 + c) k - f * 8 ∧ halv (t * 8 + c) k - f * 8 ≤ 7 := by
  have : k = 0 ∨ k = 1 ∨ k = 2 ∨ k = 3 := by omega
  rcases this with rfl | rfl | rfl | rfl <;> simp [halv] at h ⊢ <;> omega
/-- The code that UpRaster tells. -/
def upC (n : Nat) (Z : Nat → Int) (fz fx fy tz tx ty : Int) : Int := if rasC n Z = 0 then (if refC fz fx fy = 0 then (if refC tz tx ty = 0 then (if holdB fz fx fy tz tx ty = true then 0 else 1) else 3) else 3) else rasC n Z
/-- The Ids that UpRaster tells. -/
def upL (n : Nat) (Z : Nat → Int) (fz fx fy tz tx ty : Int) : List Int := if upC n Z fz fx fy tz tx ty = 0 then rowsL (upI (tz - fz).toNat fx fy Z) (tx * 8) (ty * 8) 8 8 else []
end Go.Proofs.YtcpdcmjldofbkaaGreat
/- The first of a list of codes that is not 0. -/

namespace Go.Proofs.YtcpdcmjldofbkaaGreat
/-- The first that is not 0. -/
def scanC (c : Nat → Int) : Nat → Nat → Int
  | _, 0 => 0
  | i, k + 1 => if c i ≠ 0 then c i else scanC c (i + 1) k
theorem scan_first (c : Nat → Int) : ∀ (m i k : Nat), (∀ j, i ≤ j → j < k → c j = 0) → i ≤ k → k < i + m → c k ≠ 0 → scanC c i m = c k
  | 0, i, k, _, h1, h2, _ => by omega
  | m + 1, i, k, h, h1, h2, hne => by
    rw [scanC]
    by_cases e : i = k
    · subst e; rw [if_pos hne]
    · rw [if_neg (by rw [h i (Nat.le_refl _) (by omega)]; simp)]
      exact scan_first c m (i + 1) k (fun j hj => h j (by omega)) (by omega) (by omega) hne
theorem scan_none (c : Nat → Int) : ∀ (m i : Nat), (∀ j, i ≤ j → j < i + m → c j = 0) → scanC c i m = 0
  | 0, _, _ => rfl
  | m + 1, i, h => by
    rw [scanC, if_neg (by rw [h i (Nat.le_refl _) (by omega)]; simp)]
    exact scan_none c m (i + 1) (fun j hj hj' => h j (by omega) (by omega))
theorem scan_congr (c d : Nat → Int) : ∀ (m i : Nat), (∀ j, i ≤ j → j < i + m → c j = d j) → scanC c i m = scanC d i m
  | 0, _, _ => rfl
  | m + 1, i, h => by
    rw [scanC, scanC, h i (Nat.le_refl _) (by omega), scan_congr c d m (i + 1) (fun j hj hj' => h j (by omega) (by omega))]
theorem scan_zero (c : Nat → Int) : ∀ (m i : Nat), scanC c i m = 0 → ∀ j, i ≤ j → j < i + m → c j = 0
  | 0, i, _, j, h1, h2 => by omega
  | m + 1, i, h, j, h1, h2 => by
    rw [scanC] at h
    by_cases hc : c i ≠ 0
    · rw [if_pos hc] at h; exact absurd h hc
    · rw [if_neg hc] at h
      by_cases e : j = i
      · subst e; simpa using hc
      · exact scan_zero c m (i + 1) h j (by omega) (by omega)
end Go.Proofs.YtcpdcmjldofbkaaGreat
/- The fault of a list of features: the program and the model. -/

namespace Go.Proofs.YtcpdcmjldofbkaaGreat
open Go.RowKit
set_option linter.unusedSimpArgs false
set_option linter.unusedVariables false
set_option maxRecDepth 100000

/-- What is not right of one feature of a list. -/
noncomputable def codeAt (G : Nat → Feat) (i : Nat) : Int := by
  classical exact if featC (G i).id (G i).la (G i).ki (G i).wi (G i).n (G i).X (G i).Y (G i).lab (G i).pr ≠ 0 then featC (G i).id (G i).la (G i).ki (G i).wi (G i).n (G i).X (G i).Y (G i).lab (G i).pr else if ∃ j, j < i ∧ (G j).id = (G i).id then 6 else 0
noncomputable def featsC (n : Nat) (G : Nat → Feat) : Int := if 12 < n then 2 else scanC (codeAt G) 0 n
theorem codeAt_fault {G : Nat → Feat} {i : Nat} (h : featC (G i).id (G i).la (G i).ki (G i).wi (G i).n (G i).X (G i).Y (G i).lab (G i).pr ≠ 0) : codeAt G i = featC (G i).id (G i).la (G i).ki (G i).wi (G i).n (G i).X (G i).Y (G i).lab (G i).pr := by unfold codeAt; rw [if_pos h]
theorem codeAt_taken {G : Nat → Feat} {i : Nat} (h : featC (G i).id (G i).la (G i).ki (G i).wi (G i).n (G i).X (G i).Y (G i).lab (G i).pr = 0) (h2 : ∃ j, j < i ∧ (G j).id = (G i).id) : codeAt G i = 6 := by unfold codeAt; rw [if_neg (by simp [h]), if_pos h2]
theorem codeAt_ok {G : Nat → Feat} {i : Nat} (h : featC (G i).id (G i).la (G i).ki (G i).wi (G i).n (G i).X (G i).Y (G i).lab (G i).pr = 0) (h2 : ¬ ∃ j, j < i ∧ (G j).id = (G i).id) : codeAt G i = 0 := by unfold codeAt; rw [if_neg (by simp [h]), if_neg h2]
theorem codeAt_same {G H : Nat → Feat} {n i : Nat} (h : ∀ j, j < n → (G j).same (H j)) (hi : i < n) : codeAt G i = codeAt H i := by
  obtain ⟨s1, s2, s3, s4, s5, s6, s7, s8, s9⟩ := h i hi
  have e : (∃ j, j < i ∧ (G j).id = (G i).id) ↔ (∃ j, j < i ∧ (H j).id = (H i).id) := by
    constructor
    · rintro ⟨j, hj, e⟩; exact ⟨j, hj, by rw [← (h j (by omega)).1, ← s1]; exact e⟩
    · rintro ⟨j, hj, e⟩; exact ⟨j, hj, by rw [(h j (by omega)).1, s1]; exact e⟩
  unfold codeAt
  rw [s1, s2, s3, s4, s5, s6, s7, s8, s9]
  rw [s1] at e
  simp only [e]
theorem featsC_same {G H : Nat → Feat} {n : Nat} (h : ∀ j, j < n → (G j).same (H j)) : featsC n G = featsC n H := by
  unfold featsC
  rw [scan_congr (codeAt G) (codeAt H) n 0 (fun j _ hj => codeAt_same h (by omega))]

set_option maxHeartbeats 4000000 in
theorem l2Many_any (b n cap : Nat) (G : Nat → Feat) (w : World) (hg : FsAt w b 0 n G) (hbl : b < w.heap.size) (hs : SmallFs n G) :
    Calls Tryz.prog 87 #[.slice (some ⟨b, 0, none⟩) n cap] w fun e w' => e = .returned (.int .i64 (featsC n G)) ∧ Below w.heap.size w w' := by
  have HG : Hid (FsAt w b 0 n G) := hg
  have HS : Hid (SmallFs n G) := hs
  have hn := hs.1
  clear hg hs
  by_cases h12 : (12 : Int) < n
  · have hz : Hid (featsC n G = 2) := by show _ = _; unfold featsC; rw [if_pos (by omega)]
    go_enter Tryz.func87, Tryz.ntmps87
    go_wp2
    go_ret
    exact ⟨ret_int hz.out.symm, by (repeat (first | exact Below.refl _ _ | assumption | refine Below.drew ?_ | refine bl_alloc ?_ _ | refine bl_then ?_ (by assumption) | refine Below.setCell ?_ (by first | omega | (simp; done) | (simp; omega)) _ | refine bl_store ?_ ?_ _ _))⟩
  · have hz : Hid (featsC n G = scanC (codeAt G) 0 n) := by show _ = _; unfold featsC; rw [if_neg (by omega)]
    go_enter Tryz.func87, Tryz.ntmps87
    go_wp2
    go_loopw [3] (fun v wr => ∃ k : Nat, k ≤ n ∧ v = .int .i64 k ∧ (∀ j, j < k → codeAt G j = 0) ∧ Below w.heap.size w wr) (fun v _ => n - (intOf v).toNat)
    case atStart => exact ⟨0, by omega, rfl, by omega, Below.refl _ _⟩
    case round =>
      obtain ⟨k, hk, rfl, hA, hB⟩ := hrel
      have HB : Hid (Below w.heap.size w wr) := hB
      have HA : Hid (∀ j, j < k → codeAt G j = 0) := hA
      by_cases hlt : k < n
      · have HGr : Hid (FsAt wr b 0 n G) := HG.out.below hB hbl
        have hblr : b < wr.heap.size := Nat.lt_of_lt_of_le hbl hB.size
        obtain ⟨hF, hP⟩ := HGr.out k hlt
        rw [Nat.zero_add] at hF
        have HF : Hid (FeatAt wr b (k * 7) (G k).id (G k).la (G k).ki (G k).wi (.slice (G k).a (G k).n (G k).cap) (G k).lab (G k).pr) := hF
        have HP : Hid (IsPts wr (G k).a (G k).n (G k).X (G k).Y) := hP
        obtain ⟨z1, z2⟩ := HS.out.2 k hlt
        have HLT : Hid (k < n) := hlt
        clear hB hA hF hP
        have hi : (k : Int) < (n : Int) := by omega
        have hi0 : (0 : Int) ≤ (k : Int) := by omega
        go_wp2_with fail
        refine (l2Fault_any b (k * 7) _ _ _ _ _ _ _ (G k).X (G k).Y _ _ _ HF.out HP.out z2 z1).mono ?_
        rintro e w1 ⟨rfl, hb1⟩
        by_cases hc : featC (G k).id (G k).la (G k).ki (G k).wi (G k).n (G k).X (G k).Y (G k).lab (G k).pr = 0
        · rw [hc]
          have HC : Hid (featC (G k).id (G k).la (G k).ki (G k).wi (G k).n (G k).X (G k).Y (G k).lab (G k).pr = 0) := hc
          have d0 : ∀ W', Below w1.heap.size w1 W' → W'.cell? ⟨b, k * 7, none⟩ = some (.int .i64 (G k).id) := fun W' h => ((HF.out.below hb1 hblr).below h (Nat.lt_of_lt_of_le hblr hb1.size)).1
          have HG1 : Hid (FsAt w1 b 0 n G) := HGr.out.below hb1 hblr
          have hbl1 : b < w1.heap.size := Nat.lt_of_lt_of_le hblr hb1.size
          have HB1 : Hid (Below w.heap.size w w1) := bl_then HB.out hb1
          clear hc hb1
          have hr1 : Below w1.heap.size w1 w1 := Below.refl _ _
          go_wp2_with fail
          refine (l2At_any b n cap G k _ HLT.out HG1.out hbl1 hn).mono ?_
          rintro e w2 ⟨⟨r, hr, hre, hrl, rfl⟩, hb2⟩
          have HB2 : Hid (Below w.heap.size w w2) := bl_then HB1.out hb2
          clear hb2
          by_cases hrk : r = k
          · subst hrk
            have hok : codeAt G r = 0 := codeAt_ok HC.out (fun ⟨j, hj, hje⟩ => hrl j hj hje)
            have HOK : Hid (codeAt G r = 0) := hok
            clear hok hre hrl
            go_wp2
            go_roundw
            case rel => exact ⟨r + 1, by have := HLT.out; omega, by go_num, fun j hj => by
                by_cases e : j = r
                · rw [e]; exact HOK.out
                · exact HA.out j (by omega), HB2.out⟩
            case measure => have := HLT.out; simp [intOf]; omega
          · have hne : (((r : Nat) : Int) == ((k : Nat) : Int)) = false := by simp; omega
            have htk : Hid (codeAt G k = 6) := codeAt_taken HC.out ⟨r, by omega, hre⟩
            have hsc : Hid (featsC n G = 6) := by
              show _ = _
              rw [hz.out, scan_first (codeAt G) n 0 k (fun j _ hj => HA.out j hj) (by omega) (by have := HLT.out; omega) (by rw [htk.out]; decide), htk.out]
            clear hre hrl
            go_wp2
            go_ret
            exact ⟨ret_int hsc.out.symm, HB2.out⟩
        · have hsc : Hid (featsC n G = featC (G k).id (G k).la (G k).ki (G k).wi (G k).n (G k).X (G k).Y (G k).lab (G k).pr) := by
            show _ = _
            have h6 := codeAt_fault hc
            rw [hz.out, scan_first (codeAt G) n 0 k (fun j _ hj => HA.out j hj) (by omega) (by have := HLT.out; omega) (by rw [h6]; exact hc), h6]
          have hcb : (featC (G k).id (G k).la (G k).ki (G k).wi (G k).n (G k).X (G k).Y (G k).lab (G k).pr == 0) = false := by simpa using hc
          have HB1 : Hid (Below w.heap.size w w1) := bl_then HB.out hb1
          clear hc hb1
          go_wp2
          go_ret
          exact ⟨ret_int hsc.out.symm, HB1.out⟩
      · have hsc : Hid (featsC n G = 0) := by
          show _ = _
          rw [hz.out]
          exact scan_none _ _ _ (fun j _ hj => HA.out j (by omega))
        go_wp2
        go_ret
        exact ⟨ret_int hsc.out.symm, HB.out⟩
end Go.Proofs.YtcpdcmjldofbkaaGreat
/- Features as answers: they are compared, marked, and the marks are found again. -/

namespace Go.Proofs.YtcpdcmjldofbkaaGreat
open Go.RowKit
set_option linter.unusedSimpArgs false
set_option linter.unusedVariables false
set_option maxRecDepth 100000

set_option maxHeartbeats 2000000 in
theorem eqFeatureI_any (id la ki wi : Int) (a a' : Option Addr) (n cap cap' : Nat) (X Y : Nat → Int) (lab : ByteArray) (pr : Int) (w : World) (hp : IsPts w a n X Y) (hq : IsPts w a' n X Y) (hmax : n ≤ 1048576) :
    Calls Tryz.prog 151 #[.agg #[.int .i64 id, .int .i64 la, .int .i64 ki, .int .i64 wi, .slice a n cap, .string lab, .int .i64 pr], .agg #[.int .i64 id, .int .i64 la, .int .i64 ki, .int .i64 wi, .slice a' n cap', .string lab, .int .i64 pr]] w fun e w' => e = .returned (.bool true) ∧ Below w.heap.size w w' := by
  have HP : Hid (IsPts w a n X Y) := hp
  have HQ : Hid (IsPts w a' n X Y) := hq
  clear hp hq
  go_enter Tryz.func151, Tryz.ntmps151
  go_wp2_with fail
  generalize hW : ((w.alloc _).alloc _ : World) = W
  have hB0 : Below w.heap.size w W := by subst hW; (repeat (first | exact Below.refl _ _ | assumption | refine Below.drew ?_ | refine bl_alloc ?_ _ | refine bl_then ?_ (by assumption) | refine Below.setCell ?_ (by first | omega | (simp; done) | (simp; omega)) _ | refine bl_store ?_ ?_ _ _))
  have hsz : W.heap.size = w.heap.size + 1 + 1 := by subst hW; simp
  have c5 : W.cell? ⟨w.heap.size, 5, none⟩ = some (.string lab) := by subst hW; simp [go_sem]
  have c6 : W.cell? ⟨w.heap.size, 6, none⟩ = some (.int .i64 pr) := by subst hW; simp [go_sem]
  have o5 : W.cell? ⟨w.heap.size + 1, 5, none⟩ = some (.string lab) := by subst hW; simp [go_sem]
  have o6 : W.cell? ⟨w.heap.size + 1, 6, none⟩ = some (.int .i64 pr) := by subst hW; simp [go_sem]
  clear hW
  refine (eqPts_any a a' n cap cap' X Y W (HP.out.below hB0) (HQ.out.below hB0) hmax).mono ?_
  rintro e w1 ⟨rfl, hb1⟩
  have d5 := (hb1.cell (p := ⟨w.heap.size, 5, none⟩) (show w.heap.size < _ by omega)).trans c5
  have d6 := (hb1.cell (p := ⟨w.heap.size, 6, none⟩) (show w.heap.size < _ by omega)).trans c6
  have e5 := (hb1.cell (p := ⟨w.heap.size + 1, 5, none⟩) (show w.heap.size + 1 < _ by omega)).trans o5
  have e6 := (hb1.cell (p := ⟨w.heap.size + 1, 6, none⟩) (show w.heap.size + 1 < _ by omega)).trans o6
  have HB1 : Hid (Below w.heap.size w w1) := bl_then hB0 hb1
  clear c5 c6 o5 o6 hb1 hB0 hsz
  go_wp2
  go_ret
  exact ⟨rfl, HB1.out⟩
/-- Block p holds an answer with a feature. -/
def RAt (w : World) (p : Nat) (c id la ki wi : Int) (v : Value) (lab : ByteArray) (pr : Int) : Prop :=
  w.cell? ⟨p, 0, none⟩ = some (.int .i64 c) ∧ w.cell? ⟨p, 1, none⟩ = some (.int .i64 id) ∧ w.cell? ⟨p, 2, none⟩ = some (.int .i64 la) ∧ w.cell? ⟨p, 3, none⟩ = some (.int .i64 ki) ∧ w.cell? ⟨p, 4, none⟩ = some (.int .i64 wi) ∧
  w.cell? ⟨p, 5, none⟩ = some v ∧ w.cell? ⟨p, 6, none⟩ = some (.string lab) ∧ w.cell? ⟨p, 7, none⟩ = some (.int .i64 pr)
theorem RAt.row {w w' : World} {p : Nat} {row : Option Nat} {c id la ki wi pr : Int} {v : Value} {lab : ByteArray} (h : RAt w p c id la ki wi v lab pr) (hg : w.grownBy w' row) (hs : ∀ s, row = some s → p ≠ s) : RAt w' p c id la ki wi v lab pr := by
  obtain ⟨h0, h1, h2, h3, h4, h5, h6, h7⟩ := h
  exact ⟨ro_cell hg h0 hs, ro_cell hg h1 hs, ro_cell hg h2 hs, ro_cell hg h3 hs, ro_cell hg h4 hs, ro_cell hg h5 hs, ro_cell hg h6 hs, ro_cell hg h7 hs⟩
theorem RAt.below {w w' : World} {p : Nat} {c id la ki wi pr : Int} {v : Value} {lab : ByteArray} (h : RAt w p c id la ki wi v lab pr) (hb : Below w.heap.size w w') : RAt w' p c id la ki wi v lab pr := h.row (grown_below (r := none) hb) (fun s hs => by cases hs)
theorem RAt.lt {w : World} {p : Nat} {c id la ki wi pr : Int} {v : Value} {lab : ByteArray} (h : RAt w p c id la ki wi v lab pr) : p < w.heap.size := World.block_lt_of_cell? _ _ h.1
theorem RAt.new (w : World) (c id la ki wi : Int) (v : Value) (lab : ByteArray) (pr : Int) (t : TypeId) : RAt (w.alloc (.cells #[.int .i64 c, .int .i64 id, .int .i64 la, .int .i64 ki, .int .i64 wi, v, .string lab, .int .i64 pr] t)) w.heap.size c id la ki wi v lab pr := by
  refine ⟨?_, ?_, ?_, ?_, ?_, ?_, ?_, ?_⟩ <;> simp [go_sem]
theorem FeatAt.row {w w' : World} {p o : Nat} {row : Option Nat} {id la ki wi pr : Int} {v : Value} {lab : ByteArray} (h : FeatAt w p o id la ki wi v lab pr) (hg : w.grownBy w' row) (hs : ∀ s, row = some s → p ≠ s) : FeatAt w' p o id la ki wi v lab pr := by
  obtain ⟨h0, h1, h2, h3, h4, h5, h6⟩ := h
  exact ⟨ro_cell hg h0 hs, ro_cell hg h1 hs, ro_cell hg h2 hs, ro_cell hg h3 hs, ro_cell hg h4 hs, ro_cell hg h5 hs, ro_cell hg h6 hs⟩
theorem FeatAt.new (w : World) (id la ki wi : Int) (v : Value) (lab : ByteArray) (pr : Int) (t : TypeId) : FeatAt (w.alloc (.cells #[.int .i64 id, .int .i64 la, .int .i64 ki, .int .i64 wi, v, .string lab, .int .i64 pr] t)) w.heap.size 0 id la ki wi v lab pr := by
  refine ⟨?_, ?_, ?_, ?_, ?_, ?_, ?_⟩ <;> simp [go_sem]
theorem FeatAt.lt {w : World} {p o : Nat} {id la ki wi pr : Int} {v : Value} {lab : ByteArray} (h : FeatAt w p o id la ki wi v lab pr) : p < w.heap.size := World.block_lt_of_cell? _ _ h.1
end Go.Proofs.YtcpdcmjldofbkaaGreat
/- The order by layer, of the same by id: places are sorted, and there is one sorted list alone. No program in sight. -/

namespace Go.Proofs.YtcpdcmjldofbkaaGreat

/-- Place i is ahead of place j: by layer, of the same by id. -/
def ltK (L I : Nat → Int) (i j : Nat) : Bool := decide (L i < L j) || (decide (L i = L j) && decide (I i < I j))
theorem ltK_iff (L I : Nat → Int) (i j : Nat) : ltK L I i j = true ↔ L i < L j ∨ (L i = L j ∧ I i < I j) := by simp [ltK]
theorem ltK_no (L I : Nat → Int) (i j : Nat) : ltK L I i j = false ↔ ¬ (L i < L j ∨ (L i = L j ∧ I i < I j)) := by
  rw [← ltK_iff]; simp
def insK (L I : Nat → Int) (i : Nat) : List Nat → List Nat
  | [] => [i]
  | j :: r => if ltK L I j i = true then j :: insK L I i r else i :: j :: r
def srtK (L I : Nat → Int) : Nat → List Nat
  | 0 => []
  | n + 1 => insK L I n (srtK L I n)
theorem insK_perm (L I : Nat → Int) (i : Nat) : ∀ l, (insK L I i l).Perm (i :: l)
  | [] => .refl _
  | j :: r => by
    rw [insK]
    split
    · exact ((insK_perm L I i r).cons j).trans (.swap i j r)
    · exact .refl _
theorem srtK_perm (L I : Nat → Int) : ∀ n, (srtK L I n).Perm (List.range n)
  | 0 => .refl _
  | n + 1 => by
    rw [srtK, List.range_succ]
    exact (insK_perm L I n _).trans (((srtK_perm L I n).cons n).trans (List.perm_append_singleton n _).symm)
theorem srtK_len (L I : Nat → Int) (n : Nat) : (srtK L I n).length = n := by simpa using (srtK_perm L I n).length_eq
theorem srtK_mem (L I : Nat → Int) (n i : Nat) : i ∈ srtK L I n ↔ i < n := by rw [(srtK_perm L I n).mem_iff]; simp
/-- No two places have the same id. -/
def apartK (I : Nat → Int) (n : Nat) : Prop := ∀ i j, i < n → j < n → I i = I j → i = j
theorem insK_sorted (L I : Nat → Int) (i : Nat) : ∀ l : List Nat, l.Pairwise (fun a b => ltK L I a b = true) → (∀ j ∈ l, I j ≠ I i) → (insK L I i l).Pairwise (fun a b => ltK L I a b = true)
  | [], _, _ => by simp [insK]
  | j :: r, h, hd => by
    rw [List.pairwise_cons] at h
    rw [insK]
    split
    · rename_i hji
      rw [List.pairwise_cons]
      refine ⟨fun x hx => ?_, insK_sorted L I i r h.2 (fun x hx => hd x (List.mem_cons_of_mem _ hx))⟩
      rcases List.mem_cons.1 ((insK_perm L I i r).mem_iff.1 hx) with rfl | hx
      · exact hji
      · exact h.1 x hx
    · rename_i hji
      have hij : ltK L I i j = true := by
        have hne := hd j (List.mem_cons_self ..)
        rw [ltK_iff] at hji ⊢
        omega
      refine List.pairwise_cons.2 ⟨fun x hx => ?_, List.pairwise_cons.2 h⟩
      rcases List.mem_cons.1 hx with rfl | hx
      · exact hij
      · have := h.1 x hx
        rw [ltK_iff] at this hij ⊢
        omega
theorem srtK_sorted (L I : Nat → Int) : ∀ n, apartK I n → (srtK L I n).Pairwise (fun a b => ltK L I a b = true)
  | 0, _ => by simp [srtK]
  | n + 1, h => by
    rw [srtK]
    refine insK_sorted L I n _ (srtK_sorted L I n (fun i j hi hj e => h i j (by omega) (by omega) e)) (fun j hj e => ?_)
    have hj' := (srtK_mem L I n j).1 hj
    have := h j n (by omega) (by omega) e
    omega
theorem srtK_unique (L I : Nat → Int) (n : Nat) (h : apartK I n) (l : List Nat) (hp : l.Perm (List.range n)) (hs : l.Pairwise (fun a b => ltK L I b a = false)) : l = srtK L I n := by
  refine List.Perm.eq_of_pairwise (le := fun a b => ltK L I b a = false) (fun a b ha hb h1 h2 => ?_) hs ((srtK_sorted L I n h).imp (fun {a b} hab => ?_)) (hp.trans (srtK_perm L I n).symm)
  · have ha' : a < n := by simpa using hp.mem_iff.1 ha
    have hb' := (srtK_mem L I n b).1 hb
    rw [ltK_no] at h1 h2
    exact h a b ha' hb' (by omega)
  · rw [ltK_iff] at hab
    rw [ltK_no]
    omega
theorem ltK_congr {L I L' I' : Nat → Int} {i j : Nat} (h1 : L i = L' i) (h2 : L j = L' j) (h3 : I i = I' i) (h4 : I j = I' j) : ltK L I i j = ltK L' I' i j := by
  unfold ltK; rw [h1, h2, h3, h4]
theorem insK_congr {L I L' I' : Nat → Int} {i : Nat} : ∀ l : List Nat, (∀ j, (j = i ∨ j ∈ l) → L j = L' j ∧ I j = I' j) → insK L I i l = insK L' I' i l
  | [], _ => rfl
  | j :: r, h => by
    obtain ⟨a1, a2⟩ := h j (.inr (List.mem_cons_self ..))
    obtain ⟨b1, b2⟩ := h i (.inl rfl)
    rw [insK, insK, ltK_congr a1 b1 a2 b2, insK_congr r (fun k hk => h k (hk.imp id (List.mem_cons_of_mem _)))]
theorem srtK_congr {L I L' I' : Nat → Int} : ∀ n : Nat, (∀ j, j < n → L j = L' j ∧ I j = I' j) → srtK L I n = srtK L' I' n
  | 0, _ => rfl
  | n + 1, h => by
    rw [srtK, srtK, srtK_congr n (fun j hj => h j (by omega))]
    refine insK_congr _ (fun j hj => ?_)
    rcases hj with rfl | hj
    · exact h j (by omega)
    · exact h j (by have := (srtK_mem L' I' n j).1 hj; omega)
/-- The place at which a new one is laid. -/
theorem insK_at (L I : Nat → Int) (i : Nat) : ∀ (l : List Nat) (k : Nat), k ≤ l.length → (∀ j, j < k → ltK L I (l.getD j 0) i = true) → (k = l.length ∨ ltK L I (l.getD k 0) i = false) → insK L I i l = l.take k ++ i :: l.drop k
  | [], k, hk, _, _ => by have : k = 0 := by simpa using hk
                          subst this; rfl
  | j :: r, 0, _, _, h2 => by
    have h3 : ltK L I j i = false := by simpa using h2
    rw [insK, if_neg (by simp [h3])]; rfl
  | j :: r, k + 1, hk, h1, h2 => by
    have h3 : ltK L I j i = true := by simpa using h1 0 (by omega)
    rw [insK, if_pos h3, insK_at L I i r k (by simpa using hk) (fun q hq => by simpa using h1 (q + 1) (by omega)) (by simpa using h2)]
    rfl
end Go.Proofs.YtcpdcmjldofbkaaGreat
