/- Texts. -/
import Derived.Test.YtfkonhagjahgnaaGreatWTiles7
import Derived.Deep.RegionHeld3
import Derived.Test.YtfkonhagjahgnaaGreatWTiles3
import Derived.Test.YtfkonhagjahgnaaGreatWTiles6
import Derived.Lib.AppendStr
import Derived.Deep.DeepCutAuto
import Derived.Test.YtfkonhagjahgnaaGreatWTiles8
import Derived.Laws.OwnMore
import Derived.Test.YtfkonhagjahgnaaGreatWTiles1
import Derived.Deep.DeepMust
import Derived.OwnWalk
import Derived.Test.YtfkonhagjahgnaaGreatWTiles4
set_option linter.unusedSimpArgs false
set_option linter.unusedVariables false
set_option maxRecDepth 100000
set_option maxHeartbeats 32000000
namespace Go.Proofs.YtfkonhagjahgnaaGreat
open Go.RowKit
def byteI (s : ByteArray) (i : Nat) : Int := if h : i < s.size then ((s[i]'h).toNat : Int) else 0
theorem byteI_at (s : ByteArray) (i : Nat) (h : i < s.size) : byteI s i = ((s[i]'h).toNat : Int) := by simp [byteI,h]
def allLet (s : ByteArray) : Bool := decide (∀ i,i < s.size → letB (byteI s i) = true)
def labB (s : ByteArray) : Bool := decide (s.size ≤ 6) && allLet s
theorem labB_long {s : ByteArray} (h : 6 < s.size) : labB s = false := by simp [labB]; omega
theorem labB_bad {s : ByteArray} (k : Nat) (hk : k < s.size) (h : letB (byteI s k) = false) : labB s = false := by
 have : allLet s = false := by
  unfold allLet
  rw [decide_eq_false]
  intro hc
  have := hc k hk
  rw [h] at this; cases this
 simp [labB,this]
theorem labB_all {s : ByteArray} (h : ∀ i,i < s.size → letB (byteI s i) = true) : labB s = decide (s.size ≤ 6) := by
 have : allLet s = true := decide_eq_true h
 simp [labB,this]
theorem isLabel_any (s : ByteArray) (w : World) (hs : s.size ≤ 1048576) : Calls Tryz.prog 103 #[.string s] w fun e w' => e = .returned (.bool (labB s)) ∧ Below w.heap.size w w' := by
 by_cases h6 : (6 : Int) < s.size
 ·go_enter Tryz.func103,Tryz.ntmps103
  go_wp2
  go_ret
  exact ⟨ret_bool (labB_long (by omega)).symm,by (repeat (first|exact Qr _ _|assumption|refine Qd ?_|refine Qa ?_ _|refine Qt ?_|refine Qs ?_ _|refine Qo ?_ ?_ _ _))⟩
 ·go_enter Tryz.func103,Tryz.ntmps103
  go_wp2
  go_loopw [9] (fun i wr => ∃ k : Nat,k ≤ s.size ∧ i = .int .i64 k ∧ (∀ j,j < k → letB (byteI s j) = true) ∧ Below w.heap.size w wr) (fun i _ => s.size - (intOf i).toNat)
  case atStart => exact ⟨0,by omega,rfl,by omega,Below.refl _ _⟩
  case round =>
   obtain ⟨k,hk,rfl,hA,hB⟩ := hrel
   by_cases hlt : k < s.size
   ·have hi : (k : Int) < (s.size : Int) := by omega
    have HA : Hid (∀ j,j < k → letB (byteI s j) = true) := hA
    have HB : Hid (Below w.heap.size w wr) := hB
    have hbk := (byteI_at s k hlt).symm
    clear hA hB
    go_wp2_with fail
    refine (isLetter_any _ _).mono ?_
    rintro e w' ⟨rfl,rfl⟩
    cases hl : letB (byteI s k)
    ·go_wp2
     go_ret
     exact ⟨ret_bool (labB_bad k hlt hl).symm,HB.out⟩
    ·have HL : Hid (letB (byteI s k) = true) := hl
     clear hl
     go_wp2
     go_roundw
     case rel => exact ⟨k + 1,by omega,by go_num,fun j hj => by
       by_cases e : j = k
       ·rw [e]; exact HL.out
       ·exact HA.out j (by omega),HB.out⟩
     case measure => simp [intOf]; omega
   ·go_wp2
    go_ret
    exact ⟨ret_bool (by rw [labB_all (fun i hi => hA i (by omega))]; simp; omega),hB⟩
theorem l2Label_any (s : ByteArray) (w : World) (hs : s.size ≤ 1048576) : Calls Tryz.prog 92 #[.string s] w fun e w' => e = .returned (.bool (labB s)) ∧ Below w.heap.size w w' := by
  go_enter Tryz.func92,Tryz.ntmps92
  go_wp2
  go_loopw [3] (fun i wr => ∃ k : Nat,k ≤ s.size ∧ i = .int .i64 k ∧ (∀ j,j < k → letB (byteI s j) = true) ∧ Below w.heap.size w wr) (fun i _ => s.size - (intOf i).toNat)
  case atStart => exact ⟨0,by omega,rfl,by omega,Below.refl _ _⟩
  case round =>
   obtain ⟨k,hk,rfl,hA,hB⟩ := hrel
   by_cases hlt : k < s.size
   ·have hi : (k : Int) < (s.size : Int) := by omega
    have HA : Hid (∀ j,j < k → letB (byteI s j) = true) := hA
    have HB : Hid (Below w.heap.size w wr) := hB
    have hbk := byteI_at s k hlt
    have HK := (show Hid _ from hbk)
    clear hA hB hbk
    by_cases l1 : ((s[k]'hlt).toNat : Int) < 97
    ·go_wp2
     go_ret
     exact ⟨ret_bool (labB_bad k hlt (by rw [HK.out]; simp [letB]; omega)).symm,HB.out⟩
    ·have l1' : decide (((s[k]'hlt).toNat : Int) < 97) = false := by simpa using l1
     by_cases l2 : (122 : Int) < ((s[k]'hlt).toNat : Int)
     ·go_wp2
      go_ret
      exact ⟨ret_bool (labB_bad k hlt (by rw [HK.out]; simp [letB]; omega)).symm,HB.out⟩
     ·have l2' : decide ((122 : Int) < ((s[k]'hlt).toNat : Int)) = false := by simpa using l2
      have HL : Hid (letB (byteI s k) = true) := by show _ = _; rw [HK.out]; simp [letB]; omega
      go_wp2
      go_roundw
      case rel => exact ⟨k + 1,by omega,by go_num,fun j hj => by
        by_cases e : j = k
        ·rw [e]; exact HL.out
        ·exact HA.out j (by omega),HB.out⟩
      case measure => simp [intOf]; omega
   ·go_wp2
    go_ret
    exact ⟨ret_bool (by rw [labB_all (fun i hi => hA i (by omega))]; simp <;> omega),hB⟩
theorem l1In_eq (v lo hi : Int) (w : World) : Calls Tryz.prog 51 #[.int .i64 v, .int .i64 lo, .int .i64 hi] w fun e w' => e = .returned (.bool (inB v lo hi)) ∧ w = w' := (l1In_any v lo hi w).mono fun e w' ⟨he,hw⟩ => ⟨he,hw.symm⟩
theorem l2Size_eq (ki n : Int) (w : World) : Calls Tryz.prog 91 #[.int .i64 ki, .int .i64 n] w fun e w' => e = .returned (.bool (sizeB ki n)) ∧ w = w' := (l2Size_any ki n w).mono fun e w' ⟨he,hw⟩ => ⟨he,hw.symm⟩
theorem isWithin_eq (v lo hi : Int) (w : World) : Calls Tryz.prog 42 #[.int .i64 v, .int .i64 lo, .int .i64 hi] w fun e w' => e = .returned (.bool (inB v lo hi)) ∧ w = w' := (isWithin_any v lo hi w).mono fun e w' ⟨he,hw⟩ => ⟨he,hw.symm⟩
def FeatAt (w : World) (p o : Nat) (id la ki wi : Int) (pts : Value) (lab : ByteArray) (pr : Int) : Prop :=
 w.cell? ⟨p,o,none⟩ = some (.int .i64 id) ∧ w.cell? ⟨p,o + 1,none⟩ = some (.int .i64 la) ∧ w.cell? ⟨p,o + 2,none⟩ = some (.int .i64 ki) ∧ w.cell? ⟨p,o + 3,none⟩ = some (.int .i64 wi) ∧
 w.cell? ⟨p,o + 4,none⟩ = some pts ∧ w.cell? ⟨p,o + 5,none⟩ = some (.string lab) ∧ w.cell? ⟨p,o + 6,none⟩ = some (.int .i64 pr)
theorem FeatAt.below {w w' : World} {p o B : Nat} {id la ki wi pr : Int} {pts : Value} {lab : ByteArray} (h : FeatAt w p o id la ki wi pts lab pr) (hb : Below B w w') (hp : p < B) : FeatAt w' p o id la ki wi pts lab pr := by
 obtain ⟨h0,h1,h2,h3,h4,h5,h6⟩ := h
 refine ⟨(hb.cell (p := ⟨p,o,none⟩) hp).trans h0,(hb.cell (p := ⟨p,o + 1,none⟩) hp).trans h1,(hb.cell (p := ⟨p,o + 2,none⟩) hp).trans h2,(hb.cell (p := ⟨p,o + 3,none⟩) hp).trans h3,(hb.cell (p := ⟨p,o + 4,none⟩) hp).trans h4,(hb.cell (p := ⟨p,o + 5,none⟩) hp).trans h5,(hb.cell (p := ⟨p,o + 6,none⟩) hp).trans h6⟩
def ptsIn (n : Nat) (X Y : Nat → Int) : Bool := decide (∀ i,i < n → inW (X i) (Y i) = true)
def rngB (id la ki wi pr : Int) : Bool := inB id 1 999 && (inB la 0 9 && (inB ki 1 3 && (inB wi 0 3 && inB pr 0 9)))
def featC (id la ki wi : Int) (n : Nat) (X Y : Nat → Int) (lab : ByteArray) (pr : Int) : Int :=
 if rngB id la ki wi pr = true then (if sizeB ki n = true then (if ptsIn n X Y = true then (if labB lab = true then 0 else 5) else 3) else 2) else 3
theorem ptsIn_bad {n : Nat} {X Y : Nat → Int} (k : Nat) (hk : k < n) (h : inW (X k) (Y k) = false) : ptsIn n X Y = false := by
 unfold ptsIn
 rw [decide_eq_false]
 intro hc
 have := hc k hk
 rw [h] at this; cases this
theorem l2Fault_any (p o : Nat) (id la ki wi : Int) (a : Option Addr) (n cap : Nat) (X Y : Nat → Int) (lab : ByteArray) (pr : Int) (w : World) (hf : FeatAt w p o id la ki wi (.slice a n cap) lab pr) (hpt : IsPts w a n X Y) (hl : lab.size ≤ 1048576) (hn : n ≤ 1048576) :
  Calls Tryz.prog 52 #[.pointer (some ⟨p,o,none⟩)] w fun e w' => e = .returned (.int .i64 (featC id la ki wi n X Y lab pr)) ∧ Below w.heap.size w w' := by
 have hpl : p < w.heap.size := World.block_lt_of_cell? _ _ hf.1
 have c0 : ∀ W',Below w.heap.size w W' → W'.cell? ⟨p,o,none⟩ = some (.int .i64 id) := fun W' h => (hf.below h hpl).1
 have c1 : ∀ W',Below w.heap.size w W' → W'.cell? ⟨p,o + 1,none⟩ = some (.int .i64 la) := fun W' h => (hf.below h hpl).2.1
 have c2 : ∀ W',Below w.heap.size w W' → W'.cell? ⟨p,o + 2,none⟩ = some (.int .i64 ki) := fun W' h => (hf.below h hpl).2.2.1
 have c3 : ∀ W',Below w.heap.size w W' → W'.cell? ⟨p,o + 3,none⟩ = some (.int .i64 wi) := fun W' h => (hf.below h hpl).2.2.2.1
 have c4 : ∀ W',Below w.heap.size w W' → W'.cell? ⟨p,o + 4,none⟩ = some (.slice a n cap) := fun W' h => (hf.below h hpl).2.2.2.2.1
 have c5 : ∀ W',Below w.heap.size w W' → W'.cell? ⟨p,o + 5,none⟩ = some (.string lab) := fun W' h => (hf.below h hpl).2.2.2.2.2.1
 have c6 : ∀ W',Below w.heap.size w W' → W'.cell? ⟨p,o + 6,none⟩ = some (.int .i64 pr) := fun W' h => (hf.below h hpl).2.2.2.2.2.2
 obtain ⟨h0,h1,h2,h3,h4,h5,h6⟩ := hf
 have HP : Hid (IsPts w a n X Y) := hpt
 clear hpt
 cases e0 : inB id 1 999
 ·have hz : Hid (featC id la ki wi n X Y lab pr = 3) := by show _ = _; simp [featC,rngB,e0]
  go_enter Tryz.func52,Tryz.ntmps52
  go_wp2_with (go_at_call 51; refine (l1In_eq _ _ _ _).mono ?_; rintro e w' ⟨rfl,rfl⟩)
  go_ret
  exact ⟨ret_int hz.out.symm,by (repeat (first|exact Qr _ _|assumption|refine Qd ?_|refine Qa ?_ _|refine Qt ?_|refine Qs ?_ _|refine Qo ?_ ?_ _ _))⟩
 cases e1 : inB la 0 9
 ·have hz : Hid (featC id la ki wi n X Y lab pr = 3) := by show _ = _; simp [featC,rngB,e0,e1]
  go_enter Tryz.func52,Tryz.ntmps52
  go_wp2_with (go_at_call 51; refine (l1In_eq _ _ _ _).mono ?_; rintro e w' ⟨rfl,rfl⟩)
  go_ret
  exact ⟨ret_int hz.out.symm,by (repeat (first|exact Qr _ _|assumption|refine Qd ?_|refine Qa ?_ _|refine Qt ?_|refine Qs ?_ _|refine Qo ?_ ?_ _ _))⟩
 cases e2 : inB ki 1 3
 ·have hz : Hid (featC id la ki wi n X Y lab pr = 3) := by show _ = _; simp [featC,rngB,e0,e1,e2]
  go_enter Tryz.func52,Tryz.ntmps52
  go_wp2_with (go_at_call 51; refine (l1In_eq _ _ _ _).mono ?_; rintro e w' ⟨rfl,rfl⟩)
  go_ret
  exact ⟨ret_int hz.out.symm,by (repeat (first|exact Qr _ _|assumption|refine Qd ?_|refine Qa ?_ _|refine Qt ?_|refine Qs ?_ _|refine Qo ?_ ?_ _ _))⟩
 cases e3 : inB wi 0 3
 ·have hz : Hid (featC id la ki wi n X Y lab pr = 3) := by show _ = _; simp [featC,rngB,e0,e1,e2,e3]
  go_enter Tryz.func52,Tryz.ntmps52
  go_wp2_with (go_at_call 51; refine (l1In_eq _ _ _ _).mono ?_; rintro e w' ⟨rfl,rfl⟩)
  go_ret
  exact ⟨ret_int hz.out.symm,by (repeat (first|exact Qr _ _|assumption|refine Qd ?_|refine Qa ?_ _|refine Qt ?_|refine Qs ?_ _|refine Qo ?_ ?_ _ _))⟩
 cases e4 : inB pr 0 9
 ·have hz : Hid (featC id la ki wi n X Y lab pr = 3) := by show _ = _; simp [featC,rngB,e0,e1,e2,e3,e4]
  go_enter Tryz.func52,Tryz.ntmps52
  go_wp2_with (go_at_call 51; refine (l1In_eq _ _ _ _).mono ?_; rintro e w' ⟨rfl,rfl⟩)
  go_ret
  exact ⟨ret_int hz.out.symm,by (repeat (first|exact Qr _ _|assumption|refine Qd ?_|refine Qa ?_ _|refine Qt ?_|refine Qs ?_ _|refine Qo ?_ ?_ _ _))⟩
 have hr : Hid (rngB id la ki wi pr = true) := by show _ = _; simp [rngB,e0,e1,e2,e3,e4]
 cases e5 : sizeB ki n
 ·have hz : Hid (featC id la ki wi n X Y lab pr = 2) := by show _ = _; simp [featC,hr.out,e5]
  go_enter Tryz.func52,Tryz.ntmps52
  go_wp2_with (first | (go_at_call 51; refine (l1In_eq _ _ _ _).mono ?_; rintro e w' ⟨rfl,rfl⟩) | (go_at_call 91; refine (l2Size_eq _ _ _).mono ?_; rintro e w' ⟨rfl,rfl⟩))
  go_region_held3 (fun W' => Below w.heap.size w W') ((repeat (first|exact Qr _ _|assumption|refine Qd ?_|refine Qa ?_ _|refine Qt ?_|refine Qs ?_ _|refine Qo ?_ ?_ _ _)))
   (first | (go_at_call 91; refine (l2Size_eq _ _ _).mono ?_; rintro e w' ⟨rfl,rfl⟩))
  go_wp2
  go_ret
  exact ⟨ret_int hz.out.symm,by (repeat (first|exact Qr _ _|assumption|refine Qd ?_|refine Qa ?_ _|refine Qt ?_|refine Qs ?_ _|refine Qo ?_ ?_ _ _))⟩
 go_enter Tryz.func52,Tryz.ntmps52
 go_wp2_with (first | (go_at_call 51; refine (l1In_eq _ _ _ _).mono ?_; rintro e w' ⟨rfl,rfl⟩) | (go_at_call 91; refine (l2Size_eq _ _ _).mono ?_; rintro e w' ⟨rfl,rfl⟩))
 go_region_held3 (fun W' => Below w.heap.size w W') ((repeat (first|exact Qr _ _|assumption|refine Qd ?_|refine Qa ?_ _|refine Qt ?_|refine Qs ?_ _|refine Qo ?_ ?_ _ _)))
  (first | (go_at_call 91; refine (l2Size_eq _ _ _).mono ?_; rintro e w' ⟨rfl,rfl⟩))
 go_wp2
 go_loopw [3] (fun i wr => ∃ k : Nat,k ≤ n ∧ i = .int .i64 k ∧ (∀ j,j < k → inW (X j) (Y j) = true) ∧ Below w.heap.size w wr) (fun i _ => n - (intOf i).toNat)
 case atStart => exact ⟨0,by omega,rfl,by omega,(Below.refl _ _).drew⟩
 case round =>
  obtain ⟨k,hk,rfl,hA,hB⟩ := hrel
  have HA : Hid (∀ j,j < k → inW (X j) (Y j) = true) := hA
  have HB : Hid (Below w.heap.size w wr) := hB
  clear h0 h1 h2 h3 h4 h5 h6 c0 c1 c2 c3 c6 hA
  by_cases hlt : k < n
  ·rcases HP.out with hz | ⟨b,off,rfl,hbl,hpt⟩
   ·omega
   have hi : (k : Int) < (n : Int) := by omega
   have hi0 : (0 : Int) ≤ (k : Int) := by omega
   have d4 : ∀ W',Below wr.heap.size wr W' → W'.cell? ⟨p,o + 4,none⟩ = some (.slice (some ⟨b,off,none⟩) n cap) := fun W' h => c4 W' (hB.trans (h.mono hB.size))
   have dx : ∀ W',Below wr.heap.size wr W' → W'.cell? ⟨b,off + k * 2,none⟩ = some (.int .i64 (X k)) := fun W' h => (hpt.below (hB.trans (h.mono hB.size)) hbl k hlt).1
   have dy : ∀ W',Below wr.heap.size wr W' → W'.cell? ⟨b,off + k * 2 + 1,none⟩ = some (.int .i64 (Y k)) := fun W' h => (hpt.below (hB.trans (h.mono hB.size)) hbl k hlt).2
   clear c4 c5 hB hpt
   have hr0 : Below wr.heap.size wr wr := Below.refl _ _
   cases ex : inB (X k) 0 1024
   ·have hz : Hid (featC id la ki wi n X Y lab pr = 3) := by show _ = _; simp [featC,hr.out,e5,ptsIn_bad k hlt (show inW (X k) (Y k) = false by simp [inW,ex])]
    go_wp2_with (go_at_call 51; refine (l1In_eq _ _ _ _).mono ?_; rintro e w' ⟨rfl,rfl⟩)
    go_ret
    exact ⟨ret_int hz.out.symm,HB.out⟩
   cases ey : inB (Y k) 0 1024
   ·have hz : Hid (featC id la ki wi n X Y lab pr = 3) := by show _ = _; simp [featC,hr.out,e5,ptsIn_bad k hlt (show inW (X k) (Y k) = false by simp [inW,ex,ey])]
    go_wp2_with (go_at_call 51; refine (l1In_eq _ _ _ _).mono ?_; rintro e w' ⟨rfl,rfl⟩)
    go_ret
    exact ⟨ret_int hz.out.symm,HB.out⟩
   have HI : Hid (inW (X k) (Y k) = true) := by show _ = _; simp [inW,ex,ey]
   go_wp2_with (go_at_call 51; refine (l1In_eq _ _ _ _).mono ?_; rintro e w' ⟨rfl,rfl⟩)
   go_roundw
   case rel => exact ⟨k + 1,by omega,by go_num,fun j hj => by
     by_cases e : j = k
     ·rw [e]; exact HI.out
     ·exact HA.out j (by omega),HB.out⟩
   case measure => simp [intOf]; omega
  ·have hz : Hid (featC id la ki wi n X Y lab pr = if labB lab = true then 0 else 5) := by
    show _ = _
    have : ptsIn n X Y = true := decide_eq_true (fun i hi => HA.out i (by omega))
    simp [featC,hr.out,e5,this]
   have d4 := c4 wr hB
   have d5 := c5 wr hB
   clear c4 c5
   cases el : labB lab
   all_goals
    go_wp2_with (go_at_call 92; refine (l2Label_any _ _ hl).mono ?_; rintro e w' ⟨rfl,hb⟩)
    go_ret
    exact ⟨ret_int (by rw [hz.out]; simp [el]),bl_then HB.out hb⟩
def NB (w w' : World) : Prop := ∀ (k : Nat) (cur : Array Value) (t : TypeId) (fz : Nat × Nat),w.heap[k]? = some (Obj.cells cur t fz) → t ≠ 5 → w'.heap[k]? = some (Obj.cells cur t fz)
theorem NB.refl (w : World) : NB w w := fun _ _ _ _ h _ => h
theorem NB.trans {a b c : World} (h : NB a b) (k : NB b c) : NB a c := fun i cur t fz h1 h2 => k i cur t fz (h i cur t fz h1 h2) h2
theorem NB.of_below {w w' : World} (h : Below w.heap.size w w') : NB w w' := fun k cur t fz h1 _ => (h.block k (lt_of_heap h1)).trans h1
theorem NB.of_grown {base : Nat} {w w' : World} {v : Value} {n : Nat} {l : List Value} (hR : w.ownsRow base 5 1 v n l) (hg : w.grownBy w' v.ownBlock) : NB w w' := fun k cur t fz h1 h2 => by
 refine (hg.block k (lt_of_heap h1) (fun e => ?_)).trans h1
 obtain ⟨cur',hc⟩ := heap_of_row hR k e.symm
 rw [h1] at hc
 injection hc with hc
 injection hc with _ hc2
 exact h2 hc2
theorem NB.set {w w' : World} (h : NB w w') {r o : Nat} (hr : w.heap.size ≤ r) (v : Value) : NB w (w'.setCell ⟨r,o,none⟩ v) := fun k cur t fz h1 h2 => by
 rw [Below.heap_setCell _ _ _ _ (by have := lt_of_heap h1; simp; omega)]
 exact h k cur t fz h1 h2
def PtB (w : World) (r : Nat) (x y : Int) : Prop := w.heap[r]? = some (Obj.cells #[.int .i64 x, .int .i64 y] 67 (0,0))
theorem PtB.cells {w : World} {r : Nat} {x y : Int} (h : PtB w r x y) : w.cell? ⟨r,0,none⟩ = some (.int .i64 x) ∧ w.cell? ⟨r,1,none⟩ = some (.int .i64 y) ∧ w.frozen? ⟨r,0,none⟩ = false ∧ w.frozen? ⟨r,1,none⟩ = false := by
 unfold PtB at h
 refine ⟨?_,?_,?_,?_⟩ <;> simp [World.cell?,World.frozen?,h]
theorem PtB.lt {w : World} {r : Nat} {x y : Int} (h : PtB w r x y) : r < w.heap.size := lt_of_heap h
theorem PtB.nb {w w' : World} {r : Nat} {x y : Int} (h : PtB w r x y) (hn : NB w w') : PtB w' r x y := hn _ _ _ _ h (by decide)
theorem PtB.new (w : World) (x y : Int) : PtB (w.alloc (.cells #[.int .i64 x, .int .i64 y] 67)) w.heap.size x y := by simp [PtB,World.alloc, -World.alloc_eq]
theorem PtB.set {w : World} {r : Nat} {x y x' y' : Int} (h : PtB w r x y) : PtB ((w.setCell ⟨r,0,none⟩ (.int .i64 x')).setCell ⟨r,1,none⟩ (.int .i64 y')) r x' y' := by
 have h1 := heap_setCell_same w r 0 _ 67 (.int .i64 x') h
 have h2 := heap_setCell_same _ r 1 _ 67 (.int .i64 y') h1
 simpa [PtB] using h2
theorem RowB.pt {base r o : Nat} {w : World} {v u : Value} {l : List Int} {cur : Array Value} {t : TypeId} {fz : Nat × Nat} (h : RowB base w v l) (hp : w.heap[r]? = some (Obj.cells cur t fz)) (ht : t ≠ 5) : RowB base (w.setCell ⟨r,o,none⟩ u) v l := by
 refine ownsRow_of h fun g hg => Below.heap_setCell _ _ _ _ (fun e => ?_)
 obtain ⟨cur',hc⟩ := heap_of_row h g hg
 simp at e
 subst e
 rw [hp] at hc
 injection hc with hc
 injection hc with _ hc2
 exact ht hc2
theorem RowB.set2 {base r : Nat} {w : World} {v : Value} {l : List Int} {x y x' y' : Int} (h : RowB base w v l) (hp : PtB w r x y) : RowB base ((w.setCell ⟨r,0,none⟩ (.int .i64 x')).setCell ⟨r,1,none⟩ (.int .i64 y')) v l :=
 RowB.pt (RowB.pt h hp (by decide)) (heap_setCell_same w r 0 _ 67 (.int .i64 x') hp) (by decide)
theorem putNumber_nb (base : Nat) (v : Value) (l : List Int) (n : Nat) (w : World) (hO : RowB base w v l) (hbase : base ≤ w.heap.size) (hn : n ≤ 1099511627776) (hl : l.length ≤ 2000) :
  Calls Tryz.prog 59 #[v, .int .u64 (n : Int)] w fun e w' => ∃ v',e = .returned v' ∧ RowB base w' v' (l ++ putI n) ∧ Below base w w' ∧ NB w w' := by
 obtain ⟨i0,hi,hz0,hz1,hz2⟩ := info_parts info_u8
 have HO : Hid (RowB base w v l) := hO
 clear hO
 go_enter Tryz.func59,Tryz.ntmps59
 go_wp2_with fail
 go_loopw [0,1] (fun u m wr => ∃ (k : Nat) (l' : List Int),m = .int .u64 (k : Int) ∧ k ≤ 1099511627776 ∧ l' ++ putI k = l ++ putI n ∧ RowB base wr u l' ∧ base ≤ wr.heap.size ∧ Below base w wr ∧ NB w wr) (fun _ m _ => (intOf m).toNat)
 case atStart => exact ⟨n,l,rfl,hn,rfl,HO.out,hbase,Below.refl _ _,NB.refl _⟩
 case round =>
  obtain ⟨k,l',rfl,hk,hlk,hO,hbs,hB,hN⟩ := hrel
  have HN' : Hid (NB w wr) := hN
  have HL : Hid (l' ++ putI k = l ++ putI n) := hlk
  have HO' : Hid (RowB base wr u0 l') := hO
  have HB' : Hid (Below base w wr) := hB
  have hlen : l'.length ≤ 2006 := by have h6 := putI_len6 n hn; have h7 := congrArg List.length HL.out; simp at h7; omega
  clear hlk hO hB HO hN
  by_cases hlt : k < 128
  ·have h1 : ¬ (128 : Int) ≤ (k : Int) := by omega
   have e1 : IntKind.u8.wrap (k : Int) = (k : Int) := by rw [IntKind.wrap_u8]; omega
   go_wp2_with (first
    | (at_builtin; go_must (refine wpList_append_own _ rfl _ _ 22 rfl base 5 i0 (.int .u8 0) 1 1 Tryz.underlying22 hi hz0 hz1 hz2 rfl (by decide) _ l'.length (cellsB l') rfl (HO'.out.alloc _) ⟨wr.heap.size,0,none⟩ 1 1 [.int .u8 (k : Int)] rfl rfl ?c1 ?c2 ?c3 ?c4 ?c5 ?_)))
   case c2 => first | rfl | (intro u hu; simp at hu; subst hu; rfl)
   case c3 => unfold maxLen; omega
   case c4 => omega
   case c5 => first | (simp; omega) | omega
   intro v' w3 hown' hgrow hnil
   have hBa : Below base wr (wr.alloc (.cells #[.int .u8 (k : Int)] 5)) := (Below.refl _ _).alloc hbs _
   have hBg : Below base (wr.alloc (.cells #[.int .u8 (k : Int)] 5)) w3 := (Below.refl _ _).grown hgrow (by simp; omega) (fun k hk => (HO'.out.lt k hk).1)
   have HN3 : Hid (NB w w3) := (HN'.out.trans (NB.of_below ((Below.refl _ _).alloc (Nat.le_refl _) _))).trans (NB.of_grown (HO'.out.alloc _) hgrow)
   have HB3 : Hid (Below base w w3) := (HB'.out.trans hBa).trans hBg
   have HO3 : Hid (RowB base w3 v' (l' ++ [(k : Int)])) := by
    show RowB _ _ _ _
    unfold RowB
    rw [cellsB_add]
    simpa [cellsB] using hown'
   have HL3 : Hid (l' ++ [(k : Int)] = l ++ putI n) := by show _ = _; rw [← HL.out,putI_small hlt]
   clear hown' hgrow hnil hBa hBg HL HO' HB' HN'
   go_wp2
   go_ret
   exact ⟨_,rfl,by rw [← HL3.out]; exact HO3.out,HB3.out,HN3.out⟩
  ·have h1 : (128 : Int) ≤ (k : Int) := by omega
   have e1 : IntKind.u8.wrap (k : Int) = ((k % 256 : Nat) : Int) := by rw [IntKind.wrap_u8]; omega
   obtain ⟨q,hq⟩ : ∃ q : Nat,k % 128 + 128 = q := ⟨_,rfl⟩
   have e2 : bits .or .u8 ((k : Int) % 256) 128 = (q : Int) := by have := or128_u8 (k % 256) (by omega); rw [show ((k % 256 : Nat) : Int) = (k : Int) % 256 by omega] at this; rw [this]; omega
   have HQ : Hid (k % 128 + 128 = q) := hq
   clear hq
   clear e1
   go_wp2_with (first
    | (at_builtin; go_must (refine wpList_append_own _ rfl _ _ 22 rfl base 5 i0 (.int .u8 0) 1 1 Tryz.underlying22 hi hz0 hz1 hz2 rfl (by decide) _ l'.length (cellsB l') rfl (HO'.out.alloc _) ⟨wr.heap.size,0,none⟩ 1 1 [.int .u8 (q : Int)] rfl rfl ?d1 ?d2 ?d3 ?d4 ?d5 ?_)))
   case d1 =>
    intro j u hj
    match j,hj with
    | 0,hj => simp at hj; subst hj; simp [Addr.add,go_sem]
    | j + 1,hj => simp at hj
   case d2 => first | rfl | (intro u hu; simp at hu; subst hu; rfl)
   case d3 => unfold maxLen; omega
   case d4 => omega
   case d5 => first | (simp; omega) | omega
   intro v' w3 hown' hgrow hnil
   have hBa : Below base wr (wr.alloc (.cells #[.int .u8 (q : Int)] 5)) := (Below.refl _ _).alloc hbs _
   have hBg : Below base (wr.alloc (.cells #[.int .u8 (q : Int)] 5)) w3 := (Below.refl _ _).grown hgrow (by simp; omega) (fun k hk => (HO'.out.lt k hk).1)
   have HN3 : Hid (NB w w3) := (HN'.out.trans (NB.of_below ((Below.refl _ _).alloc (Nat.le_refl _) _))).trans (NB.of_grown (HO'.out.alloc _) hgrow)
   have HB3 : Hid (Below base w w3) := (HB'.out.trans hBa).trans hBg
   have hz : base ≤ w3.heap.size := by have := hBg.size; simp at this; omega
   have HO3 : Hid (RowB base w3 v' (l' ++ [(q : Int)])) := by
    show RowB _ _ _ _
    unfold RowB
    rw [cellsB_add]
    simpa [cellsB] using hown'
   have HL3 : Hid ((l' ++ [(q : Int)]) ++ putI (k / 128) = l ++ putI n) := by show _ = _; rw [← HL.out,putI_big hlt,HQ.out]; simp
   clear hown' hgrow hnil hBa hBg HL HO' HB' HN'
   obtain ⟨r,hr⟩ : ∃ r : Nat,k / 128 = r := ⟨_,rfl⟩
   have e5 : (k : Int) / 128 = (r : Int) := by omega
   have e6 : (k : Int).fdiv (2 ^ min (Int.toNat 7) IntKind.u64.bits) = (r : Int) := by
    rw [show (2 : Int) ^ min (Int.toNat 7) IntKind.u64.bits = 128 from rfl,Int.fdiv_eq_ediv_of_nonneg _ (by omega)]; exact e5
   rw [hr] at HL3
   have hrk : r < k := by omega
   clear hr
   go_wp2
   go_roundw
   case rel => exact ⟨r,_,by first | rfl | go_num | (simp; done) | omega,by omega,HL3.out,HO3.out,hz,HB3.out,HN3.out⟩
   case measure => simp [intOf]; omega
def ahX (X : Nat → Int) (i : Nat) : Int := if i = 0 then 0 else X (i - 1)
def stepL (X Y : Nat → Int) (i : Nat) : List Int := putI (foldI (X i - ahX X i)).toNat ++ putI (foldI (Y i - ahX Y i)).toNat
def ptsL (X Y : Nat → Int) : Nat → List Int
 | 0 => []
 | k + 1 => ptsL X Y k ++ stepL X Y k
def Near (n : Nat) (X Y : Nat → Int) : Prop := ∀ i,i < n → (0 ≤ X i ∧ X i ≤ 1024) ∧ (0 ≤ Y i ∧ Y i ≤ 1024)
theorem ahX_bd {n : Nat} {X : Nat → Int} (h : ∀ i,i < n → 0 ≤ X i ∧ X i ≤ 1024) (i : Nat) (hi : i ≤ n) : 0 ≤ ahX X i ∧ ahX X i ≤ 1024 := by
 unfold ahX
 split
 ·omega
 ·exact h _ (by omega)
theorem putI_len2 (n : Nat) (h : n ≤ 2048) : (putI n).length ≤ 2 := putI_len 1 n (by omega)
theorem step_num {x a : Int} (hx : 0 ≤ x ∧ x ≤ 1024) (ha : 0 ≤ a ∧ a ≤ 1024) : ∃ m : Nat,foldI (x - a) = (m : Int) ∧ m ≤ 2048 := by
 have := foldI_bd (n := x - a) (B := 1024) (by omega) (by omega)
 exact ⟨(foldI (x - a)).toNat,by omega,by omega⟩
theorem stepL_len {n : Nat} {X Y : Nat → Int} (h : Near n X Y) (i : Nat) (hi : i < n) : (stepL X Y i).length ≤ 4 := by
 obtain ⟨m,hm,hm'⟩ := step_num (h i hi).1 (ahX_bd (fun i hi => (h i hi).1) i (by omega))
 obtain ⟨k,hk,hk'⟩ := step_num (h i hi).2 (ahX_bd (fun i hi => (h i hi).2) i (by omega))
 have h1 := putI_len2 m hm'
 have h2 := putI_len2 k hk'
 unfold stepL
 rw [hm,hk]
 simp
 omega
theorem ptsL_len {n : Nat} {X Y : Nat → Int} (h : Near n X Y) : ∀ k,k ≤ n → (ptsL X Y k).length ≤ 4 * k
 | 0,_ => by simp [ptsL]
 | k + 1,hk => by
  have h1 := ptsL_len h k (by omega)
  have h2 := stepL_len h k (by omega)
  simp [ptsL]
  omega
theorem ahX_succ (X : Nat → Int) (k : Nat) : ahX X (k + 1) = X k := by simp [ahX]
theorem putPoints_any (base : Nat) (v : Value) (l : List Int) (b off n cap : Nat) (X Y : Nat → Int) (w : World) (hO : RowB base w v l) (hbase : base ≤ w.heap.size) (hp : PtsAt w b off n X Y) (hbl : b < base) (hn : n ≤ 12) (hin : Near n X Y) (hl : l.length ≤ 1900) :
  Calls Tryz.prog 100 #[v, .slice (some ⟨b,off,none⟩) n cap] w fun e w' => ∃ v',e = .returned v' ∧ RowB base w' v' (l ++ (putI n ++ ptsL X Y n)) ∧ Below base w w' ∧ NB w w' := by
 have HO : Hid (RowB base w v l) := hO
 have HP : Hid (PtsAt w b off n X Y) := hp
 have HIN : Hid (Near n X Y) := hin
 have e1 : IntKind.u64.wrap (n : Int) = (n : Int) := by rw [IntKind.wrap_u64]; omega
 clear hO hp hin
 go_enter Tryz.func100,Tryz.ntmps100
 go_wp2_with fail
 refine (putNumber_nb base v l n w HO.out hbase (by omega) (by omega)).mono ?_
 rintro e w1 ⟨v1,rfl,hO1,hB1,hN1⟩
 have hb1 : base ≤ w1.heap.size := Nat.le_trans hbase hB1.size
 have hs1 := hB1.size
 go_wp2_with fail
 generalize hW : (w1.alloc _ : World) = W
 have HO1 : Hid (RowB base W v1 (l ++ putI n)) := by subst hW; exact hO1.alloc _
 have hBa : Below w1.heap.size w1 W := by subst hW; (repeat (first|exact Qr _ _|assumption|refine Qd ?_|refine Qa ?_ _|refine Qt ?_|refine Qs ?_ _|refine Qo ?_ ?_ _ _))
 have HA : Hid (PtB W w1.heap.size (ahX X 0) (ahX Y 0)) := by subst hW; exact PtB.new _ _ _
 have HB : Hid (Below base w W) := hB1.trans (hBa.mono hb1)
 have HN : Hid (NB w W) := hN1.trans (NB.of_below hBa)
 clear hW hO1 hB1 hN1
 have hsW := hBa.size
 clear hBa HO
 obtain ⟨r,hr⟩ : ∃ r,w1.heap.size = r := ⟨_,rfl⟩
 rw [hr] at HA hs1 hb1
 try rw [hr]
 have hr' : w.heap.size ≤ r := hs1
 clear hr hs1 hsW
 go_loopw [0,16] (fun u i wr => ∃ k : Nat,k ≤ n ∧ i = .int .i64 (k : Int) ∧ RowB base wr u (l ++ (putI n ++ ptsL X Y k)) ∧ PtB wr r (ahX X k) (ahX Y k) ∧ Below base w wr ∧ NB w wr) (fun _ i _ => n - (intOf i).toNat)
 case atStart => exact ⟨0,by omega,rfl,by simpa [ptsL] using HO1.out,HA.out,HB.out,HN.out⟩
 case round =>
  obtain ⟨k,hk,rfl,hO,hA,hB,hN⟩ := hrel
  have HOr : Hid (RowB base wr u0 (l ++ (putI n ++ ptsL X Y k))) := hO
  have HAr : Hid (PtB wr r (ahX X k) (ahX Y k)) := hA
  have HBr : Hid (Below base w wr) := hB
  have HNr : Hid (NB w wr) := hN
  have hbr : base ≤ wr.heap.size := Nat.le_trans hbase hB.size
  clear hO hA hB hN HO1 HA HB HN
  by_cases hlt : k < n
  ·obtain ⟨hx,hy⟩ := (HP.out.below HBr.out hbl) k hlt
   have hbw : b < wr.heap.size := by omega
   have hi' : (k : Int) < (n : Int) := by omega
   obtain ⟨hX,hY⟩ := HIN.out k hlt
   have hX' := ahX_bd (fun i hi => (HIN.out i hi).1) k (by omega)
   have hY' := ahX_bd (fun i hi => (HIN.out i hi).2) k (by omega)
   obtain ⟨m,hm,hm'⟩ := step_num hX hX'
   obtain ⟨q,hq,hq'⟩ := step_num hY hY'
   have HST : Hid (ptsL X Y (k + 1) = ptsL X Y k ++ (putI m ++ putI q)) := by show _ = _; simp [ptsL,stepL,hm,hq]
   have hlen := ptsL_len HIN.out k (by omega)
   have hln := putI_len2 n (by omega)
   have hlm := putI_len2 m hm'
   have HM : Hid (foldI (X k - ahX X k) = (m : Int)) := hm
   have HQ : Hid (foldI (Y k - ahX Y k) = (q : Int)) := hq
   clear hm hq
   obtain ⟨ax,hax⟩ : ∃ z,ahX X k = z := ⟨_,rfl⟩
   obtain ⟨ay,hay⟩ : ∃ z,ahX Y k = z := ⟨_,rfl⟩
   rw [hax] at hX' HM HAr
   rw [hay] at hY' HQ HAr
   clear hax hay
   obtain ⟨q0,q1,_,_⟩ := HAr.out.cells
   have hrl := HAr.out.lt
   go_wp2_with fail
   generalize hV : (wr.alloc _ : World) = V
   have hbV : Below wr.heap.size wr V := by subst hV; (repeat (first|exact Qr _ _|assumption|refine Qd ?_|refine Qa ?_ _|refine Qt ?_|refine Qs ?_ _|refine Qo ?_ ?_ _ _))
   have HPV : Hid (PtB V wr.heap.size (X k) (Y k)) := by subst hV; exact PtB.new _ _ _
   have HAV : Hid (PtB V r (ax) (ay)) := HAr.out.nb (NB.of_below hbV)
   have HOV : Hid (RowB base V u0 (l ++ (putI n ++ ptsL X Y k))) := HOr.out.below hbV
   have HBV : Hid (Below base w V) := HBr.out.trans (hbV.mono hbr)
   have HNV : Hid (NB w V) := HNr.out.trans (NB.of_below hbV)
   have hsV : base ≤ V.heap.size := by have := hbV.size; omega
   obtain ⟨rp,hrp⟩ : ∃ r,wr.heap.size = r := ⟨_,rfl⟩
   rw [hrp] at HPV
   rw [hrp]
   have hwrp : w.heap.size ≤ rp := by have := HBr.out.size; omega
   have hne : r ≠ rp := by have := HAr.out.lt; omega
   clear hV hbV HOr HAr HBr HNr hx hy hrp q0 q1
   obtain ⟨a0,a1,f0,f1⟩ := HAV.out.cells
   obtain ⟨p0,p1,_,_⟩ := HPV.out.cells
   refine (impl_fold_any (X k - ax) _ (by omega) (by omega)).mono ?_
   rintro e w2 ⟨rfl,rfl⟩
   rw [HM.out]
   go_wp2_with fail
   refine (putNumber_nb base u0 _ m V HOV.out hsV (by omega) (by simp; omega)).mono ?_
   rintro e w3 ⟨v3,rfl,hO3,hB3,hN3⟩
   have HA3 : Hid (PtB w3 r (ax) (ay)) := HAV.out.nb hN3
   have HP3 : Hid (PtB w3 rp (X k) (Y k)) := HPV.out.nb hN3
   have HO3 : Hid (RowB base w3 v3 (l ++ (putI n ++ ptsL X Y k) ++ putI m)) := hO3
   have HB3 : Hid (Below base w w3) := HBV.out.trans hB3
   have HN3 : Hid (NB w w3) := HNV.out.trans hN3
   have hs3 : base ≤ w3.heap.size := by have := hB3.size; omega
   clear hO3 hB3 hN3 HOV HAV HBV HNV HPV a0 a1 f0 f1 p0 p1
   obtain ⟨a0,a1,f0,f1⟩ := HA3.out.cells
   obtain ⟨p0,p1,_,_⟩ := HP3.out.cells
   go_wp2_with fail
   refine (impl_fold_any (Y k - ay) _ (by omega) (by omega)).mono ?_
   rintro e w4 ⟨rfl,rfl⟩
   rw [HQ.out]
   go_wp2_with fail
   refine (putNumber_nb base v3 _ q w3 HO3.out hs3 (by omega) (by simp; omega)).mono ?_
   rintro e w5 ⟨v5,rfl,hO5,hB5,hN5⟩
   have HA5 : Hid (PtB w5 r (ax) (ay)) := HA3.out.nb hN5
   have HP5 : Hid (PtB w5 rp (X k) (Y k)) := HP3.out.nb hN5
   have HO5 : Hid (RowB base w5 v5 (l ++ (putI n ++ ptsL X Y (k + 1)))) := by
    show RowB _ _ _ _
    rw [HST.out]
    simpa using hO5
   have HB5 : Hid (Below base w w5) := HB3.out.trans hB5
   have HN5 : Hid (NB w w5) := HN3.out.trans hN5
   clear hO5 hB5 hN5 HO3 HA3 HB3 HN3 HP3 a0 a1 f0 f1 p0 p1
   obtain ⟨a0,a1,f0,f1⟩ := HA5.out.cells
   obtain ⟨p0,p1,_,_⟩ := HP5.out.cells
   go_wp2
   go_roundw
   case rel =>
    refine ⟨k + 1,by omega,by first | rfl | go_num | (simp; done) | omega,?_,?_,?_,?_⟩
    ·exact HO5.out.set2 HA5.out
    ·rw [ahX_succ,ahX_succ]; exact HA5.out.set
    ·exact (HB5.out.setCell (p := ⟨r,0,none⟩) (by show base ≤ r; omega) _).setCell (p := ⟨r,1,none⟩) (by show base ≤ r; omega) _
    ·exact (HN5.out.set hr' _).set hr' _
   case measure => simp [intOf]; omega
  ·have hkn : k = n := by omega
   subst hkn
   have hi' : ¬ (k : Int) < (k : Int) := by omega
   go_wp2
   go_ret
   exact ⟨_,rfl,HOr.out,HBr.out,HNr.out⟩
theorem sideB_swap (px py ax ay bx by' : Int) : sideB px py bx by' ax ay = sideB px py ax ay bx by' := by
 rcases Int.lt_trichotomy ay by' with h | h | h
 ·rw [side_down h,side_up (Int.le_of_lt h)]
 ·subst h
  unfold sideB
  simp
 ·rw [side_up (Int.le_of_lt h),side_down h]
theorem oddTo_congr {f g : Nat → Bool} : ∀ n,(∀ i,i < n → f i = g i) → oddTo f n = oddTo g n
 | 0,_ => rfl
 | n + 1,h => by rw [oddTo,oddTo,h n (by omega),oddTo_congr n (fun i hi => h i (by omega))]
theorem oddTo_shift (f : Nat → Bool) : ∀ n,oddTo f (n + 1) = if f 0 = true then !(oddTo (fun i => f (i + 1)) n) else oddTo (fun i => f (i + 1)) n
 | 0 => rfl
 | n + 1 => by
  rw [oddTo,oddTo_shift f n,oddTo]
  cases f 0 <;> cases f (n + 1) <;> simp
theorem oddTo_rev (f : Nat → Bool) : ∀ n,oddTo (fun i => f (n - 1 - i)) n = oddTo f n
 | 0 => rfl
 | n + 1 => by
  rw [oddTo_shift,oddTo]
  have h : oddTo (fun i => f (n + 1 - 1 - (i + 1))) n = oddTo f n := by
   rw [← oddTo_rev f n]
   exact oddTo_congr n (fun i hi => by congr 1; omega)
  rw [h]
  simp
theorem odd_back (px py : Int) (n : Nat) (X Y : Nat → Int) (hn : 0 < n) :
  oddTo (sideAt px py n (fun i => X (n - 1 - i)) (fun i => Y (n - 1 - i))) n = oddTo (sideAt px py n X Y) n := by
 obtain ⟨m,rfl⟩ : ∃ m,n = m + 1 := ⟨n - 1,by omega⟩
 rw [oddTo,oddTo]
 have hl : sideAt px py (m + 1) (fun i => X (m + 1 - 1 - i)) (fun i => Y (m + 1 - 1 - i)) m = sideAt px py (m + 1) X Y m := by
  unfold sideAt
  rw [Nat.mod_self]
  simp only [Nat.add_sub_cancel,Nat.sub_self,Nat.sub_zero]
  exact sideB_swap _ _ _ _ _ _
 have hr : oddTo (sideAt px py (m + 1) (fun i => X (m + 1 - 1 - i)) (fun i => Y (m + 1 - 1 - i))) m = oddTo (sideAt px py (m + 1) X Y) m := by
  rw [← oddTo_rev (sideAt px py (m + 1) X Y) m]
  refine oddTo_congr m (fun i hi => ?_)
  unfold sideAt
  have e1 : (i + 1) % (m + 1) = i + 1 := Nat.mod_eq_of_lt (by omega)
  have e2 : (m - 1 - i + 1) % (m + 1) = m - 1 - i + 1 := Nat.mod_eq_of_lt (by omega)
  have e3 : m - 1 - i + 1 = m + 1 - 1 - i := by omega
  have e4 : m + 1 - 1 - (i + 1) = m - 1 - i := by omega
  rw [e1,e2,e3]
  simp only [e4]
  exact sideB_swap _ _ _ _ _ _
 rw [hl,hr]
theorem oddTo_none {f : Nat → Bool} : ∀ n,(∀ i,i < n → f i = false) → oddTo f n = false
 | 0,_ => rfl
 | n + 1,h => by rw [oddTo,h n (by omega),oddTo_none n (fun i hi => h i (by omega))]; rfl
theorem oddTo_round (u : Nat → Bool) (n : Nat) (hn : 0 < n) : oddTo (fun i => u i != u ((i + 1) % n)) n = false := by
 obtain ⟨m,rfl⟩ : ∃ m,n = m + 1 := ⟨n - 1,by omega⟩
 have key : ∀ k,k ≤ m → oddTo (fun i => u i != u ((i + 1) % (m + 1))) k = (u 0 != u k) := by
  intro k
  induction k with
  | zero => intro _; simp [oddTo]
  | succ k ih =>
   intro hk
   rw [oddTo,ih (by omega),Nat.mod_eq_of_lt (show k + 1 < m + 1 by omega)]
   cases u 0 <;> cases u k <;> cases u (k + 1) <;> rfl
 rw [oddTo,key m (Nat.le_refl _),Nat.mod_self]
 cases u 0 <;> cases u m <;> rfl
theorem cross_as (ax ay bx by' px py : Int) : crossI ax ay bx by' px py = (py - ay) * (bx - px) + (by' - py) * (ax - px) := by
 unfold crossI
 simp only [Int.mul_sub,Int.sub_mul]
 have e1 := Int.mul_comm ax ay
 have e2 := Int.mul_comm bx by'
 have e3 := Int.mul_comm ax by'
 have e4 := Int.mul_comm bx ay
 have e5 := Int.mul_comm ay px
 have e6 := Int.mul_comm by' px
 have e7 := Int.mul_comm py ax
 have e8 := Int.mul_comm py bx
 have e9 := Int.mul_comm py px
 have e10 := Int.mul_comm py ay
 have e11 := Int.mul_comm py by'
 omega
abbrev srcW (a : Option Addr) (n cap : Nat) (w : World) : World := w.alloc (.cells #[.slice a n cap, .int .i64 0] 82)
theorem l1Source_ex (a : Option Addr) (n cap : Nat) (w : World) : Calls Tryz.prog 14 #[.slice a n cap] w fun e w' => e = .returned (.pointer (some ⟨w.heap.size,0,none⟩)) ∧ srcW a n cap w = w' := by
 go_enter Tryz.func14,Tryz.ntmps14
 go_wp2
 go_ret
 exact ⟨rfl,rfl⟩
theorem src_start (a : Option Addr) (n cap : Nat) (Z : Nat → Int) (w : World) (h : IsBytes w a n Z) (hr : ∀ i,0 ≤ Z i ∧ Z i ≤ 255) (hn : n ≤ 1048576) : Src a n cap Z w.heap.size 0 (srcW a n cap w) := by
 have hb : Below w.heap.size w (srcW a n cap w) := by unfold srcW; (repeat (first|exact Qr _ _|assumption|refine Qd ?_|refine Qa ?_ _|refine Qt ?_|refine Qs ?_ _|refine Qo ?_ ?_ _ _))
 refine ⟨by simp [go_sem],by simp [go_sem],by simp [go_sem],?_,hr,hn⟩
 rcases h with h | ⟨b,off,e,hl,hz⟩
 ·exact .inl h
 ·exact .inr ⟨b,off,e,hl,fun i hi => (hb.cell (p := ⟨b,off + i,none⟩) hl).trans (hz i hi)⟩
theorem Src.belowB {a : Option Addr} {n cap : Nat} {Z : Nat → Int} {s t B : Nat} {w w' : World} (h : Src a n cap Z s t w) (hb : Below B w w') (hs : s < B) : Src a n cap Z s t w' := by
 refine ⟨(hb.cell (p := ⟨s,0,none⟩) hs).trans h.code,(hb.cell (p := ⟨s,1,none⟩) hs).trans h.at',(hb.frozen (p := ⟨s,1,none⟩) hs).trans h.wr,?_,h.rng,h.max⟩
 rcases h.bytes with h0 | ⟨b,off,e,hs',hz⟩
 ·exact .inl h0
 ·exact .inr ⟨b,off,e,hs',fun i hi => (hb.cell (p := ⟨b,off + i,none⟩) (show b < B by omega)).trans (hz i hi)⟩
theorem Keeps.thenB {s : Nat} {w w1 w2 : World} (h : Keeps s w w1) (hb : Below w.heap.size w1 w2) : Keeps s w w2 :=
 ⟨hb.os.trans h.os,hb.tape.trans h.tape,hb.output.trans h.output,Nat.le_trans h.size hb.size,fun k hk hs => (hb.block k hk).trans (h.block k hk hs)⟩
theorem ownsRow_keeps {W W' : World} {base s n size : Nat} {e : TypeId} {v : Value} {xs : List Value} (h : W.ownsRow base e size v n xs) (hk : Keeps s W W') (hs : s < base) : W'.ownsRow base e size v n xs := by
 obtain ⟨h1,h2 | ⟨g,cp,cur,hv,hg,hh,hr⟩⟩ := h
 ·exact ⟨h1, .inl h2⟩
 ·refine ⟨h1, .inr ⟨g,cp,cur,hv,hg,?_,hr⟩⟩
  have hgl : g < W.heap.size := by
   rcases Nat.lt_or_ge g W.heap.size with h' | h'
   ·exact h'
   ·rw [Array.getElem?_eq_none h'] at hh; cases hh
  rw [hk.block g hgl (by omega)]
  exact hh
theorem lwBig_any (a : Option Addr) (n cap : Nat) (w : World) : Calls Tryz.prog 4 #[.slice a n cap] w fun e w' => e = .returned (.bool (decide (1048576 < (n : Int)))) ∧ w' = w := by
 go_enter Tryz.func4,Tryz.ntmps4
 go_wp2
 go_ret
 exact ⟨rfl,rfl⟩
theorem set3_atr {W : World} {r : Nat} {a b c : Value} (hT : There W r 3) :
  (((W.setCell ⟨r,0,none⟩ a).setCell ⟨r,1,none⟩ b).setCell ⟨r,2,none⟩ c).cell? ⟨r,0,none⟩ = some a ∧
  (((W.setCell ⟨r,0,none⟩ a).setCell ⟨r,1,none⟩ b).setCell ⟨r,2,none⟩ c).cell? ⟨r,1,none⟩ = some b ∧
  (((W.setCell ⟨r,0,none⟩ a).setCell ⟨r,1,none⟩ b).setCell ⟨r,2,none⟩ c).cell? ⟨r,2,none⟩ = some c := by
 obtain ⟨x0,h0⟩ := (hT 0 (by omega)).1
 obtain ⟨x1,h1⟩ := (hT 1 (by omega)).1
 obtain ⟨x2,h2⟩ := (hT 2 (by omega)).1
 have ne : ∀ i j : Nat,i ≠ j → (⟨r,i,none⟩ : Addr) ≠ ⟨r,j,none⟩ := fun i j hij h => hij (by injection h)
 refine ⟨?_,?_,?_⟩
 ·rw [set1_other (ne 2 0 (by omega)),set1_other (ne 1 0 (by omega))]; exact set1_same h0
 ·rw [set1_other (ne 2 1 (by omega))]; exact set1_same (by rw [set1_other (ne 0 1 (by omega))]; exact h1)
 ·exact set1_same (by rw [set1_other (ne 1 2 (by omega)),set1_other (ne 0 2 (by omega))]; exact h2)
theorem pick2r (a : Option Addr) (n cap : Nat) (Z : Nat → Int) (s t : Nat) (x0 x1 : Int) (w : World) (T : TypeId) (h : Src a n cap Z s t w) (hcap : n ≤ cap) (ht : t ≤ 900) :
  Calls Tryz.prog 40 #[.pointer (some ⟨s,0,none⟩), .slice (some ⟨w.heap.size,0,none⟩) 2 2] (w.alloc (.cells #[.int .i64 x0, .int .i64 x1] T)) fun e w' => ∃ x : Int,e = .returned (.int .i64 x) ∧ Src a n cap Z s (t + 1) w' ∧ Keeps s w w' := by
 have hsl : s < w.heap.size := World.block_lt_of_cell? _ _ h.code
 have hb : Below w.heap.size w (w.alloc (.cells #[.int .i64 x0, .int .i64 x1] T)) := by (repeat (first|exact Qr _ _|assumption|refine Qd ?_|refine Qa ?_ _|refine Qt ?_|refine Qs ?_ _|refine Qo ?_ ?_ _ _))
 refine (l1Pick_any a n cap Z s t w.heap.size 2 (fun i => if i = 0 then x0 else x1) _ (h.below hb) hcap ht (by omega) (by omega) (by omega) (fun i hi => ?_)).mono ?_
 ·have hc : i = 0 ∨ i = 1 := by omega
  rcases hc with rfl | rfl <;> simp [go_sem]
 ·rintro e w' ⟨x,rfl,hS,hK⟩
  exact ⟨x,rfl,hS,(Keeps.of_below hb).trans hK⟩
theorem pick3r (a : Option Addr) (n cap : Nat) (Z : Nat → Int) (s t : Nat) (x0 x1 x2 : Int) (w : World) (T : TypeId) (h : Src a n cap Z s t w) (hcap : n ≤ cap) (ht : t ≤ 900) :
  Calls Tryz.prog 40 #[.pointer (some ⟨s,0,none⟩), .slice (some ⟨w.heap.size,0,none⟩) 3 3] (w.alloc (.cells #[.int .i64 x0, .int .i64 x1, .int .i64 x2] T)) fun e w' => ∃ x : Int,e = .returned (.int .i64 x) ∧ Src a n cap Z s (t + 1) w' ∧ Keeps s w w' := by
 have hsl : s < w.heap.size := World.block_lt_of_cell? _ _ h.code
 have hb : Below w.heap.size w (w.alloc (.cells #[.int .i64 x0, .int .i64 x1, .int .i64 x2] T)) := by (repeat (first|exact Qr _ _|assumption|refine Qd ?_|refine Qa ?_ _|refine Qt ?_|refine Qs ?_ _|refine Qo ?_ ?_ _ _))
 refine (l1Pick_any a n cap Z s t w.heap.size 3 (fun i => if i = 0 then x0 else if i = 1 then x1 else x2) _ (h.below hb) hcap ht (by omega) (by omega) (by omega) (fun i hi => ?_)).mono ?_
 ·have hc : i = 0 ∨ i = 1 ∨ i = 2 := by omega
  rcases hc with rfl | rfl | rfl <;> simp [go_sem]
 ·rintro e w' ⟨x,rfl,hS,hK⟩
  exact ⟨x,rfl,hS,(Keeps.of_below hb).trans hK⟩



theorem PtsAt.set {w : World} {b off n r o : Nat} {X Y : Nat → Int} {v : Value} (h : PtsAt w b off n X Y) (hr : r ≠ b) : PtsAt (w.setCell ⟨r,o,none⟩ v) b off n X Y := fun i hi =>
 ⟨by rw [World.cell?_setCell_other]; exact (h i hi).1; intro e; injection e with e; omega,by rw [World.cell?_setCell_other]; exact (h i hi).2; intro e; injection e with e; omega⟩
def Two (w : World) (p : Nat) (x y : Int) : Prop := w.cell? ⟨p,0,none⟩ = some (.int .i64 x) ∧ w.cell? ⟨p,1,none⟩ = some (.int .i64 y)

end Go.Proofs.YtfkonhagjahgnaaGreat
