/- Texts. -/
import Derived.Test.YtiephlohemphjaaGreatVTickViewer7
import Derived.Test.YtiephlohemphjaaGreatVTickViewer6
import Derived.Test.YtiephlohemphjaaGreatVTickViewer8
import Derived.Shelf.Pu.Clone
set_option linter.unusedSimpArgs false
set_option linter.unusedVariables false
set_option maxRecDepth 100000
set_option maxHeartbeats 32000000
namespace Go.Proofs.YtiephlohemphjaaGreat
open Go.RowKit
def byteI (s : ByteArray) (i : Nat) : Int := if h : i < s.size then ((s[i]'h).toNat : Int) else 0
theorem byteI_at (s : ByteArray) (i : Nat) (h : i < s.size) : byteI s i = ((s[i]'h).toNat : Int) := by simp [byteI,h]
def allLet (s : ByteArray) : Bool := decide (∀ i,i < s.size → letB (byteI s i) = true)
def labB (s : ByteArray) : Bool := decide (s.size ≤ 6) && allLet s
theorem labB_long {s : ByteArray} (h : 6 < s.size) : labB s = false := by simp [labB]; omega
theorem labB_bad {s : ByteArray} (k : Nat) (hk : k < s.size) (h : letB (byteI s k) = false) : labB s = false := by
 have : allLet s = false := by
  unfold allLet
  rw [decide_eq_false]
  intro hc
  have := hc k hk
  rw [h] at this; cases this
 simp [labB,this]
theorem labB_all {s : ByteArray} (h : ∀ i,i < s.size → letB (byteI s i) = true) : labB s = decide (s.size ≤ 6) := by
 have : allLet s = true := decide_eq_true h
 simp [labB,this]
theorem isLabel_any (s : ByteArray) (w : World) (hs : s.size ≤ 1048576) : Calls Tryz.prog 238 #[.string s] w fun e w' => e = .returned (.bool (labB s)) ∧ Below w.heap.size w w' := by
 by_cases h6 : (6 : Int) < s.size
 ·go_enter Tryz.func238,Tryz.ntmps238
  go_wp2
  go_ret
  exact ⟨ret_bool (labB_long (by omega)).symm,by (repeat (first|exact Qr _ _|assumption|refine Qd ?_|refine Qa ?_ _|refine Qt ?_|refine Qs ?_ _|refine Qo ?_ ?_ _ _))⟩
 ·go_enter Tryz.func238,Tryz.ntmps238
  go_wp2
  go_loopw [9] (fun i wr => ∃ k : Nat,k ≤ s.size ∧ i = .int .i64 k ∧ (∀ j,j < k → letB (byteI s j) = true) ∧ Below w.heap.size w wr) (fun i _ => s.size - (intOf i).toNat)
  case atStart => exact ⟨0,by omega,rfl,by omega,Below.refl _ _⟩
  case round =>
   obtain ⟨k,hk,rfl,hA,hB⟩ := hrel
   by_cases hlt : k < s.size
   ·have hi : (k : Int) < (s.size : Int) := by omega
    have HA : Hid (∀ j,j < k → letB (byteI s j) = true) := hA
    have HB : Hid (Below w.heap.size w wr) := hB
    have hbk := (byteI_at s k hlt).symm
    clear hA hB
    go_wp2_with fail
    refine (isLetter_any _ _).mono ?_
    rintro e w' ⟨rfl,rfl⟩
    cases hl : letB (byteI s k)
    ·go_wp2
     go_ret
     exact ⟨ret_bool (labB_bad k hlt hl).symm,HB.out⟩
    ·have HL : Hid (letB (byteI s k) = true) := hl
     clear hl
     go_wp2
     go_roundw
     case rel => exact ⟨k + 1,by omega,by go_num,fun j hj => by
       by_cases e : j = k
       ·rw [e]; exact HL.out
       ·exact HA.out j (by omega),HB.out⟩
     case measure => simp [intOf]; omega
   ·go_wp2
    go_ret
    exact ⟨ret_bool (by rw [labB_all (fun i hi => hA i (by omega))]; simp; omega),hB⟩
theorem l2Label_any (s : ByteArray) (w : World) (hs : s.size ≤ 1048576) : Calls Tryz.prog 200 #[.string s] w fun e w' => e = .returned (.bool (labB s)) ∧ Below w.heap.size w w' := by
  go_enter Tryz.func200,Tryz.ntmps200
  go_wp2
  go_loopw [3] (fun i wr => ∃ k : Nat,k ≤ s.size ∧ i = .int .i64 k ∧ (∀ j,j < k → letB (byteI s j) = true) ∧ Below w.heap.size w wr) (fun i _ => s.size - (intOf i).toNat)
  case atStart => exact ⟨0,by omega,rfl,by omega,Below.refl _ _⟩
  case round =>
   obtain ⟨k,hk,rfl,hA,hB⟩ := hrel
   by_cases hlt : k < s.size
   ·have hi : (k : Int) < (s.size : Int) := by omega
    have HA : Hid (∀ j,j < k → letB (byteI s j) = true) := hA
    have HB : Hid (Below w.heap.size w wr) := hB
    have hbk := byteI_at s k hlt
    have HK := (show Hid _ from hbk)
    clear hA hB hbk
    by_cases l1 : ((s[k]'hlt).toNat : Int) < 97
    ·go_wp2
     go_ret
     exact ⟨ret_bool (labB_bad k hlt (by rw [HK.out]; simp [letB]; omega)).symm,HB.out⟩
    ·have l1' : decide (((s[k]'hlt).toNat : Int) < 97) = false := by simpa using l1
     by_cases l2 : (122 : Int) < ((s[k]'hlt).toNat : Int)
     ·go_wp2
      go_ret
      exact ⟨ret_bool (labB_bad k hlt (by rw [HK.out]; simp [letB]; omega)).symm,HB.out⟩
     ·have l2' : decide ((122 : Int) < ((s[k]'hlt).toNat : Int)) = false := by simpa using l2
      have HL : Hid (letB (byteI s k) = true) := by show _ = _; rw [HK.out]; simp [letB]; omega
      go_wp2
      go_roundw
      case rel => exact ⟨k + 1,by omega,by go_num,fun j hj => by
        by_cases e : j = k
        ·rw [e]; exact HL.out
        ·exact HA.out j (by omega),HB.out⟩
      case measure => simp [intOf]; omega
   ·go_wp2
    go_ret
    exact ⟨ret_bool (by rw [labB_all (fun i hi => hA i (by omega))]; simp <;> omega),hB⟩
theorem l1In_eq (v lo hi : Int) (w : World) : Calls Tryz.prog 30 #[.int .i64 v, .int .i64 lo, .int .i64 hi] w fun e w' => e = .returned (.bool (inB v lo hi)) ∧ w = w' := (l1In_any v lo hi w).mono fun e w' ⟨he,hw⟩ => ⟨he,hw.symm⟩
theorem l2Size_eq (ki n : Int) (w : World) : Calls Tryz.prog 199 #[.int .i64 ki, .int .i64 n] w fun e w' => e = .returned (.bool (sizeB ki n)) ∧ w = w' := (l2Size_any ki n w).mono fun e w' ⟨he,hw⟩ => ⟨he,hw.symm⟩
theorem isWithin_eq (v lo hi : Int) (w : World) : Calls Tryz.prog 36 #[.int .i64 v, .int .i64 lo, .int .i64 hi] w fun e w' => e = .returned (.bool (inB v lo hi)) ∧ w = w' := (isWithin_any v lo hi w).mono fun e w' ⟨he,hw⟩ => ⟨he,hw.symm⟩
def FeatAt (w : World) (p o : Nat) (id la ki wi : Int) (pts : Value) (lab : ByteArray) (pr : Int) : Prop :=
 w.cell? ⟨p,o,none⟩ = some (.int .i64 id) ∧ w.cell? ⟨p,o + 1,none⟩ = some (.int .i64 la) ∧ w.cell? ⟨p,o + 2,none⟩ = some (.int .i64 ki) ∧ w.cell? ⟨p,o + 3,none⟩ = some (.int .i64 wi) ∧
 w.cell? ⟨p,o + 4,none⟩ = some pts ∧ w.cell? ⟨p,o + 5,none⟩ = some (.string lab) ∧ w.cell? ⟨p,o + 6,none⟩ = some (.int .i64 pr)
theorem FeatAt.below {w w' : World} {p o B : Nat} {id la ki wi pr : Int} {pts : Value} {lab : ByteArray} (h : FeatAt w p o id la ki wi pts lab pr) (hb : Below B w w') (hp : p < B) : FeatAt w' p o id la ki wi pts lab pr := by
 obtain ⟨h0,h1,h2,h3,h4,h5,h6⟩ := h
 refine ⟨(hb.cell (p := ⟨p,o,none⟩) hp).trans h0,(hb.cell (p := ⟨p,o + 1,none⟩) hp).trans h1,(hb.cell (p := ⟨p,o + 2,none⟩) hp).trans h2,(hb.cell (p := ⟨p,o + 3,none⟩) hp).trans h3,(hb.cell (p := ⟨p,o + 4,none⟩) hp).trans h4,(hb.cell (p := ⟨p,o + 5,none⟩) hp).trans h5,(hb.cell (p := ⟨p,o + 6,none⟩) hp).trans h6⟩
def ptsIn (n : Nat) (X Y : Nat → Int) : Bool := decide (∀ i,i < n → inW (X i) (Y i) = true)
def rngB (id la ki wi pr : Int) : Bool := inB id 1 999 && (inB la 0 9 && (inB ki 1 3 && (inB wi 0 3 && inB pr 0 9)))
def featC (id la ki wi : Int) (n : Nat) (X Y : Nat → Int) (lab : ByteArray) (pr : Int) : Int :=
 if rngB id la ki wi pr = true then (if sizeB ki n = true then (if ptsIn n X Y = true then (if labB lab = true then 0 else 5) else 3) else 2) else 3
theorem ptsIn_bad {n : Nat} {X Y : Nat → Int} (k : Nat) (hk : k < n) (h : inW (X k) (Y k) = false) : ptsIn n X Y = false := by
 unfold ptsIn
 rw [decide_eq_false]
 intro hc
 have := hc k hk
 rw [h] at this; cases this
theorem l2Fault_any (p o : Nat) (id la ki wi : Int) (a : Option Addr) (n cap : Nat) (X Y : Nat → Int) (lab : ByteArray) (pr : Int) (w : World) (hf : FeatAt w p o id la ki wi (.slice a n cap) lab pr) (hpt : IsPts w a n X Y) (hl : lab.size ≤ 1048576) (hn : n ≤ 1048576) :
  Calls Tryz.prog 174 #[.pointer (some ⟨p,o,none⟩)] w fun e w' => e = .returned (.int .i64 (featC id la ki wi n X Y lab pr)) ∧ Below w.heap.size w w' := by
 have hpl : p < w.heap.size := World.block_lt_of_cell? _ _ hf.1
 have c0 : ∀ W',Below w.heap.size w W' → W'.cell? ⟨p,o,none⟩ = some (.int .i64 id) := fun W' h => (hf.below h hpl).1
 have c1 : ∀ W',Below w.heap.size w W' → W'.cell? ⟨p,o + 1,none⟩ = some (.int .i64 la) := fun W' h => (hf.below h hpl).2.1
 have c2 : ∀ W',Below w.heap.size w W' → W'.cell? ⟨p,o + 2,none⟩ = some (.int .i64 ki) := fun W' h => (hf.below h hpl).2.2.1
 have c3 : ∀ W',Below w.heap.size w W' → W'.cell? ⟨p,o + 3,none⟩ = some (.int .i64 wi) := fun W' h => (hf.below h hpl).2.2.2.1
 have c4 : ∀ W',Below w.heap.size w W' → W'.cell? ⟨p,o + 4,none⟩ = some (.slice a n cap) := fun W' h => (hf.below h hpl).2.2.2.2.1
 have c5 : ∀ W',Below w.heap.size w W' → W'.cell? ⟨p,o + 5,none⟩ = some (.string lab) := fun W' h => (hf.below h hpl).2.2.2.2.2.1
 have c6 : ∀ W',Below w.heap.size w W' → W'.cell? ⟨p,o + 6,none⟩ = some (.int .i64 pr) := fun W' h => (hf.below h hpl).2.2.2.2.2.2
 obtain ⟨h0,h1,h2,h3,h4,h5,h6⟩ := hf
 have HP : Hid (IsPts w a n X Y) := hpt
 clear hpt
 cases e0 : inB id 1 999
 ·have hz : Hid (featC id la ki wi n X Y lab pr = 3) := by show _ = _; simp [featC,rngB,e0]
  go_enter Tryz.func174,Tryz.ntmps174
  go_wp2_with (go_at_call 30; refine (l1In_eq _ _ _ _).mono ?_; rintro e w' ⟨rfl,rfl⟩)
  go_ret
  exact ⟨ret_int hz.out.symm,by (repeat (first|exact Qr _ _|assumption|refine Qd ?_|refine Qa ?_ _|refine Qt ?_|refine Qs ?_ _|refine Qo ?_ ?_ _ _))⟩
 cases e1 : inB la 0 9
 ·have hz : Hid (featC id la ki wi n X Y lab pr = 3) := by show _ = _; simp [featC,rngB,e0,e1]
  go_enter Tryz.func174,Tryz.ntmps174
  go_wp2_with (go_at_call 30; refine (l1In_eq _ _ _ _).mono ?_; rintro e w' ⟨rfl,rfl⟩)
  go_ret
  exact ⟨ret_int hz.out.symm,by (repeat (first|exact Qr _ _|assumption|refine Qd ?_|refine Qa ?_ _|refine Qt ?_|refine Qs ?_ _|refine Qo ?_ ?_ _ _))⟩
 cases e2 : inB ki 1 3
 ·have hz : Hid (featC id la ki wi n X Y lab pr = 3) := by show _ = _; simp [featC,rngB,e0,e1,e2]
  go_enter Tryz.func174,Tryz.ntmps174
  go_wp2_with (go_at_call 30; refine (l1In_eq _ _ _ _).mono ?_; rintro e w' ⟨rfl,rfl⟩)
  go_ret
  exact ⟨ret_int hz.out.symm,by (repeat (first|exact Qr _ _|assumption|refine Qd ?_|refine Qa ?_ _|refine Qt ?_|refine Qs ?_ _|refine Qo ?_ ?_ _ _))⟩
 cases e3 : inB wi 0 3
 ·have hz : Hid (featC id la ki wi n X Y lab pr = 3) := by show _ = _; simp [featC,rngB,e0,e1,e2,e3]
  go_enter Tryz.func174,Tryz.ntmps174
  go_wp2_with (go_at_call 30; refine (l1In_eq _ _ _ _).mono ?_; rintro e w' ⟨rfl,rfl⟩)
  go_ret
  exact ⟨ret_int hz.out.symm,by (repeat (first|exact Qr _ _|assumption|refine Qd ?_|refine Qa ?_ _|refine Qt ?_|refine Qs ?_ _|refine Qo ?_ ?_ _ _))⟩
 cases e4 : inB pr 0 9
 ·have hz : Hid (featC id la ki wi n X Y lab pr = 3) := by show _ = _; simp [featC,rngB,e0,e1,e2,e3,e4]
  go_enter Tryz.func174,Tryz.ntmps174
  go_wp2_with (go_at_call 30; refine (l1In_eq _ _ _ _).mono ?_; rintro e w' ⟨rfl,rfl⟩)
  go_ret
  exact ⟨ret_int hz.out.symm,by (repeat (first|exact Qr _ _|assumption|refine Qd ?_|refine Qa ?_ _|refine Qt ?_|refine Qs ?_ _|refine Qo ?_ ?_ _ _))⟩
 have hr : Hid (rngB id la ki wi pr = true) := by show _ = _; simp [rngB,e0,e1,e2,e3,e4]
 cases e5 : sizeB ki n
 ·have hz : Hid (featC id la ki wi n X Y lab pr = 2) := by show _ = _; simp [featC,hr.out,e5]
  go_enter Tryz.func174,Tryz.ntmps174
  go_wp2_with (first | (go_at_call 30; refine (l1In_eq _ _ _ _).mono ?_; rintro e w' ⟨rfl,rfl⟩) | (go_at_call 199; refine (l2Size_eq _ _ _).mono ?_; rintro e w' ⟨rfl,rfl⟩))
  go_region_held3 (fun W' => Below w.heap.size w W') ((repeat (first|exact Qr _ _|assumption|refine Qd ?_|refine Qa ?_ _|refine Qt ?_|refine Qs ?_ _|refine Qo ?_ ?_ _ _)))
   (first | (go_at_call 199; refine (l2Size_eq _ _ _).mono ?_; rintro e w' ⟨rfl,rfl⟩))
  go_wp2
  go_ret
  exact ⟨ret_int hz.out.symm,by (repeat (first|exact Qr _ _|assumption|refine Qd ?_|refine Qa ?_ _|refine Qt ?_|refine Qs ?_ _|refine Qo ?_ ?_ _ _))⟩
 go_enter Tryz.func174,Tryz.ntmps174
 go_wp2_with (first | (go_at_call 30; refine (l1In_eq _ _ _ _).mono ?_; rintro e w' ⟨rfl,rfl⟩) | (go_at_call 199; refine (l2Size_eq _ _ _).mono ?_; rintro e w' ⟨rfl,rfl⟩))
 go_region_held3 (fun W' => Below w.heap.size w W') ((repeat (first|exact Qr _ _|assumption|refine Qd ?_|refine Qa ?_ _|refine Qt ?_|refine Qs ?_ _|refine Qo ?_ ?_ _ _)))
  (first | (go_at_call 199; refine (l2Size_eq _ _ _).mono ?_; rintro e w' ⟨rfl,rfl⟩))
 go_wp2
 go_loopw [3] (fun i wr => ∃ k : Nat,k ≤ n ∧ i = .int .i64 k ∧ (∀ j,j < k → inW (X j) (Y j) = true) ∧ Below w.heap.size w wr) (fun i _ => n - (intOf i).toNat)
 case atStart => exact ⟨0,by omega,rfl,by omega,(Below.refl _ _).drew⟩
 case round =>
  obtain ⟨k,hk,rfl,hA,hB⟩ := hrel
  have HA : Hid (∀ j,j < k → inW (X j) (Y j) = true) := hA
  have HB : Hid (Below w.heap.size w wr) := hB
  clear h0 h1 h2 h3 h4 h5 h6 c0 c1 c2 c3 c6 hA
  by_cases hlt : k < n
  ·rcases HP.out with hz | ⟨b,off,rfl,hbl,hpt⟩
   ·omega
   have hi : (k : Int) < (n : Int) := by omega
   have hi0 : (0 : Int) ≤ (k : Int) := by omega
   have d4 : ∀ W',Below wr.heap.size wr W' → W'.cell? ⟨p,o + 4,none⟩ = some (.slice (some ⟨b,off,none⟩) n cap) := fun W' h => c4 W' (hB.trans (h.mono hB.size))
   have dx : ∀ W',Below wr.heap.size wr W' → W'.cell? ⟨b,off + k * 2,none⟩ = some (.int .i64 (X k)) := fun W' h => (hpt.below (hB.trans (h.mono hB.size)) hbl k hlt).1
   have dy : ∀ W',Below wr.heap.size wr W' → W'.cell? ⟨b,off + k * 2 + 1,none⟩ = some (.int .i64 (Y k)) := fun W' h => (hpt.below (hB.trans (h.mono hB.size)) hbl k hlt).2
   clear c4 c5 hB hpt
   have hr0 : Below wr.heap.size wr wr := Below.refl _ _
   cases ex : inB (X k) 0 1024
   ·have hz : Hid (featC id la ki wi n X Y lab pr = 3) := by show _ = _; simp [featC,hr.out,e5,ptsIn_bad k hlt (show inW (X k) (Y k) = false by simp [inW,ex])]
    go_wp2_with (go_at_call 30; refine (l1In_eq _ _ _ _).mono ?_; rintro e w' ⟨rfl,rfl⟩)
    go_ret
    exact ⟨ret_int hz.out.symm,HB.out⟩
   cases ey : inB (Y k) 0 1024
   ·have hz : Hid (featC id la ki wi n X Y lab pr = 3) := by show _ = _; simp [featC,hr.out,e5,ptsIn_bad k hlt (show inW (X k) (Y k) = false by simp [inW,ex,ey])]
    go_wp2_with (go_at_call 30; refine (l1In_eq _ _ _ _).mono ?_; rintro e w' ⟨rfl,rfl⟩)
    go_ret
    exact ⟨ret_int hz.out.symm,HB.out⟩
   have HI : Hid (inW (X k) (Y k) = true) := by show _ = _; simp [inW,ex,ey]
   go_wp2_with (go_at_call 30; refine (l1In_eq _ _ _ _).mono ?_; rintro e w' ⟨rfl,rfl⟩)
   go_roundw
   case rel => exact ⟨k + 1,by omega,by go_num,fun j hj => by
     by_cases e : j = k
     ·rw [e]; exact HI.out
     ·exact HA.out j (by omega),HB.out⟩
   case measure => simp [intOf]; omega
  ·have hz : Hid (featC id la ki wi n X Y lab pr = if labB lab = true then 0 else 5) := by
    show _ = _
    have : ptsIn n X Y = true := decide_eq_true (fun i hi => HA.out i (by omega))
    simp [featC,hr.out,e5,this]
   have d4 := c4 wr hB
   have d5 := c5 wr hB
   clear c4 c5
   cases el : labB lab
   all_goals
    go_wp2_with (go_at_call 200; refine (l2Label_any _ _ hl).mono ?_; rintro e w' ⟨rfl,hb⟩)
    go_ret
    exact ⟨ret_int (by rw [hz.out]; simp [el]),bl_then HB.out hb⟩
theorem there4r (V : World) (a b c d : Value) (t : TypeId) : There (V.alloc (.cells #[a,b,c,d] t)) V.heap.size 4 := fun o ho => by
 have : o = 0 ∨ o = 1 ∨ o = 2 ∨ o = 3 := by omega
 rcases this with rfl | rfl | rfl | rfl <;> exact ⟨⟨_,by simp [go_sem]; rfl⟩,by simp [go_sem]⟩
theorem there3r (V : World) (a b c : Value) (t : TypeId) : There (V.alloc (.cells #[a,b,c] t)) V.heap.size 3 := fun o ho => by
 have : o = 0 ∨ o = 1 ∨ o = 2 := by omega
 rcases this with rfl | rfl | rfl <;> exact ⟨⟨_,by simp [go_sem]; rfl⟩,by simp [go_sem]⟩
theorem impl_RefAt_any (z x y : Int) (w : World) : Calls Tryz.prog 170 #[.int .i64 z, .int .i64 x, .int .i64 y] w fun e w' => e = .returned (atV z x y) ∧ Below w.heap.size w w' := by
 go_enter Tryz.func170,Tryz.ntmps170
 go_wp2_with fail
 generalize hW : (w.alloc _ : World) = W
 have HB0 : Hid (Below w.heap.size w W) := by show Below _ _ _; subst hW; exact Qb
 have HT : Hid (There W w.heap.size 4) := by
  show There _ _ _
  subst hW
  exact there4r w (.int .i64 0) (.int .i64 0) (.int .i64 0) (.int .i64 0) 211
 have hsz : w.heap.size < W.heap.size := by subst hW; simp
 clear hW
 refine (isPixel_any _ _ _ _).mono ?_
 rintro e w1 ⟨rfl,hb1⟩
 have hT' := HT.out.below hb1
 have HT1 : Hid (There w1 w.heap.size 4) := hT'
 have t0 := hT'.cell 0 (by omega)
 have t1 := hT'.cell 1 (by omega)
 have t2 := hT'.cell 2 (by omega)
 have t3 := hT'.cell 3 (by omega)
 have f0 := (hT' 0 (by omega)).2
 have f1 := (hT' 1 (by omega)).2
 have f2 := (hT' 2 (by omega)).2
 have f3 := (hT' 3 (by omega)).2
 have HB1 : Hid (Below w.heap.size w w1) := bl_then HB0.out hb1
 have hsz1 : w.heap.size < w1.heap.size := Nat.lt_of_lt_of_le hsz hb1.size
 clear hb1 HT HB0 hT' hsz
 cases h : pixB z x y
 ·have hq : Hid (atV z x y = rrV 3 0 0 0) := by show _ = _; simp [atV,h]
  go_wp2_with fail
  obtain ⟨q0,q1,q2,q3⟩ := set4_at (a := .int .i64 3) (b := .int .i64 0) (c := .int .i64 0) (d := .int .i64 0) HT1.out
  refine bodyPost_ret (v := rrV 3 0 0 0) (by simp [results,Tryz.results170,go_sem,q0,q1,q2,q3]) rfl ⟨by rw [hq.out],?_⟩
  have HB := HB1.out
  exact Qb
 ·have hq : Hid (atV z x y = rrV 0 z (x / 8) (y / 8)) := by show _ = _; simp [atV,h]
  obtain ⟨⟨x0,x1⟩,y0,y1⟩ := pixB_in h
  have hp := (pixI_bd (pixB_zoom h)).2
  clear h
  generalize pixI z = u at *
  have dx : x.tdiv 8 = x / 8 := Int.tdiv_eq_ediv_of_nonneg x0
  have dy : y.tdiv 8 = y / 8 := Int.tdiv_eq_ediv_of_nonneg y0
  go_wp2_with fail
  obtain ⟨q0,q1,q2,q3⟩ := set4_at (a := .int .i64 0) (b := .int .i64 z) (c := .int .i64 (x / 8)) (d := .int .i64 (y / 8)) HT1.out
  refine bodyPost_ret (v := rrV 0 z (x / 8) (y / 8)) (by simp [results,Tryz.results170,go_sem,q0,q1,q2,q3]) rfl ⟨by rw [hq.out],?_⟩
  have HB := HB1.out
  exact Qb
theorem toRef_any (z x y : Int) (w : World) : Calls Tryz.prog 115 #[refV z x y] w fun e w' => e = .returned (refV z x y) ∧ Below w.heap.size w w' := by
 go_enter Tryz.func115,Tryz.ntmps115
 go_wp2
 exact bodyPost_ret (v := refV z x y) (by simp [results,Tryz.results115,go_sem]) rfl ⟨rfl,by (repeat (first|exact Qr _ _|assumption|refine Qd ?_|refine Qa ?_ _|refine Qt ?_|refine Qs ?_ _|refine Qo ?_ ?_ _ _))⟩
theorem eqRef_any (z x y : Int) (w : World) : Calls Tryz.prog 80 #[refV z x y,refV z x y] w fun e w' => e = .returned (.bool true) ∧ Below w.heap.size w w' := by
 go_enter Tryz.func80,Tryz.ntmps80
 go_wp2
 go_ret
 exact ⟨rfl,by (repeat (first|exact Qr _ _|assumption|refine Qd ?_|refine Qa ?_ _|refine Qt ?_|refine Qs ?_ _|refine Qo ?_ ?_ _ _))⟩

def rowsL (G : Int → Int → Int) (x y : Int) (wide high : Nat) : List Int := (List.range high).flatMap fun (r : Nat) => (List.range wide).map fun (c : Nat) => G (x + (c : Int)) (y + (r : Int))
def rowsP (G : Int → Int → Int) (x y : Int) (wide r c : Nat) : List Int := rowsL G x y wide r ++ (List.range c).map fun (c : Nat) => G (x + (c : Int)) (y + (r : Int))
theorem rowsL_len (G : Int → Int → Int) (x y : Int) (wide : Nat) : ∀ high,(rowsL G x y wide high).length = high * wide
 | 0 => by simp [rowsL]
 | h + 1 => by
  have := rowsL_len G x y wide h
  unfold rowsL at this ⊢
  rw [List.range_succ,List.flatMap_append,List.length_append,this]
  simp
  rw [Nat.add_mul]; omega
theorem rowsP_next (G : Int → Int → Int) (x y : Int) (wide r c : Nat) : rowsP G x y wide r (c + 1) = rowsP G x y wide r c ++ [G (x + (c : Int)) (y + (r : Int))] := by
 simp [rowsP,List.range_succ]
theorem rowsP_full (G : Int → Int → Int) (x y : Int) (wide r : Nat) : rowsP G x y wide r wide = rowsL G x y wide (r + 1) := by
 simp [rowsP,rowsL,List.range_succ]
theorem rowsP_zero (G : Int → Int → Int) (x y : Int) (wide r : Nat) : rowsP G x y wide r 0 = rowsL G x y wide r := by simp [rowsP]
theorem rowsP_len (G : Int → Int → Int) (x y : Int) (wide r c : Nat) : (rowsP G x y wide r c).length = r * wide + c := by
 simp [rowsP,rowsL_len]
theorem rowByRow_any (f : Nat) (caps : Array Value) (x y : Int) (wide high : Nat) (G : Int → Int → Int) (w : World) (hwide : wide ≤ 8) (hhigh : high ≤ 8) (hx : 0 ≤ x ∧ x ≤ 1000) (hy : 0 ≤ y ∧ y ≤ 1000) (hce : ∀ args w,(callFunc f args).run Tryz.prog w = .ok (.enter f args) w)
  (hF : ∀ W c r,Below w.heap.size w W → c < wide → r < high → Calls Tryz.prog f (#[.int .i64 (x + (c : Nat)), .int .i64 (y + (r : Nat))] ++ caps) W fun e W' => e = .returned (.int .i64 (G (x + (c : Nat)) (y + (r : Nat)))) ∧ Below W.heap.size W W') :
  Calls Tryz.prog 214 #[.int .i64 x, .int .i64 y, .int .i64 (wide : Int), .int .i64 (high : Int), .func (.func f) #[] caps] w fun e w' => ∃ v,e = .returned v ∧ RowN w.heap.size w' v (rowsL G x y wide high) ∧ Below w.heap.size w w' := by
 obtain ⟨i0,hi,hz0,hz1,hz2⟩ := info_parts info_n64
 have HF := (show Hid _ from hF)
 clear hF
 go_enter Tryz.func214,Tryz.ntmps214
 go_wp2_with fail
 go_loopw [11,15] (fun v j wr => ∃ r : Nat,r ≤ high ∧ j = .int .i64 ((r : Nat) : Int) ∧ RowN w.heap.size wr v (rowsL G x y wide r) ∧ Below w.heap.size w wr) (fun _ j _ => high - (intOf j).toNat)
 case atStart => exact ⟨0,by omega,rfl,RowN.no _ _,Below.refl _ _⟩
 case round =>
  obtain ⟨r,hr,rfl,hO,hB⟩ := hrel
  have HO0 : Hid (RowN w.heap.size wr u11 (rowsL G x y wide r)) := hO
  have HB0 : Hid (Below w.heap.size w wr) := hB
  clear hO hB
  by_cases hlt : r < high
  ·have hi' : (r : Int) < (high : Int) := by omega
   go_wp2_with fail
   go_loopw [11,19] (fun v j wr => ∃ m : Nat,m ≤ wide ∧ j = .int .i64 (m : Int) ∧ RowN w.heap.size wr v (rowsP G x y wide r m) ∧ Below w.heap.size w wr) (fun _ j _ => wide - (intOf j).toNat)
   case atStart => exact ⟨0,by omega,rfl,by rw [rowsP_zero]; exact HO0.out,HB0.out⟩
   case round =>
    obtain ⟨m,hm,rfl,hO,hB⟩ := hrel
    have HO : Hid (RowN w.heap.size wr u11 (rowsP G x y wide r m)) := hO
    have HB : Hid (Below w.heap.size w wr) := hB
    have hszr : w.heap.size ≤ wr.heap.size := hB.size
    clear hO hB HO0 HB0
    by_cases hlm : m < wide
    ·have hm' : (m : Int) < (wide : Int) := by omega
     have HC : Hid (Calls Tryz.prog f (#[.int .i64 (x + (m : Nat)), .int .i64 (y + (r : Nat))] ++ caps) wr fun e W' => e = .returned (.int .i64 (G (x + (m : Nat)) (y + (r : Nat)))) ∧ Below wr.heap.size wr W') := HF.out wr m r HB.out hlm hlt
     have HS : Hid (rowsP G x y wide r (m + 1) = rowsP G x y wide r m ++ [G (x + (m : Int)) (y + (r : Int))]) := rowsP_next _ _ _ _ _ _
     have HL : Hid ((rowsP G x y wide r m).length ≤ 64) := by
      show _ ≤ _
      rw [rowsP_len]
      have : r * wide ≤ 7 * 8 := Nat.mul_le_mul (by omega) hwide
      omega
     go_wp2_with fail
     refine Calls.mono HC.out ?_
     rintro e w2 ⟨rfl,hb2⟩
     have HO2 : Hid (RowN w.heap.size w2 u11 (rowsP G x y wide r m)) := HO.out.below hb2
     have HB2 : Hid (Below w.heap.size w w2) := bl_then HB.out hb2
     have hsz2 : w.heap.size ≤ w2.heap.size := Nat.le_trans hszr hb2.size
     clear HC hb2 HO HB
     generalize G (x + (m : Int)) (y + (r : Int)) = g at *
     have hlen := HL.out
     have hblk : ∀ b,u11.ownBlock = some b → w.heap.size ≤ b := fun b hb => (World.ownsRow.lt HO2.out b hb).1
     have HR : Hid (∀ w' v',w'.ownsRow w.heap.size 2 1 v' ((rowsP G x y wide r m).length + 1) ((rowsP G x y wide r m).map (.int .i64 ·) ++ [.int .i64 g]) → RowN w.heap.size w' v' (rowsP G x y wide r (m + 1))) := fun w' v' h => by
      rw [HS.out]
      show World.ownsRow _ _ _ _ _ _ _
      rw [List.length_append,List.map_append]
      exact h
     clear HS HL
     go_wp2_with (first
      | (at_builtin; go_must (refine wpList_append_own _ rfl _ _ 141 rfl w.heap.size 2 i0 (.int .i64 0) 1 8 Tryz.underlying141 hi hz0 hz1 hz2 rfl (by decide) _ (rowsP G x y wide r m).length ((rowsP G x y wide r m).map (.int .i64 ·)) rfl (World.ownsRow.alloc HO2.out _) ⟨w2.heap.size,0,none⟩ 1 1 [.int .i64 g] rfl rfl ?c1 ?c2 ?c3 ?c4 ?c5 ?_)))
     case c1 =>
      intro q u hq
      match q,hq with
      | 0,hq => simp at hq; subst hq; simp [Addr.add,go_sem]
      | q + 1,hq => simp at hq
     case c2 => intro u hu; simp at hu; subst hu; rfl
     case c3 => unfold maxLen; omega
     case c4 => omega
     case c5 => simp; omega
     intro v' w3 hown' hgrow hnil
     clear hnil
     generalize hV : (w2.alloc _ : World) = V at hgrow
     have hBV : Below w2.heap.size w2 V := by subst hV; exact Qb
     have hBg : Below w.heap.size V w3 := (Below.refl _ _).grown hgrow (by have := hBV.size; omega) (fun k hk => hblk k hk)
     have HB3 : Hid (Below w.heap.size w w3) := HB2.out.trans ((hBV.mono hsz2).trans hBg)
     have HO3 : Hid (RowN w.heap.size w3 v' (rowsP G x y wide r (m + 1))) := HR.out _ _ hown'
     clear hown' hgrow hBg hBV hV HO2 HB2 HR hblk
     go_wp2
     go_roundw
     case rel => exact ⟨m + 1,by omega,by go_num,HO3.out,HB3.out⟩
     case measure => simp [intOf]; omega
    ·have hmw : m = wide := by omega
     subst hmw
     rw [rowsP_full] at HO
     go_wp2_with fail
     go_roundw
     case rel => exact ⟨r + 1,by omega,by go_num,HO.out,HB.out⟩
     case measure => simp [intOf]; omega
  ·have hrh : r = high := by omega
   subst hrh
   obtain ⟨av,cv,hvs,_,_⟩ := HO0.out.own
   have HV : Hid (∃ nv,u11 = .slice av nv cv) := ⟨_,hvs⟩
   go_wp2
   go_ret
   exact ⟨_,rfl,HO0.out,HB0.out⟩
structure Rfs where
 z : Nat → Int
 x : Nat → Int
 y : Nat → Int
def RsAt (w : World) (b off n : Nat) (R : Rfs) : Prop := ∀ i,i < n → w.cell? ⟨b,off + i * 3,none⟩ = some (.int .i64 (R.z i)) ∧ w.cell? ⟨b,off + i * 3 + 1,none⟩ = some (.int .i64 (R.x i)) ∧ w.cell? ⟨b,off + i * 3 + 2,none⟩ = some (.int .i64 (R.y i))
theorem RsAt.below {w w' : World} {b off n B : Nat} {R : Rfs} (h : RsAt w b off n R) (hb : Below B w w') (hB : b < B) : RsAt w' b off n R := fun i hi =>
 ⟨(hb.cell (p := ⟨b,off + i * 3,none⟩) hB).trans (h i hi).1,(hb.cell (p := ⟨b,off + i * 3 + 1,none⟩) hB).trans (h i hi).2.1,(hb.cell (p := ⟨b,off + i * 3 + 2,none⟩) hB).trans (h i hi).2.2⟩
def IsRs (w : World) (a : Option Addr) (n : Nat) (R : Rfs) : Prop := n = 0 ∨ ∃ b off,a = some ⟨b,off,none⟩ ∧ b < w.heap.size ∧ RsAt w b off n R
theorem IsRs.below {w w' : World} {a : Option Addr} {n : Nat} {R : Rfs} (h : IsRs w a n R) (hb : Below w.heap.size w w') : IsRs w' a n R := by
 rcases h with h | ⟨b,off,e,hl,hz⟩
 ·exact .inl h
 ·exact .inr ⟨b,off,e,Nat.lt_of_lt_of_le hl hb.size,hz.below hb hl⟩
theorem There.setR {W : World} {r n : Nat} (h : There W r n) (o : Nat) (v : Value) : There (W.setCell ⟨r,o,none⟩ v) r n := fun o' ho => by
 obtain ⟨u,hu⟩ := (h o' ho).1
 refine ⟨?_,?_⟩
 ·by_cases e : o = o'
  ·subst e
   exact ⟨v,World.cell?_setCell_same _ _ _ (by rw [hu])⟩
  ·exact ⟨u,by rw [World.cell?_setCell_other]; exact hu; simp [e]⟩
 ·rw [World.frozen?_setCell]; exact (h o' ho).2
theorem fillR {W : World} {B n k : Nat} {R : Rfs} (hT : There W B (n * 3)) (hk : k < n) (hp : RsAt W B 0 k R) :
  RsAt (((W.setCell ⟨B,k * 3,none⟩ (.int .i64 (R.z k))).setCell ⟨B,k * 3 + 1,none⟩ (.int .i64 (R.x k))).setCell ⟨B,k * 3 + 2,none⟩ (.int .i64 (R.y k))) B 0 (k + 1) R := fun i hi => by
 have ne : ∀ i j : Nat,i ≠ j → (⟨B,i,none⟩ : Addr) ≠ ⟨B,j,none⟩ := fun i j hij h => hij (by injection h)
 simp only [Nat.zero_add]
 by_cases e : i = k
 ·subst e
  obtain ⟨u0,h0⟩ := (hT (i * 3) (by omega)).1
  obtain ⟨u1,h1⟩ := (hT (i * 3 + 1) (by omega)).1
  obtain ⟨u2,h2⟩ := (hT (i * 3 + 2) (by omega)).1
  refine ⟨?_,?_,?_⟩
  ·rw [set1_other (ne _ _ (by omega)),set1_other (ne _ _ (by omega))]; exact set1_same h0
  ·rw [set1_other (ne _ _ (by omega))]; exact set1_same (by rw [set1_other (ne _ _ (by omega))]; exact h1)
  ·exact set1_same (by rw [set1_other (ne _ _ (by omega)),set1_other (ne _ _ (by omega))]; exact h2)
 ·obtain ⟨h0,h1,h2⟩ := hp i (by omega)
  simp only [Nat.zero_add] at h0 h1 h2
  refine ⟨?_,?_,?_⟩
  all_goals (rw [set1_other (ne _ _ (by omega)),set1_other (ne _ _ (by omega)),set1_other (ne _ _ (by omega))]; assumption)
theorem grown_setR {w w' : World} {b : Nat} (h : w.grownBy w' (some b)) (o : Nat) (v : Value) : w.grownBy (w'.setCell ⟨b,o,none⟩ v) (some b) := by
 have hb : Below b w' (w'.setCell ⟨b,o,none⟩ v) := (Below.refl b w').setCell (Nat.le_refl _) v
 exact ⟨hb.os.trans h.os,hb.tape.trans h.tape,hb.output.trans h.output,Nat.le_trans h.size hb.size,fun k hk hne => (Below.heap_setCell w' ⟨b,o,none⟩ v k (fun e => hne (by simp at e; rw [e]))).trans (h.block k hk hne)⟩
theorem grown_reflR (w : World) (row : Option Nat) : w.grownBy w row := ⟨rfl,rfl,rfl,Nat.le_refl _,fun _ _ _ => rfl⟩
theorem eqRefS_any (a c : Option Addr) (n capa capc : Nat) (R : Rfs) (w : World) (hp : IsRs w a n R) (hq : IsRs w c n R) (hmax : n ≤ 1048576) :
  Calls Tryz.prog 40 #[.slice a n capa, .slice c n capc] w fun e w' => e = .returned (.bool true) ∧ Below w.heap.size w w' := by
 have HP : Hid (IsRs w a n R) := hp
 have HQ : Hid (IsRs w c n R) := hq
 clear hp hq
 go_enter Tryz.func40,Tryz.ntmps40
 go_wp2
 go_loopw [5] (fun i wr => ∃ k : Nat,k ≤ n ∧ i = .int .i64 k ∧ Below w.heap.size w wr) (fun i _ => n - (intOf i).toNat)
 case atStart => exact ⟨0,by omega,rfl,Below.refl _ _⟩
 case round =>
  obtain ⟨k,hk,rfl,hB⟩ := hrel
  by_cases hlt : k < n
  ·rcases HP.out with h0 | ⟨b,off,rfl,hb,hpt⟩
   ·omega
   rcases HQ.out with h0 | ⟨d,off',rfl,hd,hqt⟩
   ·omega
   have P1 := fun W' (h : Below wr.heap.size wr W') => ((hpt.below hB hb).below h (Nat.lt_of_lt_of_le hb hB.size)) k hlt
   have Q1 := fun W' (h : Below wr.heap.size wr W') => ((hqt.below hB hd).below h (Nat.lt_of_lt_of_le hd hB.size)) k hlt
   have c0 : ∀ W',Below wr.heap.size wr W' → W'.cell? ⟨b,off + k * 3,none⟩ = some (.int .i64 (R.z k)) := fun W' h => (P1 W' h).1
   have c1 : ∀ W',Below wr.heap.size wr W' → W'.cell? ⟨b,off + k * 3 + 1,none⟩ = some (.int .i64 (R.x k)) := fun W' h => (P1 W' h).2.1
   have c2 : ∀ W',Below wr.heap.size wr W' → W'.cell? ⟨b,off + k * 3 + 2,none⟩ = some (.int .i64 (R.y k)) := fun W' h => (P1 W' h).2.2
   have e0 : ∀ W',Below wr.heap.size wr W' → W'.cell? ⟨d,off' + k * 3,none⟩ = some (.int .i64 (R.z k)) := fun W' h => (Q1 W' h).1
   have e1 : ∀ W',Below wr.heap.size wr W' → W'.cell? ⟨d,off' + k * 3 + 1,none⟩ = some (.int .i64 (R.x k)) := fun W' h => (Q1 W' h).2.1
   have e2 : ∀ W',Below wr.heap.size wr W' → W'.cell? ⟨d,off' + k * 3 + 2,none⟩ = some (.int .i64 (R.y k)) := fun W' h => (Q1 W' h).2.2
   have HB : Hid (Below w.heap.size w wr) := hB
   clear hB hpt hqt P1 Q1
   have hi : (k : Int) < (n : Int) := by omega
   have hi0 : (0 : Int) ≤ (k : Int) := by omega
   go_wp2
   go_region_held3 (fun W' => Below wr.heap.size wr W') ((repeat (first|exact Qr _ _|assumption|refine Qd ?_|refine Qa ?_ _|refine Qt ?_|refine Qs ?_ _|refine Qo ?_ ?_ _ _)))
    (first
     | (go_at_call 80; refine (eqRef_any _ _ _ _).mono ?_; rintro e w' ⟨rfl,hb⟩))
   go_wp2
   go_roundw
   case rel => exact ⟨k + 1,by omega,by go_num,bl_then HB.out (by assumption)⟩
   case measure => simp [intOf]; omega
  ·go_wp2
   go_ret
   exact ⟨rfl,hB⟩
def mkR (k0 : Nat) : Rfs := ⟨fun i => ((k0 + 3 * i : Nat) : Int),fun i => ((k0 + 3 * i + 1 : Nat) : Int),fun i => ((k0 + 3 * i + 2 : Nat) : Int)⟩
theorem markRefS_any (b n cap k0 : Nat) (w : World) (hT : There w b (n * 3)) (hb : b < w.heap.size) (hmax : n ≤ 1048576) (hk0 : k0 ≤ 1125899906842624) :
  Calls Tryz.prog 46 #[.slice (some ⟨b,0,none⟩) n cap, .int .i64 (k0 : Int)] w fun e w' => e = .returned (.int .i64 ((k0 + 3 * n : Nat) : Int)) ∧ w.grownBy w' (some b) ∧ There w' b (n * 3) ∧ RsAt w' b 0 n (mkR k0) := by
 have HT0 : Hid (There w b (n * 3)) := hT
 clear hT
 go_enter Tryz.func46,Tryz.ntmps46
 go_wp2_with fail
 go_loopw [1,5] (fun kk i wr => ∃ j K : Nat,j ≤ n ∧ Hid (K = k0 + 3 * j) ∧ kk = .int .i64 (K : Int) ∧ i = .int .i64 (j : Int) ∧ w.grownBy wr (some b) ∧ There wr b (n * 3) ∧ RsAt wr b 0 j (mkR k0)) (fun _ i _ => n - (intOf i).toNat)
 case atStart => exact ⟨0,k0,by omega,rfl,rfl,rfl,grown_reflR _ _,HT0.out,fun i hi => by omega⟩
 case round =>
  obtain ⟨j,K,hj,HK,rfl,rfl,hG,hT,hP⟩ := hrel
  by_cases hlt : j < n
  ·have hKb : K ≤ 1125899909988352 := by have := HK.out; omega
   have t0 := hT.cell (j * 3) (by omega)
   have t1 := hT.cell (j * 3 + 1) (by omega)
   have t2 := hT.cell (j * 3 + 2) (by omega)
   have f0 := (hT (j * 3) (by omega)).2
   have f1 := (hT (j * 3 + 1) (by omega)).2
   have f2 := (hT (j * 3 + 2) (by omega)).2
   have HT : Hid (There wr b (n * 3)) := hT
   have HG : Hid (w.grownBy wr (some b)) := hG
   have HP : Hid (RsAt wr b 0 j (mkR k0)) := hP
   clear hT hG hP
   have hi : (j : Int) < (n : Int) := by omega
   go_wp2
   go_roundw
   case rel =>
    have hz : (mkR k0).z j = (K : Int) := by have := HK.out; simp [mkR]; omega
    have hx : (mkR k0).x j = (K : Int) + 1 := by have := HK.out; simp [mkR]; omega
    have hy : (mkR k0).y j = (K : Int) + 1 + 1 := by have := HK.out; simp [mkR]; omega
    have hfs := fillR (R := mkR k0) HT.out hlt HP.out
    rw [hz,hx,hy] at hfs
    exact ⟨j + 1,K + 3,by omega,by have := HK.out; show _ = _; omega,by go_num,by go_num,grown_setR (grown_setR (grown_setR HG.out _ _) _ _) _ _,((HT.out.setR _ _).setR _ _).setR _ _,hfs⟩
   case measure => simp [intOf]; omega
  ·go_wp2
   go_ret
   have hjn : j = n := by omega
   subst hjn
   exact ⟨ret_int (by have := HK.out; omega),hG,hT,hP⟩
theorem markRefS_none (a : Option Addr) (cap : Nat) (k : Int) (w : World) : Calls Tryz.prog 46 #[.slice a 0 cap, .int .i64 k] w fun e w' => e = .returned (.int .i64 k) ∧ w = w' := by
 go_enter Tryz.func46,Tryz.ntmps46
 go_wp2_with fail
 go_loopw [1,5] (fun kk i wr => kk = .int .i64 k ∧ i = .int .i64 0 ∧ w = wr) (fun _ _ _ => 0)
 case atStart => exact ⟨rfl,rfl,rfl⟩
 case round =>
  obtain ⟨rfl,rfl,rfl⟩ := hrel
  go_wp2
  go_ret
  exact ⟨rfl,rfl⟩
theorem heldRefS_any (a : Option Addr) (n cap k0 : Nat) (w : World) (hp : IsRs w a n (mkR k0)) (hmax : n ≤ 1048576) (hk0 : k0 ≤ 1125899906842624) :
  Calls Tryz.prog 47 #[.slice a n cap, .int .i64 (k0 : Int)] w fun e w' => e = .returned (.int .i64 ((k0 + 3 * n : Nat) : Int)) ∧ Below w.heap.size w w' := by
 have HP : Hid (IsRs w a n (mkR k0)) := hp
 clear hp
 go_enter Tryz.func47,Tryz.ntmps47
 go_wp2_with fail
 go_loopw [1,5] (fun kk i wr => ∃ j K : Nat,j ≤ n ∧ Hid (K = k0 + 3 * j) ∧ kk = .int .i64 (K : Int) ∧ i = .int .i64 (j : Int) ∧ Below w.heap.size w wr) (fun _ i _ => n - (intOf i).toNat)
 case atStart => exact ⟨0,k0,by omega,rfl,rfl,rfl,Below.refl _ _⟩
 case round =>
  obtain ⟨j,K,hj,HK,rfl,rfl,hB⟩ := hrel
  by_cases hlt : j < n
  ·rcases HP.out with h0 | ⟨b,off,rfl,hbl,hpt⟩
   ·omega
   have hKb : K ≤ 1125899909988352 := by have := HK.out; omega
   have hz : (mkR k0).z j = (K : Int) := by have := HK.out; simp [mkR]; omega
   have hx : (mkR k0).x j = (K : Int) + 1 := by have := HK.out; simp [mkR]; omega
   have hy : (mkR k0).y j = (K : Int) + 1 + 1 := by have := HK.out; simp [mkR]; omega
   obtain ⟨t0,t1,t2⟩ := (hpt.below hB hbl) j hlt
   rw [hz] at t0
   rw [hx] at t1
   rw [hy] at t2
   have HB : Hid (Below w.heap.size w wr) := hB
   clear hB hpt hz hx hy
   have hi : (j : Int) < (n : Int) := by omega
   have hi0 : (0 : Int) ≤ (j : Int) := by omega
   go_wp2
   go_roundw
   case rel => exact ⟨j + 1,K + 3,by omega,by have := HK.out; show _ = _; omega,by go_num,by go_num,HB.out⟩
   case measure => simp [intOf]; omega
  ·go_wp2
   go_ret
   have hjn : j = n := by omega
   subst hjn
   exact ⟨ret_int (by have := HK.out; omega),hB⟩
def OwnT (w : World) (base : Nat) (v : Value) (n : Nat) (R : Rfs) : Prop :=
 ∃ a cap,v = .slice a n cap ∧ n ≤ cap ∧ (n = 0 ∨ ∃ b,a = some ⟨b,0,none⟩ ∧ base ≤ b ∧ b < w.heap.size ∧ RsAt w b 0 n R ∧ There w b (n * 3))
theorem OwnT.pts {w : World} {base : Nat} {v : Value} {n : Nat} {R : Rfs} (h : OwnT w base v n R) : ∃ a cap,v = .slice a n cap ∧ n ≤ cap ∧ IsRs w a n R := by
 obtain ⟨a,cap,hv,hc,h0 | ⟨b,ha,hb,hl,hp,ht⟩⟩ := h
 ·exact ⟨a,cap,hv,hc, .inl h0⟩
 ·exact ⟨a,cap,hv,hc, .inr ⟨b,0,ha,hl,hp⟩⟩
def UnderT (T : Nat) (w : World) (a : Option Addr) (n : Nat) (R : Rfs) : Prop := n = 0 ∨ ∃ b off,a = some ⟨b,off,none⟩ ∧ b < T ∧ RsAt w b off n R
theorem UnderT.is {T : Nat} {w : World} {a : Option Addr} {n : Nat} {R : Rfs} (h : UnderT T w a n R) (hT : T ≤ w.heap.size) : IsRs w a n R := by
 rcases h with h | ⟨b,off,e,hl,hp⟩
 ·exact .inl h
 ·exact .inr ⟨b,off,e,by omega,hp⟩
theorem bl_cellR {w w' : World} {p : Addr} {v : Value} (hb : Below w.heap.size w w') (h : w.cell? p = some v) : w'.cell? p = some v := (hb.cell (World.block_lt_of_cell? _ _ h)).trans h
theorem ro_cellR {w w' : World} {b o : Nat} {row : Option Nat} {v : Value} (hg : w.grownBy w' row) (h : w.cell? ⟨b,o,none⟩ = some v) (hs : ∀ s,row = some s → b ≠ s) : w'.cell? ⟨b,o,none⟩ = some v := hg.cell h (fun e => hs _ e.symm rfl)
theorem below_rowR {B : Nat} {row : Option Nat} {a b : World} (h : a.grownBy b row) (hs : ∀ s,row = some s → B ≤ s) (hl : B ≤ a.heap.size) : Below B a b :=
 ⟨h.os,h.tape,h.output,h.size,fun k hk => h.block k (by omega) (fun e => by have := hs k e.symm; omega)⟩
theorem pts_cellsO {w : World} {b off n : Nat} {X Y : Nat → Int} (h : PtsAt w b off n X Y) : ∀ j u,(cellsL (ptsOf X Y (List.range n)))[j]? = some u → w.cell? ⟨b,off + j,none⟩ = some u := fun j u hu => by
 have hlen : (ptsOf X Y (List.range n)).length = n := by simp [ptsOf]
 have hj : j < n * 2 := by
  have := (List.getElem?_eq_some_iff.1 hu).1
  rw [cellsL_len,hlen] at this
  exact this
 have hi : j / 2 < n := by omega
 obtain ⟨e1,e2⟩ := cellsL_at (ptsOf X Y (List.range n)) (j / 2) (by rw [hlen]; exact hi)
 obtain ⟨c1,c2⟩ := h (j / 2) hi
 have ex : px (ptsOf X Y (List.range n)) (j / 2) = X (j / 2) := by simp [px,ptsOf,List.getD_eq_getElem?_getD,hi]
 have ey : py (ptsOf X Y (List.range n)) (j / 2) = Y (j / 2) := by simp [py,ptsOf,List.getD_eq_getElem?_getD,hi]
 rw [ex] at e1
 rw [ey] at e2
 rcases Nat.mod_two_eq_zero_or_one j with hm | hm
 ·have e : j / 2 * 2 = j := by omega
  rw [e] at e1 c1
  rw [e1] at hu
  rw [c1]
  exact hu
 ·have e : j / 2 * 2 + 1 = j := by omega
  rw [Nat.add_assoc,e] at c2
  rw [e] at e2
  rw [e2] at hu
  rw [c2]
  exact hu
theorem sliteClone_any (s : ByteArray) (w : World) (hlim : s.size ≤ 1048576) :
  Calls Tryz.prog 253 #[.string s] w fun e w' => e = .returned (.string s) ∧ Below w.heap.size w w' := by
 by_cases h0 : s.size = 0
 ·have hs : s = ⟨#[]⟩ := by
   apply ByteArray.ext
   exact Array.eq_empty_of_size_eq_zero h0
  subst hs
  go_enter Tryz.func253,Tryz.ntmps253
  go_wp2
  go_ret
  exact ⟨rfl,Below.refl _ _⟩
 ·obtain ⟨i0,hi,hz0,hz1,hz2⟩ := info_parts info_u8
  have hinfo : (Tryz.prog.info? 5).map (·.size) = some 1 := by rw [hi]; simp [hz1]
  have hco : Tryz.prog.cellsOf 5 = 1 := by simp [Program.cellsOf,hi,hz1]
  obtain ⟨M,hM⟩ : ∃ M,M = madeCells (Value.int .u8 0).cells (((s.size : Nat) : Int).toNat * i0.size) := ⟨_,rfl⟩
  have hMs : M.size = s.size := by rw [hM,size_madeCells,hz1]; simp
  have hmk : ∀ W : World,(Instr.makeSlice 240 (.int .i64 (s.size : Int)) (.int .i64 (s.size : Int))).run Tryz.prog W = .ok (.slice (some ⟨W.heap.size,0,none⟩) s.size s.size) (W.alloc (.cells M 5)) := fun W => by
   have h := run_make (P := Tryz.prog) W 240 5 i0 (.int .u8 0) Tryz.underlying240 hi hz0 .i64 .i64 (s.size : Int) (s.size : Int) (by omega) (by omega) (by rw [hz2]; omega) (by omega)
   rw [← hM] at h
   simpa using h
  clear hM
  have hcp := Lib.run_copy_row_string (P := Tryz.prog) (w.alloc (.cells M 5)) 240 9 3 5 w.heap.size 0 s.size s.size s M 5 Tryz.underlying240 hinfo (heap_alloc_new w _) (Nat.le_refl _) (by omega)
  obtain ⟨Y,hY⟩ : ∃ Y,Y = (M.toList.take 0 ++ Lib.byteCells s.data.toList ++ M.toList.drop (0 + s.size)).toArray := ⟨_,rfl⟩
  rw [← hY] at hcp
  have hYl : Y.toList = Lib.byteCells s.data.toList := by
   rw [hY,List.toList_toArray,List.take_zero,List.nil_append,List.drop_of_length_le (by rw [Array.length_toList]; omega),List.append_nil]
  have hYs : Y.size = s.size := by rw [← Array.length_toList,hYl,Lib.byteCells_length, ← Lib.size_eq]
  have hgY : ((w.alloc (.cells M 5)).setRow w.heap.size Y).heap[w.heap.size]? = some (.cells Y 5 (0,0)) := setRow_heap _ _ M _ 5 (0,0) (heap_alloc_new w _)
  have hne : s.data.toList ≠ [] := fun e => h0 (by rw [Lib.size_eq,e]; rfl)
  have hUS := Lib.run_unsafeString_row (P := Tryz.prog) ((w.alloc (.cells M 5)).setRow w.heap.size Y) 318 3 9 5 Tryz.underlying318 hco w.heap.size Y.size (by unfold World.shape?; rw [hgY]) s.data.toList hne (by rw [← Lib.size_eq]; omega) (by rw [← Lib.size_eq]; omega)
   (fun j x hx => Lib.cells_of_row hgY Y.size j _ (by rw [List.take_of_length_le (by rw [Array.length_toList]; exact Nat.le_refl _),hYl]; simp [Lib.byteCells,hx]))
  rw [← Lib.size_eq] at hUS
  clear hY
  go_enter Tryz.func253,Tryz.ntmps253
  go_wp2
  go_ret
  have hb1 : Below w.heap.size w (w.alloc (.cells M 5)) := (Below.refl _ w).alloc (Nat.le_refl _) _
  have hb2 : Below w.heap.size (w.alloc (.cells M 5)) ((w.alloc (.cells M 5)).setRow w.heap.size Y) := ⟨rfl,rfl,rfl,by simp,fun k hk => setRow_other _ _ _ _ (by omega)⟩
  exact ⟨rfl,Lib.below_freeze (hb1.trans hb2) (p := ⟨w.heap.size,0,none⟩) (Nat.le_refl _) _⟩
theorem stringsClone_any (s : ByteArray) (w : World) (hlim : s.size ≤ 1048576) :
  Calls Tryz.prog 223 #[.string s] w fun e w' => e = .returned (.string s) ∧ Below w.heap.size w w' := by
 go_enter Tryz.func223,Tryz.ntmps223
 go_wp2_with (go_at_call 253; refine (sliteClone_any _ _ hlim).mono ?_; rintro e w1 ⟨rfl,hb1⟩)
 go_ret
 exact ⟨rfl,by (repeat (first|exact Qr _ _|assumption|refine Qd ?_|refine Qa ?_ _|refine Qt ?_|refine Qs ?_ _|refine Qo ?_ ?_ _ _))⟩
theorem toCamera_any (z x y wd ht : Int) (w : World) : Calls Tryz.prog 18 #[camV z x y wd ht] w fun e w' => e = .returned (camV z x y wd ht) ∧ Below w.heap.size w w' := by
 go_enter Tryz.func18,Tryz.ntmps18
 go_wp2
 exact bodyPost_ret (v := camV z x y wd ht) (by simp [results,Tryz.results18,go_sem]) rfl ⟨rfl,by (repeat (first|exact Qr _ _|assumption|refine Qd ?_|refine Qa ?_ _|refine Qt ?_|refine Qs ?_ _|refine Qo ?_ ?_ _ _))⟩
end Go.Proofs.YtiephlohemphjaaGreat
