/- Texts. -/
import Derived.Test.YtfkonhagjahgnaaGreatWTiles24
import Derived.Test.YtfkonhagjahgnaaGreatWTiles16
import Derived.Test.YtfkonhagjahgnaaGreatWTiles21
import Derived.Test.YtfkonhagjahgnaaGreatWTiles5
import Derived.Test.YtfkonhagjahgnaaGreatWTiles1
import Derived.Sort.Grow
import Derived.Shelf.SlSortCmp.NoneTotal
import Derived.Deep.CutBlock
import Derived.Deep.DeepCutAuto
import Derived.Deep.RegionHeld3
set_option linter.unusedSimpArgs false
set_option linter.unusedVariables false
set_option maxRecDepth 100000
set_option maxHeartbeats 32000000
namespace Go.Proofs.YtfkonhagjahgnaaGreat
open Go.RowKit
def Copies (base : Nat) (w : World) (n : Nat) (G H : Nat → Feat) : Prop :=
 (∀ i,i < n → (H i).same (G i) ∧ Row base w (.slice (H i).a (H i).n (H i).cap) (ptsOf (G i).X (G i).Y (List.range (G i).n))) ∧
 ∀ i j,i < n → j < n → (H i).a = (H j).a → i = j
theorem ptsOf_len (X Y : Nat → Int) (n : Nat) : (ptsOf X Y (List.range n)).length = n := by simp [ptsOf]
theorem ptsOf_px (X Y : Nat → Int) (n i : Nat) (hi : i < n) : px (ptsOf X Y (List.range n)) i = X i ∧ py (ptsOf X Y (List.range n)) i = Y i := by
 simp [px,py,ptsOf,List.getD_eq_getElem?_getD,hi]
theorem Row.atP {base : Nat} {w : World} {a : Option Addr} {n c : Nat} {X Y : Nat → Int} (h : Row base w (.slice a n c) (ptsOf X Y (List.range n))) (hn : 0 < n) :
  ∃ g,a = some ⟨g,0,none⟩ ∧ base ≤ g ∧ g < w.heap.size ∧ PtsAt w g 0 n X Y ∧ There w g (n * 2) := by
 obtain ⟨a',cap',hv,hc,h0 | ⟨b,ha,hb,hl,hp,ht⟩⟩ := h.own
 ·rw [ptsOf_len] at h0; omega
 ·rw [ptsOf_len] at hp ht
  injection hv with e1 e2 e3
  refine ⟨b,e1.trans ha,hb,hl,fun i hi => ?_,ht⟩
  obtain ⟨x1,x2⟩ := ptsOf_px X Y n i hi
  have := hp i hi
  rw [x1,x2] at this
  exact this
theorem Row.keptF {base base' : Nat} {w w' : World} {u v : Value} {l : List (Int × Int)} {H : Nat → Feat} {m : List Nat} (h : Row base w u l) (h' : FRow base' w v H m) (hg : w.grownBy w' v.ownBlock) : Row base w' u l := by
 refine World.ownsRow.kept h hg ?_
 cases hu : u.ownBlock with
 | none => exact .inl rfl
 | some g =>
  right
  intro e
  obtain ⟨c1,h1⟩ := heap_of_row h g hu
  obtain ⟨c2,h2⟩ := heap_of_row h' g e.symm
  rw [h1] at h2
  injection h2 with h2
  injection h2 with _ h2
  exact absurd h2 (by decide)
theorem copyFeatures_any (b n cap : Nat) (G : Nat → Feat) (w : World) (hg : FsAt w b 0 n G) (hbl : b < w.heap.size) (hn : n ≤ 12) (hpos : ∀ i,i < n → 0 < (G i).n) (hs : SmallFs n G) :
  Calls Tryz.prog 44 #[.slice (some ⟨b,0,none⟩) n cap] w fun e w' => ∃ v H,e = .returned v ∧ FRow w.heap.size w' v H (List.range n) ∧ Copies w.heap.size w' n G H ∧ Below w.heap.size w w' := by
 obtain ⟨i0,hi,hz0,hz1,hz2⟩ := info_parts info_if
 have HG : Hid (FsAt w b 0 n G) := hg
 have HPOS : Hid (∀ i,i < n → 0 < (G i).n) := hpos
 have HS : Hid (SmallFs n G) := hs
 clear hg hpos hs
 go_enter Tryz.func44,Tryz.ntmps44
 go_wp2_with fail
 go_loopw [3,8] (fun v i wr => ∃ (k : Nat) (H : Nat → Feat),k ≤ n ∧ i = .int .i64 (k : Int) ∧ FRow w.heap.size wr v H (List.range k) ∧ Copies w.heap.size wr k G H ∧ Below w.heap.size w wr) (fun _ i _ => n - (intOf i).toNat)
 case atStart => exact ⟨0,G,by omega,rfl,World.ownsRow_nil _ _ _ _,⟨fun i hi => by omega,fun i j hi => by omega⟩,Below.refl _ _⟩
 case round =>
  obtain ⟨k,H,hk,rfl,hO,hC,hB⟩ := hrel
  by_cases hlt : k < n
  ·have hblr : b < wr.heap.size := Nat.lt_of_lt_of_le hbl hB.size
   obtain ⟨⟨f0,f1,f2,f3,f4,f5,f6⟩,hP⟩ := (HG.out.below hB hbl) k hlt
   simp only [Nat.zero_add] at f0 f1 f2 f3 f4 f5 f6
   have hp0 := HPOS.out k hlt
   obtain ⟨z1,z2⟩ := HS.out.2 k hlt
   obtain ⟨b',off',ha',hbl',hpt⟩ := hP.resolve_left (by omega)
   rw [ha'] at f4
   have HP : Hid (PtsAt wr b' off' (G k).n (G k).X (G k).Y) := hpt
   have HO : Hid (FRow w.heap.size wr u3 H (List.range k)) := hO
   have HC : Hid (Copies w.heap.size wr k G H) := hC
   have HB : Hid (Below w.heap.size w wr) := hB
   have HLT : Hid (k < n) := hlt
   clear hO hC hB hP hpt
   have hi' : (k : Int) < (n : Int) := by omega
   go_wp2_with fail
   generalize hV : (wr.alloc _ : World) = V
   have hBV : Below wr.heap.size wr V := by subst hV; (repeat (first|exact Qr _ _|assumption|refine Qd ?_|refine Qa ?_ _|refine Qt ?_|refine Qs ?_ _|refine Qo ?_ ?_ _ _))
   clear hV f0 f1 f2 f3 f4 f5 f6
   have hOV : FRow w.heap.size V u3 H (List.range k) := HO.out.below hBV
   refine (copyFeature_row _ _ _ _ b' _ _ (G k).X (G k).Y _ _ V (HP.out.below hBV hbl') (Nat.lt_of_lt_of_le hbl' hBV.size) z1 z2).mono ?_
   rintro e w1 ⟨a1,c1,rfl,hR1,hb1⟩
   have hrV : Below wr.heap.size wr w1 := bl_then hBV hb1
   have HR1 : Hid (Row V.heap.size w1 (.slice a1 (G k).n c1) (ptsOf (G k).X (G k).Y (List.range (G k).n))) := hR1
   have HO1 : Hid (FRow w.heap.size w1 u3 H (List.range k)) := hOV.below hb1
   have HB1 : Hid (Below w.heap.size w w1) := bl_then HB.out hrV
   have HrV : Hid (Below wr.heap.size wr w1) := hrV
   have hszV := hBV.size
   have hszw := HB.out.size
   have hsz1 := hb1.size
   clear hR1 hrV hOV hBV hb1 HO HB
   have hlenr : (List.range k).length = k := by simp
   go_wp2_with (first
    | (at_builtin; go_must (refine wpList_append_own _ rfl _ _ 24 rfl w.heap.size 39 i0 (.agg #[.int .i64 0, .int .i64 0, .int .i64 0, .int .i64 0, .slice none 0 0, .string ⟨#[]⟩, .int .i64 0]) 7 80 Tryz.underlying24 hi hz0 hz1 hz2 rfl (by decide) u3 k (cellsF H (List.range k)) rfl ?c6 ⟨w1.heap.size,0,none⟩ 1 1 (fcell { G k with a := a1,cap := c1 }) rfl ?c0 ?c1 ?c2 ?c3 ?c4 ?c5 ?_)))
   case c6 =>
    have := HO1.out.below (by (repeat (first|exact Qr _ _|assumption|refine Qd ?_|refine Qa ?_ _|refine Qt ?_|refine Qs ?_ _|refine Qo ?_ ?_ _ _)) : Below w1.heap.size w1 (w1.alloc (.cells #[.int .i64 (G k).id, .int .i64 (G k).la, .int .i64 (G k).ki, .int .i64 (G k).wi, .slice a1 (G k).n c1, .string (G k).lab, .int .i64 (G k).pr] 39)))
    unfold FRow at this
    rw [hlenr] at this
    exact this
   case c0 => rfl
   case c1 =>
    intro q u hq
    have hq7 : q < 7 := (List.getElem?_eq_some_iff.1 hq).1
    have hc : q = 0 ∨ q = 1 ∨ q = 2 ∨ q = 3 ∨ q = 4 ∨ q = 5 ∨ q = 6 := by omega
    rcases hc with rfl | rfl | rfl | rfl | rfl | rfl | rfl <;> (simp [fcell] at hq; subst hq; simp [Addr.add,go_sem])
   case c2 => exact fcell_one _
   case c3 => unfold maxLen; omega
   case c4 => omega
   case c5 => simp; omega
   intro v' w3 hown' hgrow hnil
   clear hnil
   have hO2 : FRow w.heap.size (w1.alloc (.cells #[.int .i64 (G k).id, .int .i64 (G k).la, .int .i64 (G k).ki, .int .i64 (G k).wi, .slice a1 (G k).n c1, .string (G k).lab, .int .i64 (G k).pr] 39)) u3 H (List.range k) := HO1.out.below (by (repeat (first|exact Qr _ _|assumption|refine Qd ?_|refine Qa ?_ _|refine Qt ?_|refine Qs ?_ _|refine Qo ?_ ?_ _ _)))
   have hR2 := HR1.out.below (by (repeat (first|exact Qr _ _|assumption|refine Qd ?_|refine Qa ?_ _|refine Qt ?_|refine Qs ?_ _|refine Qo ?_ ?_ _ _)) : Below w1.heap.size w1 (w1.alloc (.cells #[.int .i64 (G k).id, .int .i64 (G k).la, .int .i64 (G k).ki, .int .i64 (G k).wi, .slice a1 (G k).n c1, .string (G k).lab, .int .i64 (G k).pr] 39)))
   have hb2 : Below wr.heap.size wr (w1.alloc (.cells #[.int .i64 (G k).id, .int .i64 (G k).la, .int .i64 (G k).ki, .int .i64 (G k).wi, .slice a1 (G k).n c1, .string (G k).lab, .int .i64 (G k).pr] 39)) := HrV.out.alloc (by omega) _
   obtain ⟨hC1,hC2⟩ := HC.out
   have HF : Hid (FRow w.heap.size w3 v' (fun i => if i = k then { G k with a := a1,cap := c1 } else H i) (List.range (k + 1))) := by
    show FRow _ _ _ _ _
    unfold FRow
    have e1 : cellsF (fun i => if i = k then { G k with a := a1,cap := c1 } else H i) (List.range (k + 1)) = cellsF H (List.range k) ++ fcell { G k with a := a1,cap := c1 } := by
     rw [List.range_succ,cellsF_app,cellsF_one,if_pos rfl]
     rw [cellsF_congr (H' := H) (List.range k) (fun j hj => by rw [if_neg]; have := List.mem_range.1 hj; omega)]
    rw [e1,List.length_range]
    exact hown'
   have HCn : Hid (Copies w.heap.size w3 (k + 1) G (fun i => if i = k then { G k with a := a1,cap := c1 } else H i)) := by
    show Copies _ _ _ _ _
    obtain ⟨g1,hg1,hg1',_⟩ := HR1.out.atP hp0
    refine ⟨fun i hi => ?_,fun i j hi hj e => ?_⟩
    ·by_cases e : i = k
     ·subst e
      simp only [if_pos]
      exact ⟨⟨rfl,rfl,rfl,rfl,rfl,rfl,rfl,rfl,rfl⟩,(hR2.keptF hO2 hgrow).wideB (by omega)⟩
     ·simp only [if_neg e]
      obtain ⟨s1,r1⟩ := hC1 i (by omega)
      exact ⟨s1,(r1.below hb2).keptF hO2 hgrow⟩
    ·have old : ∀ i,i < k → (H i).a ≠ a1 := fun i hi e => by
      obtain ⟨s1,r1⟩ := hC1 i hi
      have hnn : (H i).n = (G i).n := s1.2.2.2.2.1
      rw [hnn] at r1
      obtain ⟨g,hg,_,hgl,_⟩ := r1.atP (HPOS.out i (by omega))
      rw [hg,hg1] at e
      injection e with e
      injection e with e
      omega
     by_cases ei : i = k <;> by_cases ej : j = k
     ·omega
     ·simp only [if_pos ei,if_neg ej] at e
      exact absurd e.symm (old j (by omega))
     ·simp only [if_neg ei,if_pos ej] at e
      exact absurd e (old i (by omega))
     ·simp only [if_neg ei,if_neg ej] at e
      exact hC2 i j (by omega) (by omega) e
   have HB3 : Hid (Below w.heap.size w w3) := (HB1.out.alloc (by omega) _).grown hgrow (by simp; omega) (fun g hg => ((World.ownsRow.lt (show World.ownsRow _ _ _ _ _ _ _ from hO2)) g hg).1)
   clear hown' hgrow hO2 hR2 hb2 hC1 hC2
   go_wp2
   go_roundw
   case rel => exact ⟨k + 1,_,by have := HLT.out; omega,by go_num,HF.out,HCn.out,HB3.out⟩
   case measure => have := HLT.out; simp [intOf]; omega
  ·go_wp2
   go_ret
   have hkn : k = n := by omega
   subst hkn
   exact ⟨_,H,rfl,hO,hC,hB⟩
theorem addK (b o i : Nat) : (⟨b,o,none⟩ : Addr).add i = ⟨b,o + i,none⟩ := by unfold Addr.add; split <;> simp_all
def ltF (f g : Feat) : Bool := decide (f.la < g.la) || (decide (f.la = g.la) && decide (f.id < g.id))
theorem l2Ahead_any (p o p' o' : Nat) (f g : Feat) (w : World) (h0 : w.cell? ⟨p,o,none⟩ = some (.int .i64 f.id)) (h1 : w.cell? ⟨p,o + 1,none⟩ = some (.int .i64 f.la)) (k0 : w.cell? ⟨p',o',none⟩ = some (.int .i64 g.id)) (k1 : w.cell? ⟨p',o' + 1,none⟩ = some (.int .i64 g.la)) :
  Calls Tryz.prog 116 #[.pointer (some ⟨p,o,none⟩), .pointer (some ⟨p',o',none⟩)] w fun e w' => e = .returned (.bool (ltF f g)) ∧ Below w.heap.size w w' := by
 by_cases hx : f.la < g.la
 ·have HU : Hid (ltF f g = true) := by show _ = _; simp [ltF,hx]
  go_enter Tryz.func116,Tryz.ntmps116
  go_wp2_with fail
  go_region
  go_wp2
  go_ret
  exact ⟨ret_bool HU.out.symm,by (repeat (first|exact Qr _ _|assumption|refine Qd ?_|refine Qa ?_ _|refine Qt ?_|refine Qs ?_ _|refine Qo ?_ ?_ _ _))⟩
 ·have hx' : decide (f.la < g.la) = false := by simpa using hx
  by_cases hy : f.la = g.la
  ·have hy' : (f.la == g.la) = true := by simpa using hy
   by_cases hz : f.id < g.id
   ·have HU : Hid (ltF f g = true) := by show _ = _; simp [ltF,hy,hz]
    clear hy hx
    go_enter Tryz.func116,Tryz.ntmps116
    go_wp2_with fail
    go_region
    go_wp2
    go_ret
    exact ⟨ret_bool HU.out.symm,by (repeat (first|exact Qr _ _|assumption|refine Qd ?_|refine Qa ?_ _|refine Qt ?_|refine Qs ?_ _|refine Qo ?_ ?_ _ _))⟩
   ·have hz' : decide (f.id < g.id) = false := by simpa using hz
    have HU : Hid (ltF f g = false) := by show _ = _; simp [ltF,hx]; omega
    clear hy hx hz
    go_enter Tryz.func116,Tryz.ntmps116
    go_wp2_with fail
    go_region
    go_wp2
    go_ret
    exact ⟨ret_bool HU.out.symm,by (repeat (first|exact Qr _ _|assumption|refine Qd ?_|refine Qa ?_ _|refine Qt ?_|refine Qs ?_ _|refine Qo ?_ ?_ _ _))⟩
  ·have hy' : (f.la == g.la) = false := by simpa using hy
   have HU : Hid (ltF f g = false) := by show _ = _; simp [ltF,hx,hy]
   clear hy hx
   go_enter Tryz.func116,Tryz.ntmps116
   go_wp2_with fail
   go_region
   go_wp2
   go_ret
   exact ⟨ret_bool HU.out.symm,by (repeat (first|exact Qr _ _|assumption|refine Qd ?_|refine Qa ?_ _|refine Qt ?_|refine Qs ?_ _|refine Qo ?_ ?_ _ _))⟩

def orI (x y : Int) : Int := if x = 0 then y else x
theorem cmpOr_any (b c : Nat) (x y : Int) (w : World) (h0 : w.cell? ⟨b,0,none⟩ = some (.int .i64 x)) (h1 : w.cell? ⟨b,1,none⟩ = some (.int .i64 y)) : Calls Tryz.prog 87 #[.slice (some ⟨b,0,none⟩) 2 c] w fun e w' => e = .returned (.int .i64 (orI x y)) ∧ w' = w := by
 unfold orI
 by_cases hx : x = 0
 ·subst hx
  by_cases hy : y = 0
  ·subst hy
   go_enter Tryz.func87,Tryz.ntmps87
   go_wp2
   refine wp_loop_rounds 3 ?_
   rw [rounds_succ]
   go_wp2
   rw [rounds_succ]
   go_wp2
   rw [rounds_succ]
   go_wp2
   go_ret
   exact ⟨by simp,rfl⟩
  ·have hy' : (y == 0) = false := by simpa using hy
   go_enter Tryz.func87,Tryz.ntmps87
   go_wp2
   refine wp_loop_rounds 2 ?_
   rw [rounds_succ]
   go_wp2
   rw [rounds_succ]
   go_wp2
   go_ret
   exact ⟨by simp,rfl⟩
 ·have hx' : (x == 0) = false := by simpa using hx
  rw [if_neg hx]
  go_enter Tryz.func87,Tryz.ntmps87
  go_wp2
  refine wp_loop_rounds 1 ?_
  rw [rounds_succ]
  go_wp2
  go_ret
  exact ⟨rfl,rfl⟩
def cmpF (f g : Feat) : Int := orI (cmpI f.la g.la) (cmpI f.id g.id)
theorem compareFeatures_gro (f g : Feat) (w : World) : Calls Tryz.prog 46 #[.agg (fcell f).toArray, .agg (fcell g).toArray] w fun e w' => e = .returned (.int .i64 (cmpF f g)) ∧ Gro w w' := by
 unfold cmpF
 generalize hA : cmpI f.la g.la = A
 generalize hB : cmpI f.id g.id = B
 have H1 : Hid (∀ W,Calls Tryz.prog 88 #[.int .i64 f.la, .int .i64 g.la] W fun e w' => e = .returned (.int .i64 A) ∧ w' = W) := fun W => by subst hA; exact cmpCompare_any _ _ _
 have H2 : Hid (∀ W,Calls Tryz.prog 88 #[.int .i64 f.id, .int .i64 g.id] W fun e w' => e = .returned (.int .i64 B) ∧ w' = W) := fun W => by subst hB; exact cmpCompare_any _ _ _
 clear hA hB
 unfold fcell
 go_enter Tryz.func46,Tryz.ntmps46
 go_wp2_with fail
 generalize hV : ((w.alloc _).alloc _ : World) = V
 have hB0 : Gro w V := by subst hV; exact ((Gro.refl _).alloc _).alloc _
 have c0 : ∀ W',Gro V W' → W'.cell? ⟨w.heap.size,0,none⟩ = some (.int .i64 f.id) := fun W' h => by
  rw [h.1.cell (by subst hV; simp <;> omega)]; subst hV; simp [go_sem]
 have c1 : ∀ W',Gro V W' → W'.cell? ⟨w.heap.size,1,none⟩ = some (.int .i64 f.la) := fun W' h => by
  rw [h.1.cell (by subst hV; simp <;> omega)]; subst hV; simp [go_sem]
 have d0 : ∀ W',Gro V W' → W'.cell? ⟨w.heap.size + 1,0,none⟩ = some (.int .i64 g.id) := fun W' h => by
  rw [h.1.cell (by subst hV; simp <;> omega)]; subst hV; simp [go_sem]
 have d1 : ∀ W',Gro V W' → W'.cell? ⟨w.heap.size + 1,1,none⟩ = some (.int .i64 g.la) := fun W' h => by
  rw [h.1.cell (by subst hV; simp <;> omega)]; subst hV; simp [go_sem]
 clear hV
 refine wp_region_noPanic ?_
 refine wp_region_held_drew (S := fun W' => Gro V W') (by kernel_rfl) ((Gro.refl V).drew) (fun hHeld => ?_)
 have hBd : Gro V V.drew := hHeld
 refine takeK (i := 0) (d := some 5) (v := ?vt1) rfl rfl (Or.inl ⟨by rfl,?hyt1⟩) (by assumption) ?_
 case hyt1 => (intro w hSw; (try dsimp only at hSw); go_simp <;> with_reducible rfl)
 try simp only [Act.put,Qx,Qy,Qz]
 refine takeK (i := 1) (d := some 6) (v := ?vt2) rfl rfl (Or.inl ⟨by rfl,?hyt2⟩) (by assumption) ?_
 case hyt2 => (intro w hSw; (try dsimp only at hSw); go_simp <;> with_reducible rfl)
 try simp only [Act.put,Qx,Qy,Qz]
 refine takeK (i := 2) (d := some 7) (v := ?vt3) rfl rfl (Or.inl ⟨by rfl,?hyt3⟩) (by assumption) ?_
 case hyt3 => (intro w hSw; (try dsimp only at hSw); go_simp <;> with_reducible rfl)
 try simp only [Act.put,Qx,Qy,Qz]
 refine takeK (i := 3) (d := some 8) (v := ?vt4) rfl rfl (Or.inl ⟨by rfl,?hyt4⟩) (by assumption) ?_
 case hyt4 => (intro w hSw; (try dsimp only at hSw); go_simp <;> with_reducible rfl)
 try simp only [Act.put,Qx,Qy,Qz]
 refine takeK (i := 5) (d := some 10) (v := ?vt5) rfl rfl (Or.inl ⟨by rfl,?hyt5⟩) (by assumption) ?_
 case hyt5 => (intro w hSw; (try dsimp only at hSw); go_simp <;> with_reducible rfl)
 try simp only [Act.put,Qx,Qy,Qz]
 refine takeK (i := 6) (d := some 11) (v := ?vt6) rfl rfl (Or.inl ⟨by rfl,?hyt6⟩) (by assumption) ?_
 case hyt6 => (intro w hSw; (try dsimp only at hSw); go_simp <;> with_reducible rfl)
 try simp only [Act.put,Qx,Qy,Qz]
 refine takeK (i := 7) (d := some 12) (v := ?vt7) rfl rfl (Or.inl ⟨by rfl,?hyt7⟩) (by assumption) ?_
 case hyt7 => (intro w hSw; (try dsimp only at hSw); go_simp <;> with_reducible rfl)
 try simp only [Act.put,Qx,Qy,Qz]
 refine takeK (i := 8) (d := some 13) (v := ?vt8) rfl rfl (Or.inl ⟨by rfl,?hyt8⟩) (by assumption) ?_
 case hyt8 => (intro w hSw; (try dsimp only at hSw); go_simp <;> with_reducible rfl)
 try simp only [Act.put,Qx,Qy,Qz]
 refine wpAnyH_ready (rs := [4]) (by kernel_rfl) (by simp) ?_
 refine (AllReadyH.cons rfl (fun K hK => ?_) AllReadyH.nil)
 go_simp
 refine (H1.out _).mono ?_
 rintro e w4 ⟨rfl,rfl⟩
 go_wp2_with fail
 refine hK.out _ _ hBd (fun hHeld => ?_)
 clear hK K
 try simp only [Act.put,Qx,Qy,Qz]
 refine wpAnyH_ready (rs := [9]) (by kernel_rfl) (by simp) ?_
 refine (AllReadyH.cons rfl (fun K hK => ?_) AllReadyH.nil)
 go_simp
 refine (H2.out _).mono ?_
 rintro e w9 ⟨rfl,rfl⟩
 go_wp2_with fail
 refine hK.out _ _ hBd (fun hHeld => ?_)
 clear hK K
 try simp only [Act.put,Qx,Qy,Qz]
 refine wpAnyH_ready (rs := [10]) (by kernel_rfl) (by simp) ?_
 refine (AllReadyH.cons rfl (fun K hK => ?_) AllReadyH.nil)
 go_simp
 generalize hw9 : (World.alloc _ _ : World) = w9
 have hb9 : Gro V w9 := by subst hw9; exact (Gro.refl _).alloc _
 have g0 : w9.cell? ⟨V.heap.size,0,none⟩ = some (.int .i64 A) := by subst hw9; simp [go_sem]
 have g1 : w9.cell? ⟨V.heap.size,1,none⟩ = some (.int .i64 B) := by subst hw9; simp [go_sem]
 have hB9 : Gro V w9.drew := hb9.drew
 replace g0 : w9.drew.cell? ⟨V.heap.size,0,none⟩ = some (.int .i64 A) := g0
 replace g1 : w9.drew.cell? ⟨V.heap.size,1,none⟩ = some (.int .i64 B) := g1
 clear hw9
 refine hK.out _ _ hB9 (fun hHeld => ?_)
 clear hK K
 try simp only [Act.put,Qx,Qy,Qz]
 refine wpAnyH_ready (rs := [11]) (by kernel_rfl) (by simp) ?_
 refine (AllReadyH.cons rfl (fun K hK => ?_) AllReadyH.nil)
 go_simp
 refine (cmpOr_any _ _ A B _ g0 g1).mono ?_
 rintro e w11 ⟨rfl,rfl⟩
 go_wp2_with fail
 refine hK.out _ _ hB9 (fun hHeld => ?_)
 clear hK K
 try simp only [Act.put,Qx,Qy,Qz]
 refine takeK (i := 12) (d := some 4) (v := ?vt9) rfl rfl (Or.inl ⟨by rfl,?hyt9⟩) (by assumption) ?_
 case hyt9 => (intro w hSw; (try dsimp only at hSw); go_simp <;> with_reducible rfl)
 try simp only [Act.put,Qx,Qy,Qz]
 refine wpAnyH_done (by kernel_rfl) ?_ _
 refine NoPanic.normal ?_
 go_wp2_with fail
 go_ret
 exact ⟨rfl,hB0.trans hB9⟩
end Go.Proofs.YtfkonhagjahgnaaGreat
namespace Go.Proofs.YtfkonhagjahgnaaGreat
open Go.RowKit Go.Sort
theorem compareFeatures_any (f g : Feat) (w : World) : Calls Tryz.prog 46 #[.agg (fcell f).toArray, .agg (fcell g).toArray] w fun e w' => e = .returned (.int .i64 (cmpF f g)) ∧ ∃ q os',w' = grow (w.drewN q) os' :=
 (compareFeatures_gro f g w).mono fun e w' ⟨he,hg⟩ => ⟨he,hg.grow⟩
end Go.Proofs.YtfkonhagjahgnaaGreat
namespace Go.Proofs.YtfkonhagjahgnaaGreat
open Go.RowKit
end Go.Proofs.YtfkonhagjahgnaaGreat
namespace Go.Proofs.YtfkonhagjahgnaaGreat
open Go.RowKit Go.Sort Go.Shelf
theorem lt_cmpF (H : Nat → Feat) (i j : Nat) : ltOf (fun i j => cmpF (H i) (H j)) i j = ltK (fun i => (H i).la) (fun i => (H i).id) i j := by
 show decide (orI (cmpI (H i).la (H j).la) (cmpI (H i).id (H j).id) < 0) = (decide ((H i).la < (H j).la) || (decide ((H i).la = (H j).la) && decide ((H i).id < (H j).id)))
 unfold orI
 by_cases h : cmpI (H i).la (H j).la = 0
 ·rw [if_pos h]
  have h' := (cmpI_zero _ _).1 h
  simp [cmpI_lt,h']
 ·rw [if_neg h]
  have h' : (H i).la ≠ (H j).la := fun e => h ((cmpI_zero _ _).2 e)
  simp [cmpI_lt,h']
theorem swo_cmpF (H : Nat → Feat) : SWO (ltOf (fun i j => cmpF (H i) (H j))) where
 irrefl x := by rw [lt_cmpF,ltK_no]; omega
 trans x y z h1 h2 := by rw [lt_cmpF,ltK_iff] at *; omega
 ntrans x y z h1 h2 := by rw [lt_cmpF,ltK_no] at *; omega
theorem cmpLays_F (H : Nat → Feat) (blk off size : Nat) (w : World) : CmpLays Tryz.prog 46 #[] (fun i => fcell (H i)) 7 (fun i j => cmpF (H i) (H j)) blk off size w :=
 fun _ _ _ _ x y => compareFeatures_any (H x) (H y) _
theorem holds_F {base : Nat} {w : World} {v : Value} {H : Nat → Feat} {n g c : Nat} (h : FRow base w v H (List.range n)) (hv : v = .slice (some ⟨g,0,none⟩) n c) : HoldsK (fun i => fcell (H i)) 7 w g 0 (Array.range n) := by
 subst hv
 have hrow : w.ownsRow base 39 7 (.slice (some ⟨g,0,none⟩) n c) n (cellsF H (List.range n)) := by
  have := h
  unfold FRow at this
  rw [List.length_range] at this
  exact this
 intro t ht
 rw [size_flatK,Array.size_range] at ht
 rw [get_flatK _ _ _ _ (by rw [Array.size_range]; exact ht),Nat.zero_add]
 refine ⟨?_,hrow.frozenAt t⟩
 have hi : t / 7 < n := by omega
 have hk : t % 7 < 7 := by omega
 have e := cellsF_at H (List.range n) (t / 7) (t % 7) (by simpa using hi) hk
 have et : t / 7 * 7 + t % 7 = t := by omega
 rw [et] at e
 rw [hrow.cellAt t ht,e]
 have eg : (List.range n).getD (t / 7) 0 = t / 7 := by simp [List.getD_eq_getElem?_getD,hi]
 have ea : (Array.range n)[t / 7]! = t / 7 := by simp [hi]
 rw [eg,ea]
 show (fcell (H (t / 7)))[t % 7]? = some (fcell (H (t / 7)))[t % 7]!
 have hl : t % 7 < (fcell (H (t / 7))).length := by rw [fcell_len]; exact hk
 rw [List.getElem?_eq_getElem hl,getElem!_pos (fcell (H (t / 7))) (t % 7) hl]
theorem at_F {w : World} {H : Nat → Feat} {g : Nat} {d : Array Nat} (h : HoldsK (fun i => fcell (H i)) 7 w g 0 d) {i : Nat} (hi : i < d.size) :
  FeatAt w g (i * 7) (H d[i]!).id (H d[i]!).la (H d[i]!).ki (H d[i]!).wi (.slice (H d[i]!).a (H d[i]!).n (H d[i]!).cap) (H d[i]!).lab (H d[i]!).pr := by
 have c := fun k (hk : k < 7) => (h.cell hi hk).1
 simp only [Nat.zero_add] at c
 exact ⟨c 0 (by omega),c 1 (by omega),c 2 (by omega),c 3 (by omega),c 4 (by omega),c 5 (by omega),c 6 (by omega)⟩
theorem there_F {w : World} {H : Nat → Feat} {g : Nat} {d : Array Nat} (h : HoldsK (fun i => fcell (H i)) 7 w g 0 d) : There w g (d.size * 7) := fun o ho => by
 have := h.cell (i := o / 7) (c := o % 7) (by omega) (by omega)
 have e : 0 + o / 7 * 7 + o % 7 = o := by omega
 rw [e] at this
 exact ⟨⟨_,this.1⟩,this.2⟩
theorem sortF_any (n base : Nat) (v : Value) (H : Nat → Feat) (w : World) (hR : FRow base w v H (List.range n)) (hn : n ≤ 1048576) :
  Calls Tryz.prog 45 #[v, .func (.func 46) #[] #[]] w fun e w' => e = .returned (.tuple #[]) ∧
   ((n = 0 ∧ w' = w) ∨ ∃ (g c : Nat) (l : List Nat),v = .slice (some ⟨g,0,none⟩) n c ∧ base ≤ g ∧ g < w.heap.size ∧ l.Perm (List.range n) ∧ l.Pairwise (fun a b => ltK (fun i => (H i).la) (fun i => (H i).id) b a = false) ∧ w.grownBy w' (some g) ∧ There w' g (n * 7) ∧
    ∀ i,i < n → FeatAt w' g (i * 7) (H (l.getD i 0)).id (H (l.getD i 0)).la (H (l.getD i 0)).ki (H (l.getD i 0)).wi (.slice (H (l.getD i 0)).a (H (l.getD i 0)).n (H (l.getD i 0)).cap) (H (l.getD i 0)).lab (H (l.getD i 0)).pr) := by
 rcases hR.at with ⟨hv,hl⟩ | ⟨g,c,hv,hg,hgl,hc,hT,hF⟩
 ·have hn0 : n = 0 := by simpa using congrArg List.length hl
  subst hv
  have hcon := AnyF.slices_SortFunc_none Tryz.sortF none 0 (.func (.func 46) #[] #[]) w
  exact hcon.mono fun e w' ⟨he,hw⟩ => ⟨he, .inl ⟨hn0,hw⟩⟩
 ·rw [List.length_range] at hv hc hT
  have eg : ∀ args w,(callFunc 46 args).run Tryz.prog w = .ok (.enter 46 args) w := enters_of Tryz.func46 (by kernel_rfl) rfl
  have hH := holds_F hR hv
  have hcon := AnyQ.slices_SortFunc Tryz.sortF 7 Tryz.isAgg39 Tryz.sizeOf39 (fun i => fcell (H i)) (fun _ => rfl) (fun i => fcell_one (H i)) (fun i j => cmpF (H i) (H j)) (swo_cmpF H) 46 #[] g 0 c (Array.range n) w eg (cmpLays_F H g 0 _ w) hH hgl (by rw [Array.size_range]; omega)
  rw [Array.size_range] at hcon
  subst hv
  refine Calls.mono (show Calls Tryz.prog 45 _ _ _ from hcon) ?_
  rintro e w' ⟨he,d',m,os,hp,hs,rfl⟩
  obtain ⟨hp1,hp2,hp3⟩ := hp
  rw [Array.size_range] at hp1
  have hH' := holdsK_sortWorldK_c (fun i => fcell (H i)) 7 w g 0 (Array.range n) d' m os hH hgl (by rw [hp1,Array.size_range])
  have hget : ∀ i,i < n → d'[i]! = d'.toList.getD i 0 := fun i hi => by
   rw [List.getD_eq_getElem?_getD,Array.getElem?_toList,getElem!_pos d' i (by omega),Array.getElem?_eq_getElem (by omega)]
   rfl
  refine ⟨he, .inr ⟨g,c,d'.toList,rfl,hg,hgl,?_,?_,grown_sortF _ _ _ _ _ _ _ _,?_,fun i hi => ?_⟩⟩
  ·have h3 : d'.extract 0 n = d' := by rw [← hp1]; exact Array.extract_size
   have h4 : (Array.range n).extract 0 n = Array.range n := by
    have := Array.extract_size (xs := Array.range n)
    rw [Array.size_range] at this
    exact this
   rw [h3,h4] at hp3
   simpa using hp3
  ·rw [List.pairwise_iff_getElem]
   intro i j hi hj hij
   have hi' : i < d'.size := by simpa using hi
   have hj' : j < d'.size := by simpa using hj
   have := hs i j (Nat.zero_le _) hij (by omega)
   rw [lt_cmpF,getElem!_pos d' i hi',getElem!_pos d' j hj'] at this
   simpa using this
  ·have := there_F hH'
   rw [hp1] at this
   exact this
  ·have := at_F hH' (i := i) (by omega)
   rw [hget i hi] at this
   exact this
end Go.Proofs.YtfkonhagjahgnaaGreat
namespace Go.Proofs.YtfkonhagjahgnaaGreat
open Go.RowKit
def ordI (n : Nat) (G : Nat → Feat) : Bool := decide (∀ i,i < n - 1 → ltF (G (i + 1)) (G i) = false)
def ordS (n : Nat) (G : Nat → Feat) : Bool := decide (∀ i,i < n - 1 → ltF (G i) (G (i + 1)) = true)
theorem cmpF_neg (f g : Feat) : cmpF f g < 0 ↔ ltF f g = true := by
 unfold cmpF orI cmpI ltF
 by_cases h1 : f.la < g.la
 ·simp [h1]
 ·by_cases h2 : g.la < f.la
  ·have : ¬ f.la = g.la := by omega
   simp [h1,h2,this]
  ·have : f.la = g.la := by omega
   by_cases h3 : f.id < g.id
   ·simp [h1,h2,h3,this]
   ·by_cases h4 : g.id < f.id <;> simp [h1,h2,h3,h4,this]
theorem ord_same {n : Nat} {G : Nat → Feat} (h : apartK (fun i => (G i).id) n) : ordI n G = ordS n G := by
 unfold ordI ordS
 rw [decide_eq_decide]
 refine forall_congr' fun i => forall_congr' fun hi => ?_
 have hne : (G i).id ≠ (G (i + 1)).id := fun e => by have := h i (i + 1) (by omega) (by omega) e; omega
 unfold ltF
 simp
 constructor
 ·intro ⟨h1,h2⟩
  omega
 ·intro h1
  omega
theorem ord_congr {n : Nat} {G H : Nat → Feat} (h : ∀ i,i < n → (G i).same (H i)) : ordS n G = ordS n H := by
 unfold ordS
 rw [decide_eq_decide]
 refine forall_congr' fun i => forall_congr' fun hi => ?_
 unfold ltF
 rw [(h i (by omega)).1,(h i (by omega)).2.1,(h (i + 1) (by omega)).1,(h (i + 1) (by omega)).2.1]
theorem ordI_bad {n : Nat} {G : Nat → Feat} (i : Nat) (hi : i + 1 < n) (h : ltF (G (i + 1)) (G i) = true) : ordI n G = false := by
 unfold ordI
 rw [decide_eq_false]
 intro hc
 rw [hc i (by omega)] at h
 cases h
theorem ordS_bad {n : Nat} {G : Nat → Feat} (i : Nat) (hi : i + 1 < n) (h : ltF (G i) (G (i + 1)) = false) : ordS n G = false := by
 unfold ordS
 rw [decide_eq_false]
 intro hc
 rw [hc i (by omega)] at h
 cases h
theorem compareFeatures_ex (f g : Feat) (w : World) : Calls Tryz.prog 46 #[.agg #[.int .i64 f.id, .int .i64 f.la, .int .i64 f.ki, .int .i64 f.wi, .slice f.a f.n f.cap, .string f.lab, .int .i64 f.pr], .agg #[.int .i64 g.id, .int .i64 g.la, .int .i64 g.ki, .int .i64 g.wi, .slice g.a g.n g.cap, .string g.lab, .int .i64 g.pr]] w fun e w' => e = .returned (.int .i64 (cmpF f g)) ∧ Below w.heap.size w w' :=
 (compareFeatures_gro f g w).mono fun e w' ⟨he,hg⟩ => ⟨he,hg.1⟩
theorem isSortedFunc_any (b n cap : Nat) (G : Nat → Feat) (w : World) (hg : FsAt w b 0 n G) (hbl : b < w.heap.size) (hn : n ≤ 1048576) :
  Calls Tryz.prog 99 #[.slice (some ⟨b,0,none⟩) n cap, .func (.func 46) #[] #[]] w fun e w' => e = .returned (.bool (ordI n G)) ∧ Below w.heap.size w w' := by
 have HG : Hid (FsAt w b 0 n G) := hg
 clear hg
 by_cases h0 : n = 0
 ·subst h0
  have HV : Hid (ordI 0 G = true) := by show _ = _; simp [ordI]
  go_enter Tryz.func99,Tryz.ntmps99
  go_wp2_with fail
  go_loopw [5] (fun i wr => i = .int .i64 (-1) ∧ w = wr) (fun _ _ => 0)
  case atStart => exact ⟨rfl,rfl⟩
  case round =>
   obtain ⟨rfl,rfl⟩ := hrel
   go_wp2
   go_ret
   exact ⟨ret_bool HV.out.symm,Below.refl _ _⟩
 ·obtain ⟨N,rfl⟩ : ∃ N,n = N + 1 := ⟨n - 1,by omega⟩
  have e0 : IntKind.i64.wrap (((N + 1 : Nat) : Int) - 1) = (N : Int) := by rw [show ((N + 1 : Nat) : Int) - 1 = (N : Int) by omega]; exact IntWalk.i64_in _ (by omega)
  go_enter Tryz.func99,Tryz.ntmps99
  go_wp2_with fail
  go_loopw [5] (fun i wr => ∃ k : Nat,k ≤ N ∧ i = .int .i64 (k : Int) ∧ (∀ i,k ≤ i → i < N → ltF (G (i + 1)) (G i) = false) ∧ Below w.heap.size w wr) (fun i _ => (intOf i).toNat)
  case atStart => exact ⟨N,by omega,by first | rfl | go_num | (simp; done),fun i h1 h2 => by omega,Below.refl _ _⟩
  case round =>
   obtain ⟨k,hk,rfl,hall,hB⟩ := hrel
   have HALL : Hid (∀ i,k ≤ i → i < N → ltF (G (i + 1)) (G i) = false) := hall
   have HB : Hid (Below w.heap.size w wr) := hB
   have hbr : b < wr.heap.size := Nat.lt_of_lt_of_le hbl hB.size
   have hGr : FsAt wr b 0 (N + 1) G := HG.out.below hB hbl
   clear hall hB
   by_cases h1 : k = 0
   ·subst h1
    have HV : Hid (ordI (N + 1) G = true) := by
     show _ = _
     unfold ordI
     rw [decide_eq_true]
     exact fun i hi => HALL.out i (by omega) (by omega)
    go_wp2
    go_ret
    exact ⟨ret_bool HV.out.symm,HB.out⟩
   ·obtain ⟨M,rfl⟩ : ∃ M,k = M + 1 := ⟨k - 1,by omega⟩
    have e1 : IntKind.i64.wrap (((M + 1 : Nat) : Int) - 1) = (M : Int) := by rw [show ((M + 1 : Nat) : Int) - 1 = (M : Int) by omega]; exact IntWalk.i64_in _ (by omega)
    have e2 : (0 : Int) < ((M + 1 : Nat) : Int) := by omega
    have e3 : ((M + 1 : Nat) : Int) < ((N + 1 : Nat) : Int) := by omega
    have e4 : (M : Int) < ((N + 1 : Nat) : Int) := by omega
    obtain ⟨P,hP⟩ : ∃ P,M + 1 = P := ⟨_,rfl⟩
    obtain ⟨T,hT⟩ : ∃ T,N + 1 = T := ⟨_,rfl⟩
    have fa := hGr (M + 1) (by omega)
    have fd := hGr M (by omega)
    have HOI : Hid (ltF (G (M + 1)) (G M) = true → ordI (N + 1) G = false) := fun h => ordI_bad M (by omega) h
    have HBR : Hid (Below w.heap.size w wr) := HB.out
    have HKM : Hid (M + 1 = P) := hP
    have HKN : Hid (N + 1 = T) := hT
    rw [hP] at e1 e2 e3 fa HOI
    rw [hT] at e3 e4 HOI
    rw [hT]
    rw [hP]
    have kpos : 0 ≤ (P : Int) := by omega
    have mpos : 0 ≤ (M : Int) := by omega
    have ra : ∀ W',Below wr.heap.size wr W' → FeatAt W' b (0 + P * 7) (G P).id (G P).la (G P).ki (G P).wi (.slice (G P).a (G P).n (G P).cap) (G P).lab (G P).pr := fun W' h => fa.1.below h hbr
    have rd : ∀ W',Below wr.heap.size wr W' → FeatAt W' b (0 + M * 7) (G M).id (G M).la (G M).ki (G M).wi (.slice (G M).a (G M).n (G M).cap) (G M).lab (G M).pr := fun W' h => fd.1.below h hbr
    simp only [Nat.zero_add] at ra rd
    have a0 : ∀ W',Below wr.heap.size wr W' → W'.cell? ⟨b,P * 7,none⟩ = some (.int .i64 (G P).id) := fun W' h => (ra W' h).1
    have a1 : ∀ W',Below wr.heap.size wr W' → W'.cell? ⟨b,P * 7 + 1,none⟩ = some (.int .i64 (G P).la) := fun W' h => (ra W' h).2.1
    have a2 : ∀ W',Below wr.heap.size wr W' → W'.cell? ⟨b,P * 7 + 2,none⟩ = some (.int .i64 (G P).ki) := fun W' h => (ra W' h).2.2.1
    have a3 : ∀ W',Below wr.heap.size wr W' → W'.cell? ⟨b,P * 7 + 3,none⟩ = some (.int .i64 (G P).wi) := fun W' h => (ra W' h).2.2.2.1
    have a4 : ∀ W',Below wr.heap.size wr W' → W'.cell? ⟨b,P * 7 + 4,none⟩ = some (.slice (G P).a (G P).n (G P).cap) := fun W' h => (ra W' h).2.2.2.2.1
    have a5 : ∀ W',Below wr.heap.size wr W' → W'.cell? ⟨b,P * 7 + 5,none⟩ = some (.string (G P).lab) := fun W' h => (ra W' h).2.2.2.2.2.1
    have a6 : ∀ W',Below wr.heap.size wr W' → W'.cell? ⟨b,P * 7 + 6,none⟩ = some (.int .i64 (G P).pr) := fun W' h => (ra W' h).2.2.2.2.2.2
    have d0 : ∀ W',Below wr.heap.size wr W' → W'.cell? ⟨b,M * 7,none⟩ = some (.int .i64 (G M).id) := fun W' h => (rd W' h).1
    have d1 : ∀ W',Below wr.heap.size wr W' → W'.cell? ⟨b,M * 7 + 1,none⟩ = some (.int .i64 (G M).la) := fun W' h => (rd W' h).2.1
    have d2 : ∀ W',Below wr.heap.size wr W' → W'.cell? ⟨b,M * 7 + 2,none⟩ = some (.int .i64 (G M).ki) := fun W' h => (rd W' h).2.2.1
    have d3 : ∀ W',Below wr.heap.size wr W' → W'.cell? ⟨b,M * 7 + 3,none⟩ = some (.int .i64 (G M).wi) := fun W' h => (rd W' h).2.2.2.1
    have d4 : ∀ W',Below wr.heap.size wr W' → W'.cell? ⟨b,M * 7 + 4,none⟩ = some (.slice (G M).a (G M).n (G M).cap) := fun W' h => (rd W' h).2.2.2.2.1
    have d5 : ∀ W',Below wr.heap.size wr W' → W'.cell? ⟨b,M * 7 + 5,none⟩ = some (.string (G M).lab) := fun W' h => (rd W' h).2.2.2.2.2.1
    have d6 : ∀ W',Below wr.heap.size wr W' → W'.cell? ⟨b,M * 7 + 6,none⟩ = some (.int .i64 (G M).pr) := fun W' h => (rd W' h).2.2.2.2.2.2
    clear fa fd hGr hP hT ra rd HB
    obtain ⟨C,hC⟩ : ∃ C,cmpF (G P) (G M) = C := ⟨_,rfl⟩
    have HCM : Hid (∀ W,Calls Tryz.prog 46 #[.agg #[.int .i64 (G P).id, .int .i64 (G P).la, .int .i64 (G P).ki, .int .i64 (G P).wi, .slice (G P).a (G P).n (G P).cap, .string (G P).lab, .int .i64 (G P).pr], .agg #[.int .i64 (G M).id, .int .i64 (G M).la, .int .i64 (G M).ki, .int .i64 (G M).wi, .slice (G M).a (G M).n (G M).cap, .string (G M).lab, .int .i64 (G M).pr]] W fun e w' => e = .returned (.int .i64 C) ∧ Below W.heap.size W w') := fun W => by rw [← hC]; exact compareFeatures_ex (G P) (G M) W
    have HCI : Hid (C < 0 ↔ ltF (G P) (G M) = true) := by show _ ↔ _; rw [← hC]; exact cmpF_neg _ _
    clear hC
    by_cases hneg : C < 0
    ·have HOF : Hid (ordI T G = false) := HOI.out (HCI.out.1 hneg)
     go_wp2_with fail
     go_region_held3 (fun W' => Below wr.heap.size wr W') ((repeat (first|exact Qr _ _|assumption|refine Qd ?_|refine Qa ?_ _|refine Qt ?_|refine Qs ?_ _|refine Qo ?_ ?_ _ _)))
      (first
       | (go_at_call 46; refine (HCM.out _).mono ?_; rintro e w8 ⟨rfl,hb8⟩))
     have HB8 : Hid (Below w.heap.size w w8) := bl_then HBR.out (by assumption)
     clear a0 a1 a2 a3 a4 a5 a6 d0 d1 d2 d3 d4 d5 d6
     go_wp2
     go_ret
     exact ⟨by have h := HOF.out; rw [← HKN.out] at h; exact ret_bool h.symm,HB8.out⟩
    ·have HOK : Hid (ltF (G P) (G M) = false) := by
      show _ = _
      cases h : ltF (G P) (G M)
      ·rfl
      ·exact absurd (HCI.out.2 h) hneg
     go_wp2_with fail
     go_region_held3 (fun W' => Below wr.heap.size wr W') ((repeat (first|exact Qr _ _|assumption|refine Qd ?_|refine Qa ?_ _|refine Qt ?_|refine Qs ?_ _|refine Qo ?_ ?_ _ _)))
      (first
       | (go_at_call 46; refine (HCM.out _).mono ?_; rintro e w8 ⟨rfl,hb8⟩))
     have HB8 : Hid (Below w.heap.size w w8) := bl_then HBR.out (by assumption)
     clear a0 a1 a2 a3 a4 a5 a6 d0 d1 d2 d3 d4 d5 d6
     go_wp2
     go_roundw
     case rel =>
      have h1 := HKM.out
      refine ⟨M,by omega,by first | rfl | go_num | (simp; done) | omega,fun i h2 h3 => ?_,HB8.out⟩
      by_cases h4 : i = M
      ·subst h4
       have := HOK.out
       rw [← h1] at this
       exact this
      ·exact HALL.out i (by omega) h3
     case measure => have h1 := HKM.out; simp [intOf]; omega
theorem areInOrder_any (b n cap : Nat) (G : Nat → Feat) (w : World) (hg : FsAt w b 0 n G) (hbl : b < w.heap.size) (hn : n ≤ 1048576) :
  Calls Tryz.prog 58 #[.slice (some ⟨b,0,none⟩) n cap] w fun e w' => e = .returned (.bool (ordI n G)) ∧ Below w.heap.size w w' := by
 have HH : Hid (Calls Tryz.prog 99 #[.slice (some ⟨b,0,none⟩) n cap, .func (.func 46) #[] #[]] w fun e w' => e = .returned (.bool (ordI n G)) ∧ Below w.heap.size w w') := isSortedFunc_any b n cap G w hg hbl hn
 clear hg
 obtain ⟨c,hc⟩ : ∃ c,ordI n G = c := ⟨_,rfl⟩
 rw [hc] at HH
 rw [hc]
 clear hc
 go_enter Tryz.func58,Tryz.ntmps58
 go_wp2_with (go_at_call 99; refine Calls.mono HH.out ?_; rintro e w' ⟨rfl,hb⟩)
 go_ret
 exact ⟨rfl,by assumption⟩
theorem l6Ordered_any (b n cap : Nat) (G : Nat → Feat) (w : World) (hg : FsAt w b 0 n G) (hbl : b < w.heap.size) (hn : n ≤ 1048576) :
  Calls Tryz.prog 80 #[.slice (some ⟨b,0,none⟩) n cap] w fun e w' => e = .returned (.bool (ordS n G)) ∧ Below w.heap.size w w' := by
 have HG : Hid (FsAt w b 0 n G) := hg
 clear hg
 go_enter Tryz.func80,Tryz.ntmps80
 go_wp2_with fail
 go_loopw [3] (fun i wr => ∃ k : Nat,(k + 1 ≤ n ∨ k = 0) ∧ i = .int .i64 ((k : Int) + 1) ∧ (∀ i,i < k → ltF (G i) (G (i + 1)) = true) ∧ Below w.heap.size w wr) (fun i _ => n - (intOf i).toNat)
 case atStart => exact ⟨0, .inr rfl,rfl,fun i h1 => by omega,Below.refl _ _⟩
 case round =>
  obtain ⟨M,hk,rfl,hall,hB⟩ := hrel
  have HALL : Hid (∀ i,i < M → ltF (G i) (G (i + 1)) = true) := hall
  have HB : Hid (Below w.heap.size w wr) := hB
  have hbr : b < wr.heap.size := Nat.lt_of_lt_of_le hbl hB.size
  have hGr : FsAt wr b 0 n G := HG.out.below hB hbl
  clear hall hB
  obtain ⟨P,hP⟩ : ∃ P,M + 1 = P := ⟨_,rfl⟩
  have ePM : (M : Int) + 1 = (P : Int) := by omega
  have HKM : Hid (M + 1 = P) := hP
  rw [ePM]
  by_cases h1 : M + 1 < n
  ·have fa := hGr (M + 1) h1
   have fd := hGr M (by omega)
   have HOI : Hid (ltF (G M) (G (M + 1)) = false → ordS n G = false) := fun h => ordS_bad M h1 h
   have e1 : IntKind.i64.wrap ((P : Int) - 1) = (M : Int) := by rw [show (P : Int) - 1 = (M : Int) by omega]; exact IntWalk.i64_in _ (by omega)
   have e3 : (P : Int) < (n : Int) := by omega
   have e4 : (M : Int) < (n : Int) := by omega
   rw [hP] at fa HOI
   have kpos : 0 ≤ (P : Int) := by omega
   have mpos : 0 ≤ (M : Int) := by omega
   obtain ⟨⟨a0,a1,_,_,_,_,_⟩,_⟩ := fa
   obtain ⟨⟨d0,d1,_,_,_,_,_⟩,_⟩ := fd
   simp only [Nat.zero_add] at a0 a1 d0 d1
   obtain ⟨C,hC⟩ : ∃ C,ltF (G M) (G P) = C := ⟨_,rfl⟩
   have HCM : Hid (∀ W,Below wr.heap.size wr W → Calls Tryz.prog 116 #[.pointer (some ⟨b,M * 7,none⟩), .pointer (some ⟨b,P * 7,none⟩)] W fun e w' => e = .returned (.bool C) ∧ Below W.heap.size W w') := fun W h => by
    rw [← hC]
    exact l2Ahead_any b (M * 7) b (P * 7) (G M) (G P) W (bl_cell h d0) (bl_cell h d1) (bl_cell h a0) (bl_cell h a1)
   rw [hC] at HOI
   have HC : Hid (ltF (G M) (G P) = C) := hC
   clear hC a0 a1 d0 d1 hGr hP
   cases C with
   | false =>
    have HOF : Hid (ordS n G = false) := HOI.out rfl
    go_wp2_with fail
    go_region_held3 (fun W' => Below wr.heap.size wr W') ((repeat (first|exact Qr _ _|assumption|refine Qd ?_|refine Qa ?_ _|refine Qt ?_|refine Qs ?_ _|refine Qo ?_ ?_ _ _)))
     (first
      | (go_at_call 116; refine (HCM.out _ (by assumption)).mono ?_; rintro e w8 ⟨rfl,hb8⟩))
    have HB8 : Hid (Below w.heap.size w w8) := bl_then HB.out (by assumption)
    go_wp2
    go_ret
    exact ⟨ret_bool HOF.out.symm,HB8.out⟩
   | true =>
    go_wp2_with fail
    go_region_held3 (fun W' => Below wr.heap.size wr W') ((repeat (first|exact Qr _ _|assumption|refine Qd ?_|refine Qa ?_ _|refine Qt ?_|refine Qs ?_ _|refine Qo ?_ ?_ _ _)))
     (first
      | (go_at_call 116; refine (HCM.out _ (by assumption)).mono ?_; rintro e w8 ⟨rfl,hb8⟩))
    have HB8 : Hid (Below w.heap.size w w8) := bl_then HB.out (by assumption)
    go_wp2
    go_roundw
    case rel =>
     have h1 := HKM.out
     refine ⟨P,by omega,by first | rfl | go_num | (simp; done) | omega,fun i h2 => ?_,HB8.out⟩
     by_cases h4 : i = M
     ·subst h4
      have := HC.out
      rw [← h1] at this
      exact this
     ·exact HALL.out i (by omega)
    case measure => have h1 := HKM.out; simp [intOf]; omega
  ·have HV : Hid (ordS n G = true) := by
    show _ = _
    unfold ordS
    rw [decide_eq_true]
    exact fun i hi => HALL.out i (by omega)
   have e3 : ¬ (P : Int) < (n : Int) := by omega
   go_wp2
   go_ret
   exact ⟨ret_bool HV.out.symm,HB.out⟩
end Go.Proofs.YtfkonhagjahgnaaGreat
