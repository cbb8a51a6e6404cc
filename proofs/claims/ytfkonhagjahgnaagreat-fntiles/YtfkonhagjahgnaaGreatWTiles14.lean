/- Texts. -/
import Derived.Test.YtfkonhagjahgnaaGreatWTiles6
import Derived.Test.YtfkonhagjahgnaaGreatWTiles10
import Derived.Test.YtfkonhagjahgnaaGreatWTiles5
set_option linter.unusedSimpArgs false
set_option linter.unusedVariables false
set_option maxRecDepth 100000
set_option maxHeartbeats 32000000
namespace Go.Proofs.YtfkonhagjahgnaaGreat
open Go.RowKit
def allIn (n : Nat) (X Y : Nat → Int) : Bool := decide (∀ i,i < n → inW (X i) (Y i) = true)
def snapC (z : Int) (n : Nat) (X Y : Nat → Int) : Int := if zoomB z = true then (if n ≤ 12 then (if allIn n X Y = true then 0 else 3) else 2) else 3
def snapR (z : Int) (n : Nat) (X Y : Nat → Int) : List (Int × Int) := if snapC z n X Y = 0 then snapL X Y z n else []
theorem snapR_no {z : Int} {n : Nat} {X Y : Nat → Int} (h : snapC z n X Y ≠ 0) : snapR z n X Y = [] := by simp [snapR,h]
theorem allIn_no {n : Nat} {X Y : Nat → Int} {k : Nat} (hk : k < n) (h : inW (X k) (Y k) = false) : allIn n X Y = false := by
 unfold allIn
 rw [decide_eq_false_iff_not]
 intro hc
 have := hc k hk
 rw [h] at this
 cases this
theorem allIn_ok {n : Nat} {X Y : Nat → Int} (h : ∀ i,i < n → inW (X i) (Y i) = true) : allIn n X Y = true := decide_eq_true h
theorem Row.set2 {base B r : Nat} {w : World} {v : Value} {l : List (Int × Int)} {x y : Value} (h : Row base w v l) (hB : B ≤ base ∧ r < base) : Row B ((w.setCell ⟨r,0,none⟩ x).setCell ⟨r,1,none⟩ y) v l := by
 obtain ⟨h1,h2 | ⟨g,cp,cur,hv,hg,hh,hr⟩⟩ := h
 ·exact ⟨h1, .inl h2⟩
 ·refine ⟨h1, .inr ⟨g,cp,cur,hv,by omega,?_,hr⟩⟩
  rw [Below.heap_setCell _ _ _ _ (by simp; omega),Below.heap_setCell _ _ _ _ (by simp; omega)]
  exact hh
set_option maxRecDepth 8000 in
theorem impl_SnapAll_any {off : Nat} (b n cap : Nat) (X Y : Nat → Int) (z : Int) (w : World) (hp : PtsAt w b off n X Y) (hbl : b < w.heap.size) (hn : n ≤ 1048576) :
  Calls Tryz.prog 63 #[.slice (some ⟨b,off,none⟩) n cap, .int .i64 z] w fun e w' => ∃ v,e = .returned (.agg #[.int .i64 (snapC z n X Y),v]) ∧ Row w.heap.size w' v (snapR z n X Y) ∧ Below w.heap.size w w' := by
 obtain ⟨i0,hi,hz0,hz1,hz2⟩ := info_parts info_pt
 have HP : Hid (PtsAt w b off n X Y) := hp
 clear hp
 go_enter Tryz.func63,Tryz.ntmps63
 go_wp2_with fail
 generalize hW : (w.alloc _ : World) = W
 have HB0 : Hid (Below w.heap.size w W) := by show Below _ _ _; subst hW; (repeat (first|exact Qr _ _|assumption|refine Qd ?_|refine Qa ?_ _|refine Qt ?_|refine Qs ?_ _|refine Qo ?_ ?_ _ _))
 have HT : Hid (There W w.heap.size 2) := by
  show There _ _ _
  subst hW
  exact there2 w (.int .i64 0) (.slice none 0 0) 113
 have hsz : w.heap.size < W.heap.size := by subst hW; simp
 clear hW
 have hr : Below W.heap.size W W := Below.refl _ _
 refine (isZoom_any _ _).mono ?_
 rintro e w' ⟨rfl,rfl⟩
 cases h : zoomB z
 ·have hc : snapC z n X Y = 3 := by simp [snapC,h]
  have hT' := HT.out
  have t0 := hT'.cell 0 (by omega)
  have t1 := hT'.cell 1 (by omega)
  have f0 := (hT' 0 (by omega)).2
  have f1 := (hT' 1 (by omega)).2
  clear hT'
  go_wp2_with fail
  refine bodyPost_ret (v := .agg #[.int .i64 3, .slice none 0 0]) (by simp [results,Tryz.results63,go_sem,set2_0 (Option.isSome_iff_exists.2 ⟨_,t0⟩),set2_1 (Option.isSome_iff_exists.2 ⟨_,t1⟩)]) rfl ⟨.slice none 0 0,by rw [hc],by rw [snapR_no (by rw [hc]; decide)]; exact Row.no _ _,?_⟩
  have HB1 := HB0.out
  (repeat (first|exact Qr _ _|assumption|refine Qd ?_|refine Qa ?_ _|refine Qt ?_|refine Qs ?_ _|refine Qo ?_ ?_ _ _))
 ·by_cases h12 : 12 < n
  ·have hc : snapC z n X Y = 2 := by simp [snapC,h]; omega
   have hT' := HT.out
   have t0 := hT'.cell 0 (by omega)
   have t1 := hT'.cell 1 (by omega)
   have f0 := (hT' 0 (by omega)).2
   have f1 := (hT' 1 (by omega)).2
   have hni : (12 : Int) < (n : Int) := by omega
   clear hT'
   go_wp2_with fail
   refine bodyPost_ret (v := .agg #[.int .i64 2, .slice none 0 0]) (by simp [results,Tryz.results63,go_sem,set2_0 (Option.isSome_iff_exists.2 ⟨_,t0⟩),set2_1 (Option.isSome_iff_exists.2 ⟨_,t1⟩)]) rfl ⟨.slice none 0 0,by rw [hc],by rw [snapR_no (by rw [hc]; decide)]; exact Row.no _ _,?_⟩
   have HB1 := HB0.out
   (repeat (first|exact Qr _ _|assumption|refine Qd ?_|refine Qa ?_ _|refine Qt ?_|refine Qs ?_ _|refine Qo ?_ ?_ _ _))
  ·have hni : ¬ (12 : Int) < (n : Int) := by omega
   go_wp2_with fail
   go_loopw [5,20] (fun v i wr => ∃ k : Nat,k ≤ n ∧ i = .int .i64 (k : Int) ∧ (∀ j,j < k → inW (X j) (Y j) = true) ∧ Row W.heap.size wr v (snapL X Y z k) ∧ Below W.heap.size W wr) (fun _ i _ => n - (intOf i).toNat)
   case atStart => exact ⟨0,by omega,rfl,fun j hj => by omega,Row.no _ _,Below.refl _ _⟩
   case round =>
    obtain ⟨k,hk,rfl,hall,hO,hB⟩ := hrel
    have HALL : Hid (∀ j,j < k → inW (X j) (Y j) = true) := hall
    have HBw : Hid (Below w.heap.size w wr) := bl_then HB0.out hB
    have HTw : Hid (There wr w.heap.size 2) := HT.out.below hB
    have hszw := hB.size
    have HBr : Hid (Below W.heap.size W wr) := hB
    have HO : Hid (Row W.heap.size wr u5 (snapL X Y z k)) := hO
    clear hall hB hO
    by_cases hlt : k < n
    ·obtain ⟨hx,hy⟩ := (HP.out.below HBw.out hbl) k hlt
     try simp only [Nat.zero_add] at hx hy
     have hi' : (k : Int) < (n : Int) := by omega
     go_wp2_with fail
     generalize hV1 : (wr.alloc _ : World) = V1
     have hbV1 : Below wr.heap.size wr V1 := by subst hV1; (repeat (first|exact Qr _ _|assumption|refine Qd ?_|refine Qa ?_ _|refine Qt ?_|refine Qs ?_ _|refine Qo ?_ ?_ _ _))
     clear hV1
     refine (impl_SnapPoint_any _ _ _ _).mono ?_
     rintro e w1 ⟨rfl,hb1⟩
     have hbr1 := bl_then hbV1 hb1
     have HB1 : Hid (Below w.heap.size w w1) := bl_then HBw.out hbr1
     have HT1 : Hid (There w1 w.heap.size 2) := HTw.out.below hbr1
     have HO1 : Hid (Row W.heap.size w1 u5 (snapL X Y z k)) := HO.out.below hbr1
     have HBW1 : Hid (Below W.heap.size W w1) := bl_then HBr.out hbr1
     have hsz1 := hbr1.size
     clear hbV1 hb1 hbr1 HO HTw HBw HBr hx hy
     cases hq : inW (X k) (Y k)
     ·have hv : snapV (X k) (Y k) z = .agg #[.int .i64 3, .int .i64 0, .int .i64 0] := by simp [snapV,h,hq]
      rw [hv]
      have hc : snapC z n X Y = 3 := by simp [snapC,h,allIn_no hlt hq]; omega
      have hT' := HT1.out
      have t0 := hT'.cell 0 (by omega)
      have t1 := hT'.cell 1 (by omega)
      have f0 := (hT' 0 (by omega)).2
      have f1 := (hT' 1 (by omega)).2
      clear hT' hv
      have hl1 : w.heap.size < w1.heap.size := by omega
      go_wp2_with fail
      refine bodyPost_ret (v := .agg #[.int .i64 3, .slice none 0 0]) (by simp [results,Tryz.results63,go_sem,hl1,set2_0 (Option.isSome_iff_exists.2 ⟨_,t0⟩),set2_1 (Option.isSome_iff_exists.2 ⟨_,t1⟩)]) rfl ⟨.slice none 0 0,by rw [hc],by rw [snapR_no (by rw [hc]; decide)]; exact Row.no _ _,?_⟩
      have HB2 := HB1.out
      (repeat (first|exact Qr _ _|assumption|refine Qd ?_|refine Qa ?_ _|refine Qt ?_|refine Qs ?_ _|refine Qo ?_ ?_ _ _))
     ·have hv : snapV (X k) (Y k) z = .agg #[.int .i64 0, .int .i64 (snapI z (X k)), .int .i64 (snapI z (Y k))] := by simp [snapV,h,hq]
      rw [hv]
      have HAL1 : Hid (∀ j,j < k + 1 → inW (X j) (Y j) = true) := fun j hj => by
       by_cases e : j = k
       ·rw [e]; exact hq
       ·exact HALL.out j (by omega)
      clear hv
      obtain ⟨a5,c5,hu5,_,_⟩ := HO1.out.own
      have hlen := snapL_len X Y z k
      obtain ⟨L,HL⟩ : ∃ L,Hid ((snapL X Y z k).length = L) := ⟨_,rfl⟩
      rw [HL.out] at hu5 hlen
      subst hu5
      go_wp2_with fail
      generalize hV : (w1.alloc _ : World) = V
      have hbV : Below w1.heap.size w1 V := by subst hV; (repeat (first|exact Qr _ _|assumption|refine Qd ?_|refine Qa ?_ _|refine Qt ?_|refine Qs ?_ _|refine Qo ?_ ?_ _ _))
      have d0 : ∀ W',Below V.heap.size V W' → W'.cell? ⟨w1.heap.size,1,none⟩ = some (.int .i64 (snapI z (X k))) := fun W' h => by
       rw [h.cell (by subst hV; simp)]; subst hV; simp [go_sem]
      have d1 : ∀ W',Below V.heap.size V W' → W'.cell? ⟨w1.heap.size,2,none⟩ = some (.int .i64 (snapI z (Y k))) := fun W' h => by
       rw [h.cell (by subst hV; simp)]; subst hV; simp [go_sem]
      clear hV
      have HO2 : Hid (Row W.heap.size V (.slice a5 L c5) (snapL X Y z k)) := HO1.out.below hbV
      have HB2 : Hid (Below W.heap.size W V) := bl_then HBW1.out hbV
      clear HO1 hbV HBW1
      have hrV : Below V.heap.size V V := Below.refl _ _
      go_cut [46] (fun t wc => Below V.heap.size V wc ∧ t = .bool (decide ¬ ((snapL X Y z k).getLast? = some (snapI z (X k),snapI z (Y k)))))
      case first =>
       by_cases h0 : L = 0
       ·have hnil : snapL X Y z k = [] := List.length_eq_zero_iff.1 (by rw [HL.out]; exact h0)
        subst h0
        have HN : Hid (snapL X Y z k = []) := hnil
        clear hnil hlen
        refine wp_region_noPanic ?_
        refine wp_region_held_drew (S := fun W' => Below V.heap.size V W') (by kernel_rfl) (by (repeat (first | exact Below.refl _ _ | assumption | refine Below.drew ?_ | refine bl_alloc ?_ _ | refine bl_then ?_ (by assumption)))) (fun hHeld => ?_)
        refine takeK (i := 0) (d := some 35) (v := ?v0) rfl rfl (Or.inl ⟨by rfl,?hy0⟩) (by assumption) ?_
        case hy0 => (intro w hSw; (try dsimp only at hSw); go_simp <;> with_reducible rfl)
        simp only [Act.put,Qx,Qy,Qz]
        refine takeK (i := 1) (d := some 36) (v := ?v1) rfl rfl (Or.inl ⟨by rfl,?hy1⟩) (by assumption) ?_
        case hy1 => (intro w hSw; (try dsimp only at hSw); go_simp <;> with_reducible rfl)
        simp only [Act.put,Qx,Qy,Qz]
        refine takeK (i := 2) (d := some 37) (v := ?v2) rfl rfl (Or.inl ⟨by rfl,?hy2⟩) (by assumption) ?_
        case hy2 => (intro w hSw; (try dsimp only at hSw); go_simp <;> with_reducible rfl)
        simp only [Act.put,Qx,Qy,Qz]
        refine passK (i := 3) (d := some 38) rfl rfl (by rfl) (by assumption) ?_
        simp only [Act.put,Qx,Qy,Qz]
        refine passK (i := 4) (d := some 39) rfl rfl (by rfl) (by assumption) ?_
        simp only [Act.put,Qx,Qy,Qz]
        refine passK (i := 5) (d := some 40) rfl rfl (by rfl) (by assumption) ?_
        simp only [Act.put,Qx,Qy,Qz]
        refine passK (i := 6) (d := some 41) rfl rfl (by rfl) (by assumption) ?_
        simp only [Act.put,Qx,Qy,Qz]
        refine passK (i := 7) (d := some 42) rfl rfl (by rfl) (by assumption) ?_
        simp only [Act.put,Qx,Qy,Qz]
        refine passK (i := 8) (d := some 43) rfl rfl (by rfl) (by assumption) ?_
        simp only [Act.put,Qx,Qy,Qz]
        refine passK (i := 9) (d := some 44) rfl rfl (by rfl) (by assumption) ?_
        simp only [Act.put,Qx,Qy,Qz]
        refine passK (i := 10) (d := some 45) rfl rfl (by rfl) (by assumption) ?_
        simp only [Act.put,Qx,Qy,Qz]
        refine takeK (i := 11) (d := some 46) (v := ?v11) rfl rfl (Or.inl ⟨by rfl,?hy11⟩) (by assumption) ?_
        case hy11 => (intro w hSw; (try dsimp only at hSw); go_simp <;> with_reducible rfl)
        simp only [Act.put,Qx,Qy,Qz]
        refine wpAnyH_done (by kernel_rfl) ?_ _
        refine NoPanic.normal ?_
        go_wp2_with fail
        go_meet
        case rel => exact ⟨by assumption,by rw [HN.out]; simp⟩
       ·obtain ⟨g,cap5,x,y,hu5,hg1,hg2,hc5,hlast,e0,e1⟩ := HO2.out.last (by rw [HL.out]; omega)
        rw [HL.out] at hu5 e0 e1
        injection hu5 with ha5 _ hc5'
        subst ha5 hc5'
        have HLA : Hid ((snapL X Y z k).getLast? = some (x,y)) := hlast
        clear hlast
        obtain ⟨M,hM1⟩ : ∃ M,M = L - 1 := ⟨L - 1,rfl⟩
        rw [← hM1] at e0 e1
        have hM : IntKind.i64.wrap ((L : Int) - 1) = (M : Int) := by
         have e : (L : Int) - 1 = (M : Int) := by omega
         rw [e]
         exact IntWalk.i64_in _ (by omega)
        have hMl : (M : Int) < (L : Int) := by omega
        have hM0 : (0 : Int) ≤ (M : Int) := by omega
        have hL0 : ((L : Int) == 0) = false := by simp; omega
        clear hM1 h0
        have g0 : ∀ W',Below V.heap.size V W' → W'.cell? ⟨g,M * 2,none⟩ = some (.int .i64 x) := fun W' h => bl_cell h e0
        have g1 : ∀ W',Below V.heap.size V W' → W'.cell? ⟨g,M * 2 + 1,none⟩ = some (.int .i64 y) := fun W' h => bl_cell h e1
        clear e0 e1
        by_cases he : x = snapI z (X k)
        ·by_cases he2 : y = snapI z (Y k)
         ·subst he he2
          go_region_held3 (fun W' => Below V.heap.size V W') ((repeat (first|exact Qr _ _|assumption|refine Qd ?_|refine Qa ?_ _|refine Qt ?_|refine Qs ?_ _|refine Qo ?_ ?_ _ _))) (fail)
          go_wp2_with fail
          go_meet
          case rel => exact ⟨by assumption,by rw [HLA.out]; simp⟩
         ·subst he
          have he3 : (y == snapI z (Y k)) = false := by simpa using he2
          go_region_held3 (fun W' => Below V.heap.size V W') ((repeat (first|exact Qr _ _|assumption|refine Qd ?_|refine Qa ?_ _|refine Qt ?_|refine Qs ?_ _|refine Qo ?_ ?_ _ _))) (fail)
          go_wp2_with fail
          go_meet
          case rel => exact ⟨by assumption,by rw [HLA.out]; simp [he2]⟩
        ·have he3 : (x == snapI z (X k)) = false := by simpa using he
         go_region_held3 (fun W' => Below V.heap.size V W') ((repeat (first|exact Qr _ _|assumption|refine Qd ?_|refine Qa ?_ _|refine Qt ?_|refine Qs ?_ _|refine Qo ?_ ?_ _ _))) (fail)
         go_wp2_with fail
         go_meet
         case rel => exact ⟨by assumption,by rw [HLA.out]; simp [he]⟩
      case rest =>
       obtain ⟨hBc,rfl⟩ := hcut
       have q0 := d0 _ hBc
       have q1 := d1 _ hBc
       have HOc : Hid (Row W.heap.size wc (.slice a5 L c5) (snapL X Y z k)) := HO2.out.below hBc
       have HBc : Hid (Below W.heap.size W wc) := bl_then HB2.out hBc
       have hszc : W.heap.size ≤ wc.heap.size := HBc.out.size
       have hw1 := World.block_lt_of_cell? _ _ q0
       clear d0 d1 HO2 HB2 hBc hrV
       by_cases hlast : (snapL X Y z k).getLast? = some (snapI z (X k),snapI z (Y k))
       ·have hs : snapL X Y z (k + 1) = snapL X Y z k := by rw [snapL,if_pos hlast]
        have HS : Hid (snapL X Y z (k + 1) = snapL X Y z k) := hs
        have hdec : (decide ¬ ((snapL X Y z k).getLast? = some (snapI z (X k),snapI z (Y k)))) = false := by simp [hlast]
        rw [hdec]
        clear hs hdec hlast
        go_wp2_with fail
        go_roundw
        case rel => exact ⟨k + 1,by omega,by go_num,HAL1.out,by rw [HS.out]; exact HOc.out,HBc.out⟩
        case measure => simp [intOf]; omega
       ·have hs : snapL X Y z (k + 1) = snapL X Y z k ++ [(snapI z (X k),snapI z (Y k))] := by rw [snapL,if_neg hlast]
        have HS : Hid (snapL X Y z (k + 1) = snapL X Y z k ++ [(snapI z (X k),snapI z (Y k))]) := hs
        have hdec : (decide ¬ ((snapL X Y z k).getLast? = some (snapI z (X k),snapI z (Y k)))) = true := by simp [hlast]
        rw [hdec]
        clear hs hdec hlast
        go_wp2_with (first
         | (at_builtin; go_must (refine wpList_append_own _ rfl _ _ 37 rfl W.heap.size 67 i0 (.agg #[.int .i64 0, .int .i64 0]) 2 16 Tryz.underlying37 hi hz0 hz1 hz2 rfl (by decide) _ (snapL X Y z k).length (cellsL (snapL X Y z k)) rfl (World.ownsRow.alloc HOc.out _) ⟨wc.heap.size,0,none⟩ 1 1 [.int .i64 (snapI z (X k)), .int .i64 (snapI z (Y k))] rfl rfl ?c1 ?c2 ?c3 ?c4 ?c5 ?_)))
        case c2 => first | (intro u hu; simp at hu; rcases hu with rfl | rfl <;> rfl) | exact ⟨rfl,rfl⟩
        case c3 => have := HL.out; unfold maxLen; omega
        case c4 => have := HL.out; omega
        case c5 => first | omega | (simp; omega)
        intro v' w3 hown' hgrow hnil
        clear hnil
        have hBg : Below W.heap.size (wc.alloc (.cells #[.int .i64 (snapI z (X k)), .int .i64 (snapI z (Y k))] 67)) w3 := (Below.refl _ _).grown hgrow (by simp; omega) (fun k hk => (HOc.out.lt k hk).1)
        have hBa : Below W.heap.size wc (wc.alloc (.cells #[.int .i64 (snapI z (X k)), .int .i64 (snapI z (Y k))] 67)) := (Below.refl _ _).alloc hszc _
        have HB3 : Hid (Below W.heap.size W w3) := (HBc.out.trans hBa).trans hBg
        have HO3 : Hid (Row W.heap.size w3 v' (snapL X Y z (k + 1))) := by
         show Row _ _ _ _
         rw [HS.out]
         show World.ownsRow _ _ _ _ _ _ _
         rw [cellsL_add,List.length_append]
         exact hown'
        clear hown' hgrow hBg hBa
        go_wp2
        go_roundw
        case rel => exact ⟨k + 1,by omega,by go_num,HAL1.out,HO3.out,HB3.out⟩
        case measure => simp [intOf]; omega
    ·have hkn : k = n := by omega
     subst hkn
     have hc : snapC z k X Y = 0 := by simp [snapC,h,allIn_ok HALL.out]; omega
     have hcr : snapR z k X Y = snapL X Y z k := by simp [snapR,hc]
     have HC : Hid (snapC z k X Y = 0) := hc
     have HCR : Hid (snapR z k X Y = snapL X Y z k) := hcr
     clear hc hcr
     obtain ⟨av,cv,hv,_,_⟩ := HO.out.own
     generalize (snapL X Y z k).length = lv at hv
     subst hv
     have hT' := HTw.out
     have t0 := hT'.cell 0 (by omega)
     have t1 := hT'.cell 1 (by omega)
     have f0 := (hT' 0 (by omega)).2
     have f1 := (hT' 1 (by omega)).2
     clear hT'
     go_wp2_with fail
     refine bodyPost_ret (v := .agg #[.int .i64 0, .slice av lv cv]) (by simp [results,Tryz.results63,go_sem,set2_0 (Option.isSome_iff_exists.2 ⟨_,t0⟩),set2_1 (Option.isSome_iff_exists.2 ⟨_,t1⟩)]) rfl ⟨_,by rw [HC.out],?_,?_⟩
     ·rw [HCR.out]
      exact Row.set2 HO.out (by omega)
     ·have HB3 := HBw.out
      (repeat (first|exact Qr _ _|assumption|refine Qd ?_|refine Qa ?_ _|refine Qt ?_|refine Qs ?_ _|refine Qo ?_ ?_ _ _))
def dblL (X Y : Nat → Int) (n : Nat) : List (Int × Int) := (List.range n).map fun i => (2 * X i, 2 * Y i)
theorem dblL_len (X Y : Nat → Int) (n : Nat) : (dblL X Y n).length = n := by simp [dblL]
theorem dblL_add (X Y : Nat → Int) (k : Nat) : dblL X Y (k + 1) = dblL X Y k ++ [(2 * X k, 2 * Y k)] := by simp [dblL, List.range_succ]
theorem dblL_px (X Y : Nat → Int) (n i : Nat) (h : i < n) : px (dblL X Y n) i = 2 * X i ∧ py (dblL X Y n) i = 2 * Y i := by
  simp [px, py, dblL, List.getD_eq_getElem?_getD, h]
theorem l4Doubled_any (b off n cap : Nat) (X Y : Nat → Int) (w : World) (hp : PtsAt w b off n X Y) (hbl : b < w.heap.size) (hn : n ≤ 40) (hin : ∀ i, i < n → inW (X i) (Y i) = true) :
    Calls Tryz.prog 96 #[.slice (some ⟨b, off, none⟩) n cap] w fun e w' => ∃ v, e = .returned v ∧ Row w.heap.size w' v (dblL X Y n) ∧ Below w.heap.size w w' := by
  obtain ⟨i0, hi, hz0, hz1, hz2⟩ := info_parts info_pt
  have HP : Hid (PtsAt w b off n X Y) := hp
  have HIN : Hid (∀ i, i < n → inW (X i) (Y i) = true) := hin
  clear hp hin
  go_enter Tryz.func96, Tryz.ntmps96
  go_wp2_with fail
  generalize hW : (w.alloc _ : World) = W
  have hB0 : Below w.heap.size w W := by subst hW; (repeat (first|exact Qr _ _|assumption|refine Qd ?_|refine Qa ?_ _|refine Qt ?_|refine Qs ?_ _|refine Qo ?_ ?_ _ _))
  have hO0 : W.ownsRow w.heap.size 67 2 (.slice (some ⟨w.heap.size, 0, none⟩) 0 0) 0 [] := by
    subst hW
    exact World.ownsRow_lit (base := w.heap.size) w #[] 0 (Nat.le_refl _) (Nat.zero_le _) rfl
  clear hW
  have HB0 : Hid (Below w.heap.size w W) := hB0
  have HO0 : Hid (Row w.heap.size W (.slice (some ⟨w.heap.size, 0, none⟩) 0 0) []) := hO0
  clear hB0 hO0
  go_loopw [3, 4] (fun v i wr => ∃ k : Nat, k ≤ n ∧ i = .int .i64 (k : Int) ∧ Row w.heap.size wr v (dblL X Y k) ∧ Below w.heap.size w wr) (fun _ i _ => n - (intOf i).toNat)
  case atStart => exact ⟨0, by omega, rfl, HO0.out, HB0.out⟩
  case round =>
    obtain ⟨k, hk, rfl, hO, hB⟩ := hrel
    by_cases hlt : k < n
    · obtain ⟨hx, hy⟩ := (HP.out.below hB hbl) k hlt
      obtain ⟨⟨x0, x1⟩, y0, y1⟩ := inW_bd (HIN.out k hlt)
      have HB : Hid (Below w.heap.size w wr) := hB
      have HO : Hid (Row w.heap.size wr u3 (dblL X Y k)) := hO
      have hbw : b < wr.heap.size := Nat.lt_of_lt_of_le hbl hB.size
      have hszc : w.heap.size ≤ wr.heap.size := hB.size
      have HLEN : Hid ((dblL X Y k).length = k) := dblL_len X Y k
      have HS : Hid (dblL X Y (k + 1) = dblL X Y k ++ [(2 * X k, 2 * Y k)]) := dblL_add X Y k
      clear hO hB
      have hi' : (k : Int) < (n : Int) := by omega
      have wx : IntKind.i64.wrap (2 * X k) = 2 * X k := IntWalk.i64_in _ (by omega)
      have wy : IntKind.i64.wrap (2 * Y k) = 2 * Y k := IntWalk.i64_in _ (by omega)
      go_wp2_with fail
      go_region_law (refine step_append_own rfl (.tmp 12) (.tmp 26) 37 rfl w.heap.size 67 i0 (.agg #[.int .i64 0, .int .i64 0]) 2 16 Tryz.underlying37 hi hz0 hz1 hz2 rfl (by decide) u3 (dblL X Y k).length (cellsL (dblL X Y k)) rfl ?own ⟨wr.heap.size, 0, none⟩ 1 1 [.int .i64 (2 * X k), .int .i64 (2 * Y k)] rfl rfl ?c1 ?c2 ?c3 ?c4 ?c5 ?_
                     case own => exact World.ownsRow.alloc HO.out _
                     case c1 =>
                       intro q u hq
                       match q, hq with
                       | 0, hq => simp at hq; subst hq; simp [Addr.add, go_sem]
                       | 1, hq => simp at hq; subst hq; simp [Addr.add, go_sem]
                       | q + 2, hq => simp at hq
                     case c2 => intro u hu; simp at hu; rcases hu with rfl | rfl <;> rfl
                     case c3 => have := HLEN.out; unfold maxLen; omega
                     case c4 => have := HLEN.out; omega
                     case c5 => first | omega | (simp; omega)
                     intro v' w3 hown' hgrow hnil
                     clear hnil
                     have hBV : Below wr.heap.size wr (World.alloc (World.drew wr) (.cells #[.int .i64 (2 * X k), .int .i64 (2 * Y k)] 67)) := by (repeat (first|exact Qr _ _|assumption|refine Qd ?_|refine Qa ?_ _|refine Qt ?_|refine Qs ?_ _|refine Qo ?_ ?_ _ _))
                     have hBg : Below w.heap.size (World.alloc (World.drew wr) (.cells #[.int .i64 (2 * X k), .int .i64 (2 * Y k)] 67)) w3 := (Below.refl _ _).grown hgrow (by have := hBV.size; omega) (fun k hk => (HO.out.lt k hk).1)
                     have HB3 : Hid (Below w.heap.size w w3) := (HB.out.trans (hBV.mono hszc)).trans hBg
                     have HO3 : Hid (Row w.heap.size w3 v' (dblL X Y (k + 1))) := (by
                       show Row _ _ _ _
                       rw [HS.out]
                       show World.ownsRow _ _ _ _ _ _ _
                       rw [cellsL_add, List.length_append]
                       exact hown')
                     clear hown' hgrow hBg hBV)
      all_goals
        go_wp2_with fail
        go_roundw
        case rel => exact ⟨k + 1, by omega, by go_num, HO3.out, HB3.out⟩
        case measure => simp [intOf]; omega
    · go_wp2
      go_ret
      have hkn : k = n := by omega
      subst hkn
      exact ⟨_, rfl, hO, hB⟩
theorem doubled_any (b off n cap : Nat) (X Y : Nat → Int) (w : World) (hp : PtsAt w b off n X Y) (hbl : b < w.heap.size) (hn : n ≤ 40) (hin : ∀ i, i < n → inW (X i) (Y i) = true) :
    Calls Tryz.prog 74 #[.slice (some ⟨b, off, none⟩) n cap] w fun e w' => ∃ v, e = .returned v ∧ Row w.heap.size w' v (dblL X Y n) ∧ Below w.heap.size w w' := by
  obtain ⟨i0, hi, hz0, hz1, hz2⟩ := info_parts info_pt
  have HP : Hid (PtsAt w b off n X Y) := hp
  have HIN : Hid (∀ i, i < n → inW (X i) (Y i) = true) := hin
  clear hp hin
  go_enter Tryz.func74, Tryz.ntmps74
  go_wp2_with fail
  go_loopw [3, 8] (fun v i wr => ∃ k : Nat, k ≤ n ∧ i = .int .i64 (k : Int) ∧ Row w.heap.size wr v (dblL X Y k) ∧ Below w.heap.size w wr) (fun _ i _ => n - (intOf i).toNat)
  case atStart => exact ⟨0, by omega, rfl, Row.no _ _, Below.refl _ _⟩
  case round =>
    obtain ⟨k, hk, rfl, hO, hB⟩ := hrel
    by_cases hlt : k < n
    · obtain ⟨hx, hy⟩ := (HP.out.below hB hbl) k hlt
      obtain ⟨⟨x0, x1⟩, y0, y1⟩ := inW_bd (HIN.out k hlt)
      have HB : Hid (Below w.heap.size w wr) := hB
      have HO : Hid (Row w.heap.size wr u3 (dblL X Y k)) := hO
      have hbw : b < wr.heap.size := Nat.lt_of_lt_of_le hbl hB.size
      have hszc : w.heap.size ≤ wr.heap.size := hB.size
      have HLEN : Hid ((dblL X Y k).length = k) := dblL_len X Y k
      have HS : Hid (dblL X Y (k + 1) = dblL X Y k ++ [(2 * X k, 2 * Y k)]) := dblL_add X Y k
      clear hO hB
      have hi' : (k : Int) < (n : Int) := by omega
      go_wp2_with (first
        | (at_builtin; go_must (refine wpList_append_own _ rfl _ _ 37 rfl w.heap.size 67 i0 (.agg #[.int .i64 0, .int .i64 0]) 2 16 Tryz.underlying37 hi hz0 hz1 hz2 rfl (by decide) _ (dblL X Y k).length (cellsL (dblL X Y k)) rfl (World.ownsRow.alloc (World.ownsRow.alloc HO.out _) _) ⟨wr.heap.size + 1, 0, none⟩ 1 1 [.int .i64 (2 * X k), .int .i64 (2 * Y k)] rfl rfl ?c1 ?c2 ?c3 ?c4 ?c5 ?_)))
      try (case c1 =>
        intro q u hq
        match q, hq with
        | 0, hq => simp at hq; subst hq; simp [Addr.add, go_sem]
        | 1, hq => simp at hq; subst hq; simp [Addr.add, go_sem]
        | q + 2, hq => simp at hq)
      case c2 => first | (intro u hu; simp at hu; rcases hu with rfl | rfl <;> rfl) | exact ⟨rfl, rfl⟩
      case c3 => have := HLEN.out; unfold maxLen; omega
      case c4 => have := HLEN.out; omega
      case c5 => first | omega | (simp; omega)
      intro v' w3 hown' hgrow hnil
      clear hnil
      generalize hV : ((wr.alloc _).alloc _ : World) = V at hgrow
      have hBV : Below wr.heap.size wr V := by subst hV; (repeat (first|exact Qr _ _|assumption|refine Qd ?_|refine Qa ?_ _|refine Qt ?_|refine Qs ?_ _|refine Qo ?_ ?_ _ _))
      have hBg : Below w.heap.size V w3 := (Below.refl _ _).grown hgrow (by have := hBV.size; omega) (fun k hk => (HO.out.lt k hk).1)
      have HB3 : Hid (Below w.heap.size w w3) := (HB.out.trans (hBV.mono hszc)).trans hBg
      have HO3 : Hid (Row w.heap.size w3 v' (dblL X Y (k + 1))) := by
        show Row _ _ _ _
        rw [HS.out]
        show World.ownsRow _ _ _ _ _ _ _
        rw [cellsL_add, List.length_append]
        exact hown'
      clear hown' hgrow hBg hBV hV
      go_wp2
      go_roundw
      case rel => exact ⟨k + 1, by omega, by go_num, HO3.out, HB3.out⟩
      case measure => simp [intOf]; omega
    · go_wp2
      go_ret
      have hkn : k = n := by omega
      subst hkn
      exact ⟨_, rfl, hO, hB⟩
def prevI (n k : Nat) : Nat := if k = 0 then n - 1 else k - 1
def sideTo (px py : Int) (n : Nat) (X Y : Nat → Int) (i : Nat) : Bool := sideB px py (X (prevI n i)) (Y (prevI n i)) (X i) (Y i)
theorem odd_same (px py : Int) (n : Nat) (X Y : Nat → Int) (hn : 0 < n) : oddTo (sideTo px py n X Y) n = oddTo (sideAt px py n X Y) n := by
 refine oddTo_turn _ _ n ?_ (fun i hi => ?_) hn
 ·have e : n - 1 + 1 = n := by omega
  simp [sideTo,sideAt,prevI,e,Nat.mod_self]
 ·simp [sideTo,sideAt,prevI,Nat.mod_eq_of_lt hi]
theorem impl_IsInside_few (px py : Int) (a : Option Addr) (n cap : Nat) (X Y : Nat → Int) (w : World) (hn : n < 3) :
  Calls Tryz.prog 149 #[.agg #[.int .i64 px, .int .i64 py], .slice a n cap] w fun e w' => e = .returned (.bool (insideB px py n X Y)) ∧ Below w.heap.size w w' := by
 have HE : Hid (insideB px py n X Y = false) := by
  show _ = _
  have : ¬ 3 ≤ n := by omega
  simp [insideB,this]
 have hni : (n : Int) < 3 := by omega
 go_enter Tryz.func149,Tryz.ntmps149
 go_wp2
 go_ret
 exact ⟨ret_bool HE.out.symm,by (repeat (first|exact Qr _ _|assumption|refine Qd ?_|refine Qa ?_ _|refine Qt ?_|refine Qs ?_ _|refine Qo ?_ ?_ _ _))⟩
theorem impl_IsInside_many (px py : Int) (a : Option Addr) (n cap : Nat) (X Y : Nat → Int) (w : World) (hn : 40 < n) (hmax : n ≤ 1048576) :
  Calls Tryz.prog 149 #[.agg #[.int .i64 px, .int .i64 py], .slice a n cap] w fun e w' => e = .returned (.bool (insideB px py n X Y)) ∧ Below w.heap.size w w' := by
 have HE : Hid (insideB px py n X Y = false) := by
  show _ = _
  have : ¬ n ≤ 40 := by omega
  simp [insideB,this]
 have hni : (40 : Int) < (n : Int) := by omega
 have hn3 : decide ((n : Int) < 3) = false := by simp; omega
 go_enter Tryz.func149,Tryz.ntmps149
 go_wp2
 go_ret
 exact ⟨ret_bool HE.out.symm,by (repeat (first|exact Qr _ _|assumption|refine Qd ?_|refine Qa ?_ _|refine Qt ?_|refine Qs ?_ _|refine Qo ?_ ?_ _ _))⟩
theorem impl_IsInside_p (px py : Int) (b n cap : Nat) (X Y : Nat → Int) (w : World) (hp : okP px py = false) (h3 : 3 ≤ n) (h40 : n ≤ 40) :
  Calls Tryz.prog 149 #[.agg #[.int .i64 px, .int .i64 py], .slice (some ⟨b,0,none⟩) n cap] w fun e w' => e = .returned (.bool (insideB px py n X Y)) ∧ Below w.heap.size w w' := by
 have HE : Hid (insideB px py n X Y = false) := by show _ = _; simp [insideB,hp]
 have k1 := codeP_no hp
 have hn3 : decide ((n : Int) < 3) = false := by simp; omega
 have hn40 : decide ((40 : Int) < (n : Int)) = false := by simp; omega
 clear hp
 go_enter Tryz.func149,Tryz.ntmps149
 go_wp2_with (go_at_call 141; refine (PointFault_any _ _ _).mono ?_; rintro e w' ⟨rfl,hb⟩)
 go_ret
 exact ⟨ret_bool HE.out.symm,by (repeat (first|exact Qr _ _|assumption|refine Qd ?_|refine Qa ?_ _|refine Qt ?_|refine Qs ?_ _|refine Qo ?_ ?_ _ _))⟩
theorem impl_IsInside_bad (px py : Int) (b n cap : Nat) (X Y : Nat → Int) (w : World) (hp : okP px py = true) (hpt : PtsAt w b 0 n X Y) (hbl : b < w.heap.size) (hcap : n ≤ cap) (h3 : 3 ≤ n) (h40 : n ≤ 40) (hall : allOk n X Y = false) :
  Calls Tryz.prog 149 #[.agg #[.int .i64 px, .int .i64 py], .slice (some ⟨b,0,none⟩) n cap] w fun e w' => e = .returned (.bool (insideB px py n X Y)) ∧ Below w.heap.size w w' := by
 have HE : Hid (insideB px py n X Y = false) := by show _ = _; simp [insideB,hall]
 have hN : codeN n X Y = 3 := by simp [codeN,hall]
 have HQ : Hid (PtsAt w b 0 n X Y) := hpt
 have k1 := codeP_ok hp
 have hn3 : decide ((n : Int) < 3) = false := by simp; omega
 have hn40 : decide ((40 : Int) < (n : Int)) = false := by simp; omega
 clear hp hpt hall
 go_enter Tryz.func149,Tryz.ntmps149
 go_wp2_with fail
 refine (PointFault_any _ _ _).mono ?_
 rintro e w1 ⟨rfl,hb1⟩
 have hB1 : Below w.heap.size w w1 := by (repeat (first|exact Qr _ _|assumption|refine Qd ?_|refine Qa ?_ _|refine Qt ?_|refine Qs ?_ _|refine Qo ?_ ?_ _ _))
 have HQ1 : Hid (PtsAt w1 b 0 n X Y) := HQ.out.below hB1 hbl
 have hbl1 : b < w1.heap.size := Nat.lt_of_lt_of_le hbl hB1.size
 have HB1 : Hid (Below w.heap.size w w1) := hB1
 clear hB1 hb1
 go_wp2_with (go_at_call 105; refine (faultIn_any _ _ _ _ X Y _ HQ1.out hbl1 hcap (by omega)).mono ?_; rintro e w2 ⟨rfl,hb2⟩)
 go_ret
 exact ⟨ret_bool HE.out.symm,bl_then HB1.out hb2⟩
theorem impl_IsInside_ring (px py : Int) (b n cap : Nat) (X Y : Nat → Int) (w : World) (hp : okP px py = true) (hpt : PtsAt w b 0 n X Y) (hbl : b < w.heap.size) (hcap : n ≤ cap) (h3 : 3 ≤ n) (h40 : n ≤ 40) (hall : allOk n X Y = true) :
  Calls Tryz.prog 149 #[.agg #[.int .i64 px, .int .i64 py], .slice (some ⟨b,0,none⟩) n cap] w fun e w' => e = .returned (.bool (insideB px py n X Y)) ∧ Below w.heap.size w w' := by
 have HE : Hid (insideB px py n X Y = oddTo (sideTo px py n X Y) n) := by
  show _ = _
  rw [odd_same px py n X Y (by omega)]
  simp [insideB,hall,hp,h3,h40]
 have hN : codeN n X Y = 0 := by simp [codeN,hall]
 have HP : Hid (okP px py = true) := hp
 have HQ : Hid (PtsAt w b 0 n X Y) := hpt
 have HO : Hid (∀ i,i < n → okP (X i) (Y i) = true) := by
  show ∀ i,i < n → okP (X i) (Y i) = true
  exact of_decide_eq_true hall
 have k1 := codeP_ok hp
 have hn3 : decide ((n : Int) < 3) = false := by simp; omega
 have hn40 : decide ((40 : Int) < (n : Int)) = false := by simp; omega
 clear hp hpt hall
 go_enter Tryz.func149,Tryz.ntmps149
 go_wp2_with fail
 generalize hW : (w.alloc _ : World) = W
 have hB0 : Below w.heap.size w W := by subst hW; (repeat (first|exact Qr _ _|assumption|refine Qd ?_|refine Qa ?_ _|refine Qt ?_|refine Qs ?_ _|refine Qo ?_ ?_ _ _))
 have c00 : ∀ W',Below W.heap.size W W' → W'.cell? ⟨w.heap.size,0,none⟩ = some (.int .i64 px) := fun W' h => by
  rw [h.cell (by subst hW; simp <;> omega)]; subst hW; simp [go_sem]
 have c01 : ∀ W',Below W.heap.size W W' → W'.cell? ⟨w.heap.size,1,none⟩ = some (.int .i64 py) := fun W' h => by
  rw [h.cell (by subst hW; simp <;> omega)]; subst hW; simp [go_sem]
 clear hW
 have HB0 : Hid (Below w.heap.size w W) := hB0
 have HQ1 : Hid (PtsAt W b 0 n X Y) := HQ.out.below hB0 hbl
 have hblW : b < W.heap.size := Nat.lt_of_lt_of_le hbl hB0.size
 clear hB0 HQ hbl
 refine (PointFault_any _ _ _).mono ?_
 rintro e w1 ⟨rfl,hb1⟩
 have HQ2 : Hid (PtsAt w1 b 0 n X Y) := HQ1.out.below hb1 hblW
 have hbl1 : b < w1.heap.size := Nat.lt_of_lt_of_le hblW hb1.size
 go_wp2_with fail
 refine (faultIn_any _ _ _ _ X Y _ HQ2.out hbl1 hcap (by omega)).mono ?_
 rintro e w2 ⟨rfl,hb2⟩
 have hB2 : Below W.heap.size W w2 := bl_then hb1 hb2
 have hwr : IntKind.i64.wrap ((n : Int) - 1) = (n : Int) - 1 := IntWalk.i64_in _ (by omega)
 have hi1 : (0 : Int) ≤ (n : Int) - 1 := by omega
 have hi2 : (n : Int) - 1 < (n : Int) := by omega
 have hti : ((n : Int) - 1).toNat = n - 1 := by omega
 obtain ⟨hx,hy⟩ := (HQ1.out.below hB2 hblW) (n - 1) (by omega)
 simp only [Nat.zero_add] at hx hy
 clear hb1 hb2 HQ2
 go_wp2_with fail
 refine (pairOf_any _ _ _).mono ?_
 rintro e w3 ⟨rfl,hb3⟩
 have hB3 : Below W.heap.size W w3 := bl_then hB2 hb3
 clear hx hy hB2 hb3
 have HQ3 : Hid (PtsAt w3 b 0 n X Y) := HQ1.out.below hB3 hblW
 have hbl3 : b < w3.heap.size := Nat.lt_of_lt_of_le hblW hB3.size
 replace c00 := fun W' (h : Below w3.heap.size w3 W') => c00 W' (bl_then hB3 h)
 replace c01 := fun W' (h : Below w3.heap.size w3 W') => c01 W' (bl_then hB3 h)
 have HB3 : Hid (Below w.heap.size w w3) := bl_then HB0.out hB3
 clear hB3 HB0 HQ1 hblW hbl1 hwr hi1 hi2 hti hN k1
 go_wp2
 go_loopw [5,35] (fun q i wr => ∃ k : Nat,k ≤ n ∧ i = .int .i64 k ∧ q = .bool (oddTo (sideTo px py n X Y) k) ∧ Below w3.heap.size w3 wr ∧ wr.cell? ⟨w3.heap.size,0,none⟩ = some (.int .i64 (X (prevI n k))) ∧ wr.cell? ⟨w3.heap.size,1,none⟩ = some (.int .i64 (Y (prevI n k))) ∧ wr.frozen? ⟨w3.heap.size,0,none⟩ = false ∧ wr.frozen? ⟨w3.heap.size,1,none⟩ = false) (fun _ i _ => n - (intOf i).toNat)
 case atStart => exact ⟨0,by omega,rfl,rfl,by (repeat (first|exact Qr _ _|assumption|refine Qd ?_|refine Qa ?_ _|refine Qt ?_|refine Qs ?_ _|refine Qo ?_ ?_ _ _)),by simp [go_sem,prevI],by simp [go_sem,prevI],by simp [go_sem],by simp [go_sem]⟩
 case round =>
  obtain ⟨k,hk,rfl,rfl,hB,f0,f1,z0,z1⟩ := hrel
  by_cases hlt : k < n
  ·obtain ⟨hx,hy⟩ := (HQ3.out.below hB hbl3) k hlt
   simp only [Nat.zero_add] at hx hy
   have hFl : w3.heap.size < wr.heap.size := World.block_lt_of_cell? _ _ f0
   have HK1 : Hid (okP (X (prevI n k)) (Y (prevI n k)) = true) := HO.out _ (by unfold prevI; split <;> omega)
   have HK2 : Hid (okP (X k) (Y k) = true) := HO.out k hlt
   have hodd : Hid (oddTo (sideTo px py n X Y) (k + 1) = if sideTo px py n X Y k = true then !(oddTo (sideTo px py n X Y) k) else oddTo (sideTo px py n X Y) k) := rfl
   have HS : Hid (sideTo px py n X Y k = sideB px py (X (prevI n k)) (Y (prevI n k)) (X k) (Y k)) := rfl
   have hprev : prevI n (k + 1) = k := by simp [prevI]
   have HV : Hid (prevI n (k + 1) = k) := hprev
   clear hprev
   have hi : (k : Int) < (n : Int) := by omega
   generalize hXp : X (prevI n k) = xp at *
   generalize hYp : Y (prevI n k) = yp at *
   clear hXp hYp
   have F0 : Hid (wr.cell? ⟨w3.heap.size,0,none⟩ = some (.int .i64 xp)) := f0
   have F1 : Hid (wr.cell? ⟨w3.heap.size,1,none⟩ = some (.int .i64 yp)) := f1
   have Z0 : Hid (wr.frozen? ⟨w3.heap.size,0,none⟩ = false) := z0
   have Z1 : Hid (wr.frozen? ⟨w3.heap.size,1,none⟩ = false) := z1
   have HB : Hid (Below w3.heap.size w3 wr) := hB
   clear f0 f1 z0 z1 hB
   go_wp2_with fail
   refine (pairOf_any _ _ _).mono ?_
   rintro e w4 ⟨rfl,hb4⟩
   have hB4 : Below wr.heap.size wr w4 := by (repeat (first|exact Qr _ _|assumption|refine Qd ?_|refine Qa ?_ _|refine Qt ?_|refine Qs ?_ _|refine Qo ?_ ?_ _ _))
   clear hb4 hx hy
   go_wp2
   generalize hV : (w4.alloc _ : World) = V
   have hBV : Below wr.heap.size wr V := by subst hV; (repeat (first|exact Qr _ _|assumption|refine Qd ?_|refine Qa ?_ _|refine Qt ?_|refine Qs ?_ _|refine Qo ?_ ?_ _ _))
   have t0 : ∀ W',Below V.heap.size V W' → W'.cell? ⟨w4.heap.size,0,none⟩ = some (.int .i64 (X k)) := fun W' h => by
    rw [h.cell (by subst hV; simp)]; subst hV; simp [go_sem]
   have t1 : ∀ W',Below V.heap.size V W' → W'.cell? ⟨w4.heap.size,1,none⟩ = some (.int .i64 (Y k)) := fun W' h => by
    rw [h.cell (by subst hV; simp)]; subst hV; simp [go_sem]
   have f0 : ∀ W',Below V.heap.size V W' → W'.cell? ⟨w3.heap.size,0,none⟩ = some (.int .i64 xp) := fun W' h => ((bl_then hBV h).cell (p := ⟨w3.heap.size,0,none⟩) hFl).trans F0.out
   have f1 : ∀ W',Below V.heap.size V W' → W'.cell? ⟨w3.heap.size,1,none⟩ = some (.int .i64 yp) := fun W' h => ((bl_then hBV h).cell (p := ⟨w3.heap.size,1,none⟩) hFl).trans F1.out
   have z0 : ∀ W',Below V.heap.size V W' → W'.frozen? ⟨w3.heap.size,0,none⟩ = false := fun W' h => ((bl_then hBV h).frozen (p := ⟨w3.heap.size,0,none⟩) hFl).trans Z0.out
   have z1 : ∀ W',Below V.heap.size V W' → W'.frozen? ⟨w3.heap.size,1,none⟩ = false := fun W' h => ((bl_then hBV h).frozen (p := ⟨w3.heap.size,1,none⟩) hFl).trans Z1.out
   have hBV3 : Below w3.heap.size w3 V := bl_then HB.out hBV
   replace c00 := fun W' (h : Below V.heap.size V W') => c00 W' (bl_then hBV3 h)
   replace c01 := fun W' (h : Below V.heap.size V W') => c01 W' (bl_then hBV3 h)
   have HBV3 : Hid (Below w3.heap.size w3 V) := hBV3
   clear hV hBV hBV3 hB4
   cases hsv : sideB px py xp yp (X k) (Y k)
   all_goals
    go_region_held3 (fun W' => Below V.heap.size V W') ((repeat (first|exact Qr _ _|assumption|refine Qd ?_|refine Qa ?_ _|refine Qt ?_|refine Qs ?_ _|refine Qo ?_ ?_ _ _)))
     (first
      | (go_at_call 158; refine (pairOf_any _ _ _).mono ?_; rintro e w' ⟨rfl,hb⟩)
      | (go_at_call 164; refine (isCrossed_any _ _ _ _ _ _ _ HP.out HK1.out HK2.out).mono ?_; rintro e w' ⟨rfl,hb⟩))
    rename_i hfin
    go_wp2
    go_roundw
    case rel =>
     refine ⟨k + 1,by omega,by go_num,congrArg Value.bool (by rw [hodd.out,HS.out,hsv]; rfl),?_,?_,?_,?_,?_⟩
     ·have hG := bl_then HBV3.out hfin
      exact (hG.setCell (Nat.le_refl _) _).setCell (Nat.le_refl _) _
     ·rw [HV.out]
      exact set2_0 (Option.isSome_iff_exists.2 ⟨_,f0 _ hfin⟩)
     ·rw [HV.out]
      exact set2_1 (Option.isSome_iff_exists.2 ⟨_,f1 _ hfin⟩)
     ·simp [World.frozen?_setCell,z0 _ hfin]
     ·simp [World.frozen?_setCell,z1 _ hfin]
    case measure => simp [intOf]; omega
  ·go_wp2
   go_ret
   have hkn : k = n := by omega
   subst hkn
   exact ⟨ret_bool HE.out.symm,bl_then HB3.out hB⟩
theorem impl_IsInside_any (px py : Int) (b n cap : Nat) (X Y : Nat → Int) (w : World) (hpt : PtsAt w b 0 n X Y) (hbl : b < w.heap.size) (hcap : n ≤ cap) (hmax : n ≤ 1048576) :
  Calls Tryz.prog 149 #[.agg #[.int .i64 px, .int .i64 py], .slice (some ⟨b,0,none⟩) n cap] w fun e w' => e = .returned (.bool (insideB px py n X Y)) ∧ Below w.heap.size w w' := by
 by_cases h3 : n < 3
 ·exact impl_IsInside_few _ _ _ _ _ _ _ _ h3
 by_cases h40 : 40 < n
 ·exact impl_IsInside_many _ _ _ _ _ _ _ _ h40 hmax
 cases hp : okP px py
 ·exact impl_IsInside_p _ _ _ _ _ _ _ _ hp (by omega) (by omega)
 cases ha : allOk n X Y
 ·exact impl_IsInside_bad _ _ _ _ _ _ _ _ hp hpt hbl hcap (by omega) (by omega) ha
 ·exact impl_IsInside_ring _ _ _ _ _ _ _ _ hp hpt hbl hcap (by omega) (by omega) ha
end Go.Proofs.YtfkonhagjahgnaaGreat
