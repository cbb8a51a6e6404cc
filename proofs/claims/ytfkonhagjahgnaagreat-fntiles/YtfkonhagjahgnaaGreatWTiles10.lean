/- Texts. -/
import Derived.Test.YtfkonhagjahgnaaGreatWTiles7
import Derived.Test.YtfkonhagjahgnaaGreatWTiles6
import Derived.OwnWalk
import Derived.Deep.DeepMust
import Derived.Deep.DeepCutAuto
import Derived.Test.YtfkonhagjahgnaaGreatWTiles1
import Derived.Test.YtfkonhagjahgnaaGreatWTiles2
import Derived.Test.YtfkonhagjahgnaaGreatWTiles3
import Derived.Test.YtfkonhagjahgnaaGreatWTiles8
set_option linter.unusedSimpArgs false
set_option linter.unusedVariables false
set_option maxRecDepth 100000
set_option maxHeartbeats 32000000
namespace Go.Proofs.YtfkonhagjahgnaaGreat
open Go.RowKit
def snapL (X Y : Nat → Int) (z : Int) : Nat → List (Int × Int)
 | 0 => []
 | k + 1 => if (snapL X Y z k).getLast? = some (snapI z (X k),snapI z (Y k)) then snapL X Y z k else snapL X Y z k ++ [(snapI z (X k),snapI z (Y k))]
theorem snapL_len (X Y : Nat → Int) (z : Int) : ∀ n,(snapL X Y z n).length ≤ n
 | 0 => Nat.le_refl _
 | k + 1 => by
  have := snapL_len X Y z k
  unfold snapL
  split
  ·omega
  ·simp; omega
theorem info_pt : (Tryz.prog.info? 67).map (fun i => (i.zero,i.size,i.bytes)) = some (some (.agg #[.int .i64 0, .int .i64 0]),2,16) := by kernel_rfl
theorem Row.last {base : Nat} {w : World} {v : Value} {l : List (Int × Int)} (h : Row base w v l) (hne : 0 < l.length) :
  ∃ g cap x y,v = .slice (some ⟨g,0,none⟩) l.length cap ∧ base ≤ g ∧ g < w.heap.size ∧ l.length ≤ cap ∧ l.getLast? = some (x,y) ∧ w.cell? ⟨g,(l.length - 1) * 2,none⟩ = some (.int .i64 x) ∧ w.cell? ⟨g,(l.length - 1) * 2 + 1,none⟩ = some (.int .i64 y) := by
 obtain ⟨a,cap,hv,hc,h0 | ⟨b,rfl,hb,hl,hp,ht⟩⟩ := h.own
 ·omega
 ·obtain ⟨e1,e2⟩ := hp (l.length - 1) (by omega)
  simp only [Nat.zero_add] at e1 e2
  refine ⟨b,cap,px l (l.length - 1),py l (l.length - 1),hv,hb,hl,hc,?_,e1,e2⟩
  rw [List.getLast?_eq_getElem?,List.getElem?_eq_getElem (by omega)]
  simp [px,py,List.getD_eq_getElem?_getD,List.getElem?_eq_getElem (show l.length - 1 < l.length by omega)]
set_option maxRecDepth 8000 in
theorem l3Snap_any (b off n cap : Nat) (X Y : Nat → Int) (z : Int) (w : World) (hp : PtsAt w b off n X Y) (hbl : b < w.heap.size) (hn : n ≤ 12) (hz : zoomB z = true) (hin : ∀ i,i < n → inW (X i) (Y i) = true) :
  Calls Tryz.prog 133 #[.slice (some ⟨b,off,none⟩) n cap, .int .i64 z] w fun e w' => ∃ v,e = .returned v ∧ Row w.heap.size w' v (snapL X Y z n) ∧ Below w.heap.size w w' := by
 obtain ⟨i0,hi,hz0,hz1,hz2⟩ := info_parts info_pt
 have HP : Hid (PtsAt w b off n X Y) := hp
 have HIN : Hid (∀ i,i < n → inW (X i) (Y i) = true) := hin
 clear hp hin
 go_enter Tryz.func133,Tryz.ntmps133
 go_wp2_with fail
 generalize hW : (w.alloc _ : World) = W
 have hB0 : Below w.heap.size w W := by subst hW; (repeat (first|exact Qr _ _|assumption|refine Qd ?_|refine Qa ?_ _|refine Qt ?_|refine Qs ?_ _|refine Qo ?_ ?_ _ _))
 have hO0 : W.ownsRow w.heap.size 67 2 (.slice (some ⟨w.heap.size,0,none⟩) 0 0) 0 [] := by
  subst hW
  exact World.ownsRow_lit (base := w.heap.size) w #[] 0 (Nat.le_refl _) (Nat.zero_le _) rfl
 clear hW
 have HB0 : Hid (Below w.heap.size w W) := hB0
 have HO0 : Hid (Row w.heap.size W (.slice (some ⟨w.heap.size,0,none⟩) 0 0) []) := hO0
 clear hB0 hO0
 go_loopw [5,6] (fun v i wr => ∃ k : Nat,k ≤ n ∧ i = .int .i64 (k : Int) ∧ Row w.heap.size wr v (snapL X Y z k) ∧ Below w.heap.size w wr) (fun _ i _ => n - (intOf i).toNat)
 case atStart => exact ⟨0,by omega,rfl,HO0.out,HB0.out⟩
 case round =>
  obtain ⟨k,hk,rfl,hO,hB⟩ := hrel
  by_cases hlt : k < n
  ·obtain ⟨hx,hy⟩ := (HP.out.below hB hbl) k hlt
   have HB : Hid (Below w.heap.size w wr) := hB
   have HO : Hid (Row w.heap.size wr u5 (snapL X Y z k)) := hO
   have hbw : b < wr.heap.size := Nat.lt_of_lt_of_le hbl hB.size
   clear hO hB
   have hi' : (k : Int) < (n : Int) := by omega
   go_wp2_with fail
   refine (l3Point_any _ _ _ _ hz (HIN.out k hlt)).mono ?_
   rintro e w1 ⟨rfl,hb1⟩
   have HO1 : Hid (Row w.heap.size w1 u5 (snapL X Y z k)) := HO.out.below hb1
   have HB1 : Hid (Below w.heap.size w w1) := bl_then HB.out hb1
   clear HO HB hb1 hx hy
   go_wp2_with fail
   generalize hV : (w1.alloc _ : World) = V
   have hbV : Below w1.heap.size w1 V := by subst hV; (repeat (first|exact Qr _ _|assumption|refine Qd ?_|refine Qa ?_ _|refine Qt ?_|refine Qs ?_ _|refine Qo ?_ ?_ _ _))
   have d0 : ∀ W',Below V.heap.size V W' → W'.cell? ⟨w1.heap.size,0,none⟩ = some (.int .i64 (snapI z (X k))) := fun W' h => by
    rw [h.cell (by subst hV; simp)]; subst hV; simp [go_sem]
   have d1 : ∀ W',Below V.heap.size V W' → W'.cell? ⟨w1.heap.size,1,none⟩ = some (.int .i64 (snapI z (Y k))) := fun W' h => by
    rw [h.cell (by subst hV; simp)]; subst hV; simp [go_sem]
   clear hV
   have HO2 : Hid (Row w.heap.size V u5 (snapL X Y z k)) := HO1.out.below hbV
   have HB2 : Hid (Below w.heap.size w V) := bl_then HB1.out hbV
   clear HO1 HB1 hbV
   have hlen := snapL_len X Y z k
   have hrV : Below V.heap.size V V := Below.refl _ _
   go_cut [33] (fun t wc => Below V.heap.size V wc ∧ t = .bool (decide ¬ ((snapL X Y z k).getLast? = some (snapI z (X k),snapI z (Y k)))))
   case first =>
    by_cases h0 : (snapL X Y z k).length = 0
    ·have hnil : snapL X Y z k = [] := List.length_eq_zero_iff.1 h0
     obtain ⟨a5,cap5,hu5,_,_⟩ := HO2.out.own
     rw [h0] at hu5
     subst hu5
     have HN : Hid (snapL X Y z k = []) := hnil
     clear hnil h0 hlen
     refine wp_region_noPanic ?_
     refine wp_region_held_drew (S := fun W' => Below V.heap.size V W') (by kernel_rfl) (by (repeat (first | exact Below.refl _ _ | assumption | refine Below.drew ?_ | refine bl_alloc ?_ _ | refine bl_then ?_ (by assumption)))) (fun hHeld => ?_)
     refine takeK (i := 0) (d := some 21) (v := ?v0) rfl rfl (Or.inl ⟨by rfl,?hy0⟩) (by assumption) ?_
     case hy0 => (intro w hSw; (try dsimp only at hSw); go_simp <;> with_reducible rfl)
     simp only [Act.put,Qx,Qy,Qz]
     refine takeK (i := 1) (d := some 22) (v := ?v1) rfl rfl (Or.inl ⟨by rfl,?hy1⟩) (by assumption) ?_
     case hy1 => (intro w hSw; (try dsimp only at hSw); go_simp <;> with_reducible rfl)
     simp only [Act.put,Qx,Qy,Qz]
     refine takeK (i := 2) (d := some 23) (v := ?v2) rfl rfl (Or.inl ⟨by rfl,?hy2⟩) (by assumption) ?_
     case hy2 => (intro w hSw; (try dsimp only at hSw); go_simp <;> with_reducible rfl)
     simp only [Act.put,Qx,Qy,Qz]
     refine takeK (i := 3) (d := some 24) (v := ?v3) rfl rfl (Or.inl ⟨by rfl,?hy3⟩) (by assumption) ?_
     case hy3 => (intro w hSw; (try dsimp only at hSw); go_simp <;> with_reducible rfl)
     simp only [Act.put,Qx,Qy,Qz]
     refine passK (i := 4) (d := some 25) rfl rfl (by rfl) (by assumption) ?_
     simp only [Act.put,Qx,Qy,Qz]
     refine passK (i := 5) (d := some 26) rfl rfl (by rfl) (by assumption) ?_
     simp only [Act.put,Qx,Qy,Qz]
     refine passK (i := 6) (d := some 27) rfl rfl (by rfl) (by assumption) ?_
     simp only [Act.put,Qx,Qy,Qz]
     refine passK (i := 7) (d := some 28) rfl rfl (by rfl) (by assumption) ?_
     simp only [Act.put,Qx,Qy,Qz]
     refine passK (i := 8) (d := some 29) rfl rfl (by rfl) (by assumption) ?_
     simp only [Act.put,Qx,Qy,Qz]
     refine passK (i := 9) (d := some 30) rfl rfl (by rfl) (by assumption) ?_
     simp only [Act.put,Qx,Qy,Qz]
     refine passK (i := 10) (d := some 31) rfl rfl (by rfl) (by assumption) ?_
     simp only [Act.put,Qx,Qy,Qz]
     refine passK (i := 11) (d := some 32) rfl rfl (by rfl) (by assumption) ?_
     simp only [Act.put,Qx,Qy,Qz]
     refine takeK (i := 12) (d := some 33) (v := ?v12) rfl rfl (Or.inl ⟨by rfl,?hy12⟩) (by assumption) ?_
     case hy12 => (intro w hSw; (try dsimp only at hSw); go_simp <;> with_reducible rfl)
     simp only [Act.put,Qx,Qy,Qz]
     refine wpAnyH_done (by kernel_rfl) ?_ _
     refine NoPanic.normal ?_
     go_wp2_with fail
     go_meet
     case rel => exact ⟨by assumption,by rw [HN.out]; simp⟩
    ·obtain ⟨g,cap5,x,y,hu5,hg1,hg2,hc5,hlast,e0,e1⟩ := HO2.out.last (by omega)
     have HLA : Hid ((snapL X Y z k).getLast? = some (x,y)) := hlast
     clear hlast
     generalize hL : (snapL X Y z k).length = L at *
     obtain ⟨M,hM1⟩ : ∃ M,M = L - 1 := ⟨L - 1,rfl⟩
     rw [← hM1] at e0 e1
     subst hu5
     have hM : IntKind.i64.wrap ((L : Int) - 1) = (M : Int) := by
      have e : (L : Int) - 1 = (M : Int) := by omega
      rw [e]
      exact IntWalk.i64_in _ (by omega)
     have hMl : (M : Int) < (L : Int) := by omega
     have hM0 : (0 : Int) ≤ (M : Int) := by omega
     have hL0 : ((L : Int) == 0) = false := by simp; omega
     clear hM1 hL h0
     have g0 : ∀ W',Below V.heap.size V W' → W'.cell? ⟨g,M * 2,none⟩ = some (.int .i64 x) := fun W' h => bl_cell h e0
     have g1 : ∀ W',Below V.heap.size V W' → W'.cell? ⟨g,M * 2 + 1,none⟩ = some (.int .i64 y) := fun W' h => bl_cell h e1
     clear e0 e1
     by_cases he : x = snapI z (X k)
     ·by_cases he2 : y = snapI z (Y k)
      ·subst he he2
       go_region_held3 (fun W' => Below V.heap.size V W') ((repeat (first|exact Qr _ _|assumption|refine Qd ?_|refine Qa ?_ _|refine Qt ?_|refine Qs ?_ _|refine Qo ?_ ?_ _ _))) (fail)
       go_wp2_with fail
       go_meet
       case rel => exact ⟨by assumption,by rw [HLA.out]; simp⟩
      ·subst he
       have he3 : (y == snapI z (Y k)) = false := by simpa using he2
       go_region_held3 (fun W' => Below V.heap.size V W') ((repeat (first|exact Qr _ _|assumption|refine Qd ?_|refine Qa ?_ _|refine Qt ?_|refine Qs ?_ _|refine Qo ?_ ?_ _ _))) (fail)
       go_wp2_with fail
       go_meet
       case rel => exact ⟨by assumption,by rw [HLA.out]; simp [he2]⟩
     ·have he3 : (x == snapI z (X k)) = false := by simpa using he
      go_region_held3 (fun W' => Below V.heap.size V W') ((repeat (first|exact Qr _ _|assumption|refine Qd ?_|refine Qa ?_ _|refine Qt ?_|refine Qs ?_ _|refine Qo ?_ ?_ _ _))) (fail)
      go_wp2_with fail
      go_meet
      case rel => exact ⟨by assumption,by rw [HLA.out]; simp [he]⟩
   case rest =>
    obtain ⟨hBc,rfl⟩ := hcut
    have q0 := d0 _ hBc
    have q1 := d1 _ hBc
    have HOc : Hid (Row w.heap.size wc u5 (snapL X Y z k)) := HO2.out.below hBc
    have HBc : Hid (Below w.heap.size w wc) := bl_then HB2.out hBc
    have hszc : w.heap.size ≤ wc.heap.size := HBc.out.size
    have hw1 := World.block_lt_of_cell? _ _ q0
    clear d0 d1 HO2 HB2 hBc hrV
    by_cases hlast : (snapL X Y z k).getLast? = some (snapI z (X k),snapI z (Y k))
    ·have hs : snapL X Y z (k + 1) = snapL X Y z k := by rw [snapL,if_pos hlast]
     have HS : Hid (snapL X Y z (k + 1) = snapL X Y z k) := hs
     have hdec : (decide ¬ ((snapL X Y z k).getLast? = some (snapI z (X k),snapI z (Y k)))) = false := by simp [hlast]
     rw [hdec]
     clear hs hdec hlast
     go_wp2_with fail
     go_roundw
     case rel => exact ⟨k + 1,by omega,by go_num,by rw [HS.out]; exact HOc.out,HBc.out⟩
     case measure => simp [intOf]; omega
    ·have hs : snapL X Y z (k + 1) = snapL X Y z k ++ [(snapI z (X k),snapI z (Y k))] := by rw [snapL,if_neg hlast]
     have HS : Hid (snapL X Y z (k + 1) = snapL X Y z k ++ [(snapI z (X k),snapI z (Y k))]) := hs
     have hdec : (decide ¬ ((snapL X Y z k).getLast? = some (snapI z (X k),snapI z (Y k)))) = true := by simp [hlast]
     rw [hdec]
     clear hs hdec hlast
     go_wp2_with (first
      | (at_builtin; go_must (refine wpList_append_own _ rfl _ _ 37 rfl w.heap.size 67 i0 (.agg #[.int .i64 0, .int .i64 0]) 2 16 Tryz.underlying37 hi hz0 hz1 hz2 rfl (by decide) _ (snapL X Y z k).length (cellsL (snapL X Y z k)) rfl (World.ownsRow.alloc HOc.out _) ⟨wc.heap.size,0,none⟩ 1 1 [.int .i64 (snapI z (X k)), .int .i64 (snapI z (Y k))] rfl rfl ?c1 ?c2 ?c3 ?c4 ?c5 ?_)))
     case c2 => first | (intro u hu; simp at hu; rcases hu with rfl | rfl <;> rfl) | exact ⟨rfl,rfl⟩
     case c3 => unfold maxLen; omega
     case c4 => omega
     case c5 => first | omega | (simp; omega)
     intro v' w3 hown' hgrow hnil
     clear hnil
     have hBg : Below w.heap.size (wc.alloc (.cells #[.int .i64 (snapI z (X k)), .int .i64 (snapI z (Y k))] 67)) w3 := (Below.refl _ _).grown hgrow (by simp; omega) (fun k hk => (HOc.out.lt k hk).1)
     have hBa : Below w.heap.size wc (wc.alloc (.cells #[.int .i64 (snapI z (X k)), .int .i64 (snapI z (Y k))] 67)) := (Below.refl _ _).alloc hszc _
     have HB3 : Hid (Below w.heap.size w w3) := (HBc.out.trans hBa).trans hBg
     have HO3 : Hid (Row w.heap.size w3 v' (snapL X Y z (k + 1))) := by
      show Row _ _ _ _
      rw [HS.out]
      show World.ownsRow _ _ _ _ _ _ _
      rw [cellsL_add,List.length_append]
      exact hown'
     clear hown' hgrow hBg hBa
     go_wp2
     go_roundw
     case rel => exact ⟨k + 1,by omega,by go_num,HO3.out,HB3.out⟩
     case measure => simp [intOf]; omega
  ·go_wp2
   go_ret
   have hkn : k = n := by omega
   subst hkn
   exact ⟨_,rfl,hO,hB⟩
theorem isCrossed_dn (px py ax ay bx by' : Int) (w : World) (hp : okP px py = true) (ha : okP ax ay = true) (hb : okP bx by' = true) (h : by' < ay) (h1 : by' ≤ py) (h2 : py < ay) :
  Calls Tryz.prog 164 #[.agg #[.int .i64 px, .int .i64 py], .agg #[.int .i64 ax, .int .i64 ay], .agg #[.int .i64 bx, .int .i64 by']] w fun e w' => e = .returned (.bool (sideB px py ax ay bx by')) ∧ Below w.heap.size w w' := by
 have HP : Hid (okP px py = true) := hp
 have HA : Hid (okP ax ay = true) := ha
 have HB : Hid (okP bx by' = true) := hb
 clear hp ha hb
 have HE : Hid (sideB px py ax ay bx by' = decide (0 < crossI bx by' ax ay px py)) := by
  show _ = _
  rw [side_down h]
  simp [h1,h2]
 go_enter Tryz.func164,Tryz.ntmps164
 go_wp2
 generalize hW : (((w.alloc _).alloc _).alloc _ : World) = W
 have hB0 : Below w.heap.size w W := by subst hW; (repeat (first|exact Qr _ _|assumption|refine Qd ?_|refine Qa ?_ _|refine Qt ?_|refine Qs ?_ _|refine Qo ?_ ?_ _ _))
 have c00 : ∀ W',Below W.heap.size W W' → W'.cell? ⟨w.heap.size,0,none⟩ = some (.int .i64 px) := fun W' h => by
  rw [h.cell (by subst hW; simp <;> omega)]; subst hW; simp [go_sem]
 have c01 : ∀ W',Below W.heap.size W W' → W'.cell? ⟨w.heap.size,1,none⟩ = some (.int .i64 py) := fun W' h => by
  rw [h.cell (by subst hW; simp <;> omega)]; subst hW; simp [go_sem]
 have c10 : ∀ W',Below W.heap.size W W' → W'.cell? ⟨w.heap.size + 1,0,none⟩ = some (.int .i64 ax) := fun W' h => by
  rw [h.cell (by subst hW; simp <;> omega)]; subst hW; simp [go_sem]
 have c11 : ∀ W',Below W.heap.size W W' → W'.cell? ⟨w.heap.size + 1,1,none⟩ = some (.int .i64 ay) := fun W' h => by
  rw [h.cell (by subst hW; simp <;> omega)]; subst hW; simp [go_sem]
 have c20 : ∀ W',Below W.heap.size W W' → W'.cell? ⟨w.heap.size + 1 + 1,0,none⟩ = some (.int .i64 bx) := fun W' h => by
  rw [h.cell (by subst hW; simp <;> omega)]; subst hW; simp [go_sem]
 have c21 : ∀ W',Below W.heap.size W W' → W'.cell? ⟨w.heap.size + 1 + 1,1,none⟩ = some (.int .i64 by') := fun W' h => by
  rw [h.cell (by subst hW; simp <;> omega)]; subst hW; simp [go_sem]
 have q0 := c00
 clear hW
 have HB0 : Hid (Below w.heap.size w W) := hB0
 clear hB0
 go_cut [7,8] (fun t s wc => ∃ b d : Nat,t = .pointer (some ⟨b,0,none⟩) ∧ s = .pointer (some ⟨d,0,none⟩) ∧ b ≠ d ∧ Below W.heap.size W wc ∧ W.heap.size ≤ b ∧ W.heap.size ≤ d ∧ wc.cell? ⟨b,0,none⟩ = some (.int .i64 ax) ∧ wc.cell? ⟨b,1,none⟩ = some (.int .i64 ay) ∧ wc.cell? ⟨d,0,none⟩ = some (.int .i64 bx) ∧ wc.cell? ⟨d,1,none⟩ = some (.int .i64 by') ∧ wc.frozen? ⟨b,0,none⟩ = false ∧ wc.frozen? ⟨b,1,none⟩ = false ∧ wc.frozen? ⟨d,0,none⟩ = false ∧ wc.frozen? ⟨d,1,none⟩ = false)
 case first =>
  go_region_held3 (fun W' => Below W.heap.size W W') ((repeat (first|exact Qr _ _|assumption|refine Qd ?_|refine Qa ?_ _|refine Qt ?_|refine Qs ?_ _|refine Qo ?_ ?_ _ _))) (fail)
  all_goals
   go_wp2_with fail
   go_meet
   case rel =>
    refine ⟨_,_,rfl,rfl,by first | omega | (simp; done) | (simp; omega),by assumption,by first | omega | (simp; done) | (simp; omega),by first | omega | (simp; done) | (simp; omega),?_,?_,?_,?_,?_,?_,?_,?_⟩ <;> (go_simp; done)
 case rest =>
  obtain ⟨b1,d1,rfl,rfl,hne,hB1,hb1,hd1,x1,x2,x3,x4,f1,f2,f3,f4⟩ := hcut
  have hne' : d1 ≠ b1 := fun h => hne h.symm
  have hw0 := World.block_lt_of_cell? _ _ (c00 W (Below.refl _ _))
  have n1 : b1 ≠ w.heap.size := by have : w.heap.size < W.heap.size := hw0; omega
  have n2 : d1 ≠ w.heap.size := by have : w.heap.size < W.heap.size := hw0; omega
  have p1 := c01 wc hB1
  clear hw0 c00 c01 c10 c11 c20 c21
  have p0 := q0 wc hB1
  clear q0
  go_wp2_with (go_at_call 173; refine (turnOf_any _ _ _ _ _ _ _ HB.out HA.out HP.out).mono ?_; rintro e w' ⟨rfl,hbz⟩)
  go_ret
  exact ⟨ret_bool HE.out.symm,bl_then HB0.out (by (repeat (first|exact Qr _ _|assumption|refine Qd ?_|refine Qa ?_ _|refine Qt ?_|refine Qs ?_ _|refine Qo ?_ ?_ _ _)))⟩
theorem isCrossed_dn1 (px py ax ay bx by' : Int) (w : World) (hp : okP px py = true) (ha : okP ax ay = true) (hb : okP bx by' = true) (h : by' < ay) (h1 : ¬ by' ≤ py) :
  Calls Tryz.prog 164 #[.agg #[.int .i64 px, .int .i64 py], .agg #[.int .i64 ax, .int .i64 ay], .agg #[.int .i64 bx, .int .i64 by']] w fun e w' => e = .returned (.bool (sideB px py ax ay bx by')) ∧ Below w.heap.size w w' := by
 have HP : Hid (okP px py = true) := hp
 have HA : Hid (okP ax ay = true) := ha
 have HB : Hid (okP bx by' = true) := hb
 clear hp ha hb
 have HE : Hid (sideB px py ax ay bx by' = false) := by
  show _ = _
  rw [side_down h]
  simp [h1]
 have h1' : decide (by' ≤ py) = false := by simpa using h1
 go_enter Tryz.func164,Tryz.ntmps164
 go_wp2
 generalize hW : (((w.alloc _).alloc _).alloc _ : World) = W
 have hB0 : Below w.heap.size w W := by subst hW; (repeat (first|exact Qr _ _|assumption|refine Qd ?_|refine Qa ?_ _|refine Qt ?_|refine Qs ?_ _|refine Qo ?_ ?_ _ _))
 have c00 : ∀ W',Below W.heap.size W W' → W'.cell? ⟨w.heap.size,0,none⟩ = some (.int .i64 px) := fun W' h => by
  rw [h.cell (by subst hW; simp <;> omega)]; subst hW; simp [go_sem]
 have c01 : ∀ W',Below W.heap.size W W' → W'.cell? ⟨w.heap.size,1,none⟩ = some (.int .i64 py) := fun W' h => by
  rw [h.cell (by subst hW; simp <;> omega)]; subst hW; simp [go_sem]
 have c10 : ∀ W',Below W.heap.size W W' → W'.cell? ⟨w.heap.size + 1,0,none⟩ = some (.int .i64 ax) := fun W' h => by
  rw [h.cell (by subst hW; simp <;> omega)]; subst hW; simp [go_sem]
 have c11 : ∀ W',Below W.heap.size W W' → W'.cell? ⟨w.heap.size + 1,1,none⟩ = some (.int .i64 ay) := fun W' h => by
  rw [h.cell (by subst hW; simp <;> omega)]; subst hW; simp [go_sem]
 have c20 : ∀ W',Below W.heap.size W W' → W'.cell? ⟨w.heap.size + 1 + 1,0,none⟩ = some (.int .i64 bx) := fun W' h => by
  rw [h.cell (by subst hW; simp <;> omega)]; subst hW; simp [go_sem]
 have c21 : ∀ W',Below W.heap.size W W' → W'.cell? ⟨w.heap.size + 1 + 1,1,none⟩ = some (.int .i64 by') := fun W' h => by
  rw [h.cell (by subst hW; simp <;> omega)]; subst hW; simp [go_sem]
 have q0 := c00
 clear hW
 have HB0 : Hid (Below w.heap.size w W) := hB0
 clear hB0
 go_cut [7,8] (fun t s wc => ∃ b d : Nat,t = .pointer (some ⟨b,0,none⟩) ∧ s = .pointer (some ⟨d,0,none⟩) ∧ b ≠ d ∧ Below W.heap.size W wc ∧ W.heap.size ≤ b ∧ W.heap.size ≤ d ∧ wc.cell? ⟨b,0,none⟩ = some (.int .i64 ax) ∧ wc.cell? ⟨b,1,none⟩ = some (.int .i64 ay) ∧ wc.cell? ⟨d,0,none⟩ = some (.int .i64 bx) ∧ wc.cell? ⟨d,1,none⟩ = some (.int .i64 by') ∧ wc.frozen? ⟨b,0,none⟩ = false ∧ wc.frozen? ⟨b,1,none⟩ = false ∧ wc.frozen? ⟨d,0,none⟩ = false ∧ wc.frozen? ⟨d,1,none⟩ = false)
 case first =>
  go_region_held3 (fun W' => Below W.heap.size W W') ((repeat (first|exact Qr _ _|assumption|refine Qd ?_|refine Qa ?_ _|refine Qt ?_|refine Qs ?_ _|refine Qo ?_ ?_ _ _))) (fail)
  all_goals
   go_wp2_with fail
   go_meet
   case rel =>
    refine ⟨_,_,rfl,rfl,by first | omega | (simp; done) | (simp; omega),by assumption,by first | omega | (simp; done) | (simp; omega),by first | omega | (simp; done) | (simp; omega),?_,?_,?_,?_,?_,?_,?_,?_⟩ <;> (go_simp; done)
 case rest =>
  obtain ⟨b1,d1,rfl,rfl,hne,hB1,hb1,hd1,x1,x2,x3,x4,f1,f2,f3,f4⟩ := hcut
  have hne' : d1 ≠ b1 := fun h => hne h.symm
  have hw0 := World.block_lt_of_cell? _ _ (c00 W (Below.refl _ _))
  have n1 : b1 ≠ w.heap.size := by have : w.heap.size < W.heap.size := hw0; omega
  have n2 : d1 ≠ w.heap.size := by have : w.heap.size < W.heap.size := hw0; omega
  have p1 := c01 wc hB1
  clear hw0 c00 c01 c10 c11 c20 c21
  have p0 := q0 wc hB1
  clear q0
  go_wp2
  go_ret
  exact ⟨ret_bool HE.out.symm,bl_then HB0.out (by (repeat (first|exact Qr _ _|assumption|refine Qd ?_|refine Qa ?_ _|refine Qt ?_|refine Qs ?_ _|refine Qo ?_ ?_ _ _)))⟩
theorem isCrossed_dn2 (px py ax ay bx by' : Int) (w : World) (hp : okP px py = true) (ha : okP ax ay = true) (hb : okP bx by' = true) (h : by' < ay) (h1 : by' ≤ py) (h2 : ¬ py < ay) :
  Calls Tryz.prog 164 #[.agg #[.int .i64 px, .int .i64 py], .agg #[.int .i64 ax, .int .i64 ay], .agg #[.int .i64 bx, .int .i64 by']] w fun e w' => e = .returned (.bool (sideB px py ax ay bx by')) ∧ Below w.heap.size w w' := by
 have HP : Hid (okP px py = true) := hp
 have HA : Hid (okP ax ay = true) := ha
 have HB : Hid (okP bx by' = true) := hb
 clear hp ha hb
 have HE : Hid (sideB px py ax ay bx by' = false) := by
  show _ = _
  rw [side_down h]
  simp [h1,h2]
 have h2' : decide (py < ay) = false := by simpa using h2
 go_enter Tryz.func164,Tryz.ntmps164
 go_wp2
 generalize hW : (((w.alloc _).alloc _).alloc _ : World) = W
 have hB0 : Below w.heap.size w W := by subst hW; (repeat (first|exact Qr _ _|assumption|refine Qd ?_|refine Qa ?_ _|refine Qt ?_|refine Qs ?_ _|refine Qo ?_ ?_ _ _))
 have c00 : ∀ W',Below W.heap.size W W' → W'.cell? ⟨w.heap.size,0,none⟩ = some (.int .i64 px) := fun W' h => by
  rw [h.cell (by subst hW; simp <;> omega)]; subst hW; simp [go_sem]
 have c01 : ∀ W',Below W.heap.size W W' → W'.cell? ⟨w.heap.size,1,none⟩ = some (.int .i64 py) := fun W' h => by
  rw [h.cell (by subst hW; simp <;> omega)]; subst hW; simp [go_sem]
 have c10 : ∀ W',Below W.heap.size W W' → W'.cell? ⟨w.heap.size + 1,0,none⟩ = some (.int .i64 ax) := fun W' h => by
  rw [h.cell (by subst hW; simp <;> omega)]; subst hW; simp [go_sem]
 have c11 : ∀ W',Below W.heap.size W W' → W'.cell? ⟨w.heap.size + 1,1,none⟩ = some (.int .i64 ay) := fun W' h => by
  rw [h.cell (by subst hW; simp <;> omega)]; subst hW; simp [go_sem]
 have c20 : ∀ W',Below W.heap.size W W' → W'.cell? ⟨w.heap.size + 1 + 1,0,none⟩ = some (.int .i64 bx) := fun W' h => by
  rw [h.cell (by subst hW; simp <;> omega)]; subst hW; simp [go_sem]
 have c21 : ∀ W',Below W.heap.size W W' → W'.cell? ⟨w.heap.size + 1 + 1,1,none⟩ = some (.int .i64 by') := fun W' h => by
  rw [h.cell (by subst hW; simp <;> omega)]; subst hW; simp [go_sem]
 have q0 := c00
 clear hW
 have HB0 : Hid (Below w.heap.size w W) := hB0
 clear hB0
 go_cut [7,8] (fun t s wc => ∃ b d : Nat,t = .pointer (some ⟨b,0,none⟩) ∧ s = .pointer (some ⟨d,0,none⟩) ∧ b ≠ d ∧ Below W.heap.size W wc ∧ W.heap.size ≤ b ∧ W.heap.size ≤ d ∧ wc.cell? ⟨b,0,none⟩ = some (.int .i64 ax) ∧ wc.cell? ⟨b,1,none⟩ = some (.int .i64 ay) ∧ wc.cell? ⟨d,0,none⟩ = some (.int .i64 bx) ∧ wc.cell? ⟨d,1,none⟩ = some (.int .i64 by') ∧ wc.frozen? ⟨b,0,none⟩ = false ∧ wc.frozen? ⟨b,1,none⟩ = false ∧ wc.frozen? ⟨d,0,none⟩ = false ∧ wc.frozen? ⟨d,1,none⟩ = false)
 case first =>
  go_region_held3 (fun W' => Below W.heap.size W W') ((repeat (first|exact Qr _ _|assumption|refine Qd ?_|refine Qa ?_ _|refine Qt ?_|refine Qs ?_ _|refine Qo ?_ ?_ _ _))) (fail)
  all_goals
   go_wp2_with fail
   go_meet
   case rel =>
    refine ⟨_,_,rfl,rfl,by first | omega | (simp; done) | (simp; omega),by assumption,by first | omega | (simp; done) | (simp; omega),by first | omega | (simp; done) | (simp; omega),?_,?_,?_,?_,?_,?_,?_,?_⟩ <;> (go_simp; done)
 case rest =>
  obtain ⟨b1,d1,rfl,rfl,hne,hB1,hb1,hd1,x1,x2,x3,x4,f1,f2,f3,f4⟩ := hcut
  have hne' : d1 ≠ b1 := fun h => hne h.symm
  have hw0 := World.block_lt_of_cell? _ _ (c00 W (Below.refl _ _))
  have n1 : b1 ≠ w.heap.size := by have : w.heap.size < W.heap.size := hw0; omega
  have n2 : d1 ≠ w.heap.size := by have : w.heap.size < W.heap.size := hw0; omega
  have p1 := c01 wc hB1
  clear hw0 c00 c01 c10 c11 c20 c21
  have p0 := q0 wc hB1
  clear q0
  go_wp2
  go_ret
  exact ⟨ret_bool HE.out.symm,bl_then HB0.out (by (repeat (first|exact Qr _ _|assumption|refine Qd ?_|refine Qa ?_ _|refine Qt ?_|refine Qs ?_ _|refine Qo ?_ ?_ _ _)))⟩
theorem isCrossed_any (px py ax ay bx by' : Int) (w : World) (hp : okP px py = true) (ha : okP ax ay = true) (hb : okP bx by' = true) :
  Calls Tryz.prog 164 #[.agg #[.int .i64 px, .int .i64 py], .agg #[.int .i64 ax, .int .i64 ay], .agg #[.int .i64 bx, .int .i64 by']] w fun e w' => e = .returned (.bool (sideB px py ax ay bx by')) ∧ Below w.heap.size w w' := by
 by_cases h : by' < ay
 ·by_cases h1 : by' ≤ py
  ·by_cases h2 : py < ay
   ·exact isCrossed_dn _ _ _ _ _ _ _ hp ha hb h h1 h2
   ·exact isCrossed_dn2 _ _ _ _ _ _ _ hp ha hb h h1 h2
  ·exact isCrossed_dn1 _ _ _ _ _ _ _ hp ha hb h h1
 ·by_cases h1 : ay ≤ py
  ·by_cases h2 : py < by'
   ·exact isCrossed_up _ _ _ _ _ _ _ hp ha hb (by omega) h1 h2
   ·exact isCrossed_up2 _ _ _ _ _ _ _ hp ha hb (by omega) h1 h2
  ·exact isCrossed_up1 _ _ _ _ _ _ _ hp ha hb (by omega) h1
theorem set5_at {W : World} {r : Nat} {a b c d e : Value} (hT : There W r 5) :
  (((((W.setCell ⟨r,0,none⟩ a).setCell ⟨r,1,none⟩ b).setCell ⟨r,2,none⟩ c).setCell ⟨r,3,none⟩ d).setCell ⟨r,4,none⟩ e).cell? ⟨r,0,none⟩ = some a ∧
  (((((W.setCell ⟨r,0,none⟩ a).setCell ⟨r,1,none⟩ b).setCell ⟨r,2,none⟩ c).setCell ⟨r,3,none⟩ d).setCell ⟨r,4,none⟩ e).cell? ⟨r,1,none⟩ = some b ∧
  (((((W.setCell ⟨r,0,none⟩ a).setCell ⟨r,1,none⟩ b).setCell ⟨r,2,none⟩ c).setCell ⟨r,3,none⟩ d).setCell ⟨r,4,none⟩ e).cell? ⟨r,2,none⟩ = some c ∧
  (((((W.setCell ⟨r,0,none⟩ a).setCell ⟨r,1,none⟩ b).setCell ⟨r,2,none⟩ c).setCell ⟨r,3,none⟩ d).setCell ⟨r,4,none⟩ e).cell? ⟨r,3,none⟩ = some d ∧
  (((((W.setCell ⟨r,0,none⟩ a).setCell ⟨r,1,none⟩ b).setCell ⟨r,2,none⟩ c).setCell ⟨r,3,none⟩ d).setCell ⟨r,4,none⟩ e).cell? ⟨r,4,none⟩ = some e := by
 have ne : ∀ i j : Nat,i ≠ j → (⟨r,i,none⟩ : Addr) ≠ ⟨r,j,none⟩ := fun i j hij h => hij (by injection h)
 have hT4 : There W r 4 := fun o ho => hT o (by omega)
 obtain ⟨x4,h4⟩ := (hT 4 (by omega)).1
 obtain ⟨q0,q1,q2,q3⟩ := set4_at (a := a) (b := b) (c := c) (d := d) hT4
 refine ⟨?_,?_,?_,?_,?_⟩
 ·rw [set1_other (ne 4 0 (by omega))]; exact q0
 ·rw [set1_other (ne 4 1 (by omega))]; exact q1
 ·rw [set1_other (ne 4 2 (by omega))]; exact q2
 ·rw [set1_other (ne 4 3 (by omega))]; exact q3
 ·exact set1_same (by rw [set1_other (ne 3 4 (by omega)),set1_other (ne 2 4 (by omega)),set1_other (ne 1 4 (by omega)),set1_other (ne 0 4 (by omega))]; exact h4)
def boxV (n : Nat) (X Y : Nat → Int) : Value := if allOk n X Y = true then .agg #[.int .i64 0, .int .i64 (mnTo X n), .int .i64 (mnTo Y n), .int .i64 (mxTo X n), .int .i64 (mxTo Y n)] else .agg #[.int .i64 3, .int .i64 0, .int .i64 0, .int .i64 0, .int .i64 0]
theorem UpAt.same {w : World} {p B n m : Nat} {Z Y : Nat → Int} (h : UpAt w p B n Z) (hn : n = m) (hZ : ∀ i,i < n → Z i = Y i) : UpAt w p B m Y := by
 subst hn
 obtain ⟨a,cap,h0,h1,h2,h3⟩ := h
 refine ⟨a,cap,h0,h1,h2,?_⟩
 rcases h3 with h3 | ⟨b,off,e,hb,hz⟩
 ·exact .inl h3
 ·exact .inr ⟨b,off,e,hb,fun i hi => by rw [← hZ i hi]; exact hz i hi⟩
def NumP (p B n : Nat) (Z : Nat → Int) (w : World) (e : Ending) (w' : World) : Prop :=
 match rd Z n with
 | none => Pan e ∧ Keeps p w w'
 | some x => e = .returned (.int .u64 (x.1 : Int)) ∧ UpAt w' p B (n - x.2) (fun i => Z (i + x.2)) ∧ Keeps p w w'
theorem NumP.none {p B n : Nat} {Z : Nat → Int} {w w' : World} {e : Ending} (h : rd Z n = none) (he : Pan e) (hk : Keeps p w w') : NumP p B n Z w e w' := by
 unfold NumP; rw [h]; exact ⟨he,hk⟩
theorem NumP.some {p B n : Nat} {Z : Nat → Int} {w w' : World} {e : Ending} {x y : Nat} (h : rd Z n = some (x,y)) (he : e = .returned (.int .u64 (x : Int))) (hu : UpAt w' p B (n - y) (fun i => Z (i + y))) (hk : Keeps p w w') : NumP p B n Z w e w' := by
 unfold NumP; rw [h]; exact ⟨he,hu,hk⟩
theorem number_any (p B n : Nat) (Z : Nat → Int) (w : World) (h : UpAt w p B n Z) (hB : B ≤ p) (hp : p < w.heap.size) (hr : ∀ i,0 ≤ Z i ∧ Z i ≤ 255) (hmax : n ≤ 1048576) :
  Calls Tryz.prog 150 #[.pointer (some ⟨p,0,none⟩)] w fun e w' => NumP p B n Z w e w' := by
 have HU : Hid (UpAt w p B n Z) := h
 have HR : Hid (∀ i,0 ≤ Z i ∧ Z i ≤ 255) := hr
 clear h hr
 go_enter Tryz.func150,Tryz.ntmps150
 go_wp2
 go_loopw [3,6] (fun x i wr => ∃ (k f A : Nat),i = .int .i64 (k : Int) ∧ x = .int .u64 (A : Int) ∧ k + f = 6 ∧ k ≤ n ∧ Hid (A < 128 ^ k ∧ rdFrom Z n f k A = rd Z n) ∧ UpAt wr p B (n - k) (fun i => Z (i + k)) ∧ Keeps p w wr) (fun _ i _ => 6 - (intOf i).toNat)
 case atStart => exact ⟨0,6,0,rfl,rfl,rfl,by omega,⟨by simp,rfl⟩,HU.out,Keeps.refl _ _⟩
 case round =>
  obtain ⟨k,f,A,rfl,rfl,hkf,hkn,HK,hU,hK⟩ := hrel
  have HU1 : Hid (UpAt wr p B (n - k) (fun i => Z (i + k))) := hU
  have HK1 : Hid (Keeps p w wr) := hK
  have hpw : p < wr.heap.size := Nat.lt_of_lt_of_le hp hK.size
  clear hU hK HU
  by_cases hk6 : k < 6
  ·have hk6' : (k : Int) < 6 := by omega
   obtain ⟨f,rfl⟩ : ∃ g,f = g + 1 := ⟨f - 1,by omega⟩
   by_cases hlt : k < n
   ·have hT := take_some p B (n - k) 1 (fun i => Z (i + k)) wr HU1.out hB hpw (by omega) (by omega) (by omega)
    have HT := (show Hid _ from hT)
    clear hT
    obtain ⟨hA,hrd⟩ := HK.out
    obtain ⟨z1,z2⟩ := HR.out k
    obtain ⟨z,hz⟩ : ∃ z : Nat,Z k = (z : Int) := ⟨(Z k).toNat,by omega⟩
    obtain ⟨u1,u2⟩ := pow_bd (k := k) (by omega)
    obtain ⟨p1,p2⟩ := part_bd (z := z) u2
    have hor := or_part (z := z) hA (by omega)
    obtain ⟨P,hP⟩ : ∃ P,z % 128 * 128 ^ k = P := ⟨_,rfl⟩
    rw [hP] at p1 p2 hor
    have hAP : Hid (A + P < 128 ^ (k + 1)) := by show _ < _; rw [Nat.pow_succ]; omega
    have HM : Hid (rdFrom Z n (f + 1) k A = rd Z n) := hrd
    have HZ : Hid (Z k = (z : Int)) := hz
    have hPU : Hid (z % 128 * 128 ^ k = P) := hP
    have hzb : z ≤ 255 := by omega
    go_wp2_with fail
    refine Calls.mono HT.out ?_
    rintro e w1 ⟨g,rfl,hg1,hg2,hbs,hup,hke⟩
    have hx : w1.cell? ⟨g,0,none⟩ = some (.int .u8 (z : Int)) := by have := hbs 0 (by omega); simpa [hz] using this
    have HU2 : Hid (UpAt w1 p B (n - (k + 1)) (fun i => Z (i + (k + 1)))) := hup.same (by omega) (fun i _ => by congr 1; omega)
    have HK2 : Hid (Keeps p w w1) := HK1.out.trans hke
    have hA2 : Hid (A < 128 ^ k) := hA
    clear hbs hup hke hrd hz z1 z2 hP HK hA HT
    have e1 : IntKind.u8.wrap ((z : Int) % 128) = (z : Int) % 128 := by rw [IntKind.wrap_u8]; omega
    have e3 : (z : Int).tmod 128 = (z : Int) % 128 := Int.tmod_eq_emod_of_nonneg (by omega)
    have e4 : IntKind.u64.wrap ((z : Int) % 128) = (z : Int) % 128 := by rw [IntKind.wrap_u64]; omega
    have e5 : IntKind.u64.wrap ((z : Int) % 128 * 2 ^ (k * 7)) = (P : Int) := by
     have : (z : Int) % 128 * 2 ^ (k * 7) = (P : Int) := by
      rw [← hPU.out, ← pow7]; simp
     rw [this,IntKind.wrap_u64]; omega
    have e6 : bits .or .u64 (A : Int) (P : Int) = (A : Int) + (P : Int) := by rw [hor]; simp
    clear hor
    by_cases h8 : z < 128
    ·have HL : Hid (rd Z n = if (0 < k ∧ z = 0) ∨ 1099511627776 < A + P then none else some (A + P,k + 1)) := by show _ = _; rw [← HM.out,rdFrom_last hlt HZ.out h8 hPU.out]
     have h8' : ¬ (128 : Int) ≤ (z : Int) := by omega
     by_cases hkz : 0 < k ∧ z = 0
     ·have HN : Hid (rd Z n = none) := by show _ = _; rw [HL.out,if_pos (.inl hkz)]
      obtain ⟨hk0,rfl⟩ := hkz
      have hk0' : (0 : Int) < (k : Int) := by omega
      clear HL HM HZ hPU hAP
      go_wp2
      exact ⟨rfl,NumP.none HN.out ⟨_,_,rfl⟩ HK2.out⟩
     ·by_cases h40 : 1099511627776 < A + P
      ·have HN : Hid (rd Z n = none) := by show _ = _; rw [HL.out,if_pos (.inr h40)]
       have hk1 : 0 < k := by
        rcases Nat.eq_zero_or_pos k with h | h
        ·subst h; have := hPU.out; have := hA2.out; simp at *; omega
        ·exact h
       have hz0 : ¬ z = 0 := fun h => hkz ⟨hk1,h⟩
       have hz0' : ¬ (z : Int) = 0 := by omega
       have hk0' : (0 : Int) < (k : Int) := by omega
       have h40' : (1099511627776 : Int) < (A : Int) + (P : Int) := by omega
       clear HL HM HZ hPU hAP hkz
       go_wp2
       exact ⟨rfl,NumP.none HN.out ⟨_,_,rfl⟩ HK2.out⟩
      ·have HN : Hid (rd Z n = some (A + P,k + 1)) := by show _ = _; rw [HL.out,if_neg (by omega)]
       have h40' : ¬ (1099511627776 : Int) < (A : Int) + (P : Int) := by omega
       by_cases hz0 : z = 0
       ·have hk0 : k = 0 := by omega
        have hP0 : P = 0 := by have := hPU.out; rw [hz0] at this; simpa using this.symm
        have hk0' : ¬ (0 : Int) < (k : Int) := by omega
        subst hz0
        have e7 : IntKind.u64.wrap 0 = 0 := rfl
        rw [hP0] at e6
        simp only [Int.natCast_zero,Int.add_zero] at e6
        have hA3 : ¬ (1099511627776 : Int) < (A : Int) := by omega
        clear HL HM HZ hPU hAP hkz
        go_wp2
        go_ret
        exact NumP.some HN.out (by simp [hP0]) HU2.out HK2.out
       ·have hz0' : ¬ (z : Int) = 0 := by omega
        clear HL HM HZ hPU hAP hkz
        go_wp2
        go_ret
        exact NumP.some HN.out (by simp) HU2.out HK2.out
    ·have h8' : (128 : Int) ≤ (z : Int) := by omega
     go_wp2
     go_roundw
     case rel => exact ⟨k + 1,f,A + P,by go_num,by go_num,by omega,by omega,⟨hAP.out,by rw [← HM.out,rdFrom_more hlt HZ.out h8 hPU.out]⟩,HU2.out,HK2.out⟩
     case measure => simp [intOf]; omega
   ·have hT := take_none p B (n - k) 1 (fun i => Z (i + k)) wr HU1.out (by omega) (by omega) (by omega)
    have HT := (show Hid _ from hT)
    clear hT
    have HN : Hid (rd Z n = none) := by show _ = _; rw [← HK.out.2,rdFrom_end _ _ _ _ _ hlt]
    clear HK
    go_wp2_with fail
    refine Calls.mono HT.out ?_
    rintro e w1 ⟨⟨u,pv,rfl⟩,rfl⟩
    exact ⟨rfl,NumP.none HN.out ⟨_,_,rfl⟩ HK1.out⟩
  ·have hk6' : ¬ (k : Int) < 6 := by omega
   have HN : Hid (rd Z n = none) := by
    show _ = _
    obtain rfl : f = 0 := by omega
    rw [← HK.out.2]; rfl
   clear HK
   go_wp2
   exact ⟨rfl,NumP.none HN.out ⟨_,_,rfl⟩ HK1.out⟩
def OutP {α : Type} (r : Option (α × Nat)) (val : α → Value) (p B n : Nat) (Z : Nat → Int) (w : World) (e : Ending) (w' : World) : Prop :=
 match r with
 | none => Pan e ∧ Keeps p w w'
 | some x => e = .returned (val x.1) ∧ UpAt w' p B (n - x.2) (fun i => Z (i + x.2)) ∧ Keeps p w w'
theorem OutP.none {α : Type} {r : Option (α × Nat)} {val : α → Value} {p B n : Nat} {Z : Nat → Int} {w w' : World} {e : Ending} (h : r = none) (he : Pan e) (hk : Keeps p w w') : OutP r val p B n Z w e w' := by
 subst h; exact ⟨he,hk⟩
theorem OutP.some {α : Type} {r : Option (α × Nat)} {val : α → Value} {p B n : Nat} {Z : Nat → Int} {w w' : World} {e : Ending} {x : α} {y : Nat} (h : r = some (x,y)) (he : e = .returned (val x)) (hu : UpAt w' p B (n - y) (fun i => Z (i + y))) (hk : Keeps p w w') : OutP r val p B n Z w e w' := by
 subst h; exact ⟨he,hu,hk⟩
def rdUp (most : Nat) (Z : Nat → Int) (n : Nat) : Option (Nat × Nat) := (rd Z n).bind fun x => if most < x.1 then none else some x
def rdStep (Z : Nat → Int) (n : Nat) : Option (Int × Nat) := (rdUp 2147483648 Z n).map fun x => (unfoldI (x.1 : Int),x.2)
theorem rdUp_bd {most : Nat} {Z : Nat → Int} {n : Nat} {x : Nat × Nat} (h : rdUp most Z n = some x) : x.1 ≤ most ∧ 0 < x.2 ∧ x.2 ≤ n ∧ x.2 ≤ 6 := by
 unfold rdUp at h
 cases hr : rd Z n with
 | none => simp [hr] at h
 | some y =>
  have hb := rd_bd hr
  rw [hr,Option.bind_some] at h
  split at h
  ·cases h
  ·injection h with h
   subst h
   exact ⟨by omega,hb.2⟩
theorem numberUpTo_any (most p B n : Nat) (Z : Nat → Int) (w : World) (h : UpAt w p B n Z) (hB : B ≤ p) (hp : p < w.heap.size) (hr : ∀ i,0 ≤ Z i ∧ Z i ≤ 255) (hmax : n ≤ 1048576) :
  Calls Tryz.prog 114 #[.pointer (some ⟨p,0,none⟩), .int .u64 (most : Int)] w fun e w' => OutP (rdUp most Z n) (fun x => .int .u64 (x : Int)) p B n Z w e w' := by
 have HN : Hid (Calls Tryz.prog 150 #[.pointer (some ⟨p,0,none⟩)] w fun e w' => NumP p B n Z w e w') := number_any p B n Z w h hB hp hr hmax
 clear h hr
 cases hd : rd Z n with
 | none =>
  have HD : Hid (rdUp most Z n = none) := by show _ = _; simp [rdUp,hd]
  have HD0 : Hid (rd Z n = none) := hd
  clear hd
  go_enter Tryz.func114,Tryz.ntmps114
  go_wp2_with fail
  refine Calls.mono HN.out ?_
  intro e w1 hq
  unfold NumP at hq
  rw [HD0.out] at hq
  obtain ⟨⟨u,pv,rfl⟩,hk⟩ := hq
  exact ⟨rfl,OutP.none HD.out ⟨_,_,rfl⟩ hk⟩
 | some x =>
  obtain ⟨x,y⟩ := x
  have HD0 : Hid (rd Z n = some (x,y)) := hd
  by_cases hm : most < x
  ·have HD : Hid (rdUp most Z n = none) := by show _ = _; simp [rdUp,hd,hm]
   have hm' : (most : Int) < (x : Int) := by omega
   clear hd
   go_enter Tryz.func114,Tryz.ntmps114
   go_wp2_with fail
   refine Calls.mono HN.out ?_
   intro e w1 hq
   unfold NumP at hq
   rw [HD0.out] at hq
   obtain ⟨rfl,hu,hk⟩ := hq
   have HK : Hid (Keeps p w w1) := hk
   clear hu hk
   go_wp2
   exact ⟨rfl,OutP.none HD.out ⟨_,_,rfl⟩ HK.out⟩
  ·have HD : Hid (rdUp most Z n = some (x,y)) := by show _ = _; simp [rdUp,hd,hm]
   have hm' : ¬ (most : Int) < (x : Int) := by omega
   clear hd
   go_enter Tryz.func114,Tryz.ntmps114
   go_wp2_with fail
   refine Calls.mono HN.out ?_
   intro e w1 hq
   unfold NumP at hq
   rw [HD0.out] at hq
   obtain ⟨rfl,hu,hk⟩ := hq
   have HK : Hid (Keeps p w w1) := hk
   have HU : Hid (UpAt w1 p B (n - y) (fun i => Z (i + y))) := hu
   clear hu hk
   go_wp2
   go_ret
   exact OutP.some HD.out rfl HU.out HK.out
theorem step_any (p B n : Nat) (Z : Nat → Int) (w : World) (h : UpAt w p B n Z) (hB : B ≤ p) (hp : p < w.heap.size) (hr : ∀ i,0 ≤ Z i ∧ Z i ≤ 255) (hmax : n ≤ 1048576) :
  Calls Tryz.prog 165 #[.pointer (some ⟨p,0,none⟩)] w fun e w' => OutP (rdStep Z n) (fun x => .int .i64 x) p B n Z w e w' := by
 have HN : Hid (Calls Tryz.prog 114 #[.pointer (some ⟨p,0,none⟩), .int .u64 2147483648] w fun e w' => OutP (rdUp 2147483648 Z n) (fun x => .int .u64 (x : Int)) p B n Z w e w') := numberUpTo_any 2147483648 p B n Z w h hB hp hr hmax
 clear h hr
 cases hd : rdUp 2147483648 Z n with
 | none =>
  have HD : Hid (rdStep Z n = none) := by show _ = _; simp [rdStep,hd]
  have HD0 : Hid (rdUp 2147483648 Z n = none) := hd
  clear hd
  go_enter Tryz.func165,Tryz.ntmps165
  go_wp2_with fail
  refine Calls.mono HN.out ?_
  intro e w1 hq
  rw [HD0.out] at hq
  obtain ⟨⟨u,pv,rfl⟩,hk⟩ := hq
  exact ⟨rfl,OutP.none HD.out ⟨_,_,rfl⟩ hk⟩
 | some x =>
  have hbd := rdUp_bd hd
  obtain ⟨x,y⟩ := x
  have HD : Hid (rdStep Z n = some (unfoldI (x : Int),y)) := by show _ = _; simp [rdStep,hd]
  have HD0 : Hid (rdUp 2147483648 Z n = some (x,y)) := hd
  have hx : x ≤ 2147483648 := hbd.1
  clear hd hbd
  go_enter Tryz.func165,Tryz.ntmps165
  go_wp2_with fail
  refine Calls.mono HN.out ?_
  intro e w1 hq
  rw [HD0.out] at hq
  obtain ⟨rfl,hu,hk⟩ := hq
  have HK : Hid (Keeps p w w1) := hk
  have HU : Hid (UpAt w1 p B (n - y) (fun i => Z (i + y))) := hu
  clear hu hk
  go_wp2_with fail
  refine (impl_unfold_any (x : Int) _ (by omega) (by omega)).mono ?_
  rintro e w2 ⟨rfl,rfl⟩
  obtain ⟨v,hv⟩ : ∃ v,unfoldI (x : Int) = v := ⟨_,rfl⟩
  rw [hv] at HD ⊢
  clear hv
  go_wp2
  go_ret
  exact OutP.some HD.out rfl HU.out HK.out
end Go.Proofs.YtfkonhagjahgnaaGreat
