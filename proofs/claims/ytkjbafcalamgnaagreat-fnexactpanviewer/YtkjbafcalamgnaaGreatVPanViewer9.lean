/- Texts. -/
import Derived.Test.YtkjbafcalamgnaaGreatVPanViewer5
set_option linter.unusedSimpArgs false
set_option linter.unusedVariables false
set_option maxRecDepth 100000
set_option maxHeartbeats 32000000
namespace Go.Proofs.YtkjbafcalamgnaaGreat
open Go.RowKit
theorem zVj {px py ax ay bx by':Int}(ha:okP ax ay=true)(hb:okP bx by'=true):0≤vZ px py ax ay bx by'∧vZ px py ax ay bx by'≤52428800:=by
 obtain ⟨d1,d2⟩:=zUn ha hb
 unfold vZ
 split
 ·omega
 ·split <;> omega
theorem zJf {px py ax ay bx by' r:Int}(h:r<0∨4096<r):yG px py ax ay bx by' r=false:=by
 have hr:inB r 0 4096=false:=by
  rcases h with h | h <;> simp [inB] <;> omega
 simp [yG,hr]
theorem zG5 (px py ax ay bx by' r:Int)(w:World)(h:r<0) :
  Calls Tryz.prog 252 #[.agg #[.int .i64 px,.int .i64 py],.agg #[.int .i64 ax,.int .i64 ay],.agg #[.int .i64 bx,.int .i64 by'],.int .i64 r] w fun e w'=>e=.returned (.bool (yG px py ax ay bx by' r))∧Bw w w':=by
 have HE:Hid _:=zJf (px:=px) (py:=py) (ax:=ax) (ay:=ay) (bx:=bx) (by':=by') (.inl h)
 go_enter Tryz.func252,Tryz.ntmps252
 go_wp2
 go_ret
 exact ⟨zG HE.out.symm,Qb⟩
theorem zG6 (px py ax ay bx by' r:Int)(w:World)(h:4096<r) :
  Calls Tryz.prog 252 #[.agg #[.int .i64 px,.int .i64 py],.agg #[.int .i64 ax,.int .i64 ay],.agg #[.int .i64 bx,.int .i64 by'],.int .i64 r] w fun e w'=>e=.returned (.bool (yG px py ax ay bx by' r))∧Bw w w':=by
 have HE:Hid _:=zJf (px:=px) (py:=py) (ax:=ax) (ay:=ay) (bx:=bx) (by':=by') (.inr h)
 have h2:decide (r<0)=false:=by simp;omega
 go_enter Tryz.func252,Tryz.ntmps252
 go_wp2
 go_ret
 exact ⟨zG HE.out.symm,Qb⟩
theorem zK2 (px py ax ay bx by' r:Int)(w:World)(hr0:0≤r)(hr1:r≤4096)(h:okP px py=false) :
  Calls Tryz.prog 252 #[.agg #[.int .i64 px,.int .i64 py],.agg #[.int .i64 ax,.int .i64 ay],.agg #[.int .i64 bx,.int .i64 by'],.int .i64 r] w fun e w'=>e=.returned (.bool (yG px py ax ay bx by' r))∧Bw w w':=by
 have HN:Hid _:=zW1 px py ax ay bx by' h
 have HE:Hid (yG px py ax ay bx by' r=false):=by
  show _=_
  simp [yG,h]
 clear h
 go_enter Tryz.func252,Tryz.ntmps252
 go_wp2_with fail
 generalize hV:((((w.alloc _).alloc _).alloc _).alloc _:World)=V
 have hB0:Bw w V:=by subst hV;exact Qb
 have g0:V.cell? ⟨w.heap.size+1+1+1,0,none⟩=some (.int .i64 px):=by subst hV;simp [go_sem]
 have g1:V.cell? ⟨w.heap.size+1+1+1,1,none⟩=some (.int .i64 py):=by subst hV;simp [go_sem]
 have g2:V.cell? ⟨w.heap.size+1+1+1,2,none⟩=some (.int .i64 ax):=by subst hV;simp [go_sem]
 have g3:V.cell? ⟨w.heap.size+1+1+1,3,none⟩=some (.int .i64 ay):=by subst hV;simp [go_sem]
 have g4:V.cell? ⟨w.heap.size+1+1+1,4,none⟩=some (.int .i64 bx):=by subst hV;simp [go_sem]
 have g5:V.cell? ⟨w.heap.size+1+1+1,5,none⟩=some (.int .i64 by'):=by subst hV;simp [go_sem]
 clear hV
 have HB0:Hid (Bw w V):=hB0
 clear hB0
 refine (zF8 _ _ px py ax ay bx by' _ _ g0 g1 g2 g3 g4 g5 (by omega) HN.out).mono ?_
 rintro e W ⟨rfl,hbW⟩
 clear g0 g1 g2 g3 g4 g5
 go_wp2
 go_ret
 exact ⟨zG HE.out.symm,zA HB0.out hbW⟩
theorem zK1 (px py ax ay bx by' r:Int)(w:World)(hr0:0≤r)(hr1:r≤4096)(h:okP ax ay=false) :
  Calls Tryz.prog 252 #[.agg #[.int .i64 px,.int .i64 py],.agg #[.int .i64 ax,.int .i64 ay],.agg #[.int .i64 bx,.int .i64 by'],.int .i64 r] w fun e w'=>e=.returned (.bool (yG px py ax ay bx by' r))∧Bw w w':=by
 have HN:Hid _:=zW0 px py ax ay bx by' h
 have HE:Hid (yG px py ax ay bx by' r=false):=by
  show _=_
  simp [yG,h]
 clear h
 go_enter Tryz.func252,Tryz.ntmps252
 go_wp2_with fail
 generalize hV:((((w.alloc _).alloc _).alloc _).alloc _:World)=V
 have hB0:Bw w V:=by subst hV;exact Qb
 have g0:V.cell? ⟨w.heap.size+1+1+1,0,none⟩=some (.int .i64 px):=by subst hV;simp [go_sem]
 have g1:V.cell? ⟨w.heap.size+1+1+1,1,none⟩=some (.int .i64 py):=by subst hV;simp [go_sem]
 have g2:V.cell? ⟨w.heap.size+1+1+1,2,none⟩=some (.int .i64 ax):=by subst hV;simp [go_sem]
 have g3:V.cell? ⟨w.heap.size+1+1+1,3,none⟩=some (.int .i64 ay):=by subst hV;simp [go_sem]
 have g4:V.cell? ⟨w.heap.size+1+1+1,4,none⟩=some (.int .i64 bx):=by subst hV;simp [go_sem]
 have g5:V.cell? ⟨w.heap.size+1+1+1,5,none⟩=some (.int .i64 by'):=by subst hV;simp [go_sem]
 clear hV
 have HB0:Hid (Bw w V):=hB0
 clear hB0
 refine (zF8 _ _ px py ax ay bx by' _ _ g0 g1 g2 g3 g4 g5 (by omega) HN.out).mono ?_
 rintro e W ⟨rfl,hbW⟩
 clear g0 g1 g2 g3 g4 g5
 go_wp2
 go_ret
 exact ⟨zG HE.out.symm,zA HB0.out hbW⟩
theorem zK0 (px py ax ay bx by' r:Int)(w:World)(hr0:0≤r)(hr1:r≤4096)(h:okP bx by'=false) :
  Calls Tryz.prog 252 #[.agg #[.int .i64 px,.int .i64 py],.agg #[.int .i64 ax,.int .i64 ay],.agg #[.int .i64 bx,.int .i64 by'],.int .i64 r] w fun e w'=>e=.returned (.bool (yG px py ax ay bx by' r))∧Bw w w':=by
 have HN:Hid _:=zWz px py ax ay bx by' h
 have HE:Hid (yG px py ax ay bx by' r=false):=by
  show _=_
  simp [yG,h]
 clear h
 go_enter Tryz.func252,Tryz.ntmps252
 go_wp2_with fail
 generalize hV:((((w.alloc _).alloc _).alloc _).alloc _:World)=V
 have hB0:Bw w V:=by subst hV;exact Qb
 have g0:V.cell? ⟨w.heap.size+1+1+1,0,none⟩=some (.int .i64 px):=by subst hV;simp [go_sem]
 have g1:V.cell? ⟨w.heap.size+1+1+1,1,none⟩=some (.int .i64 py):=by subst hV;simp [go_sem]
 have g2:V.cell? ⟨w.heap.size+1+1+1,2,none⟩=some (.int .i64 ax):=by subst hV;simp [go_sem]
 have g3:V.cell? ⟨w.heap.size+1+1+1,3,none⟩=some (.int .i64 ay):=by subst hV;simp [go_sem]
 have g4:V.cell? ⟨w.heap.size+1+1+1,4,none⟩=some (.int .i64 bx):=by subst hV;simp [go_sem]
 have g5:V.cell? ⟨w.heap.size+1+1+1,5,none⟩=some (.int .i64 by'):=by subst hV;simp [go_sem]
 clear hV
 have HB0:Hid (Bw w V):=hB0
 clear hB0
 refine (zF8 _ _ px py ax ay bx by' _ _ g0 g1 g2 g3 g4 g5 (by omega) HN.out).mono ?_
 rintro e W ⟨rfl,hbW⟩
 clear g0 g1 g2 g3 g4 g5
 go_wp2
 go_ret
 exact ⟨zG HE.out.symm,zA HB0.out hbW⟩
theorem zIf (px py ax ay bx by' r:Int)(w:World)(hr0:0≤r)(hr1:r≤4096)(hp:okP px py=true)(ha:okP ax ay=true)(hb:okP bx by'=true) :
  Calls Tryz.prog 252 #[.agg #[.int .i64 px,.int .i64 py],.agg #[.int .i64 ax,.int .i64 ay],.agg #[.int .i64 bx,.int .i64 by'],.int .i64 r] w fun e w'=>e=.returned (.bool (yG px py ax ay bx by' r))∧Bw w w':=by
 have HN:Hid _:=zUq px py ax ay bx by' hp ha hb
 have HE:Hid (yG px py ax ay bx by' r=decide (zEp px py ax ay bx by'≤r * r * vZ px py ax ay bx by')):=by
  show _=_
  have hr:inB r 0 4096=true:=by simp [inB];omega
  simp [yG,hp,ha,hb,hr,zDz]
 obtain ⟨s1,s2⟩:=sq_bd hr0 hr1
 obtain ⟨d1,d2⟩:=zVj (px:=px) (py:=py) ha hb
 obtain ⟨x5,x6⟩:=vQ (a:=r * r) (b:=vZ px py ax ay bx by') (B:=16777216) (C:=52428800) (by omega) (by omega) (by omega) (by omega) (by omega)
 have HP:Hid _:=hp
 have HA:Hid _:=ha
 have HB:Hid _:=hb
 clear hp ha hb
 go_enter Tryz.func252,Tryz.ntmps252
 go_wp2_with fail
 generalize hV:((((w.alloc _).alloc _).alloc _).alloc _:World)=V
 have hB0:Bw w V:=by subst hV;exact Qb
 have g0:V.cell? ⟨w.heap.size+1+1+1,0,none⟩=some (.int .i64 px):=by subst hV;simp [go_sem]
 have g1:V.cell? ⟨w.heap.size+1+1+1,1,none⟩=some (.int .i64 py):=by subst hV;simp [go_sem]
 have g2:V.cell? ⟨w.heap.size+1+1+1,2,none⟩=some (.int .i64 ax):=by subst hV;simp [go_sem]
 have g3:V.cell? ⟨w.heap.size+1+1+1,3,none⟩=some (.int .i64 ay):=by subst hV;simp [go_sem]
 have g4:V.cell? ⟨w.heap.size+1+1+1,4,none⟩=some (.int .i64 bx):=by subst hV;simp [go_sem]
 have g5:V.cell? ⟨w.heap.size+1+1+1,5,none⟩=some (.int .i64 by'):=by subst hV;simp [go_sem]
 have c00:∀ W',Bw V W'→W'.cell? ⟨w.heap.size,0,none⟩=some (.int .i64 px):=Qc hV
 have c01:∀ W',Bw V W'→W'.cell? ⟨w.heap.size,1,none⟩=some (.int .i64 py):=Qc hV
 have c10:∀ W',Bw V W'→W'.cell? ⟨w.heap.size+1,0,none⟩=some (.int .i64 ax):=Qc hV
 have c11:∀ W',Bw V W'→W'.cell? ⟨w.heap.size+1,1,none⟩=some (.int .i64 ay):=Qc hV
 have c20:∀ W',Bw V W'→W'.cell? ⟨w.heap.size+1+1,0,none⟩=some (.int .i64 bx):=Qc hV
 have c21:∀ W',Bw V W'→W'.cell? ⟨w.heap.size+1+1,1,none⟩=some (.int .i64 by'):=Qc hV
 clear hV
 have HB0:Hid (Bw w V):=hB0
 clear hB0
 refine (zF8 _ _ px py ax ay bx by' _ _ g0 g1 g2 g3 g4 g5 (by omega) HN.out).mono ?_
 rintro e W ⟨rfl,hbW⟩
 clear g0 g1 g2 g3 g4 g5
 replace HB0:Hid (Bw w W):=zA HB0.out hbW
 have HVW:Hid (∀ W',Bw W W'→Bw V W'):=fun W' h=>zA hbW h
 replace c00:=fun W' h=>c00 W' (HVW.out W' h)
 replace c01:=fun W' h=>c01 W' (HVW.out W' h)
 replace c10:=fun W' h=>c10 W' (HVW.out W' h)
 replace c11:=fun W' h=>c11 W' (HVW.out W' h)
 replace c20:=fun W' h=>c20 W' (HVW.out W' h)
 replace c21:=fun W' h=>c21 W' (HVW.out W' h)
 clear hbW
 go_wp2
 go_region_held3 (fun W'=>Bw W W') ((repeat (first|exact Qr _ _|assumption|refine Qd ?_|refine Qa ?_ _|refine Qt ?_|refine Qs ?_ _|refine Qo ?_ ?_ _ _)))
  (first
   | (go_at_call 266;refine (zAz _ _ _).mono ?_;rintro e w1 ⟨rfl,hb⟩)
   | (go_at_call 268;refine (zUe _ _ _ _ _ _ _ HP.out HA.out HB.out).mono ?_;rintro e w1 ⟨rfl,hb⟩))
 go_wp2
 go_ret
 exact ⟨zG HE.out.symm,zA HB0.out (by assumption)⟩
theorem zG7 (px py ax ay bx by' r:Int)(w:World):Calls Tryz.prog 252 #[.agg #[.int .i64 px,.int .i64 py],.agg #[.int .i64 ax,.int .i64 ay],.agg #[.int .i64 bx,.int .i64 by'],.int .i64 r] w fun e w'=>e=.returned (.bool (yG px py ax ay bx by' r))∧Bw w w':=by
 by_cases h0:r<0
 ·exact zG5 _ _ _ _ _ _ _ _ h0
 by_cases h1:4096<r
 ·exact zG6 _ _ _ _ _ _ _ _ h1
 have hr0:0≤r:=by omega
 have hr1:r≤4096:=by omega
 cases hp:okP px py
 ·exact zK2 _ _ _ _ _ _ _ _ hr0 hr1 hp
 cases ha:okP ax ay
 ·exact zK1 _ _ _ _ _ _ _ _ hr0 hr1 ha
 cases hb:okP bx by'
 ·exact zK0 _ _ _ _ _ _ _ _ hr0 hr1 hb
 exact zIf _ _ _ _ _ _ _ _ hr0 hr1 hp ha hb
theorem zWy (px py ax ay bx by':Int):xX px py bx by'=xX px py ax ay - 2 * vD px py ax ay bx by'+xX ax ay bx by':=by
 unfold xX vD;grind
theorem zWd (px py ax ay bx by':Int):yR ax ay bx by' px py * yR ax ay bx by' px py+vD px py ax ay bx by' * vD px py ax ay bx by'=xX ax ay bx by' * xX px py ax ay:=by
 unfold yR vD xX;grind
theorem zPg (ax ay bx by':Int):0≤xX ax ay bx by':=by
 have s1:=zAx (bx - ax)
 have s2:=zAx (by' - ay)
 unfold xX;omega
theorem zTt {px py ax ay bx by' r:Int}(h:xX px py ax ay≤r * r):zDz px py ax ay bx by' r=true:=by
 have hs:=zPg ax ay bx by'
 have hv:=zWy px py ax ay bx by'
 have hl:=zWd px py ax ay bx by'
 have hq:=zAx (vD px py ax ay bx by')
 apply decide_eq_true
 unfold zEp vZ
 by_cases c1:vD px py ax ay bx by'≤0
 ·simp only [c1,if_true];omega
 ·by_cases c2:xX ax ay bx by'≤vD px py ax ay bx by'
  ·simp only [c1,c2,if_true,if_false];omega
  ·simp only [c1,c2,if_false]
   have h3:xX ax ay bx by' * xX px py ax ay≤xX ax ay bx by' * (r * r):=Int.mul_le_mul_of_nonneg_left h hs
   rw [Int.mul_comm (r * r)]
   omega
end Go.Proofs.YtkjbafcalamgnaaGreat
