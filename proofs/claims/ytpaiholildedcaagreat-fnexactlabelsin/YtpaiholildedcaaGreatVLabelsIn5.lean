/- Texts. -/
import Derived.Test.YtpaiholildedcaaGreatVLabelsIn4
set_option linter.unusedSimpArgs false
set_option linter.unusedVariables false
set_option maxRecDepth 100000
set_option maxHeartbeats 32000000
namespace Go.Proofs.YtpaiholildedcaaGreat
open Go.RowKit
theorem zEr (ax ay bx by':Int):yZ ax ay bx by'=yZ bx by' ax ay:=by
 unfold yZ
 rw [← Int.neg_sub bx ax,← Int.neg_sub by' ay,Int.neg_mul_neg,Int.neg_mul_neg]
theorem vJ (px py ax ay bx by':Int):xB px py ax ay bx by'=(bx - ax) * (px - ax)+(by' - ay) * (py - ay):=by
 unfold xB
 rw [Int.mul_comm (px - ax),Int.mul_comm (py - ay)]
theorem zGk (px py ax ay:Int):xB px py ax ay ax ay=0:=by simp [xB]
theorem zDj (ax ay bx by':Int):(bx - ax) * (bx - ax)+(by' - ay) * (by' - ay)=yZ ax ay bx by':=rfl
theorem zG1 {a b c d:Int}(h:a=b)(k:c=d):Ending.returned (.tuple #[.int .i64 a,.int .i64 c])=.returned (.tuple #[.int .i64 b,.int .i64 d]):=by rw [h,k]
theorem zNz (px py ax ay bx by':Int)(w:World)(hp:okP px py=true)(ha:okP ax ay=true)(hb:okP bx by'=true)(heq:∀ w,(Op.equalIn 10000 361 (.agg #[.int .i64 ax,.int .i64 ay]) (.agg #[.int .i64 bx,.int .i64 by'])).run Tryz.prog w=.ok true w) :
  Calls Tryz.prog 304 #[.agg #[.int .i64 px,.int .i64 py],.agg #[.int .i64 ax,.int .i64 ay],.agg #[.int .i64 bx,.int .i64 by']] w fun e w'=>e=.returned (.tuple #[.int .i64 ((px - ax) * (px - ax)+(py - ay) * (py - ay)),.int .i64 (1)])∧Bw w w':=by
 have HP:Hid _:=hp
 have HA:Hid _:=ha
 have HB:Hid _:=hb
 clear hp ha hb
 go_enter Tryz.func304,Tryz.ntmps304
 go_wp2_with fail
 generalize hW:(((w.alloc _).alloc _).alloc _:World)=W
 have hB0:Bw w W:=by subst hW;exact Qb
 have c00:∀ W',Bw W W'→W'.cell? ⟨w.heap.size,0,none⟩=some (.int .i64 px):=Qc hW
 have c01:∀ W',Bw W W'→W'.cell? ⟨w.heap.size,1,none⟩=some (.int .i64 py):=Qc hW
 have c10:∀ W',Bw W W'→W'.cell? ⟨w.heap.size+1,0,none⟩=some (.int .i64 ax):=Qc hW
 have c11:∀ W',Bw W W'→W'.cell? ⟨w.heap.size+1,1,none⟩=some (.int .i64 ay):=Qc hW
 have c20:∀ W',Bw W W'→W'.cell? ⟨w.heap.size+1+1,0,none⟩=some (.int .i64 bx):=Qc hW
 have c21:∀ W',Bw W W'→W'.cell? ⟨w.heap.size+1+1,1,none⟩=some (.int .i64 by'):=Qc hW
 clear hW
 have HB0:Hid (Bw w W):=hB0
 clear hB0
 have hr:Bw W W:=Below.refl _ _
 go_wp2_with (first
  | (go_at_call 308;refine (xI _ _ _ _ _ (by first | exact HA.out | exact HB.out) (by first | exact HP.out | exact HB.out)).mono ?_;rintro e w' ⟨rfl,hb⟩;have hbn:Bw W w':=(by exact Qb))
  | (go_at_call 307;refine (xG _ _ _ (by first | exact vG HA.out HP.out | exact vG HB.out HP.out | exact vG HA.out HB.out)).mono ?_;rintro e w' ⟨rfl,hb⟩;have hbn:Bw W w':=(by exact Qb)))
 go_ret2
 exact ⟨rfl,by have HB1:=HB0.out;exact Qb⟩
theorem zQd (px py ax ay bx by':Int)(w:World)(hp:okP px py=true)(ha:okP ax ay=true)(hb:okP bx by'=true)(heq:∀ w,(Op.equalIn 10000 361 (.agg #[.int .i64 ax,.int .i64 ay]) (.agg #[.int .i64 bx,.int .i64 by'])).run Tryz.prog w=.ok false w)(c1:(bx - ax) * (px - ax)+(by' - ay) * (py - ay)≤0) :
  Calls Tryz.prog 304 #[.agg #[.int .i64 px,.int .i64 py],.agg #[.int .i64 ax,.int .i64 ay],.agg #[.int .i64 bx,.int .i64 by']] w fun e w'=>e=.returned (.tuple #[.int .i64 ((px - ax) * (px - ax)+(py - ay) * (py - ay)),.int .i64 (1)])∧Bw w w':=by
 have HP:Hid _:=hp
 have HA:Hid _:=ha
 have HB:Hid _:=hb
 clear hp ha hb
 go_enter Tryz.func304,Tryz.ntmps304
 go_wp2_with fail
 generalize hW:(((w.alloc _).alloc _).alloc _:World)=W
 have hB0:Bw w W:=by subst hW;exact Qb
 have c00:∀ W',Bw W W'→W'.cell? ⟨w.heap.size,0,none⟩=some (.int .i64 px):=Qc hW
 have c01:∀ W',Bw W W'→W'.cell? ⟨w.heap.size,1,none⟩=some (.int .i64 py):=Qc hW
 have c10:∀ W',Bw W W'→W'.cell? ⟨w.heap.size+1,0,none⟩=some (.int .i64 ax):=Qc hW
 have c11:∀ W',Bw W W'→W'.cell? ⟨w.heap.size+1,1,none⟩=some (.int .i64 ay):=Qc hW
 have c20:∀ W',Bw W W'→W'.cell? ⟨w.heap.size+1+1,0,none⟩=some (.int .i64 bx):=Qc hW
 have c21:∀ W',Bw W W'→W'.cell? ⟨w.heap.size+1+1,1,none⟩=some (.int .i64 by'):=Qc hW
 clear hW
 have HB0:Hid (Bw w W):=hB0
 clear hB0
 have hr:Bw W W:=Below.refl _ _
 go_wp2_with (first
  | (go_at_call 308;refine (xI _ _ _ _ _ (by first | exact HA.out | exact HB.out) (by first | exact HP.out | exact HB.out)).mono ?_;rintro e w' ⟨rfl,hb⟩;have hbn:Bw W w':=(by exact Qb)))
 have hl:w'.heap.size<w'.heap.size+1:=by omega
 generalize hV:(w'.alloc _:World)=V
 have hWV:Bw W V:=by subst hV;exact Qb
 have g0:∀ W',Bw V W'→W'.cell? ⟨w'.heap.size,0,none⟩=some (.int .i64 (bx - ax)):=Qc hV
 have g1:∀ W',Bw V W'→W'.cell? ⟨w'.heap.size,1,none⟩=some (.int .i64 (by' - ay)):=Qc hV
 clear hV hl
 have HVW:Hid (∀ W',Bw V W'→Bw W W'):=fun W' h=>zA hWV h
 replace c00:=fun W' h=>c00 W' (HVW.out W' h)
 replace c01:=fun W' h=>c01 W' (HVW.out W' h)
 replace c10:=fun W' h=>c10 W' (HVW.out W' h)
 replace c11:=fun W' h=>c11 W' (HVW.out W' h)
 replace c20:=fun W' h=>c20 W' (HVW.out W' h)
 replace c21:=fun W' h=>c21 W' (HVW.out W' h)
 have HBV:Hid (Bw w V):=zA HB0.out hWV
 clear hr hb hbn hWV
 go_region_held3 (fun W'=>Bw V W') ((repeat (first|exact Qr _ _|assumption|refine Qd ?_|refine Qa ?_ _|refine Qt ?_|refine Qs ?_ _|refine Qo ?_ ?_ _ _)))
  (first
   | (go_at_call 308;refine (xI _ _ _ _ _ HA.out HP.out).mono ?_;rintro e w1 ⟨rfl,hb⟩)
   | (go_at_call 309;refine (zCe _ _ _ _ _ (vG HA.out HB.out) (vG HA.out HP.out)).mono ?_;rintro e w1 ⟨rfl,hb⟩)
   | (go_at_call 307;refine (xG _ _ _ (vG HA.out HB.out)).mono ?_;rintro e w1 ⟨rfl,hb⟩))
 go_wp2_with (first
  | (go_at_call 308;refine (xI _ _ _ _ _ (by first | exact HA.out | exact HB.out) (by exact HP.out)).mono ?_;rintro e w2 ⟨rfl,hbz⟩;have hbn:Bw V w2:=(by exact Qb))
  | (go_at_call 307;refine (xG _ _ _ (by first | exact vG HA.out HP.out | exact vG HB.out HP.out)).mono ?_;rintro e w2 ⟨rfl,hbz⟩;have hbn:Bw V w2:=(by exact Qb)))
 go_ret2
 exact ⟨rfl,by have HB1:=HBV.out;exact Qb⟩
theorem zN0 (px py ax ay bx by':Int)(w:World)(hp:okP px py=true)(ha:okP ax ay=true)(hb:okP bx by'=true)(heq:∀ w,(Op.equalIn 10000 361 (.agg #[.int .i64 ax,.int .i64 ay]) (.agg #[.int .i64 bx,.int .i64 by'])).run Tryz.prog w=.ok false w)(c1:¬ (bx - ax) * (px - ax)+(by' - ay) * (py - ay)≤0)(c2:(bx - ax) * (bx - ax)+(by' - ay) * (by' - ay)≤(bx - ax) * (px - ax)+(by' - ay) * (py - ay)) :
  Calls Tryz.prog 304 #[.agg #[.int .i64 px,.int .i64 py],.agg #[.int .i64 ax,.int .i64 ay],.agg #[.int .i64 bx,.int .i64 by']] w fun e w'=>e=.returned (.tuple #[.int .i64 ((px - bx) * (px - bx)+(py - by') * (py - by')),.int .i64 (1)])∧Bw w w':=by
 have HP:Hid _:=hp
 have HA:Hid _:=ha
 have HB:Hid _:=hb
 clear hp ha hb
 go_enter Tryz.func304,Tryz.ntmps304
 go_wp2_with fail
 generalize hW:(((w.alloc _).alloc _).alloc _:World)=W
 have hB0:Bw w W:=by subst hW;exact Qb
 have c00:∀ W',Bw W W'→W'.cell? ⟨w.heap.size,0,none⟩=some (.int .i64 px):=Qc hW
 have c01:∀ W',Bw W W'→W'.cell? ⟨w.heap.size,1,none⟩=some (.int .i64 py):=Qc hW
 have c10:∀ W',Bw W W'→W'.cell? ⟨w.heap.size+1,0,none⟩=some (.int .i64 ax):=Qc hW
 have c11:∀ W',Bw W W'→W'.cell? ⟨w.heap.size+1,1,none⟩=some (.int .i64 ay):=Qc hW
 have c20:∀ W',Bw W W'→W'.cell? ⟨w.heap.size+1+1,0,none⟩=some (.int .i64 bx):=Qc hW
 have c21:∀ W',Bw W W'→W'.cell? ⟨w.heap.size+1+1,1,none⟩=some (.int .i64 by'):=Qc hW
 clear hW
 have HB0:Hid (Bw w W):=hB0
 clear hB0
 have hr:Bw W W:=Below.refl _ _
 go_wp2_with (first
  | (go_at_call 308;refine (xI _ _ _ _ _ (by first | exact HA.out | exact HB.out) (by first | exact HP.out | exact HB.out)).mono ?_;rintro e w' ⟨rfl,hb⟩;have hbn:Bw W w':=(by exact Qb)))
 have hl:w'.heap.size<w'.heap.size+1:=by omega
 generalize hV:(w'.alloc _:World)=V
 have hWV:Bw W V:=by subst hV;exact Qb
 have g0:∀ W',Bw V W'→W'.cell? ⟨w'.heap.size,0,none⟩=some (.int .i64 (bx - ax)):=Qc hV
 have g1:∀ W',Bw V W'→W'.cell? ⟨w'.heap.size,1,none⟩=some (.int .i64 (by' - ay)):=Qc hV
 clear hV hl
 have HVW:Hid (∀ W',Bw V W'→Bw W W'):=fun W' h=>zA hWV h
 replace c00:=fun W' h=>c00 W' (HVW.out W' h)
 replace c01:=fun W' h=>c01 W' (HVW.out W' h)
 replace c10:=fun W' h=>c10 W' (HVW.out W' h)
 replace c11:=fun W' h=>c11 W' (HVW.out W' h)
 replace c20:=fun W' h=>c20 W' (HVW.out W' h)
 replace c21:=fun W' h=>c21 W' (HVW.out W' h)
 have HBV:Hid (Bw w V):=zA HB0.out hWV
 clear hr hb hbn hWV
 go_region_held3 (fun W'=>Bw V W') ((repeat (first|exact Qr _ _|assumption|refine Qd ?_|refine Qa ?_ _|refine Qt ?_|refine Qs ?_ _|refine Qo ?_ ?_ _ _)))
  (first
   | (go_at_call 308;refine (xI _ _ _ _ _ HA.out HP.out).mono ?_;rintro e w1 ⟨rfl,hb⟩)
   | (go_at_call 309;refine (zCe _ _ _ _ _ (vG HA.out HB.out) (vG HA.out HP.out)).mono ?_;rintro e w1 ⟨rfl,hb⟩)
   | (go_at_call 307;refine (xG _ _ _ (vG HA.out HB.out)).mono ?_;rintro e w1 ⟨rfl,hb⟩))
 go_wp2_with (first
  | (go_at_call 308;refine (xI _ _ _ _ _ (by first | exact HA.out | exact HB.out) (by exact HP.out)).mono ?_;rintro e w2 ⟨rfl,hbz⟩;have hbn:Bw V w2:=(by exact Qb))
  | (go_at_call 307;refine (xG _ _ _ (by first | exact vG HA.out HP.out | exact vG HB.out HP.out)).mono ?_;rintro e w2 ⟨rfl,hbz⟩;have hbn:Bw V w2:=(by exact Qb)))
 go_ret2
 exact ⟨rfl,by have HB1:=HBV.out;exact Qb⟩
theorem zQc (px py ax ay bx by':Int)(w:World)(hp:okP px py=true)(ha:okP ax ay=true)(hb:okP bx by'=true)(heq:∀ w,(Op.equalIn 10000 361 (.agg #[.int .i64 ax,.int .i64 ay]) (.agg #[.int .i64 bx,.int .i64 by'])).run Tryz.prog w=.ok false w)(c1:¬ (bx - ax) * (px - ax)+(by' - ay) * (py - ay)≤0)(c2:¬ (bx - ax) * (bx - ax)+(by' - ay) * (by' - ay)≤(bx - ax) * (px - ax)+(by' - ay) * (py - ay)) :
  Calls Tryz.prog 304 #[.agg #[.int .i64 px,.int .i64 py],.agg #[.int .i64 ax,.int .i64 ay],.agg #[.int .i64 bx,.int .i64 by']] w fun e w'=>e=.returned (.tuple #[.int .i64 (yA ax ay bx by' px py * yA ax ay bx by' px py),.int .i64 ((bx - ax) * (bx - ax)+(by' - ay) * (by' - ay))])∧Bw w w':=by
 obtain ⟨x1,x2⟩:=zMf ha hb hp
 obtain ⟨x3,x4⟩:=xL (a:=yA ax ay bx by' px py) (b:=yA ax ay bx by' px py) (B:=52428800) (C:=52428800) (by omega) (by omega) (by omega) (by omega) (by omega)
 have HP:Hid _:=hp
 have HA:Hid _:=ha
 have HB:Hid _:=hb
 clear hp ha hb
 go_enter Tryz.func304,Tryz.ntmps304
 go_wp2_with fail
 generalize hW:(((w.alloc _).alloc _).alloc _:World)=W
 have hB0:Bw w W:=by subst hW;exact Qb
 have c00:∀ W',Bw W W'→W'.cell? ⟨w.heap.size,0,none⟩=some (.int .i64 px):=Qc hW
 have c01:∀ W',Bw W W'→W'.cell? ⟨w.heap.size,1,none⟩=some (.int .i64 py):=Qc hW
 have c10:∀ W',Bw W W'→W'.cell? ⟨w.heap.size+1,0,none⟩=some (.int .i64 ax):=Qc hW
 have c11:∀ W',Bw W W'→W'.cell? ⟨w.heap.size+1,1,none⟩=some (.int .i64 ay):=Qc hW
 have c20:∀ W',Bw W W'→W'.cell? ⟨w.heap.size+1+1,0,none⟩=some (.int .i64 bx):=Qc hW
 have c21:∀ W',Bw W W'→W'.cell? ⟨w.heap.size+1+1,1,none⟩=some (.int .i64 by'):=Qc hW
 clear hW
 have HB0:Hid (Bw w W):=hB0
 clear hB0
 have hr:Bw W W:=Below.refl _ _
 go_wp2_with (first
  | (go_at_call 308;refine (xI _ _ _ _ _ (by first | exact HA.out | exact HB.out) (by first | exact HP.out | exact HB.out)).mono ?_;rintro e w' ⟨rfl,hb⟩;have hbn:Bw W w':=(by exact Qb)))
 have hl:w'.heap.size<w'.heap.size+1:=by omega
 generalize hV:(w'.alloc _:World)=V
 have hWV:Bw W V:=by subst hV;exact Qb
 have g0:∀ W',Bw V W'→W'.cell? ⟨w'.heap.size,0,none⟩=some (.int .i64 (bx - ax)):=Qc hV
 have g1:∀ W',Bw V W'→W'.cell? ⟨w'.heap.size,1,none⟩=some (.int .i64 (by' - ay)):=Qc hV
 clear hV hl
 have HVW:Hid (∀ W',Bw V W'→Bw W W'):=fun W' h=>zA hWV h
 replace c00:=fun W' h=>c00 W' (HVW.out W' h)
 replace c01:=fun W' h=>c01 W' (HVW.out W' h)
 replace c10:=fun W' h=>c10 W' (HVW.out W' h)
 replace c11:=fun W' h=>c11 W' (HVW.out W' h)
 replace c20:=fun W' h=>c20 W' (HVW.out W' h)
 replace c21:=fun W' h=>c21 W' (HVW.out W' h)
 have HBV:Hid (Bw w V):=zA HB0.out hWV
 clear hr hb hbn hWV
 go_region_held3 (fun W'=>Bw V W') ((repeat (first|exact Qr _ _|assumption|refine Qd ?_|refine Qa ?_ _|refine Qt ?_|refine Qs ?_ _|refine Qo ?_ ?_ _ _)))
  (first
   | (go_at_call 308;refine (xI _ _ _ _ _ HA.out HP.out).mono ?_;rintro e w1 ⟨rfl,hb⟩)
   | (go_at_call 309;refine (zCe _ _ _ _ _ (vG HA.out HB.out) (vG HA.out HP.out)).mono ?_;rintro e w1 ⟨rfl,hb⟩)
   | (go_at_call 307;refine (xG _ _ _ (vG HA.out HB.out)).mono ?_;rintro e w1 ⟨rfl,hb⟩))
 go_wp2_with (first
  | (go_at_call 306;refine (zCj _ _ _ _ _ _ _ HA.out HB.out HP.out).mono ?_;rintro e w2 ⟨rfl,hbz⟩;have hbn:Bw V w2:=(by exact Qb)))
 go_ret2
 exact ⟨rfl,by have HB1:=HBV.out;exact Qb⟩
theorem zQe (px py ax ay bx by':Int)(w:World)(hp:okP px py=true)(ha:okP ax ay=true)(hb:okP bx by'=true) :
  Calls Tryz.prog 304 #[.agg #[.int .i64 px,.int .i64 py],.agg #[.int .i64 ax,.int .i64 ay],.agg #[.int .i64 bx,.int .i64 by']] w fun e w'=>e=.returned (.tuple #[.int .i64 (zCn px py ax ay bx by'),.int .i64 (vA px py ax ay bx by')])∧Bw w w':=by
 have heq:=fun (w:World)=>zJi 9998 ax ay bx by' w
 by_cases e1:ax=bx∧ay=by'
 ·obtain ⟨rfl,rfl⟩:=e1
  refine (zNz px py ax ay ax ay w hp ha hb (fun w=>by rw [heq w];simp)).mono ?_
  rintro e w' ⟨rfl,h⟩
  exact ⟨zG1 (by rw [zCn,zGk,if_pos (Int.le_refl 0),zEr];rfl) (by rw [vA,zGk,if_pos (Int.le_refl 0)]),h⟩
 ·have hf:((ax == bx) && (ay == by'))=false:=by
   by_cases q:ax=bx
   ·have:¬ ay=by':=fun h=>e1 ⟨q,h⟩
    simp [q,this]
   ·simp [q]
  by_cases c1:(bx - ax) * (px - ax)+(by' - ay) * (py - ay)≤0
  ·refine (zQd px py ax ay bx by' w hp ha hb (fun w=>by rw [heq w,hf]) c1).mono ?_
   rintro e w' ⟨rfl,h⟩
   exact ⟨zG1 (by rw [zCn,vJ,if_pos c1,zEr];rfl) (by rw [vA,vJ,if_pos c1]),h⟩
  ·by_cases c2:(bx - ax) * (bx - ax)+(by' - ay) * (by' - ay)≤(bx - ax) * (px - ax)+(by' - ay) * (py - ay)
   ·refine (zN0 px py ax ay bx by' w hp ha hb (fun w=>by rw [heq w,hf]) c1 c2).mono ?_
    rintro e w' ⟨rfl,h⟩
    exact ⟨zG1 (by rw [zCn,vJ,if_neg c1,if_pos (by rw [← zDj];exact c2),zEr];rfl) (by rw [vA,vJ,if_neg c1,if_pos (by rw [← zDj];exact c2)]),h⟩
   ·refine (zQc px py ax ay bx by' w hp ha hb (fun w=>by rw [heq w,hf]) c1 c2).mono ?_
    rintro e w' ⟨rfl,h⟩
    exact ⟨zG1 (by rw [zCn,vJ,if_neg c1,if_neg (by rw [← zDj];exact c2)]) (by rw [vA,vJ,if_neg c1,if_neg (by rw [← zDj];exact c2)];rfl),h⟩
theorem zSa (px py ax ay bx by':Int)(w:World)(hp:okP px py=true)(ha:okP ax ay=true)(hb:okP bx by'=true)(h1:py<ay)(h2:py<by') :
  Calls Tryz.prog 285 #[.agg #[.int .i64 px,.int .i64 py],.agg #[.int .i64 ax,.int .i64 ay],.agg #[.int .i64 bx,.int .i64 by']] w fun e w'=>e=.returned (.bool (yM px py ax ay bx by'))∧Bw w w':=by
 have HP:Hid (okP px py=true):=hp
 have HA:Hid (okP ax ay=true):=ha
 have HB:Hid (okP bx by'=true):=hb
 clear hp ha hb
 have HE:Hid (yM px py ax ay bx by'=false):=by
  show _=_
  simp [yM,h1,h2]
 go_enter Tryz.func285,Tryz.ntmps285
 go_wp2
 go_ret
 exact ⟨zF HE.out.symm,Qb⟩
theorem zR9 (px py ax ay bx by':Int)(w:World)(hp:okP px py=true)(ha:okP ax ay=true)(hb:okP bx by'=true)(h1:¬ py<ay)(h2:¬ py<by') :
  Calls Tryz.prog 285 #[.agg #[.int .i64 px,.int .i64 py],.agg #[.int .i64 ax,.int .i64 ay],.agg #[.int .i64 bx,.int .i64 by']] w fun e w'=>e=.returned (.bool (yM px py ax ay bx by'))∧Bw w w':=by
 have HP:Hid (okP px py=true):=hp
 have HA:Hid (okP ax ay=true):=ha
 have HB:Hid (okP bx by'=true):=hb
 clear hp ha hb
 have HE:Hid (yM px py ax ay bx by'=false):=by
  show _=_
  simp [yM,h1,h2]
 go_enter Tryz.func285,Tryz.ntmps285
 go_wp2
 go_ret
 exact ⟨zF HE.out.symm,Qb⟩
theorem zR8 (px py ax ay bx by':Int)(w:World)(hp:okP px py=true)(ha:okP ax ay=true)(hb:okP bx by'=true)(h1:¬ py<ay)(h2:py<by') :
  Calls Tryz.prog 285 #[.agg #[.int .i64 px,.int .i64 py],.agg #[.int .i64 ax,.int .i64 ay],.agg #[.int .i64 bx,.int .i64 by']] w fun e w'=>e=.returned (.bool (yM px py ax ay bx by'))∧Bw w w':=by
 have HP:Hid (okP px py=true):=hp
 have HA:Hid (okP ax ay=true):=ha
 have HB:Hid (okP bx by'=true):=hb
 clear hp ha hb
 have h3:ay<by':=by omega
 have HE:Hid (yM px py ax ay bx by'=decide (0<yA ax ay bx by' px py)):=by
  show _=_
  simp [yM,h1,h2,h3]
 go_enter Tryz.func285,Tryz.ntmps285
 go_wp2_with fail
 generalize hW:(((w.alloc _).alloc _).alloc _:World)=W
 have hB0:Bw w W:=by subst hW;exact Qb
 have c00:∀ W',Bw W W'→W'.cell? ⟨w.heap.size,0,none⟩=some (.int .i64 px):=Qc hW
 have c01:∀ W',Bw W W'→W'.cell? ⟨w.heap.size,1,none⟩=some (.int .i64 py):=Qc hW
 have c10:∀ W',Bw W W'→W'.cell? ⟨w.heap.size+1,0,none⟩=some (.int .i64 ax):=Qc hW
 have c11:∀ W',Bw W W'→W'.cell? ⟨w.heap.size+1,1,none⟩=some (.int .i64 ay):=Qc hW
 have c20:∀ W',Bw W W'→W'.cell? ⟨w.heap.size+1+1,0,none⟩=some (.int .i64 bx):=Qc hW
 have c21:∀ W',Bw W W'→W'.cell? ⟨w.heap.size+1+1,1,none⟩=some (.int .i64 by'):=Qc hW
 clear hW
 have HB0:Hid (Bw w W):=hB0
 clear hB0
 have hr:Bw W W:=Below.refl _ _
 go_wp2_with (go_at_call 287;refine (zBl _ _ _ _ _ _ _ HA.out HB.out HP.out).mono ?_;rintro e w' ⟨rfl,hb⟩;have hbn:Bw W w':=(by exact Qb))
 go_ret
 exact ⟨zF HE.out.symm,by have HB1:=HB0.out;exact Qb⟩
theorem zR7 (px py ax ay bx by':Int)(w:World)(hp:okP px py=true)(ha:okP ax ay=true)(hb:okP bx by'=true)(h1:py<ay)(h2:¬ py<by') :
  Calls Tryz.prog 285 #[.agg #[.int .i64 px,.int .i64 py],.agg #[.int .i64 ax,.int .i64 ay],.agg #[.int .i64 bx,.int .i64 by']] w fun e w'=>e=.returned (.bool (yM px py ax ay bx by'))∧Bw w w':=by
 have HP:Hid (okP px py=true):=hp
 have HA:Hid (okP ax ay=true):=ha
 have HB:Hid (okP bx by'=true):=hb
 clear hp ha hb
 have h3:¬ ay<by':=by omega
 have HE:Hid (yM px py ax ay bx by'=decide (yA ax ay bx by' px py<0)):=by
  show _=_
  simp [yM,h1,h2,h3]
 go_enter Tryz.func285,Tryz.ntmps285
 go_wp2_with fail
 generalize hW:(((w.alloc _).alloc _).alloc _:World)=W
 have hB0:Bw w W:=by subst hW;exact Qb
 have c00:∀ W',Bw W W'→W'.cell? ⟨w.heap.size,0,none⟩=some (.int .i64 px):=Qc hW
 have c01:∀ W',Bw W W'→W'.cell? ⟨w.heap.size,1,none⟩=some (.int .i64 py):=Qc hW
 have c10:∀ W',Bw W W'→W'.cell? ⟨w.heap.size+1,0,none⟩=some (.int .i64 ax):=Qc hW
 have c11:∀ W',Bw W W'→W'.cell? ⟨w.heap.size+1,1,none⟩=some (.int .i64 ay):=Qc hW
 have c20:∀ W',Bw W W'→W'.cell? ⟨w.heap.size+1+1,0,none⟩=some (.int .i64 bx):=Qc hW
 have c21:∀ W',Bw W W'→W'.cell? ⟨w.heap.size+1+1,1,none⟩=some (.int .i64 by'):=Qc hW
 clear hW
 have HB0:Hid (Bw w W):=hB0
 clear hB0
 have hr:Bw W W:=Below.refl _ _
 go_wp2_with (go_at_call 287;refine (zBl _ _ _ _ _ _ _ HA.out HB.out HP.out).mono ?_;rintro e w' ⟨rfl,hb⟩;have hbn:Bw W w':=(by exact Qb))
 go_ret
 exact ⟨zF HE.out.symm,by have HB1:=HB0.out;exact Qb⟩
theorem zGb (px py ax ay bx by':Int)(w:World)(hp:okP px py=true)(ha:okP ax ay=true)(hb:okP bx by'=true) :
  Calls Tryz.prog 285 #[.agg #[.int .i64 px,.int .i64 py],.agg #[.int .i64 ax,.int .i64 ay],.agg #[.int .i64 bx,.int .i64 by']] w fun e w'=>e=.returned (.bool (yM px py ax ay bx by'))∧Bw w w':=by
 by_cases h1:py<ay <;> by_cases h2:py<by'
 ·exact zSa _ _ _ _ _ _ _ hp ha hb h1 h2
 ·exact zR7 _ _ _ _ _ _ _ hp ha hb h1 h2
 ·exact zR8 _ _ _ _ _ _ _ hp ha hb h1 h2
 ·exact zR9 _ _ _ _ _ _ _ hp ha hb h1 h2
def vL (px py:Int)(n:Nat)(X Y:Nat→Int)(i:Nat):Bool:=yM px py (X i) (Y i) (X ((i+1) % n)) (Y ((i+1) % n))
theorem zI3 (px py:Int)(b n cap:Nat)(X Y:Nat→Int)(w:World)(hp:okP px py=true)(hpt:zK w b 0 n X Y)(hbl:b<w.heap.size)(hok:∀ i,i<n→okP (X i) (Y i)=true)(hcap:n≤cap)(hmax:n≤1048576) :
  Calls Tryz.prog 257 #[.agg #[.int .i64 px,.int .i64 py],.slice (some ⟨b,0,none⟩) n cap] w fun e w'=>e=.returned (.bool (vF (vL px py n X Y) n))∧Bw w w':=by
 have HP:Hid (okP px py=true):=hp
 have HQ:Hid (zK w b 0 n X Y):=hpt
 have HO:Hid (∀ i,i<n→okP (X i) (Y i)=true):=hok
 clear hp hpt hok
 go_enter Tryz.func257,Tryz.ntmps257
 go_wp2
 generalize hW:(w.alloc _:World)=W
 have hB0:Bw w W:=by subst hW;exact Qb
 have c00:∀ W',Bw W W'→W'.cell? ⟨w.heap.size,0,none⟩=some (.int .i64 px):=Qc hW
 have c01:∀ W',Bw W W'→W'.cell? ⟨w.heap.size,1,none⟩=some (.int .i64 py):=Qc hW
 clear hW
 have HB0:Hid (Bw w W):=hB0
 have HQ1:Hid (zK W b 0 n X Y):=HQ.out.below hB0 hbl
 have hblW:b<W.heap.size:=Nat.lt_of_lt_of_le hbl hB0.size
 clear hB0 HQ hbl
 go_loopw [5,6] (fun q i wr=>∃ k:Nat,k≤n∧i=.int .i64 k∧q=.bool (vF (vL px py n X Y) k)∧Bw W wr) (fun _ i _=>n - (intOf i).toNat)
 case atStart=>exact ⟨0,by omega,rfl,rfl,Below.refl _ _⟩
 case round =>
  obtain ⟨k,hk,rfl,rfl,hB⟩:=hrel
  by_cases hlt:k<n
  ·have hP1:=HQ1.out.below hB hblW
   have hbr:b<wr.heap.size:=Nat.lt_of_lt_of_le hblW hB.size
   have d0:∀ W',Bw wr W'→W'.cell? ⟨b,k * 2,none⟩=some (.int .i64 (X k)):=fun W' h=>by
    simpa using (hP1.below h hbr k hlt).1
   have d1:∀ W',Bw wr W'→W'.cell? ⟨b,k * 2+1,none⟩=some (.int .i64 (Y k)):=fun W' h=>by
    simpa using (hP1.below h hbr k hlt).2
   replace c00:=fun W' (h:Below wr.heap.size wr W')=>c00 W' (zA hB h)
   replace c01:=fun W' (h:Below wr.heap.size wr W')=>c01 W' (zA hB h)
   have HB:Hid (Bw W wr):=hB
   have hi:(k:Int)<(n:Int):=by omega
   have hi0:(0:Int)≤(k:Int):=by omega
   have hwr:IntKind.i64.wrap ((k:Int)+1)=(k:Int)+1:=IntWalk.i64_in _ (by omega)
   have hodd:Hid (vF (vL px py n X Y) (k+1)=if vL px py n X Y k=true then !(vF (vL px py n X Y) k) else vF (vL px py n X Y) k):=rfl
   by_cases hnx:k+1<n
   ·have hm:(k+1) % n=k+1:=Nat.mod_eq_of_lt hnx
    have HS:Hid (vL px py n X Y k=yM px py (X k) (Y k) (X (k+1)) (Y (k+1))):=by show _=_;unfold vL;rw [hm]
    have hmi:((k:Int)+1) % (n:Int)=(k:Int)+1:=Int.emod_eq_of_lt (by omega) (by omega)
    have hmt:((k:Int)+1).tmod (n:Int)=(k:Int)+1:=by rw [Int.tmod_eq_emod_of_nonneg (by omega)];exact hmi
    have hn0:¬ n=0:=by omega
    have e0:∀ W',Bw wr W'→W'.cell? ⟨b,(k+1) * 2,none⟩=some (.int .i64 (X (k+1))):=fun W' h=>by
     simpa using (hP1.below h hbr (k+1) hnx).1
    have e1:∀ W',Bw wr W'→W'.cell? ⟨b,(k+1) * 2+1,none⟩=some (.int .i64 (Y (k+1))):=fun W' h=>by
     simpa using (hP1.below h hbr (k+1) hnx).2
    have HK1:Hid (okP (X k) (Y k)=true):=HO.out k hlt
    have HK2:Hid (okP (X (k+1)) (Y (k+1))=true):=HO.out (k+1) hnx
    have hi2:((k:Int)+1)<(n:Int):=by omega
    have hi3:(0:Int)≤(k:Int)+1:=by omega
    clear hP1 hB
    cases hsv:yM px py (X k) (Y k) (X (k+1)) (Y (k+1))
    all_goals
     go_wp2
     go_region_held3 (fun W'=>Bw wr W') ((repeat (first|exact Qr _ _|assumption|refine Qd ?_|refine Qa ?_ _|refine Qt ?_|refine Qs ?_ _|refine Qo ?_ ?_ _ _)))
      (first
       | (go_at_call 285;refine (zGb _ _ _ _ _ _ _ HP.out HK1.out HK2.out).mono ?_;rintro e w' ⟨rfl,hb⟩))
     go_wp2
     go_roundw
     case rel=>exact ⟨k+1,by omega,by go_num,congrArg Value.bool (by rw [hodd.out,HS.out,hsv];rfl),zA HB.out (by assumption)⟩
     case measure=>simp [intOf];omega
   ·have hkn:k+1=n:=by omega
    have hm:(k+1) % n=0:=by rw [hkn];exact Nat.mod_self n
    have HS:Hid (vL px py n X Y k=yM px py (X k) (Y k) (X 0) (Y 0)):=by show _=_;unfold vL;rw [hm]
    have hmi:((k:Int)+1) % (n:Int)=0:=by
     have:((k:Int)+1)=(n:Int):=by omega
     rw [this];exact Int.emod_self
    have hmt:((k:Int)+1).tmod (n:Int)=0:=by rw [Int.tmod_eq_emod_of_nonneg (by omega)];exact hmi
    have hn0:¬ n=0:=by omega
    have hnp:(0:Int)<(n:Int):=by omega
    have hnp':0<n:=by omega
    have e0:∀ W',Bw wr W'→W'.cell? ⟨b,0,none⟩=some (.int .i64 (X 0)):=fun W' h=>by
     simpa using (hP1.below h hbr 0 (by omega)).1
    have e1:∀ W',Bw wr W'→W'.cell? ⟨b,1,none⟩=some (.int .i64 (Y 0)):=fun W' h=>by
     simpa using (hP1.below h hbr 0 (by omega)).2
    have HK1:Hid (okP (X k) (Y k)=true):=HO.out k hlt
    have HK2:Hid (okP (X 0) (Y 0)=true):=HO.out 0 (by omega)
    clear hkn hnx hP1 hB
    cases hsv:yM px py (X k) (Y k) (X 0) (Y 0)
    all_goals
     go_wp2
     go_region_held3 (fun W'=>Bw wr W') ((repeat (first|exact Qr _ _|assumption|refine Qd ?_|refine Qa ?_ _|refine Qt ?_|refine Qs ?_ _|refine Qo ?_ ?_ _ _)))
      (first
       | (go_at_call 285;refine (zGb _ _ _ _ _ _ _ HP.out HK1.out HK2.out).mono ?_;rintro e w' ⟨rfl,hb⟩))
     go_wp2
     go_roundw
     case rel=>exact ⟨k+1,by omega,by go_num,congrArg Value.bool (by rw [hodd.out,HS.out,hsv];rfl),zA HB.out (by assumption)⟩
     case measure=>simp [intOf];omega
  ·go_wp2
   go_ret
   have hkn:k=n:=by omega
   subst hkn
   exact ⟨rfl,zA HB0.out hB⟩
theorem zJa (px py ax ay bx by':Int)(w:World)(hp:okP px py=true)(ha:okP ax ay=true)(hb:okP bx by'=true)(h:ay≤by')(h1:ay≤py)(h2:py<by') :
  Calls Tryz.prog 303 #[.agg #[.int .i64 px,.int .i64 py],.agg #[.int .i64 ax,.int .i64 ay],.agg #[.int .i64 bx,.int .i64 by']] w fun e w'=>e=.returned (.bool (yM px py ax ay bx by'))∧Bw w w':=by
 have HP:Hid (okP px py=true):=hp
 have HA:Hid (okP ax ay=true):=ha
 have HB:Hid (okP bx by'=true):=hb
 clear hp ha hb
 have HE:Hid (yM px py ax ay bx by'=decide (0<yA ax ay bx by' px py)):=by
  show _=_
  rw [zKp h]
  simp [h1,h2]
 have h':¬ by'<ay:=by omega
 go_enter Tryz.func303,Tryz.ntmps303
 go_wp2
 generalize hW:(((w.alloc _).alloc _).alloc _:World)=W
 have hB0:Bw w W:=by subst hW;exact Qb
 have c00:∀ W',Bw W W'→W'.cell? ⟨w.heap.size,0,none⟩=some (.int .i64 px):=Qc hW
 have c01:∀ W',Bw W W'→W'.cell? ⟨w.heap.size,1,none⟩=some (.int .i64 py):=Qc hW
 have c10:∀ W',Bw W W'→W'.cell? ⟨w.heap.size+1,0,none⟩=some (.int .i64 ax):=Qc hW
 have c11:∀ W',Bw W W'→W'.cell? ⟨w.heap.size+1,1,none⟩=some (.int .i64 ay):=Qc hW
 have c20:∀ W',Bw W W'→W'.cell? ⟨w.heap.size+1+1,0,none⟩=some (.int .i64 bx):=Qc hW
 have c21:∀ W',Bw W W'→W'.cell? ⟨w.heap.size+1+1,1,none⟩=some (.int .i64 by'):=Qc hW
 clear hW
 have HB0:Hid (Bw w W):=hB0
 clear hB0
 go_cut [7,8] (fun t s wc=>∃ b d:Nat,t=.pointer (some ⟨b,0,none⟩)∧s=.pointer (some ⟨d,0,none⟩)∧b≠d∧Bw W wc∧W.heap.size≤b∧W.heap.size≤d∧wc.cell? ⟨b,0,none⟩=some (.int .i64 ax)∧wc.cell? ⟨b,1,none⟩=some (.int .i64 ay)∧wc.cell? ⟨d,0,none⟩=some (.int .i64 bx)∧wc.cell? ⟨d,1,none⟩=some (.int .i64 by')∧wc.frozen? ⟨b,0,none⟩=false∧wc.frozen? ⟨b,1,none⟩=false∧wc.frozen? ⟨d,0,none⟩=false∧wc.frozen? ⟨d,1,none⟩=false)
 case first =>
  go_region_held3 (fun W'=>Bw W W') ((repeat (first|exact Qr _ _|assumption|refine Qd ?_|refine Qa ?_ _|refine Qt ?_|refine Qs ?_ _|refine Qo ?_ ?_ _ _))) (fail)
  all_goals
   go_wp2_with fail
   go_meet
   case rel =>
    refine ⟨_,_,rfl,rfl,by first | omega | (simp;done) | (simp;omega),by assumption,by first | omega | (simp;done) | (simp;omega),by first | omega | (simp;done) | (simp;omega),?_,?_,?_,?_,?_,?_,?_,?_⟩ <;> (go_simp;done)
 case rest =>
  obtain ⟨b1,d1,rfl,rfl,hne,hB1,hb1,hd1,x1,x2,x3,x4,f1,f2,f3,f4⟩:=hcut
  have hne':d1≠b1:=fun h=>hne h.symm
  go_wp2_with (go_at_call 306;refine (zCj _ _ _ _ _ _ _ HA.out HB.out HP.out).mono ?_;rintro e w' ⟨rfl,hbz⟩)
  go_ret
  exact ⟨zF HE.out.symm,zA HB0.out (by exact Qb)⟩
theorem zHi (px py ax ay bx by':Int)(w:World)(hp:okP px py=true)(ha:okP ax ay=true)(hb:okP bx by'=true)(h:ay≤by')(h1:¬ ay≤py) :
  Calls Tryz.prog 303 #[.agg #[.int .i64 px,.int .i64 py],.agg #[.int .i64 ax,.int .i64 ay],.agg #[.int .i64 bx,.int .i64 by']] w fun e w'=>e=.returned (.bool (yM px py ax ay bx by'))∧Bw w w':=by
 have HP:Hid (okP px py=true):=hp
 have HA:Hid (okP ax ay=true):=ha
 have HB:Hid (okP bx by'=true):=hb
 clear hp ha hb
 have HE:Hid (yM px py ax ay bx by'=false):=by
  show _=_
  rw [zKp h]
  simp [h1]
 have h':¬ by'<ay:=by omega
 have h1':decide (ay≤py)=false:=by simpa using h1
 go_enter Tryz.func303,Tryz.ntmps303
 go_wp2
 generalize hW:(((w.alloc _).alloc _).alloc _:World)=W
 have hB0:Bw w W:=by subst hW;exact Qb
 have c00:∀ W',Bw W W'→W'.cell? ⟨w.heap.size,0,none⟩=some (.int .i64 px):=Qc hW
 have c01:∀ W',Bw W W'→W'.cell? ⟨w.heap.size,1,none⟩=some (.int .i64 py):=Qc hW
 have c10:∀ W',Bw W W'→W'.cell? ⟨w.heap.size+1,0,none⟩=some (.int .i64 ax):=Qc hW
 have c11:∀ W',Bw W W'→W'.cell? ⟨w.heap.size+1,1,none⟩=some (.int .i64 ay):=Qc hW
 have c20:∀ W',Bw W W'→W'.cell? ⟨w.heap.size+1+1,0,none⟩=some (.int .i64 bx):=Qc hW
 have c21:∀ W',Bw W W'→W'.cell? ⟨w.heap.size+1+1,1,none⟩=some (.int .i64 by'):=Qc hW
 clear hW
 have HB0:Hid (Bw w W):=hB0
 clear hB0
 go_cut [7,8] (fun t s wc=>∃ b d:Nat,t=.pointer (some ⟨b,0,none⟩)∧s=.pointer (some ⟨d,0,none⟩)∧b≠d∧Bw W wc∧W.heap.size≤b∧W.heap.size≤d∧wc.cell? ⟨b,0,none⟩=some (.int .i64 ax)∧wc.cell? ⟨b,1,none⟩=some (.int .i64 ay)∧wc.cell? ⟨d,0,none⟩=some (.int .i64 bx)∧wc.cell? ⟨d,1,none⟩=some (.int .i64 by')∧wc.frozen? ⟨b,0,none⟩=false∧wc.frozen? ⟨b,1,none⟩=false∧wc.frozen? ⟨d,0,none⟩=false∧wc.frozen? ⟨d,1,none⟩=false)
 case first =>
  go_region_held3 (fun W'=>Bw W W') ((repeat (first|exact Qr _ _|assumption|refine Qd ?_|refine Qa ?_ _|refine Qt ?_|refine Qs ?_ _|refine Qo ?_ ?_ _ _))) (fail)
  all_goals
   go_wp2_with fail
   go_meet
   case rel =>
    refine ⟨_,_,rfl,rfl,by first | omega | (simp;done) | (simp;omega),by assumption,by first | omega | (simp;done) | (simp;omega),by first | omega | (simp;done) | (simp;omega),?_,?_,?_,?_,?_,?_,?_,?_⟩ <;> (go_simp;done)
 case rest =>
  obtain ⟨b1,d1,rfl,rfl,hne,hB1,hb1,hd1,x1,x2,x3,x4,f1,f2,f3,f4⟩:=hcut
  have hne':d1≠b1:=fun h=>hne h.symm
  go_wp2
  go_ret
  exact ⟨zF HE.out.symm,zA HB0.out (by exact Qb)⟩
theorem zHh (px py ax ay bx by':Int)(w:World)(hp:okP px py=true)(ha:okP ax ay=true)(hb:okP bx by'=true)(h:ay≤by')(h1:ay≤py)(h2:¬ py<by') :
  Calls Tryz.prog 303 #[.agg #[.int .i64 px,.int .i64 py],.agg #[.int .i64 ax,.int .i64 ay],.agg #[.int .i64 bx,.int .i64 by']] w fun e w'=>e=.returned (.bool (yM px py ax ay bx by'))∧Bw w w':=by
 have HP:Hid (okP px py=true):=hp
 have HA:Hid (okP ax ay=true):=ha
 have HB:Hid (okP bx by'=true):=hb
 clear hp ha hb
 have HE:Hid (yM px py ax ay bx by'=false):=by
  show _=_
  rw [zKp h]
  simp [h1,h2]
 have h':¬ by'<ay:=by omega
 have h2':decide (py<by')=false:=by simpa using h2
 go_enter Tryz.func303,Tryz.ntmps303
 go_wp2
 generalize hW:(((w.alloc _).alloc _).alloc _:World)=W
 have hB0:Bw w W:=by subst hW;exact Qb
 have c00:∀ W',Bw W W'→W'.cell? ⟨w.heap.size,0,none⟩=some (.int .i64 px):=Qc hW
 have c01:∀ W',Bw W W'→W'.cell? ⟨w.heap.size,1,none⟩=some (.int .i64 py):=Qc hW
 have c10:∀ W',Bw W W'→W'.cell? ⟨w.heap.size+1,0,none⟩=some (.int .i64 ax):=Qc hW
 have c11:∀ W',Bw W W'→W'.cell? ⟨w.heap.size+1,1,none⟩=some (.int .i64 ay):=Qc hW
 have c20:∀ W',Bw W W'→W'.cell? ⟨w.heap.size+1+1,0,none⟩=some (.int .i64 bx):=Qc hW
 have c21:∀ W',Bw W W'→W'.cell? ⟨w.heap.size+1+1,1,none⟩=some (.int .i64 by'):=Qc hW
 clear hW
 have HB0:Hid (Bw w W):=hB0
 clear hB0
 go_cut [7,8] (fun t s wc=>∃ b d:Nat,t=.pointer (some ⟨b,0,none⟩)∧s=.pointer (some ⟨d,0,none⟩)∧b≠d∧Bw W wc∧W.heap.size≤b∧W.heap.size≤d∧wc.cell? ⟨b,0,none⟩=some (.int .i64 ax)∧wc.cell? ⟨b,1,none⟩=some (.int .i64 ay)∧wc.cell? ⟨d,0,none⟩=some (.int .i64 bx)∧wc.cell? ⟨d,1,none⟩=some (.int .i64 by')∧wc.frozen? ⟨b,0,none⟩=false∧wc.frozen? ⟨b,1,none⟩=false∧wc.frozen? ⟨d,0,none⟩=false∧wc.frozen? ⟨d,1,none⟩=false)
 case first =>
  go_region_held3 (fun W'=>Bw W W') ((repeat (first|exact Qr _ _|assumption|refine Qd ?_|refine Qa ?_ _|refine Qt ?_|refine Qs ?_ _|refine Qo ?_ ?_ _ _))) (fail)
  all_goals
   go_wp2_with fail
   go_meet
   case rel =>
    refine ⟨_,_,rfl,rfl,by first | omega | (simp;done) | (simp;omega),by assumption,by first | omega | (simp;done) | (simp;omega),by first | omega | (simp;done) | (simp;omega),?_,?_,?_,?_,?_,?_,?_,?_⟩ <;> (go_simp;done)
 case rest =>
  obtain ⟨b1,d1,rfl,rfl,hne,hB1,hb1,hd1,x1,x2,x3,x4,f1,f2,f3,f4⟩:=hcut
  have hne':d1≠b1:=fun h=>hne h.symm
  go_wp2
  go_ret
  exact ⟨zF HE.out.symm,zA HB0.out (by exact Qb)⟩
end Go.Proofs.YtpaiholildedcaaGreat
