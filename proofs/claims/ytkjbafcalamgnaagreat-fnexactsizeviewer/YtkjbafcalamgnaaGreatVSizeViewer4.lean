/- Texts. -/
import Derived.Test.YtkjbafcalamgnaaGreatVSizeViewer1
import Derived.Deep.DeepCutAuto
set_option linter.unusedSimpArgs false
set_option linter.unusedVariables false
set_option maxRecDepth 100000
set_option maxHeartbeats 32000000
namespace Go.Proofs.YtkjbafcalamgnaaGreat
open Go.RowKit
def vH (px py ax ay bx by':Int):Int:=(px - ax) * (bx - ax)+(py - ay) * (by' - ay)
def zE0 (px py ax ay bx by':Int):Int :=
 if vH px py ax ay bx by'≤0 then xZ px py ax ay
 else if xZ ax ay bx by'≤vH px py ax ay bx by' then xZ px py bx by'
 else yT ax ay bx by' px py * yT ax ay bx by' px py
def uG (px py ax ay bx by':Int):Int :=
 if vH px py ax ay bx by'≤0 then 1
 else if xZ ax ay bx by'≤vH px py ax ay bx by' then 1
 else xZ ax ay bx by'
def zEa (px py ax ay bx by' r:Int):Bool:=decide (zE0 px py ax ay bx by'≤r * r * uG px py ax ay bx by')
theorem zA5 (a:Int):0≤a * a:=by
 rw [← Int.natAbs_mul_self]
 exact Int.natCast_nonneg _
theorem zUw {ax ay bx by':Int}(ha:okP ax ay=true)(hb:okP bx by'=true):0≤xZ ax ay bx by'∧xZ ax ay bx by'≤52428800:=by
 obtain ⟨⟨a1,a2⟩,a3,a4⟩:=vA ha
 obtain ⟨⟨b1,b2⟩,b3,b4⟩:=vA hb
 obtain ⟨p1,p2⟩:=vV (a:=bx - ax) (b:=bx - ax) (B:=5120) (C:=5120) (by omega) (by omega) (by omega) (by omega) (by omega)
 obtain ⟨q1,q2⟩:=vV (a:=by' - ay) (b:=by' - ay) (B:=5120) (C:=5120) (by omega) (by omega) (by omega) (by omega) (by omega)
 have s1:0≤(bx - ax) * (bx - ax):=zA5 _
 have s2:0≤(by' - ay) * (by' - ay):=zA5 _
 unfold xZ
 omega
theorem zQm {ax ay bx by' cx cy:Int}(ha:okP ax ay=true)(hb:okP bx by'=true)(hc:okP cx cy=true):-52428800≤yT ax ay bx by' cx cy∧yT ax ay bx by' cx cy≤52428800:=by
 obtain ⟨⟨a1,a2⟩,a3,a4⟩:=vA ha
 obtain ⟨⟨b1,b2⟩,b3,b4⟩:=vA hb
 obtain ⟨⟨c1,c2⟩,c3,c4⟩:=vA hc
 obtain ⟨p1,p2⟩:=vV (a:=bx - ax) (b:=cy - ay) (B:=5120) (C:=5120) (by omega) (by omega) (by omega) (by omega) (by omega)
 obtain ⟨q1,q2⟩:=vV (a:=by' - ay) (b:=cx - ax) (B:=5120) (C:=5120) (by omega) (by omega) (by omega) (by omega) (by omega)
 unfold yT
 omega
theorem sq_bd {r:Int}(h0:0≤r)(h1:r≤4096):0≤r * r∧r * r≤16777216:=by
 obtain ⟨p1,p2⟩:=vV (a:=r) (b:=r) (B:=4096) (C:=4096) (by omega) (by omega) (by omega) (by omega) (by omega)
 exact ⟨zA5 _,by omega⟩
theorem zJo (px py ax ay bx by' r:Int)(w:World)(hp:okP px py=true)(ha:okP ax ay=true)(hb:okP bx by'=true)(h0:0≤r)(h1:r≤4096) :
  Calls Tryz.prog 214 #[.agg #[.int .i64 px,.int .i64 py],.agg #[.int .i64 ax,.int .i64 ay],.agg #[.int .i64 bx,.int .i64 by'],.int .i64 r] w fun e w'=>e=.returned (.bool (zEa px py ax ay bx by' r))∧Bw w w':=by
 obtain ⟨⟨p1,p2⟩,p3,p4⟩:=vA hp
 obtain ⟨⟨a1,a2⟩,a3,a4⟩:=vA ha
 obtain ⟨⟨b1,b2⟩,b3,b4⟩:=vA hb
 obtain ⟨m1,m2⟩:=vV (a:=px - ax) (b:=bx - ax) (B:=5120) (C:=5120) (by omega) (by omega) (by omega) (by omega) (by omega)
 obtain ⟨m3,m4⟩:=vV (a:=py - ay) (b:=by' - ay) (B:=5120) (C:=5120) (by omega) (by omega) (by omega) (by omega) (by omega)
 obtain ⟨s1,s2⟩:=sq_bd h0 h1
 obtain ⟨d1,d2⟩:=zUw ha hb
 obtain ⟨x1,x2⟩:=zQm ha hb hp
 obtain ⟨x3,x4⟩:=vV (a:=yT ax ay bx by' px py) (b:=yT ax ay bx by' px py) (B:=52428800) (C:=52428800) (by omega) (by omega) (by omega) (by omega) (by omega)
 obtain ⟨x5,x6⟩:=vV (a:=r * r) (b:=xZ ax ay bx by') (B:=16777216) (C:=52428800) (by omega) (by omega) (by omega) (by omega) (by omega)
 have HP:Hid _:=hp
 have HA:Hid _:=ha
 have HB:Hid _:=hb
 clear hp ha hb
 have HO:Hid (zEa px py ax ay bx by' r=decide (zE0 px py ax ay bx by'≤r * r * uG px py ax ay bx by')):=rfl
 by_cases c1:(px - ax) * (bx - ax)+(py - ay) * (by' - ay)≤0
 ·have HE:Hid (zEa px py ax ay bx by' r=decide (xZ px py ax ay≤r * r)):=by
   show _=_
   simp [zEa,zE0,uG,vH,c1]
  go_enter Tryz.func214,Tryz.ntmps214
  go_wp2_with fail
  generalize hW:(((w.alloc _).alloc _).alloc _:World)=W
  have hB0:Bw w W:=by subst hW;exact Qb
  have c00:∀ W',Bw W W'→W'.cell? ⟨w.heap.size,0,none⟩=some (.int .i64 px):=Qc hW
  have c01:∀ W',Bw W W'→W'.cell? ⟨w.heap.size,1,none⟩=some (.int .i64 py):=Qc hW
  have c10:∀ W',Bw W W'→W'.cell? ⟨w.heap.size+1,0,none⟩=some (.int .i64 ax):=Qc hW
  have c11:∀ W',Bw W W'→W'.cell? ⟨w.heap.size+1,1,none⟩=some (.int .i64 ay):=Qc hW
  have c20:∀ W',Bw W W'→W'.cell? ⟨w.heap.size+1+1,0,none⟩=some (.int .i64 bx):=Qc hW
  have c21:∀ W',Bw W W'→W'.cell? ⟨w.heap.size+1+1,1,none⟩=some (.int .i64 by'):=Qc hW
  clear hW
  have HB0:Hid (Bw w W):=hB0
  clear hB0
  have hr:Bw W W:=Below.refl _ _
  go_wp2_with (first
   | (go_at_call 235;refine (zAy _ _ _ _ _ (by first | exact HP.out | exact HA.out) (by first | exact HA.out | exact HB.out)).mono ?_;rintro e w' ⟨rfl,hb⟩;have hbn:Bw W w':=(by exact Qb)))
  go_ret
  exact ⟨zG HE.out.symm,by have HB1:=HB0.out;exact Qb⟩
 ·by_cases c2:xZ ax ay bx by'≤(px - ax) * (bx - ax)+(py - ay) * (by' - ay)
  ·have HE:Hid (zEa px py ax ay bx by' r=decide (xZ px py bx by'≤r * r)):=by
    show _=_
    simp [zEa,zE0,uG,vH,c1,c2]
   go_enter Tryz.func214,Tryz.ntmps214
   go_wp2_with fail
   generalize hW:(((w.alloc _).alloc _).alloc _:World)=W
   have hB0:Bw w W:=by subst hW;exact Qb
   have c00:∀ W',Bw W W'→W'.cell? ⟨w.heap.size,0,none⟩=some (.int .i64 px):=Qc hW
   have c01:∀ W',Bw W W'→W'.cell? ⟨w.heap.size,1,none⟩=some (.int .i64 py):=Qc hW
   have c10:∀ W',Bw W W'→W'.cell? ⟨w.heap.size+1,0,none⟩=some (.int .i64 ax):=Qc hW
   have c11:∀ W',Bw W W'→W'.cell? ⟨w.heap.size+1,1,none⟩=some (.int .i64 ay):=Qc hW
   have c20:∀ W',Bw W W'→W'.cell? ⟨w.heap.size+1+1,0,none⟩=some (.int .i64 bx):=Qc hW
   have c21:∀ W',Bw W W'→W'.cell? ⟨w.heap.size+1+1,1,none⟩=some (.int .i64 by'):=Qc hW
   clear hW
   have HB0:Hid (Bw w W):=hB0
   clear hB0
   have hr:Bw W W:=Below.refl _ _
   go_wp2_with (first
    | (go_at_call 235;refine (zAy _ _ _ _ _ (by first | exact HP.out | exact HA.out) (by first | exact HA.out | exact HB.out)).mono ?_;rintro e w' ⟨rfl,hb⟩;have hbn:Bw W w':=(by exact Qb)))
   go_ret
   exact ⟨zG HE.out.symm,by have HB1:=HB0.out;exact Qb⟩
  ·have HE:Hid (zEa px py ax ay bx by' r=decide (yT ax ay bx by' px py * yT ax ay bx by' px py≤r * r * xZ ax ay bx by')):=by
    show _=_
    simp [zEa,zE0,uG,vH,c1,c2]
   go_enter Tryz.func214,Tryz.ntmps214
   go_wp2_with fail
   generalize hW:(((w.alloc _).alloc _).alloc _:World)=W
   have hB0:Bw w W:=by subst hW;exact Qb
   have c00:∀ W',Bw W W'→W'.cell? ⟨w.heap.size,0,none⟩=some (.int .i64 px):=Qc hW
   have c01:∀ W',Bw W W'→W'.cell? ⟨w.heap.size,1,none⟩=some (.int .i64 py):=Qc hW
   have c10:∀ W',Bw W W'→W'.cell? ⟨w.heap.size+1,0,none⟩=some (.int .i64 ax):=Qc hW
   have c11:∀ W',Bw W W'→W'.cell? ⟨w.heap.size+1,1,none⟩=some (.int .i64 ay):=Qc hW
   have c20:∀ W',Bw W W'→W'.cell? ⟨w.heap.size+1+1,0,none⟩=some (.int .i64 bx):=Qc hW
   have c21:∀ W',Bw W W'→W'.cell? ⟨w.heap.size+1+1,1,none⟩=some (.int .i64 by'):=Qc hW
   clear hW
   have HB0:Hid (Bw w W):=hB0
   clear hB0
   have hr:Bw W W:=Below.refl _ _
   go_wp2_with (first
    | (go_at_call 235;refine (zAy _ _ _ _ _ (by first | exact HP.out | exact HA.out) (by first | exact HA.out | exact HB.out)).mono ?_;rintro e w' ⟨rfl,hb⟩;have hbn:Bw W w':=(by exact Qb))
    | (go_at_call 236;refine (zDf _ _ _ _ _ _ _ (by exact HA.out) (by exact HB.out) (by exact HP.out)).mono ?_;rintro e w' ⟨rfl,hb⟩;have hbn:Bw W w':=(by exact Qb)))
   go_ret
   exact ⟨zG HE.out.symm,by have HB1:=HB0.out;exact Qb⟩
def yG (px py ax ay bx by' r:Int):Bool:=okP px py && (okP ax ay && (okP bx by' && (inB r 0 4096 && zEa px py ax ay bx by' r)))
abbrev wayOfW (ax ay bx by':Int)(w:World):World:=((w.alloc (.cells #[.int .i64 ax,.int .i64 ay] 322)).alloc (.cells #[.int .i64 bx,.int .i64 by'] 322)).alloc (.cells #[.int .i64 (bx - ax),.int .i64 (by' - ay)] 322)
theorem zVq (ax ay bx by':Int)(w:World)(ha:okP ax ay=true)(hb:okP bx by'=true) :
  Calls Tryz.prog 276 #[.agg #[.int .i64 ax,.int .i64 ay],.agg #[.int .i64 bx,.int .i64 by']] w fun e w'=>e=.returned (.agg #[.int .i64 (bx - ax),.int .i64 (by' - ay)])∧wayOfW ax ay bx by' w=w':=by
 obtain ⟨⟨a1,a2⟩,a3,a4⟩:=vA ha
 obtain ⟨⟨b1,b2⟩,b3,b4⟩:=vA hb
 clear ha hb
 go_enter Tryz.func276,Tryz.ntmps276
 go_wp2
 exact bodyPost_ret (v:=.agg #[.int .i64 (bx - ax),.int .i64 (by' - ay)]) (by simp [results,Tryz.results276,go_sem]) rfl ⟨rfl,rfl⟩
theorem zEv (ax ay bx by' cx cy:Int)(w:World)(ha:okP ax ay=true)(hb:okP bx by'=true)(hc:okP cx cy=true) :
  Calls Tryz.prog 274 #[.agg #[.int .i64 ax,.int .i64 ay],.agg #[.int .i64 bx,.int .i64 by'],.agg #[.int .i64 cx,.int .i64 cy]] w fun e w'=>e=.returned (.int .i64 (yT ax ay bx by' cx cy))∧Bw w w':=by
 obtain ⟨⟨a1,a2⟩,a3,a4⟩:=vA ha
 obtain ⟨⟨b1,b2⟩,b3,b4⟩:=vA hb
 obtain ⟨⟨c1,c2⟩,c3,c4⟩:=vA hc
 have HA:Hid _:=ha
 have HB:Hid _:=hb
 have HC:Hid _:=hc
 clear ha hb hc
 unfold yT
 obtain ⟨p1,p2⟩:=vV (a:=bx - ax) (b:=cy - ay) (B:=5120) (C:=5120) (by omega) (by omega) (by omega) (by omega) (by omega)
 obtain ⟨q1,q2⟩:=vV (a:=by' - ay) (b:=cx - ax) (B:=5120) (C:=5120) (by omega) (by omega) (by omega) (by omega) (by omega)
 go_enter Tryz.func274,Tryz.ntmps274
 go_wp2
 generalize hW:(((w.alloc _).alloc _).alloc _:World)=W
 have hB0:Bw w W:=by subst hW;exact Qb
 have c00:∀ W',Bw W W'→W'.cell? ⟨w.heap.size,0,none⟩=some (.int .i64 ax):=Qc hW
 have c01:∀ W',Bw W W'→W'.cell? ⟨w.heap.size,1,none⟩=some (.int .i64 ay):=Qc hW
 have c10:∀ W',Bw W W'→W'.cell? ⟨w.heap.size+1,0,none⟩=some (.int .i64 bx):=Qc hW
 have c11:∀ W',Bw W W'→W'.cell? ⟨w.heap.size+1,1,none⟩=some (.int .i64 by'):=Qc hW
 have c20:∀ W',Bw W W'→W'.cell? ⟨w.heap.size+1+1,0,none⟩=some (.int .i64 cx):=Qc hW
 have c21:∀ W',Bw W W'→W'.cell? ⟨w.heap.size+1+1,1,none⟩=some (.int .i64 cy):=Qc hW
 clear hW
 have HB0:Hid (Bw w W):=hB0
 clear hB0
 go_cut [7,8] (fun t s wc=>∃ b d:Nat,t=.pointer (some ⟨b,0,none⟩)∧s=.pointer (some ⟨d,0,none⟩)∧Bw W wc∧wc.cell? ⟨b,0,none⟩=some (.int .i64 (bx - ax))∧wc.cell? ⟨b,1,none⟩=some (.int .i64 (by' - ay))∧wc.cell? ⟨d,0,none⟩=some (.int .i64 (cx - ax))∧wc.cell? ⟨d,1,none⟩=some (.int .i64 (cy - ay)))
 case first =>
  go_region_held3 (fun W'=>Bw W W') ((repeat (first|exact Qr _ _|assumption|refine Qd ?_|refine Qa ?_ _|refine Qt ?_|refine Qs ?_ _|refine Qo ?_ ?_ _ _)))
   (first | (go_at_call 276;refine (zVq _ _ _ _ _ (by exact HA.out) (by first | exact HB.out | exact HC.out)).mono ?_;rintro e w' ⟨rfl,rfl⟩))
  all_goals
   go_wp2_with fail
   go_meet
   case rel =>
    refine ⟨_,_,rfl,rfl,by assumption,?_,?_,?_,?_⟩ <;> (go_simp;done)
 case rest =>
  obtain ⟨b1,d1,rfl,rfl,hB1,x1,x2,x3,x4⟩:=hcut
  clear c00 c01 c10 c11 c20 c21
  go_wp2
  go_ret
  exact ⟨rfl,zA HB0.out hB1⟩
theorem zGl (b cap:Nat)(mx my nx ny ox oy c:Int)(w:World)(g0:w.cell? ⟨b,0,none⟩=some (.int .i64 mx))(g1:w.cell? ⟨b,1,none⟩=some (.int .i64 my))(g2:w.cell? ⟨b,2,none⟩=some (.int .i64 nx))(g3:w.cell? ⟨b,3,none⟩=some (.int .i64 ny))(g4:w.cell? ⟨b,4,none⟩=some (.int .i64 ox))(g5:w.cell? ⟨b,5,none⟩=some (.int .i64 oy))(hcap:3≤cap)(hc:zEq 3 (fun i=>if i=0 then mx else if i=1 then nx else ox) (fun i=>if i=0 then my else if i=1 then ny else oy)=c) :
  Calls Tryz.prog 265 #[.slice (some ⟨b,0,none⟩) 3 cap] w fun e w'=>e=.returned (.int .i64 c)∧Bw w w':=by
 rw [← hc]
 refine zDq b 0 3 cap (fun i=>if i=0 then mx else if i=1 then nx else ox) (fun i=>if i=0 then my else if i=1 then ny else oy) w (fun i hi=>?_) (World.block_lt_of_cell? w ⟨b,0,none⟩ g0) hcap (by omega)
 have hcase:i=0∨i=1∨i=2:=by omega
 rcases hcase with rfl | rfl | rfl <;> simp [*]
theorem zUz (mx my nx ny ox oy:Int)(h0:okP mx my=true)(h1:okP nx ny=true)(h2:okP ox oy=true):zEq 3 (fun i=>if i=0 then mx else if i=1 then nx else ox) (fun i=>if i=0 then my else if i=1 then ny else oy)=0:=zQo fun i hi=>by
 have hcase:i=0∨i=1∨i=2:=by omega
 rcases hcase with rfl | rfl | rfl <;> simp [*]
theorem zW9 (mx my nx ny ox oy:Int)(h:okP mx my=false):zEq 3 (fun i=>if i=0 then mx else if i=1 then nx else ox) (fun i=>if i=0 then my else if i=1 then ny else oy)=3:=zGn 0 (by omega) (by simp [h])
theorem zW8 (mx my nx ny ox oy:Int)(h:okP nx ny=false):zEq 3 (fun i=>if i=0 then mx else if i=1 then nx else ox) (fun i=>if i=0 then my else if i=1 then ny else oy)=3:=zGn 1 (by omega) (by simp [h])
theorem zW7 (mx my nx ny ox oy:Int)(h:okP ox oy=false):zEq 3 (fun i=>if i=0 then mx else if i=1 then nx else ox) (fun i=>if i=0 then my else if i=1 then ny else oy)=3:=zGn 2 (by omega) (by simp [h])
theorem uO {ax ay bx by':Int}(ha:okP ax ay=true)(hb:okP bx by'=true):Df (bx - ax) (by' - ay):=by
 obtain ⟨⟨a1,a2⟩,a3,a4⟩:=vA ha
 obtain ⟨⟨b1,b2⟩,b3,b4⟩:=vA hb
 exact ⟨⟨by omega,by omega⟩,by omega,by omega⟩
theorem zNj (n:Nat)(a b c d:Int)(w:World):(Op.equalIn (n+2) 322 (.agg #[.int .i64 a,.int .i64 b]) (.agg #[.int .i64 c,.int .i64 d])).run Tryz.prog w=.ok ((a == c) && (b == d)) w:=by
 have hp0:∀ (x y:Int) (w:World),(part 2 #[.int .i64 x,.int .i64 y] 0).run Tryz.prog w=.ok (.int .i64 x) w:=fun _ _ _=>by kernel_rfl
 have hp1:∀ (x y:Int) (w:World),(part 2 #[.int .i64 x,.int .i64 y] 1).run Tryz.prog w=.ok (.int .i64 y) w:=fun _ _ _=>by kernel_rfl
 have hs:∀ (w:World),(sizeOf 2).run Tryz.prog w=.ok 1 w:=fun _=>by kernel_rfl
 have hi:=fun (a b:Int) (w:World)=>run_equalIn_int (P:=Tryz.prog) w n 2 .i64 .i64 a b Tryz.underlying2
 rw [Op.equalIn]
 simp only [Sem.run_bind,run_underlying Tryz.underlying322,Result.andThen_ok,hs]
 simp [List.range',hp0,hp1,hi]
 by_cases h1:a=c <;> by_cases h2:b=d <;> simp [h1,h2]
theorem zHq (ax ay bx by':Int):xZ ax ay bx by'=xZ bx by' ax ay:=by
 unfold xZ
 rw [← Int.neg_sub bx ax,← Int.neg_sub by' ay,Int.neg_mul_neg,Int.neg_mul_neg]
theorem uX (px py ax ay bx by':Int):vH px py ax ay bx by'=(bx - ax) * (px - ax)+(by' - ay) * (py - ay):=by
 unfold vH
 rw [Int.mul_comm (px - ax),Int.mul_comm (py - ay)]
theorem zJ0 (px py ax ay:Int):vH px py ax ay ax ay=0:=by simp [vH]
theorem zGm (ax ay bx by':Int):(bx - ax) * (bx - ax)+(by' - ay) * (by' - ay)=xZ ax ay bx by':=rfl
theorem zKm {a b c d:Int}(h:a=b)(k:c=d):Ending.returned (.tuple #[.int .i64 a,.int .i64 c])=.returned (.tuple #[.int .i64 b,.int .i64 d]):=by rw [h,k]
theorem zSb (px py ax ay bx by':Int)(w:World)(hp:okP px py=true)(ha:okP ax ay=true)(hb:okP bx by'=true)(heq:∀ w,(Op.equalIn 10000 322 (.agg #[.int .i64 ax,.int .i64 ay]) (.agg #[.int .i64 bx,.int .i64 by'])).run Tryz.prog w=.ok true w) :
  Calls Tryz.prog 268 #[.agg #[.int .i64 px,.int .i64 py],.agg #[.int .i64 ax,.int .i64 ay],.agg #[.int .i64 bx,.int .i64 by']] w fun e w'=>e=.returned (.tuple #[.int .i64 ((px - ax) * (px - ax)+(py - ay) * (py - ay)),.int .i64 (1)])∧Bw w w':=by
 have HP:Hid _:=hp
 have HA:Hid _:=ha
 have HB:Hid _:=hb
 clear hp ha hb
 go_enter Tryz.func268,Tryz.ntmps268
 go_wp2_with fail
 generalize hW:(((w.alloc _).alloc _).alloc _:World)=W
 have hB0:Bw w W:=by subst hW;exact Qb
 have c00:∀ W',Bw W W'→W'.cell? ⟨w.heap.size,0,none⟩=some (.int .i64 px):=Qc hW
 have c01:∀ W',Bw W W'→W'.cell? ⟨w.heap.size,1,none⟩=some (.int .i64 py):=Qc hW
 have c10:∀ W',Bw W W'→W'.cell? ⟨w.heap.size+1,0,none⟩=some (.int .i64 ax):=Qc hW
 have c11:∀ W',Bw W W'→W'.cell? ⟨w.heap.size+1,1,none⟩=some (.int .i64 ay):=Qc hW
 have c20:∀ W',Bw W W'→W'.cell? ⟨w.heap.size+1+1,0,none⟩=some (.int .i64 bx):=Qc hW
 have c21:∀ W',Bw W W'→W'.cell? ⟨w.heap.size+1+1,1,none⟩=some (.int .i64 by'):=Qc hW
 clear hW
 have HB0:Hid (Bw w W):=hB0
 clear hB0
 have hr:Bw W W:=Below.refl _ _
 go_wp2_with (first
  | (go_at_call 276;refine (vR _ _ _ _ _ (by first | exact HA.out | exact HB.out) (by first | exact HP.out | exact HB.out)).mono ?_;rintro e w' ⟨rfl,hb⟩;have hbn:Bw W w':=(by exact Qb))
  | (go_at_call 275;refine (vM _ _ _ (by first | exact uO HA.out HP.out | exact uO HB.out HP.out | exact uO HA.out HB.out)).mono ?_;rintro e w' ⟨rfl,hb⟩;have hbn:Bw W w':=(by exact Qb)))
 go_ret2
 exact ⟨rfl,by have HB1:=HB0.out;exact Qb⟩
theorem zUm (px py ax ay bx by':Int)(w:World)(hp:okP px py=true)(ha:okP ax ay=true)(hb:okP bx by'=true)(heq:∀ w,(Op.equalIn 10000 322 (.agg #[.int .i64 ax,.int .i64 ay]) (.agg #[.int .i64 bx,.int .i64 by'])).run Tryz.prog w=.ok false w)(c1:(bx - ax) * (px - ax)+(by' - ay) * (py - ay)≤0) :
  Calls Tryz.prog 268 #[.agg #[.int .i64 px,.int .i64 py],.agg #[.int .i64 ax,.int .i64 ay],.agg #[.int .i64 bx,.int .i64 by']] w fun e w'=>e=.returned (.tuple #[.int .i64 ((px - ax) * (px - ax)+(py - ay) * (py - ay)),.int .i64 (1)])∧Bw w w':=by
 have HP:Hid _:=hp
 have HA:Hid _:=ha
 have HB:Hid _:=hb
 clear hp ha hb
 go_enter Tryz.func268,Tryz.ntmps268
 go_wp2_with fail
 generalize hW:(((w.alloc _).alloc _).alloc _:World)=W
 have hB0:Bw w W:=by subst hW;exact Qb
 have c00:∀ W',Bw W W'→W'.cell? ⟨w.heap.size,0,none⟩=some (.int .i64 px):=Qc hW
 have c01:∀ W',Bw W W'→W'.cell? ⟨w.heap.size,1,none⟩=some (.int .i64 py):=Qc hW
 have c10:∀ W',Bw W W'→W'.cell? ⟨w.heap.size+1,0,none⟩=some (.int .i64 ax):=Qc hW
 have c11:∀ W',Bw W W'→W'.cell? ⟨w.heap.size+1,1,none⟩=some (.int .i64 ay):=Qc hW
 have c20:∀ W',Bw W W'→W'.cell? ⟨w.heap.size+1+1,0,none⟩=some (.int .i64 bx):=Qc hW
 have c21:∀ W',Bw W W'→W'.cell? ⟨w.heap.size+1+1,1,none⟩=some (.int .i64 by'):=Qc hW
 clear hW
 have HB0:Hid (Bw w W):=hB0
 clear hB0
 have hr:Bw W W:=Below.refl _ _
 go_wp2_with (first
  | (go_at_call 276;refine (vR _ _ _ _ _ (by first | exact HA.out | exact HB.out) (by first | exact HP.out | exact HB.out)).mono ?_;rintro e w' ⟨rfl,hb⟩;have hbn:Bw W w':=(by exact Qb)))
 have hl:w'.heap.size<w'.heap.size+1:=by omega
 generalize hV:(w'.alloc _:World)=V
 have hWV:Bw W V:=by subst hV;exact Qb
 have g0:∀ W',Bw V W'→W'.cell? ⟨w'.heap.size,0,none⟩=some (.int .i64 (bx - ax)):=Qc hV
 have g1:∀ W',Bw V W'→W'.cell? ⟨w'.heap.size,1,none⟩=some (.int .i64 (by' - ay)):=Qc hV
 clear hV hl
 have HVW:Hid (∀ W',Bw V W'→Bw W W'):=fun W' h=>zA hWV h
 replace c00:=fun W' h=>c00 W' (HVW.out W' h)
 replace c01:=fun W' h=>c01 W' (HVW.out W' h)
 replace c10:=fun W' h=>c10 W' (HVW.out W' h)
 replace c11:=fun W' h=>c11 W' (HVW.out W' h)
 replace c20:=fun W' h=>c20 W' (HVW.out W' h)
 replace c21:=fun W' h=>c21 W' (HVW.out W' h)
 have HBV:Hid (Bw w V):=zA HB0.out hWV
 clear hr hb hbn hWV
 go_region_held3 (fun W'=>Bw V W') ((repeat (first|exact Qr _ _|assumption|refine Qd ?_|refine Qa ?_ _|refine Qt ?_|refine Qs ?_ _|refine Qo ?_ ?_ _ _)))
  (first
   | (go_at_call 276;refine (vR _ _ _ _ _ HA.out HP.out).mono ?_;rintro e w1 ⟨rfl,hb⟩)
   | (go_at_call 277;refine (zEo _ _ _ _ _ (uO HA.out HB.out) (uO HA.out HP.out)).mono ?_;rintro e w1 ⟨rfl,hb⟩)
   | (go_at_call 275;refine (vM _ _ _ (uO HA.out HB.out)).mono ?_;rintro e w1 ⟨rfl,hb⟩))
 go_wp2_with (first
  | (go_at_call 276;refine (vR _ _ _ _ _ (by first | exact HA.out | exact HB.out) (by exact HP.out)).mono ?_;rintro e w2 ⟨rfl,hbz⟩;have hbn:Bw V w2:=(by exact Qb))
  | (go_at_call 275;refine (vM _ _ _ (by first | exact uO HA.out HP.out | exact uO HB.out HP.out)).mono ?_;rintro e w2 ⟨rfl,hbz⟩;have hbn:Bw V w2:=(by exact Qb)))
 go_ret2
 exact ⟨rfl,by have HB1:=HBV.out;exact Qb⟩
theorem zSc (px py ax ay bx by':Int)(w:World)(hp:okP px py=true)(ha:okP ax ay=true)(hb:okP bx by'=true)(heq:∀ w,(Op.equalIn 10000 322 (.agg #[.int .i64 ax,.int .i64 ay]) (.agg #[.int .i64 bx,.int .i64 by'])).run Tryz.prog w=.ok false w)(c1:¬ (bx - ax) * (px - ax)+(by' - ay) * (py - ay)≤0)(c2:(bx - ax) * (bx - ax)+(by' - ay) * (by' - ay)≤(bx - ax) * (px - ax)+(by' - ay) * (py - ay)) :
  Calls Tryz.prog 268 #[.agg #[.int .i64 px,.int .i64 py],.agg #[.int .i64 ax,.int .i64 ay],.agg #[.int .i64 bx,.int .i64 by']] w fun e w'=>e=.returned (.tuple #[.int .i64 ((px - bx) * (px - bx)+(py - by') * (py - by')),.int .i64 (1)])∧Bw w w':=by
 have HP:Hid _:=hp
 have HA:Hid _:=ha
 have HB:Hid _:=hb
 clear hp ha hb
 go_enter Tryz.func268,Tryz.ntmps268
 go_wp2_with fail
 generalize hW:(((w.alloc _).alloc _).alloc _:World)=W
 have hB0:Bw w W:=by subst hW;exact Qb
 have c00:∀ W',Bw W W'→W'.cell? ⟨w.heap.size,0,none⟩=some (.int .i64 px):=Qc hW
 have c01:∀ W',Bw W W'→W'.cell? ⟨w.heap.size,1,none⟩=some (.int .i64 py):=Qc hW
 have c10:∀ W',Bw W W'→W'.cell? ⟨w.heap.size+1,0,none⟩=some (.int .i64 ax):=Qc hW
 have c11:∀ W',Bw W W'→W'.cell? ⟨w.heap.size+1,1,none⟩=some (.int .i64 ay):=Qc hW
 have c20:∀ W',Bw W W'→W'.cell? ⟨w.heap.size+1+1,0,none⟩=some (.int .i64 bx):=Qc hW
 have c21:∀ W',Bw W W'→W'.cell? ⟨w.heap.size+1+1,1,none⟩=some (.int .i64 by'):=Qc hW
 clear hW
 have HB0:Hid (Bw w W):=hB0
 clear hB0
 have hr:Bw W W:=Below.refl _ _
 go_wp2_with (first
  | (go_at_call 276;refine (vR _ _ _ _ _ (by first | exact HA.out | exact HB.out) (by first | exact HP.out | exact HB.out)).mono ?_;rintro e w' ⟨rfl,hb⟩;have hbn:Bw W w':=(by exact Qb)))
 have hl:w'.heap.size<w'.heap.size+1:=by omega
 generalize hV:(w'.alloc _:World)=V
 have hWV:Bw W V:=by subst hV;exact Qb
 have g0:∀ W',Bw V W'→W'.cell? ⟨w'.heap.size,0,none⟩=some (.int .i64 (bx - ax)):=Qc hV
 have g1:∀ W',Bw V W'→W'.cell? ⟨w'.heap.size,1,none⟩=some (.int .i64 (by' - ay)):=Qc hV
 clear hV hl
 have HVW:Hid (∀ W',Bw V W'→Bw W W'):=fun W' h=>zA hWV h
 replace c00:=fun W' h=>c00 W' (HVW.out W' h)
 replace c01:=fun W' h=>c01 W' (HVW.out W' h)
 replace c10:=fun W' h=>c10 W' (HVW.out W' h)
 replace c11:=fun W' h=>c11 W' (HVW.out W' h)
 replace c20:=fun W' h=>c20 W' (HVW.out W' h)
 replace c21:=fun W' h=>c21 W' (HVW.out W' h)
 have HBV:Hid (Bw w V):=zA HB0.out hWV
 clear hr hb hbn hWV
 go_region_held3 (fun W'=>Bw V W') ((repeat (first|exact Qr _ _|assumption|refine Qd ?_|refine Qa ?_ _|refine Qt ?_|refine Qs ?_ _|refine Qo ?_ ?_ _ _)))
  (first
   | (go_at_call 276;refine (vR _ _ _ _ _ HA.out HP.out).mono ?_;rintro e w1 ⟨rfl,hb⟩)
   | (go_at_call 277;refine (zEo _ _ _ _ _ (uO HA.out HB.out) (uO HA.out HP.out)).mono ?_;rintro e w1 ⟨rfl,hb⟩)
   | (go_at_call 275;refine (vM _ _ _ (uO HA.out HB.out)).mono ?_;rintro e w1 ⟨rfl,hb⟩))
 go_wp2_with (first
  | (go_at_call 276;refine (vR _ _ _ _ _ (by first | exact HA.out | exact HB.out) (by exact HP.out)).mono ?_;rintro e w2 ⟨rfl,hbz⟩;have hbn:Bw V w2:=(by exact Qb))
  | (go_at_call 275;refine (vM _ _ _ (by first | exact uO HA.out HP.out | exact uO HB.out HP.out)).mono ?_;rintro e w2 ⟨rfl,hbz⟩;have hbn:Bw V w2:=(by exact Qb)))
 go_ret2
 exact ⟨rfl,by have HB1:=HBV.out;exact Qb⟩
theorem zUl (px py ax ay bx by':Int)(w:World)(hp:okP px py=true)(ha:okP ax ay=true)(hb:okP bx by'=true)(heq:∀ w,(Op.equalIn 10000 322 (.agg #[.int .i64 ax,.int .i64 ay]) (.agg #[.int .i64 bx,.int .i64 by'])).run Tryz.prog w=.ok false w)(c1:¬ (bx - ax) * (px - ax)+(by' - ay) * (py - ay)≤0)(c2:¬ (bx - ax) * (bx - ax)+(by' - ay) * (by' - ay)≤(bx - ax) * (px - ax)+(by' - ay) * (py - ay)) :
  Calls Tryz.prog 268 #[.agg #[.int .i64 px,.int .i64 py],.agg #[.int .i64 ax,.int .i64 ay],.agg #[.int .i64 bx,.int .i64 by']] w fun e w'=>e=.returned (.tuple #[.int .i64 (yT ax ay bx by' px py * yT ax ay bx by' px py),.int .i64 ((bx - ax) * (bx - ax)+(by' - ay) * (by' - ay))])∧Bw w w':=by
 obtain ⟨x1,x2⟩:=zQm ha hb hp
 obtain ⟨x3,x4⟩:=vV (a:=yT ax ay bx by' px py) (b:=yT ax ay bx by' px py) (B:=52428800) (C:=52428800) (by omega) (by omega) (by omega) (by omega) (by omega)
 have HP:Hid _:=hp
 have HA:Hid _:=ha
 have HB:Hid _:=hb
 clear hp ha hb
 go_enter Tryz.func268,Tryz.ntmps268
 go_wp2_with fail
 generalize hW:(((w.alloc _).alloc _).alloc _:World)=W
 have hB0:Bw w W:=by subst hW;exact Qb
 have c00:∀ W',Bw W W'→W'.cell? ⟨w.heap.size,0,none⟩=some (.int .i64 px):=Qc hW
 have c01:∀ W',Bw W W'→W'.cell? ⟨w.heap.size,1,none⟩=some (.int .i64 py):=Qc hW
 have c10:∀ W',Bw W W'→W'.cell? ⟨w.heap.size+1,0,none⟩=some (.int .i64 ax):=Qc hW
 have c11:∀ W',Bw W W'→W'.cell? ⟨w.heap.size+1,1,none⟩=some (.int .i64 ay):=Qc hW
 have c20:∀ W',Bw W W'→W'.cell? ⟨w.heap.size+1+1,0,none⟩=some (.int .i64 bx):=Qc hW
 have c21:∀ W',Bw W W'→W'.cell? ⟨w.heap.size+1+1,1,none⟩=some (.int .i64 by'):=Qc hW
 clear hW
 have HB0:Hid (Bw w W):=hB0
 clear hB0
 have hr:Bw W W:=Below.refl _ _
 go_wp2_with (first
  | (go_at_call 276;refine (vR _ _ _ _ _ (by first | exact HA.out | exact HB.out) (by first | exact HP.out | exact HB.out)).mono ?_;rintro e w' ⟨rfl,hb⟩;have hbn:Bw W w':=(by exact Qb)))
 have hl:w'.heap.size<w'.heap.size+1:=by omega
 generalize hV:(w'.alloc _:World)=V
 have hWV:Bw W V:=by subst hV;exact Qb
 have g0:∀ W',Bw V W'→W'.cell? ⟨w'.heap.size,0,none⟩=some (.int .i64 (bx - ax)):=Qc hV
 have g1:∀ W',Bw V W'→W'.cell? ⟨w'.heap.size,1,none⟩=some (.int .i64 (by' - ay)):=Qc hV
 clear hV hl
 have HVW:Hid (∀ W',Bw V W'→Bw W W'):=fun W' h=>zA hWV h
 replace c00:=fun W' h=>c00 W' (HVW.out W' h)
 replace c01:=fun W' h=>c01 W' (HVW.out W' h)
 replace c10:=fun W' h=>c10 W' (HVW.out W' h)
 replace c11:=fun W' h=>c11 W' (HVW.out W' h)
 replace c20:=fun W' h=>c20 W' (HVW.out W' h)
 replace c21:=fun W' h=>c21 W' (HVW.out W' h)
 have HBV:Hid (Bw w V):=zA HB0.out hWV
 clear hr hb hbn hWV
 go_region_held3 (fun W'=>Bw V W') ((repeat (first|exact Qr _ _|assumption|refine Qd ?_|refine Qa ?_ _|refine Qt ?_|refine Qs ?_ _|refine Qo ?_ ?_ _ _)))
  (first
   | (go_at_call 276;refine (vR _ _ _ _ _ HA.out HP.out).mono ?_;rintro e w1 ⟨rfl,hb⟩)
   | (go_at_call 277;refine (zEo _ _ _ _ _ (uO HA.out HB.out) (uO HA.out HP.out)).mono ?_;rintro e w1 ⟨rfl,hb⟩)
   | (go_at_call 275;refine (vM _ _ _ (uO HA.out HB.out)).mono ?_;rintro e w1 ⟨rfl,hb⟩))
 go_wp2_with (first
  | (go_at_call 274;refine (zEv _ _ _ _ _ _ _ HA.out HB.out HP.out).mono ?_;rintro e w2 ⟨rfl,hbz⟩;have hbn:Bw V w2:=(by exact Qb)))
 go_ret2
 exact ⟨rfl,by have HB1:=HBV.out;exact Qb⟩
theorem zUn (px py ax ay bx by':Int)(w:World)(hp:okP px py=true)(ha:okP ax ay=true)(hb:okP bx by'=true) :
  Calls Tryz.prog 268 #[.agg #[.int .i64 px,.int .i64 py],.agg #[.int .i64 ax,.int .i64 ay],.agg #[.int .i64 bx,.int .i64 by']] w fun e w'=>e=.returned (.tuple #[.int .i64 (zE0 px py ax ay bx by'),.int .i64 (uG px py ax ay bx by')])∧Bw w w':=by
 have heq:=fun (w:World)=>zNj 9998 ax ay bx by' w
 by_cases e1:ax=bx∧ay=by'
 ·obtain ⟨rfl,rfl⟩:=e1
  refine (zSb px py ax ay ax ay w hp ha hb (fun w=>by rw [heq w];simp)).mono ?_
  rintro e w' ⟨rfl,h⟩
  exact ⟨zKm (by rw [zE0,zJ0,if_pos (Int.le_refl 0),zHq];rfl) (by rw [uG,zJ0,if_pos (Int.le_refl 0)]),h⟩
 ·have hf:((ax == bx) && (ay == by'))=false:=by
   by_cases q:ax=bx
   ·have:¬ ay=by':=fun h=>e1 ⟨q,h⟩
    simp [q,this]
   ·simp [q]
  by_cases c1:(bx - ax) * (px - ax)+(by' - ay) * (py - ay)≤0
  ·refine (zUm px py ax ay bx by' w hp ha hb (fun w=>by rw [heq w,hf]) c1).mono ?_
   rintro e w' ⟨rfl,h⟩
   exact ⟨zKm (by rw [zE0,uX,if_pos c1,zHq];rfl) (by rw [uG,uX,if_pos c1]),h⟩
  ·by_cases c2:(bx - ax) * (bx - ax)+(by' - ay) * (by' - ay)≤(bx - ax) * (px - ax)+(by' - ay) * (py - ay)
   ·refine (zSc px py ax ay bx by' w hp ha hb (fun w=>by rw [heq w,hf]) c1 c2).mono ?_
    rintro e w' ⟨rfl,h⟩
    exact ⟨zKm (by rw [zE0,uX,if_neg c1,if_pos (by rw [← zGm];exact c2),zHq];rfl) (by rw [uG,uX,if_neg c1,if_pos (by rw [← zGm];exact c2)]),h⟩
   ·refine (zUl px py ax ay bx by' w hp ha hb (fun w=>by rw [heq w,hf]) c1 c2).mono ?_
    rintro e w' ⟨rfl,h⟩
    exact ⟨zKm (by rw [zE0,uX,if_neg c1,if_neg (by rw [← zGm];exact c2)]) (by rw [uG,uX,if_neg c1,if_neg (by rw [← zGm];exact c2)];rfl),h⟩
theorem zWq (px py ax ay bx by':Int)(w:World)(hp:okP px py=true)(ha:okP ax ay=true)(hb:okP bx by'=true)(h1:py<ay)(h2:py<by') :
  Calls Tryz.prog 234 #[.agg #[.int .i64 px,.int .i64 py],.agg #[.int .i64 ax,.int .i64 ay],.agg #[.int .i64 bx,.int .i64 by']] w fun e w'=>e=.returned (.bool (xG px py ax ay bx by'))∧Bw w w':=by
 have HP:Hid (okP px py=true):=hp
 have HA:Hid (okP ax ay=true):=ha
 have HB:Hid (okP bx by'=true):=hb
 clear hp ha hb
 have HE:Hid (xG px py ax ay bx by'=false):=by
  show _=_
  simp [xG,h1,h2]
 go_enter Tryz.func234,Tryz.ntmps234
 go_wp2
 go_ret
 exact ⟨zG HE.out.symm,Qb⟩
theorem zWp (px py ax ay bx by':Int)(w:World)(hp:okP px py=true)(ha:okP ax ay=true)(hb:okP bx by'=true)(h1:¬ py<ay)(h2:¬ py<by') :
  Calls Tryz.prog 234 #[.agg #[.int .i64 px,.int .i64 py],.agg #[.int .i64 ax,.int .i64 ay],.agg #[.int .i64 bx,.int .i64 by']] w fun e w'=>e=.returned (.bool (xG px py ax ay bx by'))∧Bw w w':=by
 have HP:Hid (okP px py=true):=hp
 have HA:Hid (okP ax ay=true):=ha
 have HB:Hid (okP bx by'=true):=hb
 clear hp ha hb
 have HE:Hid (xG px py ax ay bx by'=false):=by
  show _=_
  simp [xG,h1,h2]
 go_enter Tryz.func234,Tryz.ntmps234
 go_wp2
 go_ret
 exact ⟨zG HE.out.symm,Qb⟩
theorem zWo (px py ax ay bx by':Int)(w:World)(hp:okP px py=true)(ha:okP ax ay=true)(hb:okP bx by'=true)(h1:¬ py<ay)(h2:py<by') :
  Calls Tryz.prog 234 #[.agg #[.int .i64 px,.int .i64 py],.agg #[.int .i64 ax,.int .i64 ay],.agg #[.int .i64 bx,.int .i64 by']] w fun e w'=>e=.returned (.bool (xG px py ax ay bx by'))∧Bw w w':=by
 have HP:Hid (okP px py=true):=hp
 have HA:Hid (okP ax ay=true):=ha
 have HB:Hid (okP bx by'=true):=hb
 clear hp ha hb
 have h3:ay<by':=by omega
 have HE:Hid (xG px py ax ay bx by'=decide (0<yT ax ay bx by' px py)):=by
  show _=_
  simp [xG,h1,h2,h3]
 go_enter Tryz.func234,Tryz.ntmps234
 go_wp2_with fail
 generalize hW:(((w.alloc _).alloc _).alloc _:World)=W
 have hB0:Bw w W:=by subst hW;exact Qb
 have c00:∀ W',Bw W W'→W'.cell? ⟨w.heap.size,0,none⟩=some (.int .i64 px):=Qc hW
 have c01:∀ W',Bw W W'→W'.cell? ⟨w.heap.size,1,none⟩=some (.int .i64 py):=Qc hW
 have c10:∀ W',Bw W W'→W'.cell? ⟨w.heap.size+1,0,none⟩=some (.int .i64 ax):=Qc hW
 have c11:∀ W',Bw W W'→W'.cell? ⟨w.heap.size+1,1,none⟩=some (.int .i64 ay):=Qc hW
 have c20:∀ W',Bw W W'→W'.cell? ⟨w.heap.size+1+1,0,none⟩=some (.int .i64 bx):=Qc hW
 have c21:∀ W',Bw W W'→W'.cell? ⟨w.heap.size+1+1,1,none⟩=some (.int .i64 by'):=Qc hW
 clear hW
 have HB0:Hid (Bw w W):=hB0
 clear hB0
 have hr:Bw W W:=Below.refl _ _
 go_wp2_with (go_at_call 236;refine (zDf _ _ _ _ _ _ _ HA.out HB.out HP.out).mono ?_;rintro e w' ⟨rfl,hb⟩;have hbn:Bw W w':=(by exact Qb))
 go_ret
 exact ⟨zG HE.out.symm,by have HB1:=HB0.out;exact Qb⟩
theorem zWn (px py ax ay bx by':Int)(w:World)(hp:okP px py=true)(ha:okP ax ay=true)(hb:okP bx by'=true)(h1:py<ay)(h2:¬ py<by') :
  Calls Tryz.prog 234 #[.agg #[.int .i64 px,.int .i64 py],.agg #[.int .i64 ax,.int .i64 ay],.agg #[.int .i64 bx,.int .i64 by']] w fun e w'=>e=.returned (.bool (xG px py ax ay bx by'))∧Bw w w':=by
 have HP:Hid (okP px py=true):=hp
 have HA:Hid (okP ax ay=true):=ha
 have HB:Hid (okP bx by'=true):=hb
 clear hp ha hb
 have h3:¬ ay<by':=by omega
 have HE:Hid (xG px py ax ay bx by'=decide (yT ax ay bx by' px py<0)):=by
  show _=_
  simp [xG,h1,h2,h3]
 go_enter Tryz.func234,Tryz.ntmps234
 go_wp2_with fail
 generalize hW:(((w.alloc _).alloc _).alloc _:World)=W
 have hB0:Bw w W:=by subst hW;exact Qb
 have c00:∀ W',Bw W W'→W'.cell? ⟨w.heap.size,0,none⟩=some (.int .i64 px):=Qc hW
 have c01:∀ W',Bw W W'→W'.cell? ⟨w.heap.size,1,none⟩=some (.int .i64 py):=Qc hW
 have c10:∀ W',Bw W W'→W'.cell? ⟨w.heap.size+1,0,none⟩=some (.int .i64 ax):=Qc hW
 have c11:∀ W',Bw W W'→W'.cell? ⟨w.heap.size+1,1,none⟩=some (.int .i64 ay):=Qc hW
 have c20:∀ W',Bw W W'→W'.cell? ⟨w.heap.size+1+1,0,none⟩=some (.int .i64 bx):=Qc hW
 have c21:∀ W',Bw W W'→W'.cell? ⟨w.heap.size+1+1,1,none⟩=some (.int .i64 by'):=Qc hW
 clear hW
 have HB0:Hid (Bw w W):=hB0
 clear hB0
 have hr:Bw W W:=Below.refl _ _
 go_wp2_with (go_at_call 236;refine (zDf _ _ _ _ _ _ _ HA.out HB.out HP.out).mono ?_;rintro e w' ⟨rfl,hb⟩;have hbn:Bw W w':=(by exact Qb))
 go_ret
 exact ⟨zG HE.out.symm,by have HB1:=HB0.out;exact Qb⟩
theorem zJn (px py ax ay bx by':Int)(w:World)(hp:okP px py=true)(ha:okP ax ay=true)(hb:okP bx by'=true) :
  Calls Tryz.prog 234 #[.agg #[.int .i64 px,.int .i64 py],.agg #[.int .i64 ax,.int .i64 ay],.agg #[.int .i64 bx,.int .i64 by']] w fun e w'=>e=.returned (.bool (xG px py ax ay bx by'))∧Bw w w':=by
 by_cases h1:py<ay <;> by_cases h2:py<by'
 ·exact zWq _ _ _ _ _ _ _ hp ha hb h1 h2
 ·exact zWn _ _ _ _ _ _ _ hp ha hb h1 h2
 ·exact zWo _ _ _ _ _ _ _ hp ha hb h1 h2
 ·exact zWp _ _ _ _ _ _ _ hp ha hb h1 h2
def uY (px py:Int)(n:Nat)(X Y:Nat→Int)(i:Nat):Bool:=xG px py (X i) (Y i) (X ((i+1) % n)) (Y ((i+1) % n))
theorem zMw (px py:Int)(b n cap:Nat)(X Y:Nat→Int)(w:World)(hp:okP px py=true)(hpt:zL w b 0 n X Y)(hbl:b<w.heap.size)(hok:∀ i,i<n→okP (X i) (Y i)=true)(hcap:n≤cap)(hmax:n≤1048576) :
  Calls Tryz.prog 212 #[.agg #[.int .i64 px,.int .i64 py],.slice (some ⟨b,0,none⟩) n cap] w fun e w'=>e=.returned (.bool (uM (uY px py n X Y) n))∧Bw w w':=by
 have HP:Hid (okP px py=true):=hp
 have HQ:Hid (zL w b 0 n X Y):=hpt
 have HO:Hid (∀ i,i<n→okP (X i) (Y i)=true):=hok
 clear hp hpt hok
 go_enter Tryz.func212,Tryz.ntmps212
 go_wp2
 generalize hW:(w.alloc _:World)=W
 have hB0:Bw w W:=by subst hW;exact Qb
 have c00:∀ W',Bw W W'→W'.cell? ⟨w.heap.size,0,none⟩=some (.int .i64 px):=Qc hW
 have c01:∀ W',Bw W W'→W'.cell? ⟨w.heap.size,1,none⟩=some (.int .i64 py):=Qc hW
 clear hW
 have HB0:Hid (Bw w W):=hB0
 have HQ1:Hid (zL W b 0 n X Y):=HQ.out.below hB0 hbl
 have hblW:b<W.heap.size:=Nat.lt_of_lt_of_le hbl hB0.size
 clear hB0 HQ hbl
 go_loopw [5,6] (fun q i wr=>∃ k:Nat,k≤n∧i=.int .i64 k∧q=.bool (uM (uY px py n X Y) k)∧Bw W wr) (fun _ i _=>n - (intOf i).toNat)
 case atStart=>exact ⟨0,by omega,rfl,rfl,Below.refl _ _⟩
 case round =>
  obtain ⟨k,hk,rfl,rfl,hB⟩:=hrel
  by_cases hlt:k<n
  ·have hP1:=HQ1.out.below hB hblW
   have hbr:b<wr.heap.size:=Nat.lt_of_lt_of_le hblW hB.size
   have d0:∀ W',Bw wr W'→W'.cell? ⟨b,k * 2,none⟩=some (.int .i64 (X k)):=fun W' h=>by
    simpa using (hP1.below h hbr k hlt).1
   have d1:∀ W',Bw wr W'→W'.cell? ⟨b,k * 2+1,none⟩=some (.int .i64 (Y k)):=fun W' h=>by
    simpa using (hP1.below h hbr k hlt).2
   replace c00:=fun W' (h:Below wr.heap.size wr W')=>c00 W' (zA hB h)
   replace c01:=fun W' (h:Below wr.heap.size wr W')=>c01 W' (zA hB h)
   have HB:Hid (Bw W wr):=hB
   have hi:(k:Int)<(n:Int):=by omega
   have hi0:(0:Int)≤(k:Int):=by omega
   have hwr:IntKind.i64.wrap ((k:Int)+1)=(k:Int)+1:=IntWalk.i64_in _ (by omega)
   have hodd:Hid (uM (uY px py n X Y) (k+1)=if uY px py n X Y k=true then !(uM (uY px py n X Y) k) else uM (uY px py n X Y) k):=rfl
   by_cases hnx:k+1<n
   ·have hm:(k+1) % n=k+1:=Nat.mod_eq_of_lt hnx
    have HS:Hid (uY px py n X Y k=xG px py (X k) (Y k) (X (k+1)) (Y (k+1))):=by show _=_;unfold uY;rw [hm]
    have hmi:((k:Int)+1) % (n:Int)=(k:Int)+1:=Int.emod_eq_of_lt (by omega) (by omega)
    have hmt:((k:Int)+1).tmod (n:Int)=(k:Int)+1:=by rw [Int.tmod_eq_emod_of_nonneg (by omega)];exact hmi
    have hn0:¬ n=0:=by omega
    have e0:∀ W',Bw wr W'→W'.cell? ⟨b,(k+1) * 2,none⟩=some (.int .i64 (X (k+1))):=fun W' h=>by
     simpa using (hP1.below h hbr (k+1) hnx).1
    have e1:∀ W',Bw wr W'→W'.cell? ⟨b,(k+1) * 2+1,none⟩=some (.int .i64 (Y (k+1))):=fun W' h=>by
     simpa using (hP1.below h hbr (k+1) hnx).2
    have HK1:Hid (okP (X k) (Y k)=true):=HO.out k hlt
    have HK2:Hid (okP (X (k+1)) (Y (k+1))=true):=HO.out (k+1) hnx
    have hi2:((k:Int)+1)<(n:Int):=by omega
    have hi3:(0:Int)≤(k:Int)+1:=by omega
    clear hP1 hB
    cases hsv:xG px py (X k) (Y k) (X (k+1)) (Y (k+1))
    all_goals
     go_wp2
     go_region_held3 (fun W'=>Bw wr W') ((repeat (first|exact Qr _ _|assumption|refine Qd ?_|refine Qa ?_ _|refine Qt ?_|refine Qs ?_ _|refine Qo ?_ ?_ _ _)))
      (first
       | (go_at_call 234;refine (zJn _ _ _ _ _ _ _ HP.out HK1.out HK2.out).mono ?_;rintro e w' ⟨rfl,hb⟩))
     go_wp2
     go_roundw
     case rel=>exact ⟨k+1,by omega,by go_num,congrArg Value.bool (by rw [hodd.out,HS.out,hsv];rfl),zA HB.out (by assumption)⟩
     case measure=>simp [intOf];omega
   ·have hkn:k+1=n:=by omega
    have hm:(k+1) % n=0:=by rw [hkn];exact Nat.mod_self n
    have HS:Hid (uY px py n X Y k=xG px py (X k) (Y k) (X 0) (Y 0)):=by show _=_;unfold uY;rw [hm]
    have hmi:((k:Int)+1) % (n:Int)=0:=by
     have:((k:Int)+1)=(n:Int):=by omega
     rw [this];exact Int.emod_self
    have hmt:((k:Int)+1).tmod (n:Int)=0:=by rw [Int.tmod_eq_emod_of_nonneg (by omega)];exact hmi
    have hn0:¬ n=0:=by omega
    have hnp:(0:Int)<(n:Int):=by omega
    have hnp':0<n:=by omega
    have e0:∀ W',Bw wr W'→W'.cell? ⟨b,0,none⟩=some (.int .i64 (X 0)):=fun W' h=>by
     simpa using (hP1.below h hbr 0 (by omega)).1
    have e1:∀ W',Bw wr W'→W'.cell? ⟨b,1,none⟩=some (.int .i64 (Y 0)):=fun W' h=>by
     simpa using (hP1.below h hbr 0 (by omega)).2
    have HK1:Hid (okP (X k) (Y k)=true):=HO.out k hlt
    have HK2:Hid (okP (X 0) (Y 0)=true):=HO.out 0 (by omega)
    clear hkn hnx hP1 hB
    cases hsv:xG px py (X k) (Y k) (X 0) (Y 0)
    all_goals
     go_wp2
     go_region_held3 (fun W'=>Bw wr W') ((repeat (first|exact Qr _ _|assumption|refine Qd ?_|refine Qa ?_ _|refine Qt ?_|refine Qs ?_ _|refine Qo ?_ ?_ _ _)))
      (first
       | (go_at_call 234;refine (zJn _ _ _ _ _ _ _ HP.out HK1.out HK2.out).mono ?_;rintro e w' ⟨rfl,hb⟩))
     go_wp2
     go_roundw
     case rel=>exact ⟨k+1,by omega,by go_num,congrArg Value.bool (by rw [hodd.out,HS.out,hsv];rfl),zA HB.out (by assumption)⟩
     case measure=>simp [intOf];omega
  ·go_wp2
   go_ret
   have hkn:k=n:=by omega
   subst hkn
   exact ⟨rfl,zA HB0.out hB⟩
end Go.Proofs.YtkjbafcalamgnaaGreat
