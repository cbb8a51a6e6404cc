/- Texts. -/
import Derived.Test.YtpaiholildedcaaGreatVFrameOf5
import Derived.Test.YtpaiholildedcaaGreatVFrameOf6
set_option linter.unusedSimpArgs false
set_option linter.unusedVariables false
set_option maxRecDepth 100000
set_option maxHeartbeats 32000000
namespace Go.Proofs.YtpaiholildedcaaGreat
open Go.RowKit
def yE (px py:Int)(n:Nat)(X Y:Nat→Int):Bool:=okP px py && (decide (3≤n) && (decide (n≤40) && (zH3 n X Y && xR (xY px py n X Y) n)))
theorem zHg (px py ax ay bx by':Int)(w:World)(hp:okP px py=true)(ha:okP ax ay=true)(hb:okP bx by'=true)(h:by'<ay)(h1:by'≤py)(h2:py<ay) :
  Calls Tryz.prog 303 #[.agg #[.int .i64 px,.int .i64 py],.agg #[.int .i64 ax,.int .i64 ay],.agg #[.int .i64 bx,.int .i64 by']] w fun e w'=>e=.returned (.bool (yF px py ax ay bx by'))∧Bw w w':=by
 have HP:Hid (okP px py=true):=hp
 have HA:Hid (okP ax ay=true):=ha
 have HB:Hid (okP bx by'=true):=hb
 clear hp ha hb
 have HE:Hid (yF px py ax ay bx by'=decide (0<zW bx by' ax ay px py)):=by
  show _=_
  rw [zCu h]
  simp [h1,h2]
 go_enter Tryz.func303,Tryz.ntmps303
 go_wp2
 generalize hW:(((w.alloc _).alloc _).alloc _:World)=W
 have hB0:Bw w W:=by subst hW;exact Qb
 have c00:∀ W',Bw W W'→W'.cell? ⟨w.heap.size,0,none⟩=some (.int .i64 px):=Qc hW
 have c01:∀ W',Bw W W'→W'.cell? ⟨w.heap.size,1,none⟩=some (.int .i64 py):=Qc hW
 have c10:∀ W',Bw W W'→W'.cell? ⟨w.heap.size+1,0,none⟩=some (.int .i64 ax):=Qc hW
 have c11:∀ W',Bw W W'→W'.cell? ⟨w.heap.size+1,1,none⟩=some (.int .i64 ay):=Qc hW
 have c20:∀ W',Bw W W'→W'.cell? ⟨w.heap.size+1+1,0,none⟩=some (.int .i64 bx):=Qc hW
 have c21:∀ W',Bw W W'→W'.cell? ⟨w.heap.size+1+1,1,none⟩=some (.int .i64 by'):=Qc hW
 have q0:=c00
 clear hW
 have HB0:Hid (Bw w W):=hB0
 clear hB0
 go_cut [7,8] (fun t s wc=>∃ b d:Nat,t=.pointer (some ⟨b,0,none⟩)∧s=.pointer (some ⟨d,0,none⟩)∧b≠d∧Bw W wc∧W.heap.size≤b∧W.heap.size≤d∧wc.cell? ⟨b,0,none⟩=some (.int .i64 ax)∧wc.cell? ⟨b,1,none⟩=some (.int .i64 ay)∧wc.cell? ⟨d,0,none⟩=some (.int .i64 bx)∧wc.cell? ⟨d,1,none⟩=some (.int .i64 by')∧wc.frozen? ⟨b,0,none⟩=false∧wc.frozen? ⟨b,1,none⟩=false∧wc.frozen? ⟨d,0,none⟩=false∧wc.frozen? ⟨d,1,none⟩=false)
 case first =>
  go_region_held3 (fun W'=>Bw W W') ((repeat (first|exact Qr _ _|assumption|refine Qd ?_|refine Qa ?_ _|refine Qt ?_|refine Qs ?_ _|refine Qo ?_ ?_ _ _))) (fail)
  all_goals
   go_wp2_with fail
   go_meet
   case rel =>
    refine ⟨_,_,rfl,rfl,by first | omega | (simp;done) | (simp;omega),by assumption,by first | omega | (simp;done) | (simp;omega),by first | omega | (simp;done) | (simp;omega),?_,?_,?_,?_,?_,?_,?_,?_⟩ <;> (go_simp;done)
 case rest =>
  obtain ⟨b1,d1,rfl,rfl,hne,hB1,hb1,hd1,x1,x2,x3,x4,f1,f2,f3,f4⟩:=hcut
  have hne':d1≠b1:=fun h=>hne h.symm
  have hw0:=World.block_lt_of_cell? _ _ (c00 W (Below.refl _ _))
  have n1:b1≠w.heap.size:=by have:w.heap.size<W.heap.size:=hw0;omega
  have n2:d1≠w.heap.size:=by have:w.heap.size<W.heap.size:=hw0;omega
  have p1:=c01 wc hB1
  clear hw0 c00 c01 c10 c11 c20 c21
  have p0:=q0 wc hB1
  clear q0
  go_wp2_with (go_at_call 306;refine (zBm _ _ _ _ _ _ _ HB.out HA.out HP.out).mono ?_;rintro e w' ⟨rfl,hbz⟩)
  go_ret
  exact ⟨zF HE.out.symm,zA HB0.out (by exact Qb)⟩
theorem zFx (px py ax ay bx by':Int)(w:World)(hp:okP px py=true)(ha:okP ax ay=true)(hb:okP bx by'=true)(h:by'<ay)(h1:¬ by'≤py) :
  Calls Tryz.prog 303 #[.agg #[.int .i64 px,.int .i64 py],.agg #[.int .i64 ax,.int .i64 ay],.agg #[.int .i64 bx,.int .i64 by']] w fun e w'=>e=.returned (.bool (yF px py ax ay bx by'))∧Bw w w':=by
 have HP:Hid (okP px py=true):=hp
 have HA:Hid (okP ax ay=true):=ha
 have HB:Hid (okP bx by'=true):=hb
 clear hp ha hb
 have HE:Hid (yF px py ax ay bx by'=false):=by
  show _=_
  rw [zCu h]
  simp [h1]
 have h1':decide (by'≤py)=false:=by simpa using h1
 go_enter Tryz.func303,Tryz.ntmps303
 go_wp2
 generalize hW:(((w.alloc _).alloc _).alloc _:World)=W
 have hB0:Bw w W:=by subst hW;exact Qb
 have c00:∀ W',Bw W W'→W'.cell? ⟨w.heap.size,0,none⟩=some (.int .i64 px):=Qc hW
 have c01:∀ W',Bw W W'→W'.cell? ⟨w.heap.size,1,none⟩=some (.int .i64 py):=Qc hW
 have c10:∀ W',Bw W W'→W'.cell? ⟨w.heap.size+1,0,none⟩=some (.int .i64 ax):=Qc hW
 have c11:∀ W',Bw W W'→W'.cell? ⟨w.heap.size+1,1,none⟩=some (.int .i64 ay):=Qc hW
 have c20:∀ W',Bw W W'→W'.cell? ⟨w.heap.size+1+1,0,none⟩=some (.int .i64 bx):=Qc hW
 have c21:∀ W',Bw W W'→W'.cell? ⟨w.heap.size+1+1,1,none⟩=some (.int .i64 by'):=Qc hW
 have q0:=c00
 clear hW
 have HB0:Hid (Bw w W):=hB0
 clear hB0
 go_cut [7,8] (fun t s wc=>∃ b d:Nat,t=.pointer (some ⟨b,0,none⟩)∧s=.pointer (some ⟨d,0,none⟩)∧b≠d∧Bw W wc∧W.heap.size≤b∧W.heap.size≤d∧wc.cell? ⟨b,0,none⟩=some (.int .i64 ax)∧wc.cell? ⟨b,1,none⟩=some (.int .i64 ay)∧wc.cell? ⟨d,0,none⟩=some (.int .i64 bx)∧wc.cell? ⟨d,1,none⟩=some (.int .i64 by')∧wc.frozen? ⟨b,0,none⟩=false∧wc.frozen? ⟨b,1,none⟩=false∧wc.frozen? ⟨d,0,none⟩=false∧wc.frozen? ⟨d,1,none⟩=false)
 case first =>
  go_region_held3 (fun W'=>Bw W W') ((repeat (first|exact Qr _ _|assumption|refine Qd ?_|refine Qa ?_ _|refine Qt ?_|refine Qs ?_ _|refine Qo ?_ ?_ _ _))) (fail)
  all_goals
   go_wp2_with fail
   go_meet
   case rel =>
    refine ⟨_,_,rfl,rfl,by first | omega | (simp;done) | (simp;omega),by assumption,by first | omega | (simp;done) | (simp;omega),by first | omega | (simp;done) | (simp;omega),?_,?_,?_,?_,?_,?_,?_,?_⟩ <;> (go_simp;done)
 case rest =>
  obtain ⟨b1,d1,rfl,rfl,hne,hB1,hb1,hd1,x1,x2,x3,x4,f1,f2,f3,f4⟩:=hcut
  have hne':d1≠b1:=fun h=>hne h.symm
  have hw0:=World.block_lt_of_cell? _ _ (c00 W (Below.refl _ _))
  have n1:b1≠w.heap.size:=by have:w.heap.size<W.heap.size:=hw0;omega
  have n2:d1≠w.heap.size:=by have:w.heap.size<W.heap.size:=hw0;omega
  have p1:=c01 wc hB1
  clear hw0 c00 c01 c10 c11 c20 c21
  have p0:=q0 wc hB1
  clear q0
  go_wp2
  go_ret
  exact ⟨zF HE.out.symm,zA HB0.out (by exact Qb)⟩
theorem zFw (px py ax ay bx by':Int)(w:World)(hp:okP px py=true)(ha:okP ax ay=true)(hb:okP bx by'=true)(h:by'<ay)(h1:by'≤py)(h2:¬ py<ay) :
  Calls Tryz.prog 303 #[.agg #[.int .i64 px,.int .i64 py],.agg #[.int .i64 ax,.int .i64 ay],.agg #[.int .i64 bx,.int .i64 by']] w fun e w'=>e=.returned (.bool (yF px py ax ay bx by'))∧Bw w w':=by
 have HP:Hid (okP px py=true):=hp
 have HA:Hid (okP ax ay=true):=ha
 have HB:Hid (okP bx by'=true):=hb
 clear hp ha hb
 have HE:Hid (yF px py ax ay bx by'=false):=by
  show _=_
  rw [zCu h]
  simp [h1,h2]
 have h2':decide (py<ay)=false:=by simpa using h2
 go_enter Tryz.func303,Tryz.ntmps303
 go_wp2
 generalize hW:(((w.alloc _).alloc _).alloc _:World)=W
 have hB0:Bw w W:=by subst hW;exact Qb
 have c00:∀ W',Bw W W'→W'.cell? ⟨w.heap.size,0,none⟩=some (.int .i64 px):=Qc hW
 have c01:∀ W',Bw W W'→W'.cell? ⟨w.heap.size,1,none⟩=some (.int .i64 py):=Qc hW
 have c10:∀ W',Bw W W'→W'.cell? ⟨w.heap.size+1,0,none⟩=some (.int .i64 ax):=Qc hW
 have c11:∀ W',Bw W W'→W'.cell? ⟨w.heap.size+1,1,none⟩=some (.int .i64 ay):=Qc hW
 have c20:∀ W',Bw W W'→W'.cell? ⟨w.heap.size+1+1,0,none⟩=some (.int .i64 bx):=Qc hW
 have c21:∀ W',Bw W W'→W'.cell? ⟨w.heap.size+1+1,1,none⟩=some (.int .i64 by'):=Qc hW
 have q0:=c00
 clear hW
 have HB0:Hid (Bw w W):=hB0
 clear hB0
 go_cut [7,8] (fun t s wc=>∃ b d:Nat,t=.pointer (some ⟨b,0,none⟩)∧s=.pointer (some ⟨d,0,none⟩)∧b≠d∧Bw W wc∧W.heap.size≤b∧W.heap.size≤d∧wc.cell? ⟨b,0,none⟩=some (.int .i64 ax)∧wc.cell? ⟨b,1,none⟩=some (.int .i64 ay)∧wc.cell? ⟨d,0,none⟩=some (.int .i64 bx)∧wc.cell? ⟨d,1,none⟩=some (.int .i64 by')∧wc.frozen? ⟨b,0,none⟩=false∧wc.frozen? ⟨b,1,none⟩=false∧wc.frozen? ⟨d,0,none⟩=false∧wc.frozen? ⟨d,1,none⟩=false)
 case first =>
  go_region_held3 (fun W'=>Bw W W') ((repeat (first|exact Qr _ _|assumption|refine Qd ?_|refine Qa ?_ _|refine Qt ?_|refine Qs ?_ _|refine Qo ?_ ?_ _ _))) (fail)
  all_goals
   go_wp2_with fail
   go_meet
   case rel =>
    refine ⟨_,_,rfl,rfl,by first | omega | (simp;done) | (simp;omega),by assumption,by first | omega | (simp;done) | (simp;omega),by first | omega | (simp;done) | (simp;omega),?_,?_,?_,?_,?_,?_,?_,?_⟩ <;> (go_simp;done)
 case rest =>
  obtain ⟨b1,d1,rfl,rfl,hne,hB1,hb1,hd1,x1,x2,x3,x4,f1,f2,f3,f4⟩:=hcut
  have hne':d1≠b1:=fun h=>hne h.symm
  have hw0:=World.block_lt_of_cell? _ _ (c00 W (Below.refl _ _))
  have n1:b1≠w.heap.size:=by have:w.heap.size<W.heap.size:=hw0;omega
  have n2:d1≠w.heap.size:=by have:w.heap.size<W.heap.size:=hw0;omega
  have p1:=c01 wc hB1
  clear hw0 c00 c01 c10 c11 c20 c21
  have p0:=q0 wc hB1
  clear q0
  go_wp2
  go_ret
  exact ⟨zF HE.out.symm,zA HB0.out (by exact Qb)⟩
theorem zFy (px py ax ay bx by':Int)(w:World)(hp:okP px py=true)(ha:okP ax ay=true)(hb:okP bx by'=true) :
  Calls Tryz.prog 303 #[.agg #[.int .i64 px,.int .i64 py],.agg #[.int .i64 ax,.int .i64 ay],.agg #[.int .i64 bx,.int .i64 by']] w fun e w'=>e=.returned (.bool (yF px py ax ay bx by'))∧Bw w w':=by
 by_cases h:by'<ay
 ·by_cases h1:by'≤py
  ·by_cases h2:py<ay
   ·exact zHg _ _ _ _ _ _ _ hp ha hb h h1 h2
   ·exact zFw _ _ _ _ _ _ _ hp ha hb h h1 h2
  ·exact zFx _ _ _ _ _ _ _ hp ha hb h h1
 ·by_cases h1:ay≤py
  ·by_cases h2:py<by'
   ·exact zHf _ _ _ _ _ _ _ hp ha hb (by omega) h1 h2
   ·exact zFu _ _ _ _ _ _ _ hp ha hb (by omega) h1 h2
  ·exact zFv _ _ _ _ _ _ _ hp ha hb (by omega) h1
def uN (n k:Nat):Nat:=if k=0 then n - 1 else k - 1
def zAl (px py:Int)(n:Nat)(X Y:Nat→Int)(i:Nat):Bool:=yF px py (X (uN n i)) (Y (uN n i)) (X i) (Y i)
theorem zO5 (px py:Int)(n:Nat)(X Y:Nat→Int)(hn:0<n):xR (zAl px py n X Y) n=xR (xY px py n X Y) n:=by
 refine zLb _ _ n ?_ (fun i hi=>?_) hn
 ·have e:n - 1+1=n:=by omega
  simp [zAl,xY,uN,e,Nat.mod_self]
 ·simp [zAl,xY,uN,Nat.mod_eq_of_lt hi]
theorem zBs (px py:Int)(a:Option Addr)(n cap:Nat)(X Y:Nat→Int)(w:World)(hn:n<3) :
  Calls Tryz.prog 293 #[.agg #[.int .i64 px,.int .i64 py],.slice a n cap] w fun e w'=>e=.returned (.bool (yE px py n X Y))∧Bw w w':=by
 have HE:Hid (yE px py n X Y=false):=by
  show _=_
  have:¬ 3≤n:=by omega
  simp [yE,this]
 have hni:(n:Int)<3:=by omega
 go_enter Tryz.func293,Tryz.ntmps293
 go_wp2
 go_ret
 exact ⟨zF HE.out.symm,Qb⟩
theorem zBc (px py:Int)(a:Option Addr)(n cap:Nat)(X Y:Nat→Int)(w:World)(hn:40<n)(hmax:n≤1048576) :
  Calls Tryz.prog 293 #[.agg #[.int .i64 px,.int .i64 py],.slice a n cap] w fun e w'=>e=.returned (.bool (yE px py n X Y))∧Bw w w':=by
 have HE:Hid (yE px py n X Y=false):=by
  show _=_
  have:¬ n≤40:=by omega
  simp [yE,this]
 have hni:(40:Int)<(n:Int):=by omega
 have hn3:decide ((n:Int)<3)=false:=by simp;omega
 go_enter Tryz.func293,Tryz.ntmps293
 go_wp2
 go_ret
 exact ⟨zF HE.out.symm,Qb⟩
theorem zDi (px py:Int)(b n cap:Nat)(X Y:Nat→Int)(w:World)(hp:okP px py=false)(h3:3≤n)(h40:n≤40) :
  Calls Tryz.prog 293 #[.agg #[.int .i64 px,.int .i64 py],.slice (some ⟨b,0,none⟩) n cap] w fun e w'=>e=.returned (.bool (yE px py n X Y))∧Bw w w':=by
 have HE:Hid (yE px py n X Y=false):=by show _=_;simp [yE,hp]
 have k1:=zKd hp
 have hn3:decide ((n:Int)<3)=false:=by simp;omega
 have hn40:decide ((40:Int)<(n:Int))=false:=by simp;omega
 clear hp
 go_enter Tryz.func293,Tryz.ntmps293
 go_wp2_with (go_at_call 300;refine (yW _ _ _).mono ?_;rintro e w' ⟨rfl,hb⟩)
 go_ret
 exact ⟨zF HE.out.symm,Qb⟩
theorem zBt (px py:Int)(b n cap:Nat)(X Y:Nat→Int)(w:World)(hp:okP px py=true)(hpt:zI w b 0 n X Y)(hbl:b<w.heap.size)(hcap:n≤cap)(h3:3≤n)(h40:n≤40)(hall:zH3 n X Y=false) :
  Calls Tryz.prog 293 #[.agg #[.int .i64 px,.int .i64 py],.slice (some ⟨b,0,none⟩) n cap] w fun e w'=>e=.returned (.bool (yE px py n X Y))∧Bw w w':=by
 have HE:Hid (yE px py n X Y=false):=by show _=_;simp [yE,hall]
 have hN:zBg n X Y=3:=by simp [zBg,hall]
 have HQ:Hid (zI w b 0 n X Y):=hpt
 have k1:=zF8 hp
 have hn3:decide ((n:Int)<3)=false:=by simp;omega
 have hn40:decide ((40:Int)<(n:Int))=false:=by simp;omega
 clear hp hpt hall
 go_enter Tryz.func293,Tryz.ntmps293
 go_wp2_with fail
 refine (yW _ _ _).mono ?_
 rintro e w1 ⟨rfl,hb1⟩
 have hB1:Bw w w1:=by exact Qb
 have HQ1:Hid (zI w1 b 0 n X Y):=HQ.out.below hB1 hbl
 have hbl1:b<w1.heap.size:=Nat.lt_of_lt_of_le hbl hB1.size
 have HB1:Hid (Bw w w1):=hB1
 clear hB1 hb1
 go_wp2_with (go_at_call 301;refine (zA0 _ _ _ _ X Y _ HQ1.out hbl1 hcap (by omega)).mono ?_;rintro e w2 ⟨rfl,hb2⟩)
 go_ret
 exact ⟨zF HE.out.symm,zA HB1.out hb2⟩
theorem zBb (px py:Int)(b n cap:Nat)(X Y:Nat→Int)(w:World)(hp:okP px py=true)(hpt:zI w b 0 n X Y)(hbl:b<w.heap.size)(hcap:n≤cap)(h3:3≤n)(h40:n≤40)(hall:zH3 n X Y=true) :
  Calls Tryz.prog 293 #[.agg #[.int .i64 px,.int .i64 py],.slice (some ⟨b,0,none⟩) n cap] w fun e w'=>e=.returned (.bool (yE px py n X Y))∧Bw w w':=by
 have HE:Hid (yE px py n X Y=xR (zAl px py n X Y) n):=by
  show _=_
  rw [zO5 px py n X Y (by omega)]
  simp [yE,hall,hp,h3,h40]
 have hN:zBg n X Y=0:=by simp [zBg,hall]
 have HP:Hid (okP px py=true):=hp
 have HQ:Hid (zI w b 0 n X Y):=hpt
 have HO:Hid (∀ i,i<n→okP (X i) (Y i)=true):=by
  show ∀ i,i<n→okP (X i) (Y i)=true
  exact of_decide_eq_true hall
 have k1:=zF8 hp
 have hn3:decide ((n:Int)<3)=false:=by simp;omega
 have hn40:decide ((40:Int)<(n:Int))=false:=by simp;omega
 clear hp hpt hall
 go_enter Tryz.func293,Tryz.ntmps293
 go_wp2_with fail
 generalize hW:(w.alloc _:World)=W
 have hB0:Bw w W:=by subst hW;exact Qb
 have c00:∀ W',Bw W W'→W'.cell? ⟨w.heap.size,0,none⟩=some (.int .i64 px):=Qc hW
 have c01:∀ W',Bw W W'→W'.cell? ⟨w.heap.size,1,none⟩=some (.int .i64 py):=Qc hW
 clear hW
 have HB0:Hid (Bw w W):=hB0
 have HQ1:Hid (zI W b 0 n X Y):=HQ.out.below hB0 hbl
 have hblW:b<W.heap.size:=Nat.lt_of_lt_of_le hbl hB0.size
 clear hB0 HQ hbl
 refine (yW _ _ _).mono ?_
 rintro e w1 ⟨rfl,hb1⟩
 have HQ2:Hid (zI w1 b 0 n X Y):=HQ1.out.below hb1 hblW
 have hbl1:b<w1.heap.size:=Nat.lt_of_lt_of_le hblW hb1.size
 go_wp2_with fail
 refine (zA0 _ _ _ _ X Y _ HQ2.out hbl1 hcap (by omega)).mono ?_
 rintro e w2 ⟨rfl,hb2⟩
 have hB2:Bw W w2:=zA hb1 hb2
 have hwr:IntKind.i64.wrap ((n:Int) - 1)=(n:Int) - 1:=IntWalk.i64_in _ (by omega)
 have hi1:(0:Int)≤(n:Int) - 1:=by omega
 have hi2:(n:Int) - 1<(n:Int):=by omega
 have hti:((n:Int) - 1).toNat=n - 1:=by omega
 obtain ⟨hx,hy⟩:=(HQ1.out.below hB2 hblW) (n - 1) (by omega)
 simp only [Nat.zero_add] at hx hy
 clear hb1 hb2 HQ2
 go_wp2_with fail
 refine (vU _ _ _).mono ?_
 rintro e w3 ⟨rfl,hb3⟩
 have hB3:Bw W w3:=zA hB2 hb3
 clear hx hy hB2 hb3
 have HQ3:Hid (zI w3 b 0 n X Y):=HQ1.out.below hB3 hblW
 have hbl3:b<w3.heap.size:=Nat.lt_of_lt_of_le hblW hB3.size
 replace c00:=fun W' (h:Below w3.heap.size w3 W')=>c00 W' (zA hB3 h)
 replace c01:=fun W' (h:Below w3.heap.size w3 W')=>c01 W' (zA hB3 h)
 have HB3:Hid (Bw w w3):=zA HB0.out hB3
 clear hB3 HB0 HQ1 hblW hbl1 hwr hi1 hi2 hti hN k1
 go_wp2
 go_loopw [5,35] (fun q i wr=>∃ k:Nat,k≤n∧i=.int .i64 k∧q=.bool (xR (zAl px py n X Y) k)∧Bw w3 wr∧wr.cell? ⟨w3.heap.size,0,none⟩=some (.int .i64 (X (uN n k)))∧wr.cell? ⟨w3.heap.size,1,none⟩=some (.int .i64 (Y (uN n k)))∧wr.frozen? ⟨w3.heap.size,0,none⟩=false∧wr.frozen? ⟨w3.heap.size,1,none⟩=false) (fun _ i _=>n - (intOf i).toNat)
 case atStart=>exact ⟨0,by omega,rfl,rfl,Qb,by simp [go_sem,uN],by simp [go_sem,uN],by simp [go_sem],by simp [go_sem]⟩
 case round =>
  obtain ⟨k,hk,rfl,rfl,hB,f0,f1,z0,z1⟩:=hrel
  by_cases hlt:k<n
  ·obtain ⟨hx,hy⟩:=(HQ3.out.below hB hbl3) k hlt
   simp only [Nat.zero_add] at hx hy
   have hFl:w3.heap.size<wr.heap.size:=World.block_lt_of_cell? _ _ f0
   have HK1:Hid (okP (X (uN n k)) (Y (uN n k))=true):=HO.out _ (by unfold uN;split <;> omega)
   have HK2:Hid (okP (X k) (Y k)=true):=HO.out k hlt
   have hodd:Hid (xR (zAl px py n X Y) (k+1)=if zAl px py n X Y k=true then !(xR (zAl px py n X Y) k) else xR (zAl px py n X Y) k):=rfl
   have HS:Hid (zAl px py n X Y k=yF px py (X (uN n k)) (Y (uN n k)) (X k) (Y k)):=rfl
   have hprev:uN n (k+1)=k:=by simp [uN]
   have HV:Hid (uN n (k+1)=k):=hprev
   clear hprev
   have hi:(k:Int)<(n:Int):=by omega
   generalize hXp:X (uN n k)=xp at *
   generalize hYp:Y (uN n k)=yp at *
   clear hXp hYp
   have F0:Hid (wr.cell? ⟨w3.heap.size,0,none⟩=some (.int .i64 xp)):=f0
   have F1:Hid (wr.cell? ⟨w3.heap.size,1,none⟩=some (.int .i64 yp)):=f1
   have Z0:Hid (wr.frozen? ⟨w3.heap.size,0,none⟩=false):=z0
   have Z1:Hid (wr.frozen? ⟨w3.heap.size,1,none⟩=false):=z1
   have HB:Hid (Bw w3 wr):=hB
   clear f0 f1 z0 z1 hB
   go_wp2_with fail
   refine (vU _ _ _).mono ?_
   rintro e w4 ⟨rfl,hb4⟩
   have hB4:Bw wr w4:=by exact Qb
   clear hb4 hx hy
   go_wp2
   generalize hV:(w4.alloc _:World)=V
   have hBV:Bw wr V:=by subst hV;exact Qb
   have t0:∀ W',Bw V W'→W'.cell? ⟨w4.heap.size,0,none⟩=some (.int .i64 (X k)):=Qc hV
   have t1:∀ W',Bw V W'→W'.cell? ⟨w4.heap.size,1,none⟩=some (.int .i64 (Y k)):=Qc hV
   have f0:∀ W',Bw V W'→W'.cell? ⟨w3.heap.size,0,none⟩=some (.int .i64 xp):=fun W' h=>((zA hBV h).cell (p:=⟨w3.heap.size,0,none⟩) hFl).trans F0.out
   have f1:∀ W',Bw V W'→W'.cell? ⟨w3.heap.size,1,none⟩=some (.int .i64 yp):=fun W' h=>((zA hBV h).cell (p:=⟨w3.heap.size,1,none⟩) hFl).trans F1.out
   have z0:∀ W',Bw V W'→W'.frozen? ⟨w3.heap.size,0,none⟩=false:=fun W' h=>((zA hBV h).frozen (p:=⟨w3.heap.size,0,none⟩) hFl).trans Z0.out
   have z1:∀ W',Bw V W'→W'.frozen? ⟨w3.heap.size,1,none⟩=false:=fun W' h=>((zA hBV h).frozen (p:=⟨w3.heap.size,1,none⟩) hFl).trans Z1.out
   have hBV3:Bw w3 V:=zA HB.out hBV
   replace c00:=fun W' (h:Below V.heap.size V W')=>c00 W' (zA hBV3 h)
   replace c01:=fun W' (h:Below V.heap.size V W')=>c01 W' (zA hBV3 h)
   have HBV3:Hid (Bw w3 V):=hBV3
   clear hV hBV hBV3 hB4
   cases hsv:yF px py xp yp (X k) (Y k)
   all_goals
    go_region_held3 (fun W'=>Bw V W') ((repeat (first|exact Qr _ _|assumption|refine Qd ?_|refine Qa ?_ _|refine Qt ?_|refine Qs ?_ _|refine Qo ?_ ?_ _ _)))
     (first
      | (go_at_call 302;refine (vU _ _ _).mono ?_;rintro e w' ⟨rfl,hb⟩)
      | (go_at_call 303;refine (zFy _ _ _ _ _ _ _ HP.out HK1.out HK2.out).mono ?_;rintro e w' ⟨rfl,hb⟩))
    rename_i hfin
    go_wp2
    go_roundw
    case rel =>
     refine ⟨k+1,by omega,by go_num,congrArg Value.bool (by rw [hodd.out,HS.out,hsv];rfl),?_,?_,?_,?_,?_⟩
     ·have hG:=zA HBV3.out hfin
      exact (hG.setCell (Nat.le_refl _) _).setCell (Nat.le_refl _) _
     ·rw [HV.out]
      exact zQc (Option.isSome_iff_exists.2 ⟨_,f0 _ hfin⟩)
     ·rw [HV.out]
      exact zQb (Option.isSome_iff_exists.2 ⟨_,f1 _ hfin⟩)
     ·simp [World.frozen?_setCell,z0 _ hfin]
     ·simp [World.frozen?_setCell,z1 _ hfin]
    case measure=>simp [intOf];omega
  ·go_wp2
   go_ret
   have hkn:k=n:=by omega
   subst hkn
   exact ⟨zF HE.out.symm,zA HB3.out hB⟩
theorem zBu (px py:Int)(b n cap:Nat)(X Y:Nat→Int)(w:World)(hpt:zI w b 0 n X Y)(hbl:b<w.heap.size)(hcap:n≤cap)(hmax:n≤1048576) :
  Calls Tryz.prog 293 #[.agg #[.int .i64 px,.int .i64 py],.slice (some ⟨b,0,none⟩) n cap] w fun e w'=>e=.returned (.bool (yE px py n X Y))∧Bw w w':=by
 by_cases h3:n<3
 ·exact zBs _ _ _ _ _ _ _ _ h3
 by_cases h40:40<n
 ·exact zBc _ _ _ _ _ _ _ _ h40 hmax
 cases hp:okP px py
 ·exact zDi _ _ _ _ _ _ _ _ hp (by omega) (by omega)
 cases ha:zH3 n X Y
 ·exact zBt _ _ _ _ _ _ _ _ hp hpt hbl hcap (by omega) (by omega) ha
 ·exact zBb _ _ _ _ _ _ _ _ hp hpt hbl hcap (by omega) (by omega) ha
theorem zBv (z x y:Int)(w:World):Calls Tryz.prog 212 #[.int .i64 z,.int .i64 x,.int .i64 y] w fun e w'=>e=.returned (zL6 z x y)∧Bw w w':=by
 go_enter Tryz.func212,Tryz.ntmps212
 go_wp2_with fail
 generalize hW:(w.alloc _:World)=W
 have HB0:Hid (Bw w W):=by show Below _ _ _;subst hW;exact Qb
 have HT:Hid (zC W w.heap.size 3):=by
  show zC _ _ _
  subst hW
  exact there3 w (.int .i64 0) (.int .i64 0) (.int .i64 0) 268
 have hsz:w.heap.size<W.heap.size:=by subst hW;simp
 clear hW
 refine (vD _ _ _ _).mono ?_
 rintro e w1 ⟨rfl,hb1⟩
 have HT1:Hid (zC w1 w.heap.size 3):=HT.out.below hb1
 have HB1:Hid (Bw w w1):=zA HB0.out hb1
 have hsz1:w.heap.size<w1.heap.size:=Nat.lt_of_lt_of_le hsz hb1.size
 clear hb1 HT HB0
 cases h:xZ z x y
 ·have hT':=HT1.out
  have t0:=hT'.cell 0 (by omega)
  have t1:=hT'.cell 1 (by omega)
  have t2:=hT'.cell 2 (by omega)
  have f0:=(hT' 0 (by omega)).2
  have f1:=(hT' 1 (by omega)).2
  have f2:=(hT' 2 (by omega)).2
  clear hT'
  go_wp2_with fail
  obtain ⟨q0,q1,q2⟩:=zM3 (a:=.int .i64 3) (b:=.int .i64 0) (c:=.int .i64 0) HT1.out
  refine bodyPost_ret (v:=.agg #[.int .i64 3,.int .i64 0,.int .i64 0]) (by simp [results,Tryz.results212,go_sem,q0,q1,q2]) rfl ⟨by simp [zL6,h],?_⟩
  have HB:=HB1.out
  exact Qb
 ·have hz:=yC h
  have hb:=vO h
  have s1:=fun w=>uY z w
  have hv:zKo z=.agg #[.int .i64 0,.int .i64 (yI z)]:=by simp [zKo,hz]
  simp only [hv] at s1
  have i1:∀ u w,(Instr.field 63 (.agg #[.int .i64 0,.int .i64 u]) 1).run Tryz.prog w=.ok (.int .i64 u) w:=fun _ _=>by kernel_rfl
  have hc:Hid (zL6 z x y=.agg #[.int .i64 0,.int .i64 (zV z x),.int .i64 (zV z y)]):=by show _=_;simp [zL6,h]
  have hcx:zV z x=(2 * x+1) * yI z:=rfl
  have hcy:zV z y=(2 * y+1) * yI z:=rfl
  have hbd:yI z=128∨yI z=64∨yI z=32∨yI z=16:=by rcases zK hz with rfl | rfl | rfl | rfl <;> simp [yI]
  have hpb:=(xE hz).2
  go_wp2_with fail
  refine (s1 _).mono ?_
  rintro e w2 ⟨rfl,hb2⟩
  generalize yI z=u at *
  generalize zAj z=m at *
  have hT':=HT1.out.below hb2
  have HT2:Hid (zC w2 w.heap.size 3):=hT'
  have t0:=hT'.cell 0 (by omega)
  have t1:=hT'.cell 1 (by omega)
  have t2:=hT'.cell 2 (by omega)
  have f0:=(hT' 0 (by omega)).2
  have f1:=(hT' 1 (by omega)).2
  have f2:=(hT' 2 (by omega)).2
  have HB2:Hid (Bw w w2):=zA HB1.out hb2
  have hsz2:w.heap.size<w2.heap.size:=Nat.lt_of_lt_of_le hsz1 hb2.size
  clear hT' hb2
  rcases hbd with rfl | rfl | rfl | rfl
  all_goals
   go_wp2_with fail
   obtain ⟨q0,q1,q2⟩:=zM3 (a:=.int .i64 0) (b:=.int .i64 (zV z x)) (c:=.int .i64 (zV z y)) HT2.out
   rw [hcx,hcy] at q0 q1 q2
   refine bodyPost_ret (v:=.agg #[.int .i64 0,.int .i64 (zV z x),.int .i64 (zV z y)]) (by simp [results,Tryz.results212,go_sem,q0,q1,q2,hcx,hcy]) rfl ⟨by rw [hc.out],?_⟩
   have HB:=HB2.out
   exact Qb
def vC (z:Int):Int:=if z=0 then 0 else if z=1 then 1 else if z=2 then 3 else 7
def xV (z x y:Int):Bool:=yM z && (inB x 0 (vC z) && inB y 0 (vC z))
def zDx (z x y:Int):Int:=if xV z x y=true then 0 else 3
theorem vT (z x y:Int):(zDx z x y=0∧xV z x y=true)∨(zDx z x y=3∧xV z x y=false):=by
 unfold zDx
 cases h:xV z x y <;> simp
theorem zGu {z x y:Int}(h:xV z x y=true):z=0∨z=1∨z=2∨z=3:=by
 simp [xV] at h
 exact zK h.1
theorem zM8 {z x y:Int}(h:xV z x y=true):(0≤x∧x≤vC z)∧(0≤y∧y≤vC z):=by
 simp [xV,inB] at h
 exact h.2
theorem zO9 (z:Int):vC z≤7:=by unfold vC;split;omega;split;omega;split <;> omega
theorem zB1 {z x y:Int}(h:xV z x y=true):(0≤z∧z≤3)∧(0≤x∧x≤7)∧(0≤y∧y≤7):=by
 have h1:=zM8 h
 have h2:=zO9 z
 refine ⟨?_,⟨h1.1.1,by omega⟩,h1.2.1,by omega⟩
 rcases zGu h with rfl | rfl | rfl | rfl <;> omega
theorem uU (z x y:Int)(w:World):Calls Tryz.prog 132 #[.agg #[.int .i64 z,.int .i64 x,.int .i64 y]] w fun e w'=>e=.returned (.int .i64 (zDx z x y))∧Bw w w':=by
 cases h:yM z
 ·have hk:Hid (zDx z x y=3):=by show _=_;simp [zDx,xV,h]
  go_enter Tryz.func132,Tryz.ntmps132
  go_wp2_with (first | (go_at_call 176;refine (yP _ _).mono ?_;rintro e w' ⟨rfl,rfl⟩) | (go_at_call 62;refine (zM _ _ _ _).mono ?_;rintro e w' ⟨rfl,rfl⟩))
  go_ret
  exact ⟨zD hk.out.symm,Qb⟩
 ·have hk:Hid (zDx z x y=if (inB x 0 (vC z) && inB y 0 (vC z))=true then 0 else 3):=by show _=_;simp [zDx,xV,h]
  rcases zK h with rfl | rfl | rfl | rfl
  ·simp only [show vC 0=0 from rfl] at hk
   cases hx:inB x 0 0 <;> cases hy:inB y 0 0
   all_goals
    rw [hx,hy] at hk
    go_enter Tryz.func132,Tryz.ntmps132
    go_wp2_with (first | (go_at_call 176;refine (yP _ _).mono ?_;rintro e w' ⟨rfl,rfl⟩) | (go_at_call 62;refine (zM _ _ _ _).mono ?_;rintro e w' ⟨rfl,rfl⟩))
    all_goals (go_ret;exact ⟨zD (by rw [hk.out];rfl),Qb⟩)
  ·simp only [show vC 1=1 from rfl] at hk
   cases hx:inB x 0 1 <;> cases hy:inB y 0 1
   all_goals
    rw [hx,hy] at hk
    go_enter Tryz.func132,Tryz.ntmps132
    go_wp2_with (first | (go_at_call 176;refine (yP _ _).mono ?_;rintro e w' ⟨rfl,rfl⟩) | (go_at_call 62;refine (zM _ _ _ _).mono ?_;rintro e w' ⟨rfl,rfl⟩))
    all_goals (go_ret;exact ⟨zD (by rw [hk.out];rfl),Qb⟩)
  ·simp only [show vC 2=3 from rfl] at hk
   cases hx:inB x 0 3 <;> cases hy:inB y 0 3
   all_goals
    rw [hx,hy] at hk
    go_enter Tryz.func132,Tryz.ntmps132
    go_wp2_with (first | (go_at_call 176;refine (yP _ _).mono ?_;rintro e w' ⟨rfl,rfl⟩) | (go_at_call 62;refine (zM _ _ _ _).mono ?_;rintro e w' ⟨rfl,rfl⟩))
    all_goals (go_ret;exact ⟨zD (by rw [hk.out];rfl),Qb⟩)
  ·simp only [show vC 3=7 from rfl] at hk
   cases hx:inB x 0 7 <;> cases hy:inB y 0 7
   all_goals
    rw [hx,hy] at hk
    go_enter Tryz.func132,Tryz.ntmps132
    go_wp2_with (first | (go_at_call 176;refine (yP _ _).mono ?_;rintro e w' ⟨rfl,rfl⟩) | (go_at_call 62;refine (zM _ _ _ _).mono ?_;rintro e w' ⟨rfl,rfl⟩))
    all_goals (go_ret;exact ⟨zD (by rw [hk.out];rfl),Qb⟩)
theorem zC7 (z x y:Int)(w:World):Calls Tryz.prog 113 #[.agg #[.int .i64 z,.int .i64 x,.int .i64 y]] w fun e w'=>e=.returned (.int .i64 (zDx z x y))∧Bw w w':=by
 cases h:yM z
 ·have hk:Hid (zDx z x y=3):=by show _=_;simp [zDx,xV,h]
  go_enter Tryz.func113,Tryz.ntmps113
  go_wp2_with (first | (go_at_call 64;refine (xM _ _).mono ?_;rintro e w' ⟨rfl,rfl⟩) | (go_at_call 32;refine (zS _ _ _ _).mono ?_;rintro e w' ⟨rfl,rfl⟩))
  go_ret
  exact ⟨zD hk.out.symm,Qb⟩
 ·have hk:Hid (zDx z x y=if (inB x 0 (vC z) && inB y 0 (vC z))=true then 0 else 3):=by show _=_;simp [zDx,xV,h]
  rcases zK h with rfl | rfl | rfl | rfl
  ·simp only [show vC 0=0 from rfl] at hk
   cases hx:inB x 0 0 <;> cases hy:inB y 0 0
   all_goals
    rw [hx,hy] at hk
    go_enter Tryz.func113,Tryz.ntmps113
    go_wp2_with (first | (go_at_call 64;refine (xM _ _).mono ?_;rintro e w' ⟨rfl,rfl⟩) | (go_at_call 32;refine (zS _ _ _ _).mono ?_;rintro e w' ⟨rfl,rfl⟩))
    all_goals (go_ret;exact ⟨zD (by rw [hk.out];rfl),Qb⟩)
  ·simp only [show vC 1=1 from rfl] at hk
   cases hx:inB x 0 1 <;> cases hy:inB y 0 1
   all_goals
    rw [hx,hy] at hk
    go_enter Tryz.func113,Tryz.ntmps113
    go_wp2_with (first | (go_at_call 64;refine (xM _ _).mono ?_;rintro e w' ⟨rfl,rfl⟩) | (go_at_call 32;refine (zS _ _ _ _).mono ?_;rintro e w' ⟨rfl,rfl⟩))
    all_goals (go_ret;exact ⟨zD (by rw [hk.out];rfl),Qb⟩)
  ·simp only [show vC 2=3 from rfl] at hk
   cases hx:inB x 0 3 <;> cases hy:inB y 0 3
   all_goals
    rw [hx,hy] at hk
    go_enter Tryz.func113,Tryz.ntmps113
    go_wp2_with (first | (go_at_call 64;refine (xM _ _).mono ?_;rintro e w' ⟨rfl,rfl⟩) | (go_at_call 32;refine (zS _ _ _ _).mono ?_;rintro e w' ⟨rfl,rfl⟩))
    all_goals (go_ret;exact ⟨zD (by rw [hk.out];rfl),Qb⟩)
  ·simp only [show vC 3=7 from rfl] at hk
   cases hx:inB x 0 7 <;> cases hy:inB y 0 7
   all_goals
    rw [hx,hy] at hk
    go_enter Tryz.func113,Tryz.ntmps113
    go_wp2_with (first | (go_at_call 64;refine (xM _ _).mono ?_;rintro e w' ⟨rfl,rfl⟩) | (go_at_call 32;refine (zS _ _ _ _).mono ?_;rintro e w' ⟨rfl,rfl⟩))
    all_goals (go_ret;exact ⟨zD (by rw [hk.out];rfl),Qb⟩)
abbrev xD (z x y:Int):Value:=.agg #[.int .i64 z,.int .i64 x,.int .i64 y]
abbrev rrV (c z x y:Int):Value:=.agg #[.int .i64 c,.int .i64 z,.int .i64 x,.int .i64 y]
def atV (z x y:Int):Value:=if xZ z x y=true then rrV 0 z (x / 8) (y / 8) else rrV 3 0 0 0
theorem zK9 (z x y:Int)(w:World)(h:xV z x y=true):Calls Tryz.prog 224 #[xD z x y] w fun e w'=>e=.returned (xD (z - 1) (x / 2) (y / 2))∧Bw w w':=by
 obtain ⟨⟨z0,z1⟩,⟨x0,x1⟩,y0,y1⟩:=zB1 h
 clear h
 have dx:x.tdiv 2=x / 2:=Int.tdiv_eq_ediv_of_nonneg x0
 have dy:y.tdiv 2=y / 2:=Int.tdiv_eq_ediv_of_nonneg y0
 go_enter Tryz.func224,Tryz.ntmps224
 go_wp2
 exact bodyPost_ret (v:=xD (z - 1) (x / 2) (y / 2)) (by simp [results,Tryz.results224,go_sem]) rfl ⟨rfl,Qb⟩
theorem zG4 (z x y:Int)(w:World)(h:xV z x y=true):Calls Tryz.prog 142 #[xD z x y] w fun e w'=>e=.returned (xD (z - 1) (x / 2) (y / 2))∧Bw w w':=by
 obtain ⟨⟨z0,z1⟩,⟨x0,x1⟩,y0,y1⟩:=zB1 h
 clear h
 have dx:x.tdiv 2=x / 2:=Int.tdiv_eq_ediv_of_nonneg x0
 have dy:y.tdiv 2=y / 2:=Int.tdiv_eq_ediv_of_nonneg y0
 go_enter Tryz.func142,Tryz.ntmps142
 go_wp2
 exact bodyPost_ret (v:=xD (z - 1) (x / 2) (y / 2)) (by simp [results,Tryz.results142,go_sem]) rfl ⟨rfl,Qb⟩
theorem zFp (z x y:Int)(w:World)(h:xZ z x y=true):Calls Tryz.prog 93 #[.int .i64 z,.int .i64 x,.int .i64 y] w fun e w'=>e=.returned (xD z (x / 8) (y / 8))∧Bw w w':=by
 obtain ⟨⟨x0,x1⟩,y0,y1⟩:=vO h
 have hp:=(xE (yC h)).2
 clear h
 generalize zAj z=u at *
 have dx:x.tdiv 8=x / 8:=Int.tdiv_eq_ediv_of_nonneg x0
 have dy:y.tdiv 8=y / 8:=Int.tdiv_eq_ediv_of_nonneg y0
 go_enter Tryz.func93,Tryz.ntmps93
 go_wp2
 exact bodyPost_ret (v:=xD z (x / 8) (y / 8)) (by simp [results,Tryz.results93,go_sem]) rfl ⟨rfl,Qb⟩
theorem zIk (V:World)(a b c d:Value)(t:TypeId):zC (V.alloc (.cells #[a,b,c,d] t)) V.heap.size 4:=fun o ho=>by
 have:o=0∨o=1∨o=2∨o=3:=by omega
 rcases this with rfl | rfl | rfl | rfl <;> exact ⟨⟨_,by simp [go_sem];rfl⟩,by simp [go_sem]⟩
theorem uR (V:World)(a b c:Value)(t:TypeId):zC (V.alloc (.cells #[a,b,c] t)) V.heap.size 3:=fun o ho=>by
 have:o=0∨o=1∨o=2:=by omega
 rcases this with rfl | rfl | rfl <;> exact ⟨⟨_,by simp [go_sem];rfl⟩,by simp [go_sem]⟩
theorem zAn (z x y:Int)(w:World):Calls Tryz.prog 174 #[.int .i64 z,.int .i64 x,.int .i64 y] w fun e w'=>e=.returned (atV z x y)∧Bw w w':=by
 go_enter Tryz.func174,Tryz.ntmps174
 go_wp2_with fail
 generalize hW:(w.alloc _:World)=W
 have HB0:Hid (Bw w W):=by show Below _ _ _;subst hW;exact Qb
 have HT:Hid (zC W w.heap.size 4):=by
  show zC _ _ _
  subst hW
  exact zIk w (.int .i64 0) (.int .i64 0) (.int .i64 0) (.int .i64 0) 230
 have hsz:w.heap.size<W.heap.size:=by subst hW;simp
 clear hW
 refine (vD _ _ _ _).mono ?_
 rintro e w1 ⟨rfl,hb1⟩
 have hT':=HT.out.below hb1
 have HT1:Hid (zC w1 w.heap.size 4):=hT'
 have t0:=hT'.cell 0 (by omega)
 have t1:=hT'.cell 1 (by omega)
 have t2:=hT'.cell 2 (by omega)
 have t3:=hT'.cell 3 (by omega)
 have f0:=(hT' 0 (by omega)).2
 have f1:=(hT' 1 (by omega)).2
 have f2:=(hT' 2 (by omega)).2
 have f3:=(hT' 3 (by omega)).2
 have HB1:Hid (Bw w w1):=zA HB0.out hb1
 have hsz1:w.heap.size<w1.heap.size:=Nat.lt_of_lt_of_le hsz hb1.size
 clear hb1 HT HB0 hT' hsz
 cases h:xZ z x y
 ·have hq:Hid (atV z x y=rrV 3 0 0 0):=by show _=_;simp [atV,h]
  go_wp2_with fail
  obtain ⟨q0,q1,q2,q3⟩:=uT (a:=.int .i64 3) (b:=.int .i64 0) (c:=.int .i64 0) (d:=.int .i64 0) HT1.out
  refine bodyPost_ret (v:=rrV 3 0 0 0) (by simp [results,Tryz.results174,go_sem,q0,q1,q2,q3]) rfl ⟨by rw [hq.out],?_⟩
  have HB:=HB1.out
  exact Qb
 ·have hq:Hid (atV z x y=rrV 0 z (x / 8) (y / 8)):=by show _=_;simp [atV,h]
  obtain ⟨⟨x0,x1⟩,y0,y1⟩:=vO h
  have hp:=(xE (yC h)).2
  clear h
  generalize zAj z=u at *
  have dx:x.tdiv 8=x / 8:=Int.tdiv_eq_ediv_of_nonneg x0
  have dy:y.tdiv 8=y / 8:=Int.tdiv_eq_ediv_of_nonneg y0
  go_wp2_with fail
  obtain ⟨q0,q1,q2,q3⟩:=uT (a:=.int .i64 0) (b:=.int .i64 z) (c:=.int .i64 (x / 8)) (d:=.int .i64 (y / 8)) HT1.out
  refine bodyPost_ret (v:=rrV 0 z (x / 8) (y / 8)) (by simp [results,Tryz.results174,go_sem,q0,q1,q2,q3]) rfl ⟨by rw [hq.out],?_⟩
  have HB:=HB1.out
  exact Qb
theorem zGj (z x y:Int)(w:World):Calls Tryz.prog 144 #[xD z x y] w fun e w'=>e=.returned (xD z x y)∧Bw w w':=by
 go_enter Tryz.func144,Tryz.ntmps144
 go_wp2
 exact bodyPost_ret (v:=xD z x y) (by simp [results,Tryz.results144,go_sem]) rfl ⟨rfl,Qb⟩
theorem zHp (z x y:Int)(w:World):Calls Tryz.prog 85 #[xD z x y,xD z x y] w fun e w'=>e=.returned (.bool true)∧Bw w w':=by
 go_enter Tryz.func85,Tryz.ntmps85
 go_wp2
 go_ret
 exact ⟨rfl,Qb⟩
theorem zJv {W:World}{r:Nat}{a b c:Value}(hT:zC W r 3) :
  (((W.setCell ⟨r,0,none⟩ a).setCell ⟨r,1,none⟩ b).setCell ⟨r,2,none⟩ c).cell? ⟨r,0,none⟩=some a ∧
  (((W.setCell ⟨r,0,none⟩ a).setCell ⟨r,1,none⟩ b).setCell ⟨r,2,none⟩ c).cell? ⟨r,1,none⟩=some b ∧
  (((W.setCell ⟨r,0,none⟩ a).setCell ⟨r,1,none⟩ b).setCell ⟨r,2,none⟩ c).cell? ⟨r,2,none⟩=some c:=by
 obtain ⟨x0,h0⟩:=(hT 0 (by omega)).1
 obtain ⟨x1,h1⟩:=(hT 1 (by omega)).1
 obtain ⟨x2,h2⟩:=(hT 2 (by omega)).1
 have ne:∀ i j:Nat,i≠j→(⟨r,i,none⟩:Addr)≠⟨r,j,none⟩:=fun i j hij h=>hij (by injection h)
 refine ⟨?_,?_,?_⟩
 ·rw [zB (ne 2 0 (by omega)),zB (ne 1 0 (by omega))];exact zG h0
 ·rw [zB (ne 2 1 (by omega))];exact zG (by rw [zB (ne 0 1 (by omega))];exact h1)
 ·exact zG (by rw [zB (ne 1 2 (by omega)),zB (ne 0 2 (by omega))];exact h2)
def zBw (x:Int):Nat→Int
 | 0=>x
 | k+1=>zBw x k / 2
theorem zJx {z x y:Int}(h:xV z x y=true)(hz:0<z):xV (z - 1) (x / 2) (y / 2)=true:=by
 obtain ⟨⟨x0,x1⟩,y0,y1⟩:=zM8 h
 rcases zGu h with rfl | rfl | rfl | rfl
 ·omega
 all_goals
  simp [vC] at x1 y1
  simp [xV,yM,inB,vC]
  omega
def xL (G:Int→Int→Int)(x y:Int)(wide high:Nat):List Int:=(List.range high).flatMap fun (r:Nat)=>(List.range wide).map fun (c:Nat)=>G (x+(c:Int)) (y+(r:Int))
def vN (G:Int→Int→Int)(x y:Int)(wide r c:Nat):List Int:=xL G x y wide r ++ (List.range c).map fun (c:Nat)=>G (x+(c:Int)) (y+(r:Int))
theorem zCy (G:Int→Int→Int)(x y:Int)(wide:Nat):∀ high,(xL G x y wide high).length=high * wide
 | 0=>by simp [xL]
 | h+1=>by
  have:=zCy G x y wide h
  unfold xL at this ⊢
  rw [List.range_succ,List.flatMap_append,List.length_append,this]
  simp
  rw [Nat.add_mul];omega
theorem zK5 (G:Int→Int→Int)(x y:Int)(wide r c:Nat):vN G x y wide r (c+1)=vN G x y wide r c ++ [G (x+(c:Int)) (y+(r:Int))]:=by
 simp [vN,List.range_succ]
theorem zEp (G:Int→Int→Int)(x y:Int)(wide r:Nat):vN G x y wide r wide=xL G x y wide (r+1):=by
 simp [vN,xL,List.range_succ]
theorem zK4 (G:Int→Int→Int)(x y:Int)(wide r:Nat):vN G x y wide r 0=xL G x y wide r:=by simp [vN]
theorem zM6 (G:Int→Int→Int)(x y:Int)(wide r c:Nat):(vN G x y wide r c).length=r * wide+c:=by
 simp [vN,zCy]
theorem zB0 (f:Nat)(caps:Array Value)(x y:Int)(wide high:Nat)(G:Int→Int→Int)(w:World)(hwide:wide≤8)(hhigh:high≤8)(hx:0≤x∧x≤1000)(hy:0≤y∧y≤1000)(hce:∀ args w,(callFunc f args).run Tryz.prog w=.ok (.enter f args) w)(hF:∀ W c r,Bw w W→c<wide→r<high→Calls Tryz.prog f (#[.int .i64 (x+(c:Nat)),.int .i64 (y+(r:Nat))] ++ caps) W fun e W'=>e=.returned (.int .i64 (G (x+(c:Nat)) (y+(r:Nat))))∧Bw W W') :
  Calls Tryz.prog 145 #[.int .i64 x,.int .i64 y,.int .i64 (wide:Int),.int .i64 (high:Int),.func (.func f) #[] caps] w fun e w'=>∃ v,e=.returned v∧xJ w.heap.size w' v (xL G x y wide high)∧Bw w w':=by
 obtain ⟨i0,hi,hz0,hz1,hz2⟩:=info_parts zCl
 have HF:=(show Hid _ from hF)
 clear hF
 go_enter Tryz.func145,Tryz.ntmps145
 go_wp2_with fail
 go_loopw [11,15] (fun v j wr=>∃ r:Nat,r≤high∧j=.int .i64 ((r:Nat):Int)∧xJ w.heap.size wr v (xL G x y wide r)∧Bw w wr) (fun _ j _=>high - (intOf j).toNat)
 case atStart=>exact ⟨0,by omega,rfl,xJ.no _ _,Below.refl _ _⟩
 case round =>
  obtain ⟨r,hr,rfl,hO,hB⟩:=hrel
  have HO0:Hid (xJ w.heap.size wr u11 (xL G x y wide r)):=hO
  have HB0:Hid (Bw w wr):=hB
  clear hO hB
  by_cases hlt:r<high
  ·have hi':(r:Int)<(high:Int):=by omega
   go_wp2_with fail
   go_loopw [11,19] (fun v j wr=>∃ m:Nat,m≤wide∧j=.int .i64 (m:Int)∧xJ w.heap.size wr v (vN G x y wide r m)∧Bw w wr) (fun _ j _=>wide - (intOf j).toNat)
   case atStart=>exact ⟨0,by omega,rfl,by rw [zK4];exact HO0.out,HB0.out⟩
   case round =>
    obtain ⟨m,hm,rfl,hO,hB⟩:=hrel
    have HO:Hid (xJ w.heap.size wr u11 (vN G x y wide r m)):=hO
    have HB:Hid (Bw w wr):=hB
    have hszr:w.heap.size≤wr.heap.size:=hB.size
    clear hO hB HO0 HB0
    by_cases hlm:m<wide
    ·have hm':(m:Int)<(wide:Int):=by omega
     have HC:Hid (Calls Tryz.prog f (#[.int .i64 (x+(m:Nat)),.int .i64 (y+(r:Nat))] ++ caps) wr fun e W'=>e=.returned (.int .i64 (G (x+(m:Nat)) (y+(r:Nat))))∧Bw wr W'):=HF.out wr m r HB.out hlm hlt
     have HS:Hid (vN G x y wide r (m+1)=vN G x y wide r m ++ [G (x+(m:Int)) (y+(r:Int))]):=zK5 _ _ _ _ _ _
     have HL:Hid ((vN G x y wide r m).length≤64):=by
      show _≤_
      rw [zM6]
      have:r * wide≤7 * 8:=Nat.mul_le_mul (by omega) hwide
      omega
     go_wp2_with fail
     refine Calls.mono HC.out ?_
     rintro e w2 ⟨rfl,hb2⟩
     have HO2:Hid (xJ w.heap.size w2 u11 (vN G x y wide r m)):=HO.out.below hb2
     have HB2:Hid (Bw w w2):=zA HB.out hb2
     have hsz2:w.heap.size≤w2.heap.size:=Nat.le_trans hszr hb2.size
     clear HC hb2 HO HB
     generalize G (x+(m:Int)) (y+(r:Int))=g at *
     have hlen:=HL.out
     have hblk:∀ b,u11.ownBlock=some b→w.heap.size≤b:=fun b hb=>(World.ownsRow.lt HO2.out b hb).1
     have HR:Hid (∀ w' v',w'.ownsRow w.heap.size 2 1 v' ((vN G x y wide r m).length+1) ((vN G x y wide r m).map (.int .i64 ·) ++ [.int .i64 g])→xJ w.heap.size w' v' (vN G x y wide r (m+1))):=fun w' v' h=>by
      rw [HS.out]
      show World.ownsRow _ _ _ _ _ _ _
      rw [List.length_append,List.map_append]
      exact h
     clear HS HL
     go_wp2_with (first
      | (at_builtin;go_must (refine wpList_append_own _ rfl _ _ 46 rfl w.heap.size 2 i0 (.int .i64 0) 1 8 Tryz.underlying46 hi hz0 hz1 hz2 rfl (by decide) _ (vN G x y wide r m).length ((vN G x y wide r m).map (.int .i64 ·)) rfl (World.ownsRow.alloc HO2.out _) ⟨w2.heap.size,0,none⟩ 1 1 [.int .i64 g] rfl rfl ?c1 ?c2 ?c3 ?c4 ?c5 ?_)))
     case c1 =>
      intro q u hq
      match q,hq with
      | 0,hq=>simp at hq;subst hq;simp [Addr.add,go_sem]
      | q+1,hq=>simp at hq
     case c2=>intro u hu;simp at hu;subst hu;rfl
     case c3=>unfold maxLen;omega
     case c4=>omega
     case c5=>simp;omega
     intro v' w3 hown' hgrow hnil
     clear hnil
     generalize hV:(w2.alloc _:World)=V at hgrow
     have hBV:Bw w2 V:=by subst hV;exact Qb
     have hBg:Below w.heap.size V w3:=(Below.refl _ _).grown hgrow (by have:=hBV.size;omega) (fun k hk=>hblk k hk)
     have HB3:Hid (Bw w w3):=HB2.out.trans ((hBV.mono hsz2).trans hBg)
     have HO3:Hid (xJ w.heap.size w3 v' (vN G x y wide r (m+1))):=HR.out _ _ hown'
     clear hown' hgrow hBg hBV hV HO2 HB2 HR hblk
     go_wp2
     go_roundw
     case rel=>exact ⟨m+1,by omega,by go_num,HO3.out,HB3.out⟩
     case measure=>simp [intOf];omega
    ·have hmw:m=wide:=by omega
     subst hmw
     rw [zEp] at HO
     go_wp2_with fail
     go_roundw
     case rel=>exact ⟨r+1,by omega,by go_num,HO.out,HB.out⟩
     case measure=>simp [intOf];omega
  ·have hrh:r=high:=by omega
   subst hrh
   obtain ⟨av,cv,hvs,_,_⟩:=HO0.out.own
   have HV:Hid (∃ nv,u11=.slice av nv cv):=⟨_,hvs⟩
   go_wp2
   go_ret
   exact ⟨_,rfl,HO0.out,HB0.out⟩
structure Rfs where
 z:Nat→Int
 x:Nat→Int
 y:Nat→Int
def RsAt (w:World)(b off n:Nat)(R:Rfs):Prop:=∀ i,i<n→w.cell? ⟨b,off+i * 3,none⟩=some (.int .i64 (R.z i))∧w.cell? ⟨b,off+i * 3+1,none⟩=some (.int .i64 (R.x i))∧w.cell? ⟨b,off+i * 3+2,none⟩=some (.int .i64 (R.y i))
theorem RsAt.below {w w':World}{b off n B:Nat}{R:Rfs}(h:RsAt w b off n R)(hb:Below B w w')(hB:b<B):RsAt w' b off n R:=fun i hi =>
 ⟨(hb.cell (p:=⟨b,off+i * 3,none⟩) hB).trans (h i hi).1,(hb.cell (p:=⟨b,off+i * 3+1,none⟩) hB).trans (h i hi).2.1,(hb.cell (p:=⟨b,off+i * 3+2,none⟩) hB).trans (h i hi).2.2⟩
def zOk (w:World)(a:Option Addr)(n:Nat)(R:Rfs):Prop:=n=0∨∃ b off,a=some ⟨b,off,none⟩∧b<w.heap.size∧RsAt w b off n R
theorem zOk.below {w w':World}{a:Option Addr}{n:Nat}{R:Rfs}(h:zOk w a n R)(hb:Below w.heap.size w w'):zOk w' a n R:=by
 rcases h with h | ⟨b,off,e,hl,hz⟩
 ·exact .inl h
 ·exact .inr ⟨b,off,e,Nat.lt_of_lt_of_le hl hb.size,hz.below hb hl⟩
theorem vX {w w':World}{b:Nat}(h:w.grownBy w' (some b))(o:Nat)(v:Value):w.grownBy (w'.setCell ⟨b,o,none⟩ v) (some b):=by
 have hb:Below b w' (w'.setCell ⟨b,o,none⟩ v):=(Below.refl b w').setCell (Nat.le_refl _) v
 exact ⟨hb.os.trans h.os,hb.tape.trans h.tape,hb.output.trans h.output,Nat.le_trans h.size hb.size,fun k hk hne=>(Below.heap_setCell w' ⟨b,o,none⟩ v k (fun e=>hne (by simp at e;rw [e]))).trans (h.block k hk hne)⟩
theorem zJb (w:World)(row:Option Nat):w.grownBy w row:=⟨rfl,rfl,rfl,Nat.le_refl _,fun _ _ _=>rfl⟩
def zMh (w:World)(base:Nat)(v:Value)(n:Nat)(R:Rfs):Prop :=
 ∃ a cap,v=.slice a n cap∧n≤cap∧(n=0∨∃ b,a=some ⟨b,0,none⟩∧base≤b∧b<w.heap.size∧RsAt w b 0 n R∧zC w b (n * 3))
theorem zMh.pts {w:World}{base:Nat}{v:Value}{n:Nat}{R:Rfs}(h:zMh w base v n R):∃ a cap,v=.slice a n cap∧n≤cap∧zOk w a n R:=by
 obtain ⟨a,cap,hv,hc,h0 | ⟨b,ha,hb,hl,hp,ht⟩⟩:=h
 ·exact ⟨a,cap,hv,hc,.inl h0⟩
 ·exact ⟨a,cap,hv,hc,.inr ⟨b,0,ha,hl,hp⟩⟩
def zOh (T:Nat)(w:World)(a:Option Addr)(n:Nat)(R:Rfs):Prop:=n=0∨∃ b off,a=some ⟨b,off,none⟩∧b<T∧RsAt w b off n R
theorem zP6 {w w':World}{p:Addr}{v:Value}(hb:Below w.heap.size w w')(h:w.cell? p=some v):w'.cell? p=some v:=(hb.cell (World.block_lt_of_cell? _ _ h)).trans h
end Go.Proofs.YtpaiholildedcaaGreat
