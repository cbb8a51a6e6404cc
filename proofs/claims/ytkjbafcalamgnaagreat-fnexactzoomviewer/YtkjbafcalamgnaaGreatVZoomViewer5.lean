/- Texts. -/
import Derived.Test.YtkjbafcalamgnaaGreatVZoomViewer4
set_option linter.unusedSimpArgs false
set_option linter.unusedVariables false
set_option maxRecDepth 100000
set_option maxHeartbeats 32000000
namespace Go.Proofs.YtkjbafcalamgnaaGreat
open Go.RowKit
theorem zNe (px py ax ay bx by':Int)(w:World)(hp:okP px py=true)(ha:okP ax ay=true)(hb:okP bx by'=true)(h:ay≤by')(h1:ay≤py)(h2:py<by') :
  Calls Tryz.prog 267 #[.agg #[.int .i64 px,.int .i64 py],.agg #[.int .i64 ax,.int .i64 ay],.agg #[.int .i64 bx,.int .i64 by']] w fun e w'=>e=.returned (.bool (xJ px py ax ay bx by'))∧Bw w w':=by
 have HP:Hid (okP px py=true):=hp
 have HA:Hid (okP ax ay=true):=ha
 have HB:Hid (okP bx by'=true):=hb
 clear hp ha hb
 have HE:Hid (xJ px py ax ay bx by'=decide (0<yU ax ay bx by' px py)):=by
  show _=_
  rw [zOz h]
  simp [h1,h2]
 have h':¬ by'<ay:=by omega
 go_enter Tryz.func267,Tryz.ntmps267
 go_wp2
 generalize hW:(((w.alloc _).alloc _).alloc _:World)=W
 have hB0:Bw w W:=by subst hW;exact Qb
 have c00:∀ W',Bw W W'→W'.cell? ⟨w.heap.size,0,none⟩=some (.int .i64 px):=Qc hW
 have c01:∀ W',Bw W W'→W'.cell? ⟨w.heap.size,1,none⟩=some (.int .i64 py):=Qc hW
 have c10:∀ W',Bw W W'→W'.cell? ⟨w.heap.size+1,0,none⟩=some (.int .i64 ax):=Qc hW
 have c11:∀ W',Bw W W'→W'.cell? ⟨w.heap.size+1,1,none⟩=some (.int .i64 ay):=Qc hW
 have c20:∀ W',Bw W W'→W'.cell? ⟨w.heap.size+1+1,0,none⟩=some (.int .i64 bx):=Qc hW
 have c21:∀ W',Bw W W'→W'.cell? ⟨w.heap.size+1+1,1,none⟩=some (.int .i64 by'):=Qc hW
 clear hW
 have HB0:Hid (Bw w W):=hB0
 clear hB0
 go_cut [7,8] (fun t s wc=>∃ b d:Nat,t=.pointer (some ⟨b,0,none⟩)∧s=.pointer (some ⟨d,0,none⟩)∧b≠d∧Bw W wc∧W.heap.size≤b∧W.heap.size≤d∧wc.cell? ⟨b,0,none⟩=some (.int .i64 ax)∧wc.cell? ⟨b,1,none⟩=some (.int .i64 ay)∧wc.cell? ⟨d,0,none⟩=some (.int .i64 bx)∧wc.cell? ⟨d,1,none⟩=some (.int .i64 by')∧wc.frozen? ⟨b,0,none⟩=false∧wc.frozen? ⟨b,1,none⟩=false∧wc.frozen? ⟨d,0,none⟩=false∧wc.frozen? ⟨d,1,none⟩=false)
 case first =>
  go_region_held3 (fun W'=>Bw W W') ((repeat (first|exact Qr _ _|assumption|refine Qd ?_|refine Qa ?_ _|refine Qt ?_|refine Qs ?_ _|refine Qo ?_ ?_ _ _))) (fail)
  all_goals
   go_wp2_with fail
   go_meet
   case rel =>
    refine ⟨_,_,rfl,rfl,by first | omega | (simp;done) | (simp;omega),by assumption,by first | omega | (simp;done) | (simp;omega),by first | omega | (simp;done) | (simp;omega),?_,?_,?_,?_,?_,?_,?_,?_⟩ <;> (go_simp;done)
 case rest =>
  obtain ⟨b1,d1,rfl,rfl,hne,hB1,hb1,hd1,x1,x2,x3,x4,f1,f2,f3,f4⟩:=hcut
  have hne':d1≠b1:=fun h=>hne h.symm
  go_wp2_with (go_at_call 274;refine (zEx _ _ _ _ _ _ _ HA.out HB.out HP.out).mono ?_;rintro e w' ⟨rfl,hbz⟩)
  go_ret
  exact ⟨zI HE.out.symm,zA HB0.out (by exact Qb)⟩
theorem zLd (px py ax ay bx by':Int)(w:World)(hp:okP px py=true)(ha:okP ax ay=true)(hb:okP bx by'=true)(h:ay≤by')(h1:¬ ay≤py) :
  Calls Tryz.prog 267 #[.agg #[.int .i64 px,.int .i64 py],.agg #[.int .i64 ax,.int .i64 ay],.agg #[.int .i64 bx,.int .i64 by']] w fun e w'=>e=.returned (.bool (xJ px py ax ay bx by'))∧Bw w w':=by
 have HP:Hid (okP px py=true):=hp
 have HA:Hid (okP ax ay=true):=ha
 have HB:Hid (okP bx by'=true):=hb
 clear hp ha hb
 have HE:Hid (xJ px py ax ay bx by'=false):=by
  show _=_
  rw [zOz h]
  simp [h1]
 have h':¬ by'<ay:=by omega
 have h1':decide (ay≤py)=false:=by simpa using h1
 go_enter Tryz.func267,Tryz.ntmps267
 go_wp2
 generalize hW:(((w.alloc _).alloc _).alloc _:World)=W
 have hB0:Bw w W:=by subst hW;exact Qb
 have c00:∀ W',Bw W W'→W'.cell? ⟨w.heap.size,0,none⟩=some (.int .i64 px):=Qc hW
 have c01:∀ W',Bw W W'→W'.cell? ⟨w.heap.size,1,none⟩=some (.int .i64 py):=Qc hW
 have c10:∀ W',Bw W W'→W'.cell? ⟨w.heap.size+1,0,none⟩=some (.int .i64 ax):=Qc hW
 have c11:∀ W',Bw W W'→W'.cell? ⟨w.heap.size+1,1,none⟩=some (.int .i64 ay):=Qc hW
 have c20:∀ W',Bw W W'→W'.cell? ⟨w.heap.size+1+1,0,none⟩=some (.int .i64 bx):=Qc hW
 have c21:∀ W',Bw W W'→W'.cell? ⟨w.heap.size+1+1,1,none⟩=some (.int .i64 by'):=Qc hW
 clear hW
 have HB0:Hid (Bw w W):=hB0
 clear hB0
 go_cut [7,8] (fun t s wc=>∃ b d:Nat,t=.pointer (some ⟨b,0,none⟩)∧s=.pointer (some ⟨d,0,none⟩)∧b≠d∧Bw W wc∧W.heap.size≤b∧W.heap.size≤d∧wc.cell? ⟨b,0,none⟩=some (.int .i64 ax)∧wc.cell? ⟨b,1,none⟩=some (.int .i64 ay)∧wc.cell? ⟨d,0,none⟩=some (.int .i64 bx)∧wc.cell? ⟨d,1,none⟩=some (.int .i64 by')∧wc.frozen? ⟨b,0,none⟩=false∧wc.frozen? ⟨b,1,none⟩=false∧wc.frozen? ⟨d,0,none⟩=false∧wc.frozen? ⟨d,1,none⟩=false)
 case first =>
  go_region_held3 (fun W'=>Bw W W') ((repeat (first|exact Qr _ _|assumption|refine Qd ?_|refine Qa ?_ _|refine Qt ?_|refine Qs ?_ _|refine Qo ?_ ?_ _ _))) (fail)
  all_goals
   go_wp2_with fail
   go_meet
   case rel =>
    refine ⟨_,_,rfl,rfl,by first | omega | (simp;done) | (simp;omega),by assumption,by first | omega | (simp;done) | (simp;omega),by first | omega | (simp;done) | (simp;omega),?_,?_,?_,?_,?_,?_,?_,?_⟩ <;> (go_simp;done)
 case rest =>
  obtain ⟨b1,d1,rfl,rfl,hne,hB1,hb1,hd1,x1,x2,x3,x4,f1,f2,f3,f4⟩:=hcut
  have hne':d1≠b1:=fun h=>hne h.symm
  go_wp2
  go_ret
  exact ⟨zI HE.out.symm,zA HB0.out (by exact Qb)⟩
theorem zLc (px py ax ay bx by':Int)(w:World)(hp:okP px py=true)(ha:okP ax ay=true)(hb:okP bx by'=true)(h:ay≤by')(h1:ay≤py)(h2:¬ py<by') :
  Calls Tryz.prog 267 #[.agg #[.int .i64 px,.int .i64 py],.agg #[.int .i64 ax,.int .i64 ay],.agg #[.int .i64 bx,.int .i64 by']] w fun e w'=>e=.returned (.bool (xJ px py ax ay bx by'))∧Bw w w':=by
 have HP:Hid (okP px py=true):=hp
 have HA:Hid (okP ax ay=true):=ha
 have HB:Hid (okP bx by'=true):=hb
 clear hp ha hb
 have HE:Hid (xJ px py ax ay bx by'=false):=by
  show _=_
  rw [zOz h]
  simp [h1,h2]
 have h':¬ by'<ay:=by omega
 have h2':decide (py<by')=false:=by simpa using h2
 go_enter Tryz.func267,Tryz.ntmps267
 go_wp2
 generalize hW:(((w.alloc _).alloc _).alloc _:World)=W
 have hB0:Bw w W:=by subst hW;exact Qb
 have c00:∀ W',Bw W W'→W'.cell? ⟨w.heap.size,0,none⟩=some (.int .i64 px):=Qc hW
 have c01:∀ W',Bw W W'→W'.cell? ⟨w.heap.size,1,none⟩=some (.int .i64 py):=Qc hW
 have c10:∀ W',Bw W W'→W'.cell? ⟨w.heap.size+1,0,none⟩=some (.int .i64 ax):=Qc hW
 have c11:∀ W',Bw W W'→W'.cell? ⟨w.heap.size+1,1,none⟩=some (.int .i64 ay):=Qc hW
 have c20:∀ W',Bw W W'→W'.cell? ⟨w.heap.size+1+1,0,none⟩=some (.int .i64 bx):=Qc hW
 have c21:∀ W',Bw W W'→W'.cell? ⟨w.heap.size+1+1,1,none⟩=some (.int .i64 by'):=Qc hW
 clear hW
 have HB0:Hid (Bw w W):=hB0
 clear hB0
 go_cut [7,8] (fun t s wc=>∃ b d:Nat,t=.pointer (some ⟨b,0,none⟩)∧s=.pointer (some ⟨d,0,none⟩)∧b≠d∧Bw W wc∧W.heap.size≤b∧W.heap.size≤d∧wc.cell? ⟨b,0,none⟩=some (.int .i64 ax)∧wc.cell? ⟨b,1,none⟩=some (.int .i64 ay)∧wc.cell? ⟨d,0,none⟩=some (.int .i64 bx)∧wc.cell? ⟨d,1,none⟩=some (.int .i64 by')∧wc.frozen? ⟨b,0,none⟩=false∧wc.frozen? ⟨b,1,none⟩=false∧wc.frozen? ⟨d,0,none⟩=false∧wc.frozen? ⟨d,1,none⟩=false)
 case first =>
  go_region_held3 (fun W'=>Bw W W') ((repeat (first|exact Qr _ _|assumption|refine Qd ?_|refine Qa ?_ _|refine Qt ?_|refine Qs ?_ _|refine Qo ?_ ?_ _ _))) (fail)
  all_goals
   go_wp2_with fail
   go_meet
   case rel =>
    refine ⟨_,_,rfl,rfl,by first | omega | (simp;done) | (simp;omega),by assumption,by first | omega | (simp;done) | (simp;omega),by first | omega | (simp;done) | (simp;omega),?_,?_,?_,?_,?_,?_,?_,?_⟩ <;> (go_simp;done)
 case rest =>
  obtain ⟨b1,d1,rfl,rfl,hne,hB1,hb1,hd1,x1,x2,x3,x4,f1,f2,f3,f4⟩:=hcut
  have hne':d1≠b1:=fun h=>hne h.symm
  go_wp2
  go_ret
  exact ⟨zI HE.out.symm,zA HB0.out (by exact Qb)⟩
theorem zNf (px py ax ay bx by':Int)(w:World)(hp:okP px py=true)(ha:okP ax ay=true)(hb:okP bx by'=true)(h:by'<ay)(h1:by'≤py)(h2:py<ay) :
  Calls Tryz.prog 267 #[.agg #[.int .i64 px,.int .i64 py],.agg #[.int .i64 ax,.int .i64 ay],.agg #[.int .i64 bx,.int .i64 by']] w fun e w'=>e=.returned (.bool (xJ px py ax ay bx by'))∧Bw w w':=by
 have HP:Hid (okP px py=true):=hp
 have HA:Hid (okP ax ay=true):=ha
 have HB:Hid (okP bx by'=true):=hb
 clear hp ha hb
 have HE:Hid (xJ px py ax ay bx by'=decide (0<yU bx by' ax ay px py)):=by
  show _=_
  rw [zGy h]
  simp [h1,h2]
 go_enter Tryz.func267,Tryz.ntmps267
 go_wp2
 generalize hW:(((w.alloc _).alloc _).alloc _:World)=W
 have hB0:Bw w W:=by subst hW;exact Qb
 have c00:∀ W',Bw W W'→W'.cell? ⟨w.heap.size,0,none⟩=some (.int .i64 px):=Qc hW
 have c01:∀ W',Bw W W'→W'.cell? ⟨w.heap.size,1,none⟩=some (.int .i64 py):=Qc hW
 have c10:∀ W',Bw W W'→W'.cell? ⟨w.heap.size+1,0,none⟩=some (.int .i64 ax):=Qc hW
 have c11:∀ W',Bw W W'→W'.cell? ⟨w.heap.size+1,1,none⟩=some (.int .i64 ay):=Qc hW
 have c20:∀ W',Bw W W'→W'.cell? ⟨w.heap.size+1+1,0,none⟩=some (.int .i64 bx):=Qc hW
 have c21:∀ W',Bw W W'→W'.cell? ⟨w.heap.size+1+1,1,none⟩=some (.int .i64 by'):=Qc hW
 have q0:=c00
 clear hW
 have HB0:Hid (Bw w W):=hB0
 clear hB0
 go_cut [7,8] (fun t s wc=>∃ b d:Nat,t=.pointer (some ⟨b,0,none⟩)∧s=.pointer (some ⟨d,0,none⟩)∧b≠d∧Bw W wc∧W.heap.size≤b∧W.heap.size≤d∧wc.cell? ⟨b,0,none⟩=some (.int .i64 ax)∧wc.cell? ⟨b,1,none⟩=some (.int .i64 ay)∧wc.cell? ⟨d,0,none⟩=some (.int .i64 bx)∧wc.cell? ⟨d,1,none⟩=some (.int .i64 by')∧wc.frozen? ⟨b,0,none⟩=false∧wc.frozen? ⟨b,1,none⟩=false∧wc.frozen? ⟨d,0,none⟩=false∧wc.frozen? ⟨d,1,none⟩=false)
 case first =>
  go_region_held3 (fun W'=>Bw W W') ((repeat (first|exact Qr _ _|assumption|refine Qd ?_|refine Qa ?_ _|refine Qt ?_|refine Qs ?_ _|refine Qo ?_ ?_ _ _))) (fail)
  all_goals
   go_wp2_with fail
   go_meet
   case rel =>
    refine ⟨_,_,rfl,rfl,by first | omega | (simp;done) | (simp;omega),by assumption,by first | omega | (simp;done) | (simp;omega),by first | omega | (simp;done) | (simp;omega),?_,?_,?_,?_,?_,?_,?_,?_⟩ <;> (go_simp;done)
 case rest =>
  obtain ⟨b1,d1,rfl,rfl,hne,hB1,hb1,hd1,x1,x2,x3,x4,f1,f2,f3,f4⟩:=hcut
  have hne':d1≠b1:=fun h=>hne h.symm
  have hw0:=World.block_lt_of_cell? _ _ (c00 W (Below.refl _ _))
  have n1:b1≠w.heap.size:=by have:w.heap.size<W.heap.size:=hw0;omega
  have n2:d1≠w.heap.size:=by have:w.heap.size<W.heap.size:=hw0;omega
  have p1:=c01 wc hB1
  clear hw0 c00 c01 c10 c11 c20 c21
  have p0:=q0 wc hB1
  clear q0
  go_wp2_with (go_at_call 274;refine (zEx _ _ _ _ _ _ _ HB.out HA.out HP.out).mono ?_;rintro e w' ⟨rfl,hbz⟩)
  go_ret
  exact ⟨zI HE.out.symm,zA HB0.out (by exact Qb)⟩
theorem zLf (px py ax ay bx by':Int)(w:World)(hp:okP px py=true)(ha:okP ax ay=true)(hb:okP bx by'=true)(h:by'<ay)(h1:¬ by'≤py) :
  Calls Tryz.prog 267 #[.agg #[.int .i64 px,.int .i64 py],.agg #[.int .i64 ax,.int .i64 ay],.agg #[.int .i64 bx,.int .i64 by']] w fun e w'=>e=.returned (.bool (xJ px py ax ay bx by'))∧Bw w w':=by
 have HP:Hid (okP px py=true):=hp
 have HA:Hid (okP ax ay=true):=ha
 have HB:Hid (okP bx by'=true):=hb
 clear hp ha hb
 have HE:Hid (xJ px py ax ay bx by'=false):=by
  show _=_
  rw [zGy h]
  simp [h1]
 have h1':decide (by'≤py)=false:=by simpa using h1
 go_enter Tryz.func267,Tryz.ntmps267
 go_wp2
 generalize hW:(((w.alloc _).alloc _).alloc _:World)=W
 have hB0:Bw w W:=by subst hW;exact Qb
 have c00:∀ W',Bw W W'→W'.cell? ⟨w.heap.size,0,none⟩=some (.int .i64 px):=Qc hW
 have c01:∀ W',Bw W W'→W'.cell? ⟨w.heap.size,1,none⟩=some (.int .i64 py):=Qc hW
 have c10:∀ W',Bw W W'→W'.cell? ⟨w.heap.size+1,0,none⟩=some (.int .i64 ax):=Qc hW
 have c11:∀ W',Bw W W'→W'.cell? ⟨w.heap.size+1,1,none⟩=some (.int .i64 ay):=Qc hW
 have c20:∀ W',Bw W W'→W'.cell? ⟨w.heap.size+1+1,0,none⟩=some (.int .i64 bx):=Qc hW
 have c21:∀ W',Bw W W'→W'.cell? ⟨w.heap.size+1+1,1,none⟩=some (.int .i64 by'):=Qc hW
 have q0:=c00
 clear hW
 have HB0:Hid (Bw w W):=hB0
 clear hB0
 go_cut [7,8] (fun t s wc=>∃ b d:Nat,t=.pointer (some ⟨b,0,none⟩)∧s=.pointer (some ⟨d,0,none⟩)∧b≠d∧Bw W wc∧W.heap.size≤b∧W.heap.size≤d∧wc.cell? ⟨b,0,none⟩=some (.int .i64 ax)∧wc.cell? ⟨b,1,none⟩=some (.int .i64 ay)∧wc.cell? ⟨d,0,none⟩=some (.int .i64 bx)∧wc.cell? ⟨d,1,none⟩=some (.int .i64 by')∧wc.frozen? ⟨b,0,none⟩=false∧wc.frozen? ⟨b,1,none⟩=false∧wc.frozen? ⟨d,0,none⟩=false∧wc.frozen? ⟨d,1,none⟩=false)
 case first =>
  go_region_held3 (fun W'=>Bw W W') ((repeat (first|exact Qr _ _|assumption|refine Qd ?_|refine Qa ?_ _|refine Qt ?_|refine Qs ?_ _|refine Qo ?_ ?_ _ _))) (fail)
  all_goals
   go_wp2_with fail
   go_meet
   case rel =>
    refine ⟨_,_,rfl,rfl,by first | omega | (simp;done) | (simp;omega),by assumption,by first | omega | (simp;done) | (simp;omega),by first | omega | (simp;done) | (simp;omega),?_,?_,?_,?_,?_,?_,?_,?_⟩ <;> (go_simp;done)
 case rest =>
  obtain ⟨b1,d1,rfl,rfl,hne,hB1,hb1,hd1,x1,x2,x3,x4,f1,f2,f3,f4⟩:=hcut
  have hne':d1≠b1:=fun h=>hne h.symm
  have hw0:=World.block_lt_of_cell? _ _ (c00 W (Below.refl _ _))
  have n1:b1≠w.heap.size:=by have:w.heap.size<W.heap.size:=hw0;omega
  have n2:d1≠w.heap.size:=by have:w.heap.size<W.heap.size:=hw0;omega
  have p1:=c01 wc hB1
  clear hw0 c00 c01 c10 c11 c20 c21
  have p0:=q0 wc hB1
  clear q0
  go_wp2
  go_ret
  exact ⟨zI HE.out.symm,zA HB0.out (by exact Qb)⟩
theorem zLe (px py ax ay bx by':Int)(w:World)(hp:okP px py=true)(ha:okP ax ay=true)(hb:okP bx by'=true)(h:by'<ay)(h1:by'≤py)(h2:¬ py<ay) :
  Calls Tryz.prog 267 #[.agg #[.int .i64 px,.int .i64 py],.agg #[.int .i64 ax,.int .i64 ay],.agg #[.int .i64 bx,.int .i64 by']] w fun e w'=>e=.returned (.bool (xJ px py ax ay bx by'))∧Bw w w':=by
 have HP:Hid (okP px py=true):=hp
 have HA:Hid (okP ax ay=true):=ha
 have HB:Hid (okP bx by'=true):=hb
 clear hp ha hb
 have HE:Hid (xJ px py ax ay bx by'=false):=by
  show _=_
  rw [zGy h]
  simp [h1,h2]
 have h2':decide (py<ay)=false:=by simpa using h2
 go_enter Tryz.func267,Tryz.ntmps267
 go_wp2
 generalize hW:(((w.alloc _).alloc _).alloc _:World)=W
 have hB0:Bw w W:=by subst hW;exact Qb
 have c00:∀ W',Bw W W'→W'.cell? ⟨w.heap.size,0,none⟩=some (.int .i64 px):=Qc hW
 have c01:∀ W',Bw W W'→W'.cell? ⟨w.heap.size,1,none⟩=some (.int .i64 py):=Qc hW
 have c10:∀ W',Bw W W'→W'.cell? ⟨w.heap.size+1,0,none⟩=some (.int .i64 ax):=Qc hW
 have c11:∀ W',Bw W W'→W'.cell? ⟨w.heap.size+1,1,none⟩=some (.int .i64 ay):=Qc hW
 have c20:∀ W',Bw W W'→W'.cell? ⟨w.heap.size+1+1,0,none⟩=some (.int .i64 bx):=Qc hW
 have c21:∀ W',Bw W W'→W'.cell? ⟨w.heap.size+1+1,1,none⟩=some (.int .i64 by'):=Qc hW
 have q0:=c00
 clear hW
 have HB0:Hid (Bw w W):=hB0
 clear hB0
 go_cut [7,8] (fun t s wc=>∃ b d:Nat,t=.pointer (some ⟨b,0,none⟩)∧s=.pointer (some ⟨d,0,none⟩)∧b≠d∧Bw W wc∧W.heap.size≤b∧W.heap.size≤d∧wc.cell? ⟨b,0,none⟩=some (.int .i64 ax)∧wc.cell? ⟨b,1,none⟩=some (.int .i64 ay)∧wc.cell? ⟨d,0,none⟩=some (.int .i64 bx)∧wc.cell? ⟨d,1,none⟩=some (.int .i64 by')∧wc.frozen? ⟨b,0,none⟩=false∧wc.frozen? ⟨b,1,none⟩=false∧wc.frozen? ⟨d,0,none⟩=false∧wc.frozen? ⟨d,1,none⟩=false)
 case first =>
  go_region_held3 (fun W'=>Bw W W') ((repeat (first|exact Qr _ _|assumption|refine Qd ?_|refine Qa ?_ _|refine Qt ?_|refine Qs ?_ _|refine Qo ?_ ?_ _ _))) (fail)
  all_goals
   go_wp2_with fail
   go_meet
   case rel =>
    refine ⟨_,_,rfl,rfl,by first | omega | (simp;done) | (simp;omega),by assumption,by first | omega | (simp;done) | (simp;omega),by first | omega | (simp;done) | (simp;omega),?_,?_,?_,?_,?_,?_,?_,?_⟩ <;> (go_simp;done)
 case rest =>
  obtain ⟨b1,d1,rfl,rfl,hne,hB1,hb1,hd1,x1,x2,x3,x4,f1,f2,f3,f4⟩:=hcut
  have hne':d1≠b1:=fun h=>hne h.symm
  have hw0:=World.block_lt_of_cell? _ _ (c00 W (Below.refl _ _))
  have n1:b1≠w.heap.size:=by have:w.heap.size<W.heap.size:=hw0;omega
  have n2:d1≠w.heap.size:=by have:w.heap.size<W.heap.size:=hw0;omega
  have p1:=c01 wc hB1
  clear hw0 c00 c01 c10 c11 c20 c21
  have p0:=q0 wc hB1
  clear q0
  go_wp2
  go_ret
  exact ⟨zI HE.out.symm,zA HB0.out (by exact Qb)⟩
theorem zLg (px py ax ay bx by':Int)(w:World)(hp:okP px py=true)(ha:okP ax ay=true)(hb:okP bx by'=true) :
  Calls Tryz.prog 267 #[.agg #[.int .i64 px,.int .i64 py],.agg #[.int .i64 ax,.int .i64 ay],.agg #[.int .i64 bx,.int .i64 by']] w fun e w'=>e=.returned (.bool (xJ px py ax ay bx by'))∧Bw w w':=by
 by_cases h:by'<ay
 ·by_cases h1:by'≤py
  ·by_cases h2:py<ay
   ·exact zNf _ _ _ _ _ _ _ hp ha hb h h1 h2
   ·exact zLe _ _ _ _ _ _ _ hp ha hb h h1 h2
  ·exact zLf _ _ _ _ _ _ _ hp ha hb h h1
 ·by_cases h1:ay≤py
  ·by_cases h2:py<by'
   ·exact zNe _ _ _ _ _ _ _ hp ha hb (by omega) h1 h2
   ·exact zLc _ _ _ _ _ _ _ hp ha hb (by omega) h1 h2
  ·exact zLd _ _ _ _ _ _ _ hp ha hb (by omega) h1
end Go.Proofs.YtkjbafcalamgnaaGreat
