/- Texts. -/
import Derived.Test.YtkjbafcalamgnaaGreatVPanViewer5
import Derived.Test.YtkjbafcalamgnaaGreatVPanViewer6
set_option linter.unusedSimpArgs false
set_option linter.unusedVariables false
set_option maxRecDepth 100000
set_option maxHeartbeats 32000000
namespace Go.Proofs.YtkjbafcalamgnaaGreat
open Go.RowKit
def zFt (s:ByteArray)(i:Nat):Int:=if h:i<s.size then ((s[i]'h).toNat:Int) else 0
theorem zQh (s:ByteArray)(i:Nat)(h:i<s.size):zFt s i=((s[i]'h).toNat:Int):=by simp [zFt,h]
def zQk (s:ByteArray):Bool:=decide (∀ i,i<s.size→zOs (zFt s i)=true)
def zLk (s:ByteArray):Bool:=decide (s.size≤6) && zQk s
theorem zT1 {s:ByteArray}(h:6<s.size):zLk s=false:=by simp [zLk];omega
theorem zKn {s:ByteArray}(k:Nat)(hk:k<s.size)(h:zOs (zFt s k)=false):zLk s=false:=by
 have:zQk s=false:=by
  unfold zQk
  rw [decide_eq_false]
  intro hc
  have:=hc k hk
  rw [h] at this;cases this
 simp [zLk,this]
theorem zP2 {s:ByteArray}(h:∀ i,i<s.size→zOs (zFt s i)=true):zLk s=decide (s.size≤6):=by
 have:zQk s=true:=decide_eq_true h
 simp [zLk,this]
theorem zC5 (s:ByteArray)(w:World)(hs:s.size≤1048576):Calls Tryz.prog 150 #[.string s] w fun e w'=>e=.returned (.bool (zLk s))∧Bw w w':=by
 by_cases h6:(6:Int)<s.size
 ·go_enter Tryz.func150,Tryz.ntmps150
  go_wp2
  go_ret
  exact ⟨zG (zT1 (by omega)).symm,Qb⟩
 ·go_enter Tryz.func150,Tryz.ntmps150
  go_wp2
  go_loopw [9] (fun i wr=>∃ k:Nat,k≤s.size∧i=.int .i64 k∧(∀ j,j<k→zOs (zFt s j)=true)∧Bw w wr) (fun i _=>s.size - (intOf i).toNat)
  case atStart=>exact ⟨0,by omega,rfl,by omega,Below.refl _ _⟩
  case round =>
   obtain ⟨k,hk,rfl,hA,hB⟩:=hrel
   by_cases hlt:k<s.size
   ·have hi:(k:Int)<(s.size:Int):=by omega
    have HA:Hid (∀ j,j<k→zOs (zFt s j)=true):=hA
    have HB:Hid (Bw w wr):=hB
    have hbk:=(zQh s k hlt).symm
    clear hA hB
    go_wp2_with fail
    refine (zMt _ _).mono ?_
    rintro e w' ⟨rfl,rfl⟩
    cases hl:zOs (zFt s k)
    ·go_wp2
     go_ret
     exact ⟨zG (zKn k hlt hl).symm,HB.out⟩
    ·have HL:Hid (zOs (zFt s k)=true):=hl
     clear hl
     go_wp2
     go_roundw
     case rel=>exact ⟨k+1,by omega,by go_num,fun j hj=>by
       by_cases e:j=k
       ·rw [e];exact HL.out
       ·exact HA.out j (by omega),HB.out⟩
     case measure=>simp [intOf];omega
   ·go_wp2
    go_ret
    exact ⟨zG (by rw [zP2 (fun i hi=>hA i (by omega))];simp;omega),hB⟩
theorem zOu (s:ByteArray)(w:World)(hs:s.size≤1048576):Calls Tryz.prog 185 #[.string s] w fun e w'=>e=.returned (.bool (zLk s))∧Bw w w':=by
  go_enter Tryz.func185,Tryz.ntmps185
  go_wp2
  go_loopw [3] (fun i wr=>∃ k:Nat,k≤s.size∧i=.int .i64 k∧(∀ j,j<k→zOs (zFt s j)=true)∧Bw w wr) (fun i _=>s.size - (intOf i).toNat)
  case atStart=>exact ⟨0,by omega,rfl,by omega,Below.refl _ _⟩
  case round =>
   obtain ⟨k,hk,rfl,hA,hB⟩:=hrel
   by_cases hlt:k<s.size
   ·have hi:(k:Int)<(s.size:Int):=by omega
    have HA:Hid (∀ j,j<k→zOs (zFt s j)=true):=hA
    have HB:Hid (Bw w wr):=hB
    have hbk:=zQh s k hlt
    have HK:=(show Hid _ from hbk)
    clear hA hB hbk
    by_cases l1:((s[k]'hlt).toNat:Int)<97
    ·go_wp2
     go_ret
     exact ⟨zG (zKn k hlt (by rw [HK.out];simp [zOs];omega)).symm,HB.out⟩
    ·have l1':decide (((s[k]'hlt).toNat:Int)<97)=false:=by simpa using l1
     by_cases l2:(122:Int)<((s[k]'hlt).toNat:Int)
     ·go_wp2
      go_ret
      exact ⟨zG (zKn k hlt (by rw [HK.out];simp [zOs];omega)).symm,HB.out⟩
     ·have l2':decide ((122:Int)<((s[k]'hlt).toNat:Int))=false:=by simpa using l2
      have HL:Hid (zOs (zFt s k)=true):=by show _=_;rw [HK.out];simp [zOs];omega
      go_wp2
      go_roundw
      case rel=>exact ⟨k+1,by omega,by go_num,fun j hj=>by
        by_cases e:j=k
        ·rw [e];exact HL.out
        ·exact HA.out j (by omega),HB.out⟩
      case measure=>simp [intOf];omega
   ·go_wp2
    go_ret
    exact ⟨zG (by rw [zP2 (fun i hi=>hA i (by omega))];simp <;> omega),hB⟩
def xE (px py:Int)(n:Nat)(X Y:Nat→Int):Bool:=okP px py && (decide (3≤n) && (decide (n≤40) && (zNo n X Y && uG (uS px py n X Y) n)))
theorem zMw (px py ax ay bx by':Int)(w:World)(hp:okP px py=true)(ha:okP ax ay=true)(hb:okP bx by'=true)(h:by'<ay)(h1:by'≤py)(h2:py<ay) :
  Calls Tryz.prog 267 #[.agg #[.int .i64 px,.int .i64 py],.agg #[.int .i64 ax,.int .i64 ay],.agg #[.int .i64 bx,.int .i64 by']] w fun e w'=>e=.returned (.bool (xF px py ax ay bx by'))∧Bw w w':=by
 have HP:Hid (okP px py=true):=hp
 have HA:Hid (okP ax ay=true):=ha
 have HB:Hid (okP bx by'=true):=hb
 clear hp ha hb
 have HE:Hid (xF px py ax ay bx by'=decide (0<yR bx by' ax ay px py)):=by
  show _=_
  rw [zGg h]
  simp [h1,h2]
 go_enter Tryz.func267,Tryz.ntmps267
 go_wp2
 generalize hW:(((w.alloc _).alloc _).alloc _:World)=W
 have hB0:Bw w W:=by subst hW;exact Qb
 have c00:∀ W',Bw W W'→W'.cell? ⟨w.heap.size,0,none⟩=some (.int .i64 px):=Qc hW
 have c01:∀ W',Bw W W'→W'.cell? ⟨w.heap.size,1,none⟩=some (.int .i64 py):=Qc hW
 have c10:∀ W',Bw W W'→W'.cell? ⟨w.heap.size+1,0,none⟩=some (.int .i64 ax):=Qc hW
 have c11:∀ W',Bw W W'→W'.cell? ⟨w.heap.size+1,1,none⟩=some (.int .i64 ay):=Qc hW
 have c20:∀ W',Bw W W'→W'.cell? ⟨w.heap.size+1+1,0,none⟩=some (.int .i64 bx):=Qc hW
 have c21:∀ W',Bw W W'→W'.cell? ⟨w.heap.size+1+1,1,none⟩=some (.int .i64 by'):=Qc hW
 have q0:=c00
 clear hW
 have HB0:Hid (Bw w W):=hB0
 clear hB0
 go_cut [7,8] (fun t s wc=>∃ b d:Nat,t=.pointer (some ⟨b,0,none⟩)∧s=.pointer (some ⟨d,0,none⟩)∧b≠d∧Bw W wc∧W.heap.size≤b∧W.heap.size≤d∧wc.cell? ⟨b,0,none⟩=some (.int .i64 ax)∧wc.cell? ⟨b,1,none⟩=some (.int .i64 ay)∧wc.cell? ⟨d,0,none⟩=some (.int .i64 bx)∧wc.cell? ⟨d,1,none⟩=some (.int .i64 by')∧wc.frozen? ⟨b,0,none⟩=false∧wc.frozen? ⟨b,1,none⟩=false∧wc.frozen? ⟨d,0,none⟩=false∧wc.frozen? ⟨d,1,none⟩=false)
 case first =>
  go_region_held3 (fun W'=>Bw W W') ((repeat (first|exact Qr _ _|assumption|refine Qd ?_|refine Qa ?_ _|refine Qt ?_|refine Qs ?_ _|refine Qo ?_ ?_ _ _))) (fail)
  all_goals
   go_wp2_with fail
   go_meet
   case rel =>
    refine ⟨_,_,rfl,rfl,by first | omega | (simp;done) | (simp;omega),by assumption,by first | omega | (simp;done) | (simp;omega),by first | omega | (simp;done) | (simp;omega),?_,?_,?_,?_,?_,?_,?_,?_⟩ <;> (go_simp;done)
 case rest =>
  obtain ⟨b1,d1,rfl,rfl,hne,hB1,hb1,hd1,x1,x2,x3,x4,f1,f2,f3,f4⟩:=hcut
  have hne':d1≠b1:=fun h=>hne h.symm
  have hw0:=World.block_lt_of_cell? _ _ (c00 W (Below.refl _ _))
  have n1:b1≠w.heap.size:=by have:w.heap.size<W.heap.size:=hw0;omega
  have n2:d1≠w.heap.size:=by have:w.heap.size<W.heap.size:=hw0;omega
  have p1:=c01 wc hB1
  clear hw0 c00 c01 c10 c11 c20 c21
  have p0:=q0 wc hB1
  clear q0
  go_wp2_with (go_at_call 274;refine (zEl _ _ _ _ _ _ _ HB.out HA.out HP.out).mono ?_;rintro e w' ⟨rfl,hbz⟩)
  go_ret
  exact ⟨zG HE.out.symm,zA HB0.out (by exact Qb)⟩
theorem zKw (px py ax ay bx by':Int)(w:World)(hp:okP px py=true)(ha:okP ax ay=true)(hb:okP bx by'=true)(h:by'<ay)(h1:¬ by'≤py) :
  Calls Tryz.prog 267 #[.agg #[.int .i64 px,.int .i64 py],.agg #[.int .i64 ax,.int .i64 ay],.agg #[.int .i64 bx,.int .i64 by']] w fun e w'=>e=.returned (.bool (xF px py ax ay bx by'))∧Bw w w':=by
 have HP:Hid (okP px py=true):=hp
 have HA:Hid (okP ax ay=true):=ha
 have HB:Hid (okP bx by'=true):=hb
 clear hp ha hb
 have HE:Hid (xF px py ax ay bx by'=false):=by
  show _=_
  rw [zGg h]
  simp [h1]
 have h1':decide (by'≤py)=false:=by simpa using h1
 go_enter Tryz.func267,Tryz.ntmps267
 go_wp2
 generalize hW:(((w.alloc _).alloc _).alloc _:World)=W
 have hB0:Bw w W:=by subst hW;exact Qb
 have c00:∀ W',Bw W W'→W'.cell? ⟨w.heap.size,0,none⟩=some (.int .i64 px):=Qc hW
 have c01:∀ W',Bw W W'→W'.cell? ⟨w.heap.size,1,none⟩=some (.int .i64 py):=Qc hW
 have c10:∀ W',Bw W W'→W'.cell? ⟨w.heap.size+1,0,none⟩=some (.int .i64 ax):=Qc hW
 have c11:∀ W',Bw W W'→W'.cell? ⟨w.heap.size+1,1,none⟩=some (.int .i64 ay):=Qc hW
 have c20:∀ W',Bw W W'→W'.cell? ⟨w.heap.size+1+1,0,none⟩=some (.int .i64 bx):=Qc hW
 have c21:∀ W',Bw W W'→W'.cell? ⟨w.heap.size+1+1,1,none⟩=some (.int .i64 by'):=Qc hW
 have q0:=c00
 clear hW
 have HB0:Hid (Bw w W):=hB0
 clear hB0
 go_cut [7,8] (fun t s wc=>∃ b d:Nat,t=.pointer (some ⟨b,0,none⟩)∧s=.pointer (some ⟨d,0,none⟩)∧b≠d∧Bw W wc∧W.heap.size≤b∧W.heap.size≤d∧wc.cell? ⟨b,0,none⟩=some (.int .i64 ax)∧wc.cell? ⟨b,1,none⟩=some (.int .i64 ay)∧wc.cell? ⟨d,0,none⟩=some (.int .i64 bx)∧wc.cell? ⟨d,1,none⟩=some (.int .i64 by')∧wc.frozen? ⟨b,0,none⟩=false∧wc.frozen? ⟨b,1,none⟩=false∧wc.frozen? ⟨d,0,none⟩=false∧wc.frozen? ⟨d,1,none⟩=false)
 case first =>
  go_region_held3 (fun W'=>Bw W W') ((repeat (first|exact Qr _ _|assumption|refine Qd ?_|refine Qa ?_ _|refine Qt ?_|refine Qs ?_ _|refine Qo ?_ ?_ _ _))) (fail)
  all_goals
   go_wp2_with fail
   go_meet
   case rel =>
    refine ⟨_,_,rfl,rfl,by first | omega | (simp;done) | (simp;omega),by assumption,by first | omega | (simp;done) | (simp;omega),by first | omega | (simp;done) | (simp;omega),?_,?_,?_,?_,?_,?_,?_,?_⟩ <;> (go_simp;done)
 case rest =>
  obtain ⟨b1,d1,rfl,rfl,hne,hB1,hb1,hd1,x1,x2,x3,x4,f1,f2,f3,f4⟩:=hcut
  have hne':d1≠b1:=fun h=>hne h.symm
  have hw0:=World.block_lt_of_cell? _ _ (c00 W (Below.refl _ _))
  have n1:b1≠w.heap.size:=by have:w.heap.size<W.heap.size:=hw0;omega
  have n2:d1≠w.heap.size:=by have:w.heap.size<W.heap.size:=hw0;omega
  have p1:=c01 wc hB1
  clear hw0 c00 c01 c10 c11 c20 c21
  have p0:=q0 wc hB1
  clear q0
  go_wp2
  go_ret
  exact ⟨zG HE.out.symm,zA HB0.out (by exact Qb)⟩
theorem zKv (px py ax ay bx by':Int)(w:World)(hp:okP px py=true)(ha:okP ax ay=true)(hb:okP bx by'=true)(h:by'<ay)(h1:by'≤py)(h2:¬ py<ay) :
  Calls Tryz.prog 267 #[.agg #[.int .i64 px,.int .i64 py],.agg #[.int .i64 ax,.int .i64 ay],.agg #[.int .i64 bx,.int .i64 by']] w fun e w'=>e=.returned (.bool (xF px py ax ay bx by'))∧Bw w w':=by
 have HP:Hid (okP px py=true):=hp
 have HA:Hid (okP ax ay=true):=ha
 have HB:Hid (okP bx by'=true):=hb
 clear hp ha hb
 have HE:Hid (xF px py ax ay bx by'=false):=by
  show _=_
  rw [zGg h]
  simp [h1,h2]
 have h2':decide (py<ay)=false:=by simpa using h2
 go_enter Tryz.func267,Tryz.ntmps267
 go_wp2
 generalize hW:(((w.alloc _).alloc _).alloc _:World)=W
 have hB0:Bw w W:=by subst hW;exact Qb
 have c00:∀ W',Bw W W'→W'.cell? ⟨w.heap.size,0,none⟩=some (.int .i64 px):=Qc hW
 have c01:∀ W',Bw W W'→W'.cell? ⟨w.heap.size,1,none⟩=some (.int .i64 py):=Qc hW
 have c10:∀ W',Bw W W'→W'.cell? ⟨w.heap.size+1,0,none⟩=some (.int .i64 ax):=Qc hW
 have c11:∀ W',Bw W W'→W'.cell? ⟨w.heap.size+1,1,none⟩=some (.int .i64 ay):=Qc hW
 have c20:∀ W',Bw W W'→W'.cell? ⟨w.heap.size+1+1,0,none⟩=some (.int .i64 bx):=Qc hW
 have c21:∀ W',Bw W W'→W'.cell? ⟨w.heap.size+1+1,1,none⟩=some (.int .i64 by'):=Qc hW
 have q0:=c00
 clear hW
 have HB0:Hid (Bw w W):=hB0
 clear hB0
 go_cut [7,8] (fun t s wc=>∃ b d:Nat,t=.pointer (some ⟨b,0,none⟩)∧s=.pointer (some ⟨d,0,none⟩)∧b≠d∧Bw W wc∧W.heap.size≤b∧W.heap.size≤d∧wc.cell? ⟨b,0,none⟩=some (.int .i64 ax)∧wc.cell? ⟨b,1,none⟩=some (.int .i64 ay)∧wc.cell? ⟨d,0,none⟩=some (.int .i64 bx)∧wc.cell? ⟨d,1,none⟩=some (.int .i64 by')∧wc.frozen? ⟨b,0,none⟩=false∧wc.frozen? ⟨b,1,none⟩=false∧wc.frozen? ⟨d,0,none⟩=false∧wc.frozen? ⟨d,1,none⟩=false)
 case first =>
  go_region_held3 (fun W'=>Bw W W') ((repeat (first|exact Qr _ _|assumption|refine Qd ?_|refine Qa ?_ _|refine Qt ?_|refine Qs ?_ _|refine Qo ?_ ?_ _ _))) (fail)
  all_goals
   go_wp2_with fail
   go_meet
   case rel =>
    refine ⟨_,_,rfl,rfl,by first | omega | (simp;done) | (simp;omega),by assumption,by first | omega | (simp;done) | (simp;omega),by first | omega | (simp;done) | (simp;omega),?_,?_,?_,?_,?_,?_,?_,?_⟩ <;> (go_simp;done)
 case rest =>
  obtain ⟨b1,d1,rfl,rfl,hne,hB1,hb1,hd1,x1,x2,x3,x4,f1,f2,f3,f4⟩:=hcut
  have hne':d1≠b1:=fun h=>hne h.symm
  have hw0:=World.block_lt_of_cell? _ _ (c00 W (Below.refl _ _))
  have n1:b1≠w.heap.size:=by have:w.heap.size<W.heap.size:=hw0;omega
  have n2:d1≠w.heap.size:=by have:w.heap.size<W.heap.size:=hw0;omega
  have p1:=c01 wc hB1
  clear hw0 c00 c01 c10 c11 c20 c21
  have p0:=q0 wc hB1
  clear q0
  go_wp2
  go_ret
  exact ⟨zG HE.out.symm,zA HB0.out (by exact Qb)⟩
theorem zKx (px py ax ay bx by':Int)(w:World)(hp:okP px py=true)(ha:okP ax ay=true)(hb:okP bx by'=true) :
  Calls Tryz.prog 267 #[.agg #[.int .i64 px,.int .i64 py],.agg #[.int .i64 ax,.int .i64 ay],.agg #[.int .i64 bx,.int .i64 by']] w fun e w'=>e=.returned (.bool (xF px py ax ay bx by'))∧Bw w w':=by
 by_cases h:by'<ay
 ·by_cases h1:by'≤py
  ·by_cases h2:py<ay
   ·exact zMw _ _ _ _ _ _ _ hp ha hb h h1 h2
   ·exact zKv _ _ _ _ _ _ _ hp ha hb h h1 h2
  ·exact zKw _ _ _ _ _ _ _ hp ha hb h h1
 ·by_cases h1:ay≤py
  ·by_cases h2:py<by'
   ·exact zMv _ _ _ _ _ _ _ hp ha hb (by omega) h1 h2
   ·exact zKt _ _ _ _ _ _ _ hp ha hb (by omega) h1 h2
  ·exact zKu _ _ _ _ _ _ _ hp ha hb (by omega) h1
def zBr (n k:Nat):Nat:=if k=0 then n - 1 else k - 1
def zCl (px py:Int)(n:Nat)(X Y:Nat→Int)(i:Nat):Bool:=xF px py (X (zBr n i)) (Y (zBr n i)) (X i) (Y i)
theorem zV5 (px py:Int)(n:Nat)(X Y:Nat→Int)(hn:0<n):uG (zCl px py n X Y) n=uG (uS px py n X Y) n:=by
 refine zRf _ _ n ?_ (fun i hi=>?_) hn
 ·have e:n - 1+1=n:=by omega
  simp [zCl,uS,zBr,e,Nat.mod_self]
 ·simp [zCl,uS,zBr,Nat.mod_eq_of_lt hi]
theorem zEu (px py:Int)(a:Option Addr)(n cap:Nat)(X Y:Nat→Int)(w:World)(hn:n<3) :
  Calls Tryz.prog 251 #[.agg #[.int .i64 px,.int .i64 py],.slice a n cap] w fun e w'=>e=.returned (.bool (xE px py n X Y))∧Bw w w':=by
 have HE:Hid (xE px py n X Y=false):=by
  show _=_
  have:¬ 3≤n:=by omega
  simp [xE,this]
 have hni:(n:Int)<3:=by omega
 go_enter Tryz.func251,Tryz.ntmps251
 go_wp2
 go_ret
 exact ⟨zG HE.out.symm,Qb⟩
theorem zEa (px py:Int)(a:Option Addr)(n cap:Nat)(X Y:Nat→Int)(w:World)(hn:40<n)(hmax:n≤1048576) :
  Calls Tryz.prog 251 #[.agg #[.int .i64 px,.int .i64 py],.slice a n cap] w fun e w'=>e=.returned (.bool (xE px py n X Y))∧Bw w w':=by
 have HE:Hid (xE px py n X Y=false):=by
  show _=_
  have:¬ n≤40:=by omega
  simp [xE,this]
 have hni:(40:Int)<(n:Int):=by omega
 have hn3:decide ((n:Int)<3)=false:=by simp;omega
 go_enter Tryz.func251,Tryz.ntmps251
 go_wp2
 go_ret
 exact ⟨zG HE.out.symm,Qb⟩
theorem zG8 (px py:Int)(b n cap:Nat)(X Y:Nat→Int)(w:World)(hp:okP px py=false)(h3:3≤n)(h40:n≤40) :
  Calls Tryz.prog 251 #[.agg #[.int .i64 px,.int .i64 py],.slice (some ⟨b,0,none⟩) n cap] w fun e w'=>e=.returned (.bool (xE px py n X Y))∧Bw w w':=by
 have HE:Hid (xE px py n X Y=false):=by show _=_;simp [xE,hp]
 have k1:=zQa hp
 have hn3:decide ((n:Int)<3)=false:=by simp;omega
 have hn40:decide ((40:Int)<(n:Int))=false:=by simp;omega
 clear hp
 go_enter Tryz.func251,Tryz.ntmps251
 go_wp2_with (go_at_call 264;refine (vE _ _ _).mono ?_;rintro e w' ⟨rfl,hb⟩)
 go_ret
 exact ⟨zG HE.out.symm,Qb⟩
theorem zEv (px py:Int)(b n cap:Nat)(X Y:Nat→Int)(w:World)(hp:okP px py=true)(hpt:zL w b 0 n X Y)(hbl:b<w.heap.size)(hcap:n≤cap)(h3:3≤n)(h40:n≤40)(hall:zNo n X Y=false) :
  Calls Tryz.prog 251 #[.agg #[.int .i64 px,.int .i64 py],.slice (some ⟨b,0,none⟩) n cap] w fun e w'=>e=.returned (.bool (xE px py n X Y))∧Bw w w':=by
 have HE:Hid (xE px py n X Y=false):=by show _=_;simp [xE,hall]
 have hN:zEg n X Y=3:=by simp [zEg,hall]
 have HQ:Hid (zL w b 0 n X Y):=hpt
 have k1:=zLd hp
 have hn3:decide ((n:Int)<3)=false:=by simp;omega
 have hn40:decide ((40:Int)<(n:Int))=false:=by simp;omega
 clear hp hpt hall
 go_enter Tryz.func251,Tryz.ntmps251
 go_wp2_with fail
 refine (vE _ _ _).mono ?_
 rintro e w1 ⟨rfl,hb1⟩
 have hB1:Bw w w1:=by exact Qb
 have HQ1:Hid (zL w1 b 0 n X Y):=HQ.out.below hB1 hbl
 have hbl1:b<w1.heap.size:=Nat.lt_of_lt_of_le hbl hB1.size
 have HB1:Hid (Bw w w1):=hB1
 clear hB1 hb1
 go_wp2_with (go_at_call 265;refine (zDc _ _ _ _ X Y _ HQ1.out hbl1 hcap (by omega)).mono ?_;rintro e w2 ⟨rfl,hb2⟩)
 go_ret
 exact ⟨zG HE.out.symm,zA HB1.out hb2⟩
theorem zD9 (px py:Int)(b n cap:Nat)(X Y:Nat→Int)(w:World)(hp:okP px py=true)(hpt:zL w b 0 n X Y)(hbl:b<w.heap.size)(hcap:n≤cap)(h3:3≤n)(h40:n≤40)(hall:zNo n X Y=true) :
  Calls Tryz.prog 251 #[.agg #[.int .i64 px,.int .i64 py],.slice (some ⟨b,0,none⟩) n cap] w fun e w'=>e=.returned (.bool (xE px py n X Y))∧Bw w w':=by
 have HE:Hid (xE px py n X Y=uG (zCl px py n X Y) n):=by
  show _=_
  rw [zV5 px py n X Y (by omega)]
  simp [xE,hall,hp,h3,h40]
 have hN:zEg n X Y=0:=by simp [zEg,hall]
 have HP:Hid (okP px py=true):=hp
 have HQ:Hid (zL w b 0 n X Y):=hpt
 have HO:Hid (∀ i,i<n→okP (X i) (Y i)=true):=by
  show ∀ i,i<n→okP (X i) (Y i)=true
  exact of_decide_eq_true hall
 have k1:=zLd hp
 have hn3:decide ((n:Int)<3)=false:=by simp;omega
 have hn40:decide ((40:Int)<(n:Int))=false:=by simp;omega
 clear hp hpt hall
 go_enter Tryz.func251,Tryz.ntmps251
 go_wp2_with fail
 generalize hW:(w.alloc _:World)=W
 have hB0:Bw w W:=by subst hW;exact Qb
 have c00:∀ W',Bw W W'→W'.cell? ⟨w.heap.size,0,none⟩=some (.int .i64 px):=Qc hW
 have c01:∀ W',Bw W W'→W'.cell? ⟨w.heap.size,1,none⟩=some (.int .i64 py):=Qc hW
 clear hW
 have HB0:Hid (Bw w W):=hB0
 have HQ1:Hid (zL W b 0 n X Y):=HQ.out.below hB0 hbl
 have hblW:b<W.heap.size:=Nat.lt_of_lt_of_le hbl hB0.size
 clear hB0 HQ hbl
 refine (vE _ _ _).mono ?_
 rintro e w1 ⟨rfl,hb1⟩
 have HQ2:Hid (zL w1 b 0 n X Y):=HQ1.out.below hb1 hblW
 have hbl1:b<w1.heap.size:=Nat.lt_of_lt_of_le hblW hb1.size
 go_wp2_with fail
 refine (zDc _ _ _ _ X Y _ HQ2.out hbl1 hcap (by omega)).mono ?_
 rintro e w2 ⟨rfl,hb2⟩
 have hB2:Bw W w2:=zA hb1 hb2
 have hwr:IntKind.i64.wrap ((n:Int) - 1)=(n:Int) - 1:=IntWalk.i64_in _ (by omega)
 have hi1:(0:Int)≤(n:Int) - 1:=by omega
 have hi2:(n:Int) - 1<(n:Int):=by omega
 have hti:((n:Int) - 1).toNat=n - 1:=by omega
 obtain ⟨hx,hy⟩:=(HQ1.out.below hB2 hblW) (n - 1) (by omega)
 simp only [Nat.zero_add] at hx hy
 clear hb1 hb2 HQ2
 go_wp2_with fail
 refine (zAz _ _ _).mono ?_
 rintro e w3 ⟨rfl,hb3⟩
 have hB3:Bw W w3:=zA hB2 hb3
 clear hx hy hB2 hb3
 have HQ3:Hid (zL w3 b 0 n X Y):=HQ1.out.below hB3 hblW
 have hbl3:b<w3.heap.size:=Nat.lt_of_lt_of_le hblW hB3.size
 replace c00:=fun W' (h:Below w3.heap.size w3 W')=>c00 W' (zA hB3 h)
 replace c01:=fun W' (h:Below w3.heap.size w3 W')=>c01 W' (zA hB3 h)
 have HB3:Hid (Bw w w3):=zA HB0.out hB3
 clear hB3 HB0 HQ1 hblW hbl1 hwr hi1 hi2 hti hN k1
 go_wp2
 go_loopw [5,35] (fun q i wr=>∃ k:Nat,k≤n∧i=.int .i64 k∧q=.bool (uG (zCl px py n X Y) k)∧Bw w3 wr∧wr.cell? ⟨w3.heap.size,0,none⟩=some (.int .i64 (X (zBr n k)))∧wr.cell? ⟨w3.heap.size,1,none⟩=some (.int .i64 (Y (zBr n k)))∧wr.frozen? ⟨w3.heap.size,0,none⟩=false∧wr.frozen? ⟨w3.heap.size,1,none⟩=false) (fun _ i _=>n - (intOf i).toNat)
 case atStart=>exact ⟨0,by omega,rfl,rfl,Qb,by simp [go_sem,zBr],by simp [go_sem,zBr],by simp [go_sem],by simp [go_sem]⟩
 case round =>
  obtain ⟨k,hk,rfl,rfl,hB,f0,f1,z0,z1⟩:=hrel
  by_cases hlt:k<n
  ·obtain ⟨hx,hy⟩:=(HQ3.out.below hB hbl3) k hlt
   simp only [Nat.zero_add] at hx hy
   have hFl:w3.heap.size<wr.heap.size:=World.block_lt_of_cell? _ _ f0
   have HK1:Hid (okP (X (zBr n k)) (Y (zBr n k))=true):=HO.out _ (by unfold zBr;split <;> omega)
   have HK2:Hid (okP (X k) (Y k)=true):=HO.out k hlt
   have hodd:Hid (uG (zCl px py n X Y) (k+1)=if zCl px py n X Y k=true then !(uG (zCl px py n X Y) k) else uG (zCl px py n X Y) k):=rfl
   have HS:Hid (zCl px py n X Y k=xF px py (X (zBr n k)) (Y (zBr n k)) (X k) (Y k)):=rfl
   have hprev:zBr n (k+1)=k:=by simp [zBr]
   have HV:Hid (zBr n (k+1)=k):=hprev
   clear hprev
   have hi:(k:Int)<(n:Int):=by omega
   generalize hXp:X (zBr n k)=xp at *
   generalize hYp:Y (zBr n k)=yp at *
   clear hXp hYp
   have F0:Hid (wr.cell? ⟨w3.heap.size,0,none⟩=some (.int .i64 xp)):=f0
   have F1:Hid (wr.cell? ⟨w3.heap.size,1,none⟩=some (.int .i64 yp)):=f1
   have Z0:Hid (wr.frozen? ⟨w3.heap.size,0,none⟩=false):=z0
   have Z1:Hid (wr.frozen? ⟨w3.heap.size,1,none⟩=false):=z1
   have HB:Hid (Bw w3 wr):=hB
   clear f0 f1 z0 z1 hB
   go_wp2_with fail
   refine (zAz _ _ _).mono ?_
   rintro e w4 ⟨rfl,hb4⟩
   have hB4:Bw wr w4:=by exact Qb
   clear hb4 hx hy
   go_wp2
   generalize hV:(w4.alloc _:World)=V
   have hBV:Bw wr V:=by subst hV;exact Qb
   have t0:∀ W',Bw V W'→W'.cell? ⟨w4.heap.size,0,none⟩=some (.int .i64 (X k)):=Qc hV
   have t1:∀ W',Bw V W'→W'.cell? ⟨w4.heap.size,1,none⟩=some (.int .i64 (Y k)):=Qc hV
   have f0:∀ W',Bw V W'→W'.cell? ⟨w3.heap.size,0,none⟩=some (.int .i64 xp):=fun W' h=>((zA hBV h).cell (p:=⟨w3.heap.size,0,none⟩) hFl).trans F0.out
   have f1:∀ W',Bw V W'→W'.cell? ⟨w3.heap.size,1,none⟩=some (.int .i64 yp):=fun W' h=>((zA hBV h).cell (p:=⟨w3.heap.size,1,none⟩) hFl).trans F1.out
   have z0:∀ W',Bw V W'→W'.frozen? ⟨w3.heap.size,0,none⟩=false:=fun W' h=>((zA hBV h).frozen (p:=⟨w3.heap.size,0,none⟩) hFl).trans Z0.out
   have z1:∀ W',Bw V W'→W'.frozen? ⟨w3.heap.size,1,none⟩=false:=fun W' h=>((zA hBV h).frozen (p:=⟨w3.heap.size,1,none⟩) hFl).trans Z1.out
   have hBV3:Bw w3 V:=zA HB.out hBV
   replace c00:=fun W' (h:Below V.heap.size V W')=>c00 W' (zA hBV3 h)
   replace c01:=fun W' (h:Below V.heap.size V W')=>c01 W' (zA hBV3 h)
   have HBV3:Hid (Bw w3 V):=hBV3
   clear hV hBV hBV3 hB4
   cases hsv:xF px py xp yp (X k) (Y k)
   all_goals
    go_region_held3 (fun W'=>Bw V W') ((repeat (first|exact Qr _ _|assumption|refine Qd ?_|refine Qa ?_ _|refine Qt ?_|refine Qs ?_ _|refine Qo ?_ ?_ _ _)))
     (first
      | (go_at_call 266;refine (zAz _ _ _).mono ?_;rintro e w' ⟨rfl,hb⟩)
      | (go_at_call 267;refine (zKx _ _ _ _ _ _ _ HP.out HK1.out HK2.out).mono ?_;rintro e w' ⟨rfl,hb⟩))
    rename_i hfin
    go_wp2
    go_roundw
    case rel =>
     refine ⟨k+1,by omega,by go_num,congrArg Value.bool (by rw [hodd.out,HS.out,hsv];rfl),?_,?_,?_,?_,?_⟩
     ·have hG:=zA HBV3.out hfin
      exact (hG.setCell (Nat.le_refl _) _).setCell (Nat.le_refl _) _
     ·rw [HV.out]
      exact zXs (Option.isSome_iff_exists.2 ⟨_,f0 _ hfin⟩)
     ·rw [HV.out]
      exact zXr (Option.isSome_iff_exists.2 ⟨_,f1 _ hfin⟩)
     ·simp [World.frozen?_setCell,z0 _ hfin]
     ·simp [World.frozen?_setCell,z1 _ hfin]
    case measure=>simp [intOf];omega
  ·go_wp2
   go_ret
   have hkn:k=n:=by omega
   subst hkn
   exact ⟨zG HE.out.symm,zA HB3.out hB⟩
theorem zEw (px py:Int)(b n cap:Nat)(X Y:Nat→Int)(w:World)(hpt:zL w b 0 n X Y)(hbl:b<w.heap.size)(hcap:n≤cap)(hmax:n≤1048576) :
  Calls Tryz.prog 251 #[.agg #[.int .i64 px,.int .i64 py],.slice (some ⟨b,0,none⟩) n cap] w fun e w'=>e=.returned (.bool (xE px py n X Y))∧Bw w w':=by
 by_cases h3:n<3
 ·exact zEu _ _ _ _ _ _ _ _ h3
 by_cases h40:40<n
 ·exact zEa _ _ _ _ _ _ _ _ h40 hmax
 cases hp:okP px py
 ·exact zG8 _ _ _ _ _ _ _ _ hp (by omega) (by omega)
 cases ha:zNo n X Y
 ·exact zEv _ _ _ _ _ _ _ _ hp hpt hbl hcap (by omega) (by omega) ha
 ·exact zD9 _ _ _ _ _ _ _ _ hp hpt hbl hcap (by omega) (by omega) ha
theorem zOa (V:World)(a b c d:Value)(t:TypeId):zC (V.alloc (.cells #[a,b,c,d] t)) V.heap.size 4:=fun o ho=>by
 have:o=0∨o=1∨o=2∨o=3:=by omega
 rcases this with rfl | rfl | rfl | rfl <;> exact ⟨⟨_,by simp [go_sem];rfl⟩,by simp [go_sem]⟩
theorem zCt (V:World)(a b c:Value)(t:TypeId):zC (V.alloc (.cells #[a,b,c] t)) V.heap.size 3:=fun o ho=>by
 have:o=0∨o=1∨o=2:=by omega
 rcases this with rfl | rfl | rfl <;> exact ⟨⟨_,by simp [go_sem];rfl⟩,by simp [go_sem]⟩
theorem zIe (z x y:Int)(w:World):Calls Tryz.prog 203 #[.int .i64 z,.int .i64 x,.int .i64 y] w fun e w'=>e=.returned (atV z x y)∧Bw w w':=by
 go_enter Tryz.func203,Tryz.ntmps203
 go_wp2_with fail
 generalize hW:(w.alloc _:World)=W
 have HB0:Hid (Bw w W):=by show Below _ _ _;subst hW;exact Qb
 have HT:Hid (zC W w.heap.size 4):=by
  show zC _ _ _
  subst hW
  exact zOa w (.int .i64 0) (.int .i64 0) (.int .i64 0) (.int .i64 0) 269
 have hsz:w.heap.size<W.heap.size:=by subst hW;simp
 clear hW
 refine (uU _ _ _ _).mono ?_
 rintro e w1 ⟨rfl,hb1⟩
 have hT':=HT.out.below hb1
 have HT1:Hid (zC w1 w.heap.size 4):=hT'
 have t0:=hT'.cell 0 (by omega)
 have t1:=hT'.cell 1 (by omega)
 have t2:=hT'.cell 2 (by omega)
 have t3:=hT'.cell 3 (by omega)
 have f0:=(hT' 0 (by omega)).2
 have f1:=(hT' 1 (by omega)).2
 have f2:=(hT' 2 (by omega)).2
 have f3:=(hT' 3 (by omega)).2
 have HB1:Hid (Bw w w1):=zA HB0.out hb1
 have hsz1:w.heap.size<w1.heap.size:=Nat.lt_of_lt_of_le hsz hb1.size
 clear hb1 HT HB0 hT' hsz
 cases h:zA8 z x y
 ·have hq:Hid (atV z x y=rrV 3 0 0 0):=by show _=_;simp [atV,h]
  go_wp2_with fail
  obtain ⟨q0,q1,q2,q3⟩:=zA9 (a:=.int .i64 3) (b:=.int .i64 0) (c:=.int .i64 0) (d:=.int .i64 0) HT1.out
  refine bodyPost_ret (v:=rrV 3 0 0 0) (by simp [results,Tryz.results203,go_sem,q0,q1,q2,q3]) rfl ⟨by rw [hq.out],?_⟩
  have HB:=HB1.out
  exact Qb
 ·have hq:Hid (atV z x y=rrV 0 z (x / 8) (y / 8)):=by show _=_;simp [atV,h]
  obtain ⟨⟨x0,x1⟩,y0,y1⟩:=zCz h
  have hp:=(vG (uA h)).2
  clear h
  generalize vO z=u at *
  have dx:x.tdiv 8=x / 8:=Int.tdiv_eq_ediv_of_nonneg x0
  have dy:y.tdiv 8=y / 8:=Int.tdiv_eq_ediv_of_nonneg y0
  go_wp2_with fail
  obtain ⟨q0,q1,q2,q3⟩:=zA9 (a:=.int .i64 0) (b:=.int .i64 z) (c:=.int .i64 (x / 8)) (d:=.int .i64 (y / 8)) HT1.out
  refine bodyPost_ret (v:=rrV 0 z (x / 8) (y / 8)) (by simp [results,Tryz.results203,go_sem,q0,q1,q2,q3]) rfl ⟨by rw [hq.out],?_⟩
  have HB:=HB1.out
  exact Qb
theorem zLr (z x y:Int)(w:World):Calls Tryz.prog 116 #[vN z x y] w fun e w'=>e=.returned (vN z x y)∧Bw w w':=by
 go_enter Tryz.func116,Tryz.ntmps116
 go_wp2
 exact bodyPost_ret (v:=vN z x y) (by simp [results,Tryz.results116,go_sem]) rfl ⟨rfl,Qb⟩
theorem zEd (z x y:Int)(w:World):Calls Tryz.prog 81 #[vN z x y,vN z x y] w fun e w'=>e=.returned (.bool true)∧Bw w w':=by
 go_enter Tryz.func81,Tryz.ntmps81
 go_wp2
 go_ret
 exact ⟨rfl,Qb⟩

def zDr (G:Int→Int→Int)(x y:Int)(wide high:Nat):List Int:=(List.range high).flatMap fun (r:Nat)=>(List.range wide).map fun (c:Nat)=>G (x+(c:Int)) (y+(r:Int))
def zAm (G:Int→Int→Int)(x y:Int)(wide r c:Nat):List Int:=zDr G x y wide r ++ (List.range c).map fun (c:Nat)=>G (x+(c:Int)) (y+(r:Int))
theorem zL2 (G:Int→Int→Int)(x y:Int)(wide:Nat):∀ high,(zDr G x y wide high).length=high * wide
 | 0=>by simp [zDr]
 | h+1=>by
  have:=zL2 G x y wide h
  unfold zDr at this ⊢
  rw [List.range_succ,List.flatMap_append,List.length_append,this]
  simp
  rw [Nat.add_mul];omega
theorem zQ9 (G:Int→Int→Int)(x y:Int)(wide r c:Nat):zAm G x y wide r (c+1)=zAm G x y wide r c ++ [G (x+(c:Int)) (y+(r:Int))]:=by
 simp [zAm,List.range_succ]
theorem zRa (G:Int→Int→Int)(x y:Int)(wide r:Nat):zAm G x y wide r wide=zDr G x y wide (r+1):=by
 simp [zAm,zDr,List.range_succ]
theorem zQ8 (G:Int→Int→Int)(x y:Int)(wide r:Nat):zAm G x y wide r 0=zDr G x y wide r:=by simp [zAm]
theorem zTj (G:Int→Int→Int)(x y:Int)(wide r c:Nat):(zAm G x y wide r c).length=r * wide+c:=by
 simp [zAm,zL2]
theorem zL3 (f:Nat)(caps:Array Value)(x y:Int)(wide high:Nat)(G:Int→Int→Int)(w:World)(hwide:wide≤8)(hhigh:high≤8)(hx:0≤x∧x≤1000)(hy:0≤y∧y≤1000)(hce:∀ args w,(callFunc f args).run Tryz.prog w=.ok (.enter f args) w)(hF:∀ W c r,Bw w W→c<wide→r<high→Calls Tryz.prog f (#[.int .i64 (x+(c:Nat)),.int .i64 (y+(r:Nat))] ++ caps) W fun e W'=>e=.returned (.int .i64 (G (x+(c:Nat)) (y+(r:Nat))))∧Bw W W') :
  Calls Tryz.prog 221 #[.int .i64 x,.int .i64 y,.int .i64 (wide:Int),.int .i64 (high:Int),.func (.func f) #[] caps] w fun e w'=>∃ v,e=.returned v∧zBt w.heap.size w' v (zDr G x y wide high)∧Bw w w':=by
 obtain ⟨i0,hi,hz0,hz1,hz2⟩:=info_parts zCc
 have HF:=(show Hid _ from hF)
 clear hF
 go_enter Tryz.func221,Tryz.ntmps221
 go_wp2_with fail
 go_loopw [11,15] (fun v j wr=>∃ r:Nat,r≤high∧j=.int .i64 ((r:Nat):Int)∧zBt w.heap.size wr v (zDr G x y wide r)∧Bw w wr) (fun _ j _=>high - (intOf j).toNat)
 case atStart=>exact ⟨0,by omega,rfl,zBt.no _ _,Below.refl _ _⟩
 case round =>
  obtain ⟨r,hr,rfl,hO,hB⟩:=hrel
  have HO0:Hid (zBt w.heap.size wr u11 (zDr G x y wide r)):=hO
  have HB0:Hid (Bw w wr):=hB
  clear hO hB
  by_cases hlt:r<high
  ·have hi':(r:Int)<(high:Int):=by omega
   go_wp2_with fail
   go_loopw [11,19] (fun v j wr=>∃ m:Nat,m≤wide∧j=.int .i64 (m:Int)∧zBt w.heap.size wr v (zAm G x y wide r m)∧Bw w wr) (fun _ j _=>wide - (intOf j).toNat)
   case atStart=>exact ⟨0,by omega,rfl,by rw [zQ8];exact HO0.out,HB0.out⟩
   case round =>
    obtain ⟨m,hm,rfl,hO,hB⟩:=hrel
    have HO:Hid (zBt w.heap.size wr u11 (zAm G x y wide r m)):=hO
    have HB:Hid (Bw w wr):=hB
    have hszr:w.heap.size≤wr.heap.size:=hB.size
    clear hO hB HO0 HB0
    by_cases hlm:m<wide
    ·have hm':(m:Int)<(wide:Int):=by omega
     have HC:Hid (Calls Tryz.prog f (#[.int .i64 (x+(m:Nat)),.int .i64 (y+(r:Nat))] ++ caps) wr fun e W'=>e=.returned (.int .i64 (G (x+(m:Nat)) (y+(r:Nat))))∧Bw wr W'):=HF.out wr m r HB.out hlm hlt
     have HS:Hid (zAm G x y wide r (m+1)=zAm G x y wide r m ++ [G (x+(m:Int)) (y+(r:Int))]):=zQ9 _ _ _ _ _ _
     have HL:Hid ((zAm G x y wide r m).length≤64):=by
      show _≤_
      rw [zTj]
      have:r * wide≤7 * 8:=Nat.mul_le_mul (by omega) hwide
      omega
     go_wp2_with fail
     refine Calls.mono HC.out ?_
     rintro e w2 ⟨rfl,hb2⟩
     have HO2:Hid (zBt w.heap.size w2 u11 (zAm G x y wide r m)):=HO.out.below hb2
     have HB2:Hid (Bw w w2):=zA HB.out hb2
     have hsz2:w.heap.size≤w2.heap.size:=Nat.le_trans hszr hb2.size
     clear HC hb2 HO HB
     generalize G (x+(m:Int)) (y+(r:Int))=g at *
     have hlen:=HL.out
     have hblk:∀ b,u11.ownBlock=some b→w.heap.size≤b:=fun b hb=>(World.ownsRow.lt HO2.out b hb).1
     have HR:Hid (∀ w' v',w'.ownsRow w.heap.size 2 1 v' ((zAm G x y wide r m).length+1) ((zAm G x y wide r m).map (.int .i64 ·) ++ [.int .i64 g])→zBt w.heap.size w' v' (zAm G x y wide r (m+1))):=fun w' v' h=>by
      rw [HS.out]
      show World.ownsRow _ _ _ _ _ _ _
      rw [List.length_append,List.map_append]
      exact h
     clear HS HL
     go_wp2_with (first
      | (at_builtin;go_must (refine wpList_append_own _ rfl _ _ 140 rfl w.heap.size 2 i0 (.int .i64 0) 1 8 Tryz.underlying140 hi hz0 hz1 hz2 rfl (by decide) _ (zAm G x y wide r m).length ((zAm G x y wide r m).map (.int .i64 ·)) rfl (World.ownsRow.alloc HO2.out _) ⟨w2.heap.size,0,none⟩ 1 1 [.int .i64 g] rfl rfl ?c1 ?c2 ?c3 ?c4 ?c5 ?_)))
     case c1 =>
      intro q u hq
      match q,hq with
      | 0,hq=>simp at hq;subst hq;simp [Addr.add,go_sem]
      | q+1,hq=>simp at hq
     case c2=>intro u hu;simp at hu;subst hu;rfl
     case c3=>unfold maxLen;omega
     case c4=>omega
     case c5=>simp;omega
     intro v' w3 hown' hgrow hnil
     clear hnil
     generalize hV:(w2.alloc _:World)=V at hgrow
     have hBV:Bw w2 V:=by subst hV;exact Qb
     have hBg:Below w.heap.size V w3:=(Below.refl _ _).grown hgrow (by have:=hBV.size;omega) (fun k hk=>hblk k hk)
     have HB3:Hid (Bw w w3):=HB2.out.trans ((hBV.mono hsz2).trans hBg)
     have HO3:Hid (zBt w.heap.size w3 v' (zAm G x y wide r (m+1))):=HR.out _ _ hown'
     clear hown' hgrow hBg hBV hV HO2 HB2 HR hblk
     go_wp2
     go_roundw
     case rel=>exact ⟨m+1,by omega,by go_num,HO3.out,HB3.out⟩
     case measure=>simp [intOf];omega
    ·have hmw:m=wide:=by omega
     subst hmw
     rw [zRa] at HO
     go_wp2_with fail
     go_roundw
     case rel=>exact ⟨r+1,by omega,by go_num,HO.out,HB.out⟩
     case measure=>simp [intOf];omega
  ·have hrh:r=high:=by omega
   subst hrh
   obtain ⟨av,cv,hvs,_,_⟩:=HO0.out.own
   have HV:Hid (∃ nv,u11=.slice av nv cv):=⟨_,hvs⟩
   go_wp2
   go_ret
   exact ⟨_,rfl,HO0.out,HB0.out⟩
structure Rfs where
 z:Nat→Int
 x:Nat→Int
 y:Nat→Int
def zLl (w:World)(b off n:Nat)(R:Rfs):Prop:=∀ i,i<n→w.cell? ⟨b,off+i * 3,none⟩=some (.int .i64 (R.z i))∧w.cell? ⟨b,off+i * 3+1,none⟩=some (.int .i64 (R.x i))∧w.cell? ⟨b,off+i * 3+2,none⟩=some (.int .i64 (R.y i))
theorem zLl.below {w w':World}{b off n B:Nat}{R:Rfs}(h:zLl w b off n R)(hb:Below B w w')(hB:b<B):zLl w' b off n R:=fun i hi =>
 ⟨(hb.cell (p:=⟨b,off+i * 3,none⟩) hB).trans (h i hi).1,(hb.cell (p:=⟨b,off+i * 3+1,none⟩) hB).trans (h i hi).2.1,(hb.cell (p:=⟨b,off+i * 3+2,none⟩) hB).trans (h i hi).2.2⟩
def zHr (w:World)(a:Option Addr)(n:Nat)(R:Rfs):Prop:=n=0∨∃ b off,a=some ⟨b,off,none⟩∧b<w.heap.size∧zLl w b off n R
theorem zHr.below {w w':World}{a:Option Addr}{n:Nat}{R:Rfs}(h:zHr w a n R)(hb:Below w.heap.size w w'):zHr w' a n R:=by
 rcases h with h | ⟨b,off,e,hl,hz⟩
 ·exact .inl h
 ·exact .inr ⟨b,off,e,Nat.lt_of_lt_of_le hl hb.size,hz.below hb hl⟩
theorem zC.setR {W:World}{r n:Nat}(h:zC W r n)(o:Nat)(v:Value):zC (W.setCell ⟨r,o,none⟩ v) r n:=fun o' ho=>by
 obtain ⟨u,hu⟩:=(h o' ho).1
 refine ⟨?_,?_⟩
 ·by_cases e:o=o'
  ·subst e
   exact ⟨v,World.cell?_setCell_same _ _ _ (by rw [hu])⟩
  ·exact ⟨u,by rw [World.cell?_setCell_other];exact hu;simp [e]⟩
 ·rw [World.frozen?_setCell];exact (h o' ho).2
theorem fillR {W:World}{B n k:Nat}{R:Rfs}(hT:zC W B (n * 3))(hk:k<n)(hp:zLl W B 0 k R) :
  zLl (((W.setCell ⟨B,k * 3,none⟩ (.int .i64 (R.z k))).setCell ⟨B,k * 3+1,none⟩ (.int .i64 (R.x k))).setCell ⟨B,k * 3+2,none⟩ (.int .i64 (R.y k))) B 0 (k+1) R:=fun i hi=>by
 have ne:∀ i j:Nat,i≠j→(⟨B,i,none⟩:Addr)≠⟨B,j,none⟩:=fun i j hij h=>hij (by injection h)
 simp only [Nat.zero_add]
 by_cases e:i=k
 ·subst e
  obtain ⟨u0,h0⟩:=(hT (i * 3) (by omega)).1
  obtain ⟨u1,h1⟩:=(hT (i * 3+1) (by omega)).1
  obtain ⟨u2,h2⟩:=(hT (i * 3+2) (by omega)).1
  refine ⟨?_,?_,?_⟩
  ·rw [zB (ne _ _ (by omega)),zB (ne _ _ (by omega))];exact zE h0
  ·rw [zB (ne _ _ (by omega))];exact zE (by rw [zB (ne _ _ (by omega))];exact h1)
  ·exact zE (by rw [zB (ne _ _ (by omega)),zB (ne _ _ (by omega))];exact h2)
 ·obtain ⟨h0,h1,h2⟩:=hp i (by omega)
  simp only [Nat.zero_add] at h0 h1 h2
  refine ⟨?_,?_,?_⟩
  all_goals (rw [zB (ne _ _ (by omega)),zB (ne _ _ (by omega)),zB (ne _ _ (by omega))];assumption)
theorem vI {w w':World}{b:Nat}(h:w.grownBy w' (some b))(o:Nat)(v:Value):w.grownBy (w'.setCell ⟨b,o,none⟩ v) (some b):=by
 have hb:Below b w' (w'.setCell ⟨b,o,none⟩ v):=(Below.refl b w').setCell (Nat.le_refl _) v
 exact ⟨hb.os.trans h.os,hb.tape.trans h.tape,hb.output.trans h.output,Nat.le_trans h.size hb.size,fun k hk hne=>(Below.heap_setCell w' ⟨b,o,none⟩ v k (fun e=>hne (by simp at e;rw [e]))).trans (h.block k hk hne)⟩
theorem zG9 (w:World)(row:Option Nat):w.grownBy w row:=⟨rfl,rfl,rfl,Nat.le_refl _,fun _ _ _=>rfl⟩
theorem zR9 (a c:Option Addr)(n capa capc:Nat)(R:Rfs)(w:World)(hp:zHr w a n R)(hq:zHr w c n R)(hmax:n≤1048576) :
  Calls Tryz.prog 37 #[.slice a n capa,.slice c n capc] w fun e w'=>e=.returned (.bool true)∧Bw w w':=by
 have HP:Hid (zHr w a n R):=hp
 have HQ:Hid (zHr w c n R):=hq
 clear hp hq
 go_enter Tryz.func37,Tryz.ntmps37
 go_wp2
 go_loopw [5] (fun i wr=>∃ k:Nat,k≤n∧i=.int .i64 k∧Bw w wr) (fun i _=>n - (intOf i).toNat)
 case atStart=>exact ⟨0,by omega,rfl,Below.refl _ _⟩
 case round =>
  obtain ⟨k,hk,rfl,hB⟩:=hrel
  by_cases hlt:k<n
  ·rcases HP.out with h0 | ⟨b,off,rfl,hb,hpt⟩
   ·omega
   rcases HQ.out with h0 | ⟨d,off',rfl,hd,hqt⟩
   ·omega
   have P1:=fun W' (h:Below wr.heap.size wr W')=>((hpt.below hB hb).below h (Nat.lt_of_lt_of_le hb hB.size)) k hlt
   have Q1:=fun W' (h:Below wr.heap.size wr W')=>((hqt.below hB hd).below h (Nat.lt_of_lt_of_le hd hB.size)) k hlt
   have c0:∀ W',Bw wr W'→W'.cell? ⟨b,off+k * 3,none⟩=some (.int .i64 (R.z k)):=fun W' h=>(P1 W' h).1
   have c1:∀ W',Bw wr W'→W'.cell? ⟨b,off+k * 3+1,none⟩=some (.int .i64 (R.x k)):=fun W' h=>(P1 W' h).2.1
   have c2:∀ W',Bw wr W'→W'.cell? ⟨b,off+k * 3+2,none⟩=some (.int .i64 (R.y k)):=fun W' h=>(P1 W' h).2.2
   have e0:∀ W',Bw wr W'→W'.cell? ⟨d,off'+k * 3,none⟩=some (.int .i64 (R.z k)):=fun W' h=>(Q1 W' h).1
   have e1:∀ W',Bw wr W'→W'.cell? ⟨d,off'+k * 3+1,none⟩=some (.int .i64 (R.x k)):=fun W' h=>(Q1 W' h).2.1
   have e2:∀ W',Bw wr W'→W'.cell? ⟨d,off'+k * 3+2,none⟩=some (.int .i64 (R.y k)):=fun W' h=>(Q1 W' h).2.2
   have HB:Hid (Bw w wr):=hB
   clear hB hpt hqt P1 Q1
   have hi:(k:Int)<(n:Int):=by omega
   have hi0:(0:Int)≤(k:Int):=by omega
   go_wp2
   go_region_held3 (fun W'=>Bw wr W') ((repeat (first|exact Qr _ _|assumption|refine Qd ?_|refine Qa ?_ _|refine Qt ?_|refine Qs ?_ _|refine Qo ?_ ?_ _ _)))
    (first
     | (go_at_call 81;refine (zEd _ _ _ _).mono ?_;rintro e w' ⟨rfl,hb⟩))
   go_wp2
   go_roundw
   case rel=>exact ⟨k+1,by omega,by go_num,zA HB.out (by assumption)⟩
   case measure=>simp [intOf];omega
  ·go_wp2
   go_ret
   exact ⟨rfl,hB⟩
def mkR (k0:Nat):Rfs:=⟨fun i=>((k0+3 * i:Nat):Int),fun i=>((k0+3 * i+1:Nat):Int),fun i=>((k0+3 * i+2:Nat):Int)⟩
theorem zL9 (b n cap k0:Nat)(w:World)(hT:zC w b (n * 3))(hb:b<w.heap.size)(hmax:n≤1048576)(hk0:k0≤1125899906842624) :
  Calls Tryz.prog 43 #[.slice (some ⟨b,0,none⟩) n cap,.int .i64 (k0:Int)] w fun e w'=>e=.returned (.int .i64 ((k0+3 * n:Nat):Int))∧w.grownBy w' (some b)∧zC w' b (n * 3)∧zLl w' b 0 n (mkR k0):=by
 have HT0:Hid (zC w b (n * 3)):=hT
 clear hT
 go_enter Tryz.func43,Tryz.ntmps43
 go_wp2_with fail
 go_loopw [1,5] (fun kk i wr=>∃ j K:Nat,j≤n∧Hid (K=k0+3 * j)∧kk=.int .i64 (K:Int)∧i=.int .i64 (j:Int)∧w.grownBy wr (some b)∧zC wr b (n * 3)∧zLl wr b 0 j (mkR k0)) (fun _ i _=>n - (intOf i).toNat)
 case atStart=>exact ⟨0,k0,by omega,rfl,rfl,rfl,zG9 _ _,HT0.out,fun i hi=>by omega⟩
 case round =>
  obtain ⟨j,K,hj,HK,rfl,rfl,hG,hT,hP⟩:=hrel
  by_cases hlt:j<n
  ·have hKb:K≤1125899909988352:=by have:=HK.out;omega
   have t0:=hT.cell (j * 3) (by omega)
   have t1:=hT.cell (j * 3+1) (by omega)
   have t2:=hT.cell (j * 3+2) (by omega)
   have f0:=(hT (j * 3) (by omega)).2
   have f1:=(hT (j * 3+1) (by omega)).2
   have f2:=(hT (j * 3+2) (by omega)).2
   have HT:Hid (zC wr b (n * 3)):=hT
   have HG:Hid (w.grownBy wr (some b)):=hG
   have HP:Hid (zLl wr b 0 j (mkR k0)):=hP
   clear hT hG hP
   have hi:(j:Int)<(n:Int):=by omega
   go_wp2
   go_roundw
   case rel =>
    have hz:(mkR k0).z j=(K:Int):=by have:=HK.out;simp [mkR];omega
    have hx:(mkR k0).x j=(K:Int)+1:=by have:=HK.out;simp [mkR];omega
    have hy:(mkR k0).y j=(K:Int)+1+1:=by have:=HK.out;simp [mkR];omega
    have hfs:=fillR (R:=mkR k0) HT.out hlt HP.out
    rw [hz,hx,hy] at hfs
    exact ⟨j+1,K+3,by omega,by have:=HK.out;show _=_;omega,by go_num,by go_num,vI (vI (vI HG.out _ _) _ _) _ _,((HT.out.setR _ _).setR _ _).setR _ _,hfs⟩
   case measure=>simp [intOf];omega
  ·go_wp2
   go_ret
   have hjn:j=n:=by omega
   subst hjn
   exact ⟨zD (by have:=HK.out;omega),hG,hT,hP⟩
theorem zD0 (a:Option Addr)(cap:Nat)(k:Int)(w:World):Calls Tryz.prog 43 #[.slice a 0 cap,.int .i64 k] w fun e w'=>e=.returned (.int .i64 k)∧w=w':=by
 go_enter Tryz.func43,Tryz.ntmps43
 go_wp2_with fail
 go_loopw [1,5] (fun kk i wr=>kk=.int .i64 k∧i=.int .i64 0∧w=wr) (fun _ _ _=>0)
 case atStart=>exact ⟨rfl,rfl,rfl⟩
 case round =>
  obtain ⟨rfl,rfl,rfl⟩:=hrel
  go_wp2
  go_ret
  exact ⟨rfl,rfl⟩
theorem zMz (a:Option Addr)(n cap k0:Nat)(w:World)(hp:zHr w a n (mkR k0))(hmax:n≤1048576)(hk0:k0≤1125899906842624) :
  Calls Tryz.prog 44 #[.slice a n cap,.int .i64 (k0:Int)] w fun e w'=>e=.returned (.int .i64 ((k0+3 * n:Nat):Int))∧Bw w w':=by
 have HP:Hid (zHr w a n (mkR k0)):=hp
 clear hp
 go_enter Tryz.func44,Tryz.ntmps44
 go_wp2_with fail
 go_loopw [1,5] (fun kk i wr=>∃ j K:Nat,j≤n∧Hid (K=k0+3 * j)∧kk=.int .i64 (K:Int)∧i=.int .i64 (j:Int)∧Bw w wr) (fun _ i _=>n - (intOf i).toNat)
 case atStart=>exact ⟨0,k0,by omega,rfl,rfl,rfl,Below.refl _ _⟩
 case round =>
  obtain ⟨j,K,hj,HK,rfl,rfl,hB⟩:=hrel
  by_cases hlt:j<n
  ·rcases HP.out with h0 | ⟨b,off,rfl,hbl,hpt⟩
   ·omega
   have hKb:K≤1125899909988352:=by have:=HK.out;omega
   have hz:(mkR k0).z j=(K:Int):=by have:=HK.out;simp [mkR];omega
   have hx:(mkR k0).x j=(K:Int)+1:=by have:=HK.out;simp [mkR];omega
   have hy:(mkR k0).y j=(K:Int)+1+1:=by have:=HK.out;simp [mkR];omega
   obtain ⟨t0,t1,t2⟩:=(hpt.below hB hbl) j hlt
   rw [hz] at t0
   rw [hx] at t1
   rw [hy] at t2
   have HB:Hid (Bw w wr):=hB
   clear hB hpt hz hx hy
   have hi:(j:Int)<(n:Int):=by omega
   have hi0:(0:Int)≤(j:Int):=by omega
   go_wp2
   go_roundw
   case rel=>exact ⟨j+1,K+3,by omega,by have:=HK.out;show _=_;omega,by go_num,by go_num,HB.out⟩
   case measure=>simp [intOf];omega
  ·go_wp2
   go_ret
   have hjn:j=n:=by omega
   subst hjn
   exact ⟨zD (by have:=HK.out;omega),hB⟩
def zNs (w:World)(base:Nat)(v:Value)(n:Nat)(R:Rfs):Prop :=
 ∃ a cap,v=.slice a n cap∧n≤cap∧(n=0∨∃ b,a=some ⟨b,0,none⟩∧base≤b∧b<w.heap.size∧zLl w b 0 n R∧zC w b (n * 3))
theorem zNs.pts {w:World}{base:Nat}{v:Value}{n:Nat}{R:Rfs}(h:zNs w base v n R):∃ a cap,v=.slice a n cap∧n≤cap∧zHr w a n R:=by
 obtain ⟨a,cap,hv,hc,h0 | ⟨b,ha,hb,hl,hp,ht⟩⟩:=h
 ·exact ⟨a,cap,hv,hc,.inl h0⟩
 ·exact ⟨a,cap,hv,hc,.inr ⟨b,0,ha,hl,hp⟩⟩
def zX2 (T:Nat)(w:World)(a:Option Addr)(n:Nat)(R:Rfs):Prop:=n=0∨∃ b off,a=some ⟨b,off,none⟩∧b<T∧zLl w b off n R
theorem zX2.is {T:Nat}{w:World}{a:Option Addr}{n:Nat}{R:Rfs}(h:zX2 T w a n R)(hT:T≤w.heap.size):zHr w a n R:=by
 rcases h with h | ⟨b,off,e,hl,hp⟩
 ·exact .inl h
 ·exact .inr ⟨b,off,e,by omega,hp⟩
theorem zBl {w w':World}{p:Addr}{v:Value}(hb:Below w.heap.size w w')(h:w.cell? p=some v):w'.cell? p=some v:=(hb.cell (World.block_lt_of_cell? _ _ h)).trans h
theorem xI {B:Nat}{row:Option Nat}{a b:World}(h:a.grownBy b row)(hs:∀ s,row=some s→B≤s)(hl:B≤a.heap.size):Below B a b :=
 ⟨h.os,h.tape,h.output,h.size,fun k hk=>h.block k (by omega) (fun e=>by have:=hs k e.symm;omega)⟩
end Go.Proofs.YtkjbafcalamgnaaGreat
