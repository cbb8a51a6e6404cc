/- Texts. -/
import Derived.Test.YtkjbafcalamgnaaGreatRows
import Derived.WalkSpells
import Derived.WalkLawsBesides
import Derived.Deep.RegionHeld3
import Derived.Deep.RegionLawGrows
import Derived.Deep.OwnRows
import Derived.Deep.LoopGhost
set_option linter.unusedSimpArgs false
set_option linter.unusedVariables false
set_option maxRecDepth 100000
set_option maxHeartbeats 32000000
namespace Go.Proofs.YtkjbafcalamgnaaGreat
open Go.RowKit
def inB (v lo hi:Int):Bool:=decide (lo≤v) && decide (v≤hi)
def okP (x y:Int):Bool:=inB x (-1024) 4096 && inB y (-1024) 4096
theorem zD5 (x y:Int):okP x y=true ↔ (-1024≤x∧x≤4096)∧(-1024≤y∧y≤4096):=by
 simp [okP,inB]
def zEt (x y:Int):Int:=if okP x y=true then 0 else 3
theorem zEs {x y:Int}(h:okP x y=true):zEt x y=0:=by simp [zEt,h]
theorem zIj {x y:Int}(h:okP x y=false):zEt x y=3:=by simp [zEt,h]
theorem yO {x y:Int}(h:okP x y=true):(-1024≤x∧x≤4096)∧(-1024≤y∧y≤4096):=(zD5 x y).1 h
theorem yY {a b B C:Int}(ha:-B≤a)(ha':a≤B)(hb:-C≤b)(hb':b≤C)(hB:0≤B):-(B * C)≤a * b∧a * b≤B * C:=by
 have h1:a.natAbs≤B.natAbs:=by omega
 have h2:b.natAbs≤C.natAbs:=by omega
 have h3:(a * b).natAbs≤B.natAbs * C.natAbs:=by rw [Int.natAbs_mul];exact Nat.mul_le_mul h1 h2
 have h4:((B.natAbs * C.natAbs:Nat):Int)=B * C:=by rw [Int.natCast_mul,Int.natAbs_of_nonneg hB,Int.natAbs_of_nonneg (by omega)]
 omega
theorem zA {wr W w':World}(hS:Below wr.heap.size wr W)(hb:Below W.heap.size W w'):Below wr.heap.size wr w':=hS.trans (hb.mono hS.size)
theorem zNz {wr W V:World}(hS:Below wr.heap.size wr W)(hV:Below wr.heap.size wr V)(o:Nat)(u:Value):Below wr.heap.size wr (W.setCell ⟨V.heap.size,o,none⟩ u):=hS.setCell hV.size u
theorem xA {wr W:World}(hS:Below wr.heap.size wr W)(o:Obj):Below wr.heap.size wr (W.alloc o):=hS.alloc hS.size o
abbrev Bw (w v:World):Prop:=Below w.heap.size w v
theorem Qc {X W:World}{p:Addr}{v:Option Value}(e:X=W)(hl:p.block<X.heap.size:=by simp <;> omega)(hc:X.cell? p=v:=by simp [go_sem]):∀ W',Below W.heap.size W W'→W'.cell? p=v:=fun W' h=>by
 subst e
 rw [h.cell hl]
 exact hc
theorem Qf {X W:World}{p:Addr}{v:Bool}(e:X=W)(hl:p.block<X.heap.size:=by simp <;> omega)(hc:X.frozen? p=v:=by simp [go_sem]):∀ W',Below W.heap.size W W'→W'.frozen? p=v:=fun W' h=>by
 subst e
 rw [h.frozen hl]
 exact hc
theorem Qr (b:Nat)(w:World):Below b w w:=Below.refl b w
theorem Qd {b:Nat}{w v:World}(h:Below b w v):Below b w v.drew:=Below.drew h
theorem Qa {r W:World}(h:Below r.heap.size r W)(o:Obj):Below r.heap.size r (W.alloc o):=xA h o
theorem Qt {r W v:World}(h:Below r.heap.size r W)(k:Below W.heap.size W v:=by assumption):Below r.heap.size r v:=zA h k
theorem Qs {b:Nat}{w v:World}{p:Addr}(h:Below b w v)(u:Value)(k:b≤p.block:=by first | omega | (simp;done) | (simp;omega)):Below b w (v.setCell p u):=Below.setCell h k u
theorem Qo {r W V:World}(h:Below r.heap.size r W)(k:Below r.heap.size r V)(o:Nat)(u:Value):Below r.heap.size r (W.setCell ⟨V.heap.size,o,none⟩ u):=zNz h k o u
theorem Qx {α:Type}(l:List α)(i:Nat)(a:α):l.toArray.setIfInBounds i a=(l.set i a).toArray:=List.setIfInBounds_toArray l i a
theorem Qy {α:Type}{x:α}{l:List α}{a:α}:(x :: l).set 0 a=a :: l:=rfl
theorem Qz {α:Type}{x:α}{l:List α}{i:Nat}{a:α}:(x :: l).set (i+1) a=x :: l.set i a:=rfl
theorem Qb {p:Prop}(h:p:=by (repeat (first|exact Qr _ _|assumption|refine Qd ?_|refine Qa ?_ _|refine Qt ?_|refine Qs ?_ _|refine Qo ?_ ?_ _ _))):p:=h
theorem zC {k:IntKind}{a b:Int}(h:a=b):Ending.returned (.int k a)=.returned (.int k b):=by rw [h]
theorem zF {a b:Bool}(h:a=b):Ending.returned (.bool a)=.returned (.bool b):=by rw [h]
def zW (ax ay bx by' cx cy:Int):Int:=(bx - ax) * (cy - ay) - (by' - ay) * (cx - ax)
def yN (ax ay bx by':Int):Int:=(bx - ax) * (bx - ax)+(by' - ay) * (by' - ay)
theorem zQ (v lo hi:Int)(w:World):Calls Tryz.prog 59 #[.int .i64 v,.int .i64 lo,.int .i64 hi] w fun e w'=>e=.returned (.bool (inB v lo hi))∧w'=w:=by
 unfold inB
 go_enter Tryz.func59,Tryz.ntmps59
 by_cases h1:lo≤v
 ·go_wp2
  all_goals (go_ret;exact ⟨zF (by simp [h1]),rfl⟩)
 ·have h2:decide (lo≤v)=false:=by simpa using h1
  go_wp2
  all_goals (go_ret;exact ⟨zF (by simp [h1]),rfl⟩)
abbrev zMr (x y:Int)(w:World):World:=((w.alloc (.cells #[.int .i64 x,.int .i64 y] 238)).alloc (.cells #[.int .i64 x,.int .i64 y] 206)).alloc (.cells #[.int .i64 x,.int .i64 y] 206)
theorem zIy (x y:Int)(w:World):Calls Tryz.prog 186 #[.agg #[.int .i64 x,.int .i64 y]] w fun e w'=>e=.returned (.agg #[.int .i64 x,.int .i64 y])∧zMr x y w=w':=by
 go_enter Tryz.func186,Tryz.ntmps186
 go_wp2
 exact bodyPost_ret (v:=.agg #[.int .i64 x,.int .i64 y]) (by simp [results,Tryz.results186,go_sem]) rfl ⟨rfl,rfl⟩
theorem zGt (x y:Int)(w:World):Calls Tryz.prog 186 #[.agg #[.int .i64 x,.int .i64 y]] w fun e w'=>e=.returned (.agg #[.int .i64 x,.int .i64 y])∧Bw w w' :=
 (zIy x y w).mono fun e w' ⟨he,hw⟩=>⟨he,by subst hw;exact Qb⟩
abbrev pairOfW (x y:Int)(w:World):World:=(w.alloc (.cells #[.int .i64 x,.int .i64 y] 206)).alloc (.cells #[.int .i64 x,.int .i64 y] 322)
theorem zLc (x y:Int)(w:World):Calls Tryz.prog 266 #[.agg #[.int .i64 x,.int .i64 y]] w fun e w'=>e=.returned (.agg #[.int .i64 x,.int .i64 y])∧pairOfW x y w=w':=by
 go_enter Tryz.func266,Tryz.ntmps266
 go_wp2
 exact bodyPost_ret (v:=.agg #[.int .i64 x,.int .i64 y]) (by simp [results,Tryz.results266,go_sem]) rfl ⟨rfl,rfl⟩
theorem vF (x y:Int)(w:World):Calls Tryz.prog 266 #[.agg #[.int .i64 x,.int .i64 y]] w fun e w'=>e=.returned (.agg #[.int .i64 x,.int .i64 y])∧Bw w w' :=
 (zLc x y w).mono fun e w' ⟨he,hw⟩=>⟨he,by subst hw;exact Qb⟩
theorem yQ (x y:Int)(w:World):Calls Tryz.prog 264 #[.agg #[.int .i64 x,.int .i64 y]] w fun e w'=>e=.returned (.int .i64 (zEt x y))∧Bw w w':=by
 have i0:∀ w,(Instr.index 322 (.agg #[.int .i64 x,.int .i64 y]) (.int .i64 0)).run Tryz.prog w=.ok (.int .i64 x) w:=fun _=>by kernel_rfl
 have i1:∀ w,(Instr.index 322 (.agg #[.int .i64 x,.int .i64 y]) (.int .i64 1)).run Tryz.prog w=.ok (.int .i64 y) w:=fun _=>by kernel_rfl
 have hk:Hid (zEt x y=if (-1024≤x∧x≤4096)∧(-1024≤y∧y≤4096) then 0 else 3):=by
  show _=_
  unfold zEt
  simp only [zD5]
 go_enter Tryz.func264,Tryz.ntmps264
 go_wp2_with (go_at_call 266;refine (vF _ _ _).mono ?_;rintro e w' ⟨rfl,hb1⟩)
 have hB:Hid (Bw w w'):=by
  show Below _ _ _
  exact Qb
 clear hb1
 go_loop [7] (fun i=>∃ k:Nat,k≤2∧i=.int .i64 k∧(1≤k→-1024≤x∧x≤4096)∧(2≤k→-1024≤y∧y≤4096)) (fun i=>2 - (intOf i).toNat)
 case atStart=>exact ⟨0,by omega,rfl,by omega,by omega⟩
 case round =>
  obtain ⟨k,hk2,rfl,hx,hy⟩:=hrel
  have hcase:k=0∨k=1∨k=2:=by omega
  rcases hcase with rfl | rfl | rfl
  ·clear hx hy
   by_cases h1:x < -1024
   ·go_wp2
    go_ret
    exact ⟨zC (by rw [hk.out];simp;omega),hB.out⟩
   ·have h1':decide (x < -1024)=false:=by simpa using h1
    go_wp2
    ·go_ret
     exact ⟨zC (by rw [hk.out];simp;omega),hB.out⟩
    ·go_round
     case rel=>exact ⟨1,by omega,rfl,by omega,by omega⟩
     case measure=>simp [intOf]
  ·have hx':=hx (by omega)
   clear hx hy
   by_cases h1:y < -1024
   ·go_wp2
    go_ret
    exact ⟨zC (by rw [hk.out];simp;omega),hB.out⟩
   ·have h1':decide (y < -1024)=false:=by simpa using h1
    go_wp2
    ·go_ret
     exact ⟨zC (by rw [hk.out];simp;omega),hB.out⟩
    ·go_round
     case rel=>exact ⟨2,by omega,rfl,by omega,by omega⟩
     case measure=>simp [intOf]
  ·have hx':=hx (by omega)
   have hy':=hy (by omega)
   clear hx hy
   go_wp2
   go_ret
   exact ⟨zC (by rw [hk.out,if_pos ⟨hx',hy'⟩]),hB.out⟩
theorem uY (ax ay bx by' cx cy:Int)(w:World)(ha:okP ax ay=true)(hb:okP bx by'=true)(hc:okP cx cy=true) :
  Calls Tryz.prog 236 #[.agg #[.int .i64 ax,.int .i64 ay],.agg #[.int .i64 bx,.int .i64 by'],.agg #[.int .i64 cx,.int .i64 cy]] w fun e w'=>e=.returned (.int .i64 (zW ax ay bx by' cx cy))∧Bw w w':=by
 obtain ⟨⟨a1,a2⟩,a3,a4⟩:=yO ha
 obtain ⟨⟨b1,b2⟩,b3,b4⟩:=yO hb
 obtain ⟨⟨c1,c2⟩,c3,c4⟩:=yO hc
 clear ha hb hc
 unfold zW
 obtain ⟨p1,p2⟩:=yY (a:=bx - ax) (b:=cy - ay) (B:=5120) (C:=5120) (by omega) (by omega) (by omega) (by omega) (by omega)
 obtain ⟨q1,q2⟩:=yY (a:=by' - ay) (b:=cx - ax) (B:=5120) (C:=5120) (by omega) (by omega) (by omega) (by omega) (by omega)
 go_enter Tryz.func236,Tryz.ntmps236
 go_wp2
 go_ret
 exact ⟨rfl,Qb⟩
theorem vA (ax ay bx by':Int)(w:World)(ha:okP ax ay=true)(hb:okP bx by'=true) :
  Calls Tryz.prog 235 #[.agg #[.int .i64 ax,.int .i64 ay],.agg #[.int .i64 bx,.int .i64 by']] w fun e w'=>e=.returned (.int .i64 (yN ax ay bx by'))∧Bw w w':=by
 obtain ⟨⟨a1,a2⟩,a3,a4⟩:=yO ha
 obtain ⟨⟨b1,b2⟩,b3,b4⟩:=yO hb
 clear ha hb
 have hd:Hid (yN ax ay bx by'=(ax - bx) * (ax - bx)+(ay - by') * (ay - by')):=by
  show _=_
  unfold yN
  rw [← Int.neg_sub ax bx,← Int.neg_sub ay by',Int.neg_mul_neg,Int.neg_mul_neg]
 obtain ⟨p1,p2⟩:=yY (a:=ax - bx) (b:=ax - bx) (B:=5120) (C:=5120) (by omega) (by omega) (by omega) (by omega) (by omega)
 obtain ⟨q1,q2⟩:=yY (a:=ay - by') (b:=ay - by') (B:=5120) (C:=5120) (by omega) (by omega) (by omega) (by omega) (by omega)
 go_enter Tryz.func235,Tryz.ntmps235
 go_wp2
 go_ret
 exact ⟨zC hd.out.symm,Qb⟩
def Df (x y:Int):Prop:=(-5120≤x∧x≤5120)∧(-5120≤y∧y≤5120)
theorem yV (ax ay bx by':Int)(w:World)(ha:okP ax ay=true)(hb:okP bx by'=true) :
  Calls Tryz.prog 276 #[.agg #[.int .i64 ax,.int .i64 ay],.agg #[.int .i64 bx,.int .i64 by']] w fun e w'=>e=.returned (.agg #[.int .i64 (bx - ax),.int .i64 (by' - ay)])∧Bw w w':=by
 obtain ⟨⟨a1,a2⟩,a3,a4⟩:=yO ha
 obtain ⟨⟨b1,b2⟩,b3,b4⟩:=yO hb
 clear ha hb
 go_enter Tryz.func276,Tryz.ntmps276
 go_wp2
 exact bodyPost_ret (v:=.agg #[.int .i64 (bx - ax),.int .i64 (by' - ay)]) (by simp [results,Tryz.results276,go_sem]) rfl ⟨rfl,Qb⟩
theorem zAs (ax ay bx by':Int)(w:World)(ha:Df ax ay)(hb:Df bx by') :
  Calls Tryz.prog 277 #[.agg #[.int .i64 ax,.int .i64 ay],.agg #[.int .i64 bx,.int .i64 by']] w fun e w'=>e=.returned (.int .i64 (ax * bx+ay * by'))∧Bw w w':=by
 obtain ⟨⟨a1,a2⟩,a3,a4⟩:=ha
 obtain ⟨⟨b1,b2⟩,b3,b4⟩:=hb
 obtain ⟨p1,p2⟩:=yY (a:=ax) (b:=bx) (B:=5120) (C:=5120) (by omega) (by omega) (by omega) (by omega) (by omega)
 obtain ⟨q1,q2⟩:=yY (a:=ay) (b:=by') (B:=5120) (C:=5120) (by omega) (by omega) (by omega) (by omega) (by omega)
 go_enter Tryz.func277,Tryz.ntmps277
 go_wp2
 go_ret
 exact ⟨rfl,Qb⟩
theorem yT (ax ay:Int)(w:World)(ha:Df ax ay) :
  Calls Tryz.prog 275 #[.agg #[.int .i64 ax,.int .i64 ay]] w fun e w'=>e=.returned (.int .i64 (ax * ax+ay * ay))∧Bw w w':=by
 have HA:Hid (Df ax ay):=ha
 clear ha
 go_enter Tryz.func275,Tryz.ntmps275
 go_wp2_with (go_at_call 277;refine (zAs _ _ _ _ _ HA.out HA.out).mono ?_;rintro e w' ⟨rfl,hb1⟩)
 go_ret
 exact ⟨rfl,Qb⟩
theorem zHv (ax ay:Int)(w:World) :
  Calls Tryz.prog 189 #[.agg #[.int .i64 ax,.int .i64 ay],.agg #[.int .i64 ax,.int .i64 ay]] w fun e w'=>e=.returned (.bool true)∧Bw w w':=by
 go_enter Tryz.func189,Tryz.ntmps189
 go_wp2
 go_ret
 exact ⟨rfl,Qb⟩
def zD (W:World)(r n:Nat):Prop:=∀ o,o<n→(∃ v,W.cell? ⟨r,o,none⟩=some v)∧W.frozen? ⟨r,o,none⟩=false
def zGe (W:World)(r o:Nat):Value:=(W.cell? ⟨r,o,none⟩).getD undef
theorem zD.cell {W:World}{r n:Nat}(h:zD W r n)(o:Nat)(ho:o<n):W.cell? ⟨r,o,none⟩=some (zGe W r o):=by
 obtain ⟨v,hv⟩:=(h o ho).1
 simp [zGe,hv]
theorem zD.below {W W':World}{r n:Nat}(h:zD W r n)(hb:Below W.heap.size W W'):zD W' r n:=fun o ho=>by
 obtain ⟨v,hv⟩:=(h o ho).1
 have hlt:r<W.heap.size:=World.block_lt_of_cell? W ⟨r,o,none⟩ hv
 exact ⟨⟨v,(hb.cell (p:=⟨r,o,none⟩) hlt).trans hv⟩,(hb.frozen (p:=⟨r,o,none⟩) hlt).trans (h o ho).2⟩
structure Reg (B:Nat) (W:World) (r n:Nat) (W':World):Prop where
 le:B≤W.heap.size
 bel:Below B W W'
 there:zD W' r n
theorem Reg.call {B r n:Nat}{W W1 w':World}(h:Reg B W r n W1)(hb:Below W1.heap.size W1 w'):Reg B W r n w' :=
 ⟨h.le,h.bel.trans (hb.mono (Nat.le_trans h.le h.bel.size)),h.there.below hb⟩
theorem Reg.drew {B r n:Nat}{W W1:World}(h:Reg B W r n W1):Reg B W r n W1.drew:=⟨h.le,h.bel.drew,h.there⟩
theorem Reg.start {B r n:Nat}{W:World}(hB:B≤W.heap.size)(ht:zD W r n):Reg B W r n W:=⟨hB,Below.refl _ _,ht⟩
theorem Reg.store {B r n:Nat}{W W1:World}(h:Reg B W r n W1)(hr:B≤r)(o:Nat)(v:Value):Reg B W r n (W1.setCell ⟨r,o,none⟩ v) :=
 ⟨h.le,h.bel.setCell hr v,fun o' ho=>by
  obtain ⟨u,hu⟩:=(h.there o' ho).1
  refine ⟨?_,?_⟩
  ·by_cases e:o=o'
   ·subst e
    exact ⟨v,World.cell?_setCell_same _ _ _ (by rw [hu])⟩
   ·exact ⟨u,by rw [World.cell?_setCell_other];exact hu;intro hc;exact e (by simpa using hc.symm)⟩
  ·rw [World.frozen?_setCell];exact (h.there o' ho).2⟩
theorem zN8 {W:World}{b:Nat}{v0 v1:Value}(h0:(W.cell? ⟨b,0,none⟩).isSome=true):((W.setCell ⟨b,0,none⟩ v0).setCell ⟨b,1,none⟩ v1).cell? ⟨b,0,none⟩=some v0:=by
 obtain ⟨u,hu⟩:=Option.isSome_iff_exists.1 h0
 rw [World.cell?_setCell_other]
 ·exact World.cell?_setCell_same _ _ _ (by rw [hu])
 ·simp
theorem zN7 {W:World}{b:Nat}{v0 v1:Value}(h1:(W.cell? ⟨b,1,none⟩).isSome=true):((W.setCell ⟨b,0,none⟩ v0).setCell ⟨b,1,none⟩ v1).cell? ⟨b,1,none⟩=some v1:=by
 obtain ⟨u,hu⟩:=Option.isSome_iff_exists.1 h1
 refine World.cell?_setCell_same (u:=u) _ _ _ ?_
 rw [World.cell?_setCell_other]
 ·exact hu
 ·simp
theorem zJ (v lo hi:Int)(w:World):Calls Tryz.prog 77 #[.int .i64 v,.int .i64 lo,.int .i64 hi] w fun e w'=>e=.returned (.bool (inB v lo hi))∧w'=w:=by
 unfold inB
 go_enter Tryz.func77,Tryz.ntmps77
 by_cases h1:lo≤v
 ·go_wp2
  all_goals (go_ret;exact ⟨zF (by simp [h1]),rfl⟩)
 ·have h2:decide (lo≤v)=false:=by simpa using h1
  go_wp2
  all_goals (go_ret;exact ⟨zF (by simp [h1]),rfl⟩)
def inW (x y:Int):Bool:=inB x 0 1024 && inB y 0 1024
theorem yL (x y:Int)(w:World):Calls Tryz.prog 149 #[.agg #[.int .i64 x,.int .i64 y]] w fun e w'=>e=.returned (.bool (inW x y))∧Bw w w':=by
 unfold inW
 cases h1:inB x 0 1024 <;> cases h2:inB y 0 1024
 all_goals
  go_enter Tryz.func149,Tryz.ntmps149
  go_wp2_with (go_at_call 77;refine (zJ _ _ _ _).mono ?_;rintro e w' ⟨rfl,rfl⟩)
  all_goals (go_ret;exact ⟨zF (by simp [h1,h2]),Qb⟩)
section
variable {P:Program} {ops:Array Oper} {Q:Exit→Act→World→Prop} {md:Region.Mode} {S:World→Prop}
theorem takeD {i:Nat}{d:Option Nat}{oi:Oper}{v:Value}{fuel:Nat}{listed:Array Bool}{a:Act}{w:World}(hi:ops[i]?=some oi)(hd:oi.dst=d)(hs:Region.noSelect ops=true)(hf:Region.free md ops listed i=true)(hr:(Region.ready md ops listed).contains i=true)(hQ:∀ c a w,Q (.panic c) (a.put oi.dst v) w→Q (.panic c) a w)(hy:YieldsIf P ops S oi v a)(hS:S w)(h:wpAnyH P md ops Q S fuel (listed.setIfInBounds i true) (a.put d v) w):wpAnyH P md ops Q S (fuel+1) listed a w :=
 wpAnyH_take hi hs hf hr hQ hy hS (hd ▸ h)
theorem passD {i:Nat}{d:Option Nat}{oi:Oper}{fuel:Nat}{listed:Array Bool}{a:Act}{w:World}(hi:ops[i]?=some oi)(hd:oi.dst=d)(hs:Region.noSelect ops=true)(hf:Region.free md ops listed i=true)(hr:(Region.ready md ops listed).contains i=true)(hQ:∀ c a w,Q (.panic c) (a.put oi.dst undef) w→Q (.panic c) a w)(hy:Region.wanted oi (yielded ops a.tmps)=false)(hS:S w)(h:wpAnyH P md ops Q S fuel (listed.setIfInBounds i true) (a.put d undef) w):wpAnyH P md ops Q S (fuel+1) listed a w :=
 wpAnyH_take hi hs hf hr hQ (.inr ⟨hy,rfl⟩) hS (hd ▸ h)
theorem xL {i:Nat}{d:Option Nat}{oi:Oper}{v:Value}{fuel:Nat}{listed:Array Bool}{a:Act}{w:World}(hi:ops[i]?=some oi)(hd:oi.dst=d)(hy:YieldsIf P ops S oi v a)(hS:S w)(h:wpAnyH P md ops Q S fuel (listed.setIfInBounds i true) (a.put d v) w)(hs:Region.noSelect ops=true:=by kernel_rfl)(hf:Region.free md ops listed i=true:=by kernel_rfl)(hr:(Region.ready md ops listed).contains i=true:=by kernel_rfl)(hQ:∀ c a w,Q (.panic c) (a.put oi.dst v) w→Q (.panic c) a w:=by exact fun _ _ _ h=>h):wpAnyH P md ops Q S (fuel+1) listed a w:=takeD hi hd hs hf hr hQ hy hS h
theorem yH {i:Nat}{d:Option Nat}{oi:Oper}{fuel:Nat}{listed:Array Bool}{a:Act}{w:World}(hi:ops[i]?=some oi)(hd:oi.dst=d)(hy:Region.wanted oi (yielded ops a.tmps)=false)(hS:S w)(h:wpAnyH P md ops Q S fuel (listed.setIfInBounds i true) (a.put d undef) w)(hs:Region.noSelect ops=true:=by kernel_rfl)(hf:Region.free md ops listed i=true:=by kernel_rfl)(hr:(Region.ready md ops listed).contains i=true:=by kernel_rfl)(hQ:∀ c a w,Q (.panic c) (a.put oi.dst undef) w→Q (.panic c) a w:=by exact fun _ _ _ h=>h):wpAnyH P md ops Q S (fuel+1) listed a w:=passD hi hd hs hf hr hQ hy hS h
theorem zE {i:Nat}{d:Option Nat}{oi:Oper}{v:Value}{fuel:Nat}{listed:Array Bool}{a:Act}{w:World}(hi:ops[i]?=some oi)(hd:oi.dst=d)(h:wpAnyH P md ops Q S fuel (listed.setIfInBounds i true) (a.put d v) w)(hs:Region.noSelect ops=true:=by kernel_rfl)(hf:Region.free md ops listed i=true:=by kernel_rfl)(hr:(Region.ready md ops listed).contains i=true:=by kernel_rfl)(hQ:∀ c a w,Q (.panic c) (a.put oi.dst v) w→Q (.panic c) a w:=by exact fun _ _ _ h=>h)(hS:S w:=by assumption)(hy:YieldsIf P ops S oi v a:=by exact Or.inl ⟨by rfl,by (intro w hSw;(try dsimp only at hSw);go_simp <;> with_reducible rfl)⟩):wpAnyH P md ops Q S (fuel+1) listed a w:=takeD hi hd hs hf hr hQ hy hS h
theorem zR (i:Nat){fuel:Nat}{listed:Array Bool}{a:Act}{w:World}{o:Oper}(h:∀ K':Act→World→Prop,Shut (∀ a w,S w→(S w→wpAnyH P md ops Q S fuel (listed.setIfInBounds i true) a w)→K' a w)→if Region.wanted o (yielded ops a.tmps)=true then Oper.wp P o a w K' Q else K' (a.put o.dst undef) w)(ho:ops[i]?=some o:=by rfl)(hr:Region.ready md ops listed=[i]:=by kernel_rfl):wpAnyH P md ops Q S (fuel+1) listed a w:=wpAnyH_ready hr (by simp) (AllReadyH.cons ho h AllReadyH.nil)
end

theorem zB {W:World}{a p:Addr}{u:Value}(h:a≠p):(W.setCell a u).cell? p=W.cell? p:=World.cell?_setCell_other _ _ _ _ h
theorem zG {W:World}{a:Addr}{u x:Value}(h:W.cell? a=some x):(W.setCell a u).cell? a=some u:=World.cell?_setCell_same _ _ _ h
theorem zG8 {W:World}{r i j:Nat}{u v:Value}(hij:i≠j)(h0:(W.cell? ⟨r,i,none⟩).isSome=true)(h1:(W.cell? ⟨r,j,none⟩).isSome=true) :
  ((W.setCell ⟨r,i,none⟩ u).setCell ⟨r,j,none⟩ v).cell? ⟨r,i,none⟩=some u∧((W.setCell ⟨r,i,none⟩ u).setCell ⟨r,j,none⟩ v).cell? ⟨r,j,none⟩=some v:=by
 obtain ⟨x,hx⟩:=Option.isSome_iff_exists.1 h0
 obtain ⟨y,hy⟩:=Option.isSome_iff_exists.1 h1
 have n1:(⟨r,i,none⟩:Addr)≠⟨r,j,none⟩:=fun h=>hij (by injection h)
 have n2:(⟨r,j,none⟩:Addr)≠⟨r,i,none⟩:=fun h=>n1 h.symm
 refine ⟨?_,?_⟩
 ·rw [zB n2];exact zG hx
 ·exact zG (by rw [zB n1];exact hy)
theorem uB {W:World}{r:Nat}{a b c d:Value}(hT:zD W r 4) :
  ((((W.setCell ⟨r,0,none⟩ a).setCell ⟨r,1,none⟩ b).setCell ⟨r,2,none⟩ c).setCell ⟨r,3,none⟩ d).cell? ⟨r,0,none⟩=some a ∧
  ((((W.setCell ⟨r,0,none⟩ a).setCell ⟨r,1,none⟩ b).setCell ⟨r,2,none⟩ c).setCell ⟨r,3,none⟩ d).cell? ⟨r,1,none⟩=some b ∧
  ((((W.setCell ⟨r,0,none⟩ a).setCell ⟨r,1,none⟩ b).setCell ⟨r,2,none⟩ c).setCell ⟨r,3,none⟩ d).cell? ⟨r,2,none⟩=some c ∧
  ((((W.setCell ⟨r,0,none⟩ a).setCell ⟨r,1,none⟩ b).setCell ⟨r,2,none⟩ c).setCell ⟨r,3,none⟩ d).cell? ⟨r,3,none⟩=some d:=by
 obtain ⟨x0,h0⟩:=(hT 0 (by omega)).1
 obtain ⟨x1,h1⟩:=(hT 1 (by omega)).1
 obtain ⟨x2,h2⟩:=(hT 2 (by omega)).1
 obtain ⟨x3,h3⟩:=(hT 3 (by omega)).1
 have ne:∀ i j:Nat,i≠j→(⟨r,i,none⟩:Addr)≠⟨r,j,none⟩:=fun i j hij h=>hij (by injection h)
 refine ⟨?_,?_,?_,?_⟩
 ·rw [zB (ne 3 0 (by omega)),zB (ne 2 0 (by omega)),zB (ne 1 0 (by omega))];exact zG h0
 ·rw [zB (ne 3 1 (by omega)),zB (ne 2 1 (by omega))];exact zG (by rw [zB (ne 0 1 (by omega))];exact h1)
 ·rw [zB (ne 3 2 (by omega))];exact zG (by rw [zB (ne 1 2 (by omega)),zB (ne 0 2 (by omega))];exact h2)
 ·exact zG (by rw [zB (ne 2 3 (by omega)),zB (ne 1 3 (by omega)),zB (ne 0 3 (by omega))];exact h3)
end Go.Proofs.YtkjbafcalamgnaaGreat
namespace Go.Proofs.YtkjbafcalamgnaaGreat
open Go
theorem xM {P:Program}{ops:Array Oper}{o:Oper}{a:Act}{w:World}{K:Act→World→Prop}{Q:Exit→Act→World→Prop}{E:Prop}(hg:o.guard=none)(s x:Operand)(t:TypeId)(hop:o.op=Op.call { callee:=Callee.builtin Builtin.append,args:=#[s,x],argTypes:=#[t,t] })(base:Nat)(e:TypeId)(i:TypeInfo)(z:Value)(size bytes:Nat)(h1:P.underlying t=some (.slice e))(h2:P.info? e=some i)(h3:i.zero=some z)(h4:i.size=size)(h5:i.bytes=bytes)(h6:z.cells.size=size)(h7:0<size)(v:Value)(n:Nat)(xs:List Value)(hs:a.eval s=v)(hown:w.ownsRow base e size v n xs)(ad:Addr)(m c:Nat)(news:List Value)(hx:a.eval x=.slice (some ad) m c)(hn:news.length=m * size)(hc:∀ j u,news[j]?=some u→w.cell? (ad.add j)=some u)(h1c:∀ u ∈ news,u.oneCell'=true)(b1:n+m≤maxLen)(b2:(n+m) * bytes≤140737488355328)(hbase:base≤w.heap.size)(hK:∀ v' w',w'.ownsRow base e size v' (n+m) (xs ++ news)→w.grownBy w' v.ownBlock→(v'=.slice none 0 0 ↔ v=.slice none 0 0∧m=0)→K (a.put o.dst v') w') :
  if Region.wanted o (yielded ops a.tmps)=true then Oper.wp P o a w K Q else E:=by
 have hw:Region.wanted o (yielded ops a.tmps)=true:=by simp [Region.wanted,hg]
 rw [if_pos hw]
 obtain ⟨v',w',hrun,r1,r2,r3⟩:=run_append_own (P:=P) w base t o.type e i z size bytes h1 h2 h3 h4 h5 h6 h7 v n xs hown ad m c news hn hc h1c b1 b2 hbase
 unfold Oper.wp
 simp [execOp,hop,resolve,invoke,builtin,hs,hx,hrun,Result.andThen]
 exact hK v' w' r1 r2 r3
end Go.Proofs.YtkjbafcalamgnaaGreat
namespace Go.Proofs.YtkjbafcalamgnaaGreat
open Go.RowKit
def yC (px py ax ay bx by':Int):Bool :=
 if decide (py<ay) == decide (py<by') then false
 else if ay<by' then decide (0<zW ax ay bx by' px py) else decide (zW ax ay bx by' px py<0)
theorem zJ4 (ax ay bx by' px py:Int):zW bx by' ax ay px py=- zW ax ay bx by' px py:=by
 simp only [zW,Int.mul_sub,Int.sub_mul]
 have e1:=Int.mul_comm ax ay
 have e2:=Int.mul_comm bx by'
 have e3:=Int.mul_comm ax by'
 have e4:=Int.mul_comm bx ay
 have e5:=Int.mul_comm ay px
 have e6:=Int.mul_comm by' px
 omega
def xH (f:Nat→Bool):Nat→Bool
 | 0=>false
 | k+1=>if f k=true then !(xH f k) else xH f k
theorem zJf (f g:Nat→Bool)(n:Nat)(h0:g 0=f (n - 1))(hs:∀ i,i+1<n→g (i+1)=f i)(hn:0<n):xH g n=xH f n:=by
 have key:∀ k,k+1≤n→xH g (k+1)=if f (n - 1)=true then !(xH f k) else xH f k:=by
  intro k
  induction k with
  | zero=>intro _;simp [xH,h0]
  | succ k ih =>
   intro hk
   rw [xH,ih (by omega),hs k (by omega),xH]
   cases f k <;> cases f (n - 1) <;> simp
 obtain ⟨m,rfl⟩:∃ m,n=m+1:=⟨n - 1,by omega⟩
 rw [key m (by omega)]
 simp [xH]
theorem zG4 {px py ax ay bx by':Int}(h:ay≤by'):yC px py ax ay bx by'=(decide (ay≤py) && decide (py<by') && decide (0<zW ax ay bx by' px py)):=by
 unfold yC
 by_cases h1:py<ay
 ·have h2:py<by':=by omega
  have h3:¬ ay≤py:=by omega
  simp [h1,h2,h3]
 ·have h3:ay≤py:=by omega
  by_cases h2:py<by'
  ·have h4:ay<by':=by omega
   simp [h1,h2,h3,h4]
  ·simp [h1,h2,h3]
theorem zBt {px py ax ay bx by':Int}(h:by'<ay):yC px py ax ay bx by'=(decide (by'≤py) && decide (py<ay) && decide (0<zW bx by' ax ay px py)):=by
 unfold yC
 rw [zJ4 ax ay bx by']
 have h4:¬ ay<by':=by omega
 by_cases h1:py<ay
 ·by_cases h2:py<by'
  ·have h3:¬ by'≤py:=by omega
   simp [h1,h2,h3]
  ·have h3:by'≤py:=by omega
   simp [h1,h2,h3,h4]
 ·have h2:¬ py<by':=by omega
  simp [h1,h2]
def or2 (x y:Int):Int:=if x=0 then y else x
theorem zA9 (b c:Nat)(x y:Int)(w:World)(h0:w.cell? ⟨b,0,none⟩=some (.int .i64 x))(h1:w.cell? ⟨b,1,none⟩=some (.int .i64 y)) :
  Calls Tryz.prog 53 #[.slice (some ⟨b,0,none⟩) 2 c] w fun e w'=>e=.returned (.int .i64 (or2 x y))∧w'=w:=by
 unfold or2
 by_cases hx:x=0
 ·subst hx
  by_cases hy:y=0
  ·subst hy
   go_enter Tryz.func53,Tryz.ntmps53
   go_wp2
   refine wp_loop_rounds 3 ?_
   rw [rounds_succ]
   go_wp2
   rw [rounds_succ]
   go_wp2
   rw [rounds_succ]
   go_wp2
   go_ret
   exact ⟨by simp,rfl⟩
  ·have hy':(y == 0)=false:=by simpa using hy
   go_enter Tryz.func53,Tryz.ntmps53
   go_wp2
   refine wp_loop_rounds 2 ?_
   rw [rounds_succ]
   go_wp2
   rw [rounds_succ]
   go_wp2
   go_ret
   exact ⟨by simp,rfl⟩
 ·have hx':(x == 0)=false:=by simpa using hx
  go_enter Tryz.func53,Tryz.ntmps53
  go_wp2
  refine wp_loop_rounds 1 ?_
  rw [rounds_succ]
  go_wp2
  go_ret
  exact ⟨by simp [hx],rfl⟩
def or3 (x y z:Int):Int:=if x=0 then (if y=0 then z else y) else x
theorem zJ7 (b c:Nat)(x y z:Int)(w:World)(h0:w.cell? ⟨b,0,none⟩=some (.int .i64 x))(h1:w.cell? ⟨b,1,none⟩=some (.int .i64 y))(h2:w.cell? ⟨b,2,none⟩=some (.int .i64 z)) :
  Calls Tryz.prog 53 #[.slice (some ⟨b,0,none⟩) 3 c] w fun e w'=>e=.returned (.int .i64 (or3 x y z))∧w'=w:=by
 unfold or3
 by_cases hx:x=0
 ·subst hx
  by_cases hy:y=0
  ·subst hy
   by_cases hz:z=0
   ·subst hz
    go_enter Tryz.func53,Tryz.ntmps53
    go_wp2
    refine wp_loop_rounds 4 ?_
    rw [rounds_succ]
    go_wp2
    rw [rounds_succ]
    go_wp2
    rw [rounds_succ]
    go_wp2
    rw [rounds_succ]
    go_wp2
    go_ret
    exact ⟨by simp,rfl⟩
   ·have hz':(z == 0)=false:=by simpa using hz
    go_enter Tryz.func53,Tryz.ntmps53
    go_wp2
    refine wp_loop_rounds 3 ?_
    rw [rounds_succ]
    go_wp2
    rw [rounds_succ]
    go_wp2
    rw [rounds_succ]
    go_wp2
    go_ret
    exact ⟨by simp,rfl⟩
  ·have hy':(y == 0)=false:=by simpa using hy
   go_enter Tryz.func53,Tryz.ntmps53
   go_wp2
   refine wp_loop_rounds 2 ?_
   rw [rounds_succ]
   go_wp2
   rw [rounds_succ]
   go_wp2
   go_ret
   exact ⟨by simp [hy],rfl⟩
 ·have hx':(x == 0)=false:=by simpa using hx
  rw [if_neg hx]
  go_enter Tryz.func53,Tryz.ntmps53
  go_wp2
  refine wp_loop_rounds 1 ?_
  rw [rounds_succ]
  go_wp2
  go_ret
  exact ⟨rfl,rfl⟩
def zAv (w:World)(a:Option Addr)(n:Nat)(Z:Nat→Int):Prop :=
 n=0∨∃ b off,a=some ⟨b,off,none⟩∧b<w.heap.size∧∀ i,i<n→w.cell? ⟨b,off+i,none⟩=some (.int .i64 (Z i))
theorem zAv.below {w w':World}{a:Option Addr}{n:Nat}{Z:Nat→Int}(h:zAv w a n Z)(hb:Below w.heap.size w w'):zAv w' a n Z:=by
 rcases h with h | ⟨b,off,e,hl,hz⟩
 ·exact .inl h
 ·exact .inr ⟨b,off,e,Nat.lt_of_lt_of_le hl hb.size,fun i hi=>(hb.cell (p:=⟨b,off+i,none⟩) hl).trans (hz i hi)⟩
def zKc (w:World)(b off n:Nat)(Z:Nat→Int):Prop:=∀ i,i<n→w.cell? ⟨b,off+i,none⟩=some (.int .i64 (Z i))
theorem zKc.below {w w':World}{b off n B:Nat}{Z:Nat→Int}(h:zKc w b off n Z)(hb:Below B w w')(hB:b<B):zKc w' b off n Z:=fun i hi=>(hb.cell (p:=⟨b,off+i,none⟩) hB).trans (h i hi)
theorem zKc.is {w:World}{b off n:Nat}{Z:Nat→Int}(h:zKc w b off n Z)(hb:b<w.heap.size):zAv w (some ⟨b,off,none⟩) n Z:=.inr ⟨b,off,rfl,hb,h⟩
theorem zD.setN {W:World}{r n:Nat}(h:zD W r n)(o:Nat)(v:Value):zD (W.setCell ⟨r,o,none⟩ v) r n:=fun o' ho=>by
 obtain ⟨u,hu⟩:=(h o' ho).1
 refine ⟨?_,?_⟩
 ·by_cases e:o=o'
  ·subst e
   exact ⟨v,World.cell?_setCell_same _ _ _ (by rw [hu])⟩
  ·exact ⟨u,by rw [World.cell?_setCell_other];exact hu;simp [e]⟩
 ·rw [World.frozen?_setCell];exact (h o' ho).2
theorem fillN {W:World}{B n k:Nat}{Z:Nat→Int}(hT:zD W B n)(hk:k<n)(hp:zKc W B 0 k Z):zKc (W.setCell ⟨B,k,none⟩ (.int .i64 (Z k))) B 0 (k+1) Z:=fun i hi=>by
 by_cases e:i=k
 ·subst e
  obtain ⟨u,hu⟩:=(hT i hk).1
  simpa using World.cell?_setCell_same _ _ _ (by rw [hu])
 ·rw [World.cell?_setCell_other]
  ·exact hp i (by omega)
  ·simp <;> omega
theorem zF2 (a c:Option Addr)(n capa capc:Nat)(Z:Nat→Int)(w:World)(hp:zAv w a n Z)(hq:zAv w c n Z)(hmax:n≤1048576) :
  Calls Tryz.prog 177 #[.slice a n capa,.slice c n capc] w fun e w'=>e=.returned (.bool true)∧Bw w w':=by
 have HP:Hid (zAv w a n Z):=hp
 have HQ:Hid (zAv w c n Z):=hq
 clear hp hq
 go_enter Tryz.func177,Tryz.ntmps177
 go_wp2
 go_loopw [5] (fun i wr=>∃ k:Nat,k≤n∧i=.int .i64 k∧Bw w wr) (fun i _=>n - (intOf i).toNat)
 case atStart=>exact ⟨0,by omega,rfl,Below.refl _ _⟩
 case round =>
  obtain ⟨k,hk,rfl,hB⟩:=hrel
  by_cases hlt:k<n
  ·rcases HP.out with h0 | ⟨b,off,rfl,hbl,hpt⟩
   ·omega
   rcases HQ.out with h0 | ⟨d,offd,rfl,hdl,hqt⟩
   ·omega
   have c0:∀ W',Bw wr W'→W'.cell? ⟨b,off+k,none⟩=some (.int .i64 (Z k)):=fun W' h=>by
    rw [h.cell (Nat.lt_of_lt_of_le hbl hB.size)];exact (hB.cell (p:=⟨b,off+k,none⟩) hbl).trans (hpt k hlt)
   have e0:∀ W',Bw wr W'→W'.cell? ⟨d,offd+k,none⟩=some (.int .i64 (Z k)):=fun W' h=>by
    rw [h.cell (Nat.lt_of_lt_of_le hdl hB.size)];exact (hB.cell (p:=⟨d,offd+k,none⟩) hdl).trans (hqt k hlt)
   have HB:Hid (Bw w wr):=hB
   clear hB hpt hqt
   have hi:(k:Int)<(n:Int):=by omega
   have hi0:(0:Int)≤(k:Int):=by omega
   go_wp2
   go_region_held3 (fun W'=>Bw wr W') ((repeat (first|exact Qr _ _|assumption|refine Qd ?_|refine Qa ?_ _|refine Qt ?_|refine Qs ?_ _|refine Qo ?_ ?_ _ _))) (fail)
   go_wp2
   go_roundw
   case rel=>exact ⟨k+1,by omega,by go_num,zA HB.out (by assumption)⟩
   case measure=>simp [intOf];omega
  ·go_wp2
   go_ret
   exact ⟨rfl,hB⟩
def OwnN (w:World)(base:Nat)(v:Value)(n:Nat)(Z:Nat→Int):Prop :=
 ∃ a cap,v=.slice a n cap∧n≤cap∧(n=0∨∃ b,a=some ⟨b,0,none⟩∧base≤b∧b<w.heap.size∧zKc w b 0 n Z∧zD w b n)
theorem OwnN.pts {w:World}{base:Nat}{v:Value}{n:Nat}{Z:Nat→Int}(h:OwnN w base v n Z):∃ a cap,v=.slice a n cap∧n≤cap∧zAv w a n Z:=by
 obtain ⟨a,cap,hv,hc,h0 | ⟨b,ha,hb,hl,hp,ht⟩⟩:=h
 ·exact ⟨a,cap,hv,hc,.inl h0⟩
 ·exact ⟨a,cap,hv,hc,.inr ⟨b,0,ha,hl,hp⟩⟩
def yE (c:Nat→Int):Nat→Nat→Int
 | _,0=>0
 | i,k+1=>if c i≠0 then c i else yE c (i+1) k
theorem zP (c:Nat→Int):∀ (m i k:Nat),(∀ j,i≤j→j<k→c j=0)→i≤k→k<i+m→c k≠0→yE c i m=c k
 | 0,i,k,_,h1,h2,_=>by omega
 | m+1,i,k,h,h1,h2,hne=>by
  rw [yE]
  by_cases e:i=k
  ·subst e;rw [if_pos hne]
  ·rw [if_neg (by rw [h i (Nat.le_refl _) (by omega)];simp)]
   exact zP c m (i+1) k (fun j hj=>h j (by omega)) (by omega) (by omega) hne
theorem yG (c:Nat→Int):∀ (m i:Nat),(∀ j,i≤j→j<i+m→c j=0)→yE c i m=0
 | 0,_,_=>rfl
 | m+1,i,h=>by
  rw [yE,if_neg (by rw [h i (Nat.le_refl _) (by omega)];simp)]
  exact yG c m (i+1) (fun j hj hj'=>h j (by omega) (by omega))
theorem zDa (c d:Nat→Int):∀ (m i:Nat),(∀ j,i≤j→j<i+m→c j=d j)→yE c i m=yE d i m
 | 0,_,_=>rfl
 | m+1,i,h=>by
  rw [yE,yE,h i (Nat.le_refl _) (by omega),zDa c d m (i+1) (fun j hj hj'=>h j (by omega) (by omega))]
theorem zE9 (c:Nat→Int):∀ (m i:Nat),yE c i m=0→∀ j,i≤j→j<i+m→c j=0
 | 0,i,_,j,h1,h2=>by omega
 | m+1,i,h,j,h1,h2=>by
  rw [yE] at h
  by_cases hc:c i≠0
  ·rw [if_pos hc] at h;exact absurd h hc
  ·rw [if_neg hc] at h
   by_cases e:j=i
   ·subst e;simpa using hc
   ·exact zE9 c m (i+1) h j (by omega) (by omega)
def zOf (I : Nat → Int) (n : Nat) : Prop := ∀ i j, i < n → j < n → I i = I j → i = j
def cmpI (x y:Int):Int:=if x<y then -1 else if y<x then 1 else 0
theorem uS (x y:Int)(w:World):Calls Tryz.prog 228 #[.int .i64 x,.int .i64 y] w fun e w'=>e=.returned (.int .i64 (cmpI x y))∧w'=w:=by
 unfold cmpI
 by_cases h1:x<y
 ·rw [if_pos h1]
  go_enter Tryz.func228,Tryz.ntmps228
  go_wp2
  go_ret
  exact ⟨rfl,rfl⟩
 ·rw [if_neg h1]
  by_cases h2:y<x
  ·rw [if_pos h2]
   go_enter Tryz.func228,Tryz.ntmps228
   go_wp2
   go_ret
   exact ⟨rfl,rfl⟩
  ·rw [if_neg h2]
   go_enter Tryz.func228,Tryz.ntmps228
   go_wp2
   go_ret
   exact ⟨rfl,rfl⟩
def Gro (V W':World):Prop:=Bw V W'∧V.drawn≤W'.drawn
theorem Gro.refl (V:World):Gro V V:=⟨Below.refl _ _,Nat.le_refl _⟩
theorem Gro.trans {a b c:World}(h:Gro a b)(k:Gro b c):Gro a c:=⟨zA h.1 k.1,Nat.le_trans h.2 k.2⟩
theorem Gro.alloc {a b:World}(h:Gro a b)(o:Obj):Gro a (b.alloc o):=⟨xA h.1 o,h.2⟩
theorem Gro.drew {a b:World}(h:Gro a b):Gro a b.drew:=⟨h.1.drew,Nat.le_trans h.2 (Nat.le_succ _)⟩
structure vC (lo hi:Nat) (w w':World):Prop where
 os:w'.os=w.os
 tape:w'.tape=w.tape
 output:w'.output=w.output
 size:w.heap.size≤w'.heap.size
 block:∀ k,k<w.heap.size→(k<lo∨hi≤k)→w'.heap[k]?=w.heap[k]?
theorem vC.refl (lo hi:Nat)(w:World):vC lo hi w w:=⟨rfl,rfl,rfl,Nat.le_refl _,fun _ _ _=>rfl⟩
theorem vC.trans {lo hi:Nat}{a b c:World}(h:vC lo hi a b)(k:vC lo hi b c):vC lo hi a c :=
 ⟨k.os.trans h.os,k.tape.trans h.tape,k.output.trans h.output,Nat.le_trans h.size k.size,fun i hi ho=>(k.block i (Nat.lt_of_lt_of_le hi h.size) ho).trans (h.block i hi ho)⟩
theorem vC.of_grown {lo hi s:Nat}{a b:World}(h:a.grownBy b (some s))(h1:lo≤s)(h2:s<hi):vC lo hi a b :=
 ⟨h.os,h.tape,h.output,h.size,fun j hj ho=>h.block j hj (fun e=>by injection e with e;omega)⟩
theorem vC.set {lo hi s:Nat}{a b:World}(h:vC lo hi a b)(h1:lo≤s)(h2:s<hi)(o:Nat)(v:Value):vC lo hi a (b.setCell ⟨s,o,none⟩ v) :=
 h.trans ⟨rfl,rfl,rfl,by simp [World.setCell],fun j _ ho=>Below.heap_setCell _ _ _ _ (fun e=>by simp at e;omega)⟩
theorem vC.below {lo hi:Nat}{a b:World}(h:vC lo hi a b)(hl:lo≤a.heap.size):Below lo a b:=⟨h.os,h.tape,h.output,h.size,fun k hk=>h.block k (by omega) (.inl hk)⟩
theorem vC.cell {lo hi:Nat}{a b:World}(h:vC lo hi a b){p o:Nat}{v:Value}(hc:a.cell? ⟨p,o,none⟩=some v)(ho:p<lo∨hi≤p):b.cell? ⟨p,o,none⟩=some v:=by
 have hp:=World.block_lt_of_cell? _ _ hc
 have he:=h.block p hp ho
 unfold World.cell? at hc ⊢
 simp only [he]
 exact hc

theorem zHu (n:Nat)(a b c a' b' c':Int)(w:World):(Op.equalIn (n+2) 104 (.agg #[.int .i64 a,.int .i64 b,.int .i64 c]) (.agg #[.int .i64 a',.int .i64 b',.int .i64 c'])).run Tryz.prog w=.ok ((a == a') && ((b == b') && (c == c'))) w:=by
 have hp0:∀ (x y z:Int) (w:World),(part 2 #[.int .i64 x,.int .i64 y,.int .i64 z] 0).run Tryz.prog w=.ok (.int .i64 x) w:=fun _ _ _ _=>by kernel_rfl
 have hp1:∀ (x y z:Int) (w:World),(part 2 #[.int .i64 x,.int .i64 y,.int .i64 z] 1).run Tryz.prog w=.ok (.int .i64 y) w:=fun _ _ _ _=>by kernel_rfl
 have hp2:∀ (x y z:Int) (w:World),(part 2 #[.int .i64 x,.int .i64 y,.int .i64 z] 2).run Tryz.prog w=.ok (.int .i64 z) w:=fun _ _ _ _=>by kernel_rfl
 have hi:=fun (a b:Int) (w:World)=>run_equalIn_int (P:=Tryz.prog) w n 2 .i64 .i64 a b Tryz.underlying2
 rw [run_equalIn_struct w (n+1) 104 _ _ (by kernel_rfl) (by kernel_rfl)]
 simp [Op.eqFields,Program.fieldsOf,Tryz.underlying104,hp0,hp1,hp2,hi]
 by_cases h1:a=a' <;> by_cases h2:b=b' <;> by_cases h3:c=c' <;> simp [h1,h2,h3]
theorem zCe (a b c a' b' c':Int)(w:World):(binOp .eql 104 (.agg #[.int .i64 a,.int .i64 b,.int .i64 c]) (.agg #[.int .i64 a',.int .i64 b',.int .i64 c'])).run Tryz.prog w=.ok (.bool ((a == a') && ((b == b') && (c == c')))) w:=by
 rw [run_eql_struct,zHu 9998]
 rfl
theorem zMv (a b c a' b' c':Int):((a == a') && ((b == b') && (c == c')))=((a' == a) && ((b' == b) && (c' == c))):=by
 rw [Bool.eq_iff_iff]
 simp
 constructor <;> (rintro ⟨h1,h2,h3⟩;exact ⟨h1.symm,h2.symm,h3.symm⟩)
section
variable {P:Program} {ops:Array Oper} {Q:Exit→Act→World→Prop} {md:Region.Mode} {S:World→Prop} {z:Nat}
def vT (P:Program)(md:Region.Mode)(ops:Array Oper)(Q:Exit→Act→World→Prop)(S:World→Prop)(z:Nat):Nat→Array Bool→Act→World→Prop
 | 0,listed,a,w=>Region.ready md ops listed=[]∧Q .normal a w
 | fuel+1,listed,a,w =>
  (Region.ready md ops listed=[]→Q .normal a w) ∧
  ∀ i ∈ Region.ready md ops listed,wpOp P ops Q i (fun a' w'=>(i≠z→S w')∧vT P md ops Q S z fuel (listed.setIfInBounds i true) a' w') a w
theorem zC5:∀ (fuel:Nat) (listed:Array Bool) (a:Act) (w:World),vT P md ops Q S z fuel listed a w→wpAny P md ops Q fuel listed a w
 | 0,_,_,_,h=>h
 | fuel+1,_,_,_,h=>⟨h.1,fun i hi=>wpOp_mono (fun a' w' h'=>zC5 fuel _ a' w' h'.2) (h.2 i hi)⟩
def zAh (md:Region.Mode)(ops:Array Oper)(z i:Nat):Bool:=((ops[z]?).map (·.after.any fun e=>Region.binds md e && (e.on == i))).getD false
theorem zLe {i:Nat}{listed:Array Bool}(hw:zAh md ops z i=true)(hi:listed.getD i true=false):¬ z ∈ Region.ready md ops listed:=by
 intro hz
 obtain ⟨_,oz,hoz,hall⟩:=mem_ready.1 hz
 unfold zAh at hw
 rw [hoz] at hw
 simp only [Option.map_some,Option.getD_some,Array.any_eq_true] at hw
 obtain ⟨k,hk,he⟩:=hw
 rw [Bool.and_eq_true,beq_iff_eq] at he
 have h1:=hall _ (Array.getElem_mem hk) he.1
 rw [he.2] at h1
 rcases Nat.lt_or_ge i listed.size with h' | h'
 ·simp [h'] at hi h1;rw [hi] at h1;cases h1
 ·simp [Array.getElem?_eq_none h'] at h1
theorem zEx {i:Nat}{oi:Oper}{v:Value}(hi:ops[i]?=some oi)(hsel:∀ (j:Nat) (o:Oper) cs b,ops[j]?=some o→o.op≠.select cs b)(hQ:∀ c a w,Q (.panic c) (a.put oi.dst v) w→Q (.panic c) a w)(hwz:zAh md ops z i=true) :
  ∀ (fuel:Nat) (listed:Array Bool) (a:Act) (w:World),
   (∀ j oj,ops[j]?=some oj→j≠i→listed.getD j true=false→(∀ e ∈ oj.after,Region.binds md e=true→e.on≠i)→oi.apart ops oj=true) →
   i ∈ Region.ready md ops listed→YieldsIf P ops S oi v a→S w →
   vT P md ops Q S z fuel (listed.setIfInBounds i true) (a.put oi.dst v) w→vT P md ops Q S z (fuel+1) listed a w:=by
 intro fuel
 induction fuel with
 | zero =>
  intro listed a w _ hr hy hS H
  refine ⟨fun h=>(by rw [h] at hr;cases hr),fun j hj=>?_⟩
  by_cases hji:j=i
  ·subst hji;exact hy.wpOp hi hS ⟨fun _=>hS,H⟩
  ·have:=ready_mono hj hji
   rw [H.1] at this
   cases this
 | succ fuel ih =>
  intro listed a w hfree hr hy hS H
  refine ⟨fun h=>(by rw [h] at hr;cases hr),fun j hj=>?_⟩
  by_cases hji:j=i
  ·subst hji;exact hy.wpOp hi hS ⟨fun _=>hS,H⟩
  ·have hjz:j≠z:=fun e=>zLe hwz (mem_ready.1 hr).1 (e ▸ hj)
   have h1:=H.2 j (ready_mono hj hji)
   obtain ⟨hjun,oj,hoj,hall⟩:=mem_ready.1 hj
   have hnot:∀ e ∈ oj.after,Region.binds md e=true→e.on≠i:=fun e he hb heq=>by
    have h1:=hall e he hb
    have h0:=(mem_ready.1 hr).1
    rw [heq] at h1
    rcases Nat.lt_or_ge i listed.size with h' | h'
    ·simp [h'] at h0 h1;rw [h0] at h1;cases h1
    ·simp [Array.getElem?_eq_none h'] at h1
   have h2:=wpOp_putIf hoj (hfree j oj hoj hji hjun hnot) (fun cs b=>hsel i oi cs b hi) (fun cs b=>hsel j oj cs b hoj) hQ hy h1
   have hfree':∀ k ok,ops[k]?=some ok→k≠i→(listed.setIfInBounds j true).getD k true=false →
     (∀ e ∈ ok.after,Region.binds md e=true→e.on≠i)→oi.apart ops ok=true:=fun k ok hk hki hun hno=>by
    refine hfree k ok hk hki ?_ hno
    by_cases hjk:j=k
    ·subst hjk;exact hjun
    ·rw [getD_set_ne true hjk] at hun;exact hun
   refine wpOp_mono (fun a' w' h3=>⟨h3.2.1,ih (listed.setIfInBounds j true) a' w' hfree' (ready_mono hr (Ne.symm hji)) h3.1 (h3.2.1 hjz) ?_⟩) h2
   rw [Array.setIfInBounds_comm _ _ hji]
   exact h3.2.2
theorem zGo {i:Nat}{oi:Oper}{v:Value}{fuel:Nat}{listed:Array Bool}{a:Act}{w:World}(hi:ops[i]?=some oi)(hs:Region.noSelect ops=true)(hf:Region.free md ops listed i=true)(hr:(Region.ready md ops listed).contains i=true)(hwz:zAh md ops z i=true)(hQ:∀ c a w,Q (.panic c) (a.put oi.dst v) w→Q (.panic c) a w)(hy:YieldsIf P ops S oi v a)(hS:S w)(h:vT P md ops Q S z fuel (listed.setIfInBounds i true) (a.put oi.dst v) w):vT P md ops Q S z (fuel+1) listed a w :=
 zEx hi (Region.noSelect_spec hs) hQ hwz fuel listed a w (Region.free_spec hi hf) (by simpa using hr) hy hS h
theorem takeL {i:Nat}{oi:Oper}{v:Value}{fuel:Nat}{listed:Array Bool}{a:Act}{w:World}(hi:ops[i]?=some oi)(hS:S w)(h:vT P md ops Q S z fuel (listed.setIfInBounds i true) (a.put oi.dst v) w)(hs:Region.noSelect ops=true:=by kernel_rfl)(hf:Region.free md ops listed i=true:=by kernel_rfl)(hr:(Region.ready md ops listed).contains i=true:=by kernel_rfl)(hwz:zAh md ops z i=true:=by kernel_rfl)(hQ:∀ c a w,Q (.panic c) (a.put oi.dst v) w→Q (.panic c) a w:=by exact fun _ _ _ h=>h)(hy:YieldsIf P ops S oi v a:=by exact Or.inl ⟨by rfl,by (intro w hSw;(try dsimp only at hSw);go_simp <;> with_reducible rfl)⟩):vT P md ops Q S z (fuel+1) listed a w:=zGo hi hs hf hr hwz hQ hy hS h
theorem uI {i:Nat}{o:Oper}{fuel:Nat}{listed:Array Bool}{a:Act}{w:World}(hr:Region.ready md ops listed=[i])(ho:ops[i]?=some o)(h:∀ K':Act→World→Prop,Shut (∀ a w,(i≠z→S w)→vT P md ops Q S z fuel (listed.setIfInBounds i true) a w→K' a w)→if Region.wanted o (yielded ops a.tmps)=true then Oper.wp P o a w K' Q else K' (a.put o.dst undef) w) :
  vT P md ops Q S z (fuel+1) listed a w:=by
 refine ⟨fun h0=>(by rw [hr] at h0;cases h0),fun j hj=>?_⟩
 rw [hr] at hj
 obtain rfl:j=i:=by simpa using hj
 exact wpOp_step ho (fun K' hK=>h K' (fun a w hS hW=>hK a w ⟨hS,hW⟩))
theorem zGp {listed:Array Bool}{a:Act}{w:World}(hr:Region.ready md ops listed=[])(h:Q .normal a w) :
  ∀ fuel,vT P md ops Q S z fuel listed a w
 | 0=>⟨hr,h⟩
 | _+1=>⟨fun _=>h,by rw [hr];simp⟩
theorem zGn {id:Nat}{a:Act}{w:World}(hm:P.follows .mixedOrders=true)(h:vT P .any ops Q S z ops.size (Array.replicate ops.size false) a w.drew):(Code.region id ops true).wp P Q a w :=
 wp_region_any hm (zC5 _ _ _ _ h)
end
end Go.Proofs.YtkjbafcalamgnaaGreat
