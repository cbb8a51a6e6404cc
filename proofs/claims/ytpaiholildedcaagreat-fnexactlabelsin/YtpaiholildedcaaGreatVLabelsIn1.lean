/- Texts. -/
import Derived.Test.YtpaiholildedcaaGreatRows
import Derived.WalkSpells
import Derived.WalkLawsBesides
import Derived.Deep.RegionHeld3
import Derived.Deep.OwnRows
import Derived.Deep.LoopGhost
set_option linter.unusedSimpArgs false
set_option linter.unusedVariables false
set_option maxRecDepth 100000
set_option maxHeartbeats 32000000
namespace Go.Proofs.YtpaiholildedcaaGreat
open Go.RowKit
def inB (v lo hi:Int):Bool:=decide (lo≤v) && decide (v≤hi)
def okP (x y:Int):Bool:=inB x (-1024) 4096 && inB y (-1024) 4096
theorem zG5 (x y:Int):okP x y=true ↔ (-1024≤x∧x≤4096)∧(-1024≤y∧y≤4096):=by
 simp [okP,inB]
def zHz (x y:Int):Int:=if okP x y=true then 0 else 3
theorem zHy {x y:Int}(h:okP x y=true):zHz x y=0:=by simp [zHz,h]
theorem zMg {x y:Int}(h:okP x y=false):zHz x y=3:=by simp [zHz,h]
theorem xA {x y:Int}(h:okP x y=true):(-1024≤x∧x≤4096)∧(-1024≤y∧y≤4096):=(zG5 x y).1 h
theorem xL {a b B C:Int}(ha:-B≤a)(ha':a≤B)(hb:-C≤b)(hb':b≤C)(hB:0≤B):-(B * C)≤a * b∧a * b≤B * C:=by
 have h1:a.natAbs≤B.natAbs:=by omega
 have h2:b.natAbs≤C.natAbs:=by omega
 have h3:(a * b).natAbs≤B.natAbs * C.natAbs:=by rw [Int.natAbs_mul];exact Nat.mul_le_mul h1 h2
 have h4:((B.natAbs * C.natAbs:Nat):Int)=B * C:=by rw [Int.natCast_mul,Int.natAbs_of_nonneg hB,Int.natAbs_of_nonneg (by omega)]
 omega
theorem zA {wr W w':World}(hS:Below wr.heap.size wr W)(hb:Below W.heap.size W w'):Below wr.heap.size wr w':=hS.trans (hb.mono hS.size)
theorem zSy {wr W V:World}(hS:Below wr.heap.size wr W)(hV:Below wr.heap.size wr V)(o:Nat)(u:Value):Below wr.heap.size wr (W.setCell ⟨V.heap.size,o,none⟩ u):=hS.setCell hV.size u
theorem xD {wr W:World}(hS:Below wr.heap.size wr W)(o:Obj):Below wr.heap.size wr (W.alloc o):=hS.alloc hS.size o
abbrev Bw (w v:World):Prop:=Below w.heap.size w v
theorem Qc {X W:World}{p:Addr}{v:Option Value}(e:X=W)(hl:p.block<X.heap.size:=by simp <;> omega)(hc:X.cell? p=v:=by simp [go_sem]):∀ W',Below W.heap.size W W'→W'.cell? p=v:=fun W' h=>by
 subst e
 rw [h.cell hl]
 exact hc
theorem Qf {X W:World}{p:Addr}{v:Bool}(e:X=W)(hl:p.block<X.heap.size:=by simp <;> omega)(hc:X.frozen? p=v:=by simp [go_sem]):∀ W',Below W.heap.size W W'→W'.frozen? p=v:=fun W' h=>by
 subst e
 rw [h.frozen hl]
 exact hc
theorem Qr (b:Nat)(w:World):Below b w w:=Below.refl b w
theorem Qd {b:Nat}{w v:World}(h:Below b w v):Below b w v.drew:=Below.drew h
theorem Qa {r W:World}(h:Below r.heap.size r W)(o:Obj):Below r.heap.size r (W.alloc o):=xD h o
theorem Qt {r W v:World}(h:Below r.heap.size r W)(k:Below W.heap.size W v:=by assumption):Below r.heap.size r v:=zA h k
theorem Qs {b:Nat}{w v:World}{p:Addr}(h:Below b w v)(u:Value)(k:b≤p.block:=by first | omega | (simp;done) | (simp;omega)):Below b w (v.setCell p u):=Below.setCell h k u
theorem Qo {r W V:World}(h:Below r.heap.size r W)(k:Below r.heap.size r V)(o:Nat)(u:Value):Below r.heap.size r (W.setCell ⟨V.heap.size,o,none⟩ u):=zSy h k o u
theorem Qx {α:Type}(l:List α)(i:Nat)(a:α):l.toArray.setIfInBounds i a=(l.set i a).toArray:=List.setIfInBounds_toArray l i a
theorem Qy {α:Type}{x:α}{l:List α}{a:α}:(x :: l).set 0 a=a :: l:=rfl
theorem Qz {α:Type}{x:α}{l:List α}{i:Nat}{a:α}:(x :: l).set (i+1) a=x :: l.set i a:=rfl
theorem Qb {p:Prop}(h:p:=by (repeat (first|exact Qr _ _|assumption|refine Qd ?_|refine Qa ?_ _|refine Qt ?_|refine Qs ?_ _|refine Qo ?_ ?_ _ _))):p:=h
theorem zE {k:IntKind}{a b:Int}(h:a=b):Ending.returned (.int k a)=.returned (.int k b):=by rw [h]
theorem zF {a b:Bool}(h:a=b):Ending.returned (.bool a)=.returned (.bool b):=by rw [h]
def yA (ax ay bx by' cx cy:Int):Int:=(bx - ax) * (cy - ay) - (by' - ay) * (cx - ax)
def yZ (ax ay bx by':Int):Int:=(bx - ax) * (bx - ax)+(by' - ay) * (by' - ay)
theorem zO (v lo hi:Int)(w:World):Calls Tryz.prog 32 #[.int .i64 v,.int .i64 lo,.int .i64 hi] w fun e w'=>e=.returned (.bool (inB v lo hi))∧w'=w:=by
 unfold inB
 go_enter Tryz.func32,Tryz.ntmps32
 by_cases h1:lo≤v
 ·go_wp2
  all_goals (go_ret;exact ⟨zF (by simp [h1]),rfl⟩)
 ·have h2:decide (lo≤v)=false:=by simpa using h1
  go_wp2
  all_goals (go_ret;exact ⟨zF (by simp [h1]),rfl⟩)
abbrev zRg (x y:Int)(w:World):World:=((w.alloc (.cells #[.int .i64 x,.int .i64 y] 356)).alloc (.cells #[.int .i64 x,.int .i64 y] 215)).alloc (.cells #[.int .i64 x,.int .i64 y] 215)
theorem zMy (x y:Int)(w:World):Calls Tryz.prog 298 #[.agg #[.int .i64 x,.int .i64 y]] w fun e w'=>e=.returned (.agg #[.int .i64 x,.int .i64 y])∧zRg x y w=w':=by
 go_enter Tryz.func298,Tryz.ntmps298
 go_wp2
 exact bodyPost_ret (v:=.agg #[.int .i64 x,.int .i64 y]) (by simp [results,Tryz.results298,go_sem]) rfl ⟨rfl,rfl⟩
theorem zKe (x y:Int)(w:World):Calls Tryz.prog 298 #[.agg #[.int .i64 x,.int .i64 y]] w fun e w'=>e=.returned (.agg #[.int .i64 x,.int .i64 y])∧Bw w w' :=
 (zMy x y w).mono fun e w' ⟨he,hw⟩=>⟨he,by subst hw;exact Qb⟩
abbrev pairOfW (x y:Int)(w:World):World:=(w.alloc (.cells #[.int .i64 x,.int .i64 y] 215)).alloc (.cells #[.int .i64 x,.int .i64 y] 361)
theorem zPj (x y:Int)(w:World):Calls Tryz.prog 302 #[.agg #[.int .i64 x,.int .i64 y]] w fun e w'=>e=.returned (.agg #[.int .i64 x,.int .i64 y])∧pairOfW x y w=w':=by
 go_enter Tryz.func302,Tryz.ntmps302
 go_wp2
 exact bodyPost_ret (v:=.agg #[.int .i64 x,.int .i64 y]) (by simp [results,Tryz.results302,go_sem]) rfl ⟨rfl,rfl⟩
theorem uO (x y:Int)(w:World):Calls Tryz.prog 302 #[.agg #[.int .i64 x,.int .i64 y]] w fun e w'=>e=.returned (.agg #[.int .i64 x,.int .i64 y])∧Bw w w' :=
 (zPj x y w).mono fun e w' ⟨he,hw⟩=>⟨he,by subst hw;exact Qb⟩
theorem xC (x y:Int)(w:World):Calls Tryz.prog 300 #[.agg #[.int .i64 x,.int .i64 y]] w fun e w'=>e=.returned (.int .i64 (zHz x y))∧Bw w w':=by
 have i0:∀ w,(Instr.index 361 (.agg #[.int .i64 x,.int .i64 y]) (.int .i64 0)).run Tryz.prog w=.ok (.int .i64 x) w:=fun _=>by kernel_rfl
 have i1:∀ w,(Instr.index 361 (.agg #[.int .i64 x,.int .i64 y]) (.int .i64 1)).run Tryz.prog w=.ok (.int .i64 y) w:=fun _=>by kernel_rfl
 have hk:Hid (zHz x y=if (-1024≤x∧x≤4096)∧(-1024≤y∧y≤4096) then 0 else 3):=by
  show _=_
  unfold zHz
  simp only [zG5]
 go_enter Tryz.func300,Tryz.ntmps300
 go_wp2_with (go_at_call 302;refine (uO _ _ _).mono ?_;rintro e w' ⟨rfl,hb1⟩)
 have hB:Hid (Bw w w'):=by
  show Below _ _ _
  exact Qb
 clear hb1
 go_loop [7] (fun i=>∃ k:Nat,k≤2∧i=.int .i64 k∧(1≤k→-1024≤x∧x≤4096)∧(2≤k→-1024≤y∧y≤4096)) (fun i=>2 - (intOf i).toNat)
 case atStart=>exact ⟨0,by omega,rfl,by omega,by omega⟩
 case round =>
  obtain ⟨k,hk2,rfl,hx,hy⟩:=hrel
  have hcase:k=0∨k=1∨k=2:=by omega
  rcases hcase with rfl | rfl | rfl
  ·clear hx hy
   by_cases h1:x < -1024
   ·go_wp2
    go_ret
    exact ⟨zE (by rw [hk.out];simp;omega),hB.out⟩
   ·have h1':decide (x < -1024)=false:=by simpa using h1
    go_wp2
    ·go_ret
     exact ⟨zE (by rw [hk.out];simp;omega),hB.out⟩
    ·go_round
     case rel=>exact ⟨1,by omega,rfl,by omega,by omega⟩
     case measure=>simp [intOf]
  ·have hx':=hx (by omega)
   clear hx hy
   by_cases h1:y < -1024
   ·go_wp2
    go_ret
    exact ⟨zE (by rw [hk.out];simp;omega),hB.out⟩
   ·have h1':decide (y < -1024)=false:=by simpa using h1
    go_wp2
    ·go_ret
     exact ⟨zE (by rw [hk.out];simp;omega),hB.out⟩
    ·go_round
     case rel=>exact ⟨2,by omega,rfl,by omega,by omega⟩
     case measure=>simp [intOf]
  ·have hx':=hx (by omega)
   have hy':=hy (by omega)
   clear hx hy
   go_wp2
   go_ret
   exact ⟨zE (by rw [hk.out,if_pos ⟨hx',hy'⟩]),hB.out⟩
theorem zBl (ax ay bx by' cx cy:Int)(w:World)(ha:okP ax ay=true)(hb:okP bx by'=true)(hc:okP cx cy=true) :
  Calls Tryz.prog 287 #[.agg #[.int .i64 ax,.int .i64 ay],.agg #[.int .i64 bx,.int .i64 by'],.agg #[.int .i64 cx,.int .i64 cy]] w fun e w'=>e=.returned (.int .i64 (yA ax ay bx by' cx cy))∧Bw w w':=by
 obtain ⟨⟨a1,a2⟩,a3,a4⟩:=xA ha
 obtain ⟨⟨b1,b2⟩,b3,b4⟩:=xA hb
 obtain ⟨⟨c1,c2⟩,c3,c4⟩:=xA hc
 clear ha hb hc
 unfold yA
 obtain ⟨p1,p2⟩:=xL (a:=bx - ax) (b:=cy - ay) (B:=5120) (C:=5120) (by omega) (by omega) (by omega) (by omega) (by omega)
 obtain ⟨q1,q2⟩:=xL (a:=by' - ay) (b:=cx - ax) (B:=5120) (C:=5120) (by omega) (by omega) (by omega) (by omega) (by omega)
 go_enter Tryz.func287,Tryz.ntmps287
 go_wp2
 go_ret
 exact ⟨rfl,Qb⟩
theorem uH (ax ay bx by':Int)(w:World)(ha:okP ax ay=true)(hb:okP bx by'=true) :
  Calls Tryz.prog 286 #[.agg #[.int .i64 ax,.int .i64 ay],.agg #[.int .i64 bx,.int .i64 by']] w fun e w'=>e=.returned (.int .i64 (yZ ax ay bx by'))∧Bw w w':=by
 obtain ⟨⟨a1,a2⟩,a3,a4⟩:=xA ha
 obtain ⟨⟨b1,b2⟩,b3,b4⟩:=xA hb
 clear ha hb
 have hd:Hid (yZ ax ay bx by'=(ax - bx) * (ax - bx)+(ay - by') * (ay - by')):=by
  show _=_
  unfold yZ
  rw [← Int.neg_sub ax bx,← Int.neg_sub ay by',Int.neg_mul_neg,Int.neg_mul_neg]
 obtain ⟨p1,p2⟩:=xL (a:=ax - bx) (b:=ax - bx) (B:=5120) (C:=5120) (by omega) (by omega) (by omega) (by omega) (by omega)
 obtain ⟨q1,q2⟩:=xL (a:=ay - by') (b:=ay - by') (B:=5120) (C:=5120) (by omega) (by omega) (by omega) (by omega) (by omega)
 go_enter Tryz.func286,Tryz.ntmps286
 go_wp2
 go_ret
 exact ⟨zE hd.out.symm,Qb⟩
def Df (x y:Int):Prop:=(-5120≤x∧x≤5120)∧(-5120≤y∧y≤5120)
theorem xI (ax ay bx by':Int)(w:World)(ha:okP ax ay=true)(hb:okP bx by'=true) :
  Calls Tryz.prog 308 #[.agg #[.int .i64 ax,.int .i64 ay],.agg #[.int .i64 bx,.int .i64 by']] w fun e w'=>e=.returned (.agg #[.int .i64 (bx - ax),.int .i64 (by' - ay)])∧Bw w w':=by
 obtain ⟨⟨a1,a2⟩,a3,a4⟩:=xA ha
 obtain ⟨⟨b1,b2⟩,b3,b4⟩:=xA hb
 clear ha hb
 go_enter Tryz.func308,Tryz.ntmps308
 go_wp2
 exact bodyPost_ret (v:=.agg #[.int .i64 (bx - ax),.int .i64 (by' - ay)]) (by simp [results,Tryz.results308,go_sem]) rfl ⟨rfl,Qb⟩
theorem zCe (ax ay bx by':Int)(w:World)(ha:Df ax ay)(hb:Df bx by') :
  Calls Tryz.prog 309 #[.agg #[.int .i64 ax,.int .i64 ay],.agg #[.int .i64 bx,.int .i64 by']] w fun e w'=>e=.returned (.int .i64 (ax * bx+ay * by'))∧Bw w w':=by
 obtain ⟨⟨a1,a2⟩,a3,a4⟩:=ha
 obtain ⟨⟨b1,b2⟩,b3,b4⟩:=hb
 obtain ⟨p1,p2⟩:=xL (a:=ax) (b:=bx) (B:=5120) (C:=5120) (by omega) (by omega) (by omega) (by omega) (by omega)
 obtain ⟨q1,q2⟩:=xL (a:=ay) (b:=by') (B:=5120) (C:=5120) (by omega) (by omega) (by omega) (by omega) (by omega)
 go_enter Tryz.func309,Tryz.ntmps309
 go_wp2
 go_ret
 exact ⟨rfl,Qb⟩
theorem xG (ax ay:Int)(w:World)(ha:Df ax ay) :
  Calls Tryz.prog 307 #[.agg #[.int .i64 ax,.int .i64 ay]] w fun e w'=>e=.returned (.int .i64 (ax * ax+ay * ay))∧Bw w w':=by
 have HA:Hid (Df ax ay):=ha
 clear ha
 go_enter Tryz.func307,Tryz.ntmps307
 go_wp2_with (go_at_call 309;refine (zCe _ _ _ _ _ HA.out HA.out).mono ?_;rintro e w' ⟨rfl,hb1⟩)
 go_ret
 exact ⟨rfl,Qb⟩
theorem zLm (ax ay:Int)(w:World) :
  Calls Tryz.prog 299 #[.agg #[.int .i64 ax,.int .i64 ay],.agg #[.int .i64 ax,.int .i64 ay]] w fun e w'=>e=.returned (.bool true)∧Bw w w':=by
 go_enter Tryz.func299,Tryz.ntmps299
 go_wp2
 go_ret
 exact ⟨rfl,Qb⟩
def zD (W:World)(r n:Nat):Prop:=∀ o,o<n→(∃ v,W.cell? ⟨r,o,none⟩=some v)∧W.frozen? ⟨r,o,none⟩=false
def zEz (W:World)(r o:Nat):Value:=(W.cell? ⟨r,o,none⟩).getD undef
theorem zD.cell {W:World}{r n:Nat}(h:zD W r n)(o:Nat)(ho:o<n):W.cell? ⟨r,o,none⟩=some (zEz W r o):=by
 obtain ⟨v,hv⟩:=(h o ho).1
 simp [zEz,hv]
theorem zD.below {W W':World}{r n:Nat}(h:zD W r n)(hb:Below W.heap.size W W'):zD W' r n:=fun o ho=>by
 obtain ⟨v,hv⟩:=(h o ho).1
 have hlt:r<W.heap.size:=World.block_lt_of_cell? W ⟨r,o,none⟩ hv
 exact ⟨⟨v,(hb.cell (p:=⟨r,o,none⟩) hlt).trans hv⟩,(hb.frozen (p:=⟨r,o,none⟩) hlt).trans (h o ho).2⟩
structure Reg (B:Nat) (W:World) (r n:Nat) (W':World):Prop where
 le:B≤W.heap.size
 bel:Below B W W'
 there:zD W' r n
theorem Reg.call {B r n:Nat}{W W1 w':World}(h:Reg B W r n W1)(hb:Below W1.heap.size W1 w'):Reg B W r n w' :=
 ⟨h.le,h.bel.trans (hb.mono (Nat.le_trans h.le h.bel.size)),h.there.below hb⟩
theorem Reg.drew {B r n:Nat}{W W1:World}(h:Reg B W r n W1):Reg B W r n W1.drew:=⟨h.le,h.bel.drew,h.there⟩
theorem Reg.start {B r n:Nat}{W:World}(hB:B≤W.heap.size)(ht:zD W r n):Reg B W r n W:=⟨hB,Below.refl _ _,ht⟩
theorem Reg.store {B r n:Nat}{W W1:World}(h:Reg B W r n W1)(hr:B≤r)(o:Nat)(v:Value):Reg B W r n (W1.setCell ⟨r,o,none⟩ v) :=
 ⟨h.le,h.bel.setCell hr v,fun o' ho=>by
  obtain ⟨u,hu⟩:=(h.there o' ho).1
  refine ⟨?_,?_⟩
  ·by_cases e:o=o'
   ·subst e
    exact ⟨v,World.cell?_setCell_same _ _ _ (by rw [hu])⟩
   ·exact ⟨u,by rw [World.cell?_setCell_other];exact hu;intro hc;exact e (by simpa using hc.symm)⟩
  ·rw [World.frozen?_setCell];exact (h.there o' ho).2⟩
theorem zS7 {W:World}{b:Nat}{v0 v1:Value}(h0:(W.cell? ⟨b,0,none⟩).isSome=true):((W.setCell ⟨b,0,none⟩ v0).setCell ⟨b,1,none⟩ v1).cell? ⟨b,0,none⟩=some v0:=by
 obtain ⟨u,hu⟩:=Option.isSome_iff_exists.1 h0
 rw [World.cell?_setCell_other]
 ·exact World.cell?_setCell_same _ _ _ (by rw [hu])
 ·simp
theorem zS6 {W:World}{b:Nat}{v0 v1:Value}(h1:(W.cell? ⟨b,1,none⟩).isSome=true):((W.setCell ⟨b,0,none⟩ v0).setCell ⟨b,1,none⟩ v1).cell? ⟨b,1,none⟩=some v1:=by
 obtain ⟨u,hu⟩:=Option.isSome_iff_exists.1 h1
 refine World.cell?_setCell_same (u:=u) _ _ _ ?_
 rw [World.cell?_setCell_other]
 ·exact hu
 ·simp
theorem zM (v lo hi:Int)(w:World):Calls Tryz.prog 62 #[.int .i64 v,.int .i64 lo,.int .i64 hi] w fun e w'=>e=.returned (.bool (inB v lo hi))∧w'=w:=by
 unfold inB
 go_enter Tryz.func62,Tryz.ntmps62
 by_cases h1:lo≤v
 ·go_wp2
  all_goals (go_ret;exact ⟨zF (by simp [h1]),rfl⟩)
 ·have h2:decide (lo≤v)=false:=by simpa using h1
  go_wp2
  all_goals (go_ret;exact ⟨zF (by simp [h1]),rfl⟩)
def inW (x y:Int):Bool:=inB x 0 1024 && inB y 0 1024
theorem yY (x y:Int)(w:World):Calls Tryz.prog 270 #[.agg #[.int .i64 x,.int .i64 y]] w fun e w'=>e=.returned (.bool (inW x y))∧Bw w w':=by
 unfold inW
 cases h1:inB x 0 1024 <;> cases h2:inB y 0 1024
 all_goals
  go_enter Tryz.func270,Tryz.ntmps270
  go_wp2_with (go_at_call 62;refine (zM _ _ _ _).mono ?_;rintro e w' ⟨rfl,rfl⟩)
  all_goals (go_ret;exact ⟨zF (by simp [h1,h2]),Qb⟩)
section
variable {P:Program} {ops:Array Oper} {Q:Exit→Act→World→Prop} {md:Region.Mode} {S:World→Prop}
theorem takeD {i:Nat}{d:Option Nat}{oi:Oper}{v:Value}{fuel:Nat}{listed:Array Bool}{a:Act}{w:World}(hi:ops[i]?=some oi)(hd:oi.dst=d)(hs:Region.noSelect ops=true)(hf:Region.free md ops listed i=true)(hr:(Region.ready md ops listed).contains i=true)(hQ:∀ c a w,Q (.panic c) (a.put oi.dst v) w→Q (.panic c) a w)(hy:YieldsIf P ops S oi v a)(hS:S w)(h:wpAnyH P md ops Q S fuel (listed.setIfInBounds i true) (a.put d v) w):wpAnyH P md ops Q S (fuel+1) listed a w :=
 wpAnyH_take hi hs hf hr hQ hy hS (hd ▸ h)
theorem passD {i:Nat}{d:Option Nat}{oi:Oper}{fuel:Nat}{listed:Array Bool}{a:Act}{w:World}(hi:ops[i]?=some oi)(hd:oi.dst=d)(hs:Region.noSelect ops=true)(hf:Region.free md ops listed i=true)(hr:(Region.ready md ops listed).contains i=true)(hQ:∀ c a w,Q (.panic c) (a.put oi.dst undef) w→Q (.panic c) a w)(hy:Region.wanted oi (yielded ops a.tmps)=false)(hS:S w)(h:wpAnyH P md ops Q S fuel (listed.setIfInBounds i true) (a.put d undef) w):wpAnyH P md ops Q S (fuel+1) listed a w :=
 wpAnyH_take hi hs hf hr hQ (.inr ⟨hy,rfl⟩) hS (hd ▸ h)
theorem vK {i:Nat}{d:Option Nat}{oi:Oper}{v:Value}{fuel:Nat}{listed:Array Bool}{a:Act}{w:World}(hi:ops[i]?=some oi)(hd:oi.dst=d)(hy:YieldsIf P ops S oi v a)(hS:S w)(h:wpAnyH P md ops Q S fuel (listed.setIfInBounds i true) (a.put d v) w)(hs:Region.noSelect ops=true:=by kernel_rfl)(hf:Region.free md ops listed i=true:=by kernel_rfl)(hr:(Region.ready md ops listed).contains i=true:=by kernel_rfl)(hQ:∀ c a w,Q (.panic c) (a.put oi.dst v) w→Q (.panic c) a w:=by exact fun _ _ _ h=>h):wpAnyH P md ops Q S (fuel+1) listed a w:=takeD hi hd hs hf hr hQ hy hS h
theorem zJ {i:Nat}{d:Option Nat}{oi:Oper}{fuel:Nat}{listed:Array Bool}{a:Act}{w:World}(hi:ops[i]?=some oi)(hd:oi.dst=d)(hy:Region.wanted oi (yielded ops a.tmps)=false)(hS:S w)(h:wpAnyH P md ops Q S fuel (listed.setIfInBounds i true) (a.put d undef) w)(hs:Region.noSelect ops=true:=by kernel_rfl)(hf:Region.free md ops listed i=true:=by kernel_rfl)(hr:(Region.ready md ops listed).contains i=true:=by kernel_rfl)(hQ:∀ c a w,Q (.panic c) (a.put oi.dst undef) w→Q (.panic c) a w:=by exact fun _ _ _ h=>h):wpAnyH P md ops Q S (fuel+1) listed a w:=passD hi hd hs hf hr hQ hy hS h
theorem zC {i:Nat}{d:Option Nat}{oi:Oper}{v:Value}{fuel:Nat}{listed:Array Bool}{a:Act}{w:World}(hi:ops[i]?=some oi)(hd:oi.dst=d)(h:wpAnyH P md ops Q S fuel (listed.setIfInBounds i true) (a.put d v) w)(hs:Region.noSelect ops=true:=by kernel_rfl)(hf:Region.free md ops listed i=true:=by kernel_rfl)(hr:(Region.ready md ops listed).contains i=true:=by kernel_rfl)(hQ:∀ c a w,Q (.panic c) (a.put oi.dst v) w→Q (.panic c) a w:=by exact fun _ _ _ h=>h)(hS:S w:=by assumption)(hy:YieldsIf P ops S oi v a:=by exact Or.inl ⟨by rfl,by (intro w hSw;(try dsimp only at hSw);go_simp <;> with_reducible rfl)⟩):wpAnyH P md ops Q S (fuel+1) listed a w:=takeD hi hd hs hf hr hQ hy hS h
theorem zN (i:Nat){fuel:Nat}{listed:Array Bool}{a:Act}{w:World}{o:Oper}(h:∀ K':Act→World→Prop,Shut (∀ a w,S w→(S w→wpAnyH P md ops Q S fuel (listed.setIfInBounds i true) a w)→K' a w)→if Region.wanted o (yielded ops a.tmps)=true then Oper.wp P o a w K' Q else K' (a.put o.dst undef) w)(ho:ops[i]?=some o:=by rfl)(hr:Region.ready md ops listed=[i]:=by kernel_rfl):wpAnyH P md ops Q S (fuel+1) listed a w:=wpAnyH_ready hr (by simp) (AllReadyH.cons ho h AllReadyH.nil)
end

theorem zB {W:World}{a p:Addr}{u:Value}(h:a≠p):(W.setCell a u).cell? p=W.cell? p:=World.cell?_setCell_other _ _ _ _ h
theorem zG {W:World}{a:Addr}{u x:Value}(h:W.cell? a=some x):(W.setCell a u).cell? a=some u:=World.cell?_setCell_same _ _ _ h
theorem zBi {W:World}{r i j:Nat}{u v:Value}(hij:i≠j)(h0:(W.cell? ⟨r,i,none⟩).isSome=true)(h1:(W.cell? ⟨r,j,none⟩).isSome=true) :
  ((W.setCell ⟨r,i,none⟩ u).setCell ⟨r,j,none⟩ v).cell? ⟨r,i,none⟩=some u∧((W.setCell ⟨r,i,none⟩ u).setCell ⟨r,j,none⟩ v).cell? ⟨r,j,none⟩=some v:=by
 obtain ⟨x,hx⟩:=Option.isSome_iff_exists.1 h0
 obtain ⟨y,hy⟩:=Option.isSome_iff_exists.1 h1
 have n1:(⟨r,i,none⟩:Addr)≠⟨r,j,none⟩:=fun h=>hij (by injection h)
 have n2:(⟨r,j,none⟩:Addr)≠⟨r,i,none⟩:=fun h=>n1 h.symm
 refine ⟨?_,?_⟩
 ·rw [zB n2];exact zG hx
 ·exact zG (by rw [zB n1];exact hy)
theorem zAt {W:World}{r:Nat}{a b c d:Value}(hT:zD W r 4) :
  ((((W.setCell ⟨r,0,none⟩ a).setCell ⟨r,1,none⟩ b).setCell ⟨r,2,none⟩ c).setCell ⟨r,3,none⟩ d).cell? ⟨r,0,none⟩=some a ∧
  ((((W.setCell ⟨r,0,none⟩ a).setCell ⟨r,1,none⟩ b).setCell ⟨r,2,none⟩ c).setCell ⟨r,3,none⟩ d).cell? ⟨r,1,none⟩=some b ∧
  ((((W.setCell ⟨r,0,none⟩ a).setCell ⟨r,1,none⟩ b).setCell ⟨r,2,none⟩ c).setCell ⟨r,3,none⟩ d).cell? ⟨r,2,none⟩=some c ∧
  ((((W.setCell ⟨r,0,none⟩ a).setCell ⟨r,1,none⟩ b).setCell ⟨r,2,none⟩ c).setCell ⟨r,3,none⟩ d).cell? ⟨r,3,none⟩=some d:=by
 obtain ⟨x0,h0⟩:=(hT 0 (by omega)).1
 obtain ⟨x1,h1⟩:=(hT 1 (by omega)).1
 obtain ⟨x2,h2⟩:=(hT 2 (by omega)).1
 obtain ⟨x3,h3⟩:=(hT 3 (by omega)).1
 have ne:∀ i j:Nat,i≠j→(⟨r,i,none⟩:Addr)≠⟨r,j,none⟩:=fun i j hij h=>hij (by injection h)
 refine ⟨?_,?_,?_,?_⟩
 ·rw [zB (ne 3 0 (by omega)),zB (ne 2 0 (by omega)),zB (ne 1 0 (by omega))];exact zG h0
 ·rw [zB (ne 3 1 (by omega)),zB (ne 2 1 (by omega))];exact zG (by rw [zB (ne 0 1 (by omega))];exact h1)
 ·rw [zB (ne 3 2 (by omega))];exact zG (by rw [zB (ne 1 2 (by omega)),zB (ne 0 2 (by omega))];exact h2)
 ·exact zG (by rw [zB (ne 2 3 (by omega)),zB (ne 1 3 (by omega)),zB (ne 0 3 (by omega))];exact h3)
def yM (px py ax ay bx by':Int):Bool :=
 if decide (py<ay) == decide (py<by') then false
 else if ay<by' then decide (0<yA ax ay bx by' px py) else decide (yA ax ay bx by' px py<0)
theorem zN8 (ax ay bx by' px py:Int):yA bx by' ax ay px py=- yA ax ay bx by' px py:=by
 simp only [yA,Int.mul_sub,Int.sub_mul]
 have e1:=Int.mul_comm ax ay
 have e2:=Int.mul_comm bx by'
 have e3:=Int.mul_comm ax by'
 have e4:=Int.mul_comm bx ay
 have e5:=Int.mul_comm ay px
 have e6:=Int.mul_comm by' px
 omega
def vF (f:Nat→Bool):Nat→Bool
 | 0=>false
 | k+1=>if f k=true then !(vF f k) else vF f k
theorem zNf (f g:Nat→Bool)(n:Nat)(h0:g 0=f (n - 1))(hs:∀ i,i+1<n→g (i+1)=f i)(hn:0<n):vF g n=vF f n:=by
 have key:∀ k,k+1≤n→vF g (k+1)=if f (n - 1)=true then !(vF f k) else vF f k:=by
  intro k
  induction k with
  | zero=>intro _;simp [vF,h0]
  | succ k ih =>
   intro hk
   rw [vF,ih (by omega),hs k (by omega),vF]
   cases f k <;> cases f (n - 1) <;> simp
 obtain ⟨m,rfl⟩:∃ m,n=m+1:=⟨n - 1,by omega⟩
 rw [key m (by omega)]
 simp [vF]
theorem zKp {px py ax ay bx by':Int}(h:ay≤by'):yM px py ax ay bx by'=(decide (ay≤py) && decide (py<by') && decide (0<yA ax ay bx by' px py)):=by
 unfold yM
 by_cases h1:py<ay
 ·have h2:py<by':=by omega
  have h3:¬ ay≤py:=by omega
  simp [h1,h2,h3]
 ·have h3:ay≤py:=by omega
  by_cases h2:py<by'
  ·have h4:ay<by':=by omega
   simp [h1,h2,h3,h4]
  ·simp [h1,h2,h3]
theorem zDt {px py ax ay bx by':Int}(h:by'<ay):yM px py ax ay bx by'=(decide (by'≤py) && decide (py<ay) && decide (0<yA bx by' ax ay px py)):=by
 unfold yM
 rw [zN8 ax ay bx by']
 have h4:¬ ay<by':=by omega
 by_cases h1:py<ay
 ·by_cases h2:py<by'
  ·have h3:¬ by'≤py:=by omega
   simp [h1,h2,h3]
  ·have h3:by'≤py:=by omega
   simp [h1,h2,h3,h4]
 ·have h2:¬ py<by':=by omega
  simp [h1,h2]
def zCi (w:World)(a:Option Addr)(n:Nat)(Z:Nat→Int):Prop :=
 n=0∨∃ b off,a=some ⟨b,off,none⟩∧b<w.heap.size∧∀ i,i<n→w.cell? ⟨b,off+i,none⟩=some (.int .i64 (Z i))
theorem zCi.below {w w':World}{a:Option Addr}{n:Nat}{Z:Nat→Int}(h:zCi w a n Z)(hb:Below w.heap.size w w'):zCi w' a n Z:=by
 rcases h with h | ⟨b,off,e,hl,hz⟩
 ·exact .inl h
 ·exact .inr ⟨b,off,e,Nat.lt_of_lt_of_le hl hb.size,fun i hi=>(hb.cell (p:=⟨b,off+i,none⟩) hl).trans (hz i hi)⟩
def zGm (w:World)(b off n:Nat)(Z:Nat→Int):Prop:=∀ i,i<n→w.cell? ⟨b,off+i,none⟩=some (.int .i64 (Z i))
theorem zGm.below {w w':World}{b off n B:Nat}{Z:Nat→Int}(h:zGm w b off n Z)(hb:Below B w w')(hB:b<B):zGm w' b off n Z:=fun i hi=>(hb.cell (p:=⟨b,off+i,none⟩) hB).trans (h i hi)
theorem zGm.is {w:World}{b off n:Nat}{Z:Nat→Int}(h:zGm w b off n Z)(hb:b<w.heap.size):zCi w (some ⟨b,off,none⟩) n Z:=.inr ⟨b,off,rfl,hb,h⟩
theorem zD.setN {W:World}{r n:Nat}(h:zD W r n)(o:Nat)(v:Value):zD (W.setCell ⟨r,o,none⟩ v) r n:=fun o' ho=>by
 obtain ⟨u,hu⟩:=(h o' ho).1
 refine ⟨?_,?_⟩
 ·by_cases e:o=o'
  ·subst e
   exact ⟨v,World.cell?_setCell_same _ _ _ (by rw [hu])⟩
  ·exact ⟨u,by rw [World.cell?_setCell_other];exact hu;simp [e]⟩
 ·rw [World.frozen?_setCell];exact (h o' ho).2
theorem fillN {W:World}{B n k:Nat}{Z:Nat→Int}(hT:zD W B n)(hk:k<n)(hp:zGm W B 0 k Z):zGm (W.setCell ⟨B,k,none⟩ (.int .i64 (Z k))) B 0 (k+1) Z:=fun i hi=>by
 by_cases e:i=k
 ·subst e
  obtain ⟨u,hu⟩:=(hT i hk).1
  simpa using World.cell?_setCell_same _ _ _ (by rw [hu])
 ·rw [World.cell?_setCell_other]
  ·exact hp i (by omega)
  ·simp <;> omega
theorem zNy {w w':World}{b:Nat}(h:w.grownBy w' (some b))(o:Nat)(v:Value):w.grownBy (w'.setCell ⟨b,o,none⟩ v) (some b):=by
 have hb:Below b w' (w'.setCell ⟨b,o,none⟩ v):=(Below.refl b w').setCell (Nat.le_refl _) v
 exact ⟨hb.os.trans h.os,hb.tape.trans h.tape,hb.output.trans h.output,Nat.le_trans h.size hb.size,fun k hk hne=>(Below.heap_setCell w' ⟨b,o,none⟩ v k (fun e=>hne (by simp at e;rw [e]))).trans (h.block k hk hne)⟩
theorem zLh (w:World)(row:Option Nat):w.grownBy w row:=⟨rfl,rfl,rfl,Nat.le_refl _,fun _ _ _=>rfl⟩
theorem zJn (a c:Option Addr)(n capa capc:Nat)(Z:Nat→Int)(w:World)(hp:zCi w a n Z)(hq:zCi w c n Z)(hmax:n≤1048576) :
  Calls Tryz.prog 48 #[.slice a n capa,.slice c n capc] w fun e w'=>e=.returned (.bool true)∧Bw w w':=by
 have HP:Hid (zCi w a n Z):=hp
 have HQ:Hid (zCi w c n Z):=hq
 clear hp hq
 go_enter Tryz.func48,Tryz.ntmps48
 go_wp2
 go_loopw [5] (fun i wr=>∃ k:Nat,k≤n∧i=.int .i64 k∧Bw w wr) (fun i _=>n - (intOf i).toNat)
 case atStart=>exact ⟨0,by omega,rfl,Below.refl _ _⟩
 case round =>
  obtain ⟨k,hk,rfl,hB⟩:=hrel
  by_cases hlt:k<n
  ·rcases HP.out with h0 | ⟨b,off,rfl,hbl,hpt⟩
   ·omega
   rcases HQ.out with h0 | ⟨d,offd,rfl,hdl,hqt⟩
   ·omega
   have c0:∀ W',Bw wr W'→W'.cell? ⟨b,off+k,none⟩=some (.int .i64 (Z k)):=fun W' h=>by
    rw [h.cell (Nat.lt_of_lt_of_le hbl hB.size)];exact (hB.cell (p:=⟨b,off+k,none⟩) hbl).trans (hpt k hlt)
   have e0:∀ W',Bw wr W'→W'.cell? ⟨d,offd+k,none⟩=some (.int .i64 (Z k)):=fun W' h=>by
    rw [h.cell (Nat.lt_of_lt_of_le hdl hB.size)];exact (hB.cell (p:=⟨d,offd+k,none⟩) hdl).trans (hqt k hlt)
   have HB:Hid (Bw w wr):=hB
   clear hB hpt hqt
   have hi:(k:Int)<(n:Int):=by omega
   have hi0:(0:Int)≤(k:Int):=by omega
   go_wp2
   go_region_held3 (fun W'=>Bw wr W') ((repeat (first|exact Qr _ _|assumption|refine Qd ?_|refine Qa ?_ _|refine Qt ?_|refine Qs ?_ _|refine Qo ?_ ?_ _ _))) (fail)
   go_wp2
   go_roundw
   case rel=>exact ⟨k+1,by omega,by go_num,zA HB.out (by assumption)⟩
   case measure=>simp [intOf];omega
  ·go_wp2
   go_ret
   exact ⟨rfl,hB⟩
def mkN (k0 i:Nat):Int:=((k0+i:Nat):Int)
theorem zFg (b n cap k0:Nat)(w:World)(hT:zD w b n)(hb:b<w.heap.size)(hmax:n≤1048576)(hk0:k0≤6000000000000000000) :
  Calls Tryz.prog 54 #[.slice (some ⟨b,0,none⟩) n cap,.int .i64 (k0:Int)] w fun e w'=>e=.returned (.int .i64 ((k0+n:Nat):Int))∧w.grownBy w' (some b)∧zD w' b n∧zGm w' b 0 n (mkN k0):=by
 have HT0:Hid (zD w b n):=hT
 clear hT
 go_enter Tryz.func54,Tryz.ntmps54
 go_wp2_with fail
 go_loopw [1,5] (fun kk i wr=>∃ j K:Nat,j≤n∧Hid (K=k0+j)∧kk=.int .i64 (K:Int)∧i=.int .i64 (j:Int)∧w.grownBy wr (some b)∧zD wr b n∧zGm wr b 0 j (mkN k0)) (fun _ i _=>n - (intOf i).toNat)
 case atStart=>exact ⟨0,k0,by omega,rfl,rfl,rfl,zLh _ _,HT0.out,fun i hi=>by omega⟩
 case round =>
  obtain ⟨j,K,hj,HK,rfl,rfl,hG,hT,hP⟩:=hrel
  by_cases hlt:j<n
  ·have hKb:K≤6000000000002097152:=by have:=HK.out;omega
   have t0:=hT.cell j hlt
   have f0:=(hT j hlt).2
   have HT:Hid (zD wr b n):=hT
   have HG:Hid (w.grownBy wr (some b)):=hG
   have HP:Hid (zGm wr b 0 j (mkN k0)):=hP
   clear hT hG hP
   have hi:(j:Int)<(n:Int):=by omega
   have hi0:(0:Int)≤(j:Int):=by omega
   have hw:mkN k0 j=(K:Int):=by have:=HK.out;simp [mkN];omega
   go_wp2
   go_roundw
   case rel =>
    exact ⟨j+1,K+1,by omega,by have:=HK.out;show _=_;omega,by go_num,by go_num,zNy HG.out _ _,HT.out.setN _ _,by have h:=fillN HT.out hlt HP.out;rw [hw] at h;exact h⟩
   case measure=>simp [intOf];omega
  ·go_wp2
   go_ret
   have hjn:j=n:=by omega
   subst hjn
   exact ⟨zE (by have:=HK.out;omega),hG,hT,hP⟩
theorem zD4 (a:Option Addr)(cap:Nat)(k:Int)(w:World):Calls Tryz.prog 54 #[.slice a 0 cap,.int .i64 k] w fun e w'=>e=.returned (.int .i64 k)∧w=w':=by
 go_enter Tryz.func54,Tryz.ntmps54
 go_wp2_with fail
 go_loopw [1,5] (fun kk i wr=>kk=.int .i64 k∧i=.int .i64 0∧w=wr) (fun _ _ _=>0)
 case atStart=>exact ⟨rfl,rfl,rfl⟩
 case round =>
  obtain ⟨rfl,rfl,rfl⟩:=hrel
  go_wp2
  go_ret
  exact ⟨rfl,rfl⟩
def OwnN (w:World)(base:Nat)(v:Value)(n:Nat)(Z:Nat→Int):Prop :=
 ∃ a cap,v=.slice a n cap∧n≤cap∧(n=0∨∃ b,a=some ⟨b,0,none⟩∧base≤b∧b<w.heap.size∧zGm w b 0 n Z∧zD w b n)
theorem OwnN.pts {w:World}{base:Nat}{v:Value}{n:Nat}{Z:Nat→Int}(h:OwnN w base v n Z):∃ a cap,v=.slice a n cap∧n≤cap∧zCi w a n Z:=by
 obtain ⟨a,cap,hv,hc,h0 | ⟨b,ha,hb,hl,hp,ht⟩⟩:=h
 ·exact ⟨a,cap,hv,hc,.inl h0⟩
 ·exact ⟨a,cap,hv,hc,.inr ⟨b,0,ha,hl,hp⟩⟩
def zH3 (x y:Int):Int:=if x<y then -1 else if y<x then 1 else 0
theorem xZ (x y:Int)(w:World):Calls Tryz.prog 201 #[.int .i64 x,.int .i64 y] w fun e w'=>e=.returned (.int .i64 (zH3 x y))∧w'=w:=by
 unfold zH3
 by_cases h1:x<y
 ·rw [if_pos h1]
  go_enter Tryz.func201,Tryz.ntmps201
  go_wp2
  go_ret
  exact ⟨rfl,rfl⟩
 ·rw [if_neg h1]
  by_cases h2:y<x
  ·rw [if_pos h2]
   go_enter Tryz.func201,Tryz.ntmps201
   go_wp2
   go_ret
   exact ⟨rfl,rfl⟩
  ·rw [if_neg h2]
   go_enter Tryz.func201,Tryz.ntmps201
   go_wp2
   go_ret
   exact ⟨rfl,rfl⟩
def Gro (V W':World):Prop:=Bw V W'∧V.drawn≤W'.drawn
theorem Gro.refl (V:World):Gro V V:=⟨Below.refl _ _,Nat.le_refl _⟩
theorem Gro.trans {a b c:World}(h:Gro a b)(k:Gro b c):Gro a c:=⟨zA h.1 k.1,Nat.le_trans h.2 k.2⟩
theorem Gro.alloc {a b:World}(h:Gro a b)(o:Obj):Gro a (b.alloc o):=⟨xD h.1 o,h.2⟩
theorem Gro.drew {a b:World}(h:Gro a b):Gro a b.drew:=⟨h.1.drew,Nat.le_trans h.2 (Nat.le_succ _)⟩
structure zW (lo hi:Nat) (w w':World):Prop where
 os:w'.os=w.os
 tape:w'.tape=w.tape
 output:w'.output=w.output
 size:w.heap.size≤w'.heap.size
 block:∀ k,k<w.heap.size→(k<lo∨hi≤k)→w'.heap[k]?=w.heap[k]?
theorem zW.refl (lo hi:Nat)(w:World):zW lo hi w w:=⟨rfl,rfl,rfl,Nat.le_refl _,fun _ _ _=>rfl⟩
theorem zW.trans {lo hi:Nat}{a b c:World}(h:zW lo hi a b)(k:zW lo hi b c):zW lo hi a c :=
 ⟨k.os.trans h.os,k.tape.trans h.tape,k.output.trans h.output,Nat.le_trans h.size k.size,fun i hi ho=>(k.block i (Nat.lt_of_lt_of_le hi h.size) ho).trans (h.block i hi ho)⟩
theorem zW.of_below {lo hi:Nat}{a b:World}(h:Below a.heap.size a b):zW lo hi a b:=⟨h.os,h.tape,h.output,h.size,fun i hi _=>h.block i hi⟩
theorem zW.of_grown {lo hi s:Nat}{a b:World}(h:a.grownBy b (some s))(h1:lo≤s)(h2:s<hi):zW lo hi a b :=
 ⟨h.os,h.tape,h.output,h.size,fun j hj ho=>h.block j hj (fun e=>by injection e with e;omega)⟩
theorem zW.set {lo hi s:Nat}{a b:World}(h:zW lo hi a b)(h1:lo≤s)(h2:s<hi)(o:Nat)(v:Value):zW lo hi a (b.setCell ⟨s,o,none⟩ v) :=
 h.trans ⟨rfl,rfl,rfl,by simp [World.setCell],fun j _ ho=>Below.heap_setCell _ _ _ _ (fun e=>by simp at e;omega)⟩
theorem zW.below {lo hi:Nat}{a b:World}(h:zW lo hi a b)(hl:lo≤a.heap.size):Below lo a b:=⟨h.os,h.tape,h.output,h.size,fun k hk=>h.block k (by omega) (.inl hk)⟩
theorem zW.cell {lo hi:Nat}{a b:World}(h:zW lo hi a b){p o:Nat}{v:Value}(hc:a.cell? ⟨p,o,none⟩=some v)(ho:p<lo∨hi≤p):b.cell? ⟨p,o,none⟩=some v:=by
 have hp:=World.block_lt_of_cell? _ _ hc
 have he:=h.block p hp ho
 unfold World.cell? at hc ⊢
 simp only [he]
 exact hc
theorem zW.there {lo hi:Nat}{a b:World}(h:zW lo hi a b){p n:Nat}(hT:zD a p n)(ho:p<lo∨hi≤p):zD b p n:=fun o hn=>by
 obtain ⟨v,hv⟩:=(hT o hn).1
 refine ⟨⟨v,h.cell hv ho⟩,?_⟩
 have he:=h.block p (World.block_lt_of_cell? _ _ hv) ho
 have hz:=(hT o hn).2
 unfold World.frozen? at hz ⊢
 simp only [he]
 exact hz
def dgB (m:Nat):UInt8:=UInt8.ofNat (48+m % 10)
theorem dgB_nat (m:Nat):(dgB m).toNat=48+m % 10:=by
 unfold dgB
 rw [UInt8.toNat_ofNat']
 omega
def mDg (k:Nat)(s:ByteArray):ByteArray:=if h:k=0 then s else mDg (k / 10) (⟨#[dgB k]⟩ ++ s)
termination_by k
decreasing_by omega
def mTx (k:Nat):ByteArray:=⟨#[109]⟩ ++ mDg k ⟨#[]⟩
theorem zIu (k:Nat)(w:World)(h0:0<k)(hk:k≤6000000000000000000) :
  Calls Tryz.prog 194 #[.int .i64 (k:Int)] w fun e w'=>e=.returned (.string (mTx k))∧Bw w w':=by
 have hneg:¬ (k:Int)≤0:=by omega
 go_enter Tryz.func194,Tryz.ntmps194
 go_wp2
 go_loopw [0,3] (fun kk o wr=>∃ (m:Nat) (s:ByteArray) (j:Nat),kk=.int .i64 (m:Int)∧o=.string s∧m≤k∧mDg m s=mDg k ⟨#[]⟩∧m<10 ^ j∧s.size+j=20∧Bw w wr) (fun kk _ _=>(intOf kk).toNat)
 case atStart=>exact ⟨k,⟨#[]⟩,20,rfl,rfl,Nat.le_refl _,rfl,by omega,rfl,Below.refl _ _⟩
 case round =>
  obtain ⟨m,s,j,rfl,rfl,hm,hd,hj,hsj,hB⟩:=hrel
  by_cases hz:0<m
  ·have hz':(0:Int)<(m:Int):=by omega
   have HD:Hid (mDg m s=mDg k ⟨#[]⟩):=hd
   have HJ:Hid (m<10 ^ j):=hj
   clear hd hj
   have hcv:∀ W B:World,W=B.alloc (.cells #[.int .u8 (48+(m:Int) % 10)] 5)→(convert 280 9 (.slice (some ⟨B.heap.size,0,none⟩) 1 1)).run Tryz.prog W=.ok (.string ⟨#[dgB m]⟩) W:=fun W B e=>by
    subst e
    have h:=run_convert_bytes_back (P:=Tryz.prog) (B.alloc (.cells #[.int .u8 (48+(m:Int) % 10)] 5)) 280 9 5 ⟨B.heap.size,0,none⟩ 1 [dgB m] Tryz.underlying280 Tryz.underlying5 Tryz.underlying9
    refine h (fun j hj=>?_)
    have hj0:j=0:=by simpa using hj
    subst hj0
    simp [Addr.add,go_sem,dgB_nat]
   have hcw:=hcv _ wr rfl
   clear hcv
   go_wp2
   go_roundw
   case rel =>
    have hjp:0<j:=by
     rcases Nat.eq_zero_or_pos j with h | h
     ·have:=HJ.out;rw [h] at this;simp at this;omega
     ·exact h
    refine ⟨m / 10,_,j - 1,by simp,rfl,by omega,?_,?_,?_,Qb⟩
    ·rw [← HD.out]
     conv=>rhs;rw [mDg]
     rw [dif_neg (by omega)]
    ·have h1:=HJ.out
     have e:j=(j - 1)+1:=by omega
     rw [e,Nat.pow_succ] at h1
     omega
    ·have e1:(⟨#[dgB m]⟩:ByteArray).size=1:=rfl
     rw [ByteArray.size_append,e1]
     omega
   case measure=>simp [intOf];omega
  ·have hm0:m=0:=by omega
   subst hm0
   have HE:Hid (s=mDg k ⟨#[]⟩):=by
    show _=_
    rw [← hd]
    rw [mDg]
    simp
   clear hd hj
   go_wp2
   go_ret
   refine ⟨?_,hB⟩
   have:=HE.out
   rw [mTx,← this]
   rfl
section
variable {P:Program} {ops:Array Oper} {Q:Exit→Act→World→Prop} {md:Region.Mode} {S:World→Prop} {z:Nat}
def zAg (P:Program)(md:Region.Mode)(ops:Array Oper)(Q:Exit→Act→World→Prop)(S:World→Prop)(z:Nat):Nat→Array Bool→Act→World→Prop
 | 0,listed,a,w=>Region.ready md ops listed=[]∧Q .normal a w
 | fuel+1,listed,a,w =>
  (Region.ready md ops listed=[]→Q .normal a w) ∧
  ∀ i ∈ Region.ready md ops listed,wpOp P ops Q i (fun a' w'=>(i≠z→S w')∧zAg P md ops Q S z fuel (listed.setIfInBounds i true) a' w') a w
theorem zFw:∀ (fuel:Nat) (listed:Array Bool) (a:Act) (w:World),zAg P md ops Q S z fuel listed a w→wpAny P md ops Q fuel listed a w
 | 0,_,_,_,h=>h
 | fuel+1,_,_,_,h=>⟨h.1,fun i hi=>wpOp_mono (fun a' w' h'=>zFw fuel _ a' w' h'.2) (h.2 i hi)⟩
def zB1 (md:Region.Mode)(ops:Array Oper)(z i:Nat):Bool:=((ops[z]?).map (·.after.any fun e=>Region.binds md e && (e.on == i))).getD false
theorem zPn {i:Nat}{listed:Array Bool}(hw:zB1 md ops z i=true)(hi:listed.getD i true=false):¬ z ∈ Region.ready md ops listed:=by
 intro hz
 obtain ⟨_,oz,hoz,hall⟩:=mem_ready.1 hz
 unfold zB1 at hw
 rw [hoz] at hw
 simp only [Option.map_some,Option.getD_some,Array.any_eq_true] at hw
 obtain ⟨k,hk,he⟩:=hw
 rw [Bool.and_eq_true,beq_iff_eq] at he
 have h1:=hall _ (Array.getElem_mem hk) he.1
 rw [he.2] at h1
 rcases Nat.lt_or_ge i listed.size with h' | h'
 ·simp [h'] at hi h1;rw [hi] at h1;cases h1
 ·simp [Array.getElem?_eq_none h'] at h1
theorem zH5 {i:Nat}{oi:Oper}{v:Value}(hi:ops[i]?=some oi)(hsel:∀ (j:Nat) (o:Oper) cs b,ops[j]?=some o→o.op≠.select cs b)(hQ:∀ c a w,Q (.panic c) (a.put oi.dst v) w→Q (.panic c) a w)(hwz:zB1 md ops z i=true) :
  ∀ (fuel:Nat) (listed:Array Bool) (a:Act) (w:World),
   (∀ j oj,ops[j]?=some oj→j≠i→listed.getD j true=false→(∀ e ∈ oj.after,Region.binds md e=true→e.on≠i)→oi.apart ops oj=true) →
   i ∈ Region.ready md ops listed→YieldsIf P ops S oi v a→S w →
   zAg P md ops Q S z fuel (listed.setIfInBounds i true) (a.put oi.dst v) w→zAg P md ops Q S z (fuel+1) listed a w:=by
 intro fuel
 induction fuel with
 | zero =>
  intro listed a w _ hr hy hS H
  refine ⟨fun h=>(by rw [h] at hr;cases hr),fun j hj=>?_⟩
  by_cases hji:j=i
  ·subst hji;exact hy.wpOp hi hS ⟨fun _=>hS,H⟩
  ·have:=ready_mono hj hji
   rw [H.1] at this
   cases this
 | succ fuel ih =>
  intro listed a w hfree hr hy hS H
  refine ⟨fun h=>(by rw [h] at hr;cases hr),fun j hj=>?_⟩
  by_cases hji:j=i
  ·subst hji;exact hy.wpOp hi hS ⟨fun _=>hS,H⟩
  ·have hjz:j≠z:=fun e=>zPn hwz (mem_ready.1 hr).1 (e ▸ hj)
   have h1:=H.2 j (ready_mono hj hji)
   obtain ⟨hjun,oj,hoj,hall⟩:=mem_ready.1 hj
   have hnot:∀ e ∈ oj.after,Region.binds md e=true→e.on≠i:=fun e he hb heq=>by
    have h1:=hall e he hb
    have h0:=(mem_ready.1 hr).1
    rw [heq] at h1
    rcases Nat.lt_or_ge i listed.size with h' | h'
    ·simp [h'] at h0 h1;rw [h0] at h1;cases h1
    ·simp [Array.getElem?_eq_none h'] at h1
   have h2:=wpOp_putIf hoj (hfree j oj hoj hji hjun hnot) (fun cs b=>hsel i oi cs b hi) (fun cs b=>hsel j oj cs b hoj) hQ hy h1
   have hfree':∀ k ok,ops[k]?=some ok→k≠i→(listed.setIfInBounds j true).getD k true=false →
     (∀ e ∈ ok.after,Region.binds md e=true→e.on≠i)→oi.apart ops ok=true:=fun k ok hk hki hun hno=>by
    refine hfree k ok hk hki ?_ hno
    by_cases hjk:j=k
    ·subst hjk;exact hjun
    ·rw [getD_set_ne true hjk] at hun;exact hun
   refine wpOp_mono (fun a' w' h3=>⟨h3.2.1,ih (listed.setIfInBounds j true) a' w' hfree' (ready_mono hr (Ne.symm hji)) h3.1 (h3.2.1 hjz) ?_⟩) h2
   rw [Array.setIfInBounds_comm _ _ hji]
   exact h3.2.2
theorem zKb {i:Nat}{oi:Oper}{v:Value}{fuel:Nat}{listed:Array Bool}{a:Act}{w:World}(hi:ops[i]?=some oi)(hs:Region.noSelect ops=true)(hf:Region.free md ops listed i=true)(hr:(Region.ready md ops listed).contains i=true)(hwz:zB1 md ops z i=true)(hQ:∀ c a w,Q (.panic c) (a.put oi.dst v) w→Q (.panic c) a w)(hy:YieldsIf P ops S oi v a)(hS:S w)(h:zAg P md ops Q S z fuel (listed.setIfInBounds i true) (a.put oi.dst v) w):zAg P md ops Q S z (fuel+1) listed a w :=
 zH5 hi (Region.noSelect_spec hs) hQ hwz fuel listed a w (Region.free_spec hi hf) (by simpa using hr) hy hS h
theorem takeL {i:Nat}{oi:Oper}{v:Value}{fuel:Nat}{listed:Array Bool}{a:Act}{w:World}(hi:ops[i]?=some oi)(hS:S w)(h:zAg P md ops Q S z fuel (listed.setIfInBounds i true) (a.put oi.dst v) w)(hs:Region.noSelect ops=true:=by kernel_rfl)(hf:Region.free md ops listed i=true:=by kernel_rfl)(hr:(Region.ready md ops listed).contains i=true:=by kernel_rfl)(hwz:zB1 md ops z i=true:=by kernel_rfl)(hQ:∀ c a w,Q (.panic c) (a.put oi.dst v) w→Q (.panic c) a w:=by exact fun _ _ _ h=>h)(hy:YieldsIf P ops S oi v a:=by exact Or.inl ⟨by rfl,by (intro w hSw;(try dsimp only at hSw);go_simp <;> with_reducible rfl)⟩):zAg P md ops Q S z (fuel+1) listed a w:=zKb hi hs hf hr hwz hQ hy hS h
theorem zA6 {i:Nat}{o:Oper}{fuel:Nat}{listed:Array Bool}{a:Act}{w:World}(hr:Region.ready md ops listed=[i])(ho:ops[i]?=some o)(h:∀ K':Act→World→Prop,Shut (∀ a w,(i≠z→S w)→zAg P md ops Q S z fuel (listed.setIfInBounds i true) a w→K' a w)→if Region.wanted o (yielded ops a.tmps)=true then Oper.wp P o a w K' Q else K' (a.put o.dst undef) w) :
  zAg P md ops Q S z (fuel+1) listed a w:=by
 refine ⟨fun h0=>(by rw [hr] at h0;cases h0),fun j hj=>?_⟩
 rw [hr] at hj
 obtain rfl:j=i:=by simpa using hj
 exact wpOp_step ho (fun K' hK=>h K' (fun a w hS hW=>hK a w ⟨hS,hW⟩))
theorem zKc {listed:Array Bool}{a:Act}{w:World}(hr:Region.ready md ops listed=[])(h:Q .normal a w) :
  ∀ fuel,zAg P md ops Q S z fuel listed a w
 | 0=>⟨hr,h⟩
 | _+1=>⟨fun _=>h,by rw [hr];simp⟩
theorem zKa {id:Nat}{a:Act}{w:World}(hm:P.follows .mixedOrders=true)(h:zAg P .any ops Q S z ops.size (Array.replicate ops.size false) a w.drew):(Code.region id ops true).wp P Q a w :=
 wp_region_any hm (zFw _ _ _ _ h)
end

end Go.Proofs.YtpaiholildedcaaGreat
