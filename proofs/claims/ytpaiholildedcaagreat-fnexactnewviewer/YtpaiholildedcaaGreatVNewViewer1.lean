/- Texts. -/
import Derived.Test.YtpaiholildedcaaGreatRows
import Derived.WalkSpells
import Derived.WalkLawsBesides
import Derived.Deep.RegionHeld3
import Derived.Deep.OwnRows
import Derived.Deep.DeepCutAuto
set_option linter.unusedSimpArgs false
set_option linter.unusedVariables false
set_option maxRecDepth 100000
set_option maxHeartbeats 32000000
namespace Go.Proofs.YtpaiholildedcaaGreat
open Go.RowKit
def inB (v lo hi:Int):Bool:=decide (lo≤v) && decide (v≤hi)
def okP (x y:Int):Bool:=inB x (-1024) 4096 && inB y (-1024) 4096
theorem zB {wr W w':World}(hS:Below wr.heap.size wr W)(hb:Below W.heap.size W w'):Below wr.heap.size wr w':=hS.trans (hb.mono hS.size)
theorem zLy {wr W V:World}(hS:Below wr.heap.size wr W)(hV:Below wr.heap.size wr V)(o:Nat)(u:Value):Below wr.heap.size wr (W.setCell ⟨V.heap.size,o,none⟩ u):=hS.setCell hV.size u
theorem yX {wr W:World}(hS:Below wr.heap.size wr W)(o:Obj):Below wr.heap.size wr (W.alloc o):=hS.alloc hS.size o
abbrev Bw (w v:World):Prop:=Below w.heap.size w v
theorem Qc {X W:World}{p:Addr}{v:Option Value}(e:X=W)(hl:p.block<X.heap.size:=by simp <;> omega)(hc:X.cell? p=v:=by simp [go_sem]):∀ W',Below W.heap.size W W'→W'.cell? p=v:=fun W' h=>by
 subst e
 rw [h.cell hl]
 exact hc
theorem Qf {X W:World}{p:Addr}{v:Bool}(e:X=W)(hl:p.block<X.heap.size:=by simp <;> omega)(hc:X.frozen? p=v:=by simp [go_sem]):∀ W',Below W.heap.size W W'→W'.frozen? p=v:=fun W' h=>by
 subst e
 rw [h.frozen hl]
 exact hc
theorem Qr (b:Nat)(w:World):Below b w w:=Below.refl b w
theorem Qd {b:Nat}{w v:World}(h:Below b w v):Below b w v.drew:=Below.drew h
theorem Qa {r W:World}(h:Below r.heap.size r W)(o:Obj):Below r.heap.size r (W.alloc o):=yX h o
theorem Qt {r W v:World}(h:Below r.heap.size r W)(k:Below W.heap.size W v:=by assumption):Below r.heap.size r v:=zB h k
theorem Qs {b:Nat}{w v:World}{p:Addr}(h:Below b w v)(u:Value)(k:b≤p.block:=by first | omega | (simp;done) | (simp;omega)):Below b w (v.setCell p u):=Below.setCell h k u
theorem Qo {r W V:World}(h:Below r.heap.size r W)(k:Below r.heap.size r V)(o:Nat)(u:Value):Below r.heap.size r (W.setCell ⟨V.heap.size,o,none⟩ u):=zLy h k o u
theorem Qx {α:Type}(l:List α)(i:Nat)(a:α):l.toArray.setIfInBounds i a=(l.set i a).toArray:=List.setIfInBounds_toArray l i a
theorem Qy {α:Type}{x:α}{l:List α}{a:α}:(x :: l).set 0 a=a :: l:=rfl
theorem Qz {α:Type}{x:α}{l:List α}{i:Nat}{a:α}:(x :: l).set (i+1) a=x :: l.set i a:=rfl
theorem Qb {p:Prop}(h:p:=by (repeat (first|exact Qr _ _|assumption|refine Qd ?_|refine Qa ?_ _|refine Qt ?_|refine Qs ?_ _|refine Qo ?_ ?_ _ _))):p:=h
theorem zH {k:IntKind}{a b:Int}(h:a=b):Ending.returned (.int k a)=.returned (.int k b):=by rw [h]
theorem xO {a b:Bool}(h:a=b):Ending.returned (.bool a)=.returned (.bool b):=by rw [h]
def zH5 (ax ay bx by' cx cy:Int):Int:=(bx - ax) * (cy - ay) - (by' - ay) * (cx - ax)
def zKp (ax ay bx by':Int):Int:=(bx - ax) * (bx - ax)+(by' - ay) * (by' - ay)
theorem yL (v lo hi:Int)(w:World):Calls Tryz.prog 32 #[.int .i64 v,.int .i64 lo,.int .i64 hi] w fun e w'=>e=.returned (.bool (inB v lo hi))∧w'=w:=by
 unfold inB
 go_enter Tryz.func32,Tryz.ntmps32
 by_cases h1:lo≤v
 ·go_wp2
  all_goals (go_ret;exact ⟨xO (by simp [h1]),rfl⟩)
 ·have h2:decide (lo≤v)=false:=by simpa using h1
  go_wp2
  all_goals (go_ret;exact ⟨xO (by simp [h1]),rfl⟩)
theorem zR (v lo hi:Int)(w:World):Calls Tryz.prog 62 #[.int .i64 v,.int .i64 lo,.int .i64 hi] w fun e w'=>e=.returned (.bool (inB v lo hi))∧w'=w:=by
 unfold inB
 go_enter Tryz.func62,Tryz.ntmps62
 by_cases h1:lo≤v
 ·go_wp2
  all_goals (go_ret;exact ⟨xO (by simp [h1]),rfl⟩)
 ·have h2:decide (lo≤v)=false:=by simpa using h1
  go_wp2
  all_goals (go_ret;exact ⟨xO (by simp [h1]),rfl⟩)
def inW (x y:Int):Bool:=inB x 0 1024 && inB y 0 1024
theorem zHg (ax ay:Int)(w:World) :
  Calls Tryz.prog 299 #[.agg #[.int .i64 ax,.int .i64 ay],.agg #[.int .i64 ax,.int .i64 ay]] w fun e w'=>e=.returned (.bool true)∧Bw w w':=by
 go_enter Tryz.func299,Tryz.ntmps299
 go_wp2
 go_ret
 exact ⟨rfl,Qb⟩
def xX (z:Int):Bool:=inB z 0 3
theorem xW {z:Int}(h:xX z=true):z=0∨z=1∨z=2∨z=3:=by
 simp [xX,inB] at h
 omega
def unitI (z:Int):Int:=if z=0 then 128 else if z=1 then 64 else if z=2 then 32 else 16
theorem xD (z:Int)(w:World):Calls Tryz.prog 176 #[.int .i64 z] w fun e w'=>e=.returned (.bool (xX z))∧w=w':=by
 unfold xX
 go_enter Tryz.func176,Tryz.ntmps176
 go_wp2_with (go_at_call 62;refine (zR _ _ _ _).mono ?_;rintro e w' ⟨rfl,rfl⟩)
 go_ret
 exact ⟨rfl,rfl⟩
theorem xC (z:Int)(w:World):Calls Tryz.prog 64 #[.int .i64 z] w fun e w'=>e=.returned (.bool (xX z))∧w=w':=by
 unfold xX
 go_enter Tryz.func64,Tryz.ntmps64
 go_wp2_with (go_at_call 32;refine (yL _ _ _ _).mono ?_;rintro e w' ⟨rfl,rfl⟩)
 go_ret
 exact ⟨rfl,rfl⟩

def zC (W:World)(r n:Nat):Prop:=∀ o,o<n→(∃ v,W.cell? ⟨r,o,none⟩=some v)∧W.frozen? ⟨r,o,none⟩=false
def zGg (W:World)(r o:Nat):Value:=(W.cell? ⟨r,o,none⟩).getD undef
theorem zC.cell {W:World}{r n:Nat}(h:zC W r n)(o:Nat)(ho:o<n):W.cell? ⟨r,o,none⟩=some (zGg W r o):=by
 obtain ⟨v,hv⟩:=(h o ho).1
 simp [zGg,hv]
theorem zC.below {W W':World}{r n:Nat}(h:zC W r n)(hb:Below W.heap.size W W'):zC W' r n:=fun o ho=>by
 obtain ⟨v,hv⟩:=(h o ho).1
 have hlt:r<W.heap.size:=World.block_lt_of_cell? W ⟨r,o,none⟩ hv
 exact ⟨⟨v,(hb.cell (p:=⟨r,o,none⟩) hlt).trans hv⟩,(hb.frozen (p:=⟨r,o,none⟩) hlt).trans (h o ho).2⟩
structure Reg (B:Nat) (W:World) (r n:Nat) (W':World):Prop where
 le:B≤W.heap.size
 bel:Below B W W'
 there:zC W' r n
theorem Reg.call {B r n:Nat}{W W1 w':World}(h:Reg B W r n W1)(hb:Below W1.heap.size W1 w'):Reg B W r n w' :=
 ⟨h.le,h.bel.trans (hb.mono (Nat.le_trans h.le h.bel.size)),h.there.below hb⟩
theorem Reg.drew {B r n:Nat}{W W1:World}(h:Reg B W r n W1):Reg B W r n W1.drew:=⟨h.le,h.bel.drew,h.there⟩
theorem Reg.start {B r n:Nat}{W:World}(hB:B≤W.heap.size)(ht:zC W r n):Reg B W r n W:=⟨hB,Below.refl _ _,ht⟩
theorem Reg.store {B r n:Nat}{W W1:World}(h:Reg B W r n W1)(hr:B≤r)(o:Nat)(v:Value):Reg B W r n (W1.setCell ⟨r,o,none⟩ v) :=
 ⟨h.le,h.bel.setCell hr v,fun o' ho=>by
  obtain ⟨u,hu⟩:=(h.there o' ho).1
  refine ⟨?_,?_⟩
  ·by_cases e:o=o'
   ·subst e
    exact ⟨v,World.cell?_setCell_same _ _ _ (by rw [hu])⟩
   ·exact ⟨u,by rw [World.cell?_setCell_other];exact hu;intro hc;exact e (by simpa using hc.symm)⟩
  ·rw [World.frozen?_setCell];exact (h.there o' ho).2⟩
theorem zA {W:World}{a p:Addr}{u:Value}(h:a≠p):(W.setCell a u).cell? p=W.cell? p:=World.cell?_setCell_other _ _ _ _ h
theorem zD {W:World}{a:Addr}{u x:Value}(h:W.cell? a=some x):(W.setCell a u).cell? a=some u:=World.cell?_setCell_same _ _ _ h
theorem zA8 {W:World}{r i j:Nat}{u v:Value}(hij:i≠j)(h0:(W.cell? ⟨r,i,none⟩).isSome=true)(h1:(W.cell? ⟨r,j,none⟩).isSome=true) :
  ((W.setCell ⟨r,i,none⟩ u).setCell ⟨r,j,none⟩ v).cell? ⟨r,i,none⟩=some u∧((W.setCell ⟨r,i,none⟩ u).setCell ⟨r,j,none⟩ v).cell? ⟨r,j,none⟩=some v:=by
 obtain ⟨x,hx⟩:=Option.isSome_iff_exists.1 h0
 obtain ⟨y,hy⟩:=Option.isSome_iff_exists.1 h1
 have n1:(⟨r,i,none⟩:Addr)≠⟨r,j,none⟩:=fun h=>hij (by injection h)
 have n2:(⟨r,j,none⟩:Addr)≠⟨r,i,none⟩:=fun h=>n1 h.symm
 refine ⟨?_,?_⟩
 ·rw [zA n2];exact zD hx
 ·exact zD (by rw [zA n1];exact hy)
theorem zGy {W:World}{r:Nat}{a b c d:Value}(hT:zC W r 4) :
  ((((W.setCell ⟨r,0,none⟩ a).setCell ⟨r,1,none⟩ b).setCell ⟨r,2,none⟩ c).setCell ⟨r,3,none⟩ d).cell? ⟨r,0,none⟩=some a ∧
  ((((W.setCell ⟨r,0,none⟩ a).setCell ⟨r,1,none⟩ b).setCell ⟨r,2,none⟩ c).setCell ⟨r,3,none⟩ d).cell? ⟨r,1,none⟩=some b ∧
  ((((W.setCell ⟨r,0,none⟩ a).setCell ⟨r,1,none⟩ b).setCell ⟨r,2,none⟩ c).setCell ⟨r,3,none⟩ d).cell? ⟨r,2,none⟩=some c ∧
  ((((W.setCell ⟨r,0,none⟩ a).setCell ⟨r,1,none⟩ b).setCell ⟨r,2,none⟩ c).setCell ⟨r,3,none⟩ d).cell? ⟨r,3,none⟩=some d:=by
 obtain ⟨x0,h0⟩:=(hT 0 (by omega)).1
 obtain ⟨x1,h1⟩:=(hT 1 (by omega)).1
 obtain ⟨x2,h2⟩:=(hT 2 (by omega)).1
 obtain ⟨x3,h3⟩:=(hT 3 (by omega)).1
 have ne:∀ i j:Nat,i≠j→(⟨r,i,none⟩:Addr)≠⟨r,j,none⟩:=fun i j hij h=>hij (by injection h)
 refine ⟨?_,?_,?_,?_⟩
 ·rw [zA (ne 3 0 (by omega)),zA (ne 2 0 (by omega)),zA (ne 1 0 (by omega))];exact zD h0
 ·rw [zA (ne 3 1 (by omega)),zA (ne 2 1 (by omega))];exact zD (by rw [zA (ne 0 1 (by omega))];exact h1)
 ·rw [zA (ne 3 2 (by omega))];exact zD (by rw [zA (ne 1 2 (by omega)),zA (ne 0 2 (by omega))];exact h2)
 ·exact zD (by rw [zA (ne 2 3 (by omega)),zA (ne 1 3 (by omega)),zA (ne 0 3 (by omega))];exact h3)

def zC6 (z:Int):Int:=if z=0 then 8 else if z=1 then 16 else if z=2 then 32 else 64
def pixV (z:Int):Value:=if xX z=true then .agg #[.int .i64 0,.int .i64 (zC6 z)] else .agg #[.int .i64 3,.int .i64 0]
def zAt (z x y:Int):Bool:=xX z && (inB x 0 (zC6 z - 1) && inB y 0 (zC6 z - 1))
def centI (z x:Int):Int:=(2 * x+1) * unitI z
theorem zAs {z x y:Int}(h:zAt z x y=true):xX z=true:=by
 simp [zAt] at h
 exact h.1
theorem zEq {z x y:Int}(h:zAt z x y=true):(0≤x∧x≤zC6 z - 1)∧(0≤y∧y≤zC6 z - 1):=by
 simp [zAt,inB] at h
 exact h.2
theorem vQ {z:Int}(h:xX z=true):8≤zC6 z∧zC6 z≤64:=by
 rcases xW h with rfl | rfl | rfl | rfl <;> decide
theorem zAd (z:Int)(w:World):Calls Tryz.prog 166 #[.int .i64 z] w fun e w'=>e=.returned (pixV z)∧Bw w w':=by
 cases h:xX z
 ·go_enter Tryz.func166,Tryz.ntmps166
  go_wp2_with (go_at_call 176;refine (xD _ _).mono ?_;rintro e w' ⟨rfl,rfl⟩)
  exact bodyPost_ret (v:=.agg #[.int .i64 3,.int .i64 0]) (by simp [results,Tryz.results166,go_sem]) rfl ⟨by simp [pixV,h],Qb⟩
 ·rcases xW h with rfl | rfl | rfl | rfl
  all_goals
   go_enter Tryz.func166,Tryz.ntmps166
   go_wp2_with (go_at_call 176;refine (xD _ _).mono ?_;rintro e w' ⟨rfl,rfl⟩)
   first
    | exact bodyPost_ret (v:=.agg #[.int .i64 0,.int .i64 8]) (by simp [results,Tryz.results166,go_sem];done) rfl ⟨rfl,Qb⟩
    | exact bodyPost_ret (v:=.agg #[.int .i64 0,.int .i64 16]) (by simp [results,Tryz.results166,go_sem];done) rfl ⟨rfl,Qb⟩
    | exact bodyPost_ret (v:=.agg #[.int .i64 0,.int .i64 32]) (by simp [results,Tryz.results166,go_sem];done) rfl ⟨rfl,Qb⟩
    | exact bodyPost_ret (v:=.agg #[.int .i64 0,.int .i64 64]) (by simp [results,Tryz.results166,go_sem];done) rfl ⟨rfl,Qb⟩
theorem zG4 (z:Int)(w:World)(h:xX z=true):Calls Tryz.prog 65 #[.int .i64 z] w fun e w'=>e=.returned (.int .i64 (zC6 z))∧w=w':=by
 rcases xW h with rfl | rfl | rfl | rfl
 all_goals
  go_enter Tryz.func65,Tryz.ntmps65
  go_wp2
  go_ret
  exact ⟨rfl,rfl⟩
theorem vR (z x y:Int)(w:World):Calls Tryz.prog 117 #[.int .i64 z,.int .i64 x,.int .i64 y] w fun e w'=>e=.returned (.bool (zAt z x y))∧Bw w w':=by
 have s1:=fun w=>zAd z w
 cases h:xX z
 ·have hv:pixV z=.agg #[.int .i64 3,.int .i64 0]:=by simp [pixV,h]
  simp only [hv] at s1
  have i1:∀ w,(Instr.field 63 (.agg #[.int .i64 3,.int .i64 0]) 1).run Tryz.prog w=.ok (.int .i64 0) w:=fun _=>by kernel_rfl
  have hx:inB x 0 (-1)=false:=by simp [inB];omega
  have hp:Hid (zAt z x y=false):=by show _=_;simp [zAt,h]
  go_enter Tryz.func117,Tryz.ntmps117
  go_wp2_with (first
   | (go_at_call 166;refine (s1 _).mono ?_;rintro e w1 ⟨rfl,hb1⟩)
   | (go_at_call 62;refine (zR _ _ _ _).mono ?_;rintro e w' ⟨rfl,rfl⟩))
  all_goals (go_ret;exact ⟨xO (by rw [hp.out]),Qb⟩)
 ·have hv:pixV z=.agg #[.int .i64 0,.int .i64 (zC6 z)]:=by simp [pixV,h]
  simp only [hv] at s1
  have hp:Hid (zAt z x y=(inB x 0 (zC6 z - 1) && inB y 0 (zC6 z - 1))):=by show _=_;simp [zAt,h]
  obtain ⟨b1,b2⟩:=vQ h
  generalize zC6 z=u at *
  have i1:∀ w,(Instr.field 63 (.agg #[.int .i64 0,.int .i64 u]) 1).run Tryz.prog w=.ok (.int .i64 u) w:=fun _=>by kernel_rfl
  cases hx:inB x 0 (u - 1) <;> cases hy:inB y 0 (u - 1)
  all_goals
   go_enter Tryz.func117,Tryz.ntmps117
   go_wp2_with (first
    | (go_at_call 166;refine (s1 _).mono ?_;rintro e w1 ⟨rfl,hb1⟩)
    | (go_at_call 62;refine (zR _ _ _ _).mono ?_;rintro e w' ⟨rfl,rfl⟩))
   all_goals (go_ret;exact ⟨xO (by rw [hp.out,hx,hy];rfl),Qb⟩)
def yW (w:World)(b off n:Nat)(X Y:Nat→Int):Prop :=
 ∀ i,i<n→w.cell? ⟨b,off+i * 2,none⟩=some (.int .i64 (X i))∧w.cell? ⟨b,off+i * 2+1,none⟩=some (.int .i64 (Y i))
theorem yW.below {w w':World}{b off n B:Nat}{X Y:Nat→Int}(h:yW w b off n X Y)(hb:Below B w w')(hB:b<B):yW w' b off n X Y:=fun i hi =>
 ⟨(hb.cell (p:=⟨b,off+i * 2,none⟩) hB).trans (h i hi).1,(hb.cell (p:=⟨b,off+i * 2+1,none⟩) hB).trans (h i hi).2⟩
def allOk (n:Nat)(X Y:Nat→Int):Bool:=decide (∀ i,i<n→okP (X i) (Y i)=true)
def zA4 (w:World)(a:Option Addr)(n:Nat)(X Y:Nat→Int):Prop :=
 n=0∨∃ b off,a=some ⟨b,off,none⟩∧b<w.heap.size∧yW w b off n X Y
theorem zA4.below {w w':World}{a:Option Addr}{n:Nat}{X Y:Nat→Int}(h:zA4 w a n X Y)(hb:Below w.heap.size w w'):zA4 w' a n X Y:=by
 rcases h with h | ⟨b,off,e,hl,hp⟩
 ·exact .inl h
 ·exact .inr ⟨b,off,e,Nat.lt_of_lt_of_le hl hb.size,hp.below hb hl⟩
theorem zC.set {W:World}{r n:Nat}(h:zC W r n)(o:Nat)(v:Value):zC (W.setCell ⟨r,o,none⟩ v) r n:=fun o' ho=>by
 obtain ⟨u,hu⟩:=(h o' ho).1
 refine ⟨?_,?_⟩
 ·by_cases e:o=o'
  ·subst e
   exact ⟨v,World.cell?_setCell_same _ _ _ (by rw [hu])⟩
  ·exact ⟨u,by rw [World.cell?_setCell_other];exact hu;simp [e]⟩
 ·rw [World.frozen?_setCell];exact (h o' ho).2
theorem zKm {W:World}{B n k:Nat}{X Y:Nat→Int}(hT:zC W B (n * 2))(hk:k<n)(hp:yW W B 0 k X Y) :
  yW ((W.setCell ⟨B,k * 2,none⟩ (.int .i64 (X k))).setCell ⟨B,k * 2+1,none⟩ (.int .i64 (Y k))) B 0 (k+1) X Y:=fun i hi=>by
 by_cases e:i=k
 ·subst e
  obtain ⟨u,hu⟩:=(hT (i * 2) (by omega)).1
  obtain ⟨v,hv⟩:=((hT.set (i * 2) (.int .i64 (X i))) (i * 2+1) (by omega)).1
  refine ⟨?_,?_⟩
  ·rw [World.cell?_setCell_other]
   ·simpa using World.cell?_setCell_same _ _ _ (by rw [hu])
   ·simp
  ·simpa using World.cell?_setCell_same _ _ _ (by rw [hv])
 ·obtain ⟨h1,h2⟩:=hp i (by omega)
  refine ⟨?_,?_⟩
  ·rw [World.cell?_setCell_other,World.cell?_setCell_other]
   ·exact h1
   ·simp <;> omega
   ·simp <;> omega
  ·rw [World.cell?_setCell_other,World.cell?_setCell_other]
   ·exact h2
   ·simp <;> omega
   ·simp <;> omega
section
variable {P:Program} {ops:Array Oper} {Q:Exit→Act→World→Prop} {md:Region.Mode} {S:World→Prop}
theorem takeD {i:Nat}{d:Option Nat}{oi:Oper}{v:Value}{fuel:Nat}{listed:Array Bool}{a:Act}{w:World}(hi:ops[i]?=some oi)(hd:oi.dst=d)(hs:Region.noSelect ops=true)(hf:Region.free md ops listed i=true)(hr:(Region.ready md ops listed).contains i=true)(hQ:∀ c a w,Q (.panic c) (a.put oi.dst v) w→Q (.panic c) a w)(hy:YieldsIf P ops S oi v a)(hS:S w)(h:wpAnyH P md ops Q S fuel (listed.setIfInBounds i true) (a.put d v) w):wpAnyH P md ops Q S (fuel+1) listed a w :=
 wpAnyH_take hi hs hf hr hQ hy hS (hd ▸ h)
theorem passD {i:Nat}{d:Option Nat}{oi:Oper}{fuel:Nat}{listed:Array Bool}{a:Act}{w:World}(hi:ops[i]?=some oi)(hd:oi.dst=d)(hs:Region.noSelect ops=true)(hf:Region.free md ops listed i=true)(hr:(Region.ready md ops listed).contains i=true)(hQ:∀ c a w,Q (.panic c) (a.put oi.dst undef) w→Q (.panic c) a w)(hy:Region.wanted oi (yielded ops a.tmps)=false)(hS:S w)(h:wpAnyH P md ops Q S fuel (listed.setIfInBounds i true) (a.put d undef) w):wpAnyH P md ops Q S (fuel+1) listed a w :=
 wpAnyH_take hi hs hf hr hQ (.inr ⟨hy,rfl⟩) hS (hd ▸ h)
theorem zL {i:Nat}{d:Option Nat}{oi:Oper}{v:Value}{fuel:Nat}{listed:Array Bool}{a:Act}{w:World}(hi:ops[i]?=some oi)(hd:oi.dst=d)(hy:YieldsIf P ops S oi v a)(hS:S w)(h:wpAnyH P md ops Q S fuel (listed.setIfInBounds i true) (a.put d v) w)(hs:Region.noSelect ops=true:=by kernel_rfl)(hf:Region.free md ops listed i=true:=by kernel_rfl)(hr:(Region.ready md ops listed).contains i=true:=by kernel_rfl)(hQ:∀ c a w,Q (.panic c) (a.put oi.dst v) w→Q (.panic c) a w:=by exact fun _ _ _ h=>h):wpAnyH P md ops Q S (fuel+1) listed a w:=takeD hi hd hs hf hr hQ hy hS h
theorem zGz {i:Nat}{d:Option Nat}{oi:Oper}{fuel:Nat}{listed:Array Bool}{a:Act}{w:World}(hi:ops[i]?=some oi)(hd:oi.dst=d)(hy:Region.wanted oi (yielded ops a.tmps)=false)(hS:S w)(h:wpAnyH P md ops Q S fuel (listed.setIfInBounds i true) (a.put d undef) w)(hs:Region.noSelect ops=true:=by kernel_rfl)(hf:Region.free md ops listed i=true:=by kernel_rfl)(hr:(Region.ready md ops listed).contains i=true:=by kernel_rfl)(hQ:∀ c a w,Q (.panic c) (a.put oi.dst undef) w→Q (.panic c) a w:=by exact fun _ _ _ h=>h):wpAnyH P md ops Q S (fuel+1) listed a w:=passD hi hd hs hf hr hQ hy hS h
theorem zE {i:Nat}{d:Option Nat}{oi:Oper}{v:Value}{fuel:Nat}{listed:Array Bool}{a:Act}{w:World}(hi:ops[i]?=some oi)(hd:oi.dst=d)(h:wpAnyH P md ops Q S fuel (listed.setIfInBounds i true) (a.put d v) w)(hs:Region.noSelect ops=true:=by kernel_rfl)(hf:Region.free md ops listed i=true:=by kernel_rfl)(hr:(Region.ready md ops listed).contains i=true:=by kernel_rfl)(hQ:∀ c a w,Q (.panic c) (a.put oi.dst v) w→Q (.panic c) a w:=by exact fun _ _ _ h=>h)(hS:S w:=by assumption)(hy:YieldsIf P ops S oi v a:=by exact Or.inl ⟨by rfl,by (intro w hSw;(try dsimp only at hSw);go_simp <;> with_reducible rfl)⟩):wpAnyH P md ops Q S (fuel+1) listed a w:=takeD hi hd hs hf hr hQ hy hS h
theorem zN (i:Nat){fuel:Nat}{listed:Array Bool}{a:Act}{w:World}{o:Oper}(h:∀ K':Act→World→Prop,Shut (∀ a w,S w→(S w→wpAnyH P md ops Q S fuel (listed.setIfInBounds i true) a w)→K' a w)→if Region.wanted o (yielded ops a.tmps)=true then Oper.wp P o a w K' Q else K' (a.put o.dst undef) w)(ho:ops[i]?=some o:=by rfl)(hr:Region.ready md ops listed=[i]:=by kernel_rfl):wpAnyH P md ops Q S (fuel+1) listed a w:=wpAnyH_ready hr (by simp) (AllReadyH.cons ho h AllReadyH.nil)
end

structure zI (lo hi:Nat) (w w':World):Prop where
 os:w'.os=w.os
 tape:w'.tape=w.tape
 output:w'.output=w.output
 size:w.heap.size≤w'.heap.size
 block:∀ k,k<w.heap.size→(k<lo∨hi≤k)→w'.heap[k]?=w.heap[k]?
theorem zI.refl (lo hi:Nat)(w:World):zI lo hi w w:=⟨rfl,rfl,rfl,Nat.le_refl _,fun _ _ _=>rfl⟩
theorem zI.trans {lo hi:Nat}{a b c:World}(h:zI lo hi a b)(k:zI lo hi b c):zI lo hi a c :=
 ⟨k.os.trans h.os,k.tape.trans h.tape,k.output.trans h.output,Nat.le_trans h.size k.size,fun i hi ho=>(k.block i (Nat.lt_of_lt_of_le hi h.size) ho).trans (h.block i hi ho)⟩
theorem zI.of_below {lo hi:Nat}{a b:World}(h:Below a.heap.size a b):zI lo hi a b:=⟨h.os,h.tape,h.output,h.size,fun i hi _=>h.block i hi⟩
theorem zI.of_grown {lo hi s:Nat}{a b:World}(h:a.grownBy b (some s))(h1:lo≤s)(h2:s<hi):zI lo hi a b :=
 ⟨h.os,h.tape,h.output,h.size,fun j hj ho=>h.block j hj (fun e=>by injection e with e;omega)⟩
theorem zI.set {lo hi s:Nat}{a b:World}(h:zI lo hi a b)(h1:lo≤s)(h2:s<hi)(o:Nat)(v:Value):zI lo hi a (b.setCell ⟨s,o,none⟩ v) :=
 h.trans ⟨rfl,rfl,rfl,by simp [World.setCell],fun j _ ho=>Below.heap_setCell _ _ _ _ (fun e=>by simp at e;omega)⟩
theorem zI.below {lo hi:Nat}{a b:World}(h:zI lo hi a b)(hl:lo≤a.heap.size):Below lo a b:=⟨h.os,h.tape,h.output,h.size,fun k hk=>h.block k (by omega) (.inl hk)⟩
theorem zI.cell {lo hi:Nat}{a b:World}(h:zI lo hi a b){p o:Nat}{v:Value}(hc:a.cell? ⟨p,o,none⟩=some v)(ho:p<lo∨hi≤p):b.cell? ⟨p,o,none⟩=some v:=by
 have hp:=World.block_lt_of_cell? _ _ hc
 have he:=h.block p hp ho
 unfold World.cell? at hc ⊢
 simp only [he]
 exact hc
theorem zI.there {lo hi:Nat}{a b:World}(h:zI lo hi a b){p n:Nat}(hT:zC a p n)(ho:p<lo∨hi≤p):zC b p n:=fun o hn=>by
 obtain ⟨v,hv⟩:=(hT o hn).1
 refine ⟨⟨v,h.cell hv ho⟩,?_⟩
 have he:=h.block p (World.block_lt_of_cell? _ _ hv) ho
 have hz:=(hT o hn).2
 unfold World.frozen? at hz ⊢
 simp only [he]
 exact hz
def dgB (m:Nat):UInt8:=UInt8.ofNat (48+m % 10)
theorem dgB_nat (m:Nat):(dgB m).toNat=48+m % 10:=by
 unfold dgB
 rw [UInt8.toNat_ofNat']
 omega
def mDg (k:Nat)(s:ByteArray):ByteArray:=if h:k=0 then s else mDg (k / 10) (⟨#[dgB k]⟩ ++ s)
termination_by k
decreasing_by omega
def mTx (k:Nat):ByteArray:=⟨#[109]⟩ ++ mDg k ⟨#[]⟩
theorem zBj (k:Nat)(w:World)(h0:0<k)(hk:k≤6000000000000000000) :
  Calls Tryz.prog 194 #[.int .i64 (k:Int)] w fun e w'=>e=.returned (.string (mTx k))∧Bw w w':=by
 have hneg:¬ (k:Int)≤0:=by omega
 go_enter Tryz.func194,Tryz.ntmps194
 go_wp2
 go_loopw [0,3] (fun kk o wr=>∃ (m:Nat) (s:ByteArray) (j:Nat),kk=.int .i64 (m:Int)∧o=.string s∧m≤k∧mDg m s=mDg k ⟨#[]⟩∧m<10 ^ j∧s.size+j=20∧Bw w wr) (fun kk _ _=>(intOf kk).toNat)
 case atStart=>exact ⟨k,⟨#[]⟩,20,rfl,rfl,Nat.le_refl _,rfl,by omega,rfl,Below.refl _ _⟩
 case round =>
  obtain ⟨m,s,j,rfl,rfl,hm,hd,hj,hsj,hB⟩:=hrel
  by_cases hz:0<m
  ·have hz':(0:Int)<(m:Int):=by omega
   have HD:Hid (mDg m s=mDg k ⟨#[]⟩):=hd
   have HJ:Hid (m<10 ^ j):=hj
   clear hd hj
   have hcv:∀ W B:World,W=B.alloc (.cells #[.int .u8 (48+(m:Int) % 10)] 5)→(convert 280 9 (.slice (some ⟨B.heap.size,0,none⟩) 1 1)).run Tryz.prog W=.ok (.string ⟨#[dgB m]⟩) W:=fun W B e=>by
    subst e
    have h:=run_convert_bytes_back (P:=Tryz.prog) (B.alloc (.cells #[.int .u8 (48+(m:Int) % 10)] 5)) 280 9 5 ⟨B.heap.size,0,none⟩ 1 [dgB m] Tryz.underlying280 Tryz.underlying5 Tryz.underlying9
    refine h (fun j hj=>?_)
    have hj0:j=0:=by simpa using hj
    subst hj0
    simp [Addr.add,go_sem,dgB_nat]
   have hcw:=hcv _ wr rfl
   clear hcv
   go_wp2
   go_roundw
   case rel =>
    have hjp:0<j:=by
     rcases Nat.eq_zero_or_pos j with h | h
     ·have:=HJ.out;rw [h] at this;simp at this;omega
     ·exact h
    refine ⟨m / 10,_,j - 1,by simp,rfl,by omega,?_,?_,?_,Qb⟩
    ·rw [← HD.out]
     conv=>rhs;rw [mDg]
     rw [dif_neg (by omega)]
    ·have h1:=HJ.out
     have e:j=(j - 1)+1:=by omega
     rw [e,Nat.pow_succ] at h1
     omega
    ·have e1:(⟨#[dgB m]⟩:ByteArray).size=1:=rfl
     rw [ByteArray.size_append,e1]
     omega
   case measure=>simp [intOf];omega
  ·have hm0:m=0:=by omega
   subst hm0
   have HE:Hid (s=mDg k ⟨#[]⟩):=by
    show _=_
    rw [← hd]
    rw [mDg]
    simp
   clear hd hj
   go_wp2
   go_ret
   refine ⟨?_,hB⟩
   have:=HE.out
   rw [mTx,← this]
   rfl
def zHo (w:World)(a:Option Addr)(n:Nat)(Z:Nat→Int):Prop :=
 n=0∨∃ b off,a=some ⟨b,off,none⟩∧b<w.heap.size∧∀ i,i<n→w.cell? ⟨b,off+i,none⟩=some (.int .i64 (Z i))
theorem zHo.below {w w':World}{a:Option Addr}{n:Nat}{Z:Nat→Int}(h:zHo w a n Z)(hb:Below w.heap.size w w'):zHo w' a n Z:=by
 rcases h with h | ⟨b,off,e,hl,hz⟩
 ·exact .inl h
 ·exact .inr ⟨b,off,e,Nat.lt_of_lt_of_le hl hb.size,fun i hi=>(hb.cell (p:=⟨b,off+i,none⟩) hl).trans (hz i hi)⟩
def uC (w:World)(b off n:Nat)(Z:Nat→Int):Prop:=∀ i,i<n→w.cell? ⟨b,off+i,none⟩=some (.int .i64 (Z i))
theorem uC.below {w w':World}{b off n B:Nat}{Z:Nat→Int}(h:uC w b off n Z)(hb:Below B w w')(hB:b<B):uC w' b off n Z:=fun i hi=>(hb.cell (p:=⟨b,off+i,none⟩) hB).trans (h i hi)
theorem uC.is {w:World}{b off n:Nat}{Z:Nat→Int}(h:uC w b off n Z)(hb:b<w.heap.size):zHo w (some ⟨b,off,none⟩) n Z:=.inr ⟨b,off,rfl,hb,h⟩
theorem zC.setN {W:World}{r n:Nat}(h:zC W r n)(o:Nat)(v:Value):zC (W.setCell ⟨r,o,none⟩ v) r n:=fun o' ho=>by
 obtain ⟨u,hu⟩:=(h o' ho).1
 refine ⟨?_,?_⟩
 ·by_cases e:o=o'
  ·subst e
   exact ⟨v,World.cell?_setCell_same _ _ _ (by rw [hu])⟩
  ·exact ⟨u,by rw [World.cell?_setCell_other];exact hu;simp [e]⟩
 ·rw [World.frozen?_setCell];exact (h o' ho).2
theorem fillN {W:World}{B n k:Nat}{Z:Nat→Int}(hT:zC W B n)(hk:k<n)(hp:uC W B 0 k Z):uC (W.setCell ⟨B,k,none⟩ (.int .i64 (Z k))) B 0 (k+1) Z:=fun i hi=>by
 by_cases e:i=k
 ·subst e
  obtain ⟨u,hu⟩:=(hT i hk).1
  simpa using World.cell?_setCell_same _ _ _ (by rw [hu])
 ·rw [World.cell?_setCell_other]
  ·exact hp i (by omega)
  ·simp <;> omega
theorem zI2 {w w':World}{b:Nat}(h:w.grownBy w' (some b))(o:Nat)(v:Value):w.grownBy (w'.setCell ⟨b,o,none⟩ v) (some b):=by
 have hb:Below b w' (w'.setCell ⟨b,o,none⟩ v):=(Below.refl b w').setCell (Nat.le_refl _) v
 exact ⟨hb.os.trans h.os,hb.tape.trans h.tape,hb.output.trans h.output,Nat.le_trans h.size hb.size,fun k hk hne=>(Below.heap_setCell w' ⟨b,o,none⟩ v k (fun e=>hne (by simp at e;rw [e]))).trans (h.block k hk hne)⟩
theorem zHe (w:World)(row:Option Nat):w.grownBy w row:=⟨rfl,rfl,rfl,Nat.le_refl _,fun _ _ _=>rfl⟩
theorem zF9 (a c:Option Addr)(n capa capc:Nat)(Z:Nat→Int)(w:World)(hp:zHo w a n Z)(hq:zHo w c n Z)(hmax:n≤1048576) :
  Calls Tryz.prog 48 #[.slice a n capa,.slice c n capc] w fun e w'=>e=.returned (.bool true)∧Bw w w':=by
 have HP:Hid (zHo w a n Z):=hp
 have HQ:Hid (zHo w c n Z):=hq
 clear hp hq
 go_enter Tryz.func48,Tryz.ntmps48
 go_wp2
 go_loopw [5] (fun i wr=>∃ k:Nat,k≤n∧i=.int .i64 k∧Bw w wr) (fun i _=>n - (intOf i).toNat)
 case atStart=>exact ⟨0,by omega,rfl,Below.refl _ _⟩
 case round =>
  obtain ⟨k,hk,rfl,hB⟩:=hrel
  by_cases hlt:k<n
  ·rcases HP.out with h0 | ⟨b,off,rfl,hbl,hpt⟩
   ·omega
   rcases HQ.out with h0 | ⟨d,offd,rfl,hdl,hqt⟩
   ·omega
   have c0:∀ W',Bw wr W'→W'.cell? ⟨b,off+k,none⟩=some (.int .i64 (Z k)):=fun W' h=>by
    rw [h.cell (Nat.lt_of_lt_of_le hbl hB.size)];exact (hB.cell (p:=⟨b,off+k,none⟩) hbl).trans (hpt k hlt)
   have e0:∀ W',Bw wr W'→W'.cell? ⟨d,offd+k,none⟩=some (.int .i64 (Z k)):=fun W' h=>by
    rw [h.cell (Nat.lt_of_lt_of_le hdl hB.size)];exact (hB.cell (p:=⟨d,offd+k,none⟩) hdl).trans (hqt k hlt)
   have HB:Hid (Bw w wr):=hB
   clear hB hpt hqt
   have hi:(k:Int)<(n:Int):=by omega
   have hi0:(0:Int)≤(k:Int):=by omega
   go_wp2
   go_region_held3 (fun W'=>Bw wr W') ((repeat (first|exact Qr _ _|assumption|refine Qd ?_|refine Qa ?_ _|refine Qt ?_|refine Qs ?_ _|refine Qo ?_ ?_ _ _))) (fail)
   go_wp2
   go_roundw
   case rel=>exact ⟨k+1,by omega,by go_num,zB HB.out (by assumption)⟩
   case measure=>simp [intOf];omega
  ·go_wp2
   go_ret
   exact ⟨rfl,hB⟩
def mkN (k0 i:Nat):Int:=((k0+i:Nat):Int)
theorem zDj (b n cap k0:Nat)(w:World)(hT:zC w b n)(hb:b<w.heap.size)(hmax:n≤1048576)(hk0:k0≤6000000000000000000) :
  Calls Tryz.prog 54 #[.slice (some ⟨b,0,none⟩) n cap,.int .i64 (k0:Int)] w fun e w'=>e=.returned (.int .i64 ((k0+n:Nat):Int))∧w.grownBy w' (some b)∧zC w' b n∧uC w' b 0 n (mkN k0):=by
 have HT0:Hid (zC w b n):=hT
 clear hT
 go_enter Tryz.func54,Tryz.ntmps54
 go_wp2_with fail
 go_loopw [1,5] (fun kk i wr=>∃ j K:Nat,j≤n∧Hid (K=k0+j)∧kk=.int .i64 (K:Int)∧i=.int .i64 (j:Int)∧w.grownBy wr (some b)∧zC wr b n∧uC wr b 0 j (mkN k0)) (fun _ i _=>n - (intOf i).toNat)
 case atStart=>exact ⟨0,k0,by omega,rfl,rfl,rfl,zHe _ _,HT0.out,fun i hi=>by omega⟩
 case round =>
  obtain ⟨j,K,hj,HK,rfl,rfl,hG,hT,hP⟩:=hrel
  by_cases hlt:j<n
  ·have hKb:K≤6000000000002097152:=by have:=HK.out;omega
   have t0:=hT.cell j hlt
   have f0:=(hT j hlt).2
   have HT:Hid (zC wr b n):=hT
   have HG:Hid (w.grownBy wr (some b)):=hG
   have HP:Hid (uC wr b 0 j (mkN k0)):=hP
   clear hT hG hP
   have hi:(j:Int)<(n:Int):=by omega
   have hi0:(0:Int)≤(j:Int):=by omega
   have hw:mkN k0 j=(K:Int):=by have:=HK.out;simp [mkN];omega
   go_wp2
   go_roundw
   case rel =>
    exact ⟨j+1,K+1,by omega,by have:=HK.out;show _=_;omega,by go_num,by go_num,zI2 HG.out _ _,HT.out.setN _ _,by have h:=fillN HT.out hlt HP.out;rw [hw] at h;exact h⟩
   case measure=>simp [intOf];omega
  ·go_wp2
   go_ret
   have hjn:j=n:=by omega
   subst hjn
   exact ⟨zH (by have:=HK.out;omega),hG,hT,hP⟩
theorem zCm (a:Option Addr)(cap:Nat)(k:Int)(w:World):Calls Tryz.prog 54 #[.slice a 0 cap,.int .i64 k] w fun e w'=>e=.returned (.int .i64 k)∧w=w':=by
 go_enter Tryz.func54,Tryz.ntmps54
 go_wp2_with fail
 go_loopw [1,5] (fun kk i wr=>kk=.int .i64 k∧i=.int .i64 0∧w=wr) (fun _ _ _=>0)
 case atStart=>exact ⟨rfl,rfl,rfl⟩
 case round =>
  obtain ⟨rfl,rfl,rfl⟩:=hrel
  go_wp2
  go_ret
  exact ⟨rfl,rfl⟩
theorem zDo (a:Option Addr)(n cap k0:Nat)(w:World)(hp:zHo w a n (mkN k0))(hmax:n≤1048576)(hk0:k0≤6000000000000000000) :
  Calls Tryz.prog 55 #[.slice a n cap,.int .i64 (k0:Int)] w fun e w'=>e=.returned (.int .i64 ((k0+n:Nat):Int))∧Bw w w':=by
 have HP:Hid (zHo w a n (mkN k0)):=hp
 clear hp
 go_enter Tryz.func55,Tryz.ntmps55
 go_wp2_with fail
 go_loopw [1,5] (fun kk i wr=>∃ j K:Nat,j≤n∧Hid (K=k0+j)∧kk=.int .i64 (K:Int)∧i=.int .i64 (j:Int)∧Bw w wr) (fun _ i _=>n - (intOf i).toNat)
 case atStart=>exact ⟨0,k0,by omega,rfl,rfl,rfl,Below.refl _ _⟩
 case round =>
  obtain ⟨j,K,hj,HK,rfl,rfl,hB⟩:=hrel
  by_cases hlt:j<n
  ·rcases HP.out with h0 | ⟨b,off,rfl,hbl,hpt⟩
   ·omega
   have hKb:K≤6000000000002097152:=by have:=HK.out;omega
   have hw:mkN k0 j=(K:Int):=by have:=HK.out;simp [mkN];omega
   have t0:wr.cell? ⟨b,off+j,none⟩=some (.int .i64 (mkN k0 j)):=(hB.cell (p:=⟨b,off+j,none⟩) hbl).trans (hpt j hlt)
   have HB:Hid (Bw w wr):=hB
   clear hB hpt
   have hi:(j:Int)<(n:Int):=by omega
   have hi0:(0:Int)≤(j:Int):=by omega
   generalize mkN k0 j=x at *
   go_wp2
   go_roundw
   case rel=>exact ⟨j+1,K+1,by omega,by have:=HK.out;show _=_;omega,by go_num,by go_num,HB.out⟩
   case measure=>simp [intOf];omega
  ·go_wp2
   go_ret
   have hjn:j=n:=by omega
   subst hjn
   exact ⟨zH (by have:=HK.out;omega),hB⟩
theorem zFb {w w':World}{p:Addr}{v:Value}(hb:Below w.heap.size w w')(h:w.cell? p=some v):w'.cell? p=some v:=(hb.cell (World.block_lt_of_cell? _ _ h)).trans h
def zH8 (px py ax ay bx by':Int):Int:=(px - ax) * (bx - ax)+(py - ay) * (by' - ay)
def overI (px py ax ay bx by':Int):Int :=
 if zH8 px py ax ay bx by'≤0 then zKp px py ax ay
 else if zKp ax ay bx by'≤zH8 px py ax ay bx by' then zKp px py bx by'
 else zH5 ax ay bx by' px py * zH5 ax ay bx by' px py
def underI (px py ax ay bx by':Int):Int :=
 if zH8 px py ax ay bx by'≤0 then 1
 else if zKp ax ay bx by'≤zH8 px py ax ay bx by' then 1
 else zKp ax ay bx by'
def nearB (px py ax ay bx by' r:Int):Bool:=decide (overI px py ax ay bx by'≤r * r * underI px py ax ay bx by')
def isNearB (px py ax ay bx by' r:Int):Bool:=okP px py && (okP ax ay && (okP bx by' && (inB r 0 4096 && nearB px py ax ay bx by' r)))






def sideB (px py ax ay bx by':Int):Bool :=
 if decide (py<ay) == decide (py<by') then false
 else if ay<by' then decide (0<zH5 ax ay bx by' px py) else decide (zH5 ax ay bx by' px py<0)
def oddTo (f:Nat→Bool):Nat→Bool
 | 0=>false
 | k+1=>if f k=true then !(oddTo f k) else oddTo f k

def sideAt (px py:Int)(n:Nat)(X Y:Nat→Int)(i:Nat):Bool:=sideB px py (X i) (Y i) (X ((i+1) % n)) (Y ((i+1) % n))
def insideB (px py:Int)(n:Nat)(X Y:Nat→Int):Bool:=okP px py && (decide (3≤n) && (decide (n≤40) && (allOk n X Y && oddTo (sideAt px py n X Y) n)))



def cmpI (x y:Int):Int:=if x<y then -1 else if y<x then 1 else 0
theorem zDs (x y:Int)(w:World):Calls Tryz.prog 201 #[.int .i64 x,.int .i64 y] w fun e w'=>e=.returned (.int .i64 (cmpI x y))∧w'=w:=by
 unfold cmpI
 by_cases h1:x<y
 ·rw [if_pos h1]
  go_enter Tryz.func201,Tryz.ntmps201
  go_wp2
  go_ret
  exact ⟨rfl,rfl⟩
 ·rw [if_neg h1]
  by_cases h2:y<x
  ·rw [if_pos h2]
   go_enter Tryz.func201,Tryz.ntmps201
   go_wp2
   go_ret
   exact ⟨rfl,rfl⟩
  ·rw [if_neg h2]
   go_enter Tryz.func201,Tryz.ntmps201
   go_wp2
   go_ret
   exact ⟨rfl,rfl⟩
def Gro (V W':World):Prop:=Bw V W'∧V.drawn≤W'.drawn
theorem Gro.refl (V:World):Gro V V:=⟨Below.refl _ _,Nat.le_refl _⟩
theorem Gro.alloc {a b:World}(h:Gro a b)(o:Obj):Gro a (b.alloc o):=⟨yX h.1 o,h.2⟩
section
variable {P:Program} {ops:Array Oper} {Q:Exit→Act→World→Prop} {md:Region.Mode} {S:World→Prop} {z:Nat}
def yV (P:Program)(md:Region.Mode)(ops:Array Oper)(Q:Exit→Act→World→Prop)(S:World→Prop)(z:Nat):Nat→Array Bool→Act→World→Prop
 | 0,listed,a,w=>Region.ready md ops listed=[]∧Q .normal a w
 | fuel+1,listed,a,w =>
  (Region.ready md ops listed=[]→Q .normal a w) ∧
  ∀ i ∈ Region.ready md ops listed,wpOp P ops Q i (fun a' w'=>(i≠z→S w')∧yV P md ops Q S z fuel (listed.setIfInBounds i true) a' w') a w
theorem zDw:∀ (fuel:Nat) (listed:Array Bool) (a:Act) (w:World),yV P md ops Q S z fuel listed a w→wpAny P md ops Q fuel listed a w
 | 0,_,_,_,h=>h
 | fuel+1,_,_,_,h=>⟨h.1,fun i hi=>wpOp_mono (fun a' w' h'=>zDw fuel _ a' w' h'.2) (h.2 i hi)⟩
def uN (md:Region.Mode)(ops:Array Oper)(z i:Nat):Bool:=((ops[z]?).map (·.after.any fun e=>Region.binds md e && (e.on == i))).getD false
theorem zFr {i:Nat}{listed:Array Bool}(hw:uN md ops z i=true)(hi:listed.getD i true=false):¬ z ∈ Region.ready md ops listed:=by
 intro hz
 obtain ⟨_,oz,hoz,hall⟩:=mem_ready.1 hz
 unfold uN at hw
 rw [hoz] at hw
 simp only [Option.map_some,Option.getD_some,Array.any_eq_true] at hw
 obtain ⟨k,hk,he⟩:=hw
 rw [Bool.and_eq_true,beq_iff_eq] at he
 have h1:=hall _ (Array.getElem_mem hk) he.1
 rw [he.2] at h1
 rcases Nat.lt_or_ge i listed.size with h' | h'
 ·simp [h'] at hi h1;rw [hi] at h1;cases h1
 ·simp [Array.getElem?_eq_none h'] at h1
theorem zFh {i:Nat}{oi:Oper}{v:Value}(hi:ops[i]?=some oi)(hsel:∀ (j:Nat) (o:Oper) cs b,ops[j]?=some o→o.op≠.select cs b)(hQ:∀ c a w,Q (.panic c) (a.put oi.dst v) w→Q (.panic c) a w)(hwz:uN md ops z i=true) :
  ∀ (fuel:Nat) (listed:Array Bool) (a:Act) (w:World),
   (∀ j oj,ops[j]?=some oj→j≠i→listed.getD j true=false→(∀ e ∈ oj.after,Region.binds md e=true→e.on≠i)→oi.apart ops oj=true) →
   i ∈ Region.ready md ops listed→YieldsIf P ops S oi v a→S w →
   yV P md ops Q S z fuel (listed.setIfInBounds i true) (a.put oi.dst v) w→yV P md ops Q S z (fuel+1) listed a w:=by
 intro fuel
 induction fuel with
 | zero =>
  intro listed a w _ hr hy hS H
  refine ⟨fun h=>(by rw [h] at hr;cases hr),fun j hj=>?_⟩
  by_cases hji:j=i
  ·subst hji;exact hy.wpOp hi hS ⟨fun _=>hS,H⟩
  ·have:=ready_mono hj hji
   rw [H.1] at this
   cases this
 | succ fuel ih =>
  intro listed a w hfree hr hy hS H
  refine ⟨fun h=>(by rw [h] at hr;cases hr),fun j hj=>?_⟩
  by_cases hji:j=i
  ·subst hji;exact hy.wpOp hi hS ⟨fun _=>hS,H⟩
  ·have hjz:j≠z:=fun e=>zFr hwz (mem_ready.1 hr).1 (e ▸ hj)
   have h1:=H.2 j (ready_mono hj hji)
   obtain ⟨hjun,oj,hoj,hall⟩:=mem_ready.1 hj
   have hnot:∀ e ∈ oj.after,Region.binds md e=true→e.on≠i:=fun e he hb heq=>by
    have h1:=hall e he hb
    have h0:=(mem_ready.1 hr).1
    rw [heq] at h1
    rcases Nat.lt_or_ge i listed.size with h' | h'
    ·simp [h'] at h0 h1;rw [h0] at h1;cases h1
    ·simp [Array.getElem?_eq_none h'] at h1
   have h2:=wpOp_putIf hoj (hfree j oj hoj hji hjun hnot) (fun cs b=>hsel i oi cs b hi) (fun cs b=>hsel j oj cs b hoj) hQ hy h1
   have hfree':∀ k ok,ops[k]?=some ok→k≠i→(listed.setIfInBounds j true).getD k true=false →
     (∀ e ∈ ok.after,Region.binds md e=true→e.on≠i)→oi.apart ops ok=true:=fun k ok hk hki hun hno=>by
    refine hfree k ok hk hki ?_ hno
    by_cases hjk:j=k
    ·subst hjk;exact hjun
    ·rw [getD_set_ne true hjk] at hun;exact hun
   refine wpOp_mono (fun a' w' h3=>⟨h3.2.1,ih (listed.setIfInBounds j true) a' w' hfree' (ready_mono hr (Ne.symm hji)) h3.1 (h3.2.1 hjz) ?_⟩) h2
   rw [Array.setIfInBounds_comm _ _ hji]
   exact h3.2.2
theorem zG {i:Nat}{oi:Oper}{v:Value}{fuel:Nat}{listed:Array Bool}{a:Act}{w:World}(hi:ops[i]?=some oi)(hs:Region.noSelect ops=true)(hf:Region.free md ops listed i=true)(hr:(Region.ready md ops listed).contains i=true)(hwz:uN md ops z i=true)(hQ:∀ c a w,Q (.panic c) (a.put oi.dst v) w→Q (.panic c) a w)(hy:YieldsIf P ops S oi v a)(hS:S w)(h:yV P md ops Q S z fuel (listed.setIfInBounds i true) (a.put oi.dst v) w):yV P md ops Q S z (fuel+1) listed a w :=
 zFh hi (Region.noSelect_spec hs) hQ hwz fuel listed a w (Region.free_spec hi hf) (by simpa using hr) hy hS h
theorem takeL {i:Nat}{oi:Oper}{v:Value}{fuel:Nat}{listed:Array Bool}{a:Act}{w:World}(hi:ops[i]?=some oi)(hS:S w)(h:yV P md ops Q S z fuel (listed.setIfInBounds i true) (a.put oi.dst v) w)(hs:Region.noSelect ops=true:=by kernel_rfl)(hf:Region.free md ops listed i=true:=by kernel_rfl)(hr:(Region.ready md ops listed).contains i=true:=by kernel_rfl)(hwz:uN md ops z i=true:=by kernel_rfl)(hQ:∀ c a w,Q (.panic c) (a.put oi.dst v) w→Q (.panic c) a w:=by exact fun _ _ _ h=>h)(hy:YieldsIf P ops S oi v a:=by exact Or.inl ⟨by rfl,by (intro w hSw;(try dsimp only at hSw);go_simp <;> with_reducible rfl)⟩):yV P md ops Q S z (fuel+1) listed a w:=zG hi hs hf hr hwz hQ hy hS h
theorem zF {i:Nat}{o:Oper}{fuel:Nat}{listed:Array Bool}{a:Act}{w:World}(hr:Region.ready md ops listed=[i])(ho:ops[i]?=some o)(h:∀ K':Act→World→Prop,Shut (∀ a w,(i≠z→S w)→yV P md ops Q S z fuel (listed.setIfInBounds i true) a w→K' a w)→if Region.wanted o (yielded ops a.tmps)=true then Oper.wp P o a w K' Q else K' (a.put o.dst undef) w) :
  yV P md ops Q S z (fuel+1) listed a w:=by
 refine ⟨fun h0=>(by rw [hr] at h0;cases h0),fun j hj=>?_⟩
 rw [hr] at hj
 obtain rfl:j=i:=by simpa using hj
 exact wpOp_step ho (fun K' hK=>h K' (fun a w hS hW=>hK a w ⟨hS,hW⟩))
theorem zY {listed:Array Bool}{a:Act}{w:World}(hr:Region.ready md ops listed=[])(h:Q .normal a w) :
  ∀ fuel,yV P md ops Q S z fuel listed a w
 | 0=>⟨hr,h⟩
 | _+1=>⟨fun _=>h,by rw [hr];simp⟩
theorem yP {id:Nat}{a:Act}{w:World}(hm:P.follows .mixedOrders=true)(h:yV P .any ops Q S z ops.size (Array.replicate ops.size false) a w.drew):(Code.region id ops true).wp P Q a w :=
 wp_region_any hm (zDw _ _ _ _ h)
end
end Go.Proofs.YtpaiholildedcaaGreat
