/- Texts. -/
import Derived.Test.YtpaiholildedcaaGreatVNewViewer9
set_option linter.unusedSimpArgs false
set_option linter.unusedVariables false
set_option maxRecDepth 100000
set_option maxHeartbeats 32000000
namespace Go.Proofs.YtpaiholildedcaaGreat
open Go.RowKit
theorem zC.otherJ {W:World}{r r' n o:Nat}{v:Value}(h:zC W r n)(hr:r'≠r):zC (W.setCell ⟨r',o,none⟩ v) r n:=fun o' ho=>by
 obtain ⟨⟨u,hu⟩,hf⟩:=h o' ho
 exact ⟨⟨u,by rw [zA (fun e=>hr (by injection e))];exact hu⟩,by rw [World.frozen?_setCell];exact hf⟩
structure Kp where
 z:Int
 x:Int
 y:Int
 fa:Option Addr
 fn:Nat
 fc:Nat
 F:Nat→xG
 ia:Option Addr
 m:Nat
 ic:Nat
 I:Nat→Int
abbrev kpV (k:Kp):Value:=.agg #[.int .i64 k.z,.int .i64 k.x,.int .i64 k.y,.slice k.fa k.fn k.fc,.slice k.ia k.m k.ic]
def zHn (w:World)(p o:Nat)(k:Kp):Prop:=w.cell? ⟨p,o,none⟩=some (.int .i64 k.z)∧w.cell? ⟨p,o+1,none⟩=some (.int .i64 k.x)∧w.cell? ⟨p,o+2,none⟩=some (.int .i64 k.y)∧w.cell? ⟨p,o+3,none⟩=some (.slice k.fa k.fn k.fc)∧w.cell? ⟨p,o+4,none⟩=some (.slice k.ia k.m k.ic)
theorem zHn.below {w w':World}{p o B:Nat}{k:Kp}(h:zHn w p o k)(hb:Below B w w')(hp:p<B):zHn w' p o k:=by
 obtain ⟨h0,h1,h2,h3,h4⟩:=h
 exact ⟨(hb.cell (p:=⟨p,o,none⟩) hp).trans h0,(hb.cell (p:=⟨p,o+1,none⟩) hp).trans h1,(hb.cell (p:=⟨p,o+2,none⟩) hp).trans h2,(hb.cell (p:=⟨p,o+3,none⟩) hp).trans h3,(hb.cell (p:=⟨p,o+4,none⟩) hp).trans h4⟩
def KpIs (w:World)(k:Kp):Prop:=zIb w k.fa k.fn k.F∧zHo w k.ia k.m k.I
theorem KpIs.below {w w':World}{k:Kp}(h:KpIs w k)(hb:Below w.heap.size w w'):KpIs w' k:=⟨h.1.below hb,h.2.below hb⟩
def KsAt (w:World)(b off n:Nat)(K:Nat→Kp):Prop:=∀ i,i<n→zHn w b (off+i * 5) (K i)∧KpIs w (K i)
theorem KsAt.below {w w':World}{b off n:Nat}{K:Nat→Kp}(h:KsAt w b off n K)(hb:Below w.heap.size w w')(hl:b<w.heap.size):KsAt w' b off n K:=fun i hi=>⟨(h i hi).1.below hb hl,(h i hi).2.below hb⟩
def IsKs (w:World)(a:Option Addr)(n:Nat)(K:Nat→Kp):Prop:=n=0∨∃ b off,a=some ⟨b,off,none⟩∧b<w.heap.size∧KsAt w b off n K
def zEe (k:Kp):Prop:=vX k.fn k.F∧k.m≤1048576
def yE (n:Nat)(K:Nat→Kp):Prop:=n≤1048576∧∀ i,i<n→zEe (K i)
def zKc (W:World)(B o:Nat)(k:Kp):World:=(((((W.setCell ⟨B,o,none⟩ (.int .i64 k.z)).setCell ⟨B,o+1,none⟩ (.int .i64 k.x)).setCell ⟨B,o+2,none⟩ (.int .i64 k.y)).setCell ⟨B,o+3,none⟩ (.slice k.fa k.fn k.fc)).setCell ⟨B,o+4,none⟩ (.slice k.ia k.m k.ic))
theorem zHz (W:World)(B o:Nat)(k:Kp):zI B (B+1) W (zKc W B o k) :=
 (((((zI.refl B (B+1) W).set (Nat.le_refl _) (Nat.lt_succ_self _) _ _).set (Nat.le_refl _) (Nat.lt_succ_self _) _ _).set (Nat.le_refl _) (Nat.lt_succ_self _) _ _).set (Nat.le_refl _) (Nat.lt_succ_self _) _ _).set (Nat.le_refl _) (Nat.lt_succ_self _) _ _
theorem zIs {W:World}{B o m:Nat}{k:Kp}(h:zC W B m):zC (zKc W B o k) B m:=by
 unfold zKc
 exact (((((h.set _ _).set _ _).set _ _).set _ _).set _ _)
theorem zKa (W:World)(B o:Nat)(k:Kp):(zKc W B o k).heap.size=W.heap.size:=by unfold zKc;simp
theorem vM {W:World}{B o:Nat}{k:Kp}{p:Addr}(h:p.block≠B∨p.off<o∨o+4<p.off):(zKc W B o k).cell? p=W.cell? p:=by
 have ne:∀ k:Nat,k≤4→(⟨B,o+k,none⟩:Addr)≠p:=fun k hk e=>by subst e;simp at h;omega
 have ne0:(⟨B,o,none⟩:Addr)≠p:=ne 0 (by omega)
 unfold zKc
 rw [zA (ne 4 (by omega)),zA (ne 3 (by omega)),zA (ne 2 (by omega)),zA (ne 1 (by omega)),zA ne0]
theorem zKb {W:World}{B o m:Nat}{k:Kp}(h:zC W B m)(ho:o+4<m):zHn (zKc W B o k) B o k:=by
 have ne:∀ i j:Nat,i≠j→(⟨B,i,none⟩:Addr)≠⟨B,j,none⟩:=fun i j hij h=>hij (by injection h)
 obtain ⟨u0,g0⟩:=(h (o) (by omega)).1
 obtain ⟨u1,g1⟩:=((h.set (o) (.int .i64 k.z)) (o+1) (by omega)).1
 obtain ⟨u2,g2⟩:=(((h.set (o) (.int .i64 k.z)).set (o+1) (.int .i64 k.x)) (o+2) (by omega)).1
 obtain ⟨u3,g3⟩:=((((h.set (o) (.int .i64 k.z)).set (o+1) (.int .i64 k.x)).set (o+2) (.int .i64 k.y)) (o+3) (by omega)).1
 obtain ⟨u4,g4⟩:=(((((h.set (o) (.int .i64 k.z)).set (o+1) (.int .i64 k.x)).set (o+2) (.int .i64 k.y)).set (o+3) (.slice k.fa k.fn k.fc)) (o+4) (by omega)).1
 unfold zKc
 refine ⟨?_,?_,?_,?_,?_⟩
 ·rw [zA (ne (o+4) (o) (by omega)),zA (ne (o+3) (o) (by omega)),zA (ne (o+2) (o) (by omega)),zA (ne (o+1) (o) (by omega))];exact zD g0
 ·rw [zA (ne (o+4) (o+1) (by omega)),zA (ne (o+3) (o+1) (by omega)),zA (ne (o+2) (o+1) (by omega))];exact zD g1
 ·rw [zA (ne (o+4) (o+2) (by omega)),zA (ne (o+3) (o+2) (by omega))];exact zD g2
 ·rw [zA (ne (o+4) (o+3) (by omega))];exact zD g3
 ·exact zD g4
abbrev zDv:Array Value:=#[.int .i64 0,.int .i64 0,.int .i64 0,.slice none 0 0,.slice none 0 0]
theorem zG9:(Tryz.prog.info? 141).map (fun i=>(i.zero,i.size,i.bytes))=some (some (.agg zDv),5,72):=by kernel_rfl
theorem there5k (V:World)(a b c d e:Value)(t:TypeId):zC (V.alloc (.cells #[a,b,c,d,e] t)) V.heap.size 5:=fun o ho=>by
 have hc:o=0∨o=1∨o=2∨o=3∨o=4:=by omega
 rcases hc with rfl | rfl | rfl | rfl | rfl <;> exact ⟨⟨_,by simp [go_sem];rfl⟩,by simp [go_sem]⟩
abbrev caV (s:Int)(v:Value):Value:=.agg #[.int .i64 s,v]
theorem zCe (V:World)(a b:Value)(t:TypeId):zC (V.alloc (.cells #[a,b] t)) V.heap.size 2:=fun o ho=>by
 have hc:o=0∨o=1:=by omega
 rcases hc with rfl | rfl <;> exact ⟨⟨_,by simp [go_sem];rfl⟩,by simp [go_sem]⟩
abbrev vwV (z x y wd ht now s:Int)(kv rv:Value)(bad:Int):Value:=.agg #[.int .i64 z,.int .i64 x,.int .i64 y,.int .i64 wd,.int .i64 ht,.int .i64 now,.int .i64 s,kv,rv,.int .i64 bad]
def Blk (w:World)(q:Nat)(l:List Value):Prop:=∀ i v,l[i]?=some v→w.cell? ⟨q,i,none⟩=some v∧w.frozen? ⟨q,i,none⟩=false
theorem Blk.cell {w:World}{q:Nat}{l:List Value}(h:Blk w q l)(i:Nat){v:Value}(hi:l[i]?=some v):w.cell? ⟨q,i,none⟩=some v:=(h i v hi).1
theorem Blk.free {w:World}{q:Nat}{l:List Value}(h:Blk w q l)(i:Nat){v:Value}(hi:l[i]?=some v):w.frozen? ⟨q,i,none⟩=false:=(h i v hi).2
theorem Blk.c3 {w : World} {q : Nat} {a0 a1 a2 : Value} {l : List Value} (h : Blk w q (a0 :: a1 :: a2 :: l)) : w.cell? ⟨q, 0, none⟩ = some a0 ∧ w.cell? ⟨q, 1, none⟩ = some a1 ∧ w.cell? ⟨q, 2, none⟩ = some a2 := ⟨h.cell 0 rfl, h.cell 1 rfl, h.cell 2 rfl⟩
theorem Blk.f3 {w : World} {q : Nat} {a0 a1 a2 : Value} {l : List Value} (h : Blk w q (a0 :: a1 :: a2 :: l)) : w.frozen? ⟨q, 0, none⟩ = false ∧ w.frozen? ⟨q, 1, none⟩ = false ∧ w.frozen? ⟨q, 2, none⟩ = false := ⟨h.free 0 rfl, h.free 1 rfl, h.free 2 rfl⟩
theorem Blk.c5 {w : World} {q : Nat} {a0 a1 a2 a3 a4 : Value} {l : List Value} (h : Blk w q (a0 :: a1 :: a2 :: a3 :: a4 :: l)) : w.cell? ⟨q, 0, none⟩ = some a0 ∧ w.cell? ⟨q, 1, none⟩ = some a1 ∧ w.cell? ⟨q, 2, none⟩ = some a2 ∧ w.cell? ⟨q, 3, none⟩ = some a3 ∧ w.cell? ⟨q, 4, none⟩ = some a4 := ⟨h.cell 0 rfl, h.cell 1 rfl, h.cell 2 rfl, h.cell 3 rfl, h.cell 4 rfl⟩
theorem Blk.g5 {b : Nat} {v : World} {q : Nat} {a0 a1 a2 a3 a4 : Value} {l : List Value} (h : ∀ w, Below b v w → Blk w q (a0 :: a1 :: a2 :: a3 :: a4 :: l)) : (∀ w, Below b v w → w.cell? ⟨q, 0, none⟩ = some a0) ∧ (∀ w, Below b v w → w.cell? ⟨q, 1, none⟩ = some a1) ∧ (∀ w, Below b v w → w.cell? ⟨q, 2, none⟩ = some a2) ∧ (∀ w, Below b v w → w.cell? ⟨q, 3, none⟩ = some a3) ∧ (∀ w, Below b v w → w.cell? ⟨q, 4, none⟩ = some a4) := ⟨fun w k => (h w k).cell 0 rfl, fun w k => (h w k).cell 1 rfl, fun w k => (h w k).cell 2 rfl, fun w k => (h w k).cell 3 rfl, fun w k => (h w k).cell 4 rfl⟩
theorem Blk.c10 {w : World} {q : Nat} {a0 a1 a2 a3 a4 a5 a6 a7 a8 a9 : Value} {l : List Value} (h : Blk w q (a0 :: a1 :: a2 :: a3 :: a4 :: a5 :: a6 :: a7 :: a8 :: a9 :: l)) : w.cell? ⟨q, 0, none⟩ = some a0 ∧ w.cell? ⟨q, 1, none⟩ = some a1 ∧ w.cell? ⟨q, 2, none⟩ = some a2 ∧ w.cell? ⟨q, 3, none⟩ = some a3 ∧ w.cell? ⟨q, 4, none⟩ = some a4 ∧ w.cell? ⟨q, 5, none⟩ = some a5 ∧ w.cell? ⟨q, 6, none⟩ = some a6 ∧ w.cell? ⟨q, 7, none⟩ = some a7 ∧ w.cell? ⟨q, 8, none⟩ = some a8 ∧ w.cell? ⟨q, 9, none⟩ = some a9 := ⟨h.cell 0 rfl, h.cell 1 rfl, h.cell 2 rfl, h.cell 3 rfl, h.cell 4 rfl, h.cell 5 rfl, h.cell 6 rfl, h.cell 7 rfl, h.cell 8 rfl, h.cell 9 rfl⟩
theorem Blk.f10 {w : World} {q : Nat} {a0 a1 a2 a3 a4 a5 a6 a7 a8 a9 : Value} {l : List Value} (h : Blk w q (a0 :: a1 :: a2 :: a3 :: a4 :: a5 :: a6 :: a7 :: a8 :: a9 :: l)) : w.frozen? ⟨q, 0, none⟩ = false ∧ w.frozen? ⟨q, 1, none⟩ = false ∧ w.frozen? ⟨q, 2, none⟩ = false ∧ w.frozen? ⟨q, 3, none⟩ = false ∧ w.frozen? ⟨q, 4, none⟩ = false ∧ w.frozen? ⟨q, 5, none⟩ = false ∧ w.frozen? ⟨q, 6, none⟩ = false ∧ w.frozen? ⟨q, 7, none⟩ = false ∧ w.frozen? ⟨q, 8, none⟩ = false ∧ w.frozen? ⟨q, 9, none⟩ = false := ⟨h.free 0 rfl, h.free 1 rfl, h.free 2 rfl, h.free 3 rfl, h.free 4 rfl, h.free 5 rfl, h.free 6 rfl, h.free 7 rfl, h.free 8 rfl, h.free 9 rfl⟩
theorem Blk.g10 {b : Nat} {v : World} {q : Nat} {a0 a1 a2 a3 a4 a5 a6 a7 a8 a9 : Value} {l : List Value} (h : ∀ w, Below b v w → Blk w q (a0 :: a1 :: a2 :: a3 :: a4 :: a5 :: a6 :: a7 :: a8 :: a9 :: l)) : (∀ w, Below b v w → w.cell? ⟨q, 0, none⟩ = some a0) ∧ (∀ w, Below b v w → w.cell? ⟨q, 1, none⟩ = some a1) ∧ (∀ w, Below b v w → w.cell? ⟨q, 2, none⟩ = some a2) ∧ (∀ w, Below b v w → w.cell? ⟨q, 3, none⟩ = some a3) ∧ (∀ w, Below b v w → w.cell? ⟨q, 4, none⟩ = some a4) ∧ (∀ w, Below b v w → w.cell? ⟨q, 5, none⟩ = some a5) ∧ (∀ w, Below b v w → w.cell? ⟨q, 6, none⟩ = some a6) ∧ (∀ w, Below b v w → w.cell? ⟨q, 7, none⟩ = some a7) ∧ (∀ w, Below b v w → w.cell? ⟨q, 8, none⟩ = some a8) ∧ (∀ w, Below b v w → w.cell? ⟨q, 9, none⟩ = some a9) := ⟨fun w k => (h w k).cell 0 rfl, fun w k => (h w k).cell 1 rfl, fun w k => (h w k).cell 2 rfl, fun w k => (h w k).cell 3 rfl, fun w k => (h w k).cell 4 rfl, fun w k => (h w k).cell 5 rfl, fun w k => (h w k).cell 6 rfl, fun w k => (h w k).cell 7 rfl, fun w k => (h w k).cell 8 rfl, fun w k => (h w k).cell 9 rfl⟩
theorem Blk.c13 {w : World} {q : Nat} {a0 a1 a2 a3 a4 a5 a6 a7 a8 a9 a10 a11 a12 : Value} {l : List Value} (h : Blk w q (a0 :: a1 :: a2 :: a3 :: a4 :: a5 :: a6 :: a7 :: a8 :: a9 :: a10 :: a11 :: a12 :: l)) : w.cell? ⟨q, 0, none⟩ = some a0 ∧ w.cell? ⟨q, 1, none⟩ = some a1 ∧ w.cell? ⟨q, 2, none⟩ = some a2 ∧ w.cell? ⟨q, 3, none⟩ = some a3 ∧ w.cell? ⟨q, 4, none⟩ = some a4 ∧ w.cell? ⟨q, 5, none⟩ = some a5 ∧ w.cell? ⟨q, 6, none⟩ = some a6 ∧ w.cell? ⟨q, 7, none⟩ = some a7 ∧ w.cell? ⟨q, 8, none⟩ = some a8 ∧ w.cell? ⟨q, 9, none⟩ = some a9 ∧ w.cell? ⟨q, 10, none⟩ = some a10 ∧ w.cell? ⟨q, 11, none⟩ = some a11 ∧ w.cell? ⟨q, 12, none⟩ = some a12 := ⟨h.cell 0 rfl, h.cell 1 rfl, h.cell 2 rfl, h.cell 3 rfl, h.cell 4 rfl, h.cell 5 rfl, h.cell 6 rfl, h.cell 7 rfl, h.cell 8 rfl, h.cell 9 rfl, h.cell 10 rfl, h.cell 11 rfl, h.cell 12 rfl⟩
theorem Blk.f13 {w : World} {q : Nat} {a0 a1 a2 a3 a4 a5 a6 a7 a8 a9 a10 a11 a12 : Value} {l : List Value} (h : Blk w q (a0 :: a1 :: a2 :: a3 :: a4 :: a5 :: a6 :: a7 :: a8 :: a9 :: a10 :: a11 :: a12 :: l)) : w.frozen? ⟨q, 0, none⟩ = false ∧ w.frozen? ⟨q, 1, none⟩ = false ∧ w.frozen? ⟨q, 2, none⟩ = false ∧ w.frozen? ⟨q, 3, none⟩ = false ∧ w.frozen? ⟨q, 4, none⟩ = false ∧ w.frozen? ⟨q, 5, none⟩ = false ∧ w.frozen? ⟨q, 6, none⟩ = false ∧ w.frozen? ⟨q, 7, none⟩ = false ∧ w.frozen? ⟨q, 8, none⟩ = false ∧ w.frozen? ⟨q, 9, none⟩ = false ∧ w.frozen? ⟨q, 10, none⟩ = false ∧ w.frozen? ⟨q, 11, none⟩ = false ∧ w.frozen? ⟨q, 12, none⟩ = false := ⟨h.free 0 rfl, h.free 1 rfl, h.free 2 rfl, h.free 3 rfl, h.free 4 rfl, h.free 5 rfl, h.free 6 rfl, h.free 7 rfl, h.free 8 rfl, h.free 9 rfl, h.free 10 rfl, h.free 11 rfl, h.free 12 rfl⟩
theorem Blk.g13 {b : Nat} {v : World} {q : Nat} {a0 a1 a2 a3 a4 a5 a6 a7 a8 a9 a10 a11 a12 : Value} {l : List Value} (h : ∀ w, Below b v w → Blk w q (a0 :: a1 :: a2 :: a3 :: a4 :: a5 :: a6 :: a7 :: a8 :: a9 :: a10 :: a11 :: a12 :: l)) : (∀ w, Below b v w → w.cell? ⟨q, 0, none⟩ = some a0) ∧ (∀ w, Below b v w → w.cell? ⟨q, 1, none⟩ = some a1) ∧ (∀ w, Below b v w → w.cell? ⟨q, 2, none⟩ = some a2) ∧ (∀ w, Below b v w → w.cell? ⟨q, 3, none⟩ = some a3) ∧ (∀ w, Below b v w → w.cell? ⟨q, 4, none⟩ = some a4) ∧ (∀ w, Below b v w → w.cell? ⟨q, 5, none⟩ = some a5) ∧ (∀ w, Below b v w → w.cell? ⟨q, 6, none⟩ = some a6) ∧ (∀ w, Below b v w → w.cell? ⟨q, 7, none⟩ = some a7) ∧ (∀ w, Below b v w → w.cell? ⟨q, 8, none⟩ = some a8) ∧ (∀ w, Below b v w → w.cell? ⟨q, 9, none⟩ = some a9) ∧ (∀ w, Below b v w → w.cell? ⟨q, 10, none⟩ = some a10) ∧ (∀ w, Below b v w → w.cell? ⟨q, 11, none⟩ = some a11) ∧ (∀ w, Below b v w → w.cell? ⟨q, 12, none⟩ = some a12) := ⟨fun w k => (h w k).cell 0 rfl, fun w k => (h w k).cell 1 rfl, fun w k => (h w k).cell 2 rfl, fun w k => (h w k).cell 3 rfl, fun w k => (h w k).cell 4 rfl, fun w k => (h w k).cell 5 rfl, fun w k => (h w k).cell 6 rfl, fun w k => (h w k).cell 7 rfl, fun w k => (h w k).cell 8 rfl, fun w k => (h w k).cell 9 rfl, fun w k => (h w k).cell 10 rfl, fun w k => (h w k).cell 11 rfl, fun w k => (h w k).cell 12 rfl⟩
theorem Blk.k13 {b : Nat} {v : World} {q : Nat} {a0 a1 a2 a3 a4 a5 a6 a7 a8 a9 a10 a11 a12 : Value} {l : List Value} (h : ∀ w, Below b v w → Blk w q (a0 :: a1 :: a2 :: a3 :: a4 :: a5 :: a6 :: a7 :: a8 :: a9 :: a10 :: a11 :: a12 :: l)) : (∀ w, Below b v w → w.frozen? ⟨q, 0, none⟩ = false) ∧ (∀ w, Below b v w → w.frozen? ⟨q, 1, none⟩ = false) ∧ (∀ w, Below b v w → w.frozen? ⟨q, 2, none⟩ = false) ∧ (∀ w, Below b v w → w.frozen? ⟨q, 3, none⟩ = false) ∧ (∀ w, Below b v w → w.frozen? ⟨q, 4, none⟩ = false) ∧ (∀ w, Below b v w → w.frozen? ⟨q, 5, none⟩ = false) ∧ (∀ w, Below b v w → w.frozen? ⟨q, 6, none⟩ = false) ∧ (∀ w, Below b v w → w.frozen? ⟨q, 7, none⟩ = false) ∧ (∀ w, Below b v w → w.frozen? ⟨q, 8, none⟩ = false) ∧ (∀ w, Below b v w → w.frozen? ⟨q, 9, none⟩ = false) ∧ (∀ w, Below b v w → w.frozen? ⟨q, 10, none⟩ = false) ∧ (∀ w, Below b v w → w.frozen? ⟨q, 11, none⟩ = false) ∧ (∀ w, Below b v w → w.frozen? ⟨q, 12, none⟩ = false) := ⟨fun w k => (h w k).free 0 rfl, fun w k => (h w k).free 1 rfl, fun w k => (h w k).free 2 rfl, fun w k => (h w k).free 3 rfl, fun w k => (h w k).free 4 rfl, fun w k => (h w k).free 5 rfl, fun w k => (h w k).free 6 rfl, fun w k => (h w k).free 7 rfl, fun w k => (h w k).free 8 rfl, fun w k => (h w k).free 9 rfl, fun w k => (h w k).free 10 rfl, fun w k => (h w k).free 11 rfl, fun w k => (h w k).free 12 rfl⟩
theorem Blk.lt {w:World}{q:Nat}{l:List Value}{v:Value}(h:Blk w q (v :: l)):q<w.heap.size:=World.block_lt_of_cell? _ _ (h 0 v rfl).1
theorem Blk.below {w w':World}{q:Nat}{l:List Value}(h:Blk w q l)(hq:q<w.heap.size)(hb:Below w.heap.size w w'):Blk w' q l:=fun i v hi =>
 ⟨(hb.cell (p:=⟨q,i,none⟩) hq).trans (h i v hi).1,(hb.frozen (p:=⟨q,i,none⟩) hq).trans (h i v hi).2⟩
theorem Blk.set {w:World}{q:Nat}{l:List Value}(h:Blk w q l)(j:Nat)(u:Value):Blk (w.setCell ⟨q,j,none⟩ u) q (l.set j u):=fun i v hi=>by
 rw [List.getElem?_set] at hi
 by_cases e:j=i
 ·subst e
  rw [if_pos rfl] at hi
  by_cases hl:j<l.length
  ·rw [if_pos hl] at hi
   injection hi with hi
   subst hi
   have h0:=h j _ (List.getElem?_eq_getElem hl)
   exact ⟨zD h0.1,(World.frozen?_setCell _ _ _ _).trans h0.2⟩
  ·rw [if_neg hl] at hi;cases hi
 ·rw [if_neg e] at hi
  have h0:=h i v hi
  exact ⟨by rw [zA (fun e'=>e (by injection e'))];exact h0.1,(World.frozen?_setCell _ _ _ _).trans h0.2⟩
theorem Blk.other {w:World}{q r o:Nat}{u:Value}{l:List Value}(h:Blk w q l)(hne:r≠q):Blk (w.setCell ⟨r,o,none⟩ u) q l:=fun i v hi =>
 ⟨by rw [zA (fun e'=>hne (by injection e'))];exact (h i v hi).1,(World.frozen?_setCell _ _ _ _).trans (h i v hi).2⟩
theorem Blk.new (w:World)(l:List Value)(t:TypeId):Blk (w.alloc (.cells l.toArray t)) w.heap.size l:=fun i v hi =>
 ⟨by rw [World.cell?_alloc_at _ _ _ _ rfl];simpa using hi,World.frozen?_alloc_at _ _ _ _ rfl⟩
theorem Blk.alloc {w:World}{q:Nat}{l:List Value}(h:Blk w q l)(hq:q<w.heap.size)(o:Obj):Blk (w.alloc o) q l:=h.below hq (yX (Below.refl _ _) o)

def zLe (n m:Nat)(I J:Nat→Int):Bool:=decide (n=m) && decide (∀ i,i<n→I i=J i)
theorem zJu {n m:Nat}{I J:Nat→Int}(h:n≠m):zLe n m I J=false:=by simp [zLe,h]
def isK (e:Kp)(z x y:Int):Bool:=(e.z == z) && ((e.x == x) && (e.y == y))
def atK (n:Nat)(K:Nat→Kp)(z x y:Int):Int:=xI (fun i=>isK (K i) z x y) n
def RK (w:World)(p:Nat)(z x y:Int):Prop:=w.cell? ⟨p,0,none⟩=some (.int .i64 z)∧w.cell? ⟨p,1,none⟩=some (.int .i64 x)∧w.cell? ⟨p,2,none⟩=some (.int .i64 y)
theorem RK.below {w w':World}{p:Nat}{z x y:Int}(h:RK w p z x y)(hb:Below w.heap.size w w'):RK w' p z x y :=
 have hl:=World.block_lt_of_cell? _ _ h.1
 ⟨(hb.cell (p:=⟨p,0,none⟩) hl).trans h.1,(hb.cell (p:=⟨p,1,none⟩) hl).trans h.2.1,(hb.cell (p:=⟨p,2,none⟩) hl).trans h.2.2⟩
noncomputable def tC (k:Kp):Int:=if rtC k.z k.x k.y k.fn k.F=0 then (if zLe k.m (rtL k.z k.x k.y k.fn k.F).length k.I (nz (rtL k.z k.x k.y k.fn k.F))=true then 0 else 8) else rtC k.z k.x k.y k.fn k.F
noncomputable def kC (K:Nat→Kp)(i:Nat):Int:=if tC (K i)=0 then (if 0≤atK i K (K i).z (K i).x (K i).y then 6 else 0) else tC (K i)
noncomputable def yC (s:Int)(n:Nat)(K:Nat→Kp):Int:=if inB s 1 10=true then (if s<(n:Int) then 2 else uB (kC K) 0 n) else 3
theorem zLb {k:Kp}(h:rtC k.z k.x k.y k.fn k.F=0)(h2:zLe k.m (rtL k.z k.x k.y k.fn k.F).length k.I (nz (rtL k.z k.x k.y k.fn k.F))=false):tC k=8:=by unfold tC;rw [if_pos h,h2];rfl
def zL4 (w:World)(b n:Nat)(A:Nat→Kp):Prop:=b<w.heap.size∧∀ i,i<n→zHn w b (i * 5) (A i)∧(∃ fb,(A i).fa=some ⟨fb,0,none⟩∧fb<w.heap.size∧zJh w fb 0 (A i).fn (A i).F)∧zHo w (A i).ia (A i).m (A i).I
theorem zL4.below {w w':World}{b n:Nat}{A:Nat→Kp}(h:zL4 w b n A)(hb:Below w.heap.size w w'):zL4 w' b n A :=
 ⟨Nat.lt_of_lt_of_le h.1 hb.size,fun i hi=>by
  obtain ⟨h1,⟨fb,e1,e2,e3⟩,h3⟩:=h.2 i hi
  exact ⟨h1.below hb h.1,⟨fb,e1,Nat.lt_of_lt_of_le e2 hb.size,e3.below hb e2⟩,h3.below hb⟩⟩
theorem zL4.is {w:World}{b n:Nat}{A:Nat→Kp}(h:zL4 w b n A):IsKs w (some ⟨b,0,none⟩) n A :=
 .inr ⟨b,0,rfl,h.1,fun i hi=>by
  obtain ⟨h1,⟨fb,e1,e2,e3⟩,h3⟩:=h.2 i hi
  exact ⟨by rw [Nat.zero_add];exact h1,.inr ⟨fb,0,e1,e2,e3⟩,h3⟩⟩
def CaO (w:World)(q o:Nat)(s:Int)(v:Value):Prop:=w.cell? ⟨q,o,none⟩=some (.int .i64 s)∧w.cell? ⟨q,o+1,none⟩=some v
theorem CaO.below {w w':World}{q o:Nat}{s:Int}{v:Value}(h:CaO w q o s v)(hb:Below w.heap.size w w'):CaO w' q o s v :=
 have hl:=World.block_lt_of_cell? _ _ h.1
 ⟨(hb.cell (p:=⟨q,o,none⟩) hl).trans h.1,(hb.cell (p:=⟨q,o+1,none⟩) hl).trans h.2⟩
theorem zKe (q o:Nat)(s:Int)(a:Option Addr)(n cap:Nat)(K:Nat→Kp)(z x y:Int)(w:World)(hc:CaO w q o s (.slice a n cap))(hp:IsKs w a n K)(hn:n≤1048576) :
  Calls Tryz.prog 68 #[.pointer (some ⟨q,o,none⟩),xK z x y] w fun e w'=>e=.returned (.int .i64 (atK n K z x y))∧Bw w w':=by
 have HP:Hid (IsKs w a n K):=hp
 have HC:Hid (CaO w q o s (.slice a n cap)):=hc
 clear hp hc
 go_enter Tryz.func68,Tryz.ntmps68
 go_wp2_with fail
 generalize hW:(w.alloc _:World)=W
 have HB0:Hid (Bw w W):=by show Below _ _ _;subst hW;exact Qb
 have HR:Hid (RK W w.heap.size z x y):=by show RK _ _ _ _ _;subst hW;exact ⟨by simp [go_sem],by simp [go_sem],by simp [go_sem]⟩
 clear hW
 go_loopw [5] (fun i wr=>∃ k:Nat,k≤n∧i=.int .i64 (k:Int)∧(∀ j,j<k→isK (K j) z x y=false)∧Bw W wr) (fun i _=>n - (intOf i).toNat)
 case atStart=>exact ⟨0,by omega,rfl,fun j hj=>absurd hj (Nat.not_lt_zero _),Below.refl _ _⟩
 case round =>
  obtain ⟨k,hk,rfl,hno,hB⟩:=hrel
  have HN:Hid (∀ j,j<k→isK (K j) z x y=false):=hno
  have HB:Hid (Bw W wr):=hB
  obtain ⟨m0,m1⟩:=HC.out.below (zB HB0.out hB)
  by_cases hlt:k<n
  ·rcases HP.out with h0 | ⟨b,off,rfl,hb,hpt⟩
   ·omega
   obtain ⟨q0,q1,q2,q3,q4⟩:=((hpt.below (zB HB0.out hB) hb) k hlt).1
   obtain ⟨p0,p1,p2⟩:=HR.out.below hB
   have hi:(k:Int)<(n:Int):=by omega
   have hi0:(0:Int)≤(k:Int):=by omega
   have heq:=fun w=>zCv (K k).z (K k).x (K k).y z x y w
   clear hno hB hpt
   have hE0:((K k).z == z && ((K k).x == x && (K k).y == y))=isK (K k) z x y:=rfl
   simp only [hE0] at heq
   clear hE0
   cases hE:isK (K k) z x y
   ·simp only [hE] at heq
    have HN2:Hid (∀ j,j<k+1→isK (K j) z x y=false):=fun j hj=>by
     by_cases e:j=k
     ·rw [e];exact hE
     ·exact HN.out j (by omega)
    clear hE
    generalize (K k).z=rz at *
    generalize (K k).x=rx at *
    generalize (K k).y=ry at *
    go_wp2_with fail
    go_quiet (fail)
    go_wp2_with fail
    exact ⟨⟨k+1,by omega,by simp,HN2.out,below_drewN HB.out _⟩,by simp [intOf];omega⟩
   ·simp only [hE] at heq
    have HY:Hid (atK n K z x y=(k:Int)):=xS (G:=fun i=>isK (K i) z x y) hlt hE HN.out
    clear hE
    generalize (K k).z=rz at *
    generalize (K k).x=rx at *
    generalize (K k).y=ry at *
    go_wp2_with fail
    go_quiet (fail)
    go_wp2
    go_ret
    exact ⟨zH HY.out.symm,below_drewN (zB HB0.out HB.out) _⟩
  ·obtain rfl:n=k:=by omega
   have HY:Hid (atK n K z x y=-1):=uK (G:=fun i=>isK (K i) z x y) HN.out
   go_wp2
   go_ret
   exact ⟨zH HY.out.symm,zB HB0.out HB.out⟩

theorem laid_k:laidOutB Tryz.prog=true:=by kernel_rfl
theorem zJw:(111:TypeId)<Tryz.prog.types.size:=of_decide_eq_true (by kernel_rfl)
theorem zK7:(match Tryz.prog.underlying 111 with | some (.array _ _) | some (.struct _)=>true | _=>false)=true:=by kernel_rfl
theorem law_ref:WideMaps.KeyLaw Tryz.prog 111:=deep_law_laid laid_k (m:=3) (by omega) zJw (by kernel_rfl) zK7
theorem xH:Go.Maps.Keyed Tryz.prog 111:=Go.Maps.Keyed.of_law law_ref
def I64 (z:Int):Prop:=(Lit.int .i64 z).wf=true
theorem zGd:Tryz.prog.cellsOf 111=3:=by kernel_rfl
theorem zI6:Tryz.prog.cellsOf 2=1:=by kernel_rfl
theorem zJj:Tryz.prog.underlying 2=some (.int .i64):=by kernel_rfl
theorem zLo:Tryz.prog.keyType 111=true:=by kernel_rfl
theorem zId:∃ m,Tryz.prog.types.size=m+1:=⟨_,(Nat.succ_pred_eq_of_pos (Nat.lt_of_le_of_lt (Nat.zero_le _) zJw)).symm⟩
def uS (z x y:Int):Lit:=.string (keyBytes [.int .i64 z,.int .i64 x,.int .i64 y])
theorem uY {z x y:Int}(hz:I64 z)(hx:I64 x)(hy:I64 y):keyOf Tryz.prog 111 (xK z x y)=some (uS z x y):=by
 unfold I64 at hz hx hy
 obtain ⟨m,hm⟩:=zId
 have hi:∀ a:Int,(Lit.int .i64 a).wf=true→Tryz.prog.keyLits (m+1) 2 [.int .i64 a]=some [.int .i64 a]:=fun a ha=>by
  simp [Program.keyLits,zJj,ha]
 have hk:Tryz.prog.keyLits (m+1+1) 111 [.int .i64 z,.int .i64 x,.int .i64 y]=some [.int .i64 z,.int .i64 x,.int .i64 y]:=by
  unfold Program.keyLits
  simp [Tryz.underlying111,zGd,zI6,hi z hz,hi x hx,hi y hy]
 unfold keyOf
 rw [Tryz.underlying111]
 simp [zLo,Value.formed,Tryz.underlying111,zGd,Value.cells,hm,hk,uS]
theorem zKf {z x y z' x' y':Int}(hz:I64 z)(hx:I64 x)(hy:I64 y)(hz':I64 z')(hx':I64 x')(hy':I64 y')(h:uS z x y=uS z' x' y'):z=z'∧x=x'∧y=y':=by
 have:=xH.inj (uY hz hx hy) (by rw [h];exact uY hz' hx' hy')
 simpa using this
theorem zCr (z x y:Int):WideAt.IsKeyLit (uS z x y):=trivial
abbrev agV (z x y:Int)(fa:Option Addr)(fn fc:Nat)(ia:Option Addr)(m ic:Nat)(t:Int):Value:=.agg #[.int .i64 z,.int .i64 x,.int .i64 y,.slice fa fn fc,.slice ia m ic,.int .i64 t]
def RV:Value→Option (DataW Value × List MemPlace)
 | .agg cs=>match cs.toList with
  | [.int .i64 _,.int .i64 _,.int .i64 _,.slice _ _ _,.slice _ _ _,.int .i64 _]=>some (.held (.agg cs),[])
  | _=>none
 | _=>none
theorem zL1 (z x y:Int)(fa:Option Addr)(fn fc:Nat)(ia:Option Addr)(m ic:Nat)(t:Int):RV (agV z x y fa fn fc ia m ic t)=some (.held (agV z x y fa fn fc ia m ic t),[]):=rfl
theorem zIa {v:Value}{d:DataW Value}{ps:List MemPlace}(h:RV v=some (d,ps)):d=.held v∧∃ z x y fa fn fc ia m ic t,v=agV z x y fa fn fc ia m ic t:=by
 unfold RV at h
 split at h
 ·rename_i cs
  split at h
  ·rename_i hl
   obtain ⟨l⟩:=cs
   replace hl:l=_:=hl
   subst hl
   injection h with h
   injection h with h1 h2
   exact ⟨h1.symm,_,_,_,_,_,_,_,_,_,_,rfl⟩
  ·cases h
 ·cases h
theorem zW {w w':World}{P:Program}{k:TypeId}{mb n:Nat}{D:DataW Value}(h:w.ownsMap P k RV mb n D)(hb:Below w.heap.size w w'):w'.ownsMap P k RV mb n D:=by
 have hl:=h.lt
 obtain ⟨es,c,h1,h2⟩:=h
 exact ⟨es,c,(hb.block mb hl).trans h1,h2⟩
theorem zFg (w:World):(zeroValue 181).run Tryz.prog w=.ok (agV 0 0 0 none 0 0 none 0 0 0) w:=by kernel_rfl
def ShA (w:World)(p:Nat)(s t:Int)(mb:Nat):Prop:=w.cell? ⟨p,0,none⟩=some (.int .i64 s)∧w.cell? ⟨p,1,none⟩=some (.int .i64 t)∧w.cell? ⟨p,2,none⟩=some (.map (some mb))
theorem ShA.below {w w':World}{p mb:Nat}{s t:Int}(h:ShA w p s t mb)(hb:Below w.heap.size w w'):ShA w' p s t mb :=
 have hl:=World.block_lt_of_cell? _ _ h.1
 ⟨(hb.cell (p:=⟨p,0,none⟩) hl).trans h.1,(hb.cell (p:=⟨p,1,none⟩) hl).trans h.2.1,(hb.cell (p:=⟨p,2,none⟩) hl).trans h.2.2⟩
theorem zLm {w:World}{mb n:Nat}{D:DataW Value}{z x y:Int}(hm:w.ownsMap Tryz.prog 111 RV mb n D)(hz:I64 z)(hx:I64 x)(hy:I64 y) :
  ∃ a b c fa fn fc ia m ic t,∀ W,Bw w W→(Instr.lookup 171 (.map (some mb)) (xK z x y) true).run Tryz.prog W=.ok (.tuple #[agV a b c fa fn fc ia m ic t,.bool (Maps.has D (uS z x y))]) W:=by
 have key:∀ W,Bw w W→∃ v,D.atKey (uS z x y) (.held (agV 0 0 0 none 0 0 none 0 0 0))=.held v∧(∃ a b c fa fn fc ia m ic t,v=agV a b c fa fn fc ia m ic t)∧(Instr.lookup 171 (.map (some mb)) (xK z x y) true).run Tryz.prog W=.ok (.tuple #[v,.bool (Maps.has D (uS z x y))]) W:=fun W hW=>by
  obtain ⟨v,ps,hr,hv⟩:=(zW hm hW).look_ok xH Tryz.underlying171 (zFg _) (zL1 0 0 0 none 0 0 none 0 0 0) (uY hz hx hy)
  obtain ⟨e,h⟩:=zIa hv
  exact ⟨v,e,h,hr⟩
 obtain ⟨v,hv,⟨a,b,c,fa,fn,fc,ia,m,ic,t,rfl⟩,_⟩:=key w (Below.refl _ _)
 refine ⟨a,b,c,fa,fn,fc,ia,m,ic,t,fun W hW=>?_⟩
 obtain ⟨v',hv',_,hr⟩:=key W hW
 rw [hv] at hv'
 injection hv' with e
 rw [e];exact hr
theorem zBh (p mb n:Nat)(s t:Int)(D:DataW Value)(z x y:Int)(w:World)(hp:ShA w p s t mb)(hm:w.ownsMap Tryz.prog 111 RV mb n D)(hz:I64 z)(hx:I64 x)(hy:I64 y) :
  Calls Tryz.prog 81 #[.pointer (some ⟨p,0,none⟩),xK z x y] w fun e w'=>e=.returned (.bool (Maps.has D (uS z x y)))∧Bw w w':=by
 obtain ⟨va,vb,vc,fa,fn,fc,ia,m,ic,vt,hL⟩:=zLm hm hz hx hy
 have HP:Hid (ShA w p s t mb):=hp
 generalize Maps.has D (uS z x y)=B at *
 clear hm hz hx hy hp
 go_enter Tryz.func81,Tryz.ntmps81
 go_wp2_with fail
 generalize hW:(w.alloc _:World)=W
 have HB0:Bw w W:=by subst hW;exact Qb
 have HR:RK W w.heap.size z x y:=by subst hW;refine ⟨?_,?_,?_⟩ <;> simp [go_sem]
 have c2:∀ W',Bw W W'→W'.cell? ⟨p,2,none⟩=some (.map (some mb)):=fun W' h=>(HP.out.below (zB HB0 h)).2.2
 have r0:∀ W',Bw W W'→W'.cell? ⟨w.heap.size,0,none⟩=some (.int .i64 z):=fun W' h=>(HR.below h).1
 have r1:∀ W',Bw W W'→W'.cell? ⟨w.heap.size,1,none⟩=some (.int .i64 x):=fun W' h=>(HR.below h).2.1
 have r2:∀ W',Bw W W'→W'.cell? ⟨w.heap.size,2,none⟩=some (.int .i64 y):=fun W' h=>(HR.below h).2.2
 have l5:∀ W',Bw W W'→(Instr.lookup 171 (.map (some mb)) (xK z x y) true).run Tryz.prog W'=.ok (.tuple #[agV va vb vc fa fn fc ia m ic vt,.bool B]) W':=fun W' h=>hL W' (zB HB0 h)
 have HB:Hid (Bw w W):=HB0
 clear hW hL HR HB0
 refine wp_region_noPanic ?_
 refine wp_region_held_drew (S:=fun W'=>Bw W W') (by kernel_rfl) (by have:=Below.refl W.heap.size W;exact Qb) (fun hHeld=>?_)
 have hSd:Bw W W.drew:=hHeld
 refine zE (i:=0) (d:=some 8) rfl rfl (hS:=hSd) ?_
 try simp only [Act.put,Qx,Qy,Qz]
 refine zE (i:=1) (d:=some 9) rfl rfl (hS:=hSd) ?_
 try simp only [Act.put,Qx,Qy,Qz]
 refine zE (i:=2) (d:=some 10) rfl rfl (hS:=hSd) ?_
 try simp only [Act.put,Qx,Qy,Qz]
 refine zE (i:=3) (d:=some 11) rfl rfl (hS:=hSd) ?_
 try simp only [Act.put,Qx,Qy,Qz]
 refine zE (i:=4) (d:=some 12) rfl rfl (hS:=hSd) ?_
 try simp only [Act.put,Qx,Qy,Qz]
 refine zE (i:=5) (d:=some 13) rfl rfl (hS:=hSd) ?_
 try simp only [Act.put,Qx,Qy,Qz]
 refine zE (i:=6) (d:=some 7) rfl rfl (hS:=hSd) ?_
 try simp only [Act.put,Qx,Qy,Qz]
 refine zE (i:=7) (d:=some 14) rfl rfl (hS:=hSd) ?_
 try simp only [Act.put,Qx,Qy,Qz]
 refine zE (i:=8) (d:=some 15) rfl rfl (hS:=hSd) ?_
 try simp only [Act.put,Qx,Qy,Qz]
 refine zN 9 fun K hK=>?_
 rw [if_pos (by rfl)]
 go_simp
 generalize hwA:(World.drew (World.alloc _ _):World)=wA
 have hSA:Bw W wA:=by subst hwA;have:=hSd;exact Qb
 have hT:zC wA W.heap.size 6:=by
  subst hwA
  intro o ho
  have:o=0∨o=1∨o=2∨o=3∨o=4∨o=5:=by omega
  rcases this with rfl | rfl | rfl | rfl | rfl | rfl <;> exact ⟨⟨_,by simp [go_sem];rfl⟩,by simp [go_sem]⟩
 clear hwA
 refine hK.out _ _ hSA (fun hHeld=>?_)
 clear hK K
 try simp only [Act.put,Qx,Qy,Qz]
 refine zN 10 fun K hK=>?_
 rw [if_pos (by rfl)]
 have t0:=hT.cell 0 (by omega)
 have t1:=hT.cell 1 (by omega)
 have t2:=hT.cell 2 (by omega)
 have t3:=hT.cell 3 (by omega)
 have t4:=hT.cell 4 (by omega)
 have t5:=hT.cell 5 (by omega)
 have f0:=(hT 0 (by omega)).2
 have f1:=(hT 1 (by omega)).2
 have f2:=(hT 2 (by omega)).2
 have f3:=(hT 3 (by omega)).2
 have f4:=(hT 4 (by omega)).2
 have f5:=(hT 5 (by omega)).2
 go_simp
 generalize hwC:(World.setCell _ _ _:World)=wC
 have hSC:Bw W wC:=by subst hwC;exact (((((hSA.setCell (Nat.le_refl _) _).setCell (Nat.le_refl _) _).setCell (Nat.le_refl _) _).setCell (Nat.le_refl _) _).setCell (Nat.le_refl _) _).setCell (Nat.le_refl _) _
 clear hwC
 refine hK.out _ _ hSC (fun hHeld=>?_)
 clear hK K hT
 try simp only [Act.put,Qx,Qy,Qz]
 refine zN 11 fun K hK=>?_
 rw [if_pos (by rfl)]
 go_simp
 refine hK.out _ _ hSC (fun hHeld=>?_)
 clear hK K
 try simp only [Act.put,Qx,Qy,Qz]
 refine wpAnyH_done (by kernel_rfl) ?_ _
 refine NoPanic.normal ?_
 have HC3:Hid (Bw w wC):=zB HB.out hSC
 clear c2 r0 r1 r2 l5 hSA hSd hSC
 go_wp2
 go_ret
 exact ⟨rfl,HC3.out⟩
def zGp (w:World)(k r:Kp):Prop:=(r.z=k.z∧r.x=k.x∧r.y=k.y)∧r.fn=k.fn∧r.m=k.m∧(zIb w r.fa k.fn r.F∧∀ i,i<k.fn→(r.F i).same (k.F i))∧zHo w r.ia k.m k.I
theorem zGp.below {w w':World}{k r:Kp}(h:zGp w k r)(hb:Below w.heap.size w w'):zGp w' k r:=by
 obtain ⟨h1,h2,h3,⟨h4,h5⟩,h6⟩:=h
 exact ⟨h1,h2,h3,⟨h4.below hb,h5⟩,h6.below hb⟩
def zHm (w:World)(a:Option Addr)(n:Nat)(K R:Nat→Kp):Prop:=n=0∨∃ g,a=some ⟨g,0,none⟩∧g<w.heap.size∧∀ i,i<n→zHn w g (i * 5) (R i)∧zGp w (K i) (R i)
theorem zHm.below {w w':World}{a:Option Addr}{n:Nat}{K R:Nat→Kp}(h:zHm w a n K R)(hb:Below w.heap.size w w'):zHm w' a n K R :=
 h.imp id (fun ⟨g,e,h1,h2⟩=>⟨g,e,Nat.lt_of_lt_of_le h1 hb.size,fun i hi=>⟨(h2 i hi).1.below hb h1,(h2 i hi).2.below hb⟩⟩)
theorem zKn (z x y:Int)(a a':Option Addr)(n cap cap':Nat)(G H:Nat→xG)(w:World)(hg:zIb w a n G)(hh:zIb w a' n H)(hs:∀ i,i<n→(G i).same (H i))(hn:n≤1048576)(hk:∀ i,i<n→(H i).n≤1048576) :
  Calls Tryz.prog 192 #[.agg #[.int .i64 z,.int .i64 x,.int .i64 y,.slice a n cap],.agg #[.int .i64 z,.int .i64 x,.int .i64 y,.slice a' n cap']] w fun e w'=>e=.returned (.bool true)∧Bw w w':=by
 have HG:Hid (zIb w a n G):=hg
 have HH:Hid (zIb w a' n H):=hh
 have HS:Hid (∀ i,i<n→(G i).same (H i)):=hs
 have HK:Hid (∀ i,i<n→(H i).n≤1048576):=hk
 clear hg hh hs hk
 go_enter Tryz.func192,Tryz.ntmps192
 go_wp2_with fail
 generalize hW:((w.alloc _).alloc _:World)=W
 have hB:Bw w W:=by subst hW;exact Qb
 have HB:Hid (Bw w W):=hB
 have c0:W.cell? ⟨w.heap.size,3,none⟩=some (.slice a n cap):=by subst hW;simp [go_sem]
 have c1:W.cell? ⟨w.heap.size+1,3,none⟩=some (.slice a' n cap'):=by subst hW;simp [go_sem]
 clear hW hB
 refine (zCw z x y _).mono ?_
 rintro e w1 ⟨rfl,hb1⟩
 have d0:=zFb hb1 c0
 have d1:=zFb hb1 c1
 have hB1:=zB HB.out hb1
 have HB1:Hid (Bw w w1):=hB1
 have HC:=zLu a a' n cap cap' G H w1 (HG.out.below hB1) (HH.out.below hB1) HS.out hn HK.out
 clear c0 c1 hb1 hB1
 go_wp2_with fail
 refine Calls.mono HC ?_
 rintro e w2 ⟨rfl,hb2⟩
 go_wp2
 go_ret
 exact ⟨rfl,zB HB1.out hb2⟩
theorem zF8 (k a c:Kp)(w:World)(ha:zGp w k a)(hc:zGp w k c)(hs:zEe k) :
  Calls Tryz.prog 149 #[kpV a,kpV c] w fun e w'=>e=.returned (.bool true)∧Bw w w':=by
 obtain ⟨⟨e1,e2,e3⟩,e4,e5,⟨hF,hFs⟩,hN⟩:=ha
 obtain ⟨⟨d1,d2,d3⟩,d4,d5,⟨hG,hGs⟩,hM⟩:=hc
 unfold kpV
 rw [e1,e2,e3,e4,e5,d1,d2,d3,d4,d5]
 have HEt:Hid (∀ W,Bw w W→Calls Tryz.prog 192 #[.agg #[.int .i64 k.z,.int .i64 k.x,.int .i64 k.y,.slice a.fa k.fn a.fc],.agg #[.int .i64 k.z,.int .i64 k.x,.int .i64 k.y,.slice c.fa k.fn c.fc]] W fun e w'=>e=.returned (.bool true)∧Bw W w'):=fun W h =>
  zKn k.z k.x k.y a.fa c.fa k.fn a.fc c.fc a.F c.F W (hF.below h) (hG.below h) (fun i hi=>xG.same_trans (hFs i hi) (xG.same_symm (hGs i hi))) hs.1.1 (fun i hi=>by rw [(hGs i hi).2.2.2.2.1];exact (hs.1.2 i hi).1)
 have HN:Hid (zHo w a.ia k.m k.I):=hN
 have HM:Hid (zHo w c.ia k.m k.I):=hM
 have hm:=hs.2
 clear hF hG hFs hGs hN hM hs e1 e2 e3 e4 e5 d1 d2 d3 d4 d5
 generalize a.fa=afa at *
 generalize c.fa=cfa at *
 generalize a.fc=afc at *
 generalize c.fc=cfc at *
 generalize a.ia=aia at *
 generalize c.ia=cia at *
 generalize a.ic=aic at *
 generalize c.ic=cic at *
 go_enter Tryz.func149,Tryz.ntmps149
 go_wp2_with fail
 generalize hW:((w.alloc _).alloc _:World)=W
 have hB0:Bw w W:=by subst hW;exact Qb
 have c4:∀ W',Bw W W'→W'.cell? ⟨w.heap.size,4,none⟩=some (.slice aia k.m aic):=fun W' h=>by rw [h.cell (by subst hW;simp;omega)];subst hW;simp [go_sem]
 have d4:∀ W',Bw W W'→W'.cell? ⟨w.heap.size+1,4,none⟩=some (.slice cia k.m cic):=fun W' h=>by rw [h.cell (by subst hW;simp)];subst hW;simp [go_sem]
 clear hW
 refine (HEt.out W hB0).mono ?_
 rintro e w1 ⟨rfl,hb1⟩
 have g4:=c4 w1 hb1
 have l4:=d4 w1 hb1
 have hB1:Bw w w1:=zB hB0 hb1
 clear c4 d4 hb1 hB0
 go_wp2_with fail
 refine (zF9 _ _ k.m _ _ k.I _ (HN.out.below hB1) (HM.out.below hB1) hm).mono ?_
 rintro e w2 ⟨rfl,hb2⟩
 have HB2:Hid (Bw w w2):=zB hB1 hb2
 clear hb2
 go_wp2
 go_ret
 exact ⟨rfl,HB2.out⟩
theorem zE7 (a' c':Option Addr)(n ca cc:Nat)(K A H:Nat→Kp)(w:World)(ha:zHm w a' n K A)(hh:zHm w c' n K H)(hs:yE n K) :
  Calls Tryz.prog 99 #[.slice a' n ca,.slice c' n cc] w fun e w'=>e=.returned (.bool true)∧Bw w w':=by
 have HA:Hid (zHm w a' n K A):=ha
 have HH:Hid (zHm w c' n K H):=hh
 have HS:Hid (yE n K):=hs
 have hn:=hs.1
 clear ha hh hs
 go_enter Tryz.func99,Tryz.ntmps99
 go_wp2
 go_loopw [5] (fun i wr=>∃ k:Nat,k≤n∧i=.int .i64 k∧Bw w wr) (fun i _=>n - (intOf i).toNat)
 case atStart=>exact ⟨0,by omega,rfl,Below.refl _ _⟩
 case round =>
  obtain ⟨k,hk,rfl,hB⟩:=hrel
  by_cases hlt:k<n
  ·rcases HA.out.below hB with h0 | ⟨b,rfl,hbl,hAr⟩
   ·omega
   rcases HH.out.below hB with h0 | ⟨d,rfl,hdl,hHr⟩
   ·omega
   have HAr:Hid (∀ W',Bw wr W'→zHn W' b (k * 5) (A k)∧zGp W' (K k) (A k)):=fun W' h=>⟨(hAr k hlt).1.below h hbl,(hAr k hlt).2.below h⟩
   have HHr:Hid (∀ W',Bw wr W'→zHn W' d (k * 5) (H k)∧zGp W' (K k) (H k)):=fun W' h=>⟨(hHr k hlt).1.below h hdl,(hHr k hlt).2.below h⟩
   clear hAr hHr
   have a0:∀ W',Bw wr W'→W'.cell? ⟨b,k * 5,none⟩=some (.int .i64 (A k).z):=fun W' h=>(HAr.out W' h).1.1
   have a1:∀ W',Bw wr W'→W'.cell? ⟨b,k * 5+1,none⟩=some (.int .i64 (A k).x):=fun W' h=>(HAr.out W' h).1.2.1
   have a2:∀ W',Bw wr W'→W'.cell? ⟨b,k * 5+2,none⟩=some (.int .i64 (A k).y):=fun W' h=>(HAr.out W' h).1.2.2.1
   have a3:∀ W',Bw wr W'→W'.cell? ⟨b,k * 5+3,none⟩=some (.slice (A k).fa (A k).fn (A k).fc):=fun W' h=>(HAr.out W' h).1.2.2.2.1
   have a4:∀ W',Bw wr W'→W'.cell? ⟨b,k * 5+4,none⟩=some (.slice (A k).ia (A k).m (A k).ic):=fun W' h=>(HAr.out W' h).1.2.2.2.2
   have h0:∀ W',Bw wr W'→W'.cell? ⟨d,k * 5,none⟩=some (.int .i64 (H k).z):=fun W' h=>(HHr.out W' h).1.1
   have h1:∀ W',Bw wr W'→W'.cell? ⟨d,k * 5+1,none⟩=some (.int .i64 (H k).x):=fun W' h=>(HHr.out W' h).1.2.1
   have h2:∀ W',Bw wr W'→W'.cell? ⟨d,k * 5+2,none⟩=some (.int .i64 (H k).y):=fun W' h=>(HHr.out W' h).1.2.2.1
   have h3:∀ W',Bw wr W'→W'.cell? ⟨d,k * 5+3,none⟩=some (.slice (H k).fa (H k).fn (H k).fc):=fun W' h=>(HHr.out W' h).1.2.2.2.1
   have h4:∀ W',Bw wr W'→W'.cell? ⟨d,k * 5+4,none⟩=some (.slice (H k).ia (H k).m (H k).ic):=fun W' h=>(HHr.out W' h).1.2.2.2.2
   have HEQ:Hid (∀ W',Bw wr W'→Calls Tryz.prog 149 #[kpV (A k),kpV (H k)] W' fun e w'=>e=.returned (.bool true)∧Below W'.heap.size W' w'):=fun W' h=>zF8 (K k) (A k) (H k) W' (HAr.out W' h).2 (HHr.out W' h).2 (HS.out.2 k hlt)
   have HB:Hid (Bw w wr):=hB
   have HLT:Hid (k<n):=hlt
   have hr:Bw wr wr:=Below.refl _ _
   clear hB
   have hi:(k:Int)<(n:Int):=by omega
   have hi0:(0:Int)≤(k:Int):=by omega
   go_wp2
   go_region_held3 (fun W'=>Bw wr W') ((repeat (first|exact Qr _ _|assumption|refine Qd ?_|refine Qa ?_ _|refine Qt ?_|refine Qs ?_ _|refine Qo ?_ ?_ _ _)))
    (first
     | (go_at_call 149;refine (HEQ.out _ (by assumption)).mono ?_;rintro e w' ⟨rfl,hb⟩)
     | fail)
   go_wp2
   go_roundw
   case rel=>exact ⟨k+1,by have:=HLT.out;omega,by go_num,zB HB.out (by assumption)⟩
   case measure=>have:=HLT.out;simp [intOf];omega
  ·go_wp2
   go_ret
   exact ⟨rfl,hB⟩
theorem zE8 (s:Int)(a c:Option Addr)(n ca cc:Nat)(K A H:Nat→Kp)(w:World)(ha:zHm w a n K A)(hh:zHm w c n K H)(hs:yE n K) :
  Calls Tryz.prog 50 #[caV s (.slice a n ca),caV s (.slice c n cc)] w fun e w'=>e=.returned (.bool true)∧Bw w w':=by
 have HA:Hid (zHm w a n K A):=ha
 have HH:Hid (zHm w c n K H):=hh
 clear ha hh
 go_enter Tryz.func50,Tryz.ntmps50
 go_wp2_with fail
 generalize hW:((w.alloc _).alloc _:World)=W
 have hB0:Bw w W:=by subst hW;exact Qb
 clear hW
 refine (zE7 a c n ca cc K A H W (HA.out.below hB0) (HH.out.below hB0) hs).mono ?_
 rintro e w1 ⟨rfl,hb1⟩
 go_wp2
 go_ret
 exact ⟨rfl,zB hB0 hb1⟩
def OwnR (w:World)(lo hi:Nat)(a:Option Addr)(m:Nat)(N C:Nat→Nat):Prop:=m=0∨∃ g q,a=some ⟨g,0,none⟩∧zHl w lo hi g m N C q
theorem OwnR.away {w w':World}{lo hi lo' hi' m:Nat}{a:Option Addr}{N C:Nat→Nat}(h:OwnR w lo hi a m N C)(hm:zI lo' hi' w w')(ho:hi'≤lo∨hi≤lo'):OwnR w' lo hi a m N C:=by
 rcases h with h | ⟨g,q,e,hq⟩
 ·exact .inl h
 ·exact .inr ⟨g,q,e,hq.away hm ho⟩
theorem zG1 (a:Option Addr)(cap:Nat)(k:Int)(w:World) :
  Calls Tryz.prog 150 #[.slice a 0 cap,.int .i64 k] w fun e w'=>e=.returned (.int .i64 k)∧w=w':=by
 go_enter Tryz.func150,Tryz.ntmps150
 go_wp2_with fail
 go_loopw [1,5] (fun kk i wr=>kk=.int .i64 k∧i=.int .i64 0∧w=wr) (fun _ _ _=>0)
 case atStart=>exact ⟨rfl,rfl,rfl⟩
 case round =>
  obtain ⟨rfl,rfl,rfl⟩:=hrel
  go_wp2
  go_ret
  exact ⟨rfl,rfl⟩
theorem zHa (a:Option Addr)(cap:Nat)(k:Int)(w:World) :
  Calls Tryz.prog 182 #[.slice a 0 cap,.int .i64 k] w fun e w'=>e=.returned (.int .i64 k)∧w=w':=by
 go_enter Tryz.func182,Tryz.ntmps182
 go_wp2_with fail
 go_loopw [1,5] (fun kk i wr=>kk=.int .i64 k∧i=.int .i64 0∧w=wr) (fun _ _ _=>0)
 case atStart=>exact ⟨rfl,rfl,rfl⟩
 case round =>
  obtain ⟨rfl,rfl,rfl⟩:=hrel
  go_wp2
  go_ret
  exact ⟨rfl,rfl⟩
end Go.Proofs.YtpaiholildedcaaGreat
