/- Texts. -/
import Derived.Test.YtpaiholildedcaaGreatVLabelsIn9
import Derived.Test.YtpaiholildedcaaGreatVLabelsIn7
set_option linter.unusedSimpArgs false
set_option linter.unusedVariables false
set_option maxRecDepth 100000
set_option maxHeartbeats 32000000
namespace Go.Proofs.YtpaiholildedcaaGreat
open Go.RowKit
def uC (w:World)(b:Nat)(z x y:Int):Prop:=w.cell? ⟨b,0,none⟩=some (.int .i64 z)∧w.cell? ⟨b,1,none⟩=some (.int .i64 x)∧w.cell? ⟨b,2,none⟩=some (.int .i64 y)
theorem uC.lt {w:World}{b:Nat}{z x y:Int}(h:uC w b z x y):b<w.heap.size:=World.block_lt_of_cell? _ _ h.1
theorem uC.below {w w':World}{b:Nat}{z x y:Int}(h:uC w b z x y)(hb:Below w.heap.size w w'):uC w' b z x y :=
 ⟨(hb.cell (p:=⟨b,0,none⟩) h.lt).trans h.1,(hb.cell (p:=⟨b,1,none⟩) h.lt).trans h.2.1,(hb.cell (p:=⟨b,2,none⟩) h.lt).trans h.2.2⟩
theorem uC.apart {w:World}{b r o:Nat}{v:Value}{z x y:Int}(h:uC w b z x y)(hr:r≠b):uC (w.setCell ⟨r,o,none⟩ v) b z x y :=
 ⟨(zB (fun e=>hr (by injection e))).trans h.1,(zB (fun e=>hr (by injection e))).trans h.2.1,(zB (fun e=>hr (by injection e))).trans h.2.2⟩
theorem uC.put {W:World}{r:Nat}{z x y:Int}(hT:zD W r 3):uC (((W.setCell ⟨r,0,none⟩ (.int .i64 z)).setCell ⟨r,1,none⟩ (.int .i64 x)).setCell ⟨r,2,none⟩ (.int .i64 y)) r z x y:=by
 obtain ⟨x0,h0⟩:=(hT 0 (by omega)).1
 obtain ⟨x1,h1⟩:=(hT 1 (by omega)).1
 obtain ⟨x2,h2⟩:=(hT 2 (by omega)).1
 have ne:∀ i j:Nat,i≠j→(⟨r,i,none⟩:Addr)≠⟨r,j,none⟩:=fun i j hij h=>hij (by injection h)
 refine ⟨?_,?_,?_⟩
 ·rw [zB (ne 2 0 (by omega)),zB (ne 1 0 (by omega))];exact zG h0
 ·rw [zB (ne 2 1 (by omega))];exact zG (by rw [zB (ne 0 1 (by omega))];exact h1)
 ·exact zG (by rw [zB (ne 1 2 (by omega)),zB (ne 0 2 (by omega))];exact h2)
theorem zD.putV {W:World}{r n o r':Nat}{v:Value}(h:zD W r n):zD (W.setCell ⟨r',o,none⟩ v) r n:=fun o' ho=>by
 obtain ⟨⟨u,hu⟩,hf⟩:=h o' ho
 refine ⟨?_,by rw [World.frozen?_setCell];exact hf⟩
 by_cases e:(⟨r',o,none⟩:Addr)=⟨r,o',none⟩
 ·rw [e];exact ⟨v,World.cell?_setCell_same _ _ _ (by rw [hu])⟩
 ·exact ⟨u,by rw [zB e];exact hu⟩
theorem zD.lt3 {W:World}{r:Nat}(h:zD W r 3):r<W.heap.size:=by
 obtain ⟨v,hv⟩:=(h 0 (by omega)).1
 exact World.block_lt_of_cell? _ _ hv
theorem Reg.store3 {B r n:Nat}{W W1:World}{a b c:Value}(h:Reg B W r n W1)(hr:B≤r):Reg B W r n (((W1.setCell ⟨r,0,none⟩ a).setCell ⟨r,1,none⟩ b).setCell ⟨r,2,none⟩ c) :=
 ((h.store hr _ _).store hr _ _).store hr _ _
def zDe (x wd:Int):Nat:=((x+wd - 1) / 8 - x / 8+1).toNat
def xQ (z x y wd:Int):Rfs:=⟨fun _=>z,fun i=>x / 8+(i % zDe x wd:Nat),fun i=>y / 8+(i / zDe x wd:Nat)⟩
def yV (z x y wd ht:Int):Nat:=if zBy z x y wd ht=true then zDe y ht * zDe x wd else 0
theorem zAr {x wd:Int}(h:1≤wd∧wd≤8):1≤zDe x wd∧zDe x wd≤2∧((zDe x wd:Nat):Int)=(x+wd - 1) / 8 - x / 8+1:=by
 unfold zDe
 omega
theorem zBg (z x y wd ht:Int):yV z x y wd ht≤4:=by
 unfold yV
 split
 ·rename_i h
  have hi:=zAd h
  have h1:=zAr (x:=x) hi.1.1
  have h2:=zAr (x:=y) hi.1.2
  exact Nat.mul_le_mul h2.2.1 h1.2.1
 ·omega
theorem zFx (z x y wd ht a b:Int)(w:World)(h:uW z a b=true):Calls Tryz.prog 130 #[zFq z x y wd ht,pxV a b] w fun e w'=>e=.returned (uL z (a / 8) (b / 8))∧Bw w w':=by
 have hz:=vC h
 have hp:=zBj h
 have hn:=xJ hz
 have sX:=fun w=>zPg a b w (by omega) (by omega)
 have sY:=fun w=>zPf a b w (by omega) (by omega)
 have sR:=fun w=>zFk z a b w
 have hv:atV z a b=rrV 0 z (a / 8) (b / 8):=by simp [atV,h]
 simp only [hv] at sR
 clear hv hz hp hn h
 generalize a / 8=u at *
 generalize b / 8=v at *
 have i1:∀ w,(Instr.field 230 (.agg #[.int .i64 0,.int .i64 z,.int .i64 u,.int .i64 v]) 1).run Tryz.prog w=.ok (.agg #[.int .i64 z,.int .i64 u,.int .i64 v]) w:=fun _=>by kernel_rfl
 go_enter Tryz.func130,Tryz.ntmps130
 go_wp2_with fail
 generalize hW:((w.alloc _).alloc _:World)=W
 have HB0:Hid (Bw w W):=by show Below _ _ _;subst hW;exact Qb
 have hL:w.heap.size+1<W.heap.size:=by subst hW;simp
 have HT:Hid (zD W (w.heap.size+1) 3):=by
  show zD _ _ _
  subst hW
  have:=zCk (w.alloc (.cells #[.int .i64 z,.int .i64 x,.int .i64 y,.int .i64 wd,.int .i64 ht] 25)) (.int .i64 0) (.int .i64 0) (.int .i64 0) 111
  simpa using this
 have c0:W.cell? ⟨w.heap.size,0,none⟩=some (.int .i64 z):=by subst hW;simp [go_sem]
 clear hW
 have hreg:Reg (w.heap.size+1) W (w.heap.size+1) 3 W:=Reg.start (Nat.le_of_lt hL) HT.out
 have d0:∀ W',Reg (w.heap.size+1) W (w.heap.size+1) 3 W'→W'.cell? ⟨w.heap.size,0,none⟩=some (.int .i64 z):=fun W' h=>(h.bel.cell (p:=⟨w.heap.size,0,none⟩) (by simp <;> omega)).trans c0
 have t0:∀ W',Reg (w.heap.size+1) W (w.heap.size+1) 3 W'→W'.cell? ⟨w.heap.size+1,0,none⟩=some (zEz W' (w.heap.size+1) 0):=fun W' h=>h.there.cell 0 (by omega)
 have t1:∀ W',Reg (w.heap.size+1) W (w.heap.size+1) 3 W'→W'.cell? ⟨w.heap.size+1,1,none⟩=some (zEz W' (w.heap.size+1) 1):=fun W' h=>h.there.cell 1 (by omega)
 have t2:∀ W',Reg (w.heap.size+1) W (w.heap.size+1) 3 W'→W'.cell? ⟨w.heap.size+1,2,none⟩=some (zEz W' (w.heap.size+1) 2):=fun W' h=>h.there.cell 2 (by omega)
 have f0:∀ W',Reg (w.heap.size+1) W (w.heap.size+1) 3 W'→W'.frozen? ⟨w.heap.size+1,0,none⟩=false:=fun W' h=>(h.there 0 (by omega)).2
 have f1:∀ W',Reg (w.heap.size+1) W (w.heap.size+1) 3 W'→W'.frozen? ⟨w.heap.size+1,1,none⟩=false:=fun W' h=>(h.there 1 (by omega)).2
 have f2:∀ W',Reg (w.heap.size+1) W (w.heap.size+1) 3 W'→W'.frozen? ⟨w.heap.size+1,2,none⟩=false:=fun W' h=>(h.there 2 (by omega)).2
 clear c0
 go_region_held3 (Reg (w.heap.size+1) W (w.heap.size+1) 3) (first | with_reducible assumption | with_reducible exact Reg.drew hreg | with_reducible exact Reg.store3 (by with_reducible assumption) (Nat.le_refl _) | with_reducible exact Reg.call (by with_reducible assumption) (by with_reducible assumption))
  (first
   | (go_at_call 119;refine (sX _).mono ?_;rintro e w' ⟨rfl,rfl⟩)
   | (go_at_call 120;refine (sY _).mono ?_;rintro e w' ⟨rfl,rfl⟩)
   | (go_at_call 174;refine (sR _).mono ?_;rintro e w' ⟨rfl,hb⟩;have hk:Reg (w.heap.size+1) W (w.heap.size+1) 3 w':=Reg.call (by assumption) hb)
   | fail)
 go_wp2
 obtain ⟨q0,q1,q2⟩:=uC.put (z:=z) (x:=u) (y:=v) hk.there
 exact bodyPost_ret (v:=uL z u v) (by simp [results,Tryz.results130,go_sem,q0,q1,q2]) rfl ⟨rfl,(((HB0.out.trans (hk.bel.mono (Nat.le_succ _))).setCell (Nat.le_succ _) _).setCell (Nat.le_succ _) _).setCell (Nat.le_succ _) _⟩
def V0 (B X:World):Prop:=Bw B X
def V1 (B X:World)(r:Nat):Prop:=Bw B X∧zD X r 3∧B.heap.size≤r
def V2 (B X:World)(r q:Nat):Prop:=V1 B X r∧V1 B X q∧r≠q
theorem V0.b {B X:World}(h:V0 B X):Bw B X:=h
theorem V1.b {B X:World}{r:Nat}(h:V1 B X r):Bw B X:=h.1
theorem V2.b {B X:World}{r q:Nat}(h:V2 B X r q):Bw B X:=h.1.1
theorem V0.call {B X Y:World}(h:V0 B X)(hb:Below X.heap.size X Y):V0 B Y:=zA h hb
theorem V1.call {B X Y:World}{r:Nat}(h:V1 B X r)(hb:Below X.heap.size X Y):V1 B Y r:=⟨zA h.1 hb,h.2.1.below hb,h.2.2⟩
theorem V2.call {B X Y:World}{r q:Nat}(h:V2 B X r q)(hb:Below X.heap.size X Y):V2 B Y r q:=⟨h.1.call hb,h.2.1.call hb,h.2.2⟩
theorem V2.swap {B X:World}{r q:Nat}(h:V2 B X r q):V2 B X q r:=⟨h.2.1,h.1,h.2.2.symm⟩
theorem V0.new {B X:World}(h:V0 B X)(a b c:Value)(t:TypeId):V1 B (X.alloc (.cells #[a,b,c] t)) X.heap.size:=⟨zA h (xD (Below.refl _ _) _),zCk X a b c t,Below.size h⟩
theorem V1.new2 {B X:World}{r:Nat}(h:V1 B X r)(a b c:Value)(t:TypeId):V2 B (X.alloc (.cells #[a,b,c] t)) r X.heap.size:=⟨h.call (xD (Below.refl _ _) _),V0.new h.1 a b c t,by have:=h.2.1.lt3;omega⟩
theorem zBp {z x y wd ht lx ly hx hy ex ey:Int}{NX NY:Nat}{R:Rfs}(w:World)(hr:zBy z x y wd ht=true)(hex:x+wd - 1=ex)(hey:y+ht - 1=ey)(e1:x / 8=lx)(e2:y / 8=ly)(e3:ex / 8=hx)(e4:ey / 8=hy)(hNX:(1≤NX∧NX≤2)∧hx=lx+(NX:Int) - 1)(hNY:(1≤NY∧NY≤2)∧hy=ly+(NY:Int) - 1)(hR:R=⟨fun _=>z,fun i=>lx+(i % NX:Nat),fun i=>ly+(i / NX:Nat)⟩) :
  Calls Tryz.prog 80 #[zFq z x y wd ht] w fun e w'=>∃ v,e=.returned (.agg #[.int .i64 0,v])∧zQ8 w' w.heap.size v (NY * NX) R∧Bw w w':=by
 have HR:Hid (R=⟨fun _=>z,fun i=>lx+(i % NX:Nat),fun i=>ly+(i / NX:Nat)⟩):=hR
 have HX:Hid (hx=lx+(NX:Int) - 1):=hNX.2
 have HY:Hid (hy=ly+(NY:Int) - 1):=hNY.2
 have nX:=hNX.1
 have nY:=hNY.1
 clear hR hNX hNY
 have hc:uJ z x y wd ht=0:=by unfold uJ;rw [if_pos hr]
 have hz:=vT hr
 have hin:=zAd hr
 have hn:=xJ hz
 have hp1:uW z x y=true:=by simp [uW,inB,hz];omega
 have hp2:uW z ex ey=true:=by simp [uW,inB,hz];omega
 have sC:=fun w=>zA4 z x y wd ht w
 have sF:=fun w=>zC7 z x y wd ht w
 have sL:=fun w=>zE0 z x y wd ht w (by omega) (by omega) hin.1.1 hin.1.2
 have sT1:=fun w=>zFx z x y wd ht x y w hp1
 have sT2:=fun w=>zFx z x y wd ht ex ey w hp2
 have bl:0≤lx∧lx≤8∧0≤ly∧ly≤8:=by omega
 rw [hex,hey] at sL
 rw [e1,e2] at sT1
 rw [e3,e4] at sT2
 rw [hc] at sC
 clear hc hr hz hin hn hp1 hp2 hex hey e1 e2 e3 e4
 obtain ⟨i0,hi,hz0,hz1,hz2⟩:=info_parts zP6
 go_enter Tryz.func80,Tryz.ntmps80
 go_wp2_with fail
 generalize hW:((w.alloc _).alloc _:World)=W
 have HB0:Hid (Bw w W):=by show Below _ _ _;subst hW;exact Qb
 have HT:Hid (zD W (w.heap.size+1) 2):=by
  show zD _ _ _
  subst hW
  have:=zGs (w.alloc (.cells #[.int .i64 z,.int .i64 x,.int .i64 y,.int .i64 wd,.int .i64 ht] 25)) (.int .i64 0) (.slice none 0 0) 124
  simpa using this
 have c00:∀ W',Bw W W'→W'.cell? ⟨w.heap.size,0,none⟩=some (.int .i64 z):=Qc hW
 have c01:∀ W',Bw W W'→W'.cell? ⟨w.heap.size,1,none⟩=some (.int .i64 x):=Qc hW
 have c02:∀ W',Bw W W'→W'.cell? ⟨w.heap.size,2,none⟩=some (.int .i64 y):=Qc hW
 have c03:∀ W',Bw W W'→W'.cell? ⟨w.heap.size,3,none⟩=some (.int .i64 wd):=Qc hW
 have c04:∀ W',Bw W W'→W'.cell? ⟨w.heap.size,4,none⟩=some (.int .i64 ht):=Qc hW
 clear hW
 refine (sC _).mono ?_
 rintro e w1 ⟨rfl,hb1⟩
 have HB1:Hid (Bw w w1):=zA HB0.out hb1
 have HT1:Hid (zD w1 (w.heap.size+1) 2):=HT.out.below hb1
 have c0:∀ W',Bw w1 W'→W'.cell? ⟨w.heap.size,0,none⟩=some (.int .i64 z):=fun W' h=>c00 W' (zA hb1 h)
 have c1:∀ W',Bw w1 W'→W'.cell? ⟨w.heap.size,1,none⟩=some (.int .i64 x):=fun W' h=>c01 W' (zA hb1 h)
 have c2:∀ W',Bw w1 W'→W'.cell? ⟨w.heap.size,2,none⟩=some (.int .i64 y):=fun W' h=>c02 W' (zA hb1 h)
 have c3:∀ W',Bw w1 W'→W'.cell? ⟨w.heap.size,3,none⟩=some (.int .i64 wd):=fun W' h=>c03 W' (zA hb1 h)
 have c4:∀ W',Bw w1 W'→W'.cell? ⟨w.heap.size,4,none⟩=some (.int .i64 ht):=fun W' h=>c04 W' (zA hb1 h)
 clear hb1 HB0 HT c00 c01 c02 c03 c04
 go_wp2_with fail
 go_cut [4,5] (fun p q wc=>∃ b4 b5:Nat,p=.pointer (some ⟨b4,0,none⟩)∧q=.pointer (some ⟨b5,0,none⟩)∧uC wc b4 z lx ly∧uC wc b5 z hx hy∧Bw w1 wc)
 case first =>
  refine wp_region_noPanic ?_
  refine wp_region_held_drew (S:=fun W'=>Bw w1 W') (by kernel_rfl) (by exact Qb) (fun hHeld=>?_)
  have hV:V0 w1 w1.drew:=hHeld
  refine zC (i:=0) (d:=some 15) rfl rfl (hS:=hHeld) ?_
  try simp only [Act.put,Qx,Qy,Qz]
  refine zC (i:=1) (d:=some 16) rfl rfl (hS:=hHeld) ?_
  try simp only [Act.put,Qx,Qy,Qz]
  refine zC (i:=4) (d:=some 19) rfl rfl (hS:=hHeld) ?_
  try simp only [Act.put,Qx,Qy,Qz]
  refine zC (i:=5) (d:=some 20) rfl rfl (hS:=hHeld) ?_
  try simp only [Act.put,Qx,Qy,Qz]
  clear hHeld
  generalize w1.drew=X at *
  refine' (fun (g4t:∀ (X:World) (r q:Nat),V2 w1 X r q→(_:World→Nat→Nat→Prop) X r q)=>?_) ?_
  rotate_left
  refine' (fun (g3t:∀ (X:World) (r q:Nat),V2 w1 X r q→(_:World→Nat→Nat→Prop) X r q)=>?_) ?_
  rotate_left
  refine' (fun (g2t:∀ (X:World) (r q:Nat),V2 w1 X r q→(_:World→Nat→Nat→Prop) X r q)=>?_) ?_
  rotate_left
  refine' (fun (g1t:∀ (X:World) (r q:Nat),V2 w1 X r q→(_:World→Nat→Nat→Prop) X r q)=>?_) ?_
  rotate_left
  refine' (fun (g0t:∀ (X:World) (r q:Nat),V2 w1 X r q→(_:World→Nat→Nat→Prop) X r q)=>?_) ?_
  rotate_left
  refine' (fun (g4a:∀ (X:World) (r:Nat),V1 w1 X r→(_:World→Nat→Prop) X r)=>?_) ?_
  rotate_left
  refine' (fun (g4b:∀ (X:World) (q:Nat),V1 w1 X q→(_:World→Nat→Prop) X q)=>?_) ?_
  rotate_left
  refine' (fun (g3a:∀ (X:World) (r:Nat),V1 w1 X r→(_:World→Nat→Prop) X r)=>?_) ?_
  rotate_left
  refine' (fun (g3b:∀ (X:World) (q:Nat),V1 w1 X q→(_:World→Nat→Prop) X q)=>?_) ?_
  rotate_left
  refine' (fun (g2a:∀ (X:World) (r:Nat),V1 w1 X r→(_:World→Nat→Prop) X r)=>?_) ?_
  rotate_left
  refine' (fun (g2b:∀ (X:World) (q:Nat),V1 w1 X q→(_:World→Nat→Prop) X q)=>?_) ?_
  rotate_left
  refine' (fun (g1a:∀ (X:World) (r:Nat),V1 w1 X r→(_:World→Nat→Prop) X r)=>?_) ?_
  rotate_left
  refine' (fun (g1b:∀ (X:World) (q:Nat),V1 w1 X q→(_:World→Nat→Prop) X q)=>?_) ?_
  rotate_left
  refine' (fun (g0a:∀ (X:World) (r:Nat),V1 w1 X r→(_:World→Nat→Prop) X r)=>?_) ?_
  rotate_left
  refine' (fun (g0b:∀ (X:World) (q:Nat),V1 w1 X q→(_:World→Nat→Prop) X q)=>?_) ?_
  rotate_left
  refine' (fun (g4n:∀ (X:World),V0 w1 X→(_:World→Prop) X)=>?_) ?_
  rotate_left
  refine' (fun (g3n:∀ (X:World),V0 w1 X→(_:World→Prop) X)=>?_) ?_
  rotate_left
  refine' (fun (g2n:∀ (X:World),V0 w1 X→(_:World→Prop) X)=>?_) ?_
  rotate_left
  refine' (fun (g1n:∀ (X:World),V0 w1 X→(_:World→Prop) X)=>?_) ?_
  rotate_left
  refine wpAnyH_ready (rs:=[2,8,9]) (by kernel_rfl) (by simp) ?_
  refine (AllReadyH.cons rfl (fun K hK=>?_) (AllReadyH.cons rfl (fun K hK=>?_) (AllReadyH.cons rfl (fun K hK=>?_) AllReadyH.nil)))
  ·rw [if_pos (by rfl)]
   go_simp
   refine Calls.mono (sF _) ?_
   rintro e Y ⟨rfl,hb⟩
   have hU:=hV.call hb
   go_wp2_with fail
   refine hK.out _ _ hU.b (fun hHeld=>?_)
   clear hK K
   try simp only [Act.put,Qx,Qy,Qz]
   exact g1n Y hU
  ·rw [if_pos (by rfl)]
   go_simp
   generalize hwA:(World.alloc _ _:World)=Y
   have hU:V1 w1 Y X.heap.size:=by subst hwA;exact hV.new _ _ _ _
   refine hK.out _ _ hU.b (fun hHeld=>?_)
   clear hK K hwA
   try simp only [Act.put,Qx,Qy,Qz]
   generalize X.heap.size=m at hU ⊢
   exact g0a Y m hU
  ·rw [if_pos (by rfl)]
   go_simp
   generalize hwA:(World.alloc _ _:World)=Y
   have hU:V1 w1 Y X.heap.size:=by subst hwA;exact hV.new _ _ _ _
   refine hK.out _ _ hU.b (fun hHeld=>?_)
   clear hK K hwA
   try simp only [Act.put,Qx,Qy,Qz]
   generalize X.heap.size=m at hU ⊢
   exact g0b Y m hU
  intro X hV
  try dsimp only
  refine wpAnyH_ready (rs:=[3,8,9]) (by kernel_rfl) (by simp) ?_
  refine (AllReadyH.cons rfl (fun K hK=>?_) (AllReadyH.cons rfl (fun K hK=>?_) (AllReadyH.cons rfl (fun K hK=>?_) AllReadyH.nil)))
  ·rw [if_pos (by rfl)]
   go_simp
   refine Calls.mono (sT1 _) ?_
   rintro e Y ⟨rfl,hb⟩
   have hU:=hV.call hb
   go_wp2_with fail
   refine hK.out _ _ hU.b (fun hHeld=>?_)
   clear hK K
   try simp only [Act.put,Qx,Qy,Qz]
   exact g2n Y hU
  ·rw [if_pos (by rfl)]
   go_simp
   generalize hwA:(World.alloc _ _:World)=Y
   have hU:V1 w1 Y X.heap.size:=by subst hwA;exact hV.new _ _ _ _
   refine hK.out _ _ hU.b (fun hHeld=>?_)
   clear hK K hwA
   try simp only [Act.put,Qx,Qy,Qz]
   generalize X.heap.size=m at hU ⊢
   exact g1a Y m hU
  ·rw [if_pos (by rfl)]
   go_simp
   generalize hwA:(World.alloc _ _:World)=Y
   have hU:V1 w1 Y X.heap.size:=by subst hwA;exact hV.new _ _ _ _
   refine hK.out _ _ hU.b (fun hHeld=>?_)
   clear hK K hwA
   try simp only [Act.put,Qx,Qy,Qz]
   generalize X.heap.size=m at hU ⊢
   exact g1b Y m hU
  intro X hV
  try dsimp only
  refine wpAnyH_ready (rs:=[6,8,9]) (by kernel_rfl) (by simp) ?_
  refine (AllReadyH.cons rfl (fun K hK=>?_) (AllReadyH.cons rfl (fun K hK=>?_) (AllReadyH.cons rfl (fun K hK=>?_) AllReadyH.nil)))
  ·rw [if_pos (by rfl)]
   go_simp
   refine Calls.mono (sL _) ?_
   rintro e Y ⟨rfl,hb⟩
   have hU:=hV.call hb
   go_wp2_with fail
   refine hK.out _ _ hU.b (fun hHeld=>?_)
   clear hK K
   try simp only [Act.put,Qx,Qy,Qz]
   exact g3n Y hU
  ·rw [if_pos (by rfl)]
   go_simp
   generalize hwA:(World.alloc _ _:World)=Y
   have hU:V1 w1 Y X.heap.size:=by subst hwA;exact hV.new _ _ _ _
   refine hK.out _ _ hU.b (fun hHeld=>?_)
   clear hK K hwA
   try simp only [Act.put,Qx,Qy,Qz]
   generalize X.heap.size=m at hU ⊢
   exact g2a Y m hU
  ·rw [if_pos (by rfl)]
   go_simp
   generalize hwA:(World.alloc _ _:World)=Y
   have hU:V1 w1 Y X.heap.size:=by subst hwA;exact hV.new _ _ _ _
   refine hK.out _ _ hU.b (fun hHeld=>?_)
   clear hK K hwA
   try simp only [Act.put,Qx,Qy,Qz]
   generalize X.heap.size=m at hU ⊢
   exact g2b Y m hU
  intro X hV
  try dsimp only
  refine wpAnyH_ready (rs:=[7,8,9]) (by kernel_rfl) (by simp) ?_
  refine (AllReadyH.cons rfl (fun K hK=>?_) (AllReadyH.cons rfl (fun K hK=>?_) (AllReadyH.cons rfl (fun K hK=>?_) AllReadyH.nil)))
  ·rw [if_pos (by rfl)]
   go_simp
   refine Calls.mono (sT2 _) ?_
   rintro e Y ⟨rfl,hb⟩
   have hU:=hV.call hb
   go_wp2_with fail
   refine hK.out _ _ hU.b (fun hHeld=>?_)
   clear hK K
   try simp only [Act.put,Qx,Qy,Qz]
   exact g4n Y hU
  ·rw [if_pos (by rfl)]
   go_simp
   generalize hwA:(World.alloc _ _:World)=Y
   have hU:V1 w1 Y X.heap.size:=by subst hwA;exact hV.new _ _ _ _
   refine hK.out _ _ hU.b (fun hHeld=>?_)
   clear hK K hwA
   try simp only [Act.put,Qx,Qy,Qz]
   generalize X.heap.size=m at hU ⊢
   exact g3a Y m hU
  ·rw [if_pos (by rfl)]
   go_simp
   generalize hwA:(World.alloc _ _:World)=Y
   have hU:V1 w1 Y X.heap.size:=by subst hwA;exact hV.new _ _ _ _
   refine hK.out _ _ hU.b (fun hHeld=>?_)
   clear hK K hwA
   try simp only [Act.put,Qx,Qy,Qz]
   generalize X.heap.size=m at hU ⊢
   exact g3b Y m hU
  intro X hV
  try dsimp only
  refine wpAnyH_ready (rs:=[8,9]) (by kernel_rfl) (by simp) ?_
  refine (AllReadyH.cons rfl (fun K hK=>?_) (AllReadyH.cons rfl (fun K hK=>?_) AllReadyH.nil))
  ·rw [if_pos (by rfl)]
   go_simp
   generalize hwA:(World.alloc _ _:World)=Y
   have hU:V1 w1 Y X.heap.size:=by subst hwA;exact hV.new _ _ _ _
   refine hK.out _ _ hU.b (fun hHeld=>?_)
   clear hK K hwA
   try simp only [Act.put,Qx,Qy,Qz]
   generalize X.heap.size=m at hU ⊢
   exact g4a Y m hU
  ·rw [if_pos (by rfl)]
   go_simp
   generalize hwA:(World.alloc _ _:World)=Y
   have hU:V1 w1 Y X.heap.size:=by subst hwA;exact hV.new _ _ _ _
   refine hK.out _ _ hU.b (fun hHeld=>?_)
   clear hK K hwA
   try simp only [Act.put,Qx,Qy,Qz]
   generalize X.heap.size=m at hU ⊢
   exact g4b Y m hU
  intro X q hV
  try dsimp only
  refine wpAnyH_ready (rs:=[2,8]) (by kernel_rfl) (by simp) ?_
  refine (AllReadyH.cons rfl (fun K hK=>?_) (AllReadyH.cons rfl (fun K hK=>?_) AllReadyH.nil))
  ·rw [if_pos (by rfl)]
   go_simp
   refine Calls.mono (sF _) ?_
   rintro e Y ⟨rfl,hb⟩
   have hU:=hV.call hb
   go_wp2_with fail
   refine hK.out _ _ hU.b (fun hHeld=>?_)
   clear hK K
   try simp only [Act.put,Qx,Qy,Qz]
   exact g1b Y q hU
  ·rw [if_pos (by rfl)]
   go_simp
   generalize hwA:(World.alloc _ _:World)=Y
   have hU:V2 w1 Y X.heap.size q:=by subst hwA;exact (hV.new2 _ _ _ _).swap
   refine hK.out _ _ hU.b (fun hHeld=>?_)
   clear hK K hwA
   try simp only [Act.put,Qx,Qy,Qz]
   generalize X.heap.size=m at hU ⊢
   exact g0t Y m q hU
  intro X r hV
  try dsimp only
  refine wpAnyH_ready (rs:=[2,9]) (by kernel_rfl) (by simp) ?_
  refine (AllReadyH.cons rfl (fun K hK=>?_) (AllReadyH.cons rfl (fun K hK=>?_) AllReadyH.nil))
  ·rw [if_pos (by rfl)]
   go_simp
   refine Calls.mono (sF _) ?_
   rintro e Y ⟨rfl,hb⟩
   have hU:=hV.call hb
   go_wp2_with fail
   refine hK.out _ _ hU.b (fun hHeld=>?_)
   clear hK K
   try simp only [Act.put,Qx,Qy,Qz]
   exact g1a Y r hU
  ·rw [if_pos (by rfl)]
   go_simp
   generalize hwA:(World.alloc _ _:World)=Y
   have hU:V2 w1 Y r X.heap.size:=by subst hwA;exact hV.new2 _ _ _ _
   refine hK.out _ _ hU.b (fun hHeld=>?_)
   clear hK K hwA
   try simp only [Act.put,Qx,Qy,Qz]
   generalize X.heap.size=m at hU ⊢
   exact g0t Y r m hU
  intro X q hV
  try dsimp only
  refine wpAnyH_ready (rs:=[3,8]) (by kernel_rfl) (by simp) ?_
  refine (AllReadyH.cons rfl (fun K hK=>?_) (AllReadyH.cons rfl (fun K hK=>?_) AllReadyH.nil))
  ·rw [if_pos (by rfl)]
   go_simp
   refine Calls.mono (sT1 _) ?_
   rintro e Y ⟨rfl,hb⟩
   have hU:=hV.call hb
   go_wp2_with fail
   refine hK.out _ _ hU.b (fun hHeld=>?_)
   clear hK K
   try simp only [Act.put,Qx,Qy,Qz]
   exact g2b Y q hU
  ·rw [if_pos (by rfl)]
   go_simp
   generalize hwA:(World.alloc _ _:World)=Y
   have hU:V2 w1 Y X.heap.size q:=by subst hwA;exact (hV.new2 _ _ _ _).swap
   refine hK.out _ _ hU.b (fun hHeld=>?_)
   clear hK K hwA
   try simp only [Act.put,Qx,Qy,Qz]
   generalize X.heap.size=m at hU ⊢
   exact g1t Y m q hU
  intro X r hV
  try dsimp only
  refine wpAnyH_ready (rs:=[3,9]) (by kernel_rfl) (by simp) ?_
  refine (AllReadyH.cons rfl (fun K hK=>?_) (AllReadyH.cons rfl (fun K hK=>?_) AllReadyH.nil))
  ·rw [if_pos (by rfl)]
   go_simp
   refine Calls.mono (sT1 _) ?_
   rintro e Y ⟨rfl,hb⟩
   have hU:=hV.call hb
   go_wp2_with fail
   refine hK.out _ _ hU.b (fun hHeld=>?_)
   clear hK K
   try simp only [Act.put,Qx,Qy,Qz]
   exact g2a Y r hU
  ·rw [if_pos (by rfl)]
   go_simp
   generalize hwA:(World.alloc _ _:World)=Y
   have hU:V2 w1 Y r X.heap.size:=by subst hwA;exact hV.new2 _ _ _ _
   refine hK.out _ _ hU.b (fun hHeld=>?_)
   clear hK K hwA
   try simp only [Act.put,Qx,Qy,Qz]
   generalize X.heap.size=m at hU ⊢
   exact g1t Y r m hU
  intro X q hV
  try dsimp only
  refine wpAnyH_ready (rs:=[6,8]) (by kernel_rfl) (by simp) ?_
  refine (AllReadyH.cons rfl (fun K hK=>?_) (AllReadyH.cons rfl (fun K hK=>?_) AllReadyH.nil))
  ·rw [if_pos (by rfl)]
   go_simp
   refine Calls.mono (sL _) ?_
   rintro e Y ⟨rfl,hb⟩
   have hU:=hV.call hb
   go_wp2_with fail
   refine hK.out _ _ hU.b (fun hHeld=>?_)
   clear hK K
   try simp only [Act.put,Qx,Qy,Qz]
   exact g3b Y q hU
  ·rw [if_pos (by rfl)]
   go_simp
   generalize hwA:(World.alloc _ _:World)=Y
   have hU:V2 w1 Y X.heap.size q:=by subst hwA;exact (hV.new2 _ _ _ _).swap
   refine hK.out _ _ hU.b (fun hHeld=>?_)
   clear hK K hwA
   try simp only [Act.put,Qx,Qy,Qz]
   generalize X.heap.size=m at hU ⊢
   exact g2t Y m q hU
  intro X r hV
  try dsimp only
  refine wpAnyH_ready (rs:=[6,9]) (by kernel_rfl) (by simp) ?_
  refine (AllReadyH.cons rfl (fun K hK=>?_) (AllReadyH.cons rfl (fun K hK=>?_) AllReadyH.nil))
  ·rw [if_pos (by rfl)]
   go_simp
   refine Calls.mono (sL _) ?_
   rintro e Y ⟨rfl,hb⟩
   have hU:=hV.call hb
   go_wp2_with fail
   refine hK.out _ _ hU.b (fun hHeld=>?_)
   clear hK K
   try simp only [Act.put,Qx,Qy,Qz]
   exact g3a Y r hU
  ·rw [if_pos (by rfl)]
   go_simp
   generalize hwA:(World.alloc _ _:World)=Y
   have hU:V2 w1 Y r X.heap.size:=by subst hwA;exact hV.new2 _ _ _ _
   refine hK.out _ _ hU.b (fun hHeld=>?_)
   clear hK K hwA
   try simp only [Act.put,Qx,Qy,Qz]
   generalize X.heap.size=m at hU ⊢
   exact g2t Y r m hU
  intro X q hV
  try dsimp only
  refine wpAnyH_ready (rs:=[7,8]) (by kernel_rfl) (by simp) ?_
  refine (AllReadyH.cons rfl (fun K hK=>?_) (AllReadyH.cons rfl (fun K hK=>?_) AllReadyH.nil))
  ·rw [if_pos (by rfl)]
   go_simp
   refine Calls.mono (sT2 _) ?_
   rintro e Y ⟨rfl,hb⟩
   have hU:=hV.call hb
   go_wp2_with fail
   refine hK.out _ _ hU.b (fun hHeld=>?_)
   clear hK K
   try simp only [Act.put,Qx,Qy,Qz]
   exact g4b Y q hU
  ·rw [if_pos (by rfl)]
   go_simp
   generalize hwA:(World.alloc _ _:World)=Y
   have hU:V2 w1 Y X.heap.size q:=by subst hwA;exact (hV.new2 _ _ _ _).swap
   refine hK.out _ _ hU.b (fun hHeld=>?_)
   clear hK K hwA
   try simp only [Act.put,Qx,Qy,Qz]
   generalize X.heap.size=m at hU ⊢
   exact g3t Y m q hU
  intro X r hV
  try dsimp only
  refine wpAnyH_ready (rs:=[7,9]) (by kernel_rfl) (by simp) ?_
  refine (AllReadyH.cons rfl (fun K hK=>?_) (AllReadyH.cons rfl (fun K hK=>?_) AllReadyH.nil))
  ·rw [if_pos (by rfl)]
   go_simp
   refine Calls.mono (sT2 _) ?_
   rintro e Y ⟨rfl,hb⟩
   have hU:=hV.call hb
   go_wp2_with fail
   refine hK.out _ _ hU.b (fun hHeld=>?_)
   clear hK K
   try simp only [Act.put,Qx,Qy,Qz]
   exact g4a Y r hU
  ·rw [if_pos (by rfl)]
   go_simp
   generalize hwA:(World.alloc _ _:World)=Y
   have hU:V2 w1 Y r X.heap.size:=by subst hwA;exact hV.new2 _ _ _ _
   refine hK.out _ _ hU.b (fun hHeld=>?_)
   clear hK K hwA
   try simp only [Act.put,Qx,Qy,Qz]
   generalize X.heap.size=m at hU ⊢
   exact g3t Y r m hU
  intro X q hV
  try dsimp only
  refine zN 8 fun K hK=>?_
  ·rw [if_pos (by rfl)]
   go_simp
   generalize hwA:(World.alloc _ _:World)=Y
   have hU:V2 w1 Y X.heap.size q:=by subst hwA;exact (hV.new2 _ _ _ _).swap
   refine hK.out _ _ hU.b (fun hHeld=>?_)
   clear hK K hwA
   try simp only [Act.put,Qx,Qy,Qz]
   generalize X.heap.size=m at hU ⊢
   exact g4t Y m q hU
  intro X r hV
  try dsimp only
  refine zN 9 fun K hK=>?_
  ·rw [if_pos (by rfl)]
   go_simp
   generalize hwA:(World.alloc _ _:World)=Y
   have hU:V2 w1 Y r X.heap.size:=by subst hwA;exact hV.new2 _ _ _ _
   refine hK.out _ _ hU.b (fun hHeld=>?_)
   clear hK K hwA
   try simp only [Act.put,Qx,Qy,Qz]
   generalize X.heap.size=m at hU ⊢
   exact g4t Y r m hU
  intro X r q hV
  try dsimp only
  refine zN 2 fun K hK=>?_
  ·rw [if_pos (by rfl)]
   go_simp
   refine Calls.mono (sF _) ?_
   rintro e Y ⟨rfl,hb⟩
   have hU:=hV.call hb
   go_wp2_with fail
   refine hK.out _ _ hU.b (fun hHeld=>?_)
   clear hK K
   try simp only [Act.put,Qx,Qy,Qz]
   exact g1t Y r q hU
  intro X r q hV
  try dsimp only
  refine zN 3 fun K hK=>?_
  ·rw [if_pos (by rfl)]
   go_simp
   refine Calls.mono (sT1 _) ?_
   rintro e Y ⟨rfl,hb⟩
   have hU:=hV.call hb
   go_wp2_with fail
   refine hK.out _ _ hU.b (fun hHeld=>?_)
   clear hK K
   try simp only [Act.put,Qx,Qy,Qz]
   exact g2t Y r q hU
  intro X r q hV
  try dsimp only
  refine zN 6 fun K hK=>?_
  ·rw [if_pos (by rfl)]
   go_simp
   refine Calls.mono (sL _) ?_
   rintro e Y ⟨rfl,hb⟩
   have hU:=hV.call hb
   go_wp2_with fail
   refine hK.out _ _ hU.b (fun hHeld=>?_)
   clear hK K
   try simp only [Act.put,Qx,Qy,Qz]
   exact g3t Y r q hU
  intro X r q hV
  try dsimp only
  refine zN 7 fun K hK=>?_
  ·rw [if_pos (by rfl)]
   go_simp
   refine Calls.mono (sT2 _) ?_
   rintro e Y ⟨rfl,hb⟩
   have hU:=hV.call hb
   go_wp2_with fail
   refine hK.out _ _ hU.b (fun hHeld=>?_)
   clear hK K
   try simp only [Act.put,Qx,Qy,Qz]
   exact g4t Y r q hU
  intro X r q hV
  try dsimp only
  refine zN 10 fun K hK=>?_
  rw [if_pos (by rfl)]
  obtain ⟨⟨hX,hTr,hr⟩,⟨_,hTq,hq⟩,hne⟩:=hV
  have t0:=hTr.cell 0 (by omega)
  have f0:=(hTr 0 (by omega)).2
  have t1:=hTr.cell 1 (by omega)
  have f1:=(hTr 1 (by omega)).2
  have t2:=hTr.cell 2 (by omega)
  have f2:=(hTr 2 (by omega)).2
  go_simp
  have hXs:Bw w1 (((X.setCell ⟨r,0,none⟩ (.int .i64 z)).setCell ⟨r,1,none⟩ (.int .i64 lx)).setCell ⟨r,2,none⟩ (.int .i64 ly)):=((hX.setCell hr _).setCell hr _).setCell hr _
  have hRs:=uC.put (z:=z) (x:=lx) (y:=ly) hTr
  have hTs:=((hTq.putV (r':=r) (o:=0) (v:=.int .i64 z)).putV (r':=r) (o:=1) (v:=.int .i64 lx)).putV (r':=r) (o:=2) (v:=.int .i64 ly)
  generalize hwS:(((X.setCell _ _).setCell _ _).setCell _ _:World)=wS at *
  refine hK.out _ _ hXs (fun hHeld=>?_)
  clear hK K hwS t0 t1 t2 f0 f1 f2
  try simp only [Act.put,Qx,Qy,Qz]
  refine zN 11 fun K hK=>?_
  rw [if_pos (by rfl)]
  have t0:=hTs.cell 0 (by omega)
  have f0:=(hTs 0 (by omega)).2
  have t1:=hTs.cell 1 (by omega)
  have f1:=(hTs 1 (by omega)).2
  have t2:=hTs.cell 2 (by omega)
  have f2:=(hTs 2 (by omega)).2
  go_simp
  have hXu:Bw w1 (((wS.setCell ⟨q,0,none⟩ (.int .i64 z)).setCell ⟨q,1,none⟩ (.int .i64 hx)).setCell ⟨q,2,none⟩ (.int .i64 hy)):=((hXs.setCell hq _).setCell hq _).setCell hq _
  have hRu:=uC.put (z:=z) (x:=hx) (y:=hy) hTs
  have hRv:=((hRs.apart (r:=q) (o:=0) (v:=.int .i64 z) (by omega)).apart (r:=q) (o:=1) (v:=.int .i64 hx) (by omega)).apart (r:=q) (o:=2) (v:=.int .i64 hy) (by omega)
  generalize hwU:(((wS.setCell _ _).setCell _ _).setCell _ _:World)=wU at *
  refine hK.out _ _ hXu (fun hHeld=>?_)
  clear hK K hwU t0 t1 t2 f0 f1 f2
  try simp only [Act.put,Qx,Qy,Qz]
  refine wpAnyH_done (by kernel_rfl) ?_ _
  refine NoPanic.normal ?_
  go_wp2_with fail
  go_meet
  case rel=>exact ⟨_,_,rfl,rfl,hRv,hRu,hXu⟩
 case rest =>
  obtain ⟨b4,b5,rfl,rfl,hR4,hR5,hBc⟩:=hcut
  generalize wc=wA at *
  have hz:=c0 wA hBc
  have HBA:Hid (Bw w wA):=zA HB1.out hBc
  have HTA:Hid (zD wA (w.heap.size+1) 2):=HT1.out.below hBc
  have HR4:Hid (uC wA b4 z lx ly):=hR4
  have HR5:Hid (uC wA b5 z hx hy):=hR5
  have Hz:Hid (wA.cell? ⟨w.heap.size,0,none⟩=some (.int .i64 z)):=hz
  obtain ⟨p0,p1,p2⟩:=hR4
  obtain ⟨q0,q1,q2⟩:=hR5
  clear hBc c0 c1 c2 c3 c4 HB1 HT1 sF sL sT1 sT2
  have bx:0≤lx∧lx≤8:=⟨bl.1,bl.2.1⟩
  have by':0≤ly∧ly≤8:=bl.2.2
  clear bl
  go_wp2_with fail
  go_loopw [6,7] (fun v j wr=>∃ r:Nat,r≤NY∧j=.int .i64 (ly+(r:Int))∧zDm wA.heap.size wr v (r * NX) R∧Bw wA wr) (fun _ j _=>(ly+(NY:Int) - intOf j).toNat)
  case atStart=>exact ⟨0,by omega,by simp,by rw [Nat.zero_mul];exact zDm.no _ _ _,Below.refl _ _⟩
  case round =>
   obtain ⟨r,hr,rfl,hO,hB⟩:=hrel
   have HO0:Hid (zDm wA.heap.size wr u6 (r * NX) R):=hO
   have HB0:Hid (Bw wA wr):=hB
   obtain ⟨p0,p1,p2⟩:=HR4.out.below hB
   obtain ⟨q0,q1,q2⟩:=HR5.out.below hB
   clear hO hB
   by_cases hlt:r<NY
   ·have hle:ly+(r:Int)≤hy:=by have:=HY.out;omega
    go_wp2_with fail
    go_loopw [6,8] (fun v j wr=>∃ m:Nat,m≤NX∧j=.int .i64 (lx+(m:Int))∧zDm wA.heap.size wr v (r * NX+m) R∧Bw wA wr) (fun _ j _=>(lx+(NX:Int) - intOf j).toNat)
    case atStart=>exact ⟨0,by omega,by simp,HO0.out,HB0.out⟩
    case round =>
     obtain ⟨m,hm,rfl,hO,hB⟩:=hrel
     have HO:Hid (zDm wA.heap.size wr u6 (r * NX+m) R):=hO
     have HB:Hid (Bw wA wr):=hB
     obtain ⟨p0,p1,p2⟩:=HR4.out.below hB
     obtain ⟨q0,q1,q2⟩:=HR5.out.below hB
     have hzr:wr.cell? ⟨w.heap.size,0,none⟩=some (.int .i64 z):=zSz hB Hz.out
     have hszr:wA.heap.size≤wr.heap.size:=hB.size
     have hlz:=World.block_lt_of_cell? _ _ hzr
     clear hO hB HO0 HB0
     by_cases hlm:m<NX
     ·have hlx:lx+(m:Int)≤hx:=by have:=HX.out;omega
      have hK:r * NX+m<10:=by
       have:r * NX≤1 * 2:=Nat.mul_le_mul (by omega) nX.2
       omega
      have HS:Hid (xP R (r * NX+m+1)=xP R (r * NX+m) ++ [.int .i64 z,.int .i64 (lx+(m:Int)),.int .i64 (ly+(r:Int))]):=by
       show _=_
       rw [zBb,HR.out]
       have e1:(r * NX+m) % NX=m:=by rw [Nat.mul_comm,Nat.mul_add_mod];exact Nat.mod_eq_of_lt hlm
       have e2:(r * NX+m) / NX=r:=by rw [Nat.mul_comm,Nat.mul_add_div (by omega),Nat.div_eq_of_lt hlm];rfl
       simp only [e1,e2]
      have HKK:Hid (r * NX+m+1=r * NX+(m+1)):=rfl
      generalize hKd:r * NX+m=KK at *
      clear hKd
      go_wp2_with (first
       | (at_builtin;go_must (refine wpList_append_own _ rfl _ _ 24 rfl wA.heap.size 111 i0 (.agg #[.int .i64 0,.int .i64 0,.int .i64 0]) 3 24 Tryz.underlying24 hi hz0 hz1 hz2 rfl (by decide) _ KK (xP R KK) rfl (World.ownsRow.alloc HO.out _) ⟨wr.heap.size,0,none⟩ 1 1 [.int .i64 z,.int .i64 (lx+(m:Int)),.int .i64 (ly+(r:Int))] rfl rfl ?c1 ?c2 ?c3 ?c4 ?c5 ?_)))
      try
       case c1 =>
        intro q u hq
        match q,hq with
        | 0,hq=>simp at hq;subst hq;simp [Addr.add,go_sem]
        | 1,hq=>simp at hq;subst hq;simp [Addr.add,go_sem]
        | 2,hq=>simp at hq;subst hq;simp [Addr.add,go_sem]
        | q+3,hq=>simp at hq
      case c2=>first | exact ⟨rfl,rfl,rfl⟩ | (intro u hu;simp at hu;rcases hu with rfl | rfl | rfl <;> rfl)
      case c3=>unfold maxLen;omega
      case c4=>omega
      case c5=>first | omega | (simp;omega)
      intro v' w3 hown' hgrow hnil
      clear hnil
      generalize hV:(wr.alloc _:World)=V at hgrow
      have hBV:Bw wr V:=by subst hV;exact Qb
      have hBg:Below wA.heap.size V w3:=(Below.refl _ _).grown hgrow (by have:=hBV.size;omega) (fun k hk=>(HO.out.lt k hk).1)
      have HB3:Hid (Bw wA w3):=(HB.out.trans (hBV.mono hszr)).trans hBg
      have HO3:Hid (zDm wA.heap.size w3 v' (KK+1) R):=by
       show World.ownsRow _ _ _ _ _ _ _
       rw [HS.out]
       exact hown'
      clear hown' hgrow hBg hBV hV
      go_wp2
      go_roundw
      case rel=>exact ⟨m+1,by omega,by go_num,by rw [← HKK.out];exact HO3.out,HB3.out⟩
      case measure=>simp [intOf];omega
     ·have hme:m=NX:=by omega
      have hgt:¬ lx+(m:Int)≤hx:=by have:=HX.out;omega
      have HO':Hid (zDm wA.heap.size wr u6 ((r+1) * NX) R):=by
       show zDm _ _ _ _ _
       rw [Nat.succ_mul,← hme]
       have:=HO.out
       rw [← hme] at this
       exact this
      clear HO
      go_wp2
      go_roundw
      case rel=>exact ⟨r+1,by omega,by go_num,HO'.out,HB.out⟩
      case measure=>simp [intOf];omega
   ·obtain rfl:NY=r:=by omega
    have hgt:¬ ly+(NY:Int)≤hy:=by have:=HY.out;omega
    have hT:=HTA.out.below HB0.out
    have HTr:Hid (zD wr (w.heap.size+1) 2):=hT
    have hlT:=World.block_lt_of_cell? _ _ (HTA.out.cell 0 (by omega))
    have t0:=hT.cell 0 (by omega)
    have t1:=hT.cell 1 (by omega)
    have f0:=(hT 0 (by omega)).2
    have f1:=(hT 1 (by omega)).2
    clear hT
    obtain ⟨a0,cap0,hv,hc0,hcase⟩:=HO0.out.own
    subst hv
    have HOw:Hid (zQ8 wr wA.heap.size (.slice a0 (NY * NX) cap0) (NY * NX) R):=HO0.out.own
    clear hcase HO0
    go_wp2_with fail
    obtain ⟨q0,q1⟩:=zBi (W:=wr) (r:=w.heap.size+1) (i:=0) (j:=1) (u:=.int .i64 0) (v:=.slice a0 (NY * NX) cap0) (by omega) (by rw [t0];rfl) (by rw [t1];rfl)
    refine bodyPost_ret (v:=.agg #[.int .i64 0,.slice a0 (NY * NX) cap0]) (by simp [results,Tryz.results80,go_sem,q0,q1]) rfl ⟨_,rfl,?_,?_⟩
    ·exact (HOw.out.set (B:=wA.heap.size) hlT (Nat.le_refl _)).set (B:=w.heap.size) hlT HBA.out.size
    ·exact ((zA HBA.out HB0.out).setCell (Nat.le_succ _) _).setCell (Nat.le_succ _) _
theorem zBq {z x y wd ht:Int}(w:World)(hr:zBy z x y wd ht=false) :
  Calls Tryz.prog 80 #[zFq z x y wd ht] w fun e w'=>e=.returned (.agg #[.int .i64 3,.slice none 0 0])∧Bw w w':=by
 have sC:=fun w=>zA4 z x y wd ht w
 have hc:uJ z x y wd ht=3:=by unfold uJ;rw [hr];rfl
 rw [hc] at sC
 clear hc hr
 go_enter Tryz.func80,Tryz.ntmps80
 go_wp2_with fail
 generalize hW:((w.alloc _).alloc _:World)=W
 have HB0:Hid (Bw w W):=by show Below _ _ _;subst hW;exact Qb
 have HT:Hid (zD W (w.heap.size+1) 2):=by
  show zD _ _ _
  subst hW
  have:=zGs (w.alloc (.cells #[.int .i64 z,.int .i64 x,.int .i64 y,.int .i64 wd,.int .i64 ht] 25)) (.int .i64 0) (.slice none 0 0) 124
  simpa using this
 clear hW
 refine (sC _).mono ?_
 rintro e w1 ⟨rfl,hb1⟩
 have HB1:Hid (Bw w w1):=zA HB0.out hb1
 have hT1:=HT.out.below hb1
 have t0:=hT1.cell 0 (by omega)
 have t1:=hT1.cell 1 (by omega)
 have f0:=(hT1 0 (by omega)).2
 have f1:=(hT1 1 (by omega)).2
 clear hb1 HB0 HT hT1
 go_wp2_with fail
 obtain ⟨q0,q1⟩:=zBi (W:=w1) (r:=w.heap.size+1) (i:=0) (j:=1) (u:=.int .i64 3) (v:=.slice none 0 0) (by omega) (by rw [t0];rfl) (by rw [t1];rfl)
 refine bodyPost_ret (v:=.agg #[.int .i64 3,.slice none 0 0]) (by simp [results,Tryz.results80,go_sem,q0,q1]) rfl ⟨rfl,?_⟩
 exact (HB1.out.setCell (Nat.le_succ _) _).setCell (Nat.le_succ _) _
theorem vH (z x y wd ht:Int)(w:World):Calls Tryz.prog 80 #[zFq z x y wd ht] w fun e w'=>∃ v,e=.returned (.agg #[.int .i64 (uJ z x y wd ht),v])∧zQ8 w' w.heap.size v (yV z x y wd ht) (xQ z x y wd)∧Bw w w':=by
 cases hr:zBy z x y wd ht
 ·have e1:uJ z x y wd ht=3:=by unfold uJ;rw [hr];rfl
  have e2:yV z x y wd ht=0:=by unfold yV;rw [hr];rfl
  rw [e1,e2]
  exact (zBq w hr).mono fun e w' ⟨h1,h2⟩=>⟨_,h1,⟨none,0,rfl,Nat.le_refl _,.inl rfl⟩,h2⟩
 ·have e1:uJ z x y wd ht=0:=by unfold uJ;rw [if_pos hr]
  have e2:yV z x y wd ht=zDe y ht * zDe x wd:=by unfold yV;rw [if_pos hr]
  have hin:=zAd hr
  have nx:=zAr (x:=x) hin.1.1
  have ny:=zAr (x:=y) hin.1.2
  rw [e1,e2]
  exact zBp w hr rfl rfl rfl rfl rfl rfl ⟨⟨nx.1,nx.2.1⟩,by omega⟩ ⟨⟨ny.1,ny.2.1⟩,by omega⟩ rfl
end Go.Proofs.YtpaiholildedcaaGreat
