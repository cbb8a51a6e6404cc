/- Texts. -/
import Derived.Test.YtkjbafcalamgnaaGreatVSizeViewer12
import Derived.Test.YtkjbafcalamgnaaGreatVSizeViewer11
import Derived.Deep.AppendLies
set_option linter.unusedSimpArgs false
set_option linter.unusedVariables false
set_option maxRecDepth 100000
set_option maxHeartbeats 32000000
namespace Go.Proofs.YtkjbafcalamgnaaGreat
open Go.RowKit
def mkW (k0:Nat)(i:Nat):Req:=⟨((k0+5 * i:Nat):Int),((k0+5 * i+1:Nat):Int),((k0+5 * i+2:Nat):Int),((k0+5 * i+3:Nat):Int),((k0+5 * i+4:Nat):Int)⟩
theorem zB7 (g n cap k0:Nat)(w:World)(hT:zC w g (n * 5))(hn:n≤1048576)(hk0:k0≤6000000000000000000) :
  Calls Tryz.prog 42 #[.slice (some ⟨g,0,none⟩) n cap,.int .i64 (k0:Int)] w fun e w'=>e=.returned (.int .i64 ((k0+5 * n:Nat):Int))∧w.grownBy w' (some g)∧zC w' g (n * 5)∧zAj w' g 0 n (mkW k0):=by
 have HT0:Hid (zC w g (n * 5)):=hT
 clear hT
 go_enter Tryz.func42,Tryz.ntmps42
 go_wp2_with fail
 go_loopw [1,5] (fun kk i wr=>∃ j K:Nat,j≤n∧Hid (K=k0+5 * j)∧kk=.int .i64 (K:Int)∧i=.int .i64 (j:Int)∧w.grownBy wr (some g)∧zC wr g (n * 5)∧zAj wr g 0 j (mkW k0)) (fun _ i _=>n - (intOf i).toNat)
 case atStart=>exact ⟨0,k0,by omega,rfl,rfl,rfl,zHn _ _,HT0.out,fun i hi=>by omega⟩
 case round =>
  obtain ⟨j,K,hj,HK,rfl,rfl,hG,hT',hP⟩:=hrel
  by_cases hlt:j<n
  ·have hKb:K≤6000000000005242880:=by have:=HK.out;omega
   have t0:=hT'.cell (j * 5+0) (by omega)
   have t1:=hT'.cell (j * 5+1) (by omega)
   have t2:=hT'.cell (j * 5+2) (by omega)
   have t3:=hT'.cell (j * 5+3) (by omega)
   have t4:=hT'.cell (j * 5+4) (by omega)
   have y0:=(hT' (j * 5+0) (by omega)).2
   have y1:=(hT' (j * 5+1) (by omega)).2
   have y2:=(hT' (j * 5+2) (by omega)).2
   have y3:=(hT' (j * 5+3) (by omega)).2
   have y4:=(hT' (j * 5+4) (by omega)).2
   simp only [Nat.add_zero] at t0 y0
   have HG:Hid (w.grownBy wr (some g)):=hG
   have HT:Hid (zC wr g (n * 5)):=hT'
   have HP:Hid (zAj wr g 0 j (mkW k0)):=hP
   clear hT' hG hP
   have hi:(j:Int)<(n:Int):=by omega
   have hi0:(0:Int)≤(j:Int):=by omega
   go_wp2
   go_roundw
   case rel =>
    have hfs:=HP.out.lay HT.out hlt
    have he:mkW k0 j=⟨(K:Int),(K:Int)+1,(K:Int)+1+1,(K:Int)+1+1+1,(K:Int)+1+1+1+1⟩:=by
     have:=HK.out
     unfold mkW
     congr 1 <;> omega
    rw [he] at hfs
    exact ⟨j+1,K+5,by omega,by have:=HK.out;show _=_;omega,by go_num,by go_num,vN (vN (vN (vN (vN HG.out _ _) _ _) _ _) _ _) _ _,((((HT.out.set _ _).set _ _).set _ _).set _ _).set _ _,hfs⟩
   case measure=>simp [intOf];omega
  ·go_wp2
   go_ret
   have hjn:j=n:=by omega
   subst hjn
   exact ⟨zD (by have:=HK.out;omega),hG,hT',hP⟩
theorem zA8 (a:Option Addr)(cap:Nat)(k:Int)(w:World):Calls Tryz.prog 42 #[.slice a 0 cap,.int .i64 k] w fun e w'=>e=.returned (.int .i64 k)∧w=w':=by
 go_enter Tryz.func42,Tryz.ntmps42
 go_wp2_with fail
 go_loopw [1,5] (fun kk i wr=>kk=.int .i64 k∧i=.int .i64 0∧w=wr) (fun _ _ _=>0)
 case atStart=>exact ⟨rfl,rfl,rfl⟩
 case round =>
  obtain ⟨rfl,rfl,rfl⟩:=hrel
  go_wp2
  go_ret
  exact ⟨rfl,rfl⟩
theorem zF1 (a:Option Addr)(n cap k0:Nat)(w:World)(hp:xL w a n (mkW k0))(hmax:n≤1048576)(hk0:k0≤1125899906842624) :
  Calls Tryz.prog 86 #[.slice a n cap,.int .i64 (k0:Int)] w fun e w'=>e=.returned (.int .i64 ((k0+5 * n:Nat):Int))∧Bw w w':=by
 have HP:Hid (xL w a n (mkW k0)):=hp
 clear hp
 go_enter Tryz.func86,Tryz.ntmps86
 go_wp2_with fail
 go_loopw [1,5] (fun kk i wr=>∃ j K:Nat,j≤n∧Hid (K=k0+5 * j)∧kk=.int .i64 (K:Int)∧i=.int .i64 (j:Int)∧Bw w wr) (fun _ i _=>n - (intOf i).toNat)
 case atStart=>exact ⟨0,k0,by omega,rfl,rfl,rfl,Below.refl _ _⟩
 case round =>
  obtain ⟨j,K,hj,HK,rfl,rfl,hB⟩:=hrel
  by_cases hlt:j<n
  ·rcases HP.out with h0 | ⟨b,off,rfl,hbl,hpt⟩
   ·omega
   have hKb:K≤1125899913134080:=by have:=HK.out;omega
   have he:mkW k0 j=⟨(K:Int),(K:Int)+1,(K:Int)+1+1,(K:Int)+1+1+1,(K:Int)+1+1+1+1⟩:=by
    have:=HK.out
    unfold mkW
    congr 1 <;> omega
   have hat:=(hpt.below hB hbl) j hlt
   rw [he] at hat
   obtain ⟨t0,t1,t2,t3,t4⟩:=hat
   dsimp only at t0 t1 t2 t3 t4
   have HB:Hid (Bw w wr):=hB
   clear hB hpt he
   have hi:(j:Int)<(n:Int):=by omega
   have hi0:(0:Int)≤(j:Int):=by omega
   go_wp2
   go_roundw
   case rel=>exact ⟨j+1,K+5,by omega,by have:=HK.out;show _=_;omega,by go_num,by go_num,HB.out⟩
   case measure=>simp [intOf];omega
  ·go_wp2
   go_ret
   have hjn:j=n:=by omega
   subst hjn
   exact ⟨zD (by have:=HK.out;omega),hB⟩
def zF8 (w:World)(base:Nat)(v:Value)(n:Nat)(E:Nat→Req):Prop :=
 ∃ a cap,v=.slice a n cap∧n≤cap∧(n=0∨∃ b,a=some ⟨b,0,none⟩∧base≤b∧b<w.heap.size∧zAj w b 0 n E∧zC w b (n * 5))
theorem zF8.pts {w:World}{base:Nat}{v:Value}{n:Nat}{E:Nat→Req}(h:zF8 w base v n E):∃ a cap,v=.slice a n cap∧n≤cap∧xL w a n E:=by
 obtain ⟨a,cap,hv,hc,h0 | ⟨b,ha,hb,hl,hp,ht⟩⟩:=h
 ·exact ⟨a,cap,hv,hc,.inl h0⟩
 ·exact ⟨a,cap,hv,hc,.inr ⟨b,0,ha,hl,hp⟩⟩
theorem zF8.is {w:World}{base:Nat}{a:Option Addr}{n cap:Nat}{E:Nat→Req}(h:zF8 w base (.slice a n cap) n E):xL w a n E:=by
 obtain ⟨a',cap',hv,hc,hi⟩:=h.pts
 injection hv with h1 h2 h3
 subst h1
 exact hi
abbrev rqV (c:Int)(v1 v2:Value):Value:=.agg #[.int .i64 c,v1,v2]
section
variable {m n T B base lo hi:Nat} {R:Rfs} {E:Nat→Req} {w w':World} {v1 v2:Value}
theorem zLz.mid {b off:Nat}(h:zLz w b off m R)(hM:zK lo hi w w')(ho:b<lo∨hi≤b):zLz w' b off m R:=fun i hi=>by
 obtain ⟨h0,h1,h2⟩:=h i hi
 exact ⟨hM.cell h0 ho,hM.cell h1 ho,hM.cell h2 ho⟩
theorem zAj.mid {b off:Nat}(h:zAj w b off n E)(hM:zK lo hi w w')(ho:b<lo∨hi≤b):zAj w' b off n E:=fun i hi=>by
 obtain ⟨h0,h1,h2,h3,h4⟩:=h i hi
 exact ⟨hM.cell h0 ho,hM.cell h1 ho,hM.cell h2 ho,hM.cell h3 ho,hM.cell h4 ho⟩
theorem zN4.mid {v:Value}(h:zN4 w base v m R)(hM:zK lo hi w w')(hh:hi≤base):zN4 w' base v m R:=by
 obtain ⟨a,cap,hv,hc,h0 | ⟨b,ha,hbb,hl,hp,ht⟩⟩:=h
 ·exact ⟨a,cap,hv,hc,.inl h0⟩
 ·exact ⟨a,cap,hv,hc,.inr ⟨b,ha,hbb,Nat.lt_of_lt_of_le hl hM.size,hp.mid hM (.inr (by omega)),hM.there ht (.inr (by omega))⟩⟩
theorem zF8.mid {v:Value}(h:zF8 w base v n E)(hM:zK lo hi w w')(hh:hi≤base):zF8 w' base v n E:=by
 obtain ⟨a,cap,hv,hc,h0 | ⟨b,ha,hbb,hl,hp,ht⟩⟩:=h
 ·exact ⟨a,cap,hv,hc,.inl h0⟩
 ·exact ⟨a,cap,hv,hc,.inr ⟨b,ha,hbb,Nat.lt_of_lt_of_le hl hM.size,hp.mid hM (.inr (by omega)),hM.there ht (.inr (by omega))⟩⟩
theorem zRc {p k:Nat}(h:zC w p k)(he:w'.heap[p]?=w.heap[p]?):zC w' p k:=fun o ho=>by
 obtain ⟨v,hv⟩:=(h o ho).1
 exact ⟨⟨v,(World.cell?_of_block (a:=⟨p,o,none⟩) he).trans hv⟩,(World.frozen?_of_block (a:=⟨p,o,none⟩) he).trans (h o ho).2⟩
end
theorem zAu.grown {w w':World}{b g:Nat}{z x y:Int}(h:zAu w b z x y)(hg:w.grownBy w' (some g))(hne:g≠b):zAu w' b z x y :=
 ⟨(hg.cell_far ⟨b,0,none⟩ h.lt (fun e=>hne (by injection e with e;exact e.symm))).trans h.1,(hg.cell_far ⟨b,1,none⟩ h.lt (fun e=>hne (by injection e with e;exact e.symm))).trans h.2.1,(hg.cell_far ⟨b,2,none⟩ h.lt (fun e=>hne (by injection e with e;exact e.symm))).trans h.2.2⟩
theorem zUc {z x y wd ht lx ly hx hy ex ey:Int}{NX NY:Nat}{R:Rfs}(b:Nat)(w:World)(hA:uN w b z x y wd ht)(hr:zAi z x y wd ht=true)(hex:x+wd - 1=ex)(hey:y+ht - 1=ey)(e1:x / 8=lx)(e2:y / 8=ly)(e3:ex / 8=hx)(e4:ey / 8=hy)(hNX:(1≤NX∧NX≤2)∧hx=lx+(NX:Int) - 1)(hNY:(1≤NY∧NY≤2)∧hy=ly+(NY:Int) - 1)(hR:R=⟨fun _=>z,fun i=>lx+(i % NX:Nat),fun i=>ly+(i / NX:Nat)⟩) :
  Calls Tryz.prog 107 #[.pointer (some ⟨b,0,none⟩)] w fun e w'=>∃ v,e=.returned v∧zFq w.heap.size w' v (NY * NX) R∧Bw w w':=by
 have HR:Hid (R=⟨fun _=>z,fun i=>lx+(i % NX:Nat),fun i=>ly+(i / NX:Nat)⟩):=hR
 have HX:Hid (hx=lx+(NX:Int) - 1):=hNX.2
 have HY:Hid (hy=ly+(NY:Int) - 1):=hNY.2
 have nX:=hNX.1
 have nY:=hNY.1
 clear hR hNX hNY
 have hz:=vG hr
 have hin:=zAf hr
 have hn:=vD hz
 have hp1:zBf z x y=true:=by simp [zBf,inB,hz];omega
 have hp2:zBf z ex ey=true:=by simp [zBf,inB,hz];omega
 have sT1:=fun w=>zQf z x y w hp1
 have sT2:=fun w=>zQf z ex ey w hp2
 have bl:0≤lx∧lx≤8∧0≤ly∧ly≤8:=by omega
 have k1:IntKind.i64.wrap (x+wd)=x+wd:=IntWalk.i64_in _ (by omega)
 have k2:IntKind.i64.wrap (y+ht)=y+ht:=IntWalk.i64_in _ (by omega)
 have k3:IntKind.i64.wrap (x+wd - 1)=ex:=by rw [IntWalk.i64_in _ (by omega)];exact hex
 have k4:IntKind.i64.wrap (y+ht - 1)=ey:=by rw [IntWalk.i64_in _ (by omega)];exact hey
 rw [e1,e2] at sT1
 rw [e3,e4] at sT2
 clear hr hz hin hn hp1 hp2 hex hey e1 e2 e3 e4
 obtain ⟨i0,hi,hz0,hz1,hz2⟩:=info_parts zLb
 have HA:Hid (uN w b z x y wd ht):=hA
 have hbw:b<w.heap.size:=World.block_lt_of_cell? _ _ hA.1
 clear hA
 go_enter Tryz.func107,Tryz.ntmps107
 go_wp2_with fail
 generalize hW:(w.alloc _:World)=W
 have HB0:Hid (Bw w W):=by show Below _ _ _;subst hW;exact Qb
 have HO0:Hid (zFq w.heap.size W (.slice (some ⟨w.heap.size,0,none⟩) 0 0) 0 R):=by
  show World.ownsRow _ _ _ _ _ _ _
  subst hW
  exact ⟨by simp [yE],.inr ⟨w.heap.size,0,#[],rfl,Nat.le_refl _,heap_alloc_new w _,by simp,by unfold maxLen;omega,by simp,by simp [yE]⟩⟩
 have hsW:w.heap.size<W.heap.size:=by subst hW;simp
 clear hW
 have c0:∀ W',Bw W W'→W'.cell? ⟨b,0,none⟩=some (.int .i64 z):=fun W' h=>((zA HB0.out h).cell (p:=⟨b,0,none⟩) hbw).trans HA.out.1
 have c1:∀ W',Bw W W'→W'.cell? ⟨b,1,none⟩=some (.int .i64 x):=fun W' h=>((zA HB0.out h).cell (p:=⟨b,1,none⟩) hbw).trans HA.out.2.1
 have c2:∀ W',Bw W W'→W'.cell? ⟨b,2,none⟩=some (.int .i64 y):=fun W' h=>((zA HB0.out h).cell (p:=⟨b,2,none⟩) hbw).trans HA.out.2.2.1
 have c3:∀ W',Bw W W'→W'.cell? ⟨b,3,none⟩=some (.int .i64 wd):=fun W' h=>((zA HB0.out h).cell (p:=⟨b,3,none⟩) hbw).trans HA.out.2.2.2.1
 have c4:∀ W',Bw W W'→W'.cell? ⟨b,4,none⟩=some (.int .i64 ht):=fun W' h=>((zA HB0.out h).cell (p:=⟨b,4,none⟩) hbw).trans HA.out.2.2.2.2
 go_cut [4] (fun p wc=>∃ b4:Nat,p=.pointer (some ⟨b4,0,none⟩)∧W.heap.size≤b4∧zAu wc b4 z lx ly∧Bw W wc)
 case first =>
  refine wp_region_noPanic ?_
  refine wp_region_held_drew (S:=fun W'=>Bw W W') (by kernel_rfl) (by exact Qb) (fun hHeld=>?_)
  have hX0:Bw W W.drew:=hHeld
  refine zF (i:=0) (d:=some 9) rfl rfl ?_
  try simp only [Act.put,Qx,Qy,Qz]
  refine zF (i:=1) (d:=some 10) rfl rfl ?_
  try simp only [Act.put,Qx,Qy,Qz]
  refine zF (i:=2) (d:=some 11) rfl rfl ?_
  try simp only [Act.put,Qx,Qy,Qz]
  refine zF (i:=3) (d:=some 12) rfl rfl ?_
  try simp only [Act.put,Qx,Qy,Qz]
  refine zF (i:=4) (d:=some 13) rfl rfl ?_
  try simp only [Act.put,Qx,Qy,Qz]
  refine zF (i:=5) (d:=some 14) rfl rfl ?_
  try simp only [Act.put,Qx,Qy,Qz]
  refine zF (i:=6) (d:=some 15) rfl rfl ?_
  try simp only [Act.put,Qx,Qy,Qz]
  refine zF (i:=7) (d:=some 16) rfl rfl ?_
  try simp only [Act.put,Qx,Qy,Qz]
  refine zF (i:=8) (d:=some 17) rfl rfl ?_
  try simp only [Act.put,Qx,Qy,Qz]
  refine zF (i:=9) (d:=some 18) rfl rfl ?_
  try simp only [Act.put,Qx,Qy,Qz]
  refine zF (i:=10) (d:=some 19) rfl rfl ?_
  try simp only [Act.put,Qx,Qy,Qz]
  refine zF (i:=11) (d:=some 20) rfl rfl ?_
  try simp only [Act.put,Qx,Qy,Qz]
  refine wpAnyH_ready (rs:=[12,13]) (by kernel_rfl) (by simp) ?_
  refine (AllReadyH.cons rfl (fun K hK=>?_) (AllReadyH.cons rfl (fun K hK=>?_) AllReadyH.nil))
  ·rw [if_pos (by rfl)]
   go_simp
   refine Calls.mono (sT1 _) ?_
   rintro e wk ⟨rfl,hbk⟩
   have hXk:Bw W wk:=zA hX0 hbk
   go_wp2_with fail
   refine hK.out _ _ hXk (fun hHeld=>?_)
   clear hK K
   try simp only [Act.put,Qx,Qy,Qz]
   refine zN 13 fun K hK=>?_
   rw [if_pos (by rfl)]
   go_simp
   generalize hwA:(World.alloc _ _:World)=wl
   have hbl:Bw wk wl:=by subst hwA;exact Qb
   have hTl:zC wl wk.heap.size 3:=by subst hwA;exact zC2 wk _ _ _ _
   clear hwA
   have hXl:Bw W wl:=zA hXk hbl
   have hsl:W.heap.size≤wk.heap.size:=Below.size hXk
   refine hK.out _ _ hXl (fun hHeld=>?_)
   clear hK K
   try simp only [Act.put,Qx,Qy,Qz]
   refine zN 14 fun K hK=>?_
   rw [if_pos (by rfl)]
   have t0:=hTl.cell 0 (by omega)
   have f0:=(hTl 0 (by omega)).2
   have t1:=hTl.cell 1 (by omega)
   have f1:=(hTl 1 (by omega)).2
   have t2:=hTl.cell 2 (by omega)
   have f2:=(hTl 2 (by omega)).2
   go_simp
   have hXs:Bw W (((wl.setCell ⟨wk.heap.size,0,none⟩ (.int .i64 z)).setCell ⟨wk.heap.size,1,none⟩ (.int .i64 lx)).setCell ⟨wk.heap.size,2,none⟩ (.int .i64 ly)):=((hXl.setCell hsl _).setCell hsl _).setCell hsl _
   have hRs:=zAu.put (z:=z) (x:=lx) (y:=ly) hTl
   generalize hwS:(((wl.setCell _ _).setCell _ _).setCell _ _:World)=wS at *
   refine hK.out _ _ hXs (fun hHeld=>?_)
   clear hK K hwS t0 t1 t2 f0 f1 f2
   try simp only [Act.put,Qx,Qy,Qz]
   refine wpAnyH_done (by kernel_rfl) ?_ _
   refine NoPanic.normal ?_
   go_wp2_with fail
   go_meet
   case rel=>exact ⟨_,rfl,hsl,hRs,hXs⟩
  ·rw [if_pos (by rfl)]
   go_simp
   generalize hwA:(World.alloc _ _:World)=wk
   have hbk:Bw W wk.drew:=by subst hwA;exact Qb
   have hTk:zC wk.drew W.heap.size 3:=by subst hwA;exact zC2 W _ _ _ _
   clear hwA
   refine hK.out _ _ hbk (fun hHeld=>?_)
   clear hK K
   try simp only [Act.put,Qx,Qy,Qz]
   refine zN 12 fun K hK=>?_
   rw [if_pos (by rfl)]
   go_simp
   refine Calls.mono (sT1 _) ?_
   rintro e wl ⟨rfl,hbl⟩
   have hXl:Bw W wl:=zA hbk hbl
   have hTl:=zC.below hTk hbl
   have hsl:W.heap.size≤W.heap.size:=Nat.le_refl _
   go_wp2_with fail
   refine hK.out _ _ hXl (fun hHeld=>?_)
   clear hK K
   try simp only [Act.put,Qx,Qy,Qz]
   refine zN 14 fun K hK=>?_
   rw [if_pos (by rfl)]
   have t0:=hTl.cell 0 (by omega)
   have f0:=(hTl 0 (by omega)).2
   have t1:=hTl.cell 1 (by omega)
   have f1:=(hTl 1 (by omega)).2
   have t2:=hTl.cell 2 (by omega)
   have f2:=(hTl 2 (by omega)).2
   go_simp
   have hXs:Bw W (((wl.setCell ⟨W.heap.size,0,none⟩ (.int .i64 z)).setCell ⟨W.heap.size,1,none⟩ (.int .i64 lx)).setCell ⟨W.heap.size,2,none⟩ (.int .i64 ly)):=((hXl.setCell hsl _).setCell hsl _).setCell hsl _
   have hRs:=zAu.put (z:=z) (x:=lx) (y:=ly) hTl
   generalize hwS:(((wl.setCell _ _).setCell _ _).setCell _ _:World)=wS at *
   refine hK.out _ _ hXs (fun hHeld=>?_)
   clear hK K hwS t0 t1 t2 f0 f1 f2
   try simp only [Act.put,Qx,Qy,Qz]
   refine wpAnyH_done (by kernel_rfl) ?_ _
   refine NoPanic.normal ?_
   go_wp2_with fail
   go_meet
   case rel=>exact ⟨_,rfl,hsl,hRs,hXs⟩
 case rest =>
  obtain ⟨b4,rfl,hl4,hR4,hBc⟩:=hcut
  generalize wc=wA at *
  have HR4:Hid (zAu wA b4 z lx ly):=hR4
  have HBA:Hid (Bw W wA):=hBc
  have d0:∀ W',Bw wA W'→W'.cell? ⟨b,0,none⟩=some (.int .i64 z):=fun W' h=>c0 W' (zA hBc h)
  have d1:∀ W',Bw wA W'→W'.cell? ⟨b,1,none⟩=some (.int .i64 x):=fun W' h=>c1 W' (zA hBc h)
  have d2:∀ W',Bw wA W'→W'.cell? ⟨b,2,none⟩=some (.int .i64 y):=fun W' h=>c2 W' (zA hBc h)
  have d3:∀ W',Bw wA W'→W'.cell? ⟨b,3,none⟩=some (.int .i64 wd):=fun W' h=>c3 W' (zA hBc h)
  have d4:∀ W',Bw wA W'→W'.cell? ⟨b,4,none⟩=some (.int .i64 ht):=fun W' h=>c4 W' (zA hBc h)
  clear c0 c1 c2 c3 c4 hR4 hBc
  go_wp2_with fail
  go_cut [5] (fun p wx=>∃ b5:Nat,p=.pointer (some ⟨b5,0,none⟩)∧wA.heap.size≤b5∧zAu wx b5 z hx hy∧Bw wA wx)
  case first =>
   refine wp_region_noPanic ?_
   refine wp_region_held_drew (S:=fun W'=>Bw wA W') (by kernel_rfl) (by exact Qb) (fun hHeld=>?_)
   have hX0:Bw wA wA.drew:=hHeld
   refine zF (i:=0) (d:=some 22) rfl rfl ?_
   try simp only [Act.put,Qx,Qy,Qz]
   refine zF (i:=1) (d:=some 23) rfl rfl ?_
   try simp only [Act.put,Qx,Qy,Qz]
   refine zF (i:=2) (d:=some 24) rfl rfl ?_
   try simp only [Act.put,Qx,Qy,Qz]
   refine zF (i:=3) (d:=some 25) rfl rfl ?_
   try simp only [Act.put,Qx,Qy,Qz]
   refine zF (i:=4) (d:=some 26) rfl rfl ?_
   try simp only [Act.put,Qx,Qy,Qz]
   refine zF (i:=5) (d:=some 27) rfl rfl ?_
   try simp only [Act.put,Qx,Qy,Qz]
   refine zF (i:=6) (d:=some 28) rfl rfl ?_
   try simp only [Act.put,Qx,Qy,Qz]
   refine zF (i:=7) (d:=some 29) rfl rfl ?_
   try simp only [Act.put,Qx,Qy,Qz]
   refine zF (i:=8) (d:=some 30) rfl rfl ?_
   try simp only [Act.put,Qx,Qy,Qz]
   refine zF (i:=9) (d:=some 31) rfl rfl ?_
   try simp only [Act.put,Qx,Qy,Qz]
   refine zF (i:=10) (d:=some 32) rfl rfl ?_
   try simp only [Act.put,Qx,Qy,Qz]
   refine zF (i:=11) (d:=some 33) rfl rfl ?_
   try simp only [Act.put,Qx,Qy,Qz]
   refine zF (i:=12) (d:=some 34) rfl rfl ?_
   try simp only [Act.put,Qx,Qy,Qz]
   refine zF (i:=13) (d:=some 35) rfl rfl ?_
   try simp only [Act.put,Qx,Qy,Qz]
   refine zF (i:=14) (d:=some 36) rfl rfl ?_
   try simp only [Act.put,Qx,Qy,Qz]
   refine zF (i:=15) (d:=some 37) rfl rfl ?_
   try simp only [Act.put,Qx,Qy,Qz]
   refine zF (i:=16) (d:=some 38) rfl rfl ?_
   try simp only [Act.put,Qx,Qy,Qz]
   refine zF (i:=17) (d:=some 39) rfl rfl ?_
   try simp only [Act.put,Qx,Qy,Qz]
   refine zF (i:=18) (d:=some 40) rfl rfl ?_
   try simp only [Act.put,Qx,Qy,Qz]
   refine zF (i:=19) (d:=some 41) rfl rfl ?_
   try simp only [Act.put,Qx,Qy,Qz]
   refine zF (i:=20) (d:=some 42) rfl rfl ?_
   try simp only [Act.put,Qx,Qy,Qz]
   refine zF (i:=21) (d:=some 43) rfl rfl ?_
   try simp only [Act.put,Qx,Qy,Qz]
   refine zF (i:=22) (d:=some 44) rfl rfl ?_
   try simp only [Act.put,Qx,Qy,Qz]
   refine zF (i:=23) (d:=some 45) rfl rfl ?_
   try simp only [Act.put,Qx,Qy,Qz]
   refine wpAnyH_ready (rs:=[24,25]) (by kernel_rfl) (by simp) ?_
   refine (AllReadyH.cons rfl (fun K hK=>?_) (AllReadyH.cons rfl (fun K hK=>?_) AllReadyH.nil))
   ·rw [if_pos (by rfl)]
    go_simp
    refine Calls.mono (sT2 _) ?_
    rintro e wk ⟨rfl,hbk⟩
    have hXk:Bw wA wk:=zA hX0 hbk
    go_wp2_with fail
    refine hK.out _ _ hXk (fun hHeld=>?_)
    clear hK K
    try simp only [Act.put,Qx,Qy,Qz]
    refine zN 25 fun K hK=>?_
    rw [if_pos (by rfl)]
    go_simp
    generalize hwA:(World.alloc _ _:World)=wl
    have hbl:Bw wk wl:=by subst hwA;exact Qb
    have hTl:zC wl wk.heap.size 3:=by subst hwA;exact zC2 wk _ _ _ _
    clear hwA
    have hXl:Bw wA wl:=zA hXk hbl
    have hsl:wA.heap.size≤wk.heap.size:=Below.size hXk
    refine hK.out _ _ hXl (fun hHeld=>?_)
    clear hK K
    try simp only [Act.put,Qx,Qy,Qz]
    refine zN 26 fun K hK=>?_
    rw [if_pos (by rfl)]
    have t0:=hTl.cell 0 (by omega)
    have f0:=(hTl 0 (by omega)).2
    have t1:=hTl.cell 1 (by omega)
    have f1:=(hTl 1 (by omega)).2
    have t2:=hTl.cell 2 (by omega)
    have f2:=(hTl 2 (by omega)).2
    go_simp
    have hXs:Bw wA (((wl.setCell ⟨wk.heap.size,0,none⟩ (.int .i64 z)).setCell ⟨wk.heap.size,1,none⟩ (.int .i64 hx)).setCell ⟨wk.heap.size,2,none⟩ (.int .i64 hy)):=((hXl.setCell hsl _).setCell hsl _).setCell hsl _
    have hRs:=zAu.put (z:=z) (x:=hx) (y:=hy) hTl
    generalize hwS:(((wl.setCell _ _).setCell _ _).setCell _ _:World)=wS at *
    refine hK.out _ _ hXs (fun hHeld=>?_)
    clear hK K hwS t0 t1 t2 f0 f1 f2
    try simp only [Act.put,Qx,Qy,Qz]
    refine wpAnyH_done (by kernel_rfl) ?_ _
    refine NoPanic.normal ?_
    go_wp2_with fail
    go_meet
    case rel=>exact ⟨_,rfl,hsl,hRs,hXs⟩
   ·rw [if_pos (by rfl)]
    go_simp
    generalize hwA:(World.alloc _ _:World)=wk
    have hbk:Bw wA wk.drew:=by subst hwA;exact Qb
    have hTk:zC wk.drew wA.heap.size 3:=by subst hwA;exact zC2 wA _ _ _ _
    clear hwA
    refine hK.out _ _ hbk (fun hHeld=>?_)
    clear hK K
    try simp only [Act.put,Qx,Qy,Qz]
    refine zN 24 fun K hK=>?_
    rw [if_pos (by rfl)]
    go_simp
    refine Calls.mono (sT2 _) ?_
    rintro e wl ⟨rfl,hbl⟩
    have hXl:Bw wA wl:=zA hbk hbl
    have hTl:=zC.below hTk hbl
    have hsl:wA.heap.size≤wA.heap.size:=Nat.le_refl _
    go_wp2_with fail
    refine hK.out _ _ hXl (fun hHeld=>?_)
    clear hK K
    try simp only [Act.put,Qx,Qy,Qz]
    refine zN 26 fun K hK=>?_
    rw [if_pos (by rfl)]
    have t0:=hTl.cell 0 (by omega)
    have f0:=(hTl 0 (by omega)).2
    have t1:=hTl.cell 1 (by omega)
    have f1:=(hTl 1 (by omega)).2
    have t2:=hTl.cell 2 (by omega)
    have f2:=(hTl 2 (by omega)).2
    go_simp
    have hXs:Bw wA (((wl.setCell ⟨wA.heap.size,0,none⟩ (.int .i64 z)).setCell ⟨wA.heap.size,1,none⟩ (.int .i64 hx)).setCell ⟨wA.heap.size,2,none⟩ (.int .i64 hy)):=((hXl.setCell hsl _).setCell hsl _).setCell hsl _
    have hRs:=zAu.put (z:=z) (x:=hx) (y:=hy) hTl
    generalize hwS:(((wl.setCell _ _).setCell _ _).setCell _ _:World)=wS at *
    refine hK.out _ _ hXs (fun hHeld=>?_)
    clear hK K hwS t0 t1 t2 f0 f1 f2
    try simp only [Act.put,Qx,Qy,Qz]
    refine wpAnyH_done (by kernel_rfl) ?_ _
    refine NoPanic.normal ?_
    go_wp2_with fail
    go_meet
    case rel=>exact ⟨_,rfl,hsl,hRs,hXs⟩
  case rest =>
   obtain ⟨b5,rfl,hl5,hR5,hBx⟩:=hcut
   generalize wc=wB at *
   have hBB:Bw w wB:=zA HB0.out (zA HBA.out hBx)
   have HOB:Hid (zFq w.heap.size wB (.slice (some ⟨w.heap.size,0,none⟩) 0 0) 0 R):=by
    have hb:=zA HBA.out hBx
    show World.ownsRow _ _ _ _ _ _ _
    obtain ⟨h1,h2 | ⟨g,cp,cur,hv,hg,hh,hr⟩⟩:=HO0.out
    ·exact ⟨h1,.inl h2⟩
    ·refine ⟨h1,.inr ⟨g,cp,cur,hv,hg,?_,hr⟩⟩
     rw [hb.block g (by
      injection hv with hv _ _
      injection hv with hv
      injection hv with hv
      omega)]
     exact hh
   have HR4B:Hid (zAu wB b4 z lx ly):=HR4.out.below hBx
   have HR5B:Hid (zAu wB b5 z hx hy):=hR5
   have HBB:Hid (Bw w wB):=hBB
   have hl5':w.heap.size<b5:=by have:=HBA.out.size;omega
   have bx:0≤lx∧lx≤8:=⟨bl.1,bl.2.1⟩
   have by':0≤ly∧ly≤8:=bl.2.2
   obtain ⟨p0,p1,p2⟩:=HR4B.out
   clear bl d0 d1 d2 d3 d4 HO0 HR4 HBA hBB hBx hR5 HB0
   go_wp2_with fail
   go_loopw [3,6] (fun v j wr=>∃ (r g c:Nat),r≤NY∧j=.int .i64 (ly+(r:Int))∧v=.slice (some ⟨g,0,none⟩) (r * NX) c∧g≠b4∧g≠b5∧zFq w.heap.size wr v (r * NX) R∧zAu wr b4 z lx ly∧zAu wr b5 z hx hy∧Bw w wr) (fun _ j _=>(ly+(NY:Int) - intOf j).toNat)
   case atStart=>exact ⟨0,w.heap.size,0,by omega,by simp,by rw [Nat.zero_mul],by omega,by omega,by rw [Nat.zero_mul];exact HOB.out,HR4B.out,HR5B.out,HBB.out⟩
   case round =>
    obtain ⟨r,g,c,hr,rfl,rfl,hg4,hg5,hO,h4,h5,hB⟩:=hrel
    have HO0:Hid (zFq w.heap.size wr (.slice (some ⟨g,0,none⟩) (r * NX) c) (r * NX) R):=hO
    have HB0:Hid (Bw w wr):=hB
    have H4:Hid (zAu wr b4 z lx ly):=h4
    have H5:Hid (zAu wr b5 z hx hy):=h5
    obtain ⟨p0,p1,p2⟩:=h4
    obtain ⟨q0,q1,q2⟩:=h5
    clear hO hB
    by_cases hlt:r<NY
    ·have hle:ly+(r:Int)≤hy:=by have:=HY.out;omega
     go_wp2_with fail
     go_loopw [3,7] (fun v j wr=>∃ (m g c:Nat),m≤NX∧j=.int .i64 (lx+(m:Int))∧v=.slice (some ⟨g,0,none⟩) (r * NX+m) c∧g≠b4∧g≠b5∧zFq w.heap.size wr v (r * NX+m) R∧zAu wr b4 z lx ly∧zAu wr b5 z hx hy∧Bw w wr) (fun _ j _=>(lx+(NX:Int) - intOf j).toNat)
     case atStart=>exact ⟨0,g,c,by omega,by simp,rfl,hg4,hg5,HO0.out,H4.out,H5.out,HB0.out⟩
     case round =>
      clear HO0 HB0 H4 H5 p0 p1 p2 q0 q1 q2 hg4 hg5
      obtain ⟨m,g,c,hm,rfl,rfl,hg4,hg5,hO,h4,h5,hB⟩:=hrel
      have HO:Hid (zFq w.heap.size wr (.slice (some ⟨g,0,none⟩) (r * NX+m) c) (r * NX+m) R):=hO
      have HB:Hid (Bw w wr):=hB
      have H4:Hid (zAu wr b4 z lx ly):=h4
      have H5:Hid (zAu wr b5 z hx hy):=h5
      obtain ⟨p0,p1,p2⟩:=h4
      obtain ⟨q0,q1,q2⟩:=h5
      have hzr:wr.cell? ⟨b,0,none⟩=some (.int .i64 z):=(hB.cell (p:=⟨b,0,none⟩) hbw).trans HA.out.1
      have hszr:w.heap.size≤wr.heap.size:=hB.size
      have hlz:=World.block_lt_of_cell? _ _ hzr
      clear hO hB
      by_cases hlm:m<NX
      ·have hlx:lx+(m:Int)≤hx:=by have:=HX.out;omega
       have hK:r * NX+m<10:=by
        have:r * NX≤1 * 2:=Nat.mul_le_mul (by omega) nX.2
        omega
       have HS:Hid (yE R (r * NX+m+1)=yE R (r * NX+m) ++ [.int .i64 z,.int .i64 (lx+(m:Int)),.int .i64 (ly+(r:Int))]):=by
        show _=_
        rw [zCm,HR.out]
        have e1:(r * NX+m) % NX=m:=by rw [Nat.mul_comm,Nat.mul_add_mod];exact Nat.mod_eq_of_lt hlm
        have e2:(r * NX+m) / NX=r:=by rw [Nat.mul_comm,Nat.mul_add_div (by omega),Nat.div_eq_of_lt hlm];rfl
        simp only [e1,e2]
       have HKK:Hid (r * NX+m+1=r * NX+(m+1)):=rfl
       generalize hKd:r * NX+m=KK at *
       clear hKd
       go_wp2_with (first
        | (at_builtin;go_must (refine wpList_append_lies _ rfl _ _ 31 rfl w.heap.size 104 i0 (.agg #[.int .i64 0,.int .i64 0,.int .i64 0]) 3 24 Tryz.underlying31 hi hz0 hz1 hz2 rfl (by decide) _ KK (yE R KK) rfl (World.ownsRow.alloc HO.out _) ⟨wr.heap.size,0,none⟩ 1 1 [.int .i64 z,.int .i64 (lx+(m:Int)),.int .i64 (ly+(r:Int))] rfl rfl ?c1 ?c2 (by omega) ?c3 ?c4 ?c5 _ rfl ?_)))
       try
        case c1 =>
         intro q u hq
         match q,hq with
         | 0,hq=>simp at hq;subst hq;simp [Addr.add,go_sem]
         | 1,hq=>simp at hq;subst hq;simp [Addr.add,go_sem]
         | 2,hq=>simp at hq;subst hq;simp [Addr.add,go_sem]
         | q+3,hq=>simp at hq
       case c2=>first | exact ⟨rfl,rfl,rfl⟩ | (intro u hu;simp at hu;rcases hu with rfl | rfl | rfl <;> rfl)
       case c3=>unfold maxLen;omega
       case c4=>omega
       case c5=>first | omega | (simp;omega)
       intro g' c' w3 hown' hgrow hlie hlt3
       generalize hV:(wr.alloc _:World)=V at hgrow
       have hBV:Bw wr V:=by subst hV;exact Qb
       have hsV:V.heap.size=wr.heap.size+1:=by subst hV;simp
       have hgr:V.grownBy w3 (some g):=hgrow
       have hgw:w.heap.size≤g:=(HO.out.lt g rfl).1
       have hBg:Below w.heap.size V w3:=(Below.refl _ _).grown hgrow (by have:=hBV.size;omega) (fun k hk=>by have e:g=k:=Option.some.inj hk;omega)
       have HB3:Hid (Bw w w3):=(HB.out.trans (hBV.mono hszr)).trans hBg
       have HO3:Hid (zFq w.heap.size w3 (.slice (some ⟨g',0,none⟩) (KK+1) c') (KK+1) R):=by
        show World.ownsRow _ _ _ _ _ _ _
        rw [HS.out]
        exact hown'
       have h43:Hid (zAu w3 b4 z lx ly):=(H4.out.below hBV).grown hgr hg4
       have h53:Hid (zAu w3 b5 z hx hy):=(H5.out.below hBV).grown hgr hg5
       have l4:=H4.out.lt
       have l5:=H5.out.lt
       have hn4:g'≠b4:=by
        rcases hlie with e | e
        ·have e':g=g':=Option.some.inj e
         omega
        ·omega
       have hn5:g'≠b5:=by
        rcases hlie with e | e
        ·have e':g=g':=Option.some.inj e
         omega
        ·omega
       clear hown' hgrow hBg hBV hV hlie hsV hgr H4 H5 HB HO p0 p1 p2 q0 q1 q2 hzr
       go_wp2
       go_roundw
       case rel=>exact ⟨m+1,g',c',by omega,by go_num,by rw [← HKK.out],hn4,hn5,by rw [← HKK.out];exact HO3.out,h43.out,h53.out,HB3.out⟩
       case measure=>simp [intOf];omega
      ·have hme:m=NX:=by omega
       have hgt:¬ lx+(m:Int)≤hx:=by have:=HX.out;omega
       have HNN:Hid (r * NX+m=(r+1) * NX):=by show _=_;rw [hme,Nat.succ_mul]
       generalize r * NX+m=KK at *
       go_wp2
       go_roundw
       case rel=>exact ⟨r+1,g,c,by omega,by go_num,by rw [← HNN.out],hg4,hg5,by rw [← HNN.out];exact HO.out,H4.out,H5.out,HB.out⟩
       case measure=>simp [intOf];omega
    ·obtain rfl:NY=r:=by omega
     have hgt:¬ ly+(NY:Int)≤hy:=by have:=HY.out;omega
     go_wp2
     go_ret
     exact ⟨_,rfl,HO0.out,HB0.out⟩
abbrev xD (e:Req):List Value:=[.int .i64 e.z,.int .i64 e.x,.int .i64 e.y,.int .i64 e.du,.int .i64 e.tr]
def yI (l:List Req):List Value:=l.flatMap xD
theorem uV:∀ l:List Req,(yI l).length=l.length * 5
 | []=>rfl
 | e :: l=>by
  have h:=uV l
  unfold yI at h ⊢
  rw [List.flatMap_cons,List.length_append,h]
  simp
  omega
theorem xI (l m:List Req):yI (l ++ m)=yI l ++ yI m:=by simp [yI]
theorem xC (e:Req):yI [e]=xD e:=by simp [yI]
theorem zBq (l:List Req):∀ u ∈ yI l,u.oneCell'=true:=fun u hu=>by
 unfold yI at hu
 rw [List.mem_flatMap] at hu
 obtain ⟨e,_,h⟩:=hu
 simp at h
 rcases h with rfl | rfl | rfl | rfl | rfl <;> rfl
def nw (l:List Req)(i:Nat):Req:=l.getD i ⟨0,0,0,0,0⟩
theorem nw_cons (e:Req)(l:List Req)(i:Nat):nw (e :: l) (i+1)=nw l i:=by simp [nw]
theorem nw_zero (e:Req)(l:List Req):nw (e :: l) 0=e:=by simp [nw]
theorem zHw:∀ (l:List Req) (i:Nat),i<l.length→∀ k,k<5→(yI l)[i * 5+k]?=(xD (nw l i))[k]?
 | [],i,h,_,_=>absurd h (by simp)
 | e :: l,0,_,k,hk=>by
  rw [nw_zero]
  unfold yI
  rw [List.flatMap_cons,List.getElem?_append_left (by simp;omega)]
  simp
 | e :: l,i+1,h,k,hk=>by
  rw [nw_cons]
  have:=zHw l i (by simp at h;omega) k hk
  rw [← this]
  unfold yI
  rw [List.flatMap_cons,List.getElem?_append_right (by simp;omega)]
  congr 1
  simp
  omega
def zV (n:Nat)(E:Nat→Req):List Req:=(List.range n).map E
theorem yN (n:Nat)(E:Nat→Req):(zV n E).length=n:=by simp [zV]
theorem zKw (n:Nat)(E:Nat→Req)(i:Nat)(h:i<n):nw (zV n E) i=E i:=by simp [nw,zV,h]
theorem zWj (l:List Req):zV l.length (nw l)=l:=by
 refine List.ext_getElem (by simp [zV]) fun i h1 h2=>?_
 have h2':=h2
 simp [zV,nw,h2']
theorem zJ5 {w:World}{b off n:Nat}{E:Nat→Req}(h:zAj w b off n E):∀ q u,(yI (zV n E))[q]?=some u→w.cell? ⟨b,off+q,none⟩=some u:=fun q u hq=>by
 have hl:q<n * 5:=by
  have h1:=uV (zV n E)
  rw [yN] at h1
  rcases Nat.lt_or_ge q (n * 5) with h' | h'
  ·exact h'
  ·rw [List.getElem?_eq_none (by omega)] at hq
   cases hq
 have e1:q=q / 5 * 5+q % 5:=by omega
 have hi:q / 5<n:=by omega
 have hat:=zHw (zV n E) (q / 5) (by rw [yN];exact hi) (q % 5) (by omega)
 rw [← e1,zKw _ _ _ hi,hq] at hat
 obtain ⟨h0,h1,h2,h3,h4⟩:=h (q / 5) hi
 have e2:off+q=off+q / 5 * 5+q % 5:=by omega
 rw [e2]
 have hr:q % 5=0∨q % 5=1∨q % 5=2∨q % 5=3∨q % 5=4:=by omega
 rcases hr with hr | hr | hr | hr | hr <;> rw [hr] at hat ⊢ <;> simp at hat <;> subst hat <;> assumption
def yL (base:Nat)(w:World)(v:Value)(l:List Req):Prop:=w.ownsRow base 106 5 v l.length (yI l)
theorem yL.no (base:Nat)(w:World):yL base w (.slice none 0 0) []:=World.ownsRow_nil _ _ _ _
theorem yL.own {base:Nat}{w:World}{v:Value}{l:List Req}(h:yL base w v l):zF8 w base v l.length (nw l):=by
 obtain ⟨h1,h2 | ⟨g,cp,cur,hv,hg,hh,hkc,hcm,hcs,htk⟩⟩:=h
 ·obtain ⟨rfl,h0⟩:=h2
  rw [h0]
  exact ⟨none,0,rfl,Nat.le_refl _,.inl rfl⟩
 ·have hgl:g<w.heap.size:=by
   rcases Nat.lt_or_ge g w.heap.size with h' | h'
   ·exact h'
   ·rw [Array.getElem?_eq_none h'] at hh;cases hh
  have hrow:w.ownsRow base 106 5 (.slice (some ⟨g,0,none⟩) l.length cp) l.length (yI l):=⟨h1,.inr ⟨g,cp,cur,rfl,hg,hh,hkc,hcm,hcs,htk⟩⟩
  refine ⟨some ⟨g,0,none⟩,cp,hv,hkc,.inr ⟨g,rfl,hg,hgl,fun i hi=>?_,fun o ho=>⟨?_,hrow.frozenAt o⟩⟩⟩
  ·have ha:=zHw l i hi
   simp only [Nat.zero_add]
   exact ⟨(hrow.cellAt _ (by omega)).trans (ha 0 (by omega)),(hrow.cellAt _ (by omega)).trans (ha 1 (by omega)),(hrow.cellAt _ (by omega)).trans (ha 2 (by omega)),(hrow.cellAt _ (by omega)).trans (ha 3 (by omega)),(hrow.cellAt _ (by omega)).trans (ha 4 (by omega))⟩
  ·rw [hrow.cellAt o ho]
   have hlt:o<(yI l).length:=by rw [uV];exact ho
   exact ⟨(yI l)[o],List.getElem?_eq_getElem hlt⟩
theorem zCu {base s n:Nat}{t:TypeId}{w w':World}{v:Value}{xs:List Value}(h:w.ownsRow base t s v n xs)(hb:Below w.heap.size w w'):w'.ownsRow base t s v n xs:=by
 obtain ⟨h1,h2 | ⟨g,cp,cur,hv,hg,hh,hr⟩⟩:=h
 ·exact ⟨h1,.inl h2⟩
 ·refine ⟨h1,.inr ⟨g,cp,cur,hv,hg,?_,hr⟩⟩
  have hgl:g<w.heap.size:=by
   rcases Nat.lt_or_ge g w.heap.size with h' | h'
   ·exact h'
   ·rw [Array.getElem?_eq_none h'] at hh;cases hh
  rw [hb.block g hgl]
  exact hh
theorem yL.below {base:Nat}{w w':World}{v:Value}{l:List Req}(h:yL base w v l)(hb:Below w.heap.size w w'):yL base w' v l:=zCu h hb
theorem zP {base s n r o:Nat}{t:TypeId}{w:World}{v u:Value}{xs:List Value}(h:w.ownsRow base t s v n xs)(hr:r<base):(w.setCell ⟨r,o,none⟩ u).ownsRow base t s v n xs:=by
 obtain ⟨h1,h2 | ⟨g,cp,cur,hv,hg,hh,hk⟩⟩:=h
 ·exact ⟨h1,.inl h2⟩
 ·refine ⟨h1,.inr ⟨g,cp,cur,hv,hg,?_,hk⟩⟩
  rw [Below.heap_setCell w ⟨r,o,none⟩ u g (fun e=>by simp at e;omega)]
  exact hh
theorem zS {base B s n:Nat}{t:TypeId}{w:World}{v:Value}{xs:List Value}(h:w.ownsRow base t s v n xs)(hB:B≤base):w.ownsRow B t s v n xs:=by
 obtain ⟨h1,h2 | ⟨g,cp,cur,hv,hg,hk⟩⟩:=h
 ·exact ⟨h1,.inl h2⟩
 ·exact ⟨h1,.inr ⟨g,cp,cur,hv,by omega,hk⟩⟩
theorem zJb {w:World}{base base' s s' n n':Nat}{t t':TypeId}{v v':Value}{xs xs':List Value}(h:w.ownsRow base t s v n xs)(h':w.ownsRow base' t' s' v' n' xs')(ht:t≠t') :
  ∀ p l c p' l' c',v=.slice (some p) l c→v'=.slice (some p') l' c'→p.block≠p'.block:=fun p l c p' l' c' e e' hp=>by
 obtain ⟨_,h2 | ⟨g,cp,cur,hv,hg,hh,_⟩⟩:=h
 ·rw [h2.1] at e;cases e
 obtain ⟨_,h3 | ⟨g',cp',cur',hv',hg',hh',_⟩⟩:=h'
 ·rw [h3.1] at e';cases e'
 rw [hv] at e
 rw [hv'] at e'
 injection e with e _ _
 injection e with e
 injection e' with e' _ _
 injection e' with e'
 subst e e'
 simp at hp
 subst hp
 rw [hh] at hh'
 injection hh' with hh'
 injection hh' with _ h4 _
 exact ht h4
def vB (l:List Req):Rfs:=⟨fun i=>(nw l i).z,fun i=>(nw l i).x,fun i=>(nw l i).y⟩
theorem nw_app (l m:List Req)(i:Nat)(h:i<l.length):nw (l ++ m) i=nw l i:=by simp [nw,List.getElem?_append_left h]
theorem nw_last (l:List Req)(e:Req):nw (l ++ [e]) l.length=e:=by simp [nw]
def yP (base:Nat)(w:World)(v:Value)(l:List Req):Prop:=w.ownsRow base 104 3 v l.length (yE (vB l) l.length)
theorem yP.no (base:Nat)(w:World):yP base w (.slice none 0 0) []:=World.ownsRow_nil _ _ _ _
theorem yP.own {base:Nat}{w:World}{v:Value}{l:List Req}(h:yP base w v l):zN4 w base v l.length (vB l):=zFq.own h
theorem yP.below {base:Nat}{w w':World}{v:Value}{l:List Req}(h:yP base w v l)(hb:Below w.heap.size w w'):yP base w' v l:=zCu h hb
theorem zBo:(Tryz.prog.info? 106).map (fun i=>(i.zero,i.size,i.bytes))=some (some (.agg #[.int .i64 0,.int .i64 0,.int .i64 0,.int .i64 0,.int .i64 0]),5,40):=by kernel_rfl
theorem zFb (a:Option Addr)(n cap:Nat)(E:Nat→Req)(w:World)(hp:xL w a n E)(hn:n≤1048576) :
  Calls Tryz.prog 173 #[.slice a n cap] w fun e w'=>∃ v,e=.returned v∧yL w.heap.size w' v (zV n E)∧Bw w w':=by
 obtain ⟨i0,hi,hz0,hz1,hz2⟩:=info_parts zBo
 have HLEN:Hid ((zV n E).length=n):=yN n E
 cases a with
 | none =>
  rcases hp with h0 | ⟨b,off,h,_⟩
  ·subst h0
   have hnl:∀ w,Sem.run Tryz.prog (binOp BinOp.eql 36 (.slice none 0 cap) (.slice none 0 0)) w=.ok (.bool true) w:=fun _=>by kernel_rfl
   go_enter Tryz.func173,Tryz.ntmps173
   go_wp2
   go_ret
   exact ⟨_,rfl,yL.no _ _,Qb⟩
  ·cases h
 | some ad =>
  have HC:Hid (∀ q u,(yI (zV n E))[q]?=some u→(w.alloc (.cells #[] 106)).cell? (ad.add q)=some u):=fun q u hq=>by
   rcases hp with h0 | ⟨b,off,h,hbl,hpt⟩
   ·subst h0
    simp [zV,yI] at hq
   ·injection h with h
    subst h
    have h1:=zJ5 (hpt.below (by exact Qb:Below w.heap.size w (w.alloc (.cells #[] 106))) hbl) q u hq
    by_cases hq0:q=0
    ·subst hq0;simpa [Addr.add] using h1
    ·simpa [Addr.add,hq0] using h1
  have hnl:∀ w,Sem.run Tryz.prog (binOp BinOp.eql 36 (.slice (some ad) n cap) (.slice none 0 0)) w=.ok (.bool false) w:=fun _=>by kernel_rfl
  clear hp
  go_enter Tryz.func173,Tryz.ntmps173
  go_wp2_with (first
   | (at_builtin;go_must (refine wpList_append_own _ rfl _ _ 36 rfl w.heap.size 106 i0 (.agg #[.int .i64 0,.int .i64 0,.int .i64 0,.int .i64 0,.int .i64 0]) 5 40 Tryz.underlying36 hi hz0 hz1 hz2 rfl (by decide) (.slice (some ⟨w.heap.size,0,none⟩) 0 0) 0 [] rfl (World.ownsRow_lit (base:=w.heap.size) w #[] 0 (Nat.le_refl _) (Nat.zero_le _) rfl) ad n cap (yI (zV n E)) rfl ?c0 ?c1 ?c2 ?c3 ?c4 ?c5 ?_)))
  case c0=>rw [uV,HLEN.out]
  case c1=>exact HC.out
  case c2=>exact zBq _
  case c3=>unfold maxLen;omega
  case c4=>omega
  case c5=>first | omega | (simp;done) | (simp;omega)
  intro v' w2 hown' hgrow hnil
  have HR:Hid (yL w.heap.size w2 v' (zV n E)):=by
   show World.ownsRow _ _ _ _ _ _ _
   rw [HLEN.out]
   simpa using hown'
  have HB:Hid (Bw w w2):=by
   have h1:Bw w (w.alloc (.cells #[] 106)):=by exact Qb
   exact h1.trans ⟨hgrow.os,hgrow.tape,hgrow.output,hgrow.size,fun k hk=>hgrow.block k (by simp;omega) (by simp [Value.ownBlock];omega)⟩
  clear hown' hgrow hnil
  go_wp2
  go_ret
  exact ⟨_,rfl,HR.out,HB.out⟩
theorem zHd (a:Option Addr)(n cap:Nat)(E:Nat→Req)(w:World)(hp:xL w a n E)(hn:n≤1048576)(ha:∃ ad,a=some ad) :
  Calls Tryz.prog 109 #[.slice a n cap] w fun e w'=>∃ v,e=.returned v∧yL w.heap.size w' v (zV n E)∧Bw w w':=by
 obtain ⟨i0,hi,hz0,hz1,hz2⟩:=info_parts zBo
 have HLEN:Hid ((zV n E).length=n):=yN n E
 obtain ⟨ad,rfl⟩:=ha
 have HC:Hid (∀ q u,(yI (zV n E))[q]?=some u→(w.alloc (.cells #[] 106)).cell? (ad.add q)=some u):=fun q u hq=>by
  rcases hp with h0 | ⟨b,off,h,hbl,hpt⟩
  ·subst h0
   simp [zV,yI] at hq
  ·injection h with h
   subst h
   have h1:=zJ5 (hpt.below (by exact Qb:Below w.heap.size w (w.alloc (.cells #[] 106))) hbl) q u hq
   by_cases hq0:q=0
   ·subst hq0;simpa [Addr.add] using h1
   ·simpa [Addr.add,hq0] using h1
 clear hp
 go_enter Tryz.func109,Tryz.ntmps109
 go_wp2_with (first
  | (at_builtin;go_must (refine wpList_append_own _ rfl _ _ 36 rfl w.heap.size 106 i0 (.agg #[.int .i64 0,.int .i64 0,.int .i64 0,.int .i64 0,.int .i64 0]) 5 40 Tryz.underlying36 hi hz0 hz1 hz2 rfl (by decide) (.slice (some ⟨w.heap.size,0,none⟩) 0 0) 0 [] rfl (World.ownsRow_lit (base:=w.heap.size) w #[] 0 (Nat.le_refl _) (Nat.zero_le _) rfl) ad n cap (yI (zV n E)) rfl ?c0 ?c1 ?c2 ?c3 ?c4 ?c5 ?_)))
 case c0=>rw [uV,HLEN.out]
 case c1=>exact HC.out
 case c2=>exact zBq _
 case c3=>unfold maxLen;omega
 case c4=>omega
 case c5=>first | omega | (simp;done) | (simp;omega)
 intro v' w2 hown' hgrow hnil
 have HR:Hid (yL w.heap.size w2 v' (zV n E)):=by
  show World.ownsRow _ _ _ _ _ _ _
  rw [HLEN.out]
  simpa using hown'
 have HB:Hid (Bw w w2):=by
  have h1:Bw w (w.alloc (.cells #[] 106)):=by exact Qb
  exact h1.trans ⟨hgrow.os,hgrow.tape,hgrow.output,hgrow.size,fun k hk=>hgrow.block k (by simp;omega) (by simp [Value.ownBlock];omega)⟩
 clear hown' hgrow hnil
 go_wp2
 go_ret
 exact ⟨_,rfl,HR.out,HB.out⟩
end Go.Proofs.YtkjbafcalamgnaaGreat
