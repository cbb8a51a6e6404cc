/- Texts. -/
import Derived.Test.YtpaiholildedcaaGreatVLabelsIn10
import Derived.Deep.AppendLies
set_option linter.unusedSimpArgs false
set_option linter.unusedVariables false
set_option maxRecDepth 100000
set_option maxHeartbeats 32000000
namespace Go.Proofs.YtpaiholildedcaaGreat
open Go.RowKit
theorem uC.grown {w w':World}{b g:Nat}{z x y:Int}(h:uC w b z x y)(hg:w.grownBy w' (some g))(hne:g≠b):uC w' b z x y :=
 ⟨(hg.cell_far ⟨b,0,none⟩ h.lt (fun e=>hne (by injection e with e;exact e.symm))).trans h.1,(hg.cell_far ⟨b,1,none⟩ h.lt (fun e=>hne (by injection e with e;exact e.symm))).trans h.2.1,(hg.cell_far ⟨b,2,none⟩ h.lt (fun e=>hne (by injection e with e;exact e.symm))).trans h.2.2⟩
theorem zP1 {z x y wd ht lx ly hx hy ex ey:Int}{NX NY:Nat}{R:Rfs}(b:Nat)(w:World)(hA:zAo w b z x y wd ht)(hr:zBy z x y wd ht=true)(hex:x+wd - 1=ex)(hey:y+ht - 1=ey)(e1:x / 8=lx)(e2:y / 8=ly)(e3:ex / 8=hx)(e4:ey / 8=hy)(hNX:(1≤NX∧NX≤2)∧hx=lx+(NX:Int) - 1)(hNY:(1≤NY∧NY≤2)∧hy=ly+(NY:Int) - 1)(hR:R=⟨fun _=>z,fun i=>lx+(i % NX:Nat),fun i=>ly+(i / NX:Nat)⟩) :
  Calls Tryz.prog 67 #[.pointer (some ⟨b,0,none⟩)] w fun e w'=>∃ v,e=.returned v∧zDm w.heap.size w' v (NY * NX) R∧Bw w w':=by
 have HR:Hid (R=⟨fun _=>z,fun i=>lx+(i % NX:Nat),fun i=>ly+(i / NX:Nat)⟩):=hR
 have HX:Hid (hx=lx+(NX:Int) - 1):=hNX.2
 have HY:Hid (hy=ly+(NY:Int) - 1):=hNY.2
 have nX:=hNX.1
 have nY:=hNY.1
 clear hR hNX hNY
 have hz:=vT hr
 have hin:=zAd hr
 have hn:=xJ hz
 have hp1:uW z x y=true:=by simp [uW,inB,hz];omega
 have hp2:uW z ex ey=true:=by simp [uW,inB,hz];omega
 have sT1:=fun w=>zL8 z x y w hp1
 have sT2:=fun w=>zL8 z ex ey w hp2
 have bl:0≤lx∧lx≤8∧0≤ly∧ly≤8:=by omega
 have k1:IntKind.i64.wrap (x+wd)=x+wd:=IntWalk.i64_in _ (by omega)
 have k2:IntKind.i64.wrap (y+ht)=y+ht:=IntWalk.i64_in _ (by omega)
 have k3:IntKind.i64.wrap (x+wd - 1)=ex:=by rw [IntWalk.i64_in _ (by omega)];exact hex
 have k4:IntKind.i64.wrap (y+ht - 1)=ey:=by rw [IntWalk.i64_in _ (by omega)];exact hey
 rw [e1,e2] at sT1
 rw [e3,e4] at sT2
 clear hr hz hin hn hp1 hp2 hex hey e1 e2 e3 e4
 obtain ⟨i0,hi,hz0,hz1,hz2⟩:=info_parts zP6
 have HA:Hid (zAo w b z x y wd ht):=hA
 have hbw:b<w.heap.size:=World.block_lt_of_cell? _ _ hA.1
 clear hA
 go_enter Tryz.func67,Tryz.ntmps67
 go_wp2_with fail
 generalize hW:(w.alloc _:World)=W
 have HB0:Hid (Bw w W):=by show Below _ _ _;subst hW;exact Qb
 have HO0:Hid (zDm w.heap.size W (.slice (some ⟨w.heap.size,0,none⟩) 0 0) 0 R):=by
  show World.ownsRow _ _ _ _ _ _ _
  subst hW
  exact ⟨by simp [xP],.inr ⟨w.heap.size,0,#[],rfl,Nat.le_refl _,heap_alloc_new w _,by simp,by unfold maxLen;omega,by simp,by simp [xP]⟩⟩
 have hsW:w.heap.size<W.heap.size:=by subst hW;simp
 clear hW
 have c0:∀ W',Bw W W'→W'.cell? ⟨b,0,none⟩=some (.int .i64 z):=fun W' h=>((zA HB0.out h).cell (p:=⟨b,0,none⟩) hbw).trans HA.out.1
 have c1:∀ W',Bw W W'→W'.cell? ⟨b,1,none⟩=some (.int .i64 x):=fun W' h=>((zA HB0.out h).cell (p:=⟨b,1,none⟩) hbw).trans HA.out.2.1
 have c2:∀ W',Bw W W'→W'.cell? ⟨b,2,none⟩=some (.int .i64 y):=fun W' h=>((zA HB0.out h).cell (p:=⟨b,2,none⟩) hbw).trans HA.out.2.2.1
 have c3:∀ W',Bw W W'→W'.cell? ⟨b,3,none⟩=some (.int .i64 wd):=fun W' h=>((zA HB0.out h).cell (p:=⟨b,3,none⟩) hbw).trans HA.out.2.2.2.1
 have c4:∀ W',Bw W W'→W'.cell? ⟨b,4,none⟩=some (.int .i64 ht):=fun W' h=>((zA HB0.out h).cell (p:=⟨b,4,none⟩) hbw).trans HA.out.2.2.2.2
 go_cut [4] (fun p wc=>∃ b4:Nat,p=.pointer (some ⟨b4,0,none⟩)∧W.heap.size≤b4∧uC wc b4 z lx ly∧Bw W wc)
 case first =>
  refine wp_region_noPanic ?_
  refine wp_region_held_drew (S:=fun W'=>Bw W W') (by kernel_rfl) (by exact Qb) (fun hHeld=>?_)
  have hX0:Bw W W.drew:=hHeld
  refine zC (i:=0) (d:=some 9) rfl rfl ?_
  try simp only [Act.put,Qx,Qy,Qz]
  refine zC (i:=1) (d:=some 10) rfl rfl ?_
  try simp only [Act.put,Qx,Qy,Qz]
  refine zC (i:=2) (d:=some 11) rfl rfl ?_
  try simp only [Act.put,Qx,Qy,Qz]
  refine zC (i:=3) (d:=some 12) rfl rfl ?_
  try simp only [Act.put,Qx,Qy,Qz]
  refine zC (i:=4) (d:=some 13) rfl rfl ?_
  try simp only [Act.put,Qx,Qy,Qz]
  refine zC (i:=5) (d:=some 14) rfl rfl ?_
  try simp only [Act.put,Qx,Qy,Qz]
  refine zC (i:=6) (d:=some 15) rfl rfl ?_
  try simp only [Act.put,Qx,Qy,Qz]
  refine zC (i:=7) (d:=some 16) rfl rfl ?_
  try simp only [Act.put,Qx,Qy,Qz]
  refine zC (i:=8) (d:=some 17) rfl rfl ?_
  try simp only [Act.put,Qx,Qy,Qz]
  refine zC (i:=9) (d:=some 18) rfl rfl ?_
  try simp only [Act.put,Qx,Qy,Qz]
  refine zC (i:=10) (d:=some 19) rfl rfl ?_
  try simp only [Act.put,Qx,Qy,Qz]
  refine zC (i:=11) (d:=some 20) rfl rfl ?_
  try simp only [Act.put,Qx,Qy,Qz]
  refine wpAnyH_ready (rs:=[12,13]) (by kernel_rfl) (by simp) ?_
  refine (AllReadyH.cons rfl (fun K hK=>?_) (AllReadyH.cons rfl (fun K hK=>?_) AllReadyH.nil))
  ·rw [if_pos (by rfl)]
   go_simp
   refine Calls.mono (sT1 _) ?_
   rintro e wk ⟨rfl,hbk⟩
   have hXk:Bw W wk:=zA hX0 hbk
   go_wp2_with fail
   refine hK.out _ _ hXk (fun hHeld=>?_)
   clear hK K
   try simp only [Act.put,Qx,Qy,Qz]
   refine zN 13 fun K hK=>?_
   rw [if_pos (by rfl)]
   go_simp
   generalize hwA:(World.alloc _ _:World)=wl
   have hbl:Bw wk wl:=by subst hwA;exact Qb
   have hTl:zD wl wk.heap.size 3:=by subst hwA;exact zCk wk _ _ _ _
   clear hwA
   have hXl:Bw W wl:=zA hXk hbl
   have hsl:W.heap.size≤wk.heap.size:=Below.size hXk
   refine hK.out _ _ hXl (fun hHeld=>?_)
   clear hK K
   try simp only [Act.put,Qx,Qy,Qz]
   refine zN 14 fun K hK=>?_
   rw [if_pos (by rfl)]
   have t0:=hTl.cell 0 (by omega)
   have f0:=(hTl 0 (by omega)).2
   have t1:=hTl.cell 1 (by omega)
   have f1:=(hTl 1 (by omega)).2
   have t2:=hTl.cell 2 (by omega)
   have f2:=(hTl 2 (by omega)).2
   go_simp
   have hXs:Bw W (((wl.setCell ⟨wk.heap.size,0,none⟩ (.int .i64 z)).setCell ⟨wk.heap.size,1,none⟩ (.int .i64 lx)).setCell ⟨wk.heap.size,2,none⟩ (.int .i64 ly)):=((hXl.setCell hsl _).setCell hsl _).setCell hsl _
   have hRs:=uC.put (z:=z) (x:=lx) (y:=ly) hTl
   generalize hwS:(((wl.setCell _ _).setCell _ _).setCell _ _:World)=wS at *
   refine hK.out _ _ hXs (fun hHeld=>?_)
   clear hK K hwS t0 t1 t2 f0 f1 f2
   try simp only [Act.put,Qx,Qy,Qz]
   refine wpAnyH_done (by kernel_rfl) ?_ _
   refine NoPanic.normal ?_
   go_wp2_with fail
   go_meet
   case rel=>exact ⟨_,rfl,hsl,hRs,hXs⟩
  ·rw [if_pos (by rfl)]
   go_simp
   generalize hwA:(World.alloc _ _:World)=wk
   have hbk:Bw W wk.drew:=by subst hwA;exact Qb
   have hTk:zD wk.drew W.heap.size 3:=by subst hwA;exact zCk W _ _ _ _
   clear hwA
   refine hK.out _ _ hbk (fun hHeld=>?_)
   clear hK K
   try simp only [Act.put,Qx,Qy,Qz]
   refine zN 12 fun K hK=>?_
   rw [if_pos (by rfl)]
   go_simp
   refine Calls.mono (sT1 _) ?_
   rintro e wl ⟨rfl,hbl⟩
   have hXl:Bw W wl:=zA hbk hbl
   have hTl:=zD.below hTk hbl
   have hsl:W.heap.size≤W.heap.size:=Nat.le_refl _
   go_wp2_with fail
   refine hK.out _ _ hXl (fun hHeld=>?_)
   clear hK K
   try simp only [Act.put,Qx,Qy,Qz]
   refine zN 14 fun K hK=>?_
   rw [if_pos (by rfl)]
   have t0:=hTl.cell 0 (by omega)
   have f0:=(hTl 0 (by omega)).2
   have t1:=hTl.cell 1 (by omega)
   have f1:=(hTl 1 (by omega)).2
   have t2:=hTl.cell 2 (by omega)
   have f2:=(hTl 2 (by omega)).2
   go_simp
   have hXs:Bw W (((wl.setCell ⟨W.heap.size,0,none⟩ (.int .i64 z)).setCell ⟨W.heap.size,1,none⟩ (.int .i64 lx)).setCell ⟨W.heap.size,2,none⟩ (.int .i64 ly)):=((hXl.setCell hsl _).setCell hsl _).setCell hsl _
   have hRs:=uC.put (z:=z) (x:=lx) (y:=ly) hTl
   generalize hwS:(((wl.setCell _ _).setCell _ _).setCell _ _:World)=wS at *
   refine hK.out _ _ hXs (fun hHeld=>?_)
   clear hK K hwS t0 t1 t2 f0 f1 f2
   try simp only [Act.put,Qx,Qy,Qz]
   refine wpAnyH_done (by kernel_rfl) ?_ _
   refine NoPanic.normal ?_
   go_wp2_with fail
   go_meet
   case rel=>exact ⟨_,rfl,hsl,hRs,hXs⟩
 case rest =>
  obtain ⟨b4,rfl,hl4,hR4,hBc⟩:=hcut
  generalize wc=wA at *
  have HR4:Hid (uC wA b4 z lx ly):=hR4
  have HBA:Hid (Bw W wA):=hBc
  have d0:∀ W',Bw wA W'→W'.cell? ⟨b,0,none⟩=some (.int .i64 z):=fun W' h=>c0 W' (zA hBc h)
  have d1:∀ W',Bw wA W'→W'.cell? ⟨b,1,none⟩=some (.int .i64 x):=fun W' h=>c1 W' (zA hBc h)
  have d2:∀ W',Bw wA W'→W'.cell? ⟨b,2,none⟩=some (.int .i64 y):=fun W' h=>c2 W' (zA hBc h)
  have d3:∀ W',Bw wA W'→W'.cell? ⟨b,3,none⟩=some (.int .i64 wd):=fun W' h=>c3 W' (zA hBc h)
  have d4:∀ W',Bw wA W'→W'.cell? ⟨b,4,none⟩=some (.int .i64 ht):=fun W' h=>c4 W' (zA hBc h)
  clear c0 c1 c2 c3 c4 hR4 hBc
  go_wp2_with fail
  go_cut [5] (fun p wx=>∃ b5:Nat,p=.pointer (some ⟨b5,0,none⟩)∧wA.heap.size≤b5∧uC wx b5 z hx hy∧Bw wA wx)
  case first =>
   refine wp_region_noPanic ?_
   refine wp_region_held_drew (S:=fun W'=>Bw wA W') (by kernel_rfl) (by exact Qb) (fun hHeld=>?_)
   have hX0:Bw wA wA.drew:=hHeld
   refine zC (i:=0) (d:=some 22) rfl rfl ?_
   try simp only [Act.put,Qx,Qy,Qz]
   refine zC (i:=1) (d:=some 23) rfl rfl ?_
   try simp only [Act.put,Qx,Qy,Qz]
   refine zC (i:=2) (d:=some 24) rfl rfl ?_
   try simp only [Act.put,Qx,Qy,Qz]
   refine zC (i:=3) (d:=some 25) rfl rfl ?_
   try simp only [Act.put,Qx,Qy,Qz]
   refine zC (i:=4) (d:=some 26) rfl rfl ?_
   try simp only [Act.put,Qx,Qy,Qz]
   refine zC (i:=5) (d:=some 27) rfl rfl ?_
   try simp only [Act.put,Qx,Qy,Qz]
   refine zC (i:=6) (d:=some 28) rfl rfl ?_
   try simp only [Act.put,Qx,Qy,Qz]
   refine zC (i:=7) (d:=some 29) rfl rfl ?_
   try simp only [Act.put,Qx,Qy,Qz]
   refine zC (i:=8) (d:=some 30) rfl rfl ?_
   try simp only [Act.put,Qx,Qy,Qz]
   refine zC (i:=9) (d:=some 31) rfl rfl ?_
   try simp only [Act.put,Qx,Qy,Qz]
   refine zC (i:=10) (d:=some 32) rfl rfl ?_
   try simp only [Act.put,Qx,Qy,Qz]
   refine zC (i:=11) (d:=some 33) rfl rfl ?_
   try simp only [Act.put,Qx,Qy,Qz]
   refine zC (i:=12) (d:=some 34) rfl rfl ?_
   try simp only [Act.put,Qx,Qy,Qz]
   refine zC (i:=13) (d:=some 35) rfl rfl ?_
   try simp only [Act.put,Qx,Qy,Qz]
   refine zC (i:=14) (d:=some 36) rfl rfl ?_
   try simp only [Act.put,Qx,Qy,Qz]
   refine zC (i:=15) (d:=some 37) rfl rfl ?_
   try simp only [Act.put,Qx,Qy,Qz]
   refine zC (i:=16) (d:=some 38) rfl rfl ?_
   try simp only [Act.put,Qx,Qy,Qz]
   refine zC (i:=17) (d:=some 39) rfl rfl ?_
   try simp only [Act.put,Qx,Qy,Qz]
   refine zC (i:=18) (d:=some 40) rfl rfl ?_
   try simp only [Act.put,Qx,Qy,Qz]
   refine zC (i:=19) (d:=some 41) rfl rfl ?_
   try simp only [Act.put,Qx,Qy,Qz]
   refine zC (i:=20) (d:=some 42) rfl rfl ?_
   try simp only [Act.put,Qx,Qy,Qz]
   refine zC (i:=21) (d:=some 43) rfl rfl ?_
   try simp only [Act.put,Qx,Qy,Qz]
   refine zC (i:=22) (d:=some 44) rfl rfl ?_
   try simp only [Act.put,Qx,Qy,Qz]
   refine zC (i:=23) (d:=some 45) rfl rfl ?_
   try simp only [Act.put,Qx,Qy,Qz]
   refine wpAnyH_ready (rs:=[24,25]) (by kernel_rfl) (by simp) ?_
   refine (AllReadyH.cons rfl (fun K hK=>?_) (AllReadyH.cons rfl (fun K hK=>?_) AllReadyH.nil))
   ·rw [if_pos (by rfl)]
    go_simp
    refine Calls.mono (sT2 _) ?_
    rintro e wk ⟨rfl,hbk⟩
    have hXk:Bw wA wk:=zA hX0 hbk
    go_wp2_with fail
    refine hK.out _ _ hXk (fun hHeld=>?_)
    clear hK K
    try simp only [Act.put,Qx,Qy,Qz]
    refine zN 25 fun K hK=>?_
    rw [if_pos (by rfl)]
    go_simp
    generalize hwA:(World.alloc _ _:World)=wl
    have hbl:Bw wk wl:=by subst hwA;exact Qb
    have hTl:zD wl wk.heap.size 3:=by subst hwA;exact zCk wk _ _ _ _
    clear hwA
    have hXl:Bw wA wl:=zA hXk hbl
    have hsl:wA.heap.size≤wk.heap.size:=Below.size hXk
    refine hK.out _ _ hXl (fun hHeld=>?_)
    clear hK K
    try simp only [Act.put,Qx,Qy,Qz]
    refine zN 26 fun K hK=>?_
    rw [if_pos (by rfl)]
    have t0:=hTl.cell 0 (by omega)
    have f0:=(hTl 0 (by omega)).2
    have t1:=hTl.cell 1 (by omega)
    have f1:=(hTl 1 (by omega)).2
    have t2:=hTl.cell 2 (by omega)
    have f2:=(hTl 2 (by omega)).2
    go_simp
    have hXs:Bw wA (((wl.setCell ⟨wk.heap.size,0,none⟩ (.int .i64 z)).setCell ⟨wk.heap.size,1,none⟩ (.int .i64 hx)).setCell ⟨wk.heap.size,2,none⟩ (.int .i64 hy)):=((hXl.setCell hsl _).setCell hsl _).setCell hsl _
    have hRs:=uC.put (z:=z) (x:=hx) (y:=hy) hTl
    generalize hwS:(((wl.setCell _ _).setCell _ _).setCell _ _:World)=wS at *
    refine hK.out _ _ hXs (fun hHeld=>?_)
    clear hK K hwS t0 t1 t2 f0 f1 f2
    try simp only [Act.put,Qx,Qy,Qz]
    refine wpAnyH_done (by kernel_rfl) ?_ _
    refine NoPanic.normal ?_
    go_wp2_with fail
    go_meet
    case rel=>exact ⟨_,rfl,hsl,hRs,hXs⟩
   ·rw [if_pos (by rfl)]
    go_simp
    generalize hwA:(World.alloc _ _:World)=wk
    have hbk:Bw wA wk.drew:=by subst hwA;exact Qb
    have hTk:zD wk.drew wA.heap.size 3:=by subst hwA;exact zCk wA _ _ _ _
    clear hwA
    refine hK.out _ _ hbk (fun hHeld=>?_)
    clear hK K
    try simp only [Act.put,Qx,Qy,Qz]
    refine zN 24 fun K hK=>?_
    rw [if_pos (by rfl)]
    go_simp
    refine Calls.mono (sT2 _) ?_
    rintro e wl ⟨rfl,hbl⟩
    have hXl:Bw wA wl:=zA hbk hbl
    have hTl:=zD.below hTk hbl
    have hsl:wA.heap.size≤wA.heap.size:=Nat.le_refl _
    go_wp2_with fail
    refine hK.out _ _ hXl (fun hHeld=>?_)
    clear hK K
    try simp only [Act.put,Qx,Qy,Qz]
    refine zN 26 fun K hK=>?_
    rw [if_pos (by rfl)]
    have t0:=hTl.cell 0 (by omega)
    have f0:=(hTl 0 (by omega)).2
    have t1:=hTl.cell 1 (by omega)
    have f1:=(hTl 1 (by omega)).2
    have t2:=hTl.cell 2 (by omega)
    have f2:=(hTl 2 (by omega)).2
    go_simp
    have hXs:Bw wA (((wl.setCell ⟨wA.heap.size,0,none⟩ (.int .i64 z)).setCell ⟨wA.heap.size,1,none⟩ (.int .i64 hx)).setCell ⟨wA.heap.size,2,none⟩ (.int .i64 hy)):=((hXl.setCell hsl _).setCell hsl _).setCell hsl _
    have hRs:=uC.put (z:=z) (x:=hx) (y:=hy) hTl
    generalize hwS:(((wl.setCell _ _).setCell _ _).setCell _ _:World)=wS at *
    refine hK.out _ _ hXs (fun hHeld=>?_)
    clear hK K hwS t0 t1 t2 f0 f1 f2
    try simp only [Act.put,Qx,Qy,Qz]
    refine wpAnyH_done (by kernel_rfl) ?_ _
    refine NoPanic.normal ?_
    go_wp2_with fail
    go_meet
    case rel=>exact ⟨_,rfl,hsl,hRs,hXs⟩
  case rest =>
   obtain ⟨b5,rfl,hl5,hR5,hBx⟩:=hcut
   generalize wc=wB at *
   have hBB:Bw w wB:=zA HB0.out (zA HBA.out hBx)
   have HOB:Hid (zDm w.heap.size wB (.slice (some ⟨w.heap.size,0,none⟩) 0 0) 0 R):=by
    have hb:=zA HBA.out hBx
    show World.ownsRow _ _ _ _ _ _ _
    obtain ⟨h1,h2 | ⟨g,cp,cur,hv,hg,hh,hr⟩⟩:=HO0.out
    ·exact ⟨h1,.inl h2⟩
    ·refine ⟨h1,.inr ⟨g,cp,cur,hv,hg,?_,hr⟩⟩
     rw [hb.block g (by
      injection hv with hv _ _
      injection hv with hv
      injection hv with hv
      omega)]
     exact hh
   have HR4B:Hid (uC wB b4 z lx ly):=HR4.out.below hBx
   have HR5B:Hid (uC wB b5 z hx hy):=hR5
   have HBB:Hid (Bw w wB):=hBB
   have hl5':w.heap.size<b5:=by have:=HBA.out.size;omega
   have bx:0≤lx∧lx≤8:=⟨bl.1,bl.2.1⟩
   have by':0≤ly∧ly≤8:=bl.2.2
   obtain ⟨p0,p1,p2⟩:=HR4B.out
   clear bl d0 d1 d2 d3 d4 HO0 HR4 HBA hBB hBx hR5 HB0
   go_wp2_with fail
   go_loopw [3,6] (fun v j wr=>∃ (r g c:Nat),r≤NY∧j=.int .i64 (ly+(r:Int))∧v=.slice (some ⟨g,0,none⟩) (r * NX) c∧g≠b4∧g≠b5∧zDm w.heap.size wr v (r * NX) R∧uC wr b4 z lx ly∧uC wr b5 z hx hy∧Bw w wr) (fun _ j _=>(ly+(NY:Int) - intOf j).toNat)
   case atStart=>exact ⟨0,w.heap.size,0,by omega,by simp,by rw [Nat.zero_mul],by omega,by omega,by rw [Nat.zero_mul];exact HOB.out,HR4B.out,HR5B.out,HBB.out⟩
   case round =>
    obtain ⟨r,g,c,hr,rfl,rfl,hg4,hg5,hO,h4,h5,hB⟩:=hrel
    have HO0:Hid (zDm w.heap.size wr (.slice (some ⟨g,0,none⟩) (r * NX) c) (r * NX) R):=hO
    have HB0:Hid (Bw w wr):=hB
    have H4:Hid (uC wr b4 z lx ly):=h4
    have H5:Hid (uC wr b5 z hx hy):=h5
    obtain ⟨p0,p1,p2⟩:=h4
    obtain ⟨q0,q1,q2⟩:=h5
    clear hO hB
    by_cases hlt:r<NY
    ·have hle:ly+(r:Int)≤hy:=by have:=HY.out;omega
     go_wp2_with fail
     go_loopw [3,7] (fun v j wr=>∃ (m g c:Nat),m≤NX∧j=.int .i64 (lx+(m:Int))∧v=.slice (some ⟨g,0,none⟩) (r * NX+m) c∧g≠b4∧g≠b5∧zDm w.heap.size wr v (r * NX+m) R∧uC wr b4 z lx ly∧uC wr b5 z hx hy∧Bw w wr) (fun _ j _=>(lx+(NX:Int) - intOf j).toNat)
     case atStart=>exact ⟨0,g,c,by omega,by simp,rfl,hg4,hg5,HO0.out,H4.out,H5.out,HB0.out⟩
     case round =>
      clear HO0 HB0 H4 H5 p0 p1 p2 q0 q1 q2 hg4 hg5
      obtain ⟨m,g,c,hm,rfl,rfl,hg4,hg5,hO,h4,h5,hB⟩:=hrel
      have HO:Hid (zDm w.heap.size wr (.slice (some ⟨g,0,none⟩) (r * NX+m) c) (r * NX+m) R):=hO
      have HB:Hid (Bw w wr):=hB
      have H4:Hid (uC wr b4 z lx ly):=h4
      have H5:Hid (uC wr b5 z hx hy):=h5
      obtain ⟨p0,p1,p2⟩:=h4
      obtain ⟨q0,q1,q2⟩:=h5
      have hzr:wr.cell? ⟨b,0,none⟩=some (.int .i64 z):=(hB.cell (p:=⟨b,0,none⟩) hbw).trans HA.out.1
      have hszr:w.heap.size≤wr.heap.size:=hB.size
      have hlz:=World.block_lt_of_cell? _ _ hzr
      clear hO hB
      by_cases hlm:m<NX
      ·have hlx:lx+(m:Int)≤hx:=by have:=HX.out;omega
       have hK:r * NX+m<10:=by
        have:r * NX≤1 * 2:=Nat.mul_le_mul (by omega) nX.2
        omega
       have HS:Hid (xP R (r * NX+m+1)=xP R (r * NX+m) ++ [.int .i64 z,.int .i64 (lx+(m:Int)),.int .i64 (ly+(r:Int))]):=by
        show _=_
        rw [zBb,HR.out]
        have e1:(r * NX+m) % NX=m:=by rw [Nat.mul_comm,Nat.mul_add_mod];exact Nat.mod_eq_of_lt hlm
        have e2:(r * NX+m) / NX=r:=by rw [Nat.mul_comm,Nat.mul_add_div (by omega),Nat.div_eq_of_lt hlm];rfl
        simp only [e1,e2]
       have HKK:Hid (r * NX+m+1=r * NX+(m+1)):=rfl
       generalize hKd:r * NX+m=KK at *
       clear hKd
       go_wp2_with (first
        | (at_builtin;go_must (refine wpList_append_lies _ rfl _ _ 24 rfl w.heap.size 111 i0 (.agg #[.int .i64 0,.int .i64 0,.int .i64 0]) 3 24 Tryz.underlying24 hi hz0 hz1 hz2 rfl (by decide) _ KK (xP R KK) rfl (World.ownsRow.alloc HO.out _) ⟨wr.heap.size,0,none⟩ 1 1 [.int .i64 z,.int .i64 (lx+(m:Int)),.int .i64 (ly+(r:Int))] rfl rfl ?c1 ?c2 (by omega) ?c3 ?c4 ?c5 _ rfl ?_)))
       try
        case c1 =>
         intro q u hq
         match q,hq with
         | 0,hq=>simp at hq;subst hq;simp [Addr.add,go_sem]
         | 1,hq=>simp at hq;subst hq;simp [Addr.add,go_sem]
         | 2,hq=>simp at hq;subst hq;simp [Addr.add,go_sem]
         | q+3,hq=>simp at hq
       case c2=>first | exact ⟨rfl,rfl,rfl⟩ | (intro u hu;simp at hu;rcases hu with rfl | rfl | rfl <;> rfl)
       case c3=>unfold maxLen;omega
       case c4=>omega
       case c5=>first | omega | (simp;omega)
       intro g' c' w3 hown' hgrow hlie hlt3
       generalize hV:(wr.alloc _:World)=V at hgrow
       have hBV:Bw wr V:=by subst hV;exact Qb
       have hsV:V.heap.size=wr.heap.size+1:=by subst hV;simp
       have hgr:V.grownBy w3 (some g):=hgrow
       have hgw:w.heap.size≤g:=(HO.out.lt g rfl).1
       have hBg:Below w.heap.size V w3:=(Below.refl _ _).grown hgrow (by have:=hBV.size;omega) (fun k hk=>by have e:g=k:=Option.some.inj hk;omega)
       have HB3:Hid (Bw w w3):=(HB.out.trans (hBV.mono hszr)).trans hBg
       have HO3:Hid (zDm w.heap.size w3 (.slice (some ⟨g',0,none⟩) (KK+1) c') (KK+1) R):=by
        show World.ownsRow _ _ _ _ _ _ _
        rw [HS.out]
        exact hown'
       have h43:Hid (uC w3 b4 z lx ly):=(H4.out.below hBV).grown hgr hg4
       have h53:Hid (uC w3 b5 z hx hy):=(H5.out.below hBV).grown hgr hg5
       have l4:=H4.out.lt
       have l5:=H5.out.lt
       have hn4:g'≠b4:=by
        rcases hlie with e | e
        ·have e':g=g':=Option.some.inj e
         omega
        ·omega
       have hn5:g'≠b5:=by
        rcases hlie with e | e
        ·have e':g=g':=Option.some.inj e
         omega
        ·omega
       clear hown' hgrow hBg hBV hV hlie hsV hgr H4 H5 HB HO p0 p1 p2 q0 q1 q2 hzr
       go_wp2
       go_roundw
       case rel=>exact ⟨m+1,g',c',by omega,by go_num,by rw [← HKK.out],hn4,hn5,by rw [← HKK.out];exact HO3.out,h43.out,h53.out,HB3.out⟩
       case measure=>simp [intOf];omega
      ·have hme:m=NX:=by omega
       have hgt:¬ lx+(m:Int)≤hx:=by have:=HX.out;omega
       have HNN:Hid (r * NX+m=(r+1) * NX):=by show _=_;rw [hme,Nat.succ_mul]
       generalize r * NX+m=KK at *
       go_wp2
       go_roundw
       case rel=>exact ⟨r+1,g,c,by omega,by go_num,by rw [← HNN.out],hg4,hg5,by rw [← HNN.out];exact HO.out,H4.out,H5.out,HB.out⟩
       case measure=>simp [intOf];omega
    ·obtain rfl:NY=r:=by omega
     have hgt:¬ ly+(NY:Int)≤hy:=by have:=HY.out;omega
     go_wp2
     go_ret
     exact ⟨_,rfl,HO0.out,HB0.out⟩
end Go.Proofs.YtpaiholildedcaaGreat
