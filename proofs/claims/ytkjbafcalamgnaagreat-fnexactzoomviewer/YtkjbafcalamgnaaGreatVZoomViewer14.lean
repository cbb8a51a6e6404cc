/- Texts. -/
import Derived.Test.YtkjbafcalamgnaaGreatVZoomViewer11
import Derived.Deep.AppendLies
import Derived.Test.YtkjbafcalamgnaaGreatVZoomViewer13
set_option linter.unusedSimpArgs false
set_option linter.unusedVariables false
set_option maxRecDepth 100000
set_option maxHeartbeats 32000000
namespace Go.Proofs.YtkjbafcalamgnaaGreat
open Go.RowKit
theorem zAv.grown {w w':World}{b g:Nat}{z x y:Int}(h:zAv w b z x y)(hg:w.grownBy w' (some g))(hne:g≠b):zAv w' b z x y :=
 ⟨(hg.cell_far ⟨b,0,none⟩ h.lt (fun e=>hne (by injection e with e;exact e.symm))).trans h.1,(hg.cell_far ⟨b,1,none⟩ h.lt (fun e=>hne (by injection e with e;exact e.symm))).trans h.2.1,(hg.cell_far ⟨b,2,none⟩ h.lt (fun e=>hne (by injection e with e;exact e.symm))).trans h.2.2⟩
theorem zUs {z x y wd ht lx ly hx hy ex ey:Int}{NX NY:Nat}{R:Rfs}(b:Nat)(w:World)(hA:vJ w b z x y wd ht)(hr:zAi z x y wd ht=true)(hex:x+wd - 1=ex)(hey:y+ht - 1=ey)(e1:x / 8=lx)(e2:y / 8=ly)(e3:ex / 8=hx)(e4:ey / 8=hy)(hNX:(1≤NX∧NX≤2)∧hx=lx+(NX:Int) - 1)(hNY:(1≤NY∧NY≤2)∧hy=ly+(NY:Int) - 1)(hR:R=⟨fun _=>z,fun i=>lx+(i % NX:Nat),fun i=>ly+(i / NX:Nat)⟩) :
  Calls Tryz.prog 107 #[.pointer (some ⟨b,0,none⟩)] w fun e w'=>∃ v,e=.returned v∧zFu w.heap.size w' v (NY * NX) R∧Bw w w':=by
 have HR:Hid (R=⟨fun _=>z,fun i=>lx+(i % NX:Nat),fun i=>ly+(i / NX:Nat)⟩):=hR
 have HX:Hid (hx=lx+(NX:Int) - 1):=hNX.2
 have HY:Hid (hy=ly+(NY:Int) - 1):=hNY.2
 have nX:=hNX.1
 have nY:=hNY.1
 clear hR hNX hNY
 have hz:=vZ hr
 have hin:=uD hr
 have hn:=xU hz
 have hp1:zBg z x y=true:=by simp [zBg,inB,hz];omega
 have hp2:zBg z ex ey=true:=by simp [zBg,inB,hz];omega
 have sT1:=fun w=>zQr z x y w hp1
 have sT2:=fun w=>zQr z ex ey w hp2
 have bl:0≤lx∧lx≤8∧0≤ly∧ly≤8:=by omega
 have k1:IntKind.i64.wrap (x+wd)=x+wd:=IntWalk.i64_in _ (by omega)
 have k2:IntKind.i64.wrap (y+ht)=y+ht:=IntWalk.i64_in _ (by omega)
 have k3:IntKind.i64.wrap (x+wd - 1)=ex:=by rw [IntWalk.i64_in _ (by omega)];exact hex
 have k4:IntKind.i64.wrap (y+ht - 1)=ey:=by rw [IntWalk.i64_in _ (by omega)];exact hey
 rw [e1,e2] at sT1
 rw [e3,e4] at sT2
 clear hr hz hin hn hp1 hp2 hex hey e1 e2 e3 e4
 obtain ⟨i0,hi,hz0,hz1,hz2⟩:=info_parts zLh
 have HA:Hid (vJ w b z x y wd ht):=hA
 have hbw:b<w.heap.size:=World.block_lt_of_cell? _ _ hA.1
 clear hA
 go_enter Tryz.func107,Tryz.ntmps107
 go_wp2_with fail
 generalize hW:(w.alloc _:World)=W
 have HB0:Hid (Bw w W):=by show Below _ _ _;subst hW;exact Qb
 have HO0:Hid (zFu w.heap.size W (.slice (some ⟨w.heap.size,0,none⟩) 0 0) 0 R):=by
  show World.ownsRow _ _ _ _ _ _ _
  subst hW
  exact ⟨by simp [yF],.inr ⟨w.heap.size,0,#[],rfl,Nat.le_refl _,heap_alloc_new w _,by simp,by unfold maxLen;omega,by simp,by simp [yF]⟩⟩
 have hsW:w.heap.size<W.heap.size:=by subst hW;simp
 clear hW
 have c0:∀ W',Bw W W'→W'.cell? ⟨b,0,none⟩=some (.int .i64 z):=fun W' h=>((zA HB0.out h).cell (p:=⟨b,0,none⟩) hbw).trans HA.out.1
 have c1:∀ W',Bw W W'→W'.cell? ⟨b,1,none⟩=some (.int .i64 x):=fun W' h=>((zA HB0.out h).cell (p:=⟨b,1,none⟩) hbw).trans HA.out.2.1
 have c2:∀ W',Bw W W'→W'.cell? ⟨b,2,none⟩=some (.int .i64 y):=fun W' h=>((zA HB0.out h).cell (p:=⟨b,2,none⟩) hbw).trans HA.out.2.2.1
 have c3:∀ W',Bw W W'→W'.cell? ⟨b,3,none⟩=some (.int .i64 wd):=fun W' h=>((zA HB0.out h).cell (p:=⟨b,3,none⟩) hbw).trans HA.out.2.2.2.1
 have c4:∀ W',Bw W W'→W'.cell? ⟨b,4,none⟩=some (.int .i64 ht):=fun W' h=>((zA HB0.out h).cell (p:=⟨b,4,none⟩) hbw).trans HA.out.2.2.2.2
 go_cut [4] (fun p wc=>∃ b4:Nat,p=.pointer (some ⟨b4,0,none⟩)∧W.heap.size≤b4∧zAv wc b4 z lx ly∧Bw W wc)
 case first =>
  refine wp_region_noPanic ?_
  refine wp_region_held_drew (S:=fun W'=>Bw W W') (by kernel_rfl) (by exact Qb) (fun hHeld=>?_)
  have hX0:Bw W W.drew:=hHeld
  refine zF (i:=0) (d:=some 9) rfl rfl ?_
  try simp only [Act.put,Qx,Qy,Qz]
  refine zF (i:=1) (d:=some 10) rfl rfl ?_
  try simp only [Act.put,Qx,Qy,Qz]
  refine zF (i:=2) (d:=some 11) rfl rfl ?_
  try simp only [Act.put,Qx,Qy,Qz]
  refine zF (i:=3) (d:=some 12) rfl rfl ?_
  try simp only [Act.put,Qx,Qy,Qz]
  refine zF (i:=4) (d:=some 13) rfl rfl ?_
  try simp only [Act.put,Qx,Qy,Qz]
  refine zF (i:=5) (d:=some 14) rfl rfl ?_
  try simp only [Act.put,Qx,Qy,Qz]
  refine zF (i:=6) (d:=some 15) rfl rfl ?_
  try simp only [Act.put,Qx,Qy,Qz]
  refine zF (i:=7) (d:=some 16) rfl rfl ?_
  try simp only [Act.put,Qx,Qy,Qz]
  refine zF (i:=8) (d:=some 17) rfl rfl ?_
  try simp only [Act.put,Qx,Qy,Qz]
  refine zF (i:=9) (d:=some 18) rfl rfl ?_
  try simp only [Act.put,Qx,Qy,Qz]
  refine zF (i:=10) (d:=some 19) rfl rfl ?_
  try simp only [Act.put,Qx,Qy,Qz]
  refine zF (i:=11) (d:=some 20) rfl rfl ?_
  try simp only [Act.put,Qx,Qy,Qz]
  refine wpAnyH_ready (rs:=[12,13]) (by kernel_rfl) (by simp) ?_
  refine (AllReadyH.cons rfl (fun K hK=>?_) (AllReadyH.cons rfl (fun K hK=>?_) AllReadyH.nil))
  ·rw [if_pos (by rfl)]
   go_simp
   refine Calls.mono (sT1 _) ?_
   rintro e wk ⟨rfl,hbk⟩
   have hXk:Bw W wk:=zA hX0 hbk
   go_wp2_with fail
   refine hK.out _ _ hXk (fun hHeld=>?_)
   clear hK K
   try simp only [Act.put,Qx,Qy,Qz]
   refine zN 13 fun K hK=>?_
   rw [if_pos (by rfl)]
   go_simp
   generalize hwA:(World.alloc _ _:World)=wl
   have hbl:Bw wk wl:=by subst hwA;exact Qb
   have hTl:zC wl wk.heap.size 3:=by subst hwA;exact zC3 wk _ _ _ _
   clear hwA
   have hXl:Bw W wl:=zA hXk hbl
   have hsl:W.heap.size≤wk.heap.size:=Below.size hXk
   refine hK.out _ _ hXl (fun hHeld=>?_)
   clear hK K
   try simp only [Act.put,Qx,Qy,Qz]
   refine zN 14 fun K hK=>?_
   rw [if_pos (by rfl)]
   have t0:=hTl.cell 0 (by omega)
   have f0:=(hTl 0 (by omega)).2
   have t1:=hTl.cell 1 (by omega)
   have f1:=(hTl 1 (by omega)).2
   have t2:=hTl.cell 2 (by omega)
   have f2:=(hTl 2 (by omega)).2
   go_simp
   have hXs:Bw W (((wl.setCell ⟨wk.heap.size,0,none⟩ (.int .i64 z)).setCell ⟨wk.heap.size,1,none⟩ (.int .i64 lx)).setCell ⟨wk.heap.size,2,none⟩ (.int .i64 ly)):=((hXl.setCell hsl _).setCell hsl _).setCell hsl _
   have hRs:=zAv.put (z:=z) (x:=lx) (y:=ly) hTl
   generalize hwS:(((wl.setCell _ _).setCell _ _).setCell _ _:World)=wS at *
   refine hK.out _ _ hXs (fun hHeld=>?_)
   clear hK K hwS t0 t1 t2 f0 f1 f2
   try simp only [Act.put,Qx,Qy,Qz]
   refine wpAnyH_done (by kernel_rfl) ?_ _
   refine NoPanic.normal ?_
   go_wp2_with fail
   go_meet
   case rel=>exact ⟨_,rfl,hsl,hRs,hXs⟩
  ·rw [if_pos (by rfl)]
   go_simp
   generalize hwA:(World.alloc _ _:World)=wk
   have hbk:Bw W wk.drew:=by subst hwA;exact Qb
   have hTk:zC wk.drew W.heap.size 3:=by subst hwA;exact zC3 W _ _ _ _
   clear hwA
   refine hK.out _ _ hbk (fun hHeld=>?_)
   clear hK K
   try simp only [Act.put,Qx,Qy,Qz]
   refine zN 12 fun K hK=>?_
   rw [if_pos (by rfl)]
   go_simp
   refine Calls.mono (sT1 _) ?_
   rintro e wl ⟨rfl,hbl⟩
   have hXl:Bw W wl:=zA hbk hbl
   have hTl:=zC.below hTk hbl
   have hsl:W.heap.size≤W.heap.size:=Nat.le_refl _
   go_wp2_with fail
   refine hK.out _ _ hXl (fun hHeld=>?_)
   clear hK K
   try simp only [Act.put,Qx,Qy,Qz]
   refine zN 14 fun K hK=>?_
   rw [if_pos (by rfl)]
   have t0:=hTl.cell 0 (by omega)
   have f0:=(hTl 0 (by omega)).2
   have t1:=hTl.cell 1 (by omega)
   have f1:=(hTl 1 (by omega)).2
   have t2:=hTl.cell 2 (by omega)
   have f2:=(hTl 2 (by omega)).2
   go_simp
   have hXs:Bw W (((wl.setCell ⟨W.heap.size,0,none⟩ (.int .i64 z)).setCell ⟨W.heap.size,1,none⟩ (.int .i64 lx)).setCell ⟨W.heap.size,2,none⟩ (.int .i64 ly)):=((hXl.setCell hsl _).setCell hsl _).setCell hsl _
   have hRs:=zAv.put (z:=z) (x:=lx) (y:=ly) hTl
   generalize hwS:(((wl.setCell _ _).setCell _ _).setCell _ _:World)=wS at *
   refine hK.out _ _ hXs (fun hHeld=>?_)
   clear hK K hwS t0 t1 t2 f0 f1 f2
   try simp only [Act.put,Qx,Qy,Qz]
   refine wpAnyH_done (by kernel_rfl) ?_ _
   refine NoPanic.normal ?_
   go_wp2_with fail
   go_meet
   case rel=>exact ⟨_,rfl,hsl,hRs,hXs⟩
 case rest =>
  obtain ⟨b4,rfl,hl4,hR4,hBc⟩:=hcut
  generalize wc=wA at *
  have HR4:Hid (zAv wA b4 z lx ly):=hR4
  have HBA:Hid (Bw W wA):=hBc
  have d0:∀ W',Bw wA W'→W'.cell? ⟨b,0,none⟩=some (.int .i64 z):=fun W' h=>c0 W' (zA hBc h)
  have d1:∀ W',Bw wA W'→W'.cell? ⟨b,1,none⟩=some (.int .i64 x):=fun W' h=>c1 W' (zA hBc h)
  have d2:∀ W',Bw wA W'→W'.cell? ⟨b,2,none⟩=some (.int .i64 y):=fun W' h=>c2 W' (zA hBc h)
  have d3:∀ W',Bw wA W'→W'.cell? ⟨b,3,none⟩=some (.int .i64 wd):=fun W' h=>c3 W' (zA hBc h)
  have d4:∀ W',Bw wA W'→W'.cell? ⟨b,4,none⟩=some (.int .i64 ht):=fun W' h=>c4 W' (zA hBc h)
  clear c0 c1 c2 c3 c4 hR4 hBc
  go_wp2_with fail
  go_cut [5] (fun p wx=>∃ b5:Nat,p=.pointer (some ⟨b5,0,none⟩)∧wA.heap.size≤b5∧zAv wx b5 z hx hy∧Bw wA wx)
  case first =>
   refine wp_region_noPanic ?_
   refine wp_region_held_drew (S:=fun W'=>Bw wA W') (by kernel_rfl) (by exact Qb) (fun hHeld=>?_)
   have hX0:Bw wA wA.drew:=hHeld
   refine zF (i:=0) (d:=some 22) rfl rfl ?_
   try simp only [Act.put,Qx,Qy,Qz]
   refine zF (i:=1) (d:=some 23) rfl rfl ?_
   try simp only [Act.put,Qx,Qy,Qz]
   refine zF (i:=2) (d:=some 24) rfl rfl ?_
   try simp only [Act.put,Qx,Qy,Qz]
   refine zF (i:=3) (d:=some 25) rfl rfl ?_
   try simp only [Act.put,Qx,Qy,Qz]
   refine zF (i:=4) (d:=some 26) rfl rfl ?_
   try simp only [Act.put,Qx,Qy,Qz]
   refine zF (i:=5) (d:=some 27) rfl rfl ?_
   try simp only [Act.put,Qx,Qy,Qz]
   refine zF (i:=6) (d:=some 28) rfl rfl ?_
   try simp only [Act.put,Qx,Qy,Qz]
   refine zF (i:=7) (d:=some 29) rfl rfl ?_
   try simp only [Act.put,Qx,Qy,Qz]
   refine zF (i:=8) (d:=some 30) rfl rfl ?_
   try simp only [Act.put,Qx,Qy,Qz]
   refine zF (i:=9) (d:=some 31) rfl rfl ?_
   try simp only [Act.put,Qx,Qy,Qz]
   refine zF (i:=10) (d:=some 32) rfl rfl ?_
   try simp only [Act.put,Qx,Qy,Qz]
   refine zF (i:=11) (d:=some 33) rfl rfl ?_
   try simp only [Act.put,Qx,Qy,Qz]
   refine zF (i:=12) (d:=some 34) rfl rfl ?_
   try simp only [Act.put,Qx,Qy,Qz]
   refine zF (i:=13) (d:=some 35) rfl rfl ?_
   try simp only [Act.put,Qx,Qy,Qz]
   refine zF (i:=14) (d:=some 36) rfl rfl ?_
   try simp only [Act.put,Qx,Qy,Qz]
   refine zF (i:=15) (d:=some 37) rfl rfl ?_
   try simp only [Act.put,Qx,Qy,Qz]
   refine zF (i:=16) (d:=some 38) rfl rfl ?_
   try simp only [Act.put,Qx,Qy,Qz]
   refine zF (i:=17) (d:=some 39) rfl rfl ?_
   try simp only [Act.put,Qx,Qy,Qz]
   refine zF (i:=18) (d:=some 40) rfl rfl ?_
   try simp only [Act.put,Qx,Qy,Qz]
   refine zF (i:=19) (d:=some 41) rfl rfl ?_
   try simp only [Act.put,Qx,Qy,Qz]
   refine zF (i:=20) (d:=some 42) rfl rfl ?_
   try simp only [Act.put,Qx,Qy,Qz]
   refine zF (i:=21) (d:=some 43) rfl rfl ?_
   try simp only [Act.put,Qx,Qy,Qz]
   refine zF (i:=22) (d:=some 44) rfl rfl ?_
   try simp only [Act.put,Qx,Qy,Qz]
   refine zF (i:=23) (d:=some 45) rfl rfl ?_
   try simp only [Act.put,Qx,Qy,Qz]
   refine wpAnyH_ready (rs:=[24,25]) (by kernel_rfl) (by simp) ?_
   refine (AllReadyH.cons rfl (fun K hK=>?_) (AllReadyH.cons rfl (fun K hK=>?_) AllReadyH.nil))
   ·rw [if_pos (by rfl)]
    go_simp
    refine Calls.mono (sT2 _) ?_
    rintro e wk ⟨rfl,hbk⟩
    have hXk:Bw wA wk:=zA hX0 hbk
    go_wp2_with fail
    refine hK.out _ _ hXk (fun hHeld=>?_)
    clear hK K
    try simp only [Act.put,Qx,Qy,Qz]
    refine zN 25 fun K hK=>?_
    rw [if_pos (by rfl)]
    go_simp
    generalize hwA:(World.alloc _ _:World)=wl
    have hbl:Bw wk wl:=by subst hwA;exact Qb
    have hTl:zC wl wk.heap.size 3:=by subst hwA;exact zC3 wk _ _ _ _
    clear hwA
    have hXl:Bw wA wl:=zA hXk hbl
    have hsl:wA.heap.size≤wk.heap.size:=Below.size hXk
    refine hK.out _ _ hXl (fun hHeld=>?_)
    clear hK K
    try simp only [Act.put,Qx,Qy,Qz]
    refine zN 26 fun K hK=>?_
    rw [if_pos (by rfl)]
    have t0:=hTl.cell 0 (by omega)
    have f0:=(hTl 0 (by omega)).2
    have t1:=hTl.cell 1 (by omega)
    have f1:=(hTl 1 (by omega)).2
    have t2:=hTl.cell 2 (by omega)
    have f2:=(hTl 2 (by omega)).2
    go_simp
    have hXs:Bw wA (((wl.setCell ⟨wk.heap.size,0,none⟩ (.int .i64 z)).setCell ⟨wk.heap.size,1,none⟩ (.int .i64 hx)).setCell ⟨wk.heap.size,2,none⟩ (.int .i64 hy)):=((hXl.setCell hsl _).setCell hsl _).setCell hsl _
    have hRs:=zAv.put (z:=z) (x:=hx) (y:=hy) hTl
    generalize hwS:(((wl.setCell _ _).setCell _ _).setCell _ _:World)=wS at *
    refine hK.out _ _ hXs (fun hHeld=>?_)
    clear hK K hwS t0 t1 t2 f0 f1 f2
    try simp only [Act.put,Qx,Qy,Qz]
    refine wpAnyH_done (by kernel_rfl) ?_ _
    refine NoPanic.normal ?_
    go_wp2_with fail
    go_meet
    case rel=>exact ⟨_,rfl,hsl,hRs,hXs⟩
   ·rw [if_pos (by rfl)]
    go_simp
    generalize hwA:(World.alloc _ _:World)=wk
    have hbk:Bw wA wk.drew:=by subst hwA;exact Qb
    have hTk:zC wk.drew wA.heap.size 3:=by subst hwA;exact zC3 wA _ _ _ _
    clear hwA
    refine hK.out _ _ hbk (fun hHeld=>?_)
    clear hK K
    try simp only [Act.put,Qx,Qy,Qz]
    refine zN 24 fun K hK=>?_
    rw [if_pos (by rfl)]
    go_simp
    refine Calls.mono (sT2 _) ?_
    rintro e wl ⟨rfl,hbl⟩
    have hXl:Bw wA wl:=zA hbk hbl
    have hTl:=zC.below hTk hbl
    have hsl:wA.heap.size≤wA.heap.size:=Nat.le_refl _
    go_wp2_with fail
    refine hK.out _ _ hXl (fun hHeld=>?_)
    clear hK K
    try simp only [Act.put,Qx,Qy,Qz]
    refine zN 26 fun K hK=>?_
    rw [if_pos (by rfl)]
    have t0:=hTl.cell 0 (by omega)
    have f0:=(hTl 0 (by omega)).2
    have t1:=hTl.cell 1 (by omega)
    have f1:=(hTl 1 (by omega)).2
    have t2:=hTl.cell 2 (by omega)
    have f2:=(hTl 2 (by omega)).2
    go_simp
    have hXs:Bw wA (((wl.setCell ⟨wA.heap.size,0,none⟩ (.int .i64 z)).setCell ⟨wA.heap.size,1,none⟩ (.int .i64 hx)).setCell ⟨wA.heap.size,2,none⟩ (.int .i64 hy)):=((hXl.setCell hsl _).setCell hsl _).setCell hsl _
    have hRs:=zAv.put (z:=z) (x:=hx) (y:=hy) hTl
    generalize hwS:(((wl.setCell _ _).setCell _ _).setCell _ _:World)=wS at *
    refine hK.out _ _ hXs (fun hHeld=>?_)
    clear hK K hwS t0 t1 t2 f0 f1 f2
    try simp only [Act.put,Qx,Qy,Qz]
    refine wpAnyH_done (by kernel_rfl) ?_ _
    refine NoPanic.normal ?_
    go_wp2_with fail
    go_meet
    case rel=>exact ⟨_,rfl,hsl,hRs,hXs⟩
  case rest =>
   obtain ⟨b5,rfl,hl5,hR5,hBx⟩:=hcut
   generalize wc=wB at *
   have hBB:Bw w wB:=zA HB0.out (zA HBA.out hBx)
   have HOB:Hid (zFu w.heap.size wB (.slice (some ⟨w.heap.size,0,none⟩) 0 0) 0 R):=by
    have hb:=zA HBA.out hBx
    show World.ownsRow _ _ _ _ _ _ _
    obtain ⟨h1,h2 | ⟨g,cp,cur,hv,hg,hh,hr⟩⟩:=HO0.out
    ·exact ⟨h1,.inl h2⟩
    ·refine ⟨h1,.inr ⟨g,cp,cur,hv,hg,?_,hr⟩⟩
     rw [hb.block g (by
      injection hv with hv _ _
      injection hv with hv
      injection hv with hv
      omega)]
     exact hh
   have HR4B:Hid (zAv wB b4 z lx ly):=HR4.out.below hBx
   have HR5B:Hid (zAv wB b5 z hx hy):=hR5
   have HBB:Hid (Bw w wB):=hBB
   have hl5':w.heap.size<b5:=by have:=HBA.out.size;omega
   have bx:0≤lx∧lx≤8:=⟨bl.1,bl.2.1⟩
   have by':0≤ly∧ly≤8:=bl.2.2
   obtain ⟨p0,p1,p2⟩:=HR4B.out
   clear bl d0 d1 d2 d3 d4 HO0 HR4 HBA hBB hBx hR5 HB0
   go_wp2_with fail
   go_loopw [3,6] (fun v j wr=>∃ (r g c:Nat),r≤NY∧j=.int .i64 (ly+(r:Int))∧v=.slice (some ⟨g,0,none⟩) (r * NX) c∧g≠b4∧g≠b5∧zFu w.heap.size wr v (r * NX) R∧zAv wr b4 z lx ly∧zAv wr b5 z hx hy∧Bw w wr) (fun _ j _=>(ly+(NY:Int) - intOf j).toNat)
   case atStart=>exact ⟨0,w.heap.size,0,by omega,by simp,by rw [Nat.zero_mul],by omega,by omega,by rw [Nat.zero_mul];exact HOB.out,HR4B.out,HR5B.out,HBB.out⟩
   case round =>
    obtain ⟨r,g,c,hr,rfl,rfl,hg4,hg5,hO,h4,h5,hB⟩:=hrel
    have HO0:Hid (zFu w.heap.size wr (.slice (some ⟨g,0,none⟩) (r * NX) c) (r * NX) R):=hO
    have HB0:Hid (Bw w wr):=hB
    have H4:Hid (zAv wr b4 z lx ly):=h4
    have H5:Hid (zAv wr b5 z hx hy):=h5
    obtain ⟨p0,p1,p2⟩:=h4
    obtain ⟨q0,q1,q2⟩:=h5
    clear hO hB
    by_cases hlt:r<NY
    ·have hle:ly+(r:Int)≤hy:=by have:=HY.out;omega
     go_wp2_with fail
     go_loopw [3,7] (fun v j wr=>∃ (m g c:Nat),m≤NX∧j=.int .i64 (lx+(m:Int))∧v=.slice (some ⟨g,0,none⟩) (r * NX+m) c∧g≠b4∧g≠b5∧zFu w.heap.size wr v (r * NX+m) R∧zAv wr b4 z lx ly∧zAv wr b5 z hx hy∧Bw w wr) (fun _ j _=>(lx+(NX:Int) - intOf j).toNat)
     case atStart=>exact ⟨0,g,c,by omega,by simp,rfl,hg4,hg5,HO0.out,H4.out,H5.out,HB0.out⟩
     case round =>
      clear HO0 HB0 H4 H5 p0 p1 p2 q0 q1 q2 hg4 hg5
      obtain ⟨m,g,c,hm,rfl,rfl,hg4,hg5,hO,h4,h5,hB⟩:=hrel
      have HO:Hid (zFu w.heap.size wr (.slice (some ⟨g,0,none⟩) (r * NX+m) c) (r * NX+m) R):=hO
      have HB:Hid (Bw w wr):=hB
      have H4:Hid (zAv wr b4 z lx ly):=h4
      have H5:Hid (zAv wr b5 z hx hy):=h5
      obtain ⟨p0,p1,p2⟩:=h4
      obtain ⟨q0,q1,q2⟩:=h5
      have hzr:wr.cell? ⟨b,0,none⟩=some (.int .i64 z):=(hB.cell (p:=⟨b,0,none⟩) hbw).trans HA.out.1
      have hszr:w.heap.size≤wr.heap.size:=hB.size
      have hlz:=World.block_lt_of_cell? _ _ hzr
      clear hO hB
      by_cases hlm:m<NX
      ·have hlx:lx+(m:Int)≤hx:=by have:=HX.out;omega
       have hK:r * NX+m<10:=by
        have:r * NX≤1 * 2:=Nat.mul_le_mul (by omega) nX.2
        omega
       have HS:Hid (yF R (r * NX+m+1)=yF R (r * NX+m) ++ [.int .i64 z,.int .i64 (lx+(m:Int)),.int .i64 (ly+(r:Int))]):=by
        show _=_
        rw [zCn,HR.out]
        have e1:(r * NX+m) % NX=m:=by rw [Nat.mul_comm,Nat.mul_add_mod];exact Nat.mod_eq_of_lt hlm
        have e2:(r * NX+m) / NX=r:=by rw [Nat.mul_comm,Nat.mul_add_div (by omega),Nat.div_eq_of_lt hlm];rfl
        simp only [e1,e2]
       have HKK:Hid (r * NX+m+1=r * NX+(m+1)):=rfl
       generalize hKd:r * NX+m=KK at *
       clear hKd
       go_wp2_with (first
        | (at_builtin;go_must (refine wpList_append_lies _ rfl _ _ 31 rfl w.heap.size 104 i0 (.agg #[.int .i64 0,.int .i64 0,.int .i64 0]) 3 24 Tryz.underlying31 hi hz0 hz1 hz2 rfl (by decide) _ KK (yF R KK) rfl (World.ownsRow.alloc HO.out _) ⟨wr.heap.size,0,none⟩ 1 1 [.int .i64 z,.int .i64 (lx+(m:Int)),.int .i64 (ly+(r:Int))] rfl rfl ?c1 ?c2 (by omega) ?c3 ?c4 ?c5 _ rfl ?_)))
       try
        case c1 =>
         intro q u hq
         match q,hq with
         | 0,hq=>simp at hq;subst hq;simp [Addr.add,go_sem]
         | 1,hq=>simp at hq;subst hq;simp [Addr.add,go_sem]
         | 2,hq=>simp at hq;subst hq;simp [Addr.add,go_sem]
         | q+3,hq=>simp at hq
       case c2=>first | exact ⟨rfl,rfl,rfl⟩ | (intro u hu;simp at hu;rcases hu with rfl | rfl | rfl <;> rfl)
       case c3=>unfold maxLen;omega
       case c4=>omega
       case c5=>first | omega | (simp;omega)
       intro g' c' w3 hown' hgrow hlie hlt3
       generalize hV:(wr.alloc _:World)=V at hgrow
       have hBV:Bw wr V:=by subst hV;exact Qb
       have hsV:V.heap.size=wr.heap.size+1:=by subst hV;simp
       have hgr:V.grownBy w3 (some g):=hgrow
       have hgw:w.heap.size≤g:=(HO.out.lt g rfl).1
       have hBg:Below w.heap.size V w3:=(Below.refl _ _).grown hgrow (by have:=hBV.size;omega) (fun k hk=>by have e:g=k:=Option.some.inj hk;omega)
       have HB3:Hid (Bw w w3):=(HB.out.trans (hBV.mono hszr)).trans hBg
       have HO3:Hid (zFu w.heap.size w3 (.slice (some ⟨g',0,none⟩) (KK+1) c') (KK+1) R):=by
        show World.ownsRow _ _ _ _ _ _ _
        rw [HS.out]
        exact hown'
       have h43:Hid (zAv w3 b4 z lx ly):=(H4.out.below hBV).grown hgr hg4
       have h53:Hid (zAv w3 b5 z hx hy):=(H5.out.below hBV).grown hgr hg5
       have l4:=H4.out.lt
       have l5:=H5.out.lt
       have hn4:g'≠b4:=by
        rcases hlie with e | e
        ·have e':g=g':=Option.some.inj e
         omega
        ·omega
       have hn5:g'≠b5:=by
        rcases hlie with e | e
        ·have e':g=g':=Option.some.inj e
         omega
        ·omega
       clear hown' hgrow hBg hBV hV hlie hsV hgr H4 H5 HB HO p0 p1 p2 q0 q1 q2 hzr
       go_wp2
       go_roundw
       case rel=>exact ⟨m+1,g',c',by omega,by go_num,by rw [← HKK.out],hn4,hn5,by rw [← HKK.out];exact HO3.out,h43.out,h53.out,HB3.out⟩
       case measure=>simp [intOf];omega
      ·have hme:m=NX:=by omega
       have hgt:¬ lx+(m:Int)≤hx:=by have:=HX.out;omega
       have HNN:Hid (r * NX+m=(r+1) * NX):=by show _=_;rw [hme,Nat.succ_mul]
       generalize r * NX+m=KK at *
       go_wp2
       go_roundw
       case rel=>exact ⟨r+1,g,c,by omega,by go_num,by rw [← HNN.out],hg4,hg5,by rw [← HNN.out];exact HO.out,H4.out,H5.out,HB.out⟩
       case measure=>simp [intOf];omega
    ·obtain rfl:NY=r:=by omega
     have hgt:¬ ly+(NY:Int)≤hy:=by have:=HY.out;omega
     go_wp2
     go_ret
     exact ⟨_,rfl,HO0.out,HB0.out⟩
theorem zUt (a b:Int)(w:World):Calls Tryz.prog 113 #[.int .i64 a,.int .i64 b] w fun e w'=>e=.returned (.int .i64 (min a b))∧w'=w:=by
 by_cases h:a<b
 ·have e:min a b=a:=by omega
  rw [e]
  go_enter Tryz.func113,Tryz.ntmps113
  go_wp2
  go_ret
  exact ⟨rfl,rfl⟩
 ·have e:min a b=b:=by omega
  rw [e]
  go_enter Tryz.func113,Tryz.ntmps113
  go_wp2
  go_ret
  exact ⟨rfl,rfl⟩
theorem zUu (a b:Int)(w:World):Calls Tryz.prog 114 #[.int .i64 a,.int .i64 b] w fun e w'=>e=.returned (.int .i64 (max a b))∧w'=w:=by
 by_cases h:b<a
 ·have e:max a b=a:=by omega
  rw [e]
  go_enter Tryz.func114,Tryz.ntmps114
  go_wp2
  go_ret
  exact ⟨rfl,rfl⟩
 ·have e:max a b=b:=by omega
  rw [e]
  go_enter Tryz.func114,Tryz.ntmps114
  go_wp2
  go_ret
  exact ⟨rfl,rfl⟩
theorem zJn (z x y wd ht:Int)(w:World)(hz:xD z=true)(hw:1≤wd∧wd≤8)(hh:1≤ht∧ht≤8) :
  Calls Tryz.prog 66 #[zCo z x y wd ht] w fun e w'=>e=.returned (zCo z (yS x (xQ z - wd)) (yS y (xQ z - ht)) wd ht)∧Bw w w':=by
 have sN:=fun w=>zHg z w hz
 have hn:=xU hz
 generalize xQ z=u at *
 clear hz
 have sA:=fun w=>zUu x 0 w
 have sB:=fun w=>zUt (max x 0) (u - wd) w
 have sC:=fun w=>zUu y 0 w
 have sD:=fun w=>zUt (max y 0) (u - ht) w
 unfold yS
 generalize max x 0=mx at *
 generalize max y 0=my at *
 generalize hhx:min mx (u - wd)=hx at *
 generalize hhy:min my (u - ht)=hy at *
 clear hhx hhy
 go_enter Tryz.func66,Tryz.ntmps66
 go_wp2_with fail
 generalize hW:((w.alloc _).alloc _:World)=W
 have HB0:Hid (Bw w W):=by show Below _ _ _;subst hW;exact Qb
 have hT:zC W (w.heap.size+1) 5:=by
  subst hW
  have:=zEz (w.alloc (.cells #[.int .i64 z,.int .i64 x,.int .i64 y,.int .i64 wd,.int .i64 ht] 32)) (.int .i64 0) (.int .i64 0) (.int .i64 0) (.int .i64 0) (.int .i64 0) 32
  simpa using this
 have HT:Hid (zC W (w.heap.size+1) 5):=hT
 have hC:zC W w.heap.size 5:=by
  subst hW
  exact (zEz w (.int .i64 z) (.int .i64 x) (.int .i64 y) (.int .i64 wd) (.int .i64 ht) 32).below (by exact Qb)
 have e0:W.cell? ⟨w.heap.size,0,none⟩=some (.int .i64 z):=by subst hW;simp [go_sem]
 have e1:W.cell? ⟨w.heap.size,1,none⟩=some (.int .i64 x):=by subst hW;simp [go_sem]
 have e2:W.cell? ⟨w.heap.size,2,none⟩=some (.int .i64 y):=by subst hW;simp [go_sem]
 have e3:W.cell? ⟨w.heap.size,3,none⟩=some (.int .i64 wd):=by subst hW;simp [go_sem]
 have e4:W.cell? ⟨w.heap.size,4,none⟩=some (.int .i64 ht):=by subst hW;simp [go_sem]
 have g1:=(hC 1 (by omega)).2
 have g2:=(hC 2 (by omega)).2
 have t0:=hT.cell 0 (by omega)
 have t1:=hT.cell 1 (by omega)
 have t2:=hT.cell 2 (by omega)
 have t3:=hT.cell 3 (by omega)
 have t4:=hT.cell 4 (by omega)
 have f0:=(hT 0 (by omega)).2
 have f1:=(hT 1 (by omega)).2
 have f2:=(hT 2 (by omega)).2
 have f3:=(hT 3 (by omega)).2
 have f4:=(hT 4 (by omega)).2
 have r1:IntKind.i64.wrap (u - wd)=u - wd:=IntWalk.i64_in _ (by omega)
 have r2:IntKind.i64.wrap (u - ht)=u - ht:=IntWalk.i64_in _ (by omega)
 clear hW hT hC hn hw hh
 refine (sN _).mono ?_
 rintro e w1 ⟨rfl,rfl⟩
 go_wp2_with fail
 go_cut [] (fun wc=>wc=(W.setCell ⟨w.heap.size,1,none⟩ (.int .i64 hx)).drew)
 case first =>
  go_region_with (first
   | (go_at_call 114;refine (sA _).mono ?_;rintro e w1 ⟨rfl,rfl⟩)
   | (go_at_call 113;refine (sB _).mono ?_;rintro e w1 ⟨rfl,rfl⟩))
  all_goals (go_wp2_with fail;go_meet;exact rfl)
 case rest =>
  generalize wc=wA at *
  have a0:wA.cell? ⟨w.heap.size,0,none⟩=some (.int .i64 z):=by rw [hcut];simpa [go_sem] using e0
  have a1:wA.cell? ⟨w.heap.size,1,none⟩=some (.int .i64 hx):=by rw [hcut];simpa [go_sem] using zE e1
  have a2:wA.cell? ⟨w.heap.size,2,none⟩=some (.int .i64 y):=by rw [hcut];simpa [go_sem] using e2
  have a3:wA.cell? ⟨w.heap.size,3,none⟩=some (.int .i64 wd):=by rw [hcut];simpa [go_sem] using e3
  have a4:wA.cell? ⟨w.heap.size,4,none⟩=some (.int .i64 ht):=by rw [hcut];simpa [go_sem] using e4
  have b2:wA.frozen? ⟨w.heap.size,2,none⟩=false:=by rw [hcut];simpa [go_sem] using g2
  have HTA:Hid (zC wA (w.heap.size+1) 5):=by rw [hcut];exact HT.out.putC
  have HBA:Hid (Bw w wA):=by rw [hcut];exact (HB0.out.setCell (Nat.le_refl _) _).drew
  clear hcut e0 e1 e2 e3 e4 g1 g2 HT HB0 t0 t1 t2 t3 t4 f0 f1 f2 f3 f4
  go_wp2_with fail
  go_cut [] (fun wx=>wx=(wA.setCell ⟨w.heap.size,2,none⟩ (.int .i64 hy)).drew)
  case first =>
   go_region_with (first
    | (go_at_call 114;refine (sC _).mono ?_;rintro e w1 ⟨rfl,rfl⟩)
    | (go_at_call 113;refine (sD _).mono ?_;rintro e w1 ⟨rfl,rfl⟩))
   all_goals (go_wp2_with fail;go_meet;exact rfl)
  case rest =>
   generalize wc=wB at *
   have d0:wB.cell? ⟨w.heap.size,0,none⟩=some (.int .i64 z):=by rw [hcut];simpa [go_sem] using a0
   have d1:wB.cell? ⟨w.heap.size,1,none⟩=some (.int .i64 hx):=by rw [hcut];simpa [go_sem] using a1
   have d2:wB.cell? ⟨w.heap.size,2,none⟩=some (.int .i64 hy):=by rw [hcut];simpa [go_sem] using zE a2
   have d3:wB.cell? ⟨w.heap.size,3,none⟩=some (.int .i64 wd):=by rw [hcut];simpa [go_sem] using a3
   have d4:wB.cell? ⟨w.heap.size,4,none⟩=some (.int .i64 ht):=by rw [hcut];simpa [go_sem] using a4
   have hTB:zC wB (w.heap.size+1) 5:=by rw [hcut];exact HTA.out.putC
   have HTB:Hid (zC wB (w.heap.size+1) 5):=hTB
   have HBB:Hid (Bw w wB):=by rw [hcut];exact (HBA.out.setCell (Nat.le_refl _) _).drew
   have t0:=hTB.cell 0 (by omega)
   have t1:=hTB.cell 1 (by omega)
   have t2:=hTB.cell 2 (by omega)
   have t3:=hTB.cell 3 (by omega)
   have t4:=hTB.cell 4 (by omega)
   have f0:=(hTB 0 (by omega)).2
   have f1:=(hTB 1 (by omega)).2
   have f2:=(hTB 2 (by omega)).2
   have f3:=(hTB 3 (by omega)).2
   have f4:=(hTB 4 (by omega)).2
   clear hcut a0 a1 a2 a3 a4 b2 HTA HBA hTB
   go_wp2_with fail
   obtain ⟨q0,q1,q2,q3,q4⟩:=zQe (a:=.int .i64 z) (b:=.int .i64 hx) (c:=.int .i64 hy) (d:=.int .i64 wd) (e:=.int .i64 ht) HTB.out
   refine bodyPost_ret (v:=zCo z hx hy wd ht) (by simp [results,Tryz.results66,go_sem,q0,q1,q2,q3,q4]) rfl ⟨rfl,?_⟩
   exact ((((HBB.out.setCell (Nat.le_succ _) _).setCell (Nat.le_succ _) _).setCell (Nat.le_succ _) _).setCell (Nat.le_succ _) _).setCell (Nat.le_succ _) _
theorem vJ.belowA {w w':World}{b:Nat}{z x y wd ht:Int}(h:vJ w b z x y wd ht)(hb:Below w.heap.size w w'):vJ w' b z x y wd ht:=by
 have hB:=World.block_lt_of_cell? _ _ h.1
 exact ⟨(hb.cell (p:=⟨b,0,none⟩) hB).trans h.1,(hb.cell (p:=⟨b,1,none⟩) hB).trans h.2.1,(hb.cell (p:=⟨b,2,none⟩) hB).trans h.2.2.1,(hb.cell (p:=⟨b,3,none⟩) hB).trans h.2.2.2.1,(hb.cell (p:=⟨b,4,none⟩) hB).trans h.2.2.2.2⟩
theorem zD0 (z x y wd ht a b:Int)(w:World):Calls Tryz.prog 30 #[zCo z x y wd ht,.int .i64 a,.int .i64 b] w fun e w'=>e=.returned (zGi z x y wd ht a b)∧Bw w w':=by
 have hp:Hid (zGi z x y wd ht a b=if zAi z x y wd ht=true then (if (inB a (-100) 100 && inB b (-100) 100)=true then crV 0 z (yS (x+a) (xQ z - wd)) (yS (y+b) (xQ z - ht)) wd ht else crV 3 0 0 0 0 0) else crV 3 0 0 0 0 0):=rfl
 go_enter Tryz.func30,Tryz.ntmps30
 go_wp2_with fail
 generalize hW:((w.alloc _).alloc _:World)=W
 have HB0:Hid (Bw w W):=by show Below _ _ _;subst hW;exact Qb
 have HT:Hid (zC W (w.heap.size+1) 6):=by
  show zC _ _ _
  subst hW
  have:=zKf (w.alloc (.cells #[.int .i64 z,.int .i64 x,.int .i64 y,.int .i64 wd,.int .i64 ht] 32)) (.int .i64 0) (.int .i64 0) (.int .i64 0) (.int .i64 0) (.int .i64 0) (.int .i64 0) 68
  simpa using this
 have hC:zC W w.heap.size 5:=by
  subst hW
  exact (zEz w (.int .i64 z) (.int .i64 x) (.int .i64 y) (.int .i64 wd) (.int .i64 ht) 32).below (by exact Qb)
 have HC:Hid (zC W w.heap.size 5):=hC
 have hc:vJ W w.heap.size z x y wd ht:=by subst hW;exact ⟨by simp [go_sem],by simp [go_sem],by simp [go_sem],by simp [go_sem],by simp [go_sem]⟩
 have HA:Hid (vJ W w.heap.size z x y wd ht):=hc
 clear hW hC hc
 refine (zDe w.heap.size z x y wd ht _ HA.out).mono ?_
 rintro e w1 ⟨rfl,hb1⟩
 have HT1:Hid (zC w1 (w.heap.size+1) 6):=HT.out.below hb1
 have HC1:Hid (zC w1 w.heap.size 5):=HC.out.below hb1
 have HB1:Hid (Bw w w1):=zA HB0.out hb1
 have hA1:vJ w1 w.heap.size z x y wd ht:=HA.out.belowA hb1
 clear hb1 HT HB0 HC HA
 have hC1:=HC1.out
 have hT1:=HT1.out
 obtain ⟨e0,e1,e2,e3,e4⟩:=hA1
 have g0:=(hC1 0 (by omega)).2
 have g1:=(hC1 1 (by omega)).2
 have g2:=(hC1 2 (by omega)).2
 have g3:=(hC1 3 (by omega)).2
 have g4:=(hC1 4 (by omega)).2
 have t0:=hT1.cell 0 (by omega)
 have t1:=hT1.cell 1 (by omega)
 have t2:=hT1.cell 2 (by omega)
 have t3:=hT1.cell 3 (by omega)
 have t4:=hT1.cell 4 (by omega)
 have t5:=hT1.cell 5 (by omega)
 have f0:=(hT1 0 (by omega)).2
 have f1:=(hT1 1 (by omega)).2
 have f2:=(hT1 2 (by omega)).2
 have f3:=(hT1 3 (by omega)).2
 have f4:=(hT1 4 (by omega)).2
 have f5:=(hT1 5 (by omega)).2
 clear hC1 hT1
 rcases zBf z x y wd ht with ⟨hc,hr⟩ | ⟨hc,hr⟩
 ·simp only [hc]
  cases hd:(inB a (-100) 100 && inB b (-100) 100)
  ·have hq:Hid (zGi z x y wd ht a b=crV 3 0 0 0 0 0):=by show _=_;rw [hp.out,hd];simp [hr]
   clear hr hc hp
   cases h1:inB a (-100) 100 <;> cases h2:inB b (-100) 100
   all_goals first | (rw [h1,h2] at hd;cases hd;done) | skip
   all_goals
    clear hd
    go_wp2_with (go_at_call 59;refine (yC _ _ _ _).mono ?_;rintro e w1 ⟨rfl,rfl⟩)
    obtain ⟨q0,q1,q2,q3,q4,q5⟩:=vK (a:=.int .i64 3) (b:=.int .i64 0) (c:=.int .i64 0) (d:=.int .i64 0) (e:=.int .i64 0) (f:=.int .i64 0) HT1.out
    exact bodyPost_ret (v:=crV 3 0 0 0 0 0) (by simp [results,Tryz.results30,go_sem,q0,q1,q2,q3,q4,q5]) rfl ⟨by rw [hq.out],zBx HB1.out (Nat.le_succ _)⟩
  ·have hq:Hid (zGi z x y wd ht a b=crV 0 z (yS (x+a) (xQ z - wd)) (yS (y+b) (xQ z - ht)) wd ht):=by show _=_;rw [hp.out,hd];simp [hr]
   have hz:=vZ hr
   have hi:=uD hr
   have hn:=xU hz
   simp only [Bool.and_eq_true] at hd
   obtain ⟨h1,h2⟩:=hd
   have g1':-100≤a∧a≤100:=by simpa [inB] using h1
   have g2':-100≤b∧b≤100:=by simpa [inB] using h2
   have sA:=fun w=>zJn z (x+a) (y+b) wd ht w hz hi.1.1 hi.1.2
   generalize yS (x+a) (xQ z - wd)=hx at *
   generalize yS (y+b) (xQ z - ht)=hy at *
   clear hr hc hp hz
   go_wp2_with (go_at_call 59;refine (yC _ _ _ _).mono ?_;rintro e w1 ⟨rfl,rfl⟩)
   have HB2:Hid (Bw w ((w1.setCell ⟨w.heap.size,1,none⟩ (.int .i64 (x+a))).setCell ⟨w.heap.size,2,none⟩ (.int .i64 (y+b)))):=(HB1.out.setCell (Nat.le_refl _) _).setCell (Nat.le_refl _) _
   have HT2:Hid (zC ((w1.setCell ⟨w.heap.size,1,none⟩ (.int .i64 (x+a))).setCell ⟨w.heap.size,2,none⟩ (.int .i64 (y+b))) (w.heap.size+1) 6):=HT1.out.putC.putC
   refine (sA _).mono ?_
   rintro e w2 ⟨rfl,hb2⟩
   have hT2:=HT2.out.below hb2
   have HT3:Hid (zC w2 (w.heap.size+1) 6):=hT2
   have HB3:Hid (Bw w w2):=zA HB2.out hb2
   clear hb2 HT2 HB2 t0 t1 t2 t3 t4 t5 f0 f1 f2 f3 f4 f5
   have t0:=hT2.cell 0 (by omega)
   have t1:=hT2.cell 1 (by omega)
   have t2:=hT2.cell 2 (by omega)
   have t3:=hT2.cell 3 (by omega)
   have t4:=hT2.cell 4 (by omega)
   have t5:=hT2.cell 5 (by omega)
   have f0:=(hT2 0 (by omega)).2
   have f1:=(hT2 1 (by omega)).2
   have f2:=(hT2 2 (by omega)).2
   have f3:=(hT2 3 (by omega)).2
   have f4:=(hT2 4 (by omega)).2
   have f5:=(hT2 5 (by omega)).2
   clear hT2
   go_wp2_with fail
   obtain ⟨q0,q1,q2,q3,q4,q5⟩:=vK (a:=.int .i64 0) (b:=.int .i64 z) (c:=.int .i64 hx) (d:=.int .i64 hy) (e:=.int .i64 wd) (f:=.int .i64 ht) HT3.out
   exact bodyPost_ret (v:=crV 0 z hx hy wd ht) (by simp [results,Tryz.results30,go_sem,q0,q1,q2,q3,q4,q5]) rfl ⟨by rw [hq.out],zBx HB3.out (Nat.le_succ _)⟩
 ·simp only [hc]
  have hq:Hid (zGi z x y wd ht a b=crV 3 0 0 0 0 0):=by show _=_;rw [hp.out];simp [hr]
  clear hr hc hp
  go_wp2_with fail
  obtain ⟨q0,q1,q2,q3,q4,q5⟩:=vK (a:=.int .i64 3) (b:=.int .i64 0) (c:=.int .i64 0) (d:=.int .i64 0) (e:=.int .i64 0) (f:=.int .i64 0) HT1.out
  exact bodyPost_ret (v:=crV 3 0 0 0 0 0) (by simp [results,Tryz.results30,go_sem,q0,q1,q2,q3,q4,q5]) rfl ⟨by rw [hq.out],zBx HB1.out (Nat.le_succ _)⟩
def zFw (z x y wd ht t:Int):Value:=if zAi z x y wd ht=true then (if xD t=true then crV 0 t (yS (yD (x+wd / 2) z t - wd / 2) (xQ t - wd)) (yS (yD (y+ht / 2) z t - ht / 2) (xQ t - ht)) wd ht else crV 3 0 0 0 0 0) else crV 3 0 0 0 0 0
theorem zDm (z x y wd ht t:Int)(w:World):Calls Tryz.prog 47 #[zCo z x y wd ht,.int .i64 t] w fun e w'=>e=.returned (zFw z x y wd ht t)∧Bw w w':=by
 have hp:Hid (zFw z x y wd ht t=if zAi z x y wd ht=true then (if xD t=true then crV 0 t (yS (yD (x+wd / 2) z t - wd / 2) (xQ t - wd)) (yS (yD (y+ht / 2) z t - ht / 2) (xQ t - ht)) wd ht else crV 3 0 0 0 0 0) else crV 3 0 0 0 0 0):=rfl
 go_enter Tryz.func47,Tryz.ntmps47
 go_wp2_with fail
 generalize hW:((w.alloc _).alloc _:World)=W
 have HB0:Hid (Bw w W):=by show Below _ _ _;subst hW;exact Qb
 have HA:Hid (vJ W w.heap.size z x y wd ht):=by show vJ _ _ _ _ _ _ _;subst hW;exact ⟨by simp [go_sem],by simp [go_sem],by simp [go_sem],by simp [go_sem],by simp [go_sem]⟩
 have HT:Hid (zC W (w.heap.size+1) 6):=by
  show zC _ _ _
  subst hW
  have:=zKf (w.alloc (.cells #[.int .i64 z,.int .i64 x,.int .i64 y,.int .i64 wd,.int .i64 ht] 32)) (.int .i64 0) (.int .i64 0) (.int .i64 0) (.int .i64 0) (.int .i64 0) (.int .i64 0) 68
  simpa using this
 have HC:Hid (zC W w.heap.size 5):=by
  show zC _ _ _
  subst hW
  exact (zEz w (.int .i64 z) (.int .i64 x) (.int .i64 y) (.int .i64 wd) (.int .i64 ht) 32).below (by exact Qb)
 clear hW
 refine (vQ z x y wd ht _).mono ?_
 rintro e w1 ⟨rfl,hb1⟩
 have HT1:Hid (zC w1 (w.heap.size+1) 6):=HT.out.below hb1
 have HC1:Hid (zC w1 w.heap.size 5):=HC.out.below hb1
 have HB1:Hid (Bw w w1):=zA HB0.out hb1
 have HA1:Hid (vJ w1 w.heap.size z x y wd ht):=HA.out.belowA hb1
 clear hb1 HT HB0 HC HA
 have hC1:=HC1.out
 have hT1:=HT1.out
 obtain ⟨e0,e1,e2,e3,e4⟩:=HA1.out
 have hl1:w.heap.size<w1.heap.size:=World.block_lt_of_cell? _ _ e0
 have g0:=(hC1 0 (by omega)).2
 have g1:=(hC1 1 (by omega)).2
 have g2:=(hC1 2 (by omega)).2
 have g3:=(hC1 3 (by omega)).2
 have g4:=(hC1 4 (by omega)).2
 have t0:=hT1.cell 0 (by omega)
 have t1:=hT1.cell 1 (by omega)
 have t2:=hT1.cell 2 (by omega)
 have t3:=hT1.cell 3 (by omega)
 have t4:=hT1.cell 4 (by omega)
 have t5:=hT1.cell 5 (by omega)
 have f0:=(hT1 0 (by omega)).2
 have f1:=(hT1 1 (by omega)).2
 have f2:=(hT1 2 (by omega)).2
 have f3:=(hT1 3 (by omega)).2
 have f4:=(hT1 4 (by omega)).2
 have f5:=(hT1 5 (by omega)).2
 clear hC1 hT1
 rcases zBf z x y wd ht with ⟨hc,hr⟩ | ⟨hc,hr⟩
 ·simp only [hc]
  cases hd:xD t
  ·have hq:Hid (zFw z x y wd ht t=crV 3 0 0 0 0 0):=by show _=_;rw [hp.out,hd];simp [hr]
   clear hr hc hp
   go_wp2_with (go_at_call 89;refine (xE _ _).mono ?_;rintro e w1 ⟨rfl,rfl⟩)
   obtain ⟨q0,q1,q2,q3,q4,q5⟩:=vK (a:=.int .i64 3) (b:=.int .i64 0) (c:=.int .i64 0) (d:=.int .i64 0) (e:=.int .i64 0) (f:=.int .i64 0) HT1.out
   exact bodyPost_ret (v:=crV 3 0 0 0 0 0) (by simp [results,Tryz.results47,go_sem,q0,q1,q2,q3,q4,q5]) rfl ⟨by rw [hq.out],zBx HB1.out (Nat.le_succ _)⟩
  ·have hq:Hid (zFw z x y wd ht t=crV 0 t (yS (yD (x+wd / 2) z t - wd / 2) (xQ t - wd)) (yS (yD (y+ht / 2) z t - ht / 2) (xQ t - ht)) wd ht):=by show _=_;rw [hp.out,hd];simp [hr]
   have hz:=vZ hr
   have hi:=uD hr
   have hn:=xU hz
   have hzb:0≤z∧z≤3:=by rcases zT hz with rfl | rfl | rfl | rfl <;> omega
   have htb:0≤t∧t≤3:=by rcases zT hd with rfl | rfl | rfl | rfl <;> omega
   have bx:=zAm (a:=x+wd / 2) hzb htb (by omega)
   have by':=zAm (a:=y+ht / 2) hzb htb (by omega)
   have s1:=fun ty w=>zE1 ty (a:=x) (b:=y) (c:=wd / 2) (d:=ht / 2) w (by omega) (by omega)
   have s2:=fun ty w=>zE0 ty (a:=yD (x+wd / 2) z t) (b:=yD (y+ht / 2) z t) (c:=wd / 2) (d:=ht / 2) w (by omega) (by omega)
   have sH:=fun w=>zJv wd ht w (by omega) (by omega)
   have sZ:=fun w=>zRc (x+wd / 2) (y+ht / 2) z t w hzb htb (by omega) (by omega)
   have sA:=fun w=>zJu t x y wd ht (yD (x+wd / 2) z t - wd / 2) (yD (y+ht / 2) z t - ht / 2) w hd hi.1.1 hi.1.2 (by omega) (by omega)
   generalize yS (yD (x+wd / 2) z t - wd / 2) (xQ t - wd)=hx at *
   generalize yS (yD (y+ht / 2) z t - ht / 2) (xQ t - ht)=hy at *
   generalize yD (x+wd / 2) z t=zx at *
   generalize yD (y+ht / 2) z t=zy at *
   clear hr hc hp hi hn hz hzb htb bx by' t0 t1 t2 t3 t4 t5 f0 f1 f2 f3 f4 f5
   generalize wd / 2=hwd at *
   generalize ht / 2=hht at *
   generalize x+hwd=mx at *
   generalize y+hht=my at *
   go_wp2_with (first
    | (go_at_call 89;refine (xE _ _).mono ?_;rintro e w1 ⟨rfl,rfl⟩)
    | fail)
   refine (zDv z x y wd ht _).mono ?_
   rintro e w2 ⟨rfl,hb2⟩
   have r0:∀ W',Bw w2 W'→W'.cell? ⟨w.heap.size,0,none⟩=some (.int .i64 z):=fun W' h=>(HA1.out.belowA (zA hb2 h)).1
   have r1:∀ W',Bw w2 W'→W'.cell? ⟨w.heap.size,1,none⟩=some (.int .i64 x):=fun W' h=>(HA1.out.belowA (zA hb2 h)).2.1
   have r2:∀ W',Bw w2 W'→W'.cell? ⟨w.heap.size,2,none⟩=some (.int .i64 y):=fun W' h=>(HA1.out.belowA (zA hb2 h)).2.2.1
   have r3:∀ W',Bw w2 W'→W'.cell? ⟨w.heap.size,3,none⟩=some (.int .i64 wd):=fun W' h=>(HA1.out.belowA (zA hb2 h)).2.2.2.1
   have r4:∀ W',Bw w2 W'→W'.cell? ⟨w.heap.size,4,none⟩=some (.int .i64 ht):=fun W' h=>(HA1.out.belowA (zA hb2 h)).2.2.2.2
   have z0:∀ W',Bw w2 W'→W'.frozen? ⟨w.heap.size,0,none⟩=false:=fun W' h=>(HC1.out.below (zA hb2 h) 0 (by omega)).2
   have HT2:Hid (zC w2 (w.heap.size+1) 6):=HT1.out.below hb2
   have HB2:Hid (Bw w w2):=zA HB1.out hb2
   clear hb2 HT1 HB1 HA1 HC1 e0 e1 e2 e3 e4 g0 g1 g2 g3 g4 hl1
   have hr2:Bw w2 w2:=Below.refl _ _
   go_wp2_with (go_at_call 91;refine (sH _).mono ?_;rintro e w2 ⟨rfl,rfl⟩)
   go_region_held3 (fun W'=>Bw w2 W') ((repeat (first|exact Qr _ _|assumption|refine Qd ?_|refine Qa ?_ _|refine Qt ?_|refine Qs ?_ _|refine Qo ?_ ?_ _ _)))
    (first
     | (go_at_call 79;refine (zAu _ _ _ _ _ _).mono ?_;rintro e w3 ⟨rfl,hb⟩)
     | (go_at_call 92;refine (sZ _).mono ?_;rintro e w3 ⟨rfl,rfl⟩)
     | fail)
   rename_i hfin
   have HT3:=HT2.out.below hfin
   have HB3:=zA HB2.out hfin
   go_wp2_with fail
   have HT4:Hid (zC (w3.setCell ⟨w.heap.size,0,none⟩ (.int .i64 t)) (w.heap.size+1) 6):=HT3.putC
   have HB4:Hid (Bw w (w3.setCell ⟨w.heap.size,0,none⟩ (.int .i64 t))):=HB3.setCell (Nat.le_refl _) _
   clear HT3 HB3
   refine (sA _).mono ?_
   rintro e w5 ⟨rfl,hb5⟩
   have hT5:=HT4.out.below hb5
   have HT5:Hid (zC w5 (w.heap.size+1) 6):=hT5
   have HB5:Hid (Bw w w5):=zA HB4.out hb5
   have t0:=hT5.cell 0 (by omega)
   have t1:=hT5.cell 1 (by omega)
   have t2:=hT5.cell 2 (by omega)
   have t3:=hT5.cell 3 (by omega)
   have t4:=hT5.cell 4 (by omega)
   have t5:=hT5.cell 5 (by omega)
   have f0:=(hT5 0 (by omega)).2
   have f1:=(hT5 1 (by omega)).2
   have f2:=(hT5 2 (by omega)).2
   have f3:=(hT5 3 (by omega)).2
   have f4:=(hT5 4 (by omega)).2
   have f5:=(hT5 5 (by omega)).2
   clear hT5 hb5
   go_wp2_with fail
   obtain ⟨q0,q1,q2,q3,q4,q5⟩:=vK (a:=.int .i64 0) (b:=.int .i64 t) (c:=.int .i64 hx) (d:=.int .i64 hy) (e:=.int .i64 wd) (f:=.int .i64 ht) HT5.out
   exact bodyPost_ret (v:=crV 0 t hx hy wd ht) (by simp [results,Tryz.results47,go_sem,q0,q1,q2,q3,q4,q5]) rfl ⟨by rw [hq.out],zBx HB5.out (Nat.le_succ _)⟩
 ·simp only [hc]
  have hq:Hid (zFw z x y wd ht t=crV 3 0 0 0 0 0):=by show _=_;rw [hp.out];simp [hr]
  clear hr hc hp
  go_wp2_with fail
  obtain ⟨q0,q1,q2,q3,q4,q5⟩:=vK (a:=.int .i64 3) (b:=.int .i64 0) (c:=.int .i64 0) (d:=.int .i64 0) (e:=.int .i64 0) (f:=.int .i64 0) HT1.out
  exact bodyPost_ret (v:=crV 3 0 0 0 0 0) (by simp [results,Tryz.results47,go_sem,q0,q1,q2,q3,q4,q5]) rfl ⟨by rw [hq.out],zBx HB1.out (Nat.le_succ _)⟩
end Go.Proofs.YtkjbafcalamgnaaGreat
