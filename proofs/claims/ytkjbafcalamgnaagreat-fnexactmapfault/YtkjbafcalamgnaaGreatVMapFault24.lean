/- Texts. -/
import Derived.Test.YtkjbafcalamgnaaGreatVMapFault23
import Derived.Test.YtkjbafcalamgnaaGreatVMapFault12
import Derived.Test.YtkjbafcalamgnaaGreatVMapFault14
set_option linter.unusedSimpArgs false
set_option linter.unusedVariables false
set_option maxRecDepth 100000
set_option maxHeartbeats 32000000
namespace Go.Proofs.YtkjbafcalamgnaaGreat
open Go.RowKit
def inV (now bad:Int):Bool:=inB now 0 9000 && inB bad 0 9999
def uU (z x y wd ht:Int)(n:Nat)(K:Nat→Kp)(E:Nat→Req)(i:Nat):Int:=if zBu z x y wd ht (E i).z (E i).x (E i).y=true then (if 0≤atK n K (E i).z (E i).x (E i).y then 8 else 0) else 8
noncomputable def viewC (z x y wd ht now s:Int)(n:Nat)(K:Nat→Kp)(rn:Nat)(E:Nat→Req)(bad:Int):Int :=
 if vZ z x y wd ht=0 then (if inV now bad=true then (if cacheC s n K=0 then (if s<4 then 3 else (if zT rn E=0 then yE (uU z x y wd ht n K E) 0 rn else zT rn E)) else cacheC s n K) else 3) else vZ z x y wd ht
def CamO (w:World)(b:Nat)(z x y wd ht:Int):Prop:=w.cell? ⟨b,1,none⟩=some (.int .i64 z)∧w.cell? ⟨b,2,none⟩=some (.int .i64 x)∧w.cell? ⟨b,3,none⟩=some (.int .i64 y)∧w.cell? ⟨b,4,none⟩=some (.int .i64 wd)∧w.cell? ⟨b,5,none⟩=some (.int .i64 ht)
theorem Blk.camO {w:World}{q:Nat}{fv:Value}{z x y wd ht:Int}{l:List Value}(h:Blk w q (fv :: .int .i64 z :: .int .i64 x :: .int .i64 y :: .int .i64 wd :: .int .i64 ht :: l)):CamO w q z x y wd ht:=⟨h.cell 1 rfl,h.cell 2 rfl,h.cell 3 rfl,h.cell 4 rfl,h.cell 5 rfl⟩
theorem zFg (b:Nat)(z x y wd ht:Int)(w:World)(h:CamO w b z x y wd ht):Calls Tryz.prog 58 #[.pointer (some ⟨b,1,none⟩)] w fun e w'=>e=.returned (.int .i64 (vZ z x y wd ht))∧Bw w w':=by
 obtain ⟨e0,e1,e2,e3,e4⟩:=h
 have hk:Hid (vZ z x y wd ht=if zDo z x y wd ht=true then 0 else 3):=rfl
 have hb:Hid (zDo z x y wd ht=((yR z && (inB wd 1 8 && inB ht 1 8)) && (inB x 0 (uV z - wd) && inB y 0 (uV z - ht)))):=rfl
 cases h1:yR z <;> cases h2:inB wd 1 8 <;> cases h3:inB ht 1 8
 case true.true.true =>
  rw [h1,h2,h3] at hb
  have sN:=fun w=>zHj z w h1
  have hn:=xY h1
  have hw:1≤wd∧wd≤8:=by simpa [inB] using h2
  have hh:1≤ht∧ht≤8:=by simpa [inB] using h3
  generalize uV z=u at *
  cases h4:inB x 0 (u - wd) <;> cases h5:inB y 0 (u - ht)
  all_goals
   rw [h4,h5] at hb
   rw [hb.out] at hk
   go_enter Tryz.func58,Tryz.ntmps58
   go_wp2_with (first
    | (go_at_call 87;refine (xC _ _).mono ?_;rintro e w1 ⟨rfl,rfl⟩)
    | (go_at_call 101;refine (sN _).mono ?_;rintro e w1 ⟨rfl,rfl⟩)
    | (go_at_call 59;refine (zQ _ _ _ _).mono ?_;rintro e w1 ⟨rfl,rfl⟩))
   go_quiet (first | (go_at_call 59;exact Calls.quiet_of (l1In_q _ _ _ _)))
   go_wp2
   go_ret
   exact ⟨zC (by rw [hk.out];rfl),below_drewN (Below.refl _ _) _⟩
 all_goals
  rw [h1,h2,h3] at hb
  rw [hb.out] at hk
  go_enter Tryz.func58,Tryz.ntmps58
  go_wp2_with (first
   | (go_at_call 87;refine (xC _ _).mono ?_;rintro e w1 ⟨rfl,rfl⟩)
   | (go_at_call 59;refine (zQ _ _ _ _).mono ?_;rintro e w1 ⟨rfl,rfl⟩))
  go_ret
  exact ⟨zC (by rw [hk.out];rfl),Qb⟩
theorem zJq {z x y wd ht lx ly hx hy ex ey:Int}{NX NY:Nat}{R:Rfs}(b:Nat)(w:World)(hA:CamO w b z x y wd ht)(hr:zDo z x y wd ht=true)(hex:x+wd - 1=ex)(hey:y+ht - 1=ey)(e1:x / 8=lx)(e2:y / 8=ly)(e3:ex / 8=hx)(e4:ey / 8=hy)(hNX:(1≤NX∧NX≤2)∧hx=lx+(NX:Int) - 1)(hNY:(1≤NY∧NY≤2)∧hy=ly+(NY:Int) - 1)(hR:R=⟨fun _=>z,fun i=>lx+(i % NX:Nat),fun i=>ly+(i / NX:Nat)⟩) :
  Calls Tryz.prog 107 #[.pointer (some ⟨b,1,none⟩)] w fun e w'=>∃ v,e=.returned v∧zCo w.heap.size w' v (NY * NX) R∧Bw w w':=by
 have HR:Hid (R=⟨fun _=>z,fun i=>lx+(i % NX:Nat),fun i=>ly+(i / NX:Nat)⟩):=hR
 have HX:Hid (hx=lx+(NX:Int) - 1):=hNX.2
 have HY:Hid (hy=ly+(NY:Int) - 1):=hNY.2
 have nX:=hNX.1
 have nY:=hNY.1
 clear hR hNX hNY
 have hz:=zCm hr
 have hin:=zBa hr
 have hn:=xY hz
 have hp1:vN z x y=true:=by simp [vN,inB,hz];omega
 have hp2:vN z ex ey=true:=by simp [vN,inB,hz];omega
 have sT1:=fun w=>zIf z x y w hp1
 have sT2:=fun w=>zIf z ex ey w hp2
 have bl:0≤lx∧lx≤8∧0≤ly∧ly≤8:=by omega
 have k1:IntKind.i64.wrap (x+wd)=x+wd:=IntWalk.i64_in _ (by omega)
 have k2:IntKind.i64.wrap (y+ht)=y+ht:=IntWalk.i64_in _ (by omega)
 have k3:IntKind.i64.wrap (x+wd - 1)=ex:=by rw [IntWalk.i64_in _ (by omega)];exact hex
 have k4:IntKind.i64.wrap (y+ht - 1)=ey:=by rw [IntWalk.i64_in _ (by omega)];exact hey
 rw [e1,e2] at sT1
 rw [e3,e4] at sT2
 clear hr hz hin hn hp1 hp2 hex hey e1 e2 e3 e4
 obtain ⟨i0,hi,hz0,hz1,hz2⟩:=info_parts zLp
 have HA:Hid (CamO w b z x y wd ht):=hA
 have hbw:b<w.heap.size:=World.block_lt_of_cell? _ _ hA.1
 clear hA
 go_enter Tryz.func107,Tryz.ntmps107
 go_wp2_with fail
 generalize hW:(w.alloc _:World)=W
 have HB0:Hid (Bw w W):=by show Below _ _ _;subst hW;exact Qb
 have HO0:Hid (zCo w.heap.size W (.slice (some ⟨w.heap.size,0,none⟩) 0 0) 0 R):=by
  show World.ownsRow _ _ _ _ _ _ _
  subst hW
  exact ⟨by simp [yZ],.inr ⟨w.heap.size,0,#[],rfl,Nat.le_refl _,heap_alloc_new w _,by simp,by unfold maxLen;omega,by simp,by simp [yZ]⟩⟩
 have hsW:w.heap.size<W.heap.size:=by subst hW;simp
 clear hW
 have c0:∀ W',Bw W W'→W'.cell? ⟨b,1,none⟩=some (.int .i64 z):=fun W' h=>((zA HB0.out h).cell (p:=⟨b,1,none⟩) hbw).trans HA.out.1
 have c1:∀ W',Bw W W'→W'.cell? ⟨b,2,none⟩=some (.int .i64 x):=fun W' h=>((zA HB0.out h).cell (p:=⟨b,2,none⟩) hbw).trans HA.out.2.1
 have c2:∀ W',Bw W W'→W'.cell? ⟨b,3,none⟩=some (.int .i64 y):=fun W' h=>((zA HB0.out h).cell (p:=⟨b,3,none⟩) hbw).trans HA.out.2.2.1
 have c3:∀ W',Bw W W'→W'.cell? ⟨b,4,none⟩=some (.int .i64 wd):=fun W' h=>((zA HB0.out h).cell (p:=⟨b,4,none⟩) hbw).trans HA.out.2.2.2.1
 have c4:∀ W',Bw W W'→W'.cell? ⟨b,5,none⟩=some (.int .i64 ht):=fun W' h=>((zA HB0.out h).cell (p:=⟨b,5,none⟩) hbw).trans HA.out.2.2.2.2
 go_cut [4] (fun p wc=>∃ b4:Nat,p=.pointer (some ⟨b4,0,none⟩)∧W.heap.size≤b4∧xW wc b4 z lx ly∧Bw W wc)
 case first =>
  refine wp_region_noPanic ?_
  refine wp_region_held_drew (S:=fun W'=>Bw W W') (by kernel_rfl) (by exact Qb) (fun hHeld=>?_)
  have hX0:Bw W W.drew:=hHeld
  refine zE (i:=0) (d:=some 9) rfl rfl ?_
  try simp only [Act.put,Qx,Qy,Qz]
  refine zE (i:=1) (d:=some 10) rfl rfl ?_
  try simp only [Act.put,Qx,Qy,Qz]
  refine zE (i:=2) (d:=some 11) rfl rfl ?_
  try simp only [Act.put,Qx,Qy,Qz]
  refine zE (i:=3) (d:=some 12) rfl rfl ?_
  try simp only [Act.put,Qx,Qy,Qz]
  refine zE (i:=4) (d:=some 13) rfl rfl ?_
  try simp only [Act.put,Qx,Qy,Qz]
  refine zE (i:=5) (d:=some 14) rfl rfl ?_
  try simp only [Act.put,Qx,Qy,Qz]
  refine zE (i:=6) (d:=some 15) rfl rfl ?_
  try simp only [Act.put,Qx,Qy,Qz]
  refine zE (i:=7) (d:=some 16) rfl rfl ?_
  try simp only [Act.put,Qx,Qy,Qz]
  refine zE (i:=8) (d:=some 17) rfl rfl ?_
  try simp only [Act.put,Qx,Qy,Qz]
  refine zE (i:=9) (d:=some 18) rfl rfl ?_
  try simp only [Act.put,Qx,Qy,Qz]
  refine zE (i:=10) (d:=some 19) rfl rfl ?_
  try simp only [Act.put,Qx,Qy,Qz]
  refine zE (i:=11) (d:=some 20) rfl rfl ?_
  try simp only [Act.put,Qx,Qy,Qz]
  refine wpAnyH_ready (rs:=[12,13]) (by kernel_rfl) (by simp) ?_
  refine (AllReadyH.cons rfl (fun K hK=>?_) (AllReadyH.cons rfl (fun K hK=>?_) AllReadyH.nil))
  ·rw [if_pos (by rfl)]
   go_simp
   refine Calls.mono (sT1 _) ?_
   rintro e wk ⟨rfl,hbk⟩
   have hXk:Bw W wk:=zA hX0 hbk
   go_wp2_with fail
   refine hK.out _ _ hXk (fun hHeld=>?_)
   clear hK K
   try simp only [Act.put,Qx,Qy,Qz]
   refine zR 13 fun K hK=>?_
   rw [if_pos (by rfl)]
   go_simp
   generalize hwA:(World.alloc _ _:World)=wl
   have hbl:Bw wk wl:=by subst hwA;exact Qb
   have hTl:zD wl wk.heap.size 3:=by subst hwA;exact zAy wk _ _ _ _
   clear hwA
   have hXl:Bw W wl:=zA hXk hbl
   have hsl:W.heap.size≤wk.heap.size:=Below.size hXk
   refine hK.out _ _ hXl (fun hHeld=>?_)
   clear hK K
   try simp only [Act.put,Qx,Qy,Qz]
   refine zR 14 fun K hK=>?_
   rw [if_pos (by rfl)]
   have t0:=hTl.cell 0 (by omega)
   have f0:=(hTl 0 (by omega)).2
   have t1:=hTl.cell 1 (by omega)
   have f1:=(hTl 1 (by omega)).2
   have t2:=hTl.cell 2 (by omega)
   have f2:=(hTl 2 (by omega)).2
   go_simp
   have hXs:Bw W (((wl.setCell ⟨wk.heap.size,0,none⟩ (.int .i64 z)).setCell ⟨wk.heap.size,1,none⟩ (.int .i64 lx)).setCell ⟨wk.heap.size,2,none⟩ (.int .i64 ly)):=((hXl.setCell hsl _).setCell hsl _).setCell hsl _
   have hRs:=xW.put (z:=z) (x:=lx) (y:=ly) hTl
   generalize hwS:(((wl.setCell _ _).setCell _ _).setCell _ _:World)=wS at *
   refine hK.out _ _ hXs (fun hHeld=>?_)
   clear hK K hwS t0 t1 t2 f0 f1 f2
   try simp only [Act.put,Qx,Qy,Qz]
   refine wpAnyH_done (by kernel_rfl) ?_ _
   refine NoPanic.normal ?_
   go_wp2_with fail
   go_meet
   case rel=>exact ⟨_,rfl,hsl,hRs,hXs⟩
  ·rw [if_pos (by rfl)]
   go_simp
   generalize hwA:(World.alloc _ _:World)=wk
   have hbk:Bw W wk.drew:=by subst hwA;exact Qb
   have hTk:zD wk.drew W.heap.size 3:=by subst hwA;exact zAy W _ _ _ _
   clear hwA
   refine hK.out _ _ hbk (fun hHeld=>?_)
   clear hK K
   try simp only [Act.put,Qx,Qy,Qz]
   refine zR 12 fun K hK=>?_
   rw [if_pos (by rfl)]
   go_simp
   refine Calls.mono (sT1 _) ?_
   rintro e wl ⟨rfl,hbl⟩
   have hXl:Bw W wl:=zA hbk hbl
   have hTl:=zD.below hTk hbl
   have hsl:W.heap.size≤W.heap.size:=Nat.le_refl _
   go_wp2_with fail
   refine hK.out _ _ hXl (fun hHeld=>?_)
   clear hK K
   try simp only [Act.put,Qx,Qy,Qz]
   refine zR 14 fun K hK=>?_
   rw [if_pos (by rfl)]
   have t0:=hTl.cell 0 (by omega)
   have f0:=(hTl 0 (by omega)).2
   have t1:=hTl.cell 1 (by omega)
   have f1:=(hTl 1 (by omega)).2
   have t2:=hTl.cell 2 (by omega)
   have f2:=(hTl 2 (by omega)).2
   go_simp
   have hXs:Bw W (((wl.setCell ⟨W.heap.size,0,none⟩ (.int .i64 z)).setCell ⟨W.heap.size,1,none⟩ (.int .i64 lx)).setCell ⟨W.heap.size,2,none⟩ (.int .i64 ly)):=((hXl.setCell hsl _).setCell hsl _).setCell hsl _
   have hRs:=xW.put (z:=z) (x:=lx) (y:=ly) hTl
   generalize hwS:(((wl.setCell _ _).setCell _ _).setCell _ _:World)=wS at *
   refine hK.out _ _ hXs (fun hHeld=>?_)
   clear hK K hwS t0 t1 t2 f0 f1 f2
   try simp only [Act.put,Qx,Qy,Qz]
   refine wpAnyH_done (by kernel_rfl) ?_ _
   refine NoPanic.normal ?_
   go_wp2_with fail
   go_meet
   case rel=>exact ⟨_,rfl,hsl,hRs,hXs⟩
 case rest =>
  obtain ⟨b4,rfl,hl4,hR4,hBc⟩:=hcut
  generalize wc=wA at *
  have HR4:Hid (xW wA b4 z lx ly):=hR4
  have HBA:Hid (Bw W wA):=hBc
  have d0:∀ W',Bw wA W'→W'.cell? ⟨b,1,none⟩=some (.int .i64 z):=fun W' h=>c0 W' (zA hBc h)
  have d1:∀ W',Bw wA W'→W'.cell? ⟨b,2,none⟩=some (.int .i64 x):=fun W' h=>c1 W' (zA hBc h)
  have d2:∀ W',Bw wA W'→W'.cell? ⟨b,3,none⟩=some (.int .i64 y):=fun W' h=>c2 W' (zA hBc h)
  have d3:∀ W',Bw wA W'→W'.cell? ⟨b,4,none⟩=some (.int .i64 wd):=fun W' h=>c3 W' (zA hBc h)
  have d4:∀ W',Bw wA W'→W'.cell? ⟨b,5,none⟩=some (.int .i64 ht):=fun W' h=>c4 W' (zA hBc h)
  clear c0 c1 c2 c3 c4 hR4 hBc
  go_wp2_with fail
  go_cut [5] (fun p wx=>∃ b5:Nat,p=.pointer (some ⟨b5,0,none⟩)∧wA.heap.size≤b5∧xW wx b5 z hx hy∧Bw wA wx)
  case first =>
   refine wp_region_noPanic ?_
   refine wp_region_held_drew (S:=fun W'=>Bw wA W') (by kernel_rfl) (by exact Qb) (fun hHeld=>?_)
   have hX0:Bw wA wA.drew:=hHeld
   refine zE (i:=0) (d:=some 22) rfl rfl ?_
   try simp only [Act.put,Qx,Qy,Qz]
   refine zE (i:=1) (d:=some 23) rfl rfl ?_
   try simp only [Act.put,Qx,Qy,Qz]
   refine zE (i:=2) (d:=some 24) rfl rfl ?_
   try simp only [Act.put,Qx,Qy,Qz]
   refine zE (i:=3) (d:=some 25) rfl rfl ?_
   try simp only [Act.put,Qx,Qy,Qz]
   refine zE (i:=4) (d:=some 26) rfl rfl ?_
   try simp only [Act.put,Qx,Qy,Qz]
   refine zE (i:=5) (d:=some 27) rfl rfl ?_
   try simp only [Act.put,Qx,Qy,Qz]
   refine zE (i:=6) (d:=some 28) rfl rfl ?_
   try simp only [Act.put,Qx,Qy,Qz]
   refine zE (i:=7) (d:=some 29) rfl rfl ?_
   try simp only [Act.put,Qx,Qy,Qz]
   refine zE (i:=8) (d:=some 30) rfl rfl ?_
   try simp only [Act.put,Qx,Qy,Qz]
   refine zE (i:=9) (d:=some 31) rfl rfl ?_
   try simp only [Act.put,Qx,Qy,Qz]
   refine zE (i:=10) (d:=some 32) rfl rfl ?_
   try simp only [Act.put,Qx,Qy,Qz]
   refine zE (i:=11) (d:=some 33) rfl rfl ?_
   try simp only [Act.put,Qx,Qy,Qz]
   refine zE (i:=12) (d:=some 34) rfl rfl ?_
   try simp only [Act.put,Qx,Qy,Qz]
   refine zE (i:=13) (d:=some 35) rfl rfl ?_
   try simp only [Act.put,Qx,Qy,Qz]
   refine zE (i:=14) (d:=some 36) rfl rfl ?_
   try simp only [Act.put,Qx,Qy,Qz]
   refine zE (i:=15) (d:=some 37) rfl rfl ?_
   try simp only [Act.put,Qx,Qy,Qz]
   refine zE (i:=16) (d:=some 38) rfl rfl ?_
   try simp only [Act.put,Qx,Qy,Qz]
   refine zE (i:=17) (d:=some 39) rfl rfl ?_
   try simp only [Act.put,Qx,Qy,Qz]
   refine zE (i:=18) (d:=some 40) rfl rfl ?_
   try simp only [Act.put,Qx,Qy,Qz]
   refine zE (i:=19) (d:=some 41) rfl rfl ?_
   try simp only [Act.put,Qx,Qy,Qz]
   refine zE (i:=20) (d:=some 42) rfl rfl ?_
   try simp only [Act.put,Qx,Qy,Qz]
   refine zE (i:=21) (d:=some 43) rfl rfl ?_
   try simp only [Act.put,Qx,Qy,Qz]
   refine zE (i:=22) (d:=some 44) rfl rfl ?_
   try simp only [Act.put,Qx,Qy,Qz]
   refine zE (i:=23) (d:=some 45) rfl rfl ?_
   try simp only [Act.put,Qx,Qy,Qz]
   refine wpAnyH_ready (rs:=[24,25]) (by kernel_rfl) (by simp) ?_
   refine (AllReadyH.cons rfl (fun K hK=>?_) (AllReadyH.cons rfl (fun K hK=>?_) AllReadyH.nil))
   ·rw [if_pos (by rfl)]
    go_simp
    refine Calls.mono (sT2 _) ?_
    rintro e wk ⟨rfl,hbk⟩
    have hXk:Bw wA wk:=zA hX0 hbk
    go_wp2_with fail
    refine hK.out _ _ hXk (fun hHeld=>?_)
    clear hK K
    try simp only [Act.put,Qx,Qy,Qz]
    refine zR 25 fun K hK=>?_
    rw [if_pos (by rfl)]
    go_simp
    generalize hwA:(World.alloc _ _:World)=wl
    have hbl:Bw wk wl:=by subst hwA;exact Qb
    have hTl:zD wl wk.heap.size 3:=by subst hwA;exact zAy wk _ _ _ _
    clear hwA
    have hXl:Bw wA wl:=zA hXk hbl
    have hsl:wA.heap.size≤wk.heap.size:=Below.size hXk
    refine hK.out _ _ hXl (fun hHeld=>?_)
    clear hK K
    try simp only [Act.put,Qx,Qy,Qz]
    refine zR 26 fun K hK=>?_
    rw [if_pos (by rfl)]
    have t0:=hTl.cell 0 (by omega)
    have f0:=(hTl 0 (by omega)).2
    have t1:=hTl.cell 1 (by omega)
    have f1:=(hTl 1 (by omega)).2
    have t2:=hTl.cell 2 (by omega)
    have f2:=(hTl 2 (by omega)).2
    go_simp
    have hXs:Bw wA (((wl.setCell ⟨wk.heap.size,0,none⟩ (.int .i64 z)).setCell ⟨wk.heap.size,1,none⟩ (.int .i64 hx)).setCell ⟨wk.heap.size,2,none⟩ (.int .i64 hy)):=((hXl.setCell hsl _).setCell hsl _).setCell hsl _
    have hRs:=xW.put (z:=z) (x:=hx) (y:=hy) hTl
    generalize hwS:(((wl.setCell _ _).setCell _ _).setCell _ _:World)=wS at *
    refine hK.out _ _ hXs (fun hHeld=>?_)
    clear hK K hwS t0 t1 t2 f0 f1 f2
    try simp only [Act.put,Qx,Qy,Qz]
    refine wpAnyH_done (by kernel_rfl) ?_ _
    refine NoPanic.normal ?_
    go_wp2_with fail
    go_meet
    case rel=>exact ⟨_,rfl,hsl,hRs,hXs⟩
   ·rw [if_pos (by rfl)]
    go_simp
    generalize hwA:(World.alloc _ _:World)=wk
    have hbk:Bw wA wk.drew:=by subst hwA;exact Qb
    have hTk:zD wk.drew wA.heap.size 3:=by subst hwA;exact zAy wA _ _ _ _
    clear hwA
    refine hK.out _ _ hbk (fun hHeld=>?_)
    clear hK K
    try simp only [Act.put,Qx,Qy,Qz]
    refine zR 24 fun K hK=>?_
    rw [if_pos (by rfl)]
    go_simp
    refine Calls.mono (sT2 _) ?_
    rintro e wl ⟨rfl,hbl⟩
    have hXl:Bw wA wl:=zA hbk hbl
    have hTl:=zD.below hTk hbl
    have hsl:wA.heap.size≤wA.heap.size:=Nat.le_refl _
    go_wp2_with fail
    refine hK.out _ _ hXl (fun hHeld=>?_)
    clear hK K
    try simp only [Act.put,Qx,Qy,Qz]
    refine zR 26 fun K hK=>?_
    rw [if_pos (by rfl)]
    have t0:=hTl.cell 0 (by omega)
    have f0:=(hTl 0 (by omega)).2
    have t1:=hTl.cell 1 (by omega)
    have f1:=(hTl 1 (by omega)).2
    have t2:=hTl.cell 2 (by omega)
    have f2:=(hTl 2 (by omega)).2
    go_simp
    have hXs:Bw wA (((wl.setCell ⟨wA.heap.size,0,none⟩ (.int .i64 z)).setCell ⟨wA.heap.size,1,none⟩ (.int .i64 hx)).setCell ⟨wA.heap.size,2,none⟩ (.int .i64 hy)):=((hXl.setCell hsl _).setCell hsl _).setCell hsl _
    have hRs:=xW.put (z:=z) (x:=hx) (y:=hy) hTl
    generalize hwS:(((wl.setCell _ _).setCell _ _).setCell _ _:World)=wS at *
    refine hK.out _ _ hXs (fun hHeld=>?_)
    clear hK K hwS t0 t1 t2 f0 f1 f2
    try simp only [Act.put,Qx,Qy,Qz]
    refine wpAnyH_done (by kernel_rfl) ?_ _
    refine NoPanic.normal ?_
    go_wp2_with fail
    go_meet
    case rel=>exact ⟨_,rfl,hsl,hRs,hXs⟩
  case rest =>
   obtain ⟨b5,rfl,hl5,hR5,hBx⟩:=hcut
   generalize wc=wB at *
   have hBB:Bw w wB:=zA HB0.out (zA HBA.out hBx)
   have HOB:Hid (zCo w.heap.size wB (.slice (some ⟨w.heap.size,0,none⟩) 0 0) 0 R):=by
    have hb:=zA HBA.out hBx
    show World.ownsRow _ _ _ _ _ _ _
    obtain ⟨h1,h2 | ⟨g,cp,cur,hv,hg,hh,hr⟩⟩:=HO0.out
    ·exact ⟨h1,.inl h2⟩
    ·refine ⟨h1,.inr ⟨g,cp,cur,hv,hg,?_,hr⟩⟩
     rw [hb.block g (by
      injection hv with hv _ _
      injection hv with hv
      injection hv with hv
      omega)]
     exact hh
   have HR4B:Hid (xW wB b4 z lx ly):=HR4.out.below hBx
   have HR5B:Hid (xW wB b5 z hx hy):=hR5
   have HBB:Hid (Bw w wB):=hBB
   have hl5':w.heap.size<b5:=by have:=HBA.out.size;omega
   have bx:0≤lx∧lx≤8:=⟨bl.1,bl.2.1⟩
   have by':0≤ly∧ly≤8:=bl.2.2
   obtain ⟨p0,p1,p2⟩:=HR4B.out
   clear bl d0 d1 d2 d3 d4 HO0 HR4 HBA hBB hBx hR5 HB0
   go_wp2_with fail
   go_loopw [3,6] (fun v j wr=>∃ (r g c:Nat),r≤NY∧j=.int .i64 (ly+(r:Int))∧v=.slice (some ⟨g,0,none⟩) (r * NX) c∧g≠b4∧g≠b5∧zCo w.heap.size wr v (r * NX) R∧xW wr b4 z lx ly∧xW wr b5 z hx hy∧Bw w wr) (fun _ j _=>(ly+(NY:Int) - intOf j).toNat)
   case atStart=>exact ⟨0,w.heap.size,0,by omega,by simp,by rw [Nat.zero_mul],by omega,by omega,by rw [Nat.zero_mul];exact HOB.out,HR4B.out,HR5B.out,HBB.out⟩
   case round =>
    obtain ⟨r,g,c,hr,rfl,rfl,hg4,hg5,hO,h4,h5,hB⟩:=hrel
    have HO0:Hid (zCo w.heap.size wr (.slice (some ⟨g,0,none⟩) (r * NX) c) (r * NX) R):=hO
    have HB0:Hid (Bw w wr):=hB
    have H4:Hid (xW wr b4 z lx ly):=h4
    have H5:Hid (xW wr b5 z hx hy):=h5
    obtain ⟨p0,p1,p2⟩:=h4
    obtain ⟨q0,q1,q2⟩:=h5
    clear hO hB
    by_cases hlt:r<NY
    ·have hle:ly+(r:Int)≤hy:=by have:=HY.out;omega
     go_wp2_with fail
     go_loopw [3,7] (fun v j wr=>∃ (m g c:Nat),m≤NX∧j=.int .i64 (lx+(m:Int))∧v=.slice (some ⟨g,0,none⟩) (r * NX+m) c∧g≠b4∧g≠b5∧zCo w.heap.size wr v (r * NX+m) R∧xW wr b4 z lx ly∧xW wr b5 z hx hy∧Bw w wr) (fun _ j _=>(lx+(NX:Int) - intOf j).toNat)
     case atStart=>exact ⟨0,g,c,by omega,by simp,rfl,hg4,hg5,HO0.out,H4.out,H5.out,HB0.out⟩
     case round =>
      clear HO0 HB0 H4 H5 p0 p1 p2 q0 q1 q2 hg4 hg5
      obtain ⟨m,g,c,hm,rfl,rfl,hg4,hg5,hO,h4,h5,hB⟩:=hrel
      have HO:Hid (zCo w.heap.size wr (.slice (some ⟨g,0,none⟩) (r * NX+m) c) (r * NX+m) R):=hO
      have HB:Hid (Bw w wr):=hB
      have H4:Hid (xW wr b4 z lx ly):=h4
      have H5:Hid (xW wr b5 z hx hy):=h5
      obtain ⟨p0,p1,p2⟩:=h4
      obtain ⟨q0,q1,q2⟩:=h5
      have hzr:wr.cell? ⟨b,1,none⟩=some (.int .i64 z):=(hB.cell (p:=⟨b,1,none⟩) hbw).trans HA.out.1
      have hszr:w.heap.size≤wr.heap.size:=hB.size
      have hlz:=World.block_lt_of_cell? _ _ hzr
      clear hO hB
      by_cases hlm:m<NX
      ·have hlx:lx+(m:Int)≤hx:=by have:=HX.out;omega
       have hK:r * NX+m<10:=by
        have:r * NX≤1 * 2:=Nat.mul_le_mul (by omega) nX.2
        omega
       have HS:Hid (yZ R (r * NX+m+1)=yZ R (r * NX+m) ++ [.int .i64 z,.int .i64 (lx+(m:Int)),.int .i64 (ly+(r:Int))]):=by
        show _=_
        rw [uL,HR.out]
        have e1:(r * NX+m) % NX=m:=by rw [Nat.mul_comm,Nat.mul_add_mod];exact Nat.mod_eq_of_lt hlm
        have e2:(r * NX+m) / NX=r:=by rw [Nat.mul_comm,Nat.mul_add_div (by omega),Nat.div_eq_of_lt hlm];rfl
        simp only [e1,e2]
       have HKK:Hid (r * NX+m+1=r * NX+(m+1)):=rfl
       generalize hKd:r * NX+m=KK at *
       clear hKd
       go_wp2_with (first
        | (at_builtin;go_must (refine wpList_append_lies _ rfl _ _ 31 rfl w.heap.size 104 i0 (.agg #[.int .i64 0,.int .i64 0,.int .i64 0]) 3 24 Tryz.underlying31 hi hz0 hz1 hz2 rfl (by decide) _ KK (yZ R KK) rfl (World.ownsRow.alloc HO.out _) ⟨wr.heap.size,0,none⟩ 1 1 [.int .i64 z,.int .i64 (lx+(m:Int)),.int .i64 (ly+(r:Int))] rfl rfl ?c1 ?c2 (by omega) ?c3 ?c4 ?c5 _ rfl ?_)))
       try
        case c1 =>
         intro q u hq
         match q,hq with
         | 0,hq=>simp at hq;subst hq;simp [Addr.add,go_sem]
         | 1,hq=>simp at hq;subst hq;simp [Addr.add,go_sem]
         | 2,hq=>simp at hq;subst hq;simp [Addr.add,go_sem]
         | q+3,hq=>simp at hq
       case c2=>first | exact ⟨rfl,rfl,rfl⟩ | (intro u hu;simp at hu;rcases hu with rfl | rfl | rfl <;> rfl)
       case c3=>unfold maxLen;omega
       case c4=>omega
       case c5=>first | omega | (simp;omega)
       intro g' c' w3 hown' hgrow hlie hlt3
       generalize hV:(wr.alloc _:World)=V at hgrow
       have hBV:Bw wr V:=by subst hV;exact Qb
       have hsV:V.heap.size=wr.heap.size+1:=by subst hV;simp
       have hgr:V.grownBy w3 (some g):=hgrow
       have hgw:w.heap.size≤g:=(HO.out.lt g rfl).1
       have hBg:Below w.heap.size V w3:=(Below.refl _ _).grown hgrow (by have:=hBV.size;omega) (fun k hk=>by have e:g=k:=Option.some.inj hk;omega)
       have HB3:Hid (Bw w w3):=(HB.out.trans (hBV.mono hszr)).trans hBg
       have HO3:Hid (zCo w.heap.size w3 (.slice (some ⟨g',0,none⟩) (KK+1) c') (KK+1) R):=by
        show World.ownsRow _ _ _ _ _ _ _
        rw [HS.out]
        exact hown'
       have h43:Hid (xW w3 b4 z lx ly):=(H4.out.below hBV).grown hgr hg4
       have h53:Hid (xW w3 b5 z hx hy):=(H5.out.below hBV).grown hgr hg5
       have l4:=H4.out.lt
       have l5:=H5.out.lt
       have hn4:g'≠b4:=by
        rcases hlie with e | e
        ·have e':g=g':=Option.some.inj e
         omega
        ·omega
       have hn5:g'≠b5:=by
        rcases hlie with e | e
        ·have e':g=g':=Option.some.inj e
         omega
        ·omega
       clear hown' hgrow hBg hBV hV hlie hsV hgr H4 H5 HB HO p0 p1 p2 q0 q1 q2 hzr
       go_wp2
       go_roundw
       case rel=>exact ⟨m+1,g',c',by omega,by go_num,by rw [← HKK.out],hn4,hn5,by rw [← HKK.out];exact HO3.out,h43.out,h53.out,HB3.out⟩
       case measure=>simp [intOf];omega
      ·have hme:m=NX:=by omega
       have hgt:¬ lx+(m:Int)≤hx:=by have:=HX.out;omega
       have HNN:Hid (r * NX+m=(r+1) * NX):=by show _=_;rw [hme,Nat.succ_mul]
       generalize r * NX+m=KK at *
       go_wp2
       go_roundw
       case rel=>exact ⟨r+1,g,c,by omega,by go_num,by rw [← HNN.out],hg4,hg5,by rw [← HNN.out];exact HO.out,H4.out,H5.out,HB.out⟩
       case measure=>simp [intOf];omega
    ·obtain rfl:NY=r:=by omega
     have hgt:¬ ly+(NY:Int)≤hy:=by have:=HY.out;omega
     go_wp2
     go_ret
     exact ⟨_,rfl,HO0.out,HB0.out⟩
theorem zHi {z x y wd ht:Int}(b:Nat)(w:World)(hA:CamO w b z x y wd ht)(hr:zDo z x y wd ht=true):Calls Tryz.prog 107 #[.pointer (some ⟨b,1,none⟩)] w fun e w'=>∃ v,e=.returned v∧zCo w.heap.size w' v (zEy z x y wd ht) (visR z x y wd)∧Bw w w':=by
 have e2:zEy z x y wd ht=zKf y ht * zKf x wd:=by unfold zEy;rw [if_pos hr]
 have hin:=zBa hr
 have nx:=zAw (x:=x) hin.1.1
 have ny:=zAw (x:=y) hin.1.2
 rw [e2]
 exact zJq b w hA hr rfl rfl rfl rfl rfl rfl ⟨⟨nx.1,nx.2.1⟩,by omega⟩ ⟨⟨ny.1,ny.2.1⟩,by omega⟩ rfl
theorem zHh (b n:Nat)(R:Rfs)(z x y:Int)(w:World)(hn:n≤1048576)(hL:∀ W,Bw w W→Calls Tryz.prog 107 #[.pointer (some ⟨b,1,none⟩)] W fun e w'=>∃ v,e=.returned v∧zCo W.heap.size w' v n R∧Bw W w') :
  Calls Tryz.prog 62 #[.pointer (some ⟨b,1,none⟩),vW z x y] w fun e w'=>e=.returned (.bool (zHr R z x y n))∧Bw w w':=by
 have HL:Hid (∀ W,Bw w W→Calls Tryz.prog 107 #[.pointer (some ⟨b,1,none⟩)] W fun e w'=>∃ v,e=.returned v∧zCo W.heap.size w' v n R∧Bw W w'):=hL
 clear hL
 go_enter Tryz.func62,Tryz.ntmps62
 go_wp2_with fail
 generalize hW:(w.alloc _:World)=W
 have HB0:Hid (Bw w W):=by show Below _ _ _;subst hW;exact Qb
 have HV:Hid (xW W w.heap.size z x y):=by show xW _ _ _ _ _;subst hW;exact ⟨by simp [go_sem],by simp [go_sem],by simp [go_sem]⟩
 clear hW
 refine (HL.out _ HB0.out).mono ?_
 rintro e w1 ⟨v,rfl,hO,hb1⟩
 obtain ⟨a0,cap0,hv,hc0,hcase⟩:=hO.own
 subst hv
 have HP:Hid (zMg w1 a0 n R):=by
  rcases hcase with h | ⟨g,ha,h1,h2,h3,_⟩
  ·exact .inl h
  ·exact .inr ⟨g,0,ha,h2,h3⟩
 have HV1:Hid (xW w1 w.heap.size z x y):=HV.out.below hb1
 have HB1:Hid (Bw w w1):=zA HB0.out hb1
 clear hcase hO hb1 HV HB0 HL
 go_wp2_with fail
 go_loopw [6] (fun i wr=>∃ k:Nat,k≤n∧i=.int .i64 (k:Int)∧(∀ j,j<k→((R.z j == z) && ((R.x j == x) && (R.y j == y)))=false)∧Bw w1 wr) (fun i _=>n - (intOf i).toNat)
 case atStart=>exact ⟨0,by omega,rfl,fun j hj=>absurd hj (Nat.not_lt_zero _),Below.refl _ _⟩
 case round =>
  obtain ⟨k,hk,rfl,hno,hB⟩:=hrel
  have HN:Hid (∀ j,j<k→((R.z j == z) && ((R.x j == x) && (R.y j == y)))=false):=hno
  have HB:Hid (Bw w1 wr):=hB
  obtain ⟨p0,p1,p2⟩:=HV1.out.below hB
  by_cases hlt:k<n
  ·rcases HP.out with h0 | ⟨g,off,rfl,hb,hpt⟩
   ·omega
   obtain ⟨q0,q1,q2⟩:=(hpt.below hB hb) k hlt
   have hi:(k:Int)<(n:Int):=by omega
   have hi0:(0:Int)≤(k:Int):=by omega
   have heq:=fun w=>zCe (R.z k) (R.x k) (R.y k) z x y w
   clear hno hB hpt
   cases hE:((R.z k == z) && ((R.x k == x) && (R.y k == y)))
   ·rw [hE] at heq
    have HN2:Hid (∀ j,j<k+1→((R.z j == z) && ((R.x j == x) && (R.y j == y)))=false):=fun j hj=>by
     by_cases e:j=k
     ·rw [e];exact hE
     ·exact HN.out j (by omega)
    clear hE
    generalize R.z k=rz at *
    generalize R.x k=rx at *
    generalize R.y k=ry at *
    go_wp2_with fail
    go_quiet (fail)
    go_wp2_with fail
    exact ⟨⟨k+1,by omega,by simp,HN2.out,below_drewN HB.out _⟩,by simp [intOf];omega⟩
   ·rw [hE] at heq
    have HY:Hid (zHr R z x y n=true):=zEm hlt hE
    clear hE
    generalize R.z k=rz at *
    generalize R.x k=rx at *
    generalize R.y k=ry at *
    go_wp2_with fail
    go_quiet (fail)
    go_wp2
    go_ret
    exact ⟨zF (by rw [HY.out]),below_drewN (zA HB1.out HB.out) _⟩
  ·obtain rfl:n=k:=by omega
   have HY:Hid (zHr R z x y n=false):=zHq HN.out
   go_wp2
   go_ret
   exact ⟨zF (by rw [HY.out]),zA HB1.out HB.out⟩
theorem zJp {z x y wd ht:Int}(b:Nat)(rz rx ry:Int)(w:World)(h:CamO w b z x y wd ht)(hr:zDo z x y wd ht=true):Calls Tryz.prog 62 #[.pointer (some ⟨b,1,none⟩),vW rz rx ry] w fun e w'=>e=.returned (.bool (zBu z x y wd ht rz rx ry))∧Bw w w' :=
 zHh b _ _ rz rx ry w (by have:=zKk z x y wd ht;omega) (fun W hW=>zHi b W (by
  have hB:=World.block_lt_of_cell? _ _ h.1
  exact ⟨(hW.cell (p:=⟨b,1,none⟩) hB).trans h.1,(hW.cell (p:=⟨b,2,none⟩) hB).trans h.2.1,(hW.cell (p:=⟨b,3,none⟩) hB).trans h.2.2.1,(hW.cell (p:=⟨b,4,none⟩) hB).trans h.2.2.2.1,(hW.cell (p:=⟨b,5,none⟩) hB).trans h.2.2.2.2⟩) hr)
theorem zEb (q:Nat)(fv:Value)(z x y wd ht now s:Int)(b n cap:Nat)(A:Nat→Kp)(ra:Option Addr)(rn rc:Nat)(E:Nat→Req)(bad:Int)(w:World)(hV:Blk w q [fv,.int .i64 z,.int .i64 x,.int .i64 y,.int .i64 wd,.int .i64 ht,.int .i64 now,.int .i64 s,.slice (some ⟨b,0,none⟩) n cap,.slice ra rn rc,.int .i64 bad])(ha:zCr w b n A)(hs:zM n A)(hr:vR w ra rn E)(hrn:rn≤1048576) :
  Calls Tryz.prog 27 #[.pointer (some ⟨q,1,none⟩)] w fun e w'=>e=.returned (.int .i64 (viewC z x y wd ht now s n A rn E bad))∧Bw w w':=by
 have HV:Hid (Blk w q [fv,.int .i64 z,.int .i64 x,.int .i64 y,.int .i64 wd,.int .i64 ht,.int .i64 now,.int .i64 s,.slice (some ⟨b,0,none⟩) n cap,.slice ra rn rc,.int .i64 bad]):=hV
 have HA:Hid (zCr w b n A):=ha
 have HS:Hid (zM n A):=hs
 have HR:Hid (vR w ra rn E):=hr
 have hn:n≤1048576:=hs.1
 have hql:q<w.heap.size:=hV.lt
 have HF9:Hid (Calls Tryz.prog 58 #[.pointer (some ⟨q,1,none⟩)] w fun e w'=>e=.returned (.int .i64 (vZ z x y wd ht))∧Bw w w'):=zFg q z x y wd ht w hV.camO
 have HVC:Hid (viewC z x y wd ht now s n A rn E bad=if vZ z x y wd ht=0 then (if inV now bad=true then (if cacheC s n A=0 then (if s<4 then 3 else (if zT rn E=0 then yE (uU z x y wd ht n A E) 0 rn else zT rn E)) else cacheC s n A) else 3) else vZ z x y wd ht):=rfl
 clear hV ha hs hr
 generalize viewC z x y wd ht now s n A rn E bad=VC at *
 rcases zKa z x y wd ht with ⟨hc,hcb⟩ | ⟨hc,hcb⟩
 case inr =>
  have HE:Hid (VC=3):=by show _=_;rw [HVC.out,hc];rfl
  rw [hc] at HF9
  clear HVC
  go_enter Tryz.func27,Tryz.ntmps27
  go_wp2_with fail
  refine Calls.mono HF9.out ?_
  rintro e w1 ⟨rfl,hb1⟩
  go_wp2
  go_ret
  exact ⟨zC HE.out.symm,hb1⟩
 have HCB:Hid (zDo z x y wd ht=true):=hcb
 have HVC1:Hid (VC=if inV now bad=true then (if cacheC s n A=0 then (if s<4 then 3 else (if zT rn E=0 then yE (uU z x y wd ht n A E) 0 rn else zT rn E)) else cacheC s n A) else 3):=by show _=_;rw [HVC.out,if_pos hc]
 rw [hc] at HF9
 clear hc hcb HVC
 have HI1:Hid (∀ W,Calls Tryz.prog 59 #[.int .i64 now,.int .i64 0,.int .i64 9000] W fun e w'=>e=.returned (.bool (inB now 0 9000))∧w'=W):=fun W=>zQ _ _ _ W
 have HI2:Hid (∀ W,Calls Tryz.prog 59 #[.int .i64 bad,.int .i64 0,.int .i64 9999] W fun e w'=>e=.returned (.bool (inB bad 0 9999))∧w'=W):=fun W=>zQ _ _ _ W
 cases h1:inB now 0 9000
 case false =>
  have HE:Hid (VC=3):=by show _=_;rw [HVC1.out];simp [inV,h1]
  rw [h1] at HI1
  clear HVC1 h1
  go_enter Tryz.func27,Tryz.ntmps27
  go_wp2_with fail
  refine Calls.mono HF9.out ?_
  rintro e w1 ⟨rfl,hb1⟩
  have HB1:Hid (Bw w w1):=hb1
  have c5:=(HV.out.below hql hb1).cell 6 rfl
  clear hb1
  go_wp2_with fail
  refine Calls.mono (HI1.out _) ?_
  rintro e w2 ⟨rfl,h2⟩
  subst w2
  go_wp2
  go_ret
  exact ⟨zC HE.out.symm,HB1.out⟩
 cases h2:inB bad 0 9999
 case false =>
  have HE:Hid (VC=3):=by show _=_;rw [HVC1.out];simp [inV,h2]
  rw [h1] at HI1
  rw [h2] at HI2
  clear HVC1 h1 h2
  go_enter Tryz.func27,Tryz.ntmps27
  go_wp2_with fail
  refine Calls.mono HF9.out ?_
  rintro e w1 ⟨rfl,hb1⟩
  have HB1:Hid (Bw w w1):=hb1
  have c5:=(HV.out.below hql hb1).cell 6 rfl
  have c9:=(HV.out.below hql hb1).cell 10 rfl
  clear hb1
  go_wp2_with fail
  refine Calls.mono (HI1.out _) ?_
  rintro e w2 ⟨rfl,h2⟩
  subst w2
  go_wp2_with fail
  refine Calls.mono (HI2.out _) ?_
  rintro e w2 ⟨rfl,h2⟩
  subst w2
  go_wp2
  go_ret
  exact ⟨zC HE.out.symm,HB1.out⟩
 have HVC2:Hid (VC=if cacheC s n A=0 then (if s<4 then 3 else (if zT rn E=0 then yE (uU z x y wd ht n A E) 0 rn else zT rn E)) else cacheC s n A):=by show _=_;rw [HVC1.out];simp [inV,h1,h2]
 rw [h1] at HI1
 rw [h2] at HI2
 clear HVC1 h1 h2
 have HF11:Hid (∀ W,Bw w W→Calls Tryz.prog 60 #[.pointer (some ⟨q,7,none⟩)] W fun e w'=>e=.returned (.int .i64 (cacheC s n A))∧Bw W w'):=fun W h=>zFo q 7 s b n cap A W ⟨(HV.out.below hql h).cell 7 rfl,(HV.out.below hql h).cell 8 rfl⟩ (HA.out.below h) HS.out
 have HF12:Hid (∀ W,Bw w W→Calls Tryz.prog 61 #[.slice ra rn rc] W fun e w'=>e=.returned (.int .i64 (zT rn E))∧Bw W w'):=fun W h=>zFn ra rn rc E W (HR.out.below h) hrn
 go_enter Tryz.func27,Tryz.ntmps27
 go_wp2_with fail
 refine Calls.mono HF9.out ?_
 rintro e w1 ⟨rfl,hb1⟩
 have HB1:Hid (Bw w w1):=hb1
 have c5:=(HV.out.below hql hb1).cell 6 rfl
 have c9:=(HV.out.below hql hb1).cell 10 rfl
 clear hb1
 go_wp2_with fail
 refine Calls.mono (HI1.out _) ?_
 rintro e w2 ⟨rfl,h2⟩
 subst w2
 go_wp2_with fail
 refine Calls.mono (HI2.out _) ?_
 rintro e w2 ⟨rfl,h2⟩
 subst w2
 go_wp2_with fail
 refine Calls.mono (HF11.out _ HB1.out) ?_
 rintro e w2 ⟨rfl,hb2⟩
 have HB2:Hid (Bw w w2):=zA HB1.out hb2
 have c6:=(HV.out.below hql HB2.out).cell 7 rfl
 have c8:=(HV.out.below hql HB2.out).cell 9 rfl
 clear hb2 c5 c9 HF9 HF11 HI1 HI2 HB1
 by_cases h0:cacheC s n A=0
 case neg =>
  have HE:Hid (VC=cacheC s n A):=by show _=_;rw [HVC2.out,if_neg h0]
  have hcb:(cacheC s n A == 0)=false:=by simpa using h0
  clear HVC2
  generalize cacheC s n A=rc' at *
  go_wp2
  go_ret
  exact ⟨zC HE.out.symm,HB2.out⟩
 rw [h0]
 have HVC3:Hid (VC=if s<4 then 3 else (if zT rn E=0 then yE (uU z x y wd ht n A E) 0 rn else zT rn E)):=by show _=_;rw [HVC2.out,if_pos h0]
 clear HVC2 h0
 by_cases h4:s<4
 case pos =>
  have HE:Hid (VC=3):=by show _=_;rw [HVC3.out,if_pos h4]
  clear HVC3
  go_wp2
  go_ret
  exact ⟨zC HE.out.symm,HB2.out⟩
 have HVC4:Hid (VC=if zT rn E=0 then yE (uU z x y wd ht n A E) 0 rn else zT rn E):=by show _=_;rw [HVC3.out,if_neg h4]
 clear HVC3
 go_wp2_with fail
 refine Calls.mono (HF12.out _ HB2.out) ?_
 rintro e w3 ⟨rfl,hb3⟩
 have HB3:Hid (Bw w w3):=zA HB2.out hb3
 clear hb3 c6 c8 HF12 HB2 h4
 by_cases hq:zT rn E=0
 case neg =>
  have HE:Hid (VC=zT rn E):=by show _=_;rw [HVC4.out,if_neg hq]
  have hcb:(zT rn E == 0)=false:=by simpa using hq
  clear HVC4
  generalize zT rn E=rc' at *
  go_wp2
  go_ret
  exact ⟨zC HE.out.symm,HB3.out⟩
 rw [hq]
 have HVC5:Hid (VC=yE (uU z x y wd ht n A E) 0 rn):=by show _=_;rw [HVC4.out,if_pos hq]
 clear HVC4 hq
 go_wp2_with fail
 go_loopw [6] (fun v wr=>∃ k:Nat,k≤rn∧v=.int .i64 k∧(∀ j,j<k→uU z x y wd ht n A E j=0)∧Bw w wr) (fun v _=>rn - (intOf v).toNat)
 case atStart=>exact ⟨0,by omega,rfl,by omega,HB3.out⟩
 case round =>
  obtain ⟨k,hk,rfl,hA,hB⟩:=hrel
  have HB:Hid (Bw w wr):=hB
  have HZ:Hid (∀ j,j<k→uU z x y wd ht n A E j=0):=hA
  have c8:∀ W',Bw wr W'→W'.cell? ⟨q,9,none⟩=some (.slice ra rn rc):=fun W' h=>(HV.out.below hql (zA HB.out h)).cell 9 rfl
  have c8':=c8 wr (Below.refl _ _)
  clear hA hB HB3
  by_cases hlt:k<rn
  ·have HLT:Hid (k<rn):=hlt
   have first:Hid (uU z x y wd ht n A E k=8→VC=8):=fun hc=>by
    rw [HVC5.out,zP _ rn 0 k (fun j _ hj=>HZ.out j hj) (by omega) (by have:=HLT.out;omega) (by rw [hc];decide),hc]
   have HOK:Hid (uU z x y wd ht n A E k=0→∀ j,j<k+1→uU z x y wd ht n A E j=0):=fun h0 j hj=>by
    by_cases e:j=k
    ·rw [e];exact h0
    ·exact HZ.out j (by omega)
   rcases HR.out with hz | ⟨rb,ro,rfl,hrl,hW⟩
   ·omega
   have e0:∀ W',Bw wr W'→W'.cell? ⟨rb,ro+k * 5,none⟩=some (.int .i64 (E k).z):=fun W' h=>((hW.below (zA HB.out h) hrl) k hlt).1
   have e1:∀ W',Bw wr W'→W'.cell? ⟨rb,ro+k * 5+1,none⟩=some (.int .i64 (E k).x):=fun W' h=>((hW.below (zA HB.out h) hrl) k hlt).2.1
   have e2:∀ W',Bw wr W'→W'.cell? ⟨rb,ro+k * 5+2,none⟩=some (.int .i64 (E k).y):=fun W' h=>((hW.below (zA HB.out h) hrl) k hlt).2.2.1
   have HSe:Hid (∀ W',Bw wr W'→Calls Tryz.prog 62 #[.pointer (some ⟨q,1,none⟩),vW (E k).z (E k).x (E k).y] W' fun e w'=>e=.returned (.bool (zBu z x y wd ht (E k).z (E k).x (E k).y))∧Below W'.heap.size W' w'):=fun W' h=>zJp q _ _ _ W' (HV.out.below hql (zA HB.out h)).camO HCB.out
   have HAt:Hid (∀ W',Bw wr W'→Calls Tryz.prog 63 #[.pointer (some ⟨q,7,none⟩),vW (E k).z (E k).x (E k).y] W' fun e w'=>e=.returned (.int .i64 (atK n A (E k).z (E k).x (E k).y))∧Below W'.heap.size W' w'):=fun W' h=>zFp q 7 s _ n cap A _ _ _ W' ⟨(HV.out.below hql (zA HB.out h)).cell 7 rfl,(HV.out.below hql (zA HB.out h)).cell 8 rfl⟩ (HA.out.below (zA HB.out h)).is hn
   have hi:(k:Int)<(rn:Int):=by omega
   have hi0:(0:Int)≤(k:Int):=by omega
   have hSt:uU z x y wd ht n A E k=if zBu z x y wd ht (E k).z (E k).x (E k).y=true then (if 0≤atK n A (E k).z (E k).x (E k).y then 8 else 0) else 8:=rfl
   have HSt:=(show Hid _ from hSt)
   clear hSt hW
   generalize uU z x y wd ht n A E k=ST at *
   generalize (E k).z=rz at *
   generalize (E k).x=rx at *
   generalize (E k).y=ry at *
   generalize atK n A rz rx ry=AT at *
   generalize zBu z x y wd ht rz rx ry=SN at *
   go_wp2_with fail
   refine wp_region_noPanic ?_
   refine wp_region_held_drew (S:=fun W'=>Bw wr W') (by kernel_rfl) (by have:=Below.refl wr.heap.size wr;exact Qb) (fun hHeld=>?_)
   have hX0:Bw wr wr.drew:=hHeld
   refine zE (i:=0) (d:=some 58) rfl rfl ?_
   try simp only [Act.put,Qx,Qy,Qz]
   refine zE (i:=1) (d:=some 59) rfl rfl ?_
   try simp only [Act.put,Qx,Qy,Qz]
   refine zE (i:=2) (d:=some 60) rfl rfl ?_
   try simp only [Act.put,Qx,Qy,Qz]
   refine zE (i:=3) (d:=some 61) rfl rfl ?_
   try simp only [Act.put,Qx,Qy,Qz]
   refine zE (i:=4) (d:=some 62) rfl rfl ?_
   try simp only [Act.put,Qx,Qy,Qz]
   refine zE (i:=5) (d:=some 63) rfl rfl ?_
   try simp only [Act.put,Qx,Qy,Qz]
   refine zE (i:=6) (d:=some 64) rfl rfl ?_
   try simp only [Act.put,Qx,Qy,Qz]
   refine zE (i:=7) (d:=some 65) rfl rfl ?_
   try simp only [Act.put,Qx,Qy,Qz]
   refine zE (i:=8) (d:=some 66) rfl rfl ?_
   try simp only [Act.put,Qx,Qy,Qz]
   refine zE (i:=9) (d:=some 67) rfl rfl ?_
   try simp only [Act.put,Qx,Qy,Qz]
   refine zE (i:=10) (d:=some 68) rfl rfl ?_
   try simp only [Act.put,Qx,Qy,Qz]
   generalize wr.drew=wk0 at *
   refine zR 11 fun K hK=>?_
   rw [if_pos (by rfl)]
   go_simp
   refine Calls.mono (HSe.out _ hX0) ?_
   rintro e wk1 ⟨rfl,hb1⟩
   have hX1:Bw wr wk1:=zA hX0 hb1
   go_wp2_with fail
   refine hK.out _ _ (by assumption) (fun hHeld=>?_)
   clear hK K
   try simp only [Act.put,Qx,Qy,Qz]
   cases SN
   ·have HE:Hid (VC=8):=first.out (by rw [HSt.out];rfl)
    refine zE (i:=12) (d:=some 70) rfl rfl ?_
    try simp only [Act.put,Qx,Qy,Qz]
    refine zE (i:=13) (d:=some 71) rfl rfl ?_
    try simp only [Act.put,Qx,Qy,Qz]
    refine yH (i:=14) (d:=some 72) rfl rfl (by rfl) (by assumption) ?_
    try simp only [Act.put,Qx,Qy,Qz]
    refine yH (i:=15) (d:=some 73) rfl rfl (by rfl) (by assumption) ?_
    try simp only [Act.put,Qx,Qy,Qz]
    refine yH (i:=16) (d:=some 74) rfl rfl (by rfl) (by assumption) ?_
    try simp only [Act.put,Qx,Qy,Qz]
    refine yH (i:=17) (d:=some 75) rfl rfl (by rfl) (by assumption) ?_
    try simp only [Act.put,Qx,Qy,Qz]
    refine yH (i:=18) (d:=some 76) rfl rfl (by rfl) (by assumption) ?_
    try simp only [Act.put,Qx,Qy,Qz]
    refine yH (i:=19) (d:=some 77) rfl rfl (by rfl) (by assumption) ?_
    try simp only [Act.put,Qx,Qy,Qz]
    refine yH (i:=20) (d:=some 78) rfl rfl (by rfl) (by assumption) ?_
    try simp only [Act.put,Qx,Qy,Qz]
    refine yH (i:=21) (d:=some 79) rfl rfl (by rfl) (by assumption) ?_
    try simp only [Act.put,Qx,Qy,Qz]
    refine yH (i:=22) (d:=some 80) rfl rfl (by rfl) (by assumption) ?_
    try simp only [Act.put,Qx,Qy,Qz]
    refine yH (i:=23) (d:=some 81) rfl rfl (by rfl) (by assumption) ?_
    try simp only [Act.put,Qx,Qy,Qz]
    refine yH (i:=24) (d:=some 82) rfl rfl (by rfl) (by assumption) ?_
    try simp only [Act.put,Qx,Qy,Qz]
    refine yH (i:=25) (d:=some 83) rfl rfl (by rfl) (by assumption) ?_
    try simp only [Act.put,Qx,Qy,Qz]
    refine yH (i:=26) (d:=some 84) rfl rfl (by rfl) (by assumption) ?_
    try simp only [Act.put,Qx,Qy,Qz]
    refine zE (i:=27) (d:=some 85) rfl rfl ?_
    try simp only [Act.put,Qx,Qy,Qz]
    refine wpAnyH_done (by kernel_rfl) ?_ _
    refine NoPanic.normal ?_
    have HB9:Hid (Bw w wk1):=zA HB.out hX1
    clear c8 e0 e1 e2 c8' hX0 hb1 hX1
    go_wp2
    go_ret
    exact ⟨zC HE.out.symm,HB9.out⟩
   ·have HSt2:Hid (ST=if 0≤AT then 8 else 0):=by show _=_;rw [HSt.out];rfl
    refine zE (i:=12) (d:=some 70) rfl rfl ?_
    try simp only [Act.put,Qx,Qy,Qz]
    refine zE (i:=13) (d:=some 71) rfl rfl ?_
    try simp only [Act.put,Qx,Qy,Qz]
    refine zE (i:=14) (d:=some 72) rfl rfl ?_
    try simp only [Act.put,Qx,Qy,Qz]
    refine zE (i:=15) (d:=some 73) rfl rfl ?_
    try simp only [Act.put,Qx,Qy,Qz]
    refine zE (i:=16) (d:=some 74) rfl rfl ?_
    try simp only [Act.put,Qx,Qy,Qz]
    refine zE (i:=17) (d:=some 75) rfl rfl ?_
    try simp only [Act.put,Qx,Qy,Qz]
    refine zE (i:=18) (d:=some 76) rfl rfl ?_
    try simp only [Act.put,Qx,Qy,Qz]
    refine zE (i:=19) (d:=some 77) rfl rfl ?_
    try simp only [Act.put,Qx,Qy,Qz]
    refine zE (i:=20) (d:=some 78) rfl rfl ?_
    try simp only [Act.put,Qx,Qy,Qz]
    refine zE (i:=21) (d:=some 79) rfl rfl ?_
    try simp only [Act.put,Qx,Qy,Qz]
    refine zE (i:=22) (d:=some 80) rfl rfl ?_
    try simp only [Act.put,Qx,Qy,Qz]
    refine zE (i:=23) (d:=some 81) rfl rfl ?_
    try simp only [Act.put,Qx,Qy,Qz]
    refine zE (i:=24) (d:=some 82) rfl rfl ?_
    try simp only [Act.put,Qx,Qy,Qz]
    refine zR 25 fun K hK=>?_
    rw [if_pos (by rfl)]
    go_simp
    refine Calls.mono (HAt.out _ hX1) ?_
    rintro e wk2 ⟨rfl,hb2⟩
    have hX2:Bw wr wk2:=zA hX1 hb2
    go_wp2_with fail
    refine hK.out _ _ (by assumption) (fun hHeld=>?_)
    clear hK K
    try simp only [Act.put,Qx,Qy,Qz]
    have HB9:Hid (Bw w wk2):=zA HB.out hX2
    by_cases hat:0≤AT
    ·have HE:Hid (VC=8):=first.out (by rw [HSt2.out,if_pos hat])
     refine zE (i:=26) (d:=some 84) rfl rfl ?_
     try simp only [Act.put,Qx,Qy,Qz]
     refine zE (i:=27) (d:=some 85) rfl rfl ?_
     try simp only [Act.put,Qx,Qy,Qz]
     refine wpAnyH_done (by kernel_rfl) ?_ _
     refine NoPanic.normal ?_
     clear c8 e0 e1 e2 c8' hX0 hb1 hX1 hb2 hX2
     go_wp2
     go_ret
     exact ⟨zC HE.out.symm,HB9.out⟩
    ·have HE:Hid (ST=0):=by show _=_;rw [HSt2.out,if_neg hat]
     refine zE (i:=26) (d:=some 84) rfl rfl ?_
     try simp only [Act.put,Qx,Qy,Qz]
     refine zE (i:=27) (d:=some 85) rfl rfl ?_
     try simp only [Act.put,Qx,Qy,Qz]
     refine wpAnyH_done (by kernel_rfl) ?_ _
     refine NoPanic.normal ?_
     clear c8 e0 e1 e2 c8' hX0 hb1 hX1 hb2 hX2
     go_wp2_with fail
     go_roundw
     case rel=>exact ⟨k+1,by have:=HLT.out;omega,by go_num,HOK.out HE.out,HB9.out⟩
     case measure=>have:=HLT.out;simp [intOf];omega
  ·have HE:Hid (VC=0):=by
    show _=_
    rw [HVC5.out]
    exact yG _ _ _ (fun j _ hj=>HZ.out j (by omega))
   obtain rfl:rn=k:=by omega
   go_wp2
   go_ret
   exact ⟨zC HE.out.symm,HB.out⟩
end Go.Proofs.YtkjbafcalamgnaaGreat
