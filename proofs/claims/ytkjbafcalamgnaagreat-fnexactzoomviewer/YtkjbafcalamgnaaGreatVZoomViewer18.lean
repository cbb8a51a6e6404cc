/- Texts. -/
import Derived.Test.YtkjbafcalamgnaaGreatVZoomViewer14
set_option linter.unusedSimpArgs false
set_option linter.unusedVariables false
set_option maxRecDepth 100000
set_option maxHeartbeats 32000000
namespace Go.Proofs.YtkjbafcalamgnaaGreat
open Go.RowKit
theorem zC8 (z x y wd ht t:Int)(w:World):Calls Tryz.prog 46 #[zCo z x y wd ht,.int .i64 t] w fun e w'=>e=.returned (zFw z x y wd ht t)∧Bw w w':=by
 have hp:Hid (zFw z x y wd ht t=if zAi z x y wd ht=true then (if xD t=true then crV 0 t (yS (yD (x+wd / 2) z t - wd / 2) (xQ t - wd)) (yS (yD (y+ht / 2) z t - ht / 2) (xQ t - ht)) wd ht else crV 3 0 0 0 0 0) else crV 3 0 0 0 0 0):=rfl
 go_enter Tryz.func46,Tryz.ntmps46
 go_wp2_with fail
 generalize hW:((w.alloc _).alloc _:World)=W
 have HB0:Hid (Bw w W):=by show Below _ _ _;subst hW;exact Qb
 have HA:Hid (vJ W w.heap.size z x y wd ht):=by show vJ _ _ _ _ _ _ _;subst hW;exact ⟨by simp [go_sem],by simp [go_sem],by simp [go_sem],by simp [go_sem],by simp [go_sem]⟩
 have HT:Hid (zC W (w.heap.size+1) 6):=by
  show zC _ _ _
  subst hW
  have:=zKf (w.alloc (.cells #[.int .i64 z,.int .i64 x,.int .i64 y,.int .i64 wd,.int .i64 ht] 32)) (.int .i64 0) (.int .i64 0) (.int .i64 0) (.int .i64 0) (.int .i64 0) (.int .i64 0) 68
  simpa using this
 have HC:Hid (zC W w.heap.size 5):=by
  show zC _ _ _
  subst hW
  exact (zEz w (.int .i64 z) (.int .i64 x) (.int .i64 y) (.int .i64 wd) (.int .i64 ht) 32).below (by exact Qb)
 clear hW
 refine (zDe w.heap.size z x y wd ht _ HA.out).mono ?_
 rintro e w1 ⟨rfl,hb1⟩
 have HT1:Hid (zC w1 (w.heap.size+1) 6):=HT.out.below hb1
 have HC1:Hid (zC w1 w.heap.size 5):=HC.out.below hb1
 have HB1:Hid (Bw w w1):=zA HB0.out hb1
 have HA1:Hid (vJ w1 w.heap.size z x y wd ht):=HA.out.belowA hb1
 clear hb1 HT HB0 HC HA
 have hC1:=HC1.out
 have hT1:=HT1.out
 obtain ⟨e0,e1,e2,e3,e4⟩:=HA1.out
 have hl1:w.heap.size<w1.heap.size:=World.block_lt_of_cell? _ _ e0
 have g0:=(hC1 0 (by omega)).2
 have g1:=(hC1 1 (by omega)).2
 have g2:=(hC1 2 (by omega)).2
 have g3:=(hC1 3 (by omega)).2
 have g4:=(hC1 4 (by omega)).2
 have t0:=hT1.cell 0 (by omega)
 have t1:=hT1.cell 1 (by omega)
 have t2:=hT1.cell 2 (by omega)
 have t3:=hT1.cell 3 (by omega)
 have t4:=hT1.cell 4 (by omega)
 have t5:=hT1.cell 5 (by omega)
 have f0:=(hT1 0 (by omega)).2
 have f1:=(hT1 1 (by omega)).2
 have f2:=(hT1 2 (by omega)).2
 have f3:=(hT1 3 (by omega)).2
 have f4:=(hT1 4 (by omega)).2
 have f5:=(hT1 5 (by omega)).2
 clear hC1 hT1
 rcases zBf z x y wd ht with ⟨hc,hr⟩ | ⟨hc,hr⟩
 ·simp only [hc]
  cases hd:xD t
  ·have hq:Hid (zFw z x y wd ht t=crV 3 0 0 0 0 0):=by show _=_;rw [hp.out,hd];simp [hr]
   clear hr hc hp
   go_wp2_with (go_at_call 87;refine (xY _ _).mono ?_;rintro e w1 ⟨rfl,rfl⟩)
   obtain ⟨q0,q1,q2,q3,q4,q5⟩:=vK (a:=.int .i64 3) (b:=.int .i64 0) (c:=.int .i64 0) (d:=.int .i64 0) (e:=.int .i64 0) (f:=.int .i64 0) HT1.out
   exact bodyPost_ret (v:=crV 3 0 0 0 0 0) (by simp [results,Tryz.results46,go_sem,q0,q1,q2,q3,q4,q5]) rfl ⟨by rw [hq.out],zBx HB1.out (Nat.le_succ _)⟩
  ·have hq:Hid (zFw z x y wd ht t=crV 0 t (yS (yD (x+wd / 2) z t - wd / 2) (xQ t - wd)) (yS (yD (y+ht / 2) z t - ht / 2) (xQ t - ht)) wd ht):=by show _=_;rw [hp.out,hd];simp [hr]
   have hz:=vZ hr
   have hi:=uD hr
   have hn:=xU hz
   have hzb:0≤z∧z≤3:=by rcases zT hz with rfl | rfl | rfl | rfl <;> omega
   have htb:0≤t∧t≤3:=by rcases zT hd with rfl | rfl | rfl | rfl <;> omega
   have bx:=zAm (a:=x+wd / 2) hzb htb (by omega)
   have by':=zAm (a:=y+ht / 2) hzb htb (by omega)
   have sZx:=fun w=>zHe (x+wd / 2) z t w hzb htb (by omega)
   have sZy:=fun w=>zHe (y+ht / 2) z t w hzb htb (by omega)
   have sA:=fun w=>zJn t (yD (x+wd / 2) z t - wd / 2) (yD (y+ht / 2) z t - ht / 2) wd ht w hd hi.1.1 hi.1.2
   have dw:wd.tdiv 2=wd / 2:=Int.tdiv_eq_ediv_of_nonneg (by omega)
   have dh:ht.tdiv 2=ht / 2:=Int.tdiv_eq_ediv_of_nonneg (by omega)
   have k1:IntKind.i64.wrap (x+wd / 2)=x+wd / 2:=IntWalk.i64_in _ (by omega)
   have k2:IntKind.i64.wrap (y+ht / 2)=y+ht / 2:=IntWalk.i64_in _ (by omega)
   have k3:IntKind.i64.wrap (wd / 2)=wd / 2:=IntWalk.i64_in _ (by omega)
   have k4:IntKind.i64.wrap (ht / 2)=ht / 2:=IntWalk.i64_in _ (by omega)
   have k5:IntKind.i64.wrap (yD (x+wd / 2) z t - wd / 2)=yD (x+wd / 2) z t - wd / 2:=IntWalk.i64_in _ (by omega)
   have k6:IntKind.i64.wrap (yD (y+ht / 2) z t - ht / 2)=yD (y+ht / 2) z t - ht / 2:=IntWalk.i64_in _ (by omega)
   generalize yS (yD (x+wd / 2) z t - wd / 2) (xQ t - wd)=hx at *
   generalize yS (yD (y+ht / 2) z t - ht / 2) (xQ t - ht)=hy at *
   generalize yD (x+wd / 2) z t=zx at *
   generalize yD (y+ht / 2) z t=zy at *
   clear hr hc hp hi hn hz hzb htb bx by' t0 t1 t2 t3 t4 t5 f0 f1 f2 f3 f4 f5
   generalize wd / 2=hwd at *
   generalize ht / 2=hht at *
   go_wp2_with (first
    | (go_at_call 87;refine (xY _ _).mono ?_;rintro e w1 ⟨rfl,rfl⟩)
    | fail)
   go_cut [] (fun wc=>wc=(w1.setCell ⟨w.heap.size,1,none⟩ (.int .i64 (zx - hwd))).drew)
   case first =>
    refine wp_region_noPanic ?_
    refine yJ (S:=fun W'=>vJ W' w.heap.size z x y wd ht) (z:=15) (by kernel_rfl) ?_
    have hSd:vJ w1.drew w.heap.size z x y wd ht:=⟨e0,e1,e2,e3,e4⟩
    refine zG (i:=0) (v:=?p0) rfl (by kernel_rfl) (by kernel_rfl) (by kernel_rfl) (by kernel_rfl) (fun _ _ _ h=>h) (Or.inl ⟨by rfl,?hp0⟩) hSd ?_
    case hp0=>(intro w hSw;obtain ⟨s0,s1,s2,s3,s4⟩:=hSw;go_simp <;> with_reducible rfl)
    try simp only [Act.put,Qx,Qy,Qz]
    refine zG (i:=1) (v:=?p1) rfl (by kernel_rfl) (by kernel_rfl) (by kernel_rfl) (by kernel_rfl) (fun _ _ _ h=>h) (Or.inl ⟨by rfl,?hp1⟩) hSd ?_
    case hp1=>(intro w hSw;obtain ⟨s0,s1,s2,s3,s4⟩:=hSw;go_simp <;> with_reducible rfl)
    try simp only [Act.put,Qx,Qy,Qz]
    refine zG (i:=2) (v:=?p2) rfl (by kernel_rfl) (by kernel_rfl) (by kernel_rfl) (by kernel_rfl) (fun _ _ _ h=>h) (Or.inl ⟨by rfl,?hp2⟩) hSd ?_
    case hp2=>(intro w hSw;obtain ⟨s0,s1,s2,s3,s4⟩:=hSw;go_simp <;> with_reducible rfl)
    try simp only [Act.put,Qx,Qy,Qz]
    refine zG (i:=3) (v:=?p3) rfl (by kernel_rfl) (by kernel_rfl) (by kernel_rfl) (by kernel_rfl) (fun _ _ _ h=>h) (Or.inl ⟨by rfl,?hp3⟩) hSd ?_
    case hp3=>(intro w hSw;obtain ⟨s0,s1,s2,s3,s4⟩:=hSw;go_simp <;> with_reducible rfl)
    try simp only [Act.put,Qx,Qy,Qz]
    refine zG (i:=4) (v:=?p4) rfl (by kernel_rfl) (by kernel_rfl) (by kernel_rfl) (by kernel_rfl) (fun _ _ _ h=>h) (Or.inl ⟨by rfl,?hp4⟩) hSd ?_
    case hp4=>(intro w hSw;obtain ⟨s0,s1,s2,s3,s4⟩:=hSw;go_simp <;> with_reducible rfl)
    try simp only [Act.put,Qx,Qy,Qz]
    refine zG (i:=5) (v:=?p5) rfl (by kernel_rfl) (by kernel_rfl) (by kernel_rfl) (by kernel_rfl) (fun _ _ _ h=>h) (Or.inl ⟨by rfl,?hp5⟩) hSd ?_
    case hp5=>(intro w hSw;obtain ⟨s0,s1,s2,s3,s4⟩:=hSw;go_simp <;> with_reducible rfl)
    try simp only [Act.put,Qx,Qy,Qz]
    refine zG (i:=6) (v:=?p6) rfl (by kernel_rfl) (by kernel_rfl) (by kernel_rfl) (by kernel_rfl) (fun _ _ _ h=>h) (Or.inl ⟨by rfl,?hp6⟩) hSd ?_
    case hp6=>(intro w hSw;obtain ⟨s0,s1,s2,s3,s4⟩:=hSw;go_simp <;> with_reducible rfl)
    try simp only [Act.put,Qx,Qy,Qz]
    refine zG (i:=7) (v:=?p7) rfl (by kernel_rfl) (by kernel_rfl) (by kernel_rfl) (by kernel_rfl) (fun _ _ _ h=>h) (Or.inl ⟨by rfl,?hp7⟩) hSd ?_
    case hp7=>(intro w hSw;obtain ⟨s0,s1,s2,s3,s4⟩:=hSw;go_simp <;> with_reducible rfl)
    try simp only [Act.put,Qx,Qy,Qz]
    refine zG (i:=8) (v:=?p8) rfl (by kernel_rfl) (by kernel_rfl) (by kernel_rfl) (by kernel_rfl) (fun _ _ _ h=>h) (Or.inl ⟨by rfl,?hp8⟩) hSd ?_
    case hp8=>(intro w hSw;obtain ⟨s0,s1,s2,s3,s4⟩:=hSw;go_simp <;> with_reducible rfl)
    try simp only [Act.put,Qx,Qy,Qz]
    refine zG (i:=10) (v:=?p10) rfl (by kernel_rfl) (by kernel_rfl) (by kernel_rfl) (by kernel_rfl) (fun _ _ _ h=>h) (Or.inl ⟨by rfl,?hp10⟩) hSd ?_
    case hp10=>(intro w hSw;obtain ⟨s0,s1,s2,s3,s4⟩:=hSw;go_simp <;> with_reducible rfl)
    try simp only [Act.put,Qx,Qy,Qz]
    refine zG (i:=11) (v:=?p11) rfl (by kernel_rfl) (by kernel_rfl) (by kernel_rfl) (by kernel_rfl) (fun _ _ _ h=>h) (Or.inl ⟨by rfl,?hp11⟩) hSd ?_
    case hp11=>(intro w hSw;obtain ⟨s0,s1,s2,s3,s4⟩:=hSw;go_simp <;> with_reducible rfl)
    try simp only [Act.put,Qx,Qy,Qz]
    refine zG (i:=12) (v:=?p12) rfl (by kernel_rfl) (by kernel_rfl) (by kernel_rfl) (by kernel_rfl) (fun _ _ _ h=>h) (Or.inl ⟨by rfl,?hp12⟩) hSd ?_
    case hp12=>(intro w hSw;obtain ⟨s0,s1,s2,s3,s4⟩:=hSw;go_simp <;> with_reducible rfl)
    try simp only [Act.put,Qx,Qy,Qz]
    refine zH (i:=9) (by kernel_rfl) rfl (fun K hK=>?_)
    go_simp
    refine Calls.mono (sZx _) ?_
    rintro e wB ⟨rfl,rfl⟩
    go_wp2_with fail
    refine hK.out _ _ (fun _=>hSd) ?_
    clear hK K
    try simp only [Act.put,Qx,Qy,Qz]
    refine zG (i:=13) (v:=?p13) rfl (by kernel_rfl) (by kernel_rfl) (by kernel_rfl) (by kernel_rfl) (fun _ _ _ h=>h) (Or.inl ⟨by rfl,?hp13⟩) hSd ?_
    case hp13=>(intro w hSw;obtain ⟨s0,s1,s2,s3,s4⟩:=hSw;go_simp <;> with_reducible rfl)
    try simp only [Act.put,Qx,Qy,Qz]
    refine zH (i:=14) (by kernel_rfl) rfl (fun K hK=>?_)
    go_simp
    refine hK.out _ _ (fun _=>hSd) ?_
    clear hK K
    try simp only [Act.put,Qx,Qy,Qz]
    refine zH (i:=15) (by kernel_rfl) rfl (fun K hK=>?_)
    go_simp
    refine hK.out _ _ (fun h=>absurd rfl h) ?_
    clear hK K
    try simp only [Act.put,Qx,Qy,Qz]
    refine zW (by kernel_rfl) ?_ _
    refine NoPanic.normal ?_
    go_wp2_with fail
    go_meet
    exact rfl
   case rest =>
    generalize wc=wA at *
    have a0:wA.cell? ⟨w.heap.size,0,none⟩=some (.int .i64 z):=by rw [hcut];simpa [go_sem] using e0
    have a1:wA.cell? ⟨w.heap.size,1,none⟩=some (.int .i64 (zx - hwd)):=by rw [hcut];simpa [go_sem] using zE e1
    have a2:wA.cell? ⟨w.heap.size,2,none⟩=some (.int .i64 y):=by rw [hcut];simpa [go_sem] using e2
    have a3:wA.cell? ⟨w.heap.size,3,none⟩=some (.int .i64 wd):=by rw [hcut];simpa [go_sem] using e3
    have a4:wA.cell? ⟨w.heap.size,4,none⟩=some (.int .i64 ht):=by rw [hcut];simpa [go_sem] using e4
    have hCA:zC wA w.heap.size 5:=by rw [hcut];exact HC1.out.putC
    have HCA:Hid (zC wA w.heap.size 5):=hCA
    have HTA:Hid (zC wA (w.heap.size+1) 6):=by rw [hcut];exact HT1.out.putC
    have HBA:Hid (Bw w wA):=by rw [hcut];exact (HB1.out.setCell (Nat.le_refl _) _).drew
    clear hcut e0 e1 e2 e3 e4 g0 g1 g2 g3 g4 HT1 HB1 HC1 HA1 hl1
    have g2:=(hCA 2 (by omega)).2
    clear hCA
    go_wp2_with fail
    go_cut [] (fun wx=>wx=(wA.setCell ⟨w.heap.size,2,none⟩ (.int .i64 (zy - hht))).drew)
    case first =>
     refine wp_region_noPanic ?_
     refine yJ (S:=fun W'=>vJ W' w.heap.size z (zx - hwd) y wd ht) (z:=15) (by kernel_rfl) ?_
     have hSd:vJ wA.drew w.heap.size z (zx - hwd) y wd ht:=⟨a0,a1,a2,a3,a4⟩
     refine zG (i:=0) (v:=?u0) rfl (by kernel_rfl) (by kernel_rfl) (by kernel_rfl) (by kernel_rfl) (fun _ _ _ h=>h) (Or.inl ⟨by rfl,?hu0⟩) hSd ?_
     case hu0=>(intro w hSw;obtain ⟨s0,s1,s2,s3,s4⟩:=hSw;go_simp <;> with_reducible rfl)
     try simp only [Act.put,Qx,Qy,Qz]
     refine zG (i:=1) (v:=?u1) rfl (by kernel_rfl) (by kernel_rfl) (by kernel_rfl) (by kernel_rfl) (fun _ _ _ h=>h) (Or.inl ⟨by rfl,?hu1⟩) hSd ?_
     case hu1=>(intro w hSw;obtain ⟨s0,s1,s2,s3,s4⟩:=hSw;go_simp <;> with_reducible rfl)
     try simp only [Act.put,Qx,Qy,Qz]
     refine zG (i:=2) (v:=?u2) rfl (by kernel_rfl) (by kernel_rfl) (by kernel_rfl) (by kernel_rfl) (fun _ _ _ h=>h) (Or.inl ⟨by rfl,?hu2⟩) hSd ?_
     case hu2=>(intro w hSw;obtain ⟨s0,s1,s2,s3,s4⟩:=hSw;go_simp <;> with_reducible rfl)
     try simp only [Act.put,Qx,Qy,Qz]
     refine zG (i:=3) (v:=?u3) rfl (by kernel_rfl) (by kernel_rfl) (by kernel_rfl) (by kernel_rfl) (fun _ _ _ h=>h) (Or.inl ⟨by rfl,?hu3⟩) hSd ?_
     case hu3=>(intro w hSw;obtain ⟨s0,s1,s2,s3,s4⟩:=hSw;go_simp <;> with_reducible rfl)
     try simp only [Act.put,Qx,Qy,Qz]
     refine zG (i:=4) (v:=?u4) rfl (by kernel_rfl) (by kernel_rfl) (by kernel_rfl) (by kernel_rfl) (fun _ _ _ h=>h) (Or.inl ⟨by rfl,?hu4⟩) hSd ?_
     case hu4=>(intro w hSw;obtain ⟨s0,s1,s2,s3,s4⟩:=hSw;go_simp <;> with_reducible rfl)
     try simp only [Act.put,Qx,Qy,Qz]
     refine zG (i:=5) (v:=?u5) rfl (by kernel_rfl) (by kernel_rfl) (by kernel_rfl) (by kernel_rfl) (fun _ _ _ h=>h) (Or.inl ⟨by rfl,?hu5⟩) hSd ?_
     case hu5=>(intro w hSw;obtain ⟨s0,s1,s2,s3,s4⟩:=hSw;go_simp <;> with_reducible rfl)
     try simp only [Act.put,Qx,Qy,Qz]
     refine zG (i:=6) (v:=?u6) rfl (by kernel_rfl) (by kernel_rfl) (by kernel_rfl) (by kernel_rfl) (fun _ _ _ h=>h) (Or.inl ⟨by rfl,?hu6⟩) hSd ?_
     case hu6=>(intro w hSw;obtain ⟨s0,s1,s2,s3,s4⟩:=hSw;go_simp <;> with_reducible rfl)
     try simp only [Act.put,Qx,Qy,Qz]
     refine zG (i:=7) (v:=?u7) rfl (by kernel_rfl) (by kernel_rfl) (by kernel_rfl) (by kernel_rfl) (fun _ _ _ h=>h) (Or.inl ⟨by rfl,?hu7⟩) hSd ?_
     case hu7=>(intro w hSw;obtain ⟨s0,s1,s2,s3,s4⟩:=hSw;go_simp <;> with_reducible rfl)
     try simp only [Act.put,Qx,Qy,Qz]
     refine zG (i:=8) (v:=?u8) rfl (by kernel_rfl) (by kernel_rfl) (by kernel_rfl) (by kernel_rfl) (fun _ _ _ h=>h) (Or.inl ⟨by rfl,?hu8⟩) hSd ?_
     case hu8=>(intro w hSw;obtain ⟨s0,s1,s2,s3,s4⟩:=hSw;go_simp <;> with_reducible rfl)
     try simp only [Act.put,Qx,Qy,Qz]
     refine zG (i:=10) (v:=?u10) rfl (by kernel_rfl) (by kernel_rfl) (by kernel_rfl) (by kernel_rfl) (fun _ _ _ h=>h) (Or.inl ⟨by rfl,?hu10⟩) hSd ?_
     case hu10=>(intro w hSw;obtain ⟨s0,s1,s2,s3,s4⟩:=hSw;go_simp <;> with_reducible rfl)
     try simp only [Act.put,Qx,Qy,Qz]
     refine zG (i:=11) (v:=?u11) rfl (by kernel_rfl) (by kernel_rfl) (by kernel_rfl) (by kernel_rfl) (fun _ _ _ h=>h) (Or.inl ⟨by rfl,?hu11⟩) hSd ?_
     case hu11=>(intro w hSw;obtain ⟨s0,s1,s2,s3,s4⟩:=hSw;go_simp <;> with_reducible rfl)
     try simp only [Act.put,Qx,Qy,Qz]
     refine zG (i:=12) (v:=?u12) rfl (by kernel_rfl) (by kernel_rfl) (by kernel_rfl) (by kernel_rfl) (fun _ _ _ h=>h) (Or.inl ⟨by rfl,?hu12⟩) hSd ?_
     case hu12=>(intro w hSw;obtain ⟨s0,s1,s2,s3,s4⟩:=hSw;go_simp <;> with_reducible rfl)
     try simp only [Act.put,Qx,Qy,Qz]
     refine zH (i:=9) (by kernel_rfl) rfl (fun K hK=>?_)
     go_simp
     refine Calls.mono (sZy _) ?_
     rintro e wB ⟨rfl,rfl⟩
     go_wp2_with fail
     refine hK.out _ _ (fun _=>hSd) ?_
     clear hK K
     try simp only [Act.put,Qx,Qy,Qz]
     refine zG (i:=13) (v:=?u13) rfl (by kernel_rfl) (by kernel_rfl) (by kernel_rfl) (by kernel_rfl) (fun _ _ _ h=>h) (Or.inl ⟨by rfl,?hu13⟩) hSd ?_
     case hu13=>(intro w hSw;obtain ⟨s0,s1,s2,s3,s4⟩:=hSw;go_simp <;> with_reducible rfl)
     try simp only [Act.put,Qx,Qy,Qz]
     refine zH (i:=14) (by kernel_rfl) rfl (fun K hK=>?_)
     go_simp
     refine hK.out _ _ (fun _=>hSd) ?_
     clear hK K
     try simp only [Act.put,Qx,Qy,Qz]
     refine zH (i:=15) (by kernel_rfl) rfl (fun K hK=>?_)
     go_simp
     refine hK.out _ _ (fun h=>absurd rfl h) ?_
     clear hK K
     try simp only [Act.put,Qx,Qy,Qz]
     refine zW (by kernel_rfl) ?_ _
     refine NoPanic.normal ?_
     go_wp2_with fail
     go_meet
     exact rfl
    case rest =>
     generalize wc=wB at *
     have d0:wB.cell? ⟨w.heap.size,0,none⟩=some (.int .i64 z):=by rw [hcut];simpa [go_sem] using a0
     have d1:wB.cell? ⟨w.heap.size,1,none⟩=some (.int .i64 (zx - hwd)):=by rw [hcut];simpa [go_sem] using a1
     have d2:wB.cell? ⟨w.heap.size,2,none⟩=some (.int .i64 (zy - hht)):=by rw [hcut];simpa [go_sem] using zE a2
     have d3:wB.cell? ⟨w.heap.size,3,none⟩=some (.int .i64 wd):=by rw [hcut];simpa [go_sem] using a3
     have d4:wB.cell? ⟨w.heap.size,4,none⟩=some (.int .i64 ht):=by rw [hcut];simpa [go_sem] using a4
     have g0:wB.frozen? ⟨w.heap.size,0,none⟩=false:=by rw [hcut];simpa [go_sem] using (HCA.out 0 (by omega)).2
     have HT4:Hid (zC (wB.setCell ⟨w.heap.size,0,none⟩ (.int .i64 t)) (w.heap.size+1) 6):=by rw [hcut];exact HTA.out.putC.putC
     have HB4:Hid (Bw w (wB.setCell ⟨w.heap.size,0,none⟩ (.int .i64 t))):=by rw [hcut];exact ((HBA.out.setCell (Nat.le_refl _) _).drew).setCell (Nat.le_refl _) _
     clear hcut a0 a1 a2 a3 a4 g2 HTA HBA HCA
     go_wp2_with fail
     refine (sA _).mono ?_
     rintro e w5 ⟨rfl,hb5⟩
     have hT5:=HT4.out.below hb5
     have HT5:Hid (zC w5 (w.heap.size+1) 6):=hT5
     have HB5:Hid (Bw w w5):=zA HB4.out hb5
     have t0:=hT5.cell 0 (by omega)
     have t1:=hT5.cell 1 (by omega)
     have t2:=hT5.cell 2 (by omega)
     have t3:=hT5.cell 3 (by omega)
     have t4:=hT5.cell 4 (by omega)
     have t5:=hT5.cell 5 (by omega)
     have f0:=(hT5 0 (by omega)).2
     have f1:=(hT5 1 (by omega)).2
     have f2:=(hT5 2 (by omega)).2
     have f3:=(hT5 3 (by omega)).2
     have f4:=(hT5 4 (by omega)).2
     have f5:=(hT5 5 (by omega)).2
     clear hT5 hb5
     go_wp2_with fail
     obtain ⟨q0,q1,q2,q3,q4,q5⟩:=vK (a:=.int .i64 0) (b:=.int .i64 t) (c:=.int .i64 hx) (d:=.int .i64 hy) (e:=.int .i64 wd) (f:=.int .i64 ht) HT5.out
     exact bodyPost_ret (v:=crV 0 t hx hy wd ht) (by simp [results,Tryz.results46,go_sem,q0,q1,q2,q3,q4,q5]) rfl ⟨by rw [hq.out],zBx HB5.out (Nat.le_succ _)⟩
 ·simp only [hc]
  have hq:Hid (zFw z x y wd ht t=crV 3 0 0 0 0 0):=by show _=_;rw [hp.out];simp [hr]
  clear hr hc hp
  go_wp2_with fail
  obtain ⟨q0,q1,q2,q3,q4,q5⟩:=vK (a:=.int .i64 3) (b:=.int .i64 0) (c:=.int .i64 0) (d:=.int .i64 0) (e:=.int .i64 0) (f:=.int .i64 0) HT1.out
  exact bodyPost_ret (v:=crV 3 0 0 0 0 0) (by simp [results,Tryz.results46,go_sem,q0,q1,q2,q3,q4,q5]) rfl ⟨by rw [hq.out],zBx HB1.out (Nat.le_succ _)⟩
end Go.Proofs.YtkjbafcalamgnaaGreat
