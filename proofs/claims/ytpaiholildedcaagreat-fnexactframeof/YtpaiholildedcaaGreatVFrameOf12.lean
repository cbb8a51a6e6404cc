/- Texts. -/
import Derived.Test.YtpaiholildedcaaGreatVFrameOf7
set_option linter.unusedSimpArgs false
set_option linter.unusedVariables false
set_option maxRecDepth 100000
set_option maxHeartbeats 32000000
namespace Go.Proofs.YtpaiholildedcaaGreat
open Go.RowKit
theorem zK8 (f:Nat)(caps:Array Value)(z x y:Int)(G:Int→Int→Int)(w:World)(h:xV z x y=true)(hce:∀ args w,(callFunc f args).run Tryz.prog w=.ok (.enter f args) w)(hF:∀ W c r,Bw w W→c<8→r<8→Calls Tryz.prog f (#[.int .i64 (x * 8+(c:Nat)),.int .i64 (y * 8+(r:Nat))] ++ caps) W fun e W'=>e=.returned (.int .i64 (G (x * 8+(c:Nat)) (y * 8+(r:Nat))))∧Bw W W') :
  Calls Tryz.prog 209 #[xD z x y,.func (.func f) #[] caps] w fun e w'=>∃ v,e=.returned v∧xJ w.heap.size w' v (xL G (x * 8) (y * 8) 8 8)∧Bw w w':=by
 obtain ⟨⟨z0,z1⟩,⟨x0,x1⟩,y0,y1⟩:=zB1 h
 have HF:=(show Hid _ from hF)
 have HE:=(show Hid _ from hce)
 clear hF hce h
 go_enter Tryz.func209,Tryz.ntmps209
 go_wp2_with fail
 generalize hW:(w.alloc _:World)=W
 have hB0:Bw w W:=by subst hW;exact Qb
 clear hW
 refine (zB0 f caps (x * 8) (y * 8) 8 8 G W (Nat.le_refl _) (Nat.le_refl _) (by omega) (by omega) HE.out (fun W' c r hb hc hr=>HF.out W' c r (zA hB0 hb) hc hr)).mono ?_
 rintro e w' ⟨v,rfl,hO,hb⟩
 have HB:Hid (Bw w w'):=zA hB0 hb
 have HO:Hid (xJ w.heap.size w' v (xL G (x * 8) (y * 8) 8 8)):=hO.wide hB0.size
 clear hO hb hB0
 go_wp2_with fail
 go_ret
 exact ⟨_,rfl,HO.out,HB.out⟩
def upI (k:Nat)(fx fy:Int)(Z:Nat→Int)(x y:Int):Int:=Z ((zBw y k - fy * 8) * 8+(zBw x k - fx * 8)).toNat
theorem zCm (x:Int){k:Nat}(hk:k≤3):zBw x k=x / 2 ^ k:=by
 have:k=0∨k=1∨k=2∨k=3:=by omega
 rcases this with rfl | rfl | rfl | rfl <;> simp [zBw] <;> omega
theorem zPo (b off cap k:Nat)(fz fx fy z x y:Int)(Z:Nat→Int)(w:World)(hk:k≤3)(hzk:z - fz=(k:Int))(hfz:0≤fz∧fz≤3)(hz:zBx w b off 64 Z)(hb:b<w.heap.size)(hfx:0≤fx∧fx≤7)(hfy:0≤fy∧fy≤7)(hx:0≤x∧x≤1000)(hy:0≤y∧y≤1000)(hi:0≤zBw x k - fx * 8∧zBw x k - fx * 8≤7)(hj:0≤zBw y k - fy * 8∧zBw y k - fy * 8≤7) :
  Calls Tryz.prog 148 #[xD fz fx fy,.slice (some ⟨b,off,none⟩) 64 cap,.int .i64 z,.int .i64 x,.int .i64 y] w fun e w'=>e=.returned (.int .i64 (upI k fx fy Z x y))∧Bw w w':=by
 obtain ⟨xi,hxi⟩:∃ i:Int,zBw x k - fx * 8=i:=⟨_,rfl⟩
 obtain ⟨yi,hyi⟩:∃ i:Int,zBw y k - fy * 8=i:=⟨_,rfl⟩
 have HU:Hid (upI k fx fy Z x y=Z (yi * 8+xi).toNat):=by show _=_;unfold upI;rw [hxi,hyi]
 rw [hxi] at hi
 rw [hyi] at hj
 have e1:x / 2 ^ k - fx * 8=xi:=by rw [← zCm _ hk];exact hxi
 have e2:y / 2 ^ k - fy * 8=yi:=by rw [← zCm _ hk];exact hyi
 obtain ⟨xk,hxk⟩:∃ i:Int,x / 2 ^ k=i:=⟨_,rfl⟩
 obtain ⟨yk,hyk⟩:∃ i:Int,y / 2 ^ k=i:=⟨_,rfl⟩
 rw [hxk] at e1
 rw [hyk] at e2
 have kk:∀ W',Bw w W'→W'.cell? ⟨b,off+(yi * 8+xi).toNat,none⟩=some (.int .i64 (Z (yi * 8+xi).toNat)):=fun W' h=>zJ h (hz _ (by omega))
 have hk0:(0:Int)≤(k:Int):=by omega
 have hk1:(k:Int)≤64:=by omega
 have s0:IntKind.i64.wrap xi=xi:=IntWalk.i64_in _ (by omega)
 have s1:IntKind.i64.wrap yi=yi:=IntWalk.i64_in _ (by omega)
 have m0:IntKind.i64.wrap (fx * 8)=fx * 8:=IntWalk.i64_in _ (by omega)
 have m1:IntKind.i64.wrap (fy * 8)=fy * 8:=IntWalk.i64_in _ (by omega)
 have HZ:Hid (z - fz=(k:Int)):=hzk
 have hz3:z≤6:=by omega
 have hz0:0≤z:=by omega
 clear hxi hyi hz hzk
 go_enter Tryz.func148,Tryz.ntmps148
 go_wp2_with fail
 generalize hW:(w.alloc _:World)=W
 have hB0:Bw w W:=by subst hW;exact Qb
 have c0:W.cell? ⟨w.heap.size,0,none⟩=some (.int .i64 fz):=by subst hW;simp [go_sem]
 have c1:W.cell? ⟨w.heap.size,1,none⟩=some (.int .i64 fx):=by subst hW;simp [go_sem]
 have c2:W.cell? ⟨w.heap.size,2,none⟩=some (.int .i64 fy):=by subst hW;simp [go_sem]
 clear hW
 have k1:∀ W',Bw W W'→W'.cell? ⟨w.heap.size,1,none⟩=some (.int .i64 fx):=fun W' h=>zJ h c1
 have k2:∀ W',Bw W W'→W'.cell? ⟨w.heap.size,2,none⟩=some (.int .i64 fy):=fun W' h=>zJ h c2
 have hkk:z - fz=(k:Int):=HZ.out
 go_wp2_with fail
 simp only [hkk]
 clear hkk
 go_wp2_with fail
 go_region_held3 (fun W'=>Bw W W') ((repeat (first|exact Qr _ _|assumption|refine Qd ?_|refine Qa ?_ _|refine Qt ?_|refine Qs ?_ _|refine Qo ?_ ?_ _ _))) (fail)
 have hd:Bw w W.drew:=zA hB0 (by exact Qb)
 have gk:=kk _ hd
 have hix:(0:Int)≤yi * 8+xi:=by omega
 have hix':yi * 8+xi<64:=by omega
 clear k1 k2 c0 c1 c2 kk e1 e2 hxk hyk m0 m1 s0 s1
 generalize (W.drew:World)=V at *
 go_wp2
 go_ret
 exact ⟨zD HU.out.symm,by assumption⟩
theorem zPb (b off cap k:Nat)(fz fx fy tz x y:Int)(Z:Nat→Int)(w:World)(hk:k≤3)(htz:tz - fz=(k:Int))(hfz:0≤fz∧fz≤3)(hz:zBx w b off 64 Z)(hbl:b<w.heap.size)(hfx:0≤fx∧fx≤7)(hfy:0≤fy∧fy≤7)(hx:0≤x∧x≤1000)(hy:0≤y∧y≤1000)(hi:0≤zBw x k - fx * 8∧zBw x k - fx * 8≤7)(hj:0≤zBw y k - fy * 8∧zBw y k - fy * 8≤7) :
  Calls Tryz.prog 94 #[.slice (some ⟨b,off,none⟩) 64 cap,xD fz fx fy,.int .i64 tz,.int .i64 x,.int .i64 y] w fun e w'=>e=.returned (.int .i64 (upI k fx fy Z x y))∧Bw w w':=by
 obtain ⟨xi,hxi⟩:∃ i:Int,zBw x k - fx * 8=i:=⟨_,rfl⟩
 obtain ⟨yi,hyi⟩:∃ i:Int,zBw y k - fy * 8=i:=⟨_,rfl⟩
 have HU:Hid (upI k fx fy Z x y=Z (yi * 8+xi).toNat):=by show _=_;unfold upI;rw [hxi,hyi]
 rw [hxi] at hi
 rw [hyi] at hj
 have e1:x / 2 ^ k - fx * 8=xi:=by rw [← zCm _ hk];exact hxi
 have e2:y / 2 ^ k - fy * 8=yi:=by rw [← zCm _ hk];exact hyi
 obtain ⟨xk,hxk⟩:∃ i:Int,x / 2 ^ k=i:=⟨_,rfl⟩
 obtain ⟨yk,hyk⟩:∃ i:Int,y / 2 ^ k=i:=⟨_,rfl⟩
 rw [hxk] at e1
 rw [hyk] at e2
 have kk:w.cell? ⟨b,off+(yi * 8+xi).toNat,none⟩=some (.int .i64 (Z (yi * 8+xi).toNat)):=hz _ (by omega)
 have hk0:(0:Int)≤(k:Int):=by omega
 have hk1:(k:Int)≤64:=by omega
 have s0:IntKind.i64.wrap xi=xi:=IntWalk.i64_in _ (by omega)
 have s1:IntKind.i64.wrap yi=yi:=IntWalk.i64_in _ (by omega)
 have m0:IntKind.i64.wrap (fx * 8)=fx * 8:=IntWalk.i64_in _ (by omega)
 have m1:IntKind.i64.wrap (fy * 8)=fy * 8:=IntWalk.i64_in _ (by omega)
 have hix:(0:Int)≤yi * 8+xi:=by omega
 have hix':yi * 8+xi<64:=by omega
 clear hxi hyi hz
 go_enter Tryz.func94,Tryz.ntmps94
 go_wp2
 go_ret
 exact ⟨zD HU.out.symm,Qb⟩
theorem zMh.midV {w w':World}{base lo hi:Nat}{v:Value}{n:Nat}{R:Rfs}(h:zMh w base v n R)(hM:zR lo hi w w')(hb:hi≤base):zMh w' base v n R:=by
 obtain ⟨a,cap,hv,hc,h0 | ⟨b,ha,hbb,hl,hp,ht⟩⟩:=h
 ·exact ⟨a,cap,hv,hc,.inl h0⟩
 ·exact ⟨a,cap,hv,hc,.inr ⟨b,ha,hbb,Nat.lt_of_lt_of_le hl hM.size,fun i hi=>⟨hM.cell (hp i hi).1 (.inr (by omega)),hM.cell (hp i hi).2.1 (.inr (by omega)),hM.cell (hp i hi).2.2 (.inr (by omega))⟩,hM.there ht (.inr (by omega))⟩⟩
theorem zOh.midV {T lo hi:Nat}{w w':World}{a:Option Addr}{n:Nat}{R:Rfs}(h:zOh T w a n R)(hM:zR lo hi w w')(hb:T≤lo):zOh T w' a n R:=by
 rcases h with h | ⟨b,off,e,hl,hp⟩
 ·exact .inl h
 ·exact .inr ⟨b,off,e,hl,fun i hi=>⟨hM.cell (hp i hi).1 (.inl (by omega)),hM.cell (hp i hi).2.1 (.inl (by omega)),hM.cell (hp i hi).2.2 (.inl (by omega))⟩⟩
theorem uM.midV {w w':World}{base lo hi:Nat}{v:Value}{n:Nat}{Z:Nat→Int}(h:uM w base v n Z)(hM:zR lo hi w w')(hb:hi≤base):uM w' base v n Z:=by
 obtain ⟨a,cap,hv,hc,h0 | ⟨b,ha,hbb,hl,hp,ht⟩⟩:=h
 ·exact ⟨a,cap,hv,hc,.inl h0⟩
 ·exact ⟨a,cap,hv,hc,.inr ⟨b,ha,hbb,Nat.lt_of_lt_of_le hl hM.size,fun i hi=>hM.cell (hp i hi) (.inr (by omega)),hM.there ht (.inr (by omega))⟩⟩
theorem yV.midV {T lo hi:Nat}{w w':World}{a:Option Addr}{n:Nat}{Z:Nat→Int}(h:yV T w a n Z)(hM:zR lo hi w w')(hb:T≤lo):yV T w' a n Z:=by
 rcases h with h | ⟨b,off,e,hl,hp⟩
 ·exact .inl h
 ·exact .inr ⟨b,off,e,hl,fun i hi=>hM.cell (hp i hi) (.inl (by omega))⟩
theorem zNi (c:Int)(base n cap:Nat)(a:Option Addr)(Z:Nat→Int)(w:World)(h:uM w base (.slice a n cap) n Z)(hmax:n≤1048576) :
  ∃ row:Option Nat,(∀ s,row=some s→base≤s∧n≠0∧a=some ⟨s,0,none⟩)∧Calls Tryz.prog 20 #[.agg #[.int .i64 c,.slice a n cap],.int .i64 1] w fun e w'=>e=.returned (.int .i64 ((1+n:Nat):Int))∧w.grownBy w' row∧uM w' base (.slice a n cap) n (mkN 1):=by
 obtain ⟨a',cap',hv,hc,h0 | ⟨b,ha,hbb,hl,hp,ht⟩⟩:=h
 ·subst h0
  exact ⟨none,(fun s hs=>by cases hs),(vA c a cap w).mono fun e w' ⟨he,hb⟩=>⟨he,uZ hb,a',cap',hv,hc,.inl rfl⟩⟩
 ·injection hv with h1 h2 h3
  subst h1 h3 ha
  by_cases h0:n=0
  ·subst h0
   exact ⟨none,(fun s hs=>by cases hs),(vA c _ cap w).mono fun e w' ⟨he,hb⟩=>⟨he,uZ hb,_,cap,rfl,hc,.inl rfl⟩⟩
  ·exact ⟨some b,(fun s hs=>by injection hs with hs;subst hs;exact ⟨hbb,h0,rfl⟩),(zAs c b n cap w ht hl hmax).mono fun e w' ⟨he,hg,ht',hp'⟩=>⟨he,hg,_,cap,rfl,hc,.inr ⟨b,rfl,hbb,Nat.lt_of_lt_of_le hl hg.size,hp',ht'⟩⟩⟩
end Go.Proofs.YtpaiholildedcaaGreat
