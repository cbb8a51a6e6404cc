/- Texts. -/
import Derived.Test.YtpaiholildedcaaGreatVFrameOf22
set_option linter.unusedSimpArgs false
set_option linter.unusedVariables false
set_option maxRecDepth 100000
set_option maxHeartbeats 32000000
namespace Go.Proofs.YtpaiholildedcaaGreat
open Go.RowKit
noncomputable def tC (k:Kp):Int:=if rtC k.z k.x k.y k.fn k.F=0 then (if vI k.m (rtL k.z k.x k.y k.fn k.F).length k.I (nz (rtL k.z k.x k.y k.fn k.F))=true then 0 else 8) else rtC k.z k.x k.y k.fn k.F
noncomputable def kC (K:Nat→Kp)(i:Nat):Int:=if tC (K i)=0 then (if 0≤atK i K (K i).z (K i).x (K i).y then 6 else 0) else tC (K i)
noncomputable def cacheC (s:Int)(n:Nat)(K:Nat→Kp):Int:=if inB s 1 10=true then (if s<(n:Int) then 2 else yH (kC K) 0 n) else 3
theorem zMx {k:Kp}(h:rtC k.z k.x k.y k.fn k.F≠0):tC k=rtC k.z k.x k.y k.fn k.F:=by unfold tC;rw [if_neg h]
theorem zCh {k:Kp}(h:rtC k.z k.x k.y k.fn k.F=0)(h2:vI k.m (rtL k.z k.x k.y k.fn k.F).length k.I (nz (rtL k.z k.x k.y k.fn k.F))=false):tC k=8:=by unfold tC;rw [if_pos h,h2];rfl
theorem tC_ok {k:Kp}(h:rtC k.z k.x k.y k.fn k.F=0)(h2:vI k.m (rtL k.z k.x k.y k.fn k.F).length k.I (nz (rtL k.z k.x k.y k.fn k.F))=true):tC k=0:=by unfold tC;rw [if_pos h,h2];rfl
theorem zQh {K:Nat→Kp}{i:Nat}(h:tC (K i)≠0):kC K i=tC (K i):=by unfold kC;rw [if_neg h]
theorem kC_ok {K:Nat→Kp}{i:Nat}(h:tC (K i)=0)(h2:atK i K (K i).z (K i).x (K i).y=-1):kC K i=0:=by unfold kC;rw [if_pos h,h2];rfl
theorem zPl {K:Nat→Kp}{i:Nat}(h:tC (K i)=0)(h2:0≤atK i K (K i).z (K i).x (K i).y):kC K i=6:=by unfold kC;rw [if_pos h,if_pos h2]
theorem zPn (e:Kp):isK e e.z e.x e.y=true:=by simp [isK]
theorem zP8 {n k:Nat}{K:Nat→Kp}(hk:k<n):(atK k K (K k).z (K k).x (K k).y=-1∧atK n K (K k).z (K k).x (K k).y=(k:Int))∨(0≤atK k K (K k).z (K k).x (K k).y∧∃ i:Nat,i<k∧atK n K (K k).z (K k).x (K k).y=(i:Int)):=by
 unfold atK
 rcases zAa (fun i=>isK (K i) (K k).z (K k).x (K k).y) k with ⟨h1,h2⟩ | ⟨i,hi,hg,hf,hn⟩
 ·exact .inl ⟨h1,yR hk (zPn _) h2⟩
 ·exact .inr ⟨by rw [hf];omega,i,hi,yR (by omega) hg hn⟩
def zB7 (w:World)(b n:Nat)(A:Nat→Kp):Prop:=b<w.heap.size∧∀ i,i<n→zGc w b (i * 5) (A i)∧(∃ fb,(A i).fa=some ⟨fb,0,none⟩∧fb<w.heap.size∧zAc w fb 0 (A i).fn (A i).F)∧uE w (A i).ia (A i).m (A i).I
theorem zB7.below {w w':World}{b n:Nat}{A:Nat→Kp}(h:zB7 w b n A)(hb:Below w.heap.size w w'):zB7 w' b n A :=
 ⟨Nat.lt_of_lt_of_le h.1 hb.size,fun i hi=>by
  obtain ⟨h1,⟨fb,e1,e2,e3⟩,h3⟩:=h.2 i hi
  exact ⟨h1.below hb h.1,⟨fb,e1,Nat.lt_of_lt_of_le e2 hb.size,e3.below hb e2⟩,h3.below hb⟩⟩
theorem zB7.is {w:World}{b n:Nat}{A:Nat→Kp}(h:zB7 w b n A):zCf w (some ⟨b,0,none⟩) n A :=
 .inr ⟨b,0,rfl,h.1,fun i hi=>by
  obtain ⟨h1,⟨fb,e1,e2,e3⟩,h3⟩:=h.2 i hi
  exact ⟨by rw [Nat.zero_add];exact h1,.inr ⟨fb,0,e1,e2,e3⟩,h3⟩⟩
theorem zX.ko {w:World}{B b n:Nat}{K A:Nat→Kp}(h:zX w B b n K A):zB7 w b n A :=
 ⟨h.2.1,fun i hi=>by
  obtain ⟨h1,h2⟩:=h.2.2 i hi
  have h3:=h2.is.2
  obtain ⟨_,⟨fb,e1,e2,e3,ho⟩,_⟩:=h2
  exact ⟨h1,⟨fb,e1,ho.2.1,by rw [e2];exact ho.2.2.1⟩,h3⟩⟩

theorem laid_k:laidOutB Tryz.prog=true:=by kernel_rfl
theorem zM7:(111:TypeId)<Tryz.prog.types.size:=of_decide_eq_true (by kernel_rfl)
theorem zOo:(match Tryz.prog.underlying 111 with | some (.array _ _) | some (.struct _)=>true | _=>false)=true:=by kernel_rfl
theorem law_ref:WideMaps.KeyLaw Tryz.prog 111:=deep_law_laid laid_k (m:=3) (by omega) zM7 (by kernel_rfl) zOo
theorem zBa:Go.Maps.Keyed Tryz.prog 111:=Go.Maps.Keyed.of_law law_ref
def I64 (z:Int):Prop:=(Lit.int .i64 z).wf=true
theorem zHw:Tryz.prog.cellsOf 111=3:=by kernel_rfl
theorem zL7:Tryz.prog.cellsOf 2=1:=by kernel_rfl
theorem zMl:Tryz.prog.underlying 2=some (.int .i64):=by kernel_rfl
theorem zPk:Tryz.prog.keyType 111=true:=by kernel_rfl
theorem zKp:∃ m,Tryz.prog.types.size=m+1:=⟨_,(Nat.succ_pred_eq_of_pos (Nat.lt_of_le_of_lt (Nat.zero_le _) zM7)).symm⟩
def zBj (z x y:Int):Lit:=.string (keyBytes [.int .i64 z,.int .i64 x,.int .i64 y])
theorem zDa {z x y:Int}(hz:I64 z)(hx:I64 x)(hy:I64 y):keyOf Tryz.prog 111 (xD z x y)=some (zBj z x y):=by
 unfold I64 at hz hx hy
 obtain ⟨m,hm⟩:=zKp
 have hi:∀ a:Int,(Lit.int .i64 a).wf=true→Tryz.prog.keyLits (m+1) 2 [.int .i64 a]=some [.int .i64 a]:=fun a ha=>by
  simp [Program.keyLits,zMl,ha]
 have hk:Tryz.prog.keyLits (m+1+1) 111 [.int .i64 z,.int .i64 x,.int .i64 y]=some [.int .i64 z,.int .i64 x,.int .i64 y]:=by
  unfold Program.keyLits
  simp [Tryz.underlying111,zHw,zL7,hi z hz,hi x hx,hi y hy]
 unfold keyOf
 rw [Tryz.underlying111]
 simp [zPk,Value.formed,Tryz.underlying111,zHw,Value.cells,hm,hk,zBj]
theorem zNq {z x y z' x' y':Int}(hz:I64 z)(hx:I64 x)(hy:I64 y)(hz':I64 z')(hx':I64 x')(hy':I64 y')(h:zBj z x y=zBj z' x' y'):z=z'∧x=x'∧y=y':=by
 have:=zBa.inj (zDa hz hx hy) (by rw [h];exact zDa hz' hx' hy')
 simpa using this
theorem zI7 (z x y:Int):WideAt.IsKeyLit (zBj z x y):=trivial
abbrev zQa:Array Value:=#[.int .i64 0,.nilFunc,.slice none 0 0,.int .i64 0]
theorem info_sh:(Tryz.prog.info? 263).map (fun i=>(i.zero,i.size,i.bytes))=some (some (.agg zQa),4,48):=by kernel_rfl
def RtSt (V:World)(B5:Nat)(z:Int)(G:Nat→yD)(k:Nat)(S:Nat→Shp)(v:Value)(wr:World):Prop :=
 zOj V.heap.size wr v k z S∧(k=0→v=.slice none 0 0)∧(∀ i,i<k→zH8 wr wr.heap.size (S i)∧zGr (S i) (G i))∧wr.cell? ⟨B5,0,none⟩=some v∧zC wr B5 1∧Below B5 V wr∧V.heap.size≤wr.heap.size
theorem RtSt.put {V:World}{B5:Nat}{z:Int}{G:Nat→yD}{k:Nat}{S:Nat→Shp}{v:Value}{ua:Option Addr}{un uc:Nat}{w:World}(hO:zOj V.heap.size w v k z S)(hk:k=0→v=.slice none 0 0)(hP:∀ i,i<k→zH8 w w.heap.size (S i)∧zGr (S i) (G i))(h5:w.cell? ⟨B5,0,none⟩=some (.slice ua un uc))(hT:zC w B5 1)(hB:Below B5 V w)(hl:B5<V.heap.size)(hs:V.heap.size≤w.heap.size):RtSt V B5 z G k S v (w.setCell ⟨B5,0,none⟩ v):=by
 have hne:∀ g:Nat,V.heap.size≤g→g≠B5:=fun g hg=>by omega
 refine ⟨?_,hk,fun i hi=>?_,zG h5,?_,hB.setCell (Nat.le_refl _) _,by simpa using hs⟩
 ·exact zBo hO fun g hg=>Below.heap_setCell _ _ _ _ (by have:=(World.ownsRow.lt hO g hg).1;simp;omega)
 ·obtain ⟨⟨p1,p2,p3,p4,p5⟩,p6⟩:=hP i hi
  refine ⟨⟨by simpa using p1,p2,p3,p4,?_⟩,p6⟩
  by_cases e:(S i).g=B5
  ·exfalso
   have c0:=(p5 0 p2).1
   simp only [Nat.zero_mul,Nat.zero_add,Nat.mul_zero] at c0
   rw [e,h5] at c0
   cases c0
  ·intro j hj
   exact ⟨(zB (fun h=>e (by injection h with h;exact h.symm))).trans (p5 j hj).1,(zB (fun h=>e (by injection h with h;exact h.symm))).trans (p5 j hj).2⟩
 ·intro o ho
  obtain rfl:o=0:=by omega
  exact ⟨⟨_,zG h5⟩,by rw [World.frozen?_setCell];exact (hT 0 (by omega)).2⟩
theorem zAy (z x y:Int)(b n cap:Nat)(G:Nat→yD)(w:World)(hg:zAc w b 0 n G)(hbl:b<w.heap.size)(hs:yL n G)(hcap:n≤cap) :
  Calls Tryz.prog 168 #[.agg #[.int .i64 z,.int .i64 x,.int .i64 y,.slice (some ⟨b,0,none⟩) n cap]] w fun e w'=>∃ v,e=.returned (.agg #[.int .i64 (rtC z x y n G),v])∧uM w' w.heap.size v (rtL z x y n G).length (nz (rtL z x y n G))∧Bw w w':=by
 have hmf:∀ (fn:Fn) (first cap:Array Value) (w:World),(Instr.makeFunc fn first cap).run Tryz.prog w=.ok (.func fn first cap) w:=fun _ _ _ _=>rfl
 obtain ⟨si,hsi,hs0,hs1,hs2⟩:=info_parts info_sh
 have HG:Hid (zAc w b 0 n G):=hg
 have HS:Hid (yL n G):=hs
 clear hg hs
 obtain ⟨rc,hrc⟩:∃ rc,zDx z x y=rc:=⟨_,rfl⟩
 obtain ⟨fc,hfc⟩:∃ fc,zT n G=fc:=⟨_,rfl⟩
 have HFF:Hid (∀ W',Bw w W'→Calls Tryz.prog 206 #[.slice (some ⟨b,0,none⟩) n cap] W' fun e w'=>e=.returned (.int .i64 fc)∧Below W'.heap.size W' w'):=fun W' hW=>hfc ▸ zBy b n cap G W' (HG.out.below hW hbl) (Nat.lt_of_lt_of_le hbl hW.size) HS.out hcap
 have HRF:Hid (∀ W',Calls Tryz.prog 132 #[.agg #[.int .i64 z,.int .i64 x,.int .i64 y]] W' fun e w'=>e=.returned (.int .i64 rc)∧Below W'.heap.size W' w'):=fun W'=>hrc ▸ uU z x y W'
 have HRC:Hid (zDx z x y=rc):=hrc
 have HFC:Hid (zT n G=fc):=hfc
 clear hrc hfc
 go_enter Tryz.func168,Tryz.ntmps168
 go_wp2_with fail
 generalize hW:((w.alloc _).alloc _:World)=W
 have HB0:Hid (Bw w W):=by show Below _ _ _;subst hW;exact Qb
 have HT:Hid (zC W (w.heap.size+1) 2):=by
  show zC _ _ _
  subst hW
  have:=there2t (w.alloc (.cells #[.int .i64 z,.int .i64 x,.int .i64 y,.slice (some ⟨b,0,none⟩) n cap] 139)) (.int .i64 0) (.slice none 0 0) 48
  simpa using this
 have HA:Hid (zH4 W w.heap.size z x y (.slice (some ⟨b,0,none⟩) n cap)):=by
  show zH4 _ _ _ _ _ _
  subst hW
  refine ⟨?_,?_,?_,?_⟩ <;> simp [go_sem]
 have HSZ:Hid (w.heap.size+1<W.heap.size):=by show _<_;subst hW;simp
 have hlW:w.heap.size<W.heap.size:=by subst hW;simp <;> omega
 clear hW
 have c0:∀ W',Bw W W'→W'.cell? ⟨w.heap.size,0,none⟩=some (.int .i64 z):=fun W' h=>(HA.out.below h hlW).1
 have c1:∀ W',Bw W W'→W'.cell? ⟨w.heap.size,1,none⟩=some (.int .i64 x):=fun W' h=>(HA.out.below h hlW).2.1
 have c2:∀ W',Bw W W'→W'.cell? ⟨w.heap.size,2,none⟩=some (.int .i64 y):=fun W' h=>(HA.out.below h hlW).2.2.1
 have c3:∀ W',Bw W W'→W'.cell? ⟨w.heap.size,3,none⟩=some (.slice (some ⟨b,0,none⟩) n cap):=fun W' h=>(HA.out.below h hlW).2.2.2
 refine wp_region_noPanic ?_
 refine wp_region_held_drew (S:=fun W'=>Bw W W') (by kernel_rfl) (by exact Qb) (fun hHeld=>?_)
 have hX0:Bw W W.drew:=hHeld
 refine zE (i:=0) (d:=some 8) rfl rfl (hS:=hX0) ?_
 try simp only [Act.put,Qx,Qy,Qz]
 refine zE (i:=1) (d:=some 9) rfl rfl (hS:=hX0) ?_
 try simp only [Act.put,Qx,Qy,Qz]
 refine zE (i:=3) (d:=some 11) rfl rfl (hS:=hX0) ?_
 try simp only [Act.put,Qx,Qy,Qz]
 refine zE (i:=4) (d:=some 12) rfl rfl (hS:=hX0) ?_
 try simp only [Act.put,Qx,Qy,Qz]
 refine zO 2 fun K hK=>?_
 rw [if_pos (by rfl)]
 go_simp
 refine Calls.mono (HRF.out _) ?_
 rintro e w1 ⟨rfl,hb1⟩
 have hX1:Bw W w1:=zA hX0 hb1
 go_wp2_with fail
 refine hK.out _ _ hX1 (fun hHeld=>?_)
 clear hK K hb1
 try simp only [Act.put,Qx,Qy,Qz]
 refine zO 5 fun K hK=>?_
 rw [if_pos (by rfl)]
 go_simp
 refine Calls.mono (HFF.out _ (zA HB0.out hX1)) ?_
 rintro e w2 ⟨rfl,hb2⟩
 have hX2:Bw W w2:=zA hX1 hb2
 go_wp2_with fail
 refine hK.out _ _ hX2 (fun hHeld=>?_)
 clear hK K hb2
 try simp only [Act.put,Qx,Qy,Qz]
 refine zO 6 fun K hK=>?_
 rw [if_pos (by rfl)]
 go_simp
 generalize hwA:(World.alloc _ _:World)=wA
 have hbA:Bw w2 wA:=by subst hwA;exact Qb
 have g0:wA.cell? ⟨w2.heap.size,0,none⟩=some (.int .i64 rc):=by subst hwA;simp [go_sem]
 have g1:wA.cell? ⟨w2.heap.size,1,none⟩=some (.int .i64 fc):=by subst hwA;simp [go_sem]
 have hXA:Bw W wA:=zA hX2 hbA
 clear hwA hbA
 refine hK.out _ _ hXA (fun hHeld=>?_)
 clear hK K
 try simp only [Act.put,Qx,Qy,Qz]
 refine zO 7 fun K hK=>?_
 rw [if_pos (by rfl)]
 go_simp
 refine (zE1 _ _ rc fc _ g0 g1).mono ?_
 rintro e w3 ⟨rfl,rfl⟩
 go_wp2_with fail
 refine hK.out _ _ hXA (fun hHeld=>?_)
 clear hK K g0 g1
 try simp only [Act.put,Qx,Qy,Qz]
 refine zE (i:=8) (d:=some 3) rfl rfl (hS:=hXA) ?_
 try simp only [Act.put,Qx,Qy,Qz]
 refine wpAnyH_done (by kernel_rfl) ?_ _
 refine NoPanic.normal ?_
 have HBA:Hid (Bw w w3):=zA HB0.out hXA
 have hTA:=HT.out.below hXA
 have HTA:Hid (zC w3 (w.heap.size+1) 2):=hTA
 have d0:=c0 w3 hXA
 have d1:=c1 w3 hXA
 have d2:=c2 w3 hXA
 have d3:=c3 w3 hXA
 have hlA:w.heap.size<w3.heap.size:=Nat.lt_of_lt_of_le hlW hXA.size
 have hlA1:w.heap.size+1<w3.heap.size:=Nat.lt_of_lt_of_le HSZ.out hXA.size
 have HAA:Hid (zH4 w3 w.heap.size z x y (.slice (some ⟨b,0,none⟩) n cap)):=HA.out.below hXA hlW
 by_cases hor:or2 rc fc=0
 ·have hr0:rc=0∧fc=0:=by
   unfold or2 at hor
   by_cases h:rc=0
   ·rw [if_pos h] at hor;exact ⟨h,hor⟩
   ·rw [if_neg h] at hor;exact absurd hor h
  obtain ⟨hn12,hok⟩:=zHm (HFC.out.trans hr0.2)
  have HOK:Hid (∀ i,i<n→OkF (G i)):=hok
  have hrf:xV z x y=true:=by
   rcases vT z x y with ⟨_,h⟩ | ⟨h,_⟩
   ·exact h
   ·rw [HRC.out,hr0.1] at h;omega
  have HRB:Hid (xV z x y=true):=hrf
  have hos:zIu n G=zD5 n G:=zO2 (zDl (HFC.out.trans hr0.2)).2.1
  have HK:Hid (rtC z x y n G=if zD5 n G=true then 0 else 1):=by
   show _=_
   unfold rtC
   rw [if_pos (HRC.out.trans hr0.1),if_pos (HFC.out.trans hr0.2)]
  have HAO:Hid (Calls Tryz.prog 207 #[.slice (some ⟨b,0,none⟩) n cap] w3 fun e w'=>e=.returned (.bool (zD5 n G))∧Bw w3 w'):=hos ▸ zEe b n cap G w3 (HG.out.below HBA.out hbl) (Nat.lt_of_lt_of_le hbl HBA.out.size) HS.out.1
  rw [hor]
  clear hor hr0 hok hrf hos hTA c0 c1 c2 c3 hX0 hX1 hX2
  go_wp2_with fail
  refine Calls.mono HAO.out ?_
  rintro e wO ⟨rfl,hbO⟩
  have hTO:=HTA.out.below hbO
  have HTO:Hid (zC wO (w.heap.size+1) 2):=hTO
  have HBO:Hid (Bw w wO):=zA HBA.out hbO
  obtain ⟨o0,o1,o2,o3⟩:=HAA.out.below hbO hlA
  have HAO2:Hid (zH4 wO w.heap.size z x y (.slice (some ⟨b,0,none⟩) n cap)):=⟨o0,o1,o2,o3⟩
  have hlO:w.heap.size<wO.heap.size:=Nat.lt_of_lt_of_le hlA hbO.size
  have hlO1:w.heap.size+1<wO.heap.size:=Nat.lt_of_lt_of_le hlA1 hbO.size
  clear hbO HAO d0 d1 d2 d3
  cases ho:zD5 n G
  ·have HQ:Hid (rtC z x y n G=1):=by show _=_;rw [HK.out,ho];rfl
   have HL:Hid (rtL z x y n G=[]):=if_neg (by rw [HQ.out];omega)
   have t0:=hTO.cell 0 (by omega)
   have t1:=hTO.cell 1 (by omega)
   have f0:=(hTO 0 (by omega)).2
   have f1:=(hTO 1 (by omega)).2
   clear hTO
   go_wp2_with fail
   obtain ⟨q0,q1⟩:=set2t (a:=.int .i64 1) (b:=.slice none 0 0) HTO.out
   refine bodyPost_ret (v:=.agg #[.int .i64 1,.slice none 0 0]) (by simp [results,Tryz.results168,go_sem,q0,q1]) rfl ⟨_,by rw [HQ.out],?_,?_⟩
   ·rw [HL.out];exact zGw _ _
   ·exact (HBO.out.setCell (Nat.le_succ _) _).setCell (Nat.le_succ _) _
  ·have HQ:Hid (rtC z x y n G=0):=by show _=_;rw [HK.out,ho];rfl
   have HL:Hid (rtL z x y n G=zC0 (yA G n z) (x * 8) (y * 8) 64):=if_pos HQ.out
   clear HK ho hTO
   go_wp2_with fail
   generalize hV:((wO.alloc _).alloc _:World)=V
   obtain ⟨B4,hB4⟩:∃ B4,B4=wO.heap.size:=⟨_,rfl⟩
   obtain ⟨B5,hB5⟩:∃ B5,B5=wO.heap.size+1:=⟨_,rfl⟩
   have hbV:Bw wO V:=by subst hV;exact Qb
   have v4:V.cell? ⟨B4,0,none⟩=some (.int .i64 z):=by subst hV;rw [hB4];simp [go_sem]
   have v5:V.cell? ⟨B5,0,none⟩=some (.slice none 0 0):=by subst hV;rw [hB5];simp [go_sem]
   have HT5:Hid (zC V B5 1):=fun o ho=>by
    obtain rfl:o=0:=by omega
    exact ⟨⟨_,v5⟩,by subst hV;rw [hB5];simp [go_sem]⟩
   have hszV:V.heap.size=wO.heap.size+2:=by subst hV;simp
   clear hV
   rw [← hB5,← hB4]
   have hl5:B5<V.heap.size:=by omega
   have HSV:Hid (V.heap.size=B5+1∧B4<B5∧wO.heap.size=B4):=by show _∧_∧_;omega
   have h45:B4<B5:=by omega
   have hO5:wO.heap.size≤B5:=by omega
   have HAV:Hid (zH4 V w.heap.size z x y (.slice (some ⟨b,0,none⟩) n cap)):=HAO2.out.below hbV hlO
   have HTV:Hid (zC V (w.heap.size+1) 2):=HTO.out.below hbV
   have HBV:Hid (Bw w V):=zA HBO.out hbV
   have hb5:w.heap.size+1<B5:=by omega
   obtain ⟨p0,p1,p2,p3⟩:=HAV.out
   clear hB4 hB5 hszV hbV o0 o1 o2 o3
   go_loopw [31] (fun i wr=>∃ (k:Nat) (S:Nat→Shp) (v:Value),k≤n∧i=.int .i64 (k:Int)∧RtSt V B5 z G k S v wr) (fun i _=>n - (intOf i).toNat)
   case atStart=>exact ⟨0,fun _=>⟨0,0,0,0,0,0,fun _=>0,fun _=>0⟩,.slice none 0 0,by omega,rfl,World.ownsRow_nil _ _ _ _,fun _=>rfl,fun i hi=>absurd hi (Nat.not_lt_zero _),v5,HT5.out,Below.refl _ _,Nat.le_refl _⟩
   case round =>
   obtain ⟨k,S,v,hk,rfl,hO,hK0,hPS,h5,hT5,hB,hVr⟩:=hrel
   by_cases hlt:k<n
   ·have hOKk:=HOK.out k hlt
    have hGr:=HG.out.below (HBV.out.trans (hB.mono (by omega))) hbl
    obtain ⟨q,o,ea,hql,hpt⟩:=HG.out.pts hlt hOKk.n0
    have hf:=(hGr k hlt).1
    rw [ea,Nat.zero_add] at hf
    obtain ⟨f0,f1,f2,f3,f4,f5,f6⟩:=hf
    have r4:=(hB.cell (p:=⟨B4,0,none⟩) h45).trans v4
    have hi1:(k:Int)<(n:Int):=by omega
    have hi0:(0:Int)≤(k:Int):=by omega
    obtain ⟨va,vn,vc,hvs⟩:∃ va vn vc,v=.slice va vn vc:=by
     obtain ⟨_,h2 | ⟨g,cp,cur,hv,_⟩⟩:=id hO
     ·exact ⟨_,_,_,h2.1⟩
     ·exact ⟨_,_,_,hv⟩
    subst hvs
    have HO0:Hid (zOj V.heap.size wr (.slice va vn vc) k z S):=hO
    have HK0:Hid (k=0→(Value.slice va vn vc)=.slice none 0 0):=hK0
    have HPS0:Hid (∀ i,i<k→zH8 wr wr.heap.size (S i)∧zGr (S i) (G i)):=hPS
    have HT50:Hid (zC wr B5 1):=hT5
    have HBr:Hid (Below B5 V wr):=hB
    have HPT:Hid (zI w q o (G k).n (G k).X (G k).Y):=hpt
    have hlb:=World.block_lt_of_cell? _ _ f0
    clear hO hK0 hPS hT5 hB hpt hGr
    go_wp2_with fail
    generalize hwF:(wr.alloc _:World)=wF
    have hbF:Bw wr wF:=by subst hwF;exact Qb
    have hFo:wF.heap[wr.heap.size]?=some (.cells #[.int .i64 (G k).id,.int .i64 (G k).la,.int .i64 (G k).ki,.int .i64 (G k).wi,.slice (some ⟨q,o,none⟩) (G k).n (G k).cap,.string (G k).lab,.int .i64 (G k).pr] 209 (0,0)):=by subst hwF;exact World.alloc_heap_new wr _
    clear hwF
    have hVF:V.heap.size≤wF.heap.size:=Nat.le_trans hVr hbF.size
    have HFo:=(show Hid (wF.heap[wr.heap.size]?=some (.cells #[.int .i64 (G k).id,.int .i64 (G k).la,.int .i64 (G k).ki,.int .i64 (G k).wi,.slice (some ⟨q,o,none⟩) (G k).n (G k).cap,.string (G k).lab,.int .i64 (G k).pr] 209 (0,0))) from hFo)
    have hlF:wr.heap.size<wF.heap.size:=yO hFo
    have HOF:Hid (zOj V.heap.size wF (.slice va vn vc) k z S):=zBo HO0.out fun g hg=>hbF.block g (World.ownsRow.lt HO0.out g hg).2
    have HPF:Hid (∀ i,i<k→zH8 wF wF.heap.size (S i)∧zGr (S i) (G i)):=fun i hi=>⟨⟨Nat.lt_of_lt_of_le (HPS0.out i hi).1.1 hbF.size,((HPS0.out i hi).1.below hbF).2⟩,(HPS0.out i hi).2⟩
    have HTF:Hid (zC wF B5 1):=HT50.out.below hbF
    have HBF:Hid (Below B5 V wF):=HBr.out.trans (hbF.mono (by omega))
    have c5':∀ W',KS V.heap.size wr.heap.size wF W'→W'.cell? ⟨B5,0,none⟩=some (.slice va vn vc):=fun W' h=>(h.1.cell (p:=⟨B5,0,none⟩) hl5).trans ((hbF.cell (p:=⟨B5,0,none⟩) (by simp;omega)).trans h5)
    have q4':∀ W',KS V.heap.size wr.heap.size wF W'→W'.cell? ⟨B4,0,none⟩=some (.int .i64 z):=fun W' h=>(h.1.cell (p:=⟨B4,0,none⟩) (by simp;omega)).trans ((hbF.cell (p:=⟨B4,0,none⟩) (by simp;omega)).trans r4)
    have e0:∀ W',KS V.heap.size wr.heap.size wF W'→W'.cell? ⟨wr.heap.size,0,none⟩=some (.int .i64 (G k).id):=fun W' h=>by simp [World.cell?,h.2,HFo.out]
    have e1:∀ W',KS V.heap.size wr.heap.size wF W'→W'.cell? ⟨wr.heap.size,1,none⟩=some (.int .i64 (G k).la):=fun W' h=>by simp [World.cell?,h.2,HFo.out]
    have e2:∀ W',KS V.heap.size wr.heap.size wF W'→W'.cell? ⟨wr.heap.size,2,none⟩=some (.int .i64 (G k).ki):=fun W' h=>by simp [World.cell?,h.2,HFo.out]
    have e3:∀ W',KS V.heap.size wr.heap.size wF W'→W'.cell? ⟨wr.heap.size,3,none⟩=some (.int .i64 (G k).wi):=fun W' h=>by simp [World.cell?,h.2,HFo.out]
    have e4:∀ W',KS V.heap.size wr.heap.size wF W'→W'.cell? ⟨wr.heap.size,4,none⟩=some (.slice (some ⟨q,o,none⟩) (G k).n (G k).cap):=fun W' h=>by simp [World.cell?,h.2,HFo.out]
    have e5:∀ W',KS V.heap.size wr.heap.size wF W'→W'.cell? ⟨wr.heap.size,5,none⟩=some (.string (G k).lab):=fun W' h=>by simp [World.cell?,h.2,HFo.out]
    have e6:∀ W',KS V.heap.size wr.heap.size wF W'→W'.cell? ⟨wr.heap.size,6,none⟩=some (.int .i64 (G k).pr):=fun W' h=>by simp [World.cell?,h.2,HFo.out]
    have HBwF:Hid (Bw w wF):=HBV.out.trans (HBF.out.mono (by omega))
    have hzz:yM z=true:=by
     have:=HRB.out
     simp [xV] at this
     exact this.1
    have HSh:Hid (∀ W',KS V.heap.size wr.heap.size wF W'→Calls Tryz.prog 208 #[.agg #[.int .i64 (G k).id,.int .i64 (G k).la,.int .i64 (G k).ki,.int .i64 (G k).wi,.slice (some ⟨q,o,none⟩) (G k).n (G k).cap,.string (G k).lab,.int .i64 (G k).pr],.int .i64 z] W' fun e w'=>∃ g cg,e=.returned (zM1 (G k).id (G k).ki (G k).wi z g (G k).n cg)∧g<w'.heap.size∧(G k).n≤cg∧zI w' g 0 (G k).n (px (xA (G k).X (G k).Y (G k).n)) (py (xA (G k).X (G k).Y (G k).n))∧Below W'.heap.size W' w'):=fun W' h=>by
     have hBW:Bw w W':=HBwF.out.trans (h.1.mono (by have:=HBV.out.size;omega))
     exact zIp (G k).id (G k).la (G k).ki (G k).wi z q (G k).n (G k).cap (G k).X (G k).Y (G k).lab (G k).pr W' (HPT.out.below hBW hql) (Nat.lt_of_lt_of_le hql hBW.size) hOKk.n0 (by have:=hOKk.n12;omega) hOKk.inw hOKk.wid hzz
    clear f0 f1 f2 f3 f4 f5 f6 r4 hFo h5
    refine wp_region_noPanic ?_
    refine zH9 (S:=fun W'=>KS V.heap.size wr.heap.size wF W') (z:=6) (by kernel_rfl) ?_
    have hSd:KS V.heap.size wr.heap.size wF wF.drew:=⟨by (repeat (first|exact Qr _ _|assumption|refine Qd ?_|refine Qa ?_ _|refine Qt ?_|refine Qs ?_ _|refine Qo ?_ ?_ _ _)),rfl⟩
    refine takeL (i:=0) rfl hSd ?_
    try simp only [Act.put,Qx,Qy,Qz]
    refine takeL (i:=1) rfl hSd ?_
    try simp only [Act.put,Qx,Qy,Qz]
    refine takeL (i:=2) rfl hSd ?_
    try simp only [Act.put,Qx,Qy,Qz]
    refine zAe (i:=3) (by kernel_rfl) rfl (fun K hK=>?_)
    go_simp
    refine Calls.mono (HSh.out _ hSd) ?_
    rintro e wB ⟨g,cg,rfl,hgl,hcg,hPg,hbB⟩
    have hdr:wF.drew.heap.size=wF.heap.size:=rfl
    have hSB:KS V.heap.size wr.heap.size wF wB:=⟨hSd.1.trans (hbB.mono (by rw [hdr];exact hVF)),(hbB.block wr.heap.size (by rw [hdr];exact hlF)).trans rfl⟩
    have hFB:Bw wF wB:=zA (show Bw wF wF.drew by (repeat (first|exact Qr _ _|assumption|refine Qd ?_|refine Qa ?_ _|refine Qt ?_|refine Qs ?_ _|refine Qo ?_ ?_ _ _))) hbB
    have HOB:Hid (zOj V.heap.size wB (.slice va vn vc) k z S):=zBo HOF.out fun g hg=>hFB.block g (World.ownsRow.lt HOF.out g hg).2
    have hsB:V.heap.size≤wB.heap.size:=Nat.le_trans hVF hFB.size
    go_wp2_with fail
    refine hK.out _ _ (fun _=>hSB) ?_
    clear hK K hbB hdr
    try simp only [Act.put,Qx,Qy,Qz]
    refine zAe (i:=4) (by kernel_rfl) rfl (fun K hK=>?_)
    go_simp
    generalize hwA:(World.alloc _ _:World)=wA
    have hbA:Bw wB wA:=by subst hwA;exact Qb
    have a0:wA.cell? ⟨wB.heap.size,0,none⟩=some (.int .i64 (G k).id):=by subst hwA;simp [go_sem]
    have a1:wA.cell? ⟨wB.heap.size,1,none⟩=some (.func (.func (byF (G k).ki)) #[] #[]):=by subst hwA;simp [go_sem]
    have a2:wA.cell? ⟨wB.heap.size,2,none⟩=some (.slice (some ⟨g,0,none⟩) (G k).n cg):=by subst hwA;simp [go_sem]
    have a3:wA.cell? ⟨wB.heap.size,3,none⟩=some (.int .i64 (zZ (G k).wi z)):=by subst hwA;simp [go_sem]
    have hszA:wA.heap.size=wB.heap.size+1:=by subst hwA;simp
    have HOA:Hid (wA.ownsRow V.heap.size 263 4 (.slice va vn vc) k (vF z S k)):=by subst hwA;exact World.ownsRow.alloc HOB.out _
    have hSA:KS V.heap.size wr.heap.size wF wA:=⟨hSB.1.trans (hbA.mono hsB),(hbA.block wr.heap.size (Nat.lt_of_lt_of_le hlF hFB.size)).trans hSB.2⟩
    have hFA:Bw wF wA:=zA hFB hbA
    clear hwA
    refine hK.out _ _ (fun _=>hSA) ?_
    clear hK K
    try simp only [Act.put,Qx,Qy,Qz]
    refine zAe (i:=5) (by kernel_rfl) rfl (fun K hK=>?_)
    refine xC rfl (.tmp 35) (.tmp 39) 259 rfl V.heap.size 263 si (.agg zQa) 4 48 Tryz.underlying259 hsi hs0 hs1 hs2 rfl (by decide) (.slice va vn vc) k (vF z S k) rfl HOA.out ⟨wB.heap.size,0,none⟩ 1 1 [.int .i64 (G k).id,.func (.func (byF (G k).ki)) #[] #[],.slice (some ⟨g,0,none⟩) (G k).n cg,.int .i64 (zZ (G k).wi z)] rfl rfl ?c1 ?c2 ?c3 ?c4 ?c5 ?_
    case c1 =>
     intro q u hq
     match q,hq with
     | 0,hq=>exact (Option.some.inj hq) ▸ a0
     | 1,hq=>exact (Option.some.inj hq) ▸ a1
     | 2,hq=>exact (Option.some.inj hq) ▸ a2
     | 3,hq=>exact (Option.some.inj hq) ▸ a3
     | q+4,hq=>cases hq
    case c2=>intro u hu;simp at hu;rcases hu with rfl | rfl | rfl | rfl <;> rfl
    case c3=>unfold maxLen;omega
    case c4=>omega
    case c5=>first | omega | (simp;omega)
    intro v' w3' hown' hgrow hnil
    clear hnil
    have hBg:Below V.heap.size wA w3':=(Below.refl _ _).grown hgrow (by omega) (fun b hb=>(World.ownsRow.lt HOA.out b hb).1)
    have hAo:wA.heap[wr.heap.size]?=some (.cells #[.int .i64 (G k).id,.int .i64 (G k).la,.int .i64 (G k).ki,.int .i64 (G k).wi,.slice (some ⟨q,o,none⟩) (G k).n (G k).cap,.string (G k).lab,.int .i64 (G k).pr] 209 (0,0)):=hSA.2.trans HFo.out
    have hB3:KS V.heap.size wr.heap.size wF w3':=⟨hSA.1.trans hBg,(hgrow.block wr.heap.size (yO hAo) (fun e=>by obtain ⟨cc,hcc⟩:=zI8 HOA.out wr.heap.size e.symm;rw [hAo] at hcc;injection hcc with hcc;injection hcc with _ hcc;exact absurd hcc (by decide))).trans hSA.2⟩
    obtain ⟨S',hS'⟩:∃ S':Nat→Shp,S'=fun i=>if i=k then ⟨(G k).id,(G k).ki,(G k).wi,g,(G k).n,cg,(G k).X,(G k).Y⟩ else S i:=⟨_,rfl⟩
    have HO4:Hid (zOj V.heap.size w3' v' (k+1) z S'):=by
     show World.ownsRow _ _ _ _ _ _ _
     rw [vF,zB5 (S':=S) (fun i hi=>by rw [hS'];simp only;rw [if_neg (by omega)])]
     have e:S' k=⟨(G k).id,(G k).ki,(G k).wi,g,(G k).n,cg,(G k).X,(G k).Y⟩:=by rw [hS'];exact if_pos rfl
     rw [e]
     exact hown'
    have HPS:Hid (∀ i,i<k+1→zH8 w3' w3'.heap.size (S' i)∧zGr (S' i) (G i)):=fun i hi=>by
     have keepP:∀ s:Shp,zH8 wA wA.heap.size s→zH8 w3' w3'.heap.size s:=fun s ⟨p1,p2,p3,p4,p5⟩=>by
      have hne:some s.g≠(Value.slice va vn vc).ownBlock:=zOj.not_pts HOA.out HK0.out p5 p2
      refine ⟨Nat.lt_of_lt_of_le p1 hgrow.size,p2,p3,p4,fun j hj=>⟨?_,?_⟩⟩
      ·exact hgrow.cell (p5 j hj).1 (fun e=>hne e)
      ·exact hgrow.cell (p5 j hj).2 (fun e=>hne e)
     rw [hS']
     by_cases e:i=k
     ·subst e
      simp only [↓reduceIte]
      refine ⟨keepP _ ⟨Nat.lt_of_lt_of_le hgl hbA.size,hOKk.n0,Nat.le_trans hOKk.n12 (by decide),hcg,hPg.below hbA hgl⟩,rfl,rfl,rfl,rfl,rfl,rfl⟩
     ·simp only [if_neg e]
      obtain ⟨⟨p1,p2,p3,p4,p5⟩,p6⟩:=HPF.out i (by omega)
      exact ⟨keepP _ ⟨Nat.lt_of_lt_of_le p1 hFA.size,p2,p3,p4,p5.below hFA p1⟩,p6⟩
    have n5:=c5' _ hB3
    have HT5:Hid (zC w3' B5 1):=fun o ho=>by
     obtain ⟨⟨x,hx⟩,hf⟩:=HTF.out o ho
     exact ⟨⟨x,(hB3.1.cell (p:=⟨B5,o,none⟩) hl5).trans hx⟩,(hB3.1.frozen (p:=⟨B5,o,none⟩) hl5).trans hf⟩
    have u5':=(HT5.out 0 (by omega)).2
    obtain ⟨ga,gc,rfl⟩:=uF hown'
    have hlo:∀ b,(Value.slice ga (k+1) gc).ownBlock=some b→V.heap.size≤b:=fun b hb=>(World.ownsRow.lt HO4.out b hb).1
    show K (Act.put _ (some 40) _) w3'
    refine hK.out _ _ (fun _=>hB3) ?_
    clear hK K hown' hgrow hBg hS'
    try simp only [Act.put,Qx,Qy,Qz]
    refine zAe (i:=6) (by kernel_rfl) rfl (fun K hK=>?_)
    go_simp
    refine hK.out _ _ (fun h=>absurd rfl h) ?_
    clear hK K
    try simp only [Act.put,Qx,Qy,Qz]
    refine zIb (by kernel_rfl) ?_ _
    refine NoPanic.normal ?_
    have HB3:Hid (Below B5 V w3'):=HBF.out.trans (hB3.1.mono (Nat.le_of_lt hl5))
    have hVs:V.heap.size≤w3'.heap.size:=Nat.le_trans hVF hB3.1.size
    clear hB3 hSA hSB hSd hbA a0 a1 a2 a3 hszA HOA hFA hFB HOB HSh c5' q4' e0 e1 e2 e3 e4 e5 e6 hAo
    go_wp2_with fail
    go_roundw
    case rel =>
     have hne:∀ j:Nat,V.heap.size≤j→j≠B5:=fun j hj=>by omega
     refine ⟨k+1,S',.slice ga (k+1) gc,by omega,by go_num,RtSt.put HO4.out (fun h=>by omega) HPS.out n5 HT5.out HB3.out hl5 hVs⟩
    case measure=>simp [intOf];omega
   ·obtain rfl:k=n:=by omega
    have HPS:Hid (∀ i,i<k→zH8 wr wr.heap.size (S i)∧zGr (S i) (G i)):=hPS
    have hSrc:=hO.src hK0 (fun i hi=>(hPS i hi).1)
    obtain ⟨va,vn,vc,hvs⟩:∃ va vn vc,v=.slice va vn vc:=by
     rcases hSrc with h | ⟨p,c,e,_⟩
     ·exact ⟨_,_,_,h.1⟩
     ·exact ⟨_,_,_,e⟩
    subst hvs
    have hvn:vn=k:=by
     rcases hSrc with ⟨h1,h2⟩ | ⟨p,c,e,_⟩
     ·injection h1 with _ h1;omega
     ·injection e with _ e
    subst hvn
    have HSR:Hid (zP9 wr.heap.size wr (.slice va vn vc) vn z S):=hSrc
    have r4:=(hB.cell (p:=⟨B4,0,none⟩) h45).trans v4
    have hBVw:=hB.mono (show w.heap.size+1+1≤B5 by omega)
    have HBr:Hid (Bw w wr):=HBV.out.trans (hB.mono (by omega))
    obtain ⟨g0,g1,g2,g3⟩:=HAV.out.below hBVw (by omega)
    have HTr:Hid (zC wr (w.heap.size+1) 2):=fun o ho=>by
     obtain ⟨⟨x,hx⟩,hf⟩:=HTV.out o ho
     exact ⟨⟨x,(hBVw.cell (p:=⟨w.heap.size+1,o,none⟩) (by simp)).trans hx⟩,(hBVw.frozen (p:=⟨w.heap.size+1,o,none⟩) (by simp)).trans hf⟩
    have hsr:w.heap.size+1<wr.heap.size:=by omega
    have HRS:Hid (Calls Tryz.prog 209 #[xD z x y,.func (.func 210) #[] #[.pointer (some ⟨B5,0,none⟩),.pointer (some ⟨B4,0,none⟩)]] wr fun e w'=>∃ v,e=.returned v∧xJ wr.heap.size w' v (xL (yA G vn z) (x * 8) (y * 8) 8 8)∧Bw wr w') :=
     zK8 210 _ z x y (yA G vn z) wr HRB.out zN4 (fun W' c r hW hc hr=>by
      have hl4:B4<wr.heap.size:=by omega
      have hl5r:B5<wr.heap.size:=by omega
      exact zIr B4 B5 va vn vc z _ _ S G W' ((hW.cell (p:=⟨B4,0,none⟩) hl4).trans r4) ((hW.cell (p:=⟨B5,0,none⟩) hl5r).trans h5)
       (by
        rcases HSR.out.below hW with h | ⟨p,c,e,h1,h2⟩
        ·exact .inl h
        ·exact .inr ⟨p,c,e,Nat.lt_of_lt_of_le h1 hW.size,fun i hi=>⟨(h2 i hi).1,Nat.lt_of_lt_of_le (h2 i hi).2.1 hW.size,(h2 i hi).2.2⟩⟩)
       (fun i hi=>⟨Nat.lt_of_lt_of_le (HPS.out i hi).1.1 hW.size,((HPS.out i hi).1.below hW).2⟩) hn12 (fun i hi=>(HPS.out i hi).2) (zEq HRB.out c r hc hr))
    rw [rasK_64] at HRS
    clear hO hK0 hPS hT5 hSrc hBVw hB r4 h5 v4 v5
    go_wp2_with fail
    refine Calls.mono HRS.out ?_
    rintro e w9 ⟨v9,rfl,hR9,hb9⟩
    have HR9:Hid (xJ wr.heap.size w9 v9 (zC0 (yA G vn z) (x * 8) (y * 8) 64)):=hR9
    have hT9:=HTr.out.below hb9
    have HT9:Hid (zC w9 (w.heap.size+1) 2):=hT9
    have HB9:Hid (Bw w w9):=zA HBr.out hb9
    have t0:=hT9.cell 0 (by omega)
    have t1:=hT9.cell 1 (by omega)
    have f0:=(hT9 0 (by omega)).2
    have f1:=(hT9 1 (by omega)).2
    obtain ⟨xa,xn,xc,hxs⟩:∃ xa xn xc,v9=.slice xa xn xc:=by
     obtain ⟨a',c',e',_,_⟩:=hR9.own
     exact ⟨_,_,_,e'⟩
    subst hxs
    clear hR9 hb9 hT9
    go_wp2_with fail
    obtain ⟨q0,q1⟩:=set2t (a:=.int .i64 0) (b:=.slice xa xn xc) HT9.out
    refine bodyPost_ret (v:=.agg #[.int .i64 0,.slice xa xn xc]) (by simp [results,Tryz.results168,go_sem,q0,q1]) rfl ⟨_,by rw [HQ.out],?_,?_⟩
    ·rw [HL.out]
     exact (((HR9.out.other hsr).other hsr).wide (by omega)).own
    ·exact (HB9.out.setCell (Nat.le_succ _) _).setCell (Nat.le_succ _) _
 ·have HQ:Hid (rtC z x y n G=or2 rc fc):=by
   show _=_
   unfold rtC or2
   rw [HRC.out,HFC.out]
   by_cases h:rc=0
   ·rw [if_pos h,if_pos h]
    by_cases h2:fc=0
    ·exfalso;apply hor;unfold or2;rw [if_pos h];exact h2
    ·rw [if_neg h2]
   ·rw [if_neg h,if_neg h]
  have HL:Hid (rtL z x y n G=[]):=if_neg (by rw [HQ.out];exact hor)
  have hcb:(or2 rc fc == 0)=false:=by simpa using hor
  have t0:=hTA.cell 0 (by omega)
  have t1:=hTA.cell 1 (by omega)
  have f0:=(hTA 0 (by omega)).2
  have f1:=(hTA 1 (by omega)).2
  generalize or2 rc fc=oc at *
  clear hor hTA c0 c1 c2 c3
  go_wp2_with fail
  obtain ⟨q0,q1⟩:=set2t (a:=.int .i64 oc) (b:=.slice none 0 0) HTA.out
  refine bodyPost_ret (v:=.agg #[.int .i64 oc,.slice none 0 0]) (by simp [results,Tryz.results168,go_sem,q0,q1]) rfl ⟨_,by rw [HQ.out],?_,?_⟩
  ·rw [HL.out];exact zGw _ _
  ·exact (HBA.out.setCell (Nat.le_succ _) _).setCell (Nat.le_succ _) _
def CaO (w:World)(q o:Nat)(s:Int)(v:Value):Prop:=w.cell? ⟨q,o,none⟩=some (.int .i64 s)∧w.cell? ⟨q,o+1,none⟩=some v
theorem CaO.below {w w':World}{q o:Nat}{s:Int}{v:Value}(h:CaO w q o s v)(hb:Below w.heap.size w w'):CaO w' q o s v :=
 have hl:=World.block_lt_of_cell? _ _ h.1
 ⟨(hb.cell (p:=⟨q,o,none⟩) hl).trans h.1,(hb.cell (p:=⟨q,o+1,none⟩) hl).trans h.2⟩
theorem zC9 (q o:Nat)(s:Int)(a:Option Addr)(n cap:Nat)(K:Nat→Kp)(z x y:Int)(w:World)(hc:CaO w q o s (.slice a n cap))(hp:zCf w a n K)(hn:n≤1048576) :
  Calls Tryz.prog 68 #[.pointer (some ⟨q,o,none⟩),xD z x y] w fun e w'=>e=.returned (.int .i64 (atK n K z x y))∧Bw w w':=by
 have HP:Hid (zCf w a n K):=hp
 have HC:Hid (CaO w q o s (.slice a n cap)):=hc
 clear hp hc
 go_enter Tryz.func68,Tryz.ntmps68
 go_wp2_with fail
 generalize hW:(w.alloc _:World)=W
 have HB0:Hid (Bw w W):=by show Below _ _ _;subst hW;exact Qb
 have HR:Hid (RK W w.heap.size z x y):=by show RK _ _ _ _ _;subst hW;exact ⟨by simp [go_sem],by simp [go_sem],by simp [go_sem]⟩
 clear hW
 go_loopw [5] (fun i wr=>∃ k:Nat,k≤n∧i=.int .i64 (k:Int)∧(∀ j,j<k→isK (K j) z x y=false)∧Bw W wr) (fun i _=>n - (intOf i).toNat)
 case atStart=>exact ⟨0,by omega,rfl,fun j hj=>absurd hj (Nat.not_lt_zero _),Below.refl _ _⟩
 case round =>
  obtain ⟨k,hk,rfl,hno,hB⟩:=hrel
  have HN:Hid (∀ j,j<k→isK (K j) z x y=false):=hno
  have HB:Hid (Bw W wr):=hB
  obtain ⟨m0,m1⟩:=HC.out.below (zA HB0.out hB)
  by_cases hlt:k<n
  ·rcases HP.out with h0 | ⟨b,off,rfl,hb,hpt⟩
   ·omega
   obtain ⟨q0,q1,q2,q3,q4⟩:=((hpt.below (zA HB0.out hB) hb) k hlt).1
   obtain ⟨p0,p1,p2⟩:=HR.out.below hB
   have hi:(k:Int)<(n:Int):=by omega
   have hi0:(0:Int)≤(k:Int):=by omega
   have heq:=fun w=>zDm (K k).z (K k).x (K k).y z x y w
   clear hno hB hpt
   have hE0:((K k).z == z && ((K k).x == x && (K k).y == y))=isK (K k) z x y:=rfl
   simp only [hE0] at heq
   clear hE0
   cases hE:isK (K k) z x y
   ·simp only [hE] at heq
    have HN2:Hid (∀ j,j<k+1→isK (K j) z x y=false):=fun j hj=>by
     by_cases e:j=k
     ·rw [e];exact hE
     ·exact HN.out j (by omega)
    clear hE
    generalize (K k).z=rz at *
    generalize (K k).x=rx at *
    generalize (K k).y=ry at *
    go_wp2_with fail
    go_quiet (fail)
    go_wp2_with fail
    exact ⟨⟨k+1,by omega,by simp,HN2.out,below_drewN HB.out _⟩,by simp [intOf];omega⟩
   ·simp only [hE] at heq
    have HY:Hid (atK n K z x y=(k:Int)):=yR (G:=fun i=>isK (K i) z x y) hlt hE HN.out
    clear hE
    generalize (K k).z=rz at *
    generalize (K k).x=rx at *
    generalize (K k).y=ry at *
    go_wp2_with fail
    go_quiet (fail)
    go_wp2
    go_ret
    exact ⟨zD HY.out.symm,below_drewN (zA HB0.out HB.out) _⟩
  ·obtain rfl:n=k:=by omega
   have HY:Hid (atK n K z x y=-1):=vY (G:=fun i=>isK (K i) z x y) HN.out
   go_wp2
   go_ret
   exact ⟨zD HY.out.symm,zA HB0.out HB.out⟩
theorem zHc (q o:Nat)(s:Int)(b n cap:Nat)(A:Nat→Kp)(w:World)(hc:CaO w q o s (.slice (some ⟨b,0,none⟩) n cap))(ha:zB7 w b n A)(hs:zL n A) :
  Calls Tryz.prog 89 #[.pointer (some ⟨q,o,none⟩)] w fun e w'=>e=.returned (.int .i64 (cacheC s n A))∧Bw w w':=by
 have HA:Hid (zB7 w b n A):=ha
 have HC:Hid (CaO w q o s (.slice (some ⟨b,0,none⟩) n cap)):=hc
 have HS:Hid (zL n A):=hs
 have hn:n≤1048576:=hs.1
 obtain ⟨p0,p1⟩:=hc
 clear ha hs
 cases hin:inB s 1 10
 ·have hz:Hid (cacheC s n A=3):=by show _=_;unfold cacheC;rw [hin];rfl
  go_enter Tryz.func89,Tryz.ntmps89
  go_wp2_with (go_at_call 32;refine (zS _ _ _ _).mono ?_;rintro e w' ⟨rfl,h'⟩;subst w')
  go_ret
  exact ⟨zD hz.out.symm,Qb⟩
 by_cases hsn:s<(n:Int)
 ·have hz:Hid (cacheC s n A=2):=by show _=_;unfold cacheC;rw [if_pos hin,if_pos hsn]
  have hw:IntKind.i64.wrap (n:Int)=(n:Int):=IntWalk.i64_in _ (by omega)
  go_enter Tryz.func89,Tryz.ntmps89
  go_wp2_with (go_at_call 32;refine (zS _ _ _ _).mono ?_;rintro e w' ⟨rfl,h'⟩;subst w')
  go_quiet (fail)
  go_wp2
  go_ret
  exact ⟨zD hz.out.symm,below_drewN (Below.refl _ _) _⟩
 ·have hz:Hid (cacheC s n A=yH (kC A) 0 n):=by show _=_;unfold cacheC;rw [if_pos hin,if_neg hsn]
  have hw:IntKind.i64.wrap (n:Int)=(n:Int):=IntWalk.i64_in _ (by omega)
  go_enter Tryz.func89,Tryz.ntmps89
  go_wp2_with (go_at_call 32;refine (zS _ _ _ _).mono ?_;rintro e w' ⟨rfl,h'⟩;subst w')
  go_quiet (fail)
  go_wp2_with fail
  go_loopw [3] (fun v wr=>∃ k:Nat,k≤n∧v=.int .i64 k∧(∀ j,j<k→kC A j=0)∧Bw w wr) (fun v _=>n - (intOf v).toNat)
  case atStart=>exact ⟨0,by omega,rfl,by omega,below_drewN (Below.refl _ _) _⟩
  case round =>
   obtain ⟨k,hk,rfl,hA,hB⟩:=hrel
   have HB:Hid (Bw w wr):=hB
   have HZ:Hid (∀ j,j<k→kC A j=0):=hA
   obtain ⟨m0,m1⟩:=HC.out.below hB
   clear p0 p1 hA
   by_cases hlt:k<n
   ·have HLT:Hid (k<n):=hlt
    have first:Hid (∀ c,kC A k=c→c≠0→cacheC s n A=c):=fun c hc h0=>by
     rw [hz.out,zQ (kC A) n 0 k (fun j _ hj=>HZ.out j hj) (by omega) (by have:=HLT.out;omega) (by rw [hc];exact h0),hc]
    have HOK:Hid (kC A k=0→∀ j,j<k+1→kC A j=0):=fun h0 j hj=>by
     by_cases e:j=k
     ·rw [e];exact h0
     ·exact HZ.out j (by omega)
    have HR:Hid (zB7 wr b n A):=HA.out.below hB
    obtain ⟨⟨q0,q1,q2,q3,q4⟩,⟨fb,ef,hfl,hft⟩,hids⟩:=HR.out.2 k hlt
    rw [ef] at q3
    have HL8:Hid (Calls Tryz.prog 139 #[.pointer (some ⟨b,k * 5,none⟩)] wr fun e w'=>e=.returned (.int .i64 (rtC (A k).z (A k).x (A k).y (A k).fn (A k).F))∧Bw wr w') :=
     zLn b (k * 5) _ _ _ fb (A k).fn (A k).fc (A k).F wr ⟨q0,q1,q2,q3⟩ hft hfl (HS.out.2 k hlt).1
    have hi:(k:Int)<(n:Int):=by omega
    have hi0:(0:Int)≤(k:Int):=by omega
    clear hB hft hids
    by_cases hC:rtC (A k).z (A k).x (A k).y (A k).fn (A k).F=0
    ·rw [hC] at HL8
     go_wp2_with fail
     refine HL8.out.mono ?_
     rintro e w1 ⟨rfl,hb1⟩
     have HB1:Hid (Bw w w1):=zA HB.out hb1
     have HR1:Hid (zB7 w1 b n A):=HR.out.below hb1
     have hC0:Hid (rtC (A k).z (A k).x (A k).y (A k).fn (A k).F=0):=hC
     have HRas:Hid (∀ W,Bw w1 W→Calls Tryz.prog 141 #[.pointer (some ⟨b,k * 5,none⟩)] W fun e w'=>∃ v,e=.returned v∧xJ W.heap.size w' v (rtL (A k).z (A k).x (A k).y (A k).fn (A k).F)∧Bw W w'):=fun W hW=>by
      obtain ⟨hr,hf,_⟩:=zOy hC0.out
      obtain ⟨h12,hok⟩:=zHm hf
      obtain ⟨⟨r0,r1,r2,r3,r4⟩,⟨gb,eg,hgl,hgt⟩,_⟩:=(HR1.out.below hW).2 k HLT.out
      rw [eg] at r3
      rw [show rtL (A k).z (A k).x (A k).y (A k).fn (A k).F=_ from if_pos hC0.out]
      exact zG3 b (k * 5) _ _ _ gb (A k).fn (A k).fc (A k).F W ⟨r0,r1,r2,r3⟩ hgt hgl h12 hok hr
     obtain ⟨B,hBB0⟩:∃ B,vI (A k).m (rtL (A k).z (A k).x (A k).y (A k).fn (A k).F).length (A k).I (nz (rtL (A k).z (A k).x (A k).y (A k).fn (A k).F))=B:=⟨_,rfl⟩
     have hBB:Hid (vI (A k).m (rtL (A k).z (A k).x (A k).y (A k).fn (A k).F).length (A k).I (nz (rtL (A k).z (A k).x (A k).y (A k).fn (A k).F))=B):=hBB0
     have HSm:Hid (∀ W,Bw w1 W→∀ va vc,uE W va (rtL (A k).z (A k).x (A k).y (A k).fn (A k).F).length (nz (rtL (A k).z (A k).x (A k).y (A k).fn (A k).F))→Calls Tryz.prog 140 #[.slice (A k).ia (A k).m (A k).ic,.slice va (rtL (A k).z (A k).x (A k).y (A k).fn (A k).F).length vc] W fun e w'=>e=.returned (.bool B)∧Bw W w'):=fun W hW va vc hv=>by
      rw [← hBB.out]
      exact zI6 _ va _ _ _ vc _ _ W ((HR1.out.below hW).2 k HLT.out).2.2 hv (HS.out.2 k HLT.out).2
     have d4:∀ W,Bw w1 W→W.cell? ⟨b,k * 5+4,none⟩=some (.slice (A k).ia (A k).m (A k).ic):=fun W hW=>((HR1.out.below hW).2 k HLT.out).1.2.2.2.2
     clear q0 q1 q2 q3 q4 m0 m1 hC hBB0 HL8 hb1
     go_wp2_with fail
     refine wp_region_noPanic ?_
     refine wp_region_held_drew (S:=fun W'=>Bw w1 W') (by kernel_rfl) (by have:=Below.refl w1.heap.size w1;exact Qb) (fun hHeld=>?_)
     have hSd:Bw w1 w1.drew:=hHeld
     refine zE (i:=0) (d:=some 44) rfl rfl (hS:=hSd) ?_
     try simp only [Act.put,Qx,Qy,Qz]
     refine zE (i:=1) (d:=some 45) rfl rfl (hS:=hSd) ?_
     try simp only [Act.put,Qx,Qy,Qz]
     refine zE (i:=2) (d:=some 46) rfl rfl (hS:=hSd) ?_
     try simp only [Act.put,Qx,Qy,Qz]
     refine zE (i:=3) (d:=some 47) rfl rfl (hS:=hSd) ?_
     try simp only [Act.put,Qx,Qy,Qz]
     refine zE (i:=4) (d:=some 48) rfl rfl (hS:=hSd) ?_
     try simp only [Act.put,Qx,Qy,Qz]
     refine zE (i:=5) (d:=some 49) rfl rfl (hS:=hSd) ?_
     try simp only [Act.put,Qx,Qy,Qz]
     refine zE (i:=6) (d:=some 50) rfl rfl (hS:=hSd) ?_
     try simp only [Act.put,Qx,Qy,Qz]
     refine zO 7 fun K hK=>?_
     rw [if_pos (by rfl)]
     go_simp
     refine Calls.mono (HRas.out _ hSd) ?_
     rintro e wB ⟨v,rfl,hrow,hbB⟩
     have hSB:Bw w1 wB:=zA hSd hbB
     obtain ⟨va,vc,rfl,hvc,hvn⟩:=hrow.own.pts
     have HSm2:=(show Hid _ from HSm.out wB hSB va vc hvn)
     clear hrow hvn hvc
     go_wp2_with fail
     refine hK.out _ _ hSB (fun hHeld=>?_)
     clear hK K hbB
     try simp only [Act.put,Qx,Qy,Qz]
     refine zO 8 fun K hK=>?_
     rw [if_pos (by rfl)]
     go_simp
     refine Calls.mono HSm2.out ?_
     rintro e wC ⟨rfl,hbC⟩
     have hSC:Bw w1 wC:=zA hSB hbC
     go_wp2_with fail
     refine hK.out _ _ hSC (fun hHeld=>?_)
     clear hK K hbC HSm2
     try simp only [Act.put,Qx,Qy,Qz]
     refine zE (i:=9) (d:=some 53) rfl rfl (hS:=hSC) ?_
     try simp only [Act.put,Qx,Qy,Qz]
     refine wpAnyH_done (by kernel_rfl) ?_ _
     refine NoPanic.normal ?_
     have HC3:Hid (Bw w wC):=zA HB1.out hSC
     have HR3:Hid (zB7 wC b n A):=HR1.out.below hSC
     clear d4 HRas HSm hSB hSd hSC
     cases B
     ·have hsc:Hid (cacheC s n A=8):=first.out 8 ((zQh (by rw [zCh hC0.out hBB.out];decide)).trans (zCh hC0.out hBB.out)) (by decide)
      go_wp2
      go_ret
      exact ⟨zD hsc.out.symm,HC3.out⟩
     ·have ht0:Hid (tC (A k)=0):=tC_ok hC0.out hBB.out
      have HH:Hid (Calls Tryz.prog 68 #[.pointer (some ⟨q,o,none⟩),xD (A k).z (A k).x (A k).y] wC fun e w'=>e=.returned (.int .i64 (atK n A (A k).z (A k).x (A k).y))∧Bw wC w') :=
       zC9 q o s _ n cap A _ _ _ wC (HC.out.below HC3.out) HR3.out.is hn
      obtain ⟨g0,g1,g2,g3,g4⟩:=(HR3.out.2 k HLT.out).1
      clear g3 g4
      rcases zP8 HLT.out with ⟨hq,hq2⟩ | ⟨hq,i,hik,hq2⟩
      ·have hok:Hid (kC A k=0):=kC_ok ht0.out hq
       rw [hq2] at HH
       clear hq hq2
       generalize (A k).z=rz at *
       generalize (A k).x=rx at *
       generalize (A k).y=ry at *
       go_wp2_with (go_at_call 68;refine HH.out.mono ?_;rintro e w' ⟨rfl,hb⟩)
       go_roundw
       case rel=>exact ⟨k+1,by have:=HLT.out;omega,by go_num,HOK.out hok.out,zA HC3.out (by assumption)⟩
       case measure=>have:=HLT.out;simp [intOf];omega
      ·have hsc:Hid (cacheC s n A=6):=first.out 6 (zPl ht0.out hq) (by decide)
       have hne:((i:Int) == (k:Int))=false:=by simp;omega
       rw [hq2] at HH
       clear hq hq2
       generalize (A k).z=rz at *
       generalize (A k).x=rx at *
       generalize (A k).y=ry at *
       generalize (i:Int)=ii at *
       clear hik
       go_wp2_with (go_at_call 68;refine HH.out.mono ?_;rintro e w' ⟨rfl,hb⟩)
       go_ret
       exact ⟨zD hsc.out.symm,zA HC3.out (by assumption)⟩
    ·have hsc:Hid (cacheC s n A=rtC (A k).z (A k).x (A k).y (A k).fn (A k).F):=first.out _ ((zQh (by rw [zMx hC];exact hC)).trans (zMx hC)) hC
     have hcb:(rtC (A k).z (A k).x (A k).y (A k).fn (A k).F == 0)=false:=by simpa using hC
     generalize rtC (A k).z (A k).x (A k).y (A k).fn (A k).F=rc at *
     go_wp2_with fail
     refine HL8.out.mono ?_
     rintro e w1 ⟨rfl,hb1⟩
     go_wp2
     go_ret
     exact ⟨zD hsc.out.symm,zA HB.out hb1⟩
   ·have hsc:Hid (cacheC s n A=0):=by
     show _=_
     rw [hz.out]
     exact yJ _ _ _ (fun j _ hj=>HZ.out j (by omega))
    go_wp2
    go_ret
    exact ⟨zD hsc.out.symm,HB.out⟩
end Go.Proofs.YtpaiholildedcaaGreat
