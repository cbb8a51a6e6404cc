/- Texts. -/
import Derived.Test.YtpaiholildedcaaGreatVFrameOf33
import Derived.Test.YtpaiholildedcaaGreatVFrameOf26
set_option linter.unusedSimpArgs false
set_option linter.unusedVariables false
set_option maxRecDepth 100000
set_option maxHeartbeats 32000000
namespace Go.Proofs.YtpaiholildedcaaGreat
open Go.RowKit
theorem zBi (c:Int)(m:Nat)(Z:Nat→Int)(z x y wd ht now s:Int)(a:Option Addr)(n cap:Nat)(K:Nat→Kp)(ra:Option Addr)(rn rc:Nat)(E:Nat→Req)(bad:Int)(w:World)(h:(zCf w a n K∧zAd n K)∧uQ w ra rn E∧rn≤rc∧rc≤maxLen)(hm:m≤1048576)(hsp:zL n K→rn≤1048576→∀ (W:World) (b rb:Nat) (A:Nat→Kp),zGa W b n K A rb rn E→Calls Tryz.prog 14 #[vwV z x y wd ht now s (.slice (some ⟨b,0,none⟩) n n) (.slice (some ⟨rb,0,none⟩) rn rn) bad] W fun e w'=>∃ v,e=.returned (.agg #[.int .i64 c,v])∧uM w' W.heap.size v m Z∧Bw W w')(him:zL n K→rn≤1048576→∀ (W:World) (b rb:Nat) (A:Nat→Kp),zGa W b n K A rb rn E→Calls Tryz.prog 16 #[vwV z x y wd ht now s (.slice (some ⟨b,0,none⟩) n n) (.slice (some ⟨rb,0,none⟩) rn rn) bad] W fun e w'=>∃ v,e=.returned (.agg #[.int .i64 c,v])∧uM w' W.heap.size v m Z∧Bw W w') :
  Calls Tryz.prog 4 #[vwV z x y wd ht now s (.slice a n cap) (.slice ra rn rc) bad] w fun e w'=>e=.returned (.bool true)∧Bw w w':=by
 obtain ⟨⟨hf,hc⟩,hr,hrc,hrm⟩:=h
 have HI:Hid (zCf w a n K):=hf
 have HC:Hid (zAd n K):=hc
 have HRq:Hid (uQ w ra rn E):=hr
 have hrl:rn≤maxLen:=Nat.le_trans hrc hrm
 have Hspec:=(show Hid _ from hsp)
 have Himpl:=(show Hid _ from him)
 clear hf hc hr hrc hrm hsp him
 go_enter Tryz.func4,Tryz.ntmps4
 go_wp2_with fail
 generalize hW:(w.alloc _:World)=W
 have HB0:Hid (Bw w W):=by show Below _ _ _;subst hW;exact Qb
 have HV:Hid (Blk W w.heap.size [.int .i64 z,.int .i64 x,.int .i64 y,.int .i64 wd,.int .i64 ht,.int .i64 now,.int .i64 s,.slice a n cap,.slice ra rn rc,.int .i64 bad]):=by show Blk _ _ _;subst hW;exact Blk.new _ _ _
 have hvl:w.heap.size<W.heap.size:=HV.out.lt
 clear hW
 refine (zGo z x y wd ht now s a n cap K ra rn rc bad W (HI.out.below HB0.out) HC.out hrl).mono ?_
 rintro e w1 ⟨rfl | ⟨m0,hS,hrn,rfl⟩,hb1⟩
 ·have HB1:Hid (Bw w w1):=zA HB0.out hb1
  clear hb1 Hspec Himpl
  go_wp2
  go_ret
  exact ⟨rfl,HB1.out⟩
 have HS:Hid (zL n K):=hS
 have hneg:¬ ((m0:Nat):Int)<0:=by omega
 have Hsp:=(show Hid _ from Hspec.out hS hrn)
 have Him:=(show Hid _ from Himpl.out hS hrn)
 have HBw:Hid (Bw w w1):=zA HB0.out hb1
 have HTo:Hid (∀ W',Bw w1 W'→Calls Tryz.prog 15 #[vwV z x y wd ht now s (.slice a n cap) (.slice ra rn rc) bad] W' fun e w'=>∃ b A rb,e=.returned (vwV z x y wd ht now s (.slice (some ⟨b,0,none⟩) n n) (.slice (some ⟨rb,0,none⟩) rn rn) bad)∧W'.heap.size≤b∧W'.heap.size≤rb∧zGa w' b n K A rb rn E∧VkW w' W'.heap.size w'.heap.size b n A rb rn∧Below W'.heap.size W' w'):=fun W' h=>zGi z x y wd ht now s a n cap K ra rn rc E bad W' (HI.out.below (zA HBw.out h)) HS.out (HRq.out.below (zA HBw.out h)) hrn
 have HEq:Hid (∀ (W:World) (b b' rb rb':Nat) (A H:Nat→Kp),zGa W b n K A rb rn E→zGa W b' n K H rb' rn E→Calls Tryz.prog 18 #[vwV z x y wd ht now s (.slice (some ⟨b,0,none⟩) n n) (.slice (some ⟨rb,0,none⟩) rn rn) bad,vwV z x y wd ht now s (.slice (some ⟨b',0,none⟩) n n) (.slice (some ⟨rb',0,none⟩) rn rn) bad] W fun e w'=>e=.returned (.bool true)∧Bw W w'):=fun W b b' rb rb' A H h1 h2=>zHo z x y wd ht now s n rn b b' rb rb' K A H E bad W h1 h2 HS.out hrn
 have HV1:Hid (∀ W',Bw w1 W'→Blk W' w.heap.size [.int .i64 z,.int .i64 x,.int .i64 y,.int .i64 wd,.int .i64 ht,.int .i64 now,.int .i64 s,.slice a n cap,.slice ra rn rc,.int .i64 bad]):=fun W' h=>HV.out.below hvl (zA hb1 h)
 have hB1:Bw w1 w1:=Below.refl _ _
 have hv1:=HV1.out w1 hB1
 have hwl:w.heap.size<w1.heap.size:=Nat.lt_of_lt_of_le hvl hb1.size
 obtain ⟨d0,d1,d2,d3,d4,d5,d6,d7,d8,d9⟩:=Blk.c10 hv1
 clear hS hb1 Hspec Himpl HI HC HRq HB0 HV hv1
 go_wp2_with fail
 refine Calls.mono (HTo.out _ hB1) ?_
 rintro e wp ⟨bp,Ap,rbp,rfl,hle2,hlr2,hO2,_,hb2⟩
 have HBp:Hid (Bw w1 wp):=hb2
 have HOp:Hid (zGa wp bp n K Ap rbp rn E):=hO2
 clear hO2 hb2
 go_wp2_with fail
 refine (Hsp.out _ _ _ _ HOp.out).mono ?_
 rintro e wq ⟨vq,rfl,hOq,hbq⟩
 obtain ⟨a0,cap0,rfl,hc0,hI0⟩:=hOq.pts
 have HIq:Hid (uE wq a0 m Z):=hI0
 have HBq:Hid (Bw w1 wq):=zA HBp.out hbq
 clear hOq hI0 hbq HOp HBp Hsp d0 d1 d2 d3 d4 d5 d6 d7 d8 d9
 have hlq:w.heap.size<wq.heap.size:=Nat.lt_of_lt_of_le hwl HBq.out.size
 have hvq:=HV1.out wq HBq.out
 have v0:∀ o,(wq.alloc o).cell? ⟨w.heap.size,0,none⟩=_:=fun o=>(hvq.alloc hlq o).cell 0 rfl
 have v1:∀ o,(wq.alloc o).cell? ⟨w.heap.size,1,none⟩=_:=fun o=>(hvq.alloc hlq o).cell 1 rfl
 have v2:∀ o,(wq.alloc o).cell? ⟨w.heap.size,2,none⟩=_:=fun o=>(hvq.alloc hlq o).cell 2 rfl
 have v3:∀ o,(wq.alloc o).cell? ⟨w.heap.size,3,none⟩=_:=fun o=>(hvq.alloc hlq o).cell 3 rfl
 have v4:∀ o,(wq.alloc o).cell? ⟨w.heap.size,4,none⟩=_:=fun o=>(hvq.alloc hlq o).cell 4 rfl
 have v5:∀ o,(wq.alloc o).cell? ⟨w.heap.size,5,none⟩=_:=fun o=>(hvq.alloc hlq o).cell 5 rfl
 have v6:∀ o,(wq.alloc o).cell? ⟨w.heap.size,6,none⟩=_:=fun o=>(hvq.alloc hlq o).cell 6 rfl
 have v7:∀ o,(wq.alloc o).cell? ⟨w.heap.size,7,none⟩=_:=fun o=>(hvq.alloc hlq o).cell 7 rfl
 have v8:∀ o,(wq.alloc o).cell? ⟨w.heap.size,8,none⟩=_:=fun o=>(hvq.alloc hlq o).cell 8 rfl
 have v9:∀ o,(wq.alloc o).cell? ⟨w.heap.size,9,none⟩=_:=fun o=>(hvq.alloc hlq o).cell 9 rfl
 clear hvq
 go_wp2_with fail
 generalize hW3:(wq.alloc _:World)=w3
 have hb3:Bw wq w3:=by subst hW3;exact Qb
 have p0:w3.cell? ⟨wq.heap.size,0,none⟩=some (.int .i64 c):=by subst hW3;simp [go_sem]
 have p1:w3.cell? ⟨wq.heap.size,1,none⟩=some (.slice a0 m cap0):=by subst hW3;simp [go_sem]
 clear hW3
 obtain ⟨b7,hb7e⟩:∃ b,wq.heap.size=b:=⟨_,rfl⟩
 have hb7q:b7<w3.heap.size:=by rw [← hb7e];exact World.block_lt_of_cell? _ _ p0
 have hl7:=hb7q
 have HI3:Hid (yV w3.heap.size w3 a0 m Z):=HIq.out.below hb3
 have hB3:Bw w1 w3:=zA HBq.out hb3
 rw [hb7e] at p0 p1
 simp only [hb7e]
 clear hb3 HIq HBq hb7e
 have d0:∀ W',Bw w3 W'→W'.cell? ⟨b7,0,none⟩=some (.int .i64 c):=fun W' h=>zJ h p0
 have d1:∀ W',Bw w3 W'→W'.cell? ⟨b7,1,none⟩=some (.slice a0 m cap0):=fun W' h=>zJ h p1
 clear p0 p1
 have hw3:=hB3.size
 have HB3:Hid (Bw w1 w3):=hB3
 clear hB3 v0 v1 v2 v3 v4 v5 v6 v7 v8 v9
 refine Calls.mono (HTo.out _ HB3.out) ?_
 rintro e w4a ⟨b4,A4,rb4,rfl,hle4,hlr4,hO4,hK4,hb4⟩
 have HO4a:Hid (zGa w4a b4 n K A4 rb4 rn E):=hO4
 have HK4a:Hid (VkW w4a w3.heap.size w4a.heap.size b4 n A4 rb4 rn):=hK4
 have HB4a:Hid (Bw w3 w4a):=hb4
 clear hO4 hK4 hb4
 go_wp2_with fail
 generalize hwA:(w4a.alloc _:World)=w4
 have HB4b:Hid (Bw w4a w4):=by show Below _ _ _;subst hwA;exact Qb
 have HX4:Hid (Blk w4 w4a.heap.size [.int .i64 z,.int .i64 x,.int .i64 y,.int .i64 wd,.int .i64 ht,.int .i64 now,.int .i64 s,.slice (some ⟨b4,0,none⟩) n n,.slice (some ⟨rb4,0,none⟩) rn rn,.int .i64 bad]):=by show Blk _ _ _;subst hwA;exact Blk.new _ _ _
 clear hwA
 have HO4:Hid (zGa w4 b4 n K A4 rb4 rn E):=HO4a.out.below HB4b.out
 have HK4:Hid (VkW w4 w3.heap.size w4a.heap.size b4 n A4 rb4 rn):=HK4a.out.below HB4b.out
 have hs4a:=HB4a.out.size
 have hbx:w3.heap.size≤w4a.heap.size:=hs4a
 have hxl:w4a.heap.size<w4.heap.size:=HX4.out.lt
 have hb4:Bw w3 w4:=zA HB4a.out HB4b.out
 obtain ⟨bx,hbxe⟩:∃ b,w4a.heap.size=b:=⟨_,rfl⟩
 rw [hbxe] at hbx hxl
 simp only [hbxe] at HX4 HK4 ⊢
 clear HO4a HK4a HB4a HB4b hs4a hbxe
 have hB4:Bw w1 w4:=zA HB3.out hb4
 have HI4:Hid (yV w3.heap.size w4 a0 m Z):=HI3.out.below hb4 (Nat.le_refl _)
 have d0':∀ W',Bw w4 W'→W'.cell? ⟨b7,0,none⟩=some (.int .i64 c):=fun W' h=>d0 W' (zA hb4 h)
 have d1':∀ W',Bw w4 W'→W'.cell? ⟨b7,1,none⟩=some (.slice a0 m cap0):=fun W' h=>d1 W' (zA hb4 h)
 have hle34:=hb4.size
 have HX4':Hid (∀ W',Bw w4 W'→Blk W' bx [.int .i64 z,.int .i64 x,.int .i64 y,.int .i64 wd,.int .i64 ht,.int .i64 now,.int .i64 s,.slice (some ⟨b4,0,none⟩) n n,.slice (some ⟨rb4,0,none⟩) rn rn,.int .i64 bad]):=fun W' h=>HX4.out.below hxl h
 clear d0 d1 HI3 hb4 HX4
 refine (Him.out _ _ _ _ HO4.out).mono ?_
 rintro e wr ⟨vr,rfl,hOr,hbr⟩
 obtain ⟨a1,cap1,rfl,hc1,_⟩:=hOr.pts
 have HOr:Hid (uM wr w4.heap.size (.slice a1 m cap1) m Z):=hOr
 have hkr:∀ s,m≠0→a1=some ⟨s,0,none⟩→s<wr.heap.size:=fun s h1 h2=>by
  obtain ⟨_,_,hv,_,h0 | ⟨b,ha,_,hl,_⟩⟩:=hOr
  ·exact absurd h0 h1
  ·injection hv with e1 _ _
   rw [h2] at e1;rw [← e1] at ha;injection ha with ha;injection ha with ha;subst ha;exact hl
 clear hOr
 have z0:=d0' _ hbr
 have z1:=d1' _ hbr
 have lz:b7<wr.heap.size:=World.block_lt_of_cell? _ _ z0
 go_wp2_with fail
 generalize hW5:(wr.alloc _:World)=w5
 have hb5:Bw wr w5:=by subst hW5;exact Qb
 have r0:w5.cell? ⟨wr.heap.size,0,none⟩=some (.int .i64 c):=by subst hW5;simp [go_sem]
 have r1:w5.cell? ⟨wr.heap.size,1,none⟩=some (.slice a1 m cap1):=by subst hW5;simp [go_sem]
 clear hW5
 have hB5:Bw w4 w5:=zA hbr hb5
 obtain ⟨b9,hb9e⟩:∃ b,wr.heap.size=b:=⟨_,rfl⟩
 have hb9:w4.heap.size≤b9:=by rw [← hb9e];exact hbr.size
 have hl9:b9<w5.heap.size:=by rw [← hb9e];exact World.block_lt_of_cell? _ _ r0
 have hO5:uM w5 w4.heap.size (.slice a1 m cap1) m Z:=HOr.out.below hb5
 have hne5:∀ s,m≠0→a1=some ⟨s,0,none⟩→s≠b9:=fun s h1 h2=>by have:=hkr s h1 h2;omega
 rw [hb9e] at r0 r1
 simp only [hb9e]
 clear hb5 hbr HOr z0 z1 lz hb9e hkr
 have HO5:Hid (uM w5 w4.heap.size (.slice a1 m cap1) m Z):=hO5
 have HNE:Hid (∀ s,m≠0→a1=some ⟨s,0,none⟩→s≠b9):=hne5
 have HI5:Hid (yV w3.heap.size w5 a0 m Z):=HI4.out.below hB5 hle34
 have p0:=d0' _ hB5
 have p1:=d1' _ hB5
 have HP5:Hid (zGa w5 b4 n K A4 rb4 rn E):=HO4.out.below hB5
 have HK5:Hid (VkW w5 w3.heap.size bx b4 n A4 rb4 rn):=HK4.out.below hB5
 have HX5:Hid (∀ W',Bw w5 W'→Blk W' bx [.int .i64 z,.int .i64 x,.int .i64 y,.int .i64 wd,.int .i64 ht,.int .i64 now,.int .i64 s,.slice (some ⟨b4,0,none⟩) n n,.slice (some ⟨rb4,0,none⟩) rn rn,.int .i64 bad]):=fun W' h=>HX4'.out W' (zA hB5 h)
 have hw5:=hB5.size
 have HB5:Hid (Bw w1 w5):=zA hB4 hB5
 clear hO5 hne5 d0' d1' HI4 HO4 HK4 hB4 hB5 HX4'
 refine (xS c _ _ _ _ _ Z _ HO5.out.is (HI5.out.is (by omega)) hm).mono ?_
 rintro e w6 ⟨rfl,hb6⟩
 have hw6:=hb6.size
 have HO6:Hid (uM w6 w4.heap.size (.slice a1 m cap1) m Z):=HO5.out.below hb6
 have HI6:Hid (yV w3.heap.size w6 a0 m Z):=HI5.out.below hb6 (by omega)
 have HP6:Hid (zGa w6 b4 n K A4 rb4 rn E):=HP5.out.below hb6
 have HK6:Hid (VkW w6 w3.heap.size bx b4 n A4 rb4 rn):=HK5.out.below hb6
 have HB6:Hid (Bw w1 w6):=zA HB5.out hb6
 have g0:=zJ hb6 r0
 have g1:=zJ hb6 r1
 have h0:=zJ hb6 p0
 have h1:=zJ hb6 p1
 have hx:∀ W',Bw w6 W'→Blk W' bx [.int .i64 z,.int .i64 x,.int .i64 y,.int .i64 wd,.int .i64 ht,.int .i64 now,.int .i64 s,.slice (some ⟨b4,0,none⟩) n n,.slice (some ⟨rb4,0,none⟩) rn rn,.int .i64 bad]:=fun W' h=>HX5.out W' (zA hb6 h)
 have hv:∀ W',Bw w6 W'→Blk W' w.heap.size [.int .i64 z,.int .i64 x,.int .i64 y,.int .i64 wd,.int .i64 ht,.int .i64 now,.int .i64 s,.slice a n cap,.slice ra rn rc,.int .i64 bad]:=fun W' h=>HV1.out W' (zA HB6.out h)
 have HX6:Hid (∀ W',Bw w6 W'→Blk W' bx [.int .i64 z,.int .i64 x,.int .i64 y,.int .i64 wd,.int .i64 ht,.int .i64 now,.int .i64 s,.slice (some ⟨b4,0,none⟩) n n,.slice (some ⟨rb4,0,none⟩) rn rn,.int .i64 bad]):=hx
 obtain ⟨x0,x1,x2,x3,x4,x5,x6,x7,x8,x9⟩:=Blk.g10 (b:=w6.heap.size) (v:=w6) fun W' h=>(hx W' h)
 obtain ⟨v0,v1,v2,v3,v4,v5,v6,v7,v8,v9⟩:=Blk.g10 (b:=w6.heap.size) (v:=w6) fun W' h=>(hv W' h)
 clear r0 r1 p0 p1 hb6 HO5 HI5 HP5 HK5 HB5 HX5 hx hv
 go_wp2_with fail
 refine wp_region_noPanic ?_
 refine wp_region_held_drew (S:=fun W'=>Bw w6 W') (by kernel_rfl) (by have:=Below.refl w6.heap.size w6;exact Qb) (fun hHeld=>?_)
 have hX0:Bw w6 w6.drew:=hHeld
 refine zE (i:=0) (d:=some 27) rfl rfl ?_
 try simp only [Act.put,Qx,Qy,Qz]
 refine zE (i:=1) (d:=some 28) rfl rfl ?_
 try simp only [Act.put,Qx,Qy,Qz]
 generalize w6.drew=wk0 at *
 refine zO 2 fun K hK=>?_
 rw [if_pos (by rfl)]
 go_simp
 refine Calls.mono (HTo.out _ (zA HB6.out hX0)) ?_
 rintro e wk1 ⟨bq,Aq,rq,rfl,hge,hgr,hOq,_,hb1⟩
 have hX1:Bw w6 wk1:=zA hX0 hb1
 go_wp2_with fail
 refine hK.out _ _ (by assumption) (fun hHeld=>?_)
 clear hK K
 try simp only [Act.put,Qx,Qy,Qz]
 refine zO 3 fun K hK=>?_
 rw [if_pos (by rfl)]
 go_simp
 refine Calls.mono (HEq.out _ _ _ _ _ _ _ (HP6.out.below hX1) hOq) ?_
 rintro e wk2 ⟨rfl,hb2⟩
 have hX2:Bw w6 wk2:=zA hX1 hb2
 go_wp2_with fail
 refine hK.out _ _ (by assumption) (fun hHeld=>?_)
 clear hK K
 try simp only [Act.put,Qx,Qy,Qz]
 refine zE (i:=4) (d:=some 31) rfl rfl ?_
 try simp only [Act.put,Qx,Qy,Qz]
 refine wpAnyH_done (by kernel_rfl) ?_ _
 refine NoPanic.normal ?_
 have HB8:Hid (Bw w6 wk2):=hX2
 have hsk2:=HB8.out.size
 have HO8:Hid (uM wk2 w4.heap.size (.slice a1 m cap1) m Z):=HO6.out.below HB8.out
 have HI8:Hid (yV w3.heap.size wk2 a0 m Z):=HI6.out.below HB8.out (by omega)
 have HK8:Hid (VkW wk2 w3.heap.size bx b4 n A4 rb4 rn):=HK6.out.below HB8.out
 have HB8w:Hid (Bw w1 wk2):=zA HB6.out HB8.out
 have i0:=zJ HB8.out g0
 have i1:=zJ HB8.out g1
 have j0:=zJ HB8.out h0
 have j1:=zJ HB8.out h1
 have hx8:=HX6.out wk2 HB8.out
 have HMk:Hid (Calls Tryz.prog 19 #[vwV z x y wd ht now s (.slice (some ⟨b4,0,none⟩) n n) (.slice (some ⟨rb4,0,none⟩) rn rn) bad,.int .i64 1] wk2 fun e w'=>(∃ q:Nat,e=.returned (.int .i64 (q:Int)))∧zR w3.heap.size bx wk2 w'):=zD6 z x y wd ht now s _ _ b4 n A4 rb4 rn bad wk2 HK8.out (HP6.out.1.small HS.out) hrn
 clear x0 v0 x1 v1 x2 v2 x3 v3 x4 v4 x5 v5 x6 v6 x7 v7 x8 v8 x9 v9 g0 g1 h0 h1 hX0 hb1 hX1 hb2 hX2 hOq hge hgr HO6 HI6 HK6 HP6 HB6 HX6 HEq HK8 HB8
 obtain ⟨x0,x1,x2,x3,x4,x5,x6,x7,x8,x9⟩:=Blk.c10 hx8
 clear hx8
 go_wp2_with fail
 refine Calls.mono HMk.out ?_
 rintro e wa ⟨⟨qn,rfl⟩,hGa⟩
 have hqn:¬ ((qn:Nat):Int)<0:=by omega
 have hwa:=hGa.size
 have l0:wa.cell? ⟨b9,0,none⟩=some (.int .i64 c):=hGa.cell i0 (.inr (by omega))
 have l1:wa.cell? ⟨b9,1,none⟩=some (.slice a1 m cap1):=hGa.cell i1 (.inr (by omega))
 have m0:wa.cell? ⟨b7,0,none⟩=some (.int .i64 c):=hGa.cell j0 (.inl (by omega))
 have m1:wa.cell? ⟨b7,1,none⟩=some (.slice a0 m cap0):=hGa.cell j1 (.inl (by omega))
 have HOa:Hid (uM wa w4.heap.size (.slice a1 m cap1) m Z):=HO8.out.midV hGa (by omega)
 have HIa:Hid (yV w3.heap.size wa a0 m Z):=HI8.out.midV hGa (Nat.le_refl _)
 have HBa:Hid (Bw w1 wa):=HB8w.out.trans ((hGa.below (by omega)).mono (by omega))
 clear x0 x1 x2 x3 x4 x5 x6 x7 x8 x9 i0 i1 j0 j1 hGa HO8 HI8 HMk HB8w
 go_wp2_with fail
 refine (xS c _ _ _ _ _ Z _ HOa.out.is (HIa.out.is (by omega)) hm).mono ?_
 rintro e wb ⟨rfl,hbb⟩
 have g0:=zJ hbb l0
 have g1:=zJ hbb l1
 have h0:=zJ hbb m0
 have h1:=zJ hbb m1
 have hwb:=hbb.size
 have HOb:Hid (uM wb w4.heap.size (.slice a1 m cap1) m Z):=HOa.out.below hbb
 have HIb:Hid (yV w3.heap.size wb a0 m Z):=HIa.out.below hbb (by omega)
 have HBb:Hid (Bw w1 wb):=zA HBa.out hbb
 clear l0 l1 m0 m1 HOa HIa HBa hbb
 obtain ⟨row,hrow,Hmark⟩:=zNi c w4.heap.size m cap1 a1 Z wb HOb.out hm
 have Hmark':=(show Hid _ from Hmark)
 have Hrow:Hid (∀ s,row=some s→w4.heap.size≤s∧s≠b9):=fun s hs=>⟨(hrow s hs).1,HNE.out s (hrow s hs).2.1 (hrow s hs).2.2⟩
 clear Hmark hrow
 have hqm:¬ ((1+m:Nat):Int)<0:=by omega
 have Hheld:Hid (∀ w,uM w w4.heap.size (.slice a1 m cap1) m (mkN 1)→Calls Tryz.prog 21 #[.agg #[.int .i64 c,.slice a1 m cap1],.int .i64 1] w fun e w'=>e=.returned (.int .i64 ((1+m:Nat):Int))∧Bw w w'):=fun w h=>zBd c a1 m cap1 w h.is hm
 generalize ((1+m:Nat):Int)=qm at *
 go_wp2_with fail
 refine Calls.mono Hmark'.out ?_
 rintro e wc ⟨rfl,hGc,hOc⟩
 have hwc:=hGc.size
 have l0:wc.cell? ⟨b9,0,none⟩=some (.int .i64 c):=zCj hGc g0 (fun s hs=>by have:=Hrow.out s hs;omega)
 have l1:wc.cell? ⟨b9,1,none⟩=some (.slice a1 m cap1):=zCj hGc g1 (fun s hs=>by have:=Hrow.out s hs;omega)
 have m0:wc.cell? ⟨b7,0,none⟩=some (.int .i64 c):=zCj hGc h0 (fun s hs=>by have:=Hrow.out s hs;omega)
 have m1:wc.cell? ⟨b7,1,none⟩=some (.slice a0 m cap0):=zCj hGc h1 (fun s hs=>by have:=Hrow.out s hs;omega)
 have HOc:Hid (uM wc w4.heap.size (.slice a1 m cap1) m (mkN 1)):=hOc
 have HIc:Hid (yV w3.heap.size wc a0 m Z):=HIb.out.row hGc (fun s hs=>by have:=Hrow.out s hs;omega)
 have HBc:Hid (Bw w1 wc):=HBb.out.trans (zL9 hGc (fun s hs=>by have:=Hrow.out s hs;omega) (by omega))
 clear g0 g1 h0 h1 hOc hGc HBb HIb HOb Hmark'
 go_wp2_with fail
 refine (Hheld.out _ HOc.out).mono ?_
 rintro e wd' ⟨rfl,hbd⟩
 have hwd:=hbd.size
 have g0:=zJ hbd l0
 have g1:=zJ hbd l1
 have h0:=zJ hbd m0
 have h1:=zJ hbd m1
 have HOd:Hid (uM wd' w4.heap.size (.slice a1 m cap1) m (mkN 1)):=HOc.out.below hbd
 have HId:Hid (yV w3.heap.size wd' a0 m Z):=HIc.out.below hbd (by omega)
 have HBd:Hid (Bw w1 wd'):=zA HBc.out hbd
 have hvd:=HV1.out wd' HBd.out
 obtain ⟨v0,v1,v2,v3,v4,v5,v6,v7,v8,v9⟩:=Blk.c10 hvd
 clear l0 l1 m0 m1 HOc HIc HBc hbd hvd
 go_wp2_with fail
 refine Calls.mono (HTo.out _ HBd.out) ?_
 rintro e we ⟨be,Ae,re,rfl,_,_,hpe,_,hbe⟩
 have HPe:Hid (zGa we be n K Ae re rn E):=hpe
 clear v0 v1 v2 v3 v4 v5 v6 v7 v8 v9 hpe
 go_wp2_with fail
 refine (Him.out _ _ _ _ HPe.out).mono ?_
 rintro e wf ⟨vf,rfl,hOf,hbf⟩
 obtain ⟨af,capf,rfl,hcf,hIf⟩:=hOf.pts
 have hbdf:=zA hbe hbf
 have l0:=zJ hbdf g0
 have l1:=zJ hbdf g1
 have m0:=zJ hbdf h0
 have m1:=zJ hbdf h1
 have hwf:=hbdf.size
 have HOf:Hid (uM wf w4.heap.size (.slice a1 m cap1) m (mkN 1)):=HOd.out.below hbdf
 have HIf:Hid (yV w3.heap.size wf a0 m Z):=HId.out.below hbdf (by omega)
 have HBf:Hid (Bw w1 wf):=zA HBd.out hbdf
 have HJf:Hid (uE wf af m Z):=hIf
 have lm:b7<wf.heap.size:=World.block_lt_of_cell? _ _ m0
 have ll:b9<wf.heap.size:=World.block_lt_of_cell? _ _ l0
 clear g0 g1 h0 h1 HOd HId HBd hbdf hIf hOf hbe hbf HPe Him HTo
 go_wp2_with fail
 generalize hWx:(wf.alloc _:World)=wx
 have hbx':Bw wf wx:=by subst hWx;exact Qb
 clear hWx
 have k0:=zJ hbx' l0
 have k1:=zJ hbx' l1
 have hwx:=hbx'.size
 refine (xS c _ _ _ _ _ Z _ (HJf.out.below hbx') ((HIf.out.below hbx' (by omega)).is (by omega)) hm).mono ?_
 rintro e wh ⟨rfl,hbh⟩
 have hbfh:=zA hbx' hbh
 have HOh:Hid (uM wh w4.heap.size (.slice a1 m cap1) m (mkN 1)):=HOf.out.below hbfh
 have HBh:Hid (Bw w1 wh):=zA HBf.out hbfh
 have s0:=zJ hbh k0
 have s1:=zJ hbh k1
 clear l0 l1 m0 m1 k0 k1 HOf HIf HBf HJf hbfh hbx' hbh
 go_wp2_with fail
 refine (Hheld.out _ HOh.out).mono ?_
 rintro e wi ⟨rfl,hbi'⟩
 have HBi:Hid (Bw w wi):=zA HBw.out (zA HBh.out hbi')
 clear hbi'
 go_wp2
 go_ret
 exact ⟨rfl,HBi.out⟩
end Go.Proofs.YtpaiholildedcaaGreat
