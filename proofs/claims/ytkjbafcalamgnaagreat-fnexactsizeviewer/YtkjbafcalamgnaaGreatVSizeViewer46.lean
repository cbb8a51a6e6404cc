/- Texts. -/
import Derived.Test.YtkjbafcalamgnaaGreatVSizeViewer44
set_option linter.unusedSimpArgs false
set_option linter.unusedVariables false
set_option maxRecDepth 100000
set_option maxHeartbeats 32000000
namespace Go.Proofs.YtkjbafcalamgnaaGreat
open Go.RowKit
theorem zCe (v:Va)(z x y wd ht now s:Int)(a:Option Addr)(n cap:Nat)(K:Nat→Kp)(ra:Option Addr)(rn rc:Nat)(E:Nat→Req)(bad:Int)(dx:Int)(dy:Int)(w:World)(h:(zF9 w a n K∧zCg n K)∧xL w ra rn E∧rn≤rc∧rc≤maxLen)(hsp:zI n K→rn≤1048576→zVb v∧∀ (W:World) (b rb:Nat) (A:Nat→Kp),zLv W b n K A rb rn E→Calls Tryz.prog 18 #[vwV z x y wd ht now s (.slice (some ⟨b,0,none⟩) n n) (.slice (some ⟨rb,0,none⟩) rn rn) bad,.int .i64 dx,.int .i64 dy] W fun e w'=>∃ u,e=.returned (vaV v u)∧zEs w' v u∧Bw W w')(him:zI n K→rn≤1048576→∀ (W:World) (b rb:Nat) (A:Nat→Kp),zLv W b n K A rb rn E→Calls Tryz.prog 19 #[vwV z x y wd ht now s (.slice (some ⟨b,0,none⟩) n n) (.slice (some ⟨rb,0,none⟩) rn rn) bad,.int .i64 dx,.int .i64 dy] W fun e w'=>∃ u,e=.returned (vaV v u)∧zAk W.heap.size w'.heap.size w' v u∧Bw W w') :
  Calls Tryz.prog 5 #[vwV z x y wd ht now s (.slice a n cap) (.slice ra rn rc) bad,.int .i64 dx,.int .i64 dy] w fun e w'=>e=.returned (.bool true)∧Bw w w':=by
 obtain ⟨⟨hf,hc⟩,hr,hrc,hrm⟩:=h
 have HI:Hid (zF9 w a n K):=hf
 have HC:Hid (zCg n K):=hc
 have HRq:Hid (xL w ra rn E):=hr
 have hrl:rn≤maxLen:=Nat.le_trans hrc hrm
 have Hspec:=(show Hid _ from hsp)
 have Himpl:=(show Hid _ from him)
 clear hf hc hr hrc hrm hsp him
 go_enter Tryz.func5,Tryz.ntmps5
 go_wp2_with fail
 generalize hW:(w.alloc _:World)=W
 have HB0:Hid (Bw w W):=by show Below _ _ _;subst hW;exact Qb
 have HV:Hid (Blk W w.heap.size [.int .i64 z,.int .i64 x,.int .i64 y,.int .i64 wd,.int .i64 ht,.int .i64 now,.int .i64 s,.slice a n cap,.slice ra rn rc,.int .i64 bad]):=by show Blk _ _ _;subst hW;exact Blk.new _ _ _
 have hvl:w.heap.size<W.heap.size:=HV.out.lt
 clear hW
 refine (zMa z x y wd ht now s a n cap K ra rn rc bad W (HI.out.below HB0.out) HC.out hrl).mono ?_
 rintro e w1 ⟨rfl | ⟨m0,hS,hrn,rfl⟩,hb1⟩
 ·have HB1:Hid (Bw w w1):=zA HB0.out hb1
  clear hb1 Hspec Himpl
  go_wp2
  go_ret
  exact ⟨rfl,HB1.out⟩
 have HS:Hid (zI n K):=hS
 have hneg:¬ ((m0:Nat):Int)<0:=by omega
 have Hsm:Hid (zVb v):=(Hspec.out hS hrn).1
 have Hsp:=(show Hid _ from (Hspec.out hS hrn).2)
 have Him:=(show Hid _ from Himpl.out hS hrn)
 have HBw:Hid (Bw w w1):=zA HB0.out hb1
 have HTo:Hid (∀ W',Bw w1 W'→Calls Tryz.prog 9 #[vwV z x y wd ht now s (.slice a n cap) (.slice ra rn rc) bad] W' fun e w'=>∃ b A rb,e=.returned (vwV z x y wd ht now s (.slice (some ⟨b,0,none⟩) n n) (.slice (some ⟨rb,0,none⟩) rn rn) bad)∧W'.heap.size≤b∧W'.heap.size≤rb∧zLv w' b n K A rb rn E∧VkW w' W'.heap.size w'.heap.size b n A rb rn∧Below W'.heap.size W' w'):=fun W' h=>zL4 z x y wd ht now s a n cap K ra rn rc E bad W' (HI.out.below (zA HBw.out h)) HS.out (HRq.out.below (zA HBw.out h)) hrn
 have HEq:Hid (∀ (W:World) (b b' rb rb':Nat) (A H:Nat→Kp),zLv W b n K A rb rn E→zLv W b' n K H rb' rn E→Calls Tryz.prog 12 #[vwV z x y wd ht now s (.slice (some ⟨b,0,none⟩) n n) (.slice (some ⟨rb,0,none⟩) rn rn) bad,vwV z x y wd ht now s (.slice (some ⟨b',0,none⟩) n n) (.slice (some ⟨rb',0,none⟩) rn rn) bad] W fun e w'=>e=.returned (.bool true)∧Bw W w'):=fun W b b' rb rb' A H h1 h2=>zNk z x y wd ht now s n rn b b' rb rb' K A H E bad W h1 h2 HS.out hrn
 have HEqR:Hid (∀ (W:World) (u t:Vm),zEs W v u→zEs W v t→Calls Tryz.prog 11 #[vaV v u,vaV v t] W fun e w'=>e=.returned (.bool true)∧Bw W w'):=fun W u t h1 h2=>eqVa v u t W h1 h2 Hsm.out
 have HV1:Hid (∀ W',Bw w1 W'→Blk W' w.heap.size [.int .i64 z,.int .i64 x,.int .i64 y,.int .i64 wd,.int .i64 ht,.int .i64 now,.int .i64 s,.slice a n cap,.slice ra rn rc,.int .i64 bad]):=fun W' h=>HV.out.below hvl (zA hb1 h)
 have hB1:Bw w1 w1:=Below.refl _ _
 have hv1:=HV1.out w1 hB1
 have hwl:w.heap.size<w1.heap.size:=Nat.lt_of_lt_of_le hvl hb1.size
 obtain ⟨d0,d1,d2,d3,d4,d5,d6,d7,d8,d9⟩:=Blk.c10 hv1
 clear hS hb1 Hspec Himpl HI HC HRq HB0 HV hv1
 go_wp2_with fail
 refine Calls.mono (HTo.out _ hB1) ?_
 rintro e wp ⟨bp,Ap,rbp,rfl,hle2,hlr2,hO2,_,hb2⟩
 have HBp:Hid (Bw w1 wp):=hb2
 have HOp:Hid (zLv wp bp n K Ap rbp rn E):=hO2
 clear hO2 hb2
 go_wp2_with fail
 refine (Hsp.out _ _ _ _ HOp.out).mono ?_
 rintro e wq ⟨uq,rfl,hIq,hbq⟩
 have HIq:Hid (zEs wq v uq):=hIq
 have HBq:Hid (Bw w1 wq):=zA HBp.out hbq
 clear hIq hbq HOp HBp Hsp d0 d1 d2 d3 d4 d5 d6 d7 d8 d9
 have hlq:w.heap.size<wq.heap.size:=Nat.lt_of_lt_of_le hwl HBq.out.size
 have hvq:=HV1.out wq HBq.out
 have v0:∀ o,(wq.alloc o).cell? ⟨w.heap.size,0,none⟩=_:=fun o=>(hvq.alloc hlq o).cell 0 rfl
 have v1:∀ o,(wq.alloc o).cell? ⟨w.heap.size,1,none⟩=_:=fun o=>(hvq.alloc hlq o).cell 1 rfl
 have v2:∀ o,(wq.alloc o).cell? ⟨w.heap.size,2,none⟩=_:=fun o=>(hvq.alloc hlq o).cell 2 rfl
 have v3:∀ o,(wq.alloc o).cell? ⟨w.heap.size,3,none⟩=_:=fun o=>(hvq.alloc hlq o).cell 3 rfl
 have v4:∀ o,(wq.alloc o).cell? ⟨w.heap.size,4,none⟩=_:=fun o=>(hvq.alloc hlq o).cell 4 rfl
 have v5:∀ o,(wq.alloc o).cell? ⟨w.heap.size,5,none⟩=_:=fun o=>(hvq.alloc hlq o).cell 5 rfl
 have v6:∀ o,(wq.alloc o).cell? ⟨w.heap.size,6,none⟩=_:=fun o=>(hvq.alloc hlq o).cell 6 rfl
 have v7:∀ o,(wq.alloc o).cell? ⟨w.heap.size,7,none⟩=_:=fun o=>(hvq.alloc hlq o).cell 7 rfl
 have v8:∀ o,(wq.alloc o).cell? ⟨w.heap.size,8,none⟩=_:=fun o=>(hvq.alloc hlq o).cell 8 rfl
 have v9:∀ o,(wq.alloc o).cell? ⟨w.heap.size,9,none⟩=_:=fun o=>(hvq.alloc hlq o).cell 9 rfl
 clear hvq
 go_wp2_with fail
 generalize hW3:(wq.alloc _:World)=w3
 have hb3:Bw wq w3:=by subst hW3;exact Qb
 have HQ3:Hid (Blk w3 wq.heap.size (vaL v uq)):=by show Blk _ _ _;subst hW3;exact Blk.new _ _ _
 clear hW3
 obtain ⟨b7,hb7e⟩:∃ b,wq.heap.size=b:=⟨_,rfl⟩
 have hb7q:b7<w3.heap.size:=by rw [← hb7e];exact HQ3.out.lt
 have HI3:Hid (zN8 w3.heap.size w3 v uq):=(HIq.out.below hb3).un
 have hB3:Bw w1 w3:=zA HBq.out hb3
 rw [hb7e] at HQ3
 simp only [hb7e]
 clear hb3 HIq HBq hb7e
 have hw3:=hB3.size
 have HB3:Hid (Bw w1 w3):=hB3
 clear hB3 v0 v1 v2 v3 v4 v5 v6 v7 v8 v9
 refine Calls.mono (HTo.out _ HB3.out) ?_
 rintro e w4a ⟨b4,A4,rb4,rfl,hle4,hlr4,hO4,hK4,hb4⟩
 have HO4a:Hid (zLv w4a b4 n K A4 rb4 rn E):=hO4
 have HK4a:Hid (VkW w4a w3.heap.size w4a.heap.size b4 n A4 rb4 rn):=hK4
 have HB4a:Hid (Bw w3 w4a):=hb4
 clear hO4 hK4 hb4
 go_wp2_with fail
 generalize hwA:(w4a.alloc _:World)=w4
 have HB4b:Hid (Bw w4a w4):=by show Below _ _ _;subst hwA;exact Qb
 have HX4:Hid (Blk w4 w4a.heap.size [.int .i64 z,.int .i64 x,.int .i64 y,.int .i64 wd,.int .i64 ht,.int .i64 now,.int .i64 s,.slice (some ⟨b4,0,none⟩) n n,.slice (some ⟨rb4,0,none⟩) rn rn,.int .i64 bad]):=by show Blk _ _ _;subst hwA;exact Blk.new _ _ _
 clear hwA
 have HO4:Hid (zLv w4 b4 n K A4 rb4 rn E):=HO4a.out.below HB4b.out
 have HK4:Hid (VkW w4 w3.heap.size w4a.heap.size b4 n A4 rb4 rn):=HK4a.out.below HB4b.out
 have hs4a:=HB4a.out.size
 have hbx:w3.heap.size≤w4a.heap.size:=hs4a
 have hxl:w4a.heap.size<w4.heap.size:=HX4.out.lt
 have hb4:Bw w3 w4:=zA HB4a.out HB4b.out
 obtain ⟨bx,hbxe⟩:∃ b,w4a.heap.size=b:=⟨_,rfl⟩
 rw [hbxe] at hbx hxl
 simp only [hbxe] at HX4 HK4 ⊢
 clear HO4a HK4a HB4a HB4b hs4a hbxe
 have HB4:Hid (Bw w1 w4):=zA HB3.out hb4
 have HI4:Hid (zN8 w3.heap.size w4 v uq):=HI3.out.below hb4
 have HQ4:Hid (Blk w4 b7 (vaL v uq)):=HQ3.out.below hb7q hb4
 have hle34:=hb4.size
 have hb7r:b7<w4.heap.size:=by omega
 have HX4':Hid (∀ W',Bw w4 W'→Blk W' bx [.int .i64 z,.int .i64 x,.int .i64 y,.int .i64 wd,.int .i64 ht,.int .i64 now,.int .i64 s,.slice (some ⟨b4,0,none⟩) n n,.slice (some ⟨rb4,0,none⟩) rn rn,.int .i64 bad]):=fun W' h=>HX4.out.below hxl h
 clear HI3 hb4 HX4 HQ3
 refine (Him.out _ _ _ _ HO4.out).mono ?_
 rintro e wr ⟨ur,rfl,hOr,hbr⟩
 have HOr:Hid (zAk w4.heap.size wr.heap.size wr v ur):=hOr
 have HQr:Hid (Blk wr b7 (vaL v uq)):=HQ4.out.below hb7r hbr
 have lz:b7<wr.heap.size:=HQr.out.lt
 have hbr4:=hbr.size
 clear hOr
 have hqr:=HQr.out
 have z0:∀ o,(wr.alloc o).cell? ⟨b7,0,none⟩=_:=fun o=>(hqr.alloc lz o).cell 0 rfl
 have z1:∀ o,(wr.alloc o).cell? ⟨b7,1,none⟩=_:=fun o=>(hqr.alloc lz o).cell 1 rfl
 have z2:∀ o,(wr.alloc o).cell? ⟨b7,2,none⟩=_:=fun o=>(hqr.alloc lz o).cell 2 rfl
 have z3:∀ o,(wr.alloc o).cell? ⟨b7,3,none⟩=_:=fun o=>(hqr.alloc lz o).cell 3 rfl
 have z4:∀ o,(wr.alloc o).cell? ⟨b7,4,none⟩=_:=fun o=>(hqr.alloc lz o).cell 4 rfl
 have z5:∀ o,(wr.alloc o).cell? ⟨b7,5,none⟩=_:=fun o=>(hqr.alloc lz o).cell 5 rfl
 have z6:∀ o,(wr.alloc o).cell? ⟨b7,6,none⟩=_:=fun o=>(hqr.alloc lz o).cell 6 rfl
 have z7:∀ o,(wr.alloc o).cell? ⟨b7,7,none⟩=_:=fun o=>(hqr.alloc lz o).cell 7 rfl
 have z8:∀ o,(wr.alloc o).cell? ⟨b7,8,none⟩=_:=fun o=>(hqr.alloc lz o).cell 8 rfl
 have z9:∀ o,(wr.alloc o).cell? ⟨b7,9,none⟩=_:=fun o=>(hqr.alloc lz o).cell 9 rfl
 have z10:∀ o,(wr.alloc o).cell? ⟨b7,10,none⟩=_:=fun o=>(hqr.alloc lz o).cell 10 rfl
 have z11:∀ o,(wr.alloc o).cell? ⟨b7,11,none⟩=_:=fun o=>(hqr.alloc lz o).cell 11 rfl
 have z12:∀ o,(wr.alloc o).cell? ⟨b7,12,none⟩=_:=fun o=>(hqr.alloc lz o).cell 12 rfl
 clear hqr
 go_wp2_with fail
 generalize hW5:(wr.alloc _:World)=w5
 have hb5:Bw wr w5:=by subst hW5;exact Qb
 have HG5:Hid (Blk w5 wr.heap.size (vaL v ur)):=by show Blk _ _ _;subst hW5;exact Blk.new _ _ _
 clear hW5 z0 z1 z2 z3 z4 z5 z6 z7 z8 z9 z10 z11 z12
 have hB5:Bw w4 w5:=zA hbr hb5
 obtain ⟨b9,hb9e⟩:∃ b,wr.heap.size=b:=⟨_,rfl⟩
 have hb9:w4.heap.size≤b9:=by rw [← hb9e];exact hbr4
 have hl9:b9<w5.heap.size:=by rw [← hb9e];exact HG5.out.lt
 have HO5:Hid (zAk w4.heap.size b9 w5 v ur):=by have h:=HOr.out.below hb5;rw [hb9e] at h;exact h
 rw [hb9e] at HG5
 simp only [hb9e]
 have HQ5:Hid (Blk w5 b7 (vaL v uq)):=HQr.out.below lz hb5
 have hl7:b7<w5.heap.size:=HQ5.out.lt
 clear hb5 hbr HOr HQr lz hb9e hbr4
 have HI5:Hid (zN8 w3.heap.size w5 v uq):=HI4.out.below (hB5.mono hle34)
 have HP5:Hid (zLv w5 b4 n K A4 rb4 rn E):=HO4.out.below hB5
 have HK5:Hid (VkW w5 w3.heap.size bx b4 n A4 rb4 rn):=HK4.out.below hB5
 have HX5:Hid (∀ W',Bw w5 W'→Blk W' bx [.int .i64 z,.int .i64 x,.int .i64 y,.int .i64 wd,.int .i64 ht,.int .i64 now,.int .i64 s,.slice (some ⟨b4,0,none⟩) n n,.slice (some ⟨rb4,0,none⟩) rn rn,.int .i64 bad]):=fun W' h=>HX4'.out W' (zA hB5 h)
 have hw5:=hB5.size
 have HB5:Hid (Bw w1 w5):=zA HB4.out hB5
 clear HI4 HO4 HK4 HB4 hB5 HX4' HQ4
 refine (HEqR.out _ _ _ HO5.out.is HI5.out.is).mono ?_
 rintro e w6 ⟨rfl,hb6⟩
 have hw6:=hb6.size
 have HO6:Hid (zAk w4.heap.size b9 w6 v ur):=HO5.out.below hb6
 have HI6:Hid (zN8 w3.heap.size w6 v uq):=HI5.out.below (hb6.mono (by omega))
 have HP6:Hid (zLv w6 b4 n K A4 rb4 rn E):=HP5.out.below hb6
 have HK6:Hid (VkW w6 w3.heap.size bx b4 n A4 rb4 rn):=HK5.out.below hb6
 have HB6:Hid (Bw w1 w6):=zA HB5.out hb6
 have HG6:Hid (Blk w6 b9 (vaL v ur)):=HG5.out.below hl9 hb6
 have HQ6:Hid (Blk w6 b7 (vaL v uq)):=HQ5.out.below hl7 hb6
 have hx:∀ W',Bw w6 W'→Blk W' bx [.int .i64 z,.int .i64 x,.int .i64 y,.int .i64 wd,.int .i64 ht,.int .i64 now,.int .i64 s,.slice (some ⟨b4,0,none⟩) n n,.slice (some ⟨rb4,0,none⟩) rn rn,.int .i64 bad]:=fun W' h=>HX5.out W' (zA hb6 h)
 have hv:∀ W',Bw w6 W'→Blk W' w.heap.size [.int .i64 z,.int .i64 x,.int .i64 y,.int .i64 wd,.int .i64 ht,.int .i64 now,.int .i64 s,.slice a n cap,.slice ra rn rc,.int .i64 bad]:=fun W' h=>HV1.out W' (zA HB6.out h)
 have HX6:Hid (∀ W',Bw w6 W'→Blk W' bx [.int .i64 z,.int .i64 x,.int .i64 y,.int .i64 wd,.int .i64 ht,.int .i64 now,.int .i64 s,.slice (some ⟨b4,0,none⟩) n n,.slice (some ⟨rb4,0,none⟩) rn rn,.int .i64 bad]):=hx
 obtain ⟨x0,x1,x2,x3,x4,x5,x6,x7,x8,x9⟩:=Blk.g10 (b:=w6.heap.size) (v:=w6) fun W' h=>(hx W' h)
 obtain ⟨v0,v1,v2,v3,v4,v5,v6,v7,v8,v9⟩:=Blk.g10 (b:=w6.heap.size) (v:=w6) fun W' h=>(hv W' h)
 clear hb6 HO5 HI5 HP5 HK5 HB5 HX5 HG5 HQ5 hx hv
 go_wp2_with fail
 refine wp_region_noPanic ?_
 refine wp_region_held_drew (S:=fun W'=>Bw w6 W') (by kernel_rfl) (by have:=Below.refl w6.heap.size w6;exact Qb) (fun hHeld=>?_)
 have hX0:Bw w6 w6.drew:=hHeld
 refine zF (i:=0) (d:=some 35) rfl rfl ?_
 try simp only [Act.put,Qx,Qy,Qz]
 refine zF (i:=1) (d:=some 36) rfl rfl ?_
 try simp only [Act.put,Qx,Qy,Qz]
 generalize w6.drew=wk0 at *
 refine zN 2 fun K hK=>?_
 rw [if_pos (by rfl)]
 go_simp
 refine Calls.mono (HTo.out _ (zA HB6.out hX0)) ?_
 rintro e wk1 ⟨bq,Aq,rq,rfl,hge,hgr,hOq,_,hb1⟩
 have hX1:Bw w6 wk1:=zA hX0 hb1
 go_wp2_with fail
 refine hK.out _ _ (by assumption) (fun hHeld=>?_)
 clear hK K
 try simp only [Act.put,Qx,Qy,Qz]
 refine zN 3 fun K hK=>?_
 rw [if_pos (by rfl)]
 go_simp
 refine Calls.mono (HEq.out _ _ _ _ _ _ _ (HP6.out.below hX1) hOq) ?_
 rintro e wk2 ⟨rfl,hb2⟩
 have hX2:Bw w6 wk2:=zA hX1 hb2
 go_wp2_with fail
 refine hK.out _ _ (by assumption) (fun hHeld=>?_)
 clear hK K
 try simp only [Act.put,Qx,Qy,Qz]
 refine zF (i:=4) (d:=some 39) rfl rfl ?_
 try simp only [Act.put,Qx,Qy,Qz]
 refine wpAnyH_done (by kernel_rfl) ?_ _
 refine NoPanic.normal ?_
 have HB8:Hid (Bw w6 wk2):=hX2
 have hsk2:=HB8.out.size
 have HO8:Hid (zAk w4.heap.size b9 wk2 v ur):=HO6.out.below HB8.out
 have HI8:Hid (zN8 w3.heap.size wk2 v uq):=HI6.out.below (HB8.out.mono (by omega))
 have HK8:Hid (VkW wk2 w3.heap.size bx b4 n A4 rb4 rn):=HK6.out.below HB8.out
 have HB8w:Hid (Bw w1 wk2):=zA HB6.out HB8.out
 have HG8:Hid (Blk wk2 b9 (vaL v ur)):=HG6.out.below HG6.out.lt HB8.out
 have HQ8:Hid (Blk wk2 b7 (vaL v uq)):=HQ6.out.below HQ6.out.lt HB8.out
 have hx8:=HX6.out wk2 HB8.out
 have HMk:Hid (Calls Tryz.prog 13 #[vwV z x y wd ht now s (.slice (some ⟨b4,0,none⟩) n n) (.slice (some ⟨rb4,0,none⟩) rn rn) bad,.int .i64 1] wk2 fun e w'=>(∃ q:Nat,e=.returned (.int .i64 (q:Int)))∧zK w3.heap.size bx wk2 w'):=zIk z x y wd ht now s _ _ b4 n A4 rb4 rn bad wk2 HK8.out (HP6.out.1.small HS.out) hrn
 clear x0 v0 x1 v1 x2 v2 x3 v3 x4 v4 x5 v5 x6 v6 x7 v7 x8 v8 x9 v9 hX0 hb1 hX1 hb2 hX2 hOq hge hgr HO6 HI6 HK6 HP6 HB6 HX6 HEq HK8 HB8 HG6 HQ6
 obtain ⟨x0,x1,x2,x3,x4,x5,x6,x7,x8,x9⟩:=Blk.c10 hx8
 clear hx8
 go_wp2_with fail
 refine Calls.mono HMk.out ?_
 rintro e wa ⟨⟨qn,rfl⟩,hGa⟩
 have hqn:¬ ((qn:Nat):Int)<0:=by omega
 have hwa:=hGa.size
 have hga:Blk wa b9 (vaL v ur):=fun i u hi=>⟨hGa.cell (HG8.out i u hi).1 (.inr (by omega)),(World.frozen?_of_block (a:=⟨b9,i,none⟩) (hGa.block b9 HG8.out.lt (.inr (by omega)))).trans (HG8.out i u hi).2⟩
 have hqa:Blk wa b7 (vaL v uq):=fun i u hi=>⟨hGa.cell (HQ8.out i u hi).1 (.inl (by omega)),(World.frozen?_of_block (a:=⟨b7,i,none⟩) (hGa.block b7 HQ8.out.lt (.inl (by omega)))).trans (HQ8.out i u hi).2⟩
 have HGa:Hid (Blk wa b9 (vaL v ur)):=hga
 have HQa:Hid (Blk wa b7 (vaL v uq)):=hqa
 have HOa:Hid (zAk w4.heap.size b9 wa v ur):=HO8.out.mid hGa (by omega)
 have HIa:Hid (zN8 w3.heap.size wa v uq):=HI8.out.below (hGa.below (by omega))
 have HBa:Hid (Bw w1 wa):=HB8w.out.trans ((hGa.below (by omega)).mono (by omega))
 clear x0 x1 x2 x3 x4 x5 x6 x7 x8 x9
 obtain ⟨g0,g1,g2,g3,g4,g5,g6,g7,g8,g9,g10,g11,g12⟩:=Blk.c13 hga
 obtain ⟨q0,q1,q2,q3,q4,q5,q6,q7,q8,q9,q10,q11,q12⟩:=Blk.c13 hqa
 clear hga hqa hGa HO8 HI8 HMk HB8w HG8 HQ8
 go_wp2_with fail
 refine (HEqR.out _ _ _ HOa.out.is HIa.out.is).mono ?_
 rintro e wb ⟨rfl,hbb⟩
 have hwb:=hbb.size
 have HOb:Hid (zAk w4.heap.size b9 wb v ur):=HOa.out.below hbb
 have HIb:Hid (zN8 w3.heap.size wb v uq):=HIa.out.below (hbb.mono (by omega))
 have HBb:Hid (Bw w1 wb):=zA HBa.out hbb
 have HGb:Hid (Blk wb b9 (vaL v ur)):=HGa.out.below HGa.out.lt hbb
 have HQb:Hid (Blk wb b7 (vaL v uq)):=HQa.out.below HQa.out.lt hbb
 clear g0 q0 g1 q1 g2 q2 g3 q3 g4 q4 g5 q5 g6 q6 g7 q7 g8 q8 g9 q9 g10 q10 g11 q11 g12 q12 HOa HIa HBa hbb HGa HQa
 have hgb:=HGb.out
 obtain ⟨g0,g1,g2,g3,g4,g5,g6,g7,g8,g9,g10,g11,g12⟩:=Blk.c13 hgb
 have Hmark:=(show Hid _ from markVa w4.heap.size b9 v ur wb HOb.out Hsm.out)
 have Hheld:Hid (∀ w,zS2 w v ur→Calls Tryz.prog 15 #[vaV v ur,.int .i64 1] w fun e w'=>e=.returned (.int .i64 ((qVa v ur:Nat):Int))∧Bw w w'):=fun w h=>heldVa v ur w h Hsm.out
 have hqm:¬ ((qVa v ur:Nat):Int)<0:=by omega
 generalize ((qVa v ur:Nat):Int)=qm at *
 clear hgb
 go_wp2_with fail
 refine Calls.mono Hmark.out ?_
 rintro e wc ⟨rfl,hMc,hGc⟩
 have hwc:=hGc.size
 have hgc:Blk wc b9 (vaL v ur):=fun i u hi=>⟨hGc.cell (HGb.out i u hi).1 (.inr (Nat.le_refl _)),(World.frozen?_of_block (a:=⟨b9,i,none⟩) (hGc.block b9 HGb.out.lt (.inr (Nat.le_refl _)))).trans (HGb.out i u hi).2⟩
 have hqc:Blk wc b7 (vaL v uq):=fun i u hi=>⟨hGc.cell (HQb.out i u hi).1 (.inl (by omega)),(World.frozen?_of_block (a:=⟨b7,i,none⟩) (hGc.block b7 HQb.out.lt (.inl (by omega)))).trans (HQb.out i u hi).2⟩
 have HGc:Hid (Blk wc b9 (vaL v ur)):=hgc
 have HQc:Hid (Blk wc b7 (vaL v uq)):=hqc
 have HOc:Hid (zS2 wc v ur):=hMc
 have hs4b:w4.heap.size≤wb.heap.size:=by omega
 have HIc:Hid (zN8 w3.heap.size wc v uq):=HIb.out.below ((hGc.below hs4b).mono hle34)
 have HBc:Hid (Bw w1 wc):=HBb.out.trans ((hGc.below hs4b).mono (by omega))
 clear g0 g1 g2 g3 g4 g5 g6 g7 g8 g9 g10 g11 g12
 obtain ⟨g0,g1,g2,g3,g4,g5,g6,g7,g8,g9,g10,g11,g12⟩:=Blk.c13 hgc
 clear hgc hqc hMc hGc HBb HIb HOb Hmark HGb HQb
 go_wp2_with fail
 refine (Hheld.out _ HOc.out).mono ?_
 rintro e wd' ⟨rfl,hbd⟩
 have hwd:=hbd.size
 have HOd:Hid (zS2 wd' v ur):=HOc.out.below hbd
 have HId:Hid (zN8 w3.heap.size wd' v uq):=HIc.out.below (hbd.mono (by omega))
 have HBd:Hid (Bw w1 wd'):=zA HBc.out hbd
 have HGd:Hid (Blk wd' b9 (vaL v ur)):=HGc.out.below HGc.out.lt hbd
 have HQd:Hid (Blk wd' b7 (vaL v uq)):=HQc.out.below HQc.out.lt hbd
 clear g0 g1 g2 g3 g4 g5 g6 g7 g8 g9 g10 g11 g12
 have hvd:=HV1.out wd' HBd.out
 obtain ⟨v0,v1,v2,v3,v4,v5,v6,v7,v8,v9⟩:=Blk.c10 hvd
 clear HOc HIc HBc hbd hvd HGc HQc
 go_wp2_with fail
 refine Calls.mono (HTo.out _ HBd.out) ?_
 rintro e we ⟨be,Ae,re,rfl,_,_,hpe,_,hbe⟩
 have HPe:Hid (zLv we be n K Ae re rn E):=hpe
 clear v0 v1 v2 v3 v4 v5 v6 v7 v8 v9 hpe
 go_wp2_with fail
 refine (Him.out _ _ _ _ HPe.out).mono ?_
 rintro e wf ⟨uf,rfl,hOf,hbf⟩
 have hbdf:=zA hbe hbf
 have hwf:=hbdf.size
 have HOf:Hid (zS2 wf v ur):=HOd.out.below hbdf
 have HIf:Hid (zN8 w3.heap.size wf v uq):=HId.out.below (hbdf.mono (by omega))
 have HBf:Hid (Bw w1 wf):=zA HBd.out hbdf
 have HJf:Hid (zEs wf v uf):=hOf.is
 have HGf:Hid (Blk wf b9 (vaL v ur)):=HGd.out.below HGd.out.lt hbdf
 have HQf:Hid (Blk wf b7 (vaL v uq)):=HQd.out.below HQd.out.lt hbdf
 have lm:b7<wf.heap.size:=HQf.out.lt
 have ll:b9<wf.heap.size:=HGf.out.lt
 clear HOd HId HBd hbdf hOf hbe hbf HPe Him HTo HGd HQd
 have hqf:=HQf.out
 have q0:∀ o,(wf.alloc o).cell? ⟨b7,0,none⟩=_:=fun o=>(hqf.alloc lm o).cell 0 rfl
 have q1:∀ o,(wf.alloc o).cell? ⟨b7,1,none⟩=_:=fun o=>(hqf.alloc lm o).cell 1 rfl
 have q2:∀ o,(wf.alloc o).cell? ⟨b7,2,none⟩=_:=fun o=>(hqf.alloc lm o).cell 2 rfl
 have q3:∀ o,(wf.alloc o).cell? ⟨b7,3,none⟩=_:=fun o=>(hqf.alloc lm o).cell 3 rfl
 have q4:∀ o,(wf.alloc o).cell? ⟨b7,4,none⟩=_:=fun o=>(hqf.alloc lm o).cell 4 rfl
 have q5:∀ o,(wf.alloc o).cell? ⟨b7,5,none⟩=_:=fun o=>(hqf.alloc lm o).cell 5 rfl
 have q6:∀ o,(wf.alloc o).cell? ⟨b7,6,none⟩=_:=fun o=>(hqf.alloc lm o).cell 6 rfl
 have q7:∀ o,(wf.alloc o).cell? ⟨b7,7,none⟩=_:=fun o=>(hqf.alloc lm o).cell 7 rfl
 have q8:∀ o,(wf.alloc o).cell? ⟨b7,8,none⟩=_:=fun o=>(hqf.alloc lm o).cell 8 rfl
 have q9:∀ o,(wf.alloc o).cell? ⟨b7,9,none⟩=_:=fun o=>(hqf.alloc lm o).cell 9 rfl
 have q10:∀ o,(wf.alloc o).cell? ⟨b7,10,none⟩=_:=fun o=>(hqf.alloc lm o).cell 10 rfl
 have q11:∀ o,(wf.alloc o).cell? ⟨b7,11,none⟩=_:=fun o=>(hqf.alloc lm o).cell 11 rfl
 have q12:∀ o,(wf.alloc o).cell? ⟨b7,12,none⟩=_:=fun o=>(hqf.alloc lm o).cell 12 rfl
 clear hqf
 go_wp2_with fail
 generalize hWx:(wf.alloc _:World)=wx
 have hbx':Bw wf wx:=by subst hWx;exact Qb
 clear hWx q0 q1 q2 q3 q4 q5 q6 q7 q8 q9 q10 q11 q12
 have hwx:=hbx'.size
 refine (HEqR.out _ _ _ (HJf.out.below hbx') ((HIf.out.below (hbx'.mono (by omega))).is)).mono ?_
 rintro e wh ⟨rfl,hbh⟩
 have hbfh:=zA hbx' hbh
 have HOh:Hid (zS2 wh v ur):=HOf.out.below hbfh
 have HBh:Hid (Bw w1 wh):=zA HBf.out hbfh
 have hgh:=HGf.out.below ll hbfh
 obtain ⟨g0,g1,g2,g3,g4,g5,g6,g7,g8,g9,g10,g11,g12⟩:=Blk.c13 hgh
 clear HOf HIf HBf HJf hbfh hbx' hbh HGf HQf hgh
 go_wp2_with fail
 refine (Hheld.out _ HOh.out).mono ?_
 rintro e wi ⟨rfl,hbi'⟩
 have HBi:Hid (Bw w wi):=zA HBw.out (zA HBh.out hbi')
 clear hbi'
 go_wp2
 go_ret
 exact ⟨rfl,HBi.out⟩
end Go.Proofs.YtkjbafcalamgnaaGreat
