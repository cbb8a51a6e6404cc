/- Texts. -/
import Derived.Test.YtkjbafcalamgnaaGreatVMapFault30
set_option linter.unusedSimpArgs false
set_option linter.unusedVariables false
set_option maxRecDepth 100000
set_option maxHeartbeats 32000000
namespace Go.Proofs.YtkjbafcalamgnaaGreat
open Go.RowKit
theorem FnExactMapFault_walk (fa:Option Addr)(fn fc:Nat)(F:Nat→zS)(z x y wd ht now s:Int)(a:Option Addr)(n cap:Nat)(K:Nat→Kp)(ra:Option Addr)(rn rc:Nat)(E:Nat→Req)(bad:Int)(w:World)(h:CameM w fa fn fc F z x y wd ht now s a n cap K ra rn rc E bad) :
  Calls Tryz.prog 6 #[mpV (.slice fa fn fc) z x y wd ht now s (.slice a n cap) (.slice ra rn rc) bad] w fun e w'=>e=.returned (.bool true)∧Bw w w':=by
 obtain ⟨⟨hff,hffc⟩,⟨hf,hc⟩,hr,hrc,hrm⟩:=h
 have HFf:Hid (zDq w fa fn F):=hff
 have HFc:Hid (uT fn F):=hffc
 have HI:Hid (zBc w a n K):=hf
 have HC:Hid (vV n K):=hc
 have HRq:Hid (vR w ra rn E):=hr
 have hrl:rn≤maxLen:=Nat.le_trans hrc hrm
 clear hff hffc hf hc hr hrc hrm
 obtain ⟨RC,hRC⟩:∃ RC,zMj fn F (viewC z x y wd ht now s n K rn E bad)=RC:=⟨_,rfl⟩
 have Hspec:Hid (zBi fn F n K rn→∀ (W:World) (fb b rb:Nat) (G:Nat→zS) (A:Nat→Kp),zEv W fb fn F G b n K A rb rn E→Calls Tryz.prog 21 #[mpV (.slice (some ⟨fb,0,none⟩) fn fn) z x y wd ht now s (.slice (some ⟨b,0,none⟩) n n) (.slice (some ⟨rb,0,none⟩) rn rn) bad] W fun e w'=>e=.returned (.int .i64 RC)∧Bw W w'):=fun hS W fb b rb G A hO=>by
  have:=zAz fb fn fn G z x y wd ht now s b n n A (some ⟨rb,0,none⟩) rn rn E bad W hO.1.2.2.1 hO.1.2.1 (hO.1.small hS.1) hO.2.1.ko (hO.2.1.small hS.2.1) (.inr ⟨rb,0,rfl,hO.2.2.1,hO.2.2.2⟩) hS.2.2
  rw [hO.2.1.viewC,zMj,hO.1.code] at this
  rw [← hRC]
  exact this
 have Himpl:Hid (zBi fn F n K rn→∀ (W:World) (fb b rb:Nat) (G:Nat→zS) (A:Nat→Kp),zEv W fb fn F G b n K A rb rn E→Calls Tryz.prog 23 #[mpV (.slice (some ⟨fb,0,none⟩) fn fn) z x y wd ht now s (.slice (some ⟨b,0,none⟩) n n) (.slice (some ⟨rb,0,none⟩) rn rn) bad] W fun e w'=>e=.returned (.int .i64 RC)∧Bw W w'):=fun hS W fb b rb G A hO=>by
  have:=zA4 fb fn fn G z x y wd ht now s b n n A (some ⟨rb,0,none⟩) rn rn E bad W hO.1.2.2.1 hO.1.2.1 (hO.1.small hS.1) (Nat.le_refl _) hO.2.1.ko (hO.2.1.small hS.2.1) hO.2.1.caps (Nat.le_refl _) (.inr ⟨rb,0,rfl,hO.2.2.1,hO.2.2.2⟩) hS.2.2 (Nat.le_refl _)
  rw [hO.2.1.viewC,zMj,hO.1.code] at this
  rw [← hRC]
  exact this
 clear hRC
 go_enter Tryz.func6,Tryz.ntmps6
 go_wp2_with fail
 generalize hW:(w.alloc _:World)=W
 have HB0:Hid (Bw w W):=by show Below _ _ _;subst hW;exact Qb
 have HV:Hid (Blk W w.heap.size [.slice fa fn fc,.int .i64 z,.int .i64 x,.int .i64 y,.int .i64 wd,.int .i64 ht,.int .i64 now,.int .i64 s,.slice a n cap,.slice ra rn rc,.int .i64 bad]):=by show Blk _ _ _;subst hW;exact Blk.new _ _ _
 have hvl:w.heap.size<W.heap.size:=HV.out.lt
 clear hW
 refine (zKz fa fn fc F z x y wd ht now s a n cap K ra rn rc E bad W (HFf.out.below HB0.out) HFc.out (HI.out.below HB0.out) HC.out hrl).mono ?_
 rintro e w1 ⟨rfl | ⟨m,hS,rfl⟩,hb1⟩
 ·have HB1:Hid (Bw w w1):=zA HB0.out hb1
  clear hb1 Hspec Himpl
  go_wp2
  go_ret
  exact ⟨rfl,HB1.out⟩
 have HS:Hid (zBi fn F n K rn):=hS
 have hneg:¬ ((m:Nat):Int)<0:=by omega
 have Hsp:Hid (∀ (W:World) (fb b rb:Nat) (G:Nat→zS) (A:Nat→Kp),zEv W fb fn F G b n K A rb rn E→Calls Tryz.prog 21 #[mpV (.slice (some ⟨fb,0,none⟩) fn fn) z x y wd ht now s (.slice (some ⟨b,0,none⟩) n n) (.slice (some ⟨rb,0,none⟩) rn rn) bad] W fun e w'=>e=.returned (.int .i64 RC)∧Bw W w'):=Hspec.out hS
 have Him:Hid (∀ (W:World) (fb b rb:Nat) (G:Nat→zS) (A:Nat→Kp),zEv W fb fn F G b n K A rb rn E→Calls Tryz.prog 23 #[mpV (.slice (some ⟨fb,0,none⟩) fn fn) z x y wd ht now s (.slice (some ⟨b,0,none⟩) n n) (.slice (some ⟨rb,0,none⟩) rn rn) bad] W fun e w'=>e=.returned (.int .i64 RC)∧Bw W w'):=Himpl.out hS
 have HBw:Hid (Bw w w1):=zA HB0.out hb1
 have HTo:Hid (∀ W',Bw w1 W'→Calls Tryz.prog 22 #[mpV (.slice fa fn fc) z x y wd ht now s (.slice a n cap) (.slice ra rn rc) bad] W' fun e w'=>∃ fb G b A rb,e=.returned (mpV (.slice (some ⟨fb,0,none⟩) fn fn) z x y wd ht now s (.slice (some ⟨b,0,none⟩) n n) (.slice (some ⟨rb,0,none⟩) rn rn) bad)∧zEv w' fb fn F G b n K A rb rn E∧Below W'.heap.size W' w'):=fun W' h=>zKt fa fn fc F z x y wd ht now s a n cap K ra rn rc E bad W' (HFf.out.below (zA HBw.out h)) (HI.out.below (zA HBw.out h)) (HRq.out.below (zA HBw.out h)) HS.out
 have HEq:Hid (∀ (W:World) (fb fb' b b' rb rb':Nat) (G J:Nat→zS) (A H:Nat→Kp),zEv W fb fn F G b n K A rb rn E→zEv W fb' fn F J b' n K H rb' rn E→Calls Tryz.prog 24 #[mpV (.slice (some ⟨fb,0,none⟩) fn fn) z x y wd ht now s (.slice (some ⟨b,0,none⟩) n n) (.slice (some ⟨rb,0,none⟩) rn rn) bad,mpV (.slice (some ⟨fb',0,none⟩) fn fn) z x y wd ht now s (.slice (some ⟨b',0,none⟩) n n) (.slice (some ⟨rb',0,none⟩) rn rn) bad] W fun e w'=>e=.returned (.bool true)∧Bw W w'):=fun W fb fb' b b' rb rb' G J A H h1 h2=>zL0 fn F z x y wd ht now s n rn fb fb' b b' rb rb' G J K A H E bad W h1 h2 HS.out
 have HV1:Hid (∀ W',Bw w1 W'→Blk W' w.heap.size [.slice fa fn fc,.int .i64 z,.int .i64 x,.int .i64 y,.int .i64 wd,.int .i64 ht,.int .i64 now,.int .i64 s,.slice a n cap,.slice ra rn rc,.int .i64 bad]):=fun W' h=>HV.out.below hvl (zA hb1 h)
 have hv1:=HV1.out w1 (Below.refl _ _)
 obtain ⟨d0,d1,d2,d3,d4,d5,d6,d7,d8,d9,d10⟩:=Blk.c11 hv1
 clear hS hb1 Hspec Himpl HI HC HRq HFf HFc HB0 HV hv1
 go_wp2_with fail
 refine Calls.mono (HTo.out _ (Below.refl _ _)) ?_
 rintro e w2 ⟨fb2,G2,b2,A2,rb2,rfl,hO2,hb2⟩
 go_wp2_with fail
 refine Calls.mono (Hsp.out _ _ _ _ _ _ hO2) ?_
 rintro e w3 ⟨rfl,hb3⟩
 have HB3:Hid (Bw w1 w3):=zA hb2 hb3
 have hv3:=HV1.out w3 HB3.out
 clear d0 d1 d2 d3 d4 d5 d6 d7 d8 d9 d10
 obtain ⟨d0,d1,d2,d3,d4,d5,d6,d7,d8,d9,d10⟩:=Blk.c11 hv3
 clear hO2 hb2 hb3 Hsp hv3
 go_wp2_with fail
 refine Calls.mono (HTo.out _ HB3.out) ?_
 rintro e w4 ⟨fb4,G4,b4,A4,rb4,rfl,hO4,hb4⟩
 have HO4:Hid (zEv w4 fb4 fn F G4 b4 n K A4 rb4 rn E):=hO4
 have HB4:Hid (Bw w1 w4):=zA HB3.out hb4
 clear d0 d1 d2 d3 d4 d5 d6 d7 d8 d9 d10 hO4 hb4
 go_wp2_with fail
 generalize hwA:(w4.alloc _:World)=w5
 have hb5:Bw w4 w5:=by subst hwA;exact Qb
 have HX5:Hid (Blk w5 w4.heap.size [.slice (some ⟨fb4,0,none⟩) fn fn,.int .i64 z,.int .i64 x,.int .i64 y,.int .i64 wd,.int .i64 ht,.int .i64 now,.int .i64 s,.slice (some ⟨b4,0,none⟩) n n,.slice (some ⟨rb4,0,none⟩) rn rn,.int .i64 bad]):=by show Blk _ _ _;subst hwA;exact Blk.new _ _ _
 clear hwA
 have HO5:Hid (zEv w5 fb4 fn F G4 b4 n K A4 rb4 rn E):=HO4.out.below hb5
 have HB5:Hid (Bw w1 w5):=zA HB4.out hb5
 generalize w4.heap.size=bx at *
 clear hb5 HO4 HB4 HB3
 refine Calls.mono (Him.out _ _ _ _ _ _ HO5.out) ?_
 rintro e w6 ⟨rfl,hb6⟩
 have HO6:Hid (zEv w6 fb4 fn F G4 b4 n K A4 rb4 rn E):=HO5.out.below hb6
 have HB6:Hid (Bw w1 w6):=zA HB5.out hb6
 have HX6:Hid (Blk w6 bx [.slice (some ⟨fb4,0,none⟩) fn fn,.int .i64 z,.int .i64 x,.int .i64 y,.int .i64 wd,.int .i64 ht,.int .i64 now,.int .i64 s,.slice (some ⟨b4,0,none⟩) n n,.slice (some ⟨rb4,0,none⟩) rn rn,.int .i64 bad]):=HX5.out.below HX5.out.lt hb6
 have hxl:bx<w6.heap.size:=HX6.out.lt
 clear hb6 HX5 HO5 HB5 Him
 go_wp2_with fail
 have hx:∀ W',Bw w6 W'→Blk W' bx [.slice (some ⟨fb4,0,none⟩) fn fn,.int .i64 z,.int .i64 x,.int .i64 y,.int .i64 wd,.int .i64 ht,.int .i64 now,.int .i64 s,.slice (some ⟨b4,0,none⟩) n n,.slice (some ⟨rb4,0,none⟩) rn rn,.int .i64 bad]:=fun W' h=>HX6.out.below hxl h
 have hv:∀ W',Bw w6 W'→Blk W' w.heap.size [.slice fa fn fc,.int .i64 z,.int .i64 x,.int .i64 y,.int .i64 wd,.int .i64 ht,.int .i64 now,.int .i64 s,.slice a n cap,.slice ra rn rc,.int .i64 bad]:=fun W' h=>HV1.out W' (zA HB6.out h)
 obtain ⟨x0,x1,x2,x3,x4,x5,x6,x7,x8,x9,x10⟩:=Blk.g11 (b:=w6.heap.size) (v:=w6) fun W' h=>(hx W' h)
 obtain ⟨v0,v1,v2,v3,v4,v5,v6,v7,v8,v9,v10⟩:=Blk.g11 (b:=w6.heap.size) (v:=w6) fun W' h=>(hv W' h)
 clear hx hv
 refine wp_region_noPanic ?_
 refine wp_region_held_drew (S:=fun W'=>Bw w6 W') (by kernel_rfl) (by have:=Below.refl w6.heap.size w6;exact Qb) (fun hHeld=>?_)
 have hX0:Bw w6 w6.drew:=hHeld
 refine zE (i:=0) (d:=some 22) rfl rfl ?_
 try simp only [Act.put,Qx,Qy,Qz]
 refine zE (i:=1) (d:=some 23) rfl rfl ?_
 try simp only [Act.put,Qx,Qy,Qz]
 generalize w6.drew=wk0 at *
 refine zR 2 fun K hK=>?_
 rw [if_pos (by rfl)]
 go_simp
 refine Calls.mono (HTo.out _ (zA HB6.out hX0)) ?_
 rintro e wk1 ⟨fq,Gq,bq,Aq,rq,rfl,hOq,hb1⟩
 have hX1:Bw w6 wk1:=zA hX0 hb1
 go_wp2_with fail
 refine hK.out _ _ (by assumption) (fun hHeld=>?_)
 clear hK K
 try simp only [Act.put,Qx,Qy,Qz]
 refine zR 3 fun K hK=>?_
 rw [if_pos (by rfl)]
 go_simp
 refine Calls.mono (HEq.out _ _ _ _ _ _ _ _ _ _ _ (HO6.out.below hX1) hOq) ?_
 rintro e wk2 ⟨rfl,hb2⟩
 have hX2:Bw w6 wk2:=zA hX1 hb2
 go_wp2_with fail
 refine hK.out _ _ (by assumption) (fun hHeld=>?_)
 clear hK K
 try simp only [Act.put,Qx,Qy,Qz]
 refine zE (i:=4) (d:=some 26) rfl rfl ?_
 try simp only [Act.put,Qx,Qy,Qz]
 refine wpAnyH_done (by kernel_rfl) ?_ _
 refine NoPanic.normal ?_
 have HB9:Hid (Bw w wk2):=zA HBw.out (zA HB6.out hX2)
 clear x0 v0 x1 v1 x2 v2 x3 v3 x4 v4 x5 v5 x6 v6 x7 v7 x8 v8 x9 v9 x10 v10
 go_wp2
 go_ret
 exact ⟨rfl,HB9.out⟩
end Go.Proofs.YtkjbafcalamgnaaGreat
