/- Texts. -/
import Derived.Test.YtpaiholildedcaaGreatVLabelsIn28
set_option linter.unusedSimpArgs false
set_option linter.unusedVariables false
set_option maxRecDepth 100000
set_option maxHeartbeats 32000000
namespace Go.Proofs.YtpaiholildedcaaGreat
open Go.RowKit
def inV (now bad:Int):Bool:=inB now 0 9000 && inB bad 0 9999
def zBh (z x y wd ht:Int)(n:Nat)(K:Nat→Kp)(E:Nat→Req)(i:Nat):Int:=if zDu z x y wd ht (E i).z (E i).x (E i).y=true then (if 0≤atK n K (E i).z (E i).x (E i).y then 8 else 0) else 8
noncomputable def viewC (z x y wd ht now s:Int)(n:Nat)(K:Nat→Kp)(rn:Nat)(E:Nat→Req)(bad:Int):Int :=
 if uJ z x y wd ht=0 then (if inV now bad=true then (if cacheC s n K=0 then (if s<4 then 3 else (if zX rn E=0 then yR (zBh z x y wd ht n K E) 0 rn else zX rn E)) else cacheC s n K) else 3) else uJ z x y wd ht
theorem Blk.cam {w:World}{q:Nat}{z x y wd ht:Int}{l:List Value}(h:Blk w q (.int .i64 z :: .int .i64 x :: .int .i64 y :: .int .i64 wd :: .int .i64 ht :: l)):zAo w q z x y wd ht:=⟨h.cell 0 rfl,h.cell 1 rfl,h.cell 2 rfl,h.cell 3 rfl,h.cell 4 rfl⟩
theorem zP0 {z x y wd ht:Int}(b:Nat)(rz rx ry:Int)(w:World)(h:zAo w b z x y wd ht)(hr:zBy z x y wd ht=true):Calls Tryz.prog 91 #[.pointer (some ⟨b,0,none⟩),uL rz rx ry] w fun e w'=>e=.returned (.bool (zDu z x y wd ht rz rx ry))∧Bw w w' :=
 zNq b _ _ rz rx ry w (by have:=zBg z x y wd ht;omega) (fun W hW=>zGa b W (by
  have hB:=World.block_lt_of_cell? _ _ h.1
  exact ⟨(hW.cell (p:=⟨b,0,none⟩) hB).trans h.1,(hW.cell (p:=⟨b,1,none⟩) hB).trans h.2.1,(hW.cell (p:=⟨b,2,none⟩) hB).trans h.2.2.1,(hW.cell (p:=⟨b,3,none⟩) hB).trans h.2.2.2.1,(hW.cell (p:=⟨b,4,none⟩) hB).trans h.2.2.2.2⟩) hr)
theorem zI4 (q:Nat)(z x y wd ht now s:Int)(b n cap:Nat)(A:Nat→Kp)(ra:Option Addr)(rn rc:Nat)(E:Nat→Req)(bad:Int)(w:World)(hV:Blk w q [.int .i64 z,.int .i64 x,.int .i64 y,.int .i64 wd,.int .i64 ht,.int .i64 now,.int .i64 s,.slice (some ⟨b,0,none⟩) n cap,.slice ra rn rc,.int .i64 bad])(ha:zB0 w b n A)(hs:zL n A)(hr:zAn w ra rn E)(hrn:rn≤1048576) :
  Calls Tryz.prog 43 #[.pointer (some ⟨q,0,none⟩)] w fun e w'=>e=.returned (.int .i64 (viewC z x y wd ht now s n A rn E bad))∧Bw w w':=by
 have HV:Hid (Blk w q [.int .i64 z,.int .i64 x,.int .i64 y,.int .i64 wd,.int .i64 ht,.int .i64 now,.int .i64 s,.slice (some ⟨b,0,none⟩) n cap,.slice ra rn rc,.int .i64 bad]):=hV
 have HA:Hid (zB0 w b n A):=ha
 have HS:Hid (zL n A):=hs
 have HR:Hid (zAn w ra rn E):=hr
 have hn:n≤1048576:=hs.1
 have hql:q<w.heap.size:=hV.lt
 have HF9:Hid (Calls Tryz.prog 30 #[.pointer (some ⟨q,0,none⟩)] w fun e w'=>e=.returned (.int .i64 (uJ z x y wd ht))∧Bw w w'):=zK4 q z x y wd ht w hV.cam
 have HVC:Hid (viewC z x y wd ht now s n A rn E bad=if uJ z x y wd ht=0 then (if inV now bad=true then (if cacheC s n A=0 then (if s<4 then 3 else (if zX rn E=0 then yR (zBh z x y wd ht n A E) 0 rn else zX rn E)) else cacheC s n A) else 3) else uJ z x y wd ht):=rfl
 clear hV ha hs hr
 generalize viewC z x y wd ht now s n A rn E bad=VC at *
 rcases zOf z x y wd ht with ⟨hc,hcb⟩ | ⟨hc,hcb⟩
 case inr =>
  have HE:Hid (VC=3):=by show _=_;rw [HVC.out,hc];rfl
  rw [hc] at HF9
  clear HVC
  go_enter Tryz.func43,Tryz.ntmps43
  go_wp2_with fail
  refine Calls.mono HF9.out ?_
  rintro e w1 ⟨rfl,hb1⟩
  go_wp2
  go_ret
  exact ⟨zE HE.out.symm,hb1⟩
 have HCB:Hid (zBy z x y wd ht=true):=hcb
 have HVC1:Hid (VC=if inV now bad=true then (if cacheC s n A=0 then (if s<4 then 3 else (if zX rn E=0 then yR (zBh z x y wd ht n A E) 0 rn else zX rn E)) else cacheC s n A) else 3):=by show _=_;rw [HVC.out,if_pos hc]
 rw [hc] at HF9
 clear hc hcb HVC
 have HI1:Hid (∀ W,Calls Tryz.prog 32 #[.int .i64 now,.int .i64 0,.int .i64 9000] W fun e w'=>e=.returned (.bool (inB now 0 9000))∧w'=W):=fun W=>zO _ _ _ W
 have HI2:Hid (∀ W,Calls Tryz.prog 32 #[.int .i64 bad,.int .i64 0,.int .i64 9999] W fun e w'=>e=.returned (.bool (inB bad 0 9999))∧w'=W):=fun W=>zO _ _ _ W
 cases h1:inB now 0 9000
 case false =>
  have HE:Hid (VC=3):=by show _=_;rw [HVC1.out];simp [inV,h1]
  rw [h1] at HI1
  clear HVC1 h1
  go_enter Tryz.func43,Tryz.ntmps43
  go_wp2_with fail
  refine Calls.mono HF9.out ?_
  rintro e w1 ⟨rfl,hb1⟩
  have HB1:Hid (Bw w w1):=hb1
  have c5:=(HV.out.below hql hb1).cell 5 rfl
  clear hb1
  go_wp2_with fail
  refine Calls.mono (HI1.out _) ?_
  rintro e w2 ⟨rfl,h2⟩
  subst w2
  go_wp2
  go_ret
  exact ⟨zE HE.out.symm,HB1.out⟩
 cases h2:inB bad 0 9999
 case false =>
  have HE:Hid (VC=3):=by show _=_;rw [HVC1.out];simp [inV,h2]
  rw [h1] at HI1
  rw [h2] at HI2
  clear HVC1 h1 h2
  go_enter Tryz.func43,Tryz.ntmps43
  go_wp2_with fail
  refine Calls.mono HF9.out ?_
  rintro e w1 ⟨rfl,hb1⟩
  have HB1:Hid (Bw w w1):=hb1
  have c5:=(HV.out.below hql hb1).cell 5 rfl
  have c9:=(HV.out.below hql hb1).cell 9 rfl
  clear hb1
  go_wp2_with fail
  refine Calls.mono (HI1.out _) ?_
  rintro e w2 ⟨rfl,h2⟩
  subst w2
  go_wp2_with fail
  refine Calls.mono (HI2.out _) ?_
  rintro e w2 ⟨rfl,h2⟩
  subst w2
  go_wp2
  go_ret
  exact ⟨zE HE.out.symm,HB1.out⟩
 have HVC2:Hid (VC=if cacheC s n A=0 then (if s<4 then 3 else (if zX rn E=0 then yR (zBh z x y wd ht n A E) 0 rn else zX rn E)) else cacheC s n A):=by show _=_;rw [HVC1.out];simp [inV,h1,h2]
 rw [h1] at HI1
 rw [h2] at HI2
 clear HVC1 h1 h2
 have HF11:Hid (∀ W,Bw w W→Calls Tryz.prog 89 #[.pointer (some ⟨q,6,none⟩)] W fun e w'=>e=.returned (.int .i64 (cacheC s n A))∧Bw W w'):=fun W h=>zI6 q 6 s b n cap A W ⟨(HV.out.below hql h).cell 6 rfl,(HV.out.below hql h).cell 7 rfl⟩ (HA.out.below h) HS.out
 have HF12:Hid (∀ W,Bw w W→Calls Tryz.prog 90 #[.slice ra rn rc] W fun e w'=>e=.returned (.int .i64 (zX rn E))∧Bw W w'):=fun W h=>zI5 ra rn rc E W (HR.out.below h) hrn
 go_enter Tryz.func43,Tryz.ntmps43
 go_wp2_with fail
 refine Calls.mono HF9.out ?_
 rintro e w1 ⟨rfl,hb1⟩
 have HB1:Hid (Bw w w1):=hb1
 have c5:=(HV.out.below hql hb1).cell 5 rfl
 have c9:=(HV.out.below hql hb1).cell 9 rfl
 clear hb1
 go_wp2_with fail
 refine Calls.mono (HI1.out _) ?_
 rintro e w2 ⟨rfl,h2⟩
 subst w2
 go_wp2_with fail
 refine Calls.mono (HI2.out _) ?_
 rintro e w2 ⟨rfl,h2⟩
 subst w2
 go_wp2_with fail
 refine Calls.mono (HF11.out _ HB1.out) ?_
 rintro e w2 ⟨rfl,hb2⟩
 have HB2:Hid (Bw w w2):=zA HB1.out hb2
 have c6:=(HV.out.below hql HB2.out).cell 6 rfl
 have c8:=(HV.out.below hql HB2.out).cell 8 rfl
 clear hb2 c5 c9 HF9 HF11 HI1 HI2 HB1
 by_cases h0:cacheC s n A=0
 case neg =>
  have HE:Hid (VC=cacheC s n A):=by show _=_;rw [HVC2.out,if_neg h0]
  have hcb:(cacheC s n A == 0)=false:=by simpa using h0
  clear HVC2
  generalize cacheC s n A=rc' at *
  go_wp2
  go_ret
  exact ⟨zE HE.out.symm,HB2.out⟩
 rw [h0]
 have HVC3:Hid (VC=if s<4 then 3 else (if zX rn E=0 then yR (zBh z x y wd ht n A E) 0 rn else zX rn E)):=by show _=_;rw [HVC2.out,if_pos h0]
 clear HVC2 h0
 by_cases h4:s<4
 case pos =>
  have HE:Hid (VC=3):=by show _=_;rw [HVC3.out,if_pos h4]
  clear HVC3
  go_wp2
  go_ret
  exact ⟨zE HE.out.symm,HB2.out⟩
 have HVC4:Hid (VC=if zX rn E=0 then yR (zBh z x y wd ht n A E) 0 rn else zX rn E):=by show _=_;rw [HVC3.out,if_neg h4]
 clear HVC3
 go_wp2_with fail
 refine Calls.mono (HF12.out _ HB2.out) ?_
 rintro e w3 ⟨rfl,hb3⟩
 have HB3:Hid (Bw w w3):=zA HB2.out hb3
 clear hb3 c6 c8 HF12 HB2 h4
 by_cases hq:zX rn E=0
 case neg =>
  have HE:Hid (VC=zX rn E):=by show _=_;rw [HVC4.out,if_neg hq]
  have hcb:(zX rn E == 0)=false:=by simpa using hq
  clear HVC4
  generalize zX rn E=rc' at *
  go_wp2
  go_ret
  exact ⟨zE HE.out.symm,HB3.out⟩
 rw [hq]
 have HVC5:Hid (VC=yR (zBh z x y wd ht n A E) 0 rn):=by show _=_;rw [HVC4.out,if_pos hq]
 clear HVC4 hq
 go_wp2_with fail
 go_loopw [6] (fun v wr=>∃ k:Nat,k≤rn∧v=.int .i64 k∧(∀ j,j<k→zBh z x y wd ht n A E j=0)∧Bw w wr) (fun v _=>rn - (intOf v).toNat)
 case atStart=>exact ⟨0,by omega,rfl,by omega,HB3.out⟩
 case round =>
  obtain ⟨k,hk,rfl,hA,hB⟩:=hrel
  have HB:Hid (Bw w wr):=hB
  have HZ:Hid (∀ j,j<k→zBh z x y wd ht n A E j=0):=hA
  have c8:∀ W',Bw wr W'→W'.cell? ⟨q,8,none⟩=some (.slice ra rn rc):=fun W' h=>(HV.out.below hql (zA HB.out h)).cell 8 rfl
  have c8':=c8 wr (Below.refl _ _)
  clear hA hB HB3
  by_cases hlt:k<rn
  ·have HLT:Hid (k<rn):=hlt
   have first:Hid (zBh z x y wd ht n A E k=8→VC=8):=fun hc=>by
    rw [HVC5.out,zU _ rn 0 k (fun j _ hj=>HZ.out j hj) (by omega) (by have:=HLT.out;omega) (by rw [hc];decide),hc]
   have HOK:Hid (zBh z x y wd ht n A E k=0→∀ j,j<k+1→zBh z x y wd ht n A E j=0):=fun h0 j hj=>by
    by_cases e:j=k
    ·rw [e];exact h0
    ·exact HZ.out j (by omega)
   rcases HR.out with hz | ⟨rb,ro,rfl,hrl,hW⟩
   ·omega
   have e0:∀ W',Bw wr W'→W'.cell? ⟨rb,ro+k * 5,none⟩=some (.int .i64 (E k).z):=fun W' h=>((hW.below (zA HB.out h) hrl) k hlt).1
   have e1:∀ W',Bw wr W'→W'.cell? ⟨rb,ro+k * 5+1,none⟩=some (.int .i64 (E k).x):=fun W' h=>((hW.below (zA HB.out h) hrl) k hlt).2.1
   have e2:∀ W',Bw wr W'→W'.cell? ⟨rb,ro+k * 5+2,none⟩=some (.int .i64 (E k).y):=fun W' h=>((hW.below (zA HB.out h) hrl) k hlt).2.2.1
   have HSe:Hid (∀ W',Bw wr W'→Calls Tryz.prog 91 #[.pointer (some ⟨q,0,none⟩),uL (E k).z (E k).x (E k).y] W' fun e w'=>e=.returned (.bool (zDu z x y wd ht (E k).z (E k).x (E k).y))∧Below W'.heap.size W' w'):=fun W' h=>zP0 q _ _ _ W' (HV.out.below hql (zA HB.out h)).cam HCB.out
   have HAt:Hid (∀ W',Bw wr W'→Calls Tryz.prog 68 #[.pointer (some ⟨q,6,none⟩),uL (E k).z (E k).x (E k).y] W' fun e w'=>e=.returned (.int .i64 (atK n A (E k).z (E k).x (E k).y))∧Below W'.heap.size W' w'):=fun W' h=>zEb q 6 s _ n cap A _ _ _ W' ⟨(HV.out.below hql (zA HB.out h)).cell 6 rfl,(HV.out.below hql (zA HB.out h)).cell 7 rfl⟩ (HA.out.below (zA HB.out h)).is hn
   have hi:(k:Int)<(rn:Int):=by omega
   have hi0:(0:Int)≤(k:Int):=by omega
   have hSt:zBh z x y wd ht n A E k=if zDu z x y wd ht (E k).z (E k).x (E k).y=true then (if 0≤atK n A (E k).z (E k).x (E k).y then 8 else 0) else 8:=rfl
   have HSt:=(show Hid _ from hSt)
   clear hSt hW
   generalize zBh z x y wd ht n A E k=ST at *
   generalize (E k).z=rz at *
   generalize (E k).x=rx at *
   generalize (E k).y=ry at *
   generalize atK n A rz rx ry=AT at *
   generalize zDu z x y wd ht rz rx ry=SN at *
   go_wp2_with fail
   refine wp_region_noPanic ?_
   refine wp_region_held_drew (S:=fun W'=>Bw wr W') (by kernel_rfl) (by have:=Below.refl wr.heap.size wr;exact Qb) (fun hHeld=>?_)
   have hX0:Bw wr wr.drew:=hHeld
   refine zC (i:=0) (d:=some 58) rfl rfl ?_
   try simp only [Act.put,Qx,Qy,Qz]
   refine zC (i:=1) (d:=some 59) rfl rfl ?_
   try simp only [Act.put,Qx,Qy,Qz]
   refine zC (i:=2) (d:=some 60) rfl rfl ?_
   try simp only [Act.put,Qx,Qy,Qz]
   refine zC (i:=3) (d:=some 61) rfl rfl ?_
   try simp only [Act.put,Qx,Qy,Qz]
   refine zC (i:=4) (d:=some 62) rfl rfl ?_
   try simp only [Act.put,Qx,Qy,Qz]
   refine zC (i:=5) (d:=some 63) rfl rfl ?_
   try simp only [Act.put,Qx,Qy,Qz]
   refine zC (i:=6) (d:=some 64) rfl rfl ?_
   try simp only [Act.put,Qx,Qy,Qz]
   refine zC (i:=7) (d:=some 65) rfl rfl ?_
   try simp only [Act.put,Qx,Qy,Qz]
   refine zC (i:=8) (d:=some 66) rfl rfl ?_
   try simp only [Act.put,Qx,Qy,Qz]
   refine zC (i:=9) (d:=some 67) rfl rfl ?_
   try simp only [Act.put,Qx,Qy,Qz]
   refine zC (i:=10) (d:=some 68) rfl rfl ?_
   try simp only [Act.put,Qx,Qy,Qz]
   generalize wr.drew=wk0 at *
   refine zN 11 fun K hK=>?_
   rw [if_pos (by rfl)]
   go_simp
   refine Calls.mono (HSe.out _ hX0) ?_
   rintro e wk1 ⟨rfl,hb1⟩
   have hX1:Bw wr wk1:=zA hX0 hb1
   go_wp2_with fail
   refine hK.out _ _ (by assumption) (fun hHeld=>?_)
   clear hK K
   try simp only [Act.put,Qx,Qy,Qz]
   cases SN
   ·have HE:Hid (VC=8):=first.out (by rw [HSt.out];rfl)
    refine zC (i:=12) (d:=some 70) rfl rfl ?_
    try simp only [Act.put,Qx,Qy,Qz]
    refine zC (i:=13) (d:=some 71) rfl rfl ?_
    try simp only [Act.put,Qx,Qy,Qz]
    refine zJ (i:=14) (d:=some 72) rfl rfl (by rfl) (by assumption) ?_
    try simp only [Act.put,Qx,Qy,Qz]
    refine zJ (i:=15) (d:=some 73) rfl rfl (by rfl) (by assumption) ?_
    try simp only [Act.put,Qx,Qy,Qz]
    refine zJ (i:=16) (d:=some 74) rfl rfl (by rfl) (by assumption) ?_
    try simp only [Act.put,Qx,Qy,Qz]
    refine zJ (i:=17) (d:=some 75) rfl rfl (by rfl) (by assumption) ?_
    try simp only [Act.put,Qx,Qy,Qz]
    refine zJ (i:=18) (d:=some 76) rfl rfl (by rfl) (by assumption) ?_
    try simp only [Act.put,Qx,Qy,Qz]
    refine zJ (i:=19) (d:=some 77) rfl rfl (by rfl) (by assumption) ?_
    try simp only [Act.put,Qx,Qy,Qz]
    refine zJ (i:=20) (d:=some 78) rfl rfl (by rfl) (by assumption) ?_
    try simp only [Act.put,Qx,Qy,Qz]
    refine zJ (i:=21) (d:=some 79) rfl rfl (by rfl) (by assumption) ?_
    try simp only [Act.put,Qx,Qy,Qz]
    refine zJ (i:=22) (d:=some 80) rfl rfl (by rfl) (by assumption) ?_
    try simp only [Act.put,Qx,Qy,Qz]
    refine zJ (i:=23) (d:=some 81) rfl rfl (by rfl) (by assumption) ?_
    try simp only [Act.put,Qx,Qy,Qz]
    refine zJ (i:=24) (d:=some 82) rfl rfl (by rfl) (by assumption) ?_
    try simp only [Act.put,Qx,Qy,Qz]
    refine zJ (i:=25) (d:=some 83) rfl rfl (by rfl) (by assumption) ?_
    try simp only [Act.put,Qx,Qy,Qz]
    refine zJ (i:=26) (d:=some 84) rfl rfl (by rfl) (by assumption) ?_
    try simp only [Act.put,Qx,Qy,Qz]
    refine zC (i:=27) (d:=some 85) rfl rfl ?_
    try simp only [Act.put,Qx,Qy,Qz]
    refine wpAnyH_done (by kernel_rfl) ?_ _
    refine NoPanic.normal ?_
    have HB9:Hid (Bw w wk1):=zA HB.out hX1
    clear c8 e0 e1 e2 c8' hX0 hb1 hX1
    go_wp2
    go_ret
    exact ⟨zE HE.out.symm,HB9.out⟩
   ·have HSt2:Hid (ST=if 0≤AT then 8 else 0):=by show _=_;rw [HSt.out];rfl
    refine zC (i:=12) (d:=some 70) rfl rfl ?_
    try simp only [Act.put,Qx,Qy,Qz]
    refine zC (i:=13) (d:=some 71) rfl rfl ?_
    try simp only [Act.put,Qx,Qy,Qz]
    refine zC (i:=14) (d:=some 72) rfl rfl ?_
    try simp only [Act.put,Qx,Qy,Qz]
    refine zC (i:=15) (d:=some 73) rfl rfl ?_
    try simp only [Act.put,Qx,Qy,Qz]
    refine zC (i:=16) (d:=some 74) rfl rfl ?_
    try simp only [Act.put,Qx,Qy,Qz]
    refine zC (i:=17) (d:=some 75) rfl rfl ?_
    try simp only [Act.put,Qx,Qy,Qz]
    refine zC (i:=18) (d:=some 76) rfl rfl ?_
    try simp only [Act.put,Qx,Qy,Qz]
    refine zC (i:=19) (d:=some 77) rfl rfl ?_
    try simp only [Act.put,Qx,Qy,Qz]
    refine zC (i:=20) (d:=some 78) rfl rfl ?_
    try simp only [Act.put,Qx,Qy,Qz]
    refine zC (i:=21) (d:=some 79) rfl rfl ?_
    try simp only [Act.put,Qx,Qy,Qz]
    refine zC (i:=22) (d:=some 80) rfl rfl ?_
    try simp only [Act.put,Qx,Qy,Qz]
    refine zC (i:=23) (d:=some 81) rfl rfl ?_
    try simp only [Act.put,Qx,Qy,Qz]
    refine zC (i:=24) (d:=some 82) rfl rfl ?_
    try simp only [Act.put,Qx,Qy,Qz]
    refine zN 25 fun K hK=>?_
    rw [if_pos (by rfl)]
    go_simp
    refine Calls.mono (HAt.out _ hX1) ?_
    rintro e wk2 ⟨rfl,hb2⟩
    have hX2:Bw wr wk2:=zA hX1 hb2
    go_wp2_with fail
    refine hK.out _ _ (by assumption) (fun hHeld=>?_)
    clear hK K
    try simp only [Act.put,Qx,Qy,Qz]
    have HB9:Hid (Bw w wk2):=zA HB.out hX2
    by_cases hat:0≤AT
    ·have HE:Hid (VC=8):=first.out (by rw [HSt2.out,if_pos hat])
     refine zC (i:=26) (d:=some 84) rfl rfl ?_
     try simp only [Act.put,Qx,Qy,Qz]
     refine zC (i:=27) (d:=some 85) rfl rfl ?_
     try simp only [Act.put,Qx,Qy,Qz]
     refine wpAnyH_done (by kernel_rfl) ?_ _
     refine NoPanic.normal ?_
     clear c8 e0 e1 e2 c8' hX0 hb1 hX1 hb2 hX2
     go_wp2
     go_ret
     exact ⟨zE HE.out.symm,HB9.out⟩
    ·have HE:Hid (ST=0):=by show _=_;rw [HSt2.out,if_neg hat]
     refine zC (i:=26) (d:=some 84) rfl rfl ?_
     try simp only [Act.put,Qx,Qy,Qz]
     refine zC (i:=27) (d:=some 85) rfl rfl ?_
     try simp only [Act.put,Qx,Qy,Qz]
     refine wpAnyH_done (by kernel_rfl) ?_ _
     refine NoPanic.normal ?_
     clear c8 e0 e1 e2 c8' hX0 hb1 hX1 hb2 hX2
     go_wp2_with fail
     go_roundw
     case rel=>exact ⟨k+1,by have:=HLT.out;omega,by go_num,HOK.out HE.out,HB9.out⟩
     case measure=>have:=HLT.out;simp [intOf];omega
  ·have HE:Hid (VC=0):=by
    show _=_
    rw [HVC5.out]
    exact yT _ _ _ (fun j _ hj=>HZ.out j (by omega))
   obtain rfl:rn=k:=by omega
   go_wp2
   go_ret
   exact ⟨zE HE.out.symm,HB.out⟩
end Go.Proofs.YtpaiholildedcaaGreat
