/- Texts. -/
import Derived.Test.YtpaiholildedcaaGreatVFrameOf28
set_option linter.unusedSimpArgs false
set_option linter.unusedVariables false
set_option maxRecDepth 100000
set_option maxHeartbeats 32000000
namespace Go.Proofs.YtpaiholildedcaaGreat
open Go.RowKit
def zDy (now bad:Int):Int:=if inV now bad=true then 0 else 3
theorem zDq (p:Nat)(now bad:Int)(w:World)(h5:w.cell? ⟨p,5,none⟩=some (.int .i64 now))(h8:w.cell? ⟨p,8,none⟩=some (.int .i64 bad)) :
  Calls Tryz.prog 73 #[.pointer (some ⟨p,0,none⟩)] w fun e w'=>e=.returned (.int .i64 (zDy now bad))∧Bw w w':=by
 have HI:Hid (∀ W,Calls Tryz.prog 62 #[.int .i64 bad,.int .i64 0,.int .i64 9999] W fun e w'=>e=.returned (.bool (inB bad 0 9999))∧w'=W):=fun W=>zM _ _ _ W
 have HT:Hid (∀ W,Calls Tryz.prog 121 #[.int .i64 now] W fun e w'=>e=.returned (.int .i64 (timC now))∧Bw W w'):=fun W=>zFa now W
 cases hb:inB bad 0 9999
 ·have HE:Hid (zDy now bad=3):=by show _=_;simp [zDy,inV,hb]
  rw [hb] at HI
  go_enter Tryz.func73,Tryz.ntmps73
  go_wp2_with fail
  refine Calls.mono (HI.out _) ?_
  rintro e w2 ⟨rfl,h2⟩
  subst w2
  go_wp2
  go_ret
  exact ⟨zD HE.out.symm,Below.refl _ _⟩
 ·have HE:Hid (zDy now bad=timC now):=by show _=_;simp [zDy,inV,hb,timC]
  rw [hb] at HI
  clear hb
  generalize zDy now bad=CC at *
  generalize timC now=TC at *
  go_enter Tryz.func73,Tryz.ntmps73
  go_wp2_with fail
  refine Calls.mono (HI.out _) ?_
  rintro e w2 ⟨rfl,h2⟩
  subst w2
  go_wp2_with fail
  refine Calls.mono (HT.out _) ?_
  rintro e w3 ⟨rfl,hb3⟩
  go_wp2
  go_ret
  exact ⟨zD HE.out.symm,hb3⟩
theorem zFg (s:Int)(w:World):Calls Tryz.prog 75 #[.int .i64 s] w fun e w'=>e=.returned (.int .i64 (if s<4 then 3 else 0))∧w'=w:=by
 by_cases h:s<4
 ·rw [if_pos h]
  go_enter Tryz.func75,Tryz.ntmps75
  go_wp2
  go_ret
  exact ⟨rfl,rfl⟩
 ·rw [if_neg h]
  go_enter Tryz.func75,Tryz.ntmps75
  go_wp2
  go_ret
  exact ⟨rfl,rfl⟩
theorem zK6 {n:Nat}{E:Nat→Req}(h:zU n E=0):∀ j,j<n→xV (E j).z (E j).x (E j).y=true:=by
 unfold zU at h
 split at h
 ·cases h
 ·intro j hj
  cases hr:zH6 (E j)
  ·exfalso
   obtain ⟨i,hi,hne,hall⟩:∃ i,i≤j∧yY E i≠0∧∀ l,l<i→yY E l=0:=by
    have:∀ m,(∃ i,i≤m∧yY E i≠0)→∃ i,i≤m∧yY E i≠0∧∀ l,l<i→yY E l=0:=by
     intro m
     induction m with
     | zero=>rintro ⟨i,hi,h⟩;exact ⟨i,hi,h,fun l hl=>by omega⟩
     | succ m ih =>
      rintro ⟨i,hi,h⟩
      by_cases hx:∃ i,i≤m∧yY E i≠0
      ·obtain ⟨i,h1,h2⟩:=ih hx;exact ⟨i,by omega,h2⟩
      ·refine ⟨i,hi,h,fun l hl=>?_⟩
       by_cases e:yY E l=0
       ·exact e
       ·exact absurd ⟨l,by omega,e⟩ hx
    exact this j ⟨j,Nat.le_refl _,by rw [zA7 hr];decide⟩
   rw [zQ (yY E) n 0 i (fun l _ hl=>hall l hl) (by omega) (by omega) hne] at h
   exact hne h
  ·unfold zH6 at hr
   simp at hr
   exact hr.1
theorem zD2 (B p sp:Nat)(z x y wd ht now s:Int)(n:Nat)(A:Nat→Kp)(ra:Option Addr)(rn rc:Nat)(E:Nat→Req)(bad:Int)(w:World)(hV:Blk w p [.int .i64 z,.int .i64 x,.int .i64 y,.int .i64 wd,.int .i64 ht,.int .i64 now,.pointer (some ⟨sp,0,none⟩),.slice ra rn rc,.int .i64 bad,.slice none 0 0])(hK:ShK w B sp s n A)(h0:cacheC s n A=0)(hr:uQ w ra rn E)(hrn:rn≤1048576)(hrc:rn≤rc)(hq:zU rn E=0) :
  Calls Tryz.prog 77 #[.pointer (some ⟨p,0,none⟩)] w fun e w'=>e=.returned (.int .i64 (yH (zAp z x y wd ht n A E) 0 rn))∧Bw w w':=by
 have HV:Hid (Blk w p [.int .i64 z,.int .i64 x,.int .i64 y,.int .i64 wd,.int .i64 ht,.int .i64 now,.pointer (some ⟨sp,0,none⟩),.slice ra rn rc,.int .i64 bad,.slice none 0 0]):=hV
 have HK:Hid (ShK w B sp s n A):=hK
 have HR:Hid (uQ w ra rn E):=hr
 have hpl:p<w.heap.size:=hV.lt
 have HZ0:Hid (∀ j,j<n→kC A j=0):=zA3 h0
 have HRB:Hid (∀ j,j<rn→xV (E j).z (E j).x (E j).y=true):=zK6 hq
 have c7:=hV.cell 7 rfl
 clear hV hK hr h0 hq
 obtain ⟨VC,hVC⟩:∃ VC,yH (zAp z x y wd ht n A E) 0 rn=VC:=⟨_,rfl⟩
 rw [hVC]
 have HVC5:Hid (VC=yH (zAp z x y wd ht n A E) 0 rn):=hVC.symm
 clear hVC
 go_enter Tryz.func77,Tryz.ntmps77
 go_wp2_with fail
 go_loopw [10] (fun v wr=>∃ k:Nat,k≤rn∧v=.int .i64 k∧(∀ j,j<k→zAp z x y wd ht n A E j=0)∧Bw w wr) (fun v _=>rn - (intOf v).toNat)
 case atStart=>exact ⟨0,by omega,rfl,by omega,Below.refl _ _⟩
 case round =>
  obtain ⟨k,hk,rfl,hA,hB⟩:=hrel
  have HB:Hid (Bw w wr):=hB
  have HZ:Hid (∀ j,j<k→zAp z x y wd ht n A E j=0):=hA
  clear hA hB c7
  by_cases hlt:k<rn
  ·have HLT:Hid (k<rn):=hlt
   have first:Hid (zAp z x y wd ht n A E k=8→VC=8):=fun hc=>by
    rw [HVC5.out,zQ _ rn 0 k (fun j _ hj=>HZ.out j hj) (by omega) (by have:=HLT.out;omega) (by rw [hc];decide),hc]
   have HOK:Hid (zAp z x y wd ht n A E k=0→∀ j,j<k+1→zAp z x y wd ht n A E j=0):=fun h0 j hj=>by
    by_cases e:j=k
    ·rw [e];exact h0
    ·exact HZ.out j (by omega)
   rcases HR.out with hz | ⟨rb,ro,rfl,hrl,hW⟩
   ·omega
   obtain ⟨e0,e1,e2,e3,e4⟩:=(hW.below HB.out hrl) k hlt
   have hi:(k:Int)<(rn:Int):=by omega
   have hi0:(0:Int)≤(k:Int):=by omega
   obtain ⟨iz,ix,iy⟩:=zCz (HRB.out k hlt)
   have HSe:Hid (∀ W',Calls Tryz.prog 127 #[zH7 z x y wd ht,xD (E k).z (E k).x (E k).y] W' fun e w'=>e=.returned (.bool (zCw z x y wd ht (E k).z (E k).x (E k).y))∧Below W'.heap.size W' w'):=fun W'=>zDe z x y wd ht _ _ _ W'
   have HAt:Hid (∀ W',Bw w W'→Calls Tryz.prog 81 #[.pointer (some ⟨sp,0,none⟩),xD (E k).z (E k).x (E k).y] W' fun e w'=>e=.returned (.bool (decide (0≤atK n A (E k).z (E k).x (E k).y)))∧Below W'.heap.size W' w'):=fun W' h=>by
    obtain ⟨mb,_,_,h3,h4,h5⟩:=HK.out.below h
    have:=uS sp mb n s (n:Int) (shD A n) (E k).z (E k).x (E k).y W' h3 h5 iz ix iy
    rw [zCv iz ix iy n (zKm HZ0.out)] at this
    exact this
   have hSt:zAp z x y wd ht n A E k=if zCw z x y wd ht (E k).z (E k).x (E k).y=true then (if 0≤atK n A (E k).z (E k).x (E k).y then 8 else 0) else 8:=rfl
   have HSt:=(show Hid _ from hSt)
   clear hSt hW iz ix iy
   generalize zAp z x y wd ht n A E k=ST at *
   generalize (E k).z=rz at *
   generalize (E k).x=rx at *
   generalize (E k).y=ry at *
   generalize (E k).du=rd at *
   generalize (E k).tr=rt at *
   generalize atK n A rz rx ry=AT at *
   generalize zCw z x y wd ht rz rx ry=SN at *
   go_wp2_with fail
   generalize hU:(wr.alloc _:World)=U
   have HBU:Hid (Bw w U):=by show Below _ _ _;subst hU;exact zA HB.out (xI (Below.refl _ _) _)
   have HRU:Hid (RK U wr.heap.size rz rx ry):=by show RK _ _ _ _ _;subst hU;refine ⟨?_,?_,?_⟩ <;> simp [go_sem]
   clear hU e0 e1 e2 e3 e4
   have hl0:∀ W',Bw U W'→Blk W' p [.int .i64 z,.int .i64 x,.int .i64 y,.int .i64 wd,.int .i64 ht,.int .i64 now,.pointer (some ⟨sp,0,none⟩),.slice (some ⟨rb,ro,none⟩) rn rc,.int .i64 bad,.slice none 0 0]:=fun W' h=>HV.out.below hpl (zA HBU.out h)
   obtain ⟨c0,c1,c2,c3,c4⟩:=Blk.g5 (b:=U.heap.size) (v:=U) fun W' h=>(hl0 W' h)
   have c6:∀ W',Bw U W'→W'.cell? ⟨p,6,none⟩=some (.pointer (some ⟨sp,0,none⟩)):=fun W' h=>(hl0 W' h).cell 6 rfl
   have r0:∀ W',Bw U W'→W'.cell? ⟨wr.heap.size,0,none⟩=some (.int .i64 rz):=fun W' h=>(HRU.out.below h).1
   have r1:∀ W',Bw U W'→W'.cell? ⟨wr.heap.size,1,none⟩=some (.int .i64 rx):=fun W' h=>(HRU.out.below h).2.1
   have r2:∀ W',Bw U W'→W'.cell? ⟨wr.heap.size,2,none⟩=some (.int .i64 ry):=fun W' h=>(HRU.out.below h).2.2
   clear hl0
   refine wp_region_noPanic ?_
   refine wp_region_held_drew (S:=fun W'=>Bw U W') (by kernel_rfl) (by have:=Below.refl U.heap.size U;exact Qb) (fun hHeld=>?_)
   have hX0:Bw U U.drew:=hHeld
   refine zE (i:=0) (d:=some 14) rfl rfl ?_
   try simp only [Act.put,Qx,Qy,Qz]
   refine zE (i:=1) (d:=some 15) rfl rfl ?_
   try simp only [Act.put,Qx,Qy,Qz]
   refine zE (i:=2) (d:=some 16) rfl rfl ?_
   try simp only [Act.put,Qx,Qy,Qz]
   refine zE (i:=3) (d:=some 17) rfl rfl ?_
   try simp only [Act.put,Qx,Qy,Qz]
   refine zE (i:=4) (d:=some 18) rfl rfl ?_
   try simp only [Act.put,Qx,Qy,Qz]
   refine zE (i:=5) (d:=some 19) rfl rfl ?_
   try simp only [Act.put,Qx,Qy,Qz]
   generalize U.drew=wk0 at *
   refine zO 6 fun K hK=>?_
   rw [if_pos (by rfl)]
   go_simp
   refine Calls.mono (HSe.out _) ?_
   rintro e wk1 ⟨rfl,hb1⟩
   have hX1:Bw U wk1:=zA hX0 hb1
   go_wp2_with fail
   refine hK.out _ _ (by assumption) (fun hHeld=>?_)
   clear hK K
   try simp only [Act.put,Qx,Qy,Qz]
   cases SN
   ·have HE:Hid (VC=8):=first.out (by rw [HSt.out];rfl)
    refine zE (i:=7) (d:=some 21) rfl rfl ?_
    try simp only [Act.put,Qx,Qy,Qz]
    refine zE (i:=8) (d:=some 22) rfl rfl ?_
    try simp only [Act.put,Qx,Qy,Qz]
    refine yK (i:=9) (d:=some 23) rfl rfl (by rfl) (by assumption) ?_
    try simp only [Act.put,Qx,Qy,Qz]
    refine yK (i:=10) (d:=some 24) rfl rfl (by rfl) (by assumption) ?_
    try simp only [Act.put,Qx,Qy,Qz]
    refine yK (i:=11) (d:=some 25) rfl rfl (by rfl) (by assumption) ?_
    try simp only [Act.put,Qx,Qy,Qz]
    refine yK (i:=12) (d:=some 26) rfl rfl (by rfl) (by assumption) ?_
    try simp only [Act.put,Qx,Qy,Qz]
    refine yK (i:=13) (d:=some 27) rfl rfl (by rfl) (by assumption) ?_
    try simp only [Act.put,Qx,Qy,Qz]
    refine yK (i:=14) (d:=some 28) rfl rfl (by rfl) (by assumption) ?_
    try simp only [Act.put,Qx,Qy,Qz]
    refine yK (i:=15) (d:=some 29) rfl rfl (by rfl) (by assumption) ?_
    try simp only [Act.put,Qx,Qy,Qz]
    refine zE (i:=16) (d:=some 30) rfl rfl ?_
    try simp only [Act.put,Qx,Qy,Qz]
    refine wpAnyH_done (by kernel_rfl) ?_ _
    refine NoPanic.normal ?_
    have HB9:Hid (Bw w wk1):=zA HBU.out hX1
    clear c0 c1 c2 c3 c4 c6 r0 r1 r2 hX0 hb1 hX1
    go_wp2
    go_ret
    exact ⟨zD HE.out.symm,HB9.out⟩
   ·have HSt2:Hid (ST=if 0≤AT then 8 else 0):=by show _=_;rw [HSt.out];rfl
    refine zE (i:=7) (d:=some 21) rfl rfl ?_
    try simp only [Act.put,Qx,Qy,Qz]
    refine zE (i:=8) (d:=some 22) rfl rfl ?_
    try simp only [Act.put,Qx,Qy,Qz]
    refine zE (i:=9) (d:=some 23) rfl rfl ?_
    try simp only [Act.put,Qx,Qy,Qz]
    refine zE (i:=10) (d:=some 24) rfl rfl ?_
    try simp only [Act.put,Qx,Qy,Qz]
    refine zE (i:=11) (d:=some 25) rfl rfl ?_
    try simp only [Act.put,Qx,Qy,Qz]
    refine zE (i:=12) (d:=some 26) rfl rfl ?_
    try simp only [Act.put,Qx,Qy,Qz]
    refine zE (i:=13) (d:=some 27) rfl rfl ?_
    try simp only [Act.put,Qx,Qy,Qz]
    refine zE (i:=14) (d:=some 28) rfl rfl ?_
    try simp only [Act.put,Qx,Qy,Qz]
    refine zO 15 fun K hK=>?_
    rw [if_pos (by rfl)]
    go_simp
    refine Calls.mono (HAt.out _ (zA HBU.out hX1)) ?_
    rintro e wk2 ⟨rfl,hb2⟩
    have hX2:Bw U wk2:=zA hX1 hb2
    go_wp2_with fail
    refine hK.out _ _ (by assumption) (fun hHeld=>?_)
    clear hK K
    try simp only [Act.put,Qx,Qy,Qz]
    have HB9:Hid (Bw w wk2):=zA HBU.out hX2
    by_cases hat:0≤AT
    ·have HE:Hid (VC=8):=first.out (by rw [HSt2.out,if_pos hat])
     have hdec:decide (0≤AT)=true:=decide_eq_true hat
     refine zE (i:=16) (d:=some 30) rfl rfl ?_
     try simp only [Act.put,Qx,Qy,Qz]
     refine wpAnyH_done (by kernel_rfl) ?_ _
     refine NoPanic.normal ?_
     clear c0 c1 c2 c3 c4 c6 r0 r1 r2 hX0 hb1 hX1 hb2 hX2
     go_wp2
     go_ret
     exact ⟨zD HE.out.symm,HB9.out⟩
    ·have HE:Hid (ST=0):=by show _=_;rw [HSt2.out,if_neg hat]
     have hdec:decide (0≤AT)=false:=decide_eq_false hat
     refine zE (i:=16) (d:=some 30) rfl rfl ?_
     try simp only [Act.put,Qx,Qy,Qz]
     refine wpAnyH_done (by kernel_rfl) ?_ _
     refine NoPanic.normal ?_
     clear c0 c1 c2 c3 c4 c6 r0 r1 r2 hX0 hb1 hX1 hb2 hX2
     go_wp2_with fail
     go_roundw
     case rel=>exact ⟨k+1,by have:=HLT.out;omega,by go_num,HOK.out HE.out,HB9.out⟩
     case measure=>have:=HLT.out;simp [intOf];omega
  ·have HE:Hid (VC=0):=by
    show _=_
    rw [HVC5.out]
    exact yJ _ _ _ (fun j _ hj=>HZ.out j (by omega))
   obtain rfl:rn=k:=by omega
   go_wp2
   go_ret
   exact ⟨zD HE.out.symm,HB.out⟩
end Go.Proofs.YtpaiholildedcaaGreat
