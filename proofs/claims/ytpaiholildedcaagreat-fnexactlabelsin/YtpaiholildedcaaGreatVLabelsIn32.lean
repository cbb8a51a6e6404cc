/- Texts. -/
import Derived.Test.YtpaiholildedcaaGreatVLabelsIn31
import Derived.Test.YtpaiholildedcaaGreatVLabelsIn30
import Derived.Sort.MapsRangeIn
import Derived.Sort.KeysCollected
set_option linter.unusedSimpArgs false
set_option linter.unusedVariables false
set_option maxRecDepth 100000
set_option maxHeartbeats 32000000
namespace Go.Proofs.YtpaiholildedcaaGreat
open Go.RowKit
theorem zJ2 (n:Nat)(K:Nat→Kp)(z x y:Int):atK n K z x y=-1∨∃ i:Nat,i<n∧atK n K z x y=(i:Int)∧(K i).z=z∧(K i).x=x∧(K i).y=y:=by
 unfold atK
 rcases uT (fun i=>isK (K i) z x y) n with ⟨h1,h2⟩ | ⟨i,hi,hg,hf,hn⟩
 ·exact .inl h1
 ·exact .inr ⟨i,hi,hf,zBo.1 hg⟩
theorem zO7 {A:Nat→Kp}{z x y:Int}(hz:I64 z)(hx:I64 x)(hy:I64 y):∀ k,(∀ j,j<k→kC A j=0)→∀ i,i<k→isK (A i) z x y=true→∀ zd,(shD A k).atKey (zBd z x y) zd=.held (agV (A i).z (A i).x (A i).y (A i).fa (A i).fn (A i).fc (A i).ia (A i).m (A i).ic ((i:Int)+1))
 | 0,_,i,hi,_,_=>by omega
 | k+1,h,i,hi,hE,zd=>by
  by_cases e:i=k
  ·subst e
   obtain ⟨rfl,rfl,rfl⟩:=zBo.1 hE
   exact Maps.atKey_put_same (zDf A i).isMap (zLb _ _ _) _ _
  ·have hk:=zBm (h k (by omega))
   obtain ⟨az,ax,ay⟩:=zFy hk.1
   have hne:zBd z x y≠zBd (A k).z (A k).x (A k).y:=fun e'=>by
    obtain ⟨h1,h2,h3⟩:=zLa hz hx hy az ax ay e'
    refine hk.2 (zAe.2 ⟨i,by omega,?_⟩)
    rw [← h1,← h2,← h3];exact hE
   have e1:(shD A (k+1)).atKey (zBd z x y) zd=(shD A k).atKey (zBd z x y) zd:=Maps.atKey_put_other hne _ _
   rw [e1]
   exact zO7 hz hx hy k (fun j hj=>h j (by omega)) i (by omega) hE zd
def ShN (W:World)(p mb:Nat)(s:Int)(n:Nat)(A:Nat→Kp):Prop:=ShA W p s (n:Int) mb∧W.ownsMap Tryz.prog 111 RV mb n (shD A n)
theorem ShN.below {w w':World}{p mb n:Nat}{s:Int}{A:Nat→Kp}(h:ShN w p mb s n A)(hb:Below w.heap.size w w'):ShN w' p mb s n A:=⟨h.1.below hb,yW h.2 hb⟩
theorem ShN.look {w:World}{p mb n:Nat}{s:Int}{A:Nat→Kp}(h:ShN w p mb s n A)(h0:∀ j,j<n→kC A j=0){z x y:Int}(hr:zAv z x y=true){i:Nat}(hi:i<n)(hE:isK (A i) z x y=true) :
  (Instr.lookup 171 (.map (some mb)) (uL z x y) false).run Tryz.prog w=.ok (agV (A i).z (A i).x (A i).y (A i).fa (A i).fn (A i).fc (A i).ia (A i).m (A i).ic ((i:Int)+1)) w:=by
 obtain ⟨hz,hx,hy⟩:=zDv hr
 obtain ⟨v,ps,hrun,hv⟩:=h.2.lookup zA2 Tryz.underlying171 (zDo _) (zS3 0 0 0 none 0 0 none 0 0 0) (zCr hz hx hy)
 obtain ⟨e,_⟩:=zQ3 hv
 rw [zO7 hz hx hy n h0 i hi hE] at e
 injection e with e
 rw [e];exact hrun
def zE5 (now bad:Int):Int:=if inV now bad=true then 0 else 3
theorem zEu (p:Nat)(now bad:Int)(w:World)(h5:w.cell? ⟨p,5,none⟩=some (.int .i64 now))(h8:w.cell? ⟨p,8,none⟩=some (.int .i64 bad)) :
  Calls Tryz.prog 73 #[.pointer (some ⟨p,0,none⟩)] w fun e w'=>e=.returned (.int .i64 (zE5 now bad))∧Bw w w':=by
 have HI:Hid (∀ W,Calls Tryz.prog 62 #[.int .i64 bad,.int .i64 0,.int .i64 9999] W fun e w'=>e=.returned (.bool (inB bad 0 9999))∧w'=W):=fun W=>zM _ _ _ W
 have HT:Hid (∀ W,Calls Tryz.prog 121 #[.int .i64 now] W fun e w'=>e=.returned (.int .i64 (timC now))∧Bw W w'):=fun W=>zGq now W
 cases hb:inB bad 0 9999
 ·have HE:Hid (zE5 now bad=3):=by show _=_;simp [zE5,inV,hb]
  rw [hb] at HI
  go_enter Tryz.func73,Tryz.ntmps73
  go_wp2_with fail
  refine Calls.mono (HI.out _) ?_
  rintro e w2 ⟨rfl,h2⟩
  subst w2
  go_wp2
  go_ret
  exact ⟨zE HE.out.symm,Below.refl _ _⟩
 ·have HE:Hid (zE5 now bad=timC now):=by show _=_;simp [zE5,inV,hb,timC]
  rw [hb] at HI
  clear hb
  generalize zE5 now bad=CC at *
  generalize timC now=TC at *
  go_enter Tryz.func73,Tryz.ntmps73
  go_wp2_with fail
  refine Calls.mono (HI.out _) ?_
  rintro e w2 ⟨rfl,h2⟩
  subst w2
  go_wp2_with fail
  refine Calls.mono (HT.out _) ?_
  rintro e w3 ⟨rfl,hb3⟩
  go_wp2
  go_ret
  exact ⟨zE HE.out.symm,hb3⟩
theorem zG0 (s:Int)(w:World):Calls Tryz.prog 75 #[.int .i64 s] w fun e w'=>e=.returned (.int .i64 (if s<4 then 3 else 0))∧w'=w:=by
 by_cases h:s<4
 ·rw [if_pos h]
  go_enter Tryz.func75,Tryz.ntmps75
  go_wp2
  go_ret
  exact ⟨rfl,rfl⟩
 ·rw [if_neg h]
  go_enter Tryz.func75,Tryz.ntmps75
  go_wp2
  go_ret
  exact ⟨rfl,rfl⟩
theorem zNb {n:Nat}{E:Nat→Req}(h:zX n E=0):∀ j,j<n→zAv (E j).z (E j).x (E j).y=true:=by
 unfold zX at h
 split at h
 ·cases h
 ·intro j hj
  cases hr:zJ8 (E j)
  ·exfalso
   obtain ⟨i,hi,hne,hall⟩:∃ i,i≤j∧xE E i≠0∧∀ l,l<i→xE E l=0:=by
    have:∀ m,(∃ i,i≤m∧xE E i≠0)→∃ i,i≤m∧xE E i≠0∧∀ l,l<i→xE E l=0:=by
     intro m
     induction m with
     | zero=>rintro ⟨i,hi,h⟩;exact ⟨i,hi,h,fun l hl=>by omega⟩
     | succ m ih =>
      rintro ⟨i,hi,h⟩
      by_cases hx:∃ i,i≤m∧xE E i≠0
      ·obtain ⟨i,h1,h2⟩:=ih hx;exact ⟨i,by omega,h2⟩
      ·refine ⟨i,hi,h,fun l hl=>?_⟩
       by_cases e:xE E l=0
       ·exact e
       ·exact absurd ⟨l,by omega,e⟩ hx
    exact this j ⟨j,Nat.le_refl _,by rw [zB6 hr];decide⟩
   rw [zU (xE E) n 0 i (fun l _ hl=>hall l hl) (by omega) (by omega) hne] at h
   exact hne h
  ·unfold zJ8 at hr
   simp at hr
   exact hr.1
theorem zE9 (B p sp:Nat)(z x y wd ht now s:Int)(n:Nat)(A:Nat→Kp)(ra:Option Addr)(rn rc:Nat)(E:Nat→Req)(bad:Int)(w:World)(hV:Blk w p [.int .i64 z,.int .i64 x,.int .i64 y,.int .i64 wd,.int .i64 ht,.int .i64 now,.pointer (some ⟨sp,0,none⟩),.slice ra rn rc,.int .i64 bad,.slice none 0 0])(hK:ShK w B sp s n A)(h0:cacheC s n A=0)(hr:zAn w ra rn E)(hrn:rn≤1048576)(hrc:rn≤rc)(hq:zX rn E=0) :
  Calls Tryz.prog 77 #[.pointer (some ⟨p,0,none⟩)] w fun e w'=>e=.returned (.int .i64 (yR (zBh z x y wd ht n A E) 0 rn))∧Bw w w':=by
 have HV:Hid (Blk w p [.int .i64 z,.int .i64 x,.int .i64 y,.int .i64 wd,.int .i64 ht,.int .i64 now,.pointer (some ⟨sp,0,none⟩),.slice ra rn rc,.int .i64 bad,.slice none 0 0]):=hV
 have HK:Hid (ShK w B sp s n A):=hK
 have HR:Hid (zAn w ra rn E):=hr
 have hpl:p<w.heap.size:=hV.lt
 have HZ0:Hid (∀ j,j<n→kC A j=0):=vU h0
 have HRB:Hid (∀ j,j<rn→zAv (E j).z (E j).x (E j).y=true):=zNb hq
 have c7:=hV.cell 7 rfl
 clear hV hK hr h0 hq
 obtain ⟨VC,hVC⟩:∃ VC,yR (zBh z x y wd ht n A E) 0 rn=VC:=⟨_,rfl⟩
 rw [hVC]
 have HVC5:Hid (VC=yR (zBh z x y wd ht n A E) 0 rn):=hVC.symm
 clear hVC
 go_enter Tryz.func77,Tryz.ntmps77
 go_wp2_with fail
 go_loopw [10] (fun v wr=>∃ k:Nat,k≤rn∧v=.int .i64 k∧(∀ j,j<k→zBh z x y wd ht n A E j=0)∧Bw w wr) (fun v _=>rn - (intOf v).toNat)
 case atStart=>exact ⟨0,by omega,rfl,by omega,Below.refl _ _⟩
 case round =>
  obtain ⟨k,hk,rfl,hA,hB⟩:=hrel
  have HB:Hid (Bw w wr):=hB
  have HZ:Hid (∀ j,j<k→zBh z x y wd ht n A E j=0):=hA
  clear hA hB c7
  by_cases hlt:k<rn
  ·have HLT:Hid (k<rn):=hlt
   have first:Hid (zBh z x y wd ht n A E k=8→VC=8):=fun hc=>by
    rw [HVC5.out,zU _ rn 0 k (fun j _ hj=>HZ.out j hj) (by omega) (by have:=HLT.out;omega) (by rw [hc];decide),hc]
   have HOK:Hid (zBh z x y wd ht n A E k=0→∀ j,j<k+1→zBh z x y wd ht n A E j=0):=fun h0 j hj=>by
    by_cases e:j=k
    ·rw [e];exact h0
    ·exact HZ.out j (by omega)
   rcases HR.out with hz | ⟨rb,ro,rfl,hrl,hW⟩
   ·omega
   obtain ⟨e0,e1,e2,e3,e4⟩:=(hW.below HB.out hrl) k hlt
   have hi:(k:Int)<(rn:Int):=by omega
   have hi0:(0:Int)≤(k:Int):=by omega
   obtain ⟨iz,ix,iy⟩:=zDv (HRB.out k hlt)
   have HSe:Hid (∀ W',Calls Tryz.prog 127 #[zFq z x y wd ht,uL (E k).z (E k).x (E k).y] W' fun e w'=>e=.returned (.bool (zDu z x y wd ht (E k).z (E k).x (E k).y))∧Below W'.heap.size W' w'):=fun W'=>zEi z x y wd ht _ _ _ W'
   have HAt:Hid (∀ W',Bw w W'→Calls Tryz.prog 81 #[.pointer (some ⟨sp,0,none⟩),uL (E k).z (E k).x (E k).y] W' fun e w'=>e=.returned (.bool (decide (0≤atK n A (E k).z (E k).x (E k).y)))∧Below W'.heap.size W' w'):=fun W' h=>by
    obtain ⟨mb,_,_,h3,h4,h5⟩:=HK.out.below h
    have:=zC1 sp mb n s (n:Int) (shD A n) (E k).z (E k).x (E k).y W' h3 h5 iz ix iy
    rw [zGy iz ix iy n (zQ2 HZ0.out)] at this
    exact this
   have hSt:zBh z x y wd ht n A E k=if zDu z x y wd ht (E k).z (E k).x (E k).y=true then (if 0≤atK n A (E k).z (E k).x (E k).y then 8 else 0) else 8:=rfl
   have HSt:=(show Hid _ from hSt)
   clear hSt hW iz ix iy
   generalize zBh z x y wd ht n A E k=ST at *
   generalize (E k).z=rz at *
   generalize (E k).x=rx at *
   generalize (E k).y=ry at *
   generalize (E k).du=rd at *
   generalize (E k).tr=rt at *
   generalize atK n A rz rx ry=AT at *
   generalize zDu z x y wd ht rz rx ry=SN at *
   go_wp2_with fail
   generalize hU:(wr.alloc _:World)=U
   have HBU:Hid (Bw w U):=by show Below _ _ _;subst hU;exact zA HB.out (xD (Below.refl _ _) _)
   have HRU:Hid (RK U wr.heap.size rz rx ry):=by show RK _ _ _ _ _;subst hU;refine ⟨?_,?_,?_⟩ <;> simp [go_sem]
   clear hU e0 e1 e2 e3 e4
   have hl0:∀ W',Bw U W'→Blk W' p [.int .i64 z,.int .i64 x,.int .i64 y,.int .i64 wd,.int .i64 ht,.int .i64 now,.pointer (some ⟨sp,0,none⟩),.slice (some ⟨rb,ro,none⟩) rn rc,.int .i64 bad,.slice none 0 0]:=fun W' h=>HV.out.below hpl (zA HBU.out h)
   obtain ⟨c0,c1,c2,c3,c4⟩:=Blk.g5 (b:=U.heap.size) (v:=U) fun W' h=>(hl0 W' h)
   have c6:∀ W',Bw U W'→W'.cell? ⟨p,6,none⟩=some (.pointer (some ⟨sp,0,none⟩)):=fun W' h=>(hl0 W' h).cell 6 rfl
   have r0:∀ W',Bw U W'→W'.cell? ⟨wr.heap.size,0,none⟩=some (.int .i64 rz):=fun W' h=>(HRU.out.below h).1
   have r1:∀ W',Bw U W'→W'.cell? ⟨wr.heap.size,1,none⟩=some (.int .i64 rx):=fun W' h=>(HRU.out.below h).2.1
   have r2:∀ W',Bw U W'→W'.cell? ⟨wr.heap.size,2,none⟩=some (.int .i64 ry):=fun W' h=>(HRU.out.below h).2.2
   clear hl0
   refine wp_region_noPanic ?_
   refine wp_region_held_drew (S:=fun W'=>Bw U W') (by kernel_rfl) (by have:=Below.refl U.heap.size U;exact Qb) (fun hHeld=>?_)
   have hX0:Bw U U.drew:=hHeld
   refine zC (i:=0) (d:=some 14) rfl rfl ?_
   try simp only [Act.put,Qx,Qy,Qz]
   refine zC (i:=1) (d:=some 15) rfl rfl ?_
   try simp only [Act.put,Qx,Qy,Qz]
   refine zC (i:=2) (d:=some 16) rfl rfl ?_
   try simp only [Act.put,Qx,Qy,Qz]
   refine zC (i:=3) (d:=some 17) rfl rfl ?_
   try simp only [Act.put,Qx,Qy,Qz]
   refine zC (i:=4) (d:=some 18) rfl rfl ?_
   try simp only [Act.put,Qx,Qy,Qz]
   refine zC (i:=5) (d:=some 19) rfl rfl ?_
   try simp only [Act.put,Qx,Qy,Qz]
   generalize U.drew=wk0 at *
   refine zN 6 fun K hK=>?_
   rw [if_pos (by rfl)]
   go_simp
   refine Calls.mono (HSe.out _) ?_
   rintro e wk1 ⟨rfl,hb1⟩
   have hX1:Bw U wk1:=zA hX0 hb1
   go_wp2_with fail
   refine hK.out _ _ (by assumption) (fun hHeld=>?_)
   clear hK K
   try simp only [Act.put,Qx,Qy,Qz]
   cases SN
   ·have HE:Hid (VC=8):=first.out (by rw [HSt.out];rfl)
    refine zC (i:=7) (d:=some 21) rfl rfl ?_
    try simp only [Act.put,Qx,Qy,Qz]
    refine zC (i:=8) (d:=some 22) rfl rfl ?_
    try simp only [Act.put,Qx,Qy,Qz]
    refine zJ (i:=9) (d:=some 23) rfl rfl (by rfl) (by assumption) ?_
    try simp only [Act.put,Qx,Qy,Qz]
    refine zJ (i:=10) (d:=some 24) rfl rfl (by rfl) (by assumption) ?_
    try simp only [Act.put,Qx,Qy,Qz]
    refine zJ (i:=11) (d:=some 25) rfl rfl (by rfl) (by assumption) ?_
    try simp only [Act.put,Qx,Qy,Qz]
    refine zJ (i:=12) (d:=some 26) rfl rfl (by rfl) (by assumption) ?_
    try simp only [Act.put,Qx,Qy,Qz]
    refine zJ (i:=13) (d:=some 27) rfl rfl (by rfl) (by assumption) ?_
    try simp only [Act.put,Qx,Qy,Qz]
    refine zJ (i:=14) (d:=some 28) rfl rfl (by rfl) (by assumption) ?_
    try simp only [Act.put,Qx,Qy,Qz]
    refine zJ (i:=15) (d:=some 29) rfl rfl (by rfl) (by assumption) ?_
    try simp only [Act.put,Qx,Qy,Qz]
    refine zC (i:=16) (d:=some 30) rfl rfl ?_
    try simp only [Act.put,Qx,Qy,Qz]
    refine wpAnyH_done (by kernel_rfl) ?_ _
    refine NoPanic.normal ?_
    have HB9:Hid (Bw w wk1):=zA HBU.out hX1
    clear c0 c1 c2 c3 c4 c6 r0 r1 r2 hX0 hb1 hX1
    go_wp2
    go_ret
    exact ⟨zE HE.out.symm,HB9.out⟩
   ·have HSt2:Hid (ST=if 0≤AT then 8 else 0):=by show _=_;rw [HSt.out];rfl
    refine zC (i:=7) (d:=some 21) rfl rfl ?_
    try simp only [Act.put,Qx,Qy,Qz]
    refine zC (i:=8) (d:=some 22) rfl rfl ?_
    try simp only [Act.put,Qx,Qy,Qz]
    refine zC (i:=9) (d:=some 23) rfl rfl ?_
    try simp only [Act.put,Qx,Qy,Qz]
    refine zC (i:=10) (d:=some 24) rfl rfl ?_
    try simp only [Act.put,Qx,Qy,Qz]
    refine zC (i:=11) (d:=some 25) rfl rfl ?_
    try simp only [Act.put,Qx,Qy,Qz]
    refine zC (i:=12) (d:=some 26) rfl rfl ?_
    try simp only [Act.put,Qx,Qy,Qz]
    refine zC (i:=13) (d:=some 27) rfl rfl ?_
    try simp only [Act.put,Qx,Qy,Qz]
    refine zC (i:=14) (d:=some 28) rfl rfl ?_
    try simp only [Act.put,Qx,Qy,Qz]
    refine zN 15 fun K hK=>?_
    rw [if_pos (by rfl)]
    go_simp
    refine Calls.mono (HAt.out _ (zA HBU.out hX1)) ?_
    rintro e wk2 ⟨rfl,hb2⟩
    have hX2:Bw U wk2:=zA hX1 hb2
    go_wp2_with fail
    refine hK.out _ _ (by assumption) (fun hHeld=>?_)
    clear hK K
    try simp only [Act.put,Qx,Qy,Qz]
    have HB9:Hid (Bw w wk2):=zA HBU.out hX2
    by_cases hat:0≤AT
    ·have HE:Hid (VC=8):=first.out (by rw [HSt2.out,if_pos hat])
     have hdec:decide (0≤AT)=true:=decide_eq_true hat
     refine zC (i:=16) (d:=some 30) rfl rfl ?_
     try simp only [Act.put,Qx,Qy,Qz]
     refine wpAnyH_done (by kernel_rfl) ?_ _
     refine NoPanic.normal ?_
     clear c0 c1 c2 c3 c4 c6 r0 r1 r2 hX0 hb1 hX1 hb2 hX2
     go_wp2
     go_ret
     exact ⟨zE HE.out.symm,HB9.out⟩
    ·have HE:Hid (ST=0):=by show _=_;rw [HSt2.out,if_neg hat]
     have hdec:decide (0≤AT)=false:=decide_eq_false hat
     refine zC (i:=16) (d:=some 30) rfl rfl ?_
     try simp only [Act.put,Qx,Qy,Qz]
     refine wpAnyH_done (by kernel_rfl) ?_ _
     refine NoPanic.normal ?_
     clear c0 c1 c2 c3 c4 c6 r0 r1 r2 hX0 hb1 hX1 hb2 hX2
     go_wp2_with fail
     go_roundw
     case rel=>exact ⟨k+1,by have:=HLT.out;omega,by go_num,HOK.out HE.out,HB9.out⟩
     case measure=>have:=HLT.out;simp [intOf];omega
  ·have HE:Hid (VC=0):=by
    show _=_
    rw [HVC5.out]
    exact yT _ _ _ (fun j _ hj=>HZ.out j (by omega))
   obtain rfl:rn=k:=by omega
   go_wp2
   go_ret
   exact ⟨zE HE.out.symm,HB.out⟩

theorem vX.feats {w:World}{B:Nat}{k a:Kp}(h:vX w B k a):∀ i,i<k.fn→(a.F i).same (k.F i):=by
 obtain ⟨_,⟨fb,_,_,_,ho⟩,_⟩:=h
 exact fun i hi=>(ho.2.2.2 i hi).1
theorem vX.rt {w:World}{B:Nat}{k a:Kp}(h:vX w B k a):rtC a.z a.x a.y a.fn a.F=rtC k.z k.x k.y k.fn k.F∧rtL a.z a.x a.y a.fn a.F=rtL k.z k.x k.y k.fn k.F:=by
 have hf:=h.feats
 obtain ⟨⟨e1,e2,e3⟩,⟨fb,_,e4,_⟩,_⟩:=h
 rw [e1,e2,e3,e4]
 exact rt_same hf
theorem vX.tC {w:World}{B:Nat}{k a:Kp}(h:vX w B k a):Go.Proofs.YtpaiholildedcaaGreat.tC a=Go.Proofs.YtpaiholildedcaaGreat.tC k:=by
 obtain ⟨r1,r2⟩:=h.rt
 obtain ⟨_,_,ib,_,e5,_,e7,_⟩:=h
 unfold Go.Proofs.YtpaiholildedcaaGreat.tC
 rw [r1,r2,e5,e7]
theorem vX.small {w:World}{B:Nat}{k a:Kp}(h:vX w B k a)(hs:vV k):vV a:=by
 have hf:=h.feats
 obtain ⟨_,⟨fb,_,e4,_⟩,ib,_,e5,_⟩:=h
 refine ⟨⟨by rw [e4];exact hs.1.1,fun i hi=>?_⟩,by rw [e5];exact hs.2⟩
 rw [e4] at hi
 obtain ⟨_,_,_,_,f5,_,_,f8,_⟩:=hf i hi
 rw [f5,f8]
 exact hs.1.2 i hi
theorem yB.small {w:World}{B b n:Nat}{K A:Nat→Kp}(h:yB w B b n K A)(hs:zL n K):zL n A:=⟨hs.1,fun i hi=>(h.2.2 i hi).2.small (hs.2 i hi)⟩
theorem yB.caps {w:World}{B b n:Nat}{K A:Nat→Kp}(h:yB w B b n K A):∀ i,i<n→(A i).fn≤(A i).fc:=fun i hi=>by
 obtain ⟨_,⟨fb,_,e4,e6,_⟩,_⟩:=(h.2.2 i hi).2
 rw [e4,e6];exact Nat.le_refl _
theorem yB.ref {w:World}{B b n:Nat}{K A:Nat→Kp}(h:yB w B b n K A){i:Nat}(hi:i<n):(A i).z=(K i).z∧(A i).x=(K i).x∧(A i).y=(K i).y:=(h.2.2 i hi).2.1
theorem yB.atK {w:World}{B b n:Nat}{K A:Nat→Kp}(h:yB w B b n K A)(z x y:Int):∀ m,m≤n→Go.Proofs.YtpaiholildedcaaGreat.atK m A z x y=Go.Proofs.YtpaiholildedcaaGreat.atK m K z x y:=fun m hm=>by
 have e:∀ i,i<m→isK (A i) z x y=isK (K i) z x y:=fun i hi=>by
  obtain ⟨e1,e2,e3⟩:=h.ref (show i<n by omega)
  unfold isK;rw [e1,e2,e3]
 unfold Go.Proofs.YtpaiholildedcaaGreat.atK
 rcases uT (fun i=>isK (A i) z x y) m with ⟨h1,h2⟩ | ⟨i,hi,hg,hf,hn⟩
 ·rw [h1]
  exact (vQ (fun i hi=>(e i hi).symm.trans (h2 i hi))).symm
 ·rw [hf]
  exact (yP hi ((e i hi).symm.trans hg) (fun j hj=>(e j (by omega)).symm.trans (hn j hj))).symm
theorem yB.kC {w:World}{B b n:Nat}{K A:Nat→Kp}(h:yB w B b n K A):∀ i,i<n→Go.Proofs.YtpaiholildedcaaGreat.kC A i=Go.Proofs.YtpaiholildedcaaGreat.kC K i:=fun i hi=>by
 obtain ⟨e1,e2,e3⟩:=h.ref hi
 unfold Go.Proofs.YtpaiholildedcaaGreat.kC
 rw [(h.2.2 i hi).2.tC,e1,e2,e3,h.atK _ _ _ i (by omega)]
theorem yB.cacheC {w:World}{B b n:Nat}{K A:Nat→Kp}(h:yB w B b n K A)(s:Int):Go.Proofs.YtpaiholildedcaaGreat.cacheC s n A=Go.Proofs.YtpaiholildedcaaGreat.cacheC s n K:=by
 have e:yR (Go.Proofs.YtpaiholildedcaaGreat.kC A) 0 n=yR (Go.Proofs.YtpaiholildedcaaGreat.kC K) 0 n:=by
  by_cases hall:∀ j,j<n→Go.Proofs.YtpaiholildedcaaGreat.kC K j=0
  ·rw [yT _ _ _ (fun j _ hj=>hall j (by omega)),yT _ _ _ (fun j _ hj=>(h.kC j (by omega)).trans (hall j (by omega)))]
  ·obtain ⟨k,hk,hne,hno⟩:∃ k,k<n∧Go.Proofs.YtpaiholildedcaaGreat.kC K k≠0∧∀ l,l<k→Go.Proofs.YtpaiholildedcaaGreat.kC K l=0:=by
    have:∀ m,(∃ i,i<m∧Go.Proofs.YtpaiholildedcaaGreat.kC K i≠0)→∃ i,i<m∧Go.Proofs.YtpaiholildedcaaGreat.kC K i≠0∧∀ l,l<i→Go.Proofs.YtpaiholildedcaaGreat.kC K l=0:=by
     intro m
     induction m with
     | zero=>rintro ⟨i,hi,_⟩;omega
     | succ m ih =>
      rintro ⟨i,hi,h⟩
      by_cases hx:∃ i,i<m∧Go.Proofs.YtpaiholildedcaaGreat.kC K i≠0
      ·obtain ⟨i,h1,h2⟩:=ih hx;exact ⟨i,by omega,h2⟩
      ·refine ⟨i,hi,h,fun l hl=>?_⟩
       by_cases e:Go.Proofs.YtpaiholildedcaaGreat.kC K l=0
       ·exact e
       ·exact absurd ⟨l,by omega,e⟩ hx
    refine this n ?_
    by_cases hx:∃ i,i<n∧Go.Proofs.YtpaiholildedcaaGreat.kC K i≠0
    ·exact hx
    ·exact absurd (fun j hj=>by
      by_cases e:Go.Proofs.YtpaiholildedcaaGreat.kC K j=0
      ·exact e
      ·exact absurd ⟨j,hj,e⟩ hx) hall
   rw [zU (Go.Proofs.YtpaiholildedcaaGreat.kC K) n 0 k (fun l _ hl=>hno l hl) (by omega) (by omega) hne,
    zU (Go.Proofs.YtpaiholildedcaaGreat.kC A) n 0 k (fun l _ hl=>(h.kC l (by omega)).trans (hno l hl)) (by omega) (by omega) (by rw [h.kC k hk];exact hne),h.kC k hk]
 unfold Go.Proofs.YtpaiholildedcaaGreat.cacheC
 rw [e]
end Go.Proofs.YtpaiholildedcaaGreat
namespace Go.Proofs.YtpaiholildedcaaGreat
open Go.RowKit Go.Shelf Go.Maps Go.Sort
attribute [local go_sem] Oper.semAt_some
end Go.Proofs.YtpaiholildedcaaGreat
namespace Go.Proofs.YtpaiholildedcaaGreat
open Go.RowKit
end Go.Proofs.YtpaiholildedcaaGreat
namespace Go.Proofs.YtpaiholildedcaaGreat
open Go.RowKit Go.Shelf Go.Maps Go.Sort
attribute [local go_sem] Oper.semAt_some
end Go.Proofs.YtpaiholildedcaaGreat
namespace Go.Proofs.YtpaiholildedcaaGreat
open Go.RowKit
end Go.Proofs.YtpaiholildedcaaGreat
namespace Go.Proofs.YtpaiholildedcaaGreat
open Go.RowKit Go.Sort Go.Shelf
end Go.Proofs.YtpaiholildedcaaGreat
namespace Go.Proofs.YtpaiholildedcaaGreat
open Go.RowKit
end Go.Proofs.YtpaiholildedcaaGreat
namespace Go.Proofs.YtpaiholildedcaaGreat
open Go.RowKit Go.Sort Go.Shelf Go.Maps
end Go.Proofs.YtpaiholildedcaaGreat
namespace Go.Proofs.YtpaiholildedcaaGreat
open Go.RowKit
end Go.Proofs.YtpaiholildedcaaGreat
namespace Go.Proofs.YtpaiholildedcaaGreat
open Go.RowKit Go.Sort Go.Shelf Go.Maps
end Go.Proofs.YtpaiholildedcaaGreat
namespace Go.Proofs.YtpaiholildedcaaGreat
open Go.RowKit
end Go.Proofs.YtpaiholildedcaaGreat
namespace Go.Proofs.YtpaiholildedcaaGreat
open Go.RowKit Go.Sort Go.Shelf Go.Maps
end Go.Proofs.YtpaiholildedcaaGreat
namespace Go.Proofs.YtpaiholildedcaaGreat
open Go.RowKit






section
variable {P:Program} {ops:Array Oper} {Q:Exit→Act→World→Prop} {md:Region.Mode} {S:World→Prop} {z:Nat}
end
/- MAIN -/

end Go.Proofs.YtpaiholildedcaaGreat
