/- Texts. -/
import Derived.Test.YtpaiholildedcaaGreatVNewViewer15
import Derived.Sort.MapsRangeIn
import Derived.Sort.KeysCollected
set_option linter.unusedSimpArgs false
set_option linter.unusedVariables false
set_option maxRecDepth 100000
set_option maxHeartbeats 32000000
namespace Go.Proofs.YtpaiholildedcaaGreat
open Go.RowKit
def zD5 (now bad:Int):Int:=if inV now bad=true then 0 else 3
theorem zCx (p:Nat)(now bad:Int)(w:World)(h5:w.cell? ⟨p,5,none⟩=some (.int .i64 now))(h8:w.cell? ⟨p,8,none⟩=some (.int .i64 bad)) :
  Calls Tryz.prog 73 #[.pointer (some ⟨p,0,none⟩)] w fun e w'=>e=.returned (.int .i64 (zD5 now bad))∧Bw w w':=by
 have HI:Hid (∀ W,Calls Tryz.prog 62 #[.int .i64 bad,.int .i64 0,.int .i64 9999] W fun e w'=>e=.returned (.bool (inB bad 0 9999))∧w'=W):=fun W=>zR _ _ _ W
 have HT:Hid (∀ W,Calls Tryz.prog 121 #[.int .i64 now] W fun e w'=>e=.returned (.int .i64 (zBp now))∧Bw W w'):=fun W=>zAl now W
 cases hb:inB bad 0 9999
 ·have HE:Hid (zD5 now bad=3):=by show _=_;simp [zD5,inV,hb]
  rw [hb] at HI
  go_enter Tryz.func73,Tryz.ntmps73
  go_wp2_with fail
  refine Calls.mono (HI.out _) ?_
  rintro e w2 ⟨rfl,h2⟩
  subst w2
  go_wp2
  go_ret
  exact ⟨zH HE.out.symm,Below.refl _ _⟩
 ·have HE:Hid (zD5 now bad=zBp now):=by show _=_;simp [zD5,inV,hb,zBp]
  rw [hb] at HI
  clear hb
  generalize zD5 now bad=CC at *
  generalize zBp now=TC at *
  go_enter Tryz.func73,Tryz.ntmps73
  go_wp2_with fail
  refine Calls.mono (HI.out _) ?_
  rintro e w2 ⟨rfl,h2⟩
  subst w2
  go_wp2_with fail
  refine Calls.mono (HT.out _) ?_
  rintro e w3 ⟨rfl,hb3⟩
  go_wp2
  go_ret
  exact ⟨zH HE.out.symm,hb3⟩
theorem zEo (s:Int)(w:World):Calls Tryz.prog 75 #[.int .i64 s] w fun e w'=>e=.returned (.int .i64 (if s<4 then 3 else 0))∧w'=w:=by
 by_cases h:s<4
 ·rw [if_pos h]
  go_enter Tryz.func75,Tryz.ntmps75
  go_wp2
  go_ret
  exact ⟨rfl,rfl⟩
 ·rw [if_neg h]
  go_enter Tryz.func75,Tryz.ntmps75
  go_wp2
  go_ret
  exact ⟨rfl,rfl⟩
theorem zIk {n:Nat}{E:Nat→Req}(h:zQ n E=0):∀ j,j<n→zFo (E j).z (E j).x (E j).y=true:=by
 unfold zQ at h
 split at h
 ·cases h
 ·intro j hj
  cases hr:zGn (E j)
  ·exfalso
   obtain ⟨i,hi,hne,hall⟩:∃ i,i≤j∧yY E i≠0∧∀ l,l<i→yY E l=0:=by
    have:∀ m,(∃ i,i≤m∧yY E i≠0)→∃ i,i≤m∧yY E i≠0∧∀ l,l<i→yY E l=0:=by
     intro m
     induction m with
     | zero=>rintro ⟨i,hi,h⟩;exact ⟨i,hi,h,fun l hl=>by omega⟩
     | succ m ih =>
      rintro ⟨i,hi,h⟩
      by_cases hx:∃ i,i≤m∧yY E i≠0
      ·obtain ⟨i,h1,h2⟩:=ih hx;exact ⟨i,by omega,h2⟩
      ·refine ⟨i,hi,h,fun l hl=>?_⟩
       by_cases e:yY E l=0
       ·exact e
       ·exact absurd ⟨l,by omega,e⟩ hx
    exact this j ⟨j,Nat.le_refl _,by rw [zAq hr];decide⟩
   rw [xQ (yY E) n 0 i (fun l _ hl=>hall l hl) (by omega) (by omega) hne] at h
   exact hne h
  ·unfold zGn at hr
   simp at hr
   exact hr.1
theorem zC9 (B p sp:Nat)(z x y wd ht now s:Int)(n:Nat)(A:Nat→Kp)(ra:Option Addr)(rn rc:Nat)(E:Nat→Req)(bad:Int)(w:World)(hV:Blk w p [.int .i64 z,.int .i64 x,.int .i64 y,.int .i64 wd,.int .i64 ht,.int .i64 now,.pointer (some ⟨sp,0,none⟩),.slice ra rn rc,.int .i64 bad,.slice none 0 0])(hK:ShK w B sp s n A)(h0:yC s n A=0)(hr:xV w ra rn E)(hrn:rn≤1048576)(hrc:rn≤rc)(hq:zQ rn E=0) :
  Calls Tryz.prog 77 #[.pointer (some ⟨p,0,none⟩)] w fun e w'=>e=.returned (.int .i64 (uB (zGv z x y wd ht n A E) 0 rn))∧Bw w w':=by
 have HV:Hid (Blk w p [.int .i64 z,.int .i64 x,.int .i64 y,.int .i64 wd,.int .i64 ht,.int .i64 now,.pointer (some ⟨sp,0,none⟩),.slice ra rn rc,.int .i64 bad,.slice none 0 0]):=hV
 have HK:Hid (ShK w B sp s n A):=hK
 have HR:Hid (xV w ra rn E):=hr
 have hpl:p<w.heap.size:=hV.lt
 have HZ0:Hid (∀ j,j<n→kC A j=0):=zHi h0
 have HRB:Hid (∀ j,j<rn→zFo (E j).z (E j).x (E j).y=true):=zIk hq
 have c7:=hV.cell 7 rfl
 clear hV hK hr h0 hq
 obtain ⟨VC,hVC⟩:∃ VC,uB (zGv z x y wd ht n A E) 0 rn=VC:=⟨_,rfl⟩
 rw [hVC]
 have HVC5:Hid (VC=uB (zGv z x y wd ht n A E) 0 rn):=hVC.symm
 clear hVC
 go_enter Tryz.func77,Tryz.ntmps77
 go_wp2_with fail
 go_loopw [10] (fun v wr=>∃ k:Nat,k≤rn∧v=.int .i64 k∧(∀ j,j<k→zGv z x y wd ht n A E j=0)∧Bw w wr) (fun v _=>rn - (intOf v).toNat)
 case atStart=>exact ⟨0,by omega,rfl,by omega,Below.refl _ _⟩
 case round =>
  obtain ⟨k,hk,rfl,hA,hB⟩:=hrel
  have HB:Hid (Bw w wr):=hB
  have HZ:Hid (∀ j,j<k→zGv z x y wd ht n A E j=0):=hA
  clear hA hB c7
  by_cases hlt:k<rn
  ·have HLT:Hid (k<rn):=hlt
   have first:Hid (zGv z x y wd ht n A E k=8→VC=8):=fun hc=>by
    rw [HVC5.out,xQ _ rn 0 k (fun j _ hj=>HZ.out j hj) (by omega) (by have:=HLT.out;omega) (by rw [hc];decide),hc]
   have HOK:Hid (zGv z x y wd ht n A E k=0→∀ j,j<k+1→zGv z x y wd ht n A E j=0):=fun h0 j hj=>by
    by_cases e:j=k
    ·rw [e];exact h0
    ·exact HZ.out j (by omega)
   rcases HR.out with hz | ⟨rb,ro,rfl,hrl,hW⟩
   ·omega
   obtain ⟨e0,e1,e2,e3,e4⟩:=(hW.below HB.out hrl) k hlt
   have hi:(k:Int)<(rn:Int):=by omega
   have hi0:(0:Int)≤(k:Int):=by omega
   obtain ⟨iz,ix,iy⟩:=zEp (HRB.out k hlt)
   have HSe:Hid (∀ W',Calls Tryz.prog 127 #[zBg z x y wd ht,xK (E k).z (E k).x (E k).y] W' fun e w'=>e=.returned (.bool (yI z x y wd ht (E k).z (E k).x (E k).y))∧Below W'.heap.size W' w'):=fun W'=>uI z x y wd ht _ _ _ W'
   have HAt:Hid (∀ W',Bw w W'→Calls Tryz.prog 81 #[.pointer (some ⟨sp,0,none⟩),xK (E k).z (E k).x (E k).y] W' fun e w'=>e=.returned (.bool (decide (0≤atK n A (E k).z (E k).x (E k).y)))∧Below W'.heap.size W' w'):=fun W' h=>by
    obtain ⟨mb,_,_,h3,h4,h5⟩:=HK.out.below h
    have:=zBh sp mb n s (n:Int) (shD A n) (E k).z (E k).x (E k).y W' h3 h5 iz ix iy
    rw [zJs iz ix iy n (Rgt_of HZ0.out)] at this
    exact this
   have hSt:zGv z x y wd ht n A E k=if yI z x y wd ht (E k).z (E k).x (E k).y=true then (if 0≤atK n A (E k).z (E k).x (E k).y then 8 else 0) else 8:=rfl
   have HSt:=(show Hid _ from hSt)
   clear hSt hW iz ix iy
   generalize zGv z x y wd ht n A E k=ST at *
   generalize (E k).z=rz at *
   generalize (E k).x=rx at *
   generalize (E k).y=ry at *
   generalize (E k).du=rd at *
   generalize (E k).tr=rt at *
   generalize atK n A rz rx ry=AT at *
   generalize yI z x y wd ht rz rx ry=SN at *
   go_wp2_with fail
   generalize hU:(wr.alloc _:World)=U
   have HBU:Hid (Bw w U):=by show Below _ _ _;subst hU;exact zB HB.out (yX (Below.refl _ _) _)
   have HRU:Hid (RK U wr.heap.size rz rx ry):=by show RK _ _ _ _ _;subst hU;refine ⟨?_,?_,?_⟩ <;> simp [go_sem]
   clear hU e0 e1 e2 e3 e4
   have hl0:∀ W',Bw U W'→Blk W' p [.int .i64 z,.int .i64 x,.int .i64 y,.int .i64 wd,.int .i64 ht,.int .i64 now,.pointer (some ⟨sp,0,none⟩),.slice (some ⟨rb,ro,none⟩) rn rc,.int .i64 bad,.slice none 0 0]:=fun W' h=>HV.out.below hpl (zB HBU.out h)
   obtain ⟨c0,c1,c2,c3,c4⟩:=Blk.g5 (b:=U.heap.size) (v:=U) fun W' h=>(hl0 W' h)
   have c6:∀ W',Bw U W'→W'.cell? ⟨p,6,none⟩=some (.pointer (some ⟨sp,0,none⟩)):=fun W' h=>(hl0 W' h).cell 6 rfl
   have r0:∀ W',Bw U W'→W'.cell? ⟨wr.heap.size,0,none⟩=some (.int .i64 rz):=fun W' h=>(HRU.out.below h).1
   have r1:∀ W',Bw U W'→W'.cell? ⟨wr.heap.size,1,none⟩=some (.int .i64 rx):=fun W' h=>(HRU.out.below h).2.1
   have r2:∀ W',Bw U W'→W'.cell? ⟨wr.heap.size,2,none⟩=some (.int .i64 ry):=fun W' h=>(HRU.out.below h).2.2
   clear hl0
   refine wp_region_noPanic ?_
   refine wp_region_held_drew (S:=fun W'=>Bw U W') (by kernel_rfl) (by have:=Below.refl U.heap.size U;exact Qb) (fun hHeld=>?_)
   have hX0:Bw U U.drew:=hHeld
   refine zE (i:=0) (d:=some 14) rfl rfl ?_
   try simp only [Act.put,Qx,Qy,Qz]
   refine zE (i:=1) (d:=some 15) rfl rfl ?_
   try simp only [Act.put,Qx,Qy,Qz]
   refine zE (i:=2) (d:=some 16) rfl rfl ?_
   try simp only [Act.put,Qx,Qy,Qz]
   refine zE (i:=3) (d:=some 17) rfl rfl ?_
   try simp only [Act.put,Qx,Qy,Qz]
   refine zE (i:=4) (d:=some 18) rfl rfl ?_
   try simp only [Act.put,Qx,Qy,Qz]
   refine zE (i:=5) (d:=some 19) rfl rfl ?_
   try simp only [Act.put,Qx,Qy,Qz]
   generalize U.drew=wk0 at *
   refine zN 6 fun K hK=>?_
   rw [if_pos (by rfl)]
   go_simp
   refine Calls.mono (HSe.out _) ?_
   rintro e wk1 ⟨rfl,hb1⟩
   have hX1:Bw U wk1:=zB hX0 hb1
   go_wp2_with fail
   refine hK.out _ _ (by assumption) (fun hHeld=>?_)
   clear hK K
   try simp only [Act.put,Qx,Qy,Qz]
   cases SN
   ·have HE:Hid (VC=8):=first.out (by rw [HSt.out];rfl)
    refine zE (i:=7) (d:=some 21) rfl rfl ?_
    try simp only [Act.put,Qx,Qy,Qz]
    refine zE (i:=8) (d:=some 22) rfl rfl ?_
    try simp only [Act.put,Qx,Qy,Qz]
    refine zGz (i:=9) (d:=some 23) rfl rfl (by rfl) (by assumption) ?_
    try simp only [Act.put,Qx,Qy,Qz]
    refine zGz (i:=10) (d:=some 24) rfl rfl (by rfl) (by assumption) ?_
    try simp only [Act.put,Qx,Qy,Qz]
    refine zGz (i:=11) (d:=some 25) rfl rfl (by rfl) (by assumption) ?_
    try simp only [Act.put,Qx,Qy,Qz]
    refine zGz (i:=12) (d:=some 26) rfl rfl (by rfl) (by assumption) ?_
    try simp only [Act.put,Qx,Qy,Qz]
    refine zGz (i:=13) (d:=some 27) rfl rfl (by rfl) (by assumption) ?_
    try simp only [Act.put,Qx,Qy,Qz]
    refine zGz (i:=14) (d:=some 28) rfl rfl (by rfl) (by assumption) ?_
    try simp only [Act.put,Qx,Qy,Qz]
    refine zGz (i:=15) (d:=some 29) rfl rfl (by rfl) (by assumption) ?_
    try simp only [Act.put,Qx,Qy,Qz]
    refine zE (i:=16) (d:=some 30) rfl rfl ?_
    try simp only [Act.put,Qx,Qy,Qz]
    refine wpAnyH_done (by kernel_rfl) ?_ _
    refine NoPanic.normal ?_
    have HB9:Hid (Bw w wk1):=zB HBU.out hX1
    clear c0 c1 c2 c3 c4 c6 r0 r1 r2 hX0 hb1 hX1
    go_wp2
    go_ret
    exact ⟨zH HE.out.symm,HB9.out⟩
   ·have HSt2:Hid (ST=if 0≤AT then 8 else 0):=by show _=_;rw [HSt.out];rfl
    refine zE (i:=7) (d:=some 21) rfl rfl ?_
    try simp only [Act.put,Qx,Qy,Qz]
    refine zE (i:=8) (d:=some 22) rfl rfl ?_
    try simp only [Act.put,Qx,Qy,Qz]
    refine zE (i:=9) (d:=some 23) rfl rfl ?_
    try simp only [Act.put,Qx,Qy,Qz]
    refine zE (i:=10) (d:=some 24) rfl rfl ?_
    try simp only [Act.put,Qx,Qy,Qz]
    refine zE (i:=11) (d:=some 25) rfl rfl ?_
    try simp only [Act.put,Qx,Qy,Qz]
    refine zE (i:=12) (d:=some 26) rfl rfl ?_
    try simp only [Act.put,Qx,Qy,Qz]
    refine zE (i:=13) (d:=some 27) rfl rfl ?_
    try simp only [Act.put,Qx,Qy,Qz]
    refine zE (i:=14) (d:=some 28) rfl rfl ?_
    try simp only [Act.put,Qx,Qy,Qz]
    refine zN 15 fun K hK=>?_
    rw [if_pos (by rfl)]
    go_simp
    refine Calls.mono (HAt.out _ (zB HBU.out hX1)) ?_
    rintro e wk2 ⟨rfl,hb2⟩
    have hX2:Bw U wk2:=zB hX1 hb2
    go_wp2_with fail
    refine hK.out _ _ (by assumption) (fun hHeld=>?_)
    clear hK K
    try simp only [Act.put,Qx,Qy,Qz]
    have HB9:Hid (Bw w wk2):=zB HBU.out hX2
    by_cases hat:0≤AT
    ·have HE:Hid (VC=8):=first.out (by rw [HSt2.out,if_pos hat])
     have hdec:decide (0≤AT)=true:=decide_eq_true hat
     refine zE (i:=16) (d:=some 30) rfl rfl ?_
     try simp only [Act.put,Qx,Qy,Qz]
     refine wpAnyH_done (by kernel_rfl) ?_ _
     refine NoPanic.normal ?_
     clear c0 c1 c2 c3 c4 c6 r0 r1 r2 hX0 hb1 hX1 hb2 hX2
     go_wp2
     go_ret
     exact ⟨zH HE.out.symm,HB9.out⟩
    ·have HE:Hid (ST=0):=by show _=_;rw [HSt2.out,if_neg hat]
     have hdec:decide (0≤AT)=false:=decide_eq_false hat
     refine zE (i:=16) (d:=some 30) rfl rfl ?_
     try simp only [Act.put,Qx,Qy,Qz]
     refine wpAnyH_done (by kernel_rfl) ?_ _
     refine NoPanic.normal ?_
     clear c0 c1 c2 c3 c4 c6 r0 r1 r2 hX0 hb1 hX1 hb2 hX2
     go_wp2_with fail
     go_roundw
     case rel=>exact ⟨k+1,by have:=HLT.out;omega,by go_num,HOK.out HE.out,HB9.out⟩
     case measure=>have:=HLT.out;simp [intOf];omega
  ·have HE:Hid (VC=0):=by
    show _=_
    rw [HVC5.out]
    exact zAo _ _ _ (fun j _ hj=>HZ.out j (by omega))
   obtain rfl:rn=k:=by omega
   go_wp2
   go_ret
   exact ⟨zH HE.out.symm,HB.out⟩
end Go.Proofs.YtpaiholildedcaaGreat
namespace Go.Proofs.YtpaiholildedcaaGreat
open Go.RowKit Go.Shelf Go.Maps Go.Sort
attribute [local go_sem] Oper.semAt_some
structure Ag where
 z:Int
 x:Int
 y:Int
 fa:Option Addr
 fn:Nat
 fc:Nat
 ia:Option Addr
 m:Nat
 ic:Nat
 t:Int
abbrev agW (a:Ag):Value:=agV a.z a.x a.y a.fa a.fn a.fc a.ia a.m a.ic a.t
theorem agW_inj {a b:Ag}(h:agW a=agW b):a=b:=by
 cases a;cases b
 simp at h
 simp [h]
theorem RV_ag {v:Value}{y:DataW Value × List MemPlace}(h:RV v=some y):∃ c:Ag,v=agW c:=by
 obtain ⟨_,z,x,y,fa,fn,fc,ia,m,ic,t,rfl⟩:=zIa (d:=y.1) (ps:=y.2) h
 exact ⟨⟨z,x,y,fa,fn,fc,ia,m,ic,t⟩,rfl⟩
theorem key_str {P:Program}{k:TypeId}{fs:Array Field}{key:Value}{kl:Lit}(hu:P.underlying k=some (.struct fs))(h:keyOf P k key=some kl):∃ x:List UInt8,kl=.string x:=by
 unfold keyOf at h
 rw [hu] at h
 simp at h
 obtain ⟨_,a,_,e⟩:=h
 exact ⟨_,e.symm⟩
def AllV (D0:DataW Value)(ps:List (List UInt8 × Ag)):Prop:=(ps.map (·.1)).Nodup∧(∀ x,x ∈ ps.map (·.1) ↔ has D0 (.string x)=true)∧∀ p ∈ ps,∀ zd,D0.atKey (.string p.1) zd=.held (agW p.2)
theorem zIc (l Bm b nn:Nat)(D0:DataW Value)(J Jx:List Ag→World→Prop)(hY:∀ pre x W,J pre W→pre.length<Maps.size D0→YieldAt Fence.wide 2 Tryz.prog l #[agW x] W fun e W' =>
   (e=.returned (.bool true)∧J (pre ++ [x]) W'∧KeepsWalks W W')∨(e=.returned (.bool false)∧Jx (pre ++ [x]) W'))(W:World)(hJ:AbidesFrom W.heap.size J)(hm:W.cell? ⟨Bm,0,none⟩=some (.map (some b)))(hown:W.ownsMap Tryz.prog 111 RV b nn D0)(h0:J [] W) :
  CallsIn Fence.wide 3 Tryz.prog 216 #[.func (.yield l) #[] #[],.pointer (some ⟨Bm,0,none⟩)] W fun e W'=>(∃ v,e=.returned v) ∧
   ((∃ xs,(∃ ps,AllV D0 ps∧xs=ps.map (·.2))∧J xs W')∨(∃ pre,True∧Jx pre W')):=by
 refine callsIn_of_wp Tryz.func216 rfl trivial ?_ rfl
 simp only [Tryz.ntmps216,List.size_toArray,List.length_cons,List.length_nil,Nat.reduceAdd,Nat.reduceSub,Array.replicate_succ,Array.replicate_zero,List.push_toArray,List.append_toArray,List.nil_append,List.cons_append]
 gi_wp2_with (first
  | (gi_at_range;refine wpListIn_range_own _ rfl _ 171 rfl 111 181 xH Tryz.underlying171 _ b nn _ rfl hown ?_;intro w0 hrg0 hg0 hs0)
  | gi_in)
 go_frame
 gi_loopw [] (fun wr=>∃ (left:Lit→Bool) (cnt:Nat) (ps:List (List UInt8 × Ag)),wr.ranges Tryz.prog 111 RV b W.heap.size nn D0 left cnt∧ps.length+cnt≤Maps.size D0∧Collected D0 left (ps.map (·.1))∧(∀ p ∈ ps,∀ zd,D0.atKey (.string p.1) zd=.held (agW p.2))∧J (ps.map (·.2)) wr)
  (fun wr=>wr.rangeLeft b W.heap.size)
 case atStart =>
  exact ⟨_,_,[],hrg0,by simp,Collected.start D0,by simp,hJ [] W w0 none h0 hg0 (fun r e=>by cases e)⟩
 case round =>
  obtain ⟨left,cnt,ps,hrg,hcs,hC,hV,hJs⟩:=hrel
  gi_wp2_with (first
   | (gi_at_next;refine wpListIn_next_ranges _ rfl _ rfl 111 xH RV id agW (fun key kl hk=>⟨key,rfl⟩) (fun v y hv=>RV_ag hv) b W.heap.size nn _ _ _ rfl hrg ?_ ?_)
   | gi_in)
  ·intro hc0 hl0
   gi_wp2
   go_end0
   exact ⟨⟨_,rfl⟩,.inl ⟨_,⟨ps,⟨hC.1,fun x=>by rw [hC.2 x,hl0];simp,hV⟩,rfl⟩,hJs⟩⟩
  ·intro x c kl yd yp w2 cnt2 hkey hlk hv hat hrg2 hlt hg2 hs2 hen
   obtain ⟨xb,rfl⟩:=key_str Tryz.underlying111 hkey
   have hy1:yd=.held (agW c):=(zIa hv).1
   have hJ2:J (ps.map (·.2)) w2:=hJ _ wr w2 (some W.heap.size) hJs hg2 (fun r e=>by cases e;exact ⟨Nat.le_refl _,hrg.iter_walk⟩)
   have hJa:J (ps.map (·.2)) (w2.alloc (.cells #[.int .i64 c.z,.int .i64 c.x,.int .i64 c.y,.slice c.fa c.fn c.fc,.slice c.ia c.m c.ic,.int .i64 c.t] 181)):=hJ _ _ _ none hJ2 (World.grownBy_alloc _ _ _) (fun r e=>by cases e)
   obtain ⟨fn,tmps,assign,body,hy,hR⟩:=hY (ps.map (·.2)) c _ hJa (by simp;omega)
   clear hs2
   gi_wp2
   refine hR.mono ?_
   have hC2:Collected D0 (fun z=>left z && !z.sameKey (.string xb)) ((ps ++ [(xb,c)]).map (·.1)):=by simpa using hC.step hlk hat
   have hV2:∀ p ∈ ps ++ [(xb,c)],∀ zd,D0.atKey (.string p.1) zd=.held (agW p.2):=fun p hp=>(List.mem_append.1 hp).elim (hV p) (fun e=>by simp at e;subst e;intro zd;rw [hat zd,hy1])
   rintro e W3 (⟨rfl,hJ3,hk3⟩ | ⟨rfl,hJx3⟩)
   ·gi_wp2
    have hrg3:=(hrg2.alloc _).of_walks hk3
    go_roundw
    case rel=>exact ⟨_,cnt2,ps ++ [(xb,c)],hrg3,by simp;omega,hC2,hV2,by simpa using hJ3⟩
    case measure=>rw [hrg3.left_eq,hrg.left_eq];exact hlt
   ·gi_wp2
    refine bodyPost_ret (results_none rfl _ _ _) rfl ?_
    exact ⟨⟨_,rfl⟩,.inr ⟨_,trivial,hJx3⟩⟩
end Go.Proofs.YtpaiholildedcaaGreat
namespace Go.Proofs.YtpaiholildedcaaGreat
open Go.RowKit
end Go.Proofs.YtpaiholildedcaaGreat
namespace Go.Proofs.YtpaiholildedcaaGreat
open Go.RowKit Go.Shelf Go.Maps Go.Sort
attribute [local go_sem] Oper.semAt_some
def zB2 (a:Ag):List Value:=[.int .i64 a.z,.int .i64 a.x,.int .i64 a.y,.slice a.fa a.fn a.fc,.slice a.ia a.m a.ic,.int .i64 a.t]
def zB1 (l:List Ag):List Value:=l.flatMap zB2
def ABox (W:World)(B:Nat)(a:Ag):Prop:=W.heap[B]?=some (.cells #[.int .i64 a.z,.int .i64 a.x,.int .i64 a.y,.slice a.fa a.fn a.fc,.slice a.ia a.m a.ic,.int .i64 a.t] 181 (0,0))
theorem ABox.at {W:World}{B:Nat}{a:Ag}(h:ABox W B a):W.cell? ⟨B,0,none⟩=some (.int .i64 a.z)∧W.cell? ⟨B,1,none⟩=some (.int .i64 a.x)∧W.cell? ⟨B,2,none⟩=some (.int .i64 a.y)∧W.cell? ⟨B,3,none⟩=some (.slice a.fa a.fn a.fc)∧W.cell? ⟨B,4,none⟩=some (.slice a.ia a.m a.ic)∧W.cell? ⟨B,5,none⟩=some (.int .i64 a.t):=by
 have h':W.heap[B]?=_:=h
 exact ⟨by simp [World.cell?,h'],by simp [World.cell?,h'],by simp [World.cell?,h'],by simp [World.cell?,h'],by simp [World.cell?,h'],by simp [World.cell?,h']⟩
abbrev zL6:Array Value:=#[.int .i64 0,.int .i64 0,.int .i64 0,.slice none 0 0,.slice none 0 0,.int .i64 0]
theorem info_ag:(Tryz.prog.info? 181).map (fun i=>(i.zero,i.size,i.bytes))=some (some (.agg zL6),6,80):=by kernel_rfl
def AllA (D0:DataW Value)(xs:List Ag):Prop:=∃ ps,AllV D0 ps∧xs=ps.map (·.2)
theorem zFj (Bm b nn:Nat)(D0:DataW Value)(w:World)(hBm:Bm<w.heap.size)(hm:w.cell? ⟨Bm,0,none⟩=some (.map (some b)))(hown:w.ownsMap Tryz.prog 111 RV b nn D0) :
  SeqStopsK Fence.wide 3 Tryz.prog 216 #[.pointer (some ⟨Bm,0,none⟩)] (fun x:Ag=>#[agW x]) KeepsWalks (AllA D0) (fun _=>True) (Maps.size D0) w:=fun l J Jx W hW hJ hJx hY h0 =>
 zIc l Bm b nn D0 J Jx hY W hJ ((hW.cell (p:=⟨Bm,0,none⟩) hBm).trans hm) (zW hown hW) h0
theorem zDk (mb:Nat)(w:World):Calls Tryz.prog 178 #[.map (some mb)] w fun e w'=>e=.returned (.func (.func 216) #[] #[.pointer (some ⟨w.heap.size,0,none⟩)])∧w'=w.alloc (.cells #[.map (some mb)] 171):=by
 have hmf:∀ (fn:Fn) (first cap:Array Value) (w:World),(Instr.makeFunc fn first cap).run Tryz.prog w=.ok (.func fn first cap) w:=fun _ _ _ _=>rfl
 go_enter Tryz.func178,Tryz.ntmps178
 go_wp2
 go_ret
 exact ⟨rfl,rfl⟩
theorem zDt (Bm b nn:Nat)(D0:DataW Value)(w:World)(hBm:Bm<w.heap.size)(hm:w.cell? ⟨Bm,0,none⟩=some (.map (some b)))(hown:w.ownsMap Tryz.prog 111 RV b nn D0)(hall:Maps.size D0≤1048576) :
  Calls Tryz.prog 248 #[.slice none 0 0,.func (.func 216) #[] #[.pointer (some ⟨Bm,0,none⟩)]] w fun e w'=>∃ v xs,e=.returned v∧AllA D0 xs∧w'.ownsRow w.heap.size 181 6 v xs.length (zB1 xs)∧Bw w w':=by
 obtain ⟨i0,hi,hz0,hz1,hz2⟩:=info_parts info_ag
 refine (callsIn_wide (n:=4)).1 ?_
 refine callsIn_of_wp_marks Tryz.func248 rfl trivial ?_ rfl
 simp only [Tryz.ntmps248,List.size_toArray,List.length_cons,List.length_nil,Nat.reduceAdd,Nat.reduceSub,Array.replicate_succ,Array.replicate_zero,List.push_toArray,List.append_toArray,List.nil_append,List.cons_append]
 gi_wp2
 obtain ⟨W0,hW0⟩:∃ W0,(w.alloc (.cells #[.slice none 0 0] 233):World)=W0:=⟨_,rfl⟩
 have b0:Boxed W0 w.heap.size 233 (.slice none 0 0):=by rw [← hW0];exact Boxed.new w 233 (.slice none 0 0)
 have hB0:Bw w W0:=by rw [← hW0];exact Qb
 have hsz:W0.heap.size=w.heap.size+1:=by rw [← hW0];simp
 rw [hW0]
 clear hW0
 refine wpIn_rangeFunc_ownH rfl (by omega) (gf:=216) (lb:=#[.pointer (some ⟨Bm,0,none⟩)]) rfl trivial (enters_of Tryz.func216 (by kernel_rfl) rfl)
  (zFj Bm b nn D0 W0 (by omega) ((hB0.cell (p:=⟨Bm,0,none⟩) hBm).trans hm) (zW hown hB0)) (fun h k=>KeepsWalks.trans h k) (fun W l o o' _ h1 _ h3=>KeepsWalks.putObj o' h1 h3) (Below.refl _ _) (fun _=>rfl)
  (fun pre W=>((∃ v,Boxed W w.heap.size 233 v∧W.ownsRow w.heap.size 181 6 v pre.length (zB1 pre)∧True))∧Bw w W)
  (fun _ _ _=>False)
  (OwnFrom.and (Own.from (holdsRow_own w.heap.size w.heap.size 233 181 6 (fun (pre:List Ag)=>pre.length) (fun pre=>zB1 pre) (fun _ _=>True)) _) (ownFrom_below (Nat.le_refl _) (by omega)))
  (fun _ _ _ _ _ hs _ _=>hs)
  ⟨⟨_,b0,World.ownsRow_nil _ _ _ _,trivial⟩,hB0⟩
  (fun x a' W=>∃ Bx,ABox W Bx x∧a'={ tmps:=#[.slice none 0 0,.func (.func 216) #[] #[.pointer (some ⟨Bm,0,none⟩)],.pointer (some ⟨w.heap.size,0,none⟩),undef,.slice none 0 0,.pointer (some ⟨Bx,0,none⟩),.func (.func 216) #[] #[.pointer (some ⟨Bm,0,none⟩)],agW x,undef,undef,undef,undef,undef],defers:=[] })
  ?hAx ?assign ?body ?done ?stop
 case hAx =>
  rintro x a' _ X Y row ⟨Bx,e1,e2⟩ hg hr
  exact ⟨Bx,(hg.block Bx (Array.getElem?_eq_some_iff.1 e1).1 (fun e'=>by obtain ⟨_,o,ho,hc⟩:=hr Bx e'.symm;rw [show X.heap[Bx]?=_ from e1] at ho;cases ho;cases hc)).trans e1,e2⟩
 case assign =>
  rintro l pre x W K ⟨⟨v,hv,hrow,_⟩,hB⟩ hK
  have hK2:=hK { tmps:=#[.slice none 0 0,.func (.func 216) #[] #[.pointer (some ⟨Bm,0,none⟩)],.pointer (some ⟨w.heap.size,0,none⟩),undef,.slice none 0 0,.pointer (some ⟨W.heap.size,0,none⟩),.func (.func 216) #[] #[.pointer (some ⟨Bm,0,none⟩)],agW x,undef,undef,undef,undef,undef],defers:=[] } (W.alloc (.cells #[.int .i64 x.z,.int .i64 x.x,.int .i64 x.y,.slice x.fa x.fn x.fc,.slice x.ia x.m x.ic,.int .i64 x.t] 181))
   ((KeepsOthers.alloc _ _).from _) (KeepsWalks.alloc _ _) ⟨⟨v,hv.alloc _,hrow.alloc _,trivial⟩,hB.alloc hB.size _⟩ ⟨_,World.alloc_heap_new W _,rfl⟩
  gi_wp2
  exact hK2
 case body =>
  rintro l pre x a' W hl hlr ⟨⟨v,hv,hrow,_⟩,hB⟩ ⟨Bx,hE,rfl⟩ hlt
  obtain ⟨e0,e1,e2,e3,e4,e5⟩:=hE.at
  have hc:=hv.cell
  have hmx:1048577≤maxLen:=by decide
  have hce:∀ j u,(zB2 x)[j]?=some u→(W.alloc (.cells #[.int .i64 x.z,.int .i64 x.x,.int .i64 x.y,.slice x.fa x.fn x.fc,.slice x.ia x.m x.ic,.int .i64 x.t] 181)).cell? ((⟨W.heap.size,0,none⟩:Addr).add j)=some u:=by
   have hN:ABox (W.alloc (.cells #[.int .i64 x.z,.int .i64 x.x,.int .i64 x.y,.slice x.fa x.fn x.fc,.slice x.ia x.m x.ic,.int .i64 x.t] 181)) W.heap.size x:=World.alloc_heap_new W _
   obtain ⟨n0,n1,n2,n3,n4,n5⟩:=hN.at
   intro j u hj
   match j,hj with
   | 0,hj=>exact (Option.some.inj hj) ▸ n0
   | 1,hj=>exact (Option.some.inj hj) ▸ n1
   | 2,hj=>exact (Option.some.inj hj) ▸ n2
   | 3,hj=>exact (Option.some.inj hj) ▸ n3
   | 4,hj=>exact (Option.some.inj hj) ▸ n4
   | 5,hj=>exact (Option.some.inj hj) ▸ n5
   | j+6,hj=>cases (show (none:Option Value)=some u from hj)
  gi_wp2_with (gi_at_builtin;refine wpListIn_append_own _ rfl _ _ 233 rfl w.heap.size 181 i0 (.agg zL6) 6 80 Tryz.underlying233 hi hz0 hz1 hz2 rfl (by decide) _ _ _ rfl (hrow.alloc _) ⟨W.heap.size,0,none⟩ 1 1 (zB2 x) rfl rfl hce (by simp [zB2,Value.oneCell']) (by omega) (by omega) (by have:=hB.size;simp;omega) ?_;intro v' w1 hown' hgrow _;obtain ⟨g',cap',rfl⟩:=ownsRow_succ hown';obtain ⟨hv1,hv2,hr2,hk2,hb2⟩:=hv.appended (by decide) hrow hB.size (Nat.le_refl _) hown' hgrow;have hc1:=hv1.cell;have hf1:=hv1.frozen)
  have hkw:KeepsWalks W w1:=(KeepsWalks.alloc W (.cells #[.int .i64 x.z,.int .i64 x.x,.int .i64 x.y,.slice x.fa x.fn x.fc,.slice x.ia x.m x.ic,.int .i64 x.t] 181)).trans (KeepsWalks.of_grownBy hgrow (fun j o e h=>by
   have e':v.ownBlock=some j:=e
   rcases (hrow.alloc (.cells #[.int .i64 x.z,.int .i64 x.x,.int .i64 x.y,.slice x.fa x.fn x.fc,.slice x.ia x.m x.ic,.int .i64 x.t] 181)).2 with ⟨rfl,_⟩ | ⟨g,cap,cur,rfl,_,hgb,_⟩
   ·cases e'
   ·have:g=j:=by simpa [Value.ownBlock] using e'
    subst this
    rw [hgb] at h
    cases h
    rfl))
  refine ⟨hk2.from _,hkw.trans (KeepsWalks.setCell _ _ _),⟨_,hv2,?_,trivial⟩,hB.trans hb2⟩
  simpa [zB1] using hr2
 case done =>
  rintro D ys W hD hys ⟨⟨v,hv,hrow,_⟩,hB⟩ hK
  have hc:=hv.cell
  gi_wp2
  refine ⟨by simp,.inl ⟨_,_,rfl,run_takeDeferred hK,?_⟩⟩
  exact ⟨_,results_tmp rfl _ _ _,v,ys,rfl,hys,ownsRow_putObj hrow _ hK rfl,hB.trans (belowK_b (w:=w) (Nat.le_refl _) W D _ _ (by omega) hK rfl rfl)⟩
 case stop =>
  rintro D c pre W _ _ h _
  exact h.elim
end Go.Proofs.YtpaiholildedcaaGreat
namespace Go.Proofs.YtpaiholildedcaaGreat
open Go.RowKit
theorem zC3 (n:Nat)(K:Nat→Kp)(z x y:Int):atK n K z x y=-1∨∃ i:Nat,i<n∧atK n K z x y=(i:Int)∧(K i).z=z∧(K i).x=x∧(K i).y=y:=by
 unfold atK
 rcases zCu (fun i=>isK (K i) z x y) n with ⟨h1,h2⟩ | ⟨i,hi,hg,hf,hn⟩
 ·exact .inl h1
 ·exact .inr ⟨i,hi,hf,xA.1 hg⟩



end Go.Proofs.YtpaiholildedcaaGreat
