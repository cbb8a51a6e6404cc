/- Texts. -/
import Derived.Test.YtpaiholildedcaaGreatVLabelsIn35
set_option linter.unusedSimpArgs false
set_option linter.unusedVariables false
set_option maxRecDepth 100000
set_option maxHeartbeats 32000000
namespace Go.Proofs.YtpaiholildedcaaGreat
open Go.RowKit
def uB (a0:Option Addr)(m:Nat)(R:Rfs)(g:Nat)(w:World):Prop:=∀ gr,a0=some ⟨gr,0,none⟩→m≠0→g≠gr∧gr<w.heap.size∧zQ7 w gr 0 m R
theorem uB.below {a0:Option Addr}{m g:Nat}{R:Rfs}{w w':World}(h:uB a0 m R g w)(hb:Below w.heap.size w w'):uB a0 m R g w':=fun gr e hm=>by
 obtain ⟨h1,h2,h3⟩:=h gr e hm
 exact ⟨h1,Nat.lt_of_lt_of_le h2 hb.size,h3.below hb h2⟩
theorem uB.grown {a0:Option Addr}{m g g':Nat}{R:Rfs}{w w':World}(h:uB a0 m R g w)(hg:w.grownBy w' (some g))(hl:g'=g∨w.heap.size≤g'):uB a0 m R g' w':=fun gr e hm=>by
 obtain ⟨h1,h2,h3⟩:=h gr e hm
 exact ⟨by omega,Nat.lt_of_lt_of_le h2 hg.size,h3.grownM h2 hg (by omega)⟩
theorem zR5 (b n cap:Nat)(G:Nat→zS)(t:Int)(w:World)(hg:vY w b 0 n G)(hbl:b<w.heap.size)(hn:n≤1048576) :
  Calls Tryz.prog 154 #[.slice (some ⟨b,0,none⟩) n cap,.int .i64 t] w fun e w'=>((∃ r:Nat,r<n∧(G r).id=t∧e=.returned (.int .i64 (r:Int)))∨(e=.returned (.int .i64 (-1))∧∀ j,j<n→(G j).id≠t))∧Bw w w':=by
 have HG:Hid (vY w b 0 n G):=hg
 clear hg
 go_enter Tryz.func154,Tryz.ntmps154
 go_wp2
 go_loopw [5] (fun v wr=>∃ k:Nat,k≤n∧v=.int .i64 k∧(∀ j,j<k→(G j).id≠t)∧Bw w wr) (fun v _=>n - (intOf v).toNat)
 case atStart=>exact ⟨0,by omega,rfl,by omega,Below.refl _ _⟩
 case round =>
  obtain ⟨k,hk,rfl,hA,hB⟩:=hrel
  have HB:Hid (Bw w wr):=hB
  have HA:Hid (∀ j,j<k→(G j).id≠t):=hA
  by_cases hlt:k<n
  ·have f0:wr.cell? ⟨b,k * 7,none⟩=some (.int .i64 (G k).id):=by simpa using ((HG.out.below hB hbl) k hlt).1.1
   clear hB hA
   have hi:(k:Int)<(n:Int):=by omega
   have hi0:(0:Int)≤(k:Int):=by omega
   by_cases he:(G k).id=t
   ·rw [he] at f0
    go_wp2
    go_ret
    exact ⟨.inl ⟨k,hlt,he,rfl⟩,HB.out⟩
   ·have he':((G k).id == t)=false:=by simpa using he
    have HE:Hid ((G k).id≠t):=he
    clear he
    go_wp2
    go_roundw
    case rel=>exact ⟨k+1,by omega,by go_num,fun j hj=>by
      by_cases e:j=k
      ·rw [e];exact HE.out
      ·exact HA.out j (by omega),HB.out⟩
    case measure=>simp [intOf];omega
  ·obtain rfl:n=k:=by omega
   clear hB hA
   go_wp2
   go_ret
   exact ⟨.inr ⟨rfl,HA.out⟩,HB.out⟩
theorem zR4 {base b n g cap:Nat}{A:Nat→Kp}{l:List Nat}(t:Int)(w:World)(h:yG base w (.slice (some ⟨g,0,none⟩) l.length cap) (xN A) l)(ha:zB0 w b n A)(hl:OkC n A l)(hn:l.length≤1000) :
  Calls Tryz.prog 154 #[.slice (some ⟨g,0,none⟩) l.length cap,.int .i64 t] w fun e w'=>(∃ r:Int,e=.returned (.int .i64 r)∧decide (r<0)=!zFm A l t)∧Bw w w':=by
 rcases h.fs ha hl with ⟨h0,_⟩ | ⟨g',cap',e,h1,h2,h3,h4⟩
 ·cases h0
 ·injection e with e1 e2 e3
  injection e1 with e1
  injection e1 with e1
  subst e1
  refine (zR5 g l.length cap _ t w h4 h2 (by omega)).mono fun e w' ⟨he,hb⟩=>⟨?_,hb⟩
  rcases he with ⟨r,hr,e1,rfl⟩ | ⟨rfl,hx⟩
  ·refine ⟨_,rfl,?_⟩
   rw [zMb ⟨r,hr,e1⟩,decide_eq_false (by omega)]
   rfl
  ·refine ⟨_,rfl,?_⟩
   rw [zMc hx]
   rfl
theorem zEa (q:Nat)(z x y wd ht now s:Int)(b n cap:Nat)(A:Nat→Kp)(ra:Option Addr)(rn rc:Nat)(bad:Int)(w:World)(hV:Blk w q [.int .i64 z,.int .i64 x,.int .i64 y,.int .i64 wd,.int .i64 ht,.int .i64 now,.int .i64 s,.slice (some ⟨b,0,none⟩) n cap,.slice ra rn rc,.int .i64 bad])(ha:zB0 w b n A)(hs:zL n A)(h0:∀ j,j<n→kC A j=0)(hc:zBy z x y wd ht=true) :
  Calls Tryz.prog 103 #[.pointer (some ⟨q,0,none⟩)] w fun e w'=>∃ g c,e=.returned (.slice (some ⟨g,0,none⟩) (yN n (xQ z x y wd) A (yV z x y wd ht)).length c)∧yG w.heap.size w' (.slice (some ⟨g,0,none⟩) (yN n (xQ z x y wd) A (yV z x y wd ht)).length c) (xN A) (yN n (xQ z x y wd) A (yV z x y wd ht))∧Bw w w':=by
 obtain ⟨i0,hi,hz0,hz1,hz2⟩:=info_parts zEh
 have hql:q<w.heap.size:=hV.lt
 have HV:Hid (Blk w q [.int .i64 z,.int .i64 x,.int .i64 y,.int .i64 wd,.int .i64 ht,.int .i64 now,.int .i64 s,.slice (some ⟨b,0,none⟩) n cap,.slice ra rn rc,.int .i64 bad]):=hV
 have HKo:Hid (zB0 w b n A):=ha
 have HZ0:Hid (∀ j,j<n→kC A j=0):=h0
 have HRf:Hid (∀ W,Bw w W→Calls Tryz.prog 67 #[.pointer (some ⟨q,0,none⟩)] W fun e w'=>∃ v,e=.returned v∧zDm W.heap.size w' v (yV z x y wd ht) (xQ z x y wd)∧Bw W w'):=fun W h=>by
  have hb:=hV.below hql h
  exact zGa q W ⟨hb.cell 0 rfl,hb.cell 1 rfl,hb.cell 2 rfl,hb.cell 3 rfl,hb.cell 4 rfl⟩ hc
 have HAt:Hid (∀ W' rz rx ry,Bw w W'→Calls Tryz.prog 68 #[.pointer (some ⟨q,6,none⟩),uL rz rx ry] W' fun e w'=>e=.returned (.int .i64 (atK n A rz rx ry))∧Below W'.heap.size W' w'):=fun W' rz rx ry h=>by
  have hb:=hV.below hql h
  exact zEb q 6 s _ n cap A rz rx ry W' ⟨hb.cell 6 rfl,hb.cell 7 rfl⟩ ((HKo.out.below h).is) hs.1
 have hm4:yV z x y wd ht≤4:=zBg _ _ _ _ _
 have HOk:=(show Hid _ from zAy n (xQ z x y wd) A h0)
 clear hV ha hc h0 hs
 generalize yV z x y wd ht=m at *
 generalize xQ z x y wd=R at *
 go_enter Tryz.func103,Tryz.ntmps103
 go_wp2_with fail
 generalize hW:(w.alloc _:World)=W
 have HB0:Hid (Bw w W):=by show Below _ _ _;subst hW;exact Qb
 have HO0:Hid (yG w.heap.size W (.slice (some ⟨w.heap.size,0,none⟩) 0 0) (xN A) []):=by
  show World.ownsRow _ _ _ _ _ _ _
  subst hW
  exact World.ownsRow_lit (base:=w.heap.size) w #[] 0 (Nat.le_refl _) (Nat.zero_le _) rfl
 have hsW:w.heap.size<W.heap.size:=by subst hW;simp
 clear hW
 refine Calls.mono (HRf.out _ HB0.out) ?_
 rintro e w1 ⟨v,rfl,hO,hb1⟩
 obtain ⟨a0,cap0,hv,hc0,hI⟩:=hO.own
 subst hv
 have HI:Hid (m=0∨∃ gr,a0=some ⟨gr,0,none⟩∧W.heap.size≤gr∧gr<w1.heap.size∧zQ7 w1 gr 0 m R):=by
  rcases hI with h | ⟨g,ha,h1,h2,h3,_⟩
  ·exact .inl h
  ·exact .inr ⟨g,ha,h1,h2,h3⟩
 have HRB0:Hid (uB a0 m R w.heap.size w1):=fun gr e hm=>by
  rcases HI.out with h | ⟨gr',e',h1,h2,h3⟩
  ·exact absurd h hm
  ·rw [e'] at e;injection e with e;injection e with e;subst e
   exact ⟨by omega,h2,h3⟩
 have HO1:Hid (yG w.heap.size w1 (.slice (some ⟨w.heap.size,0,none⟩) 0 0) (xN A) []):=HO0.out.below hb1
 have HB1:Hid (Bw w w1):=zA HB0.out hb1
 have hs1:W.heap.size≤w1.heap.size:=hb1.size
 clear hI hO hb1 HRf HO0 HB0
 go_wp2_with fail
 go_loopw [3,5] (fun v i wr=>∃ (k:Nat),k≤m∧i=.int .i64 (k:Int)∧(∃ g c,v=.slice (some ⟨g,0,none⟩) (yN n R A k).length c∧uB a0 m R g wr)∧yG w.heap.size wr v (xN A) (yN n R A k)∧Bw w wr) (fun _ i _=>m - (intOf i).toNat)
 case atStart=>exact ⟨0,by omega,rfl,⟨_,_,rfl,HRB0.out⟩,HO1.out,HB1.out⟩
 case round =>
  obtain ⟨k,hk,rfl,⟨g,c,rfl,hG⟩,hO,hB⟩:=hrel
  have HO:Hid (yG w.heap.size wr (.slice (some ⟨g,0,none⟩) (yN n R A k).length c) (xN A) (yN n R A k)):=hO
  have HB:Hid (Bw w wr):=hB
  have HG:Hid (uB a0 m R g wr):=hG
  clear hO hB HO1 HB1 HRB0
  by_cases hlt:k<m
  ·have HLT:Hid (k<m):=hlt
   rcases HI.out with h0 | ⟨gr,rfl,h1,h2,_⟩
   ·omega
   obtain ⟨hne,hgl,hpt⟩:=hG gr rfl (by omega)
   obtain ⟨q0,q1,q2⟩:=hpt k hlt
   have hi':(k:Int)<(m:Int):=by omega
   have hi0:(0:Int)≤(k:Int):=by omega
   have HA:=(show Hid _ from HAt.out)
   have HLen:Hid ((yN n R A k).length≤48):=by
    have:=(HOk.out k).2
    show _≤_
    omega
   have HOL:Hid (OkC n A (yN n R A k)):=(HOk.out k).1
   have e0:∀ W',Bw wr W'→W'.cell? ⟨gr,0+k * 3,none⟩=some (.int .i64 (R.z k)):=fun W' h=>(h.cell (p:=⟨gr,_,none⟩) hgl).trans q0
   have e1:∀ W',Bw wr W'→W'.cell? ⟨gr,0+k * 3+1,none⟩=some (.int .i64 (R.x k)):=fun W' h=>(h.cell (p:=⟨gr,_,none⟩) hgl).trans q1
   have e2:∀ W',Bw wr W'→W'.cell? ⟨gr,0+k * 3+2,none⟩=some (.int .i64 (R.y k)):=fun W' h=>(h.cell (p:=⟨gr,_,none⟩) hgl).trans q2
   simp only [Nat.zero_add] at e0 e1 e2 q0 q1 q2
   have HY:Hid (∀ i:Nat,atK n A (R.z k) (R.x k) (R.y k)=(i:Int)→yN n R A (k+1)=xR A i (yN n R A k) (A i).fn):=fun i h=>zQm h
   have HN:Hid (atK n A (R.z k) (R.x k) (R.y k)=-1→yN n R A (k+1)=yN n R A k):=fun h=>zQl h
   have HAO:Hid (atK n A (R.z k) (R.x k) (R.y k)=-1∨∃ i:Nat,i<n∧atK n A (R.z k) (R.x k) (R.y k)=(i:Int)):=by
    rcases zJ2 n A (R.z k) (R.x k) (R.y k) with h | ⟨i,h1,h2,_⟩
    ·exact .inl h
    ·exact .inr ⟨i,h1,h2⟩
   obtain ⟨L,hLL⟩:∃ L,yN n R A k=L:=⟨_,rfl⟩
   rw [hLL] at HO HLen HOL HY HN
   obtain ⟨L2,hL2⟩:∃ L,yN n R A (k+1)=L:=⟨_,rfl⟩
   rw [hL2] at HY HN
   have HL2:Hid (yN n R A (k+1)=L2):=hL2
   rw [hLL]
   clear hpt hG hLL hL2 h1 h2 hlt
   generalize R.z k=rz at *
   generalize R.x k=rx at *
   generalize R.y k=ry at *
   obtain ⟨AT,hAT⟩:∃ AT,atK n A rz rx ry=AT:=⟨_,rfl⟩
   rw [hAT] at HY HN HAO
   have HA2:Hid (∀ W',Bw w W'→Calls Tryz.prog 68 #[.pointer (some ⟨q,6,none⟩),uL rz rx ry] W' fun e w'=>e=.returned (.int .i64 AT)∧Below W'.heap.size W' w'):=fun W' h=>by rw [← hAT];exact HA.out W' rz rx ry h
   clear hAT HA
   have HOw:Hid (Bw wr wr):=Below.refl _ _
   go_wp2_with fail
   refine wp_region_noPanic ?_
   refine wp_region_held_drew (S:=fun W'=>Bw wr W') (by kernel_rfl) (by have:=Below.refl wr.heap.size wr;exact Qb) (fun hHeld=>?_)
   have hX0a:Bw wr wr.drew:=hHeld
   refine zC (i:=0) (d:=some 20) rfl rfl ?_
   try simp only [Act.put,Qx,Qy,Qz]
   refine zC (i:=1) (d:=some 21) rfl rfl ?_
   try simp only [Act.put,Qx,Qy,Qz]
   refine zC (i:=2) (d:=some 22) rfl rfl ?_
   try simp only [Act.put,Qx,Qy,Qz]
   refine zC (i:=3) (d:=some 23) rfl rfl ?_
   try simp only [Act.put,Qx,Qy,Qz]
   refine zC (i:=4) (d:=some 24) rfl rfl ?_
   try simp only [Act.put,Qx,Qy,Qz]
   refine zC (i:=5) (d:=some 25) rfl rfl ?_
   try simp only [Act.put,Qx,Qy,Qz]
   refine zC (i:=6) (d:=some 26) rfl rfl ?_
   try simp only [Act.put,Qx,Qy,Qz]
   generalize wr.drew=wk0a at *
   refine zN 7 fun K hK=>?_
   rw [if_pos (by rfl)]
   go_simp
   refine Calls.mono (HA2.out _ (zA HB.out hX0a)) ?_
   rintro e wk1a ⟨rfl,hb1a⟩
   have hX1a:Bw wr wk1a:=zA hX0a hb1a
   go_wp2_with fail
   refine hK.out _ _ (by assumption) (fun hHeld=>?_)
   clear hK K
   try simp only [Act.put,Qx,Qy,Qz]
   have HB9:Hid (Bw wr wk1a):=hX1a
   have HG9:Hid (uB (some ⟨gr,0,none⟩) m R g wk1a):=HG.out.below HB9.out
   have HO9:Hid (yG w.heap.size wk1a (.slice (some ⟨g,0,none⟩) L.length c) (xN A) L):=HO.out.below HB9.out
   have HB10:Hid (Bw w wk1a):=zA HB.out HB9.out
   rcases HAO.out with hno | ⟨i,hin,hat⟩
   ·have HE:=(show Hid _ from HN.out hno)
    subst hno
    refine zC (i:=8) (d:=some 6) rfl rfl ?_
    try simp only [Act.put,Qx,Qy,Qz]
    refine wpAnyH_done (by kernel_rfl) ?_ _
    refine NoPanic.normal ?_
    clear q0 q1 q2 e0 e1 e2 hX0a hb1a hX1a HO HB HG HA2 HAO HY HN
    go_wp2_with fail
    go_roundw
    case rel =>
     have e:=HL2.out.trans HE.out
     exact ⟨k+1,by have:=HLT.out;omega,by have:=HLT.out;go_num,⟨g,c,by rw [e],HG9.out⟩,by rw [e];exact HO9.out,HB10.out⟩
    case measure=>have:=HLT.out;simp [intOf];omega
   ·have HE:=(show Hid _ from HY.out i hat)
    subst hat
    have HIN:Hid (i<n):=hin
    refine zC (i:=8) (d:=some 6) rfl rfl ?_
    try simp only [Act.put,Qx,Qy,Qz]
    refine wpAnyH_done (by kernel_rfl) ?_ _
    refine NoPanic.normal ?_
    have h12:=zSi (HZ0.out i hin)
    obtain ⟨⟨_,_,_,t3,_⟩,⟨fb,ef,_,_⟩,_⟩:=(HKo.out.below HB10.out).2 i hin
    rw [ef] at t3
    have HEf:Hid ((A i).fa=some ⟨fb,0,none⟩):=ef
    have v7:=(HV.out.below hql HB10.out).cell 7 rfl
    have hin':(i:Int)<(n:Int):=by omega
    have hi00:(0:Int)≤(i:Int):=by omega
    have hnl:¬ (i:Int)<0:=by omega
    obtain ⟨fn,hfn⟩:∃ fn,(A i).fn=fn:=⟨_,rfl⟩
    have HFn:Hid ((A i).fn=fn):=hfn
    rw [hfn] at t3 h12 HE
    clear ef hfn hin q0 q1 q2 e0 e1 e2 hX0a hb1a hX1a HO HB HG HA2 HAO HY HN
    go_wp2_with fail
    clear t3 v7
    go_loopw [3,8] (fun v j wr=>∃ t:Nat,t≤fn∧j=.int .i64 (t:Int)∧(∃ g c,v=.slice (some ⟨g,0,none⟩) (xR A i L t).length c∧uB (some ⟨gr,0,none⟩) m R g wr)∧yG w.heap.size wr v (xN A) (xR A i L t)∧Bw w wr) (fun _ j _=>fn - (intOf j).toNat)
    case atStart=>exact ⟨0,by omega,rfl,⟨g,c,rfl,HG9.out⟩,HO9.out,HB10.out⟩
    case round =>
     clear HG9 HO9 HB10 HB9
     obtain ⟨t,ht',rfl,⟨g,c,rfl,hG⟩,hO,hB⟩:=hrel
     have HO:Hid (yG w.heap.size wr (.slice (some ⟨g,0,none⟩) (xR A i L t).length c) (xN A) (xR A i L t)):=hO
     have HB:Hid (Bw w wr):=hB
     have HG:Hid (uB (some ⟨gr,0,none⟩) m R g wr):=hG
     clear hO hB hG
     by_cases htf:t<fn
     ·have HQ:Hid (t<fn):=htf
      have HOk2:Hid (OkC n A (xR A i L t)):=HOL.out.add HIN.out (by have:=HFn.out;omega) t (by have:=HFn.out;omega)
      have HLe2:Hid ((xR A i L t).length≤60):=by
       have:=zDl A i L t
       have:=HLen.out
       show _≤_
       omega
      have HHas:Hid (Calls Tryz.prog 154 #[.slice (some ⟨g,0,none⟩) (xR A i L t).length c,.int .i64 ((A i).F t).id] wr fun e w'=>(∃ r:Int,e=.returned (.int .i64 r)∧decide (r<0)=!zFm A (xR A i L t) ((A i).F t).id)∧Bw wr w'):=zR4 _ wr HO.out (HKo.out.below HB.out) HOk2.out (Nat.le_trans HLe2.out (by omega))
      have HY:Hid (zFm A (xR A i L t) ((A i).F t).id=true→xR A i L (t+1)=xR A i L t):=fun h=>zMq h (by omega)
      have HN:Hid (zFm A (xR A i L t) ((A i).F t).id=false→xR A i L (t+1)=xR A i L t ++ [i * 64+t]):=fun h=>zMp h (by omega)
      have HFg:=(show Hid _ from zQk A i t (by omega))
      obtain ⟨_,⟨fb',ef',hfl,hft⟩,_⟩:=HKo.out.2 i HIN.out
      have hee:fb'=fb:=by
       have:=ef'.symm.trans HEf.out
       injection this with this
       injection this
      subst hee
      have hff:=(hft t (by have:=HFn.out;omega)).1
      rw [Nat.zero_add] at hff
      obtain ⟨f,hf⟩:∃ f,(A i).F t=f:=⟨_,rfl⟩
      rw [hf] at HHas HY HN HFg hff
      have HFt:Hid (yJ w fb' (t * 7) f.id f.la f.ki f.wi (.slice f.a f.n f.cap) f.lab f.pr):=hff
      obtain ⟨l2,hl2⟩:∃ l2,xR A i L t=l2:=⟨_,rfl⟩
      rw [hl2] at HO HHas HY HN HLe2
      rw [hl2]
      have HFl:Hid (fb'<w.heap.size):=hfl
      have f0:=(HFt.out.below HB.out hfl).1
      have hiq:(t:Int)<(fn:Int):=by omega
      have hq0:(0:Int)≤(t:Int):=by omega
      clear hff hft htf HOk2 hl2 hf hfl ef'
      go_wp2_with fail
      refine Calls.mono HHas.out ?_
      rintro e wx ⟨⟨rr,rfl,hrr⟩,hbx⟩
      have HBX:Hid (Bw w wx):=zA HB.out hbx
      have HOx:Hid (yG w.heap.size wx (.slice (some ⟨g,0,none⟩) l2.length c) (xN A) l2):=HO.out.below hbx
      have HGx:Hid (uB (some ⟨gr,0,none⟩) m R g wx):=HG.out.below hbx
      have hWx:=HBX.out.size
      clear hbx HHas HO HB HG f0
      cases hok:zFm A l2 f.id
      case true =>
       have HS1:=(show Hid _ from HY.out hok)
       rw [hok] at hrr
       have hrn:¬ rr<0:=by simpa using hrr
       clear hok HY HN hrr HFt
       go_wp2_with fail
       go_roundw
       case rel=>exact ⟨t+1,by have:=HQ.out;omega,by have:=HQ.out;go_num,⟨g,c,by rw [HS1.out],HGx.out⟩,by rw [HS1.out];exact HOx.out,HBX.out⟩
       case measure=>have:=HQ.out;simp [intOf];omega
      case false =>
       have HS1:=(show Hid _ from HN.out hok)
       rw [hok] at hrr
       have hrn:rr<0:=by simpa using hrr
       clear hok HY HN hrr
       obtain ⟨g0,g1,g2,g3,g4,g5,g6⟩:=HFt.out.below HBX.out HFl.out
       obtain ⟨m2,hm⟩:∃ m2,l2.length=m2:=⟨_,rfl⟩
       have hOx:=HOx.out
       have hok1:=HLe2.out
       unfold yG at hOx
       rw [hm] at hOx hok1
       rw [hm]
       have HOw:Hid (wx.ownsRow w.heap.size 209 7 (.slice (some ⟨g,0,none⟩) m2 c) m2 (zR (xN A) l2)):=hOx
       clear hOx HOx HFt
       go_wp2_with (first
        | (at_builtin;go_must (refine wpList_append_lies _ rfl _ _ 137 rfl w.heap.size 209 i0 (.agg #[.int .i64 0,.int .i64 0,.int .i64 0,.int .i64 0,.slice none 0 0,.string ⟨#[]⟩,.int .i64 0]) 7 80 Tryz.underlying137 hi hz0 hz1 hz2 rfl (by decide) _ m2 (zR (xN A) l2) rfl (World.ownsRow.alloc HOw.out _) ⟨wx.heap.size,0,none⟩ 1 1 (yO f) rfl rfl ?c1 ?c2 (by omega) ?c3 ?c4 ?c5 _ rfl ?_)))
       case c1 =>
        intro q u hq
        have hq7:q<7:=(List.getElem?_eq_some_iff.1 hq).1
        have hc:q=0∨q=1∨q=2∨q=3∨q=4∨q=5∨q=6:=by omega
        rcases hc with rfl | rfl | rfl | rfl | rfl | rfl | rfl <;> (simp [yO] at hq;subst hq;simp [Addr.add,go_sem])
       case c2=>exact uU _
       case c3=>unfold maxLen;omega
       case c4=>omega
       case c5=>first | omega | (simp;omega)
       intro g' c' w4 hown' hgrow hlie hlt3
       generalize hV:(wx.alloc _:World)=V at hgrow
       have hBV:Bw wx V:=by subst hV;exact Qb
       have hsV:V.heap.size=wx.heap.size+1:=by subst hV;simp
       have hgr':V.grownBy w4 (some g):=hgrow
       have hgw:w.heap.size≤g:=(World.ownsRow.lt HOw.out g rfl).1
       have hBg:Below w.heap.size V w4:=(Below.refl _ _).grown hgrow (by have:=hBV.size;omega) (fun k hk=>by have e:g=k:=Option.some.inj hk;omega)
       have HB4:Hid (Bw w w4):=(HBX.out.trans (hBV.mono hWx)).trans hBg
       have hlie':g'=g∨V.heap.size≤g':=by
        rcases hlie with h | h
        ·exact .inl (Option.some.inj h).symm
        ·right;omega
       have HG4:Hid (uB (some ⟨gr,0,none⟩) m R g' w4):=(HGx.out.below hBV).grown hgr' hlie'
       have HO4:Hid (yG w.heap.size w4 (.slice (some ⟨g',0,none⟩) (m2+1) c') (xN A) (xR A i L (t+1))):=by
        show yG _ _ _ _ _
        unfold yG
        rw [HS1.out,xW,zBc,List.length_append,hm,HFg.out]
        exact hown'
       have HLe4:Hid ((xR A i L (t+1)).length=m2+1):=by
        show _=_
        rw [HS1.out,List.length_append,hm]
        rfl
       clear hown' hgrow hlie hlie' hlt3 hBg hBV hV hsV hgr' g0 g1 g2 g3 g4 g5 g6
       go_wp2_with fail
       go_roundw
       case rel=>exact ⟨t+1,by have:=HQ.out;omega,by have:=HQ.out;go_num,⟨g',c',by rw [HLe4.out],HG4.out⟩,HO4.out,HB4.out⟩
       case measure=>have:=HQ.out;simp [intOf];omega
     ·obtain rfl:fn=t:=by omega
      have e:=HL2.out.trans HE.out
      have HO3:Hid (yG w.heap.size wr (.slice (some ⟨g,0,none⟩) (yN n R A (k+1)).length c) (xN A) (yN n R A (k+1))):=by show yG _ _ _ _ _;rw [e];exact HO.out
      have HLe3:Hid ((xR A i L fn).length=(yN n R A (k+1)).length):=by show _=_;rw [e]
      rw [HLe3.out]
      clear htf HO e
      go_wp2_with fail
      go_roundw
      case rel=>exact ⟨k+1,by have:=HLT.out;omega,by have:=HLT.out;go_num,⟨g,c,rfl,HG.out⟩,HO3.out,HB.out⟩
      case measure=>have:=HLT.out;simp [intOf];omega
  ·obtain rfl:m=k:=by omega
   go_wp2
   go_ret
   exact ⟨_,_,rfl,HO.out,HB.out⟩
end Go.Proofs.YtpaiholildedcaaGreat
