/- Texts. -/
import Derived.Test.YtpaiholildedcaaGreatVLabelsIn34
set_option linter.unusedSimpArgs false
set_option linter.unusedVariables false
set_option maxRecDepth 100000
set_option maxHeartbeats 32000000
namespace Go.Proofs.YtpaiholildedcaaGreat
open Go.RowKit
theorem zF3 {base n:Nat}{w w':World}{v:Value}{xs:List Value}(h:w.ownsRow base 209 7 v n xs)(hb:Below w.heap.size w w'):w'.ownsRow base 209 7 v n xs:=by
 obtain ⟨h1,h2 | ⟨g,cp,cur,hv,hg,hh,h3⟩⟩:=h
 ·exact ⟨h1,.inl h2⟩
 ·exact ⟨h1,.inr ⟨g,cp,cur,hv,hg,(hb.block g (Array.getElem?_eq_some_iff.1 hh).1).trans hh,h3⟩⟩
theorem zPd {base base':Nat}{w:World}{v:Value}{H:Nat→zS}{l:List Nat}(h:yG base w v H l)(hb:base'≤base):yG base' w v H l:=by
 obtain ⟨h1,h2 | ⟨g,cp,cur,hv,hg,hh,h3⟩⟩:=h
 ·exact ⟨h1,.inl h2⟩
 ·exact ⟨h1,.inr ⟨g,cp,cur,hv,Nat.le_trans hb hg,hh,h3⟩⟩
theorem yG.fs {base b n:Nat}{w:World}{v:Value}{A:Nat→Kp}{l:List Nat}(h:yG base w v (xN A) l)(ha:zB0 w b n A)(hl:OkC n A l) :
  (v=.slice none 0 0∧l=[])∨∃ g cap,v=.slice (some ⟨g,0,none⟩) l.length cap∧base≤g∧g<w.heap.size∧l.length≤cap∧vY w g 0 l.length (fun j=>xN A (l.getD j 0)):=by
 rcases h.at with h0 | ⟨g,cap,e,h1,h2,h3,_,h4⟩
 ·exact .inl h0
 ·refine .inr ⟨g,cap,e,h1,h2,h3,fun i hi=>⟨by rw [Nat.zero_add];exact h4 i hi,?_⟩⟩
  have hm:l.getD i 0 ∈ l:=by
   rw [List.getD_eq_getElem?_getD,List.getElem?_eq_getElem hi]
   exact List.getElem_mem hi
  obtain ⟨c1,c2⟩:=hl.1 _ hm
  obtain ⟨_,⟨fb,_,_,hf⟩,_⟩:=ha.2 _ c1
  exact (hf _ c2).2
theorem zQb (t:Int)(w:World):Calls Tryz.prog 161 #[.slice none 0 0,.int .i64 t] w fun e w'=>e=.returned (.bool false)∧Bw w w':=by
 go_enter Tryz.func161,Tryz.ntmps161
 go_wp2
 go_loopw [9] (fun v wr=>v=.int .i64 0∧Bw w wr) (fun _ _=>0)
 case atStart=>exact ⟨rfl,Below.refl _ _⟩
 case round =>
  obtain ⟨rfl,hB⟩:=hrel
  have HB:Hid (Bw w wr):=hB
  clear hB
  go_wp2
  go_ret
  exact ⟨rfl,HB.out⟩
theorem zQa {base b n:Nat}{v:Value}{A:Nat→Kp}{l:List Nat}(t:Int)(w:World)(h:yG base w v (xN A) l)(ha:zB0 w b n A)(hl:OkC n A l)(hn:l.length≤1000) :
  Calls Tryz.prog 161 #[v,.int .i64 t] w fun e w'=>e=.returned (.bool (zFm A l t))∧Bw w w':=by
 rcases h.fs ha hl with ⟨rfl,rfl⟩ | ⟨g,cap,rfl,h1,h2,h3,h4⟩
 ·exact (zQb t w).mono fun e w' ⟨he,hb⟩=>⟨he,hb⟩
 ·refine (zEo g l.length cap l.length _ t w (Nat.le_refl _) h4 h2 (by omega)).mono fun e w' ⟨he,hb⟩=>⟨?_,hb⟩
  rcases he with ⟨e1,hx⟩ | ⟨e1,hx⟩
  ·rw [e1,zMb hx]
  ·rw [e1,zMc hx]
theorem zJg (B p b:Nat)(z x y wd ht now s:Int)(n:Nat)(A:Nat→Kp)(ra:Option Addr)(rn rc:Nat)(bad:Int)(w:World)(hL:LkA w B p z x y wd ht now s n A ra rn rc bad)(hc:zBy z x y wd ht=true)(h0:∀ j,j<n→kC A j=0)(ha:zB0 w b n A) :
  Calls Tryz.prog 105 #[.pointer (some ⟨p,0,none⟩)] w fun e w'=>∃ v,e=.returned v∧yG w.heap.size w' v (xN A) (yN n (xQ z x y wd) A (yV z x y wd ht))∧Bw w w':=by
 obtain ⟨i0,hi,hz0,hz1,hz2⟩:=info_parts zEh
 obtain ⟨hB,sp,hV,hK,hne⟩:=hL
 have HV:Hid (Blk w p [.int .i64 z,.int .i64 x,.int .i64 y,.int .i64 wd,.int .i64 ht,.int .i64 now,.pointer (some ⟨sp,0,none⟩),.slice ra rn rc,.int .i64 bad,.slice none 0 0]):=hV
 have HK:Hid (ShK w B sp s n A):=hK
 have HA:Hid (zB0 w b n A):=ha
 have hpl:p<w.heap.size:=hV.lt
 have HZ0:Hid (∀ j,j<n→kC A j=0):=h0
 have HVi:Hid (∀ W,Calls Tryz.prog 80 #[zFq z x y wd ht] W fun e w'=>∃ v,e=.returned (.agg #[.int .i64 0,v])∧zQ8 w' W.heap.size v (yV z x y wd ht) (xQ z x y wd)∧Bw W w'):=fun W=>by
  have:=vH z x y wd ht W
  have e1:uJ z x y wd ht=0:=by unfold uJ;rw [if_pos hc]
  rw [e1] at this;exact this
 have HRB:Hid (∀ i,i<yV z x y wd ht→zAv ((xQ z x y wd).z i) ((xQ z x y wd).x i) ((xQ z x y wd).y i)=true):=fun i hi=>zRc hc hi
 have hm4:yV z x y wd ht≤4:=zBg _ _ _ _ _
 have HOk:=(show Hid _ from zAy n (xQ z x y wd) A h0)
 obtain ⟨c0,c1,c2,c3,c4⟩:=Blk.c5 hV
 clear hV hK h0 hc hB hne ha
 generalize yV z x y wd ht=m at *
 generalize xQ z x y wd=R at *
 go_enter Tryz.func105,Tryz.ntmps105
 go_wp2_with fail
 refine Calls.mono (HVi.out _) ?_
 rintro e w1 ⟨v,rfl,hO,hb1⟩
 obtain ⟨a0,cap0,hv,hc0,hI⟩:=hO.pts
 subst hv
 have HI:Hid (zOm w1 a0 m R):=hI
 have HB1:Hid (Bw w w1):=hb1
 clear hO hI hb1 HVi c0 c1 c2 c3 c4
 have i1:∀ w,(Instr.field 124 (.agg #[.int .i64 0,.slice a0 m cap0]) 1).run Tryz.prog w=.ok (.slice a0 m cap0) w:=fun _=>by kernel_rfl
 go_wp2_with fail
 clear i1
 go_loopw [3,15] (fun v i wr=>∃ k:Nat,k≤m∧i=.int .i64 (k:Int)∧yG w1.heap.size wr v (xN A) (yN n R A k)∧Bw w1 wr) (fun _ i _=>m - (intOf i).toNat)
 case atStart=>exact ⟨0,by omega,rfl,World.ownsRow_nil _ _ _ _,Below.refl _ _⟩
 case round =>
  obtain ⟨k,hk,rfl,hO,hB⟩:=hrel
  have HO:Hid (yG w1.heap.size wr u3 (xN A) (yN n R A k)):=hO
  have HB:Hid (Bw w1 wr):=hB
  have HBw:Hid (Bw w wr):=zA HB1.out hB
  clear hO hB
  by_cases hlt:k<m
  ·have HLT:Hid (k<m):=hlt
   rcases HI.out with h0 | ⟨rb,off,rfl,hb,hpt⟩
   ·omega
   obtain ⟨q0,q1,q2⟩:=(hpt.below HB.out hb) k hlt
   have hik:(k:Int)<(m:Int):=by omega
   have hi0:(0:Int)≤(k:Int):=by omega
   obtain ⟨mb,_,_,hsh1,_,hsh2⟩:=HK.out.below HBw.out
   have HSh:Hid (ShN wr sp mb s n A):=⟨hsh1,hsh2⟩
   have HRk:=(show Hid _ from HRB.out k hlt)
   obtain ⟨zz,xx,yy,fa,fn,fc,ia,im,ic,tt,j0,HLk,HFn,HFe,HFs⟩:∃ (zz xx yy:Int) (fa:Option Addr) (fn fc:Nat) (ia:Option Addr) (im ic:Nat) (tt:Int) (j0:Nat),Hid (∀ W,Bw wr W→(Instr.lookup 171 (.map (some mb)) (.agg #[.int .i64 (R.z k),.int .i64 (R.x k),.int .i64 (R.y k)]) false).run Tryz.prog W=.ok (agV zz xx yy fa fn fc ia im ic tt) W)∧Hid (fn≤12)∧Hid (yN n R A (k+1)=xR A j0 (yN n R A k) fn)∧Hid (fn=0∨j0<n∧fa=(A j0).fa∧fn=(A j0).fn):=by
    rcases zJ2 n A (R.z k) (R.x k) (R.y k) with hno | ⟨i,hin,e,e1,e2,e3⟩
    ·exact ⟨0,0,0,none,0,0,none,0,0,0,0,(show Hid (∀ W,Bw wr W→_) from fun W h=>(HSh.out.below h).lookNo HZ0.out HRk.out hno),(show Hid (0≤12) from by show 0≤12;omega),(show Hid (_=_) from zQl hno),(show Hid (_∨_) from .inl rfl)⟩
    ·exact ⟨(A i).z,(A i).x,(A i).y,(A i).fa,(A i).fn,(A i).fc,(A i).ia,(A i).m,(A i).ic,(i:Int)+1,i,(show Hid (∀ W,Bw wr W→_) from fun W h=>(HSh.out.below h).look HZ0.out HRk.out hin (zBo.2 ⟨e1,e2,e3⟩)),(show Hid (_≤12) from zSi (HZ0.out i hin)),(show Hid (_=_) from zQm e),(show Hid (_∨_) from .inr ⟨hin,rfl,rfl⟩)⟩
   have HLen:Hid ((yN n R A k).length≤48):=by
    have:=(HOk.out k).2
    show _≤_
    omega
   have HOL:Hid (OkC n A (yN n R A k)):=(HOk.out k).1
   have f1:∀ w,(Instr.field 181 (agV zz xx yy fa fn fc ia im ic tt) 0).run Tryz.prog w=.ok (.agg #[.int .i64 zz,.int .i64 xx,.int .i64 yy,.slice fa fn fc,.slice ia im ic]) w:=fun _=>by kernel_rfl
   have f2:∀ w,(Instr.field 141 (.agg #[.int .i64 zz,.int .i64 xx,.int .i64 yy,.slice fa fn fc,.slice ia im ic]) 0).run Tryz.prog w=.ok (.agg #[.int .i64 zz,.int .i64 xx,.int .i64 yy,.slice fa fn fc]) w:=fun _=>by kernel_rfl
   have f3:∀ w,(Instr.field 139 (.agg #[.int .i64 zz,.int .i64 xx,.int .i64 yy,.slice fa fn fc]) 1).run Tryz.prog w=.ok (.slice fa fn fc) w:=fun _=>by kernel_rfl
   clear hsh1 hsh2 hpt HRk hlt
   generalize R.z k=rz at *
   generalize R.x k=rx at *
   generalize R.y k=ry at *
   go_wp2_with fail
   generalize hU:(wr.alloc _:World)=U
   have HBr:Hid (Bw wr U):=by show Below _ _ _;subst hU;exact Qb
   have HBU:Hid (Bw w U):=zA HBw.out HBr.out
   have HRU:Hid (RK U wr.heap.size rz rx ry):=by show RK _ _ _ _ _;subst hU;refine ⟨?_,?_,?_⟩ <;> simp [go_sem]
   have hrl:wr.heap.size<U.heap.size:=World.block_lt_of_cell? _ _ HRU.out.1
   clear hU q0 q1 q2
   have c6:∀ W',Bw U W'→W'.cell? ⟨p,6,none⟩=some (.pointer (some ⟨sp,0,none⟩)):=fun W' h=>(HV.out.below hpl (zA HBU.out h)).cell 6 rfl
   have s2:∀ W',Bw U W'→W'.cell? ⟨sp,2,none⟩=some (.map (some mb)):=fun W' h=>(HSh.out.below (zA HBr.out h)).1.2.2
   have r0:∀ W',Bw U W'→W'.cell? ⟨wr.heap.size,0,none⟩=some (.int .i64 rz):=fun W' h=>(HRU.out.below h).1
   have r1:∀ W',Bw U W'→W'.cell? ⟨wr.heap.size,1,none⟩=some (.int .i64 rx):=fun W' h=>(HRU.out.below h).2.1
   have r2:∀ W',Bw U W'→W'.cell? ⟨wr.heap.size,2,none⟩=some (.int .i64 ry):=fun W' h=>(HRU.out.below h).2.2
   have lk:∀ W',Bw U W'→(Instr.lookup 171 (.map (some mb)) (.agg #[.int .i64 rz,.int .i64 rx,.int .i64 ry]) false).run Tryz.prog W'=.ok (agV zz xx yy fa fn fc ia im ic tt) W':=fun W' h=>HLk.out W' (zA HBr.out h)
   refine wp_region_noPanic ?_
   refine wp_region_held_drew (S:=fun W'=>Bw U W') (by kernel_rfl) (by have:=Below.refl U.heap.size U;exact Qb) (fun hHeld=>?_)
   have hX0a:Bw U U.drew:=hHeld
   refine zC (i:=0) (d:=some 19) rfl rfl ?_
   try simp only [Act.put,Qx,Qy,Qz]
   refine zC (i:=1) (d:=some 20) rfl rfl ?_
   try simp only [Act.put,Qx,Qy,Qz]
   refine zC (i:=2) (d:=some 21) rfl rfl ?_
   try simp only [Act.put,Qx,Qy,Qz]
   refine zC (i:=3) (d:=some 22) rfl rfl ?_
   try simp only [Act.put,Qx,Qy,Qz]
   refine zC (i:=4) (d:=some 23) rfl rfl ?_
   try simp only [Act.put,Qx,Qy,Qz]
   refine zC (i:=5) (d:=some 24) rfl rfl ?_
   try simp only [Act.put,Qx,Qy,Qz]
   refine zC (i:=6) (d:=some 25) rfl rfl ?_
   try simp only [Act.put,Qx,Qy,Qz]
   refine zC (i:=7) (d:=some 26) rfl rfl ?_
   try simp only [Act.put,Qx,Qy,Qz]
   refine zC (i:=8) (d:=some 27) rfl rfl ?_
   try simp only [Act.put,Qx,Qy,Qz]
   refine zC (i:=9) (d:=some 28) rfl rfl ?_
   try simp only [Act.put,Qx,Qy,Qz]
   refine zC (i:=10) (d:=some 29) rfl rfl ?_
   try simp only [Act.put,Qx,Qy,Qz]
   refine zC (i:=11) (d:=some 30) rfl rfl ?_
   try simp only [Act.put,Qx,Qy,Qz]
   refine zC (i:=12) (d:=some 31) rfl rfl ?_
   try simp only [Act.put,Qx,Qy,Qz]
   refine zC (i:=13) (d:=some 32) rfl rfl ?_
   try simp only [Act.put,Qx,Qy,Qz]
   generalize U.drew=wV at *
   refine wpAnyH_done (by kernel_rfl) ?_ _
   refine NoPanic.normal ?_
   have HO2:Hid (yG w1.heap.size wV u3 (xN A) (yN n R A k)):=(HO.out.below HBr.out).below hX0a
   have HB2:Hid (Bw w1 wV):=zA HB.out (zA HBr.out hX0a)
   clear c6 s2 r0 r1 r2 lk f1 f2 f3 hX0a hHeld HO HB HBw HBr HBU HRU HLk HSh hrl
   obtain ⟨L,hLL⟩:∃ L,yN n R A k=L:=⟨_,rfl⟩
   rw [hLL] at HO2 HFe HLen HOL
   clear hLL
   go_wp2_with fail
   go_loopw [3,32] (fun v i wr=>∃ q:Nat,q≤fn∧i=.int .i64 (q:Int)∧yG w1.heap.size wr v (xN A) (xR A j0 L q)∧Bw w1 wr) (fun _ i _=>fn - (intOf i).toNat)
   case atStart=>exact ⟨0,by omega,rfl,HO2.out,HB2.out⟩
   case round =>
    clear HO2 HB2
    obtain ⟨q,hq,rfl,hO,hB⟩:=hrel
    have HO:Hid (yG w1.heap.size wr u3 (xN A) (xR A j0 L q)):=hO
    have HB:Hid (Bw w1 wr):=hB
    have HBw:Hid (Bw w wr):=zA HB1.out hB
    clear hO hB
    by_cases hqf:q<fn
    ·obtain ⟨hj,hfa,hfn⟩:=HFs.out.resolve_left (by omega)
     have h12:=HFn.out
     obtain ⟨_,⟨fb,ef,hfl,hft⟩,_⟩:=(HA.out.below HBw.out).2 j0 hj
     have hfe:fa=some ⟨fb,0,none⟩:=hfa.trans ef
     subst hfe
     have HOk2:Hid (OkC n A (xR A j0 L q)):=HOL.out.add hj (by omega) q (by omega)
     have HLe2:Hid ((xR A j0 L q).length≤60):=by
      have:=zDl A j0 L q
      have:=HLen.out
      show _≤_
      omega
     have HHas:Hid (∀ W,Bw wr W→Calls Tryz.prog 161 #[u3,.int .i64 ((A j0).F q).id] W fun e w'=>e=.returned (.bool (zFm A (xR A j0 L q) ((A j0).F q).id))∧Bw W w'):=fun W h=>zQa _ W (HO.out.below h) (HA.out.below (zA HBw.out h)) HOk2.out (Nat.le_trans HLe2.out (by omega))
     have HY:Hid (zFm A (xR A j0 L q) ((A j0).F q).id=true→xR A j0 L (q+1)=xR A j0 L q):=fun h=>zMq h (by omega)
     have HN:Hid (zFm A (xR A j0 L q) ((A j0).F q).id=false→xR A j0 L (q+1)=xR A j0 L q ++ [j0 * 64+q]):=fun h=>zMp h (by omega)
     have HG:=(show Hid _ from zQk A j0 q (by omega))
     have hff:=(hft q (by omega)).1
     rw [Nat.zero_add] at hff
     have HFt:Hid (yJ wr fb (q * 7) ((A j0).F q).id ((A j0).F q).la ((A j0).F q).ki ((A j0).F q).wi (.slice ((A j0).F q).a ((A j0).F q).n ((A j0).F q).cap) ((A j0).F q).lab ((A j0).F q).pr):=hff
     have HQ:Hid (q<fn):=hqf
     obtain ⟨f,hf⟩:∃ f,(A j0).F q=f:=⟨_,rfl⟩
     rw [hf] at HHas HY HN HG hff
     obtain ⟨l2,hl2⟩:∃ l2,xR A j0 L q=l2:=⟨_,rfl⟩
     rw [hl2] at HO HHas HY HN HLe2 HOk2
     obtain ⟨f0,f1,f2,f3,f4,f5,f6⟩:=hff
     have hiq:(q:Int)<(fn:Int):=by omega
     have hq0:(0:Int)≤(q:Int):=by omega
     clear hft hfa ef hfn hqf HFt HOk2 hl2 hf hj
     go_wp2_with fail
     generalize hV:(wr.alloc _:World)=V
     have HBV:Hid (Bw wr V):=by show Below _ _ _;subst hV;exact Qb
     have HFV:Hid (Blk V wr.heap.size (yO f)):=by show Blk _ _ _;subst hV;exact Blk.new _ _ _
     clear hV f0 f1 f2 f3 f4 f5 f6
     refine Calls.mono (HHas.out _ HBV.out) ?_
     rintro e wx ⟨rfl,hbx⟩
     have HBx:Hid (Bw wr wx):=zA HBV.out hbx
     have hfx:=HFV.out.below HFV.out.lt hbx
     obtain ⟨g0,g1,g2,g3,g4,g5,g6⟩:=Blk.c7 hfx
     have HOx:Hid (yG w1.heap.size wx u3 (xN A) l2):=HO.out.below HBx.out
     have HBX:Hid (Bw w1 wx):=zA HB.out HBx.out
     have hWx:=HBX.out.size
     clear hbx hfx HFV HBV HHas HO HB HBw
     cases hok:zFm A l2 f.id
     case true =>
      have HS1:=(show Hid _ from HY.out hok)
      clear hok g0 g1 g2 g3 g4 g5 g6 HY HN
      go_wp2_with fail
      go_roundw
      case rel=>exact ⟨q+1,by have:=HQ.out;omega,by have:=HQ.out;have:=HFn.out;go_num,by rw [HS1.out];exact HOx.out,HBX.out⟩
      case measure=>have:=HQ.out;have:=HFn.out;simp [intOf];omega
     case false =>
      have HS1:=(show Hid _ from HN.out hok)
      clear hok HY HN
      obtain ⟨m2,hm⟩:∃ m2,l2.length=m2:=⟨_,rfl⟩
      have hOx:=HOx.out
      have hok1:=HLe2.out
      unfold yG at hOx
      rw [hm] at hOx hok1
      obtain ⟨ua,uc,hu5⟩:∃ ua uc,u3=.slice ua m2 uc:=by
       obtain ⟨_,⟨h1,h2⟩ | ⟨g',cp,cur,hv,_⟩⟩:=id hOx
       ·exact ⟨none,0,by rw [h1,h2]⟩
       ·exact ⟨_,cp,hv⟩
      subst hu5
      have HOw:Hid (wx.ownsRow w1.heap.size 209 7 (.slice ua m2 uc) m2 (zR (xN A) l2)):=hOx
      clear hOx HOx
      go_wp2_with (first
       | (at_builtin;go_must (refine wpList_append_own _ rfl _ _ 137 rfl w1.heap.size 209 i0 (.agg #[.int .i64 0,.int .i64 0,.int .i64 0,.int .i64 0,.slice none 0 0,.string ⟨#[]⟩,.int .i64 0]) 7 80 Tryz.underlying137 hi hz0 hz1 hz2 rfl (by decide) (.slice ua m2 uc) m2 (zR (xN A) l2) rfl ?c6 ⟨wx.heap.size,0,none⟩ 1 1 (yO f) rfl ?c0 ?c1 ?c2 ?c3 ?c4 ?c5 ?_)))
      case c6=>exact zF3 HOw.out (by exact Qb)
      case c0=>rfl
      case c1 =>
       intro q u hq
       have hq7:q<7:=(List.getElem?_eq_some_iff.1 hq).1
       have hc:q=0∨q=1∨q=2∨q=3∨q=4∨q=5∨q=6:=by omega
       rcases hc with rfl | rfl | rfl | rfl | rfl | rfl | rfl <;> (simp [yO] at hq;subst hq;simp [Addr.add,go_sem])
      case c2=>exact uU _
      case c3=>unfold maxLen;omega
      case c4=>omega
      case c5=>first | omega | (simp;omega)
      intro v' w4 hown' hgrow hnil
      have HO4:Hid (yG w1.heap.size w4 v' (xN A) (xR A j0 L (q+1))):=by
       show yG _ _ _ _ _
       unfold yG
       rw [HS1.out,xW,zBc,List.length_append,hm,HG.out]
       exact hown'
      have HB4:Hid (Bw w1 w4):=(zA HBX.out (by exact Qb)).grown hgrow (by simp;omega) (fun q hq=>(World.ownsRow.lt (zF3 HOw.out (by exact Qb)) q hq).1)
      clear hown' hgrow hnil g0 g1 g2 g3 g4 g5 g6
      go_wp2_with fail
      go_roundw
      case rel=>exact ⟨q+1,by have:=HQ.out;omega,by have:=HQ.out;have:=HFn.out;go_num,HO4.out,HB4.out⟩
      case measure=>have:=HQ.out;have:=HFn.out;simp [intOf];omega
    ·obtain rfl:fn=q:=by omega
     have HO3:Hid (yG w1.heap.size wr u3 (xN A) (yN n R A (k+1))):=by show yG _ _ _ _ _;rw [HFe.out];exact HO.out
     clear hqf HO
     go_wp2_with fail
     go_roundw
     case rel=>exact ⟨k+1,by have:=HLT.out;omega,by go_num,HO3.out,HB.out⟩
     case measure=>have:=HLT.out;simp [intOf];omega
  ·obtain rfl:m=k:=by omega
   go_wp2
   go_ret
   exact ⟨_,rfl,zPd HO.out HB1.out.size,zA HB1.out HB.out⟩
end Go.Proofs.YtpaiholildedcaaGreat
