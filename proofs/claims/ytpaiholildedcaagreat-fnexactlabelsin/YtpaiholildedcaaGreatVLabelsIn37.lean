/- Texts. -/
import Derived.Test.YtpaiholildedcaaGreatVLabelsIn36
set_option linter.unusedSimpArgs false
set_option linter.unusedVariables false
set_option maxRecDepth 100000
set_option maxHeartbeats 32000000
namespace Go.Proofs.YtpaiholildedcaaGreat
open Go.RowKit
def zFn (n:Nat)(R:Rfs)(A:Nat→Kp)(m:Nat)(j:Nat):zS:=xN A ((yN n R A m).getD j 0)
def zOj (n:Nat)(A:Nat→Kp)(z x y wd ht:Int):List Plc:=uN x y wd ht (lbB z (zFn n (xQ z x y wd) A (yV z x y wd ht))) (zY (yN n (xQ z x y wd) A (yV z x y wd ht)).length (zFn n (xQ z x y wd) A (yV z x y wd ht)))
theorem zAl.form {base:Nat}{w:World}{v:Value}{L:List Plc}(h:zAl base w v L):∃ a c,v=.slice a L.length c:=by
 obtain ⟨a,c,h,_⟩:=h.own
 exact ⟨a,c,h⟩
theorem zPv {w W:World}{B p:Nat}{z x y wd ht now s:Int}{n:Nat}{A:Nat→Kp}{ra:Option Addr}{rn rc:Nat}{bad:Int}(h:LkA w B p z x y wd ht now s n A ra rn rc bad)(hb:Below w.heap.size w W):LkA W B p z x y wd ht now s n A ra rn rc bad:=by
 obtain ⟨hB,sp,hV,hK,hne⟩:=h
 exact ⟨hB,sp,hV.below hV.lt hb,hK.below hb,hne⟩
theorem zN4 {n m:Nat}{R:Rfs}{A:Nat→Kp}(h:OkC n A (yN n R A m)):zE2 (fun i=>(zFn n R A m i).id) (yN n R A m).length:=by
 intro i j hi hj e
 have hp:=List.pairwise_iff_getElem.1 h.2
 have gi:(yN n R A m).getD i 0=(yN n R A m)[i]:=by rw [List.getD_eq_getElem?_getD,List.getElem?_eq_getElem hi];rfl
 have gj:(yN n R A m).getD j 0=(yN n R A m)[j]:=by rw [List.getD_eq_getElem?_getD,List.getElem?_eq_getElem hj];rfl
 have e':(xN A (yN n R A m)[i]).id=(xN A (yN n R A m)[j]).id:=by
  have e2:(zFn n R A m i).id=(zFn n R A m j).id:=e
  unfold zFn at e2
  rw [gi,gj] at e2
  exact e2
 rcases Nat.lt_trichotomy i j with h | h | h
 ·exact absurd e' (hp i j hi hj h)
 ·exact h
 ·exact absurd e'.symm (hp j i hj hi h)
theorem zQj {n m:Nat}{R:Rfs}{A:Nat→Kp}(h:OkC n A (yN n R A m))(hs:zL n A)(h0:∀ j,j<n→kC A j=0):∀ i,i<(yN n R A m).length→0<(zFn n R A m i).n∧inW ((zFn n R A m i).X 0) ((zFn n R A m i).Y 0)=true∧(zFn n R A m i).lab.size≤1048576:=by
 intro i hi
 have hm:(yN n R A m).getD i 0 ∈ yN n R A m:=by
  rw [List.getD_eq_getElem?_getD,List.getElem?_eq_getElem hi]
  exact List.getElem_mem hi
 obtain ⟨c1,c2⟩:=h.1 _ hm
 have hz:=(zGz (zKn (zBm (h0 _ c1)).1)).2.1
 have ho:=(zEp hz).2 _ c2
 exact ⟨ho.n0,ho.inw 0 ho.n0,((hs.2 _ c1).1.2 _ c2).2⟩
theorem zNp (B p b:Nat)(z x y wd ht now s:Int)(n:Nat)(A:Nat→Kp)(ra:Option Addr)(rn rc:Nat)(bad:Int)(w:World)(hL:LkA w B p z x y wd ht now s n A ra rn rc bad)(hc:zBy z x y wd ht=true)(h0:∀ j,j<n→kC A j=0)(ha:zB0 w b n A)(hs:zL n A) :
  Calls Tryz.prog 57 #[.pointer (some ⟨p,0,none⟩)] w fun e w'=>∃ v,e=.returned v∧zAl w.heap.size w' v (zOj n A z x y wd ht)∧Bw w w':=by
 have hok:=zAy n (xQ z x y wd) A h0 (yV z x y wd ht)
 have hm4:yV z x y wd ht≤4:=zBg _ _ _ _ _
 have HFe:Hid (∀ W,Bw w W→Calls Tryz.prog 105 #[.pointer (some ⟨p,0,none⟩)] W fun e w'=>∃ v,e=.returned v∧yG W.heap.size w' v (xN A) (yN n (xQ z x y wd) A (yV z x y wd ht))∧Bw W w'):=fun W h=>zJg B p b z x y wd ht now s n A ra rn rc bad W (zPv hL h) hc h0 (ha.below h)
 obtain ⟨LB,hLB⟩:∃ LB,zOj n A z x y wd ht=LB:=⟨_,rfl⟩
 have HPl0:Hid (∀ (W:World) (v:Value) {base:Nat},yG base W v (xN A) (yN n (xQ z x y wd) A (yV z x y wd ht))→Bw w W→Calls Tryz.prog 104 #[zFq z x y wd ht,v] W fun e w'=>∃ v,e=.returned v∧zAl W.heap.size w' v LB∧Bw W w'):=fun W v base hF hW=>by
  rw [← hLB]
  rcases hF.fs (ha.below hW) hok.1 with ⟨rfl,he⟩ | ⟨g,cap,rfl,h1,h2,h3,h4⟩
  ·have:=zC2 none 0 0 (zFn n (xQ z x y wd) A (yV z x y wd ht)) z x y wd ht W (.inl rfl) (by omega) (fun i j hi=>absurd hi (Nat.not_lt_zero i)) (vT hc) hc (fun i hi=>absurd hi (Nat.not_lt_zero i))
   unfold zOj
   rw [he]
   exact this
  ·exact zC2 (some ⟨g,0,none⟩) _ cap (zFn n (xQ z x y wd) A (yV z x y wd ht)) z x y wd ht W (.inr ⟨g,rfl,h2,h4⟩) (by omega) (zN4 hok.1) (vT hc) hc (zQj hok.1 hs h0)
 rw [hLB]
 obtain ⟨hB,sp,hV,hK,hne⟩:=hL
 have hpl:p<w.heap.size:=hV.lt
 have HV:Hid (Blk w p [.int .i64 z,.int .i64 x,.int .i64 y,.int .i64 wd,.int .i64 ht,.int .i64 now,.pointer (some ⟨sp,0,none⟩),.slice ra rn rc,.int .i64 bad,.slice none 0 0]):=hV
 obtain ⟨c0,c1,c2,c3,c4⟩:=Blk.g5 (b:=w.heap.size) (v:=w) fun W' h=>(HV.out.below hpl h)
 clear hV hK hB hne hLB hok hc h0 ha hs
 go_enter Tryz.func57,Tryz.ntmps57
 go_wp2_with fail
 refine wp_region_noPanic ?_
 refine wp_region_held_drew (S:=fun W'=>Bw w W') (by kernel_rfl) (by have:=Below.refl w.heap.size w;exact Qb) (fun hHeld=>?_)
 have hX0a:Bw w w.drew:=hHeld
 refine zC (i:=0) (d:=some 3) rfl rfl ?_
 try simp only [Act.put,Qx,Qy,Qz]
 refine zC (i:=1) (d:=some 4) rfl rfl ?_
 try simp only [Act.put,Qx,Qy,Qz]
 refine zC (i:=2) (d:=some 5) rfl rfl ?_
 try simp only [Act.put,Qx,Qy,Qz]
 refine zC (i:=3) (d:=some 6) rfl rfl ?_
 try simp only [Act.put,Qx,Qy,Qz]
 refine zC (i:=4) (d:=some 7) rfl rfl ?_
 try simp only [Act.put,Qx,Qy,Qz]
 generalize w.drew=wk0a at *
 refine zN 5 fun K hK=>?_
 rw [if_pos (by rfl)]
 go_simp
 refine Calls.mono (HFe.out _ hX0a) ?_
 rintro e wk1a ⟨v,rfl,hF,hb1a⟩
 have hX1a:Bw w wk1a:=zA hX0a hb1a
 have HPl:=(show Hid _ from HPl0.out wk1a v hF hX1a)
 go_wp2_with fail
 refine hK.out _ _ (by assumption) (fun hHeld=>?_)
 clear hK K
 try simp only [Act.put,Qx,Qy,Qz]
 refine zN 6 fun K hK=>?_
 rw [if_pos (by rfl)]
 go_simp
 refine Calls.mono (HPl.out) ?_
 rintro e wk2a ⟨v2,rfl,hP,hb2a⟩
 have hX2a:Bw w wk2a:=zA hX1a hb2a
 have HP2:Hid (zAl wk1a.heap.size wk2a v2 LB):=hP
 obtain ⟨pa,pc,hpv⟩:=hP.form
 subst hpv
 go_wp2_with fail
 refine hK.out _ _ (by assumption) (fun hHeld=>?_)
 clear hK K
 try simp only [Act.put,Qx,Qy,Qz]
 refine zC (i:=7) (d:=some 2) rfl rfl ?_
 try simp only [Act.put,Qx,Qy,Qz]
 refine wpAnyH_done (by kernel_rfl) ?_ _
 refine NoPanic.normal ?_
 have HBF:Hid (Bw w wk2a):=hX2a
 have HPF:Hid (zAl w.heap.size wk2a (.slice pa LB.length pc) LB):=HP2.out.wide hX1a.size
 clear hX0a hX1a hX2a hb1a hb2a HP2 hP hF HPl c0 c1 c2 c3 c4
 go_wp2_with fail
 go_ret
 exact ⟨_,rfl,HPF.out,HBF.out⟩
theorem zHc (q:Nat)(z x y wd ht now s:Int)(b n cap:Nat)(A:Nat→Kp)(ra:Option Addr)(rn rc:Nat)(bad:Int)(w:World)(hV:Blk w q [.int .i64 z,.int .i64 x,.int .i64 y,.int .i64 wd,.int .i64 ht,.int .i64 now,.int .i64 s,.slice (some ⟨b,0,none⟩) n cap,.slice ra rn rc,.int .i64 bad])(ha:zB0 w b n A)(hs:zL n A)(h0:∀ j,j<n→kC A j=0)(hc:zBy z x y wd ht=true) :
  Calls Tryz.prog 56 #[.pointer (some ⟨q,0,none⟩)] w fun e w'=>∃ v,e=.returned v∧zAl w.heap.size w' v (zOj n A z x y wd ht)∧Bw w w':=by
 have hok:=zAy n (xQ z x y wd) A h0 (yV z x y wd ht)
 have hm4:yV z x y wd ht≤4:=zBg _ _ _ _ _
 have hql:q<w.heap.size:=hV.lt
 have HFe:Hid (∀ W,Bw w W→Calls Tryz.prog 103 #[.pointer (some ⟨q,0,none⟩)] W fun e w'=>∃ g c,e=.returned (.slice (some ⟨g,0,none⟩) (yN n (xQ z x y wd) A (yV z x y wd ht)).length c)∧yG W.heap.size w' (.slice (some ⟨g,0,none⟩) (yN n (xQ z x y wd) A (yV z x y wd ht)).length c) (xN A) (yN n (xQ z x y wd) A (yV z x y wd ht))∧Bw W w'):=fun W h=>zEa q z x y wd ht now s b n cap A ra rn rc bad W (hV.below hql h) (ha.below h) hs h0 hc
 obtain ⟨LB,hLB⟩:∃ LB,zOj n A z x y wd ht=LB:=⟨_,rfl⟩
 have HPl0:Hid (∀ (W:World) (g c:Nat) {base:Nat},yG base W (.slice (some ⟨g,0,none⟩) (yN n (xQ z x y wd) A (yV z x y wd ht)).length c) (xN A) (yN n (xQ z x y wd) A (yV z x y wd ht))→Bw w W→Calls Tryz.prog 102 #[.slice (some ⟨g,0,none⟩) (yN n (xQ z x y wd) A (yV z x y wd ht)).length c,.pointer (some ⟨q,0,none⟩)] W fun e w'=>∃ v,e=.returned v∧zAl W.heap.size w' v LB∧Bw W w'):=fun W g c base hF hW=>by
  rw [← hLB]
  rcases hF.fs (ha.below hW) hok.1 with ⟨e,_⟩ | ⟨g',cap',e,h1,h2,h3,h4⟩
  ·cases e
  ·injection e with e1 e2 e3
   injection e1 with e1
   injection e1 with e1
   subst e1
   have hb:=hV.below hql hW
   exact zI7 g _ c q (zFn n (xQ z x y wd) A (yV z x y wd ht)) z x y wd ht W h4 h2 (by omega) ⟨hb.cell 0 rfl,hb.cell 1 rfl,hb.cell 2 rfl,hb.cell 3 rfl,hb.cell 4 rfl⟩ (vT hc) hc (zQj hok.1 hs h0)
 rw [hLB]
 clear hLB hok hc h0 ha hs hV
 generalize (yN n (xQ z x y wd) A (yV z x y wd ht))=FL at *
 go_enter Tryz.func56,Tryz.ntmps56
 go_wp2_with fail
 refine wp_region_noPanic ?_
 refine wp_region_held_drew (S:=fun W'=>Bw w W') (by kernel_rfl) (by have:=Below.refl w.heap.size w;exact Qb) (fun hHeld=>?_)
 have hX0a:Bw w w.drew:=hHeld
 refine zC (i:=0) (d:=some 3) rfl rfl ?_
 try simp only [Act.put,Qx,Qy,Qz]
 refine zC (i:=2) (d:=some 5) rfl rfl ?_
 try simp only [Act.put,Qx,Qy,Qz]
 refine zC (i:=3) (d:=some 6) rfl rfl ?_
 try simp only [Act.put,Qx,Qy,Qz]
 refine zC (i:=4) (d:=some 7) rfl rfl ?_
 try simp only [Act.put,Qx,Qy,Qz]
 generalize w.drew=wk0a at *
 refine zN 1 fun K hK=>?_
 rw [if_pos (by rfl)]
 go_simp
 refine Calls.mono (HFe.out _ hX0a) ?_
 rintro e wk1a ⟨g,c,rfl,hF,hb1a⟩
 have hX1a:Bw w wk1a:=zA hX0a hb1a
 have HPl:=(show Hid _ from HPl0.out wk1a g c hF hX1a)
 go_wp2_with fail
 refine hK.out _ _ (by assumption) (fun hHeld=>?_)
 clear hK K
 try simp only [Act.put,Qx,Qy,Qz]
 refine zN 5 fun K hK=>?_
 rw [if_pos (by rfl)]
 go_simp
 refine Calls.mono (HPl.out) ?_
 rintro e wk2a ⟨v2,rfl,hP,hb2a⟩
 have hX2a:Bw w wk2a:=zA hX1a hb2a
 have HP2:Hid (zAl wk1a.heap.size wk2a v2 LB):=hP
 obtain ⟨pa,pc,hpv⟩:=hP.form
 subst hpv
 go_wp2_with fail
 refine hK.out _ _ (by assumption) (fun hHeld=>?_)
 clear hK K
 try simp only [Act.put,Qx,Qy,Qz]
 refine zC (i:=6) (d:=some 2) rfl rfl ?_
 try simp only [Act.put,Qx,Qy,Qz]
 refine wpAnyH_done (by kernel_rfl) ?_ _
 refine NoPanic.normal ?_
 have HBF:Hid (Bw w wk2a):=hX2a
 have HPF:Hid (zAl w.heap.size wk2a (.slice pa LB.length pc) LB):=HP2.out.wide hX1a.size
 clear hX0a hX1a hX2a hb1a hb2a HP2 hP hF HPl
 go_wp2_with fail
 go_ret
 exact ⟨_,rfl,HPF.out,HBF.out⟩
end Go.Proofs.YtpaiholildedcaaGreat
