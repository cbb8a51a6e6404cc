/- Texts. -/
import Derived.Test.YtpaiholildedcaaGreatVFrameOf14
set_option linter.unusedSimpArgs false
set_option linter.unusedVariables false
set_option maxRecDepth 100000
set_option maxHeartbeats 32000000
namespace Go.Proofs.YtpaiholildedcaaGreat
open Go.RowKit
def zZ (wi z:Int):Int:=(wi+1) * yI z
theorem zOz {wi z:Int}(hw:0≤wi∧wi≤3)(hz:yM z=true):16≤zZ wi z∧zZ wi z≤512:=by
 unfold zZ
 rcases zK hz with rfl | rfl | rfl | rfl
 all_goals
  simp only [show yI 0=128 from rfl,show yI 1=64 from rfl,show yI 2=32 from rfl,show yI 3=16 from rfl]
  omega
theorem zJt {z:Int}(hz:yM z=true):yI z=128∨yI z=64∨yI z=32∨yI z=16:=by rcases zK hz with rfl | rfl | rfl | rfl <;> simp [yI]
theorem zIq (id la ki wi z:Int)(v:Value)(lab:ByteArray)(pr:Int)(w:World)(hw:0≤wi∧wi≤3)(hz:yM z=true)(hv:∃ a n c,v=.slice a n c) :
  Calls Tryz.prog 245 #[.agg #[.int .i64 id,.int .i64 la,.int .i64 ki,.int .i64 wi,v,.string lab,.int .i64 pr],.int .i64 z] w fun e w'=>e=.returned (.int .i64 (zZ wi z))∧Bw w w':=by
 obtain ⟨a,n,c,rfl⟩:=hv
 have s1:=fun w=>uY z w
 have hv:zKo z=.agg #[.int .i64 0,.int .i64 (yI z)]:=by simp [zKo,hz]
 simp only [hv] at s1
 have hbd:=zJt hz
 have hr:Hid (zZ wi z=(wi+1) * yI z):=rfl
 generalize yI z=u at *
 have i1:∀ w,(Instr.field 63 (.agg #[.int .i64 0,.int .i64 u]) 1).run Tryz.prog w=.ok (.int .i64 u) w:=fun _=>by kernel_rfl
 have hS:=(show Hid _ from s1)
 clear s1 hv
 obtain ⟨hw0,hw1⟩:=hw
 go_enter Tryz.func245,Tryz.ntmps245
 go_wp2_with fail
 generalize hW:(w.alloc _:World)=W
 have hB0:Bw w W:=by subst hW;exact Qb
 have c3:∀ W',Bw W W'→W'.cell? ⟨w.heap.size,3,none⟩=some (.int .i64 wi):=Qc hW
 clear hW
 have hr0:Bw W W:=Below.refl _ _
 rcases hbd with rfl | rfl | rfl | rfl
 all_goals
  go_region_held3 (fun W'=>Bw W W') ((repeat (first|exact Qr _ _|assumption|refine Qd ?_|refine Qa ?_ _|refine Qt ?_|refine Qs ?_ _|refine Qo ?_ ?_ _ _)))
   (first | (go_at_call 197;refine (hS.out _).mono ?_;rintro e w' ⟨rfl,hb⟩))
  go_wp2
  go_ret
  exact ⟨zD (by rw [IntWalk.i64_in (wi+1) (by omega),IntWalk.i64_in _ (by omega)];exact hr.out.symm),zA hB0 (by assumption)⟩
def vL (ki wi z cx cy:Int)(D:List (Int × Int)):Bool:=if ki=3 then yE cx cy D.length (px D) (py D) else byB cx cy (zZ wi z) (px D) (py D) D.length
theorem zDp (w:World):Calls Tryz.prog 243 #[.int .i64 3] w fun e w'=>e=.returned (.func (.func 272) #[] #[])∧w=w':=by
 go_enter Tryz.func243,Tryz.ntmps243
 go_wp2
 go_ret
 exact ⟨rfl,rfl⟩
theorem zDo (ki:Int)(w:World)(h:ki≠3):Calls Tryz.prog 243 #[.int .i64 ki] w fun e w'=>e=.returned (.func (.func 273) #[] #[])∧w=w':=by
 have hk:(ki == 3)=false:=by simpa using h
 go_enter Tryz.func243,Tryz.ntmps243
 go_wp2
 go_ret
 exact ⟨rfl,rfl⟩
theorem dbl_ok (X Y:Nat→Int)(n:Nat)(hin:∀ i,i<n→inW (X i) (Y i)=true):∀ i,i<n→okP (px (xA X Y n) i) (py (xA X Y n) i)=true:=fun i hi=>by
 obtain ⟨e1,e2⟩:=dblL_px X Y n i hi
 have:=zNt (hin i hi)
 rw [e1,e2,zFl]
 omega
theorem zDc {px py ax ay bx by' r:Int}(hp:okP px py=true)(ha:okP ax ay=true)(hb:okP bx by'=true)(h0:0≤r)(h1:r≤4096):zP px py ax ay bx by' r=zA8 px py ax ay bx by' r:=by
 simp [zP,hp,ha,hb,inB,h0,h1]
theorem zG6 (b off n cap:Nat)(X Y:Nat→Int)(w:World)(hp:zI w b off n X Y)(hbl:b<w.heap.size)(hn0:0<n)(hn:n≤40)(hin:∀ i,i<n→inW (X i) (Y i)=true) :
  Calls Tryz.prog 256 #[.slice (some ⟨b,off,none⟩) n cap] w fun e w'=>∃ g cg,e=.returned (.slice (some ⟨g,0,none⟩) n cg)∧g<w'.heap.size∧n≤cg∧zI w' g 0 n (px (xA X Y n)) (py (xA X Y n))∧Bw w w' :=
 (zFs b off n cap X Y w hp hbl hn hin).mono fun e w' ⟨v,he,hR,hb⟩=>by
  obtain ⟨g,cg,hv,h1,h2,h3,h4⟩:=hR.at (by rw [vK];exact hn0)
  rw [vK] at hv h3 h4
  exact ⟨g,cg,by rw [he,hv],h2,h3,h4,hb⟩
theorem zC8 (q o:Nat)(wi z:Int)(w:World)(hf:w.cell? ⟨q,o+3,none⟩=some (.int .i64 wi))(hw:0≤wi∧wi≤3)(hz:yM z=true) :
  Calls Tryz.prog 258 #[.pointer (some ⟨q,o,none⟩),.int .i64 z] w fun e w'=>e=.returned (.int .i64 (zZ wi z))∧Bw w w':=by
 have s1:=fun w=>zEv z w hz
 have hbd:=zJt hz
 have hr:Hid (zZ wi z=(wi+1) * yI z):=rfl
 generalize yI z=u at *
 obtain ⟨hw0,hw1⟩:=hw
 have hS:=(show Hid _ from s1)
 clear s1
 have c3:∀ W',Bw w W'→W'.cell? ⟨q,o+3,none⟩=some (.int .i64 wi):=fun W' h=>zY h hf
 have hr0:Bw w w:=Below.refl _ _
 clear hf
 rcases hbd with rfl | rfl | rfl | rfl
 all_goals
  go_enter Tryz.func258,Tryz.ntmps258
  go_wp2_with fail
  go_region_held3 (fun W'=>Bw w W') ((repeat (first|exact Qr _ _|assumption|refine Qd ?_|refine Qa ?_ _|refine Qt ?_|refine Qs ?_ _|refine Qo ?_ ?_ _ _)))
   (first | (go_at_call 226;refine (hS.out _).mono ?_;rintro e w1 ⟨rfl,rfl⟩))
  go_wp2
  go_ret
  exact ⟨zD (by rw [IntWalk.i64_in (wi+1) (by omega),IntWalk.i64_in _ (by omega)];exact hr.out.symm),by assumption⟩
theorem zG5 (q o:Nat)(id la ki wi z x y:Int)(b off n cap:Nat)(X Y:Nat→Int)(lab:ByteArray)(pr:Int)(w:World)(hf:uC w q o id la ki wi (.slice (some ⟨b,off,none⟩) n cap) lab pr)(hp:zI w b off n X Y)(hbl:b<w.heap.size)(hn:n≤40)(hkn:kindN ki n)(hin:∀ i,i<n→inW (X i) (Y i)=true)(hw:0≤wi∧wi≤3)(hpx:xZ z x y=true) :
  Calls Tryz.prog 222 #[.pointer (some ⟨q,o,none⟩),.int .i64 z,.int .i64 x,.int .i64 y] w fun e w'=>e=.returned (.bool (vL ki wi z (zV z x) (zV z y) (xA X Y n)))∧Bw w w':=by
 have hz:=yC hpx
 have hcok:=cent_ok hpx
 have HCK:Hid (okP (zV z x) (zV z y)=true):=hcok
 have hrb:=zOz hw hz
 have hn0:0<n:=by rcases hkn with ⟨_,h⟩ | ⟨_,h⟩ | ⟨_,h⟩ <;> omega
 have HF:Hid (uC w q o id la ki wi (.slice (some ⟨b,off,none⟩) n cap) lab pr):=hf
 have hql:q<w.heap.size:=World.block_lt_of_cell? _ _ hf.1
 have HP:Hid (zI w b off n X Y):=hp
 have HIN:Hid (∀ i,i<n→inW (X i) (Y i)=true):=hin
 have HOK:Hid (∀ i,i<n→okP (px (xA X Y n) i) (py (xA X Y n) i)=true):=dbl_ok X Y n hin
 have HW:Hid (0≤wi∧wi≤3):=hw
 have HPX:Hid (xZ z x y=true):=hpx
 have hdl:=vK X Y n
 have Hce:=(show Hid _ from fun w=>zG7 z x y w hpx)
 generalize zV z x=cx at *
 generalize zV z y=cy at *
 generalize hD:xA X Y n=D at *
 have HD:Hid (xA X Y n=D):=hD
 clear hp hin hw hpx hf hcok hD
 go_enter Tryz.func222,Tryz.ntmps222
 go_wp2_with fail
 refine (Hce.out _).mono ?_
 rintro e w1 ⟨rfl,hb1⟩
 obtain ⟨q0,q1,q2,q3,q4,q5,q6⟩:=HF.out.below hb1 hql
 have hql1:q<w1.heap.size:=Nat.lt_of_lt_of_le hql hb1.size
 go_wp2_with fail
 generalize hW:(w1.alloc _:World)=W
 have hbW1:Bw w1 W:=by subst hW;exact Qb
 have d0:∀ W',Bw W W'→W'.cell? ⟨w1.heap.size,0,none⟩=some (.int .i64 cx):=Qc hW
 have d1:∀ W',Bw W W'→W'.cell? ⟨w1.heap.size,1,none⟩=some (.int .i64 cy):=Qc hW
 have hszW:w1.heap.size<W.heap.size:=by subst hW;simp
 clear hW
 have hBW:Bw w W:=zA hb1 hbW1
 have HBW:Hid (Bw w W):=hBW
 have HFW:Hid (uC W q o id la ki wi (.slice (some ⟨b,off,none⟩) n cap) lab pr):=HF.out.below hBW hql
 have hqlW:q<W.heap.size:=Nat.lt_of_lt_of_le hql hBW.size
 clear q0 q1 q2 q3 q4 q5 q6 hb1 hbW1
 refine (zG6 b off n cap X Y W (HP.out.below hBW hbl) (Nat.lt_of_lt_of_le hbl hBW.size) hn0 hn HIN.out).mono ?_
 rw [HD.out]
 rintro e w2 ⟨g,cg,rfl,hgl,hcg,hPg,hb2⟩
 have HPg:Hid (zI w2 g 0 n (px D) (py D)):=hPg
 obtain ⟨q0,q1,q2,q3,q4,q5,q6⟩:=HFW.out.below hb2 hqlW
 have hB2:Bw W w2:=hb2
 have hql2:q<w2.heap.size:=Nat.lt_of_lt_of_le hqlW hb2.size
 have k0:=d0 w2 hb2
 have k1:=d1 w2 hb2
 have hsz2:=hb2.size
 clear hb2 hBW hPg
 rcases hkn with ⟨rfl,rfl⟩ | ⟨rfl,h2⟩ | ⟨rfl,h3⟩
 ·have HK:Hid (vL 1 wi z cx cy D=zA8 cx cy (px D 0) (py D 0) (px D 0) (py D 0) (zZ wi z)):=by
   show _=_
   simp only [vL,hdl]
   rw [if_neg (by decide)]
   simp only [byB,Bool.false_or]
   exact zDc HCK.out (HOK.out 0 (by omega)) (HOK.out 0 (by omega)) (by omega) (by omega)
  go_wp2_with fail
  refine (zC8 q o wi z _ q3 HW.out hz).mono ?_
  rintro e w3 ⟨rfl,hb3⟩
  have hB3:Bw W w3:=zA hB2 hb3
  have hg3:g<w3.heap.size:=Nat.lt_of_lt_of_le hgl hb3.size
  have e0:∀ W',Bw w3 W'→W'.cell? ⟨g,0,none⟩=some (.int .i64 (px D 0)):=fun W' h=>by simpa using ((HPg.out.below hb3 hgl).below h hg3 0 (by omega)).1
  have e1:∀ W',Bw w3 W'→W'.cell? ⟨g,1,none⟩=some (.int .i64 (py D 0)):=fun W' h=>by simpa using ((HPg.out.below hb3 hgl).below h hg3 0 (by omega)).2
  have m0:∀ W',Bw w3 W'→W'.cell? ⟨w1.heap.size,0,none⟩=some (.int .i64 cx):=fun W' h=>d0 W' (zA hB3 h)
  have m1:∀ W',Bw w3 W'→W'.cell? ⟨w1.heap.size,1,none⟩=some (.int .i64 cy):=fun W' h=>d1 W' (zA hB3 h)
  have hr3:Bw w3 w3:=Below.refl _ _
  obtain ⟨p0,p1,p2,p3,p4,p5,p6⟩:=HFW.out.below hB3 hqlW
  clear q0 q1 q2 q3 q4 q5 q6 k0 k1 d0 d1
  generalize zZ wi z=r at *
  go_wp2_with fail
  go_region_held3 (fun W'=>Bw w3 W') ((repeat (first|exact Qr _ _|assumption|refine Qd ?_|refine Qa ?_ _|refine Qt ?_|refine Qs ?_ _|refine Qo ?_ ?_ _ _)))
   (first | (go_at_call 259;refine (zEx cx cy _ _ _ _ r _ HCK.out (HOK.out 0 (by omega)) (HOK.out 0 (by omega)) (by omega) (by omega)).mono ?_;rintro e w4 ⟨rfl,hb4⟩))
  go_wp2_with fail
  go_ret
  exact ⟨zF HK.out.symm,zA HBW.out (zA hB3 (by assumption))⟩
 ·have HK:Hid (vL 2 wi z cx cy D=zEn cx cy (zZ wi z) (px D) (py D) (n - 1)):=by
   show _=_
   simp only [vL,hdl]
   rw [if_neg (by decide)]
   exact zP4 _ _ _ _ _ _ h2 (HOK.out 1 (by omega))
  go_wp2_with fail
  refine (zC8 q o wi z _ q3 HW.out hz).mono ?_
  rintro e w3 ⟨rfl,hb3⟩
  have hB3:Bw W w3:=zA hB2 hb3
  have HP3:Hid (zI w3 g 0 n (px D) (py D)):=HPg.out.below hb3 hgl
  have hg3:g<w3.heap.size:=Nat.lt_of_lt_of_le hgl hb3.size
  have HB3:Hid (Bw w w3):=zA HBW.out hB3
  obtain ⟨p0,p1,p2,p3,p4,p5,p6⟩:=HFW.out.below hB3 hqlW
  have m0:∀ W',Bw w3 W'→W'.cell? ⟨w1.heap.size,0,none⟩=some (.int .i64 cx):=fun W' h=>d0 W' (zA hB3 h)
  have m1:∀ W',Bw w3 W'→W'.cell? ⟨w1.heap.size,1,none⟩=some (.int .i64 cy):=fun W' h=>d1 W' (zA hB3 h)
  have hsz3:w1.heap.size<w3.heap.size:=by have:=hB3.size;omega
  clear q0 q1 q2 q3 q4 q5 q6 k0 k1 d0 d1 hb3 hB2 hB3 HFW HF HP
  generalize zZ wi z=r at *
  go_wp2_with fail
  go_loopw [12] (fun i wr=>∃ k:Nat,k+1≤n∧i=.int .i64 (k:Int)∧zEn cx cy r (px D) (py D) k=false∧Bw w3 wr) (fun i _=>n - (intOf i).toNat)
  case atStart=>exact ⟨0,by omega,rfl,rfl,Below.refl _ _⟩
  case round =>
   obtain ⟨k,hk,rfl,hF,hB⟩:=hrel
   have HF:Hid (zEn cx cy r (px D) (py D) k=false):=hF
   have HB:Hid (Bw w3 wr):=hB
   have n0:=m0 wr hB
   have n1:=m1 wr hB
   have hszr:=hB.size
   by_cases hlt:k+1<n
   ·have hgr:g<wr.heap.size:=by omega
    have e0:∀ W',Bw wr W'→W'.cell? ⟨g,k * 2,none⟩=some (.int .i64 (px D k)):=fun W' h=>by simpa using ((HP3.out.below HB.out hg3).below h hgr k (by omega)).1
    have e1:∀ W',Bw wr W'→W'.cell? ⟨g,k * 2+1,none⟩=some (.int .i64 (py D k)):=fun W' h=>by simpa using ((HP3.out.below HB.out hg3).below h hgr k (by omega)).2
    have e2:∀ W',Bw wr W'→W'.cell? ⟨g,(k+1) * 2,none⟩=some (.int .i64 (px D (k+1))):=fun W' h=>by simpa using ((HP3.out.below HB.out hg3).below h hgr (k+1) hlt).1
    have e3:∀ W',Bw wr W'→W'.cell? ⟨g,(k+1) * 2+1,none⟩=some (.int .i64 (py D (k+1))):=fun W' h=>by simpa using ((HP3.out.below HB.out hg3).below h hgr (k+1) hlt).2
    have o0:∀ W',Bw wr W'→W'.cell? ⟨w1.heap.size,0,none⟩=some (.int .i64 cx):=fun W' h=>m0 W' (zA HB.out h)
    have o1:∀ W',Bw wr W'→W'.cell? ⟨w1.heap.size,1,none⟩=some (.int .i64 cy):=fun W' h=>m1 W' (zA HB.out h)
    have hrr:Bw wr wr:=Below.refl _ _
    have hi1:(k:Int)+1<(n:Int):=by omega
    have hi0:(k:Int)<(n:Int):=by omega
    have hwr:IntKind.i64.wrap ((k:Int)+1)=(k:Int)+1:=IntWalk.i64_in _ (by omega)
    have hto:((k:Int)+1).toNat=k+1:=by omega
    have hi00:(0:Int)≤(k:Int)+1:=by omega
    clear hF hB n0 n1
    go_wp2_with fail
    go_region_held3 (fun W'=>Bw wr W') ((repeat (first|exact Qr _ _|assumption|refine Qd ?_|refine Qa ?_ _|refine Qt ?_|refine Qs ?_ _|refine Qo ?_ ?_ _ _)))
     (first | (go_at_call 259;refine (zEx cx cy _ _ _ _ r _ HCK.out (HOK.out k (by omega)) (HOK.out (k+1) hlt) (by omega) (by omega)).mono ?_;rintro e w4 ⟨rfl,hb4'⟩))
    have hb4:Bw wr w4:=by assumption
    cases hq:zA8 cx cy (px D k) (py D k) (px D (k+1)) (py D (k+1)) r
    ·have HK1:Hid (zEn cx cy r (px D) (py D) (k+1)=false):=by
      show _=_
      rw [zEn,HF.out,zDc HCK.out (HOK.out k (by omega)) (HOK.out (k+1) hlt) (by omega) (by omega),hq];rfl
     go_wp2_with fail
     go_roundw
     case rel=>exact ⟨k+1,by omega,by go_num,HK1.out,zA HB.out hb4⟩
     case measure=>simp [intOf];omega
    ·have HK1:Hid (zEn cx cy r (px D) (py D) (n - 1)=true):=zM4 (k+1) (by
      rw [zEn,zDc HCK.out (HOK.out k (by omega)) (HOK.out (k+1) hlt) (by omega) (by omega),hq];simp) (n - 1) (by omega)
     go_wp2_with fail
     go_ret
     exact ⟨zF (by rw [HK.out,HK1.out]),zA HB3.out (zA HB.out hb4)⟩
   ·have hkk:k=n - 1:=by omega
    have hi1:¬ (k:Int)+1<(n:Int):=by omega
    have HK1:Hid (zEn cx cy r (px D) (py D) (n - 1)=false):=by show _=_;rw [← hkk];exact HF.out
    clear hF hB
    go_wp2_with fail
    go_ret
    exact ⟨zF (by rw [HK.out,HK1.out]),zA HB3.out HB.out⟩
 ·have HK:Hid (vL 3 wi z cx cy D=xR (xY cx cy n (px D) (py D)) n):=by
   show _=_
   simp only [vL,hdl,if_true]
   have ha:zH3 n (px D) (py D)=true:=decide_eq_true HOK.out
   simp [yE,HCK.out,ha,h3,hn]
  go_wp2_with fail
  refine (zG8 _ _ g n cg _ _ _ HCK.out HPg.out hgl HOK.out hcg (by omega)).mono ?_
  rintro e w4 ⟨rfl,hb4⟩
  go_wp2_with fail
  go_ret
  exact ⟨zF HK.out.symm,zA HBW.out (zA hB2 hb4)⟩
theorem zJm (b off n cap : Nat) (X Y : Nat → Int) (w : World) (hp : zI w b off n X Y) (hbl : b < w.heap.size) (hn0 : 0 < n) (hn : n ≤ 40) (hin : ∀ i, i < n → inW (X i) (Y i) = true) :
  Calls Tryz.prog 244 #[.slice (some ⟨b, off, none⟩) n cap] w fun e w' => ∃ g cg, e = .returned (.slice (some ⟨g, 0, none⟩) n cg) ∧ w.heap.size ≤ g ∧ g < w'.heap.size ∧ n ≤ cg ∧ zI w' g 0 n (px (xA X Y n)) (py (xA X Y n)) ∧ Bw w w' :=
 (zJn b off n cap X Y w hp hbl hn hin).mono fun e w' ⟨v, he, hR, hb⟩ => by
  obtain ⟨g, cg, hv, h1, h2, h3, h4⟩ := hR.at (by rw [vK]; exact hn0)
  rw [vK] at hv h3 h4
  exact ⟨g, cg, by rw [he, hv], h1, h2, h3, h4, hb⟩
theorem zI.apart {w : World} {b r o n : Nat} {v : Value} {X Y : Nat → Int} (h : zI w b 0 n X Y) (hr : b ≠ r) : zI (w.setCell ⟨r, o, none⟩ v) b 0 n X Y := fun i hi =>
 ⟨(zB (fun e => hr (by injection e with e1; exact e1.symm))).trans (h i hi).1, (zB (fun e => hr (by injection e with e1; exact e1.symm))).trans (h i hi).2⟩
def byF (ki : Int) : Nat := if ki = 3 then 272 else 273
abbrev zM1 (id ki wi z : Int) (g n cg : Nat) : Value := .agg #[.int .i64 id, .func (.func (byF ki)) #[] #[], .slice (some ⟨g, 0, none⟩) n cg, .int .i64 (zZ wi z)]
theorem zF6 (ki : Int) (w : World) : Calls Tryz.prog 243 #[.int .i64 ki] w fun e w' => e = .returned (.func (.func (byF ki)) #[] #[]) ∧ w = w' := by
 unfold byF
 by_cases h : ki = 3
 ·subst h
  exact zDp w
 ·rw [if_neg h]
  exact zDo ki w h
theorem there4s (V : World) (a b c d : Value) (t : TypeId) : zC (V.alloc (.cells #[a, b, c, d] t)) V.heap.size 4 := fun o ho => by
 have : o = 0 ∨ o = 1 ∨ o = 2 ∨ o = 3 := by omega
 rcases this with rfl | rfl | rfl | rfl <;> exact ⟨⟨_, by simp [go_sem]; rfl⟩, by simp [go_sem]⟩
theorem zIp {off : Nat} (id la ki wi z : Int) (b n cap : Nat) (X Y : Nat → Int) (lab : ByteArray) (pr : Int) (w : World) (hp : zI w b off n X Y) (hbl : b < w.heap.size) (hn0 : 0 < n) (hn : n ≤ 40) (hin : ∀ i, i < n → inW (X i) (Y i) = true) (hw : 0 ≤ wi ∧ wi ≤ 3) (hz : yM z = true) :
  Calls Tryz.prog 208 #[.agg #[.int .i64 id, .int .i64 la, .int .i64 ki, .int .i64 wi, .slice (some ⟨b, off, none⟩) n cap, .string lab, .int .i64 pr], .int .i64 z] w fun e w' => ∃ g cg, e = .returned (zM1 id ki wi z g n cg) ∧ g < w'.heap.size ∧ n ≤ cg ∧ zI w' g 0 n (px (xA X Y n)) (py (xA X Y n)) ∧ Bw w w' := by
 have HP : Hid (zI w b off n X Y) := hp
 have HIN : Hid (∀ i, i < n → inW (X i) (Y i) = true) := hin
 have HW : Hid (0 ≤ wi ∧ wi ≤ 3) := hw
 have HR : Hid (∀ W, Calls Tryz.prog 245 #[.agg #[.int .i64 id, .int .i64 la, .int .i64 ki, .int .i64 wi, .slice (some ⟨b, off, none⟩) n cap, .string lab, .int .i64 pr], .int .i64 z] W fun e w' => e = .returned (.int .i64 (zZ wi z)) ∧ Bw W w') := fun W => zIq id la ki wi z _ lab pr W hw hz ⟨_, _, _, rfl⟩
 have HV : Hid (∀ W, Calls Tryz.prog 243 #[.int .i64 ki] W fun e w' => e = .returned (.func (.func (byF ki)) #[] #[]) ∧ W = w') := fun W => zF6 ki W
 clear hp hin hw
 show Calls Tryz.prog 208 _ w fun e w' => ∃ g cg, e = .returned (.agg #[.int .i64 id, .func (.func (byF ki)) #[] #[], .slice (some ⟨g, 0, none⟩) n cg, .int .i64 (zZ wi z)]) ∧ g < w'.heap.size ∧ n ≤ cg ∧ zI w' g 0 n (px (xA X Y n)) (py (xA X Y n)) ∧ Bw w w'
 generalize byF ki = fby at *
 generalize zZ wi z = rch at *
 have hsf : ∀ (a : Addr) (m : Mode) (w : World), (store a (.func (.func fby) #[] #[]) m).run Tryz.prog w = stored Tryz.prog w a (.func (.func fby) #[] #[]) m := fun a m w => run_store Tryz.prog w a _ m rfl
 go_enter Tryz.func208, Tryz.ntmps208
 go_wp2_with fail
 generalize hW : ((w.alloc _).alloc _ : World) = W
 have hB0 : Bw w W := by subst hW; exact Qb
 have HT : Hid (zC W (w.heap.size + 1) 4) := by
  show zC _ _ _
  subst hW
  have := there4s (w.alloc (.cells #[.int .i64 id, .int .i64 la, .int .i64 ki, .int .i64 wi, .slice (some ⟨b, off, none⟩) n cap, .string lab, .int .i64 pr] 209)) (.int .i64 0) .nilFunc (.slice none 0 0) (.int .i64 0) 263
  simpa using this
 have c0 : ∀ W', Below (w.heap.size + 1) W W' → W'.cell? ⟨w.heap.size, 0, none⟩ = some (.int .i64 id) := fun W' h => by
  rw [h.cell (by simp)]; subst hW; simp [go_sem]
 have c1 : ∀ W', Below (w.heap.size + 1) W W' → W'.cell? ⟨w.heap.size, 1, none⟩ = some (.int .i64 la) := fun W' h => by
  rw [h.cell (by simp)]; subst hW; simp [go_sem]
 have c2 : ∀ W', Below (w.heap.size + 1) W W' → W'.cell? ⟨w.heap.size, 2, none⟩ = some (.int .i64 ki) := fun W' h => by
  rw [h.cell (by simp)]; subst hW; simp [go_sem]
 have c3 : ∀ W', Below (w.heap.size + 1) W W' → W'.cell? ⟨w.heap.size, 3, none⟩ = some (.int .i64 wi) := fun W' h => by
  rw [h.cell (by simp)]; subst hW; simp [go_sem]
 have c4 : ∀ W', Below (w.heap.size + 1) W W' → W'.cell? ⟨w.heap.size, 4, none⟩ = some (.slice (some ⟨b, off, none⟩) n cap) := fun W' h => by
  rw [h.cell (by simp)]; subst hW; simp [go_sem]
 have c5 : ∀ W', Below (w.heap.size + 1) W W' → W'.cell? ⟨w.heap.size, 5, none⟩ = some (.string lab) := fun W' h => by
  rw [h.cell (by simp)]; subst hW; simp [go_sem]
 have c6 : ∀ W', Below (w.heap.size + 1) W W' → W'.cell? ⟨w.heap.size, 6, none⟩ = some (.int .i64 pr) := fun W' h => by
  rw [h.cell (by simp)]; subst hW; simp [go_sem]
 have hsz : w.heap.size + 1 < W.heap.size := by subst hW; simp
 clear hW
 have HB0 : Hid (Bw w W) := hB0
 have HPW : Hid (zI W b off n X Y) := HP.out.below hB0 hbl
 have hblW : b < W.heap.size := Nat.lt_of_lt_of_le hbl hB0.size
 clear hB0 HP
 refine wp_region_noPanic ?_
 refine wp_region_held_drew (S := fun W' => Below (w.heap.size + 1) W W') (by kernel_rfl) (by exact Qb) (fun hHeld => ?_)
 have hX0 : Below (w.heap.size + 1) W W.drew := hHeld
 refine zE (i := 0) (d := some 5) rfl rfl ?_
 try simp only [Act.put, Qx, Qy, Qz]
 refine zE (i := 1) (d := some 6) rfl rfl ?_
 try simp only [Act.put, Qx, Qy, Qz]
 refine zE (i := 2) (d := some 7) rfl rfl ?_
 try simp only [Act.put, Qx, Qy, Qz]
 refine zE (i := 3) (d := some 8) rfl rfl ?_
 try simp only [Act.put, Qx, Qy, Qz]
 refine zE (i := 5) (d := some 10) rfl rfl ?_
 try simp only [Act.put, Qx, Qy, Qz]
 refine zE (i := 6) (d := some 11) rfl rfl ?_
 try simp only [Act.put, Qx, Qy, Qz]
 refine zE (i := 8) (d := some 13) rfl rfl ?_
 try simp only [Act.put, Qx, Qy, Qz]
 refine zE (i := 9) (d := some 14) rfl rfl ?_
 try simp only [Act.put, Qx, Qy, Qz]
 refine zO 4 fun K hK => ?_
 go_simp
 refine Calls.mono (HV.out _) ?_
 rintro e w1 ⟨rfl, rfl⟩
 go_wp2_with fail
 refine hK.out _ _ hX0 (fun hHeld => ?_)
 clear hK K
 try simp only [Act.put, Qx, Qy, Qz]
 refine zO 7 fun K hK => ?_
 go_simp
 refine Calls.mono (zJm b off n cap X Y _ (zI.below HPW.out (show Bw W W.drew by (repeat (first|exact Qr _ _|assumption|refine Qd ?_|refine Qa ?_ _|refine Qt ?_|refine Qs ?_ _|refine Qo ?_ ?_ _ _))) hblW) hblW hn0 hn HIN.out) ?_
 rintro e w2 ⟨g, cg, rfl, hgg, hgl, hcg, hPg, hb2⟩
 have hgW : W.heap.size ≤ g := hgg
 have hF2 : Bw W w2 := (show Bw W W.drew by (repeat (first|exact Qr _ _|assumption|refine Qd ?_|refine Qa ?_ _|refine Qt ?_|refine Qs ?_ _|refine Qo ?_ ?_ _ _))).trans hb2
 have hX2 : Below (w.heap.size + 1) W w2 := hF2.mono (Nat.le_of_lt hsz)
 go_wp2_with fail
 refine hK.out _ _ hX2 (fun hHeld => ?_)
 clear hK K hb2
 try simp only [Act.put, Qx, Qy, Qz]
 refine zO 10 fun K hK => ?_
 go_simp
 refine Calls.mono (HR.out _) ?_
 rintro e w3 ⟨rfl, hb3⟩
 have hF3 : Bw W w3 := zA hF2 hb3
 have hX3 : Below (w.heap.size + 1) W w3 := hF3.mono (Nat.le_of_lt hsz)
 have hP3 : zI w3 g 0 n (px (xA X Y n)) (py (xA X Y n)) := zI.below hPg hb3 hgl
 have hg3 : g < w3.heap.size := Nat.lt_of_lt_of_le hgl hb3.size
 have hge : W.heap.size ≤ g ∨ True := .inr trivial
 go_wp2_with fail
 refine hK.out _ _ hX3 (fun hHeld => ?_)
 clear hK K hb3
 try simp only [Act.put, Qx, Qy, Qz]
 refine zE (i := 11) (d := some 16) rfl rfl ?_
 try simp only [Act.put, Qx, Qy, Qz]
 have hT3 := HT.out.below hF3
 have HT3 : Hid (zC w3 (w.heap.size + 1) 4) := hT3
 have t0 := hT3.cell 0 (by omega)
 have t1 := hT3.cell 1 (by omega)
 have t2 := hT3.cell 2 (by omega)
 have t3 := hT3.cell 3 (by omega)
 have f0 := (hT3 0 (by omega)).2
 have f1 := (hT3 1 (by omega)).2
 have f2 := (hT3 2 (by omega)).2
 have f3 := (hT3 3 (by omega)).2
 clear hT3
 refine zO 12 fun K hK => ?_
 go_simp
 have HBs : Below (w.heap.size + 1) W ((((w3.setCell ⟨w.heap.size + 1, 0, none⟩ (.int .i64 id)).setCell ⟨w.heap.size + 1, 1, none⟩ (.func (.func fby) #[] #[])).setCell ⟨w.heap.size + 1, 2, none⟩ (.slice (some ⟨g, 0, none⟩) n cg)).setCell ⟨w.heap.size + 1, 3, none⟩ (.int .i64 rch)) := (((hX3.setCell (Nat.le_refl _) _).setCell (Nat.le_refl _) _).setCell (Nat.le_refl _) _).setCell (Nat.le_refl _) _
 refine hK.out _ _ HBs (fun hHeld => ?_)
 clear hK K
 try simp only [Act.put, Qx, Qy, Qz]
 refine wpAnyH_done (by kernel_rfl) ?_ _
 refine NoPanic.normal ?_
 go_wp2_with fail
 obtain ⟨q0, q1, q2, q3⟩ := uT (a := .int .i64 id) (b := .func (.func fby) #[] #[]) (c := .slice (some ⟨g, 0, none⟩) n cg) (d := .int .i64 rch) HT3.out
 refine bodyPost_ret (v := .agg #[.int .i64 id, .func (.func fby) #[] #[], .slice (some ⟨g, 0, none⟩) n cg, .int .i64 rch]) (by simp [results, Tryz.results208, go_sem, q0, q1, q2, q3]) rfl ⟨g, cg, rfl, by simpa [World.setCell] using hg3, hcg, ?_, (HB0.out.trans (HBs.mono (Nat.le_succ _)))⟩
 exact (((hP3.apart (by omega)).apart (by omega)).apart (by omega)).apart (by omega)
theorem zKa {f : Nat} {fn : Func} (hf : Tryz.prog.funcs[f]? = some fn) (h1 : (fn.name == "runtime.NumGoroutine") = false) (hb : fn.body.isSome = true) (args : Array Value) (w : World) : (callFunc f args).run Tryz.prog w = .ok (.enter f args) w := by
 have h1' : fn.name ≠ "runtime.NumGoroutine" := by simpa using h1
 obtain ⟨c, hc⟩ := Option.isSome_iff_exists.1 hb
 simp [callFunc, hf, h1', hc]
theorem zPr (ki : Int) (args : Array Value) (w : World) : (callFunc (byF ki) args).run Tryz.prog w = .ok (.enter (byF ki) args) w := by
 unfold byF
 split
 ·exact zKa Tryz.func272 (by kernel_rfl) (by kernel_rfl) args w
 ·exact zKa Tryz.func273 (by kernel_rfl) (by kernel_rfl) args w
theorem by_any (ki wi z cx cy : Int) (g n cg : Nat) (X Y : Nat → Int) (w : World) (hp : zI w g 0 n (px (xA X Y n)) (py (xA X Y n))) (hg : g < w.heap.size) (hn0 : 0 < n) (hn : n ≤ 40) (hcg : n ≤ cg) :
  Calls Tryz.prog (byF ki) #[.agg #[.int .i64 cx, .int .i64 cy], .slice (some ⟨g, 0, none⟩) n cg, .int .i64 (zZ wi z)] w fun e w' => e = .returned (.bool (vL ki wi z cx cy (xA X Y n))) ∧ Bw w w' := by
 have hdl := vK X Y n
 unfold byF vL
 by_cases h : ki = 3
 ·rw [if_pos h, if_pos h, hdl]
  exact zHe _ _ _ g n cg _ _ _ hp hg (by omega) hcg
 ·rw [if_neg h, if_neg h, hdl]
  exact zHh _ _ _ g n cg _ _ _ hp hg hn0 (by omega) hcg
theorem zL3 (id ki wi z cx cy : Int) (g n cg : Nat) (X Y : Nat → Int) (w : World) (hp : zI w g 0 n (px (xA X Y n)) (py (xA X Y n))) (hg : g < w.heap.size) (hn0 : 0 < n) (hn : n ≤ 40) (hcg : n ≤ cg) :
  Calls Tryz.prog 247 #[zM1 id ki wi z g n cg, .agg #[.int .i64 cx, .int .i64 cy]] w fun e w' => e = .returned (.bool (vL ki wi z cx cy (xA X Y n))) ∧ Bw w w' := by
 have HP : Hid (zI w g 0 n (px (xA X Y n)) (py (xA X Y n))) := hp
 have HC : Hid (∀ W, zI W g 0 n (px (xA X Y n)) (py (xA X Y n)) → g < W.heap.size → Calls Tryz.prog (byF ki) #[.agg #[.int .i64 cx, .int .i64 cy], .slice (some ⟨g, 0, none⟩) n cg, .int .i64 (zZ wi z)] W fun e w' => e = .returned (.bool (vL ki wi z cx cy (xA X Y n))) ∧ Bw W w') := fun W h1 h2 => by_any ki wi z cx cy g n cg X Y W h1 h2 hn0 hn hcg
 have hce := zPr ki
 clear hp
 show Calls Tryz.prog 247 #[.agg #[.int .i64 id, .func (.func (byF ki)) #[] #[], .slice (some ⟨g, 0, none⟩) n cg, .int .i64 (zZ wi z)], _] w _
 generalize byF ki = fby at *
 generalize zZ wi z = rch at *
 generalize vL ki wi z cx cy (xA X Y n) = cv at *
 go_enter Tryz.func247, Tryz.ntmps247
 go_wp2_with fail
 generalize hW : ((w.alloc _).alloc _ : World) = W
 have hB0 : Bw w W := by subst hW; exact Qb
 clear hW
 refine Calls.mono (HC.out W (HP.out.below hB0 hg) (Nat.lt_of_lt_of_le hg hB0.size)) ?_
 rintro e w' ⟨rfl, hb⟩
 have HB : Hid (Bw w w') := zA hB0 hb
 clear hb hB0
 go_wp2
 go_ret
 exact ⟨rfl, HB.out⟩
theorem zLm {z x y wd ht:Int}(b:Nat)(w:World)(hA:zMd w b z x y wd ht)(hr:zBh z x y wd ht=true):Calls Tryz.prog 67 #[.pointer (some ⟨b,0,none⟩)] w fun e w'=>∃ v,e=.returned v∧zDv w.heap.size w' v (zGg z x y wd ht) (visR z x y wd)∧Bw w w':=by
 have e2:zGg z x y wd ht=zMe y ht * zMe x wd:=by unfold zGg;rw [if_pos hr]
 have hin:=xT hr
 have nx:=zBk (x:=x) hin.1.1
 have ny:=zBk (x:=y) hin.1.2
 rw [e2]
 exact zNn b w hA hr rfl rfl rfl rfl rfl rfl ⟨⟨nx.1,nx.2.1⟩,by omega⟩ ⟨⟨ny.1,ny.2.1⟩,by omega⟩ rfl
def zCw (z x y wd ht rz rx ry:Int):Bool:=zJa (visR z x y wd) rz rx ry (zGg z x y wd ht)
theorem zDe (z x y wd ht rz rx ry:Int)(w:World):Calls Tryz.prog 127 #[zH7 z x y wd ht,xD rz rx ry] w fun e w'=>e=.returned (.bool (zCw z x y wd ht rz rx ry))∧Bw w w':=by
 have sV:∀ w,Calls Tryz.prog 80 #[zH7 z x y wd ht] w fun e w'=>∃ a cap,e=.returned (.agg #[.int .i64 (uD z x y wd ht),.slice a (zGg z x y wd ht) cap])∧zOk w' a (zGg z x y wd ht) (visR z x y wd)∧Bw w w':=fun w=>(zAk z x y wd ht w).mono fun e w' ⟨v,h1,h2,h3⟩=>by
  obtain ⟨a,cap,rfl,_,hI⟩:=h2.pts
  exact ⟨a,cap,h1,hI,h3⟩
 have hm:zGg z x y wd ht≤1048576:=by have:=zMk z x y wd ht;omega
 have HC:Hid (∀ a cap w,zOk w a (zGg z x y wd ht) (visR z x y wd)→Calls Tryz.prog 173 #[.slice a (zGg z x y wd ht) cap,xD rz rx ry] w fun e w'=>e=.returned (.bool (zCw z x y wd ht rz rx ry))∧Bw w w'):=fun a cap w h=>zF7 a _ cap _ rz rx ry w h hm
 clear hm
 generalize zCw z x y wd ht rz rx ry=B at *
 generalize zGg z x y wd ht=m at *
 generalize visR z x y wd=R at *
 generalize uD z x y wd ht=c at *
 have i1:∀ (a:Option Addr) (cap:Nat) w,(Instr.field 124 (.agg #[.int .i64 c,.slice a m cap]) 1).run Tryz.prog w=.ok (.slice a m cap) w:=fun _ _ _=>by kernel_rfl
 go_enter Tryz.func127,Tryz.ntmps127
 go_wp2_with fail
 generalize hW:((w.alloc _).alloc _:World)=W
 have HB0:Hid (Bw w W):=by show Below _ _ _;subst hW;exact Qb
 have c00:∀ W',Bw W W'→W'.cell? ⟨w.heap.size,0,none⟩=some (.int .i64 z):=Qc hW
 have c01:∀ W',Bw W W'→W'.cell? ⟨w.heap.size,1,none⟩=some (.int .i64 x):=Qc hW
 have c02:∀ W',Bw W W'→W'.cell? ⟨w.heap.size,2,none⟩=some (.int .i64 y):=Qc hW
 have c03:∀ W',Bw W W'→W'.cell? ⟨w.heap.size,3,none⟩=some (.int .i64 wd):=Qc hW
 have c04:∀ W',Bw W W'→W'.cell? ⟨w.heap.size,4,none⟩=some (.int .i64 ht):=Qc hW
 have c10:∀ W',Bw W W'→W'.cell? ⟨w.heap.size+1,0,none⟩=some (.int .i64 rz):=Qc hW
 have c11:∀ W',Bw W W'→W'.cell? ⟨w.heap.size+1,1,none⟩=some (.int .i64 rx):=Qc hW
 have c12:∀ W',Bw W W'→W'.cell? ⟨w.heap.size+1,2,none⟩=some (.int .i64 ry):=Qc hW
 clear hW
 have hr:Bw W W:=Below.refl _ _
 go_region_held3 (fun W'=>Bw W W') ((repeat (first|exact Qr _ _|assumption|refine Qd ?_|refine Qa ?_ _|refine Qt ?_|refine Qs ?_ _|refine Qo ?_ ?_ _ _)))
  (first
   | (go_at_call 80;refine (sV _).mono ?_;rintro e w1 ⟨a,cap,rfl,hI,hb⟩;have HI:Hid (zOk w1 a m R):=hI;clear hI)
   | (go_at_call 173;refine (HC.out _ _ _ HI.out).mono ?_;rintro e w2 ⟨rfl,hb⟩)
   | fail)
 go_wp2
 go_ret
 exact ⟨rfl,zA HB0.out (by assumption)⟩
end Go.Proofs.YtpaiholildedcaaGreat
