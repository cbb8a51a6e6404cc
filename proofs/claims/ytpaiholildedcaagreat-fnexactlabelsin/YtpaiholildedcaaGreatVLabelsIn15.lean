/- Texts. -/
import Derived.Test.YtpaiholildedcaaGreatVLabelsIn14
set_option linter.unusedSimpArgs false
set_option linter.unusedVariables false
set_option maxRecDepth 100000
set_option maxHeartbeats 32000000
namespace Go.Proofs.YtpaiholildedcaaGreat
open Go.RowKit
def yD (wi z:Int):Int:=(wi+1) * yI z
theorem zRo {wi z:Int}(hw:0≤wi∧wi≤3)(hz:yH z=true):16≤yD wi z∧yD wi z≤512:=by
 unfold yD
 rcases zP hz with rfl | rfl | rfl | rfl
 all_goals
  simp only [show yI 0=128 from rfl,show yI 1=64 from rfl,show yI 2=32 from rfl,show yI 3=16 from rfl]
  omega
theorem zLw {z:Int}(hz:yH z=true):yI z=128∨yI z=64∨yI z=32∨yI z=16:=by rcases zP hz with rfl | rfl | rfl | rfl <;> simp [yI]
theorem zKt (id la ki wi z:Int)(v:Value)(lab:ByteArray)(pr:Int)(w:World)(hw:0≤wi∧wi≤3)(hz:yH z=true)(hv:∃ a n c,v=.slice a n c) :
  Calls Tryz.prog 245 #[.agg #[.int .i64 id,.int .i64 la,.int .i64 ki,.int .i64 wi,v,.string lab,.int .i64 pr],.int .i64 z] w fun e w'=>e=.returned (.int .i64 (yD wi z))∧Bw w w':=by
 obtain ⟨a,n,c,rfl⟩:=hv
 have s1:=fun w=>vO z w
 have hv:zH6 z=.agg #[.int .i64 0,.int .i64 (yI z)]:=by simp [zH6,hz]
 simp only [hv] at s1
 have hbd:=zLw hz
 have hr:Hid (yD wi z=(wi+1) * yI z):=rfl
 generalize yI z=u at *
 have i1:∀ w,(Instr.field 63 (.agg #[.int .i64 0,.int .i64 u]) 1).run Tryz.prog w=.ok (.int .i64 u) w:=fun _=>by kernel_rfl
 have hS:=(show Hid _ from s1)
 clear s1 hv
 obtain ⟨hw0,hw1⟩:=hw
 go_enter Tryz.func245,Tryz.ntmps245
 go_wp2_with fail
 generalize hW:(w.alloc _:World)=W
 have hB0:Bw w W:=by subst hW;exact Qb
 have c3:∀ W',Bw W W'→W'.cell? ⟨w.heap.size,3,none⟩=some (.int .i64 wi):=Qc hW
 clear hW
 have hr0:Bw W W:=Below.refl _ _
 rcases hbd with rfl | rfl | rfl | rfl
 all_goals
  go_region_held3 (fun W'=>Bw W W') ((repeat (first|exact Qr _ _|assumption|refine Qd ?_|refine Qa ?_ _|refine Qt ?_|refine Qs ?_ _|refine Qo ?_ ?_ _ _)))
   (first | (go_at_call 197;refine (hS.out _).mono ?_;rintro e w' ⟨rfl,hb⟩))
  go_wp2
  go_ret
  exact ⟨zE (by rw [IntWalk.i64_in (wi+1) (by omega),IntWalk.i64_in _ (by omega)];exact hr.out.symm),zA hB0 (by assumption)⟩
def uA (ki wi z cx cy:Int)(D:List (Int × Int)):Bool:=if ki=3 then yL cx cy D.length (px D) (py D) else byB cx cy (yD wi z) (px D) (py D) D.length
theorem zEt (w:World):Calls Tryz.prog 243 #[.int .i64 3] w fun e w'=>e=.returned (.func (.func 272) #[] #[])∧w=w':=by
 go_enter Tryz.func243,Tryz.ntmps243
 go_wp2
 go_ret
 exact ⟨rfl,rfl⟩
theorem zEs (ki:Int)(w:World)(h:ki≠3):Calls Tryz.prog 243 #[.int .i64 ki] w fun e w'=>e=.returned (.func (.func 273) #[] #[])∧w=w':=by
 have hk:(ki == 3)=false:=by simpa using h
 go_enter Tryz.func243,Tryz.ntmps243
 go_wp2
 go_ret
 exact ⟨rfl,rfl⟩
theorem dbl_ok (X Y:Nat→Int)(n:Nat)(hin:∀ i,i<n→inW (X i) (Y i)=true):∀ i,i<n→okP (px (xH X Y n) i) (py (xH X Y n) i)=true:=fun i hi=>by
 obtain ⟨e1,e2⟩:=dblL_px X Y n i hi
 have:=zP9 (hin i hi)
 rw [e1,e2,zG5]
 omega
theorem zEe {px py ax ay bx by' r:Int}(hp:okP px py=true)(ha:okP ax ay=true)(hb:okP bx by'=true)(h0:0≤r)(h1:r≤4096):zT px py ax ay bx by' r=zB9 px py ax ay bx by' r:=by
 simp [zT,hp,ha,hb,inB,h0,h1]
theorem zI1 (b off n cap:Nat)(X Y:Nat→Int)(w:World)(hp:zK w b off n X Y)(hbl:b<w.heap.size)(hn0:0<n)(hn:n≤40)(hin:∀ i,i<n→inW (X i) (Y i)=true) :
  Calls Tryz.prog 256 #[.slice (some ⟨b,off,none⟩) n cap] w fun e w'=>∃ g cg,e=.returned (.slice (some ⟨g,0,none⟩) n cg)∧g<w'.heap.size∧n≤cg∧zK w' g 0 n (px (xH X Y n)) (py (xH X Y n))∧Bw w w' :=
 (zHb b off n cap X Y w hp hbl hn hin).mono fun e w' ⟨v,he,hR,hb⟩=>by
  obtain ⟨g,cg,hv,h1,h2,h3,h4⟩:=hR.at (by rw [vZ];exact hn0)
  rw [vZ] at hv h3 h4
  exact ⟨g,cg,by rw [he,hv],h2,h3,h4,hb⟩
theorem zD8 (q o:Nat)(wi z:Int)(w:World)(hf:w.cell? ⟨q,o+3,none⟩=some (.int .i64 wi))(hw:0≤wi∧wi≤3)(hz:yH z=true) :
  Calls Tryz.prog 258 #[.pointer (some ⟨q,o,none⟩),.int .i64 z] w fun e w'=>e=.returned (.int .i64 (yD wi z))∧Bw w w':=by
 have s1:=fun w=>zCq z w hz
 have hbd:=zLw hz
 have hr:Hid (yD wi z=(wi+1) * yI z):=rfl
 generalize yI z=u at *
 obtain ⟨hw0,hw1⟩:=hw
 have hS:=(show Hid _ from s1)
 clear s1
 have c3:∀ W',Bw w W'→W'.cell? ⟨q,o+3,none⟩=some (.int .i64 wi):=fun W' h=>zH h hf
 have hr0:Bw w w:=Below.refl _ _
 clear hf
 rcases hbd with rfl | rfl | rfl | rfl
 all_goals
  go_enter Tryz.func258,Tryz.ntmps258
  go_wp2_with fail
  go_region_held3 (fun W'=>Bw w W') ((repeat (first|exact Qr _ _|assumption|refine Qd ?_|refine Qa ?_ _|refine Qt ?_|refine Qs ?_ _|refine Qo ?_ ?_ _ _)))
   (first | (go_at_call 226;refine (hS.out _).mono ?_;rintro e w1 ⟨rfl,rfl⟩))
  go_wp2
  go_ret
  exact ⟨zE (by rw [IntWalk.i64_in (wi+1) (by omega),IntWalk.i64_in _ (by omega)];exact hr.out.symm),by assumption⟩
theorem zI0 (q o:Nat)(id la ki wi z x y:Int)(b off n cap:Nat)(X Y:Nat→Int)(lab:ByteArray)(pr:Int)(w:World)(hf:yJ w q o id la ki wi (.slice (some ⟨b,off,none⟩) n cap) lab pr)(hp:zK w b off n X Y)(hbl:b<w.heap.size)(hn:n≤40)(hkn:kindN ki n)(hin:∀ i,i<n→inW (X i) (Y i)=true)(hw:0≤wi∧wi≤3)(hpx:uW z x y=true) :
  Calls Tryz.prog 222 #[.pointer (some ⟨q,o,none⟩),.int .i64 z,.int .i64 x,.int .i64 y] w fun e w'=>e=.returned (.bool (uA ki wi z (zZ z x) (zZ z y) (xH X Y n)))∧Bw w w':=by
 have hz:=vC hpx
 have hcok:=cent_ok hpx
 have HCK:Hid (okP (zZ z x) (zZ z y)=true):=hcok
 have hrb:=zRo hw hz
 have hn0:0<n:=by rcases hkn with ⟨_,h⟩ | ⟨_,h⟩ | ⟨_,h⟩ <;> omega
 have HF:Hid (yJ w q o id la ki wi (.slice (some ⟨b,off,none⟩) n cap) lab pr):=hf
 have hql:q<w.heap.size:=World.block_lt_of_cell? _ _ hf.1
 have HP:Hid (zK w b off n X Y):=hp
 have HIN:Hid (∀ i,i<n→inW (X i) (Y i)=true):=hin
 have HOK:Hid (∀ i,i<n→okP (px (xH X Y n) i) (py (xH X Y n) i)=true):=dbl_ok X Y n hin
 have HW:Hid (0≤wi∧wi≤3):=hw
 have HPX:Hid (uW z x y=true):=hpx
 have hdl:=vZ X Y n
 have Hce:=(show Hid _ from fun w=>zI2 z x y w hpx)
 generalize zZ z x=cx at *
 generalize zZ z y=cy at *
 generalize hD:xH X Y n=D at *
 have HD:Hid (xH X Y n=D):=hD
 clear hp hin hw hpx hf hcok hD
 go_enter Tryz.func222,Tryz.ntmps222
 go_wp2_with fail
 refine (Hce.out _).mono ?_
 rintro e w1 ⟨rfl,hb1⟩
 obtain ⟨q0,q1,q2,q3,q4,q5,q6⟩:=HF.out.below hb1 hql
 have hql1:q<w1.heap.size:=Nat.lt_of_lt_of_le hql hb1.size
 go_wp2_with fail
 generalize hW:(w1.alloc _:World)=W
 have hbW1:Bw w1 W:=by subst hW;exact Qb
 have d0:∀ W',Bw W W'→W'.cell? ⟨w1.heap.size,0,none⟩=some (.int .i64 cx):=Qc hW
 have d1:∀ W',Bw W W'→W'.cell? ⟨w1.heap.size,1,none⟩=some (.int .i64 cy):=Qc hW
 have hszW:w1.heap.size<W.heap.size:=by subst hW;simp
 clear hW
 have hBW:Bw w W:=zA hb1 hbW1
 have HBW:Hid (Bw w W):=hBW
 have HFW:Hid (yJ W q o id la ki wi (.slice (some ⟨b,off,none⟩) n cap) lab pr):=HF.out.below hBW hql
 have hqlW:q<W.heap.size:=Nat.lt_of_lt_of_le hql hBW.size
 clear q0 q1 q2 q3 q4 q5 q6 hb1 hbW1
 refine (zI1 b off n cap X Y W (HP.out.below hBW hbl) (Nat.lt_of_lt_of_le hbl hBW.size) hn0 hn HIN.out).mono ?_
 rw [HD.out]
 rintro e w2 ⟨g,cg,rfl,hgl,hcg,hPg,hb2⟩
 have HPg:Hid (zK w2 g 0 n (px D) (py D)):=hPg
 obtain ⟨q0,q1,q2,q3,q4,q5,q6⟩:=HFW.out.below hb2 hqlW
 have hB2:Bw W w2:=hb2
 have hql2:q<w2.heap.size:=Nat.lt_of_lt_of_le hqlW hb2.size
 have k0:=d0 w2 hb2
 have k1:=d1 w2 hb2
 have hsz2:=hb2.size
 clear hb2 hBW hPg
 rcases hkn with ⟨rfl,rfl⟩ | ⟨rfl,h2⟩ | ⟨rfl,h3⟩
 ·have HK:Hid (uA 1 wi z cx cy D=zB9 cx cy (px D 0) (py D 0) (px D 0) (py D 0) (yD wi z)):=by
   show _=_
   simp only [uA,hdl]
   rw [if_neg (by decide)]
   simp only [byB,Bool.false_or]
   exact zEe HCK.out (HOK.out 0 (by omega)) (HOK.out 0 (by omega)) (by omega) (by omega)
  go_wp2_with fail
  refine (zD8 q o wi z _ q3 HW.out hz).mono ?_
  rintro e w3 ⟨rfl,hb3⟩
  have hB3:Bw W w3:=zA hB2 hb3
  have hg3:g<w3.heap.size:=Nat.lt_of_lt_of_le hgl hb3.size
  have e0:∀ W',Bw w3 W'→W'.cell? ⟨g,0,none⟩=some (.int .i64 (px D 0)):=fun W' h=>by simpa using ((HPg.out.below hb3 hgl).below h hg3 0 (by omega)).1
  have e1:∀ W',Bw w3 W'→W'.cell? ⟨g,1,none⟩=some (.int .i64 (py D 0)):=fun W' h=>by simpa using ((HPg.out.below hb3 hgl).below h hg3 0 (by omega)).2
  have m0:∀ W',Bw w3 W'→W'.cell? ⟨w1.heap.size,0,none⟩=some (.int .i64 cx):=fun W' h=>d0 W' (zA hB3 h)
  have m1:∀ W',Bw w3 W'→W'.cell? ⟨w1.heap.size,1,none⟩=some (.int .i64 cy):=fun W' h=>d1 W' (zA hB3 h)
  have hr3:Bw w3 w3:=Below.refl _ _
  obtain ⟨p0,p1,p2,p3,p4,p5,p6⟩:=HFW.out.below hB3 hqlW
  clear q0 q1 q2 q3 q4 q5 q6 k0 k1 d0 d1
  generalize yD wi z=r at *
  go_wp2_with fail
  go_region_held3 (fun W'=>Bw w3 W') ((repeat (first|exact Qr _ _|assumption|refine Qd ?_|refine Qa ?_ _|refine Qt ?_|refine Qs ?_ _|refine Qo ?_ ?_ _ _)))
   (first | (go_at_call 259;refine (zGc cx cy _ _ _ _ r _ HCK.out (HOK.out 0 (by omega)) (HOK.out 0 (by omega)) (by omega) (by omega)).mono ?_;rintro e w4 ⟨rfl,hb4⟩))
  go_wp2_with fail
  go_ret
  exact ⟨zF HK.out.symm,zA HBW.out (zA hB3 (by assumption))⟩
 ·have HK:Hid (uA 2 wi z cx cy D=zF1 cx cy (yD wi z) (px D) (py D) (n - 1)):=by
   show _=_
   simp only [uA,hdl]
   rw [if_neg (by decide)]
   exact zSx _ _ _ _ _ _ h2 (HOK.out 1 (by omega))
  go_wp2_with fail
  refine (zD8 q o wi z _ q3 HW.out hz).mono ?_
  rintro e w3 ⟨rfl,hb3⟩
  have hB3:Bw W w3:=zA hB2 hb3
  have HP3:Hid (zK w3 g 0 n (px D) (py D)):=HPg.out.below hb3 hgl
  have hg3:g<w3.heap.size:=Nat.lt_of_lt_of_le hgl hb3.size
  have HB3:Hid (Bw w w3):=zA HBW.out hB3
  obtain ⟨p0,p1,p2,p3,p4,p5,p6⟩:=HFW.out.below hB3 hqlW
  have m0:∀ W',Bw w3 W'→W'.cell? ⟨w1.heap.size,0,none⟩=some (.int .i64 cx):=fun W' h=>d0 W' (zA hB3 h)
  have m1:∀ W',Bw w3 W'→W'.cell? ⟨w1.heap.size,1,none⟩=some (.int .i64 cy):=fun W' h=>d1 W' (zA hB3 h)
  have hsz3:w1.heap.size<w3.heap.size:=by have:=hB3.size;omega
  clear q0 q1 q2 q3 q4 q5 q6 k0 k1 d0 d1 hb3 hB2 hB3 HFW HF HP
  generalize yD wi z=r at *
  go_wp2_with fail
  go_loopw [12] (fun i wr=>∃ k:Nat,k+1≤n∧i=.int .i64 (k:Int)∧zF1 cx cy r (px D) (py D) k=false∧Bw w3 wr) (fun i _=>n - (intOf i).toNat)
  case atStart=>exact ⟨0,by omega,rfl,rfl,Below.refl _ _⟩
  case round =>
   obtain ⟨k,hk,rfl,hF,hB⟩:=hrel
   have HF:Hid (zF1 cx cy r (px D) (py D) k=false):=hF
   have HB:Hid (Bw w3 wr):=hB
   have n0:=m0 wr hB
   have n1:=m1 wr hB
   have hszr:=hB.size
   by_cases hlt:k+1<n
   ·have hgr:g<wr.heap.size:=by omega
    have e0:∀ W',Bw wr W'→W'.cell? ⟨g,k * 2,none⟩=some (.int .i64 (px D k)):=fun W' h=>by simpa using ((HP3.out.below HB.out hg3).below h hgr k (by omega)).1
    have e1:∀ W',Bw wr W'→W'.cell? ⟨g,k * 2+1,none⟩=some (.int .i64 (py D k)):=fun W' h=>by simpa using ((HP3.out.below HB.out hg3).below h hgr k (by omega)).2
    have e2:∀ W',Bw wr W'→W'.cell? ⟨g,(k+1) * 2,none⟩=some (.int .i64 (px D (k+1))):=fun W' h=>by simpa using ((HP3.out.below HB.out hg3).below h hgr (k+1) hlt).1
    have e3:∀ W',Bw wr W'→W'.cell? ⟨g,(k+1) * 2+1,none⟩=some (.int .i64 (py D (k+1))):=fun W' h=>by simpa using ((HP3.out.below HB.out hg3).below h hgr (k+1) hlt).2
    have o0:∀ W',Bw wr W'→W'.cell? ⟨w1.heap.size,0,none⟩=some (.int .i64 cx):=fun W' h=>m0 W' (zA HB.out h)
    have o1:∀ W',Bw wr W'→W'.cell? ⟨w1.heap.size,1,none⟩=some (.int .i64 cy):=fun W' h=>m1 W' (zA HB.out h)
    have hrr:Bw wr wr:=Below.refl _ _
    have hi1:(k:Int)+1<(n:Int):=by omega
    have hi0:(k:Int)<(n:Int):=by omega
    have hwr:IntKind.i64.wrap ((k:Int)+1)=(k:Int)+1:=IntWalk.i64_in _ (by omega)
    have hto:((k:Int)+1).toNat=k+1:=by omega
    have hi00:(0:Int)≤(k:Int)+1:=by omega
    clear hF hB n0 n1
    go_wp2_with fail
    go_region_held3 (fun W'=>Bw wr W') ((repeat (first|exact Qr _ _|assumption|refine Qd ?_|refine Qa ?_ _|refine Qt ?_|refine Qs ?_ _|refine Qo ?_ ?_ _ _)))
     (first | (go_at_call 259;refine (zGc cx cy _ _ _ _ r _ HCK.out (HOK.out k (by omega)) (HOK.out (k+1) hlt) (by omega) (by omega)).mono ?_;rintro e w4 ⟨rfl,hb4'⟩))
    have hb4:Bw wr w4:=by assumption
    cases hq:zB9 cx cy (px D k) (py D k) (px D (k+1)) (py D (k+1)) r
    ·have HK1:Hid (zF1 cx cy r (px D) (py D) (k+1)=false):=by
      show _=_
      rw [zF1,HF.out,zEe HCK.out (HOK.out k (by omega)) (HOK.out (k+1) hlt) (by omega) (by omega),hq];rfl
     go_wp2_with fail
     go_roundw
     case rel=>exact ⟨k+1,by omega,by go_num,HK1.out,zA HB.out hb4⟩
     case measure=>simp [intOf];omega
    ·have HK1:Hid (zF1 cx cy r (px D) (py D) (n - 1)=true):=zO9 (k+1) (by
      rw [zF1,zEe HCK.out (HOK.out k (by omega)) (HOK.out (k+1) hlt) (by omega) (by omega),hq];simp) (n - 1) (by omega)
     go_wp2_with fail
     go_ret
     exact ⟨zF (by rw [HK.out,HK1.out]),zA HB3.out (zA HB.out hb4)⟩
   ·have hkk:k=n - 1:=by omega
    have hi1:¬ (k:Int)+1<(n:Int):=by omega
    have HK1:Hid (zF1 cx cy r (px D) (py D) (n - 1)=false):=by show _=_;rw [← hkk];exact HF.out
    clear hF hB
    go_wp2_with fail
    go_ret
    exact ⟨zF (by rw [HK.out,HK1.out]),zA HB3.out HB.out⟩
 ·have HK:Hid (uA 3 wi z cx cy D=vF (vL cx cy n (px D) (py D)) n):=by
   show _=_
   simp only [uA,hdl,if_true]
   have ha:zJ3 n (px D) (py D)=true:=decide_eq_true HOK.out
   simp [yL,HCK.out,ha,h3,hn]
  go_wp2_with fail
  refine (zI3 _ _ g n cg _ _ _ HCK.out HPg.out hgl HOK.out hcg (by omega)).mono ?_
  rintro e w4 ⟨rfl,hb4⟩
  go_wp2_with fail
  go_ret
  exact ⟨zF HK.out.symm,zA HBW.out (zA hB2 hb4)⟩
theorem zLp (b off n cap : Nat) (X Y : Nat → Int) (w : World) (hp : zK w b off n X Y) (hbl : b < w.heap.size) (hn0 : 0 < n) (hn : n ≤ 40) (hin : ∀ i, i < n → inW (X i) (Y i) = true) :
  Calls Tryz.prog 244 #[.slice (some ⟨b, off, none⟩) n cap] w fun e w' => ∃ g cg, e = .returned (.slice (some ⟨g, 0, none⟩) n cg) ∧ w.heap.size ≤ g ∧ g < w'.heap.size ∧ n ≤ cg ∧ zK w' g 0 n (px (xH X Y n)) (py (xH X Y n)) ∧ Bw w w' :=
 (zLq b off n cap X Y w hp hbl hn hin).mono fun e w' ⟨v, he, hR, hb⟩ => by
  obtain ⟨g, cg, hv, h1, h2, h3, h4⟩ := hR.at (by rw [vZ]; exact hn0)
  rw [vZ] at hv h3 h4
  exact ⟨g, cg, by rw [he, hv], h1, h2, h3, h4, hb⟩
theorem zK.apart {w : World} {b r o n : Nat} {v : Value} {X Y : Nat → Int} (h : zK w b 0 n X Y) (hr : b ≠ r) : zK (w.setCell ⟨r, o, none⟩ v) b 0 n X Y := fun i hi =>
 ⟨(zB (fun e => hr (by injection e with e1; exact e1.symm))).trans (h i hi).1, (zB (fun e => hr (by injection e with e1; exact e1.symm))).trans (h i hi).2⟩
def byF (ki : Int) : Nat := if ki = 3 then 272 else 273
abbrev zO6 (id ki wi z : Int) (g n cg : Nat) : Value := .agg #[.int .i64 id, .func (.func (byF ki)) #[] #[], .slice (some ⟨g, 0, none⟩) n cg, .int .i64 (yD wi z)]
theorem zHw (ki : Int) (w : World) : Calls Tryz.prog 243 #[.int .i64 ki] w fun e w' => e = .returned (.func (.func (byF ki)) #[] #[]) ∧ w = w' := by
 unfold byF
 by_cases h : ki = 3
 ·subst h
  exact zEt w
 ·rw [if_neg h]
  exact zEs ki w h
theorem there4s (V : World) (a b c d : Value) (t : TypeId) : zD (V.alloc (.cells #[a, b, c, d] t)) V.heap.size 4 := fun o ho => by
 have : o = 0 ∨ o = 1 ∨ o = 2 ∨ o = 3 := by omega
 rcases this with rfl | rfl | rfl | rfl <;> exact ⟨⟨_, by simp [go_sem]; rfl⟩, by simp [go_sem]⟩
theorem zKs {off : Nat} (id la ki wi z : Int) (b n cap : Nat) (X Y : Nat → Int) (lab : ByteArray) (pr : Int) (w : World) (hp : zK w b off n X Y) (hbl : b < w.heap.size) (hn0 : 0 < n) (hn : n ≤ 40) (hin : ∀ i, i < n → inW (X i) (Y i) = true) (hw : 0 ≤ wi ∧ wi ≤ 3) (hz : yH z = true) :
  Calls Tryz.prog 208 #[.agg #[.int .i64 id, .int .i64 la, .int .i64 ki, .int .i64 wi, .slice (some ⟨b, off, none⟩) n cap, .string lab, .int .i64 pr], .int .i64 z] w fun e w' => ∃ g cg, e = .returned (zO6 id ki wi z g n cg) ∧ g < w'.heap.size ∧ n ≤ cg ∧ zK w' g 0 n (px (xH X Y n)) (py (xH X Y n)) ∧ Bw w w' := by
 have HP : Hid (zK w b off n X Y) := hp
 have HIN : Hid (∀ i, i < n → inW (X i) (Y i) = true) := hin
 have HW : Hid (0 ≤ wi ∧ wi ≤ 3) := hw
 have HR : Hid (∀ W, Calls Tryz.prog 245 #[.agg #[.int .i64 id, .int .i64 la, .int .i64 ki, .int .i64 wi, .slice (some ⟨b, off, none⟩) n cap, .string lab, .int .i64 pr], .int .i64 z] W fun e w' => e = .returned (.int .i64 (yD wi z)) ∧ Bw W w') := fun W => zKt id la ki wi z _ lab pr W hw hz ⟨_, _, _, rfl⟩
 have HV : Hid (∀ W, Calls Tryz.prog 243 #[.int .i64 ki] W fun e w' => e = .returned (.func (.func (byF ki)) #[] #[]) ∧ W = w') := fun W => zHw ki W
 clear hp hin hw
 show Calls Tryz.prog 208 _ w fun e w' => ∃ g cg, e = .returned (.agg #[.int .i64 id, .func (.func (byF ki)) #[] #[], .slice (some ⟨g, 0, none⟩) n cg, .int .i64 (yD wi z)]) ∧ g < w'.heap.size ∧ n ≤ cg ∧ zK w' g 0 n (px (xH X Y n)) (py (xH X Y n)) ∧ Bw w w'
 generalize byF ki = fby at *
 generalize yD wi z = rch at *
 have hsf : ∀ (a : Addr) (m : Mode) (w : World), (store a (.func (.func fby) #[] #[]) m).run Tryz.prog w = stored Tryz.prog w a (.func (.func fby) #[] #[]) m := fun a m w => run_store Tryz.prog w a _ m rfl
 go_enter Tryz.func208, Tryz.ntmps208
 go_wp2_with fail
 generalize hW : ((w.alloc _).alloc _ : World) = W
 have hB0 : Bw w W := by subst hW; exact Qb
 have HT : Hid (zD W (w.heap.size + 1) 4) := by
  show zD _ _ _
  subst hW
  have := there4s (w.alloc (.cells #[.int .i64 id, .int .i64 la, .int .i64 ki, .int .i64 wi, .slice (some ⟨b, off, none⟩) n cap, .string lab, .int .i64 pr] 209)) (.int .i64 0) .nilFunc (.slice none 0 0) (.int .i64 0) 263
  simpa using this
 have c0 : ∀ W', Below (w.heap.size + 1) W W' → W'.cell? ⟨w.heap.size, 0, none⟩ = some (.int .i64 id) := fun W' h => by
  rw [h.cell (by simp)]; subst hW; simp [go_sem]
 have c1 : ∀ W', Below (w.heap.size + 1) W W' → W'.cell? ⟨w.heap.size, 1, none⟩ = some (.int .i64 la) := fun W' h => by
  rw [h.cell (by simp)]; subst hW; simp [go_sem]
 have c2 : ∀ W', Below (w.heap.size + 1) W W' → W'.cell? ⟨w.heap.size, 2, none⟩ = some (.int .i64 ki) := fun W' h => by
  rw [h.cell (by simp)]; subst hW; simp [go_sem]
 have c3 : ∀ W', Below (w.heap.size + 1) W W' → W'.cell? ⟨w.heap.size, 3, none⟩ = some (.int .i64 wi) := fun W' h => by
  rw [h.cell (by simp)]; subst hW; simp [go_sem]
 have c4 : ∀ W', Below (w.heap.size + 1) W W' → W'.cell? ⟨w.heap.size, 4, none⟩ = some (.slice (some ⟨b, off, none⟩) n cap) := fun W' h => by
  rw [h.cell (by simp)]; subst hW; simp [go_sem]
 have c5 : ∀ W', Below (w.heap.size + 1) W W' → W'.cell? ⟨w.heap.size, 5, none⟩ = some (.string lab) := fun W' h => by
  rw [h.cell (by simp)]; subst hW; simp [go_sem]
 have c6 : ∀ W', Below (w.heap.size + 1) W W' → W'.cell? ⟨w.heap.size, 6, none⟩ = some (.int .i64 pr) := fun W' h => by
  rw [h.cell (by simp)]; subst hW; simp [go_sem]
 have hsz : w.heap.size + 1 < W.heap.size := by subst hW; simp
 clear hW
 have HB0 : Hid (Bw w W) := hB0
 have HPW : Hid (zK W b off n X Y) := HP.out.below hB0 hbl
 have hblW : b < W.heap.size := Nat.lt_of_lt_of_le hbl hB0.size
 clear hB0 HP
 refine wp_region_noPanic ?_
 refine wp_region_held_drew (S := fun W' => Below (w.heap.size + 1) W W') (by kernel_rfl) (by exact Qb) (fun hHeld => ?_)
 have hX0 : Below (w.heap.size + 1) W W.drew := hHeld
 refine zC (i := 0) (d := some 5) rfl rfl ?_
 try simp only [Act.put, Qx, Qy, Qz]
 refine zC (i := 1) (d := some 6) rfl rfl ?_
 try simp only [Act.put, Qx, Qy, Qz]
 refine zC (i := 2) (d := some 7) rfl rfl ?_
 try simp only [Act.put, Qx, Qy, Qz]
 refine zC (i := 3) (d := some 8) rfl rfl ?_
 try simp only [Act.put, Qx, Qy, Qz]
 refine zC (i := 5) (d := some 10) rfl rfl ?_
 try simp only [Act.put, Qx, Qy, Qz]
 refine zC (i := 6) (d := some 11) rfl rfl ?_
 try simp only [Act.put, Qx, Qy, Qz]
 refine zC (i := 8) (d := some 13) rfl rfl ?_
 try simp only [Act.put, Qx, Qy, Qz]
 refine zC (i := 9) (d := some 14) rfl rfl ?_
 try simp only [Act.put, Qx, Qy, Qz]
 refine zN 4 fun K hK => ?_
 go_simp
 refine Calls.mono (HV.out _) ?_
 rintro e w1 ⟨rfl, rfl⟩
 go_wp2_with fail
 refine hK.out _ _ hX0 (fun hHeld => ?_)
 clear hK K
 try simp only [Act.put, Qx, Qy, Qz]
 refine zN 7 fun K hK => ?_
 go_simp
 refine Calls.mono (zLp b off n cap X Y _ (zK.below HPW.out (show Bw W W.drew by (repeat (first|exact Qr _ _|assumption|refine Qd ?_|refine Qa ?_ _|refine Qt ?_|refine Qs ?_ _|refine Qo ?_ ?_ _ _))) hblW) hblW hn0 hn HIN.out) ?_
 rintro e w2 ⟨g, cg, rfl, hgg, hgl, hcg, hPg, hb2⟩
 have hgW : W.heap.size ≤ g := hgg
 have hF2 : Bw W w2 := (show Bw W W.drew by (repeat (first|exact Qr _ _|assumption|refine Qd ?_|refine Qa ?_ _|refine Qt ?_|refine Qs ?_ _|refine Qo ?_ ?_ _ _))).trans hb2
 have hX2 : Below (w.heap.size + 1) W w2 := hF2.mono (Nat.le_of_lt hsz)
 go_wp2_with fail
 refine hK.out _ _ hX2 (fun hHeld => ?_)
 clear hK K hb2
 try simp only [Act.put, Qx, Qy, Qz]
 refine zN 10 fun K hK => ?_
 go_simp
 refine Calls.mono (HR.out _) ?_
 rintro e w3 ⟨rfl, hb3⟩
 have hF3 : Bw W w3 := zA hF2 hb3
 have hX3 : Below (w.heap.size + 1) W w3 := hF3.mono (Nat.le_of_lt hsz)
 have hP3 : zK w3 g 0 n (px (xH X Y n)) (py (xH X Y n)) := zK.below hPg hb3 hgl
 have hg3 : g < w3.heap.size := Nat.lt_of_lt_of_le hgl hb3.size
 have hge : W.heap.size ≤ g ∨ True := .inr trivial
 go_wp2_with fail
 refine hK.out _ _ hX3 (fun hHeld => ?_)
 clear hK K hb3
 try simp only [Act.put, Qx, Qy, Qz]
 refine zC (i := 11) (d := some 16) rfl rfl ?_
 try simp only [Act.put, Qx, Qy, Qz]
 have hT3 := HT.out.below hF3
 have HT3 : Hid (zD w3 (w.heap.size + 1) 4) := hT3
 have t0 := hT3.cell 0 (by omega)
 have t1 := hT3.cell 1 (by omega)
 have t2 := hT3.cell 2 (by omega)
 have t3 := hT3.cell 3 (by omega)
 have f0 := (hT3 0 (by omega)).2
 have f1 := (hT3 1 (by omega)).2
 have f2 := (hT3 2 (by omega)).2
 have f3 := (hT3 3 (by omega)).2
 clear hT3
 refine zN 12 fun K hK => ?_
 go_simp
 have HBs : Below (w.heap.size + 1) W ((((w3.setCell ⟨w.heap.size + 1, 0, none⟩ (.int .i64 id)).setCell ⟨w.heap.size + 1, 1, none⟩ (.func (.func fby) #[] #[])).setCell ⟨w.heap.size + 1, 2, none⟩ (.slice (some ⟨g, 0, none⟩) n cg)).setCell ⟨w.heap.size + 1, 3, none⟩ (.int .i64 rch)) := (((hX3.setCell (Nat.le_refl _) _).setCell (Nat.le_refl _) _).setCell (Nat.le_refl _) _).setCell (Nat.le_refl _) _
 refine hK.out _ _ HBs (fun hHeld => ?_)
 clear hK K
 try simp only [Act.put, Qx, Qy, Qz]
 refine wpAnyH_done (by kernel_rfl) ?_ _
 refine NoPanic.normal ?_
 go_wp2_with fail
 obtain ⟨q0, q1, q2, q3⟩ := zAt (a := .int .i64 id) (b := .func (.func fby) #[] #[]) (c := .slice (some ⟨g, 0, none⟩) n cg) (d := .int .i64 rch) HT3.out
 refine bodyPost_ret (v := .agg #[.int .i64 id, .func (.func fby) #[] #[], .slice (some ⟨g, 0, none⟩) n cg, .int .i64 rch]) (by simp [results, Tryz.results208, go_sem, q0, q1, q2, q3]) rfl ⟨g, cg, rfl, by simpa [World.setCell] using hg3, hcg, ?_, (HB0.out.trans (HBs.mono (Nat.le_succ _)))⟩
 exact (((hP3.apart (by omega)).apart (by omega)).apart (by omega)).apart (by omega)
theorem zMd {f : Nat} {fn : Func} (hf : Tryz.prog.funcs[f]? = some fn) (h1 : (fn.name == "runtime.NumGoroutine") = false) (hb : fn.body.isSome = true) (args : Array Value) (w : World) : (callFunc f args).run Tryz.prog w = .ok (.enter f args) w := by
 have h1' : fn.name ≠ "runtime.NumGoroutine" := by simpa using h1
 obtain ⟨c, hc⟩ := Option.isSome_iff_exists.1 hb
 simp [callFunc, hf, h1', hc]
theorem zSl (ki : Int) (args : Array Value) (w : World) : (callFunc (byF ki) args).run Tryz.prog w = .ok (.enter (byF ki) args) w := by
 unfold byF
 split
 ·exact zMd Tryz.func272 (by kernel_rfl) (by kernel_rfl) args w
 ·exact zMd Tryz.func273 (by kernel_rfl) (by kernel_rfl) args w
theorem by_any (ki wi z cx cy : Int) (g n cg : Nat) (X Y : Nat → Int) (w : World) (hp : zK w g 0 n (px (xH X Y n)) (py (xH X Y n))) (hg : g < w.heap.size) (hn0 : 0 < n) (hn : n ≤ 40) (hcg : n ≤ cg) :
  Calls Tryz.prog (byF ki) #[.agg #[.int .i64 cx, .int .i64 cy], .slice (some ⟨g, 0, none⟩) n cg, .int .i64 (yD wi z)] w fun e w' => e = .returned (.bool (uA ki wi z cx cy (xH X Y n))) ∧ Bw w w' := by
 have hdl := vZ X Y n
 unfold byF uA
 by_cases h : ki = 3
 ·rw [if_pos h, if_pos h, hdl]
  exact zI9 _ _ _ g n cg _ _ _ hp hg (by omega) hcg
 ·rw [if_neg h, if_neg h, hdl]
  exact zJc _ _ _ g n cg _ _ _ hp hg hn0 (by omega) hcg
theorem zN9 (id ki wi z cx cy : Int) (g n cg : Nat) (X Y : Nat → Int) (w : World) (hp : zK w g 0 n (px (xH X Y n)) (py (xH X Y n))) (hg : g < w.heap.size) (hn0 : 0 < n) (hn : n ≤ 40) (hcg : n ≤ cg) :
  Calls Tryz.prog 247 #[zO6 id ki wi z g n cg, .agg #[.int .i64 cx, .int .i64 cy]] w fun e w' => e = .returned (.bool (uA ki wi z cx cy (xH X Y n))) ∧ Bw w w' := by
 have HP : Hid (zK w g 0 n (px (xH X Y n)) (py (xH X Y n))) := hp
 have HC : Hid (∀ W, zK W g 0 n (px (xH X Y n)) (py (xH X Y n)) → g < W.heap.size → Calls Tryz.prog (byF ki) #[.agg #[.int .i64 cx, .int .i64 cy], .slice (some ⟨g, 0, none⟩) n cg, .int .i64 (yD wi z)] W fun e w' => e = .returned (.bool (uA ki wi z cx cy (xH X Y n))) ∧ Bw W w') := fun W h1 h2 => by_any ki wi z cx cy g n cg X Y W h1 h2 hn0 hn hcg
 have hce := zSl ki
 clear hp
 show Calls Tryz.prog 247 #[.agg #[.int .i64 id, .func (.func (byF ki)) #[] #[], .slice (some ⟨g, 0, none⟩) n cg, .int .i64 (yD wi z)], _] w _
 generalize byF ki = fby at *
 generalize yD wi z = rch at *
 generalize uA ki wi z cx cy (xH X Y n) = cv at *
 go_enter Tryz.func247, Tryz.ntmps247
 go_wp2_with fail
 generalize hW : ((w.alloc _).alloc _ : World) = W
 have hB0 : Bw w W := by subst hW; exact Qb
 clear hW
 refine Calls.mono (HC.out W (HP.out.below hB0 hg) (Nat.lt_of_lt_of_le hg hB0.size)) ?_
 rintro e w' ⟨rfl, hb⟩
 have HB : Hid (Bw w w') := zA hB0 hb
 clear hb hB0
 go_wp2
 go_ret
 exact ⟨rfl, HB.out⟩
theorem zGa {z x y wd ht:Int}(b:Nat)(w:World)(hA:zAo w b z x y wd ht)(hr:zBy z x y wd ht=true):Calls Tryz.prog 67 #[.pointer (some ⟨b,0,none⟩)] w fun e w'=>∃ v,e=.returned v∧zDm w.heap.size w' v (yV z x y wd ht) (xQ z x y wd)∧Bw w w':=by
 have e2:yV z x y wd ht=zDe y ht * zDe x wd:=by unfold yV;rw [if_pos hr]
 have hin:=zAd hr
 have nx:=zAr (x:=x) hin.1.1
 have ny:=zAr (x:=y) hin.1.2
 rw [e2]
 exact zP1 b w hA hr rfl rfl rfl rfl rfl rfl ⟨⟨nx.1,nx.2.1⟩,by omega⟩ ⟨⟨ny.1,ny.2.1⟩,by omega⟩ rfl
def zDu (z x y wd ht rz rx ry:Int):Bool:=zLe (xQ z x y wd) rz rx ry (yV z x y wd ht)
theorem zEi (z x y wd ht rz rx ry:Int)(w:World):Calls Tryz.prog 127 #[zFq z x y wd ht,uL rz rx ry] w fun e w'=>e=.returned (.bool (zDu z x y wd ht rz rx ry))∧Bw w w':=by
 have sV:∀ w,Calls Tryz.prog 80 #[zFq z x y wd ht] w fun e w'=>∃ a cap,e=.returned (.agg #[.int .i64 (uJ z x y wd ht),.slice a (yV z x y wd ht) cap])∧zOm w' a (yV z x y wd ht) (xQ z x y wd)∧Bw w w':=fun w=>(vH z x y wd ht w).mono fun e w' ⟨v,h1,h2,h3⟩=>by
  obtain ⟨a,cap,rfl,_,hI⟩:=h2.pts
  exact ⟨a,cap,h1,hI,h3⟩
 have hm:yV z x y wd ht≤1048576:=by have:=zBg z x y wd ht;omega
 have HC:Hid (∀ a cap w,zOm w a (yV z x y wd ht) (xQ z x y wd)→Calls Tryz.prog 173 #[.slice a (yV z x y wd ht) cap,uL rz rx ry] w fun e w'=>e=.returned (.bool (zDu z x y wd ht rz rx ry))∧Bw w w'):=fun a cap w h=>zHx a _ cap _ rz rx ry w h hm
 clear hm
 generalize zDu z x y wd ht rz rx ry=B at *
 generalize yV z x y wd ht=m at *
 generalize xQ z x y wd=R at *
 generalize uJ z x y wd ht=c at *
 have i1:∀ (a:Option Addr) (cap:Nat) w,(Instr.field 124 (.agg #[.int .i64 c,.slice a m cap]) 1).run Tryz.prog w=.ok (.slice a m cap) w:=fun _ _ _=>by kernel_rfl
 go_enter Tryz.func127,Tryz.ntmps127
 go_wp2_with fail
 generalize hW:((w.alloc _).alloc _:World)=W
 have HB0:Hid (Bw w W):=by show Below _ _ _;subst hW;exact Qb
 have c00:∀ W',Bw W W'→W'.cell? ⟨w.heap.size,0,none⟩=some (.int .i64 z):=Qc hW
 have c01:∀ W',Bw W W'→W'.cell? ⟨w.heap.size,1,none⟩=some (.int .i64 x):=Qc hW
 have c02:∀ W',Bw W W'→W'.cell? ⟨w.heap.size,2,none⟩=some (.int .i64 y):=Qc hW
 have c03:∀ W',Bw W W'→W'.cell? ⟨w.heap.size,3,none⟩=some (.int .i64 wd):=Qc hW
 have c04:∀ W',Bw W W'→W'.cell? ⟨w.heap.size,4,none⟩=some (.int .i64 ht):=Qc hW
 have c10:∀ W',Bw W W'→W'.cell? ⟨w.heap.size+1,0,none⟩=some (.int .i64 rz):=Qc hW
 have c11:∀ W',Bw W W'→W'.cell? ⟨w.heap.size+1,1,none⟩=some (.int .i64 rx):=Qc hW
 have c12:∀ W',Bw W W'→W'.cell? ⟨w.heap.size+1,2,none⟩=some (.int .i64 ry):=Qc hW
 clear hW
 have hr:Bw W W:=Below.refl _ _
 go_region_held3 (fun W'=>Bw W W') ((repeat (first|exact Qr _ _|assumption|refine Qd ?_|refine Qa ?_ _|refine Qt ?_|refine Qs ?_ _|refine Qo ?_ ?_ _ _)))
  (first
   | (go_at_call 80;refine (sV _).mono ?_;rintro e w1 ⟨a,cap,rfl,hI,hb⟩;have HI:Hid (zOm w1 a m R):=hI;clear hI)
   | (go_at_call 173;refine (HC.out _ _ _ HI.out).mono ?_;rintro e w2 ⟨rfl,hb⟩)
   | fail)
 go_wp2
 go_ret
 exact ⟨rfl,zA HB0.out (by assumption)⟩
def zCh (z v:Int):Int:=min (v / yI z) (zAp z - 1)
theorem zLx {z:Int}(h:yH z=true):16≤yI z∧yI z≤128:=by
 rcases zP h with rfl | rfl | rfl | rfl <;> decide
theorem zRn (ts:Array TypeId)(t:TypeId)(a b:Int)(w:World):(Builtin.min_ ts t #[.int .i64 a,.int .i64 b]).run Tryz.prog w=.ok (.int .i64 (min a b)) w:=by
 simp only [Builtin.min_,Builtin.min2,List.foldlM]
 by_cases h:a≤b
 ·have e:min a b=a:=by omega
  rw [e];simp;omega
 ·have e:min a b=b:=by omega
  rw [e];simp [h]
theorem zDq (w:World)(x y:Value)(t:TypeId):zD (w.alloc (.cells #[x,y] t)) w.heap.size 2:=fun o ho=>by
 have:o=0∨o=1:=by omega
 rcases this with rfl | rfl <;> exact ⟨⟨_,by simp [go_sem];rfl⟩,by simp [go_sem]⟩
def PtA (w:World)(b:Nat)(x y:Int):Prop:=w.cell? ⟨b,0,none⟩=some (.int .i64 x)∧w.cell? ⟨b,1,none⟩=some (.int .i64 y)
theorem PtA.put {W:World}{r:Nat}{x y:Int}(hT:zD W r 2):PtA ((W.setCell ⟨r,0,none⟩ (.int .i64 x)).setCell ⟨r,1,none⟩ (.int .i64 y)) r x y:=by
 obtain ⟨u0,h0⟩:=(hT 0 (by omega)).1
 obtain ⟨u1,h1⟩:=(hT 1 (by omega)).1
 have ne:∀ i j:Nat,i≠j→(⟨r,i,none⟩:Addr)≠⟨r,j,none⟩:=fun i j hij h=>hij (by injection h)
 refine ⟨?_,?_⟩
 ·rw [zB (ne 1 0 (by omega))];exact zG h0
 ·exact zG (by rw [zB (ne 0 1 (by omega))];exact h1)
theorem zAh {off:Nat}(id la ki wi z:Int)(b n cap:Nat)(X Y:Nat→Int)(lab:ByteArray)(pr:Int)(w:World)(hp:zK w b off n X Y)(hbl:b<w.heap.size)(hn0:0<n)(hin:inW (X 0) (Y 0)=true)(hz:yH z=true) :
  Calls Tryz.prog 156 #[.agg #[.int .i64 id,.int .i64 la,.int .i64 ki,.int .i64 wi,.slice (some ⟨b,off,none⟩) n cap,.string lab,.int .i64 pr],.int .i64 z] w fun e w'=>e=.returned (.agg #[.int .i64 (zCh z (X 0)),.int .i64 (zCh z (Y 0))])∧Bw w w':=by
 have sU:=fun w=>vO z w
 have sN:=fun w=>vP z w
 rw [show zH6 z=.agg #[.int .i64 0,.int .i64 (yI z)] by simp [zH6,hz]] at sU
 rw [show zTd z=.agg #[.int .i64 0,.int .i64 (zAp z)] by simp [zTd,hz]] at sN
 have hu:=zLx hz
 have hm:=xJ hz
 have hx:(0≤X 0∧X 0≤1024)∧(0≤Y 0∧Y 0≤1024):=by simpa [inW,inB] using hin
 unfold zCh
 generalize yI z=u at *
 generalize zAp z=m at *
 have d1:(X 0).tdiv u=X 0 / u:=Int.tdiv_eq_ediv_of_nonneg hx.1.1
 have d2:(Y 0).tdiv u=Y 0 / u:=Int.tdiv_eq_ediv_of_nonneg hx.2.1
 have d3:0≤X 0 / u∧X 0 / u≤1024:=⟨Int.ediv_nonneg hx.1.1 (by omega),Int.le_trans (Int.ediv_le_self _ hx.1.1) hx.1.2⟩
 have d4:0≤Y 0 / u∧Y 0 / u≤1024:=⟨Int.ediv_nonneg hx.2.1 (by omega),Int.le_trans (Int.ediv_le_self _ hx.2.1) hx.2.2⟩
 have f1:∀ w,(Instr.field 63 (.agg #[.int .i64 0,.int .i64 u]) 1).run Tryz.prog w=.ok (.int .i64 u) w:=fun _=>by kernel_rfl
 have f2:∀ w,(Instr.field 63 (.agg #[.int .i64 0,.int .i64 m]) 1).run Tryz.prog w=.ok (.int .i64 m) w:=fun _=>by kernel_rfl
 have hwm:IntKind.i64.wrap (m - 1)=m - 1:=IntWalk.i64_in _ (by omega)
 have hn1:(0:Int)<(n:Int):=by omega
 have p0:=(hp 0 hn0).1
 have p1:=(hp 0 hn0).2
 simp only [Nat.zero_mul,Nat.add_zero,Nat.mul_zero] at p0 p1
 clear hz hin
 go_enter Tryz.func156,Tryz.ntmps156
 go_wp2_with fail
 generalize hW:((w.alloc _).alloc _:World)=W
 have HB0:Hid (Bw w W):=by show Below _ _ _;subst hW;exact Qb
 have HT:Hid (zD W (w.heap.size+1) 2):=by
  show zD _ _ _
  subst hW
  have:=zDq (w.alloc (.cells #[.int .i64 id,.int .i64 la,.int .i64 ki,.int .i64 wi,.slice (some ⟨b,off,none⟩) n cap,.string lab,.int .i64 pr] 209)) (.int .i64 0) (.int .i64 0) 215
  simpa using this
 have c4:∀ W',Bw W W'→W'.cell? ⟨w.heap.size,4,none⟩=some (.slice (some ⟨b,off,none⟩) n cap):=Qc hW
 have hszW:W.heap.size=w.heap.size+2:=by subst hW;simp
 have HSZ:Hid (W.heap.size=w.heap.size+2):=hszW
 clear hszW hW
 have e0:∀ W',Bw W W'→W'.cell? ⟨b,off,none⟩=some (.int .i64 (X 0)):=fun W' h=>by
  rw [(zA HB0.out h).cell (p:=⟨b,off,none⟩) hbl];exact p0
 have e1:∀ W',Bw W W'→W'.cell? ⟨b,off+1,none⟩=some (.int .i64 (Y 0)):=fun W' h=>by
  rw [(zA HB0.out h).cell (p:=⟨b,off+1,none⟩) hbl];exact p1
 clear p0 p1 hp
 go_wp2_with fail
 go_cut [5,6,7] (fun p q r wc=>∃ b5:Nat,p=.pointer (some ⟨b5,0,none⟩)∧q=.int .i64 u∧r=.int .i64 (m - 1)∧PtA wc b5 (X 0) (Y 0)∧W.heap.size≤b5∧Bw W wc)
 case first =>
  refine wp_region_noPanic ?_
  refine wp_region_held_drew (S:=fun W'=>Bw W W') (by kernel_rfl) (by exact Qb) (fun hHeld=>?_)
  have hX0:Bw W W.drew:=hHeld
  refine zC (i:=0) (d:=some 8) rfl rfl ?_
  try simp only [Act.put,Qx,Qy,Qz]
  refine zC (i:=1) (d:=some 9) rfl rfl ?_
  try simp only [Act.put,Qx,Qy,Qz]
  refine zC (i:=2) (d:=some 10) rfl rfl ?_
  try simp only [Act.put,Qx,Qy,Qz]
  refine zC (i:=3) (d:=some 11) rfl rfl ?_
  try simp only [Act.put,Qx,Qy,Qz]
  refine zC (i:=4) (d:=some 12) rfl rfl ?_
  try simp only [Act.put,Qx,Qy,Qz]
  refine zC (i:=7) (d:=some 15) rfl rfl ?_
  try simp only [Act.put,Qx,Qy,Qz]
  refine wpAnyH_ready (rs:=[5,11]) (by kernel_rfl) (by simp) ?_
  refine (AllReadyH.cons rfl (fun K hK=>?_) (AllReadyH.cons rfl (fun K hK=>?_) AllReadyH.nil))
  ·rw [if_pos (by rfl)]
   go_simp
   refine Calls.mono (sU _) ?_
   rintro e wq1 ⟨rfl,hb1⟩
   have hXq1:Bw W wq1:=zA hX0 hb1
   go_wp2_with fail
   refine hK.out _ _ hXq1 (fun hHeld=>?_)
   clear hK K
   try simp only [Act.put,Qx,Qy,Qz]
   refine zC (i:=6) (d:=some 14) rfl rfl ?_
   try simp only [Act.put,Qx,Qy,Qz]
   refine wpAnyH_ready (rs:=[8,11]) (by kernel_rfl) (by simp) ?_
   refine (AllReadyH.cons rfl (fun K hK=>?_) (AllReadyH.cons rfl (fun K hK=>?_) AllReadyH.nil))
   ·rw [if_pos (by rfl)]
    go_simp
    refine Calls.mono (sN _) ?_
    rintro e wq2 ⟨rfl,hb2⟩
    have hXq2:Bw W wq2:=zA hXq1 hb2
    go_wp2_with fail
    refine hK.out _ _ hXq2 (fun hHeld=>?_)
    clear hK K
    try simp only [Act.put,Qx,Qy,Qz]
    refine zC (i:=9) (d:=some 17) rfl rfl ?_
    try simp only [Act.put,Qx,Qy,Qz]
    refine zC (i:=10) (d:=some 18) rfl rfl ?_
    try simp only [Act.put,Qx,Qy,Qz]
    refine zN 11 fun K hK=>?_
    rw [if_pos (by rfl)]
    go_simp
    generalize hwA:(World.alloc _ _:World)=wq3
    have hb3:Bw wq2 wq3:=by subst hwA;exact Qb
    have hT3:zD wq3 wq2.heap.size 2:=by subst hwA;exact zDq wq2 _ _ _
    clear hwA
    have hXq3:Bw W wq3:=zA hXq2 hb3
    have hs3:W.heap.size≤wq2.heap.size:=Below.size hXq2
    refine hK.out _ _ hXq3 (fun hHeld=>?_)
    clear hK K
    try simp only [Act.put,Qx,Qy,Qz]
    refine zN 12 fun K hK=>?_
    rw [if_pos (by rfl)]
    have t0:=hT3.cell 0 (by omega)
    have f0:=(hT3 0 (by omega)).2
    have t1:=hT3.cell 1 (by omega)
    have f1:=(hT3 1 (by omega)).2
    go_simp
    have hXs:Bw W ((wq3.setCell ⟨wq2.heap.size,0,none⟩ (.int .i64 (X 0))).setCell ⟨wq2.heap.size,1,none⟩ (.int .i64 (Y 0))):=(hXq3.setCell hs3 _).setCell hs3 _
    have hPs:=PtA.put (x:=X 0) (y:=Y 0) hT3
    generalize hwS:((wq3.setCell _ _).setCell _ _:World)=wS at *
    refine hK.out _ _ hXs (fun hHeld=>?_)
    clear hK K hwS t0 t1 f0 f1
    try simp only [Act.put,Qx,Qy,Qz]
    refine zC (i:=13) (d:=some 6) rfl rfl ?_
    try simp only [Act.put,Qx,Qy,Qz]
    refine zC (i:=14) (d:=some 7) rfl rfl ?_
    try simp only [Act.put,Qx,Qy,Qz]
    refine wpAnyH_done (by kernel_rfl) ?_ _
    refine NoPanic.normal ?_
    go_wp2_with fail
    go_meet
    case rel=>exact ⟨_,rfl,rfl,by first | rfl | rw [hwm],hPs,hs3,hXs⟩
   ·rw [if_pos (by rfl)]
    go_simp
    generalize hwA:(World.alloc _ _:World)=wq4
    have hb4:Bw wq1 wq4:=by subst hwA;exact Qb
    have hT4:zD wq4 wq1.heap.size 2:=by subst hwA;exact zDq wq1 _ _ _
    clear hwA
    have hXq4:Bw W wq4:=zA hXq1 hb4
    have hs4:W.heap.size≤wq1.heap.size:=Below.size hXq1
    refine hK.out _ _ hXq4 (fun hHeld=>?_)
    clear hK K
    try simp only [Act.put,Qx,Qy,Qz]
    refine zN 8 fun K hK=>?_
    rw [if_pos (by rfl)]
    go_simp
    refine Calls.mono (sN _) ?_
    rintro e wq5 ⟨rfl,hb5⟩
    have hXq5:Bw W wq5:=zA hXq4 hb5
    have hT5_:=zD.below hT4 hb5
    go_wp2_with fail
    refine hK.out _ _ hXq5 (fun hHeld=>?_)
    clear hK K
    try simp only [Act.put,Qx,Qy,Qz]
    refine zC (i:=9) (d:=some 17) rfl rfl ?_
    try simp only [Act.put,Qx,Qy,Qz]
    refine zC (i:=10) (d:=some 18) rfl rfl ?_
    try simp only [Act.put,Qx,Qy,Qz]
    refine zN 12 fun K hK=>?_
    rw [if_pos (by rfl)]
    have t0:=hT5_.cell 0 (by omega)
    have f0:=(hT5_ 0 (by omega)).2
    have t1:=hT5_.cell 1 (by omega)
    have f1:=(hT5_ 1 (by omega)).2
    go_simp
    have hXs:Bw W ((wq5.setCell ⟨wq1.heap.size,0,none⟩ (.int .i64 (X 0))).setCell ⟨wq1.heap.size,1,none⟩ (.int .i64 (Y 0))):=(hXq5.setCell hs4 _).setCell hs4 _
    have hPs:=PtA.put (x:=X 0) (y:=Y 0) hT5_
    generalize hwS:((wq5.setCell _ _).setCell _ _:World)=wS at *
    refine hK.out _ _ hXs (fun hHeld=>?_)
    clear hK K hwS t0 t1 f0 f1
    try simp only [Act.put,Qx,Qy,Qz]
    refine zC (i:=13) (d:=some 6) rfl rfl ?_
    try simp only [Act.put,Qx,Qy,Qz]
    refine zC (i:=14) (d:=some 7) rfl rfl ?_
    try simp only [Act.put,Qx,Qy,Qz]
    refine wpAnyH_done (by kernel_rfl) ?_ _
    refine NoPanic.normal ?_
    go_wp2_with fail
    go_meet
    case rel=>exact ⟨_,rfl,rfl,by first | rfl | rw [hwm],hPs,hs4,hXs⟩
  ·rw [if_pos (by rfl)]
   go_simp
   generalize hwA:(World.alloc _ _:World)=wq6
   have hb6:Bw W wq6.drew:=by subst hwA;exact Qb
   have hT6:zD wq6.drew W.heap.size 2:=by subst hwA;exact zDq W _ _ _
   clear hwA
   have hXq6:Bw W wq6.drew:=hb6
   have hs6:W.heap.size≤W.heap.size:=Nat.le_refl _
   refine hK.out _ _ hXq6 (fun hHeld=>?_)
   clear hK K
   try simp only [Act.put,Qx,Qy,Qz]
   refine zN 5 fun K hK=>?_
   rw [if_pos (by rfl)]
   go_simp
   refine Calls.mono (sU _) ?_
   rintro e wq7 ⟨rfl,hb7⟩
   have hXq7:Bw W wq7:=zA hXq6 hb7
   have hT7_:=zD.below hT6 hb7
   go_wp2_with fail
   refine hK.out _ _ hXq7 (fun hHeld=>?_)
   clear hK K
   try simp only [Act.put,Qx,Qy,Qz]
   refine zC (i:=6) (d:=some 14) rfl rfl ?_
   try simp only [Act.put,Qx,Qy,Qz]
   refine zN 8 fun K hK=>?_
   rw [if_pos (by rfl)]
   go_simp
   refine Calls.mono (sN _) ?_
   rintro e wq8 ⟨rfl,hb8⟩
   have hXq8:Bw W wq8:=zA hXq7 hb8
   have hT8_:=zD.below hT7_ hb8
   go_wp2_with fail
   refine hK.out _ _ hXq8 (fun hHeld=>?_)
   clear hK K
   try simp only [Act.put,Qx,Qy,Qz]
   refine zC (i:=9) (d:=some 17) rfl rfl ?_
   try simp only [Act.put,Qx,Qy,Qz]
   refine zC (i:=10) (d:=some 18) rfl rfl ?_
   try simp only [Act.put,Qx,Qy,Qz]
   refine zN 12 fun K hK=>?_
   rw [if_pos (by rfl)]
   have t0:=hT8_.cell 0 (by omega)
   have f0:=(hT8_ 0 (by omega)).2
   have t1:=hT8_.cell 1 (by omega)
   have f1:=(hT8_ 1 (by omega)).2
   go_simp
   have hXs:Bw W ((wq8.setCell ⟨W.heap.size,0,none⟩ (.int .i64 (X 0))).setCell ⟨W.heap.size,1,none⟩ (.int .i64 (Y 0))):=(hXq8.setCell hs6 _).setCell hs6 _
   have hPs:=PtA.put (x:=X 0) (y:=Y 0) hT8_
   generalize hwS:((wq8.setCell _ _).setCell _ _:World)=wS at *
   refine hK.out _ _ hXs (fun hHeld=>?_)
   clear hK K hwS t0 t1 f0 f1
   try simp only [Act.put,Qx,Qy,Qz]
   refine zC (i:=13) (d:=some 6) rfl rfl ?_
   try simp only [Act.put,Qx,Qy,Qz]
   refine zC (i:=14) (d:=some 7) rfl rfl ?_
   try simp only [Act.put,Qx,Qy,Qz]
   refine wpAnyH_done (by kernel_rfl) ?_ _
   refine NoPanic.normal ?_
   go_wp2_with fail
   go_meet
   case rel=>exact ⟨_,rfl,rfl,by first | rfl | rw [hwm],hPs,hs6,hXs⟩
 case rest =>
  obtain ⟨b5,rfl,rfl,rfl,hP,hle5,hBc⟩:=hcut
  generalize wc=wA at *
  have HBA:Hid (Bw w wA):=zA HB0.out hBc
  have HTA:Hid (zD wA (w.heap.size+1) 2):=HT.out.below hBc
  obtain ⟨q0,q1⟩:=hP
  have t0:=HTA.out.cell 0 (by omega)
  have t1:=HTA.out.cell 1 (by omega)
  have g0:=(HTA.out 0 (by omega)).2
  have g1:=(HTA.out 1 (by omega)).2
  have hne:b5≠w.heap.size+1:=by have:=HSZ.out;omega
  have hmin:=zRn
  have hu0:u≠0:=by omega
  clear hBc c4 e0 e1 sU sN
  go_wp2_with fail
  go_region
  go_wp2_with fail
  obtain ⟨z0,z1⟩:=PtA.put (x:=min (X 0 / u) (m - 1)) (y:=min (Y 0 / u) (m - 1)) HTA.out
  refine bodyPost_ret (v:=.agg #[.int .i64 (min (X 0 / u) (m - 1)),.int .i64 (min (Y 0 / u) (m - 1))]) (by simp [results,Tryz.results156,go_sem,z0,z1]) rfl ⟨rfl,?_⟩
  have HB:=HBA.out
  refine Below.drew (Below.setCell (Below.setCell ?_ ?_ _) ?_ _)
  ·first | exact HB | exact Below.drew HB | exact below_drewN HB _
  ·exact Nat.le_succ _
  ·exact Nat.le_succ _
end Go.Proofs.YtpaiholildedcaaGreat
