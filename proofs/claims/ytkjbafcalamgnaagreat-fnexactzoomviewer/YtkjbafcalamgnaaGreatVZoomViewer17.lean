/- Texts. -/
import Derived.Test.YtkjbafcalamgnaaGreatVZoomViewer12
import Derived.Test.YtkjbafcalamgnaaGreatVZoomViewer14
set_option linter.unusedSimpArgs false
set_option linter.unusedVariables false
set_option maxRecDepth 100000
set_option maxHeartbeats 32000000
namespace Go.Proofs.YtkjbafcalamgnaaGreat
open Go.RowKit
theorem zSv {id la ki wi:Int}{n:Nat}{X Y:Nat→Int}{lab:ByteArray}{pr:Int}(h:zM id la ki wi n X Y lab pr=0) :
  (ki=1∨ki=2∨ki=3)∧0<n∧n≤12∧(ki≤n)∧(∀ i,i<n→inW (X i) (Y i)=true)∧lab.size≤6:=by
 unfold zM at h
 split at h
 ·rename_i h1
  split at h
  ·rename_i h2
   split at h
   ·rename_i h3
    split at h
    ·rename_i h4
     have hk:1≤ki∧ki≤3:=by
      simp [zDx,inB] at h1
      omega
     have hlab:lab.size≤6:=by
      unfold zL5 at h4
      simp at h4
      exact h4.1
     have hin:∀ i,i<n→inW (X i) (Y i)=true:=of_decide_eq_true h3
     have hkk:ki=1∨ki=2∨ki=3:=by omega
     refine ⟨hkk,?_,?_,?_,hin,hlab⟩
     all_goals
      rcases hkk with rfl | rfl | rfl
      ·simp [vT] at h2;omega
      ·simp [vT,inB] at h2;omega
      ·simp [vT,inB] at h2;omega
    ·cases h
   ·cases h
  ·cases h
 ·cases h
theorem zU6 {id la ki wi:Int}{n:Nat}{X Y:Nat→Int}{lab:ByteArray}{pr:Int}(h:zM id la ki wi n X Y lab pr=0) :
  (1≤id∧id≤999)∧(0≤la∧la≤9)∧(0≤wi∧wi≤3)∧(0≤pr∧pr≤9):=by
 unfold zM at h
 split at h
 ·rename_i h1
  simp [zDx,inB] at h1
  omega
 ·cases h
def kindN (ki:Int)(n:Nat):Prop:=(ki=1∧n=1)∨(ki=2∧2≤n)∨(ki=3∧3≤n)
theorem zPv {id la wi:Int}{n:Nat}{X Y:Nat→Int}{lab:ByteArray}{pr:Int}(h:zM id la 1 wi n X Y lab pr=0):n=1:=by
 unfold zM at h
 split at h
 ·split at h
  ·rename_i h2
   simp [vT] at h2
   omega
  ·cases h
 ·cases h
def yZ (wi z:Int):Int:=(wi+1) * xS z
theorem zWh {wi z:Int}(hw:0≤wi∧wi≤3)(hz:xD z=true):16≤yZ wi z∧yZ wi z≤512:=by
 unfold yZ
 rcases zT hz with rfl | rfl | rfl | rfl
 all_goals
  simp only [show xS 0=128 from rfl,show xS 1=64 from rfl,show xS 2=32 from rfl,show xS 3=16 from rfl]
  omega
theorem zP9 {z:Int}(hz:xD z=true):xS z=128∨xS z=64∨xS z=32∨xS z=16:=by rcases zT hz with rfl | rfl | rfl | rfl <;> simp [xS]
theorem zO3 (id la ki wi z:Int)(v:Value)(lab:ByteArray)(pr:Int)(w:World)(hw:0≤wi∧wi≤3)(hz:xD z=true)(hv:∃ a n c,v=.slice a n c) :
  Calls Tryz.prog 220 #[.agg #[.int .i64 id,.int .i64 la,.int .i64 ki,.int .i64 wi,v,.string lab,.int .i64 pr],.int .i64 z] w fun e w'=>e=.returned (.int .i64 (yZ wi z))∧Bw w w':=by
 obtain ⟨a,n,c,rfl⟩:=hv
 have s1:=fun w=>zCa z w
 have hv:zRf z=.agg #[.int .i64 0,.int .i64 (xS z)]:=by simp [zRf,hz]
 simp only [hv] at s1
 have hbd:=zP9 hz
 have hr:Hid (yZ wi z=(wi+1) * xS z):=rfl
 generalize xS z=u at *
 have i1:∀ w,(Instr.field 185 (.agg #[.int .i64 0,.int .i64 u]) 1).run Tryz.prog w=.ok (.int .i64 u) w:=fun _=>by kernel_rfl
 have hS:=(show Hid _ from s1)
 clear s1 hv
 obtain ⟨hw0,hw1⟩:=hw
 go_enter Tryz.func220,Tryz.ntmps220
 go_wp2_with fail
 generalize hW:(w.alloc _:World)=W
 have hB0:Bw w W:=by subst hW;exact Qb
 have c3:∀ W',Bw W W'→W'.cell? ⟨w.heap.size,3,none⟩=some (.int .i64 wi):=Qc hW
 clear hW
 have hr0:Bw W W:=Below.refl _ _
 rcases hbd with rfl | rfl | rfl | rfl
 all_goals
  go_region_held3 (fun W'=>Bw W W') ((repeat (first|exact Qr _ _|assumption|refine Qd ?_|refine Qa ?_ _|refine Qt ?_|refine Qs ?_ _|refine Qo ?_ ?_ _ _)))
   (first | (go_at_call 224;refine (hS.out _).mono ?_;rintro e w' ⟨rfl,hb⟩))
  go_wp2
  go_ret
  exact ⟨zD (by rw [IntWalk.i64_in (wi+1) (by omega),IntWalk.i64_in _ (by omega)];exact hr.out.symm),zA hB0 (by assumption)⟩
def zAt (ki wi z cx cy:Int)(D:List (Int × Int)):Bool:=if ki=3 then xI cx cy D.length (px D) (py D) else byB cx cy (yZ wi z) (px D) (py D) D.length
theorem zHx (w:World):Calls Tryz.prog 218 #[.int .i64 3] w fun e w'=>e=.returned (.func (.func 238) #[] #[])∧w=w':=by
 go_enter Tryz.func218,Tryz.ntmps218
 go_wp2
 go_ret
 exact ⟨rfl,rfl⟩
theorem zHw (ki:Int)(w:World)(h:ki≠3):Calls Tryz.prog 218 #[.int .i64 ki] w fun e w'=>e=.returned (.func (.func 239) #[] #[])∧w=w':=by
 have hk:(ki == 3)=false:=by simpa using h
 go_enter Tryz.func218,Tryz.ntmps218
 go_wp2
 go_ret
 exact ⟨rfl,rfl⟩
theorem dbl_ok (X Y:Nat→Int)(n:Nat)(hin:∀ i,i<n→inW (X i) (Y i)=true):∀ i,i<n→okP (px (vR X Y n) i) (py (vR X Y n) i)=true:=fun i hi=>by
 obtain ⟨e1,e2⟩:=dblL_px X Y n i hi
 have:=zU0 (hin i hi)
 rw [e1,e2,zKw]
 omega
theorem zHm {px py ax ay bx by' r:Int}(hp:okP px py=true)(ha:okP ax ay=true)(hb:okP bx by'=true)(h0:0≤r)(h1:r≤4096):yH px py ax ay bx by' r=zEc px py ax ay bx by' r:=by
 simp [yH,hp,ha,hb,inB,h0,h1]
theorem zM1 (b off n cap:Nat)(X Y:Nat→Int)(w:World)(hp:zL w b off n X Y)(hbl:b<w.heap.size)(hn0:0<n)(hn:n≤40)(hin:∀ i,i<n→inW (X i) (Y i)=true) :
  Calls Tryz.prog 211 #[.slice (some ⟨b,off,none⟩) n cap] w fun e w'=>∃ g cg,e=.returned (.slice (some ⟨g,0,none⟩) n cg)∧g<w'.heap.size∧n≤cg∧zL w' g 0 n (px (vR X Y n)) (py (vR X Y n))∧Bw w w' :=
 (zK9 b off n cap X Y w hp hbl hn hin).mono fun e w' ⟨v,he,hR,hb⟩=>by
  obtain ⟨g,cg,hv,h1,h2,h3,h4⟩:=hR.at (by rw [zAs];exact hn0)
  rw [zAs] at hv h3 h4
  exact ⟨g,cg,by rw [he,hv],h2,h3,h4,hb⟩
theorem zHf (q o:Nat)(wi z:Int)(w:World)(hf:w.cell? ⟨q,o+3,none⟩=some (.int .i64 wi))(hw:0≤wi∧wi≤3)(hz:xD z=true) :
  Calls Tryz.prog 213 #[.pointer (some ⟨q,o,none⟩),.int .i64 z] w fun e w'=>e=.returned (.int .i64 (yZ wi z))∧Bw w w':=by
 have s1:=fun w=>zJo z w hz
 have hbd:=zP9 hz
 have hr:Hid (yZ wi z=(wi+1) * xS z):=rfl
 generalize xS z=u at *
 obtain ⟨hw0,hw1⟩:=hw
 have hS:=(show Hid _ from s1)
 clear s1
 have c3:∀ W',Bw w W'→W'.cell? ⟨q,o+3,none⟩=some (.int .i64 wi):=fun W' h=>zU h hf
 have hr0:Bw w w:=Below.refl _ _
 clear hf
 rcases hbd with rfl | rfl | rfl | rfl
 all_goals
  go_enter Tryz.func213,Tryz.ntmps213
  go_wp2_with fail
  go_region_held3 (fun W'=>Bw w W') ((repeat (first|exact Qr _ _|assumption|refine Qd ?_|refine Qa ?_ _|refine Qt ?_|refine Qs ?_ _|refine Qo ?_ ?_ _ _)))
   (first | (go_at_call 233;refine (hS.out _).mono ?_;rintro e w1 ⟨rfl,rfl⟩))
  go_wp2
  go_ret
  exact ⟨zD (by rw [IntWalk.i64_in (wi+1) (by omega),IntWalk.i64_in _ (by omega)];exact hr.out.symm),by assumption⟩
theorem zM0 (q o:Nat)(id la ki wi z x y:Int)(b off n cap:Nat)(X Y:Nat→Int)(lab:ByteArray)(pr:Int)(w:World)(hf:zAh w q o id la ki wi (.slice (some ⟨b,off,none⟩) n cap) lab pr)(hp:zL w b off n X Y)(hbl:b<w.heap.size)(hn:n≤40)(hkn:kindN ki n)(hin:∀ i,i<n→inW (X i) (Y i)=true)(hw:0≤wi∧wi≤3)(hpx:zBg z x y=true) :
  Calls Tryz.prog 191 #[.pointer (some ⟨q,o,none⟩),.int .i64 z,.int .i64 x,.int .i64 y] w fun e w'=>e=.returned (.bool (zAt ki wi z (yT z x) (yT z y) (vR X Y n)))∧Bw w w':=by
 have hz:=uJ hpx
 have hcok:=cent_ok hpx
 have HCK:Hid (okP (yT z x) (yT z y)=true):=hcok
 have hrb:=zWh hw hz
 have hn0:0<n:=by rcases hkn with ⟨_,h⟩ | ⟨_,h⟩ | ⟨_,h⟩ <;> omega
 have HF:Hid (zAh w q o id la ki wi (.slice (some ⟨b,off,none⟩) n cap) lab pr):=hf
 have hql:q<w.heap.size:=World.block_lt_of_cell? _ _ hf.1
 have HP:Hid (zL w b off n X Y):=hp
 have HIN:Hid (∀ i,i<n→inW (X i) (Y i)=true):=hin
 have HOK:Hid (∀ i,i<n→okP (px (vR X Y n) i) (py (vR X Y n) i)=true):=dbl_ok X Y n hin
 have HW:Hid (0≤wi∧wi≤3):=hw
 have HPX:Hid (zBg z x y=true):=hpx
 have hdl:=zAs X Y n
 have Hce:=(show Hid _ from fun w=>zM2 z x y w hpx)
 generalize yT z x=cx at *
 generalize yT z y=cy at *
 generalize hD:vR X Y n=D at *
 have HD:Hid (vR X Y n=D):=hD
 clear hp hin hw hpx hf hcok hD
 go_enter Tryz.func191,Tryz.ntmps191
 go_wp2_with fail
 refine (Hce.out _).mono ?_
 rintro e w1 ⟨rfl,hb1⟩
 obtain ⟨q0,q1,q2,q3,q4,q5,q6⟩:=HF.out.below hb1 hql
 have hql1:q<w1.heap.size:=Nat.lt_of_lt_of_le hql hb1.size
 go_wp2_with fail
 generalize hW:(w1.alloc _:World)=W
 have hbW1:Bw w1 W:=by subst hW;exact Qb
 have d0:∀ W',Bw W W'→W'.cell? ⟨w1.heap.size,0,none⟩=some (.int .i64 cx):=Qc hW
 have d1:∀ W',Bw W W'→W'.cell? ⟨w1.heap.size,1,none⟩=some (.int .i64 cy):=Qc hW
 have hszW:w1.heap.size<W.heap.size:=by subst hW;simp
 clear hW
 have hBW:Bw w W:=zA hb1 hbW1
 have HBW:Hid (Bw w W):=hBW
 have HFW:Hid (zAh W q o id la ki wi (.slice (some ⟨b,off,none⟩) n cap) lab pr):=HF.out.below hBW hql
 have hqlW:q<W.heap.size:=Nat.lt_of_lt_of_le hql hBW.size
 clear q0 q1 q2 q3 q4 q5 q6 hb1 hbW1
 refine (zM1 b off n cap X Y W (HP.out.below hBW hbl) (Nat.lt_of_lt_of_le hbl hBW.size) hn0 hn HIN.out).mono ?_
 rw [HD.out]
 rintro e w2 ⟨g,cg,rfl,hgl,hcg,hPg,hb2⟩
 have HPg:Hid (zL w2 g 0 n (px D) (py D)):=hPg
 obtain ⟨q0,q1,q2,q3,q4,q5,q6⟩:=HFW.out.below hb2 hqlW
 have hB2:Bw W w2:=hb2
 have hql2:q<w2.heap.size:=Nat.lt_of_lt_of_le hqlW hb2.size
 have k0:=d0 w2 hb2
 have k1:=d1 w2 hb2
 have hsz2:=hb2.size
 clear hb2 hBW hPg
 rcases hkn with ⟨rfl,rfl⟩ | ⟨rfl,h2⟩ | ⟨rfl,h3⟩
 ·have HK:Hid (zAt 1 wi z cx cy D=zEc cx cy (px D 0) (py D 0) (px D 0) (py D 0) (yZ wi z)):=by
   show _=_
   simp only [zAt,hdl]
   rw [if_neg (by decide)]
   simp only [byB,Bool.false_or]
   exact zHm HCK.out (HOK.out 0 (by omega)) (HOK.out 0 (by omega)) (by omega) (by omega)
  go_wp2_with fail
  refine (zHf q o wi z _ q3 HW.out hz).mono ?_
  rintro e w3 ⟨rfl,hb3⟩
  have hB3:Bw W w3:=zA hB2 hb3
  have hg3:g<w3.heap.size:=Nat.lt_of_lt_of_le hgl hb3.size
  have e0:∀ W',Bw w3 W'→W'.cell? ⟨g,0,none⟩=some (.int .i64 (px D 0)):=fun W' h=>by simpa using ((HPg.out.below hb3 hgl).below h hg3 0 (by omega)).1
  have e1:∀ W',Bw w3 W'→W'.cell? ⟨g,1,none⟩=some (.int .i64 (py D 0)):=fun W' h=>by simpa using ((HPg.out.below hb3 hgl).below h hg3 0 (by omega)).2
  have m0:∀ W',Bw w3 W'→W'.cell? ⟨w1.heap.size,0,none⟩=some (.int .i64 cx):=fun W' h=>d0 W' (zA hB3 h)
  have m1:∀ W',Bw w3 W'→W'.cell? ⟨w1.heap.size,1,none⟩=some (.int .i64 cy):=fun W' h=>d1 W' (zA hB3 h)
  have hr3:Bw w3 w3:=Below.refl _ _
  obtain ⟨p0,p1,p2,p3,p4,p5,p6⟩:=HFW.out.below hB3 hqlW
  clear q0 q1 q2 q3 q4 q5 q6 k0 k1 d0 d1
  generalize yZ wi z=r at *
  go_wp2_with fail
  go_region_held3 (fun W'=>Bw w3 W') ((repeat (first|exact Qr _ _|assumption|refine Qd ?_|refine Qa ?_ _|refine Qt ?_|refine Qs ?_ _|refine Qo ?_ ?_ _ _)))
   (first | (go_at_call 214;refine (zJq cx cy _ _ _ _ r _ HCK.out (HOK.out 0 (by omega)) (HOK.out 0 (by omega)) (by omega) (by omega)).mono ?_;rintro e w4 ⟨rfl,hb4⟩))
  go_wp2_with fail
  go_ret
  exact ⟨zI HK.out.symm,zA HBW.out (zA hB3 (by assumption))⟩
 ·have HK:Hid (zAt 2 wi z cx cy D=zJb cx cy (yZ wi z) (px D) (py D) (n - 1)):=by
   show _=_
   simp only [zAt,hdl]
   rw [if_neg (by decide)]
   exact zXz _ _ _ _ _ _ h2 (HOK.out 1 (by omega))
  go_wp2_with fail
  refine (zHf q o wi z _ q3 HW.out hz).mono ?_
  rintro e w3 ⟨rfl,hb3⟩
  have hB3:Bw W w3:=zA hB2 hb3
  have HP3:Hid (zL w3 g 0 n (px D) (py D)):=HPg.out.below hb3 hgl
  have hg3:g<w3.heap.size:=Nat.lt_of_lt_of_le hgl hb3.size
  have HB3:Hid (Bw w w3):=zA HBW.out hB3
  obtain ⟨p0,p1,p2,p3,p4,p5,p6⟩:=HFW.out.below hB3 hqlW
  have m0:∀ W',Bw w3 W'→W'.cell? ⟨w1.heap.size,0,none⟩=some (.int .i64 cx):=fun W' h=>d0 W' (zA hB3 h)
  have m1:∀ W',Bw w3 W'→W'.cell? ⟨w1.heap.size,1,none⟩=some (.int .i64 cy):=fun W' h=>d1 W' (zA hB3 h)
  have hsz3:w1.heap.size<w3.heap.size:=by have:=hB3.size;omega
  clear q0 q1 q2 q3 q4 q5 q6 k0 k1 d0 d1 hb3 hB2 hB3 HFW HF HP
  generalize yZ wi z=r at *
  go_wp2_with fail
  go_loopw [12] (fun i wr=>∃ k:Nat,k+1≤n∧i=.int .i64 (k:Int)∧zJb cx cy r (px D) (py D) k=false∧Bw w3 wr) (fun i _=>n - (intOf i).toNat)
  case atStart=>exact ⟨0,by omega,rfl,rfl,Below.refl _ _⟩
  case round =>
   obtain ⟨k,hk,rfl,hF,hB⟩:=hrel
   have HF:Hid (zJb cx cy r (px D) (py D) k=false):=hF
   have HB:Hid (Bw w3 wr):=hB
   have n0:=m0 wr hB
   have n1:=m1 wr hB
   have hszr:=hB.size
   by_cases hlt:k+1<n
   ·have hgr:g<wr.heap.size:=by omega
    have e0:∀ W',Bw wr W'→W'.cell? ⟨g,k * 2,none⟩=some (.int .i64 (px D k)):=fun W' h=>by simpa using ((HP3.out.below HB.out hg3).below h hgr k (by omega)).1
    have e1:∀ W',Bw wr W'→W'.cell? ⟨g,k * 2+1,none⟩=some (.int .i64 (py D k)):=fun W' h=>by simpa using ((HP3.out.below HB.out hg3).below h hgr k (by omega)).2
    have e2:∀ W',Bw wr W'→W'.cell? ⟨g,(k+1) * 2,none⟩=some (.int .i64 (px D (k+1))):=fun W' h=>by simpa using ((HP3.out.below HB.out hg3).below h hgr (k+1) hlt).1
    have e3:∀ W',Bw wr W'→W'.cell? ⟨g,(k+1) * 2+1,none⟩=some (.int .i64 (py D (k+1))):=fun W' h=>by simpa using ((HP3.out.below HB.out hg3).below h hgr (k+1) hlt).2
    have o0:∀ W',Bw wr W'→W'.cell? ⟨w1.heap.size,0,none⟩=some (.int .i64 cx):=fun W' h=>m0 W' (zA HB.out h)
    have o1:∀ W',Bw wr W'→W'.cell? ⟨w1.heap.size,1,none⟩=some (.int .i64 cy):=fun W' h=>m1 W' (zA HB.out h)
    have hrr:Bw wr wr:=Below.refl _ _
    have hi1:(k:Int)+1<(n:Int):=by omega
    have hi0:(k:Int)<(n:Int):=by omega
    have hwr:IntKind.i64.wrap ((k:Int)+1)=(k:Int)+1:=IntWalk.i64_in _ (by omega)
    have hto:((k:Int)+1).toNat=k+1:=by omega
    have hi00:(0:Int)≤(k:Int)+1:=by omega
    clear hF hB n0 n1
    go_wp2_with fail
    go_region_held3 (fun W'=>Bw wr W') ((repeat (first|exact Qr _ _|assumption|refine Qd ?_|refine Qa ?_ _|refine Qt ?_|refine Qs ?_ _|refine Qo ?_ ?_ _ _)))
     (first | (go_at_call 214;refine (zJq cx cy _ _ _ _ r _ HCK.out (HOK.out k (by omega)) (HOK.out (k+1) hlt) (by omega) (by omega)).mono ?_;rintro e w4 ⟨rfl,hb4'⟩))
    have hb4:Bw wr w4:=by assumption
    cases hq:zEc cx cy (px D k) (py D k) (px D (k+1)) (py D (k+1)) r
    ·have HK1:Hid (zJb cx cy r (px D) (py D) (k+1)=false):=by
      show _=_
      rw [zJb,HF.out,zHm HCK.out (HOK.out k (by omega)) (HOK.out (k+1) hlt) (by omega) (by omega),hq];rfl
     go_wp2_with fail
     go_roundw
     case rel=>exact ⟨k+1,by omega,by go_num,HK1.out,zA HB.out hb4⟩
     case measure=>simp [intOf];omega
    ·have HK1:Hid (zJb cx cy r (px D) (py D) (n - 1)=true):=zT6 (k+1) (by
      rw [zJb,zHm HCK.out (HOK.out k (by omega)) (HOK.out (k+1) hlt) (by omega) (by omega),hq];simp) (n - 1) (by omega)
     go_wp2_with fail
     go_ret
     exact ⟨zI (by rw [HK.out,HK1.out]),zA HB3.out (zA HB.out hb4)⟩
   ·have hkk:k=n - 1:=by omega
    have hi1:¬ (k:Int)+1<(n:Int):=by omega
    have HK1:Hid (zJb cx cy r (px D) (py D) (n - 1)=false):=by show _=_;rw [← hkk];exact HF.out
    clear hF hB
    go_wp2_with fail
    go_ret
    exact ⟨zI (by rw [HK.out,HK1.out]),zA HB3.out HB.out⟩
 ·have HK:Hid (zAt 3 wi z cx cy D=uO (uZ cx cy n (px D) (py D)) n):=by
   show _=_
   simp only [zAt,hdl,if_true]
   have ha:zN7 n (px D) (py D)=true:=decide_eq_true HOK.out
   simp [xI,HCK.out,ha,h3,hn]
  go_wp2_with fail
  refine (zM3 _ _ g n cg _ _ _ HCK.out HPg.out hgl HOK.out hcg (by omega)).mono ?_
  rintro e w4 ⟨rfl,hb4⟩
  go_wp2_with fail
  go_ret
  exact ⟨zI HK.out.symm,zA HBW.out (zA hB2 hb4)⟩
theorem zPz (b off n cap : Nat) (X Y : Nat → Int) (w : World) (hp : zL w b off n X Y) (hbl : b < w.heap.size) (hn0 : 0 < n) (hn : n ≤ 40) (hin : ∀ i, i < n → inW (X i) (Y i) = true) :
  Calls Tryz.prog 219 #[.slice (some ⟨b, off, none⟩) n cap] w fun e w' => ∃ g cg, e = .returned (.slice (some ⟨g, 0, none⟩) n cg) ∧ w.heap.size ≤ g ∧ g < w'.heap.size ∧ n ≤ cg ∧ zL w' g 0 n (px (vR X Y n)) (py (vR X Y n)) ∧ Bw w w' :=
 (zP0 b off n cap X Y w hp hbl hn hin).mono fun e w' ⟨v, he, hR, hb⟩ => by
  obtain ⟨g, cg, hv, h1, h2, h3, h4⟩ := hR.at (by rw [zAs]; exact hn0)
  rw [zAs] at hv h3 h4
  exact ⟨g, cg, by rw [he, hv], h1, h2, h3, h4, hb⟩
theorem zL.apart {w : World} {b r o n : Nat} {v : Value} {X Y : Nat → Int} (h : zL w b 0 n X Y) (hr : b ≠ r) : zL (w.setCell ⟨r, o, none⟩ v) b 0 n X Y := fun i hi =>
 ⟨(zB (fun e => hr (by injection e with e1; exact e1.symm))).trans (h i hi).1, (zB (fun e => hr (by injection e with e1; exact e1.symm))).trans (h i hi).2⟩
def byF (ki : Int) : Nat := if ki = 3 then 238 else 239
abbrev zT2 (id ki wi z : Int) (g n cg : Nat) : Value := .agg #[.int .i64 id, .func (.func (byF ki)) #[] #[], .slice (some ⟨g, 0, none⟩) n cg, .int .i64 (yZ wi z)]
theorem zLu (ki : Int) (w : World) : Calls Tryz.prog 218 #[.int .i64 ki] w fun e w' => e = .returned (.func (.func (byF ki)) #[] #[]) ∧ w = w' := by
 unfold byF
 by_cases h : ki = 3
 ·subst h
  exact zHx w
 ·rw [if_neg h]
  exact zHw ki w h
theorem there4s (V : World) (a b c d : Value) (t : TypeId) : zC (V.alloc (.cells #[a, b, c, d] t)) V.heap.size 4 := fun o ho => by
 have : o = 0 ∨ o = 1 ∨ o = 2 ∨ o = 3 := by omega
 rcases this with rfl | rfl | rfl | rfl <;> exact ⟨⟨_, by simp [go_sem]; rfl⟩, by simp [go_sem]⟩
theorem zO2 {off : Nat} (id la ki wi z : Int) (b n cap : Nat) (X Y : Nat → Int) (lab : ByteArray) (pr : Int) (w : World) (hp : zL w b off n X Y) (hbl : b < w.heap.size) (hn0 : 0 < n) (hn : n ≤ 40) (hin : ∀ i, i < n → inW (X i) (Y i) = true) (hw : 0 ≤ wi ∧ wi ≤ 3) (hz : xD z = true) :
  Calls Tryz.prog 194 #[.agg #[.int .i64 id, .int .i64 la, .int .i64 ki, .int .i64 wi, .slice (some ⟨b, off, none⟩) n cap, .string lab, .int .i64 pr], .int .i64 z] w fun e w' => ∃ g cg, e = .returned (zT2 id ki wi z g n cg) ∧ g < w'.heap.size ∧ n ≤ cg ∧ zL w' g 0 n (px (vR X Y n)) (py (vR X Y n)) ∧ Bw w w' := by
 have HP : Hid (zL w b off n X Y) := hp
 have HIN : Hid (∀ i, i < n → inW (X i) (Y i) = true) := hin
 have HW : Hid (0 ≤ wi ∧ wi ≤ 3) := hw
 have HR : Hid (∀ W, Calls Tryz.prog 220 #[.agg #[.int .i64 id, .int .i64 la, .int .i64 ki, .int .i64 wi, .slice (some ⟨b, off, none⟩) n cap, .string lab, .int .i64 pr], .int .i64 z] W fun e w' => e = .returned (.int .i64 (yZ wi z)) ∧ Bw W w') := fun W => zO3 id la ki wi z _ lab pr W hw hz ⟨_, _, _, rfl⟩
 have HV : Hid (∀ W, Calls Tryz.prog 218 #[.int .i64 ki] W fun e w' => e = .returned (.func (.func (byF ki)) #[] #[]) ∧ W = w') := fun W => zLu ki W
 clear hp hin hw
 show Calls Tryz.prog 194 _ w fun e w' => ∃ g cg, e = .returned (.agg #[.int .i64 id, .func (.func (byF ki)) #[] #[], .slice (some ⟨g, 0, none⟩) n cg, .int .i64 (yZ wi z)]) ∧ g < w'.heap.size ∧ n ≤ cg ∧ zL w' g 0 n (px (vR X Y n)) (py (vR X Y n)) ∧ Bw w w'
 generalize byF ki = fby at *
 generalize yZ wi z = rch at *
 have hsf : ∀ (a : Addr) (m : Mode) (w : World), (store a (.func (.func fby) #[] #[]) m).run Tryz.prog w = stored Tryz.prog w a (.func (.func fby) #[] #[]) m := fun a m w => run_store Tryz.prog w a _ m rfl
 go_enter Tryz.func194, Tryz.ntmps194
 go_wp2_with fail
 generalize hW : ((w.alloc _).alloc _ : World) = W
 have hB0 : Bw w W := by subst hW; exact Qb
 have HT : Hid (zC W (w.heap.size + 1) 4) := by
  show zC _ _ _
  subst hW
  have := there4s (w.alloc (.cells #[.int .i64 id, .int .i64 la, .int .i64 ki, .int .i64 wi, .slice (some ⟨b, off, none⟩) n cap, .string lab, .int .i64 pr] 138)) (.int .i64 0) .nilFunc (.slice none 0 0) (.int .i64 0) 254
  simpa using this
 have c0 : ∀ W', Below (w.heap.size + 1) W W' → W'.cell? ⟨w.heap.size, 0, none⟩ = some (.int .i64 id) := fun W' h => by
  rw [h.cell (by simp)]; subst hW; simp [go_sem]
 have c1 : ∀ W', Below (w.heap.size + 1) W W' → W'.cell? ⟨w.heap.size, 1, none⟩ = some (.int .i64 la) := fun W' h => by
  rw [h.cell (by simp)]; subst hW; simp [go_sem]
 have c2 : ∀ W', Below (w.heap.size + 1) W W' → W'.cell? ⟨w.heap.size, 2, none⟩ = some (.int .i64 ki) := fun W' h => by
  rw [h.cell (by simp)]; subst hW; simp [go_sem]
 have c3 : ∀ W', Below (w.heap.size + 1) W W' → W'.cell? ⟨w.heap.size, 3, none⟩ = some (.int .i64 wi) := fun W' h => by
  rw [h.cell (by simp)]; subst hW; simp [go_sem]
 have c4 : ∀ W', Below (w.heap.size + 1) W W' → W'.cell? ⟨w.heap.size, 4, none⟩ = some (.slice (some ⟨b, off, none⟩) n cap) := fun W' h => by
  rw [h.cell (by simp)]; subst hW; simp [go_sem]
 have c5 : ∀ W', Below (w.heap.size + 1) W W' → W'.cell? ⟨w.heap.size, 5, none⟩ = some (.string lab) := fun W' h => by
  rw [h.cell (by simp)]; subst hW; simp [go_sem]
 have c6 : ∀ W', Below (w.heap.size + 1) W W' → W'.cell? ⟨w.heap.size, 6, none⟩ = some (.int .i64 pr) := fun W' h => by
  rw [h.cell (by simp)]; subst hW; simp [go_sem]
 have hsz : w.heap.size + 1 < W.heap.size := by subst hW; simp
 clear hW
 have HB0 : Hid (Bw w W) := hB0
 have HPW : Hid (zL W b off n X Y) := HP.out.below hB0 hbl
 have hblW : b < W.heap.size := Nat.lt_of_lt_of_le hbl hB0.size
 clear hB0 HP
 refine wp_region_noPanic ?_
 refine wp_region_held_drew (S := fun W' => Below (w.heap.size + 1) W W') (by kernel_rfl) (by exact Qb) (fun hHeld => ?_)
 have hX0 : Below (w.heap.size + 1) W W.drew := hHeld
 refine zF (i := 0) (d := some 5) rfl rfl ?_
 try simp only [Act.put, Qx, Qy, Qz]
 refine zF (i := 1) (d := some 6) rfl rfl ?_
 try simp only [Act.put, Qx, Qy, Qz]
 refine zF (i := 2) (d := some 7) rfl rfl ?_
 try simp only [Act.put, Qx, Qy, Qz]
 refine zF (i := 3) (d := some 8) rfl rfl ?_
 try simp only [Act.put, Qx, Qy, Qz]
 refine zF (i := 5) (d := some 10) rfl rfl ?_
 try simp only [Act.put, Qx, Qy, Qz]
 refine zF (i := 6) (d := some 11) rfl rfl ?_
 try simp only [Act.put, Qx, Qy, Qz]
 refine zF (i := 8) (d := some 13) rfl rfl ?_
 try simp only [Act.put, Qx, Qy, Qz]
 refine zF (i := 9) (d := some 14) rfl rfl ?_
 try simp only [Act.put, Qx, Qy, Qz]
 refine zN 4 fun K hK => ?_
 go_simp
 refine Calls.mono (HV.out _) ?_
 rintro e w1 ⟨rfl, rfl⟩
 go_wp2_with fail
 refine hK.out _ _ hX0 (fun hHeld => ?_)
 clear hK K
 try simp only [Act.put, Qx, Qy, Qz]
 refine zN 7 fun K hK => ?_
 go_simp
 refine Calls.mono (zPz b off n cap X Y _ (zL.below HPW.out (show Bw W W.drew by (repeat (first|exact Qr _ _|assumption|refine Qd ?_|refine Qa ?_ _|refine Qt ?_|refine Qs ?_ _|refine Qo ?_ ?_ _ _))) hblW) hblW hn0 hn HIN.out) ?_
 rintro e w2 ⟨g, cg, rfl, hgg, hgl, hcg, hPg, hb2⟩
 have hgW : W.heap.size ≤ g := hgg
 have hF2 : Bw W w2 := (show Bw W W.drew by (repeat (first|exact Qr _ _|assumption|refine Qd ?_|refine Qa ?_ _|refine Qt ?_|refine Qs ?_ _|refine Qo ?_ ?_ _ _))).trans hb2
 have hX2 : Below (w.heap.size + 1) W w2 := hF2.mono (Nat.le_of_lt hsz)
 go_wp2_with fail
 refine hK.out _ _ hX2 (fun hHeld => ?_)
 clear hK K hb2
 try simp only [Act.put, Qx, Qy, Qz]
 refine zN 10 fun K hK => ?_
 go_simp
 refine Calls.mono (HR.out _) ?_
 rintro e w3 ⟨rfl, hb3⟩
 have hF3 : Bw W w3 := zA hF2 hb3
 have hX3 : Below (w.heap.size + 1) W w3 := hF3.mono (Nat.le_of_lt hsz)
 have hP3 : zL w3 g 0 n (px (vR X Y n)) (py (vR X Y n)) := zL.below hPg hb3 hgl
 have hg3 : g < w3.heap.size := Nat.lt_of_lt_of_le hgl hb3.size
 have hge : W.heap.size ≤ g ∨ True := .inr trivial
 go_wp2_with fail
 refine hK.out _ _ hX3 (fun hHeld => ?_)
 clear hK K hb3
 try simp only [Act.put, Qx, Qy, Qz]
 refine zF (i := 11) (d := some 16) rfl rfl ?_
 try simp only [Act.put, Qx, Qy, Qz]
 have hT3 := HT.out.below hF3
 have HT3 : Hid (zC w3 (w.heap.size + 1) 4) := hT3
 have t0 := hT3.cell 0 (by omega)
 have t1 := hT3.cell 1 (by omega)
 have t2 := hT3.cell 2 (by omega)
 have t3 := hT3.cell 3 (by omega)
 have f0 := (hT3 0 (by omega)).2
 have f1 := (hT3 1 (by omega)).2
 have f2 := (hT3 2 (by omega)).2
 have f3 := (hT3 3 (by omega)).2
 clear hT3
 refine zN 12 fun K hK => ?_
 go_simp
 have HBs : Below (w.heap.size + 1) W ((((w3.setCell ⟨w.heap.size + 1, 0, none⟩ (.int .i64 id)).setCell ⟨w.heap.size + 1, 1, none⟩ (.func (.func fby) #[] #[])).setCell ⟨w.heap.size + 1, 2, none⟩ (.slice (some ⟨g, 0, none⟩) n cg)).setCell ⟨w.heap.size + 1, 3, none⟩ (.int .i64 rch)) := (((hX3.setCell (Nat.le_refl _) _).setCell (Nat.le_refl _) _).setCell (Nat.le_refl _) _).setCell (Nat.le_refl _) _
 refine hK.out _ _ HBs (fun hHeld => ?_)
 clear hK K
 try simp only [Act.put, Qx, Qy, Qz]
 refine wpAnyH_done (by kernel_rfl) ?_ _
 refine NoPanic.normal ?_
 go_wp2_with fail
 obtain ⟨q0, q1, q2, q3⟩ := zBh (a := .int .i64 id) (b := .func (.func fby) #[] #[]) (c := .slice (some ⟨g, 0, none⟩) n cg) (d := .int .i64 rch) HT3.out
 refine bodyPost_ret (v := .agg #[.int .i64 id, .func (.func fby) #[] #[], .slice (some ⟨g, 0, none⟩) n cg, .int .i64 rch]) (by simp [results, Tryz.results194, go_sem, q0, q1, q2, q3]) rfl ⟨g, cg, rfl, by simpa [World.setCell] using hg3, hcg, ?_, (HB0.out.trans (HBs.mono (Nat.le_succ _)))⟩
 exact (((hP3.apart (by omega)).apart (by omega)).apart (by omega)).apart (by omega)
theorem zQx {f : Nat} {fn : Func} (hf : Tryz.prog.funcs[f]? = some fn) (h1 : (fn.name == "runtime.NumGoroutine") = false) (hb : fn.body.isSome = true) (args : Array Value) (w : World) : (callFunc f args).run Tryz.prog w = .ok (.enter f args) w := by
 have h1' : fn.name ≠ "runtime.NumGoroutine" := by simpa using h1
 obtain ⟨c, hc⟩ := Option.isSome_iff_exists.1 hb
 simp [callFunc, hf, h1', hc]
theorem zXl (ki : Int) (args : Array Value) (w : World) : (callFunc (byF ki) args).run Tryz.prog w = .ok (.enter (byF ki) args) w := by
 unfold byF
 split
 ·exact zQx Tryz.func238 (by kernel_rfl) (by kernel_rfl) args w
 ·exact zQx Tryz.func239 (by kernel_rfl) (by kernel_rfl) args w
theorem by_any (ki wi z cx cy : Int) (g n cg : Nat) (X Y : Nat → Int) (w : World) (hp : zL w g 0 n (px (vR X Y n)) (py (vR X Y n))) (hg : g < w.heap.size) (hn0 : 0 < n) (hn : n ≤ 40) (hcg : n ≤ cg) :
  Calls Tryz.prog (byF ki) #[.agg #[.int .i64 cx, .int .i64 cy], .slice (some ⟨g, 0, none⟩) n cg, .int .i64 (yZ wi z)] w fun e w' => e = .returned (.bool (zAt ki wi z cx cy (vR X Y n))) ∧ Bw w w' := by
 have hdl := zAs X Y n
 unfold byF zAt
 by_cases h : ki = 3
 ·rw [if_pos h, if_pos h, hdl]
  exact zNd _ _ _ g n cg _ _ _ hp hg (by omega) hcg
 ·rw [if_neg h, if_neg h, hdl]
  exact zNg _ _ _ g n cg _ _ _ hp hg hn0 (by omega) hcg
theorem zS2 (id ki wi z cx cy : Int) (g n cg : Nat) (X Y : Nat → Int) (w : World) (hp : zL w g 0 n (px (vR X Y n)) (py (vR X Y n))) (hg : g < w.heap.size) (hn0 : 0 < n) (hn : n ≤ 40) (hcg : n ≤ cg) :
  Calls Tryz.prog 223 #[zT2 id ki wi z g n cg, .agg #[.int .i64 cx, .int .i64 cy]] w fun e w' => e = .returned (.bool (zAt ki wi z cx cy (vR X Y n))) ∧ Bw w w' := by
 have HP : Hid (zL w g 0 n (px (vR X Y n)) (py (vR X Y n))) := hp
 have HC : Hid (∀ W, zL W g 0 n (px (vR X Y n)) (py (vR X Y n)) → g < W.heap.size → Calls Tryz.prog (byF ki) #[.agg #[.int .i64 cx, .int .i64 cy], .slice (some ⟨g, 0, none⟩) n cg, .int .i64 (yZ wi z)] W fun e w' => e = .returned (.bool (zAt ki wi z cx cy (vR X Y n))) ∧ Bw W w') := fun W h1 h2 => by_any ki wi z cx cy g n cg X Y W h1 h2 hn0 hn hcg
 have hce := zXl ki
 clear hp
 show Calls Tryz.prog 223 #[.agg #[.int .i64 id, .func (.func (byF ki)) #[] #[], .slice (some ⟨g, 0, none⟩) n cg, .int .i64 (yZ wi z)], _] w _
 generalize byF ki = fby at *
 generalize yZ wi z = rch at *
 generalize zAt ki wi z cx cy (vR X Y n) = cv at *
 go_enter Tryz.func223, Tryz.ntmps223
 go_wp2_with fail
 generalize hW : ((w.alloc _).alloc _ : World) = W
 have hB0 : Bw w W := by subst hW; exact Qb
 clear hW
 refine Calls.mono (HC.out W (HP.out.below hB0 hg) (Nat.lt_of_lt_of_le hg hB0.size)) ?_
 rintro e w' ⟨rfl, hb⟩
 have HB : Hid (Bw w w') := zA hB0 hb
 clear hb hB0
 go_wp2
 go_ret
 exact ⟨rfl, HB.out⟩
def hasR (R:Rfs)(z x y:Int):Nat→Bool
 | 0=>false
 | n+1=>hasR R z x y n || ((R.z n == z) && ((R.x n == x) && (R.y n == y)))
theorem zPo {R:Rfs}{z x y:Int}:∀ {n:Nat},(∀ i,i<n→((R.z i == z) && ((R.x i == x) && (R.y i == y)))=false)→hasR R z x y n=false
 | 0,_=>rfl
 | n+1,h=>by rw [hasR,zPo (fun i hi=>h i (by omega)),h n (by omega)];rfl
theorem zLn {R:Rfs}{z x y:Int}:∀ {n i:Nat},i<n→((R.z i == z) && ((R.x i == x) && (R.y i == y)))=true→hasR R z x y n=true
 | n+1,i,hi,h=>by
  rw [hasR]
  by_cases e:i=n
  ·subst e;rw [h];simp
  ·rw [zLn (n:=n) (by omega) h];rfl
theorem zSm (a:Option Addr)(n cap:Nat)(R:Rfs)(z x y:Int)(w:World)(hp:zH8 w a n R)(hn:n≤1048576) :
  Calls Tryz.prog 202 #[.slice a n cap,vU z x y] w fun e w'=>(∃ k:Int,e=.returned (.int .i64 k)∧decide (0≤k)=hasR R z x y n)∧Bw w w':=by
 have HP:Hid (zH8 w a n R):=hp
 clear hp
 go_enter Tryz.func202,Tryz.ntmps202
 go_wp2_with fail
 generalize hW:(w.alloc _:World)=W
 have HB0:Hid (Bw w W):=by show Below _ _ _;subst hW;exact Qb
 have HV:Hid (zAv W w.heap.size z x y):=by show zAv _ _ _ _ _;subst hW;exact ⟨by simp [go_sem],by simp [go_sem],by simp [go_sem]⟩
 clear hW
 go_loopw [8] (fun i wr=>∃ k:Nat,k≤n∧i=.int .i64 (k:Int)∧(∀ j,j<k→((R.z j == z) && ((R.x j == x) && (R.y j == y)))=false)∧Bw W wr) (fun i _=>n - (intOf i).toNat)
 case atStart=>exact ⟨0,by omega,rfl,fun j hj=>absurd hj (Nat.not_lt_zero _),Below.refl _ _⟩
 case round =>
  obtain ⟨k,hk,rfl,hno,hB⟩:=hrel
  have HN:Hid (∀ j,j<k→((R.z j == z) && ((R.x j == x) && (R.y j == y)))=false):=hno
  have HB:Hid (Bw W wr):=hB
  obtain ⟨p0,p1,p2⟩:=HV.out.below hB
  by_cases hlt:k<n
  ·rcases HP.out with h0 | ⟨b,off,rfl,hb,hpt⟩
   ·omega
   obtain ⟨q0,q1,q2⟩:=(hpt.below (zA HB0.out hB) hb) k hlt
   have hi:(k:Int)<(n:Int):=by omega
   have hi0:(0:Int)≤(k:Int):=by omega
   have heq:=fun w=>zHt z x y (R.z k) (R.x k) (R.y k) w
   rw [zWf] at heq
   clear hno hB hpt
   cases hE:((R.z k == z) && ((R.x k == x) && (R.y k == y)))
   ·rw [hE] at heq
    have HN2:Hid (∀ j,j<k+1→((R.z j == z) && ((R.x j == x) && (R.y j == y)))=false):=fun j hj=>by
     by_cases e:j=k
     ·rw [e];exact hE
     ·exact HN.out j (by omega)
    clear hE
    generalize R.z k=rz at *
    generalize R.x k=rx at *
    generalize R.y k=ry at *
    go_wp2_with fail
    go_quiet (fail)
    go_wp2_with fail
    exact ⟨⟨k+1,by omega,by simp,HN2.out,below_drewN HB.out _⟩,by simp [intOf];omega⟩
   ·rw [hE] at heq
    have HY:Hid (hasR R z x y n=true):=zLn hlt hE
    clear hE
    generalize R.z k=rz at *
    generalize R.x k=rx at *
    generalize R.y k=ry at *
    go_wp2_with fail
    go_quiet (fail)
    go_wp2
    go_ret
    exact ⟨⟨(k:Int),rfl,by rw [HY.out];simp⟩,below_drewN (zA HB0.out HB.out) _⟩
  ·obtain rfl:n=k:=by omega
   have HY:Hid (hasR R z x y n=false):=zPo HN.out
   go_wp2
   go_ret
   exact ⟨⟨-1,rfl,by rw [HY.out];simp⟩,zA HB0.out HB.out⟩
theorem zLv (a:Option Addr)(n cap:Nat)(R:Rfs)(z x y:Int)(w:World)(hp:zH8 w a n R)(hn:n≤1048576) :
  Calls Tryz.prog 169 #[.slice a n cap,vU z x y] w fun e w'=>e=.returned (.bool (hasR R z x y n))∧Bw w w':=by
 have HI:Hid (∀ W,Bw w W→Calls Tryz.prog 202 #[.slice a n cap,vU z x y] W fun e w'=>(∃ k:Int,e=.returned (.int .i64 k)∧decide (0≤k)=hasR R z x y n)∧Bw W w'):=fun W h=>zSm a n cap R z x y W (hp.below h) hn
 clear hp
 generalize hasR R z x y n=B at *
 go_enter Tryz.func169,Tryz.ntmps169
 go_wp2_with fail
 generalize hW:(w.alloc _:World)=W
 have HB0:Bw w W:=by subst hW;exact Qb
 clear hW
 refine (HI.out _ HB0).mono ?_
 rintro e w1 ⟨⟨k,rfl,hk⟩,hb1⟩
 have HK:Hid (decide (0≤k)=B):=hk
 clear hk
 go_wp2
 go_ret
 exact ⟨zI HK.out,zA HB0 hb1⟩
theorem zJm (b n:Nat)(R:Rfs)(z x y:Int)(w:World)(hn:n≤1048576)(hL:∀ W,Bw w W→Calls Tryz.prog 107 #[.pointer (some ⟨b,0,none⟩)] W fun e w'=>∃ v,e=.returned v∧zFu W.heap.size w' v n R∧Bw W w') :
  Calls Tryz.prog 62 #[.pointer (some ⟨b,0,none⟩),vU z x y] w fun e w'=>e=.returned (.bool (hasR R z x y n))∧Bw w w':=by
 have HL:Hid (∀ W,Bw w W→Calls Tryz.prog 107 #[.pointer (some ⟨b,0,none⟩)] W fun e w'=>∃ v,e=.returned v∧zFu W.heap.size w' v n R∧Bw W w'):=hL
 clear hL
 go_enter Tryz.func62,Tryz.ntmps62
 go_wp2_with fail
 generalize hW:(w.alloc _:World)=W
 have HB0:Hid (Bw w W):=by show Below _ _ _;subst hW;exact Qb
 have HV:Hid (zAv W w.heap.size z x y):=by show zAv _ _ _ _ _;subst hW;exact ⟨by simp [go_sem],by simp [go_sem],by simp [go_sem]⟩
 clear hW
 refine (HL.out _ HB0.out).mono ?_
 rintro e w1 ⟨v,rfl,hO,hb1⟩
 obtain ⟨a0,cap0,hv,hc0,hcase⟩:=hO.own
 subst hv
 have HP:Hid (zH8 w1 a0 n R):=by
  rcases hcase with h | ⟨g,ha,h1,h2,h3,_⟩
  ·exact .inl h
  ·exact .inr ⟨g,0,ha,h2,h3⟩
 have HV1:Hid (zAv w1 w.heap.size z x y):=HV.out.below hb1
 have HB1:Hid (Bw w w1):=zA HB0.out hb1
 clear hcase hO hb1 HV HB0 HL
 go_wp2_with fail
 go_loopw [6] (fun i wr=>∃ k:Nat,k≤n∧i=.int .i64 (k:Int)∧(∀ j,j<k→((R.z j == z) && ((R.x j == x) && (R.y j == y)))=false)∧Bw w1 wr) (fun i _=>n - (intOf i).toNat)
 case atStart=>exact ⟨0,by omega,rfl,fun j hj=>absurd hj (Nat.not_lt_zero _),Below.refl _ _⟩
 case round =>
  obtain ⟨k,hk,rfl,hno,hB⟩:=hrel
  have HN:Hid (∀ j,j<k→((R.z j == z) && ((R.x j == x) && (R.y j == y)))=false):=hno
  have HB:Hid (Bw w1 wr):=hB
  obtain ⟨p0,p1,p2⟩:=HV1.out.below hB
  by_cases hlt:k<n
  ·rcases HP.out with h0 | ⟨g,off,rfl,hb,hpt⟩
   ·omega
   obtain ⟨q0,q1,q2⟩:=(hpt.below hB hb) k hlt
   have hi:(k:Int)<(n:Int):=by omega
   have hi0:(0:Int)≤(k:Int):=by omega
   have heq:=fun w=>zHt (R.z k) (R.x k) (R.y k) z x y w
   clear hno hB hpt
   cases hE:((R.z k == z) && ((R.x k == x) && (R.y k == y)))
   ·rw [hE] at heq
    have HN2:Hid (∀ j,j<k+1→((R.z j == z) && ((R.x j == x) && (R.y j == y)))=false):=fun j hj=>by
     by_cases e:j=k
     ·rw [e];exact hE
     ·exact HN.out j (by omega)
    clear hE
    generalize R.z k=rz at *
    generalize R.x k=rx at *
    generalize R.y k=ry at *
    go_wp2_with fail
    go_quiet (fail)
    go_wp2_with fail
    exact ⟨⟨k+1,by omega,by simp,HN2.out,below_drewN HB.out _⟩,by simp [intOf];omega⟩
   ·rw [hE] at heq
    have HY:Hid (hasR R z x y n=true):=zLn hlt hE
    clear hE
    generalize R.z k=rz at *
    generalize R.x k=rx at *
    generalize R.y k=ry at *
    go_wp2_with fail
    go_quiet (fail)
    go_wp2
    go_ret
    exact ⟨zI (by rw [HY.out]),below_drewN (zA HB1.out HB.out) _⟩
  ·obtain rfl:n=k:=by omega
   have HY:Hid (hasR R z x y n=false):=zPo HN.out
   go_wp2
   go_ret
   exact ⟨zI (by rw [HY.out]),zA HB1.out HB.out⟩
end Go.Proofs.YtkjbafcalamgnaaGreat
