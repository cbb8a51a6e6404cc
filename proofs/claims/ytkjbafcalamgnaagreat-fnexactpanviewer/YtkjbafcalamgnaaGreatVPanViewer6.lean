/- Texts. -/
import Derived.Test.YtkjbafcalamgnaaGreatVPanViewer1
import Derived.Test.YtkjbafcalamgnaaGreatVPanViewer3
set_option linter.unusedSimpArgs false
set_option linter.unusedVariables false
set_option maxRecDepth 100000
set_option maxHeartbeats 32000000
namespace Go.Proofs.YtkjbafcalamgnaaGreat
open Go.RowKit
def xK (z:Int):Bool:=inB z 0 3
theorem yC {z:Int}(h:xK z=true):z=0∨z=1∨z=2∨z=3:=by
 simp [xK,inB] at h
 omega
def xN (z:Int):Int:=if z=0 then 128 else if z=1 then 64 else if z=2 then 32 else 16
def zQo (z:Int):Value:=if xK z=true then .agg #[.int .i64 0,.int .i64 (xN z)] else .agg #[.int .i64 3,.int .i64 0]
theorem xT (z:Int)(w:World):Calls Tryz.prog 89 #[.int .i64 z] w fun e w'=>e=.returned (.bool (xK z))∧w=w':=by
 unfold xK
 go_enter Tryz.func89,Tryz.ntmps89
 go_wp2_with (go_at_call 77;refine (zR _ _ _ _).mono ?_;rintro e w' ⟨rfl,rfl⟩)
 go_ret
 exact ⟨rfl,rfl⟩
theorem zB1 (z:Int)(w:World):Calls Tryz.prog 224 #[.int .i64 z] w fun e w'=>e=.returned (zQo z)∧Bw w w':=by
 cases h:xK z
 ·go_enter Tryz.func224,Tryz.ntmps224
  go_wp2_with (go_at_call 89;refine (xT _ _).mono ?_;rintro e w' ⟨rfl,rfl⟩)
  exact bodyPost_ret (v:=.agg #[.int .i64 3,.int .i64 0]) (by simp [results,Tryz.results224,go_sem]) rfl ⟨by simp [zQo,h],Qb⟩
 ·rcases yC h with rfl | rfl | rfl | rfl
  all_goals
   go_enter Tryz.func224,Tryz.ntmps224
   go_wp2_with (go_at_call 89;refine (xT _ _).mono ?_;rintro e w' ⟨rfl,rfl⟩)
   first
    | exact bodyPost_ret (v:=.agg #[.int .i64 0,.int .i64 128]) (by simp [results,Tryz.results224,go_sem];done) rfl ⟨rfl,Qb⟩
    | exact bodyPost_ret (v:=.agg #[.int .i64 0,.int .i64 64]) (by simp [results,Tryz.results224,go_sem];done) rfl ⟨rfl,Qb⟩
    | exact bodyPost_ret (v:=.agg #[.int .i64 0,.int .i64 32]) (by simp [results,Tryz.results224,go_sem];done) rfl ⟨rfl,Qb⟩
    | exact bodyPost_ret (v:=.agg #[.int .i64 0,.int .i64 16]) (by simp [results,Tryz.results224,go_sem];done) rfl ⟨rfl,Qb⟩
theorem vV (z:Int)(w:World):Calls Tryz.prog 87 #[.int .i64 z] w fun e w'=>e=.returned (.bool (xK z))∧w=w':=by
 unfold xK
 go_enter Tryz.func87,Tryz.ntmps87
 go_wp2_with (go_at_call 59;refine (yA _ _ _ _).mono ?_;rintro e w' ⟨rfl,rfl⟩)
 go_ret
 exact ⟨rfl,rfl⟩
theorem zI9 (z:Int)(w:World)(h:xK z=true):Calls Tryz.prog 233 #[.int .i64 z] w fun e w'=>e=.returned (.int .i64 (xN z))∧w=w':=by
 rcases yC h with rfl | rfl | rfl | rfl
 all_goals
  go_enter Tryz.func233,Tryz.ntmps233
  go_wp2
  go_ret
  exact ⟨rfl,rfl⟩
theorem zUb {x y:Int}(h:inW x y=true):(0≤x∧x≤1024)∧(0≤y∧y≤1024):=by
 simp [inW,inB] at h
 omega
theorem zTf {W:World}{r:Nat}{a b c:Value}(hT:zC W r 3) :
  (((W.setCell ⟨r,0,none⟩ a).setCell ⟨r,1,none⟩ b).setCell ⟨r,2,none⟩ c).cell? ⟨r,0,none⟩=some a ∧
  (((W.setCell ⟨r,0,none⟩ a).setCell ⟨r,1,none⟩ b).setCell ⟨r,2,none⟩ c).cell? ⟨r,1,none⟩=some b ∧
  (((W.setCell ⟨r,0,none⟩ a).setCell ⟨r,1,none⟩ b).setCell ⟨r,2,none⟩ c).cell? ⟨r,2,none⟩=some c:=by
 obtain ⟨x0,h0⟩:=(hT 0 (by omega)).1
 obtain ⟨x1,h1⟩:=(hT 1 (by omega)).1
 obtain ⟨x2,h2⟩:=(hT 2 (by omega)).1
 have ne:∀ i j:Nat,i≠j→(⟨r,i,none⟩:Addr)≠⟨r,j,none⟩:=fun i j hij h=>hij (by injection h)
 refine ⟨?_,?_,?_⟩
 ·rw [zB (ne 2 0 (by omega)),zB (ne 1 0 (by omega))];exact zE h0
 ·rw [zB (ne 2 1 (by omega))];exact zE (by rw [zB (ne 0 1 (by omega))];exact h1)
 ·exact zE (by rw [zB (ne 1 2 (by omega)),zB (ne 0 2 (by omega))];exact h2)
theorem there3 (V:World)(a b c:Value)(t:TypeId):zC (V.alloc (.cells #[a,b,c] t)) V.heap.size 3:=fun o ho=>by
 refine ⟨⟨#[a,b,c][o]'(by simpa using ho),?_⟩,World.frozen?_alloc_at _ _ _ _ rfl⟩
 rw [World.cell?_alloc_at _ _ _ _ rfl]
 exact Array.getElem?_eq_getElem _
theorem there2 (V:World)(a b:Value)(t:TypeId):zC (V.alloc (.cells #[a,b] t)) V.heap.size 2:=fun o ho=>by
 refine ⟨⟨#[a,b][o]'(by simpa using ho),?_⟩,World.frozen?_alloc_at _ _ _ _ rfl⟩
 rw [World.cell?_alloc_at _ _ _ _ rfl]
 exact Array.getElem?_eq_getElem _
def vO (z:Int):Int:=if z=0 then 8 else if z=1 then 16 else if z=2 then 32 else 64
def zXv (z:Int):Value:=if xK z=true then .agg #[.int .i64 0,.int .i64 (vO z)] else .agg #[.int .i64 3,.int .i64 0]
def zA8 (z x y:Int):Bool:=xK z && (inB x 0 (vO z - 1) && inB y 0 (vO z - 1))
def yQ (z x:Int):Int:=(2 * x+1) * xN z
def zSf (z x y:Int):Value:=if zA8 z x y=true then .agg #[.int .i64 0,.int .i64 (yQ z x),.int .i64 (yQ z y)] else .agg #[.int .i64 3,.int .i64 0,.int .i64 0]
theorem uA {z x y:Int}(h:zA8 z x y=true):xK z=true:=by
 simp [zA8] at h
 exact h.1
theorem zCz {z x y:Int}(h:zA8 z x y=true):(0≤x∧x≤vO z - 1)∧(0≤y∧y≤vO z - 1):=by
 simp [zA8,inB] at h
 exact h.2
theorem vG {z:Int}(h:xK z=true):8≤vO z∧vO z≤64:=by
 rcases yC h with rfl | rfl | rfl | rfl <;> decide
theorem cent_ok {z x y:Int}(h:zA8 z x y=true):okP (yQ z x) (yQ z y)=true:=by
 have hz:=uA h
 have hb:=zCz h
 rw [zKe]
 unfold yQ
 rcases yC hz with rfl | rfl | rfl | rfl
 all_goals
  simp only [show xN 0=128 from rfl,show xN 1=64 from rfl,show xN 2=32 from rfl,show xN 3=16 from rfl,show vO 0=8 from rfl,show vO 1=16 from rfl,show vO 2=32 from rfl,show vO 3=64 from rfl] at *
  omega
theorem uV (z:Int)(w:World):Calls Tryz.prog 135 #[.int .i64 z] w fun e w'=>e=.returned (zXv z)∧Bw w w':=by
 cases h:xK z
 ·go_enter Tryz.func135,Tryz.ntmps135
  go_wp2_with (go_at_call 89;refine (xT _ _).mono ?_;rintro e w' ⟨rfl,rfl⟩)
  exact bodyPost_ret (v:=.agg #[.int .i64 3,.int .i64 0]) (by simp [results,Tryz.results135,go_sem]) rfl ⟨by simp [zXv,h],Qb⟩
 ·rcases yC h with rfl | rfl | rfl | rfl
  all_goals
   go_enter Tryz.func135,Tryz.ntmps135
   go_wp2_with (go_at_call 89;refine (xT _ _).mono ?_;rintro e w' ⟨rfl,rfl⟩)
   first
    | exact bodyPost_ret (v:=.agg #[.int .i64 0,.int .i64 8]) (by simp [results,Tryz.results135,go_sem];done) rfl ⟨rfl,Qb⟩
    | exact bodyPost_ret (v:=.agg #[.int .i64 0,.int .i64 16]) (by simp [results,Tryz.results135,go_sem];done) rfl ⟨rfl,Qb⟩
    | exact bodyPost_ret (v:=.agg #[.int .i64 0,.int .i64 32]) (by simp [results,Tryz.results135,go_sem];done) rfl ⟨rfl,Qb⟩
    | exact bodyPost_ret (v:=.agg #[.int .i64 0,.int .i64 64]) (by simp [results,Tryz.results135,go_sem];done) rfl ⟨rfl,Qb⟩
theorem zGy (z:Int)(w:World)(h:xK z=true):Calls Tryz.prog 101 #[.int .i64 z] w fun e w'=>e=.returned (.int .i64 (vO z))∧w=w':=by
 rcases yC h with rfl | rfl | rfl | rfl
 all_goals
  go_enter Tryz.func101,Tryz.ntmps101
  go_wp2
  go_ret
  exact ⟨rfl,rfl⟩
theorem uU (z x y:Int)(w:World):Calls Tryz.prog 117 #[.int .i64 z,.int .i64 x,.int .i64 y] w fun e w'=>e=.returned (.bool (zA8 z x y))∧Bw w w':=by
 have s1:=fun w=>uV z w
 cases h:xK z
 ·have hv:zXv z=.agg #[.int .i64 3,.int .i64 0]:=by simp [zXv,h]
  simp only [hv] at s1
  have i1:∀ w,(Instr.field 185 (.agg #[.int .i64 3,.int .i64 0]) 1).run Tryz.prog w=.ok (.int .i64 0) w:=fun _=>by kernel_rfl
  have hx:inB x 0 (-1)=false:=by simp [inB];omega
  have hp:Hid (zA8 z x y=false):=by show _=_;simp [zA8,h]
  go_enter Tryz.func117,Tryz.ntmps117
  go_wp2_with (first
   | (go_at_call 135;refine (s1 _).mono ?_;rintro e w1 ⟨rfl,hb1⟩)
   | (go_at_call 77;refine (zR _ _ _ _).mono ?_;rintro e w' ⟨rfl,rfl⟩))
  all_goals (go_ret;exact ⟨zG (by rw [hp.out]),Qb⟩)
 ·have hv:zXv z=.agg #[.int .i64 0,.int .i64 (vO z)]:=by simp [zXv,h]
  simp only [hv] at s1
  have hp:Hid (zA8 z x y=(inB x 0 (vO z - 1) && inB y 0 (vO z - 1))):=by show _=_;simp [zA8,h]
  obtain ⟨b1,b2⟩:=vG h
  generalize vO z=u at *
  have i1:∀ w,(Instr.field 185 (.agg #[.int .i64 0,.int .i64 u]) 1).run Tryz.prog w=.ok (.int .i64 u) w:=fun _=>by kernel_rfl
  cases hx:inB x 0 (u - 1) <;> cases hy:inB y 0 (u - 1)
  all_goals
   go_enter Tryz.func117,Tryz.ntmps117
   go_wp2_with (first
    | (go_at_call 135;refine (s1 _).mono ?_;rintro e w1 ⟨rfl,hb1⟩)
    | (go_at_call 77;refine (zR _ _ _ _).mono ?_;rintro e w' ⟨rfl,rfl⟩))
   all_goals (go_ret;exact ⟨zG (by rw [hp.out,hx,hy];rfl),Qb⟩)
theorem zMi (z x y:Int)(w:World)(h:zA8 z x y=true):Calls Tryz.prog 210 #[.int .i64 z,.int .i64 x,.int .i64 y] w fun e w'=>e=.returned (.agg #[.int .i64 (yQ z x),.int .i64 (yQ z y)])∧Bw w w':=by
 have hz:=uA h
 have hb:=zCz h
 have s1:=fun w=>zI9 z w hz
 clear h
 unfold yQ
 rcases yC hz with rfl | rfl | rfl | rfl
 all_goals
  simp only [show xN 0=128 from rfl,show xN 1=64 from rfl,show xN 2=32 from rfl,show xN 3=16 from rfl,show vO 0=8 from rfl,show vO 1=16 from rfl,show vO 2=32 from rfl,show vO 3=64 from rfl] at *
  obtain ⟨⟨x0,x1⟩,y0,y1⟩:=hb
  go_enter Tryz.func210,Tryz.ntmps210
  go_wp2_with (go_at_call 233;refine (s1 _).mono ?_;rintro e w1 ⟨rfl,rfl⟩)
  exact bodyPost_ret (v:=.agg #[.int .i64 _,.int .i64 _]) (by simp [results,Tryz.results210,go_sem]) rfl ⟨rfl,Qb⟩
theorem zEx (z x y:Int)(w:World):Calls Tryz.prog 198 #[.int .i64 z,.int .i64 x,.int .i64 y] w fun e w'=>e=.returned (zSf z x y)∧Bw w w':=by
 go_enter Tryz.func198,Tryz.ntmps198
 go_wp2_with fail
 generalize hW:(w.alloc _:World)=W
 have HB0:Hid (Bw w W):=by show Below _ _ _;subst hW;exact Qb
 have HT:Hid (zC W w.heap.size 3):=by
  show zC _ _ _
  subst hW
  exact there3 w (.int .i64 0) (.int .i64 0) (.int .i64 0) 259
 have hsz:w.heap.size<W.heap.size:=by subst hW;simp
 clear hW
 refine (uU _ _ _ _).mono ?_
 rintro e w1 ⟨rfl,hb1⟩
 have HT1:Hid (zC w1 w.heap.size 3):=HT.out.below hb1
 have HB1:Hid (Bw w w1):=zA HB0.out hb1
 have hsz1:w.heap.size<w1.heap.size:=Nat.lt_of_lt_of_le hsz hb1.size
 clear hb1 HT HB0
 cases h:zA8 z x y
 ·have hT':=HT1.out
  have t0:=hT'.cell 0 (by omega)
  have t1:=hT'.cell 1 (by omega)
  have t2:=hT'.cell 2 (by omega)
  have f0:=(hT' 0 (by omega)).2
  have f1:=(hT' 1 (by omega)).2
  have f2:=(hT' 2 (by omega)).2
  clear hT'
  go_wp2_with fail
  obtain ⟨q0,q1,q2⟩:=zTf (a:=.int .i64 3) (b:=.int .i64 0) (c:=.int .i64 0) HT1.out
  refine bodyPost_ret (v:=.agg #[.int .i64 3,.int .i64 0,.int .i64 0]) (by simp [results,Tryz.results198,go_sem,q0,q1,q2]) rfl ⟨by simp [zSf,h],?_⟩
  have HB:=HB1.out
  exact Qb
 ·have hz:=uA h
  have hb:=zCz h
  have s1:=fun w=>zB1 z w
  have hv:zQo z=.agg #[.int .i64 0,.int .i64 (xN z)]:=by simp [zQo,hz]
  simp only [hv] at s1
  have i1:∀ u w,(Instr.field 185 (.agg #[.int .i64 0,.int .i64 u]) 1).run Tryz.prog w=.ok (.int .i64 u) w:=fun _ _=>by kernel_rfl
  have hc:Hid (zSf z x y=.agg #[.int .i64 0,.int .i64 (yQ z x),.int .i64 (yQ z y)]):=by show _=_;simp [zSf,h]
  have hcx:yQ z x=(2 * x+1) * xN z:=rfl
  have hcy:yQ z y=(2 * y+1) * xN z:=rfl
  have hbd:xN z=128∨xN z=64∨xN z=32∨xN z=16:=by rcases yC hz with rfl | rfl | rfl | rfl <;> simp [xN]
  have hpb:=(vG hz).2
  go_wp2_with fail
  refine (s1 _).mono ?_
  rintro e w2 ⟨rfl,hb2⟩
  generalize xN z=u at *
  generalize vO z=m at *
  have hT':=HT1.out.below hb2
  have HT2:Hid (zC w2 w.heap.size 3):=hT'
  have t0:=hT'.cell 0 (by omega)
  have t1:=hT'.cell 1 (by omega)
  have t2:=hT'.cell 2 (by omega)
  have f0:=(hT' 0 (by omega)).2
  have f1:=(hT' 1 (by omega)).2
  have f2:=(hT' 2 (by omega)).2
  have HB2:Hid (Bw w w2):=zA HB1.out hb2
  have hsz2:w.heap.size<w2.heap.size:=Nat.lt_of_lt_of_le hsz1 hb2.size
  clear hT' hb2
  rcases hbd with rfl | rfl | rfl | rfl
  all_goals
   go_wp2_with fail
   obtain ⟨q0,q1,q2⟩:=zTf (a:=.int .i64 0) (b:=.int .i64 (yQ z x)) (c:=.int .i64 (yQ z y)) HT2.out
   rw [hcx,hcy] at q0 q1 q2
   refine bodyPost_ret (v:=.agg #[.int .i64 0,.int .i64 (yQ z x),.int .i64 (yQ z y)]) (by simp [results,Tryz.results198,go_sem,q0,q1,q2,hcx,hcy]) rfl ⟨by rw [hc.out],?_⟩
   have HB:=HB2.out
   exact Qb
def zAn (z:Int):Int:=if z=0 then 0 else if z=1 then 1 else if z=2 then 3 else 7
def zCm (z x y:Int):Bool:=xK z && (inB x 0 (zAn z) && inB y 0 (zAn z))
def zCy (z x y:Int):Int:=if zCm z x y=true then 0 else 3
theorem zAy (z x y:Int):(zCy z x y=0∧zCm z x y=true)∨(zCy z x y=3∧zCm z x y=false):=by
 unfold zCy
 cases h:zCm z x y <;> simp
theorem zTo {z x y:Int}(h:zCm z x y=true):z=0∨z=1∨z=2∨z=3:=by
 simp [zCm] at h
 exact yC h.1
theorem refB_in {z x y:Int}(h:zCm z x y=true):(0≤x∧x≤zAn z)∧(0≤y∧y≤zAn z):=by
 simp [zCm,inB] at h
 exact h.2
theorem zWc (z:Int):zAn z≤7:=by unfold zAn;split;omega;split;omega;split <;> omega
theorem zXu {z x y:Int}(h:zCm z x y=true):(0≤z∧z≤3)∧(0≤x∧x≤7)∧(0≤y∧y≤7):=by
 have h1:=refB_in h
 have h2:=zWc z
 refine ⟨?_,⟨h1.1.1,by omega⟩,h1.2.1,by omega⟩
 rcases zTo h with rfl | rfl | rfl | rfl <;> omega
theorem zAf (z x y:Int)(w:World):Calls Tryz.prog 166 #[.agg #[.int .i64 z,.int .i64 x,.int .i64 y]] w fun e w'=>e=.returned (.int .i64 (zCy z x y))∧Bw w w':=by
 cases h:xK z
 ·have hk:Hid (zCy z x y=3):=by show _=_;simp [zCy,zCm,h]
  go_enter Tryz.func166,Tryz.ntmps166
  go_wp2_with (first | (go_at_call 89;refine (xT _ _).mono ?_;rintro e w' ⟨rfl,rfl⟩) | (go_at_call 77;refine (zR _ _ _ _).mono ?_;rintro e w' ⟨rfl,rfl⟩))
  go_ret
  exact ⟨zD hk.out.symm,Qb⟩
 ·have hk:Hid (zCy z x y=if (inB x 0 (zAn z) && inB y 0 (zAn z))=true then 0 else 3):=by show _=_;simp [zCy,zCm,h]
  rcases yC h with rfl | rfl | rfl | rfl
  ·simp only [show zAn 0=0 from rfl] at hk
   cases hx:inB x 0 0 <;> cases hy:inB y 0 0
   all_goals
    rw [hx,hy] at hk
    go_enter Tryz.func166,Tryz.ntmps166
    go_wp2_with (first | (go_at_call 89;refine (xT _ _).mono ?_;rintro e w' ⟨rfl,rfl⟩) | (go_at_call 77;refine (zR _ _ _ _).mono ?_;rintro e w' ⟨rfl,rfl⟩))
    all_goals (go_ret;exact ⟨zD (by rw [hk.out];rfl),Qb⟩)
  ·simp only [show zAn 1=1 from rfl] at hk
   cases hx:inB x 0 1 <;> cases hy:inB y 0 1
   all_goals
    rw [hx,hy] at hk
    go_enter Tryz.func166,Tryz.ntmps166
    go_wp2_with (first | (go_at_call 89;refine (xT _ _).mono ?_;rintro e w' ⟨rfl,rfl⟩) | (go_at_call 77;refine (zR _ _ _ _).mono ?_;rintro e w' ⟨rfl,rfl⟩))
    all_goals (go_ret;exact ⟨zD (by rw [hk.out];rfl),Qb⟩)
  ·simp only [show zAn 2=3 from rfl] at hk
   cases hx:inB x 0 3 <;> cases hy:inB y 0 3
   all_goals
    rw [hx,hy] at hk
    go_enter Tryz.func166,Tryz.ntmps166
    go_wp2_with (first | (go_at_call 89;refine (xT _ _).mono ?_;rintro e w' ⟨rfl,rfl⟩) | (go_at_call 77;refine (zR _ _ _ _).mono ?_;rintro e w' ⟨rfl,rfl⟩))
    all_goals (go_ret;exact ⟨zD (by rw [hk.out];rfl),Qb⟩)
  ·simp only [show zAn 3=7 from rfl] at hk
   cases hx:inB x 0 7 <;> cases hy:inB y 0 7
   all_goals
    rw [hx,hy] at hk
    go_enter Tryz.func166,Tryz.ntmps166
    go_wp2_with (first | (go_at_call 89;refine (xT _ _).mono ?_;rintro e w' ⟨rfl,rfl⟩) | (go_at_call 77;refine (zR _ _ _ _).mono ?_;rintro e w' ⟨rfl,rfl⟩))
    all_goals (go_ret;exact ⟨zD (by rw [hk.out];rfl),Qb⟩)
theorem zC2 (z x y:Int)(w:World):Calls Tryz.prog 105 #[.agg #[.int .i64 z,.int .i64 x,.int .i64 y]] w fun e w'=>e=.returned (.int .i64 (zCy z x y))∧Bw w w':=by
 cases h:xK z
 ·have hk:Hid (zCy z x y=3):=by show _=_;simp [zCy,zCm,h]
  go_enter Tryz.func105,Tryz.ntmps105
  go_wp2_with (first | (go_at_call 87;refine (vV _ _).mono ?_;rintro e w' ⟨rfl,rfl⟩) | (go_at_call 59;refine (yA _ _ _ _).mono ?_;rintro e w' ⟨rfl,rfl⟩))
  go_ret
  exact ⟨zD hk.out.symm,Qb⟩
 ·have hk:Hid (zCy z x y=if (inB x 0 (zAn z) && inB y 0 (zAn z))=true then 0 else 3):=by show _=_;simp [zCy,zCm,h]
  rcases yC h with rfl | rfl | rfl | rfl
  ·simp only [show zAn 0=0 from rfl] at hk
   cases hx:inB x 0 0 <;> cases hy:inB y 0 0
   all_goals
    rw [hx,hy] at hk
    go_enter Tryz.func105,Tryz.ntmps105
    go_wp2_with (first | (go_at_call 87;refine (vV _ _).mono ?_;rintro e w' ⟨rfl,rfl⟩) | (go_at_call 59;refine (yA _ _ _ _).mono ?_;rintro e w' ⟨rfl,rfl⟩))
    all_goals (go_ret;exact ⟨zD (by rw [hk.out];rfl),Qb⟩)
  ·simp only [show zAn 1=1 from rfl] at hk
   cases hx:inB x 0 1 <;> cases hy:inB y 0 1
   all_goals
    rw [hx,hy] at hk
    go_enter Tryz.func105,Tryz.ntmps105
    go_wp2_with (first | (go_at_call 87;refine (vV _ _).mono ?_;rintro e w' ⟨rfl,rfl⟩) | (go_at_call 59;refine (yA _ _ _ _).mono ?_;rintro e w' ⟨rfl,rfl⟩))
    all_goals (go_ret;exact ⟨zD (by rw [hk.out];rfl),Qb⟩)
  ·simp only [show zAn 2=3 from rfl] at hk
   cases hx:inB x 0 3 <;> cases hy:inB y 0 3
   all_goals
    rw [hx,hy] at hk
    go_enter Tryz.func105,Tryz.ntmps105
    go_wp2_with (first | (go_at_call 87;refine (vV _ _).mono ?_;rintro e w' ⟨rfl,rfl⟩) | (go_at_call 59;refine (yA _ _ _ _).mono ?_;rintro e w' ⟨rfl,rfl⟩))
    all_goals (go_ret;exact ⟨zD (by rw [hk.out];rfl),Qb⟩)
  ·simp only [show zAn 3=7 from rfl] at hk
   cases hx:inB x 0 7 <;> cases hy:inB y 0 7
   all_goals
    rw [hx,hy] at hk
    go_enter Tryz.func105,Tryz.ntmps105
    go_wp2_with (first | (go_at_call 87;refine (vV _ _).mono ?_;rintro e w' ⟨rfl,rfl⟩) | (go_at_call 59;refine (yA _ _ _ _).mono ?_;rintro e w' ⟨rfl,rfl⟩))
    all_goals (go_ret;exact ⟨zD (by rw [hk.out];rfl),Qb⟩)
abbrev vN (z x y:Int):Value:=.agg #[.int .i64 z,.int .i64 x,.int .i64 y]
abbrev rrV (c z x y:Int):Value:=.agg #[.int .i64 c,.int .i64 z,.int .i64 x,.int .i64 y]
def atV (z x y:Int):Value:=if zA8 z x y=true then rrV 0 z (x / 8) (y / 8) else rrV 3 0 0 0
theorem zP3 (z x y:Int)(w:World)(h:zA8 z x y=true):Calls Tryz.prog 156 #[.int .i64 z,.int .i64 x,.int .i64 y] w fun e w'=>e=.returned (vN z (x / 8) (y / 8))∧Bw w w':=by
 obtain ⟨⟨x0,x1⟩,y0,y1⟩:=zCz h
 have hp:=(vG (uA h)).2
 clear h
 generalize vO z=u at *
 have dx:x.tdiv 8=x / 8:=Int.tdiv_eq_ediv_of_nonneg x0
 have dy:y.tdiv 8=y / 8:=Int.tdiv_eq_ediv_of_nonneg y0
 go_enter Tryz.func156,Tryz.ntmps156
 go_wp2
 exact bodyPost_ret (v:=vN z (x / 8) (y / 8)) (by simp [results,Tryz.results156,go_sem]) rfl ⟨rfl,Qb⟩
theorem zCc:(Tryz.prog.info? 2).map (fun i=>(i.zero,i.size,i.bytes))=some (some (.int .i64 0),1,8):=by kernel_rfl
def zBt (base:Nat)(w:World)(v:Value)(l:List Int):Prop:=w.ownsRow base 2 1 v l.length (l.map (.int .i64 ·))
def nz (l:List Int)(i:Nat):Int:=l.getD i 0
theorem zBt.own {base:Nat}{w:World}{v:Value}{l:List Int}(h:zBt base w v l):OwnN w base v l.length (nz l):=by
 obtain ⟨h1,h2 | ⟨g,cp,cur,hv,hg,hh,hkc,hcm,hcs,htk⟩⟩:=id h
 ·obtain ⟨rfl,h0⟩:=h2
  rw [h0]
  exact ⟨none,0,rfl,Nat.le_refl _,.inl rfl⟩
 ·have hgl:g<w.heap.size:=by
   rcases Nat.lt_or_ge g w.heap.size with h' | h'
   ·exact h'
   ·rw [Array.getElem?_eq_none h'] at hh;cases hh
  have hrow:w.ownsRow base 2 1 (.slice (some ⟨g,0,none⟩) l.length cp) l.length (l.map (.int .i64 ·)):=⟨h1,.inr ⟨g,cp,cur,rfl,hg,hh,hkc,hcm,hcs,htk⟩⟩
  refine ⟨some ⟨g,0,none⟩,cp,hv,hkc,.inr ⟨g,rfl,hg,hgl,fun i hi=>?_,fun o ho=>⟨?_,hrow.frozenAt o⟩⟩⟩
  ·rw [Nat.zero_add,hrow.cellAt i (by omega),List.getElem?_map]
   simp [nz,List.getD_eq_getElem?_getD,hi]
  ·rw [hrow.cellAt o (by omega),List.getElem?_map]
   simp [ho]
theorem zBt.below {base:Nat}{w w':World}{v:Value}{l:List Int}(h:zBt base w v l)(hb:Below w.heap.size w w'):zBt base w' v l:=by
 obtain ⟨h1,h2 | ⟨g,cp,cur,hv,hg,hh,hr⟩⟩:=h
 ·exact ⟨h1,.inl h2⟩
 ·refine ⟨h1,.inr ⟨g,cp,cur,hv,hg,?_,hr⟩⟩
  have hgl:g<w.heap.size:=by
   rcases Nat.lt_or_ge g w.heap.size with h' | h'
   ·exact h'
   ·rw [Array.getElem?_eq_none h'] at hh;cases hh
  rw [hb.block g hgl]
  exact hh
theorem zBt.no (base:Nat)(w:World):zBt base w (.slice none 0 0) []:=World.ownsRow_nil _ _ _ _
theorem zBt.wide {base B:Nat}{w:World}{v:Value}{l:List Int}(h:zBt base w v l)(hB:B≤base):zBt B w v l:=by
 obtain ⟨h1,h2 | ⟨g,cp,cur,hv,hg,hr⟩⟩:=h
 ·exact ⟨h1,.inl h2⟩
 ·exact ⟨h1,.inr ⟨g,cp,cur,hv,by omega,hr⟩⟩
theorem zBt.other {base r o:Nat}{w:World}{v u:Value}{l:List Int}(h:zBt base w v l)(hr:r<base):zBt base (w.setCell ⟨r,o,none⟩ u) v l:=by
 obtain ⟨h1,h2 | ⟨g,cp,cur,hv,hg,hh,hr'⟩⟩:=h
 ·exact ⟨h1,.inl h2⟩
 ·exact ⟨h1,.inr ⟨g,cp,cur,hv,hg,by rw [Below.heap_setCell _ _ _ _ (by simp;omega)];exact hh,hr'⟩⟩
theorem zV9 (n:Nat)(h:n≤1048576)(w:World) :
  (Instr.makeSlice 140 (.int .i64 (n:Int)) (.int .i64 (n:Int))).run Tryz.prog w=.ok (.slice (some ⟨w.heap.size,0,none⟩) n n) (w.alloc (.cells (madeCells #[.int .i64 0] n) 2)):=by
 obtain ⟨i,hi,hz,hs,hb⟩:=info_parts zCc
 have hr:=run_make (P:=Tryz.prog) w 140 2 i _ Tryz.underlying140 hi hz .i64 .i64 (n:Int) (n:Int) (by omega) (Int.le_refl _) (by rw [hb];omega) (by omega)
 simp only [Int.toNat_natCast,hs,Nat.mul_one] at hr
 exact hr
theorem zN6 (n:Nat)(w:World)(t:TypeId):zC (w.alloc (.cells (madeCells #[.int .i64 0] n) t)) w.heap.size n:=fun o ho=>by
 have hz:=size_madeCells #[.int .i64 0] n
 refine ⟨⟨(madeCells #[.int .i64 0] n)[o]'(by rw [hz];exact ho),?_⟩,World.frozen?_alloc_at _ _ _ _ rfl⟩
 rw [World.cell?_alloc_at _ _ _ _ rfl]
 exact Array.getElem?_eq_getElem _
theorem zLt (a:Option Addr)(n cap:Nat)(Z:Nat→Int)(w:World)(hp:zCi w a n Z)(hmax:n≤1048576) :
  Calls Tryz.prog 161 #[.slice a n cap] w fun e w'=>∃ b,e=.returned (.slice (some ⟨b,0,none⟩) n n)∧w.heap.size≤b∧b<w'.heap.size∧zAt w' b 0 n Z∧zC w' b n∧Bw w w':=by
 have hmk:=zV9 n hmax
 have HP:Hid (zCi w a n Z):=hp
 clear hp
 go_enter Tryz.func161,Tryz.ntmps161
 go_wp2
 generalize hW:(w.alloc _:World)=W
 have HB0:Hid (Bw w W):=by show Below _ _ _;subst hW;exact Qb
 have HT0:Hid (zC W w.heap.size n):=by show zC _ _ _;subst hW;exact zN6 _ _ _
 have HL0:Hid (w.heap.size<W.heap.size):=by show _<_;subst hW;simp
 clear hW hmk
 go_loopw [4] (fun i wr=>∃ k:Nat,k≤n∧i=.int .i64 k∧Bw w wr∧zC wr w.heap.size n∧zAt wr w.heap.size 0 k Z∧w.heap.size<wr.heap.size) (fun i _=>n - (intOf i).toNat)
 case atStart=>exact ⟨0,by omega,rfl,HB0.out,HT0.out,fun i hi=>by omega,HL0.out⟩
 case round =>
  obtain ⟨k,hk,rfl,hB,hT,hPt,hlw⟩:=hrel
  by_cases hlt:k<n
  ·rcases HP.out with h0 | ⟨b,off,rfl,hbl,hpt⟩
   ·omega
   ·have hx:wr.cell? ⟨b,off+k,none⟩=some (.int .i64 (Z k)):=(hB.cell (p:=⟨b,off+k,none⟩) hbl).trans (hpt k hlt)
    have HB:Hid (Bw w wr):=hB
    have HT:Hid (zC wr w.heap.size n):=hT
    have HQ:Hid (zAt wr w.heap.size 0 k Z):=hPt
    have t0:=hT.cell k hlt
    have f0:=(hT k hlt).2
    clear hB hT hPt hpt
    have hi:(k:Int)<(n:Int):=by omega
    have hi0:(0:Int)≤(k:Int):=by omega
    go_wp2
    go_roundw
    case rel =>
     refine ⟨k+1,by omega,by go_num,?_,HT.out.setN _ _,fillN HT.out hlt HQ.out,?_⟩
     ·have HB':=HB.out
      exact Qb
     ·simp;omega
    case measure=>simp [intOf];omega
  ·go_wp2
   go_ret
   have hkn:k=n:=by omega
   subst hkn
   exact ⟨_,rfl,Nat.le_refl _,hlw,hPt,hT,hB⟩
abbrev pxV (a b:Int):Value:=.complex .f64 (flo a) (flo b)
theorem flo_0:flo 0=0:=by decide +kernel
theorem flo_1:flo 1=4607182418800017408:=by decide +kernel
theorem c_add {a b c d:Int}(h:(-(2 ^ 52)<a∧a<2 ^ 52)∧(-(2 ^ 52)<b∧b<2 ^ 52))(g:(-(2 ^ 52)<c∧c<2 ^ 52)∧(-(2 ^ 52)<d∧d<2 ^ 52)):cSumBits .add .f64 (flo a) (flo b) (flo c) (flo d)=some (flo (a+c),flo (b+d)):=by
 simp [cSumBits,zUi h.1.1 h.1.2 g.1.1 g.1.2,zUi h.2.1 h.2.2 g.2.1 g.2.2]
theorem c_sub {a b c d:Int}(h:(-(2 ^ 52)<a∧a<2 ^ 52)∧(-(2 ^ 52)<b∧b<2 ^ 52))(g:(-(2 ^ 52)<c∧c<2 ^ 52)∧(-(2 ^ 52)<d∧d<2 ^ 52)):cSumBits .sub .f64 (flo a) (flo b) (flo c) (flo d)=some (flo (a - c),flo (b - d)):=by
 simp [cSumBits,zUg h.1.1 h.1.2 g.1.1 g.1.2,zUg h.2.1 h.2.2 g.2.1 g.2.2]
theorem zIy (t:TypeId){a b c d:Int}(w:World)(h:(-(2 ^ 52)<a∧a<2 ^ 52)∧(-(2 ^ 52)<b∧b<2 ^ 52))(g:(-(2 ^ 52)<c∧c<2 ^ 52)∧(-(2 ^ 52)<d∧d<2 ^ 52)):(binOp .add t (pxV a b) (pxV c d)).run Tryz.prog w=.ok (pxV (a+c) (b+d)) w :=
 run_complex_sum w .add (.inl rfl) t .f64 _ _ _ _ _ _ (c_add h g)
theorem zIx (t:TypeId){a b c d:Int}(w:World)(h:(-(2 ^ 52)<a∧a<2 ^ 52)∧(-(2 ^ 52)<b∧b<2 ^ 52))(g:(-(2 ^ 52)<c∧c<2 ^ 52)∧(-(2 ^ 52)<d∧d<2 ^ 52)):(binOp .sub t (pxV a b) (pxV c d)).run Tryz.prog w=.ok (pxV (a - c) (b - d)) w :=
 run_complex_sum w .sub (.inr rfl) t .f64 _ _ _ _ _ _ (c_sub h g)
def xV (a l:Int):Int:=min (max a 0) l
theorem zPu (ts:Array TypeId)(t:TypeId)(a:Int)(w:World)(h0:-(2 ^ 52)<a)(h1:a<2 ^ 52):(Builtin.max_ ts t #[.float .f64 (flo a),.float .f64 0]).run Tryz.prog w=.ok (.float .f64 (flo (max a 0))) w:=by
 have ho:=zM3 h0 h1 (b:=0) (by omega) (by omega)
 have hn:=flo_neg h0 h1
 rw [flo_0] at ho
 simp only [Builtin.max_,Builtin.max2,List.foldlM,ho,hn]
 rcases Int.lt_trichotomy a 0 with h | h | h
 ·have e:compare a 0=.lt:=by simp [compare,compareOfLessAndEq,h]
  have e2:max a 0=0:=by omega
  simp [e,e2,flo_0]
 ·subst h
  have e:compare (0:Int) 0=.eq:=by decide
  simp [e,flo_0]
 ·have e:compare a 0=.gt:=by simp [compare,compareOfLessAndEq,show ¬ a<0 by omega,show ¬ a=0 by omega]
  have e2:max a 0=a:=by omega
  simp [e,e2]
theorem zPt (ts:Array TypeId)(t:TypeId)(a b:Int)(w:World)(h0:-(2 ^ 52)<a)(h1:a<2 ^ 52)(h2:-(2 ^ 52)<b)(h3:b<2 ^ 52):(Builtin.min_ ts t #[.float .f64 (flo a),.float .f64 (flo b)]).run Tryz.prog w=.ok (.float .f64 (flo (min a b))) w:=by
 have ho:=zM3 h0 h1 h2 h3
 simp only [Builtin.min_,Builtin.min2,List.foldlM,ho]
 rcases Int.lt_trichotomy a b with h | h | h
 ·have e:compare a b=.lt:=by simp [compare,compareOfLessAndEq,h]
  have e2:min a b=a:=by omega
  simp [e,e2]
 ·subst h
  have e:compare a a=.eq:=by simp [compare,compareOfLessAndEq]
  have e2:min a a=a:=by omega
  simp [e,e2]
 ·have e:compare a b=.gt:=by simp [compare,compareOfLessAndEq,show ¬ a<b by omega,show ¬ a=b by omega]
  have e2:min a b=b:=by omega
  simp [e,e2]
theorem zBa (x y:Int)(w:World):Calls Tryz.prog 80 #[.int .i64 x,.int .i64 y] w fun e w'=>e=.returned (pxV x y)∧w=w':=by
 go_enter Tryz.func80,Tryz.ntmps80
 go_wp2
 go_ret
 exact ⟨rfl,rfl⟩
theorem zOm (a b:Int)(w:World)(h0:-200≤a)(h1:a<800):Calls Tryz.prog 119 #[pxV a b] w fun e w'=>e=.returned (.int .i64 a)∧w=w':=by
 have hc:∀ w,(convert 188 2 (.float .f64 (flo a))).run Tryz.prog w=.ok (.int .i64 a) w:=fun w=>run_convert_float_int w 188 2 .f64 .i64 _ a (by kernel_rfl) (by kernel_rfl) (zUh h0 h1)
 go_enter Tryz.func119,Tryz.ntmps119
 go_wp2
 go_ret
 exact ⟨rfl,rfl⟩
theorem zOl (a b:Int)(w:World)(h0:-200≤b)(h1:b<800):Calls Tryz.prog 120 #[pxV a b] w fun e w'=>e=.returned (.int .i64 b)∧w=w':=by
 have hc:∀ w,(convert 188 2 (.float .f64 (flo b))).run Tryz.prog w=.ok (.int .i64 b) w:=fun w=>run_convert_float_int w 188 2 .f64 .i64 _ b (by kernel_rfl) (by kernel_rfl) (zUh h0 h1)
 go_enter Tryz.func120,Tryz.ntmps120
 go_wp2
 go_ret
 exact ⟨rfl,rfl⟩
theorem zMy (a b c d:Int)(w:World)(h:(-1000≤a∧a≤1000)∧(-1000≤b∧b≤1000))(g:(-1000≤c∧c≤1000)∧(-1000≤d∧d≤1000)):Calls Tryz.prog 136 #[pxV a b,pxV c d] w fun e w'=>e=.returned (pxV (xV a c) (xV b d))∧w=w':=by
 have m1:=fun ts t w=>zPu ts t a w (by omega) (by omega)
 have m2:=fun ts t w=>zPu ts t b w (by omega) (by omega)
 have m3:=fun ts t w=>zPt ts t (max a 0) c w (by omega) (by omega) (by omega) (by omega)
 have m4:=fun ts t w=>zPt ts t (max b 0) d w (by omega) (by omega) (by omega) (by omega)
 unfold xV
 go_enter Tryz.func136,Tryz.ntmps136
 go_wp2
 go_ret
 exact ⟨rfl,rfl⟩
end Go.Proofs.YtkjbafcalamgnaaGreat
