/- Texts. -/
import Derived.Test.YtkjbafcalamgnaaGreatVSizeViewer1
import Derived.Test.YtkjbafcalamgnaaGreatVSizeViewer3
set_option linter.unusedSimpArgs false
set_option linter.unusedVariables false
set_option maxRecDepth 100000
set_option maxHeartbeats 32000000
namespace Go.Proofs.YtkjbafcalamgnaaGreat
open Go.RowKit
def xM (z:Int):Bool:=inB z 0 3
theorem yD {z:Int}(h:xM z=true):z=0∨z=1∨z=2∨z=3:=by
 simp [xM,inB] at h
 omega
def xQ (z:Int):Int:=if z=0 then 128 else if z=1 then 64 else if z=2 then 32 else 16
def zQ1 (z:Int):Value:=if xM z=true then .agg #[.int .i64 0,.int .i64 (xQ z)] else .agg #[.int .i64 3,.int .i64 0]
theorem xW (z:Int)(w:World):Calls Tryz.prog 89 #[.int .i64 z] w fun e w'=>e=.returned (.bool (xM z))∧w=w':=by
 unfold xM
 go_enter Tryz.func89,Tryz.ntmps89
 go_wp2_with (go_at_call 77;refine (zR _ _ _ _).mono ?_;rintro e w' ⟨rfl,rfl⟩)
 go_ret
 exact ⟨rfl,rfl⟩
theorem zB9 (z:Int)(w:World):Calls Tryz.prog 224 #[.int .i64 z] w fun e w'=>e=.returned (zQ1 z)∧Bw w w':=by
 cases h:xM z
 ·go_enter Tryz.func224,Tryz.ntmps224
  go_wp2_with (go_at_call 89;refine (xW _ _).mono ?_;rintro e w' ⟨rfl,rfl⟩)
  exact bodyPost_ret (v:=.agg #[.int .i64 3,.int .i64 0]) (by simp [results,Tryz.results224,go_sem]) rfl ⟨by simp [zQ1,h],Qb⟩
 ·rcases yD h with rfl | rfl | rfl | rfl
  all_goals
   go_enter Tryz.func224,Tryz.ntmps224
   go_wp2_with (go_at_call 89;refine (xW _ _).mono ?_;rintro e w' ⟨rfl,rfl⟩)
   first
    | exact bodyPost_ret (v:=.agg #[.int .i64 0,.int .i64 128]) (by simp [results,Tryz.results224,go_sem];done) rfl ⟨rfl,Qb⟩
    | exact bodyPost_ret (v:=.agg #[.int .i64 0,.int .i64 64]) (by simp [results,Tryz.results224,go_sem];done) rfl ⟨rfl,Qb⟩
    | exact bodyPost_ret (v:=.agg #[.int .i64 0,.int .i64 32]) (by simp [results,Tryz.results224,go_sem];done) rfl ⟨rfl,Qb⟩
    | exact bodyPost_ret (v:=.agg #[.int .i64 0,.int .i64 16]) (by simp [results,Tryz.results224,go_sem];done) rfl ⟨rfl,Qb⟩
theorem uB (z:Int)(w:World):Calls Tryz.prog 87 #[.int .i64 z] w fun e w'=>e=.returned (.bool (xM z))∧w=w':=by
 unfold xM
 go_enter Tryz.func87,Tryz.ntmps87
 go_wp2_with (go_at_call 59;refine (zY _ _ _ _).mono ?_;rintro e w' ⟨rfl,rfl⟩)
 go_ret
 exact ⟨rfl,rfl⟩
theorem zJm (z:Int)(w:World)(h:xM z=true):Calls Tryz.prog 233 #[.int .i64 z] w fun e w'=>e=.returned (.int .i64 (xQ z))∧w=w':=by
 rcases yD h with rfl | rfl | rfl | rfl
 all_goals
  go_enter Tryz.func233,Tryz.ntmps233
  go_wp2
  go_ret
  exact ⟨rfl,rfl⟩
theorem zUk {x y:Int}(h:inW x y=true):(0≤x∧x≤1024)∧(0≤y∧y≤1024):=by
 simp [inW,inB] at h
 omega
theorem zTp {W:World}{r:Nat}{a b c:Value}(hT:zC W r 3) :
  (((W.setCell ⟨r,0,none⟩ a).setCell ⟨r,1,none⟩ b).setCell ⟨r,2,none⟩ c).cell? ⟨r,0,none⟩=some a ∧
  (((W.setCell ⟨r,0,none⟩ a).setCell ⟨r,1,none⟩ b).setCell ⟨r,2,none⟩ c).cell? ⟨r,1,none⟩=some b ∧
  (((W.setCell ⟨r,0,none⟩ a).setCell ⟨r,1,none⟩ b).setCell ⟨r,2,none⟩ c).cell? ⟨r,2,none⟩=some c:=by
 obtain ⟨x0,h0⟩:=(hT 0 (by omega)).1
 obtain ⟨x1,h1⟩:=(hT 1 (by omega)).1
 obtain ⟨x2,h2⟩:=(hT 2 (by omega)).1
 have ne:∀ i j:Nat,i≠j→(⟨r,i,none⟩:Addr)≠⟨r,j,none⟩:=fun i j hij h=>hij (by injection h)
 refine ⟨?_,?_,?_⟩
 ·rw [zB (ne 2 0 (by omega)),zB (ne 1 0 (by omega))];exact zE h0
 ·rw [zB (ne 2 1 (by omega))];exact zE (by rw [zB (ne 0 1 (by omega))];exact h1)
 ·exact zE (by rw [zB (ne 1 2 (by omega)),zB (ne 0 2 (by omega))];exact h2)
theorem there3 (V:World)(a b c:Value)(t:TypeId):zC (V.alloc (.cells #[a,b,c] t)) V.heap.size 3:=fun o ho=>by
 refine ⟨⟨#[a,b,c][o]'(by simpa using ho),?_⟩,World.frozen?_alloc_at _ _ _ _ rfl⟩
 rw [World.cell?_alloc_at _ _ _ _ rfl]
 exact Array.getElem?_eq_getElem _
theorem there2 (V:World)(a b:Value)(t:TypeId):zC (V.alloc (.cells #[a,b] t)) V.heap.size 2:=fun o ho=>by
 refine ⟨⟨#[a,b][o]'(by simpa using ho),?_⟩,World.frozen?_alloc_at _ _ _ _ rfl⟩
 rw [World.cell?_alloc_at _ _ _ _ rfl]
 exact Array.getElem?_eq_getElem _
def xO (z:Int):Int:=if z=0 then 8 else if z=1 then 16 else if z=2 then 32 else 64
def zX3 (z:Int):Value:=if xM z=true then .agg #[.int .i64 0,.int .i64 (xO z)] else .agg #[.int .i64 3,.int .i64 0]
def zBf (z x y:Int):Bool:=xM z && (inB x 0 (xO z - 1) && inB y 0 (xO z - 1))
def yR (z x:Int):Int:=(2 * x+1) * xQ z
def zSq (z x y:Int):Value:=if zBf z x y=true then .agg #[.int .i64 0,.int .i64 (yR z x),.int .i64 (yR z y)] else .agg #[.int .i64 3,.int .i64 0,.int .i64 0]
theorem uH {z x y:Int}(h:zBf z x y=true):xM z=true:=by
 simp [zBf] at h
 exact h.1
theorem zDa {z x y:Int}(h:zBf z x y=true):(0≤x∧x≤xO z - 1)∧(0≤y∧y≤xO z - 1):=by
 simp [zBf,inB] at h
 exact h.2
theorem vD {z:Int}(h:xM z=true):8≤xO z∧xO z≤64:=by
 rcases yD h with rfl | rfl | rfl | rfl <;> decide
theorem cent_ok {z x y:Int}(h:zBf z x y=true):okP (yR z x) (yR z y)=true:=by
 have hz:=uH h
 have hb:=zDa h
 rw [zKq]
 unfold yR
 rcases yD hz with rfl | rfl | rfl | rfl
 all_goals
  simp only [show xQ 0=128 from rfl,show xQ 1=64 from rfl,show xQ 2=32 from rfl,show xQ 3=16 from rfl,show xO 0=8 from rfl,show xO 1=16 from rfl,show xO 2=32 from rfl,show xO 3=64 from rfl] at *
  omega
theorem zAb (z:Int)(w:World):Calls Tryz.prog 135 #[.int .i64 z] w fun e w'=>e=.returned (zX3 z)∧Bw w w':=by
 cases h:xM z
 ·go_enter Tryz.func135,Tryz.ntmps135
  go_wp2_with (go_at_call 89;refine (xW _ _).mono ?_;rintro e w' ⟨rfl,rfl⟩)
  exact bodyPost_ret (v:=.agg #[.int .i64 3,.int .i64 0]) (by simp [results,Tryz.results135,go_sem]) rfl ⟨by simp [zX3,h],Qb⟩
 ·rcases yD h with rfl | rfl | rfl | rfl
  all_goals
   go_enter Tryz.func135,Tryz.ntmps135
   go_wp2_with (go_at_call 89;refine (xW _ _).mono ?_;rintro e w' ⟨rfl,rfl⟩)
   first
    | exact bodyPost_ret (v:=.agg #[.int .i64 0,.int .i64 8]) (by simp [results,Tryz.results135,go_sem];done) rfl ⟨rfl,Qb⟩
    | exact bodyPost_ret (v:=.agg #[.int .i64 0,.int .i64 16]) (by simp [results,Tryz.results135,go_sem];done) rfl ⟨rfl,Qb⟩
    | exact bodyPost_ret (v:=.agg #[.int .i64 0,.int .i64 32]) (by simp [results,Tryz.results135,go_sem];done) rfl ⟨rfl,Qb⟩
    | exact bodyPost_ret (v:=.agg #[.int .i64 0,.int .i64 64]) (by simp [results,Tryz.results135,go_sem];done) rfl ⟨rfl,Qb⟩
theorem zHb (z:Int)(w:World)(h:xM z=true):Calls Tryz.prog 101 #[.int .i64 z] w fun e w'=>e=.returned (.int .i64 (xO z))∧w=w':=by
 rcases yD h with rfl | rfl | rfl | rfl
 all_goals
  go_enter Tryz.func101,Tryz.ntmps101
  go_wp2
  go_ret
  exact ⟨rfl,rfl⟩
theorem zAa (z x y:Int)(w:World):Calls Tryz.prog 117 #[.int .i64 z,.int .i64 x,.int .i64 y] w fun e w'=>e=.returned (.bool (zBf z x y))∧Bw w w':=by
 have s1:=fun w=>zAb z w
 cases h:xM z
 ·have hv:zX3 z=.agg #[.int .i64 3,.int .i64 0]:=by simp [zX3,h]
  simp only [hv] at s1
  have i1:∀ w,(Instr.field 185 (.agg #[.int .i64 3,.int .i64 0]) 1).run Tryz.prog w=.ok (.int .i64 0) w:=fun _=>by kernel_rfl
  have hx:inB x 0 (-1)=false:=by simp [inB];omega
  have hp:Hid (zBf z x y=false):=by show _=_;simp [zBf,h]
  go_enter Tryz.func117,Tryz.ntmps117
  go_wp2_with (first
   | (go_at_call 135;refine (s1 _).mono ?_;rintro e w1 ⟨rfl,hb1⟩)
   | (go_at_call 77;refine (zR _ _ _ _).mono ?_;rintro e w' ⟨rfl,rfl⟩))
  all_goals (go_ret;exact ⟨zG (by rw [hp.out]),Qb⟩)
 ·have hv:zX3 z=.agg #[.int .i64 0,.int .i64 (xO z)]:=by simp [zX3,h]
  simp only [hv] at s1
  have hp:Hid (zBf z x y=(inB x 0 (xO z - 1) && inB y 0 (xO z - 1))):=by show _=_;simp [zBf,h]
  obtain ⟨b1,b2⟩:=vD h
  generalize xO z=u at *
  have i1:∀ w,(Instr.field 185 (.agg #[.int .i64 0,.int .i64 u]) 1).run Tryz.prog w=.ok (.int .i64 u) w:=fun _=>by kernel_rfl
  cases hx:inB x 0 (u - 1) <;> cases hy:inB y 0 (u - 1)
  all_goals
   go_enter Tryz.func117,Tryz.ntmps117
   go_wp2_with (first
    | (go_at_call 135;refine (s1 _).mono ?_;rintro e w1 ⟨rfl,hb1⟩)
    | (go_at_call 77;refine (zR _ _ _ _).mono ?_;rintro e w' ⟨rfl,rfl⟩))
   all_goals (go_ret;exact ⟨zG (by rw [hp.out,hx,hy];rfl),Qb⟩)
theorem zMv (z x y:Int)(w:World)(h:zBf z x y=true):Calls Tryz.prog 210 #[.int .i64 z,.int .i64 x,.int .i64 y] w fun e w'=>e=.returned (.agg #[.int .i64 (yR z x),.int .i64 (yR z y)])∧Bw w w':=by
 have hz:=uH h
 have hb:=zDa h
 have s1:=fun w=>zJm z w hz
 clear h
 unfold yR
 rcases yD hz with rfl | rfl | rfl | rfl
 all_goals
  simp only [show xQ 0=128 from rfl,show xQ 1=64 from rfl,show xQ 2=32 from rfl,show xQ 3=16 from rfl,show xO 0=8 from rfl,show xO 1=16 from rfl,show xO 2=32 from rfl,show xO 3=64 from rfl] at *
  obtain ⟨⟨x0,x1⟩,y0,y1⟩:=hb
  go_enter Tryz.func210,Tryz.ntmps210
  go_wp2_with (go_at_call 233;refine (s1 _).mono ?_;rintro e w1 ⟨rfl,rfl⟩)
  exact bodyPost_ret (v:=.agg #[.int .i64 _,.int .i64 _]) (by simp [results,Tryz.results210,go_sem]) rfl ⟨rfl,Qb⟩
theorem zE9 (z x y:Int)(w:World):Calls Tryz.prog 198 #[.int .i64 z,.int .i64 x,.int .i64 y] w fun e w'=>e=.returned (zSq z x y)∧Bw w w':=by
 go_enter Tryz.func198,Tryz.ntmps198
 go_wp2_with fail
 generalize hW:(w.alloc _:World)=W
 have HB0:Hid (Bw w W):=by show Below _ _ _;subst hW;exact Qb
 have HT:Hid (zC W w.heap.size 3):=by
  show zC _ _ _
  subst hW
  exact there3 w (.int .i64 0) (.int .i64 0) (.int .i64 0) 259
 have hsz:w.heap.size<W.heap.size:=by subst hW;simp
 clear hW
 refine (zAa _ _ _ _).mono ?_
 rintro e w1 ⟨rfl,hb1⟩
 have HT1:Hid (zC w1 w.heap.size 3):=HT.out.below hb1
 have HB1:Hid (Bw w w1):=zA HB0.out hb1
 have hsz1:w.heap.size<w1.heap.size:=Nat.lt_of_lt_of_le hsz hb1.size
 clear hb1 HT HB0
 cases h:zBf z x y
 ·have hT':=HT1.out
  have t0:=hT'.cell 0 (by omega)
  have t1:=hT'.cell 1 (by omega)
  have t2:=hT'.cell 2 (by omega)
  have f0:=(hT' 0 (by omega)).2
  have f1:=(hT' 1 (by omega)).2
  have f2:=(hT' 2 (by omega)).2
  clear hT'
  go_wp2_with fail
  obtain ⟨q0,q1,q2⟩:=zTp (a:=.int .i64 3) (b:=.int .i64 0) (c:=.int .i64 0) HT1.out
  refine bodyPost_ret (v:=.agg #[.int .i64 3,.int .i64 0,.int .i64 0]) (by simp [results,Tryz.results198,go_sem,q0,q1,q2]) rfl ⟨by simp [zSq,h],?_⟩
  have HB:=HB1.out
  exact Qb
 ·have hz:=uH h
  have hb:=zDa h
  have s1:=fun w=>zB9 z w
  have hv:zQ1 z=.agg #[.int .i64 0,.int .i64 (xQ z)]:=by simp [zQ1,hz]
  simp only [hv] at s1
  have i1:∀ u w,(Instr.field 185 (.agg #[.int .i64 0,.int .i64 u]) 1).run Tryz.prog w=.ok (.int .i64 u) w:=fun _ _=>by kernel_rfl
  have hc:Hid (zSq z x y=.agg #[.int .i64 0,.int .i64 (yR z x),.int .i64 (yR z y)]):=by show _=_;simp [zSq,h]
  have hcx:yR z x=(2 * x+1) * xQ z:=rfl
  have hcy:yR z y=(2 * y+1) * xQ z:=rfl
  have hbd:xQ z=128∨xQ z=64∨xQ z=32∨xQ z=16:=by rcases yD hz with rfl | rfl | rfl | rfl <;> simp [xQ]
  have hpb:=(vD hz).2
  go_wp2_with fail
  refine (s1 _).mono ?_
  rintro e w2 ⟨rfl,hb2⟩
  generalize xQ z=u at *
  generalize xO z=m at *
  have hT':=HT1.out.below hb2
  have HT2:Hid (zC w2 w.heap.size 3):=hT'
  have t0:=hT'.cell 0 (by omega)
  have t1:=hT'.cell 1 (by omega)
  have t2:=hT'.cell 2 (by omega)
  have f0:=(hT' 0 (by omega)).2
  have f1:=(hT' 1 (by omega)).2
  have f2:=(hT' 2 (by omega)).2
  have HB2:Hid (Bw w w2):=zA HB1.out hb2
  have hsz2:w.heap.size<w2.heap.size:=Nat.lt_of_lt_of_le hsz1 hb2.size
  clear hT' hb2
  rcases hbd with rfl | rfl | rfl | rfl
  all_goals
   go_wp2_with fail
   obtain ⟨q0,q1,q2⟩:=zTp (a:=.int .i64 0) (b:=.int .i64 (yR z x)) (c:=.int .i64 (yR z y)) HT2.out
   rw [hcx,hcy] at q0 q1 q2
   refine bodyPost_ret (v:=.agg #[.int .i64 0,.int .i64 (yR z x),.int .i64 (yR z y)]) (by simp [results,Tryz.results198,go_sem,q0,q1,q2,hcx,hcy]) rfl ⟨by rw [hc.out],?_⟩
   have HB:=HB2.out
   exact Qb
def zAw (z:Int):Int:=if z=0 then 0 else if z=1 then 1 else if z=2 then 3 else 7
def zCt (z x y:Int):Bool:=xM z && (inB x 0 (zAw z) && inB y 0 (zAw z))
def zC9 (z x y:Int):Int:=if zCt z x y=true then 0 else 3
theorem zA6 (z x y:Int):(zC9 z x y=0∧zCt z x y=true)∨(zC9 z x y=3∧zCt z x y=false):=by
 unfold zC9
 cases h:zCt z x y <;> simp
theorem zTy {z x y:Int}(h:zCt z x y=true):z=0∨z=1∨z=2∨z=3:=by
 simp [zCt] at h
 exact yD h.1
theorem refB_in {z x y:Int}(h:zCt z x y=true):(0≤x∧x≤zAw z)∧(0≤y∧y≤zAw z):=by
 simp [zCt,inB] at h
 exact h.2
theorem zWk (z:Int):zAw z≤7:=by unfold zAw;split;omega;split;omega;split <;> omega
theorem zX2 {z x y:Int}(h:zCt z x y=true):(0≤z∧z≤3)∧(0≤x∧x≤7)∧(0≤y∧y≤7):=by
 have h1:=refB_in h
 have h2:=zWk z
 refine ⟨?_,⟨h1.1.1,by omega⟩,h1.2.1,by omega⟩
 rcases zTy h with rfl | rfl | rfl | rfl <;> omega
theorem zAn (z x y:Int)(w:World):Calls Tryz.prog 166 #[.agg #[.int .i64 z,.int .i64 x,.int .i64 y]] w fun e w'=>e=.returned (.int .i64 (zC9 z x y))∧Bw w w':=by
 cases h:xM z
 ·have hk:Hid (zC9 z x y=3):=by show _=_;simp [zC9,zCt,h]
  go_enter Tryz.func166,Tryz.ntmps166
  go_wp2_with (first | (go_at_call 89;refine (xW _ _).mono ?_;rintro e w' ⟨rfl,rfl⟩) | (go_at_call 77;refine (zR _ _ _ _).mono ?_;rintro e w' ⟨rfl,rfl⟩))
  go_ret
  exact ⟨zD hk.out.symm,Qb⟩
 ·have hk:Hid (zC9 z x y=if (inB x 0 (zAw z) && inB y 0 (zAw z))=true then 0 else 3):=by show _=_;simp [zC9,zCt,h]
  rcases yD h with rfl | rfl | rfl | rfl
  ·simp only [show zAw 0=0 from rfl] at hk
   cases hx:inB x 0 0 <;> cases hy:inB y 0 0
   all_goals
    rw [hx,hy] at hk
    go_enter Tryz.func166,Tryz.ntmps166
    go_wp2_with (first | (go_at_call 89;refine (xW _ _).mono ?_;rintro e w' ⟨rfl,rfl⟩) | (go_at_call 77;refine (zR _ _ _ _).mono ?_;rintro e w' ⟨rfl,rfl⟩))
    all_goals (go_ret;exact ⟨zD (by rw [hk.out];rfl),Qb⟩)
  ·simp only [show zAw 1=1 from rfl] at hk
   cases hx:inB x 0 1 <;> cases hy:inB y 0 1
   all_goals
    rw [hx,hy] at hk
    go_enter Tryz.func166,Tryz.ntmps166
    go_wp2_with (first | (go_at_call 89;refine (xW _ _).mono ?_;rintro e w' ⟨rfl,rfl⟩) | (go_at_call 77;refine (zR _ _ _ _).mono ?_;rintro e w' ⟨rfl,rfl⟩))
    all_goals (go_ret;exact ⟨zD (by rw [hk.out];rfl),Qb⟩)
  ·simp only [show zAw 2=3 from rfl] at hk
   cases hx:inB x 0 3 <;> cases hy:inB y 0 3
   all_goals
    rw [hx,hy] at hk
    go_enter Tryz.func166,Tryz.ntmps166
    go_wp2_with (first | (go_at_call 89;refine (xW _ _).mono ?_;rintro e w' ⟨rfl,rfl⟩) | (go_at_call 77;refine (zR _ _ _ _).mono ?_;rintro e w' ⟨rfl,rfl⟩))
    all_goals (go_ret;exact ⟨zD (by rw [hk.out];rfl),Qb⟩)
  ·simp only [show zAw 3=7 from rfl] at hk
   cases hx:inB x 0 7 <;> cases hy:inB y 0 7
   all_goals
    rw [hx,hy] at hk
    go_enter Tryz.func166,Tryz.ntmps166
    go_wp2_with (first | (go_at_call 89;refine (xW _ _).mono ?_;rintro e w' ⟨rfl,rfl⟩) | (go_at_call 77;refine (zR _ _ _ _).mono ?_;rintro e w' ⟨rfl,rfl⟩))
    all_goals (go_ret;exact ⟨zD (by rw [hk.out];rfl),Qb⟩)
theorem zDe (z x y:Int)(w:World):Calls Tryz.prog 105 #[.agg #[.int .i64 z,.int .i64 x,.int .i64 y]] w fun e w'=>e=.returned (.int .i64 (zC9 z x y))∧Bw w w':=by
 cases h:xM z
 ·have hk:Hid (zC9 z x y=3):=by show _=_;simp [zC9,zCt,h]
  go_enter Tryz.func105,Tryz.ntmps105
  go_wp2_with (first | (go_at_call 87;refine (uB _ _).mono ?_;rintro e w' ⟨rfl,rfl⟩) | (go_at_call 59;refine (zY _ _ _ _).mono ?_;rintro e w' ⟨rfl,rfl⟩))
  go_ret
  exact ⟨zD hk.out.symm,Qb⟩
 ·have hk:Hid (zC9 z x y=if (inB x 0 (zAw z) && inB y 0 (zAw z))=true then 0 else 3):=by show _=_;simp [zC9,zCt,h]
  rcases yD h with rfl | rfl | rfl | rfl
  ·simp only [show zAw 0=0 from rfl] at hk
   cases hx:inB x 0 0 <;> cases hy:inB y 0 0
   all_goals
    rw [hx,hy] at hk
    go_enter Tryz.func105,Tryz.ntmps105
    go_wp2_with (first | (go_at_call 87;refine (uB _ _).mono ?_;rintro e w' ⟨rfl,rfl⟩) | (go_at_call 59;refine (zY _ _ _ _).mono ?_;rintro e w' ⟨rfl,rfl⟩))
    all_goals (go_ret;exact ⟨zD (by rw [hk.out];rfl),Qb⟩)
  ·simp only [show zAw 1=1 from rfl] at hk
   cases hx:inB x 0 1 <;> cases hy:inB y 0 1
   all_goals
    rw [hx,hy] at hk
    go_enter Tryz.func105,Tryz.ntmps105
    go_wp2_with (first | (go_at_call 87;refine (uB _ _).mono ?_;rintro e w' ⟨rfl,rfl⟩) | (go_at_call 59;refine (zY _ _ _ _).mono ?_;rintro e w' ⟨rfl,rfl⟩))
    all_goals (go_ret;exact ⟨zD (by rw [hk.out];rfl),Qb⟩)
  ·simp only [show zAw 2=3 from rfl] at hk
   cases hx:inB x 0 3 <;> cases hy:inB y 0 3
   all_goals
    rw [hx,hy] at hk
    go_enter Tryz.func105,Tryz.ntmps105
    go_wp2_with (first | (go_at_call 87;refine (uB _ _).mono ?_;rintro e w' ⟨rfl,rfl⟩) | (go_at_call 59;refine (zY _ _ _ _).mono ?_;rintro e w' ⟨rfl,rfl⟩))
    all_goals (go_ret;exact ⟨zD (by rw [hk.out];rfl),Qb⟩)
  ·simp only [show zAw 3=7 from rfl] at hk
   cases hx:inB x 0 7 <;> cases hy:inB y 0 7
   all_goals
    rw [hx,hy] at hk
    go_enter Tryz.func105,Tryz.ntmps105
    go_wp2_with (first | (go_at_call 87;refine (uB _ _).mono ?_;rintro e w' ⟨rfl,rfl⟩) | (go_at_call 59;refine (zY _ _ _ _).mono ?_;rintro e w' ⟨rfl,rfl⟩))
    all_goals (go_ret;exact ⟨zD (by rw [hk.out];rfl),Qb⟩)
abbrev vT (z x y:Int):Value:=.agg #[.int .i64 z,.int .i64 x,.int .i64 y]
abbrev rrV (c z x y:Int):Value:=.agg #[.int .i64 c,.int .i64 z,.int .i64 x,.int .i64 y]
def atV (z x y:Int):Value:=if zBf z x y=true then rrV 0 z (x / 8) (y / 8) else rrV 3 0 0 0
theorem zQf (z x y:Int)(w:World)(h:zBf z x y=true):Calls Tryz.prog 156 #[.int .i64 z,.int .i64 x,.int .i64 y] w fun e w'=>e=.returned (vT z (x / 8) (y / 8))∧Bw w w':=by
 obtain ⟨⟨x0,x1⟩,y0,y1⟩:=zDa h
 have hp:=(vD (uH h)).2
 clear h
 generalize xO z=u at *
 have dx:x.tdiv 8=x / 8:=Int.tdiv_eq_ediv_of_nonneg x0
 have dy:y.tdiv 8=y / 8:=Int.tdiv_eq_ediv_of_nonneg y0
 go_enter Tryz.func156,Tryz.ntmps156
 go_wp2
 exact bodyPost_ret (v:=vT z (x / 8) (y / 8)) (by simp [results,Tryz.results156,go_sem]) rfl ⟨rfl,Qb⟩
abbrev pxV (a b:Int):Value:=.complex .f64 (flo a) (flo b)
theorem flo_0:flo 0=0:=by decide +kernel
theorem flo_1:flo 1=4607182418800017408:=by decide +kernel
theorem c_add {a b c d:Int}(h:(-(2 ^ 52)<a∧a<2 ^ 52)∧(-(2 ^ 52)<b∧b<2 ^ 52))(g:(-(2 ^ 52)<c∧c<2 ^ 52)∧(-(2 ^ 52)<d∧d<2 ^ 52)):cSumBits .add .f64 (flo a) (flo b) (flo c) (flo d)=some (flo (a+c),flo (b+d)):=by
 simp [cSumBits,zUr h.1.1 h.1.2 g.1.1 g.1.2,zUr h.2.1 h.2.2 g.2.1 g.2.2]
theorem c_sub {a b c d:Int}(h:(-(2 ^ 52)<a∧a<2 ^ 52)∧(-(2 ^ 52)<b∧b<2 ^ 52))(g:(-(2 ^ 52)<c∧c<2 ^ 52)∧(-(2 ^ 52)<d∧d<2 ^ 52)):cSumBits .sub .f64 (flo a) (flo b) (flo c) (flo d)=some (flo (a - c),flo (b - d)):=by
 simp [cSumBits,zUp h.1.1 h.1.2 g.1.1 g.1.2,zUp h.2.1 h.2.2 g.2.1 g.2.2]
theorem zJa (t:TypeId){a b c d:Int}(w:World)(h:(-(2 ^ 52)<a∧a<2 ^ 52)∧(-(2 ^ 52)<b∧b<2 ^ 52))(g:(-(2 ^ 52)<c∧c<2 ^ 52)∧(-(2 ^ 52)<d∧d<2 ^ 52)):(binOp .add t (pxV a b) (pxV c d)).run Tryz.prog w=.ok (pxV (a+c) (b+d)) w :=
 run_complex_sum w .add (.inl rfl) t .f64 _ _ _ _ _ _ (c_add h g)
theorem zI9 (t:TypeId){a b c d:Int}(w:World)(h:(-(2 ^ 52)<a∧a<2 ^ 52)∧(-(2 ^ 52)<b∧b<2 ^ 52))(g:(-(2 ^ 52)<c∧c<2 ^ 52)∧(-(2 ^ 52)<d∧d<2 ^ 52)):(binOp .sub t (pxV a b) (pxV c d)).run Tryz.prog w=.ok (pxV (a - c) (b - d)) w :=
 run_complex_sum w .sub (.inr rfl) t .f64 _ _ _ _ _ _ (c_sub h g)
def yQ (a l:Int):Int:=min (max a 0) l
theorem zP6 (ts:Array TypeId)(t:TypeId)(a:Int)(w:World)(h0:-(2 ^ 52)<a)(h1:a<2 ^ 52):(Builtin.max_ ts t #[.float .f64 (flo a),.float .f64 0]).run Tryz.prog w=.ok (.float .f64 (flo (max a 0))) w:=by
 have ho:=zNf h0 h1 (b:=0) (by omega) (by omega)
 have hn:=flo_neg h0 h1
 rw [flo_0] at ho
 simp only [Builtin.max_,Builtin.max2,List.foldlM,ho,hn]
 rcases Int.lt_trichotomy a 0 with h | h | h
 ·have e:compare a 0=.lt:=by simp [compare,compareOfLessAndEq,h]
  have e2:max a 0=0:=by omega
  simp [e,e2,flo_0]
 ·subst h
  have e:compare (0:Int) 0=.eq:=by decide
  simp [e,flo_0]
 ·have e:compare a 0=.gt:=by simp [compare,compareOfLessAndEq,show ¬ a<0 by omega,show ¬ a=0 by omega]
  have e2:max a 0=a:=by omega
  simp [e,e2]
theorem zP5 (ts:Array TypeId)(t:TypeId)(a b:Int)(w:World)(h0:-(2 ^ 52)<a)(h1:a<2 ^ 52)(h2:-(2 ^ 52)<b)(h3:b<2 ^ 52):(Builtin.min_ ts t #[.float .f64 (flo a),.float .f64 (flo b)]).run Tryz.prog w=.ok (.float .f64 (flo (min a b))) w:=by
 have ho:=zNf h0 h1 h2 h3
 simp only [Builtin.min_,Builtin.min2,List.foldlM,ho]
 rcases Int.lt_trichotomy a b with h | h | h
 ·have e:compare a b=.lt:=by simp [compare,compareOfLessAndEq,h]
  have e2:min a b=a:=by omega
  simp [e,e2]
 ·subst h
  have e:compare a a=.eq:=by simp [compare,compareOfLessAndEq]
  have e2:min a a=a:=by omega
  simp [e,e2]
 ·have e:compare a b=.gt:=by simp [compare,compareOfLessAndEq,show ¬ a<b by omega,show ¬ a=b by omega]
  have e2:min a b=b:=by omega
  simp [e,e2]
theorem zBi (x y:Int)(w:World):Calls Tryz.prog 80 #[.int .i64 x,.int .i64 y] w fun e w'=>e=.returned (pxV x y)∧w=w':=by
 go_enter Tryz.func80,Tryz.ntmps80
 go_wp2
 go_ret
 exact ⟨rfl,rfl⟩
theorem zOy (a b:Int)(w:World)(h0:-200≤a)(h1:a<800):Calls Tryz.prog 119 #[pxV a b] w fun e w'=>e=.returned (.int .i64 a)∧w=w':=by
 have hc:∀ w,(convert 188 2 (.float .f64 (flo a))).run Tryz.prog w=.ok (.int .i64 a) w:=fun w=>run_convert_float_int w 188 2 .f64 .i64 _ a (by kernel_rfl) (by kernel_rfl) (zUq h0 h1)
 go_enter Tryz.func119,Tryz.ntmps119
 go_wp2
 go_ret
 exact ⟨rfl,rfl⟩
theorem zOx (a b:Int)(w:World)(h0:-200≤b)(h1:b<800):Calls Tryz.prog 120 #[pxV a b] w fun e w'=>e=.returned (.int .i64 b)∧w=w':=by
 have hc:∀ w,(convert 188 2 (.float .f64 (flo b))).run Tryz.prog w=.ok (.int .i64 b) w:=fun w=>run_convert_float_int w 188 2 .f64 .i64 _ b (by kernel_rfl) (by kernel_rfl) (zUq h0 h1)
 go_enter Tryz.func120,Tryz.ntmps120
 go_wp2
 go_ret
 exact ⟨rfl,rfl⟩
theorem zNa (a b c d:Int)(w:World)(h:(-1000≤a∧a≤1000)∧(-1000≤b∧b≤1000))(g:(-1000≤c∧c≤1000)∧(-1000≤d∧d≤1000)):Calls Tryz.prog 136 #[pxV a b,pxV c d] w fun e w'=>e=.returned (pxV (yQ a c) (yQ b d))∧w=w':=by
 have m1:=fun ts t w=>zP6 ts t a w (by omega) (by omega)
 have m2:=fun ts t w=>zP6 ts t b w (by omega) (by omega)
 have m3:=fun ts t w=>zP5 ts t (max a 0) c w (by omega) (by omega) (by omega) (by omega)
 have m4:=fun ts t w=>zP5 ts t (max b 0) d w (by omega) (by omega) (by omega) (by omega)
 unfold yQ
 go_enter Tryz.func136,Tryz.ntmps136
 go_wp2
 go_ret
 exact ⟨rfl,rfl⟩
end Go.Proofs.YtkjbafcalamgnaaGreat
