/- Texts. -/
import Derived.Test.YtkjbafcalamgnaaGreatVMapFault5
import Derived.Test.YtkjbafcalamgnaaGreatVMapFault2
import Derived.BigQuiet
set_option linter.unusedSimpArgs false
set_option linter.unusedVariables false
set_option maxRecDepth 100000
set_option maxHeartbeats 32000000
namespace Go.Proofs.YtkjbafcalamgnaaGreat
open Go.RowKit
abbrev pxV (a b:Int):Value:=.complex .f64 (flo a) (flo b)
theorem flo_1:flo 1=4607182418800017408:=by decide +kernel
theorem c_add {a b c d:Int}(h:(-(2 ^ 52)<a∧a<2 ^ 52)∧(-(2 ^ 52)<b∧b<2 ^ 52))(g:(-(2 ^ 52)<c∧c<2 ^ 52)∧(-(2 ^ 52)<d∧d<2 ^ 52)):cSumBits .add .f64 (flo a) (flo b) (flo c) (flo d)=some (flo (a+c),flo (b+d)):=by
 simp [cSumBits,zLx h.1.1 h.1.2 g.1.1 g.1.2,zLx h.2.1 h.2.2 g.2.1 g.2.2]
theorem c_sub {a b c d:Int}(h:(-(2 ^ 52)<a∧a<2 ^ 52)∧(-(2 ^ 52)<b∧b<2 ^ 52))(g:(-(2 ^ 52)<c∧c<2 ^ 52)∧(-(2 ^ 52)<d∧d<2 ^ 52)):cSumBits .sub .f64 (flo a) (flo b) (flo c) (flo d)=some (flo (a - c),flo (b - d)):=by
 simp [cSumBits,zLv h.1.1 h.1.2 g.1.1 g.1.2,zLv h.2.1 h.2.2 g.2.1 g.2.2]
theorem zI7 (t:TypeId){a b c d:Int}(w:World)(h:(-(2 ^ 52)<a∧a<2 ^ 52)∧(-(2 ^ 52)<b∧b<2 ^ 52))(g:(-(2 ^ 52)<c∧c<2 ^ 52)∧(-(2 ^ 52)<d∧d<2 ^ 52)):(binOp .add t (pxV a b) (pxV c d)).run Tryz.prog w=.ok (pxV (a+c) (b+d)) w :=
 run_complex_sum w .add (.inl rfl) t .f64 _ _ _ _ _ _ (c_add h g)
theorem zI6 (t:TypeId){a b c d:Int}(w:World)(h:(-(2 ^ 52)<a∧a<2 ^ 52)∧(-(2 ^ 52)<b∧b<2 ^ 52))(g:(-(2 ^ 52)<c∧c<2 ^ 52)∧(-(2 ^ 52)<d∧d<2 ^ 52)):(binOp .sub t (pxV a b) (pxV c d)).run Tryz.prog w=.ok (pxV (a - c) (b - d)) w :=
 run_complex_sum w .sub (.inr rfl) t .f64 _ _ _ _ _ _ (c_sub h g)
theorem zBx (x y:Int)(w:World):Calls Tryz.prog 80 #[.int .i64 x,.int .i64 y] w fun e w'=>e=.returned (pxV x y)∧w=w':=by
 go_enter Tryz.func80,Tryz.ntmps80
 go_wp2
 go_ret
 exact ⟨rfl,rfl⟩
theorem zLb (a b:Int)(w:World)(h0:-200≤a)(h1:a<800):Calls Tryz.prog 119 #[pxV a b] w fun e w'=>e=.returned (.int .i64 a)∧w=w':=by
 have hc:∀ w,(convert 188 2 (.float .f64 (flo a))).run Tryz.prog w=.ok (.int .i64 a) w:=fun w=>run_convert_float_int w 188 2 .f64 .i64 _ a (by kernel_rfl) (by kernel_rfl) (zLw h0 h1)
 go_enter Tryz.func119,Tryz.ntmps119
 go_wp2
 go_ret
 exact ⟨rfl,rfl⟩
theorem zLa (a b:Int)(w:World)(h0:-200≤b)(h1:b<800):Calls Tryz.prog 120 #[pxV a b] w fun e w'=>e=.returned (.int .i64 b)∧w=w':=by
 have hc:∀ w,(convert 188 2 (.float .f64 (flo b))).run Tryz.prog w=.ok (.int .i64 b) w:=fun w=>run_convert_float_int w 188 2 .f64 .i64 _ b (by kernel_rfl) (by kernel_rfl) (zLw h0 h1)
 go_enter Tryz.func120,Tryz.ntmps120
 go_wp2
 go_ret
 exact ⟨rfl,rfl⟩
abbrev zGl (z x y wd ht:Int):Value:=.agg #[.int .i64 z,.int .i64 x,.int .i64 y,.int .i64 wd,.int .i64 ht]
def zDo (z x y wd ht:Int):Bool:=(yR z && (inB wd 1 8 && inB ht 1 8)) && (inB x 0 (uV z - wd) && inB y 0 (uV z - ht))
def vZ (z x y wd ht:Int):Int:=if zDo z x y wd ht=true then 0 else 3
theorem zCm {z x y wd ht:Int}(h:zDo z x y wd ht=true):yR z=true:=by simp [zDo] at h;exact h.1.1
theorem zBa {z x y wd ht:Int}(h:zDo z x y wd ht=true):((1≤wd∧wd≤8)∧(1≤ht∧ht≤8))∧((0≤x∧x≤uV z - wd)∧(0≤y∧y≤uV z - ht)):=by
 simp [zDo,inB] at h
 omega
theorem zKa (z x y wd ht:Int):(vZ z x y wd ht=0∧zDo z x y wd ht=true)∨(vZ z x y wd ht=3∧zDo z x y wd ht=false):=by
 unfold vZ
 cases h:zDo z x y wd ht <;> simp
theorem zDh (n:Int)(w:World):Calls Tryz.prog 93 #[.int .i64 n] w fun e w'=>e=.returned (.bool (inB n 1 8))∧w=w':=by
 go_enter Tryz.func93,Tryz.ntmps93
 go_wp2_with (go_at_call 77;refine (zJ _ _ _ _).mono ?_;rintro e w' ⟨rfl,rfl⟩)
 go_ret
 exact ⟨rfl,rfl⟩
theorem zBh (z x y wd ht:Int)(w:World):Calls Tryz.prog 79 #[zGl z x y wd ht] w fun e w'=>e=.returned (pxV x y)∧Bw w w':=by
 go_enter Tryz.func79,Tryz.ntmps79
 go_wp2_with (go_at_call 80;refine (zBx _ _ _).mono ?_;rintro e w' ⟨rfl,rfl⟩)
 go_ret
 exact ⟨rfl,Qb⟩
theorem zH3 (z x y wd ht:Int)(w:World):Calls Tryz.prog 90 #[zGl z x y wd ht] w fun e w'=>e=.returned (pxV wd ht)∧Bw w w':=by
 go_enter Tryz.func90,Tryz.ntmps90
 go_wp2_with (go_at_call 80;refine (zBx _ _ _).mono ?_;rintro e w' ⟨rfl,rfl⟩)
 go_ret
 exact ⟨rfl,Qb⟩
theorem zCl (z x y wd ht:Int)(w:World)(hx:0≤x∧x≤64)(hy:0≤y∧y≤64)(hw:1≤wd∧wd≤8)(hh:1≤ht∧ht≤8):Calls Tryz.prog 118 #[zGl z x y wd ht] w fun e w'=>e=.returned (pxV (x+wd - 1) (y+ht - 1))∧Bw w w':=by
 have s1:=fun t w=>zI7 t (a:=x) (b:=y) (c:=wd) (d:=ht) w (by omega) (by omega)
 have s2:∀ t w,(binOp .sub t (pxV (x+wd) (y+ht)) (.complex .f64 4607182418800017408 4607182418800017408)).run Tryz.prog w=.ok (pxV (x+wd - 1) (y+ht - 1)) w:=fun t w=>by
  rw [← flo_1]
  exact zI6 t (a:=x+wd) (b:=y+ht) (c:=1) (d:=1) w (by omega) (by omega)
 clear hx hy hw hh
 go_enter Tryz.func118,Tryz.ntmps118
 go_wp2_with fail
 generalize hW:(w.alloc _:World)=W
 have HB0:Hid (Bw w W):=by show Below _ _ _;subst hW;exact Qb
 have c00:∀ W',Bw W W'→W'.cell? ⟨w.heap.size,0,none⟩=some (.int .i64 z):=Qc hW
 have c01:∀ W',Bw W W'→W'.cell? ⟨w.heap.size,1,none⟩=some (.int .i64 x):=Qc hW
 have c02:∀ W',Bw W W'→W'.cell? ⟨w.heap.size,2,none⟩=some (.int .i64 y):=Qc hW
 have c03:∀ W',Bw W W'→W'.cell? ⟨w.heap.size,3,none⟩=some (.int .i64 wd):=Qc hW
 have c04:∀ W',Bw W W'→W'.cell? ⟨w.heap.size,4,none⟩=some (.int .i64 ht):=Qc hW
 clear hW
 have hr:Bw W W:=Below.refl _ _
 go_region_held3 (fun W'=>Bw W W') ((repeat (first|exact Qr _ _|assumption|refine Qd ?_|refine Qa ?_ _|refine Qt ?_|refine Qs ?_ _|refine Qo ?_ ?_ _ _)))
  (first
   | (go_at_call 79;refine (zBh _ _ _ _ _ _).mono ?_;rintro e w1 ⟨rfl,hb⟩)
   | (go_at_call 90;refine (zH3 _ _ _ _ _ _).mono ?_;rintro e w1 ⟨rfl,hb⟩)
   | fail)
 go_wp2
 go_ret
 exact ⟨rfl,zA HB0.out (by assumption)⟩
theorem uH (z x y wd ht:Int)(w:World):Calls Tryz.prog 69 #[zGl z x y wd ht] w fun e w'=>e=.returned (.int .i64 (vZ z x y wd ht))∧Bw w w':=by
 cases hv:(inB wd 1 8 && inB ht 1 8 && vN z x y)
 ·have hk:Hid (vZ z x y wd ht=3):=by
   show _=_
   unfold vZ
   rw [if_neg]
   intro hc
   have h1:=zCm hc
   have h2:=zBa hc
   have h3:=xY h1
   have:(inB wd 1 8 && inB ht 1 8 && vN z x y)=true:=by
    simp [vN,inB,h1]
    omega
   rw [this] at hv
   cases hv
  cases h1:inB wd 1 8 <;> cases h2:inB ht 1 8 <;> cases h3:vN z x y
  all_goals first | (rw [h1,h2,h3] at hv;cases hv;done) | skip
  all_goals
   clear hv
   go_enter Tryz.func69,Tryz.ntmps69
   go_wp2_with (first
    | (go_at_call 93;refine (zDh _ _).mono ?_;rintro e w' ⟨rfl,rfl⟩)
    | (go_at_call 117;refine (xP _ _ _ _).mono ?_;rintro e w' ⟨rfl,hb⟩))
   all_goals (go_ret;exact ⟨zC hk.out.symm,Qb⟩)
 ·simp only [Bool.and_eq_true] at hv
  obtain ⟨⟨h1,h2⟩,h3⟩:=hv
  have hz:=xF h3
  have hp:=uW h3
  have hn:=xY hz
  have hw:1≤wd∧wd≤8:=by simpa [inB] using h1
  have hh:1≤ht∧ht≤8:=by simpa [inB] using h2
  have hk:Hid (vZ z x y wd ht=if vN z (x+wd - 1) (y+ht - 1)=true then 0 else 3):=by
   show _=_
   unfold vZ
   have:zDo z x y wd ht=vN z (x+wd - 1) (y+ht - 1):=by
    rw [Bool.eq_iff_iff]
    simp [zDo,vN,inB,hz]
    omega
   rw [this]
  have sL:=fun w=>zCl z x y wd ht w (by omega) (by omega) hw hh
  have sX:=fun w=>zLb (x+wd - 1) (y+ht - 1) w (by omega) (by omega)
  have sY:=fun w=>zLa (x+wd - 1) (y+ht - 1) w (by omega) (by omega)
  have sP:=fun w=>xP z (x+wd - 1) (y+ht - 1) w
  clear hp hn hw hh hz
  generalize x+wd - 1=lx at *
  generalize y+ht - 1=ly at *
  go_enter Tryz.func69,Tryz.ntmps69
  go_wp2_with fail
  generalize hW:(w.alloc _:World)=W
  have HB0:Hid (Bw w W):=by show Below _ _ _;subst hW;exact Qb
  have c00:∀ W',Bw W W'→W'.cell? ⟨w.heap.size,0,none⟩=some (.int .i64 z):=Qc hW
  have c01:∀ W',Bw W W'→W'.cell? ⟨w.heap.size,1,none⟩=some (.int .i64 x):=Qc hW
  have c02:∀ W',Bw W W'→W'.cell? ⟨w.heap.size,2,none⟩=some (.int .i64 y):=Qc hW
  have c03:∀ W',Bw W W'→W'.cell? ⟨w.heap.size,3,none⟩=some (.int .i64 wd):=Qc hW
  have c04:∀ W',Bw W W'→W'.cell? ⟨w.heap.size,4,none⟩=some (.int .i64 ht):=Qc hW
  clear hW
  have hr:Bw W W:=Below.refl _ _
  go_wp2_with (first
   | (go_at_call 93;refine (zDh _ _).mono ?_;rintro e w' ⟨rfl,rfl⟩)
   | fail)
  refine (xP z x y _).mono ?_
  rintro e w1 ⟨rfl,hb1⟩
  go_wp2_with fail
  refine (sL _).mono ?_
  rintro e w2 ⟨rfl,hb2⟩
  have hB2:Bw W w2:=zA hb1 hb2
  clear hb1 hb2
  go_wp2_with fail
  cases hq:vN z lx ly
  all_goals
   rw [hq] at sP hk
   go_region_held3 (fun W'=>Bw W W') ((repeat (first|exact Qr _ _|assumption|refine Qd ?_|refine Qa ?_ _|refine Qt ?_|refine Qs ?_ _|refine Qo ?_ ?_ _ _)))
    (first
     | (go_at_call 119;refine (sX _).mono ?_;rintro e w3 ⟨rfl,rfl⟩)
     | (go_at_call 120;refine (sY _).mono ?_;rintro e w3 ⟨rfl,rfl⟩)
     | (go_at_call 117;refine (sP _).mono ?_;rintro e w3 ⟨rfl,hb⟩)
     | fail)
   go_wp2
   go_ret
   exact ⟨zC (by rw [hk.out];rfl),zA HB0.out (by assumption)⟩
theorem zE5 (z x y wd ht:Int)(w:World):Calls Tryz.prog 31 #[zGl z x y wd ht] w fun e w'=>e=.returned (zGl z x y wd ht)∧Bw w w':=by
 go_enter Tryz.func31,Tryz.ntmps31
 go_wp2
 exact bodyPost_ret (v:=zGl z x y wd ht) (by simp [results,Tryz.results31,go_sem]) rfl ⟨rfl,Qb⟩
theorem zF3 (z x y wd ht:Int)(w:World):Calls Tryz.prog 38 #[zGl z x y wd ht,zGl z x y wd ht] w fun e w'=>e=.returned (.bool true)∧Bw w w':=by
 go_enter Tryz.func38,Tryz.ntmps38
 go_wp2
 go_ret
 exact ⟨rfl,Qb⟩

theorem l1In_q (v lo hi:Int)(w:World):Calls Tryz.prog 59 #[.int .i64 v,.int .i64 lo,.int .i64 hi] w fun e w'=>e=.returned (.bool (inB v lo hi))∧∃ n,w'=w.drewN n :=
 (zQ v lo hi w).mono fun e w' ⟨h1,h2⟩=>⟨h1,0,h2⟩
end Go.Proofs.YtkjbafcalamgnaaGreat
