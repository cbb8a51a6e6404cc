/- Texts. -/
import Derived.Test.YtpaiholildedcaaGreatVFrameOf1
import Derived.Test.YtpaiholildedcaaGreatVFrameOf3
set_option linter.unusedSimpArgs false
set_option linter.unusedVariables false
set_option maxRecDepth 100000
set_option maxHeartbeats 32000000
namespace Go.Proofs.YtpaiholildedcaaGreat
open Go.RowKit
def yM (z:Int):Bool:=inB z 0 3
theorem zK {z:Int}(h:yM z=true):z=0∨z=1∨z=2∨z=3:=by
 simp [yM,inB] at h
 omega
def yI (z:Int):Int:=if z=0 then 128 else if z=1 then 64 else if z=2 then 32 else 16
def zKo (z:Int):Value:=if yM z=true then .agg #[.int .i64 0,.int .i64 (yI z)] else .agg #[.int .i64 3,.int .i64 0]
theorem yP (z:Int)(w:World):Calls Tryz.prog 176 #[.int .i64 z] w fun e w'=>e=.returned (.bool (yM z))∧w=w':=by
 unfold yM
 go_enter Tryz.func176,Tryz.ntmps176
 go_wp2_with (go_at_call 62;refine (zM _ _ _ _).mono ?_;rintro e w' ⟨rfl,rfl⟩)
 go_ret
 exact ⟨rfl,rfl⟩
theorem uY (z:Int)(w:World):Calls Tryz.prog 197 #[.int .i64 z] w fun e w'=>e=.returned (zKo z)∧Bw w w':=by
 cases h:yM z
 ·go_enter Tryz.func197,Tryz.ntmps197
  go_wp2_with (go_at_call 176;refine (yP _ _).mono ?_;rintro e w' ⟨rfl,rfl⟩)
  exact bodyPost_ret (v:=.agg #[.int .i64 3,.int .i64 0]) (by simp [results,Tryz.results197,go_sem]) rfl ⟨by simp [zKo,h],Qb⟩
 ·rcases zK h with rfl | rfl | rfl | rfl
  all_goals
   go_enter Tryz.func197,Tryz.ntmps197
   go_wp2_with (go_at_call 176;refine (yP _ _).mono ?_;rintro e w' ⟨rfl,rfl⟩)
   first
    | exact bodyPost_ret (v:=.agg #[.int .i64 0,.int .i64 128]) (by simp [results,Tryz.results197,go_sem];done) rfl ⟨rfl,Qb⟩
    | exact bodyPost_ret (v:=.agg #[.int .i64 0,.int .i64 64]) (by simp [results,Tryz.results197,go_sem];done) rfl ⟨rfl,Qb⟩
    | exact bodyPost_ret (v:=.agg #[.int .i64 0,.int .i64 32]) (by simp [results,Tryz.results197,go_sem];done) rfl ⟨rfl,Qb⟩
    | exact bodyPost_ret (v:=.agg #[.int .i64 0,.int .i64 16]) (by simp [results,Tryz.results197,go_sem];done) rfl ⟨rfl,Qb⟩
theorem xM (z:Int)(w:World):Calls Tryz.prog 64 #[.int .i64 z] w fun e w'=>e=.returned (.bool (yM z))∧w=w':=by
 unfold yM
 go_enter Tryz.func64,Tryz.ntmps64
 go_wp2_with (go_at_call 32;refine (zS _ _ _ _).mono ?_;rintro e w' ⟨rfl,rfl⟩)
 go_ret
 exact ⟨rfl,rfl⟩
theorem zEv (z:Int)(w:World)(h:yM z=true):Calls Tryz.prog 226 #[.int .i64 z] w fun e w'=>e=.returned (.int .i64 (yI z))∧w=w':=by
 rcases zK h with rfl | rfl | rfl | rfl
 all_goals
  go_enter Tryz.func226,Tryz.ntmps226
  go_wp2
  go_ret
  exact ⟨rfl,rfl⟩
theorem zNt {x y:Int}(h:inW x y=true):(0≤x∧x≤1024)∧(0≤y∧y≤1024):=by
 simp [inW,inB] at h
 omega
theorem zM3 {W:World}{r:Nat}{a b c:Value}(hT:zC W r 3) :
  (((W.setCell ⟨r,0,none⟩ a).setCell ⟨r,1,none⟩ b).setCell ⟨r,2,none⟩ c).cell? ⟨r,0,none⟩=some a ∧
  (((W.setCell ⟨r,0,none⟩ a).setCell ⟨r,1,none⟩ b).setCell ⟨r,2,none⟩ c).cell? ⟨r,1,none⟩=some b ∧
  (((W.setCell ⟨r,0,none⟩ a).setCell ⟨r,1,none⟩ b).setCell ⟨r,2,none⟩ c).cell? ⟨r,2,none⟩=some c:=by
 obtain ⟨x0,h0⟩:=(hT 0 (by omega)).1
 obtain ⟨x1,h1⟩:=(hT 1 (by omega)).1
 obtain ⟨x2,h2⟩:=(hT 2 (by omega)).1
 have ne:∀ i j:Nat,i≠j→(⟨r,i,none⟩:Addr)≠⟨r,j,none⟩:=fun i j hij h=>hij (by injection h)
 refine ⟨?_,?_,?_⟩
 ·rw [zB (ne 2 0 (by omega)),zB (ne 1 0 (by omega))];exact zG h0
 ·rw [zB (ne 2 1 (by omega))];exact zG (by rw [zB (ne 0 1 (by omega))];exact h1)
 ·exact zG (by rw [zB (ne 1 2 (by omega)),zB (ne 0 2 (by omega))];exact h2)
theorem there3 (V:World)(a b c:Value)(t:TypeId):zC (V.alloc (.cells #[a,b,c] t)) V.heap.size 3:=fun o ho=>by
 refine ⟨⟨#[a,b,c][o]'(by simpa using ho),?_⟩,World.frozen?_alloc_at _ _ _ _ rfl⟩
 rw [World.cell?_alloc_at _ _ _ _ rfl]
 exact Array.getElem?_eq_getElem _
theorem there2 (V:World)(a b:Value)(t:TypeId):zC (V.alloc (.cells #[a,b] t)) V.heap.size 2:=fun o ho=>by
 refine ⟨⟨#[a,b][o]'(by simpa using ho),?_⟩,World.frozen?_alloc_at _ _ _ _ rfl⟩
 rw [World.cell?_alloc_at _ _ _ _ rfl]
 exact Array.getElem?_eq_getElem _
def zAj (z:Int):Int:=if z=0 then 8 else if z=1 then 16 else if z=2 then 32 else 64
def pixV (z:Int):Value:=if yM z=true then .agg #[.int .i64 0,.int .i64 (zAj z)] else .agg #[.int .i64 3,.int .i64 0]
def xZ (z x y:Int):Bool:=yM z && (inB x 0 (zAj z - 1) && inB y 0 (zAj z - 1))
def zV (z x:Int):Int:=(2 * x+1) * yI z
def zL6 (z x y:Int):Value:=if xZ z x y=true then .agg #[.int .i64 0,.int .i64 (zV z x),.int .i64 (zV z y)] else .agg #[.int .i64 3,.int .i64 0,.int .i64 0]
theorem yC {z x y:Int}(h:xZ z x y=true):yM z=true:=by
 simp [xZ] at h
 exact h.1
theorem vO {z x y:Int}(h:xZ z x y=true):(0≤x∧x≤zAj z - 1)∧(0≤y∧y≤zAj z - 1):=by
 simp [xZ,inB] at h
 exact h.2
theorem xE {z:Int}(h:yM z=true):8≤zAj z∧zAj z≤64:=by
 rcases zK h with rfl | rfl | rfl | rfl <;> decide
theorem cent_ok {z x y:Int}(h:xZ z x y=true):okP (zV z x) (zV z y)=true:=by
 have hz:=yC h
 have hb:=vO h
 rw [zFl]
 unfold zV
 rcases zK hz with rfl | rfl | rfl | rfl
 all_goals
  simp only [show yI 0=128 from rfl,show yI 1=64 from rfl,show yI 2=32 from rfl,show yI 3=16 from rfl,show zAj 0=8 from rfl,show zAj 1=16 from rfl,show zAj 2=32 from rfl,show zAj 3=64 from rfl] at *
  omega
theorem zAz (z:Int)(w:World):Calls Tryz.prog 166 #[.int .i64 z] w fun e w'=>e=.returned (pixV z)∧Bw w w':=by
 cases h:yM z
 ·go_enter Tryz.func166,Tryz.ntmps166
  go_wp2_with (go_at_call 176;refine (yP _ _).mono ?_;rintro e w' ⟨rfl,rfl⟩)
  exact bodyPost_ret (v:=.agg #[.int .i64 3,.int .i64 0]) (by simp [results,Tryz.results166,go_sem]) rfl ⟨by simp [pixV,h],Qb⟩
 ·rcases zK h with rfl | rfl | rfl | rfl
  all_goals
   go_enter Tryz.func166,Tryz.ntmps166
   go_wp2_with (go_at_call 176;refine (yP _ _).mono ?_;rintro e w' ⟨rfl,rfl⟩)
   first
    | exact bodyPost_ret (v:=.agg #[.int .i64 0,.int .i64 8]) (by simp [results,Tryz.results166,go_sem];done) rfl ⟨rfl,Qb⟩
    | exact bodyPost_ret (v:=.agg #[.int .i64 0,.int .i64 16]) (by simp [results,Tryz.results166,go_sem];done) rfl ⟨rfl,Qb⟩
    | exact bodyPost_ret (v:=.agg #[.int .i64 0,.int .i64 32]) (by simp [results,Tryz.results166,go_sem];done) rfl ⟨rfl,Qb⟩
    | exact bodyPost_ret (v:=.agg #[.int .i64 0,.int .i64 64]) (by simp [results,Tryz.results166,go_sem];done) rfl ⟨rfl,Qb⟩
theorem zI2 (z:Int)(w:World)(h:yM z=true):Calls Tryz.prog 65 #[.int .i64 z] w fun e w'=>e=.returned (.int .i64 (zAj z))∧w=w':=by
 rcases zK h with rfl | rfl | rfl | rfl
 all_goals
  go_enter Tryz.func65,Tryz.ntmps65
  go_wp2
  go_ret
  exact ⟨rfl,rfl⟩
theorem vD (z x y:Int)(w:World):Calls Tryz.prog 117 #[.int .i64 z,.int .i64 x,.int .i64 y] w fun e w'=>e=.returned (.bool (xZ z x y))∧Bw w w':=by
 have s1:=fun w=>zAz z w
 cases h:yM z
 ·have hv:pixV z=.agg #[.int .i64 3,.int .i64 0]:=by simp [pixV,h]
  simp only [hv] at s1
  have i1:∀ w,(Instr.field 63 (.agg #[.int .i64 3,.int .i64 0]) 1).run Tryz.prog w=.ok (.int .i64 0) w:=fun _=>by kernel_rfl
  have hx:inB x 0 (-1)=false:=by simp [inB];omega
  have hp:Hid (xZ z x y=false):=by show _=_;simp [xZ,h]
  go_enter Tryz.func117,Tryz.ntmps117
  go_wp2_with (first
   | (go_at_call 166;refine (s1 _).mono ?_;rintro e w1 ⟨rfl,hb1⟩)
   | (go_at_call 62;refine (zM _ _ _ _).mono ?_;rintro e w' ⟨rfl,rfl⟩))
  all_goals (go_ret;exact ⟨zF (by rw [hp.out]),Qb⟩)
 ·have hv:pixV z=.agg #[.int .i64 0,.int .i64 (zAj z)]:=by simp [pixV,h]
  simp only [hv] at s1
  have hp:Hid (xZ z x y=(inB x 0 (zAj z - 1) && inB y 0 (zAj z - 1))):=by show _=_;simp [xZ,h]
  obtain ⟨b1,b2⟩:=xE h
  generalize zAj z=u at *
  have i1:∀ w,(Instr.field 63 (.agg #[.int .i64 0,.int .i64 u]) 1).run Tryz.prog w=.ok (.int .i64 u) w:=fun _=>by kernel_rfl
  cases hx:inB x 0 (u - 1) <;> cases hy:inB y 0 (u - 1)
  all_goals
   go_enter Tryz.func117,Tryz.ntmps117
   go_wp2_with (first
    | (go_at_call 166;refine (s1 _).mono ?_;rintro e w1 ⟨rfl,hb1⟩)
    | (go_at_call 62;refine (zM _ _ _ _).mono ?_;rintro e w' ⟨rfl,rfl⟩))
   all_goals (go_ret;exact ⟨zF (by rw [hp.out,hx,hy];rfl),Qb⟩)
theorem zG7 (z x y:Int)(w:World)(h:xZ z x y=true):Calls Tryz.prog 255 #[.int .i64 z,.int .i64 x,.int .i64 y] w fun e w'=>e=.returned (.agg #[.int .i64 (zV z x),.int .i64 (zV z y)])∧Bw w w':=by
 have hz:=yC h
 have hb:=vO h
 have s1:=fun w=>zEv z w hz
 clear h
 unfold zV
 rcases zK hz with rfl | rfl | rfl | rfl
 all_goals
  simp only [show yI 0=128 from rfl,show yI 1=64 from rfl,show yI 2=32 from rfl,show yI 3=16 from rfl,show zAj 0=8 from rfl,show zAj 1=16 from rfl,show zAj 2=32 from rfl,show zAj 3=64 from rfl] at *
  obtain ⟨⟨x0,x1⟩,y0,y1⟩:=hb
  go_enter Tryz.func255,Tryz.ntmps255
  go_wp2_with (go_at_call 226;refine (s1 _).mono ?_;rintro e w1 ⟨rfl,rfl⟩)
  exact bodyPost_ret (v:=.agg #[.int .i64 _,.int .i64 _]) (by simp [results,Tryz.results255,go_sem]) rfl ⟨rfl,Qb⟩
theorem zCl:(Tryz.prog.info? 2).map (fun i=>(i.zero,i.size,i.bytes))=some (some (.int .i64 0),1,8):=by kernel_rfl
def xJ (base:Nat)(w:World)(v:Value)(l:List Int):Prop:=w.ownsRow base 2 1 v l.length (l.map (.int .i64 ·))
def nz (l:List Int)(i:Nat):Int:=l.getD i 0
theorem xJ.own {base:Nat}{w:World}{v:Value}{l:List Int}(h:xJ base w v l):uM w base v l.length (nz l):=by
 obtain ⟨h1,h2 | ⟨g,cp,cur,hv,hg,hh,hkc,hcm,hcs,htk⟩⟩:=id h
 ·obtain ⟨rfl,h0⟩:=h2
  rw [h0]
  exact ⟨none,0,rfl,Nat.le_refl _,.inl rfl⟩
 ·have hgl:g<w.heap.size:=by
   rcases Nat.lt_or_ge g w.heap.size with h' | h'
   ·exact h'
   ·rw [Array.getElem?_eq_none h'] at hh;cases hh
  have hrow:w.ownsRow base 2 1 (.slice (some ⟨g,0,none⟩) l.length cp) l.length (l.map (.int .i64 ·)):=⟨h1,.inr ⟨g,cp,cur,rfl,hg,hh,hkc,hcm,hcs,htk⟩⟩
  refine ⟨some ⟨g,0,none⟩,cp,hv,hkc,.inr ⟨g,rfl,hg,hgl,fun i hi=>?_,fun o ho=>⟨?_,hrow.frozenAt o⟩⟩⟩
  ·rw [Nat.zero_add,hrow.cellAt i (by omega),List.getElem?_map]
   simp [nz,List.getD_eq_getElem?_getD,hi]
  ·rw [hrow.cellAt o (by omega),List.getElem?_map]
   simp [ho]
theorem xJ.below {base:Nat}{w w':World}{v:Value}{l:List Int}(h:xJ base w v l)(hb:Below w.heap.size w w'):xJ base w' v l:=by
 obtain ⟨h1,h2 | ⟨g,cp,cur,hv,hg,hh,hr⟩⟩:=h
 ·exact ⟨h1,.inl h2⟩
 ·refine ⟨h1,.inr ⟨g,cp,cur,hv,hg,?_,hr⟩⟩
  have hgl:g<w.heap.size:=by
   rcases Nat.lt_or_ge g w.heap.size with h' | h'
   ·exact h'
   ·rw [Array.getElem?_eq_none h'] at hh;cases hh
  rw [hb.block g hgl]
  exact hh
theorem xJ.no (base:Nat)(w:World):xJ base w (.slice none 0 0) []:=World.ownsRow_nil _ _ _ _
theorem xJ.wide {base B:Nat}{w:World}{v:Value}{l:List Int}(h:xJ base w v l)(hB:B≤base):xJ B w v l:=by
 obtain ⟨h1,h2 | ⟨g,cp,cur,hv,hg,hr⟩⟩:=h
 ·exact ⟨h1,.inl h2⟩
 ·exact ⟨h1,.inr ⟨g,cp,cur,hv,by omega,hr⟩⟩
theorem xJ.other {base r o:Nat}{w:World}{v u:Value}{l:List Int}(h:xJ base w v l)(hr:r<base):xJ base (w.setCell ⟨r,o,none⟩ u) v l:=by
 obtain ⟨h1,h2 | ⟨g,cp,cur,hv,hg,hh,hr'⟩⟩:=h
 ·exact ⟨h1,.inl h2⟩
 ·exact ⟨h1,.inr ⟨g,cp,cur,hv,hg,by rw [Below.heap_setCell _ _ _ _ (by simp;omega)];exact hh,hr'⟩⟩
theorem zLq (s:Int)(w:World):Calls Tryz.prog 122 #[.int .i64 s] w fun e w'=>e=.returned (.bool (inB s 1 10))∧w'=w:=by
 go_enter Tryz.func122,Tryz.ntmps122
 go_wp2_with (go_at_call 62;refine (zM _ _ _ _).mono ?_;rintro e w' ⟨rfl,rfl⟩)
 go_ret
 exact ⟨rfl,rfl⟩
def timC (now:Int):Int:=if inB now 0 9000=true then 0 else 3
theorem zFa (now:Int)(w:World):Calls Tryz.prog 121 #[.int .i64 now] w fun e w'=>e=.returned (.int .i64 (timC now))∧Bw w w':=by
 cases h:inB now 0 9000
 all_goals
  have hk:Hid (timC now=if inB now 0 9000=true then 0 else 3):=rfl
  rw [h] at hk
  go_enter Tryz.func121,Tryz.ntmps121
  go_wp2_with (go_at_call 62;refine (zM _ _ _ _).mono ?_;rintro e w' ⟨rfl,rfl⟩)
  go_ret
  exact ⟨zD (by rw [hk.out];rfl),Qb⟩
end Go.Proofs.YtpaiholildedcaaGreat
