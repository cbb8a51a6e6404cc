/- Texts. -/
import Derived.Test.YtpaiholildedcaaGreatVLabelsIn1
import Derived.Test.YtpaiholildedcaaGreatVLabelsIn3
set_option linter.unusedSimpArgs false
set_option linter.unusedVariables false
set_option maxRecDepth 100000
set_option maxHeartbeats 32000000
namespace Go.Proofs.YtpaiholildedcaaGreat
open Go.RowKit
def yH (z:Int):Bool:=inB z 0 3
theorem zP {z:Int}(h:yH z=true):z=0∨z=1∨z=2∨z=3:=by
 simp [yH,inB] at h
 omega
def yI (z:Int):Int:=if z=0 then 128 else if z=1 then 64 else if z=2 then 32 else 16
def zH6 (z:Int):Value:=if yH z=true then .agg #[.int .i64 0,.int .i64 (yI z)] else .agg #[.int .i64 3,.int .i64 0]
theorem yX (z:Int)(w:World):Calls Tryz.prog 176 #[.int .i64 z] w fun e w'=>e=.returned (.bool (yH z))∧w=w':=by
 unfold yH
 go_enter Tryz.func176,Tryz.ntmps176
 go_wp2_with (go_at_call 62;refine (zM _ _ _ _).mono ?_;rintro e w' ⟨rfl,rfl⟩)
 go_ret
 exact ⟨rfl,rfl⟩
theorem vO (z:Int)(w:World):Calls Tryz.prog 197 #[.int .i64 z] w fun e w'=>e=.returned (zH6 z)∧Bw w w':=by
 cases h:yH z
 ·go_enter Tryz.func197,Tryz.ntmps197
  go_wp2_with (go_at_call 176;refine (yX _ _).mono ?_;rintro e w' ⟨rfl,rfl⟩)
  exact bodyPost_ret (v:=.agg #[.int .i64 3,.int .i64 0]) (by simp [results,Tryz.results197,go_sem]) rfl ⟨by simp [zH6,h],Qb⟩
 ·rcases zP h with rfl | rfl | rfl | rfl
  all_goals
   go_enter Tryz.func197,Tryz.ntmps197
   go_wp2_with (go_at_call 176;refine (yX _ _).mono ?_;rintro e w' ⟨rfl,rfl⟩)
   first
    | exact bodyPost_ret (v:=.agg #[.int .i64 0,.int .i64 128]) (by simp [results,Tryz.results197,go_sem];done) rfl ⟨rfl,Qb⟩
    | exact bodyPost_ret (v:=.agg #[.int .i64 0,.int .i64 64]) (by simp [results,Tryz.results197,go_sem];done) rfl ⟨rfl,Qb⟩
    | exact bodyPost_ret (v:=.agg #[.int .i64 0,.int .i64 32]) (by simp [results,Tryz.results197,go_sem];done) rfl ⟨rfl,Qb⟩
    | exact bodyPost_ret (v:=.agg #[.int .i64 0,.int .i64 16]) (by simp [results,Tryz.results197,go_sem];done) rfl ⟨rfl,Qb⟩
theorem xT (z:Int)(w:World):Calls Tryz.prog 64 #[.int .i64 z] w fun e w'=>e=.returned (.bool (yH z))∧w=w':=by
 unfold yH
 go_enter Tryz.func64,Tryz.ntmps64
 go_wp2_with (go_at_call 32;refine (zO _ _ _ _).mono ?_;rintro e w' ⟨rfl,rfl⟩)
 go_ret
 exact ⟨rfl,rfl⟩
theorem zCq (z:Int)(w:World)(h:yH z=true):Calls Tryz.prog 226 #[.int .i64 z] w fun e w'=>e=.returned (.int .i64 (yI z))∧w=w':=by
 rcases zP h with rfl | rfl | rfl | rfl
 all_goals
  go_enter Tryz.func226,Tryz.ntmps226
  go_wp2
  go_ret
  exact ⟨rfl,rfl⟩
theorem zP9 {x y:Int}(h:inW x y=true):(0≤x∧x≤1024)∧(0≤y∧y≤1024):=by
 simp [inW,inB] at h
 omega
theorem zO8 {W:World}{r:Nat}{a b c:Value}(hT:zD W r 3) :
  (((W.setCell ⟨r,0,none⟩ a).setCell ⟨r,1,none⟩ b).setCell ⟨r,2,none⟩ c).cell? ⟨r,0,none⟩=some a ∧
  (((W.setCell ⟨r,0,none⟩ a).setCell ⟨r,1,none⟩ b).setCell ⟨r,2,none⟩ c).cell? ⟨r,1,none⟩=some b ∧
  (((W.setCell ⟨r,0,none⟩ a).setCell ⟨r,1,none⟩ b).setCell ⟨r,2,none⟩ c).cell? ⟨r,2,none⟩=some c:=by
 obtain ⟨x0,h0⟩:=(hT 0 (by omega)).1
 obtain ⟨x1,h1⟩:=(hT 1 (by omega)).1
 obtain ⟨x2,h2⟩:=(hT 2 (by omega)).1
 have ne:∀ i j:Nat,i≠j→(⟨r,i,none⟩:Addr)≠⟨r,j,none⟩:=fun i j hij h=>hij (by injection h)
 refine ⟨?_,?_,?_⟩
 ·rw [zB (ne 2 0 (by omega)),zB (ne 1 0 (by omega))];exact zG h0
 ·rw [zB (ne 2 1 (by omega))];exact zG (by rw [zB (ne 0 1 (by omega))];exact h1)
 ·exact zG (by rw [zB (ne 1 2 (by omega)),zB (ne 0 2 (by omega))];exact h2)
theorem there3 (V:World)(a b c:Value)(t:TypeId):zD (V.alloc (.cells #[a,b,c] t)) V.heap.size 3:=fun o ho=>by
 refine ⟨⟨#[a,b,c][o]'(by simpa using ho),?_⟩,World.frozen?_alloc_at _ _ _ _ rfl⟩
 rw [World.cell?_alloc_at _ _ _ _ rfl]
 exact Array.getElem?_eq_getElem _
theorem there2 (V:World)(a b:Value)(t:TypeId):zD (V.alloc (.cells #[a,b] t)) V.heap.size 2:=fun o ho=>by
 refine ⟨⟨#[a,b][o]'(by simpa using ho),?_⟩,World.frozen?_alloc_at _ _ _ _ rfl⟩
 rw [World.cell?_alloc_at _ _ _ _ rfl]
 exact Array.getElem?_eq_getElem _
def zAp (z:Int):Int:=if z=0 then 8 else if z=1 then 16 else if z=2 then 32 else 64
def zTd (z:Int):Value:=if yH z=true then .agg #[.int .i64 0,.int .i64 (zAp z)] else .agg #[.int .i64 3,.int .i64 0]
def uW (z x y:Int):Bool:=yH z && (inB x 0 (zAp z - 1) && inB y 0 (zAp z - 1))
def zZ (z x:Int):Int:=(2 * x+1) * yI z
def zOc (z x y:Int):Value:=if uW z x y=true then .agg #[.int .i64 0,.int .i64 (zZ z x),.int .i64 (zZ z y)] else .agg #[.int .i64 3,.int .i64 0,.int .i64 0]
theorem vC {z x y:Int}(h:uW z x y=true):yH z=true:=by
 simp [uW] at h
 exact h.1
theorem zBj {z x y:Int}(h:uW z x y=true):(0≤x∧x≤zAp z - 1)∧(0≤y∧y≤zAp z - 1):=by
 simp [uW,inB] at h
 exact h.2
theorem xJ {z:Int}(h:yH z=true):8≤zAp z∧zAp z≤64:=by
 rcases zP h with rfl | rfl | rfl | rfl <;> decide
theorem cent_ok {z x y:Int}(h:uW z x y=true):okP (zZ z x) (zZ z y)=true:=by
 have hz:=vC h
 have hb:=zBj h
 rw [zG5]
 unfold zZ
 rcases zP hz with rfl | rfl | rfl | rfl
 all_goals
  simp only [show yI 0=128 from rfl,show yI 1=64 from rfl,show yI 2=32 from rfl,show yI 3=16 from rfl,show zAp 0=8 from rfl,show zAp 1=16 from rfl,show zAp 2=32 from rfl,show zAp 3=64 from rfl] at *
  omega
theorem vP (z:Int)(w:World):Calls Tryz.prog 166 #[.int .i64 z] w fun e w'=>e=.returned (zTd z)∧Bw w w':=by
 cases h:yH z
 ·go_enter Tryz.func166,Tryz.ntmps166
  go_wp2_with (go_at_call 176;refine (yX _ _).mono ?_;rintro e w' ⟨rfl,rfl⟩)
  exact bodyPost_ret (v:=.agg #[.int .i64 3,.int .i64 0]) (by simp [results,Tryz.results166,go_sem]) rfl ⟨by simp [zTd,h],Qb⟩
 ·rcases zP h with rfl | rfl | rfl | rfl
  all_goals
   go_enter Tryz.func166,Tryz.ntmps166
   go_wp2_with (go_at_call 176;refine (yX _ _).mono ?_;rintro e w' ⟨rfl,rfl⟩)
   first
    | exact bodyPost_ret (v:=.agg #[.int .i64 0,.int .i64 8]) (by simp [results,Tryz.results166,go_sem];done) rfl ⟨rfl,Qb⟩
    | exact bodyPost_ret (v:=.agg #[.int .i64 0,.int .i64 16]) (by simp [results,Tryz.results166,go_sem];done) rfl ⟨rfl,Qb⟩
    | exact bodyPost_ret (v:=.agg #[.int .i64 0,.int .i64 32]) (by simp [results,Tryz.results166,go_sem];done) rfl ⟨rfl,Qb⟩
    | exact bodyPost_ret (v:=.agg #[.int .i64 0,.int .i64 64]) (by simp [results,Tryz.results166,go_sem];done) rfl ⟨rfl,Qb⟩
theorem zD9 (z:Int)(w:World)(h:yH z=true):Calls Tryz.prog 65 #[.int .i64 z] w fun e w'=>e=.returned (.int .i64 (zAp z))∧w=w':=by
 rcases zP h with rfl | rfl | rfl | rfl
 all_goals
  go_enter Tryz.func65,Tryz.ntmps65
  go_wp2
  go_ret
  exact ⟨rfl,rfl⟩
theorem vN (z x y:Int)(w:World):Calls Tryz.prog 117 #[.int .i64 z,.int .i64 x,.int .i64 y] w fun e w'=>e=.returned (.bool (uW z x y))∧Bw w w':=by
 have s1:=fun w=>vP z w
 cases h:yH z
 ·have hv:zTd z=.agg #[.int .i64 3,.int .i64 0]:=by simp [zTd,h]
  simp only [hv] at s1
  have i1:∀ w,(Instr.field 63 (.agg #[.int .i64 3,.int .i64 0]) 1).run Tryz.prog w=.ok (.int .i64 0) w:=fun _=>by kernel_rfl
  have hx:inB x 0 (-1)=false:=by simp [inB];omega
  have hp:Hid (uW z x y=false):=by show _=_;simp [uW,h]
  go_enter Tryz.func117,Tryz.ntmps117
  go_wp2_with (first
   | (go_at_call 166;refine (s1 _).mono ?_;rintro e w1 ⟨rfl,hb1⟩)
   | (go_at_call 62;refine (zM _ _ _ _).mono ?_;rintro e w' ⟨rfl,rfl⟩))
  all_goals (go_ret;exact ⟨zF (by rw [hp.out]),Qb⟩)
 ·have hv:zTd z=.agg #[.int .i64 0,.int .i64 (zAp z)]:=by simp [zTd,h]
  simp only [hv] at s1
  have hp:Hid (uW z x y=(inB x 0 (zAp z - 1) && inB y 0 (zAp z - 1))):=by show _=_;simp [uW,h]
  obtain ⟨b1,b2⟩:=xJ h
  generalize zAp z=u at *
  have i1:∀ w,(Instr.field 63 (.agg #[.int .i64 0,.int .i64 u]) 1).run Tryz.prog w=.ok (.int .i64 u) w:=fun _=>by kernel_rfl
  cases hx:inB x 0 (u - 1) <;> cases hy:inB y 0 (u - 1)
  all_goals
   go_enter Tryz.func117,Tryz.ntmps117
   go_wp2_with (first
    | (go_at_call 166;refine (s1 _).mono ?_;rintro e w1 ⟨rfl,hb1⟩)
    | (go_at_call 62;refine (zM _ _ _ _).mono ?_;rintro e w' ⟨rfl,rfl⟩))
   all_goals (go_ret;exact ⟨zF (by rw [hp.out,hx,hy];rfl),Qb⟩)
theorem zI2 (z x y:Int)(w:World)(h:uW z x y=true):Calls Tryz.prog 255 #[.int .i64 z,.int .i64 x,.int .i64 y] w fun e w'=>e=.returned (.agg #[.int .i64 (zZ z x),.int .i64 (zZ z y)])∧Bw w w':=by
 have hz:=vC h
 have hb:=zBj h
 have s1:=fun w=>zCq z w hz
 clear h
 unfold zZ
 rcases zP hz with rfl | rfl | rfl | rfl
 all_goals
  simp only [show yI 0=128 from rfl,show yI 1=64 from rfl,show yI 2=32 from rfl,show yI 3=16 from rfl,show zAp 0=8 from rfl,show zAp 1=16 from rfl,show zAp 2=32 from rfl,show zAp 3=64 from rfl] at *
  obtain ⟨⟨x0,x1⟩,y0,y1⟩:=hb
  go_enter Tryz.func255,Tryz.ntmps255
  go_wp2_with (go_at_call 226;refine (s1 _).mono ?_;rintro e w1 ⟨rfl,rfl⟩)
  exact bodyPost_ret (v:=.agg #[.int .i64 _,.int .i64 _]) (by simp [results,Tryz.results255,go_sem]) rfl ⟨rfl,Qb⟩
theorem zHm:(Tryz.prog.info? 2).map (fun i=>(i.zero,i.size,i.bytes))=some (some (.int .i64 0),1,8):=by kernel_rfl
def zAq (base:Nat)(w:World)(v:Value)(l:List Int):Prop:=w.ownsRow base 2 1 v l.length (l.map (.int .i64 ·))
def nz (l:List Int)(i:Nat):Int:=l.getD i 0
theorem zAq.own {base:Nat}{w:World}{v:Value}{l:List Int}(h:zAq base w v l):OwnN w base v l.length (nz l):=by
 obtain ⟨h1,h2 | ⟨g,cp,cur,hv,hg,hh,hkc,hcm,hcs,htk⟩⟩:=id h
 ·obtain ⟨rfl,h0⟩:=h2
  rw [h0]
  exact ⟨none,0,rfl,Nat.le_refl _,.inl rfl⟩
 ·have hgl:g<w.heap.size:=by
   rcases Nat.lt_or_ge g w.heap.size with h' | h'
   ·exact h'
   ·rw [Array.getElem?_eq_none h'] at hh;cases hh
  have hrow:w.ownsRow base 2 1 (.slice (some ⟨g,0,none⟩) l.length cp) l.length (l.map (.int .i64 ·)):=⟨h1,.inr ⟨g,cp,cur,rfl,hg,hh,hkc,hcm,hcs,htk⟩⟩
  refine ⟨some ⟨g,0,none⟩,cp,hv,hkc,.inr ⟨g,rfl,hg,hgl,fun i hi=>?_,fun o ho=>⟨?_,hrow.frozenAt o⟩⟩⟩
  ·rw [Nat.zero_add,hrow.cellAt i (by omega),List.getElem?_map]
   simp [nz,List.getD_eq_getElem?_getD,hi]
  ·rw [hrow.cellAt o (by omega),List.getElem?_map]
   simp [ho]
theorem zAq.below {base:Nat}{w w':World}{v:Value}{l:List Int}(h:zAq base w v l)(hb:Below w.heap.size w w'):zAq base w' v l:=by
 obtain ⟨h1,h2 | ⟨g,cp,cur,hv,hg,hh,hr⟩⟩:=h
 ·exact ⟨h1,.inl h2⟩
 ·refine ⟨h1,.inr ⟨g,cp,cur,hv,hg,?_,hr⟩⟩
  have hgl:g<w.heap.size:=by
   rcases Nat.lt_or_ge g w.heap.size with h' | h'
   ·exact h'
   ·rw [Array.getElem?_eq_none h'] at hh;cases hh
  rw [hb.block g hgl]
  exact hh
theorem zAq.no (base:Nat)(w:World):zAq base w (.slice none 0 0) []:=World.ownsRow_nil _ _ _ _
theorem zAq.wide {base B:Nat}{w:World}{v:Value}{l:List Int}(h:zAq base w v l)(hB:B≤base):zAq B w v l:=by
 obtain ⟨h1,h2 | ⟨g,cp,cur,hv,hg,hr⟩⟩:=h
 ·exact ⟨h1,.inl h2⟩
 ·exact ⟨h1,.inr ⟨g,cp,cur,hv,by omega,hr⟩⟩
theorem zAq.other {base r o:Nat}{w:World}{v u:Value}{l:List Int}(h:zAq base w v l)(hr:r<base):zAq base (w.setCell ⟨r,o,none⟩ u) v l:=by
 obtain ⟨h1,h2 | ⟨g,cp,cur,hv,hg,hh,hr'⟩⟩:=h
 ·exact ⟨h1,.inl h2⟩
 ·exact ⟨h1,.inr ⟨g,cp,cur,hv,hg,by rw [Below.heap_setCell _ _ _ _ (by simp;omega)];exact hh,hr'⟩⟩
theorem zRy (n:Nat)(h:n≤1048576)(w:World) :
  (Instr.makeSlice 46 (.int .i64 (n:Int)) (.int .i64 (n:Int))).run Tryz.prog w=.ok (.slice (some ⟨w.heap.size,0,none⟩) n n) (w.alloc (.cells (madeCells #[.int .i64 0] n) 2)):=by
 obtain ⟨i,hi,hz,hs,hb⟩:=info_parts zHm
 have hr:=run_make (P:=Tryz.prog) w 46 2 i _ Tryz.underlying46 hi hz .i64 .i64 (n:Int) (n:Int) (by omega) (Int.le_refl _) (by rw [hb];omega) (by omega)
 simp only [Int.toNat_natCast,hs,Nat.mul_one] at hr
 exact hr
theorem zKi (n:Nat)(w:World)(t:TypeId):zD (w.alloc (.cells (madeCells #[.int .i64 0] n) t)) w.heap.size n:=fun o ho=>by
 have hz:=size_madeCells #[.int .i64 0] n
 refine ⟨⟨(madeCells #[.int .i64 0] n)[o]'(by rw [hz];exact ho),?_⟩,World.frozen?_alloc_at _ _ _ _ rfl⟩
 rw [World.cell?_alloc_at _ _ _ _ rfl]
 exact Array.getElem?_eq_getElem _
theorem zIb (a:Option Addr)(n cap:Nat)(Z:Nat→Int)(w:World)(hp:zCi w a n Z)(hmax:n≤1048576) :
  Calls Tryz.prog 189 #[.slice a n cap] w fun e w'=>∃ b,e=.returned (.slice (some ⟨b,0,none⟩) n n)∧w.heap.size≤b∧b<w'.heap.size∧zGm w' b 0 n Z∧zD w' b n∧Bw w w':=by
 have hmk:=zRy n hmax
 have HP:Hid (zCi w a n Z):=hp
 clear hp
 go_enter Tryz.func189,Tryz.ntmps189
 go_wp2
 generalize hW:(w.alloc _:World)=W
 have HB0:Hid (Bw w W):=by show Below _ _ _;subst hW;exact Qb
 have HT0:Hid (zD W w.heap.size n):=by show zD _ _ _;subst hW;exact zKi _ _ _
 have HL0:Hid (w.heap.size<W.heap.size):=by show _<_;subst hW;simp
 clear hW hmk
 go_loopw [4] (fun i wr=>∃ k:Nat,k≤n∧i=.int .i64 k∧Bw w wr∧zD wr w.heap.size n∧zGm wr w.heap.size 0 k Z∧w.heap.size<wr.heap.size) (fun i _=>n - (intOf i).toNat)
 case atStart=>exact ⟨0,by omega,rfl,HB0.out,HT0.out,fun i hi=>by omega,HL0.out⟩
 case round =>
  obtain ⟨k,hk,rfl,hB,hT,hPt,hlw⟩:=hrel
  by_cases hlt:k<n
  ·rcases HP.out with h0 | ⟨b,off,rfl,hbl,hpt⟩
   ·omega
   ·have hx:wr.cell? ⟨b,off+k,none⟩=some (.int .i64 (Z k)):=(hB.cell (p:=⟨b,off+k,none⟩) hbl).trans (hpt k hlt)
    have HB:Hid (Bw w wr):=hB
    have HT:Hid (zD wr w.heap.size n):=hT
    have HQ:Hid (zGm wr w.heap.size 0 k Z):=hPt
    have t0:=hT.cell k hlt
    have f0:=(hT k hlt).2
    clear hB hT hPt hpt
    have hi:(k:Int)<(n:Int):=by omega
    have hi0:(0:Int)≤(k:Int):=by omega
    go_wp2
    go_roundw
    case rel =>
     refine ⟨k+1,by omega,by go_num,?_,HT.out.setN _ _,fillN HT.out hlt HQ.out,?_⟩
     ·have HB':=HB.out
      exact Qb
     ·simp;omega
    case measure=>simp [intOf];omega
  ·go_wp2
   go_ret
   have hkn:k=n:=by omega
   subst hkn
   exact ⟨_,rfl,Nat.le_refl _,hlw,hPt,hT,hB⟩
theorem zNv (s:Int)(w:World):Calls Tryz.prog 122 #[.int .i64 s] w fun e w'=>e=.returned (.bool (inB s 1 10))∧w'=w:=by
 go_enter Tryz.func122,Tryz.ntmps122
 go_wp2_with (go_at_call 62;refine (zM _ _ _ _).mono ?_;rintro e w' ⟨rfl,rfl⟩)
 go_ret
 exact ⟨rfl,rfl⟩
def timC (now:Int):Int:=if inB now 0 9000=true then 0 else 3
theorem zGq (now:Int)(w:World):Calls Tryz.prog 121 #[.int .i64 now] w fun e w'=>e=.returned (.int .i64 (timC now))∧Bw w w':=by
 cases h:inB now 0 9000
 all_goals
  have hk:Hid (timC now=if inB now 0 9000=true then 0 else 3):=rfl
  rw [h] at hk
  go_enter Tryz.func121,Tryz.ntmps121
  go_wp2_with (go_at_call 62;refine (zM _ _ _ _).mono ?_;rintro e w' ⟨rfl,rfl⟩)
  go_ret
  exact ⟨zE (by rw [hk.out];rfl),Qb⟩
structure Plc where
 id:Int
 a:Int
 b:Int
 c:Int
 d:Int
abbrev zL2 (e:Plc):Value:=.agg #[.int .i64 e.id,.int .i64 e.a,.int .i64 e.b,.int .i64 e.c,.int .i64 e.d]
def zAf (w:World)(p o:Nat)(e:Plc):Prop:=w.cell? ⟨p,o,none⟩=some (.int .i64 e.id)∧w.cell? ⟨p,o+1,none⟩=some (.int .i64 e.a)∧w.cell? ⟨p,o+2,none⟩=some (.int .i64 e.b)∧w.cell? ⟨p,o+3,none⟩=some (.int .i64 e.c)∧w.cell? ⟨p,o+4,none⟩=some (.int .i64 e.d)
theorem zAf.below {w w':World}{p o B:Nat}{e:Plc}(h:zAf w p o e)(hb:Below B w w')(hp:p<B):zAf w' p o e:=by
 obtain ⟨h0,h1,h2,h3,h4⟩:=h
 exact ⟨(hb.cell (p:=⟨p,o,none⟩) hp).trans h0,(hb.cell (p:=⟨p,o+1,none⟩) hp).trans h1,(hb.cell (p:=⟨p,o+2,none⟩) hp).trans h2,(hb.cell (p:=⟨p,o+3,none⟩) hp).trans h3,(hb.cell (p:=⟨p,o+4,none⟩) hp).trans h4⟩
def zMr (w:World)(p off n:Nat)(E:Nat→Plc):Prop:=∀ i,i<n→zAf w p (off+i * 5) (E i)
theorem zMr.below {w w':World}{p off n B:Nat}{E:Nat→Plc}(h:zMr w p off n E)(hb:Below B w w')(hp:p<B):zMr w' p off n E:=fun i hi=>(h i hi).below hb hp
def zDc (w:World)(a:Option Addr)(n:Nat)(E:Nat→Plc):Prop:=n=0∨∃ b off,a=some ⟨b,off,none⟩∧b<w.heap.size∧zMr w b off n E
theorem zDc.below {w w':World}{a:Option Addr}{n:Nat}{E:Nat→Plc}(h:zDc w a n E)(hb:Below w.heap.size w w'):zDc w' a n E:=by
 rcases h with h | ⟨b,off,e,hl,hp⟩
 ·exact .inl h
 ·exact .inr ⟨b,off,e,Nat.lt_of_lt_of_le hl hb.size,hp.below hb hl⟩
theorem zD.setP {W:World}{r n:Nat}(h:zD W r n)(o:Nat)(v:Value):zD (W.setCell ⟨r,o,none⟩ v) r n:=fun o' ho=>by
 obtain ⟨u,hu⟩:=(h o' ho).1
 refine ⟨?_,?_⟩
 ·by_cases e:o=o'
  ·subst e
   exact ⟨v,World.cell?_setCell_same _ _ _ (by rw [hu])⟩
  ·exact ⟨u,by rw [World.cell?_setCell_other];exact hu;simp [e]⟩
 ·rw [World.frozen?_setCell];exact (h o' ho).2
def zR1 (W:World)(B o:Nat)(e:Plc):World:=(((((W.setCell ⟨B,o,none⟩ (.int .i64 e.id)).setCell ⟨B,o+1,none⟩ (.int .i64 e.a)).setCell ⟨B,o+2,none⟩ (.int .i64 e.b)).setCell ⟨B,o+3,none⟩ (.int .i64 e.c)).setCell ⟨B,o+4,none⟩ (.int .i64 e.d))
theorem uP {W:World}{B o:Nat}{e:Plc}{p:Addr}(h:p.block≠B∨p.off<o∨o+4<p.off):(zR1 W B o e).cell? p=W.cell? p:=by
 have ne:∀ k:Nat,k≤4→(⟨B,o+k,none⟩:Addr)≠p:=fun k hk e=>by subst e;simp at h;omega
 have ne0:(⟨B,o,none⟩:Addr)≠p:=ne 0 (by omega)
 unfold zR1
 rw [zB (ne 4 (by omega)),zB (ne 3 (by omega)),zB (ne 2 (by omega)),zB (ne 1 (by omega)),zB ne0]
theorem zF6 {V W:World}{n B o:Nat}{e:Plc}(h:Below n V W)(hB:n≤B):Below n V (zR1 W B o e):=by
 unfold zR1
 exact (((((h.setCell hB _).setCell hB _).setCell hB _).setCell hB _).setCell hB _)
theorem zK1 {W:World}{B o m:Nat}{e:Plc}(h:zD W B m)(ho:o+4<m):zAf (zR1 W B o e) B o e:=by
 have ne:∀ i j:Nat,i≠j→(⟨B,i,none⟩:Addr)≠⟨B,j,none⟩:=fun i j hij h=>hij (by injection h)
 obtain ⟨u0,g0⟩:=(h (o) (by omega)).1
 obtain ⟨u1,g1⟩:=((h.setP (o) (.int .i64 e.id)) (o+1) (by omega)).1
 obtain ⟨u2,g2⟩:=(((h.setP (o) (.int .i64 e.id)).setP (o+1) (.int .i64 e.a)) (o+2) (by omega)).1
 obtain ⟨u3,g3⟩:=((((h.setP (o) (.int .i64 e.id)).setP (o+1) (.int .i64 e.a)).setP (o+2) (.int .i64 e.b)) (o+3) (by omega)).1
 obtain ⟨u4,g4⟩:=(((((h.setP (o) (.int .i64 e.id)).setP (o+1) (.int .i64 e.a)).setP (o+2) (.int .i64 e.b)).setP (o+3) (.int .i64 e.c)) (o+4) (by omega)).1
 unfold zR1
 refine ⟨?_,?_,?_,?_,?_⟩
 ·rw [zB (ne (o+4) (o) (by omega)),zB (ne (o+3) (o) (by omega)),zB (ne (o+2) (o) (by omega)),zB (ne (o+1) (o) (by omega))];exact zG g0
 ·rw [zB (ne (o+4) (o+1) (by omega)),zB (ne (o+3) (o+1) (by omega)),zB (ne (o+2) (o+1) (by omega))];exact zG g1
 ·rw [zB (ne (o+4) (o+2) (by omega)),zB (ne (o+3) (o+2) (by omega))];exact zG g2
 ·rw [zB (ne (o+4) (o+3) (by omega))];exact zG g3
 ·exact zG g4
theorem zMr.lay {W:World}{B n k:Nat}{E:Nat→Plc}(h:zMr W B 0 k E)(hT:zD W B (n * 5))(hk:k<n):zMr (zR1 W B (k * 5) (E k)) B 0 (k+1) E:=fun i hi=>by
 by_cases e:i=k
 ·subst e
  rw [Nat.zero_add]
  exact zK1 hT (by omega)
 ·have h':=h i (by omega)
  unfold zAf at h' ⊢
  rw [uP (.inr (.inl (by simp;omega))),uP (.inr (.inl (by simp;omega))),uP (.inr (.inl (by simp;omega))),uP (.inr (.inl (by simp;omega))),uP (.inr (.inl (by simp;omega)))]
  exact h'
abbrev zeroP:Array Value:=#[.int .i64 0,.int .i64 0,.int .i64 0,.int .i64 0,.int .i64 0]
theorem zP8:(Tryz.prog.info? 158).map (fun i=>(i.zero,i.size,i.bytes))=some (some (.agg zeroP),5,40):=by kernel_rfl
theorem zJm (e:Plc)(w:World):Calls Tryz.prog 106 #[zL2 e,zL2 e] w fun r w'=>r=.returned (.bool true)∧Bw w w':=by
 go_enter Tryz.func106,Tryz.ntmps106
 go_wp2
 go_ret
 exact ⟨rfl,Qb⟩
theorem zHt (a a':Option Addr)(n cap cap':Nat)(E:Nat→Plc)(w:World)(hp:zDc w a n E)(hq:zDc w a' n E)(hmax:n≤1048576) :
  Calls Tryz.prog 58 #[.slice a n cap,.slice a' n cap'] w fun e w'=>e=.returned (.bool true)∧Bw w w':=by
 have HP:Hid (zDc w a n E):=hp
 have HQ:Hid (zDc w a' n E):=hq
 clear hp hq
 go_enter Tryz.func58,Tryz.ntmps58
 go_wp2
 go_loopw [5] (fun i wr=>∃ k:Nat,k≤n∧i=.int .i64 k∧Bw w wr) (fun i _=>n - (intOf i).toNat)
 case atStart=>exact ⟨0,by omega,rfl,Below.refl _ _⟩
 case round =>
  obtain ⟨k,hk,rfl,hB⟩:=hrel
  by_cases hlt:k<n
  ·rcases HP.out with h0 | ⟨b,off,rfl,hb,hpt⟩
   ·omega
   rcases HQ.out with h0 | ⟨d,off',rfl,hd,hqt⟩
   ·omega
   have hpr:=hpt.below hB hb
   have hqr:=hqt.below hB hd
   have hbr:b<wr.heap.size:=Nat.lt_of_lt_of_le hb hB.size
   have hdr:d<wr.heap.size:=Nat.lt_of_lt_of_le hd hB.size
   have c0:∀ W',Bw wr W'→W'.cell? ⟨b,off+k * 5,none⟩=some (.int .i64 (E k).id):=fun W' h=>(hpr.below h hbr k hlt).1
   have c1:∀ W',Bw wr W'→W'.cell? ⟨b,off+k * 5+1,none⟩=some (.int .i64 (E k).a):=fun W' h=>(hpr.below h hbr k hlt).2.1
   have c2:∀ W',Bw wr W'→W'.cell? ⟨b,off+k * 5+2,none⟩=some (.int .i64 (E k).b):=fun W' h=>(hpr.below h hbr k hlt).2.2.1
   have c3:∀ W',Bw wr W'→W'.cell? ⟨b,off+k * 5+3,none⟩=some (.int .i64 (E k).c):=fun W' h=>(hpr.below h hbr k hlt).2.2.2.1
   have c4:∀ W',Bw wr W'→W'.cell? ⟨b,off+k * 5+4,none⟩=some (.int .i64 (E k).d):=fun W' h=>(hpr.below h hbr k hlt).2.2.2.2
   have d0:∀ W',Bw wr W'→W'.cell? ⟨d,off'+k * 5,none⟩=some (.int .i64 (E k).id):=fun W' h=>(hqr.below h hdr k hlt).1
   have d1:∀ W',Bw wr W'→W'.cell? ⟨d,off'+k * 5+1,none⟩=some (.int .i64 (E k).a):=fun W' h=>(hqr.below h hdr k hlt).2.1
   have d2:∀ W',Bw wr W'→W'.cell? ⟨d,off'+k * 5+2,none⟩=some (.int .i64 (E k).b):=fun W' h=>(hqr.below h hdr k hlt).2.2.1
   have d3:∀ W',Bw wr W'→W'.cell? ⟨d,off'+k * 5+3,none⟩=some (.int .i64 (E k).c):=fun W' h=>(hqr.below h hdr k hlt).2.2.2.1
   have d4:∀ W',Bw wr W'→W'.cell? ⟨d,off'+k * 5+4,none⟩=some (.int .i64 (E k).d):=fun W' h=>(hqr.below h hdr k hlt).2.2.2.2
   have HB:Hid (Bw w wr):=hB
   have HLT:Hid (k<n):=hlt
   clear hB hpt hqt hpr hqr
   have hi:(k:Int)<(n:Int):=by omega
   have hi0:(0:Int)≤(k:Int):=by omega
   go_wp2
   go_region_held3 (fun W'=>Bw wr W') ((repeat (first|exact Qr _ _|assumption|refine Qd ?_|refine Qa ?_ _|refine Qt ?_|refine Qs ?_ _|refine Qo ?_ ?_ _ _)))
    (first
     | (go_at_call 106;refine (zJm (E k) _).mono ?_;rintro e w' ⟨rfl,hb⟩)
     | fail)
   go_wp2
   go_roundw
   case rel=>exact ⟨k+1,by have:=HLT.out;omega,by go_num,zA HB.out (by assumption)⟩
   case measure=>have:=HLT.out;simp [intOf];omega
  ·go_wp2
   go_ret
   exact ⟨rfl,hB⟩
def plB (e:Plc):Bool:=inB e.c 1 9999 && (inB e.d 1 9999 && (inB e.a (-9999) 9999 && inB e.b (-9999) 9999))
def ovB (e f:Plc):Bool:=plB e && (plB f && (decide (e.a<f.a+f.c) && (decide (f.a<e.a+e.c) && (decide (e.b<f.b+f.d) && decide (f.b<e.b+e.d)))))
def zA0 (a n b m:Int):Bool:=inB a (-9999) 9999 && (inB b (-9999) 9999 && (inB n 1 9999 && (inB m 1 9999 && (if a≤b then decide (b - a<n) else decide (a - b<m)))))
theorem zPq (e f:Plc):(zA0 e.a e.c f.a f.c && zA0 e.b e.d f.b f.d)=ovB e f:=by
 have key:∀ a n b m:Int,1≤n→1≤m→(if a≤b then decide (b - a<n) else decide (a - b<m))=(decide (a<b+m) && decide (b<a+n)):=fun a n b m hn hm=>by
  rw [Bool.eq_iff_iff]
  by_cases h:a≤b
  ·simp [h];omega
  ·simp [h];omega
 unfold zA0 ovB plB
 cases h1:inB e.a (-9999) 9999
 ·simp
 cases h2:inB f.a (-9999) 9999
 ·simp
 cases h3:inB e.c 1 9999
 ·simp
 cases h4:inB f.c 1 9999
 ·simp
 cases h5:inB e.b (-9999) 9999
 ·simp
 cases h6:inB f.b (-9999) 9999
 ·simp
 cases h7:inB e.d 1 9999
 ·simp
 cases h8:inB f.d 1 9999
 ·simp
 have g3:1≤e.c:=by simp [inB] at h3;exact h3.1
 have g4:1≤f.c:=by simp [inB] at h4;exact h4.1
 have g7:1≤e.d:=by simp [inB] at h7;exact h7.1
 have g8:1≤f.d:=by simp [inB] at h8;exact h8.1
 rw [key _ _ _ _ g3 g4,key _ _ _ _ g7 g8]
 simp [Bool.and_assoc]
theorem zTe (e f:Plc):ovB e f=ovB f e:=by
 unfold ovB
 cases plB e <;> cases plB f <;> simp
 rw [Bool.eq_iff_iff]
 simp
 constructor <;> (rintro ⟨h1,h2,h3,h4⟩;exact ⟨h2,h1,h4,h3⟩)
theorem zJd (e:Plc)(w:World):Calls Tryz.prog 239 #[zL2 e] w fun r w'=>r=.returned (.bool (plB e))∧Bw w w':=by
 have hk:Hid (plB e=(inB e.c 1 9999 && (inB e.d 1 9999 && (inB e.a (-9999) 9999 && inB e.b (-9999) 9999)))):=rfl
 cases h1:inB e.c 1 9999 <;> cases h2:inB e.d 1 9999 <;> cases h3:inB e.a (-9999) 9999
 all_goals
  rw [h1,h2,h3] at hk
  go_enter Tryz.func239,Tryz.ntmps239
  go_wp2_with (go_at_call 62;refine (zM _ _ _ _).mono ?_;rintro e w' ⟨rfl,rfl⟩)
  go_ret
  exact ⟨zF (by rw [hk.out];rfl),Qb⟩
theorem zIt (e f:Plc)(w:World):Calls Tryz.prog 203 #[zL2 e,zL2 f] w fun r w'=>r=.returned (.bool (ovB e f))∧Bw w w':=by
 have hk:Hid (ovB e f=(plB e && (plB f && (decide (e.a<f.a+f.c) && (decide (f.a<e.a+e.c) && (decide (e.b<f.b+f.d) && decide (f.b<e.b+e.d))))))):=rfl
 have hbd:∀ g:Plc,plB g=true→(1≤g.c∧g.c≤9999)∧(1≤g.d∧g.d≤9999)∧(-9999≤g.a∧g.a≤9999)∧(-9999≤g.b∧g.b≤9999):=fun g h=>by
  simpa [plB,inB] using h
 have s1:=fun w=>zJd e w
 have s2:=fun w=>zJd f w
 cases h1:plB e
 ·rw [h1] at hk s1
  clear hbd s2
  go_enter Tryz.func203,Tryz.ntmps203
  go_wp2_with (go_at_call 239;refine (s1 _).mono ?_;rintro e w' ⟨rfl,hb⟩)
  go_ret
  exact ⟨zF (by rw [hk.out];rfl),Qb⟩
 cases h2:plB f
 ·rw [h1,h2] at hk
  rw [h1] at s1
  rw [h2] at s2
  clear hbd
  go_enter Tryz.func203,Tryz.ntmps203
  go_wp2_with fail
  generalize hW:((w.alloc _).alloc _:World)=W
  have HB0:Hid (Bw w W):=by show Below _ _ _;subst hW;exact Qb
  have c00:∀ W',Bw W W'→W'.cell? ⟨w.heap.size,0,none⟩=some (.int .i64 e.id):=Qc hW
  have c01:∀ W',Bw W W'→W'.cell? ⟨w.heap.size,1,none⟩=some (.int .i64 e.a):=Qc hW
  have c02:∀ W',Bw W W'→W'.cell? ⟨w.heap.size,2,none⟩=some (.int .i64 e.b):=Qc hW
  have c03:∀ W',Bw W W'→W'.cell? ⟨w.heap.size,3,none⟩=some (.int .i64 e.c):=Qc hW
  have c04:∀ W',Bw W W'→W'.cell? ⟨w.heap.size,4,none⟩=some (.int .i64 e.d):=Qc hW
  have c10:∀ W',Bw W W'→W'.cell? ⟨w.heap.size+1,0,none⟩=some (.int .i64 f.id):=Qc hW
  have c11:∀ W',Bw W W'→W'.cell? ⟨w.heap.size+1,1,none⟩=some (.int .i64 f.a):=Qc hW
  have c12:∀ W',Bw W W'→W'.cell? ⟨w.heap.size+1,2,none⟩=some (.int .i64 f.b):=Qc hW
  have c13:∀ W',Bw W W'→W'.cell? ⟨w.heap.size+1,3,none⟩=some (.int .i64 f.c):=Qc hW
  have c14:∀ W',Bw W W'→W'.cell? ⟨w.heap.size+1,4,none⟩=some (.int .i64 f.d):=Qc hW
  clear hW
  refine (s1 _).mono ?_
  rintro e w1 ⟨rfl,hb1⟩
  go_wp2_with fail
  refine (s2 _).mono ?_
  rintro e w2 ⟨rfl,hb2⟩
  go_wp2
  go_ret
  exact ⟨zF (by rw [hk.out];rfl),zA (zA HB0.out hb1) hb2⟩
 obtain ⟨⟨e1,e2⟩,⟨e3,e4⟩,⟨e5,e6⟩,e7,e8⟩:=hbd e h1
 obtain ⟨⟨f1,f2⟩,⟨f3,f4⟩,⟨f5,f6⟩,f7,f8⟩:=hbd f h2
 clear hbd
 rw [h1,h2] at hk
 rw [h1] at s1
 rw [h2] at s2
 go_enter Tryz.func203,Tryz.ntmps203
 go_wp2_with fail
 generalize hW:((w.alloc _).alloc _:World)=W
 have HB0:Hid (Bw w W):=by show Below _ _ _;subst hW;exact Qb
 have c00:∀ W',Bw W W'→W'.cell? ⟨w.heap.size,0,none⟩=some (.int .i64 e.id):=Qc hW
 have c01:∀ W',Bw W W'→W'.cell? ⟨w.heap.size,1,none⟩=some (.int .i64 e.a):=Qc hW
 have c02:∀ W',Bw W W'→W'.cell? ⟨w.heap.size,2,none⟩=some (.int .i64 e.b):=Qc hW
 have c03:∀ W',Bw W W'→W'.cell? ⟨w.heap.size,3,none⟩=some (.int .i64 e.c):=Qc hW
 have c04:∀ W',Bw W W'→W'.cell? ⟨w.heap.size,4,none⟩=some (.int .i64 e.d):=Qc hW
 have c10:∀ W',Bw W W'→W'.cell? ⟨w.heap.size+1,0,none⟩=some (.int .i64 f.id):=Qc hW
 have c11:∀ W',Bw W W'→W'.cell? ⟨w.heap.size+1,1,none⟩=some (.int .i64 f.a):=Qc hW
 have c12:∀ W',Bw W W'→W'.cell? ⟨w.heap.size+1,2,none⟩=some (.int .i64 f.b):=Qc hW
 have c13:∀ W',Bw W W'→W'.cell? ⟨w.heap.size+1,3,none⟩=some (.int .i64 f.c):=Qc hW
 have c14:∀ W',Bw W W'→W'.cell? ⟨w.heap.size+1,4,none⟩=some (.int .i64 f.d):=Qc hW
 clear hW
 refine (s1 _).mono ?_
 rintro _ w1 ⟨rfl,hb1⟩
 go_wp2_with fail
 refine (s2 _).mono ?_
 rintro _ w2 ⟨rfl,hb2⟩
 have hB2:Bw W w2:=zA hb1 hb2
 have HB2:Hid (Bw w w2):=zA HB0.out hB2
 clear hb1 hb2
 by_cases g1:e.a<f.a+f.c
 ·by_cases g2:f.a<e.a+e.c
  ·by_cases g3:e.b<f.b+f.d
   ·have hk2:Hid (ovB e f=decide (f.b<e.b+e.d)):=by show _=_;rw [hk.out];simp [g1,g2,g3]
    go_wp2
    go_ret
    exact ⟨zF hk2.out.symm,HB2.out⟩
   ·have hk2:Hid (ovB e f=false):=by show _=_;rw [hk.out];simp [g1,g2,g3]
    have g3':decide (e.b<f.b+f.d)=false:=by simpa using g3
    clear g3
    go_wp2
    go_ret
    exact ⟨zF hk2.out.symm,HB2.out⟩
  ·have hk2:Hid (ovB e f=false):=by show _=_;rw [hk.out];simp [g1,g2]
   have g2':decide (f.a<e.a+e.c)=false:=by simpa using g2
   clear g2
   go_wp2
   go_ret
   exact ⟨zF hk2.out.symm,HB2.out⟩
 ·have hk2:Hid (ovB e f=false):=by show _=_;rw [hk.out];simp [g1]
  have g1':decide (e.a<f.a+f.c)=false:=by simpa using g1
  clear g1
  go_wp2
  go_ret
  exact ⟨zF hk2.out.symm,HB2.out⟩
theorem zEd (v:Int)(w:World):Calls Tryz.prog 204 #[.int .i64 v] w fun e w'=>e=.returned (.bool (inB v (-9999) 9999))∧w'=w:=by
 go_enter Tryz.func204,Tryz.ntmps204
 go_wp2_with (go_at_call 32;refine (zO _ _ _ _).mono ?_;rintro e w' ⟨rfl,rfl⟩)
 go_ret
 exact ⟨rfl,rfl⟩
theorem zEc (a n b m:Int)(w:World):Calls Tryz.prog 162 #[.int .i64 a,.int .i64 n,.int .i64 b,.int .i64 m] w fun e w'=>e=.returned (.bool (zA0 a n b m))∧w'=w:=by
 have hk:Hid (zA0 a n b m=(inB a (-9999) 9999 && (inB b (-9999) 9999 && (inB n 1 9999 && (inB m 1 9999 && (if a≤b then decide (b - a<n) else decide (a - b<m))))))):=rfl
 cases h1:inB a (-9999) 9999 <;> cases h2:inB b (-9999) 9999 <;> cases h3:inB n 1 9999 <;> cases h4:inB m 1 9999
 case true.true.true.true =>
  have g1:-9999≤a∧a≤9999:=by simpa [inB] using h1
  have g2:-9999≤b∧b≤9999:=by simpa [inB] using h2
  obtain ⟨g3,g4⟩:=g1
  obtain ⟨g5,g6⟩:=g2
  rw [h1,h2,h3,h4] at hk
  go_enter Tryz.func162,Tryz.ntmps162
  by_cases hab:a≤b
  ·have hk2:Hid (zA0 a n b m=decide (b - a<n)):=by show _=_;rw [hk.out];simp [hab]
   go_wp2_with (first
    | (go_at_call 204;refine (zEd _ _).mono ?_;rintro e w' ⟨rfl,rfl⟩)
    | (go_at_call 32;refine (zO _ _ _ _).mono ?_;rintro e w' ⟨rfl,rfl⟩))
   go_ret
   exact ⟨zF hk2.out.symm,rfl⟩
  ·have hk2:Hid (zA0 a n b m=decide (a - b<m)):=by show _=_;rw [hk.out];simp [hab]
   go_wp2_with (first
    | (go_at_call 204;refine (zEd _ _).mono ?_;rintro e w' ⟨rfl,rfl⟩)
    | (go_at_call 32;refine (zO _ _ _ _).mono ?_;rintro e w' ⟨rfl,rfl⟩))
   go_ret
   exact ⟨zF hk2.out.symm,rfl⟩
 all_goals
  rw [h1,h2,h3,h4] at hk
  go_enter Tryz.func162,Tryz.ntmps162
  go_wp2_with (first
   | (go_at_call 204;refine (zEd _ _).mono ?_;rintro e w' ⟨rfl,rfl⟩)
   | (go_at_call 32;refine (zO _ _ _ _).mono ?_;rintro e w' ⟨rfl,rfl⟩))
  go_ret
  exact ⟨zF (by rw [hk.out];rfl),rfl⟩
theorem zP3 (a n b m:Int)(w:World):Calls Tryz.prog 162 #[.int .i64 a,.int .i64 n,.int .i64 b,.int .i64 m] w fun e w'=>e=.returned (.bool (zA0 a n b m))∧∃ n,w'=w.drewN n :=
 (zEc a n b m w).mono fun e w' ⟨h1,h2⟩=>⟨h1,0,h2⟩
theorem zHd (p q o o':Nat)(e f:Plc)(w:World)(h:zAf w p o e)(h':zAf w q o' f)(hp:p<w.heap.size)(hq:q<w.heap.size)(h1:zA0 e.a e.c f.a f.c=false):Calls Tryz.prog 153 #[.pointer (some ⟨p,o,none⟩),.pointer (some ⟨q,o',none⟩)] w fun r w'=>r=.returned (.bool (ovB e f))∧Bw w w':=by
 have hk:Hid (ovB e f=(zA0 e.a e.c f.a f.c && zA0 e.b e.d f.b f.d)):=(zPq e f).symm
 obtain ⟨p0,p1,p2,p3,p4⟩:=h
 obtain ⟨q0,q1,q2,q3,q4⟩:=h'
 rw [h1] at hk
 generalize e.a=ea at *
 generalize e.b=eb at *
 generalize e.c=ec at *
 generalize e.d=ed at *
 generalize f.a=fa at *
 generalize f.b=fb at *
 generalize f.c=fc at *
 generalize f.d=fd at *
 have s1:=fun w=>zP3 ea ec fa fc w
 rw [h1] at s1
 go_enter Tryz.func153,Tryz.ntmps153
 go_wp2_with fail
 go_quiet (first | (go_at_call 162;exact Calls.quiet_of (s1 _)))
 go_wp2
 go_ret
 exact ⟨zF (by rw [hk.out];rfl),below_drewN (Below.refl _ _) _⟩
theorem zFi (p q o o':Nat)(e f:Plc)(w:World)(h:zAf w p o e)(h':zAf w q o' f)(hp:p<w.heap.size)(hq:q<w.heap.size)(h1:zA0 e.a e.c f.a f.c=true):Calls Tryz.prog 153 #[.pointer (some ⟨p,o,none⟩),.pointer (some ⟨q,o',none⟩)] w fun r w'=>r=.returned (.bool (ovB e f))∧Bw w w':=by
 have hk:Hid (ovB e f=(zA0 e.a e.c f.a f.c && zA0 e.b e.d f.b f.d)):=(zPq e f).symm
 have P1:=fun W' (hb:Below w.heap.size w W')=>h.below hb hp
 have Q1:=fun W' (hb:Below w.heap.size w W')=>h'.below hb hq
 have p1:∀ W',Bw w W'→W'.cell? ⟨p,o+1,none⟩=some (.int .i64 e.a):=fun W' hb=>(P1 W' hb).2.1
 have p2:∀ W',Bw w W'→W'.cell? ⟨p,o+2,none⟩=some (.int .i64 e.b):=fun W' hb=>(P1 W' hb).2.2.1
 have p3:∀ W',Bw w W'→W'.cell? ⟨p,o+3,none⟩=some (.int .i64 e.c):=fun W' hb=>(P1 W' hb).2.2.2.1
 have p4:∀ W',Bw w W'→W'.cell? ⟨p,o+4,none⟩=some (.int .i64 e.d):=fun W' hb=>(P1 W' hb).2.2.2.2
 have q1:∀ W',Bw w W'→W'.cell? ⟨q,o'+1,none⟩=some (.int .i64 f.a):=fun W' hb=>(Q1 W' hb).2.1
 have q2:∀ W',Bw w W'→W'.cell? ⟨q,o'+2,none⟩=some (.int .i64 f.b):=fun W' hb=>(Q1 W' hb).2.2.1
 have q3:∀ W',Bw w W'→W'.cell? ⟨q,o'+3,none⟩=some (.int .i64 f.c):=fun W' hb=>(Q1 W' hb).2.2.2.1
 have q4:∀ W',Bw w W'→W'.cell? ⟨q,o'+4,none⟩=some (.int .i64 f.d):=fun W' hb=>(Q1 W' hb).2.2.2.2
 clear P1 Q1 h h'
 rw [h1] at hk
 have HH:Hid (zA0 e.a e.c f.a f.c=true):=h1
 clear h1
 have hr:Bw w w:=Below.refl _ _
 have sM:∀ (a n b m:Int) (w:World),Calls Tryz.prog 162 #[.int .i64 a,.int .i64 n,.int .i64 b,.int .i64 m] w fun e w'=>e=.returned (.bool (zA0 a n b m))∧w=w':=fun a n b m w=>(zEc a n b m w).mono fun _ _ h=>⟨h.1,h.2.symm⟩
 go_enter Tryz.func153,Tryz.ntmps153
 go_wp2_with fail
 go_region_held3 (fun W'=>Bw w W') ((repeat (first|exact Qr _ _|assumption|refine Qd ?_|refine Qa ?_ _|refine Qt ?_|refine Qs ?_ _|refine Qo ?_ ?_ _ _)))
  (first
   | (go_at_call 162;refine (sM _ _ _ _ _).mono ?_;rintro e w1 ⟨rfl,rfl⟩;try rw [HH.out])
   | fail)
 go_wp2
 go_ret
 exact ⟨zF (by rw [hk.out];simp [HH.out]),by assumption⟩
theorem zFj (p q o o':Nat)(e f:Plc)(w:World)(h:zAf w p o e)(h':zAf w q o' f)(hp:p<w.heap.size)(hq:q<w.heap.size):Calls Tryz.prog 153 #[.pointer (some ⟨p,o,none⟩),.pointer (some ⟨q,o',none⟩)] w fun r w'=>r=.returned (.bool (ovB e f))∧Bw w w':=by
 cases h1:zA0 e.a e.c f.a f.c
 ·exact zHd p q o o' e f w h h' hp hq h1
 ·exact zFi p q o o' e f w h h' hp hq h1
end Go.Proofs.YtpaiholildedcaaGreat
