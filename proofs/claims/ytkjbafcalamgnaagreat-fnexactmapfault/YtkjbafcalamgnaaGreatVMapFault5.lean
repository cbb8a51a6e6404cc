/- Texts. -/
import Derived.Test.YtkjbafcalamgnaaGreatVMapFault1
set_option linter.unusedSimpArgs false
set_option linter.unusedVariables false
set_option maxRecDepth 100000
set_option maxHeartbeats 32000000
namespace Go.Proofs.YtkjbafcalamgnaaGreat
open Go.RowKit
def yR (z:Int):Bool:=inB z 0 3
theorem zN {z:Int}(h:yR z=true):z=0∨z=1∨z=2∨z=3:=by
 simp [yR,inB] at h
 omega
def yF (z:Int):Int:=if z=0 then 128 else if z=1 then 64 else if z=2 then 32 else 16
def zIt (z:Int):Value:=if yR z=true then .agg #[.int .i64 0,.int .i64 (yF z)] else .agg #[.int .i64 3,.int .i64 0]
theorem yK (z:Int)(w:World):Calls Tryz.prog 89 #[.int .i64 z] w fun e w'=>e=.returned (.bool (yR z))∧w=w':=by
 unfold yR
 go_enter Tryz.func89,Tryz.ntmps89
 go_wp2_with (go_at_call 77;refine (zJ _ _ _ _).mono ?_;rintro e w' ⟨rfl,rfl⟩)
 go_ret
 exact ⟨rfl,rfl⟩
theorem uG (z:Int)(w:World):Calls Tryz.prog 224 #[.int .i64 z] w fun e w'=>e=.returned (zIt z)∧Bw w w':=by
 cases h:yR z
 ·go_enter Tryz.func224,Tryz.ntmps224
  go_wp2_with (go_at_call 89;refine (yK _ _).mono ?_;rintro e w' ⟨rfl,rfl⟩)
  exact bodyPost_ret (v:=.agg #[.int .i64 3,.int .i64 0]) (by simp [results,Tryz.results224,go_sem]) rfl ⟨by simp [zIt,h],Qb⟩
 ·rcases zN h with rfl | rfl | rfl | rfl
  all_goals
   go_enter Tryz.func224,Tryz.ntmps224
   go_wp2_with (go_at_call 89;refine (yK _ _).mono ?_;rintro e w' ⟨rfl,rfl⟩)
   first
    | exact bodyPost_ret (v:=.agg #[.int .i64 0,.int .i64 128]) (by simp [results,Tryz.results224,go_sem];done) rfl ⟨rfl,Qb⟩
    | exact bodyPost_ret (v:=.agg #[.int .i64 0,.int .i64 64]) (by simp [results,Tryz.results224,go_sem];done) rfl ⟨rfl,Qb⟩
    | exact bodyPost_ret (v:=.agg #[.int .i64 0,.int .i64 32]) (by simp [results,Tryz.results224,go_sem];done) rfl ⟨rfl,Qb⟩
    | exact bodyPost_ret (v:=.agg #[.int .i64 0,.int .i64 16]) (by simp [results,Tryz.results224,go_sem];done) rfl ⟨rfl,Qb⟩
theorem xC (z:Int)(w:World):Calls Tryz.prog 87 #[.int .i64 z] w fun e w'=>e=.returned (.bool (yR z))∧w=w':=by
 unfold yR
 go_enter Tryz.func87,Tryz.ntmps87
 go_wp2_with (go_at_call 59;refine (zQ _ _ _ _).mono ?_;rintro e w' ⟨rfl,rfl⟩)
 go_ret
 exact ⟨rfl,rfl⟩
theorem zDd (z:Int)(w:World)(h:yR z=true):Calls Tryz.prog 233 #[.int .i64 z] w fun e w'=>e=.returned (.int .i64 (yF z))∧w=w':=by
 rcases zN h with rfl | rfl | rfl | rfl
 all_goals
  go_enter Tryz.func233,Tryz.ntmps233
  go_wp2
  go_ret
  exact ⟨rfl,rfl⟩
theorem zLr {x y:Int}(h:inW x y=true):(0≤x∧x≤1024)∧(0≤y∧y≤1024):=by
 simp [inW,inB] at h
 omega
theorem zK4 {W:World}{r:Nat}{a b c:Value}(hT:zD W r 3) :
  (((W.setCell ⟨r,0,none⟩ a).setCell ⟨r,1,none⟩ b).setCell ⟨r,2,none⟩ c).cell? ⟨r,0,none⟩=some a ∧
  (((W.setCell ⟨r,0,none⟩ a).setCell ⟨r,1,none⟩ b).setCell ⟨r,2,none⟩ c).cell? ⟨r,1,none⟩=some b ∧
  (((W.setCell ⟨r,0,none⟩ a).setCell ⟨r,1,none⟩ b).setCell ⟨r,2,none⟩ c).cell? ⟨r,2,none⟩=some c:=by
 obtain ⟨x0,h0⟩:=(hT 0 (by omega)).1
 obtain ⟨x1,h1⟩:=(hT 1 (by omega)).1
 obtain ⟨x2,h2⟩:=(hT 2 (by omega)).1
 have ne:∀ i j:Nat,i≠j→(⟨r,i,none⟩:Addr)≠⟨r,j,none⟩:=fun i j hij h=>hij (by injection h)
 refine ⟨?_,?_,?_⟩
 ·rw [zB (ne 2 0 (by omega)),zB (ne 1 0 (by omega))];exact zG h0
 ·rw [zB (ne 2 1 (by omega))];exact zG (by rw [zB (ne 0 1 (by omega))];exact h1)
 ·exact zG (by rw [zB (ne 1 2 (by omega)),zB (ne 0 2 (by omega))];exact h2)
theorem there3 (V:World)(a b c:Value)(t:TypeId):zD (V.alloc (.cells #[a,b,c] t)) V.heap.size 3:=fun o ho=>by
 refine ⟨⟨#[a,b,c][o]'(by simpa using ho),?_⟩,World.frozen?_alloc_at _ _ _ _ rfl⟩
 rw [World.cell?_alloc_at _ _ _ _ rfl]
 exact Array.getElem?_eq_getElem _
theorem there2 (V:World)(a b:Value)(t:TypeId):zD (V.alloc (.cells #[a,b] t)) V.heap.size 2:=fun o ho=>by
 refine ⟨⟨#[a,b][o]'(by simpa using ho),?_⟩,World.frozen?_alloc_at _ _ _ _ rfl⟩
 rw [World.cell?_alloc_at _ _ _ _ rfl]
 exact Array.getElem?_eq_getElem _
def uV (z:Int):Int:=if z=0 then 8 else if z=1 then 16 else if z=2 then 32 else 64
def pixV (z:Int):Value:=if yR z=true then .agg #[.int .i64 0,.int .i64 (uV z)] else .agg #[.int .i64 3,.int .i64 0]
def vN (z x y:Int):Bool:=yR z && (inB x 0 (uV z - 1) && inB y 0 (uV z - 1))
def zV (z x:Int):Int:=(2 * x+1) * yF z
def zJ8 (z x y:Int):Value:=if vN z x y=true then .agg #[.int .i64 0,.int .i64 (zV z x),.int .i64 (zV z y)] else .agg #[.int .i64 3,.int .i64 0,.int .i64 0]
theorem xF {z x y:Int}(h:vN z x y=true):yR z=true:=by
 simp [vN] at h
 exact h.1
theorem uW {z x y:Int}(h:vN z x y=true):(0≤x∧x≤uV z - 1)∧(0≤y∧y≤uV z - 1):=by
 simp [vN,inB] at h
 exact h.2
theorem xY {z:Int}(h:yR z=true):8≤uV z∧uV z≤64:=by
 rcases zN h with rfl | rfl | rfl | rfl <;> decide
theorem cent_ok {z x y:Int}(h:vN z x y=true):okP (zV z x) (zV z y)=true:=by
 have hz:=xF h
 have hb:=uW h
 rw [zD5]
 unfold zV
 rcases zN hz with rfl | rfl | rfl | rfl
 all_goals
  simp only [show yF 0=128 from rfl,show yF 1=64 from rfl,show yF 2=32 from rfl,show yF 3=16 from rfl,show uV 0=8 from rfl,show uV 1=16 from rfl,show uV 2=32 from rfl,show uV 3=64 from rfl] at *
  omega
theorem zAd (z:Int)(w:World):Calls Tryz.prog 135 #[.int .i64 z] w fun e w'=>e=.returned (pixV z)∧Bw w w':=by
 cases h:yR z
 ·go_enter Tryz.func135,Tryz.ntmps135
  go_wp2_with (go_at_call 89;refine (yK _ _).mono ?_;rintro e w' ⟨rfl,rfl⟩)
  exact bodyPost_ret (v:=.agg #[.int .i64 3,.int .i64 0]) (by simp [results,Tryz.results135,go_sem]) rfl ⟨by simp [pixV,h],Qb⟩
 ·rcases zN h with rfl | rfl | rfl | rfl
  all_goals
   go_enter Tryz.func135,Tryz.ntmps135
   go_wp2_with (go_at_call 89;refine (yK _ _).mono ?_;rintro e w' ⟨rfl,rfl⟩)
   first
    | exact bodyPost_ret (v:=.agg #[.int .i64 0,.int .i64 8]) (by simp [results,Tryz.results135,go_sem];done) rfl ⟨rfl,Qb⟩
    | exact bodyPost_ret (v:=.agg #[.int .i64 0,.int .i64 16]) (by simp [results,Tryz.results135,go_sem];done) rfl ⟨rfl,Qb⟩
    | exact bodyPost_ret (v:=.agg #[.int .i64 0,.int .i64 32]) (by simp [results,Tryz.results135,go_sem];done) rfl ⟨rfl,Qb⟩
    | exact bodyPost_ret (v:=.agg #[.int .i64 0,.int .i64 64]) (by simp [results,Tryz.results135,go_sem];done) rfl ⟨rfl,Qb⟩
theorem zHj (z:Int)(w:World)(h:yR z=true):Calls Tryz.prog 101 #[.int .i64 z] w fun e w'=>e=.returned (.int .i64 (uV z))∧w=w':=by
 rcases zN h with rfl | rfl | rfl | rfl
 all_goals
  go_enter Tryz.func101,Tryz.ntmps101
  go_wp2
  go_ret
  exact ⟨rfl,rfl⟩
theorem xP (z x y:Int)(w:World):Calls Tryz.prog 117 #[.int .i64 z,.int .i64 x,.int .i64 y] w fun e w'=>e=.returned (.bool (vN z x y))∧Bw w w':=by
 have s1:=fun w=>zAd z w
 cases h:yR z
 ·have hv:pixV z=.agg #[.int .i64 3,.int .i64 0]:=by simp [pixV,h]
  simp only [hv] at s1
  have i1:∀ w,(Instr.field 185 (.agg #[.int .i64 3,.int .i64 0]) 1).run Tryz.prog w=.ok (.int .i64 0) w:=fun _=>by kernel_rfl
  have hx:inB x 0 (-1)=false:=by simp [inB];omega
  have hp:Hid (vN z x y=false):=by show _=_;simp [vN,h]
  go_enter Tryz.func117,Tryz.ntmps117
  go_wp2_with (first
   | (go_at_call 135;refine (s1 _).mono ?_;rintro e w1 ⟨rfl,hb1⟩)
   | (go_at_call 77;refine (zJ _ _ _ _).mono ?_;rintro e w' ⟨rfl,rfl⟩))
  all_goals (go_ret;exact ⟨zF (by rw [hp.out]),Qb⟩)
 ·have hv:pixV z=.agg #[.int .i64 0,.int .i64 (uV z)]:=by simp [pixV,h]
  simp only [hv] at s1
  have hp:Hid (vN z x y=(inB x 0 (uV z - 1) && inB y 0 (uV z - 1))):=by show _=_;simp [vN,h]
  obtain ⟨b1,b2⟩:=xY h
  generalize uV z=u at *
  have i1:∀ w,(Instr.field 185 (.agg #[.int .i64 0,.int .i64 u]) 1).run Tryz.prog w=.ok (.int .i64 u) w:=fun _=>by kernel_rfl
  cases hx:inB x 0 (u - 1) <;> cases hy:inB y 0 (u - 1)
  all_goals
   go_enter Tryz.func117,Tryz.ntmps117
   go_wp2_with (first
    | (go_at_call 135;refine (s1 _).mono ?_;rintro e w1 ⟨rfl,hb1⟩)
    | (go_at_call 77;refine (zJ _ _ _ _).mono ?_;rintro e w' ⟨rfl,rfl⟩))
   all_goals (go_ret;exact ⟨zF (by rw [hp.out,hx,hy];rfl),Qb⟩)
theorem zFk (z x y:Int)(w:World)(h:vN z x y=true):Calls Tryz.prog 210 #[.int .i64 z,.int .i64 x,.int .i64 y] w fun e w'=>e=.returned (.agg #[.int .i64 (zV z x),.int .i64 (zV z y)])∧Bw w w':=by
 have hz:=xF h
 have hb:=uW h
 have s1:=fun w=>zDd z w hz
 clear h
 unfold zV
 rcases zN hz with rfl | rfl | rfl | rfl
 all_goals
  simp only [show yF 0=128 from rfl,show yF 1=64 from rfl,show yF 2=32 from rfl,show yF 3=16 from rfl,show uV 0=8 from rfl,show uV 1=16 from rfl,show uV 2=32 from rfl,show uV 3=64 from rfl] at *
  obtain ⟨⟨x0,x1⟩,y0,y1⟩:=hb
  go_enter Tryz.func210,Tryz.ntmps210
  go_wp2_with (go_at_call 233;refine (s1 _).mono ?_;rintro e w1 ⟨rfl,rfl⟩)
  exact bodyPost_ret (v:=.agg #[.int .i64 _,.int .i64 _]) (by simp [results,Tryz.results210,go_sem]) rfl ⟨rfl,Qb⟩
theorem zEi:(Tryz.prog.info? 2).map (fun i=>(i.zero,i.size,i.bytes))=some (some (.int .i64 0),1,8):=by kernel_rfl
def uA (base:Nat)(w:World)(v:Value)(l:List Int):Prop:=w.ownsRow base 2 1 v l.length (l.map (.int .i64 ·))
def nz (l:List Int)(i:Nat):Int:=l.getD i 0
theorem uA.own {base:Nat}{w:World}{v:Value}{l:List Int}(h:uA base w v l):OwnN w base v l.length (nz l):=by
 obtain ⟨h1,h2 | ⟨g,cp,cur,hv,hg,hh,hkc,hcm,hcs,htk⟩⟩:=id h
 ·obtain ⟨rfl,h0⟩:=h2
  rw [h0]
  exact ⟨none,0,rfl,Nat.le_refl _,.inl rfl⟩
 ·have hgl:g<w.heap.size:=by
   rcases Nat.lt_or_ge g w.heap.size with h' | h'
   ·exact h'
   ·rw [Array.getElem?_eq_none h'] at hh;cases hh
  have hrow:w.ownsRow base 2 1 (.slice (some ⟨g,0,none⟩) l.length cp) l.length (l.map (.int .i64 ·)):=⟨h1,.inr ⟨g,cp,cur,rfl,hg,hh,hkc,hcm,hcs,htk⟩⟩
  refine ⟨some ⟨g,0,none⟩,cp,hv,hkc,.inr ⟨g,rfl,hg,hgl,fun i hi=>?_,fun o ho=>⟨?_,hrow.frozenAt o⟩⟩⟩
  ·rw [Nat.zero_add,hrow.cellAt i (by omega),List.getElem?_map]
   simp [nz,List.getD_eq_getElem?_getD,hi]
  ·rw [hrow.cellAt o (by omega),List.getElem?_map]
   simp [ho]
theorem uA.below {base:Nat}{w w':World}{v:Value}{l:List Int}(h:uA base w v l)(hb:Below w.heap.size w w'):uA base w' v l:=by
 obtain ⟨h1,h2 | ⟨g,cp,cur,hv,hg,hh,hr⟩⟩:=h
 ·exact ⟨h1,.inl h2⟩
 ·refine ⟨h1,.inr ⟨g,cp,cur,hv,hg,?_,hr⟩⟩
  have hgl:g<w.heap.size:=by
   rcases Nat.lt_or_ge g w.heap.size with h' | h'
   ·exact h'
   ·rw [Array.getElem?_eq_none h'] at hh;cases hh
  rw [hb.block g hgl]
  exact hh
theorem uA.no (base:Nat)(w:World):uA base w (.slice none 0 0) []:=World.ownsRow_nil _ _ _ _
theorem uA.wide {base B:Nat}{w:World}{v:Value}{l:List Int}(h:uA base w v l)(hB:B≤base):uA B w v l:=by
 obtain ⟨h1,h2 | ⟨g,cp,cur,hv,hg,hr⟩⟩:=h
 ·exact ⟨h1,.inl h2⟩
 ·exact ⟨h1,.inr ⟨g,cp,cur,hv,by omega,hr⟩⟩
theorem uA.other {base r o:Nat}{w:World}{v u:Value}{l:List Int}(h:uA base w v l)(hr:r<base):uA base (w.setCell ⟨r,o,none⟩ u) v l:=by
 obtain ⟨h1,h2 | ⟨g,cp,cur,hv,hg,hh,hr'⟩⟩:=h
 ·exact ⟨h1,.inl h2⟩
 ·exact ⟨h1,.inr ⟨g,cp,cur,hv,hg,by rw [Below.heap_setCell _ _ _ _ (by simp;omega)];exact hh,hr'⟩⟩
theorem zM5 (n:Nat)(h:n≤1048576)(w:World) :
  (Instr.makeSlice 140 (.int .i64 (n:Int)) (.int .i64 (n:Int))).run Tryz.prog w=.ok (.slice (some ⟨w.heap.size,0,none⟩) n n) (w.alloc (.cells (madeCells #[.int .i64 0] n) 2)):=by
 obtain ⟨i,hi,hz,hs,hb⟩:=info_parts zEi
 have hr:=run_make (P:=Tryz.prog) w 140 2 i _ Tryz.underlying140 hi hz .i64 .i64 (n:Int) (n:Int) (by omega) (Int.le_refl _) (by rw [hb];omega) (by omega)
 simp only [Int.toNat_natCast,hs,Nat.mul_one] at hr
 exact hr
theorem zGx (n:Nat)(w:World)(t:TypeId):zD (w.alloc (.cells (madeCells #[.int .i64 0] n) t)) w.heap.size n:=fun o ho=>by
 have hz:=size_madeCells #[.int .i64 0] n
 refine ⟨⟨(madeCells #[.int .i64 0] n)[o]'(by rw [hz];exact ho),?_⟩,World.frozen?_alloc_at _ _ _ _ rfl⟩
 rw [World.cell?_alloc_at _ _ _ _ rfl]
 exact Array.getElem?_eq_getElem _
theorem zE4 (a:Option Addr)(n cap:Nat)(Z:Nat→Int)(w:World)(hp:zAv w a n Z)(hmax:n≤1048576) :
  Calls Tryz.prog 161 #[.slice a n cap] w fun e w'=>∃ b,e=.returned (.slice (some ⟨b,0,none⟩) n n)∧w.heap.size≤b∧b<w'.heap.size∧zKc w' b 0 n Z∧zD w' b n∧Bw w w':=by
 have hmk:=zM5 n hmax
 have HP:Hid (zAv w a n Z):=hp
 clear hp
 go_enter Tryz.func161,Tryz.ntmps161
 go_wp2
 generalize hW:(w.alloc _:World)=W
 have HB0:Hid (Bw w W):=by show Below _ _ _;subst hW;exact Qb
 have HT0:Hid (zD W w.heap.size n):=by show zD _ _ _;subst hW;exact zGx _ _ _
 have HL0:Hid (w.heap.size<W.heap.size):=by show _<_;subst hW;simp
 clear hW hmk
 go_loopw [4] (fun i wr=>∃ k:Nat,k≤n∧i=.int .i64 k∧Bw w wr∧zD wr w.heap.size n∧zKc wr w.heap.size 0 k Z∧w.heap.size<wr.heap.size) (fun i _=>n - (intOf i).toNat)
 case atStart=>exact ⟨0,by omega,rfl,HB0.out,HT0.out,fun i hi=>by omega,HL0.out⟩
 case round =>
  obtain ⟨k,hk,rfl,hB,hT,hPt,hlw⟩:=hrel
  by_cases hlt:k<n
  ·rcases HP.out with h0 | ⟨b,off,rfl,hbl,hpt⟩
   ·omega
   ·have hx:wr.cell? ⟨b,off+k,none⟩=some (.int .i64 (Z k)):=(hB.cell (p:=⟨b,off+k,none⟩) hbl).trans (hpt k hlt)
    have HB:Hid (Bw w wr):=hB
    have HT:Hid (zD wr w.heap.size n):=hT
    have HQ:Hid (zKc wr w.heap.size 0 k Z):=hPt
    have t0:=hT.cell k hlt
    have f0:=(hT k hlt).2
    clear hB hT hPt hpt
    have hi:(k:Int)<(n:Int):=by omega
    have hi0:(0:Int)≤(k:Int):=by omega
    go_wp2
    go_roundw
    case rel =>
     refine ⟨k+1,by omega,by go_num,?_,HT.out.setN _ _,fillN HT.out hlt HQ.out,?_⟩
     ·have HB':=HB.out
      exact Qb
     ·simp;omega
    case measure=>simp [intOf];omega
  ·go_wp2
   go_ret
   have hkn:k=n:=by omega
   subst hkn
   exact ⟨_,rfl,Nat.le_refl _,hlw,hPt,hT,hB⟩
theorem zJt (s:Int)(w:World):Calls Tryz.prog 122 #[.int .i64 s] w fun e w'=>e=.returned (.bool (inB s 1 10))∧w'=w:=by
 go_enter Tryz.func122,Tryz.ntmps122
 go_wp2_with (go_at_call 77;refine (zJ _ _ _ _).mono ?_;rintro e w' ⟨rfl,rfl⟩)
 go_ret
 exact ⟨rfl,rfl⟩
def timC (now:Int):Int:=if inB now 0 9000=true then 0 else 3
theorem zDu (now:Int)(w:World):Calls Tryz.prog 121 #[.int .i64 now] w fun e w'=>e=.returned (.int .i64 (timC now))∧Bw w w':=by
 cases h:inB now 0 9000
 all_goals
  have hk:Hid (timC now=if inB now 0 9000=true then 0 else 3):=rfl
  rw [h] at hk
  go_enter Tryz.func121,Tryz.ntmps121
  go_wp2_with (go_at_call 77;refine (zJ _ _ _ _).mono ?_;rintro e w' ⟨rfl,rfl⟩)
  go_ret
  exact ⟨zC (by rw [hk.out];rfl),Qb⟩
end Go.Proofs.YtkjbafcalamgnaaGreat
