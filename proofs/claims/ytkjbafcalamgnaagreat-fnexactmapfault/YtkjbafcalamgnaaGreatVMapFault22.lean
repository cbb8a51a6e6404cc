/- Texts. -/
import Derived.Test.YtkjbafcalamgnaaGreatVMapFault20
import Derived.Test.YtkjbafcalamgnaaGreatVMapFault8
set_option linter.unusedSimpArgs false
set_option linter.unusedVariables false
set_option maxRecDepth 100000
set_option maxHeartbeats 32000000
namespace Go.Proofs.YtkjbafcalamgnaaGreat
open Go.RowKit
def xS (n m:Nat)(I J:Nat→Int):Bool:=decide (n=m) && decide (∀ i,i<n→I i=J i)
theorem zFb {n m:Nat}{I J:Nat→Int}(h:n≠m):xS n m I J=false:=by simp [xS,h]
theorem zFa {n:Nat}{I J:Nat→Int}(h:∀ i,i<n→I i=J i):xS n n I J=true:=by simp [xS];exact h
theorem zH9 {n m k:Nat}{I J:Nat→Int}(hk:k<n)(h:I k≠J k):xS n m I J=false:=by
 unfold xS
 rw [decide_eq_false (p:=∀ i,i<n→I i=J i) (fun h'=>h (h' k hk))];simp
theorem zHn (a a':Option Addr)(n m cap cap':Nat)(I J:Nat→Int)(w:World)(hp:zAv w a n I)(hq:zAv w a' m J)(hn:n≤1048576) :
  Calls Tryz.prog 103 #[.slice a n cap,.slice a' m cap'] w fun e w'=>e=.returned (.bool (xS n m I J))∧Bw w w':=by
 have HP:Hid (zAv w a n I):=hp
 have HQ:Hid (zAv w a' m J):=hq
 clear hp hq
 by_cases hnm:n=m
 ·subst hnm
  go_enter Tryz.func103,Tryz.ntmps103
  go_wp2_with fail
  go_loopw [5] (fun i wr=>∃ k:Nat,k≤n∧i=.int .i64 (k:Int)∧(∀ j,j<k→I j=J j)∧Bw w wr) (fun i _=>n - (intOf i).toNat)
  case atStart=>exact ⟨0,by omega,rfl,fun j hj=>absurd hj (Nat.not_lt_zero _),Below.refl _ _⟩
  case round =>
   obtain ⟨k,hk,rfl,hno,hB⟩:=hrel
   have HN:Hid (∀ j,j<k→I j=J j):=hno
   have HB:Hid (Bw w wr):=hB
   by_cases hlt:k<n
   ·rcases HP.out with h0 | ⟨b,off,rfl,hb,hpt⟩
    ·omega
    rcases HQ.out with h0 | ⟨b',off',rfl,hb',hpt'⟩
    ·omega
    have q0:wr.cell? ⟨b,off+k,none⟩=some (.int .i64 (I k)):=(hB.cell (p:=⟨b,off+k,none⟩) hb).trans (hpt k hlt)
    have q1:wr.cell? ⟨b',off'+k,none⟩=some (.int .i64 (J k)):=(hB.cell (p:=⟨b',off'+k,none⟩) hb').trans (hpt' k hlt)
    have hi:(k:Int)<(n:Int):=by omega
    have hi0:(0:Int)≤(k:Int):=by omega
    clear hno hB hpt hpt'
    by_cases hE:I k=J k
    ·have HN2:Hid (∀ j,j<k+1→I j=J j):=fun j hj=>by
      by_cases e:j=k
      ·rw [e];exact hE
      ·exact HN.out j (by omega)
     rw [hE] at q0
     clear hE
     generalize J k=v at *
     go_wp2_with fail
     go_quiet (fail)
     go_wp2_with fail
     exact ⟨⟨k+1,by omega,by simp,HN2.out,below_drewN HB.out _⟩,by simp [intOf];omega⟩
    ·have HY:Hid (xS n n I J=false):=zH9 hlt hE
     generalize I k=u at *
     generalize J k=v at *
     have hcb:(u == v)=false:=by simpa using hE
     go_wp2_with fail
     go_quiet (fail)
     go_wp2
     go_ret
     exact ⟨zF HY.out.symm,below_drewN HB.out _⟩
   ·obtain rfl:n=k:=by omega
    have HY:Hid (xS n n I J=true):=zFa HN.out
    go_wp2
    go_ret
    exact ⟨zF HY.out.symm,HB.out⟩
 ·have HY:Hid (xS n m I J=false):=zFb hnm
  have hne:((n:Int) == (m:Int))=false:=by simp;omega
  have hne2:¬ ((n:Int)=(m:Int)):=by omega
  go_enter Tryz.func103,Tryz.ntmps103
  go_wp2
  go_ret
  exact ⟨zF HY.out.symm,Below.refl _ _⟩
def isK (e:Kp)(z x y:Int):Bool:=(e.z == z) && ((e.x == x) && (e.y == y))
def atK (n:Nat)(K:Nat→Kp)(z x y:Int):Int:=vJ (fun i=>isK (K i) z x y) n
def RK (w:World)(p:Nat)(z x y:Int):Prop:=w.cell? ⟨p,0,none⟩=some (.int .i64 z)∧w.cell? ⟨p,1,none⟩=some (.int .i64 x)∧w.cell? ⟨p,2,none⟩=some (.int .i64 y)
theorem RK.below {w w':World}{p:Nat}{z x y:Int}(h:RK w p z x y)(hb:Below w.heap.size w w'):RK w' p z x y :=
 have hl:=World.block_lt_of_cell? _ _ h.1
 ⟨(hb.cell (p:=⟨p,0,none⟩) hl).trans h.1,(hb.cell (p:=⟨p,1,none⟩) hl).trans h.2.1,(hb.cell (p:=⟨p,2,none⟩) hl).trans h.2.2⟩
theorem le2 (n:Nat):n≤n+1+1:=by omega
abbrev vwV (z x y wd ht now s:Int)(kv rv:Value)(bad:Int):Value:=.agg #[.int .i64 z,.int .i64 x,.int .i64 y,.int .i64 wd,.int .i64 ht,.int .i64 now,.int .i64 s,kv,rv,.int .i64 bad]
def Blk (w:World)(q:Nat)(l:List Value):Prop:=∀ i v,l[i]?=some v→w.cell? ⟨q,i,none⟩=some v∧w.frozen? ⟨q,i,none⟩=false
theorem Blk.cell {w:World}{q:Nat}{l:List Value}(h:Blk w q l)(i:Nat){v:Value}(hi:l[i]?=some v):w.cell? ⟨q,i,none⟩=some v:=(h i v hi).1
theorem Blk.free {w:World}{q:Nat}{l:List Value}(h:Blk w q l)(i:Nat){v:Value}(hi:l[i]?=some v):w.frozen? ⟨q,i,none⟩=false:=(h i v hi).2
theorem Blk.g5 {b : Nat} {v : World} {q : Nat} {a0 a1 a2 a3 a4 : Value} {l : List Value} (h : ∀ w, Below b v w → Blk w q (a0 :: a1 :: a2 :: a3 :: a4 :: l)) : (∀ w, Below b v w → w.cell? ⟨q, 0, none⟩ = some a0) ∧ (∀ w, Below b v w → w.cell? ⟨q, 1, none⟩ = some a1) ∧ (∀ w, Below b v w → w.cell? ⟨q, 2, none⟩ = some a2) ∧ (∀ w, Below b v w → w.cell? ⟨q, 3, none⟩ = some a3) ∧ (∀ w, Below b v w → w.cell? ⟨q, 4, none⟩ = some a4) := ⟨fun w k => (h w k).cell 0 rfl, fun w k => (h w k).cell 1 rfl, fun w k => (h w k).cell 2 rfl, fun w k => (h w k).cell 3 rfl, fun w k => (h w k).cell 4 rfl⟩
theorem Blk.c10 {w : World} {q : Nat} {a0 a1 a2 a3 a4 a5 a6 a7 a8 a9 : Value} {l : List Value} (h : Blk w q (a0 :: a1 :: a2 :: a3 :: a4 :: a5 :: a6 :: a7 :: a8 :: a9 :: l)) : w.cell? ⟨q, 0, none⟩ = some a0 ∧ w.cell? ⟨q, 1, none⟩ = some a1 ∧ w.cell? ⟨q, 2, none⟩ = some a2 ∧ w.cell? ⟨q, 3, none⟩ = some a3 ∧ w.cell? ⟨q, 4, none⟩ = some a4 ∧ w.cell? ⟨q, 5, none⟩ = some a5 ∧ w.cell? ⟨q, 6, none⟩ = some a6 ∧ w.cell? ⟨q, 7, none⟩ = some a7 ∧ w.cell? ⟨q, 8, none⟩ = some a8 ∧ w.cell? ⟨q, 9, none⟩ = some a9 := ⟨h.cell 0 rfl, h.cell 1 rfl, h.cell 2 rfl, h.cell 3 rfl, h.cell 4 rfl, h.cell 5 rfl, h.cell 6 rfl, h.cell 7 rfl, h.cell 8 rfl, h.cell 9 rfl⟩
theorem Blk.f10 {w : World} {q : Nat} {a0 a1 a2 a3 a4 a5 a6 a7 a8 a9 : Value} {l : List Value} (h : Blk w q (a0 :: a1 :: a2 :: a3 :: a4 :: a5 :: a6 :: a7 :: a8 :: a9 :: l)) : w.frozen? ⟨q, 0, none⟩ = false ∧ w.frozen? ⟨q, 1, none⟩ = false ∧ w.frozen? ⟨q, 2, none⟩ = false ∧ w.frozen? ⟨q, 3, none⟩ = false ∧ w.frozen? ⟨q, 4, none⟩ = false ∧ w.frozen? ⟨q, 5, none⟩ = false ∧ w.frozen? ⟨q, 6, none⟩ = false ∧ w.frozen? ⟨q, 7, none⟩ = false ∧ w.frozen? ⟨q, 8, none⟩ = false ∧ w.frozen? ⟨q, 9, none⟩ = false := ⟨h.free 0 rfl, h.free 1 rfl, h.free 2 rfl, h.free 3 rfl, h.free 4 rfl, h.free 5 rfl, h.free 6 rfl, h.free 7 rfl, h.free 8 rfl, h.free 9 rfl⟩
theorem Blk.c11 {w : World} {q : Nat} {a0 a1 a2 a3 a4 a5 a6 a7 a8 a9 a10 : Value} {l : List Value} (h : Blk w q (a0 :: a1 :: a2 :: a3 :: a4 :: a5 :: a6 :: a7 :: a8 :: a9 :: a10 :: l)) : w.cell? ⟨q, 0, none⟩ = some a0 ∧ w.cell? ⟨q, 1, none⟩ = some a1 ∧ w.cell? ⟨q, 2, none⟩ = some a2 ∧ w.cell? ⟨q, 3, none⟩ = some a3 ∧ w.cell? ⟨q, 4, none⟩ = some a4 ∧ w.cell? ⟨q, 5, none⟩ = some a5 ∧ w.cell? ⟨q, 6, none⟩ = some a6 ∧ w.cell? ⟨q, 7, none⟩ = some a7 ∧ w.cell? ⟨q, 8, none⟩ = some a8 ∧ w.cell? ⟨q, 9, none⟩ = some a9 ∧ w.cell? ⟨q, 10, none⟩ = some a10 := ⟨h.cell 0 rfl, h.cell 1 rfl, h.cell 2 rfl, h.cell 3 rfl, h.cell 4 rfl, h.cell 5 rfl, h.cell 6 rfl, h.cell 7 rfl, h.cell 8 rfl, h.cell 9 rfl, h.cell 10 rfl⟩
theorem Blk.f11 {w : World} {q : Nat} {a0 a1 a2 a3 a4 a5 a6 a7 a8 a9 a10 : Value} {l : List Value} (h : Blk w q (a0 :: a1 :: a2 :: a3 :: a4 :: a5 :: a6 :: a7 :: a8 :: a9 :: a10 :: l)) : w.frozen? ⟨q, 0, none⟩ = false ∧ w.frozen? ⟨q, 1, none⟩ = false ∧ w.frozen? ⟨q, 2, none⟩ = false ∧ w.frozen? ⟨q, 3, none⟩ = false ∧ w.frozen? ⟨q, 4, none⟩ = false ∧ w.frozen? ⟨q, 5, none⟩ = false ∧ w.frozen? ⟨q, 6, none⟩ = false ∧ w.frozen? ⟨q, 7, none⟩ = false ∧ w.frozen? ⟨q, 8, none⟩ = false ∧ w.frozen? ⟨q, 9, none⟩ = false ∧ w.frozen? ⟨q, 10, none⟩ = false := ⟨h.free 0 rfl, h.free 1 rfl, h.free 2 rfl, h.free 3 rfl, h.free 4 rfl, h.free 5 rfl, h.free 6 rfl, h.free 7 rfl, h.free 8 rfl, h.free 9 rfl, h.free 10 rfl⟩
theorem Blk.g11 {b : Nat} {v : World} {q : Nat} {a0 a1 a2 a3 a4 a5 a6 a7 a8 a9 a10 : Value} {l : List Value} (h : ∀ w, Below b v w → Blk w q (a0 :: a1 :: a2 :: a3 :: a4 :: a5 :: a6 :: a7 :: a8 :: a9 :: a10 :: l)) : (∀ w, Below b v w → w.cell? ⟨q, 0, none⟩ = some a0) ∧ (∀ w, Below b v w → w.cell? ⟨q, 1, none⟩ = some a1) ∧ (∀ w, Below b v w → w.cell? ⟨q, 2, none⟩ = some a2) ∧ (∀ w, Below b v w → w.cell? ⟨q, 3, none⟩ = some a3) ∧ (∀ w, Below b v w → w.cell? ⟨q, 4, none⟩ = some a4) ∧ (∀ w, Below b v w → w.cell? ⟨q, 5, none⟩ = some a5) ∧ (∀ w, Below b v w → w.cell? ⟨q, 6, none⟩ = some a6) ∧ (∀ w, Below b v w → w.cell? ⟨q, 7, none⟩ = some a7) ∧ (∀ w, Below b v w → w.cell? ⟨q, 8, none⟩ = some a8) ∧ (∀ w, Below b v w → w.cell? ⟨q, 9, none⟩ = some a9) ∧ (∀ w, Below b v w → w.cell? ⟨q, 10, none⟩ = some a10) := ⟨fun w k => (h w k).cell 0 rfl, fun w k => (h w k).cell 1 rfl, fun w k => (h w k).cell 2 rfl, fun w k => (h w k).cell 3 rfl, fun w k => (h w k).cell 4 rfl, fun w k => (h w k).cell 5 rfl, fun w k => (h w k).cell 6 rfl, fun w k => (h w k).cell 7 rfl, fun w k => (h w k).cell 8 rfl, fun w k => (h w k).cell 9 rfl, fun w k => (h w k).cell 10 rfl⟩
theorem Blk.lt {w:World}{q:Nat}{l:List Value}{v:Value}(h:Blk w q (v :: l)):q<w.heap.size:=World.block_lt_of_cell? _ _ (h 0 v rfl).1
theorem Blk.below {w w':World}{q:Nat}{l:List Value}(h:Blk w q l)(hq:q<w.heap.size)(hb:Below w.heap.size w w'):Blk w' q l:=fun i v hi =>
 ⟨(hb.cell (p:=⟨q,i,none⟩) hq).trans (h i v hi).1,(hb.frozen (p:=⟨q,i,none⟩) hq).trans (h i v hi).2⟩
theorem Blk.set {w:World}{q:Nat}{l:List Value}(h:Blk w q l)(j:Nat)(u:Value):Blk (w.setCell ⟨q,j,none⟩ u) q (l.set j u):=fun i v hi=>by
 rw [List.getElem?_set] at hi
 by_cases e:j=i
 ·subst e
  rw [if_pos rfl] at hi
  by_cases hl:j<l.length
  ·rw [if_pos hl] at hi
   injection hi with hi
   subst hi
   have h0:=h j _ (List.getElem?_eq_getElem hl)
   exact ⟨zG h0.1,(World.frozen?_setCell _ _ _ _).trans h0.2⟩
  ·rw [if_neg hl] at hi;cases hi
 ·rw [if_neg e] at hi
  have h0:=h i v hi
  exact ⟨by rw [zB (fun e'=>e (by injection e'))];exact h0.1,(World.frozen?_setCell _ _ _ _).trans h0.2⟩
theorem Blk.other {w:World}{q r o:Nat}{u:Value}{l:List Value}(h:Blk w q l)(hne:r≠q):Blk (w.setCell ⟨r,o,none⟩ u) q l:=fun i v hi =>
 ⟨by rw [zB (fun e'=>hne (by injection e'))];exact (h i v hi).1,(World.frozen?_setCell _ _ _ _).trans (h i v hi).2⟩
theorem Blk.new (w:World)(l:List Value)(t:TypeId):Blk (w.alloc (.cells l.toArray t)) w.heap.size l:=fun i v hi =>
 ⟨by rw [World.cell?_alloc_at _ _ _ _ rfl];simpa using hi,World.frozen?_alloc_at _ _ _ _ rfl⟩
theorem Blk.alloc {w:World}{q:Nat}{l:List Value}(h:Blk w q l)(hq:q<w.heap.size)(o:Obj):Blk (w.alloc o) q l:=h.below hq (xA (Below.refl _ _) o)
def zMk (w:World)(b n:Nat)(K A:Nat→Kp)(rb rn:Nat)(E:Nat→Req):Prop:=yA w (b+1) b n K A∧rb<w.heap.size∧zGh w rb 0 rn E
theorem zMk.below {w w':World}{b n:Nat}{K A:Nat→Kp}{rb rn:Nat}{E:Nat→Req}(h:zMk w b n K A rb rn E)(hb:Below w.heap.size w w'):zMk w' b n K A rb rn E :=
 ⟨h.1.below hb,Nat.lt_of_lt_of_le h.2.1 hb.size,h.2.2.below hb h.2.1⟩
theorem resTV {T:Array Value}{Wf:World}{r:Nat}{z x y wd ht now s:Int}{kv rv:Value}{bad:Int}(hT:T[2]?.getD undef=.pointer (some ⟨r,0,none⟩))(h:Blk Wf r [.int .i64 z,.int .i64 x,.int .i64 y,.int .i64 wd,.int .i64 ht,.int .i64 now,.int .i64 s,kv,rv,.int .i64 bad]) :
  (results Tryz.f9 T).run Tryz.prog Wf=.ok (vwV z x y wd ht now s kv rv bad) Wf:=by
 obtain ⟨h0,h1,h2,h3,h4,h5,h6,h7,h8,h9⟩:=Blk.c10 h
 simp [results,Tryz.results9,go_sem,hT,h0,h1,h2,h3,h4,h5,h6,h7,h8,h9]
theorem zE1 (z x y wd ht now s:Int)(a:Option Addr)(n cap:Nat)(K:Nat→Kp)(ra:Option Addr)(rn rc:Nat)(E:Nat→Req)(bad:Int)(w:World)(hk:zBc w a n K)(hs:zM n K)(hr:vR w ra rn E)(hrn:rn≤1048576) :
  Calls Tryz.prog 9 #[vwV z x y wd ht now s (.slice a n cap) (.slice ra rn rc) bad] w fun e w'=>∃ b A rb,e=.returned (vwV z x y wd ht now s (.slice (some ⟨b,0,none⟩) n n) (.slice (some ⟨rb,0,none⟩) rn rn) bad)∧w.heap.size≤b∧w.heap.size≤rb∧zMk w' b n K A rb rn E∧Bw w w':=by
 have HP:Hid (zBc w a n K):=hk
 have HS:Hid (zM n K):=hs
 have HR:Hid (vR w ra rn E):=hr
 clear hk hs hr
 go_enter Tryz.func9,Tryz.ntmps9
 go_wp2_with fail
 generalize hW:(((w.alloc _).alloc _).alloc _:World)=W
 have HB0:Hid (Bw w W):=by show Below _ _ _;subst hW;exact Qb
 have HV:Hid (Blk W w.heap.size [.int .i64 z,.int .i64 x,.int .i64 y,.int .i64 wd,.int .i64 ht,.int .i64 now,.int .i64 s,.slice a n cap,.slice ra rn rc,.int .i64 bad]):=by
  show Blk _ _ _;subst hW
  exact ((Blk.new w _ _).alloc (by simp) _).alloc (by simp;omega) _
 have HU:Hid (Blk W (w.heap.size+1) [.int .i64 0,.int .i64 0,.int .i64 0,.int .i64 0,.int .i64 0,.int .i64 0,.int .i64 0,.slice none 0 0,.slice none 0 0,.int .i64 0]):=by
  show Blk _ _ _;subst hW
  have:=(Blk.new (w.alloc (.cells #[.int .i64 z,.int .i64 x,.int .i64 y,.int .i64 wd,.int .i64 ht,.int .i64 now,.int .i64 s,.slice a n cap,.slice ra rn rc,.int .i64 bad] 29)) [.int .i64 0,.int .i64 0,.int .i64 0,.int .i64 0,.int .i64 0,.int .i64 0,.int .i64 0,.slice none 0 0,.slice none 0 0,.int .i64 0] 38).alloc (by simp) (.cells #[.int .i64 0,.int .i64 0,.int .i64 0,.int .i64 0,.int .i64 0,.int .i64 0,.int .i64 0,.slice none 0 0,.slice none 0 0,.int .i64 0] 38)
  simpa using this
 have HO:Hid (Blk W (w.heap.size+1+1) [.int .i64 0,.int .i64 0,.int .i64 0,.int .i64 0,.int .i64 0,.int .i64 0,.int .i64 0,.slice none 0 0,.slice none 0 0,.int .i64 0]):=by
  show Blk _ _ _;subst hW
  have:=Blk.new ((w.alloc (.cells #[.int .i64 z,.int .i64 x,.int .i64 y,.int .i64 wd,.int .i64 ht,.int .i64 now,.int .i64 s,.slice a n cap,.slice ra rn rc,.int .i64 bad] 29)).alloc (.cells #[.int .i64 0,.int .i64 0,.int .i64 0,.int .i64 0,.int .i64 0,.int .i64 0,.int .i64 0,.slice none 0 0,.slice none 0 0,.int .i64 0] 38)) [.int .i64 0,.int .i64 0,.int .i64 0,.int .i64 0,.int .i64 0,.int .i64 0,.int .i64 0,.slice none 0 0,.slice none 0 0,.int .i64 0] 38
  simpa using this
 clear hW
 refine (zE5 z x y wd ht W).mono ?_
 rintro e w1 ⟨rfl,hb1⟩
 have HB1:Hid (Bw w w1):=zA HB0.out hb1
 have HV1:Hid (Blk w1 w.heap.size [.int .i64 z,.int .i64 x,.int .i64 y,.int .i64 wd,.int .i64 ht,.int .i64 now,.int .i64 s,.slice a n cap,.slice ra rn rc,.int .i64 bad]):=HV.out.below HV.out.lt hb1
 have HU1:Hid (Blk w1 (w.heap.size+1) [.int .i64 0,.int .i64 0,.int .i64 0,.int .i64 0,.int .i64 0,.int .i64 0,.int .i64 0,.slice none 0 0,.slice none 0 0,.int .i64 0]):=HU.out.below HU.out.lt hb1
 have hO1:=HO.out.below HO.out.lt hb1
 have HO1:Hid (Blk w1 (w.heap.size+1+1) [.int .i64 0,.int .i64 0,.int .i64 0,.int .i64 0,.int .i64 0,.int .i64 0,.int .i64 0,.slice none 0 0,.slice none 0 0,.int .i64 0]):=hO1
 obtain ⟨d0,d1,d2,d3,d4,d5,d6,d7,d8,d9⟩:=Blk.c10 HV1.out
 obtain ⟨t0,t1,t2,t3,t4,t5,t6,t7,t8,t9⟩:=Blk.c10 hO1
 obtain ⟨f0,f1,f2,f3,f4,f5,f6,f7,f8,f9⟩:=Blk.f10 hO1
 clear hb1 hO1 HV HU HO HB0
 go_wp2_with fail
 generalize hW2:(World.setCell _ _ _:World)=W2
 have HB2:Hid (Bw w W2):=by show Below _ _ _;subst hW2;exact ((((((HB1.out.setCell (le2 _) _).setCell (le2 _) _).setCell (le2 _) _).setCell (le2 _) _).setCell (le2 _) _).setCell (le2 _) _)
 have HV2:Hid (Blk W2 w.heap.size [.int .i64 z,.int .i64 x,.int .i64 y,.int .i64 wd,.int .i64 ht,.int .i64 now,.int .i64 s,.slice a n cap,.slice ra rn rc,.int .i64 bad]):=by show Blk _ _ _;subst hW2;exact ((((((HV1.out.other (by omega)).other (by omega)).other (by omega)).other (by omega)).other (by omega)).other (by omega))
 have HU2:Hid (Blk W2 (w.heap.size+1) [.int .i64 0,.int .i64 0,.int .i64 0,.int .i64 0,.int .i64 0,.int .i64 0,.int .i64 0,.slice none 0 0,.slice none 0 0,.int .i64 0]):=by show Blk _ _ _;subst hW2;exact ((((((HU1.out.other (by omega)).other (by omega)).other (by omega)).other (by omega)).other (by omega)).other (by omega))
 have HO2:Hid (Blk W2 (w.heap.size+1+1) [.int .i64 z,.int .i64 x,.int .i64 y,.int .i64 wd,.int .i64 ht,.int .i64 now,.int .i64 0,.slice none 0 0,.slice none 0 0,.int .i64 0]):=by show Blk _ _ _;subst hW2;exact ((((((HO1.out.set 0 _).set 1 _).set 2 _).set 3 _).set 4 _).set 5 _)
 clear hW2 HV1 HU1 HO1 HB1 d0 t0 f0 d1 t1 f1 d2 t2 f2 d3 t3 f3 d4 t4 f4 d5 t5 f5 d6 t6 f6 d7 t7 f7 d8 t8 f8 d9 t9 f9
 refine (zGv s a n cap K W2 (HP.out.below HB2.out) HS.out).mono ?_
 rintro e w3 ⟨b,A,rfl,hge3,hOK3,hb3⟩
 have hbb:w.heap.size+1+1<b:=Nat.lt_of_lt_of_le HO2.out.lt hge3
 have HK3:Hid (yA w3 (b+1) b n K A):=hOK3
 have HB3:Hid (Bw w w3):=zA HB2.out hb3
 have HV3:Hid (Blk w3 w.heap.size [.int .i64 z,.int .i64 x,.int .i64 y,.int .i64 wd,.int .i64 ht,.int .i64 now,.int .i64 s,.slice a n cap,.slice ra rn rc,.int .i64 bad]):=HV2.out.below HV2.out.lt hb3
 have HU3:Hid (Blk w3 (w.heap.size+1) [.int .i64 0,.int .i64 0,.int .i64 0,.int .i64 0,.int .i64 0,.int .i64 0,.int .i64 0,.slice none 0 0,.slice none 0 0,.int .i64 0]):=HU2.out.below HU2.out.lt hb3
 have hO3:=HO2.out.below HO2.out.lt hb3
 have HO3:Hid (Blk w3 (w.heap.size+1+1) [.int .i64 z,.int .i64 x,.int .i64 y,.int .i64 wd,.int .i64 ht,.int .i64 now,.int .i64 0,.slice none 0 0,.slice none 0 0,.int .i64 0]):=hO3
 obtain ⟨d0,d1,d2,d3,d4,d5,d6,d7,d8,d9⟩:=Blk.c10 HV3.out
 obtain ⟨t0,t1,t2,t3,t4,t5,t6,t7,t8,t9⟩:=Blk.c10 hO3
 obtain ⟨f0,f1,f2,f3,f4,f5,f6,f7,f8,f9⟩:=Blk.f10 hO3
 clear hb3 hO3 hOK3 HV2 HU2 HO2 HB2 hge3
 go_wp2_with fail
 generalize hW4:(World.setCell _ _ _:World)=W4
 have HB4:Hid (Bw w W4):=by show Below _ _ _;subst hW4;exact ((HB3.out.setCell (le2 _) _).setCell (le2 _) _)
 have HV4:Hid (Blk W4 w.heap.size [.int .i64 z,.int .i64 x,.int .i64 y,.int .i64 wd,.int .i64 ht,.int .i64 now,.int .i64 s,.slice a n cap,.slice ra rn rc,.int .i64 bad]):=by show Blk _ _ _;subst hW4;exact ((HV3.out.other (by omega)).other (by omega))
 have HU4:Hid (Blk W4 (w.heap.size+1) [.int .i64 0,.int .i64 0,.int .i64 0,.int .i64 0,.int .i64 0,.int .i64 0,.int .i64 0,.slice none 0 0,.slice none 0 0,.int .i64 0]):=by show Blk _ _ _;subst hW4;exact ((HU3.out.other (by omega)).other (by omega))
 have HO4:Hid (Blk W4 (w.heap.size+1+1) [.int .i64 z,.int .i64 x,.int .i64 y,.int .i64 wd,.int .i64 ht,.int .i64 now,.int .i64 s,.slice (some ⟨b,0,none⟩) n n,.slice none 0 0,.int .i64 0]):=by show Blk _ _ _;subst hW4;exact ((HO3.out.set 6 _).set 7 _)
 have HM4:Hid (vC w.heap.size (w.heap.size+1+1+1) w3 W4):=by show vC _ _ _ _;subst hW4;exact (((vC.refl _ _ _).set (by omega) (by omega) _ _).set (by omega) (by omega) _ _)
 have HK4:Hid (yA W4 (b+1) b n K A):=HK3.out.mid (C:=0) HM4.out (by omega)
 clear hW4 HV3 HU3 HO3 HB3 HK3 HM4 d0 t0 f0 d1 t1 f1 d2 t2 f2 d3 t3 f3 d4 t4 f4 d5 t5 f5 d6 t6 f6 d7 t7 f7 d8 t8 f8 d9 t9 f9
 refine (zCs ra rn rc E W4 (HR.out.below HB4.out) hrn).mono ?_
 rintro e w5 ⟨rb,rfl,hge5,hlt5,hW5,_,hb5⟩
 have hrb:w.heap.size+1+1<rb:=Nat.lt_of_lt_of_le HO4.out.lt hge5
 have HW5:Hid (zGh w5 rb 0 rn E):=hW5
 have HK5:Hid (yA w5 (b+1) b n K A):=HK4.out.below hb5
 have HB5:Hid (Bw w w5):=zA HB4.out hb5
 have HV5:Hid (Blk w5 w.heap.size [.int .i64 z,.int .i64 x,.int .i64 y,.int .i64 wd,.int .i64 ht,.int .i64 now,.int .i64 s,.slice a n cap,.slice ra rn rc,.int .i64 bad]):=HV4.out.below HV4.out.lt hb5
 have hU5:=HU4.out.below HU4.out.lt hb5
 have HU5:Hid (Blk w5 (w.heap.size+1) [.int .i64 0,.int .i64 0,.int .i64 0,.int .i64 0,.int .i64 0,.int .i64 0,.int .i64 0,.slice none 0 0,.slice none 0 0,.int .i64 0]):=hU5
 have hO5:=HO4.out.below HO4.out.lt hb5
 have HO5:Hid (Blk w5 (w.heap.size+1+1) [.int .i64 z,.int .i64 x,.int .i64 y,.int .i64 wd,.int .i64 ht,.int .i64 now,.int .i64 s,.slice (some ⟨b,0,none⟩) n n,.slice none 0 0,.int .i64 0]):=hO5
 have d9:=HV5.out.cell 9 rfl
 obtain ⟨t0,t1,t2,t3,t4,t5,t6,t7,t8,t9⟩:=Blk.c10 hO5
 obtain ⟨f0,f1,f2,f3,f4,f5,f6,f7,f8,f9⟩:=Blk.f10 hO5
 obtain ⟨u0,u1,u2,u3,u4,u5,u6,u7,u8,u9⟩:=Blk.c10 hU5
 obtain ⟨g0,g1,g2,g3,g4,g5,g6,g7,g8,g9⟩:=Blk.f10 hU5
 clear hb5 hO5 hU5 hW5 HV4 HU4 HO4 HB4 HK4 hge5
 go_wp2_with fail
 generalize hW6:(World.setCell _ _ _:World)=W6
 have HB6:Hid (Bw w W6):=by show Below _ _ _;subst hW6;exact ((((((((((((HB5.out.setCell (le2 _) _).setCell (le2 _) _).setCell (Nat.le_succ _) _).setCell (Nat.le_succ _) _).setCell (Nat.le_succ _) _).setCell (Nat.le_succ _) _).setCell (Nat.le_succ _) _).setCell (Nat.le_succ _) _).setCell (Nat.le_succ _) _).setCell (Nat.le_succ _) _).setCell (Nat.le_succ _) _).setCell (Nat.le_succ _) _)
 have HU6:Hid (Blk W6 (w.heap.size+1) [.int .i64 z,.int .i64 x,.int .i64 y,.int .i64 wd,.int .i64 ht,.int .i64 now,.int .i64 s,.slice (some ⟨b,0,none⟩) n n,.slice (some ⟨rb,0,none⟩) rn rn,.int .i64 bad]):=by show Blk _ _ _;subst hW6;exact ((((((((((((HU5.out.other (by omega)).other (by omega)).set 0 _).set 1 _).set 2 _).set 3 _).set 4 _).set 5 _).set 6 _).set 7 _).set 8 _).set 9 _)
 have HM6:Hid (vC w.heap.size (w.heap.size+1+1+1) w5 W6):=by show vC _ _ _ _;subst hW6;exact (((((((((((((vC.refl _ _ _).set (by omega) (by omega) _ _).set (by omega) (by omega) _ _).set (by omega) (by omega) _ _).set (by omega) (by omega) _ _).set (by omega) (by omega) _ _).set (by omega) (by omega) _ _).set (by omega) (by omega) _ _).set (by omega) (by omega) _ _).set (by omega) (by omega) _ _).set (by omega) (by omega) _ _).set (by omega) (by omega) _ _).set (by omega) (by omega) _ _)
 clear hW6
 refine bodyPost_ret (resTV rfl HU6.out) rfl ⟨b,A,rb,rfl,by omega,by omega,⟨HK5.out.mid (C:=0) HM6.out (by omega),Nat.lt_of_lt_of_le hlt5 HM6.out.size,fun i hi=>?_⟩,HB6.out⟩
 obtain ⟨q0,q1,q2,q3,q4⟩:=HW5.out i hi
 exact ⟨HM6.out.cell q0 (.inr (by omega)),HM6.out.cell q1 (.inr (by omega)),HM6.out.cell q2 (.inr (by omega)),HM6.out.cell q3 (.inr (by omega)),HM6.out.cell q4 (.inr (by omega))⟩
theorem zFz (z x y wd ht now s:Int)(n rn:Nat)(b b' rb rb':Nat)(K A H:Nat→Kp)(E:Nat→Req)(bad:Int)(w:World)(ha:zMk w b n K A rb rn E)(hh:zMk w b' n K H rb' rn E)(hs:zM n K)(hrn:rn≤1048576) :
  Calls Tryz.prog 12 #[vwV z x y wd ht now s (.slice (some ⟨b,0,none⟩) n n) (.slice (some ⟨rb,0,none⟩) rn rn) bad,vwV z x y wd ht now s (.slice (some ⟨b',0,none⟩) n n) (.slice (some ⟨rb',0,none⟩) rn rn) bad] w fun e w'=>e=.returned (.bool true)∧Bw w w':=by
 have HA:Hid (zMk w b n K A rb rn E):=ha
 have HH:Hid (zMk w b' n K H rb' rn E):=hh
 have HS:Hid (zM n K):=hs
 clear ha hh hs
 go_enter Tryz.func12,Tryz.ntmps12
 go_wp2_with fail
 generalize hW:((w.alloc _).alloc _:World)=W
 have HB0:Hid (Bw w W):=by show Below _ _ _;subst hW;exact Qb
 have HV:Hid (Blk W w.heap.size [.int .i64 z,.int .i64 x,.int .i64 y,.int .i64 wd,.int .i64 ht,.int .i64 now,.int .i64 s,.slice (some ⟨b,0,none⟩) n n,.slice (some ⟨rb,0,none⟩) rn rn,.int .i64 bad]):=by
  show Blk _ _ _;subst hW
  exact (Blk.new w _ _).alloc (by simp) _
 have HU:Hid (Blk W (w.heap.size+1) [.int .i64 z,.int .i64 x,.int .i64 y,.int .i64 wd,.int .i64 ht,.int .i64 now,.int .i64 s,.slice (some ⟨b',0,none⟩) n n,.slice (some ⟨rb',0,none⟩) rn rn,.int .i64 bad]):=by
  show Blk _ _ _;subst hW
  have:=Blk.new (w.alloc (.cells #[.int .i64 z,.int .i64 x,.int .i64 y,.int .i64 wd,.int .i64 ht,.int .i64 now,.int .i64 s,.slice (some ⟨b,0,none⟩) n n,.slice (some ⟨rb,0,none⟩) rn rn,.int .i64 bad] 38)) [.int .i64 z,.int .i64 x,.int .i64 y,.int .i64 wd,.int .i64 ht,.int .i64 now,.int .i64 s,.slice (some ⟨b',0,none⟩) n n,.slice (some ⟨rb',0,none⟩) rn rn,.int .i64 bad] 38
  simpa using this
 have hvl:w.heap.size<W.heap.size:=HV.out.lt
 have hul:w.heap.size+1<W.heap.size:=HU.out.lt
 clear hW
 refine (zF3 z x y wd ht W).mono ?_
 rintro e w1 ⟨rfl,hb1⟩
 have HB1:Hid (Bw W w1):=hb1
 have hV1:=HV.out.below hvl hb1
 have hU1:=HU.out.below hul hb1
 obtain ⟨d0,d1,d2,d3,d4,d5,d6,d7,d8,d9⟩:=Blk.c10 hV1
 obtain ⟨e0,e1,e2,e3,e4,e5,e6,e7,e8,e9⟩:=Blk.c10 hU1
 clear hb1 hV1 hU1
 go_wp2_with fail
 refine (zHx s _ _ _ _ n K _ _ w1 (HA.out.1.below (zA HB0.out HB1.out)) (HH.out.1.below (zA HB0.out HB1.out)) HS.out).mono ?_
 rintro e w2 ⟨rfl,hb2⟩
 have HB2:Hid (Bw W w2):=zA HB1.out hb2
 have hV2:=HV.out.below hvl HB2.out
 have hU2:=HU.out.below hul HB2.out
 clear d0 e0 d1 e1 d2 e2 d3 e3 d4 e4 d5 e5 d6 e6 d7 e7 d8 e8 d9 e9
 obtain ⟨d0,d1,d2,d3,d4,d5,d6,d7,d8,d9⟩:=Blk.c10 hV2
 obtain ⟨e0,e1,e2,e3,e4,e5,e6,e7,e8,e9⟩:=Blk.c10 hU2
 clear hb2 hV2 hU2 HB1
 have HA2:=HA.out.below (zA HB0.out HB2.out)
 have HH2:=HH.out.below (zA HB0.out HB2.out)
 have hq1:vR w2 (some ⟨rb,0,none⟩) rn E:=.inr ⟨rb,0,rfl,HA2.2.1,HA2.2.2⟩
 have hq2:vR w2 (some ⟨rb',0,none⟩) rn E:=.inr ⟨rb',0,rfl,HH2.2.1,HH2.2.2⟩
 have HEq:=(show Hid _ from zCz (some ⟨rb,0,none⟩) (some ⟨rb',0,none⟩) rn rn rn E w2 hq1 hq2 hrn)
 clear HA2 HH2 hq1 hq2
 go_wp2_with fail
 refine Calls.mono HEq.out ?_
 rintro e w3 ⟨rfl,hb3⟩
 have HB3:Hid (Bw W w3):=zA HB2.out hb3
 have hV3:=HV.out.below hvl HB3.out
 have hU3:=HU.out.below hul HB3.out
 clear d0 e0 d1 e1 d2 e2 d3 e3 d4 e4 d5 e5 d6 e6 d7 e7 d8 e8 d9 e9
 have d9:=hV3.cell 9 rfl
 have e9:=hU3.cell 9 rfl
 have HB9:Hid (Bw w w3):=zA HB0.out HB3.out
 clear hb3 hV3 hU3
 go_wp2
 go_ret
 exact ⟨rfl,HB9.out⟩
end Go.Proofs.YtkjbafcalamgnaaGreat
