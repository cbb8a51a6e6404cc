/- Texts. -/
import Derived.Test.YtkjbafcalamgnaaGreatVSizeViewer25
set_option linter.unusedSimpArgs false
set_option linter.unusedVariables false
set_option maxRecDepth 100000
set_option maxHeartbeats 32000000
namespace Go.Proofs.YtkjbafcalamgnaaGreat
open Go.RowKit
theorem le2 (n:Nat):n≤n+1+1:=by omega
abbrev vwV (z x y wd ht now s:Int)(kv rv:Value)(bad:Int):Value:=.agg #[.int .i64 z,.int .i64 x,.int .i64 y,.int .i64 wd,.int .i64 ht,.int .i64 now,.int .i64 s,kv,rv,.int .i64 bad]
def Blk (w:World)(q:Nat)(l:List Value):Prop:=∀ i v,l[i]?=some v→w.cell? ⟨q,i,none⟩=some v∧w.frozen? ⟨q,i,none⟩=false
theorem Blk.cell {w:World}{q:Nat}{l:List Value}(h:Blk w q l)(i:Nat){v:Value}(hi:l[i]?=some v):w.cell? ⟨q,i,none⟩=some v:=(h i v hi).1
theorem Blk.free {w:World}{q:Nat}{l:List Value}(h:Blk w q l)(i:Nat){v:Value}(hi:l[i]?=some v):w.frozen? ⟨q,i,none⟩=false:=(h i v hi).2
theorem Blk.c3 {w : World} {q : Nat} {a0 a1 a2 : Value} {l : List Value} (h : Blk w q (a0 :: a1 :: a2 :: l)) : w.cell? ⟨q, 0, none⟩ = some a0 ∧ w.cell? ⟨q, 1, none⟩ = some a1 ∧ w.cell? ⟨q, 2, none⟩ = some a2 := ⟨h.cell 0 rfl, h.cell 1 rfl, h.cell 2 rfl⟩
theorem Blk.f3 {w : World} {q : Nat} {a0 a1 a2 : Value} {l : List Value} (h : Blk w q (a0 :: a1 :: a2 :: l)) : w.frozen? ⟨q, 0, none⟩ = false ∧ w.frozen? ⟨q, 1, none⟩ = false ∧ w.frozen? ⟨q, 2, none⟩ = false := ⟨h.free 0 rfl, h.free 1 rfl, h.free 2 rfl⟩
theorem Blk.g5 {b : Nat} {v : World} {q : Nat} {a0 a1 a2 a3 a4 : Value} {l : List Value} (h : ∀ w, Below b v w → Blk w q (a0 :: a1 :: a2 :: a3 :: a4 :: l)) : (∀ w, Below b v w → w.cell? ⟨q, 0, none⟩ = some a0) ∧ (∀ w, Below b v w → w.cell? ⟨q, 1, none⟩ = some a1) ∧ (∀ w, Below b v w → w.cell? ⟨q, 2, none⟩ = some a2) ∧ (∀ w, Below b v w → w.cell? ⟨q, 3, none⟩ = some a3) ∧ (∀ w, Below b v w → w.cell? ⟨q, 4, none⟩ = some a4) := ⟨fun w k => (h w k).cell 0 rfl, fun w k => (h w k).cell 1 rfl, fun w k => (h w k).cell 2 rfl, fun w k => (h w k).cell 3 rfl, fun w k => (h w k).cell 4 rfl⟩
theorem Blk.c6 {w : World} {q : Nat} {a0 a1 a2 a3 a4 a5 : Value} {l : List Value} (h : Blk w q (a0 :: a1 :: a2 :: a3 :: a4 :: a5 :: l)) : w.cell? ⟨q, 0, none⟩ = some a0 ∧ w.cell? ⟨q, 1, none⟩ = some a1 ∧ w.cell? ⟨q, 2, none⟩ = some a2 ∧ w.cell? ⟨q, 3, none⟩ = some a3 ∧ w.cell? ⟨q, 4, none⟩ = some a4 ∧ w.cell? ⟨q, 5, none⟩ = some a5 := ⟨h.cell 0 rfl, h.cell 1 rfl, h.cell 2 rfl, h.cell 3 rfl, h.cell 4 rfl, h.cell 5 rfl⟩
theorem Blk.c10 {w : World} {q : Nat} {a0 a1 a2 a3 a4 a5 a6 a7 a8 a9 : Value} {l : List Value} (h : Blk w q (a0 :: a1 :: a2 :: a3 :: a4 :: a5 :: a6 :: a7 :: a8 :: a9 :: l)) : w.cell? ⟨q, 0, none⟩ = some a0 ∧ w.cell? ⟨q, 1, none⟩ = some a1 ∧ w.cell? ⟨q, 2, none⟩ = some a2 ∧ w.cell? ⟨q, 3, none⟩ = some a3 ∧ w.cell? ⟨q, 4, none⟩ = some a4 ∧ w.cell? ⟨q, 5, none⟩ = some a5 ∧ w.cell? ⟨q, 6, none⟩ = some a6 ∧ w.cell? ⟨q, 7, none⟩ = some a7 ∧ w.cell? ⟨q, 8, none⟩ = some a8 ∧ w.cell? ⟨q, 9, none⟩ = some a9 := ⟨h.cell 0 rfl, h.cell 1 rfl, h.cell 2 rfl, h.cell 3 rfl, h.cell 4 rfl, h.cell 5 rfl, h.cell 6 rfl, h.cell 7 rfl, h.cell 8 rfl, h.cell 9 rfl⟩
theorem Blk.f10 {w : World} {q : Nat} {a0 a1 a2 a3 a4 a5 a6 a7 a8 a9 : Value} {l : List Value} (h : Blk w q (a0 :: a1 :: a2 :: a3 :: a4 :: a5 :: a6 :: a7 :: a8 :: a9 :: l)) : w.frozen? ⟨q, 0, none⟩ = false ∧ w.frozen? ⟨q, 1, none⟩ = false ∧ w.frozen? ⟨q, 2, none⟩ = false ∧ w.frozen? ⟨q, 3, none⟩ = false ∧ w.frozen? ⟨q, 4, none⟩ = false ∧ w.frozen? ⟨q, 5, none⟩ = false ∧ w.frozen? ⟨q, 6, none⟩ = false ∧ w.frozen? ⟨q, 7, none⟩ = false ∧ w.frozen? ⟨q, 8, none⟩ = false ∧ w.frozen? ⟨q, 9, none⟩ = false := ⟨h.free 0 rfl, h.free 1 rfl, h.free 2 rfl, h.free 3 rfl, h.free 4 rfl, h.free 5 rfl, h.free 6 rfl, h.free 7 rfl, h.free 8 rfl, h.free 9 rfl⟩
theorem Blk.g10 {b : Nat} {v : World} {q : Nat} {a0 a1 a2 a3 a4 a5 a6 a7 a8 a9 : Value} {l : List Value} (h : ∀ w, Below b v w → Blk w q (a0 :: a1 :: a2 :: a3 :: a4 :: a5 :: a6 :: a7 :: a8 :: a9 :: l)) : (∀ w, Below b v w → w.cell? ⟨q, 0, none⟩ = some a0) ∧ (∀ w, Below b v w → w.cell? ⟨q, 1, none⟩ = some a1) ∧ (∀ w, Below b v w → w.cell? ⟨q, 2, none⟩ = some a2) ∧ (∀ w, Below b v w → w.cell? ⟨q, 3, none⟩ = some a3) ∧ (∀ w, Below b v w → w.cell? ⟨q, 4, none⟩ = some a4) ∧ (∀ w, Below b v w → w.cell? ⟨q, 5, none⟩ = some a5) ∧ (∀ w, Below b v w → w.cell? ⟨q, 6, none⟩ = some a6) ∧ (∀ w, Below b v w → w.cell? ⟨q, 7, none⟩ = some a7) ∧ (∀ w, Below b v w → w.cell? ⟨q, 8, none⟩ = some a8) ∧ (∀ w, Below b v w → w.cell? ⟨q, 9, none⟩ = some a9) := ⟨fun w k => (h w k).cell 0 rfl, fun w k => (h w k).cell 1 rfl, fun w k => (h w k).cell 2 rfl, fun w k => (h w k).cell 3 rfl, fun w k => (h w k).cell 4 rfl, fun w k => (h w k).cell 5 rfl, fun w k => (h w k).cell 6 rfl, fun w k => (h w k).cell 7 rfl, fun w k => (h w k).cell 8 rfl, fun w k => (h w k).cell 9 rfl⟩
theorem Blk.c13 {w : World} {q : Nat} {a0 a1 a2 a3 a4 a5 a6 a7 a8 a9 a10 a11 a12 : Value} {l : List Value} (h : Blk w q (a0 :: a1 :: a2 :: a3 :: a4 :: a5 :: a6 :: a7 :: a8 :: a9 :: a10 :: a11 :: a12 :: l)) : w.cell? ⟨q, 0, none⟩ = some a0 ∧ w.cell? ⟨q, 1, none⟩ = some a1 ∧ w.cell? ⟨q, 2, none⟩ = some a2 ∧ w.cell? ⟨q, 3, none⟩ = some a3 ∧ w.cell? ⟨q, 4, none⟩ = some a4 ∧ w.cell? ⟨q, 5, none⟩ = some a5 ∧ w.cell? ⟨q, 6, none⟩ = some a6 ∧ w.cell? ⟨q, 7, none⟩ = some a7 ∧ w.cell? ⟨q, 8, none⟩ = some a8 ∧ w.cell? ⟨q, 9, none⟩ = some a9 ∧ w.cell? ⟨q, 10, none⟩ = some a10 ∧ w.cell? ⟨q, 11, none⟩ = some a11 ∧ w.cell? ⟨q, 12, none⟩ = some a12 := ⟨h.cell 0 rfl, h.cell 1 rfl, h.cell 2 rfl, h.cell 3 rfl, h.cell 4 rfl, h.cell 5 rfl, h.cell 6 rfl, h.cell 7 rfl, h.cell 8 rfl, h.cell 9 rfl, h.cell 10 rfl, h.cell 11 rfl, h.cell 12 rfl⟩
theorem Blk.f13 {w : World} {q : Nat} {a0 a1 a2 a3 a4 a5 a6 a7 a8 a9 a10 a11 a12 : Value} {l : List Value} (h : Blk w q (a0 :: a1 :: a2 :: a3 :: a4 :: a5 :: a6 :: a7 :: a8 :: a9 :: a10 :: a11 :: a12 :: l)) : w.frozen? ⟨q, 0, none⟩ = false ∧ w.frozen? ⟨q, 1, none⟩ = false ∧ w.frozen? ⟨q, 2, none⟩ = false ∧ w.frozen? ⟨q, 3, none⟩ = false ∧ w.frozen? ⟨q, 4, none⟩ = false ∧ w.frozen? ⟨q, 5, none⟩ = false ∧ w.frozen? ⟨q, 6, none⟩ = false ∧ w.frozen? ⟨q, 7, none⟩ = false ∧ w.frozen? ⟨q, 8, none⟩ = false ∧ w.frozen? ⟨q, 9, none⟩ = false ∧ w.frozen? ⟨q, 10, none⟩ = false ∧ w.frozen? ⟨q, 11, none⟩ = false ∧ w.frozen? ⟨q, 12, none⟩ = false := ⟨h.free 0 rfl, h.free 1 rfl, h.free 2 rfl, h.free 3 rfl, h.free 4 rfl, h.free 5 rfl, h.free 6 rfl, h.free 7 rfl, h.free 8 rfl, h.free 9 rfl, h.free 10 rfl, h.free 11 rfl, h.free 12 rfl⟩
theorem Blk.g13 {b : Nat} {v : World} {q : Nat} {a0 a1 a2 a3 a4 a5 a6 a7 a8 a9 a10 a11 a12 : Value} {l : List Value} (h : ∀ w, Below b v w → Blk w q (a0 :: a1 :: a2 :: a3 :: a4 :: a5 :: a6 :: a7 :: a8 :: a9 :: a10 :: a11 :: a12 :: l)) : (∀ w, Below b v w → w.cell? ⟨q, 0, none⟩ = some a0) ∧ (∀ w, Below b v w → w.cell? ⟨q, 1, none⟩ = some a1) ∧ (∀ w, Below b v w → w.cell? ⟨q, 2, none⟩ = some a2) ∧ (∀ w, Below b v w → w.cell? ⟨q, 3, none⟩ = some a3) ∧ (∀ w, Below b v w → w.cell? ⟨q, 4, none⟩ = some a4) ∧ (∀ w, Below b v w → w.cell? ⟨q, 5, none⟩ = some a5) ∧ (∀ w, Below b v w → w.cell? ⟨q, 6, none⟩ = some a6) ∧ (∀ w, Below b v w → w.cell? ⟨q, 7, none⟩ = some a7) ∧ (∀ w, Below b v w → w.cell? ⟨q, 8, none⟩ = some a8) ∧ (∀ w, Below b v w → w.cell? ⟨q, 9, none⟩ = some a9) ∧ (∀ w, Below b v w → w.cell? ⟨q, 10, none⟩ = some a10) ∧ (∀ w, Below b v w → w.cell? ⟨q, 11, none⟩ = some a11) ∧ (∀ w, Below b v w → w.cell? ⟨q, 12, none⟩ = some a12) := ⟨fun w k => (h w k).cell 0 rfl, fun w k => (h w k).cell 1 rfl, fun w k => (h w k).cell 2 rfl, fun w k => (h w k).cell 3 rfl, fun w k => (h w k).cell 4 rfl, fun w k => (h w k).cell 5 rfl, fun w k => (h w k).cell 6 rfl, fun w k => (h w k).cell 7 rfl, fun w k => (h w k).cell 8 rfl, fun w k => (h w k).cell 9 rfl, fun w k => (h w k).cell 10 rfl, fun w k => (h w k).cell 11 rfl, fun w k => (h w k).cell 12 rfl⟩
theorem Blk.k13 {b : Nat} {v : World} {q : Nat} {a0 a1 a2 a3 a4 a5 a6 a7 a8 a9 a10 a11 a12 : Value} {l : List Value} (h : ∀ w, Below b v w → Blk w q (a0 :: a1 :: a2 :: a3 :: a4 :: a5 :: a6 :: a7 :: a8 :: a9 :: a10 :: a11 :: a12 :: l)) : (∀ w, Below b v w → w.frozen? ⟨q, 0, none⟩ = false) ∧ (∀ w, Below b v w → w.frozen? ⟨q, 1, none⟩ = false) ∧ (∀ w, Below b v w → w.frozen? ⟨q, 2, none⟩ = false) ∧ (∀ w, Below b v w → w.frozen? ⟨q, 3, none⟩ = false) ∧ (∀ w, Below b v w → w.frozen? ⟨q, 4, none⟩ = false) ∧ (∀ w, Below b v w → w.frozen? ⟨q, 5, none⟩ = false) ∧ (∀ w, Below b v w → w.frozen? ⟨q, 6, none⟩ = false) ∧ (∀ w, Below b v w → w.frozen? ⟨q, 7, none⟩ = false) ∧ (∀ w, Below b v w → w.frozen? ⟨q, 8, none⟩ = false) ∧ (∀ w, Below b v w → w.frozen? ⟨q, 9, none⟩ = false) ∧ (∀ w, Below b v w → w.frozen? ⟨q, 10, none⟩ = false) ∧ (∀ w, Below b v w → w.frozen? ⟨q, 11, none⟩ = false) ∧ (∀ w, Below b v w → w.frozen? ⟨q, 12, none⟩ = false) := ⟨fun w k => (h w k).free 0 rfl, fun w k => (h w k).free 1 rfl, fun w k => (h w k).free 2 rfl, fun w k => (h w k).free 3 rfl, fun w k => (h w k).free 4 rfl, fun w k => (h w k).free 5 rfl, fun w k => (h w k).free 6 rfl, fun w k => (h w k).free 7 rfl, fun w k => (h w k).free 8 rfl, fun w k => (h w k).free 9 rfl, fun w k => (h w k).free 10 rfl, fun w k => (h w k).free 11 rfl, fun w k => (h w k).free 12 rfl⟩
theorem Blk.lt {w:World}{q:Nat}{l:List Value}{v:Value}(h:Blk w q (v :: l)):q<w.heap.size:=World.block_lt_of_cell? _ _ (h 0 v rfl).1
theorem Blk.below {w w':World}{q:Nat}{l:List Value}(h:Blk w q l)(hq:q<w.heap.size)(hb:Below w.heap.size w w'):Blk w' q l:=fun i v hi =>
 ⟨(hb.cell (p:=⟨q,i,none⟩) hq).trans (h i v hi).1,(hb.frozen (p:=⟨q,i,none⟩) hq).trans (h i v hi).2⟩
theorem Blk.set {w:World}{q:Nat}{l:List Value}(h:Blk w q l)(j:Nat)(u:Value):Blk (w.setCell ⟨q,j,none⟩ u) q (l.set j u):=fun i v hi=>by
 rw [List.getElem?_set] at hi
 by_cases e:j=i
 ·subst e
  rw [if_pos rfl] at hi
  by_cases hl:j<l.length
  ·rw [if_pos hl] at hi
   injection hi with hi
   subst hi
   have h0:=h j _ (List.getElem?_eq_getElem hl)
   exact ⟨zE h0.1,(World.frozen?_setCell _ _ _ _).trans h0.2⟩
  ·rw [if_neg hl] at hi;cases hi
 ·rw [if_neg e] at hi
  have h0:=h i v hi
  exact ⟨by rw [zB (fun e'=>e (by injection e'))];exact h0.1,(World.frozen?_setCell _ _ _ _).trans h0.2⟩
theorem Blk.other {w:World}{q r o:Nat}{u:Value}{l:List Value}(h:Blk w q l)(hne:r≠q):Blk (w.setCell ⟨r,o,none⟩ u) q l:=fun i v hi =>
 ⟨by rw [zB (fun e'=>hne (by injection e'))];exact (h i v hi).1,(World.frozen?_setCell _ _ _ _).trans (h i v hi).2⟩
theorem Blk.new (w:World)(l:List Value)(t:TypeId):Blk (w.alloc (.cells l.toArray t)) w.heap.size l:=fun i v hi =>
 ⟨by rw [World.cell?_alloc_at _ _ _ _ rfl];simpa using hi,World.frozen?_alloc_at _ _ _ _ rfl⟩
theorem Blk.alloc {w:World}{q:Nat}{l:List Value}(h:Blk w q l)(hq:q<w.heap.size)(o:Obj):Blk (w.alloc o) q l:=h.below hq (xB (Below.refl _ _) o)
theorem zRh (s:Int)(a:Option Addr)(n cap:Nat)(K:Nat→Kp)(w:World)(hk:zF9 w a n K)(hc:zCg n K) :
  Calls Tryz.prog 25 #[caV s (.slice a n cap),.int .i64 1048576] w fun e w'=>(e=.returned (.int .i64 (-1))∨∃ m:Nat,m≤1048576∧zI n K∧e=.returned (.int .i64 m))∧Bw w w':=by
 have HK:Hid (zF9 w a n K):=hk
 have HC:Hid (zCg n K):=hc
 clear hk hc
 go_enter Tryz.func25,Tryz.ntmps25
 go_wp2_with fail
 generalize hW:(w.alloc _:World)=W
 have hB0:Bw w W:=by subst hW;exact Qb
 clear hW
 refine (zTh a n cap 1048576 K W (by omega) (HK.out.below hB0) HC.out).mono ?_
 rintro e w1 ⟨rfl | ⟨m,hm,hS,rfl⟩,hb1⟩
 ·go_wp2
  go_ret
  exact ⟨.inl rfl,zA hB0 hb1⟩
 ·have hneg:¬ ((m:Nat):Int)<0:=by omega
  have HS:Hid (zI n K):=hS
  have HMm:Hid (m≤1048576):=hm
  clear hS
  go_wp2
  go_ret
  exact ⟨.inr ⟨m,HMm.out,HS.out,rfl⟩,zA hB0 hb1⟩
theorem zMa (z x y wd ht now s:Int)(a:Option Addr)(n cap:Nat)(K:Nat→Kp)(ra:Option Addr)(rn rc:Nat)(bad:Int)(w:World)(hk:zF9 w a n K)(hc:zCg n K)(hrm:rn≤maxLen) :
  Calls Tryz.prog 7 #[vwV z x y wd ht now s (.slice a n cap) (.slice ra rn rc) bad,.int .i64 1048576] w fun e w'=>(e=.returned (.int .i64 (-1))∨∃ m:Nat,zI n K∧rn≤1048576∧e=.returned (.int .i64 m))∧Bw w w':=by
 have HK:Hid (zF9 w a n K):=hk
 have HC:Hid (zCg n K):=hc
 clear hk hc
 go_enter Tryz.func7,Tryz.ntmps7
 go_wp2_with fail
 generalize hW:(w.alloc _:World)=W
 have HB0:Hid (Bw w W):=by show Below _ _ _;subst hW;exact Qb
 have HV:Hid (Blk W w.heap.size [.int .i64 z,.int .i64 x,.int .i64 y,.int .i64 wd,.int .i64 ht,.int .i64 now,.int .i64 s,.slice a n cap,.slice ra rn rc,.int .i64 bad]):=by show Blk _ _ _;subst hW;exact Blk.new _ _ _
 clear hW
 refine (zRh s a n cap K W (HK.out.below HB0.out) HC.out).mono ?_
 rintro e w1 ⟨rfl | ⟨m,hm,hS,rfl⟩,hb1⟩
 ·have HB1:Hid (Bw w w1):=zA HB0.out hb1
  clear hb1
  go_wp2
  go_ret
  exact ⟨.inl rfl,HB1.out⟩
 ·have HS:Hid (zI n K):=hS
  have HB1:Hid (Bw w w1):=zA HB0.out hb1
  have HV1:Hid (Blk w1 w.heap.size [.int .i64 z,.int .i64 x,.int .i64 y,.int .i64 wd,.int .i64 ht,.int .i64 now,.int .i64 s,.slice a n cap,.slice ra rn rc,.int .i64 bad]):=HV.out.below HV.out.lt hb1
  have c8:=HV1.out.cell 8 rfl
  have hneg:¬ ((m:Nat):Int)<0:=by omega
  clear hS hb1
  go_wp2_with fail
  by_cases hr:m<rn
  ·refine (zKc ra rn rc m w1 hm hr hrm).mono ?_
   rintro e w2 ⟨rfl,hb2⟩
   have HB2:Hid (Bw w w2):=zA HB1.out hb2
   clear hb2 c8
   go_wp2
   go_ret
   exact ⟨.inl rfl,HB2.out⟩
  ·refine (zKb ra rn rc m w1 hm (by omega)).mono ?_
   rintro e w2 ⟨rfl,hb2⟩
   have HB2:Hid (Bw w w2):=zA HB1.out hb2
   have hneg2:¬ (m:Int) - (rn:Int)<0:=by omega
   have he:(m:Int) - (rn:Int)=((m - rn:Nat):Int):=by omega
   clear hb2 c8
   go_wp2
   go_ret
   exact ⟨.inr ⟨m - rn,HS.out,by omega,rfl⟩,HB2.out⟩
def zLv (w:World)(b n:Nat)(K A:Nat→Kp)(rb rn:Nat)(E:Nat→Req):Prop:=yW w (b+1) b n K A∧rb<w.heap.size∧zAj w rb 0 rn E
theorem zLv.below {w w':World}{b n:Nat}{K A:Nat→Kp}{rb rn:Nat}{E:Nat→Req}(h:zLv w b n K A rb rn E)(hb:Below w.heap.size w w'):zLv w' b n K A rb rn E :=
 ⟨h.1.below hb,Nat.lt_of_lt_of_le h.2.1 hb.size,h.2.2.below hb h.2.1⟩
theorem resTV {T:Array Value}{Wf:World}{r:Nat}{z x y wd ht now s:Int}{kv rv:Value}{bad:Int}(hT:T[2]?.getD undef=.pointer (some ⟨r,0,none⟩))(h:Blk Wf r [.int .i64 z,.int .i64 x,.int .i64 y,.int .i64 wd,.int .i64 ht,.int .i64 now,.int .i64 s,kv,rv,.int .i64 bad]) :
  (results Tryz.f9 T).run Tryz.prog Wf=.ok (vwV z x y wd ht now s kv rv bad) Wf:=by
 obtain ⟨h0,h1,h2,h3,h4,h5,h6,h7,h8,h9⟩:=Blk.c10 h
 simp [results,Tryz.results9,go_sem,hT,h0,h1,h2,h3,h4,h5,h6,h7,h8,h9]
theorem zNk (z x y wd ht now s:Int)(n rn:Nat)(b b' rb rb':Nat)(K A H:Nat→Kp)(E:Nat→Req)(bad:Int)(w:World)(ha:zLv w b n K A rb rn E)(hh:zLv w b' n K H rb' rn E)(hs:zI n K)(hrn:rn≤1048576) :
  Calls Tryz.prog 12 #[vwV z x y wd ht now s (.slice (some ⟨b,0,none⟩) n n) (.slice (some ⟨rb,0,none⟩) rn rn) bad,vwV z x y wd ht now s (.slice (some ⟨b',0,none⟩) n n) (.slice (some ⟨rb',0,none⟩) rn rn) bad] w fun e w'=>e=.returned (.bool true)∧Bw w w':=by
 have HA:Hid (zLv w b n K A rb rn E):=ha
 have HH:Hid (zLv w b' n K H rb' rn E):=hh
 have HS:Hid (zI n K):=hs
 clear ha hh hs
 go_enter Tryz.func12,Tryz.ntmps12
 go_wp2_with fail
 generalize hW:((w.alloc _).alloc _:World)=W
 have HB0:Hid (Bw w W):=by show Below _ _ _;subst hW;exact Qb
 have HV:Hid (Blk W w.heap.size [.int .i64 z,.int .i64 x,.int .i64 y,.int .i64 wd,.int .i64 ht,.int .i64 now,.int .i64 s,.slice (some ⟨b,0,none⟩) n n,.slice (some ⟨rb,0,none⟩) rn rn,.int .i64 bad]):=by
  show Blk _ _ _;subst hW
  exact (Blk.new w _ _).alloc (by simp) _
 have HU:Hid (Blk W (w.heap.size+1) [.int .i64 z,.int .i64 x,.int .i64 y,.int .i64 wd,.int .i64 ht,.int .i64 now,.int .i64 s,.slice (some ⟨b',0,none⟩) n n,.slice (some ⟨rb',0,none⟩) rn rn,.int .i64 bad]):=by
  show Blk _ _ _;subst hW
  have:=Blk.new (w.alloc (.cells #[.int .i64 z,.int .i64 x,.int .i64 y,.int .i64 wd,.int .i64 ht,.int .i64 now,.int .i64 s,.slice (some ⟨b,0,none⟩) n n,.slice (some ⟨rb,0,none⟩) rn rn,.int .i64 bad] 38)) [.int .i64 z,.int .i64 x,.int .i64 y,.int .i64 wd,.int .i64 ht,.int .i64 now,.int .i64 s,.slice (some ⟨b',0,none⟩) n n,.slice (some ⟨rb',0,none⟩) rn rn,.int .i64 bad] 38
  simpa using this
 have hvl:w.heap.size<W.heap.size:=HV.out.lt
 have hul:w.heap.size+1<W.heap.size:=HU.out.lt
 clear hW
 refine (zFk z x y wd ht W).mono ?_
 rintro e w1 ⟨rfl,hb1⟩
 have HB1:Hid (Bw W w1):=hb1
 have hV1:=HV.out.below hvl hb1
 have hU1:=HU.out.below hul hb1
 obtain ⟨d0,d1,d2,d3,d4,d5,d6,d7,d8,d9⟩:=Blk.c10 hV1
 obtain ⟨e0,e1,e2,e3,e4,e5,e6,e7,e8,e9⟩:=Blk.c10 hU1
 clear hb1 hV1 hU1
 go_wp2_with fail
 refine (zPo s _ _ _ _ n K _ _ w1 (HA.out.1.below (zA HB0.out HB1.out)) (HH.out.1.below (zA HB0.out HB1.out)) HS.out).mono ?_
 rintro e w2 ⟨rfl,hb2⟩
 have HB2:Hid (Bw W w2):=zA HB1.out hb2
 have hV2:=HV.out.below hvl HB2.out
 have hU2:=HU.out.below hul HB2.out
 clear d0 e0 d1 e1 d2 e2 d3 e3 d4 e4 d5 e5 d6 e6 d7 e7 d8 e8 d9 e9
 obtain ⟨d0,d1,d2,d3,d4,d5,d6,d7,d8,d9⟩:=Blk.c10 hV2
 obtain ⟨e0,e1,e2,e3,e4,e5,e6,e7,e8,e9⟩:=Blk.c10 hU2
 clear hb2 hV2 hU2 HB1
 have HA2:=HA.out.below (zA HB0.out HB2.out)
 have HH2:=HH.out.below (zA HB0.out HB2.out)
 have hq1:xL w2 (some ⟨rb,0,none⟩) rn E:=.inr ⟨rb,0,rfl,HA2.2.1,HA2.2.2⟩
 have hq2:xL w2 (some ⟨rb',0,none⟩) rn E:=.inr ⟨rb',0,rfl,HH2.2.1,HH2.2.2⟩
 have HEq:=(show Hid _ from zCv (some ⟨rb,0,none⟩) (some ⟨rb',0,none⟩) rn rn rn E w2 hq1 hq2 hrn)
 clear HA2 HH2 hq1 hq2
 go_wp2_with fail
 refine Calls.mono HEq.out ?_
 rintro e w3 ⟨rfl,hb3⟩
 have HB3:Hid (Bw W w3):=zA HB2.out hb3
 have hV3:=HV.out.below hvl HB3.out
 have hU3:=HU.out.below hul HB3.out
 clear d0 e0 d1 e1 d2 e2 d3 e3 d4 e4 d5 e5 d6 e6 d7 e7 d8 e8 d9 e9
 have d9:=hV3.cell 9 rfl
 have e9:=hU3.cell 9 rfl
 have HB9:Hid (Bw w w3):=zA HB0.out HB3.out
 clear hb3 hV3 hU3
 go_wp2
 go_ret
 exact ⟨rfl,HB9.out⟩
end Go.Proofs.YtkjbafcalamgnaaGreat
