/- Texts. -/
import Derived.Test.YtpaiholildedcaaGreatVNewViewer30
set_option linter.unusedSimpArgs false
set_option linter.unusedVariables false
set_option maxRecDepth 100000
set_option maxHeartbeats 32000000
namespace Go.Proofs.YtpaiholildedcaaGreat
open Go.RowKit
def askV (z x y wd ht now s:Int)(n:Nat)(K:Nat→Kp)(Q:List Req)(bad:Int):Va :=
 ⟨0,false,(stS n (vO z x y wd) K now Q (xJ z x y wd ht)).length,yS (stS n (vO z x y wd) K now Q (xJ z x y wd ht)),z,x,y,wd,ht,now,s,n,stK n (vO z x y wd) K (xJ z x y wd ht),(stQ n (vO z x y wd) K now Q (xJ z x y wd ht)).length,nw (stQ n (vO z x y wd) K now Q (xJ z x y wd ht)),bad⟩
theorem zL9 (P:Kp→Prop)(n:Nat)(R:Rfs)(K:Nat→Kp)(h:∀ i,i<n→P (K i)):∀ k i,i<n→P (stK n R K k i)
 | 0,i,hi=>h i hi
 | k+1,i,hi=>by
  have ih:=zL9 P n R K h k
  unfold stK
  split
  ·rename_i h0
   exact ih _ (zCc h0 i hi)
  ·exact ih i hi
theorem kC_mk {A:Nat→Kp}{k:Nat}(h:tC (A k)=0)(h2:¬ (0≤atK k A (A k).z (A k).x (A k).y)):kC A k=0:=by
 unfold kC
 rw [if_pos h,if_neg h2]
def KU (n:Nat)(A:Nat→Kp):Prop:=∀ i j,i<n→j<n→i≠j→isK (A i) (A j).z (A j).x (A j).y=false
theorem zKg {A:Nat→Kp}{n:Nat}:(∀ j,j<n→kC A j=0) ↔ (∀ j,j<n→tC (A j)=0)∧KU n A:=by
 constructor
 ·intro h
  refine ⟨fun j hj=>(uH (h j hj)).1,fun i j hi hj hne=>?_⟩
  cases e:isK (A i) (A j).z (A j).x (A j).y
  ·rfl
  ·exfalso
   obtain ⟨b1,b2,b3⟩:=xA.1 e
   rcases Nat.lt_or_ge i j with hl | hl
   ·exact (uH (h j hj)).2 (xF.2 ⟨i,hl,e⟩)
   ·exact (uH (h i hi)).2 (xF.2 ⟨j,by omega,xA.2 ⟨b1.symm,b2.symm,b3.symm⟩⟩)
 ·rintro ⟨h1,h2⟩ j hj
  refine kC_mk (h1 j hj) fun h=>?_
  obtain ⟨i,hi,e⟩:=xF.1 h
  rw [h2 i j (by omega) hj (by omega)] at e
  cases e
theorem zIe (n:Nat)(K:Nat→Kp)(z x y:Int)(hat:0≤atK n K z x y):(zFd n K z x y).Nodup:=by
 unfold zFd
 rw [List.nodup_append]
 refine ⟨List.Pairwise.filter _ List.nodup_range,by simp,fun a ha b hb e=>?_⟩
 subst e
 unfold xP at ha
 rw [List.mem_filter] at ha
 simp at hb
 rcases zC3 n K z x y with h | ⟨i,hi,h,a1,a2,a3⟩
 ·omega
 ·have e2:a=i:=by omega
  subst e2
  have:=ha.2
  rw [xA.2 ⟨a1,a2,a3⟩] at this
  cases this
theorem zEi {n:Nat}{K:Nat→Kp}{z x y:Int}(hU:KU n K)(hat:0≤atK n K z x y):(xP n K z x y).length+1=n:=by
 rcases zC3 n K z x y with h | ⟨q,hq,h,a1,a2,a3⟩
 ·omega
 have hk:∀ k,k≤n→(xP k K z x y).length+(if q<k then 1 else 0)=k:=by
  intro k
  induction k with
  | zero=>intro _;rfl
  | succ k ih =>
   intro hk
   have h:=ih (by omega)
   unfold xP at h ⊢
   rw [List.range_succ,List.filter_append,List.length_append]
   by_cases e:k=q
   ·subst e
    simp [xA.2 ⟨a1,a2,a3⟩]
    simpa using h
   ·have hf:isK (K k) z x y=false:=by
     have:=hU k q (by omega) hq e
     rw [a1,a2,a3] at this
     exact this
    simp [hf]
    split at h <;> split <;> omega
 have:=hk n (Nat.le_refl _)
 rw [if_pos hq] at this
 exact this
theorem touK_KU {n:Nat}{K:Nat→Kp}{z x y:Int}(hU:KU n K)(hat:0≤atK n K z x y):KU n (zJc n K z x y):=fun i j hi hj hne=>by
 have hl:(zFd n K z x y).length=n:=by unfold zFd;rw [List.length_append];exact zEi hU hat
 have hn:=zIe n K z x y hat
 refine hU _ _ (zCc hat i hi) (zCc hat j hj) fun e=>hne ?_
 rw [List.getD_eq_getElem?_getD,List.getD_eq_getElem?_getD,List.getElem?_eq_getElem (by omega),List.getElem?_eq_getElem (by omega)] at e
 have hp:=List.pairwise_iff_getElem.1 hn
 rcases Nat.lt_trichotomy i j with h | h | h
 ·exact absurd e (hp i j (by omega) (by omega) h)
 ·exact h
 ·exact absurd e.symm (hp j i (by omega) (by omega) h)
theorem zMa {n:Nat}{R:Rfs}{K:Nat→Kp}(hU:KU n K):∀ k,KU n (stK n R K k)
 | 0=>hU
 | k+1=>by
  have ih:=zMa (R:=R) hU k
  unfold stK
  split
  ·rename_i h
   exact touK_KU ih h
  ·exact ih
theorem stK_kC {n:Nat}{R:Rfs}{K:Nat→Kp}(h:∀ j,j<n→kC K j=0)(k:Nat):∀ j,j<n→kC (stK n R K k) j=0:=by
 obtain ⟨h1,h2⟩:=zKg.1 h
 exact zKg.2 ⟨zL9 (fun k=>tC k=0) n R K h1 k,zMa h2 k⟩
theorem zGp.trans {w:World}{k r t:Kp}(h:zGp w k r)(h2:zGp w r t)(hI:r.I=k.I):zGp w k t:=by
 obtain ⟨⟨a1,a2,a3⟩,a4,a5,⟨a6,a7⟩,a8⟩:=h
 obtain ⟨⟨b1,b2,b3⟩,b4,b5,⟨b6,b7⟩,b8⟩:=h2
 refine ⟨⟨b1.trans a1,b2.trans a2,b3.trans a3⟩,b4.trans a4,b5.trans a5,⟨by rw [← a4];exact b6,fun i hi=>xG.same_trans (b7 i (by omega)) (a7 i hi)⟩,by rw [← a5,← hI];exact b8⟩
theorem CaF.ko {W:World}{a:Option Addr}{n:Nat}{K R:Nat→Kp}(h:CaF W a n K R)(hn:0<n):∃ g,a=some ⟨g,0,none⟩∧zL4 W g n R∧(∀ i,i<n→zH9 W (R i)):=by
 rcases h with h | ⟨g,e,h1,h2⟩
 ·omega
 ·refine ⟨g,e,⟨h1,fun i hi=>?_⟩,fun i hi=>(h2 i hi).2.2.1⟩
  obtain ⟨c1,c2,⟨⟨fb,d1,d2,d3⟩,_,_,_,ib,io,d7,d8,d9⟩,c4⟩:=h2 i hi
  exact ⟨c1,⟨fb,d1,d3,d2⟩,.inr ⟨ib,io,d7,d9,d8⟩⟩
theorem CaF.is {W:World}{a:Option Addr}{n:Nat}{K R:Nat→Kp}(h:CaF W a n K R):IsKs W a n R:=by
 rcases Nat.eq_zero_or_pos n with h0 | h0
 ·exact .inl h0
 ·obtain ⟨g,e,h1,_⟩:=h.ko h0
  subst e
  exact h1.is
theorem zKt {n:Nat}{K R:Nat→Kp}(h:∀ i,i<n→(R i).z=(K i).z∧(R i).x=(K i).x∧(R i).y=(K i).y)(z x y:Int):∀ k,k≤n→atK k R z x y=atK k K z x y:=by
 intro k hk
 unfold atK
 exact zBk k fun i hi=>by
  unfold isK
  rw [(h i (by omega)).1,(h i (by omega)).2.1,(h i (by omega)).2.2]
theorem zK9 (n:Nat)(K:Nat→Kp)(z x y:Int)(i:Nat)(hi:i<(xP n K z x y).length+1):(zFd n K z x y).getD i 0=if i=(xP n K z x y).length then (atK n K z x y).toNat else (xP n K z x y).getD i 0:=by
 unfold zFd
 by_cases h:i=(xP n K z x y).length
 ·rw [if_pos h,List.getD_eq_getElem?_getD,List.getElem?_append_right (by omega),h]
  simp
 ·rw [if_neg h,List.getD_eq_getElem?_getD,List.getElem?_append_left (by omega),List.getD_eq_getElem?_getD]
theorem CaF.key {W:World}{a:Option Addr}{n:Nat}{K R:Nat→Kp}(h:CaF W a n K R):∀ i,i<n→(R i).z=(K i).z∧(R i).x=(K i).x∧(R i).y=(K i).y:=fun i hi=>by
 rcases h with h | ⟨g,e,h1,h2⟩
 ·omega
 ·exact (h2 i hi).2.1.1
theorem zK2 {W:World}{a:Option Addr}{n c B:Nat}{K R R':Nat→Kp}{z x y:Int}{q gr:Nat}{w':World}(hW:CaF W a n K R)(hU:KU n K)(hat:atK n K z x y=(q:Int))(hL:zDu B w' (some ⟨gr,0,none⟩) c ((vI (q:Int) n).length+1) (fun i=>if i=(vI (q:Int) n).length then R q else R ((vI (q:Int) n).getD i 0)) R')(hJ:vI (q:Int) n=xP n K z x y)(hG:GrF B none w' W):CaF W (some ⟨gr,0,none⟩) n (zJc n K z x y) R':=by
 have hl:(xP n K z x y).length+1=n:=zEi hU (by omega)
 have h0:=hL.sm hG
 rw [hJ,hl] at h0
 rcases h0 with h0 | ⟨g,e,h1,h2⟩
 ·exact .inl h0
 ·refine .inr ⟨g,e,h1,fun i hi=>?_⟩
  obtain ⟨c1,c2,c3,c4⟩:=h2 i hi
  have hx:(if i=(xP n K z x y).length then R q else R ((xP n K z x y).getD i 0))=R ((zFd n K z x y).getD i 0):=by
   rw [zK9 n K z x y i (by omega),hat]
   split <;> rfl
  simp only [hx] at c2 c4
  have hti:=zCc (K:=K) (z:=z) (x:=x) (y:=y) (n:=n) (by omega) i hi
  rcases hW with hW | ⟨g2,e2,h3,h4⟩
  ·omega
  ·obtain ⟨d1,d2,d3,d4⟩:=h4 _ hti
   exact ⟨c1,d2.trans c2 d4,c3,c4.trans d4⟩
theorem CaF.m {W:World}{a:Option Addr}{n:Nat}{K R:Nat→Kp}(h:CaF W a n K R):∀ i,i<n→(R i).m=(K i).m:=fun i hi=>by
 rcases h with h | ⟨g,e,h1,h2⟩
 ·omega
 ·exact (h2 i hi).2.1.2.2.1
theorem yA.form {v:Value}{base:Nat}{w:World}{l:List Req}(h:yA base w v l):∃ a c,v=.slice a l.length c:=by
 rcases h.slice' with ⟨e1,e2⟩ | ⟨g,c,e,_⟩
 ·exact ⟨none,0,by rw [e1,e2];rfl⟩
 ·exact ⟨_,_,e⟩
structure GrQ (B q:Nat) (ob:Option Nat) (w W:World):Prop where
 os:W.os=w.os
 tape:W.tape=w.tape
 output:W.output=w.output
 size:w.heap.size≤W.heap.size
 block:∀ j,B≤j→j<w.heap.size→some j≠ob→j≠q→W.heap[j]?=w.heap[j]?
theorem zH4 (B q:Nat)(w:World):GrQ B q none w w:=⟨rfl,rfl,rfl,Nat.le_refl _,fun _ _ _ _ _=>rfl⟩
theorem GrQ.none {B q:Nat}{ob:Option Nat}{w W:World}(h:GrQ B q none w W):GrQ B q ob w W:=⟨h.os,h.tape,h.output,h.size,fun j h1 h2 _ h4=>h.block j h1 h2 (by simp) h4⟩
theorem GrQ.of_below {B q:Nat}{ob:Option Nat}{w w' W:World}(h:GrQ B q ob w' W)(hb:Below w.heap.size w w'):GrQ B q ob w W :=
 ⟨h.os.trans hb.os,h.tape.trans hb.tape,h.output.trans hb.output,Nat.le_trans hb.size h.size,fun j h1 h2 h3 h4=>(h.block j h1 (Nat.lt_of_lt_of_le h2 hb.size) h3 h4).trans (hb.block j h2)⟩
theorem GrQ.of_mid {B q:Nat}{ob:Option Nat}{w w' W:World}(h:GrQ B q ob w' W)(hM:zI q (q+1) w w'):GrQ B q ob w W :=
 ⟨h.os.trans hM.os,h.tape.trans hM.tape,h.output.trans hM.output,Nat.le_trans hM.size h.size,fun j h1 h2 h3 h4=>(h.block j h1 (Nat.lt_of_lt_of_le h2 hM.size) h3 h4).trans (hM.block j h2 (by omega))⟩
theorem zLs {B B' q:Nat}{ob:Option Nat}{w W:World}(h:GrQ B q ob w W)(hb:B≤B')(hq:q<B')(ho:∀ g,ob=some g→g<B'):GrF B' none w W :=
 ⟨h.os,h.tape,h.output,h.size,fun j h1 h2 _=>h.block j (Nat.le_trans hb h1) h2 (fun e=>by have:=ho j e.symm;omega) (by omega)⟩
theorem zLt {B q:Nat}{w w3 U:World}(h:GrQ B q (some w.heap.size) w3 U)(hb:Below q w w3)(hu:But q none w w3):GrQ B q none w U :=
 ⟨h.os.trans hb.os,h.tape.trans hb.tape,h.output.trans hb.output,Nat.le_trans hb.size h.size,fun j h1 h2 _ h4=>(h.block j h1 (Nat.lt_of_lt_of_le h2 hb.size) (fun e=>by injection e with e;omega) h4).trans (hu j h2 h4 (by simp))⟩
theorem grQ_app {B q:Nat}{ob ob':Option Nat}{V wS w6 wF U:World}(h:GrQ B q ob' wF U)(hM:zI q (q+1) w6 wF)(hg:wS.grownBy w6 ob)(hX:Below V.heap.size V wS)(ho:∀ g,ob'=some g→ob=some g∨wS.heap.size≤g):GrQ B q ob V U:=by
 have h1:=h.of_mid hM
 refine ⟨h1.os.trans (hg.os.trans hX.os),h1.tape.trans (hg.tape.trans hX.tape),h1.output.trans (hg.output.trans hX.output),Nat.le_trans hX.size (Nat.le_trans hg.size h1.size),fun j h2 h3 h4 h5=>?_⟩
 have hs:=hX.size
 have hs2:=hg.size
 refine (h1.block j h2 (by omega) (fun e=>?_) h5).trans ((hg.block j (by omega) h4).trans (hX.block j h3))
 rcases ho j e.symm with h | h
 ·exact h4 h.symm
 ·omega
def noK:Nat→Kp:=fun _=>⟨0,0,0,none,0,0,fun _=>⟨0,0,0,0,none,0,0,fun _=>0,fun _=>0,⟨#[]⟩,0⟩,none,0,0,fun _=>0⟩
def noE:Nat→Req:=fun _=>⟨0,0,0,0,0⟩
def zIn (z x y wd ht s:Int):Int:=if xN z x y wd ht=0 then (if inB s 4 10=true then 0 else 3) else xN z x y wd ht
def zJd (z x y wd ht s:Int):Va:=if zIn z x y wd ht s=0 then askV z x y wd ht 0 s 0 noK [] 0 else vaZ (zIn z x y wd ht s)
theorem zJ4 (z x y wd ht s:Int):zC8 z x y wd ht 0 s 0 noK 0 noE 0=zIn z x y wd ht s:=by
 unfold zC8 zIn
 by_cases h0:xN z x y wd ht=0
 ·rw [if_pos h0,if_pos h0,if_pos (by decide)]
  by_cases h1:inB s 1 10=true
  ·have hs:1≤s∧s≤10:=by simpa [inB] using h1
   have e:yC s 0 noK=0:=by
    unfold yC
    have h0':¬ s<((0:Nat):Int):=by omega
    rw [if_pos h1,if_neg h0']
    rfl
   rw [if_pos e]
   by_cases h4:s<4
   ·have h5:¬ inB s 4 10=true:=by simp [inB];omega
    rw [if_pos h4,if_neg h5]
   ·have h5:inB s 4 10=true:=by simp [inB];omega
    rw [if_neg h4,if_pos (show zQ 0 noE=0 from rfl),if_pos h5]
    rfl
  ·have hs:¬ (1≤s∧s≤10):=by simpa [inB] using h1
   have e:yC s 0 noK=3:=by
    unfold yC
    rw [if_neg h1]
   have h3:¬ (3:Int)=0:=by decide
   have h5:¬ inB s 4 10=true:=by simp [inB];omega
   rw [e,if_neg h3,if_neg h5]
 ·rw [if_neg h0,if_neg h0]
theorem zJ3 {z x y wd ht s:Int}(h:zIn z x y wd ht s=0):zB0 z x y wd ht=true∧4≤s∧s≤10:=by
 unfold zIn at h
 by_cases h0:xN z x y wd ht=0
 ·rw [if_pos h0] at h
  by_cases h1:inB s 4 10=true
  ·have hs:4≤s∧s≤10:=by simpa [inB] using h1
   refine ⟨?_,hs⟩
   rcases zEc z x y wd ht with ⟨_,h⟩ | ⟨e,_⟩
   ·exact h
   ·omega
  ·rw [if_neg h1] at h;cases h
 ·rw [if_neg h0] at h;exact absurd h h0
theorem zJ1 (z x y wd ht:Int):zCk 0 noE z x y wd ht=[]:=by
 unfold zCk
 split <;> rfl
theorem zGx (s:Int)(w:World) :
  Calls Tryz.prog 74 #[caV s (.slice none 0 0)] w fun e w'=>∃ p,e=.returned (.tuple #[.pointer (some ⟨p,0,none⟩),.int .i64 (yC s 0 noK)])∧Bw w w'∧(yC s 0 noK=0→ShK w' w.heap.size p s 0 noK):=by
 have hmk:=fun (t:TypeId) (w:World)=>run_makeMap (P:=Tryz.prog) t w
 have hI:=fun W=>zIy s W
 cases hin:inB s 1 10 <;> simp only [hin] at hI
 ·have hz:Hid (yC s 0 noK=3):=by show _=_;unfold yC;rw [hin];rfl
  go_enter Tryz.func74,Tryz.ntmps74
  go_wp2_with (go_at_call 122;refine (hI _).mono ?_;rintro e w' ⟨rfl,rfl⟩)
  refine bodyPost_ret (v:=.tuple #[.pointer (some ⟨w.heap.size+2,0,none⟩),.int .i64 3]) (by simp [results,Tryz.results74,go_sem]) rfl ?_
  exact ⟨_,by rw [hz.out],Qb,fun h=>absurd h (by rw [hz.out];decide)⟩
 have hs1:1≤s∧s≤10:=by simpa [inB] using hin
 have hsn:¬ s<0:=by omega
 have hz:Hid (yC s 0 noK=0):=by show _=_;unfold yC;rw [if_pos hin,if_neg (by omega)];rfl
 go_enter Tryz.func74,Tryz.ntmps74
 go_wp2_with (go_at_call 122;refine (hI _).mono ?_;rintro e w' ⟨rfl,rfl⟩)
 generalize hW:(((w.alloc _).alloc _).alloc _:World)=W
 have HB0:Hid (Bw w W):=by show Below _ _ _;subst hW;exact Qb
 have HK0:Hid (ShA W (w.heap.size+2) s 0 (w.heap.size+1)∧zC W (w.heap.size+2) 3∧W.ownsMap Tryz.prog 111 RV (w.heap.size+1) 0 (DataW.map [])):=by
  show _∧_∧_
  subst hW
  refine ⟨⟨?_,?_,?_⟩,?_,?_⟩
  ·simp [go_sem]
  ·simp [go_sem]
  ·simp [go_sem]
  ·have:=shelf3 ((w.alloc (.cells #[.int .i64 s,.slice none 0 0] 28)).alloc (.map #[] 0)) (.int .i64 s) (.int .i64 0) (.map (some (w.heap.size+1))) 173
   simpa using this
  ·have:=(World.ownsMap_made (w.alloc (.cells #[.int .i64 s,.slice none 0 0] 28)) Tryz.prog 111 RV).alloc (.cells #[.int .i64 s,.int .i64 0,.map (some (w.heap.size+1))] 173)
   simpa using this
 clear hW hmk hI
 go_loopw [28] (fun v wr=>v=.int .i64 0∧wr=W) (fun _ _=>0)
 case atStart=>exact ⟨rfl,rfl⟩
 case round =>
  obtain ⟨rfl,hw⟩:=hrel
  subst wr
  go_wp2_with fail
  refine bodyPost_ret (v:=.tuple #[.pointer (some ⟨w.heap.size+2,0,none⟩),.int .i64 0]) (by simp [results,Tryz.results74,go_sem]) rfl ?_
  exact ⟨_,by rw [hz.out],HB0.out,fun _=>⟨w.heap.size+1,by omega,by omega,HK0.out.1,HK0.out.2.1,HK0.out.2.2⟩⟩
theorem zBi {T:Array Value}{Wf:World}{r:Nat}{v:Va}{u:Vm}(hT:T[4]?.getD undef=.pointer (some ⟨r,0,none⟩))(h:Blk Wf r (vaL v u)) :
  (results Tryz.f9 T).run Tryz.prog Wf=.ok (vaV v u) Wf:=by
 obtain ⟨h0,h1,h2,h3,h4,h5,h6,h7,h8,h9,h10,h11,h12⟩:=Blk.c13 h
 simp [results,Tryz.results9,go_sem,hT,h0,h1,h2,h3,h4,h5,h6,h7,h8,h9,h10,h11,h12]
theorem zA0 (z x y wd ht s:Int)(w:World) :
  Calls Tryz.prog 9 #[zBg z x y wd ht,.int .i64 s] w fun e w'=>∃ u,e=.returned (vaV (zJd z x y wd ht s) u)∧zA3 w.heap.size w'.heap.size w' (zJd z x y wd ht s) u∧Bw w w':=by
 obtain ⟨VC,hVC⟩:∃ VC,zIn z x y wd ht s=VC:=⟨_,rfl⟩
 have HF:Hid (∀ W,Calls Tryz.prog 34 #[vwV z x y wd ht 0 s (.slice none 0 0) (.slice none 0 0) 0] W fun e w'=>∃ p,e=.returned (.tuple #[.pointer (some ⟨p,0,none⟩),.int .i64 VC])∧Bw W w'∧(VC=0→LkA w' W.heap.size p z x y wd ht 0 s 0 noK none 0 0 0)):=fun W=>zFv z x y wd ht 0 s none 0 0 noK none 0 0 noE 0 VC W ((zJ4 z x y wd ht s).trans hVC) (fun W' _=>zGx s W') (.inl rfl) (Nat.zero_le _) (Nat.le_refl _)
 have HOK:Hid (VC=0→zB0 z x y wd ht=true∧4≤s∧s≤10):=fun h=>zJ3 (hVC.trans h)
 obtain ⟨V,hV⟩:∃ V,zJd z x y wd ht s=V:=⟨_,rfl⟩
 have HV:Hid ((if VC=0 then askV z x y wd ht 0 s 0 noK [] 0 else vaZ VC)=V):=by show _=_;rw [← hV,← hVC];rfl
 rw [hV]
 clear hV hVC
 go_enter Tryz.func9,Tryz.ntmps9
 go_wp2_with fail
 generalize hW:((w.alloc _).alloc _:World)=W
 have HB0:Hid (Bw w W):=by show Below _ _ _;subst hW;exact Qb
 have HCm:Hid (Blk W w.heap.size [.int .i64 z,.int .i64 x,.int .i64 y,.int .i64 wd,.int .i64 ht]):=by show Blk _ _ _;subst hW;exact (Blk.new w _ _).alloc (by simp) _
 have HRs:Hid (Blk W (w.heap.size+1) [.int .i64 0,.bool false,.slice none 0 0,.int .i64 0,.int .i64 0,.int .i64 0,.int .i64 0,.int .i64 0,.int .i64 0,.int .i64 0,.slice none 0 0,.slice none 0 0,.int .i64 0]):=by
  show Blk _ _ _
  subst hW
  have:=Blk.new (w.alloc (.cells #[.int .i64 z,.int .i64 x,.int .i64 y,.int .i64 wd,.int .i64 ht] 25)) [.int .i64 0,.bool false,.slice none 0 0,.int .i64 0,.int .i64 0,.int .i64 0,.int .i64 0,.int .i64 0,.int .i64 0,.int .i64 0,.slice none 0 0,.slice none 0 0,.int .i64 0] 33
  simpa using this
 have hsz:w.heap.size+1<W.heap.size:=by subst hW;simp
 clear hW
 refine Calls.mono (HF.out W) ?_
 rintro e w1 ⟨p,rfl,hb1,hK1⟩
 have HK1:Hid (VC=0→LkA w1 W.heap.size p z x y wd ht 0 s 0 noK none 0 0 0):=hK1
 have HB1:Hid (Bw w w1):=zB HB0.out hb1
 have HR1:Hid (Blk w1 (w.heap.size+1) [.int .i64 0,.bool false,.slice none 0 0,.int .i64 0,.int .i64 0,.int .i64 0,.int .i64 0,.int .i64 0,.int .i64 0,.int .i64 0,.slice none 0 0,.slice none 0 0,.int .i64 0]):=HRs.out.below hsz hb1
 have hs1:W.heap.size≤w1.heap.size:=hb1.size
 clear hb1 hK1 HF HRs HB0 HCm
 by_cases h0:VC=0
 case neg =>
  have HE:Hid (V=vaZ VC):=by show _=_;rw [← HV.out,if_neg h0]
  have hcb:(VC == 0)=false:=by simpa using h0
  have hcb2:(VC != 0)=true:=by simpa using h0
  have hR':=HR1.out
  obtain ⟨t0,t1,t2,t3,t4,t5,t6,t7,t8,t9,t10,t11,t12⟩:=Blk.c13 (hR')
  obtain ⟨f0,f1,f2,f3,f4,f5,f6,f7,f8,f9,f10,f11,f12⟩:=Blk.f13 (hR')
  clear hR' HK1 HOK h0 HV
  go_wp2_with fail
  generalize hwF:(World.setCell _ _ _:World)=wF
  have HBk:Hid (Blk wF (w.heap.size+1) (vaL (vaZ VC) vmZ)):=by show Blk _ _ _;subst hwF;exact ((((((((((((HR1.out.set 0 _).set 1 _).set 2 _).set 3 _).set 4 _).set 5 _).set 6 _).set 7 _).set 8 _).set 9 _).set 10 _).set 11 _).set 12 _
  have HMM:Hid (zI (w.heap.size+1) (w.heap.size+2) w1 wF):=by show zI _ _ _ _;subst hwF;exact (((((((((((((zI.refl _ _ _).set (Nat.le_refl _) (Nat.lt_succ_self _) _ _).set (Nat.le_refl _) (Nat.lt_succ_self _) _ _).set (Nat.le_refl _) (Nat.lt_succ_self _) _ _).set (Nat.le_refl _) (Nat.lt_succ_self _) _ _).set (Nat.le_refl _) (Nat.lt_succ_self _) _ _).set (Nat.le_refl _) (Nat.lt_succ_self _) _ _).set (Nat.le_refl _) (Nat.lt_succ_self _) _ _).set (Nat.le_refl _) (Nat.lt_succ_self _) _ _).set (Nat.le_refl _) (Nat.lt_succ_self _) _ _).set (Nat.le_refl _) (Nat.lt_succ_self _) _ _).set (Nat.le_refl _) (Nat.lt_succ_self _) _ _).set (Nat.le_refl _) (Nat.lt_succ_self _) _ _).set (Nat.le_refl _) (Nat.lt_succ_self _) _ _
  clear hwF
  refine bodyPost_ret (zBi (v:=vaZ VC) (u:=vmZ) rfl HBk.out) rfl ⟨vmZ,by rw [HE.out],?_,HB1.out.trans ((HMM.out.below (by omega)).mono (by omega))⟩
  rw [HE.out]
  exact zA3.zero _ _ _ _ (by have:=HMM.out.size;omega) (Nat.le_refl _)
 subst h0
 obtain ⟨hcam,hs4,_⟩:=HOK.out rfl
 have HLk:Hid (LkT w1 w1.heap.size W.heap.size p z x y wd ht 0 s ((0:Nat):Int) (agL noK 0) (.slice none 0 0) 0 (.slice none 0 0)):=(HK1.out rfl).t (fun j hj=>absurd hj (Nat.not_lt_zero j))
 have HE:Hid (V=askV z x y wd ht 0 s 0 noK [] 0):=by show _=_;rw [← HV.out,if_pos rfl]
 have HAsk:Hid (Calls Tryz.prog 35 #[.pointer (some ⟨p,0,none⟩)] w1 fun e w'=>e=.returned (.tuple #[])∧AskI w1.heap.size W.heap.size p z x y wd ht 0 s 0 0 (vO z x y wd) noK [] w1 w' (xJ z x y wd ht)):=by
  have hlk:=HLk.out
  rw [agL_LT] at hlk
  have:=ask_any w1.heap.size W.heap.size p z x y wd ht 0 s ((0:Nat):Int) 0 noK _ none 0 0 noE 0 w1 hlk (.inl rfl) (Nat.zero_le _) (Nat.le_refl _) hcam (fun i hi=>absurd hi (Nat.not_lt_zero i)) (by omega) (Nat.zero_le _) (by omega)
  rw [zJ1] at this
  exact this
 have hm4:xJ z x y wd ht≤4:=zA7 _ _ _ _ _
 have HSL:=(show Hid _ from uW 0 (vO z x y wd) noK 0 [] (xJ z x y wd ht))
 have HLX:Hid (∀ TT:Nat→Int,∀ i a,(LT 0 (stK 0 (vO z x y wd) noK (xJ z x y wd ht)) TT)[i]?=some a→∃ t,a=agK (stK 0 (vO z x y wd) noK (xJ z x y wd ht) i) t):=fun TT=>LT_at
 unfold askV at HE
 have hcb:((0:Int) == 0)=true:=rfl
 have hcb2:((0:Int) != 0)=false:=rfl
 clear HK1 HOK HV HLk hcam
 go_wp2_with fail
 refine Calls.mono HAsk.out ?_
 rintro e w2 ⟨rfl,hI⟩
 obtain ⟨t,TT,rb,rcb,sv,hL2,hrow2,hq2,hTT,htt2,hB2,hM2⟩:=hI
 have HB2:Hid (Below W.heap.size w1 w2):=hB2
 have hs2:=hB2.size
 have HR2:Hid (Blk w2 (w.heap.size+1) [.int .i64 0,.bool false,.slice none 0 0,.int .i64 0,.int .i64 0,.int .i64 0,.int .i64 0,.int .i64 0,.int .i64 0,.int .i64 0,.slice none 0 0,.slice none 0 0,.int .i64 0]):=HR1.out.but (hB2.block (w.heap.size+1) (by omega))
 have HTd:Hid (Calls Tryz.prog 36 #[.pointer (some ⟨p,0,none⟩)] w2 fun e w'=>∃ u,e=.returned (vaV V u)∧zA3 w1.heap.size w'.heap.size w' V u∧Bw w2 w'):=by
  have:=zLa w1.heap.size W.heap.size p z x y wd ht 0 s t _ _ rb _ rcb _ 0 sv _ w2 hL2 hrow2 hq2.is hq2.1 (by have:=HSL.out.1;simp at this;omega) (by rw [zBo];omega) (HLX.out TT) (fun i hi=>by rw [zBo] at hi;exact absurd hi (Nat.not_lt_zero i))
  rw [zBo] at this
  rw [HE.out]
  exact this
 clear hL2 hrow2 hq2 hTT htt2 hB2 hM2 HAsk HSL HLX HE HR1
 have hr2:=HR2.out
 obtain ⟨t0,t1,t2,t3,t4,t5,t6,t7,t8,t9,t10,t11,t12⟩:=Blk.g13 (b:=w2.heap.size) (v:=w2) fun W' h=>(hr2.below (by omega) h)
 obtain ⟨f0,f1,f2,f3,f4,f5,f6,f7,f8,f9,f10,f11,f12⟩:=Blk.k13 (b:=w2.heap.size) (v:=w2) fun W' h=>(hr2.below (by omega) h)
 clear hr2
 go_wp2_with fail
 refine Calls.mono HTd.out ?_
 rintro e w6 ⟨u,rfl,hO6,hb6⟩
 have HO6:Hid (zA3 w1.heap.size w6.heap.size w6 V u):=hO6
 have HR6:Hid (Blk w6 (w.heap.size+1) [.int .i64 0,.bool false,.slice none 0 0,.int .i64 0,.int .i64 0,.int .i64 0,.int .i64 0,.int .i64 0,.int .i64 0,.int .i64 0,.slice none 0 0,.slice none 0 0,.int .i64 0]):=HR2.out.below (by omega) hb6
 have HBw6:Hid (Bw w w6):=HB1.out.trans ((HB2.out.mono (by omega)).trans (hb6.mono (by omega)))
 have t0:=t0 w6 hb6
 have t1:=t1 w6 hb6
 have t2:=t2 w6 hb6
 have t3:=t3 w6 hb6
 have t4:=t4 w6 hb6
 have t5:=t5 w6 hb6
 have t6:=t6 w6 hb6
 have t7:=t7 w6 hb6
 have t8:=t8 w6 hb6
 have t9:=t9 w6 hb6
 have t10:=t10 w6 hb6
 have t11:=t11 w6 hb6
 have t12:=t12 w6 hb6
 have f0:=f0 w6 hb6
 have f1:=f1 w6 hb6
 have f2:=f2 w6 hb6
 have f3:=f3 w6 hb6
 have f4:=f4 w6 hb6
 have f5:=f5 w6 hb6
 have f6:=f6 w6 hb6
 have f7:=f7 w6 hb6
 have f8:=f8 w6 hb6
 have f9:=f9 w6 hb6
 have f10:=f10 w6 hb6
 have f11:=f11 w6 hb6
 have f12:=f12 w6 hb6
 have hs6:=hb6.size
 clear hO6 hb6 HTd
 go_wp2_with fail
 generalize hwF:(World.setCell _ _ _:World)=wF
 have HBk:Hid (Blk wF (w.heap.size+1) (vaL V u)):=by show Blk _ _ _;subst hwF;exact ((((((((((((HR6.out.set 0 _).set 1 _).set 2 _).set 3 _).set 4 _).set 5 _).set 6 _).set 7 _).set 8 _).set 9 _).set 10 _).set 11 _).set 12 _
 have HMM:Hid (zI (w.heap.size+1) (w.heap.size+2) w6 wF):=by show zI _ _ _ _;subst hwF;exact (((((((((((((zI.refl _ _ _).set (Nat.le_refl _) (Nat.lt_succ_self _) _ _).set (Nat.le_refl _) (Nat.lt_succ_self _) _ _).set (Nat.le_refl _) (Nat.lt_succ_self _) _ _).set (Nat.le_refl _) (Nat.lt_succ_self _) _ _).set (Nat.le_refl _) (Nat.lt_succ_self _) _ _).set (Nat.le_refl _) (Nat.lt_succ_self _) _ _).set (Nat.le_refl _) (Nat.lt_succ_self _) _ _).set (Nat.le_refl _) (Nat.lt_succ_self _) _ _).set (Nat.le_refl _) (Nat.lt_succ_self _) _ _).set (Nat.le_refl _) (Nat.lt_succ_self _) _ _).set (Nat.le_refl _) (Nat.lt_succ_self _) _ _).set (Nat.le_refl _) (Nat.lt_succ_self _) _ _).set (Nat.le_refl _) (Nat.lt_succ_self _) _ _
 clear hwF
 exact bodyPost_ret (zBi (v:=V) (u:=u) rfl HBk.out) rfl ⟨u,rfl,((HO6.out.mid HMM.out (by omega)).lower (by omega)).upper HMM.out.size (Nat.le_refl _),HBw6.out.trans ((HMM.out.below (by omega)).mono (by omega))⟩
end Go.Proofs.YtpaiholildedcaaGreat
