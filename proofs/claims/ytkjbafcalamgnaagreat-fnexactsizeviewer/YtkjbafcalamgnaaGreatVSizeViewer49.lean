/- Texts. -/
import Derived.Test.YtkjbafcalamgnaaGreatVSizeViewer48
import Derived.Test.YtkjbafcalamgnaaGreatVSizeViewer47
set_option linter.unusedSimpArgs false
set_option linter.unusedVariables false
set_option maxRecDepth 100000
set_option maxHeartbeats 32000000
namespace Go.Proofs.YtkjbafcalamgnaaGreat
open Go.RowKit
theorem kC_mk {A:Nat→Kp}{k:Nat}(h:tC (A k)=0)(h2:¬ (0≤atK k A (A k).z (A k).x (A k).y)):kC A k=0:=by
 unfold kC
 rw [if_pos h,if_neg h2]
def KU (n:Nat)(A:Nat→Kp):Prop:=∀ i j,i<n→j<n→i≠j→isK (A i) (A j).z (A j).x (A j).y=false
theorem zUi {A:Nat→Kp}{n:Nat}:(∀ j,j<n→kC A j=0) ↔ (∀ j,j<n→tC (A j)=0)∧KU n A:=by
 constructor
 ·intro h
  refine ⟨fun j hj=>(vW (h j hj)).1,fun i j hi hj hne=>?_⟩
  cases e:isK (A i) (A j).z (A j).x (A j).y
  ·rfl
  ·exfalso
   obtain ⟨b1,b2,b3⟩:=vX.1 e
   rcases Nat.lt_or_ge i j with hl | hl
   ·exact (vW (h j hj)).2 (uE.2 ⟨i,hl,e⟩)
   ·exact (vW (h i hi)).2 (uE.2 ⟨j,by omega,vX.2 ⟨b1.symm,b2.symm,b3.symm⟩⟩)
 ·rintro ⟨h1,h2⟩ j hj
  refine kC_mk (h1 j hj) fun h=>?_
  obtain ⟨i,hi,e⟩:=uE.1 h
  rw [h2 i j (by omega) hj (by omega)] at e
  cases e
theorem zQ6 (n:Nat)(K:Nat→Kp)(z x y:Int)(hat:0≤atK n K z x y):(zH6 n K z x y).Nodup:=by
 unfold zH6
 rw [List.nodup_append]
 refine ⟨List.Pairwise.filter _ List.nodup_range,by simp,fun a ha b hb e=>?_⟩
 subst e
 unfold uA at ha
 rw [List.mem_filter] at ha
 simp at hb
 rcases zH2 n K z x y with h | ⟨i,hi,h,a1,a2,a3⟩
 ·omega
 ·have e2:a=i:=by omega
  subst e2
  have:=ha.2
  rw [vX.2 ⟨a1,a2,a3⟩] at this
  cases this
theorem zJ7 {n:Nat}{K:Nat→Kp}{z x y:Int}(hU:KU n K)(hat:0≤atK n K z x y):(uA n K z x y).length+1=n:=by
 rcases zH2 n K z x y with h | ⟨q,hq,h,a1,a2,a3⟩
 ·omega
 have hk:∀ k,k≤n→(uA k K z x y).length+(if q<k then 1 else 0)=k:=by
  intro k
  induction k with
  | zero=>intro _;rfl
  | succ k ih =>
   intro hk
   have h:=ih (by omega)
   unfold uA at h ⊢
   rw [List.range_succ,List.filter_append,List.length_append]
   by_cases e:k=q
   ·subst e
    simp [vX.2 ⟨a1,a2,a3⟩]
    simpa using h
   ·have hf:isK (K k) z x y=false:=by
     have:=hU k q (by omega) hq e
     rw [a1,a2,a3] at this
     exact this
    simp [hf]
    split at h <;> split <;> omega
 have:=hk n (Nat.le_refl _)
 rw [if_pos hq] at this
 exact this
theorem touK_KU {n:Nat}{K:Nat→Kp}{z x y:Int}(hU:KU n K)(hat:0≤atK n K z x y):KU n (zPy n K z x y):=fun i j hi hj hne=>by
 have hl:(zH6 n K z x y).length=n:=by unfold zH6;rw [List.length_append];exact zJ7 hU hat
 have hn:=zQ6 n K z x y hat
 refine hU _ _ (zEw hat i hi) (zEw hat j hj) fun e=>hne ?_
 rw [List.getD_eq_getElem?_getD,List.getD_eq_getElem?_getD,List.getElem?_eq_getElem (by omega),List.getElem?_eq_getElem (by omega)] at e
 have hp:=List.pairwise_iff_getElem.1 hn
 rcases Nat.lt_trichotomy i j with h | h | h
 ·exact absurd e (hp i j (by omega) (by omega) h)
 ·exact h
 ·exact absurd e.symm (hp j i (by omega) (by omega) h)
theorem zXy {n:Nat}{R:Rfs}{K:Nat→Kp}(hU:KU n K):∀ k,KU n (stK n R K k)
 | 0=>hU
 | k+1=>by
  have ih:=zXy (R:=R) hU k
  unfold stK
  split
  ·rename_i h
   exact touK_KU ih h
  ·exact ih
theorem stK_kC {n:Nat}{R:Rfs}{K:Nat→Kp}(h:∀ j,j<n→kC K j=0)(k:Nat):∀ j,j<n→kC (stK n R K k) j=0:=by
 obtain ⟨h1,h2⟩:=zUi.1 h
 exact zUi.2 ⟨zPz (fun k=>tC k=0) n R K h1 k,zXy h2 k⟩
theorem zOa.trans {w:World}{k r t:Kp}(h:zOa w k r)(h2:zOa w r t)(hI:r.I=k.I):zOa w k t:=by
 obtain ⟨⟨a1,a2,a3⟩,a4,a5,⟨a6,a7⟩,a8⟩:=h
 obtain ⟨⟨b1,b2,b3⟩,b4,b5,⟨b6,b7⟩,b8⟩:=h2
 refine ⟨⟨b1.trans a1,b2.trans a2,b3.trans a3⟩,b4.trans a4,b5.trans a5,⟨by rw [← a4];exact b6,fun i hi=>yC.same_trans (b7 i (by omega)) (a7 i hi)⟩,by rw [← a5,← hI];exact b8⟩
theorem CaF.ko {W:World}{a:Option Addr}{n:Nat}{K R:Nat→Kp}(h:CaF W a n K R)(hn:0<n):∃ g,a=some ⟨g,0,none⟩∧zCx W g n R∧(∀ i,i<n→zGp W (R i)):=by
 rcases h with h | ⟨g,e,h1,h2⟩
 ·omega
 ·refine ⟨g,e,⟨h1,fun i hi=>?_⟩,fun i hi=>(h2 i hi).2.2.1⟩
  obtain ⟨c1,c2,⟨⟨fb,d1,d2,d3⟩,_,_,_,ib,io,d7,d8,d9⟩,c4⟩:=h2 i hi
  exact ⟨c1,⟨fb,d1,d3,d2⟩,.inr ⟨ib,io,d7,d9,d8⟩⟩
theorem CaF.is {W:World}{a:Option Addr}{n:Nat}{K R:Nat→Kp}(h:CaF W a n K R):zF9 W a n R:=by
 rcases Nat.eq_zero_or_pos n with h0 | h0
 ·exact .inl h0
 ·obtain ⟨g,e,h1,_⟩:=h.ko h0
  subst e
  exact h1.is
theorem zEr {n:Nat}{K R:Nat→Kp}(h:∀ i,i<n→(R i).z=(K i).z∧(R i).x=(K i).x∧(R i).y=(K i).y)(z x y:Int):∀ k,k≤n→atK k R z x y=atK k K z x y:=by
 intro k hk
 unfold atK
 exact zFi k fun i hi=>by
  unfold isK
  rw [(h i (by omega)).1,(h i (by omega)).2.1,(h i (by omega)).2.2]
theorem zO5 {n:Nat}{K R:Nat→Kp}(h:∀ i,i<n→(R i).z=(K i).z∧(R i).x=(K i).x∧(R i).y=(K i).y)(z x y:Int):uA n R z x y=uA n K z x y:=by
 unfold uA
 refine List.filter_congr fun i hi=>?_
 have:=h i (List.mem_range.1 hi)
 unfold isK
 rw [this.1,this.2.1,this.2.2]
theorem zVu (n:Nat)(K:Nat→Kp)(z x y:Int)(i:Nat)(hi:i<(uA n K z x y).length+1):(zH6 n K z x y).getD i 0=if i=(uA n K z x y).length then (atK n K z x y).toNat else (uA n K z x y).getD i 0:=by
 unfold zH6
 by_cases h:i=(uA n K z x y).length
 ·rw [if_pos h,List.getD_eq_getElem?_getD,List.getElem?_append_right (by omega),h]
  simp
 ·rw [if_neg h,List.getD_eq_getElem?_getD,List.getElem?_append_left (by omega),List.getD_eq_getElem?_getD]
theorem CaF.key {W:World}{a:Option Addr}{n:Nat}{K R:Nat→Kp}(h:CaF W a n K R):∀ i,i<n→(R i).z=(K i).z∧(R i).x=(K i).x∧(R i).y=(K i).y:=fun i hi=>by
 rcases h with h | ⟨g,e,h1,h2⟩
 ·omega
 ·exact (h2 i hi).2.1.1
theorem zVk {W:World}{a:Option Addr}{n c B:Nat}{K R R':Nat→Kp}{z x y:Int}{q gr:Nat}{w':World}(hW:CaF W a n K R)(hU:KU n K)(hat:atK n K z x y=(q:Int))(hL:zI0 B w' (some ⟨gr,0,none⟩) c ((uT (q:Int) n).length+1) (fun i=>if i=(uT (q:Int) n).length then R q else R ((uT (q:Int) n).getD i 0)) R')(hJ:uT (q:Int) n=uA n K z x y)(hG:GrF B none w' W):CaF W (some ⟨gr,0,none⟩) n (zPy n K z x y) R':=by
 have hl:(uA n K z x y).length+1=n:=zJ7 hU (by omega)
 have h0:=hL.sm hG
 rw [hJ,hl] at h0
 rcases h0 with h0 | ⟨g,e,h1,h2⟩
 ·exact .inl h0
 ·refine .inr ⟨g,e,h1,fun i hi=>?_⟩
  obtain ⟨c1,c2,c3,c4⟩:=h2 i hi
  have hx:(if i=(uA n K z x y).length then R q else R ((uA n K z x y).getD i 0))=R ((zH6 n K z x y).getD i 0):=by
   rw [zVu n K z x y i (by omega),hat]
   split <;> rfl
  simp only [hx] at c2 c4
  have hti:=zEw (K:=K) (z:=z) (x:=x) (y:=y) (n:=n) (by omega) i hi
  rcases hW with hW | ⟨g2,e2,h3,h4⟩
  ·omega
  ·obtain ⟨d1,d2,d3,d4⟩:=h4 _ hti
   exact ⟨c1,d2.trans c2 d4,c3,c4.trans d4⟩
theorem CaF.m {W:World}{a:Option Addr}{n:Nat}{K R:Nat→Kp}(h:CaF W a n K R):∀ i,i<n→(R i).m=(K i).m:=fun i hi=>by
 rcases h with h | ⟨g,e,h1,h2⟩
 ·omega
 ·exact (h2 i hi).2.1.2.2.1
theorem yP.form {v:Value}{base:Nat}{w:World}{l:List Req}(h:yP base w v l):∃ a c,v=.slice a l.length c:=by
 rcases h.slice' with ⟨e1,e2⟩ | ⟨g,c,e,_⟩
 ·exact ⟨none,0,by rw [e1,e2];rfl⟩
 ·exact ⟨_,_,e⟩
structure GrQ (B q:Nat) (ob:Option Nat) (w W:World):Prop where
 os:W.os=w.os
 tape:W.tape=w.tape
 output:W.output=w.output
 size:w.heap.size≤W.heap.size
 block:∀ j,B≤j→j<w.heap.size→some j≠ob→j≠q→W.heap[j]?=w.heap[j]?
theorem zQj (B q:Nat)(w:World):GrQ B q none w w:=⟨rfl,rfl,rfl,Nat.le_refl _,fun _ _ _ _ _=>rfl⟩
theorem GrQ.none {B q:Nat}{ob:Option Nat}{w W:World}(h:GrQ B q none w W):GrQ B q ob w W:=⟨h.os,h.tape,h.output,h.size,fun j h1 h2 _ h4=>h.block j h1 h2 (by simp) h4⟩
theorem GrQ.of_below {B q:Nat}{ob:Option Nat}{w w' W:World}(h:GrQ B q ob w' W)(hb:Below w.heap.size w w'):GrQ B q ob w W :=
 ⟨h.os.trans hb.os,h.tape.trans hb.tape,h.output.trans hb.output,Nat.le_trans hb.size h.size,fun j h1 h2 h3 h4=>(h.block j h1 (Nat.lt_of_lt_of_le h2 hb.size) h3 h4).trans (hb.block j h2)⟩
theorem GrQ.of_mid {B q:Nat}{ob:Option Nat}{w w' W:World}(h:GrQ B q ob w' W)(hM:zK q (q+1) w w'):GrQ B q ob w W :=
 ⟨h.os.trans hM.os,h.tape.trans hM.tape,h.output.trans hM.output,Nat.le_trans hM.size h.size,fun j h1 h2 h3 h4=>(h.block j h1 (Nat.lt_of_lt_of_le h2 hM.size) h3 h4).trans (hM.block j h2 (by omega))⟩
theorem zW0 {B B' q:Nat}{ob:Option Nat}{w W:World}(h:GrQ B q ob w W)(hb:B≤B')(hq:q<B')(ho:∀ g,ob=some g→g<B'):GrF B' none w W :=
 ⟨h.os,h.tape,h.output,h.size,fun j h1 h2 _=>h.block j (Nat.le_trans hb h1) h2 (fun e=>by have:=ho j e.symm;omega) (by omega)⟩
theorem zW1 {B q:Nat}{w w3 U:World}(h:GrQ B q (some w.heap.size) w3 U)(hb:Below q w w3)(hu:But q none w w3):GrQ B q none w U :=
 ⟨h.os.trans hb.os,h.tape.trans hb.tape,h.output.trans hb.output,Nat.le_trans hb.size h.size,fun j h1 h2 _ h4=>(h.block j h1 (Nat.lt_of_lt_of_le h2 hb.size) (fun e=>by injection e with e;omega) h4).trans (hu j h2 h4 (by simp))⟩
theorem grQ_app {B q:Nat}{ob ob':Option Nat}{V wS w6 wF U:World}(h:GrQ B q ob' wF U)(hM:zK q (q+1) w6 wF)(hg:wS.grownBy w6 ob)(hX:Below V.heap.size V wS)(ho:∀ g,ob'=some g→ob=some g∨wS.heap.size≤g):GrQ B q ob V U:=by
 have h1:=h.of_mid hM
 refine ⟨h1.os.trans (hg.os.trans hX.os),h1.tape.trans (hg.tape.trans hX.tape),h1.output.trans (hg.output.trans hX.output),Nat.le_trans hX.size (Nat.le_trans hg.size h1.size),fun j h2 h3 h4 h5=>?_⟩
 have hs:=hX.size
 have hs2:=hg.size
 refine (h1.block j h2 (by omega) (fun e=>?_) h5).trans ((hg.block j (by omega) h4).trans (hX.block j h3))
 rcases ho j e.symm with h | h
 ·exact h4 h.symm
 ·omega
def crK (v:Value)(i:Nat):Int:=match v with
 | .agg a=>intOf (a[i]?.getD (.int .i64 0))
 | _=>0
def zS3 (v:Value):Prop:=v=crV (crK v 0) (crK v 1) (crK v 2) (crK v 3) (crK v 4) (crK v 5)∧(crK v 0=0→zAi (crK v 1) (crK v 2) (crK v 3) (crK v 4) (crK v 5)=true)
theorem zS3.of {v:Value}{c z x y wd ht:Int}(h:v=crV c z x y wd ht)(hc:c=0→zAi z x y wd ht=true):zS3 v:=by
 subst h
 exact ⟨rfl,hc⟩
theorem zS3.bad:zS3 (crV 3 0 0 0 0 0):=.of rfl (fun h=>by cases h)
theorem zJz {z wd ht a b:Int}(hz:xM z=true)(hw:1≤wd∧wd≤8)(hh:1≤ht∧ht≤8):zAi z (yQ a (xO z - wd)) (yQ b (xO z - ht)) wd ht=true:=by
 have h:=vD hz
 have k:∀ a l:Int,0≤l→0≤yQ a l∧yQ a l≤l:=fun a l h=>by unfold yQ;omega
 have h1:=k a (xO z - wd) (by omega)
 have h2:=k b (xO z - ht) (by omega)
 generalize yQ a (xO z - wd)=u at *
 generalize yQ b (xO z - ht)=v at *
 unfold zAi
 simp [hz,inB]
 omega
theorem zS3.pan (z x y wd ht a b:Int):zS3 (zGe z x y wd ht a b):=by
 unfold zGe
 split
 ·rename_i h
  have hb:=zAf h
  split
  ·exact .of rfl fun _=>zJz (vG h) hb.1.1 hb.1.2
  ·exact .bad
 ·exact .bad
theorem zS3.size (z x y wd ht a b:Int):zS3 (zFv z x y wd ht a b):=by
 unfold zFv
 split
 ·rename_i h
  split
  ·rename_i h2
   simp [inB] at h2
   exact .of rfl fun _=>zJz (vG h) (by omega) (by omega)
  ·exact .bad
 ·exact .bad
noncomputable def zCw (v:Value)(VC now s:Int)(n:Nat)(K:Nat→Kp)(rn:Nat)(E:Nat→Req)(bad:Int):Va :=
 if VC=0 then zKs (crK v 0) (crK v 1) (crK v 2) (crK v 3) (crK v 4) (crK v 5) now s n K rn E bad else vaZ VC
theorem zFd {T:Array Value}{Wf:World}{r:Nat}{v:Va}{u:Vm}(hT:T[6]?.getD undef=.pointer (some ⟨r,0,none⟩))(h:Blk Wf r (vaL v u)) :
  (results Tryz.f10 T).run Tryz.prog Wf=.ok (vaV v u) Wf:=by
 obtain ⟨h0,h1,h2,h3,h4,h5,h6,h7,h8,h9,h10,h11,h12⟩:=Blk.c13 h
 simp [results,Tryz.results10,go_sem,hT,h0,h1,h2,h3,h4,h5,h6,h7,h8,h9,h10,h11,h12]
theorem zQh (z x y wd ht now s:Int)(b n cap:Nat)(A:Nat→Kp)(ra:Option Addr)(rn rc:Nat)(E:Nat→Req)(bad dx dy:Int)(w:World)(ha:zCx w b n A)(hs:zI n A)(hcap:∀ i,i<n→(A i).fn≤(A i).fc)(hnc:n≤cap)(hr:xL w ra rn E)(hrn:rn≤1048576)(hrc:rn≤rc) :
  Calls Tryz.prog 10 #[vwV z x y wd ht now s (.slice (some ⟨b,0,none⟩) n cap) (.slice ra rn rc) bad,.int .i64 dx,.int .i64 dy] w fun e w'=>∃ u,e=.returned (vaV (zCw (zGe z x y wd ht dx dy) (viewC z x y wd ht now s n A rn E bad) now s n A rn E bad) u)∧zAk w.heap.size w'.heap.size w' (zCw (zGe z x y wd ht dx dy) (viewC z x y wd ht now s n A rn E bad) now s n A rn E bad) u∧Bw w w':=by
 obtain ⟨VC,hVC⟩:∃ VC,viewC z x y wd ht now s n A rn E bad=VC:=⟨_,rfl⟩
 have HF:Hid (∀ W,Bw w W→Calls Tryz.prog 34 #[vwV z x y wd ht now s (.slice (some ⟨b,0,none⟩) n cap) (.slice ra rn rc) bad] W fun e w'=>∃ p,e=.returned (.tuple #[.pointer (some ⟨p,0,none⟩),.int .i64 VC])∧Bw W w'∧(VC=0→LkA w' W.heap.size p z x y wd ht now s n A ra rn rc bad)):=fun W h=>zFf z x y wd ht now s b n cap A ra rn rc E bad VC W hVC (ha.below h) hs hcap hnc (hr.below h) hrn hrc
 have HOK:Hid (VC=0→(∀ j,j<n→kC A j=0)∧n≤10∧(n:Int)≤s∧zO rn E=0):=fun h=>by
  obtain ⟨_,h2,h3,h4,_⟩:=zAm (hVC.trans h)
  exact ⟨vL h2,(uC h2).1,(uC h2).2.1,h3⟩
 have HSr:Hid (VC=0→∀ W,Bw w W→∀ i,i<n→zGp W (A i)):=fun h W hW i hi=>(zLu ha hs hi (vW (vL (zAm (hVC.trans h)).2.1 i hi)).1).below hW
 have HR:Hid (xL w ra rn E):=hr
 have HCr:=(show Hid _ from zS3.pan z x y wd ht dx dy)
 have HCm:Hid (∀ W,Calls Tryz.prog 36 #[zCn z x y wd ht,.int .i64 dx,.int .i64 dy] W fun e w'=>e=.returned (zGe z x y wd ht dx dy)∧Bw W w'):=fun W=>zEi z x y wd ht dx dy W
 rw [hVC]
 obtain ⟨V,hV⟩:∃ V,(zCw (zGe z x y wd ht dx dy) VC now s n A rn E bad)=V:=⟨_,rfl⟩
 have HV:Hid ((zCw (zGe z x y wd ht dx dy) VC now s n A rn E bad)=V):=hV
 rw [hV]
 clear hV
 generalize (zGe z x y wd ht dx dy)=cv at *
 obtain ⟨c,z',x',y',wd',ht',hcv⟩:∃ c z' x' y' wd' ht',c=crK cv 0∧z'=crK cv 1∧x'=crK cv 2∧y'=crK cv 3∧wd'=crK cv 4∧ht'=crK cv 5:=⟨_,_,_,_,_,_,rfl,rfl,rfl,rfl,rfl,rfl⟩
 unfold zCw at HV
 obtain ⟨e0,e1,e2,e3,e4,e5⟩:=hcv
 rw [← e0,← e1,← e2,← e3,← e4,← e5] at HV HCr
 clear e0 e1 e2 e3 e4 e5
 obtain ⟨hcr,hcb⟩:=HCr.out
 subst hcr
 have HCB:Hid (c=0→zAi z' x' y' wd' ht'=true):=hcb
 clear ha hs hcap hnc hr hVC hcb HCr
 go_enter Tryz.func10,Tryz.ntmps10
 go_wp2_with fail
 generalize hW:((w.alloc _).alloc _:World)=W
 have HB0:Hid (Bw w W):=by show Below _ _ _;subst hW;exact Qb
 have HRs:Hid (Blk W (w.heap.size+1) [.int .i64 0,.bool false,.slice none 0 0,.int .i64 0,.int .i64 0,.int .i64 0,.int .i64 0,.int .i64 0,.int .i64 0,.int .i64 0,.slice none 0 0,.slice none 0 0,.int .i64 0]):=by
  show Blk _ _ _
  subst hW
  have:=Blk.new (w.alloc (.cells #[.int .i64 z,.int .i64 x,.int .i64 y,.int .i64 wd,.int .i64 ht,.int .i64 now,.int .i64 s,.slice (some ⟨b,0,none⟩) n cap,.slice ra rn rc,.int .i64 bad] 38)) [.int .i64 0,.bool false,.slice none 0 0,.int .i64 0,.int .i64 0,.int .i64 0,.int .i64 0,.int .i64 0,.int .i64 0,.int .i64 0,.slice none 0 0,.slice none 0 0,.int .i64 0] 40
  simpa using this
 have hsz:w.heap.size+1<W.heap.size:=by subst hW;simp
 clear hW
 refine Calls.mono (HF.out W HB0.out) ?_
 rintro e w1 ⟨p,rfl,hb1,hK1⟩
 have HK1:Hid (VC=0→LkA w1 W.heap.size p z x y wd ht now s n A ra rn rc bad):=hK1
 have HB1:Hid (Bw w w1):=zA HB0.out hb1
 have HR1:Hid (Blk w1 (w.heap.size+1) [.int .i64 0,.bool false,.slice none 0 0,.int .i64 0,.int .i64 0,.int .i64 0,.int .i64 0,.int .i64 0,.int .i64 0,.int .i64 0,.slice none 0 0,.slice none 0 0,.int .i64 0]):=HRs.out.below hsz hb1
 have hs1:W.heap.size≤w1.heap.size:=hb1.size
 clear hb1 hK1 HF HRs HB0
 by_cases h0:VC=0
 case neg =>
  have HE:Hid (V=vaZ VC):=by show _=_;rw [← HV.out,if_neg h0]
  have hcb:(VC == 0)=false:=by simpa using h0
  have hcb2:(VC != 0)=true:=by simpa using h0
  have hR':=HR1.out
  obtain ⟨t0,t1,t2,t3,t4,t5,t6,t7,t8,t9,t10,t11,t12⟩:=Blk.c13 (hR')
  obtain ⟨f0,f1,f2,f3,f4,f5,f6,f7,f8,f9,f10,f11,f12⟩:=Blk.f13 (hR')
  clear hR' HK1 HOK HSr h0 HV HCm
  go_wp2_with fail
  generalize hwF:(World.setCell _ _ _:World)=wF
  have HBk:Hid (Blk wF (w.heap.size+1) (vaL (vaZ VC) vmZ)):=by show Blk _ _ _;subst hwF;exact (((((((((((((HR1.out.set 0 _).set 1 _).set 2 _).set 3 _).set 4 _).set 5 _).set 6 _).set 7 _).set 8 _).set 9 _).set 10 _).set 11 _).set 12 _)
  have HMM:Hid (zK (w.heap.size+1) (w.heap.size+2) w1 wF):=by show zK _ _ _ _;subst hwF;exact ((((((((((((((zK.refl _ _ _).set (Nat.le_refl _) (Nat.lt_succ_self _) _ _).set (Nat.le_refl _) (Nat.lt_succ_self _) _ _).set (Nat.le_refl _) (Nat.lt_succ_self _) _ _).set (Nat.le_refl _) (Nat.lt_succ_self _) _ _).set (Nat.le_refl _) (Nat.lt_succ_self _) _ _).set (Nat.le_refl _) (Nat.lt_succ_self _) _ _).set (Nat.le_refl _) (Nat.lt_succ_self _) _ _).set (Nat.le_refl _) (Nat.lt_succ_self _) _ _).set (Nat.le_refl _) (Nat.lt_succ_self _) _ _).set (Nat.le_refl _) (Nat.lt_succ_self _) _ _).set (Nat.le_refl _) (Nat.lt_succ_self _) _ _).set (Nat.le_refl _) (Nat.lt_succ_self _) _ _).set (Nat.le_refl _) (Nat.lt_succ_self _) _ _)
  clear hwF
  refine bodyPost_ret (zFd (v:=vaZ VC) (u:=vmZ) rfl HBk.out) rfl ⟨vmZ,by rw [HE.out],?_,HB1.out.trans ((HMM.out.below (by omega)).mono (by omega))⟩
  rw [HE.out]
  exact zAk.zero _ _ _ _ (by have:=HMM.out.size;omega) (Nat.le_refl _)
 subst h0
 obtain ⟨hall,hn10,hns,hrq⟩:=HOK.out rfl
 have hn8:=zBh hrq
 have HLk:Hid (LkT w1 w1.heap.size W.heap.size p z x y wd ht now s (n:Int) (agL A n) (.slice ra rn rc) bad (.slice none 0 0)):=(HK1.out rfl).t hall
 obtain ⟨sp1,mb1,⟨hWp,hpl1⟩,_,_,_,hbk1,_,_,_⟩:=HLk.out
 obtain ⟨l0,l1,l2,l3,l4,l5,l6,l7,l8,l9⟩:=Blk.c10 hbk1
 have HE:Hid (V=zKs c z' x' y' wd' ht' now s n A rn E bad):=by show _=_;rw [← HV.out,if_pos rfl]
 have HSrr:=(show Hid _ from HSr.out rfl)
 clear hbk1 HK1 HOK HSr HV hall hrq
 have hcb:((0:Int) == 0)=true:=rfl
 have hcb2:((0:Int) != 0)=false:=rfl
 go_wp2_with fail
 refine Calls.mono (HCm.out _) ?_
 rintro e w2 ⟨rfl,hb2⟩
 have HB2:Hid (Bw w w2):=zA HB1.out hb2
 have HLk2:Hid (LkT w2 w1.heap.size W.heap.size p z x y wd ht now s (n:Int) (agL A n) (.slice ra rn rc) bad (.slice none 0 0)):=HLk.out.below hb2
 have hs2:=hb2.size
 have HR2:Hid (Blk w2 (w.heap.size+1) [.int .i64 0,.bool false,.slice none 0 0,.int .i64 0,.int .i64 0,.int .i64 0,.int .i64 0,.int .i64 0,.int .i64 0,.int .i64 0,.slice none 0 0,.slice none 0 0,.int .i64 0]):=HR1.out.below (by omega) hb2
 have HMo:Hid (Calls Tryz.prog 35 #[.pointer (some ⟨p,0,none⟩),crV c z' x' y' wd' ht'] w2 fun e w'=>∃ u,e=.returned (vaV V u)∧zAk w1.heap.size w'.heap.size w' V u∧Below W.heap.size w2 w'):=by
  have hlk:=HLk2.out
  rw [zYa] at hlk
  rw [HE.out]
  exact zMm w1.heap.size W.heap.size p z x y wd ht now s n n A _ ra rn rc E bad c z' x' y' wd' ht' w2 hlk (fun W' h=>HR.out.below (HB2.out.trans (h.mono (by omega)))) hn8 hrc HCB.out (fun i hi=>by omega) (by omega) hn10 hns (fun W' h=>HSrr.out W' (HB2.out.trans (h.mono (by omega))))
 clear HCm hb2 HLk HR1 HB1 HR HSrr HE HCB HLk2 l0 l1 l2 l3 l4 l5 l6 l7 l8 l9
 have hr2:=HR2.out
 obtain ⟨t0,t1,t2,t3,t4,t5,t6,t7,t8,t9,t10,t11,t12⟩:=Blk.g13 (b:=W.heap.size) (v:=w2) fun W' h=>(hr2.but (h.block (w.heap.size+1) (by omega)))
 obtain ⟨f0,f1,f2,f3,f4,f5,f6,f7,f8,f9,f10,f11,f12⟩:=Blk.k13 (b:=W.heap.size) (v:=w2) fun W' h=>(hr2.but (h.block (w.heap.size+1) (by omega)))
 clear hr2
 go_wp2_with fail
 refine Calls.mono HMo.out ?_
 rintro e w6 ⟨u,rfl,hO6,hb6⟩
 have HO6:Hid (zAk w1.heap.size w6.heap.size w6 V u):=hO6
 have HR6:Hid (Blk w6 (w.heap.size+1) [.int .i64 0,.bool false,.slice none 0 0,.int .i64 0,.int .i64 0,.int .i64 0,.int .i64 0,.int .i64 0,.int .i64 0,.int .i64 0,.slice none 0 0,.slice none 0 0,.int .i64 0]):=HR2.out.but (hb6.block (w.heap.size+1) (by omega))
 have HBw6:Hid (Bw w w6):=HB2.out.trans (hb6.mono (by omega))
 have t0:=t0 w6 hb6
 have t1:=t1 w6 hb6
 have t2:=t2 w6 hb6
 have t3:=t3 w6 hb6
 have t4:=t4 w6 hb6
 have t5:=t5 w6 hb6
 have t6:=t6 w6 hb6
 have t7:=t7 w6 hb6
 have t8:=t8 w6 hb6
 have t9:=t9 w6 hb6
 have t10:=t10 w6 hb6
 have t11:=t11 w6 hb6
 have t12:=t12 w6 hb6
 have f0:=f0 w6 hb6
 have f1:=f1 w6 hb6
 have f2:=f2 w6 hb6
 have f3:=f3 w6 hb6
 have f4:=f4 w6 hb6
 have f5:=f5 w6 hb6
 have f6:=f6 w6 hb6
 have f7:=f7 w6 hb6
 have f8:=f8 w6 hb6
 have f9:=f9 w6 hb6
 have f10:=f10 w6 hb6
 have f11:=f11 w6 hb6
 have f12:=f12 w6 hb6
 have hs6:=hb6.size
 clear hO6 hb6 HMo
 go_wp2_with fail
 generalize hwF:(World.setCell _ _ _:World)=wF
 have HBk:Hid (Blk wF (w.heap.size+1) (vaL V u)):=by show Blk _ _ _;subst hwF;exact (((((((((((((HR6.out.set 0 _).set 1 _).set 2 _).set 3 _).set 4 _).set 5 _).set 6 _).set 7 _).set 8 _).set 9 _).set 10 _).set 11 _).set 12 _)
 have HMM:Hid (zK (w.heap.size+1) (w.heap.size+2) w6 wF):=by show zK _ _ _ _;subst hwF;exact ((((((((((((((zK.refl _ _ _).set (Nat.le_refl _) (Nat.lt_succ_self _) _ _).set (Nat.le_refl _) (Nat.lt_succ_self _) _ _).set (Nat.le_refl _) (Nat.lt_succ_self _) _ _).set (Nat.le_refl _) (Nat.lt_succ_self _) _ _).set (Nat.le_refl _) (Nat.lt_succ_self _) _ _).set (Nat.le_refl _) (Nat.lt_succ_self _) _ _).set (Nat.le_refl _) (Nat.lt_succ_self _) _ _).set (Nat.le_refl _) (Nat.lt_succ_self _) _ _).set (Nat.le_refl _) (Nat.lt_succ_self _) _ _).set (Nat.le_refl _) (Nat.lt_succ_self _) _ _).set (Nat.le_refl _) (Nat.lt_succ_self _) _ _).set (Nat.le_refl _) (Nat.lt_succ_self _) _ _).set (Nat.le_refl _) (Nat.lt_succ_self _) _ _)
 clear hwF
 exact bodyPost_ret (zFd (v:=V) (u:=u) rfl HBk.out) rfl ⟨u,rfl,((HO6.out.mid HMM.out (by omega)).lower (by omega)).upper HMM.out.size (Nat.le_refl _),HBw6.out.trans ((HMM.out.below (by omega)).mono (by omega))⟩
theorem zD3 {T:Array Value}{Wf:World}{r:Nat}{v:Va}{u:Vm}(hT:T[6]?.getD undef=.pointer (some ⟨r,0,none⟩))(h:Blk Wf r (vaL v u)) :
  (results Tryz.f19 T).run Tryz.prog Wf=.ok (vaV v u) Wf:=by
 obtain ⟨h0,h1,h2,h3,h4,h5,h6,h7,h8,h9,h10,h11,h12⟩:=Blk.c13 h
 simp [results,Tryz.results19,go_sem,hT,h0,h1,h2,h3,h4,h5,h6,h7,h8,h9,h10,h11,h12]
theorem zDm (z x y wd ht now s:Int)(b n cap:Nat)(A:Nat→Kp)(ra:Option Addr)(rn rc:Nat)(E:Nat→Req)(bad dx dy:Int)(w:World)(ha:zCx w b n A)(hs:zI n A)(hcap:∀ i,i<n→(A i).fn≤(A i).fc)(hnc:n≤cap)(hr:xL w ra rn E)(hrn:rn≤1048576)(hrc:rn≤rc) :
  Calls Tryz.prog 19 #[vwV z x y wd ht now s (.slice (some ⟨b,0,none⟩) n cap) (.slice ra rn rc) bad,.int .i64 dx,.int .i64 dy] w fun e w'=>∃ u,e=.returned (vaV (zCw (zFv z x y wd ht dx dy) (viewC z x y wd ht now s n A rn E bad) now s n A rn E bad) u)∧zAk w.heap.size w'.heap.size w' (zCw (zFv z x y wd ht dx dy) (viewC z x y wd ht now s n A rn E bad) now s n A rn E bad) u∧Bw w w':=by
 obtain ⟨VC,hVC⟩:∃ VC,viewC z x y wd ht now s n A rn E bad=VC:=⟨_,rfl⟩
 have HF:Hid (∀ W,Bw w W→Calls Tryz.prog 34 #[vwV z x y wd ht now s (.slice (some ⟨b,0,none⟩) n cap) (.slice ra rn rc) bad] W fun e w'=>∃ p,e=.returned (.tuple #[.pointer (some ⟨p,0,none⟩),.int .i64 VC])∧Bw W w'∧(VC=0→LkA w' W.heap.size p z x y wd ht now s n A ra rn rc bad)):=fun W h=>zFf z x y wd ht now s b n cap A ra rn rc E bad VC W hVC (ha.below h) hs hcap hnc (hr.below h) hrn hrc
 have HOK:Hid (VC=0→(∀ j,j<n→kC A j=0)∧n≤10∧(n:Int)≤s∧zO rn E=0):=fun h=>by
  obtain ⟨_,h2,h3,h4,_⟩:=zAm (hVC.trans h)
  exact ⟨vL h2,(uC h2).1,(uC h2).2.1,h3⟩
 have HSr:Hid (VC=0→∀ W,Bw w W→∀ i,i<n→zGp W (A i)):=fun h W hW i hi=>(zLu ha hs hi (vW (vL (zAm (hVC.trans h)).2.1 i hi)).1).below hW
 have HR:Hid (xL w ra rn E):=hr
 have HCr:=(show Hid _ from zS3.size z x y wd ht dx dy)
 have HCm:Hid (∀ W,Calls Tryz.prog 49 #[zCn z x y wd ht,.int .i64 dx,.int .i64 dy] W fun e w'=>e=.returned (zFv z x y wd ht dx dy)∧Bw W w'):=fun W=>zDn z x y wd ht dx dy W
 rw [hVC]
 obtain ⟨V,hV⟩:∃ V,(zCw (zFv z x y wd ht dx dy) VC now s n A rn E bad)=V:=⟨_,rfl⟩
 have HV:Hid ((zCw (zFv z x y wd ht dx dy) VC now s n A rn E bad)=V):=hV
 rw [hV]
 clear hV
 generalize (zFv z x y wd ht dx dy)=cv at *
 obtain ⟨c,z',x',y',wd',ht',hcv⟩:∃ c z' x' y' wd' ht',c=crK cv 0∧z'=crK cv 1∧x'=crK cv 2∧y'=crK cv 3∧wd'=crK cv 4∧ht'=crK cv 5:=⟨_,_,_,_,_,_,rfl,rfl,rfl,rfl,rfl,rfl⟩
 unfold zCw at HV
 obtain ⟨e0,e1,e2,e3,e4,e5⟩:=hcv
 rw [← e0,← e1,← e2,← e3,← e4,← e5] at HV HCr
 clear e0 e1 e2 e3 e4 e5
 obtain ⟨hcr,hcb⟩:=HCr.out
 subst hcr
 have HCB:Hid (c=0→zAi z' x' y' wd' ht'=true):=hcb
 clear ha hs hcap hnc hr hVC hcb HCr
 go_enter Tryz.func19,Tryz.ntmps19
 go_wp2_with fail
 generalize hW:((w.alloc _).alloc _:World)=W
 have HB0:Hid (Bw w W):=by show Below _ _ _;subst hW;exact Qb
 have HRs:Hid (Blk W (w.heap.size+1) [.int .i64 0,.bool false,.slice none 0 0,.int .i64 0,.int .i64 0,.int .i64 0,.int .i64 0,.int .i64 0,.int .i64 0,.int .i64 0,.slice none 0 0,.slice none 0 0,.int .i64 0]):=by
  show Blk _ _ _
  subst hW
  have:=Blk.new (w.alloc (.cells #[.int .i64 z,.int .i64 x,.int .i64 y,.int .i64 wd,.int .i64 ht,.int .i64 now,.int .i64 s,.slice (some ⟨b,0,none⟩) n cap,.slice ra rn rc,.int .i64 bad] 38)) [.int .i64 0,.bool false,.slice none 0 0,.int .i64 0,.int .i64 0,.int .i64 0,.int .i64 0,.int .i64 0,.int .i64 0,.int .i64 0,.slice none 0 0,.slice none 0 0,.int .i64 0] 40
  simpa using this
 have hsz:w.heap.size+1<W.heap.size:=by subst hW;simp
 clear hW
 refine Calls.mono (HF.out W HB0.out) ?_
 rintro e w1 ⟨p,rfl,hb1,hK1⟩
 have HK1:Hid (VC=0→LkA w1 W.heap.size p z x y wd ht now s n A ra rn rc bad):=hK1
 have HB1:Hid (Bw w w1):=zA HB0.out hb1
 have HR1:Hid (Blk w1 (w.heap.size+1) [.int .i64 0,.bool false,.slice none 0 0,.int .i64 0,.int .i64 0,.int .i64 0,.int .i64 0,.int .i64 0,.int .i64 0,.int .i64 0,.slice none 0 0,.slice none 0 0,.int .i64 0]):=HRs.out.below hsz hb1
 have hs1:W.heap.size≤w1.heap.size:=hb1.size
 clear hb1 hK1 HF HRs HB0
 by_cases h0:VC=0
 case neg =>
  have HE:Hid (V=vaZ VC):=by show _=_;rw [← HV.out,if_neg h0]
  have hcb:(VC == 0)=false:=by simpa using h0
  have hcb2:(VC != 0)=true:=by simpa using h0
  have hR':=HR1.out
  obtain ⟨t0,t1,t2,t3,t4,t5,t6,t7,t8,t9,t10,t11,t12⟩:=Blk.c13 (hR')
  obtain ⟨f0,f1,f2,f3,f4,f5,f6,f7,f8,f9,f10,f11,f12⟩:=Blk.f13 (hR')
  clear hR' HK1 HOK HSr h0 HV HCm
  go_wp2_with fail
  generalize hwF:(World.setCell _ _ _:World)=wF
  have HBk:Hid (Blk wF (w.heap.size+1) (vaL (vaZ VC) vmZ)):=by show Blk _ _ _;subst hwF;exact (((((((((((((HR1.out.set 0 _).set 1 _).set 2 _).set 3 _).set 4 _).set 5 _).set 6 _).set 7 _).set 8 _).set 9 _).set 10 _).set 11 _).set 12 _)
  have HMM:Hid (zK (w.heap.size+1) (w.heap.size+2) w1 wF):=by show zK _ _ _ _;subst hwF;exact ((((((((((((((zK.refl _ _ _).set (Nat.le_refl _) (Nat.lt_succ_self _) _ _).set (Nat.le_refl _) (Nat.lt_succ_self _) _ _).set (Nat.le_refl _) (Nat.lt_succ_self _) _ _).set (Nat.le_refl _) (Nat.lt_succ_self _) _ _).set (Nat.le_refl _) (Nat.lt_succ_self _) _ _).set (Nat.le_refl _) (Nat.lt_succ_self _) _ _).set (Nat.le_refl _) (Nat.lt_succ_self _) _ _).set (Nat.le_refl _) (Nat.lt_succ_self _) _ _).set (Nat.le_refl _) (Nat.lt_succ_self _) _ _).set (Nat.le_refl _) (Nat.lt_succ_self _) _ _).set (Nat.le_refl _) (Nat.lt_succ_self _) _ _).set (Nat.le_refl _) (Nat.lt_succ_self _) _ _).set (Nat.le_refl _) (Nat.lt_succ_self _) _ _)
  clear hwF
  refine bodyPost_ret (zD3 (v:=vaZ VC) (u:=vmZ) rfl HBk.out) rfl ⟨vmZ,by rw [HE.out],?_,HB1.out.trans ((HMM.out.below (by omega)).mono (by omega))⟩
  rw [HE.out]
  exact zAk.zero _ _ _ _ (by have:=HMM.out.size;omega) (Nat.le_refl _)
 subst h0
 obtain ⟨hall,hn10,hns,hrq⟩:=HOK.out rfl
 have hn8:=zBh hrq
 have HLk:Hid (LkT w1 w1.heap.size W.heap.size p z x y wd ht now s (n:Int) (agL A n) (.slice ra rn rc) bad (.slice none 0 0)):=(HK1.out rfl).t hall
 obtain ⟨sp1,mb1,⟨hWp,hpl1⟩,_,_,_,hbk1,_,_,_⟩:=HLk.out
 obtain ⟨l0,l1,l2,l3,l4,l5,l6,l7,l8,l9⟩:=Blk.c10 hbk1
 have HE:Hid (V=zKs c z' x' y' wd' ht' now s n A rn E bad):=by show _=_;rw [← HV.out,if_pos rfl]
 have HSrr:=(show Hid _ from HSr.out rfl)
 clear hbk1 HK1 HOK HSr HV hall hrq
 have hcb:((0:Int) == 0)=true:=rfl
 have hcb2:((0:Int) != 0)=false:=rfl
 go_wp2_with fail
 refine Calls.mono (HCm.out _) ?_
 rintro e w2 ⟨rfl,hb2⟩
 have HB2:Hid (Bw w w2):=zA HB1.out hb2
 have HLk2:Hid (LkT w2 w1.heap.size W.heap.size p z x y wd ht now s (n:Int) (agL A n) (.slice ra rn rc) bad (.slice none 0 0)):=HLk.out.below hb2
 have hs2:=hb2.size
 have HR2:Hid (Blk w2 (w.heap.size+1) [.int .i64 0,.bool false,.slice none 0 0,.int .i64 0,.int .i64 0,.int .i64 0,.int .i64 0,.int .i64 0,.int .i64 0,.int .i64 0,.slice none 0 0,.slice none 0 0,.int .i64 0]):=HR1.out.below (by omega) hb2
 have HMo:Hid (Calls Tryz.prog 35 #[.pointer (some ⟨p,0,none⟩),crV c z' x' y' wd' ht'] w2 fun e w'=>∃ u,e=.returned (vaV V u)∧zAk w1.heap.size w'.heap.size w' V u∧Below W.heap.size w2 w'):=by
  have hlk:=HLk2.out
  rw [zYa] at hlk
  rw [HE.out]
  exact zMm w1.heap.size W.heap.size p z x y wd ht now s n n A _ ra rn rc E bad c z' x' y' wd' ht' w2 hlk (fun W' h=>HR.out.below (HB2.out.trans (h.mono (by omega)))) hn8 hrc HCB.out (fun i hi=>by omega) (by omega) hn10 hns (fun W' h=>HSrr.out W' (HB2.out.trans (h.mono (by omega))))
 clear HCm hb2 HLk HR1 HB1 HR HSrr HE HCB HLk2 l0 l1 l2 l3 l4 l5 l6 l7 l8 l9
 have hr2:=HR2.out
 obtain ⟨t0,t1,t2,t3,t4,t5,t6,t7,t8,t9,t10,t11,t12⟩:=Blk.g13 (b:=W.heap.size) (v:=w2) fun W' h=>(hr2.but (h.block (w.heap.size+1) (by omega)))
 obtain ⟨f0,f1,f2,f3,f4,f5,f6,f7,f8,f9,f10,f11,f12⟩:=Blk.k13 (b:=W.heap.size) (v:=w2) fun W' h=>(hr2.but (h.block (w.heap.size+1) (by omega)))
 clear hr2
 go_wp2_with fail
 refine Calls.mono HMo.out ?_
 rintro e w6 ⟨u,rfl,hO6,hb6⟩
 have HO6:Hid (zAk w1.heap.size w6.heap.size w6 V u):=hO6
 have HR6:Hid (Blk w6 (w.heap.size+1) [.int .i64 0,.bool false,.slice none 0 0,.int .i64 0,.int .i64 0,.int .i64 0,.int .i64 0,.int .i64 0,.int .i64 0,.int .i64 0,.slice none 0 0,.slice none 0 0,.int .i64 0]):=HR2.out.but (hb6.block (w.heap.size+1) (by omega))
 have HBw6:Hid (Bw w w6):=HB2.out.trans (hb6.mono (by omega))
 have t0:=t0 w6 hb6
 have t1:=t1 w6 hb6
 have t2:=t2 w6 hb6
 have t3:=t3 w6 hb6
 have t4:=t4 w6 hb6
 have t5:=t5 w6 hb6
 have t6:=t6 w6 hb6
 have t7:=t7 w6 hb6
 have t8:=t8 w6 hb6
 have t9:=t9 w6 hb6
 have t10:=t10 w6 hb6
 have t11:=t11 w6 hb6
 have t12:=t12 w6 hb6
 have f0:=f0 w6 hb6
 have f1:=f1 w6 hb6
 have f2:=f2 w6 hb6
 have f3:=f3 w6 hb6
 have f4:=f4 w6 hb6
 have f5:=f5 w6 hb6
 have f6:=f6 w6 hb6
 have f7:=f7 w6 hb6
 have f8:=f8 w6 hb6
 have f9:=f9 w6 hb6
 have f10:=f10 w6 hb6
 have f11:=f11 w6 hb6
 have f12:=f12 w6 hb6
 have hs6:=hb6.size
 clear hO6 hb6 HMo
 go_wp2_with fail
 generalize hwF:(World.setCell _ _ _:World)=wF
 have HBk:Hid (Blk wF (w.heap.size+1) (vaL V u)):=by show Blk _ _ _;subst hwF;exact (((((((((((((HR6.out.set 0 _).set 1 _).set 2 _).set 3 _).set 4 _).set 5 _).set 6 _).set 7 _).set 8 _).set 9 _).set 10 _).set 11 _).set 12 _)
 have HMM:Hid (zK (w.heap.size+1) (w.heap.size+2) w6 wF):=by show zK _ _ _ _;subst hwF;exact ((((((((((((((zK.refl _ _ _).set (Nat.le_refl _) (Nat.lt_succ_self _) _ _).set (Nat.le_refl _) (Nat.lt_succ_self _) _ _).set (Nat.le_refl _) (Nat.lt_succ_self _) _ _).set (Nat.le_refl _) (Nat.lt_succ_self _) _ _).set (Nat.le_refl _) (Nat.lt_succ_self _) _ _).set (Nat.le_refl _) (Nat.lt_succ_self _) _ _).set (Nat.le_refl _) (Nat.lt_succ_self _) _ _).set (Nat.le_refl _) (Nat.lt_succ_self _) _ _).set (Nat.le_refl _) (Nat.lt_succ_self _) _ _).set (Nat.le_refl _) (Nat.lt_succ_self _) _ _).set (Nat.le_refl _) (Nat.lt_succ_self _) _ _).set (Nat.le_refl _) (Nat.lt_succ_self _) _ _).set (Nat.le_refl _) (Nat.lt_succ_self _) _ _)
 clear hwF
 exact bodyPost_ret (zD3 (v:=V) (u:=u) rfl HBk.out) rfl ⟨u,rfl,((HO6.out.mid HMM.out (by omega)).lower (by omega)).upper HMM.out.size (Nat.le_refl _),HBw6.out.trans ((HMM.out.below (by omega)).mono (by omega))⟩
end Go.Proofs.YtkjbafcalamgnaaGreat
