/- Texts. -/
import Derived.Test.YtpaiholildedcaaGreatVNewViewer29
import Derived.Test.YtpaiholildedcaaGreatVNewViewer23
set_option linter.unusedSimpArgs false
set_option linter.unusedVariables false
set_option maxRecDepth 100000
set_option maxHeartbeats 32000000
namespace Go.Proofs.YtpaiholildedcaaGreat
open Go.RowKit
def LT (n:Nat)(K:Nat→Kp)(T:Nat→Int):List Ag:=(List.range n).map (fun i=>agK (K i) (T i))
theorem zBo (n:Nat)(K:Nat→Kp)(T:Nat→Int):(LT n K T).length=n:=by simp [LT]
theorem zGm {n:Nat}{K:Nat→Kp}{T:Nat→Int}{a:Ag}:a ∈ LT n K T ↔ ∃ i,i<n∧a=agK (K i) (T i):=by
 unfold LT
 rw [List.mem_map]
 exact ⟨fun ⟨i,hi,e⟩=>⟨i,List.mem_range.1 hi,e.symm⟩,fun ⟨i,hi,e⟩=>⟨i,List.mem_range.2 hi,e.symm⟩⟩
theorem LT_at {n:Nat}{K:Nat→Kp}{T:Nat→Int}:∀ i a,(LT n K T)[i]?=some a→∃ t,a=agK (K i) t:=fun i a h=>by
 unfold LT at h
 rw [List.getElem?_map] at h
 by_cases hi:i<n
 ·simp [hi] at h
  exact ⟨_,h.symm⟩
 ·simp [hi] at h
theorem agL_LT (A:Nat→Kp)(n:Nat):agL A n=LT n A (fun i=>(i:Int)+1):=zKv A n
theorem LT_any (n:Nat)(K:Nat→Kp)(T:Nat→Int)(z x y:Int):(LT n K T).any (fun a=>isA a z x y)=decide (0≤atK n K z x y):=by
 rw [Bool.eq_iff_iff,List.any_eq_true,decide_eq_true_eq]
 rcases zC3 n K z x y with h | ⟨i,hi,h,a1,a2,a3⟩
 ·constructor
  ·rintro ⟨a,ha,hb⟩
   obtain ⟨j,hj,rfl⟩:=zGm.1 ha
   exact xF.2 ⟨j,hj,hb⟩
  ·intro h0;rw [h] at h0;omega
 ·exact ⟨fun _=>by rw [h];omega,fun _=>⟨_,zGm.2 ⟨i,hi,rfl⟩,zAa.2 ⟨a1,a2,a3⟩⟩⟩
def zJc (n:Nat)(K:Nat→Kp)(z x y:Int):Nat→Kp:=fun j=>K ((zFd n K z x y).getD j 0)
def zJb (n:Nat)(K:Nat→Kp)(T:Nat→Int)(z x y t:Int):Nat→Int:=fun j=>if j+1=n then t else T ((zFd n K z x y).getD j 0)
theorem zKz (n:Nat)(K:Nat→Kp)(T:Nat→Int)(z x y:Int):xB (LT n K T) z x y=(xP n K z x y).map (fun i=>agK (K i) (T i)):=by
 unfold LT xB xP
 rw [List.filter_map]
 rfl
theorem zL2 {n:Nat}{K:Nat→Kp}{T:Nat→Int}{D:DataW Value}{z x y s t:Int}{q:Nat}(hR:Rep D (LT n K T))(hq:q<n)(hk:isK (K q) z x y=true)(hat:atK n K z x y=(q:Int))(hs:(n:Int)≤s):zLh s (LT n K T) { agK (K q) (T q) with t:=t }=LT n (zJc n K z x y) (zJb n K T z x y t):=by
 obtain ⟨e1,e2,e3⟩:=xA.1 hk
 have hl:(xB (LT n K T) z x y).length+1=(LT n K T).length:=zAw hR.keys ⟨agK (K q) (T q),zGm.2 ⟨q,hq,rfl⟩,zAa.2 ⟨e1,e2,e3⟩⟩
 have hl2:(xP n K z x y).length+1=n:=by rw [zKz,zBo,List.length_map] at hl;exact hl
 have ea:xB (LT n K T) ({ agK (K q) (T q) with t:=t }:Ag).z ({ agK (K q) (T q) with t:=t }:Ag).x ({ agK (K q) (T q) with t:=t }:Ag).y=xB (LT n K T) z x y:=by
  show xB _ (K q).z (K q).x (K q).y=_
  rw [e1,e2,e3]
 unfold zLh
 rw [ea,if_pos (by rw [List.length_append];rw [zBo] at hl;simp;omega),zKz]
 have ez:({ agK (K q) (T q) with t:=t }:Ag)=agK (K q) t:=rfl
 rw [ez]
 have htl:(zFd n K z x y).length=n:=by unfold zFd;rw [List.length_append];simp;exact hl2
 refine List.ext_getElem (by rw [zBo];simp;exact hl2) fun i h1 h2=>?_
 have hin:i<n:=by rw [zBo] at h2;exact h2
 have hR2:(LT n (zJc n K z x y) (zJb n K T z x y t))[i]=agK (zJc n K z x y i) (zJb n K T z x y t i):=by simp [LT]
 rw [hR2]
 by_cases hil:i<(xP n K z x y).length
 ·rw [List.getElem_append_left (by rw [List.length_map];exact hil),List.getElem_map]
  have e:(zFd n K z x y).getD i 0=(xP n K z x y)[i]:=by
   unfold zFd
   rw [List.getD_eq_getElem?_getD,List.getElem?_append_left hil,List.getElem?_eq_getElem hil]
   rfl
  unfold zJc zJb
  rw [e,if_neg (by omega)]
 ·have hie:i=(xP n K z x y).length:=by omega
  rw [List.getElem_append_right (by rw [List.length_map];omega)]
  have e:(zFd n K z x y).getD i 0=q:=by
   unfold zFd
   rw [List.getD_eq_getElem?_getD,List.getElem?_append_right (by omega),hie,hat]
   simp
  unfold zJc zJb
  rw [e,if_pos (by omega)]
  simp [hie]
theorem touT_le {n:Nat}{K:Nat→Kp}{T:Nat→Int}{z x y t:Int}(h:∀ i,i<n→T i≤t)(hl:∀ i,i<n→(zFd n K z x y).getD i 0<n):∀ i,i<n→zJb n K T z x y (t+1) i≤t+1:=fun i hi=>by
 unfold zJb
 split
 ·omega
 ·have:=h _ (hl i hi);omega
def stK (n:Nat)(R:Rfs)(K:Nat→Kp):Nat→Nat→Kp
 | 0=>K
 | k+1=>if 0≤atK n (stK n R K k) (R.z k) (R.x k) (R.y k) then zJc n (stK n R K k) (R.z k) (R.x k) (R.y k) else stK n R K k
def stQ (n:Nat)(R:Rfs)(K:Nat→Kp)(now:Int)(Q:List Req):Nat→List Req
 | 0=>Q
 | k+1=>if 0≤atK n (stK n R K k) (R.z k) (R.x k) (R.y k) then stQ n R K now Q k else vB (stQ n R K now Q k).length (nw (stQ n R K now Q k)) (R.z k) (R.x k) (R.y k) now
def stS (n:Nat)(R:Rfs)(K:Nat→Kp)(now:Int)(Q:List Req):Nat→List Req
 | 0=>[]
 | k+1=>if 0≤atK n (stK n R K k) (R.z k) (R.x k) (R.y k) then stS n R K now Q k else stS n R K now Q k ++ vJ (stQ n R K now Q k).length (nw (stQ n R K now Q k)) (R.z k) (R.x k) (R.y k) now
theorem zFc (n:Nat)(E:Nat→Req)(z x y now:Int):(vB n E z x y now).length≤n+1∧(vJ n E z x y now).length≤1:=by
 unfold vB vJ
 repeat' split
 all_goals simp [yB]
theorem uW (n:Nat)(R:Rfs)(K:Nat→Kp)(now:Int)(Q:List Req):∀ k,(stQ n R K now Q k).length≤Q.length+k∧(stS n R K now Q k).length≤k
 | 0=>⟨Nat.le_refl _,Nat.le_refl _⟩
 | k+1=>by
  have h:=uW n R K now Q k
  have h2:=zFc (stQ n R K now Q k).length (nw (stQ n R K now Q k)) (R.z k) (R.x k) (R.y k) now
  unfold stQ stS
  split
  ·omega
  ·rw [List.length_append];omega
theorem yK {base s n:Nat}{t:TypeId}{w w':World}{v:Value}{xs:List Value}(h:w.ownsRow base t s v n xs)(he:∀ g,v.ownBlock=some g→w'.heap[g]?=w.heap[g]?):w'.ownsRow base t s v n xs:=by
 obtain ⟨h1,h2 | ⟨g,cp,cur,hv,hg,hh,hr⟩⟩:=h
 ·exact ⟨h1,.inl h2⟩
 ·exact ⟨h1,.inr ⟨g,cp,cur,hv,hg,(he g (by rw [hv];rfl)).trans hh,hr⟩⟩
def QI (T:Nat)(w:World)(ra:Option Addr)(rc:Nat)(sv:Value)(Q:List Req):Prop:=((∃ ad,ra=some ad)∨ra=none∧rc=0)∧Q.length≤rc∧(Q.length=0∨∃ b,ra=some ⟨b,0,none⟩∧T≤b∧b<w.heap.size∧vG w b 0 Q.length (nw Q)∧sv.ownBlock≠some b)
theorem QI.is {T:Nat}{w:World}{ra:Option Addr}{rc:Nat}{sv:Value}{Q:List Req}(h:QI T w ra rc sv Q):xV w ra Q.length (nw Q):=h.2.2.imp id fun ⟨b,e,_,h1,h2,_⟩=>⟨b,0,e,h1,h2⟩
theorem QI.but {T:Nat}{w w':World}{ra:Option Addr}{rc:Nat}{sv:Value}{Q:List Req}(h:QI T w ra rc sv Q)(hs:w.heap.size≤w'.heap.size)(he:∀ b,T≤b→b<w.heap.size→sv.ownBlock≠some b→w'.heap[b]?=w.heap[b]?):QI T w' ra rc sv Q :=
 ⟨h.1,h.2.1,h.2.2.imp id fun ⟨b,e,h0,h1,h2,h3⟩=>⟨b,e,h0,by omega,h2.but (he b h0 h1 h3),h3⟩⟩
theorem QI.of {T base:Nat}{w:World}{ra:Option Addr}{rc:Nat}{sv:Value}{Q S:List Req}(h:zX T w (.slice ra Q.length rc) Q)(hs:yA base w sv S):QI T w ra rc sv Q:=by
 obtain ⟨h1,h2 | ⟨g,cp,cur,hv,hg,hh,hk,hr⟩⟩:=id h
 ·injection h2.1 with e1 e2 e3
  subst e1 e3
  exact ⟨.inr ⟨rfl,rfl⟩,by rw [e2];exact Nat.zero_le _,.inl e2⟩
 ·injection hv with e1 e2 e3
  subst e1 e3
  refine ⟨.inl ⟨_,rfl⟩,hk,?_⟩
  obtain ⟨a',c',hv',_,h0 | ⟨b,e,hb,hl,hp,_⟩⟩:=h.own
  ·exact .inl h0
  ·injection hv' with hv' _ _
   rw [e] at hv'
   injection hv' with hv'
   injection hv' with hv'
   subst hv'
   refine .inr ⟨g,rfl,hg,hl,hp,fun e4=>?_⟩
   rcases hs.slice' with ⟨e5,_⟩ | ⟨g',c5,e5,_⟩
   ·rw [e5] at e4;cases e4
   ·rw [e5] at e4
    simp [Value.ownBlock] at e4
    exact zDy h hs (by decide) _ _ _ _ _ _ rfl e5 (by simp [e4])
theorem zCc {n:Nat}{K:Nat→Kp}{z x y:Int}(h:0≤atK n K z x y):∀ i,i<n→(zFd n K z x y).getD i 0<n:=fun i hi=>by
 obtain ⟨q,hq,e,_⟩:∃ q:Nat,q<n∧atK n K z x y=(q:Int)∧True:=by
  rcases zC3 n K z x y with h0 | ⟨q,hq,e,_⟩
  ·omega
  ·exact ⟨q,hq,e,trivial⟩
 unfold zFd
 by_cases hl:i<(xP n K z x y).length
 ·rw [List.getD_eq_getElem?_getD,List.getElem?_append_left hl,List.getElem?_eq_getElem hl]
  have:=List.getElem_mem hl
  unfold xP at this
  rw [List.mem_filter,List.mem_range] at this
  exact this.1
 ·rw [List.getD_eq_getElem?_getD,List.getElem?_append_right (by omega),e]
  rcases Nat.eq_zero_or_pos (i - (xP n K z x y).length) with h0 | h0
  ·rw [h0];simpa using hq
  ·rw [List.getElem?_eq_none (by simp;omega)];simp;omega
theorem zL8 {n:Nat}{R:Rfs}{K:Nat→Kp}{now:Int}{Q:List Req}{k:Nat}(h:0≤atK n (stK n R K k) (R.z k) (R.x k) (R.y k)):stK n R K (k+1)=zJc n (stK n R K k) (R.z k) (R.x k) (R.y k)∧stQ n R K now Q (k+1)=stQ n R K now Q k∧stS n R K now Q (k+1)=stS n R K now Q k:=⟨if_pos h,if_pos h,if_pos h⟩
theorem st_no {n:Nat}{R:Rfs}{K:Nat→Kp}{now:Int}{Q:List Req}{k:Nat}(h:¬ 0≤atK n (stK n R K k) (R.z k) (R.x k) (R.y k)):stK n R K (k+1)=stK n R K k∧stQ n R K now Q (k+1)=vB (stQ n R K now Q k).length (nw (stQ n R K now Q k)) (R.z k) (R.x k) (R.y k) now∧stS n R K now Q (k+1)=stS n R K now Q k ++ vJ (stQ n R K now Q k).length (nw (stQ n R K now Q k)) (R.z k) (R.x k) (R.y k) now:=⟨if_neg h,if_neg h,if_neg h⟩
theorem zI9 {p mb:Nat}{s t:Int}{n:Nat}{K:Nat→Kp}{T:Nat→Int}{z x y:Int}{w:World}(h:ShM w p s t mb (LT n K T))(hat:0≤atK n K z x y)(hT:∀ i,i<n→T i≤t)(hn:n≤10)(hns:(n:Int)≤s)(ht:0≤t∧t≤200) :
  Calls Tryz.prog 82 #[.pointer (some ⟨p,0,none⟩),xK z x y] w fun e w'=>e=.returned (.tuple #[])∧ShM w' p s (t+1) mb (LT n (zJc n K z x y) (zJb n K T z x y (t+1)))∧(∀ B,B≤p→B≤mb→Below B w w')∧∀ q,q<w.heap.size→q≠p→q≠mb→w'.heap[q]?=w.heap[q]?:=by
 rcases zC3 n K z x y with h0 | ⟨q,hq,e,e1,e2,e3⟩
 ·omega
 have hm:agK (K q) (T q) ∈ LT n K T:=zGm.2 ⟨q,hq,rfl⟩
 have:=zKy p mb s t _ (agK (K q) (T q)) w h hm (fun b hb=>by obtain ⟨i,hi,rfl⟩:=zGm.1 hb;exact hT i hi) (by rw [zBo];omega) ht.1 (by omega) (by omega)
 obtain ⟨_,_,D,_,hR⟩:=h
 rw [zL2 hR hq (xA.2 ⟨e1,e2,e3⟩) e hns] at this
 have ez:xK (agK (K q) (T q)).z (agK (K q) (T q)).x (agK (K q) (T q)).y=xK z x y:=by
  show xK (K q).z (K q).x (K q).y=_
  rw [e1,e2,e3]
 rw [ez] at this
 exact this
def AskI (Tb B p:Nat)(z x y wd ht now s bad:Int)(n:Nat)(R:Rfs)(A:Nat→Kp)(Q0:List Req)(w0 w:World)(k:Nat):Prop:=∃ (t:Int) (TT:Nat→Int) (ra:Option Addr) (rc:Nat) (sv:Value),LkT w Tb B p z x y wd ht now s t (LT n (stK n R A k) TT) (.slice ra (stQ n R A now Q0 k).length rc) bad sv∧yA w0.heap.size w sv (stS n R A now Q0 k)∧QI Tb w ra rc sv (stQ n R A now Q0 k)∧(∀ i,i<n→TT i≤t)∧(0≤t∧t≤100+((k:Nat):Int))∧Below B w0 w∧(∀ q,Tb≤q→q<w0.heap.size→w.heap[q]?=w0.heap[q]?)
theorem ask_any (Tb B p:Nat)(z x y wd ht now s t0:Int)(n:Nat)(A:Nat→Kp)(T0:Nat→Int)(ra:Option Addr)(rn rc:Nat)(E:Nat→Req)(bad:Int)(w:World)(hV:LkT w Tb B p z x y wd ht now s t0 (LT n A T0) (.slice ra rn rc) bad (.slice none 0 0))(hr:xV w ra rn E)(hrn:rn≤8)(hrc:rn≤rc)(hc:zB0 z x y wd ht=true)(hT:∀ i,i<n→T0 i≤t0)(htt:0≤t0∧t0≤100)(hn:n≤10)(hns:(n:Int)≤s) :
  Calls Tryz.prog 35 #[.pointer (some ⟨p,0,none⟩)] w fun e w'=>e=.returned (.tuple #[])∧AskI Tb B p z x y wd ht now s bad n (vO z x y wd) A (zCk rn E z x y wd ht) w w' (xJ z x y wd ht):=by
 obtain ⟨Q0,hQ0⟩:∃ Q,zCk rn E z x y wd ht=Q:=⟨_,rfl⟩
 have hq8:Q0.length≤8:=by
  rw [← hQ0];unfold zCk
  split
  ·exact Nat.le_trans (zAz _ _ _) hrn
  ·exact Nat.zero_le _
 have HOs:Hid (∀ W',Bw w W'→Calls Tryz.prog 79 #[.slice ra rn rc,zBg z x y wd ht] W' fun e w'=>∃ v2,e=.returned (rqV (zDg rn E z x y wd ht) (.slice none 0 0) v2)∧ArmV v2∧zCb w' W'.heap.size v2 Q0.length (nw Q0)∧Below W'.heap.size W' w'):=fun W' h=>by
  have:=zBd ra rn rc E z x y wd ht W' (hr.below h) (by omega) hrc
  rw [hQ0] at this;exact this
 rw [hQ0]
 have HVi:Hid (∀ W,Calls Tryz.prog 80 #[zBg z x y wd ht] W fun e w'=>∃ v,e=.returned (.agg #[.int .i64 0,v])∧zGk w' W.heap.size v (xJ z x y wd ht) (vO z x y wd)∧Bw W w'):=fun W=>by
  have:=xM z x y wd ht W
  have e1:xN z x y wd ht=0:=by unfold xN;rw [if_pos hc]
  rw [e1] at this;exact this
 have HRB:Hid (∀ i,i<xJ z x y wd ht→I64 ((vO z x y wd).z i)∧I64 ((vO z x y wd).x i)∧I64 ((vO z x y wd).y i)):=fun i hi=>zEp (zHp hc hi)
 have hm4:xJ z x y wd ht≤4:=zA7 _ _ _ _ _
 have HLk:Hid (LkT w Tb B p z x y wd ht now s t0 (LT n A T0) (.slice ra rn rc) bad (.slice none 0 0)):=hV
 have HT0:Hid (∀ i,i<n→T0 i≤t0):=hT
 have HAI:Hid (∀ R Q w' k,AskI Tb B p z x y wd ht now s bad n R A Q w w' k ↔ ∃ (t:Int) (TT:Nat→Int) (ra:Option Addr) (rc:Nat) (sv:Value),LkT w' Tb B p z x y wd ht now s t (LT n (stK n R A k) TT) (.slice ra (stQ n R A now Q k).length rc) bad sv∧yA w.heap.size w' sv (stS n R A now Q k)∧QI Tb w' ra rc sv (stQ n R A now Q k)∧(∀ i,i<n→TT i≤t)∧(0≤t∧t≤100+((k:Nat):Int))∧Below B w w'∧(∀ q,Tb≤q→q<w.heap.size→w'.heap[q]?=w.heap[q]?)):=fun R Q w' k=>Iff.rfl
 obtain ⟨sp,mb,⟨hBp,hpT⟩,_,_,hTw,hbk,_,_,_⟩:=hV
 have hbk0:Hid (Blk w p (lkL z x y wd ht now (.pointer (some ⟨sp,0,none⟩)) (.slice ra rn rc) bad (.slice none 0 0))):=hbk
 have hpl:p<w.heap.size:=by omega
 obtain ⟨l0,l1,l2,l3,l4,l5,l6,l7,l8,l9⟩:=Blk.g10 (b:=w.heap.size) (v:=w) fun W' h=>(hbk.below hpl h)
 clear hr hQ0 hbk hc hT
 generalize xJ z x y wd ht=m at *
 generalize vO z x y wd=R at *
 generalize zDg rn E z x y wd ht=oc at *
 go_enter Tryz.func35,Tryz.ntmps35
 go_wp2_with fail
 refine wp_region_noPanic ?_
 refine yP (S:=fun W'=>Bw w W') (z:=10) (by kernel_rfl) ?_
 have hX0r:Bw w w.drew:=Below.drew (Below.refl _ _)
 refine yD (i:=0) [10] rfl hX0r ?_
 try simp only [Act.put,Qx,Qy,Qz]
 refine yD (i:=1) [2,3,4,9,10] rfl hX0r ?_
 try simp only [Act.put,Qx,Qy,Qz]
 refine yD (i:=2) [3,4,9,10] rfl hX0r ?_
 try simp only [Act.put,Qx,Qy,Qz]
 refine yD (i:=3) [4,9,10] rfl hX0r ?_
 try simp only [Act.put,Qx,Qy,Qz]
 refine yD (i:=4) [9,10] rfl hX0r ?_
 try simp only [Act.put,Qx,Qy,Qz]
 refine yD (i:=5) [6,7,8,9,10] rfl hX0r ?_
 try simp only [Act.put,Qx,Qy,Qz]
 refine yD (i:=6) [7,8,9,10] rfl hX0r ?_
 try simp only [Act.put,Qx,Qy,Qz]
 refine yD (i:=7) [8,9,10] rfl hX0r ?_
 try simp only [Act.put,Qx,Qy,Qz]
 refine yD (i:=8) [9,10] rfl hX0r ?_
 try simp only [Act.put,Qx,Qy,Qz]
 generalize w.drew=wk0r at *
 refine zF (i:=9) (by kernel_rfl) rfl (fun K hK=>?_)
 go_simp
 refine Calls.mono (HOs.out _ hX0r) ?_
 rintro e wk1r ⟨v2,rfl,harm,hO2,hb1r⟩
 have hX1r:Bw w wk1r:=zB hX0r hb1r
 go_wp2_with fail
 refine hK.out _ _ (fun _=>hX1r) ?_
 clear hK K
 try simp only [Act.put,Qx,Qy,Qz]
 obtain ⟨a2,c2,hv2,hc2,hI2⟩:=id hO2
 have hw1:=hX1r.size
 have hw0:=hX0r.size
 subst hv2
 have hsend:=zHr wk1r.heap.size (p+1) p z x y wd ht now (.pointer (some ⟨sp,0,none⟩)) (.slice ra rn rc) bad (.slice none 0 0) [] [] oc (.slice none 0 0) a2 Q0.length c2 wk1r (hbk0.out.below hpl hX1r) (yA.no _ _) (yA.no _ _) (by omega) (by omega) (Nat.le_refl _) ⟨by simp,by simp⟩
 have HSd:=(show Hid _ from hsend)
 have HQ1:Hid (QI Tb wk1r a2 c2 (.slice none 0 0) Q0):=by
  refine ⟨?_,hc2,hI2.imp id fun ⟨b,e,h1,h2,h3,_⟩=>⟨b,e,by omega,h2,h3,by simp [Value.ownBlock]⟩⟩
  rcases harm with e | ⟨ad,n',c',e⟩
  ·injection e with e1 e2 e3
   exact .inr ⟨e1,e3⟩
  ·injection e with e1 e2 e3
   exact .inl ⟨ad,e1⟩
 have HLk1:Hid (LkT wk1r Tb B p z x y wd ht now s t0 (LT n A T0) (.slice ra rn rc) bad (.slice none 0 0)):=HLk.out.below (hX1r.mono hTw)
 have hpv:wk1r.cell? ⟨p,6,none⟩=some (.pointer (some ⟨sp,0,none⟩)):=l6 wk1r hX1r
 have HX1:Hid (Bw w wk1r):=hX1r
 clear harm hO2 hI2 hsend l0 l1 l2 l3 l4 l5 l6 l7 l8 l9
 refine zF (i:=10) (by kernel_rfl) rfl (fun K hK=>?_)
 go_simp
 refine Calls.mono HSd.out ?_
 rintro e w2 ⟨rfl,sv',hbk2,hrow2,hb2,hbu2,hsv⟩
 obtain rfl:=hsv rfl
 have HLk2:Hid (LkT w2 Tb B p z x y wd ht now s t0 (LT n A T0) (.slice a2 Q0.length c2) bad (.slice none 0 0)):=HLk1.out.sent (fun g h=>by cases h) hbu2 hb2.size hpv hbk2
 have HQ2:Hid (QI Tb w2 a2 c2 (.slice none 0 0) Q0):=HQ1.out.but hb2.size (fun b h1 h2 _=>hbu2 b h2 (by omega) (by simp [Value.ownBlock]))
 have HM2:Hid (∀ q,Tb≤q→q<w.heap.size→w2.heap[q]?=w.heap[q]?):=fun q h1 h2=>(hbu2 q (by omega) (by omega) (by simp [Value.ownBlock])).trans (HX1.out.block q h2)
 have HB2:Hid (Below B w w2):=(HX1.out.mono (by omega)).trans (hb2.mono hBp)
 have hs2:=hb2.size
 clear hbk2 hrow2 hb2 hbu2 HSd hpv
 go_wp2_with fail
 refine hK.out _ _ (fun h=>absurd rfl h) ?_
 clear hK K
 try simp only [Act.put,Qx,Qy,Qz]
 refine zY (by kernel_rfl) ?_ _
 refine NoPanic.normal ?_
 obtain ⟨sp2,mb2,_,_,_,hTw2,hbk2,_,_,_⟩:=HLk2.out
 have hpl2:p<w2.heap.size:=by omega
 obtain ⟨l0,l1,l2,l3,l4,l5,l6,l7,l8,l9⟩:=Blk.c10 hbk2
 clear hbk2
 go_wp2_with fail
 refine Calls.mono (HVi.out _) ?_
 rintro e w3 ⟨v,rfl,hO3,hb3⟩
 obtain ⟨a0,cap0,hv0,hc0,hI0⟩:=hO3.pts
 subst hv0
 have HI:Hid (zC4 w3 a0 m R):=hI0
 have HLk3:Hid (LkT w3 Tb B p z x y wd ht now s t0 (LT n A T0) (.slice a2 Q0.length c2) bad (.slice none 0 0)):=HLk2.out.below (hb3.mono hTw2)
 have HQ3:Hid (QI Tb w3 a2 c2 (.slice none 0 0) Q0):=HQ2.out.but hb3.size (fun b _ h2 _=>hb3.block b h2)
 have HM3:Hid (∀ q,Tb≤q→q<w.heap.size→w3.heap[q]?=w.heap[q]?):=fun q h1 h2=>(hb3.block q (by omega)).trans (HM2.out q h1 h2)
 have HB3:Hid (Below B w w3):=HB2.out.trans (hb3.mono (by omega))
 have HOr:Hid (OwT w2.heap.size w3.heap.size w3 a0 m R):=hO3.ow
 have hs3:=hb3.size
 clear l0 l1 l2 l3 l4 l5 l6 l7 l8 l9 hO3 hI0 hb3 HVi
 have i1:∀ w,(Instr.field 124 (.agg #[.int .i64 0,.slice a0 m cap0]) 1).run Tryz.prog w=.ok (.slice a0 m cap0) w:=fun _=>by kernel_rfl
 go_wp2_with fail
 clear HI
 go_loopw [22] (fun i wr=>∃ k:Nat,k≤m∧i=.int .i64 (k:Int)∧(∀ q,Tb≤q→q<w3.heap.size→wr.heap[q]?=w3.heap[q]?)∧w3.heap.size≤wr.heap.size∧∃ (t:Int) (TT:Nat→Int) (ra:Option Addr) (rc:Nat) (sv:Value),LkT wr Tb B p z x y wd ht now s t (LT n (stK n R A k) TT) (.slice ra (stQ n R A now Q0 k).length rc) bad sv∧yA w3.heap.size wr sv (stS n R A now Q0 k)∧QI Tb wr ra rc sv (stQ n R A now Q0 k)∧(∀ i,i<n→TT i≤t)∧(0≤t∧t≤100+(k:Int))∧Below B w wr) (fun i _=>m - (intOf i).toNat)
 case atStart=>exact ⟨0,by omega,rfl,fun _ _ _=>rfl,Nat.le_refl _,t0,T0,a2,c2,_,HLk3.out,yA.no _ _,HQ3.out,HT0.out,⟨htt.1,by omega⟩,HB3.out⟩
 case round =>
  clear HLk3 HQ3 HB3 HLk2 HQ2 HB2 HLk1 HQ1 HLk HT0 HX1 HM2
  obtain ⟨k,hk,rfl,hmid,hsz3,t,TT,rb,rcb,sv,hL,hrow,hq,hTT,htt2,hB⟩:=hrel
  have hdW:Bw wr wr.drew:=Below.drew (Below.refl _ _)
  by_cases hlt:k<m
  ·obtain ⟨b,off,hae,hb1,hb2,hpt⟩:∃ b off,a0=some ⟨b,off,none⟩∧w2.heap.size≤b∧b<w3.heap.size∧zFf w3 b off m R:=by
    rcases HOr.out with h0 | ⟨b,e,h1,h2,h3,_⟩
    ·omega
    ·exact ⟨b,0,e,h1,h2,h3⟩
   subst hae
   have q0:=(World.cell?_of_block (a:=⟨b,off+k * 3,none⟩) (hmid b (by omega) hb2)).trans (hpt k hlt).1
   have q1:=(World.cell?_of_block (a:=⟨b,off+k * 3+1,none⟩) (hmid b (by omega) hb2)).trans (hpt k hlt).2.1
   have q2:=(World.cell?_of_block (a:=⟨b,off+k * 3+2,none⟩) (hmid b (by omega) hb2)).trans (hpt k hlt).2.2
   have HMid:Hid (∀ q,Tb≤q→q<w3.heap.size→wr.heap[q]?=w3.heap[q]?):=hmid
   have HY:=(show Hid _ from @zL8 n R A now Q0 k)
   have HN:=(show Hid _ from @st_no n R A now Q0 k)
   have HI3:=(show Hid _ from HRB.out k hlt)
   have hql:=(uW n R A now Q0 k).1
   have hsl:=(uW n R A now Q0 k).2
   have HTT:Hid (∀ i,i<n→TT i≤t):=hTT
   have HBr:Hid (Below B w wr):=hB
   clear hpt hmid hTT hB HOr HRB
   generalize stK n R A k=KK at *
   generalize stQ n R A now Q0 k=Q at *
   generalize stS n R A now Q0 k=SS at *
   generalize R.z k=rz at *
   generalize R.x k=rx at *
   generalize R.y k=ry at *
   have HLr:Hid (LkT wr Tb B p z x y wd ht now s t (LT n KK TT) (.slice rb Q.length rcb) bad sv):=hL
   have HRow:Hid (yA w3.heap.size wr sv SS):=hrow
   have HQr:Hid (QI Tb wr rb rcb sv Q):=hq
   clear hrow hq
   obtain ⟨sp3,mb3,_,⟨hB3,hsp3⟩,⟨hBm,hmb3⟩,hTr,hbk3,hM3,hne1,hne2⟩:=hL
   have hik:(k:Int)<(m:Int):=by omega
   have hi0:(0:Int)≤(k:Int):=by omega
   have hkl:k<m:=hlt
   go_wp2_with fail
   generalize hU:(World.alloc _ _:World)=U
   have HUr:Hid (Bw wr U):=by show Below _ _ _;subst hU;exact Qb
   have HRU:Hid (RK U wr.heap.size rz rx ry):=by show RK _ _ _ _ _;subst hU;refine ⟨?_,?_,?_⟩ <;> simp [go_sem]
   have hrl:wr.heap.size<U.heap.size:=World.block_lt_of_cell? _ _ HRU.out.1
   clear hU q0 q1 q2
   have hplr:p<wr.heap.size:=by omega
   have hplU:p<U.heap.size:=by omega
   have HbkU:Hid (Blk U p (lkL z x y wd ht now (.pointer (some ⟨sp3,0,none⟩)) (.slice rb Q.length rcb) bad sv)):=hbk3.below hplr HUr.out
   have HMU:Hid (ShM U sp3 s t mb3 (LT n KK TT)):=hM3.but (HUr.out.block _ (by omega)) (HUr.out.block _ (by omega))
   clear hbk3 hM3
   obtain ⟨l0,l1,l2,l3,l4,l5,l6,l7,l8,l9⟩:=Blk.g10 (b:=U.heap.size) (v:=U) fun W' h=>(HbkU.out.below hplU h)
   have r0:∀ W',Bw U W'→W'.cell? ⟨wr.heap.size,0,none⟩=some (.int .i64 rz):=fun W' h=>(HRU.out.below h).1
   have r1:∀ W',Bw U W'→W'.cell? ⟨wr.heap.size,1,none⟩=some (.int .i64 rx):=fun W' h=>(HRU.out.below h).2.1
   have r2:∀ W',Bw U W'→W'.cell? ⟨wr.heap.size,2,none⟩=some (.int .i64 ry):=fun W' h=>(HRU.out.below h).2.2
   have HAt:Hid (∀ W',Bw U W'→Calls Tryz.prog 81 #[.pointer (some ⟨sp3,0,none⟩),xK rz rx ry] W' fun e w'=>e=.returned (.bool (decide (0≤atK n KK rz rx ry)))∧Below W'.heap.size W' w'):=fun W' h=>by
    have hM:ShM W' sp3 s t mb3 (LT n KK TT):=HMU.out.but (h.block _ (by omega)) (h.block _ (by omega))
    have:=Shf_has 0 sp3 s t _ rz rx ry W' (hM.f (Nat.zero_le _) (Nat.zero_le _)) HI3.out
    rw [LT_any] at this
    exact this
   refine wp_region_noPanic ?_
   refine wp_region_held_drew (S:=fun W'=>Bw U W') (by kernel_rfl) (by have:=Below.refl U.heap.size U;exact Qb) (fun hHeld=>?_)
   have hX0h:Bw U U.drew:=hHeld
   refine zE (i:=0) (d:=some 26) rfl rfl ?_
   try simp only [Act.put,Qx,Qy,Qz]
   refine zE (i:=1) (d:=some 27) rfl rfl ?_
   try simp only [Act.put,Qx,Qy,Qz]
   refine zE (i:=2) (d:=some 28) rfl rfl ?_
   try simp only [Act.put,Qx,Qy,Qz]
   refine zE (i:=3) (d:=some 29) rfl rfl ?_
   try simp only [Act.put,Qx,Qy,Qz]
   refine zE (i:=4) (d:=some 30) rfl rfl ?_
   try simp only [Act.put,Qx,Qy,Qz]
   generalize U.drew=wk0h at *
   refine zN 5 fun K hK=>?_
   rw [if_pos (by rfl)]
   go_simp
   refine Calls.mono (HAt.out _ hX0h) ?_
   rintro e wk1h ⟨rfl,hb1h⟩
   have hX1h:Bw U wk1h:=zB hX0h hb1h
   go_wp2_with fail
   refine hK.out _ _ (by assumption) (fun hHeld=>?_)
   clear hK K
   try simp only [Act.put,Qx,Qy,Qz]
   refine wpAnyH_done (by kernel_rfl) ?_ _
   refine NoPanic.normal ?_
   have HXh:Hid (Bw U wk1h):=hX1h
   clear hX0h hb1h hX1h HAt l0 l1 l2 l3 l4 l5 l6 l7 l8 l9 r0 r1 r2
   have hsU:=HXh.out.size
   have HRV:Hid (RK wk1h wr.heap.size rz rx ry):=HRU.out.below HXh.out
   have HbkV:Hid (Blk wk1h p (lkL z x y wd ht now (.pointer (some ⟨sp3,0,none⟩)) (.slice rb Q.length rcb) bad sv)):=HbkU.out.below hplU HXh.out
   have HMV:Hid (ShM wk1h sp3 s t mb3 (LT n KK TT)):=HMU.out.but (HXh.out.block _ (by omega)) (HXh.out.block _ (by omega))
   have HVr:Hid (Bw wr wk1h):=zB HUr.out HXh.out
   have hszV:wr.heap.size<wk1h.heap.size:=by omega
   clear HXh HbkU HMU HRU HUr hrl hplU hsU
   have HMiV:Hid (∀ q,Tb≤q→q<w3.heap.size→wk1h.heap[q]?=w3.heap[q]?):=fun q h1 h2=>(HVr.out.block q (by omega)).trans (HMid.out q h1 h2)
   have HLV:Hid (LkT wk1h Tb B p z x y wd ht now s t (LT n KK TT) (.slice rb Q.length rcb) bad sv):=HLr.out.below (HVr.out.mono hTr)
   have HSV:Hid (yA w3.heap.size wk1h sv SS):=HRow.out.below HVr.out
   have HQV:Hid (QI Tb wk1h rb rcb sv Q):=HQr.out.but (by omega) (fun b _ h2 _=>HVr.out.block b h2)
   have HBV:Hid (Below B w wk1h):=HBr.out.trans (HVr.out.mono (by omega))
   clear HVr HLr HRow HQr HBr HMid
   generalize wk1h=V at *
   generalize wr.heap.size=rbx at *
   have hpV:p<V.heap.size:=by omega
   have r0:∀ W',Bw V W'→W'.cell? ⟨rbx,0,none⟩=some (.int .i64 rz):=fun W' h=>(HRV.out.below h).1
   have r1:∀ W',Bw V W'→W'.cell? ⟨rbx,1,none⟩=some (.int .i64 rx):=fun W' h=>(HRV.out.below h).2.1
   have r2:∀ W',Bw V W'→W'.cell? ⟨rbx,2,none⟩=some (.int .i64 ry):=fun W' h=>(HRV.out.below h).2.2
   by_cases hat:0≤atK n KK rz rx ry
   ·have hdec:decide (0≤atK n KK rz rx ry)=true:=decide_eq_true hat
    have HE:=(show Hid _ from HY.out hat)
    have HTo:Hid (∀ W',Bw V W'→Calls Tryz.prog 82 #[.pointer (some ⟨sp3,0,none⟩),xK rz rx ry] W' fun e w'=>e=.returned (.tuple #[])∧ShM w' sp3 s (t+1) mb3 (LT n (zJc n KK rz rx ry) (zJb n KK TT rz rx ry (t+1)))∧(∀ B,B≤sp3→B≤mb3→Below B W' w')∧∀ q,q<W'.heap.size→q≠sp3→q≠mb3→w'.heap[q]?=W'.heap[q]?):=fun W' h=>zI9 (HMV.out.but (h.block _ (by omega)) (h.block _ (by omega))) hat HTT.out hn hns (by omega)
    have HTL:Hid (∀ i,i<n→zJb n KK TT rz rx ry (t+1) i≤t+1):=touT_le HTT.out (zCc hat)
    clear HY HN HTT
    have l6:∀ W',Bw V W'→W'.cell? ⟨p,6,none⟩=_:=fun W' h=>(HbkV.out.below hpV h).cell 6 rfl
    go_wp2_with fail
    refine wp_region_noPanic ?_
    refine yP (S:=fun W'=>Bw V W') (z:=5) (by kernel_rfl) ?_
    have hX0t:Bw V V.drew:=Below.drew (Below.refl _ _)
    refine yD (i:=0) [1,2,3,5] rfl hX0t ?_
    try simp only [Act.put,Qx,Qy,Qz]
    refine yD (i:=1) [2,3,5] rfl hX0t ?_
    try simp only [Act.put,Qx,Qy,Qz]
    refine yD (i:=2) [3,5] rfl hX0t ?_
    try simp only [Act.put,Qx,Qy,Qz]
    refine yD (i:=3) [5] rfl hX0t ?_
    try simp only [Act.put,Qx,Qy,Qz]
    refine yD (i:=4) [5] rfl hX0t ?_
    try simp only [Act.put,Qx,Qy,Qz]
    refine zF (i:=5) (by kernel_rfl) rfl (fun K hK=>?_)
    go_simp
    refine Calls.mono (HTo.out _ hX0t) ?_
    rintro e w5 ⟨rfl,hM5,hB5,hbu5⟩
    have hd:Bw V V.drew:=Below.drew (Below.refl _ _)
    have hsz5:V.heap.size≤w5.heap.size:=(hB5 0 (Nat.zero_le _) (Nat.zero_le _)).size
    have HBu5:Hid (∀ q,q<V.heap.size→q≠sp3→q≠mb3→w5.heap[q]?=V.heap[q]?):=hbu5
    have HM5:Hid (ShM w5 sp3 s (t+1) mb3 (LT n (zJc n KK rz rx ry) (zJb n KK TT rz rx ry (t+1)))):=hM5
    have HB5:Hid (Below B w w5):=HBV.out.trans ((hd.mono (by omega)).trans (hB5 B hB3 hBm))
    clear hM5 hB5 hbu5 hd r0 r1 r2 l6 hX0t
    go_wp2_with fail
    refine hK.out _ _ (fun h=>absurd rfl h) ?_
    clear hK K
    try simp only [Act.put,Qx,Qy,Qz]
    refine zY (by kernel_rfl) ?_ _
    refine NoPanic.normal ?_
    go_wp2_with fail
    go_roundw
    case rel =>
     refine ⟨k+1,by omega,by go_num,fun q h1 h2=>(HBu5.out q (by omega) (by omega) (by omega)).trans (HMiV.out q h1 h2),by omega,t+1,zJb n KK TT rz rx ry (t+1),rb,rcb,sv,?_,?_,?_,HTL.out,by omega,HB5.out⟩
     ·rw [HE.out.1,HE.out.2.1]
      exact ⟨sp3,mb3,⟨hBp,hpT⟩,⟨hB3,hsp3⟩,⟨hBm,hmb3⟩,by omega,HbkV.out.but (HBu5.out p hpV (fun e=>hne1 e.symm) (fun e=>hne2 e.symm)),HM5.out,hne1,hne2⟩
     ·rw [HE.out.2.2]
      exact yK HSV.out fun g hg=>by
       have:=World.ownsRow.lt HSV.out g hg
       exact HBu5.out g this.2 (by omega) (by omega)
     ·rw [HE.out.2.1]
      exact HQV.out.but hsz5 fun b h1 h2 _=>HBu5.out b h2 (by omega) (by omega)
    case measure=>simp [intOf];omega
   ·have hdec:decide (0≤atK n KK rz rx ry)=false:=decide_eq_false hat
    have HE:=(show Hid _ from HN.out (by omega))
    have HAk:Hid (∀ W',Bw V W'→Calls Tryz.prog 83 #[.slice rb Q.length rcb,xK rz rx ry,.int .i64 now] W' fun e w'=>∃ v1 v2,e=.returned (rqV (zBm Q.length (nw Q) rz rx ry now) v1 v2)∧yA W'.heap.size w' v1 (vJ Q.length (nw Q) rz rx ry now)∧zX W'.heap.size w' v2 (vB Q.length (nw Q) rz rx ry now)∧Below W'.heap.size W' w'):=fun W' h=>zBv rb Q.length rcb (nw Q) rz rx ry now W' (HQV.out.is.below h) (by omega) HQV.out.2.1
    have HAL:=(show Hid _ from zFc Q.length (nw Q) rz rx ry now)
    clear HY HN
    obtain ⟨l0,l1,l2,l3,l4,l5,l6,l7,l8,l9⟩:=Blk.g10 (b:=V.heap.size) (v:=V) fun W' h=>(HbkV.out.below hpV h)
    go_wp2_with fail
    refine wp_region_noPanic ?_
    refine yP (S:=fun W'=>Bw V W') (z:=11) (by kernel_rfl) ?_
    have hX0q:Bw V V.drew:=Below.drew (Below.refl _ _)
    refine yD (i:=0) [11] rfl hX0q ?_
    try simp only [Act.put,Qx,Qy,Qz]
    refine yD (i:=1) [2,3,4,10,11] rfl hX0q ?_
    try simp only [Act.put,Qx,Qy,Qz]
    refine yD (i:=2) [3,4,10,11] rfl hX0q ?_
    try simp only [Act.put,Qx,Qy,Qz]
    refine yD (i:=3) [4,10,11] rfl hX0q ?_
    try simp only [Act.put,Qx,Qy,Qz]
    refine yD (i:=4) [10,11] rfl hX0q ?_
    try simp only [Act.put,Qx,Qy,Qz]
    refine yD (i:=5) [10,11] rfl hX0q ?_
    try simp only [Act.put,Qx,Qy,Qz]
    refine yD (i:=6) [7,8,9,10,11] rfl hX0q ?_
    try simp only [Act.put,Qx,Qy,Qz]
    refine yD (i:=7) [8,9,10,11] rfl hX0q ?_
    try simp only [Act.put,Qx,Qy,Qz]
    refine yD (i:=8) [9,10,11] rfl hX0q ?_
    try simp only [Act.put,Qx,Qy,Qz]
    refine yD (i:=9) [10,11] rfl hX0q ?_
    try simp only [Act.put,Qx,Qy,Qz]
    generalize V.drew=wk0q at *
    refine zF (i:=10) (by kernel_rfl) rfl (fun K hK=>?_)
    go_simp
    refine Calls.mono (HAk.out _ hX0q) ?_
    rintro e wk1q ⟨v1,v2,rfl,hr1,hr2,hb1q⟩
    have hX1q:Bw V wk1q:=zB hX0q hb1q
    go_wp2_with fail
    refine hK.out _ _ (fun _=>hX1q) ?_
    clear hK K
    try simp only [Act.put,Qx,Qy,Qz]
    obtain ⟨a4,c4,hv4,hc4,hI4⟩:=(show zX _ _ _ _ from hr2).own.pts
    subst hv4
    have hq0:=hX0q.size
    have hq1:=hX1q.size
    have hsend:=zHr w3.heap.size wk0q.heap.size p z x y wd ht now (.pointer (some ⟨sp3,0,none⟩)) (.slice rb Q.length rcb) bad sv SS (vJ Q.length (nw Q) rz rx ry now) (zBm Q.length (nw Q) rz rx ry now) v1 a4 (vB Q.length (nw Q) rz rx ry now).length c4 wk1q (HbkV.out.below hpV hX1q) (HSV.out.below hX1q) hr1 (by omega) (by omega) (by omega) ⟨by omega,by have:=HAL.out.2;omega⟩
    have HSd:=(show Hid _ from hsend)
    have HR2:Hid (zX wk0q.heap.size wk1q (.slice a4 (vB Q.length (nw Q) rz rx ry now).length c4) (vB Q.length (nw Q) rz rx ry now)):=hr2
    have HL4:Hid (LkT wk1q Tb B p z x y wd ht now s t (LT n KK TT) (.slice rb Q.length rcb) bad sv):=HLV.out.below (hX1q.mono (by omega))
    have HX1:Hid (Bw V wk1q):=hX1q
    have hpv:wk1q.cell? ⟨p,6,none⟩=some (.pointer (some ⟨sp3,0,none⟩)):=l6 wk1q hX1q
    clear hr1 hr2 hI4 hsend r0 r1 r2 l0 l1 l2 l3 l4 l5 l6 l7 l8 l9
    refine zF (i:=11) (by kernel_rfl) rfl (fun K hK=>?_)
    go_simp
    refine Calls.mono HSd.out ?_
    rintro e w5 ⟨rfl,sv5,hbk5,hrow5,hb5,hbu5,-⟩
    have hsvb:∀ g,sv.ownBlock=some g→w3.heap.size≤g∧g<V.heap.size:=fun g hg=>World.ownsRow.lt HSV.out g hg
    have HL5:Hid (LkT w5 Tb B p z x y wd ht now s t (LT n KK TT) (.slice a4 (vB Q.length (nw Q) rz rx ry now).length c4) bad sv5):=HL4.out.sent (fun g hg=>by have:=hsvb g hg;omega) hbu5 hb5.size hpv hbk5
    have HS5:Hid (yA w3.heap.size w5 sv5 (SS ++ vJ Q.length (nw Q) rz rx ry now)):=hrow5
    have HQ5:Hid (QI Tb w5 a4 c4 sv5 (vB Q.length (nw Q) rz rx ry now)):=by
     refine QI.of (zK (yK HR2.out fun g hg=>?_) (by omega)) hrow5
     have hg2:=World.ownsRow.lt HR2.out g hg
     exact hbu5 g hg2.2 (by omega) (fun e=>by have:=hsvb g e.symm;omega)
    have HM5:Hid (∀ q,Tb≤q→q<w3.heap.size→w5.heap[q]?=w3.heap[q]?):=fun q h1 h2=>((hbu5 q (by omega) (by omega) (fun e=>by have:=hsvb q e.symm;omega)).trans (HX1.out.block q (by omega))).trans (HMiV.out q h1 h2)
    have HB5:Hid (Below B w w5):=(HBV.out.trans (HX1.out.mono (by omega))).trans (hb5.mono hBp)
    have hsz5:=hb5.size
    clear hbk5 hrow5 hb5 hbu5 hsvb HSd hpv HL4 HR2 HX1 hX0q hX1q
    go_wp2_with fail
    refine hK.out _ _ (fun h=>absurd rfl h) ?_
    clear hK K
    try simp only [Act.put,Qx,Qy,Qz]
    refine zY (by kernel_rfl) ?_ _
    refine NoPanic.normal ?_
    go_wp2_with fail
    go_roundw
    case rel =>
     refine ⟨k+1,by omega,by go_num,HM5.out,by omega,t,TT,a4,c4,sv5,?_,?_,?_,HTT.out,by omega,HB5.out⟩
     ·rw [HE.out.1,HE.out.2.1]
      exact HL5.out
     ·rw [HE.out.2.2]
      exact HS5.out
     ·rw [HE.out.2.1]
      exact HQ5.out
    case measure=>simp [intOf];omega
  ·obtain rfl:k=m:=by omega
   have hnn:¬ (k:Int)<(k:Int):=by omega
   have HAF:Hid (AskI Tb B p z x y wd ht now s bad n R A Q0 w wr k):=(HAI.out R Q0 wr k).2 ⟨t,TT,rb,rcb,sv,hL,zK hrow (by omega),hq,hTT,htt2,hB,fun q h1 h2=>(hmid q h1 (by omega)).trans (HM3.out q h1 h2)⟩
   clear hL hrow hq hTT hB hmid HOr hdW HAI
   go_wp2_with fail
   refine bodyPost_end (v:=.tuple #[]) (by simp [results,Tryz.results35,go_sem]) rfl ?_
   exact ⟨rfl,HAF.out⟩

def CaF (W:World)(a:Option Addr)(n:Nat)(K R:Nat→Kp):Prop:=n=0∨∃ g,a=some ⟨g,0,none⟩∧g<W.heap.size∧∀ i,i<n→zHn W g (i * 5) (R i)∧zGp W (K i) (R i)∧zH9 W (R i)∧(R i).I=(K i).I
theorem resBad {T:Array Value}{Wf:World}{r:Nat}{v:Va}{u:Vm}(hT:T[2]?.getD undef=.pointer (some ⟨r,0,none⟩))(h:Blk Wf r (vaL v u)) :
  (results Tryz.f31 T).run Tryz.prog Wf=.ok (vaV v u) Wf:=by
 obtain ⟨h0,h1,h2,h3,h4,h5,h6,h7,h8,h9,h10,h11,h12⟩:=Blk.c13 h
 simp [results,Tryz.results31,go_sem,hT,h0,h1,h2,h3,h4,h5,h6,h7,h8,h9,h10,h11,h12]
theorem zIw (c:Int)(w:World):Calls Tryz.prog 31 #[.int .i64 c] w fun e w'=>e=.returned (vaV (vaZ c) vmZ)∧Bw w w':=by
 go_enter Tryz.func31,Tryz.ntmps31
 go_wp2_with fail
 generalize hwF:(World.alloc _ _:World)=wF
 have HBk:Hid (Blk wF w.heap.size (vaL (vaZ c) vmZ)):=by show Blk _ _ _;subst hwF;exact Blk.new _ _ _
 have HB:Hid (Bw w wF):=by show Below _ _ _;subst hwF;exact Qb
 clear hwF
 exact bodyPost_ret (resBad (v:=vaZ c) (u:=vmZ) rfl HBk.out) rfl ⟨rfl,HB.out⟩

theorem kC_m0 {A:Nat→Kp}{n:Nat}(h:∀ j,j<n→kC A j=0):∀ i,i<n→0<(A i).m:=fun i hi=>by rw [kC_m (h i hi)];omega
end Go.Proofs.YtpaiholildedcaaGreat
