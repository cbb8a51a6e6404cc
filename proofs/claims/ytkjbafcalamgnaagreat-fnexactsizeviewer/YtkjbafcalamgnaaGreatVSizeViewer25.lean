/- Texts. -/
import Derived.Test.YtkjbafcalamgnaaGreatVSizeViewer23
set_option linter.unusedSimpArgs false
set_option linter.unusedVariables false
set_option maxRecDepth 100000
set_option maxHeartbeats 32000000
namespace Go.Proofs.YtkjbafcalamgnaaGreat
open Go.RowKit
abbrev caV (s:Int)(v:Value):Value:=.agg #[.int .i64 s,v]
theorem zPn (B C b d n:Nat)(K A H:Nat→Kp)(w:World)(ha:yW w B b n K A)(hh:yW w C d n K H)(hs:zI n K) :
  Calls Tryz.prog 82 #[.slice (some ⟨b,0,none⟩) n n,.slice (some ⟨d,0,none⟩) n n] w fun e w'=>e=.returned (.bool true)∧Bw w w':=by
 have HA:Hid (yW w B b n K A):=ha
 have HH:Hid (yW w C d n K H):=hh
 have HS:Hid (zI n K):=hs
 have hn:=hs.1
 clear ha hh hs
 go_enter Tryz.func82,Tryz.ntmps82
 go_wp2
 go_loopw [5] (fun i wr=>∃ k:Nat,k≤n∧i=.int .i64 k∧Bw w wr) (fun i _=>n - (intOf i).toNat)
 case atStart=>exact ⟨0,by omega,rfl,Below.refl _ _⟩
 case round =>
  obtain ⟨k,hk,rfl,hB⟩:=hrel
  by_cases hlt:k<n
  ·have HAr:Hid (yW wr B b n K A):=HA.out.below hB
   have HHr:Hid (yW wr C d n K H):=HH.out.below hB
   have a0:∀ W',Bw wr W'→W'.cell? ⟨b,k * 5,none⟩=some (.int .i64 (A k).z):=fun W' h=>((HAr.out.below h).2.2 k hlt).1.1
   have a1:∀ W',Bw wr W'→W'.cell? ⟨b,k * 5+1,none⟩=some (.int .i64 (A k).x):=fun W' h=>((HAr.out.below h).2.2 k hlt).1.2.1
   have a2:∀ W',Bw wr W'→W'.cell? ⟨b,k * 5+2,none⟩=some (.int .i64 (A k).y):=fun W' h=>((HAr.out.below h).2.2 k hlt).1.2.2.1
   have a3:∀ W',Bw wr W'→W'.cell? ⟨b,k * 5+3,none⟩=some (.slice (A k).fa (A k).fn (A k).fc):=fun W' h=>((HAr.out.below h).2.2 k hlt).1.2.2.2.1
   have a4:∀ W',Bw wr W'→W'.cell? ⟨b,k * 5+4,none⟩=some (.slice (A k).ia (A k).m (A k).ic):=fun W' h=>((HAr.out.below h).2.2 k hlt).1.2.2.2.2
   have h0:∀ W',Bw wr W'→W'.cell? ⟨d,k * 5,none⟩=some (.int .i64 (H k).z):=fun W' h=>((HHr.out.below h).2.2 k hlt).1.1
   have h1:∀ W',Bw wr W'→W'.cell? ⟨d,k * 5+1,none⟩=some (.int .i64 (H k).x):=fun W' h=>((HHr.out.below h).2.2 k hlt).1.2.1
   have h2:∀ W',Bw wr W'→W'.cell? ⟨d,k * 5+2,none⟩=some (.int .i64 (H k).y):=fun W' h=>((HHr.out.below h).2.2 k hlt).1.2.2.1
   have h3:∀ W',Bw wr W'→W'.cell? ⟨d,k * 5+3,none⟩=some (.slice (H k).fa (H k).fn (H k).fc):=fun W' h=>((HHr.out.below h).2.2 k hlt).1.2.2.2.1
   have h4:∀ W',Bw wr W'→W'.cell? ⟨d,k * 5+4,none⟩=some (.slice (H k).ia (H k).m (H k).ic):=fun W' h=>((HHr.out.below h).2.2 k hlt).1.2.2.2.2
   have HEQ:Hid (∀ W',Bw wr W'→Calls Tryz.prog 137 #[kpV (A k),kpV (H k)] W' fun e w'=>e=.returned (.bool true)∧Below W'.heap.size W' w'):=fun W' h=>zSl B C (K k) (A k) (H k) W' ((HAr.out.below h).2.2 k hlt).2 ((HHr.out.below h).2.2 k hlt).2 (HS.out.2 k hlt)
   have HB:Hid (Bw w wr):=hB
   have HLT:Hid (k<n):=hlt
   have hr:Bw wr wr:=Below.refl _ _
   clear hB
   have hi:(k:Int)<(n:Int):=by omega
   have hi0:(0:Int)≤(k:Int):=by omega
   go_wp2
   go_region_held3 (fun W'=>Bw wr W') ((repeat (first|exact Qr _ _|assumption|refine Qd ?_|refine Qa ?_ _|refine Qt ?_|refine Qs ?_ _|refine Qo ?_ ?_ _ _)))
    (first
     | (go_at_call 137;refine (HEQ.out _ (by assumption)).mono ?_;rintro e w' ⟨rfl,hb⟩)
     | fail)
   go_wp2
   go_roundw
   case rel=>exact ⟨k+1,by have:=HLT.out;omega,by go_num,zA HB.out (by assumption)⟩
   case measure=>have:=HLT.out;simp [intOf];omega
  ·go_wp2
   go_ret
   exact ⟨rfl,hB⟩
theorem zVx (z x y:Int)(a:Option Addr)(n cap left:Nat)(F:Nat→yC)(w:World)(hl:left≤1048576)(hf:zGq w a n F)(hc:zJ4 n F) :
  Calls Tryz.prog 152 #[zTe z x y (.slice a n cap),.int .i64 (left:Int)] w fun e w'=>(e=.returned (.int .i64 (-1))∨∃ m:Nat,m≤left∧yM n F∧e=.returned (.int .i64 m))∧Bw w w':=by
 have HF:Hid (zGq w a n F):=hf
 have HC:Hid (zJ4 n F):=hc
 clear hf hc
 go_enter Tryz.func152,Tryz.ntmps152
 go_wp2_with fail
 generalize hW:(w.alloc _:World)=W
 have hB0:Bw w W:=by subst hW;exact Qb
 clear hW
 refine (zIa a n cap F left _ hl (HF.out.below hB0) HC.out).mono ?_
 rintro e w1 ⟨rfl | ⟨m,hm,hS,rfl⟩,hb1⟩
 ·go_wp2
  go_ret
  exact ⟨.inl rfl,Qb⟩
 ·have hneg:¬ ((m:Nat):Int)<0:=by omega
  have HS:Hid (yM n F):=hS
  clear hS
  go_wp2
  go_ret
  exact ⟨.inr ⟨m,hm,HS.out,rfl⟩,Qb⟩
theorem zRg (a:Option Addr)(n cap left:Nat)(w:World)(hl:left≤1048576)(hn:n≤maxLen) :
  Calls Tryz.prog 153 #[.slice a n cap,.int .i64 (left:Int)] w fun e w'=>(e=.returned (.int .i64 (-1))∨∃ m:Nat,m≤left∧n≤1048576∧e=.returned (.int .i64 m))∧Bw w w':=by
 unfold maxLen at hn
 by_cases h:left<n
 ·have hneg:(left:Int) - (n:Int)<0:=by omega
  go_enter Tryz.func153,Tryz.ntmps153
  go_wp2
  go_ret
  exact ⟨.inl rfl,Qb⟩
 ·have hneg:¬ (left:Int) - (n:Int)<0:=by omega
  go_enter Tryz.func153,Tryz.ntmps153
  go_wp2
  go_ret
  exact ⟨.inr ⟨left - n,by omega,by omega,zD (by omega)⟩,Qb⟩
theorem zVy (k:Kp)(left:Nat)(w:World)(hl:left≤1048576)(hk:zSw w k)(hc:zSy k) :
  Calls Tryz.prog 100 #[kpV k,.int .i64 (left:Int)] w fun e w'=>(e=.returned (.int .i64 (-1))∨∃ m:Nat,m≤left∧vY k∧e=.returned (.int .i64 m))∧Bw w w':=by
 have HK:Hid (zSw w k):=hk
 have HC:Hid (zSy k):=hc
 clear hk hc
 go_enter Tryz.func100,Tryz.ntmps100
 go_wp2_with fail
 generalize hW:(w.alloc _:World)=W
 have hB0:Bw w W:=by subst hW;exact Qb
 have c4:∀ W',Bw W W'→W'.cell? ⟨w.heap.size,4,none⟩=some (.slice k.ia k.m k.ic):=fun W' h=>by rw [h.cell (by subst hW;simp)];subst hW;simp [go_sem]
 clear hW
 refine (zVx k.z k.x k.y k.fa k.fn k.fc left k.F W hl (HK.out.below hB0).1 HC.out.1).mono ?_
 rintro e w1 ⟨rfl | ⟨m,hm,hS,rfl⟩,hb1⟩
 ·go_wp2
  go_ret
  exact ⟨.inl rfl,zA hB0 hb1⟩
 ·have hneg:¬ ((m:Nat):Int)<0:=by omega
  have g4:=c4 w1 hb1
  have HS:Hid (yM k.fn k.F):=hS
  have hB1:Bw w w1:=zA hB0 hb1
  clear hS hb1 hB0 c4
  go_wp2_with fail
  refine (zRg k.ia k.m k.ic m w1 (by omega) HC.out.2).mono ?_
  rintro e w2 ⟨rfl | ⟨q,hq,hS2,rfl⟩,hb2⟩
  ·go_wp2
   go_ret
   exact ⟨.inl rfl,zA hB1 hb2⟩
  ·have hneg2:¬ ((q:Nat):Int)<0:=by omega
   have HS2:Hid (k.m≤1048576):=hS2
   clear hS2
   go_wp2
   go_ret
   exact ⟨.inr ⟨q,by omega,⟨HS.out,HS2.out⟩,rfl⟩,zA hB1 hb2⟩
theorem zTh (a:Option Addr)(n cap left:Nat)(K:Nat→Kp)(w:World)(hl:left≤1048576)(hk:zF9 w a n K)(hc:zCg n K) :
  Calls Tryz.prog 57 #[.slice a n cap,.int .i64 (left:Int)] w fun e w'=>(e=.returned (.int .i64 (-1))∨∃ m:Nat,m≤left∧zI n K∧e=.returned (.int .i64 m))∧Bw w w':=by
 have HK:Hid (zF9 w a n K):=hk
 obtain ⟨hc1,hc2⟩:=hc
 have HC:Hid (∀ i,i<n→zSy (K i)):=hc2
 unfold maxLen at hc1
 clear hk hc2
 by_cases h:left<n
 ·have hneg:(left:Int) - (n:Int)<0:=by omega
  go_enter Tryz.func57,Tryz.ntmps57
  go_wp2
  go_ret
  exact ⟨.inl rfl,Qb⟩
 ·have hneg:¬ (left:Int) - (n:Int)<0:=by omega
  go_enter Tryz.func57,Tryz.ntmps57
  go_wp2_with fail
  go_loopw [1,5] (fun v i wr=>∃ k m:Nat,k≤n∧i=.int .i64 (k:Int)∧v=.int .i64 (m:Int)∧m≤left∧(∀ j,j<k→vY (K j))∧Bw w wr) (fun _ i _=>n - (intOf i).toNat)
  case atStart=>exact ⟨0,left - n,by omega,rfl,by congr 1;omega,by omega,fun j hj=>absurd hj (Nat.not_lt_zero _),Below.refl _ _⟩
  case round =>
   obtain ⟨k,m,hk,rfl,rfl,hm,hS,hB⟩:=hrel
   have HS:Hid (∀ j,j<k→vY (K j)):=hS
   have HB:Hid (Bw w wr):=hB
   clear hS
   by_cases hlt:k<n
   ·rcases HK.out with h0 | ⟨b,off,rfl,hbl,hpt⟩
    ·omega
    obtain ⟨⟨f0,f1,f2,f3,f4⟩,hkis⟩:=(hpt.below hB hbl) k hlt
    have HKI:Hid (zSw wr (K k)):=hkis
    have HLT:Hid (k<n):=hlt
    have hi:(k:Int)<(n:Int):=by omega
    have hi0:(0:Int)≤(k:Int):=by omega
    clear hB hpt hkis
    go_wp2_with fail
    refine (zVy (K k) m _ (by omega) HKI.out (HC.out k hlt)).mono ?_
    rintro e w1 ⟨rfl | ⟨q,hq,hS1,rfl⟩,hb1⟩
    ·go_wp2
     go_ret
     exact ⟨.inl rfl,zA HB.out hb1⟩
    ·have hneg2:¬ ((q:Nat):Int)<0:=by omega
     have HS1:Hid (vY (K k)):=hS1
     have HB1:Hid (Bw w w1):=zA HB.out hb1
     clear hS1 hb1 f0 f1 f2 f3 f4
     go_wp2_with fail
     go_roundw
     case rel=>exact ⟨k+1,q,by have:=HLT.out;omega,by go_num,rfl,by omega,fun j hj=>by
       by_cases e:j=k
       ·rw [e];exact HS1.out
       ·exact HS.out j (by omega),HB1.out⟩
     case measure=>have:=HLT.out;simp [intOf];omega
   ·obtain rfl:n=k:=by omega
    go_wp2
    go_ret
    exact ⟨.inr ⟨m,hm,⟨by omega,HS.out⟩,rfl⟩,HB.out⟩
theorem yW.mid {w w':World}{B C b n lo hi:Nat}{K A:Nat→Kp}(h:yW w B b n K A)(hM:zK lo hi w w')(hh:hi≤b):yW w' B b n K A :=
 ⟨h.1,Nat.lt_of_lt_of_le h.2.1 hM.size,fun i hi'=>by
  obtain ⟨⟨h0,h1,h2,h3,h4⟩,h5⟩:=h.2.2 i hi'
  exact ⟨⟨hM.cell h0 (.inr hh),hM.cell h1 (.inr hh),hM.cell h2 (.inr hh),hM.cell h3 (.inr hh),hM.cell h4 (.inr hh)⟩,h5.mid hM (by have:=h.1;omega) (Nat.le_refl _)⟩⟩
theorem zC3 (V:World)(a b:Value)(t:TypeId):zC (V.alloc (.cells #[a,b] t)) V.heap.size 2:=fun o ho=>by
 have hc:o=0∨o=1:=by omega
 rcases hc with rfl | rfl <;> exact ⟨⟨_,by simp [go_sem];rfl⟩,by simp [go_sem]⟩
theorem resTC {T:Array Value}{Wf:World}{r:Nat}{s:Int}{v:Value}(hT:T[2]?.getD undef=.pointer (some ⟨r,0,none⟩))(h0:Wf.cell? ⟨r,0,none⟩=some (.int .i64 s))(h1:Wf.cell? ⟨r,1,none⟩=some v) :
  (results Tryz.f32 T).run Tryz.prog Wf=.ok (caV s v) Wf:=by
 simp [results,Tryz.results32,go_sem,hT,h0,h1]
theorem zPo (s:Int)(B C b d n:Nat)(K A H:Nat→Kp)(w:World)(ha:yW w B b n K A)(hh:yW w C d n K H)(hs:zI n K) :
  Calls Tryz.prog 39 #[caV s (.slice (some ⟨b,0,none⟩) n n),caV s (.slice (some ⟨d,0,none⟩) n n)] w fun e w'=>e=.returned (.bool true)∧Bw w w':=by
 have HA:Hid (yW w B b n K A):=ha
 have HH:Hid (yW w C d n K H):=hh
 clear ha hh
 go_enter Tryz.func39,Tryz.ntmps39
 go_wp2_with fail
 generalize hW:((w.alloc _).alloc _:World)=W
 have hB0:Bw w W:=by subst hW;exact Qb
 clear hW
 refine (zPn B C b d n K A H W (HA.out.below hB0) (HH.out.below hB0) hs).mono ?_
 rintro e w1 ⟨rfl,hb1⟩
 go_wp2
 go_ret
 exact ⟨rfl,zA hB0 hb1⟩
def zPv (w:World)(q o:Nat)(z x y:Int)(v:Value):Prop:=w.cell? ⟨q,o,none⟩=some (.int .i64 z)∧w.cell? ⟨q,o+1,none⟩=some (.int .i64 x)∧w.cell? ⟨q,o+2,none⟩=some (.int .i64 y)∧w.cell? ⟨q,o+3,none⟩=some v
theorem zPv.below {w w':World}{q o B:Nat}{z x y:Int}{v:Value}(h:zPv w q o z x y v)(hb:Below B w w')(hq:q<B):zPv w' q o z x y v :=
 ⟨(hb.cell (p:=⟨q,o,none⟩) hq).trans h.1,(hb.cell (p:=⟨q,o+1,none⟩) hq).trans h.2.1,(hb.cell (p:=⟨q,o+2,none⟩) hq).trans h.2.2.1,(hb.cell (p:=⟨q,o+3,none⟩) hq).trans h.2.2.2⟩
theorem zMs (q o:Nat)(z X Y:Int)(b n cap:Nat)(G:Nat→yC)(w:World)(ht:zPv w q o z X Y (.slice (some ⟨b,0,none⟩) n cap))(hg:zA4 w b 0 n G)(hbl:b<w.heap.size)(hn:n≤12)(hok:∀ i,i<n→OkF (G i))(hr:zCt z X Y=true) :
  Calls Tryz.prog 104 #[.pointer (some ⟨q,o,none⟩)] w fun e w'=>∃ v,e=.returned v∧zB1 w.heap.size w' v (zGz (yZ G n z) (X * 8) (Y * 8) 64)∧Bw w w':=by
 obtain ⟨ii,hi,hz0,hz1,hz2⟩:=info_parts zCj
 have hql:q<w.heap.size:=World.block_lt_of_cell? _ _ ht.1
 have HP:Hid (∀ (W:World) (i:Nat),Bw w W→i<64→Calls Tryz.prog 155 #[.slice (some ⟨b,0,none⟩) n cap,.int .i64 z,.int .i64 (X * 8+((i % 8:Nat):Int)),.int .i64 (Y * 8+((i / 8:Nat):Int))] W fun e w'=>e=.returned (.int .i64 (yZ G n z (X * 8+((i % 8:Nat):Int)) (Y * 8+((i / 8:Nat):Int))))∧Bw W w'):=fun W i hW hi =>
  zK2 b n cap G z _ _ W (hg.below hW hbl) (Nat.lt_of_lt_of_le hbl hW.size) hn hok (zJe hr _ _ (by omega) (by omega))
 have HT:Hid (zPv w q o z X Y (.slice (some ⟨b,0,none⟩) n cap)):=ht
 obtain ⟨⟨z0,z1⟩,⟨x0,x1⟩,y0,y1⟩:=zX2 hr
 clear hg hok hr ht
 generalize yZ G n z=F at *
 go_enter Tryz.func104,Tryz.ntmps104
 go_wp2_with fail
 generalize hW:(w.alloc _:World)=W
 have HB0:Hid (Bw w W):=by show Below _ _ _;subst hW;exact Qb
 have HO0:Hid (zB1 w.heap.size W (.slice (some ⟨w.heap.size,0,none⟩) 0 0) (zGz F (X * 8) (Y * 8) 0)):=by
  show zB1 _ _ _ _
  subst hW
  exact World.ownsRow_lit (base:=w.heap.size) w #[] 0 (Nat.le_refl _) (Nat.zero_le _) rfl
 clear hW
 go_loopw [3,4] (fun v j wr=>∃ i:Nat,i≤64∧j=.int .i64 (i:Int)∧zB1 w.heap.size wr v (zGz F (X * 8) (Y * 8) i)∧Bw w wr) (fun _ j _=>64 - (intOf j).toNat)
 case atStart=>exact ⟨0,by omega,rfl,HO0.out,HB0.out⟩
 case round =>
  obtain ⟨i,hi64,rfl,hO,hB⟩:=hrel
  have HO0':Hid (zB1 w.heap.size wr u3 (zGz F (X * 8) (Y * 8) i)):=hO
  have HB:Hid (Bw w wr):=hB
  clear hO hB
  by_cases hlt:i<64
  ·have hi':(i:Int)<64:=by omega
   obtain ⟨m,hm⟩:∃ m:Nat,m=i % 8:=⟨_,rfl⟩
   obtain ⟨p,hp⟩:∃ p:Nat,p=i / 8:=⟨_,rfl⟩
   have hmb:m<8:=by omega
   have hqb:p<8:=by omega
   have em:(i:Int).tmod 8=(m:Int):=by rw [Int.tmod_eq_emod_of_nonneg (by omega)];omega
   have eq':(i:Int).tdiv 8=(p:Int):=by rw [Int.tdiv_eq_ediv_of_nonneg (by omega)];omega
   have HSK:Hid (zGz F (X * 8) (Y * 8) (i+1)=zGz F (X * 8) (Y * 8) i ++ [F (X * 8+(m:Int)) (Y * 8+(p:Int))]):=by show _=_;rw [zV4,hm,hp]
   have HLn:Hid ((zGz F (X * 8) (Y * 8) i).length=i):=zKn _ _ _ _
   have HCU:Hid (∀ W',Bw w W'→Calls Tryz.prog 155 #[.slice (some ⟨b,0,none⟩) n cap,.int .i64 z,.int .i64 (X * 8+(m:Int)),.int .i64 (Y * 8+(p:Int))] W' fun e w'=>e=.returned (.int .i64 (F (X * 8+(m:Int)) (Y * 8+(p:Int))))∧Below W'.heap.size W' w'):=fun W' hb=>by have:=HP.out W' i hb hlt;rw [hm,hp];exact this
   clear hm hp
   have c0:∀ W',Bw w W'→W'.cell? ⟨q,o,none⟩=some (.int .i64 z):=fun W' h=>(HT.out.below h hql).1
   have c1:∀ W',Bw w W'→W'.cell? ⟨q,o+1,none⟩=some (.int .i64 X):=fun W' h=>(HT.out.below h hql).2.1
   have c2:∀ W',Bw w W'→W'.cell? ⟨q,o+2,none⟩=some (.int .i64 Y):=fun W' h=>(HT.out.below h hql).2.2.1
   have c3:∀ W',Bw w W'→W'.cell? ⟨q,o+3,none⟩=some (.slice (some ⟨b,0,none⟩) n cap):=fun W' h=>(HT.out.below h hql).2.2.2
   obtain ⟨va,vn,vc,hvs⟩:∃ va vn vc,u3=.slice va vn vc:=by
    obtain ⟨a',c',e',_,_⟩:=HO0'.out.own
    exact ⟨_,_,_,e'⟩
   subst hvs
   have HO:=HO0'
   have HBS:Hid (∀ b,(Value.slice va vn vc).ownBlock=some b→w.heap.size≤b):=fun b hb=>(World.ownsRow.lt HO.out b hb).1
   clear HO0'
   have mm0:IntKind.i64.wrap (X * 8)=X * 8:=IntWalk.i64_in _ (by omega)
   have mm1:IntKind.i64.wrap (Y * 8)=Y * 8:=IntWalk.i64_in _ (by omega)
   have ss0:IntKind.i64.wrap (X * 8+(m:Int))=X * 8+(m:Int):=IntWalk.i64_in _ (by omega)
   have ss1:IntKind.i64.wrap (Y * 8+(p:Int))=Y * 8+(p:Int):=IntWalk.i64_in _ (by omega)
   have qq1:IntKind.i64.wrap (p:Int)=(p:Int):=IntWalk.i64_in _ (by omega)
   have qq0:IntKind.i64.wrap (m:Int)=(m:Int):=IntWalk.i64_in _ (by omega)
   generalize F (X * 8+(m:Int)) (Y * 8+(p:Int))=G0 at *
   have g0:=c0 wr HB.out
   have g1:=c1 wr HB.out
   have g2:=c2 wr HB.out
   have g3:=c3 wr HB.out
   go_wp2_with fail
   refine wp_region_noPanic ?_
   refine wp_region_held_drew (S:=fun W'=>Bw w W') (by kernel_rfl) (by have:=HB.out;exact Qb) (fun hHeld=>?_)
   have hSd:Bw w wr.drew:=hHeld
   refine zF (i:=0) (d:=some 30) rfl rfl (hS:=hSd) ?_
   try simp only [Act.put,Qx,Qy,Qz]
   refine zF (i:=1) (d:=some 31) rfl rfl (hS:=hSd) ?_
   try simp only [Act.put,Qx,Qy,Qz]
   refine zF (i:=2) (d:=some 32) rfl rfl (hS:=hSd) ?_
   try simp only [Act.put,Qx,Qy,Qz]
   refine zF (i:=3) (d:=some 33) rfl rfl (hS:=hSd) ?_
   try simp only [Act.put,Qx,Qy,Qz]
   refine zF (i:=4) (d:=some 34) rfl rfl (hS:=hSd) ?_
   try simp only [Act.put,Qx,Qy,Qz]
   refine zF (i:=5) (d:=some 35) rfl rfl (hS:=hSd) ?_
   try simp only [Act.put,Qx,Qy,Qz]
   refine zF (i:=6) (d:=some 36) rfl rfl (hS:=hSd) ?_
   try simp only [Act.put,Qx,Qy,Qz]
   refine zF (i:=7) (d:=some 37) rfl rfl (hS:=hSd) ?_
   try simp only [Act.put,Qx,Qy,Qz]
   refine zF (i:=8) (d:=some 38) rfl rfl (hS:=hSd) ?_
   try simp only [Act.put,Qx,Qy,Qz]
   refine zF (i:=9) (d:=some 39) rfl rfl (hS:=hSd) ?_
   try simp only [Act.put,Qx,Qy,Qz]
   refine zF (i:=10) (d:=some 40) rfl rfl (hS:=hSd) ?_
   try simp only [Act.put,Qx,Qy,Qz]
   refine zF (i:=11) (d:=some 41) rfl rfl (hS:=hSd) ?_
   try simp only [Act.put,Qx,Qy,Qz]
   refine zN 12 fun K hK=>?_
   rw [if_pos (by rfl)]
   go_simp
   refine Calls.mono (HCU.out _ hSd) ?_
   rintro e wB ⟨rfl,hbB⟩
   have hSB:Bw w wB:=zA hSd hbB
   have HOB:Hid (zB1 w.heap.size wB (.slice va vn vc) (zGz F (X * 8) (Y * 8) i)):=by
    have h1:zB1 w.heap.size wr.drew (.slice va vn vc) (zGz F (X * 8) (Y * 8) i):=HO.out.below (by exact Qb)
    exact h1.below hbB
   go_wp2_with fail
   refine hK.out _ _ hSB (fun hHeld=>?_)
   clear hK K hbB
   try simp only [Act.put,Qx,Qy,Qz]
   refine zN 13 fun K hK=>?_
   rw [if_pos (by rfl)]
   go_simp
   generalize hwA:(World.alloc _ _:World)=wA
   have hbA:Bw wB wA:=by subst hwA;exact Qb
   have a0:wA.cell? ⟨wB.heap.size,0,none⟩=some (.int .i64 G0):=by subst hwA;simp [go_sem]
   have hszA:wA.heap.size=wB.heap.size+1:=by subst hwA;simp
   have HOA:Hid (wA.ownsRow w.heap.size 2 1 (.slice va vn vc) (zGz F (X * 8) (Y * 8) i).length ((zGz F (X * 8) (Y * 8) i).map (.int .i64 ·))):=by subst hwA;exact World.ownsRow.alloc HOB.out _
   have hSA:Bw w wA:=zA hSB hbA
   have hsA:=hSA.size
   clear hwA
   refine hK.out _ _ hSA (fun hHeld=>?_)
   clear hK K
   try simp only [Act.put,Qx,Qy,Qz]
   have hlen:=HLn.out
   refine zN 14 fun K hK=>?_
   refine zQ rfl (.tmp 30) (.tmp 43) 140 rfl w.heap.size 2 ii (.int .i64 0) 1 8 Tryz.underlying140 hi hz0 hz1 hz2 rfl (by decide) (.slice va vn vc) (zGz F (X * 8) (Y * 8) i).length ((zGz F (X * 8) (Y * 8) i).map (.int .i64 ·)) rfl HOA.out ⟨wB.heap.size,0,none⟩ 1 1 [.int .i64 G0] rfl rfl ?c1 ?c2 ?c3 ?c4 ?c5 ?_
   case c1 =>
    intro q u hq
    match q,hq with
    | 0,hq=>exact (Option.some.inj hq) ▸ a0
    | q+1,hq=>cases hq
   case c2=>intro u hu;simp at hu;subst hu;rfl
   case c3=>unfold maxLen;omega
   case c4=>omega
   case c5=>first | omega | (simp;omega)
   intro v' w3' hown' hgrow hnil
   clear hnil
   have hBg:Below w.heap.size wA w3':=(Below.refl _ _).grown hgrow (by omega) (fun b hb=>HBS.out b hb)
   have hB3:Bw w w3':=hSA.trans hBg
   have HO4:Hid (zB1 w.heap.size w3' v' (zGz F (X * 8) (Y * 8) (i+1))):=by
    show zB1 _ _ _ _
    rw [HSK.out]
    show World.ownsRow _ _ _ _ _ _ _
    rw [List.length_append,List.map_append]
    exact hown'
   rw [hlen] at hown'
   obtain ⟨ga,gc,rfl⟩:=zD8 hown'
   show K (Act.put _ (some 44) _) w3'
   refine hK.out _ _ hB3 (fun hHeld=>?_)
   clear hK K hown' hgrow hBg
   try simp only [Act.put,Qx,Qy,Qz]
   refine zF (i:=15) (d:=some 3) rfl rfl (hS:=hB3) ?_
   try simp only [Act.put,Qx,Qy,Qz]
   refine wpAnyH_done (by kernel_rfl) ?_ _
   refine NoPanic.normal ?_
   clear hSA hSB hSd hbA a0 hszA HOA
   go_wp2_with fail
   go_roundw
   case rel=>exact ⟨i+1,by omega,by go_num,HO4.out,hB3⟩
   case measure=>simp [intOf];omega
  ·obtain rfl:i=64:=by omega
   go_wp2
   go_ret
   exact ⟨_,rfl,HO0'.out,HB.out⟩
theorem zR1 (q o:Nat)(z x y:Int)(b n cap:Nat)(G:Nat→yC)(w:World)(ht:zPv w q o z x y (.slice (some ⟨b,0,none⟩) n cap))(hg:zA4 w b 0 n G)(hbl:b<w.heap.size)(hs:yM n G) :
  Calls Tryz.prog 102 #[.pointer (some ⟨q,o,none⟩)] w fun e w'=>e=.returned (.int .i64 (rtC z x y n G))∧Bw w w':=by
 have hql:q<w.heap.size:=World.block_lt_of_cell? _ _ ht.1
 have HT:Hid (zPv w q o z x y (.slice (some ⟨b,0,none⟩) n cap)):=ht
 have HG:Hid (zA4 w b 0 n G):=hg
 have HS:Hid (yM n G):=hs
 have HK:Hid (rtC z x y n G=if zC9 z x y=0 then (if yK n G=0 then (if zIh n G=true then 0 else 1) else yK n G) else zC9 z x y):=rfl
 obtain ⟨p0,p1,p2,p3⟩:=ht
 clear hg hs
 go_enter Tryz.func102,Tryz.ntmps102
 go_wp2_with fail
 refine (zDe z x y _).mono ?_
 rintro e w1 ⟨rfl,hb1⟩
 obtain ⟨q0,q1,q2,q3⟩:=HT.out.below hb1 hql
 have HB1:Hid (Bw w w1):=hb1
 have hql1:q<w1.heap.size:=Nat.lt_of_lt_of_le hql hb1.size
 clear p0 p1 p2 p3 hb1
 by_cases hr:zC9 z x y=0
 ·rw [hr]
  rw [if_pos hr] at HK
  go_wp2_with fail
  refine (zR3 b n cap G _ (HG.out.below HB1.out hbl) (Nat.lt_of_lt_of_le hbl HB1.out.size) HS.out).mono ?_
  rintro e w2 ⟨rfl,hb2⟩
  have HB2:Hid (Bw w w2):=zA HB1.out hb2
  obtain ⟨t0,t1,t2,t3⟩:=HT.out.below HB2.out hql
  clear q0 q1 q2 q3 hb2
  by_cases hf:yK n G=0
  ·rw [hf]
   rw [if_pos hf] at HK
   go_wp2_with fail
   refine (zK1 b n cap G _ (HG.out.below HB2.out hbl) (Nat.lt_of_lt_of_le hbl HB2.out.size) HS.out.1).mono ?_
   rintro e w3 ⟨rfl,hb3⟩
   have HB3:Hid (Bw w w3):=zA HB2.out hb3
   clear hb3 t0 t1 t2 t3
   cases ho:zIh n G
   ·rw [ho] at HK
    go_wp2
    go_ret
    exact ⟨zD (by rw [HK.out];rfl),HB3.out⟩
   ·rw [ho] at HK
    go_wp2
    go_ret
    exact ⟨zD (by rw [HK.out];rfl),HB3.out⟩
  ·rw [if_neg hf] at HK
   have hcb:(yK n G == 0)=false:=by simpa using hf
   generalize yK n G=fc at *
   clear hf
   go_wp2
   go_ret
   exact ⟨zD HK.out.symm,HB2.out⟩
 ·rw [if_neg hr] at HK
  have hcb:(zC9 z x y == 0)=false:=by simpa using hr
  generalize zC9 z x y=rc at *
  clear hr
  go_wp2
  go_ret
  exact ⟨zD HK.out.symm,HB1.out⟩
def uR (n m:Nat)(I J:Nat→Int):Bool:=decide (n=m) && decide (∀ i,i<n→I i=J i)
theorem zGv {n m:Nat}{I J:Nat→Int}(h:n≠m):uR n m I J=false:=by simp [uR,h]
theorem zMf {n:Nat}{I J:Nat→Int}(h:∀ i,i<n→I i=J i):uR n n I J=true:=by simp [uR];exact h
theorem zP4 {n m k:Nat}{I J:Nat→Int}(hk:k<n)(h:I k≠J k):uR n m I J=false:=by
 unfold uR
 rw [decide_eq_false (p:=∀ i,i<n→I i=J i) (fun h'=>h (h' k hk))];simp
theorem zPc (a a':Option Addr)(n m cap cap':Nat)(I J:Nat→Int)(w:World)(hp:zCp w a n I)(hq:zCp w a' m J)(hn:n≤1048576) :
  Calls Tryz.prog 103 #[.slice a n cap,.slice a' m cap'] w fun e w'=>e=.returned (.bool (uR n m I J))∧Bw w w':=by
 have HP:Hid (zCp w a n I):=hp
 have HQ:Hid (zCp w a' m J):=hq
 clear hp hq
 by_cases hnm:n=m
 ·subst hnm
  go_enter Tryz.func103,Tryz.ntmps103
  go_wp2_with fail
  go_loopw [5] (fun i wr=>∃ k:Nat,k≤n∧i=.int .i64 (k:Int)∧(∀ j,j<k→I j=J j)∧Bw w wr) (fun i _=>n - (intOf i).toNat)
  case atStart=>exact ⟨0,by omega,rfl,fun j hj=>absurd hj (Nat.not_lt_zero _),Below.refl _ _⟩
  case round =>
   obtain ⟨k,hk,rfl,hno,hB⟩:=hrel
   have HN:Hid (∀ j,j<k→I j=J j):=hno
   have HB:Hid (Bw w wr):=hB
   by_cases hlt:k<n
   ·rcases HP.out with h0 | ⟨b,off,rfl,hb,hpt⟩
    ·omega
    rcases HQ.out with h0 | ⟨b',off',rfl,hb',hpt'⟩
    ·omega
    have q0:wr.cell? ⟨b,off+k,none⟩=some (.int .i64 (I k)):=(hB.cell (p:=⟨b,off+k,none⟩) hb).trans (hpt k hlt)
    have q1:wr.cell? ⟨b',off'+k,none⟩=some (.int .i64 (J k)):=(hB.cell (p:=⟨b',off'+k,none⟩) hb').trans (hpt' k hlt)
    have hi:(k:Int)<(n:Int):=by omega
    have hi0:(0:Int)≤(k:Int):=by omega
    clear hno hB hpt hpt'
    by_cases hE:I k=J k
    ·have HN2:Hid (∀ j,j<k+1→I j=J j):=fun j hj=>by
      by_cases e:j=k
      ·rw [e];exact hE
      ·exact HN.out j (by omega)
     rw [hE] at q0
     clear hE
     generalize J k=v at *
     go_wp2_with fail
     go_quiet (fail)
     go_wp2_with fail
     exact ⟨⟨k+1,by omega,by simp,HN2.out,below_drewN HB.out _⟩,by simp [intOf];omega⟩
    ·have HY:Hid (uR n n I J=false):=zP4 hlt hE
     generalize I k=u at *
     generalize J k=v at *
     have hcb:(u == v)=false:=by simpa using hE
     go_wp2_with fail
     go_quiet (fail)
     go_wp2
     go_ret
     exact ⟨zG HY.out.symm,below_drewN HB.out _⟩
   ·obtain rfl:n=k:=by omega
    have HY:Hid (uR n n I J=true):=zMf HN.out
    go_wp2
    go_ret
    exact ⟨zG HY.out.symm,HB.out⟩
 ·have HY:Hid (uR n m I J=false):=zGv hnm
  have hne:((n:Int) == (m:Int))=false:=by simp;omega
  have hne2:¬ ((n:Int)=(m:Int)):=by omega
  go_enter Tryz.func103,Tryz.ntmps103
  go_wp2
  go_ret
  exact ⟨zG HY.out.symm,Below.refl _ _⟩
def isK (e:Kp)(z x y:Int):Bool:=(e.z == z) && ((e.x == x) && (e.y == y))
def atK (n:Nat)(K:Nat→Kp)(z x y:Int):Int:=uJ (fun i=>isK (K i) z x y) n
def RK (w:World)(p:Nat)(z x y:Int):Prop:=w.cell? ⟨p,0,none⟩=some (.int .i64 z)∧w.cell? ⟨p,1,none⟩=some (.int .i64 x)∧w.cell? ⟨p,2,none⟩=some (.int .i64 y)
theorem RK.below {w w':World}{p:Nat}{z x y:Int}(h:RK w p z x y)(hb:Below w.heap.size w w'):RK w' p z x y :=
 have hl:=World.block_lt_of_cell? _ _ h.1
 ⟨(hb.cell (p:=⟨p,0,none⟩) hl).trans h.1,(hb.cell (p:=⟨p,1,none⟩) hl).trans h.2.1,(hb.cell (p:=⟨p,2,none⟩) hl).trans h.2.2⟩
def zOa (w:World)(k r:Kp):Prop:=(r.z=k.z∧r.x=k.x∧r.y=k.y)∧r.fn=k.fn∧r.m=k.m∧(zGq w r.fa k.fn r.F∧∀ i,i<k.fn→(r.F i).same (k.F i))∧zCp w r.ia k.m k.I
theorem zOa.below {w w':World}{k r:Kp}(h:zOa w k r)(hb:Below w.heap.size w w'):zOa w' k r:=by
 obtain ⟨h1,h2,h3,⟨h4,h5⟩,h6⟩:=h
 exact ⟨h1,h2,h3,⟨h4.below hb,h5⟩,h6.below hb⟩
def zLw (w:World)(a:Option Addr)(n:Nat)(K R:Nat→Kp):Prop:=n=0∨∃ g,a=some ⟨g,0,none⟩∧g<w.heap.size∧∀ i,i<n→zJ3 w g (i * 5) (R i)∧zOa w (K i) (R i)
theorem zLw.below {w w':World}{a:Option Addr}{n:Nat}{K R:Nat→Kp}(h:zLw w a n K R)(hb:Below w.heap.size w w'):zLw w' a n K R :=
 h.imp id (fun ⟨g,e,h1,h2⟩=>⟨g,e,Nat.lt_of_lt_of_le h1 hb.size,fun i hi=>⟨(h2 i hi).1.below hb h1,(h2 i hi).2.below hb⟩⟩)
theorem zUt (z x y:Int)(a a':Option Addr)(n cap cap':Nat)(G H:Nat→yC)(w:World)(hg:zGq w a n G)(hh:zGq w a' n H)(hs:∀ i,i<n→(G i).same (H i))(hn:n≤1048576)(hk:∀ i,i<n→(H i).n≤1048576) :
  Calls Tryz.prog 176 #[.agg #[.int .i64 z,.int .i64 x,.int .i64 y,.slice a n cap],.agg #[.int .i64 z,.int .i64 x,.int .i64 y,.slice a' n cap']] w fun e w'=>e=.returned (.bool true)∧Bw w w':=by
 have HG:Hid (zGq w a n G):=hg
 have HH:Hid (zGq w a' n H):=hh
 have HS:Hid (∀ i,i<n→(G i).same (H i)):=hs
 have HK:Hid (∀ i,i<n→(H i).n≤1048576):=hk
 clear hg hh hs hk
 go_enter Tryz.func176,Tryz.ntmps176
 go_wp2_with fail
 generalize hW:((w.alloc _).alloc _:World)=W
 have hB:Bw w W:=by subst hW;exact Qb
 have HB:Hid (Bw w W):=hB
 have c0:W.cell? ⟨w.heap.size,3,none⟩=some (.slice a n cap):=by subst hW;simp [go_sem]
 have c1:W.cell? ⟨w.heap.size+1,3,none⟩=some (.slice a' n cap'):=by subst hW;simp [go_sem]
 clear hW hB
 refine (zEn z x y _).mono ?_
 rintro e w1 ⟨rfl,hb1⟩
 have d0:=zLs hb1 c0
 have d1:=zLs hb1 c1
 have hB1:=zA HB.out hb1
 have HB1:Hid (Bw w w1):=hB1
 have HC:=zW2 a a' n cap cap' G H w1 (HG.out.below hB1) (HH.out.below hB1) HS.out hn HK.out
 clear c0 c1 hb1 hB1
 go_wp2_with fail
 refine Calls.mono HC ?_
 rintro e w2 ⟨rfl,hb2⟩
 go_wp2
 go_ret
 exact ⟨rfl,zA HB1.out hb2⟩
theorem zNm (k a c:Kp)(w:World)(ha:zOa w k a)(hc:zOa w k c)(hs:vY k) :
  Calls Tryz.prog 137 #[kpV a,kpV c] w fun e w'=>e=.returned (.bool true)∧Bw w w':=by
 obtain ⟨⟨e1,e2,e3⟩,e4,e5,⟨hF,hFs⟩,hN⟩:=ha
 obtain ⟨⟨d1,d2,d3⟩,d4,d5,⟨hG,hGs⟩,hM⟩:=hc
 unfold kpV
 rw [e1,e2,e3,e4,e5,d1,d2,d3,d4,d5]
 have HEt:Hid (∀ W,Bw w W→Calls Tryz.prog 176 #[.agg #[.int .i64 k.z,.int .i64 k.x,.int .i64 k.y,.slice a.fa k.fn a.fc],.agg #[.int .i64 k.z,.int .i64 k.x,.int .i64 k.y,.slice c.fa k.fn c.fc]] W fun e w'=>e=.returned (.bool true)∧Bw W w'):=fun W h =>
  zUt k.z k.x k.y a.fa c.fa k.fn a.fc c.fc a.F c.F W (hF.below h) (hG.below h) (fun i hi=>yC.same_trans (hFs i hi) (yC.same_symm (hGs i hi))) hs.1.1 (fun i hi=>by rw [(hGs i hi).2.2.2.2.1];exact (hs.1.2 i hi).1)
 have HN:Hid (zCp w a.ia k.m k.I):=hN
 have HM:Hid (zCp w c.ia k.m k.I):=hM
 have hm:=hs.2
 clear hF hG hFs hGs hN hM hs e1 e2 e3 e4 e5 d1 d2 d3 d4 d5
 generalize a.fa=afa at *
 generalize c.fa=cfa at *
 generalize a.fc=afc at *
 generalize c.fc=cfc at *
 generalize a.ia=aia at *
 generalize c.ia=cia at *
 generalize a.ic=aic at *
 generalize c.ic=cic at *
 go_enter Tryz.func137,Tryz.ntmps137
 go_wp2_with fail
 generalize hW:((w.alloc _).alloc _:World)=W
 have hB0:Bw w W:=by subst hW;exact Qb
 have c4:∀ W',Bw W W'→W'.cell? ⟨w.heap.size,4,none⟩=some (.slice aia k.m aic):=fun W' h=>by rw [h.cell (by subst hW;simp;omega)];subst hW;simp [go_sem]
 have d4:∀ W',Bw W W'→W'.cell? ⟨w.heap.size+1,4,none⟩=some (.slice cia k.m cic):=fun W' h=>by rw [h.cell (by subst hW;simp)];subst hW;simp [go_sem]
 clear hW
 refine (HEt.out W hB0).mono ?_
 rintro e w1 ⟨rfl,hb1⟩
 have g4:=c4 w1 hb1
 have l4:=d4 w1 hb1
 have hB1:Bw w w1:=zA hB0 hb1
 clear c4 d4 hb1 hB0
 go_wp2_with fail
 refine (zFj _ _ k.m _ _ k.I _ (HN.out.below hB1) (HM.out.below hB1) hm).mono ?_
 rintro e w2 ⟨rfl,hb2⟩
 have HB2:Hid (Bw w w2):=zA hB1 hb2
 clear hb2
 go_wp2
 go_ret
 exact ⟨rfl,HB2.out⟩
theorem zLk (a' c':Option Addr)(n ca cc:Nat)(K A H:Nat→Kp)(w:World)(ha:zLw w a' n K A)(hh:zLw w c' n K H)(hs:zI n K) :
  Calls Tryz.prog 82 #[.slice a' n ca,.slice c' n cc] w fun e w'=>e=.returned (.bool true)∧Bw w w':=by
 have HA:Hid (zLw w a' n K A):=ha
 have HH:Hid (zLw w c' n K H):=hh
 have HS:Hid (zI n K):=hs
 have hn:=hs.1
 clear ha hh hs
 go_enter Tryz.func82,Tryz.ntmps82
 go_wp2
 go_loopw [5] (fun i wr=>∃ k:Nat,k≤n∧i=.int .i64 k∧Bw w wr) (fun i _=>n - (intOf i).toNat)
 case atStart=>exact ⟨0,by omega,rfl,Below.refl _ _⟩
 case round =>
  obtain ⟨k,hk,rfl,hB⟩:=hrel
  by_cases hlt:k<n
  ·rcases HA.out.below hB with h0 | ⟨b,rfl,hbl,hAr⟩
   ·omega
   rcases HH.out.below hB with h0 | ⟨d,rfl,hdl,hHr⟩
   ·omega
   have HAr:Hid (∀ W',Bw wr W'→zJ3 W' b (k * 5) (A k)∧zOa W' (K k) (A k)):=fun W' h=>⟨(hAr k hlt).1.below h hbl,(hAr k hlt).2.below h⟩
   have HHr:Hid (∀ W',Bw wr W'→zJ3 W' d (k * 5) (H k)∧zOa W' (K k) (H k)):=fun W' h=>⟨(hHr k hlt).1.below h hdl,(hHr k hlt).2.below h⟩
   clear hAr hHr
   have a0:∀ W',Bw wr W'→W'.cell? ⟨b,k * 5,none⟩=some (.int .i64 (A k).z):=fun W' h=>(HAr.out W' h).1.1
   have a1:∀ W',Bw wr W'→W'.cell? ⟨b,k * 5+1,none⟩=some (.int .i64 (A k).x):=fun W' h=>(HAr.out W' h).1.2.1
   have a2:∀ W',Bw wr W'→W'.cell? ⟨b,k * 5+2,none⟩=some (.int .i64 (A k).y):=fun W' h=>(HAr.out W' h).1.2.2.1
   have a3:∀ W',Bw wr W'→W'.cell? ⟨b,k * 5+3,none⟩=some (.slice (A k).fa (A k).fn (A k).fc):=fun W' h=>(HAr.out W' h).1.2.2.2.1
   have a4:∀ W',Bw wr W'→W'.cell? ⟨b,k * 5+4,none⟩=some (.slice (A k).ia (A k).m (A k).ic):=fun W' h=>(HAr.out W' h).1.2.2.2.2
   have h0:∀ W',Bw wr W'→W'.cell? ⟨d,k * 5,none⟩=some (.int .i64 (H k).z):=fun W' h=>(HHr.out W' h).1.1
   have h1:∀ W',Bw wr W'→W'.cell? ⟨d,k * 5+1,none⟩=some (.int .i64 (H k).x):=fun W' h=>(HHr.out W' h).1.2.1
   have h2:∀ W',Bw wr W'→W'.cell? ⟨d,k * 5+2,none⟩=some (.int .i64 (H k).y):=fun W' h=>(HHr.out W' h).1.2.2.1
   have h3:∀ W',Bw wr W'→W'.cell? ⟨d,k * 5+3,none⟩=some (.slice (H k).fa (H k).fn (H k).fc):=fun W' h=>(HHr.out W' h).1.2.2.2.1
   have h4:∀ W',Bw wr W'→W'.cell? ⟨d,k * 5+4,none⟩=some (.slice (H k).ia (H k).m (H k).ic):=fun W' h=>(HHr.out W' h).1.2.2.2.2
   have HEQ:Hid (∀ W',Bw wr W'→Calls Tryz.prog 137 #[kpV (A k),kpV (H k)] W' fun e w'=>e=.returned (.bool true)∧Below W'.heap.size W' w'):=fun W' h=>zNm (K k) (A k) (H k) W' (HAr.out W' h).2 (HHr.out W' h).2 (HS.out.2 k hlt)
   have HB:Hid (Bw w wr):=hB
   have HLT:Hid (k<n):=hlt
   have hr:Bw wr wr:=Below.refl _ _
   clear hB
   have hi:(k:Int)<(n:Int):=by omega
   have hi0:(0:Int)≤(k:Int):=by omega
   go_wp2
   go_region_held3 (fun W'=>Bw wr W') ((repeat (first|exact Qr _ _|assumption|refine Qd ?_|refine Qa ?_ _|refine Qt ?_|refine Qs ?_ _|refine Qo ?_ ?_ _ _)))
    (first
     | (go_at_call 137;refine (HEQ.out _ (by assumption)).mono ?_;rintro e w' ⟨rfl,hb⟩)
     | fail)
   go_wp2
   go_roundw
   case rel=>exact ⟨k+1,by have:=HLT.out;omega,by go_num,zA HB.out (by assumption)⟩
   case measure=>have:=HLT.out;simp [intOf];omega
  ·go_wp2
   go_ret
   exact ⟨rfl,hB⟩
theorem zLm (s:Int)(a c:Option Addr)(n ca cc:Nat)(K A H:Nat→Kp)(w:World)(ha:zLw w a n K A)(hh:zLw w c n K H)(hs:zI n K) :
  Calls Tryz.prog 39 #[caV s (.slice a n ca),caV s (.slice c n cc)] w fun e w'=>e=.returned (.bool true)∧Bw w w':=by
 have HA:Hid (zLw w a n K A):=ha
 have HH:Hid (zLw w c n K H):=hh
 clear ha hh
 go_enter Tryz.func39,Tryz.ntmps39
 go_wp2_with fail
 generalize hW:((w.alloc _).alloc _:World)=W
 have hB0:Bw w W:=by subst hW;exact Qb
 clear hW
 refine (zLk a c n ca cc K A H W (HA.out.below hB0) (HH.out.below hB0) hs).mono ?_
 rintro e w1 ⟨rfl,hb1⟩
 go_wp2
 go_ret
 exact ⟨rfl,zA hB0 hb1⟩
end Go.Proofs.YtkjbafcalamgnaaGreat
