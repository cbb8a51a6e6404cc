/- Texts. -/
import Derived.Test.YtpaiholildedcaaGreatVLabelsIn21
set_option linter.unusedSimpArgs false
set_option linter.unusedVariables false
set_option maxRecDepth 100000
set_option maxHeartbeats 32000000
namespace Go.Proofs.YtpaiholildedcaaGreat
open Go.RowKit
abbrev caV (s:Int)(v:Value):Value:=.agg #[.int .i64 s,v]
theorem zLn (B C b d n:Nat)(K A H:Nat→Kp)(w:World)(ha:yB w B b n K A)(hh:yB w C d n K H)(hs:zL n K) :
  Calls Tryz.prog 99 #[.slice (some ⟨b,0,none⟩) n n,.slice (some ⟨d,0,none⟩) n n] w fun e w'=>e=.returned (.bool true)∧Bw w w':=by
 have HA:Hid (yB w B b n K A):=ha
 have HH:Hid (yB w C d n K H):=hh
 have HS:Hid (zL n K):=hs
 have hn:=hs.1
 clear ha hh hs
 go_enter Tryz.func99,Tryz.ntmps99
 go_wp2
 go_loopw [5] (fun i wr=>∃ k:Nat,k≤n∧i=.int .i64 k∧Bw w wr) (fun i _=>n - (intOf i).toNat)
 case atStart=>exact ⟨0,by omega,rfl,Below.refl _ _⟩
 case round =>
  obtain ⟨k,hk,rfl,hB⟩:=hrel
  by_cases hlt:k<n
  ·have HAr:Hid (yB wr B b n K A):=HA.out.below hB
   have HHr:Hid (yB wr C d n K H):=HH.out.below hB
   have a0:∀ W',Bw wr W'→W'.cell? ⟨b,k * 5,none⟩=some (.int .i64 (A k).z):=fun W' h=>((HAr.out.below h).2.2 k hlt).1.1
   have a1:∀ W',Bw wr W'→W'.cell? ⟨b,k * 5+1,none⟩=some (.int .i64 (A k).x):=fun W' h=>((HAr.out.below h).2.2 k hlt).1.2.1
   have a2:∀ W',Bw wr W'→W'.cell? ⟨b,k * 5+2,none⟩=some (.int .i64 (A k).y):=fun W' h=>((HAr.out.below h).2.2 k hlt).1.2.2.1
   have a3:∀ W',Bw wr W'→W'.cell? ⟨b,k * 5+3,none⟩=some (.slice (A k).fa (A k).fn (A k).fc):=fun W' h=>((HAr.out.below h).2.2 k hlt).1.2.2.2.1
   have a4:∀ W',Bw wr W'→W'.cell? ⟨b,k * 5+4,none⟩=some (.slice (A k).ia (A k).m (A k).ic):=fun W' h=>((HAr.out.below h).2.2 k hlt).1.2.2.2.2
   have h0:∀ W',Bw wr W'→W'.cell? ⟨d,k * 5,none⟩=some (.int .i64 (H k).z):=fun W' h=>((HHr.out.below h).2.2 k hlt).1.1
   have h1:∀ W',Bw wr W'→W'.cell? ⟨d,k * 5+1,none⟩=some (.int .i64 (H k).x):=fun W' h=>((HHr.out.below h).2.2 k hlt).1.2.1
   have h2:∀ W',Bw wr W'→W'.cell? ⟨d,k * 5+2,none⟩=some (.int .i64 (H k).y):=fun W' h=>((HHr.out.below h).2.2 k hlt).1.2.2.1
   have h3:∀ W',Bw wr W'→W'.cell? ⟨d,k * 5+3,none⟩=some (.slice (H k).fa (H k).fn (H k).fc):=fun W' h=>((HHr.out.below h).2.2 k hlt).1.2.2.2.1
   have h4:∀ W',Bw wr W'→W'.cell? ⟨d,k * 5+4,none⟩=some (.slice (H k).ia (H k).m (H k).ic):=fun W' h=>((HHr.out.below h).2.2 k hlt).1.2.2.2.2
   have HEQ:Hid (∀ W',Bw wr W'→Calls Tryz.prog 149 #[kpV (A k),kpV (H k)] W' fun e w'=>e=.returned (.bool true)∧Below W'.heap.size W' w'):=fun W' h=>zN7 B C (K k) (A k) (H k) W' ((HAr.out.below h).2.2 k hlt).2 ((HHr.out.below h).2.2 k hlt).2 (HS.out.2 k hlt)
   have HB:Hid (Bw w wr):=hB
   have HLT:Hid (k<n):=hlt
   have hr:Bw wr wr:=Below.refl _ _
   clear hB
   have hi:(k:Int)<(n:Int):=by omega
   have hi0:(0:Int)≤(k:Int):=by omega
   go_wp2
   go_region_held3 (fun W'=>Bw wr W') ((repeat (first|exact Qr _ _|assumption|refine Qd ?_|refine Qa ?_ _|refine Qt ?_|refine Qs ?_ _|refine Qo ?_ ?_ _ _)))
    (first
     | (go_at_call 149;refine (HEQ.out _ (by assumption)).mono ?_;rintro e w' ⟨rfl,hb⟩)
     | fail)
   go_wp2
   go_roundw
   case rel=>exact ⟨k+1,by have:=HLT.out;omega,by go_num,zA HB.out (by assumption)⟩
   case measure=>have:=HLT.out;simp [intOf];omega
  ·go_wp2
   go_ret
   exact ⟨rfl,hB⟩
theorem zRh (z x y:Int)(a:Option Addr)(n cap left:Nat)(F:Nat→zS)(w:World)(hl:left≤1048576)(hf:zMs w a n F)(hc:zGn n F) :
  Calls Tryz.prog 183 #[zOx z x y (.slice a n cap),.int .i64 (left:Int)] w fun e w'=>(e=.returned (.int .i64 (-1))∨∃ m:Nat,m≤left∧yU n F∧e=.returned (.int .i64 m))∧Bw w w':=by
 have HF:Hid (zMs w a n F):=hf
 have HC:Hid (zGn n F):=hc
 clear hf hc
 go_enter Tryz.func183,Tryz.ntmps183
 go_wp2_with fail
 generalize hW:(w.alloc _:World)=W
 have hB0:Bw w W:=by subst hW;exact Qb
 clear hW
 refine (zE8 a n cap F left _ hl (HF.out.below hB0) HC.out).mono ?_
 rintro e w1 ⟨rfl | ⟨m,hm,hS,rfl⟩,hb1⟩
 ·go_wp2
  go_ret
  exact ⟨.inl rfl,Qb⟩
 ·have hneg:¬ ((m:Nat):Int)<0:=by omega
  have HS:Hid (yU n F):=hS
  clear hS
  go_wp2
  go_ret
  exact ⟨.inr ⟨m,hm,HS.out,rfl⟩,Qb⟩
theorem zM4 (a:Option Addr)(n cap left:Nat)(w:World)(hl:left≤1048576)(hn:n≤maxLen) :
  Calls Tryz.prog 184 #[.slice a n cap,.int .i64 (left:Int)] w fun e w'=>(e=.returned (.int .i64 (-1))∨∃ m:Nat,m≤left∧n≤1048576∧e=.returned (.int .i64 m))∧Bw w w':=by
 unfold maxLen at hn
 by_cases h:left<n
 ·have hneg:(left:Int) - (n:Int)<0:=by omega
  go_enter Tryz.func184,Tryz.ntmps184
  go_wp2
  go_ret
  exact ⟨.inl rfl,Qb⟩
 ·have hneg:¬ (left:Int) - (n:Int)<0:=by omega
  go_enter Tryz.func184,Tryz.ntmps184
  go_wp2
  go_ret
  exact ⟨.inr ⟨left - n,by omega,by omega,zE (by omega)⟩,Qb⟩
theorem zRi (k:Kp)(left:Nat)(w:World)(hl:left≤1048576)(hk:zOh w k)(hc:zOi k) :
  Calls Tryz.prog 138 #[kpV k,.int .i64 (left:Int)] w fun e w'=>(e=.returned (.int .i64 (-1))∨∃ m:Nat,m≤left∧vV k∧e=.returned (.int .i64 m))∧Bw w w':=by
 have HK:Hid (zOh w k):=hk
 have HC:Hid (zOi k):=hc
 clear hk hc
 go_enter Tryz.func138,Tryz.ntmps138
 go_wp2_with fail
 generalize hW:(w.alloc _:World)=W
 have hB0:Bw w W:=by subst hW;exact Qb
 have c4:∀ W',Bw W W'→W'.cell? ⟨w.heap.size,4,none⟩=some (.slice k.ia k.m k.ic):=fun W' h=>by rw [h.cell (by subst hW;simp)];subst hW;simp [go_sem]
 clear hW
 refine (zRh k.z k.x k.y k.fa k.fn k.fc left k.F W hl (HK.out.below hB0).1 HC.out.1).mono ?_
 rintro e w1 ⟨rfl | ⟨m,hm,hS,rfl⟩,hb1⟩
 ·go_wp2
  go_ret
  exact ⟨.inl rfl,zA hB0 hb1⟩
 ·have hneg:¬ ((m:Nat):Int)<0:=by omega
  have g4:=c4 w1 hb1
  have HS:Hid (yU k.fn k.F):=hS
  have hB1:Bw w w1:=zA hB0 hb1
  clear hS hb1 hB0 c4
  go_wp2_with fail
  refine (zM4 k.ia k.m k.ic m w1 (by omega) HC.out.2).mono ?_
  rintro e w2 ⟨rfl | ⟨q,hq,hS2,rfl⟩,hb2⟩
  ·go_wp2
   go_ret
   exact ⟨.inl rfl,zA hB1 hb2⟩
  ·have hneg2:¬ ((q:Nat):Int)<0:=by omega
   have HS2:Hid (k.m≤1048576):=hS2
   clear hS2
   go_wp2
   go_ret
   exact ⟨.inr ⟨q,by omega,⟨HS.out,HS2.out⟩,rfl⟩,zA hB1 hb2⟩
theorem zO1 (a:Option Addr)(n cap left:Nat)(K:Nat→Kp)(w:World)(hl:left≤1048576)(hk:zDn w a n K)(hc:zA5 n K) :
  Calls Tryz.prog 88 #[.slice a n cap,.int .i64 (left:Int)] w fun e w'=>(e=.returned (.int .i64 (-1))∨∃ m:Nat,m≤left∧zL n K∧e=.returned (.int .i64 m))∧Bw w w':=by
 have HK:Hid (zDn w a n K):=hk
 obtain ⟨hc1,hc2⟩:=hc
 have HC:Hid (∀ i,i<n→zOi (K i)):=hc2
 unfold maxLen at hc1
 clear hk hc2
 by_cases h:left<n
 ·have hneg:(left:Int) - (n:Int)<0:=by omega
  go_enter Tryz.func88,Tryz.ntmps88
  go_wp2
  go_ret
  exact ⟨.inl rfl,Qb⟩
 ·have hneg:¬ (left:Int) - (n:Int)<0:=by omega
  go_enter Tryz.func88,Tryz.ntmps88
  go_wp2_with fail
  go_loopw [1,5] (fun v i wr=>∃ k m:Nat,k≤n∧i=.int .i64 (k:Int)∧v=.int .i64 (m:Int)∧m≤left∧(∀ j,j<k→vV (K j))∧Bw w wr) (fun _ i _=>n - (intOf i).toNat)
  case atStart=>exact ⟨0,left - n,by omega,rfl,by congr 1;omega,by omega,fun j hj=>absurd hj (Nat.not_lt_zero _),Below.refl _ _⟩
  case round =>
   obtain ⟨k,m,hk,rfl,rfl,hm,hS,hB⟩:=hrel
   have HS:Hid (∀ j,j<k→vV (K j)):=hS
   have HB:Hid (Bw w wr):=hB
   clear hS
   by_cases hlt:k<n
   ·rcases HK.out with h0 | ⟨b,off,rfl,hbl,hpt⟩
    ·omega
    obtain ⟨⟨f0,f1,f2,f3,f4⟩,hkis⟩:=(hpt.below hB hbl) k hlt
    have HKI:Hid (zOh wr (K k)):=hkis
    have HLT:Hid (k<n):=hlt
    have hi:(k:Int)<(n:Int):=by omega
    have hi0:(0:Int)≤(k:Int):=by omega
    clear hB hpt hkis
    go_wp2_with fail
    refine (zRi (K k) m _ (by omega) HKI.out (HC.out k hlt)).mono ?_
    rintro e w1 ⟨rfl | ⟨q,hq,hS1,rfl⟩,hb1⟩
    ·go_wp2
     go_ret
     exact ⟨.inl rfl,zA HB.out hb1⟩
    ·have hneg2:¬ ((q:Nat):Int)<0:=by omega
     have HS1:Hid (vV (K k)):=hS1
     have HB1:Hid (Bw w w1):=zA HB.out hb1
     clear hS1 hb1 f0 f1 f2 f3 f4
     go_wp2_with fail
     go_roundw
     case rel=>exact ⟨k+1,q,by have:=HLT.out;omega,by go_num,rfl,by omega,fun j hj=>by
       by_cases e:j=k
       ·rw [e];exact HS1.out
       ·exact HS.out j (by omega),HB1.out⟩
     case measure=>have:=HLT.out;simp [intOf];omega
   ·obtain rfl:n=k:=by omega
    go_wp2
    go_ret
    exact ⟨.inr ⟨m,hm,⟨by omega,HS.out⟩,rfl⟩,HB.out⟩
theorem yB.mid {w w':World}{B C b n lo hi:Nat}{K A:Nat→Kp}(h:yB w B b n K A)(hM:zW lo hi w w')(hh:hi≤b):yB w' B b n K A :=
 ⟨h.1,Nat.lt_of_lt_of_le h.2.1 hM.size,fun i hi'=>by
  obtain ⟨⟨h0,h1,h2,h3,h4⟩,h5⟩:=h.2.2 i hi'
  exact ⟨⟨hM.cell h0 (.inr hh),hM.cell h1 (.inr hh),hM.cell h2 (.inr hh),hM.cell h3 (.inr hh),hM.cell h4 (.inr hh)⟩,h5.mid hM (by have:=h.1;omega) (Nat.le_refl _)⟩⟩
theorem zOz (V:World)(a b:Value)(t:TypeId):zD (V.alloc (.cells #[a,b] t)) V.heap.size 2:=fun o ho=>by
 have hc:o=0∨o=1:=by omega
 rcases hc with rfl | rfl <;> exact ⟨⟨_,by simp [go_sem];rfl⟩,by simp [go_sem]⟩
theorem resTC {T:Array Value}{Wf:World}{r:Nat}{s:Int}{v:Value}(hT:T[2]?.getD undef=.pointer (some ⟨r,0,none⟩))(h0:Wf.cell? ⟨r,0,none⟩=some (.int .i64 s))(h1:Wf.cell? ⟨r,1,none⟩=some v) :
  (results Tryz.f45 T).run Tryz.prog Wf=.ok (caV s v) Wf:=by
 simp [results,Tryz.results45,go_sem,hT,h0,h1]
theorem zLo (s:Int)(B C b d n:Nat)(K A H:Nat→Kp)(w:World)(ha:yB w B b n K A)(hh:yB w C d n K H)(hs:zL n K) :
  Calls Tryz.prog 50 #[caV s (.slice (some ⟨b,0,none⟩) n n),caV s (.slice (some ⟨d,0,none⟩) n n)] w fun e w'=>e=.returned (.bool true)∧Bw w w':=by
 have HA:Hid (yB w B b n K A):=ha
 have HH:Hid (yB w C d n K H):=hh
 clear ha hh
 go_enter Tryz.func50,Tryz.ntmps50
 go_wp2_with fail
 generalize hW:((w.alloc _).alloc _:World)=W
 have hB0:Bw w W:=by subst hW;exact Qb
 clear hW
 refine (zLn B C b d n K A H W (HA.out.below hB0) (HH.out.below hB0) hs).mono ?_
 rintro e w1 ⟨rfl,hb1⟩
 go_wp2
 go_ret
 exact ⟨rfl,zA hB0 hb1⟩
def zLv (w:World)(q o:Nat)(z x y:Int)(v:Value):Prop:=w.cell? ⟨q,o,none⟩=some (.int .i64 z)∧w.cell? ⟨q,o+1,none⟩=some (.int .i64 x)∧w.cell? ⟨q,o+2,none⟩=some (.int .i64 y)∧w.cell? ⟨q,o+3,none⟩=some v
theorem zLv.below {w w':World}{q o B:Nat}{z x y:Int}{v:Value}(h:zLv w q o z x y v)(hb:Below B w w')(hq:q<B):zLv w' q o z x y v :=
 ⟨(hb.cell (p:=⟨q,o,none⟩) hq).trans h.1,(hb.cell (p:=⟨q,o+1,none⟩) hq).trans h.2.1,(hb.cell (p:=⟨q,o+2,none⟩) hq).trans h.2.2.1,(hb.cell (p:=⟨q,o+3,none⟩) hq).trans h.2.2.2⟩
theorem zIz (q o:Nat)(z X Y:Int)(b n cap:Nat)(G:Nat→zS)(w:World)(ht:zLv w q o z X Y (.slice (some ⟨b,0,none⟩) n cap))(hg:vY w b 0 n G)(hbl:b<w.heap.size)(hn:n≤12)(hok:∀ i,i<n→OkF (G i))(hr:zAv z X Y=true) :
  Calls Tryz.prog 141 #[.pointer (some ⟨q,o,none⟩)] w fun e w'=>∃ v,e=.returned v∧zAq w.heap.size w' v (zDw (yE G n z) (X * 8) (Y * 8) 64)∧Bw w w':=by
 obtain ⟨ii,hi,hz0,hz1,hz2⟩:=info_parts zHm
 have hql:q<w.heap.size:=World.block_lt_of_cell? _ _ ht.1
 have HP:Hid (∀ (W:World) (i:Nat),Bw w W→i<64→Calls Tryz.prog 187 #[.slice (some ⟨b,0,none⟩) n cap,.int .i64 z,.int .i64 (X * 8+((i % 8:Nat):Int)),.int .i64 (Y * 8+((i / 8:Nat):Int))] W fun e w'=>e=.returned (.int .i64 (yE G n z (X * 8+((i % 8:Nat):Int)) (Y * 8+((i / 8:Nat):Int))))∧Bw W w'):=fun W i hW hi =>
  zHa b n cap G z _ _ W (hg.below hW hbl) (Nat.lt_of_lt_of_le hbl hW.size) hn hok (zF4 hr _ _ (by omega) (by omega))
 have HT:Hid (zLv w q o z X Y (.slice (some ⟨b,0,none⟩) n cap)):=ht
 obtain ⟨⟨z0,z1⟩,⟨x0,x1⟩,y0,y1⟩:=zTc hr
 clear hg hok hr ht
 generalize yE G n z=F at *
 go_enter Tryz.func141,Tryz.ntmps141
 go_wp2_with fail
 generalize hW:(w.alloc _:World)=W
 have HB0:Hid (Bw w W):=by show Below _ _ _;subst hW;exact Qb
 have HO0:Hid (zAq w.heap.size W (.slice (some ⟨w.heap.size,0,none⟩) 0 0) (zDw F (X * 8) (Y * 8) 0)):=by
  show zAq _ _ _ _
  subst hW
  exact World.ownsRow_lit (base:=w.heap.size) w #[] 0 (Nat.le_refl _) (Nat.zero_le _) rfl
 clear hW
 go_loopw [3,4] (fun v j wr=>∃ i:Nat,i≤64∧j=.int .i64 (i:Int)∧zAq w.heap.size wr v (zDw F (X * 8) (Y * 8) i)∧Bw w wr) (fun _ j _=>64 - (intOf j).toNat)
 case atStart=>exact ⟨0,by omega,rfl,HO0.out,HB0.out⟩
 case round =>
  obtain ⟨i,hi64,rfl,hO,hB⟩:=hrel
  have HO0':Hid (zAq w.heap.size wr u3 (zDw F (X * 8) (Y * 8) i)):=hO
  have HB:Hid (Bw w wr):=hB
  clear hO hB
  by_cases hlt:i<64
  ·have hi':(i:Int)<64:=by omega
   obtain ⟨m,hm⟩:∃ m:Nat,m=i % 8:=⟨_,rfl⟩
   obtain ⟨p,hp⟩:∃ p:Nat,p=i / 8:=⟨_,rfl⟩
   have hmb:m<8:=by omega
   have hqb:p<8:=by omega
   have em:(i:Int).tmod 8=(m:Int):=by rw [Int.tmod_eq_emod_of_nonneg (by omega)];omega
   have eq':(i:Int).tdiv 8=(p:Int):=by rw [Int.tdiv_eq_ediv_of_nonneg (by omega)];omega
   have HSK:Hid (zDw F (X * 8) (Y * 8) (i+1)=zDw F (X * 8) (Y * 8) i ++ [F (X * 8+(m:Int)) (Y * 8+(p:Int))]):=by show _=_;rw [zRq,hm,hp]
   have HLn:Hid ((zDw F (X * 8) (Y * 8) i).length=i):=zRp _ _ _ _
   have HCU:Hid (∀ W',Bw w W'→Calls Tryz.prog 187 #[.slice (some ⟨b,0,none⟩) n cap,.int .i64 z,.int .i64 (X * 8+(m:Int)),.int .i64 (Y * 8+(p:Int))] W' fun e w'=>e=.returned (.int .i64 (F (X * 8+(m:Int)) (Y * 8+(p:Int))))∧Below W'.heap.size W' w'):=fun W' hb=>by have:=HP.out W' i hb hlt;rw [hm,hp];exact this
   clear hm hp
   have c0:∀ W',Bw w W'→W'.cell? ⟨q,o,none⟩=some (.int .i64 z):=fun W' h=>(HT.out.below h hql).1
   have c1:∀ W',Bw w W'→W'.cell? ⟨q,o+1,none⟩=some (.int .i64 X):=fun W' h=>(HT.out.below h hql).2.1
   have c2:∀ W',Bw w W'→W'.cell? ⟨q,o+2,none⟩=some (.int .i64 Y):=fun W' h=>(HT.out.below h hql).2.2.1
   have c3:∀ W',Bw w W'→W'.cell? ⟨q,o+3,none⟩=some (.slice (some ⟨b,0,none⟩) n cap):=fun W' h=>(HT.out.below h hql).2.2.2
   obtain ⟨va,vn,vc,hvs⟩:∃ va vn vc,u3=.slice va vn vc:=by
    obtain ⟨a',c',e',_,_⟩:=HO0'.out.own
    exact ⟨_,_,_,e'⟩
   subst hvs
   have HO:=HO0'
   have HBS:Hid (∀ b,(Value.slice va vn vc).ownBlock=some b→w.heap.size≤b):=fun b hb=>(World.ownsRow.lt HO.out b hb).1
   clear HO0'
   have mm0:IntKind.i64.wrap (X * 8)=X * 8:=IntWalk.i64_in _ (by omega)
   have mm1:IntKind.i64.wrap (Y * 8)=Y * 8:=IntWalk.i64_in _ (by omega)
   have ss0:IntKind.i64.wrap (X * 8+(m:Int))=X * 8+(m:Int):=IntWalk.i64_in _ (by omega)
   have ss1:IntKind.i64.wrap (Y * 8+(p:Int))=Y * 8+(p:Int):=IntWalk.i64_in _ (by omega)
   have qq1:IntKind.i64.wrap (p:Int)=(p:Int):=IntWalk.i64_in _ (by omega)
   have qq0:IntKind.i64.wrap (m:Int)=(m:Int):=IntWalk.i64_in _ (by omega)
   generalize F (X * 8+(m:Int)) (Y * 8+(p:Int))=G0 at *
   have g0:=c0 wr HB.out
   have g1:=c1 wr HB.out
   have g2:=c2 wr HB.out
   have g3:=c3 wr HB.out
   go_wp2_with fail
   refine wp_region_noPanic ?_
   refine wp_region_held_drew (S:=fun W'=>Bw w W') (by kernel_rfl) (by have:=HB.out;exact Qb) (fun hHeld=>?_)
   have hSd:Bw w wr.drew:=hHeld
   refine zC (i:=0) (d:=some 30) rfl rfl (hS:=hSd) ?_
   try simp only [Act.put,Qx,Qy,Qz]
   refine zC (i:=1) (d:=some 31) rfl rfl (hS:=hSd) ?_
   try simp only [Act.put,Qx,Qy,Qz]
   refine zC (i:=2) (d:=some 32) rfl rfl (hS:=hSd) ?_
   try simp only [Act.put,Qx,Qy,Qz]
   refine zC (i:=3) (d:=some 33) rfl rfl (hS:=hSd) ?_
   try simp only [Act.put,Qx,Qy,Qz]
   refine zC (i:=4) (d:=some 34) rfl rfl (hS:=hSd) ?_
   try simp only [Act.put,Qx,Qy,Qz]
   refine zC (i:=5) (d:=some 35) rfl rfl (hS:=hSd) ?_
   try simp only [Act.put,Qx,Qy,Qz]
   refine zC (i:=6) (d:=some 36) rfl rfl (hS:=hSd) ?_
   try simp only [Act.put,Qx,Qy,Qz]
   refine zC (i:=7) (d:=some 37) rfl rfl (hS:=hSd) ?_
   try simp only [Act.put,Qx,Qy,Qz]
   refine zC (i:=8) (d:=some 38) rfl rfl (hS:=hSd) ?_
   try simp only [Act.put,Qx,Qy,Qz]
   refine zC (i:=9) (d:=some 39) rfl rfl (hS:=hSd) ?_
   try simp only [Act.put,Qx,Qy,Qz]
   refine zC (i:=10) (d:=some 40) rfl rfl (hS:=hSd) ?_
   try simp only [Act.put,Qx,Qy,Qz]
   refine zC (i:=11) (d:=some 41) rfl rfl (hS:=hSd) ?_
   try simp only [Act.put,Qx,Qy,Qz]
   refine zN 12 fun K hK=>?_
   rw [if_pos (by rfl)]
   go_simp
   refine Calls.mono (HCU.out _ hSd) ?_
   rintro e wB ⟨rfl,hbB⟩
   have hSB:Bw w wB:=zA hSd hbB
   have HOB:Hid (zAq w.heap.size wB (.slice va vn vc) (zDw F (X * 8) (Y * 8) i)):=by
    have h1:zAq w.heap.size wr.drew (.slice va vn vc) (zDw F (X * 8) (Y * 8) i):=HO.out.below (by exact Qb)
    exact h1.below hbB
   go_wp2_with fail
   refine hK.out _ _ hSB (fun hHeld=>?_)
   clear hK K hbB
   try simp only [Act.put,Qx,Qy,Qz]
   refine zN 13 fun K hK=>?_
   rw [if_pos (by rfl)]
   go_simp
   generalize hwA:(World.alloc _ _:World)=wA
   have hbA:Bw wB wA:=by subst hwA;exact Qb
   have a0:wA.cell? ⟨wB.heap.size,0,none⟩=some (.int .i64 G0):=by subst hwA;simp [go_sem]
   have hszA:wA.heap.size=wB.heap.size+1:=by subst hwA;simp
   have HOA:Hid (wA.ownsRow w.heap.size 2 1 (.slice va vn vc) (zDw F (X * 8) (Y * 8) i).length ((zDw F (X * 8) (Y * 8) i).map (.int .i64 ·))):=by subst hwA;exact World.ownsRow.alloc HOB.out _
   have hSA:Bw w wA:=zA hSB hbA
   have hsA:=hSA.size
   clear hwA
   refine hK.out _ _ hSA (fun hHeld=>?_)
   clear hK K
   try simp only [Act.put,Qx,Qy,Qz]
   have hlen:=HLn.out
   refine zN 14 fun K hK=>?_
   refine yS rfl (.tmp 30) (.tmp 43) 46 rfl w.heap.size 2 ii (.int .i64 0) 1 8 Tryz.underlying46 hi hz0 hz1 hz2 rfl (by decide) (.slice va vn vc) (zDw F (X * 8) (Y * 8) i).length ((zDw F (X * 8) (Y * 8) i).map (.int .i64 ·)) rfl HOA.out ⟨wB.heap.size,0,none⟩ 1 1 [.int .i64 G0] rfl rfl ?c1 ?c2 ?c3 ?c4 ?c5 ?_
   case c1 =>
    intro q u hq
    match q,hq with
    | 0,hq=>exact (Option.some.inj hq) ▸ a0
    | q+1,hq=>cases hq
   case c2=>intro u hu;simp at hu;subst hu;rfl
   case c3=>unfold maxLen;omega
   case c4=>omega
   case c5=>first | omega | (simp;omega)
   intro v' w3' hown' hgrow hnil
   clear hnil
   have hBg:Below w.heap.size wA w3':=(Below.refl _ _).grown hgrow (by omega) (fun b hb=>HBS.out b hb)
   have hB3:Bw w w3':=hSA.trans hBg
   have HO4:Hid (zAq w.heap.size w3' v' (zDw F (X * 8) (Y * 8) (i+1))):=by
    show zAq _ _ _ _
    rw [HSK.out]
    show World.ownsRow _ _ _ _ _ _ _
    rw [List.length_append,List.map_append]
    exact hown'
   rw [hlen] at hown'
   obtain ⟨ga,gc,rfl⟩:=zB8 hown'
   show K (Act.put _ (some 44) _) w3'
   refine hK.out _ _ hB3 (fun hHeld=>?_)
   clear hK K hown' hgrow hBg
   try simp only [Act.put,Qx,Qy,Qz]
   refine zC (i:=15) (d:=some 3) rfl rfl (hS:=hB3) ?_
   try simp only [Act.put,Qx,Qy,Qz]
   refine wpAnyH_done (by kernel_rfl) ?_ _
   refine NoPanic.normal ?_
   clear hSA hSB hSd hbA a0 hszA HOA
   go_wp2_with fail
   go_roundw
   case rel=>exact ⟨i+1,by omega,by go_num,HO4.out,hB3⟩
   case measure=>simp [intOf];omega
  ·obtain rfl:i=64:=by omega
   go_wp2
   go_ret
   exact ⟨_,rfl,HO0'.out,HB.out⟩
theorem zNr (q o:Nat)(z x y:Int)(b n cap:Nat)(G:Nat→zS)(w:World)(ht:zLv w q o z x y (.slice (some ⟨b,0,none⟩) n cap))(hg:vY w b 0 n G)(hbl:b<w.heap.size)(hs:yU n G) :
  Calls Tryz.prog 139 #[.pointer (some ⟨q,o,none⟩)] w fun e w'=>e=.returned (.int .i64 (rtC z x y n G))∧Bw w w':=by
 have hql:q<w.heap.size:=World.block_lt_of_cell? _ _ ht.1
 have HT:Hid (zLv w q o z x y (.slice (some ⟨b,0,none⟩) n cap)):=ht
 have HG:Hid (vY w b 0 n G):=hg
 have HS:Hid (yU n G):=hs
 have HK:Hid (rtC z x y n G=if zE4 z x y=0 then (if zV n G=0 then (if zFc n G=true then 0 else 1) else zV n G) else zE4 z x y):=rfl
 obtain ⟨p0,p1,p2,p3⟩:=ht
 clear hg hs
 go_enter Tryz.func139,Tryz.ntmps139
 go_wp2_with fail
 refine (zD7 z x y _).mono ?_
 rintro e w1 ⟨rfl,hb1⟩
 obtain ⟨q0,q1,q2,q3⟩:=HT.out.below hb1 hql
 have HB1:Hid (Bw w w1):=hb1
 have hql1:q<w1.heap.size:=Nat.lt_of_lt_of_le hql hb1.size
 clear p0 p1 p2 p3 hb1
 by_cases hr:zE4 z x y=0
 ·rw [hr]
  rw [if_pos hr] at HK
  go_wp2_with fail
  refine (zNt b n cap G _ (HG.out.below HB1.out hbl) (Nat.lt_of_lt_of_le hbl HB1.out.size) HS.out).mono ?_
  rintro e w2 ⟨rfl,hb2⟩
  have HB2:Hid (Bw w w2):=zA HB1.out hb2
  obtain ⟨t0,t1,t2,t3⟩:=HT.out.below HB2.out hql
  clear q0 q1 q2 q3 hb2
  by_cases hf:zV n G=0
  ·rw [hf]
   rw [if_pos hf] at HK
   go_wp2_with fail
   refine (zG9 b n cap G _ (HG.out.below HB2.out hbl) (Nat.lt_of_lt_of_le hbl HB2.out.size) HS.out.1).mono ?_
   rintro e w3 ⟨rfl,hb3⟩
   have HB3:Hid (Bw w w3):=zA HB2.out hb3
   clear hb3 t0 t1 t2 t3
   cases ho:zFc n G
   ·rw [ho] at HK
    go_wp2
    go_ret
    exact ⟨zE (by rw [HK.out];rfl),HB3.out⟩
   ·rw [ho] at HK
    go_wp2
    go_ret
    exact ⟨zE (by rw [HK.out];rfl),HB3.out⟩
  ·rw [if_neg hf] at HK
   have hcb:(zV n G == 0)=false:=by simpa using hf
   generalize zV n G=fc at *
   clear hf
   go_wp2
   go_ret
   exact ⟨zE HK.out.symm,HB2.out⟩
 ·rw [if_neg hr] at HK
  have hcb:(zE4 z x y == 0)=false:=by simpa using hr
  generalize zE4 z x y=rc at *
  clear hr
  go_wp2
  go_ret
  exact ⟨zE HK.out.symm,HB1.out⟩
def vW (n m:Nat)(I J:Nat→Int):Bool:=decide (n=m) && decide (∀ i,i<n→I i=J i)
theorem zIk {n m:Nat}{I J:Nat→Int}(h:n≠m):vW n m I J=false:=by simp [vW,h]
theorem zIj {n:Nat}{I J:Nat→Int}(h:∀ i,i<n→I i=J i):vW n n I J=true:=by simp [vW];exact h
theorem zL0 {n m k:Nat}{I J:Nat→Int}(hk:k<n)(h:I k≠J k):vW n m I J=false:=by
 unfold vW
 rw [decide_eq_false (p:=∀ i,i<n→I i=J i) (fun h'=>h (h' k hk))];simp
theorem zK8 (a a':Option Addr)(n m cap cap':Nat)(I J:Nat→Int)(w:World)(hp:zCi w a n I)(hq:zCi w a' m J)(hn:n≤1048576) :
  Calls Tryz.prog 140 #[.slice a n cap,.slice a' m cap'] w fun e w'=>e=.returned (.bool (vW n m I J))∧Bw w w':=by
 have HP:Hid (zCi w a n I):=hp
 have HQ:Hid (zCi w a' m J):=hq
 clear hp hq
 by_cases hnm:n=m
 ·subst hnm
  go_enter Tryz.func140,Tryz.ntmps140
  go_wp2_with fail
  go_loopw [5] (fun i wr=>∃ k:Nat,k≤n∧i=.int .i64 (k:Int)∧(∀ j,j<k→I j=J j)∧Bw w wr) (fun i _=>n - (intOf i).toNat)
  case atStart=>exact ⟨0,by omega,rfl,fun j hj=>absurd hj (Nat.not_lt_zero _),Below.refl _ _⟩
  case round =>
   obtain ⟨k,hk,rfl,hno,hB⟩:=hrel
   have HN:Hid (∀ j,j<k→I j=J j):=hno
   have HB:Hid (Bw w wr):=hB
   by_cases hlt:k<n
   ·rcases HP.out with h0 | ⟨b,off,rfl,hb,hpt⟩
    ·omega
    rcases HQ.out with h0 | ⟨b',off',rfl,hb',hpt'⟩
    ·omega
    have q0:wr.cell? ⟨b,off+k,none⟩=some (.int .i64 (I k)):=(hB.cell (p:=⟨b,off+k,none⟩) hb).trans (hpt k hlt)
    have q1:wr.cell? ⟨b',off'+k,none⟩=some (.int .i64 (J k)):=(hB.cell (p:=⟨b',off'+k,none⟩) hb').trans (hpt' k hlt)
    have hi:(k:Int)<(n:Int):=by omega
    have hi0:(0:Int)≤(k:Int):=by omega
    clear hno hB hpt hpt'
    by_cases hE:I k=J k
    ·have HN2:Hid (∀ j,j<k+1→I j=J j):=fun j hj=>by
      by_cases e:j=k
      ·rw [e];exact hE
      ·exact HN.out j (by omega)
     rw [hE] at q0
     clear hE
     generalize J k=v at *
     go_wp2_with fail
     go_quiet (fail)
     go_wp2_with fail
     exact ⟨⟨k+1,by omega,by simp,HN2.out,below_drewN HB.out _⟩,by simp [intOf];omega⟩
    ·have HY:Hid (vW n n I J=false):=zL0 hlt hE
     generalize I k=u at *
     generalize J k=v at *
     have hcb:(u == v)=false:=by simpa using hE
     go_wp2_with fail
     go_quiet (fail)
     go_wp2
     go_ret
     exact ⟨zF HY.out.symm,below_drewN HB.out _⟩
   ·obtain rfl:n=k:=by omega
    have HY:Hid (vW n n I J=true):=zIj HN.out
    go_wp2
    go_ret
    exact ⟨zF HY.out.symm,HB.out⟩
 ·have HY:Hid (vW n m I J=false):=zIk hnm
  have hne:((n:Int) == (m:Int))=false:=by simp;omega
  have hne2:¬ ((n:Int)=(m:Int)):=by omega
  go_enter Tryz.func140,Tryz.ntmps140
  go_wp2
  go_ret
  exact ⟨zF HY.out.symm,Below.refl _ _⟩
def isK (e:Kp)(z x y:Int):Bool:=(e.z == z) && ((e.x == x) && (e.y == y))
def atK (n:Nat)(K:Nat→Kp)(z x y:Int):Int:=yK (fun i=>isK (K i) z x y) n
def RK (w:World)(p:Nat)(z x y:Int):Prop:=w.cell? ⟨p,0,none⟩=some (.int .i64 z)∧w.cell? ⟨p,1,none⟩=some (.int .i64 x)∧w.cell? ⟨p,2,none⟩=some (.int .i64 y)
theorem RK.below {w w':World}{p:Nat}{z x y:Int}(h:RK w p z x y)(hb:Below w.heap.size w w'):RK w' p z x y :=
 have hl:=World.block_lt_of_cell? _ _ h.1
 ⟨(hb.cell (p:=⟨p,0,none⟩) hl).trans h.1,(hb.cell (p:=⟨p,1,none⟩) hl).trans h.2.1,(hb.cell (p:=⟨p,2,none⟩) hl).trans h.2.2⟩
theorem le2 (n:Nat):n≤n+1+1:=by omega
abbrev vwV (z x y wd ht now s:Int)(kv rv:Value)(bad:Int):Value:=.agg #[.int .i64 z,.int .i64 x,.int .i64 y,.int .i64 wd,.int .i64 ht,.int .i64 now,.int .i64 s,kv,rv,.int .i64 bad]
def Blk (w:World)(q:Nat)(l:List Value):Prop:=∀ i v,l[i]?=some v→w.cell? ⟨q,i,none⟩=some v∧w.frozen? ⟨q,i,none⟩=false
theorem Blk.cell {w:World}{q:Nat}{l:List Value}(h:Blk w q l)(i:Nat){v:Value}(hi:l[i]?=some v):w.cell? ⟨q,i,none⟩=some v:=(h i v hi).1
theorem Blk.free {w:World}{q:Nat}{l:List Value}(h:Blk w q l)(i:Nat){v:Value}(hi:l[i]?=some v):w.frozen? ⟨q,i,none⟩=false:=(h i v hi).2
theorem Blk.c5 {w : World} {q : Nat} {a0 a1 a2 a3 a4 : Value} {l : List Value} (h : Blk w q (a0 :: a1 :: a2 :: a3 :: a4 :: l)) : w.cell? ⟨q, 0, none⟩ = some a0 ∧ w.cell? ⟨q, 1, none⟩ = some a1 ∧ w.cell? ⟨q, 2, none⟩ = some a2 ∧ w.cell? ⟨q, 3, none⟩ = some a3 ∧ w.cell? ⟨q, 4, none⟩ = some a4 := ⟨h.cell 0 rfl, h.cell 1 rfl, h.cell 2 rfl, h.cell 3 rfl, h.cell 4 rfl⟩
theorem Blk.g5 {b : Nat} {v : World} {q : Nat} {a0 a1 a2 a3 a4 : Value} {l : List Value} (h : ∀ w, Below b v w → Blk w q (a0 :: a1 :: a2 :: a3 :: a4 :: l)) : (∀ w, Below b v w → w.cell? ⟨q, 0, none⟩ = some a0) ∧ (∀ w, Below b v w → w.cell? ⟨q, 1, none⟩ = some a1) ∧ (∀ w, Below b v w → w.cell? ⟨q, 2, none⟩ = some a2) ∧ (∀ w, Below b v w → w.cell? ⟨q, 3, none⟩ = some a3) ∧ (∀ w, Below b v w → w.cell? ⟨q, 4, none⟩ = some a4) := ⟨fun w k => (h w k).cell 0 rfl, fun w k => (h w k).cell 1 rfl, fun w k => (h w k).cell 2 rfl, fun w k => (h w k).cell 3 rfl, fun w k => (h w k).cell 4 rfl⟩
theorem Blk.c7 {w : World} {q : Nat} {a0 a1 a2 a3 a4 a5 a6 : Value} {l : List Value} (h : Blk w q (a0 :: a1 :: a2 :: a3 :: a4 :: a5 :: a6 :: l)) : w.cell? ⟨q, 0, none⟩ = some a0 ∧ w.cell? ⟨q, 1, none⟩ = some a1 ∧ w.cell? ⟨q, 2, none⟩ = some a2 ∧ w.cell? ⟨q, 3, none⟩ = some a3 ∧ w.cell? ⟨q, 4, none⟩ = some a4 ∧ w.cell? ⟨q, 5, none⟩ = some a5 ∧ w.cell? ⟨q, 6, none⟩ = some a6 := ⟨h.cell 0 rfl, h.cell 1 rfl, h.cell 2 rfl, h.cell 3 rfl, h.cell 4 rfl, h.cell 5 rfl, h.cell 6 rfl⟩
theorem Blk.c10 {w : World} {q : Nat} {a0 a1 a2 a3 a4 a5 a6 a7 a8 a9 : Value} {l : List Value} (h : Blk w q (a0 :: a1 :: a2 :: a3 :: a4 :: a5 :: a6 :: a7 :: a8 :: a9 :: l)) : w.cell? ⟨q, 0, none⟩ = some a0 ∧ w.cell? ⟨q, 1, none⟩ = some a1 ∧ w.cell? ⟨q, 2, none⟩ = some a2 ∧ w.cell? ⟨q, 3, none⟩ = some a3 ∧ w.cell? ⟨q, 4, none⟩ = some a4 ∧ w.cell? ⟨q, 5, none⟩ = some a5 ∧ w.cell? ⟨q, 6, none⟩ = some a6 ∧ w.cell? ⟨q, 7, none⟩ = some a7 ∧ w.cell? ⟨q, 8, none⟩ = some a8 ∧ w.cell? ⟨q, 9, none⟩ = some a9 := ⟨h.cell 0 rfl, h.cell 1 rfl, h.cell 2 rfl, h.cell 3 rfl, h.cell 4 rfl, h.cell 5 rfl, h.cell 6 rfl, h.cell 7 rfl, h.cell 8 rfl, h.cell 9 rfl⟩
theorem Blk.f10 {w : World} {q : Nat} {a0 a1 a2 a3 a4 a5 a6 a7 a8 a9 : Value} {l : List Value} (h : Blk w q (a0 :: a1 :: a2 :: a3 :: a4 :: a5 :: a6 :: a7 :: a8 :: a9 :: l)) : w.frozen? ⟨q, 0, none⟩ = false ∧ w.frozen? ⟨q, 1, none⟩ = false ∧ w.frozen? ⟨q, 2, none⟩ = false ∧ w.frozen? ⟨q, 3, none⟩ = false ∧ w.frozen? ⟨q, 4, none⟩ = false ∧ w.frozen? ⟨q, 5, none⟩ = false ∧ w.frozen? ⟨q, 6, none⟩ = false ∧ w.frozen? ⟨q, 7, none⟩ = false ∧ w.frozen? ⟨q, 8, none⟩ = false ∧ w.frozen? ⟨q, 9, none⟩ = false := ⟨h.free 0 rfl, h.free 1 rfl, h.free 2 rfl, h.free 3 rfl, h.free 4 rfl, h.free 5 rfl, h.free 6 rfl, h.free 7 rfl, h.free 8 rfl, h.free 9 rfl⟩
theorem Blk.g10 {b : Nat} {v : World} {q : Nat} {a0 a1 a2 a3 a4 a5 a6 a7 a8 a9 : Value} {l : List Value} (h : ∀ w, Below b v w → Blk w q (a0 :: a1 :: a2 :: a3 :: a4 :: a5 :: a6 :: a7 :: a8 :: a9 :: l)) : (∀ w, Below b v w → w.cell? ⟨q, 0, none⟩ = some a0) ∧ (∀ w, Below b v w → w.cell? ⟨q, 1, none⟩ = some a1) ∧ (∀ w, Below b v w → w.cell? ⟨q, 2, none⟩ = some a2) ∧ (∀ w, Below b v w → w.cell? ⟨q, 3, none⟩ = some a3) ∧ (∀ w, Below b v w → w.cell? ⟨q, 4, none⟩ = some a4) ∧ (∀ w, Below b v w → w.cell? ⟨q, 5, none⟩ = some a5) ∧ (∀ w, Below b v w → w.cell? ⟨q, 6, none⟩ = some a6) ∧ (∀ w, Below b v w → w.cell? ⟨q, 7, none⟩ = some a7) ∧ (∀ w, Below b v w → w.cell? ⟨q, 8, none⟩ = some a8) ∧ (∀ w, Below b v w → w.cell? ⟨q, 9, none⟩ = some a9) := ⟨fun w k => (h w k).cell 0 rfl, fun w k => (h w k).cell 1 rfl, fun w k => (h w k).cell 2 rfl, fun w k => (h w k).cell 3 rfl, fun w k => (h w k).cell 4 rfl, fun w k => (h w k).cell 5 rfl, fun w k => (h w k).cell 6 rfl, fun w k => (h w k).cell 7 rfl, fun w k => (h w k).cell 8 rfl, fun w k => (h w k).cell 9 rfl⟩
theorem Blk.lt {w:World}{q:Nat}{l:List Value}{v:Value}(h:Blk w q (v :: l)):q<w.heap.size:=World.block_lt_of_cell? _ _ (h 0 v rfl).1
theorem Blk.below {w w':World}{q:Nat}{l:List Value}(h:Blk w q l)(hq:q<w.heap.size)(hb:Below w.heap.size w w'):Blk w' q l:=fun i v hi =>
 ⟨(hb.cell (p:=⟨q,i,none⟩) hq).trans (h i v hi).1,(hb.frozen (p:=⟨q,i,none⟩) hq).trans (h i v hi).2⟩
theorem Blk.set {w:World}{q:Nat}{l:List Value}(h:Blk w q l)(j:Nat)(u:Value):Blk (w.setCell ⟨q,j,none⟩ u) q (l.set j u):=fun i v hi=>by
 rw [List.getElem?_set] at hi
 by_cases e:j=i
 ·subst e
  rw [if_pos rfl] at hi
  by_cases hl:j<l.length
  ·rw [if_pos hl] at hi
   injection hi with hi
   subst hi
   have h0:=h j _ (List.getElem?_eq_getElem hl)
   exact ⟨zG h0.1,(World.frozen?_setCell _ _ _ _).trans h0.2⟩
  ·rw [if_neg hl] at hi;cases hi
 ·rw [if_neg e] at hi
  have h0:=h i v hi
  exact ⟨by rw [zB (fun e'=>e (by injection e'))];exact h0.1,(World.frozen?_setCell _ _ _ _).trans h0.2⟩
theorem Blk.other {w:World}{q r o:Nat}{u:Value}{l:List Value}(h:Blk w q l)(hne:r≠q):Blk (w.setCell ⟨r,o,none⟩ u) q l:=fun i v hi =>
 ⟨by rw [zB (fun e'=>hne (by injection e'))];exact (h i v hi).1,(World.frozen?_setCell _ _ _ _).trans (h i v hi).2⟩
theorem Blk.new (w:World)(l:List Value)(t:TypeId):Blk (w.alloc (.cells l.toArray t)) w.heap.size l:=fun i v hi =>
 ⟨by rw [World.cell?_alloc_at _ _ _ _ rfl];simpa using hi,World.frozen?_alloc_at _ _ _ _ rfl⟩
theorem Blk.alloc {w:World}{q:Nat}{l:List Value}(h:Blk w q l)(hq:q<w.heap.size)(o:Obj):Blk (w.alloc o) q l:=h.below hq (xD (Below.refl _ _) o)
theorem zM5 (s:Int)(a:Option Addr)(n cap:Nat)(K:Nat→Kp)(w:World)(hk:zDn w a n K)(hc:zA5 n K) :
  Calls Tryz.prog 41 #[caV s (.slice a n cap),.int .i64 1048576] w fun e w'=>(e=.returned (.int .i64 (-1))∨∃ m:Nat,m≤1048576∧zL n K∧e=.returned (.int .i64 m))∧Bw w w':=by
 have HK:Hid (zDn w a n K):=hk
 have HC:Hid (zA5 n K):=hc
 clear hk hc
 go_enter Tryz.func41,Tryz.ntmps41
 go_wp2_with fail
 generalize hW:(w.alloc _:World)=W
 have hB0:Bw w W:=by subst hW;exact Qb
 clear hW
 refine (zO1 a n cap 1048576 K W (by omega) (HK.out.below hB0) HC.out).mono ?_
 rintro e w1 ⟨rfl | ⟨m,hm,hS,rfl⟩,hb1⟩
 ·go_wp2
  go_ret
  exact ⟨.inl rfl,zA hB0 hb1⟩
 ·have hneg:¬ ((m:Nat):Int)<0:=by omega
  have HS:Hid (zL n K):=hS
  have HMm:Hid (m≤1048576):=hm
  clear hS
  go_wp2
  go_ret
  exact ⟨.inr ⟨m,HMm.out,HS.out,rfl⟩,zA hB0 hb1⟩
theorem zId (z x y wd ht now s:Int)(a:Option Addr)(n cap:Nat)(K:Nat→Kp)(ra:Option Addr)(rn rc:Nat)(bad:Int)(w:World)(hk:zDn w a n K)(hc:zA5 n K)(hrm:rn≤maxLen) :
  Calls Tryz.prog 13 #[vwV z x y wd ht now s (.slice a n cap) (.slice ra rn rc) bad,.int .i64 1048576] w fun e w'=>(e=.returned (.int .i64 (-1))∨∃ m:Nat,zL n K∧rn≤1048576∧e=.returned (.int .i64 m))∧Bw w w':=by
 have HK:Hid (zDn w a n K):=hk
 have HC:Hid (zA5 n K):=hc
 clear hk hc
 go_enter Tryz.func13,Tryz.ntmps13
 go_wp2_with fail
 generalize hW:(w.alloc _:World)=W
 have HB0:Hid (Bw w W):=by show Below _ _ _;subst hW;exact Qb
 have HV:Hid (Blk W w.heap.size [.int .i64 z,.int .i64 x,.int .i64 y,.int .i64 wd,.int .i64 ht,.int .i64 now,.int .i64 s,.slice a n cap,.slice ra rn rc,.int .i64 bad]):=by show Blk _ _ _;subst hW;exact Blk.new _ _ _
 clear hW
 refine (zM5 s a n cap K W (HK.out.below HB0.out) HC.out).mono ?_
 rintro e w1 ⟨rfl | ⟨m,hm,hS,rfl⟩,hb1⟩
 ·have HB1:Hid (Bw w w1):=zA HB0.out hb1
  clear hb1
  go_wp2
  go_ret
  exact ⟨.inl rfl,HB1.out⟩
 ·have HS:Hid (zL n K):=hS
  have HB1:Hid (Bw w w1):=zA HB0.out hb1
  have HV1:Hid (Blk w1 w.heap.size [.int .i64 z,.int .i64 x,.int .i64 y,.int .i64 wd,.int .i64 ht,.int .i64 now,.int .i64 s,.slice a n cap,.slice ra rn rc,.int .i64 bad]):=HV.out.below HV.out.lt hb1
  have c8:=HV1.out.cell 8 rfl
  have hneg:¬ ((m:Nat):Int)<0:=by omega
  clear hS hb1
  go_wp2_with fail
  by_cases hr:m<rn
  ·refine (zGv ra rn rc m w1 hm hr hrm).mono ?_
   rintro e w2 ⟨rfl,hb2⟩
   have HB2:Hid (Bw w w2):=zA HB1.out hb2
   clear hb2 c8
   go_wp2
   go_ret
   exact ⟨.inl rfl,HB2.out⟩
  ·refine (zGu ra rn rc m w1 hm (by omega)).mono ?_
   rintro e w2 ⟨rfl,hb2⟩
   have HB2:Hid (Bw w w2):=zA HB1.out hb2
   have hneg2:¬ (m:Int) - (rn:Int)<0:=by omega
   have he:(m:Int) - (rn:Int)=((m - rn:Nat):Int):=by omega
   clear hb2 c8
   go_wp2
   go_ret
   exact ⟨.inr ⟨m - rn,HS.out,by omega,rfl⟩,HB2.out⟩
def zH0 (w:World)(b n:Nat)(K A:Nat→Kp)(rb rn:Nat)(E:Nat→Req):Prop:=yB w (b+1) b n K A∧rb<w.heap.size∧zGl w rb 0 rn E
theorem zH0.below {w w':World}{b n:Nat}{K A:Nat→Kp}{rb rn:Nat}{E:Nat→Req}(h:zH0 w b n K A rb rn E)(hb:Below w.heap.size w w'):zH0 w' b n K A rb rn E :=
 ⟨h.1.below hb,Nat.lt_of_lt_of_le h.2.1 hb.size,h.2.2.below hb h.2.1⟩
theorem resTV {T:Array Value}{Wf:World}{r:Nat}{z x y wd ht now s:Int}{kv rv:Value}{bad:Int}(hT:T[2]?.getD undef=.pointer (some ⟨r,0,none⟩))(h:Blk Wf r [.int .i64 z,.int .i64 x,.int .i64 y,.int .i64 wd,.int .i64 ht,.int .i64 now,.int .i64 s,kv,rv,.int .i64 bad]) :
  (results Tryz.f15 T).run Tryz.prog Wf=.ok (vwV z x y wd ht now s kv rv bad) Wf:=by
 obtain ⟨h0,h1,h2,h3,h4,h5,h6,h7,h8,h9⟩:=Blk.c10 h
 simp [results,Tryz.results15,go_sem,hT,h0,h1,h2,h3,h4,h5,h6,h7,h8,h9]
theorem zJj (z x y wd ht now s:Int)(n rn:Nat)(b b' rb rb':Nat)(K A H:Nat→Kp)(E:Nat→Req)(bad:Int)(w:World)(ha:zH0 w b n K A rb rn E)(hh:zH0 w b' n K H rb' rn E)(hs:zL n K)(hrn:rn≤1048576) :
  Calls Tryz.prog 18 #[vwV z x y wd ht now s (.slice (some ⟨b,0,none⟩) n n) (.slice (some ⟨rb,0,none⟩) rn rn) bad,vwV z x y wd ht now s (.slice (some ⟨b',0,none⟩) n n) (.slice (some ⟨rb',0,none⟩) rn rn) bad] w fun e w'=>e=.returned (.bool true)∧Bw w w':=by
 have HA:Hid (zH0 w b n K A rb rn E):=ha
 have HH:Hid (zH0 w b' n K H rb' rn E):=hh
 have HS:Hid (zL n K):=hs
 clear ha hh hs
 go_enter Tryz.func18,Tryz.ntmps18
 go_wp2_with fail
 generalize hW:((w.alloc _).alloc _:World)=W
 have HB0:Hid (Bw w W):=by show Below _ _ _;subst hW;exact Qb
 have HV:Hid (Blk W w.heap.size [.int .i64 z,.int .i64 x,.int .i64 y,.int .i64 wd,.int .i64 ht,.int .i64 now,.int .i64 s,.slice (some ⟨b,0,none⟩) n n,.slice (some ⟨rb,0,none⟩) rn rn,.int .i64 bad]):=by
  show Blk _ _ _;subst hW
  exact (Blk.new w _ _).alloc (by simp) _
 have HU:Hid (Blk W (w.heap.size+1) [.int .i64 z,.int .i64 x,.int .i64 y,.int .i64 wd,.int .i64 ht,.int .i64 now,.int .i64 s,.slice (some ⟨b',0,none⟩) n n,.slice (some ⟨rb',0,none⟩) rn rn,.int .i64 bad]):=by
  show Blk _ _ _;subst hW
  have:=Blk.new (w.alloc (.cells #[.int .i64 z,.int .i64 x,.int .i64 y,.int .i64 wd,.int .i64 ht,.int .i64 now,.int .i64 s,.slice (some ⟨b,0,none⟩) n n,.slice (some ⟨rb,0,none⟩) rn rn,.int .i64 bad] 31)) [.int .i64 z,.int .i64 x,.int .i64 y,.int .i64 wd,.int .i64 ht,.int .i64 now,.int .i64 s,.slice (some ⟨b',0,none⟩) n n,.slice (some ⟨rb',0,none⟩) rn rn,.int .i64 bad] 31
  simpa using this
 have hvl:w.heap.size<W.heap.size:=HV.out.lt
 have hul:w.heap.size+1<W.heap.size:=HU.out.lt
 clear hW
 refine (zJo z x y wd ht W).mono ?_
 rintro e w1 ⟨rfl,hb1⟩
 have HB1:Hid (Bw W w1):=hb1
 have hV1:=HV.out.below hvl hb1
 have hU1:=HU.out.below hul hb1
 obtain ⟨d0,d1,d2,d3,d4,d5,d6,d7,d8,d9⟩:=Blk.c10 hV1
 obtain ⟨e0,e1,e2,e3,e4,e5,e6,e7,e8,e9⟩:=Blk.c10 hU1
 clear hb1 hV1 hU1
 go_wp2_with fail
 refine (zLo s _ _ _ _ n K _ _ w1 (HA.out.1.below (zA HB0.out HB1.out)) (HH.out.1.below (zA HB0.out HB1.out)) HS.out).mono ?_
 rintro e w2 ⟨rfl,hb2⟩
 have HB2:Hid (Bw W w2):=zA HB1.out hb2
 have hV2:=HV.out.below hvl HB2.out
 have hU2:=HU.out.below hul HB2.out
 clear d0 e0 d1 e1 d2 e2 d3 e3 d4 e4 d5 e5 d6 e6 d7 e7 d8 e8 d9 e9
 obtain ⟨d0,d1,d2,d3,d4,d5,d6,d7,d8,d9⟩:=Blk.c10 hV2
 obtain ⟨e0,e1,e2,e3,e4,e5,e6,e7,e8,e9⟩:=Blk.c10 hU2
 clear hb2 hV2 hU2 HB1
 have HA2:=HA.out.below (zA HB0.out HB2.out)
 have HH2:=HH.out.below (zA HB0.out HB2.out)
 have hq1:zAn w2 (some ⟨rb,0,none⟩) rn E:=.inr ⟨rb,0,rfl,HA2.2.1,HA2.2.2⟩
 have hq2:zAn w2 (some ⟨rb',0,none⟩) rn E:=.inr ⟨rb',0,rfl,HH2.2.1,HH2.2.2⟩
 have HEq:=(show Hid _ from zFo (some ⟨rb,0,none⟩) (some ⟨rb',0,none⟩) rn rn rn E w2 hq1 hq2 hrn)
 clear HA2 HH2 hq1 hq2
 go_wp2_with fail
 refine Calls.mono HEq.out ?_
 rintro e w3 ⟨rfl,hb3⟩
 have HB3:Hid (Bw W w3):=zA HB2.out hb3
 have hV3:=HV.out.below hvl HB3.out
 have hU3:=HU.out.below hul HB3.out
 clear d0 e0 d1 e1 d2 e2 d3 e3 d4 e4 d5 e5 d6 e6 d7 e7 d8 e8 d9 e9
 have d9:=hV3.cell 9 rfl
 have e9:=hU3.cell 9 rfl
 have HB9:Hid (Bw w w3):=zA HB0.out HB3.out
 clear hb3 hV3 hU3
 go_wp2
 go_ret
 exact ⟨rfl,HB9.out⟩

end Go.Proofs.YtpaiholildedcaaGreat
