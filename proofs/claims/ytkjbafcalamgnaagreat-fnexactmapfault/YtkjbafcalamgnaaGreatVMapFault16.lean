/- Texts. -/
import Derived.Test.YtkjbafcalamgnaaGreatVMapFault15
set_option linter.unusedSimpArgs false
set_option linter.unusedVariables false
set_option maxRecDepth 100000
set_option maxHeartbeats 32000000
namespace Go.Proofs.YtkjbafcalamgnaaGreat
open Go.RowKit
def zU (n:Nat)(F:Nat→zS):Prop:=n≤1048576∧∀ i,i<n→(F i).n≤1048576∧(F i).lab.size≤1048576
def uT (n:Nat)(F:Nat→zS):Prop:=n≤maxLen∧∀ i,i<n→(F i).n≤maxLen∧(F i).lab.size≤maxLen
theorem zK1 (left n s:Nat)(hl:left≤1048576):szF left n s=-1∨∃ m:Nat,szF left n s=(m:Int)∧m≤left∧n≤1048576∧s≤1048576:=by
 unfold szF
 by_cases h:left<n+s
 ·left;rw [if_pos h]
 ·right;rw [if_neg h];exact ⟨left - n - s,by omega,by omega,by omega,by omega⟩
theorem uP (a:Option Addr)(n cap:Nat)(F:Nat→zS)(left:Nat)(w:World)(hl:left≤1048576)(hf:zDq w a n F)(hc:uT n F) :
  Calls Tryz.prog 50 #[.slice a n cap,.int .i64 left] w fun e w'=>(e=.returned (.int .i64 (-1))∨∃ m:Nat,m≤left∧zU n F∧e=.returned (.int .i64 m))∧Bw w w':=by
 obtain ⟨hc1,hc2⟩:=hc
 unfold maxLen at hc1
 have HC:Hid (∀ i,i<n→(F i).n≤maxLen∧(F i).lab.size≤maxLen):=hc2
 have HF:Hid (zDq w a n F):=hf
 clear hc2 hf
 by_cases h0:left<n
 ·have hneg:(left:Int) - (n:Int)<0:=by omega
  go_enter Tryz.func50,Tryz.ntmps50
  go_wp2
  go_ret
  exact ⟨.inl rfl,Qb⟩
 ·have hneg:¬ (left:Int) - (n:Int)<0:=by omega
  have hn:n≤1048576:=by omega
  clear hc1
  go_enter Tryz.func50,Tryz.ntmps50
  go_wp2
  go_loopw [1,5] (fun v i wr=>∃ k m:Nat,k≤n∧v=.int .i64 m∧i=.int .i64 k∧m≤left∧(∀ j,j<k→(F j).n≤1048576∧(F j).lab.size≤1048576)∧Bw w wr) (fun _ i _=>n - (intOf i).toNat)
  case atStart=>exact ⟨0,left - n,by omega,by congr 1;omega,rfl,by omega,by omega,Below.refl _ _⟩
  case round =>
   obtain ⟨k,m,hk,rfl,rfl,hm,hA,hB⟩:=hrel
   by_cases hlt:k<n
   ·rcases HF.out with hz | ⟨b,off,rfl,hbl,hpt⟩
    ·omega
    ·obtain ⟨⟨f0,f1,f2,f3,f4,f5,f6⟩,_⟩:=(hpt.below hB hbl) k hlt
     obtain ⟨g1,g2⟩:=HC.out k hlt
     have HG:Hid ((F k).n≤maxLen∧(F k).lab.size≤maxLen):=⟨g1,g2⟩
     have HB:Hid (Bw w wr):=hB
     have HA:Hid (∀ j,j<k→(F j).n≤1048576∧(F j).lab.size≤1048576):=hA
     clear hB hA hpt g1 g2
     have hi:(k:Int)<(n:Int):=by omega
     have hi0:(0:Int)≤(k:Int):=by omega
     have hm1:m≤1048576:=by omega
     go_wp2_with fail
     refine (zDy _ _ _ _ _ _ _ _ _ m _ hm1 HG.out.1 HG.out.2).mono ?_
     rintro e w' ⟨rfl,hb⟩
     have HBn:Hid (Bw w w'):=zA HB.out hb
     clear hb f0 f1 f2 f3 f4 f5 f6
     rcases zK1 m (F k).n (F k).lab.size hm1 with h | ⟨m',h,h1,h2,h3⟩
     ·rw [h]
      go_wp2
      go_ret
      exact ⟨.inl rfl,HBn.out⟩
     ·rw [h]
      have hneg':¬ ((m':Nat):Int)<0:=by omega
      go_wp2
      go_roundw
      case rel=>exact ⟨k+1,m',by omega,rfl,by go_num,by omega,fun j hj=>by
        by_cases e:j=k
        ·rw [e];exact ⟨h2,h3⟩
        ·exact HA.out j (by omega),HBn.out⟩
      case measure=>simp [intOf];omega
   ·go_wp2
    go_ret
    exact ⟨.inr ⟨m,hm,⟨hn,fun i hi=>hA i (by omega)⟩,rfl⟩,hB⟩
theorem uR (b d n B C:Nat)(F G H:Nat→zS)(w:World)(hg:yD w B b n F G)(hh:yD w C d n F H)(hs:zU n F) :
  Calls Tryz.prog 56 #[.slice (some ⟨b,0,none⟩) n n,.slice (some ⟨d,0,none⟩) n n] w fun e w'=>e=.returned (.bool true)∧Bw w w':=by
 have HG:Hid (yD w B b n F G):=hg
 have HH:Hid (yD w C d n F H):=hh
 have hbl:b<w.heap.size:=hg.2.1
 have hdl:d<w.heap.size:=hh.2.1
 have HS:Hid (zU n F):=hs
 clear hg hh hs
 go_enter Tryz.func56,Tryz.ntmps56
 go_wp2
 go_loopw [5] (fun i wr=>∃ k:Nat,k≤n∧i=.int .i64 k∧Bw w wr) (fun i _=>n - (intOf i).toNat)
 case atStart=>exact ⟨0,by omega,rfl,Below.refl _ _⟩
 case round =>
  obtain ⟨k,hk,rfl,hB⟩:=hrel
  by_cases hlt:k<n
  ·have hFG:=HG.out.2.2.1
   have hFH:=HH.out.2.2.1
   have c0:∀ W',Bw wr W'→W'.cell? ⟨b,k * 7,none⟩=some (.int .i64 (G k).id):=fun W' h=>by simpa using ((hFG.below hB hbl).below h (Nat.lt_of_lt_of_le hbl hB.size) k hlt).1.1
   have c1:∀ W',Bw wr W'→W'.cell? ⟨b,k * 7+1,none⟩=some (.int .i64 (G k).la):=fun W' h=>by simpa using ((hFG.below hB hbl).below h (Nat.lt_of_lt_of_le hbl hB.size) k hlt).1.2.1
   have c2:∀ W',Bw wr W'→W'.cell? ⟨b,k * 7+2,none⟩=some (.int .i64 (G k).ki):=fun W' h=>by simpa using ((hFG.below hB hbl).below h (Nat.lt_of_lt_of_le hbl hB.size) k hlt).1.2.2.1
   have c3:∀ W',Bw wr W'→W'.cell? ⟨b,k * 7+3,none⟩=some (.int .i64 (G k).wi):=fun W' h=>by simpa using ((hFG.below hB hbl).below h (Nat.lt_of_lt_of_le hbl hB.size) k hlt).1.2.2.2.1
   have c4:∀ W',Bw wr W'→W'.cell? ⟨b,k * 7+4,none⟩=some (.slice (G k).a (G k).n (G k).cap):=fun W' h=>by simpa using ((hFG.below hB hbl).below h (Nat.lt_of_lt_of_le hbl hB.size) k hlt).1.2.2.2.2.1
   have c5:∀ W',Bw wr W'→W'.cell? ⟨b,k * 7+5,none⟩=some (.string (G k).lab):=fun W' h=>by simpa using ((hFG.below hB hbl).below h (Nat.lt_of_lt_of_le hbl hB.size) k hlt).1.2.2.2.2.2.1
   have c6:∀ W',Bw wr W'→W'.cell? ⟨b,k * 7+6,none⟩=some (.int .i64 (G k).pr):=fun W' h=>by simpa using ((hFG.below hB hbl).below h (Nat.lt_of_lt_of_le hbl hB.size) k hlt).1.2.2.2.2.2.2
   have d0:∀ W',Bw wr W'→W'.cell? ⟨d,k * 7,none⟩=some (.int .i64 (H k).id):=fun W' h=>by simpa using ((hFH.below hB hdl).below h (Nat.lt_of_lt_of_le hdl hB.size) k hlt).1.1
   have d1:∀ W',Bw wr W'→W'.cell? ⟨d,k * 7+1,none⟩=some (.int .i64 (H k).la):=fun W' h=>by simpa using ((hFH.below hB hdl).below h (Nat.lt_of_lt_of_le hdl hB.size) k hlt).1.2.1
   have d2:∀ W',Bw wr W'→W'.cell? ⟨d,k * 7+2,none⟩=some (.int .i64 (H k).ki):=fun W' h=>by simpa using ((hFH.below hB hdl).below h (Nat.lt_of_lt_of_le hdl hB.size) k hlt).1.2.2.1
   have d3:∀ W',Bw wr W'→W'.cell? ⟨d,k * 7+3,none⟩=some (.int .i64 (H k).wi):=fun W' h=>by simpa using ((hFH.below hB hdl).below h (Nat.lt_of_lt_of_le hdl hB.size) k hlt).1.2.2.2.1
   have d4:∀ W',Bw wr W'→W'.cell? ⟨d,k * 7+4,none⟩=some (.slice (H k).a (H k).n (H k).cap):=fun W' h=>by simpa using ((hFH.below hB hdl).below h (Nat.lt_of_lt_of_le hdl hB.size) k hlt).1.2.2.2.2.1
   have d5:∀ W',Bw wr W'→W'.cell? ⟨d,k * 7+5,none⟩=some (.string (H k).lab):=fun W' h=>by simpa using ((hFH.below hB hdl).below h (Nat.lt_of_lt_of_le hdl hB.size) k hlt).1.2.2.2.2.2.1
   have d6:∀ W',Bw wr W'→W'.cell? ⟨d,k * 7+6,none⟩=some (.int .i64 (H k).pr):=fun W' h=>by simpa using ((hFH.below hB hdl).below h (Nat.lt_of_lt_of_le hdl hB.size) k hlt).1.2.2.2.2.2.2
   obtain ⟨sg,q,e1,e2,_,_,e5,e6⟩:=HG.out.2.2.2 k hlt
   obtain ⟨sh,r,g1,g2,_,_,g5,g6⟩:=HH.out.2.2.2 k hlt
   obtain ⟨s1,s2,s3,s4,s5,s6,s7,s8,s9⟩:=sg
   obtain ⟨t1,t2,t3,t4,t5,t6,t7,t8,t9⟩:=sh
   rw [s1] at c0;rw [s2] at c1;rw [s3] at c2;rw [s4] at c3;rw [e1,e2,s5] at c4;rw [s8] at c5;rw [s9] at c6
   rw [t1] at d0;rw [t2] at d1;rw [t3] at d2;rw [t4] at d3;rw [g1,g2,t5] at d4;rw [t8] at d5;rw [t9] at d6
   rw [s5,s6,s7] at e6
   rw [t5,t6,t7] at g6
   have KE:Hid (zI wr q 0 (F k).n (F k).X (F k).Y):=e6.below hB e5
   have KG:Hid (zI wr r 0 (F k).n (F k).X (F k).Y):=g6.below hB g5
   have hql:q<wr.heap.size:=Nat.lt_of_lt_of_le e5 hB.size
   have hrl:r<wr.heap.size:=Nat.lt_of_lt_of_le g5 hB.size
   have HLT:Hid (k<n):=hlt
   have hnn:=HS.out.1
   have hnk:=(HS.out.2 k hlt).1
   have HB:Hid (Bw w wr):=hB
   clear hB hFG hFH s1 s2 s3 s4 s5 s6 s7 s8 s9 t1 t2 t3 t4 t5 t6 t7 t8 t9 e1 e2 e5 e6 g1 g2 g5 g6
   have hi:(k:Int)<(n:Int):=by omega
   have hi0:(0:Int)≤(k:Int):=by omega
   go_wp2
   go_region_held3 (fun W'=>Bw wr W') ((repeat (first|exact Qr _ _|assumption|refine Qd ?_|refine Qa ?_ _|refine Qt ?_|refine Qs ?_ _|refine Qo ?_ ?_ _ _)))
    (first
     | (go_at_call 99;refine (zEo _ _ _ _ (F k).n (F k).X (F k).Y _ _ q r _ (KE.out.below (by assumption) hql) (KG.out.below (by assumption) hrl) (Nat.lt_of_lt_of_le hql (Below.size (by assumption))) (Nat.lt_of_lt_of_le hrl (Below.size (by assumption))) hnk).mono ?_;rintro e w' ⟨rfl,hb⟩))
   go_wp2
   go_roundw
   case rel=>exact ⟨k+1,by have:=HLT.out;omega,by go_num,zA HB.out (by assumption)⟩
   case measure=>have:=HLT.out;simp [intOf];omega
  ·go_wp2
   go_ret
   exact ⟨rfl,hB⟩
theorem zNa (b n cap:Nat)(G:Nat→zS)(i:Nat)(w:World)(hi:i<n)(hg:vS w b 0 n G)(hbl:b<w.heap.size)(hn:n≤1048576) :
  Calls Tryz.prog 144 #[.slice (some ⟨b,0,none⟩) n cap,.int .i64 (G i).id] w fun e w'=>(∃ r:Nat,r≤i∧(G r).id=(G i).id∧(∀ j,j<r→(G j).id≠(G i).id)∧e=.returned (.int .i64 r))∧Bw w w':=by
 have HG:Hid (vS w b 0 n G):=hg
 clear hg
 have HI:Hid (i<n):=hi
 clear hi
 generalize hid:(G i).id=t
 have HT:Hid ((G i).id=t):=hid
 clear hid
 go_enter Tryz.func144,Tryz.ntmps144
 go_wp2
 go_loopw [5] (fun v wr=>∃ k:Nat,k≤i∧v=.int .i64 k∧(∀ j,j<k→(G j).id≠t)∧Bw w wr) (fun v _=>n - (intOf v).toNat)
 case atStart=>exact ⟨0,by omega,rfl,by omega,Below.refl _ _⟩
 case round =>
  obtain ⟨k,hk,rfl,hA,hB⟩:=hrel
  have hlt:k<n:=Nat.lt_of_le_of_lt hk HI.out
  have f0:wr.cell? ⟨b,k * 7,none⟩=some (.int .i64 (G k).id):=by simpa using ((HG.out.below hB hbl) k hlt).1.1
  have HB:Hid (Bw w wr):=hB
  have HA:Hid (∀ j,j<k→(G j).id≠t):=hA
  clear hB hA
  have hi:(k:Int)<(n:Int):=by omega
  have hi0:(0:Int)≤(k:Int):=by omega
  by_cases he:(G k).id=t
  ·rw [he] at f0
   go_wp2
   go_ret
   exact ⟨⟨k,hk,he,HA.out,rfl⟩,HB.out⟩
  ·have he':((G k).id == t)=false:=by simpa using he
   have HE:Hid ((G k).id≠t):=he
   have hki:k≠i:=fun e=>he (by rw [e];exact HT.out)
   clear he
   go_wp2
   go_roundw
   case rel=>exact ⟨k+1,by omega,by go_num,fun j hj=>by
     by_cases e:j=k
     ·rw [e];exact HE.out
     ·exact HA.out j (by omega),HB.out⟩
   case measure=>simp [intOf];omega
theorem zFv (b n cap N:Nat)(G:Nat→zS)(t:Int)(w:World)(hnN:n≤N)(hg:vS w b 0 N G)(hbl:b<w.heap.size)(hn:n≤1048576) :
  Calls Tryz.prog 98 #[.slice (some ⟨b,0,none⟩) n cap,.int .i64 t] w fun e w'=>((e=.returned (.bool true)∧∃ j,j<n∧(G j).id=t)∨(e=.returned (.bool false)∧∀ j,j<n→(G j).id≠t))∧Bw w w':=by
 have HG:Hid (vS w b 0 N G):=hg
 clear hg
 go_enter Tryz.func98,Tryz.ntmps98
 go_wp2
 go_loopw [9] (fun v wr=>∃ k:Nat,k≤n∧v=.int .i64 k∧(∀ j,j<k→(G j).id≠t)∧Bw w wr) (fun v _=>n - (intOf v).toNat)
 case atStart=>exact ⟨0,by omega,rfl,by omega,Below.refl _ _⟩
 case round =>
  obtain ⟨k,hk,rfl,hA,hB⟩:=hrel
  have HB:Hid (Bw w wr):=hB
  have HA:Hid (∀ j,j<k→(G j).id≠t):=hA
  by_cases hlt:k<n
  ·obtain ⟨⟨f0,f1,f2,f3,f4,f5,f6⟩,_⟩:=(HG.out.below hB hbl) k (by omega)
   simp only [Nat.zero_add] at f0 f1 f2 f3 f4 f5 f6
   clear hB hA
   have hi:(k:Int)<(n:Int):=by omega
   have hi0:(0:Int)≤(k:Int):=by omega
   by_cases he:(G k).id=t
   ·have he':((G k).id == t)=true:=by simpa using he
    have HE:Hid ((G k).id=t):=he
    clear he
    go_wp2
    go_ret
    exact ⟨.inl ⟨rfl,k,hlt,HE.out⟩,by have HB':=HB.out;exact Qb⟩
   ·have he':((G k).id == t)=false:=by simpa using he
    have HE:Hid ((G k).id≠t):=he
    clear he
    go_wp2
    go_roundw
    case rel=>exact ⟨k+1,by omega,by go_num,fun j hj=>by
      by_cases e:j=k
      ·rw [e];exact HE.out
      ·exact HA.out j (by omega),by have HB':=HB.out;exact Qb⟩
    case measure=>simp [intOf];omega
  ·go_wp2
   go_ret
   exact ⟨.inr ⟨rfl,fun j hj=>hA j (by omega)⟩,hB⟩
end Go.Proofs.YtkjbafcalamgnaaGreat
namespace Go.Proofs.YtkjbafcalamgnaaGreat
open Go.ChangeShapes Go.WideShapes Go.ChangeAt Go.RowKit Go.Deep
end Go.Proofs.YtkjbafcalamgnaaGreat
namespace Go.Proofs.YtkjbafcalamgnaaGreat
open Go.RowKit
noncomputable def zZ (G:Nat→zS)(i:Nat):Int:=by
 classical exact if zH (G i).id (G i).la (G i).ki (G i).wi (G i).n (G i).X (G i).Y (G i).lab (G i).pr≠0 then zH (G i).id (G i).la (G i).ki (G i).wi (G i).n (G i).X (G i).Y (G i).lab (G i).pr else if ∃ j,j<i∧(G j).id=(G i).id then 6 else 0
noncomputable def zK (n:Nat)(G:Nat→zS):Int:=if 12<n then 2 else yE (zZ G) 0 n
theorem zBf {G:Nat→zS}{i:Nat}(h:zH (G i).id (G i).la (G i).ki (G i).wi (G i).n (G i).X (G i).Y (G i).lab (G i).pr≠0):zZ G i=zH (G i).id (G i).la (G i).ki (G i).wi (G i).n (G i).X (G i).Y (G i).lab (G i).pr:=by unfold zZ;rw [if_pos h]
theorem zBe {G:Nat→zS}{i:Nat}(h:zH (G i).id (G i).la (G i).ki (G i).wi (G i).n (G i).X (G i).Y (G i).lab (G i).pr=0)(h2:∃ j,j<i∧(G j).id=(G i).id):zZ G i=6:=by unfold zZ;rw [if_neg (by simp [h]),if_pos h2]
theorem zF7 {G:Nat→zS}{i:Nat}(h:zH (G i).id (G i).la (G i).ki (G i).wi (G i).n (G i).X (G i).Y (G i).lab (G i).pr=0)(h2:¬ ∃ j,j<i∧(G j).id=(G i).id):zZ G i=0:=by unfold zZ;rw [if_neg (by simp [h]),if_neg h2]
theorem zH1 {G H:Nat→zS}{n i:Nat}(h:∀ j,j<n→(G j).same (H j))(hi:i<n):zZ G i=zZ H i:=by
 obtain ⟨s1,s2,s3,s4,s5,s6,s7,s8,s9⟩:=h i hi
 have e:(∃ j,j<i∧(G j).id=(G i).id) ↔ (∃ j,j<i∧(H j).id=(H i).id):=by
  constructor
  ·rintro ⟨j,hj,e⟩;exact ⟨j,hj,by rw [← (h j (by omega)).1,← s1];exact e⟩
  ·rintro ⟨j,hj,e⟩;exact ⟨j,hj,by rw [(h j (by omega)).1,s1];exact e⟩
 unfold zZ
 rw [s1,s2,s3,s4,s5,s6,s7,s8,s9]
 rw [s1] at e
 simp only [e]
theorem zCc {G H:Nat→zS}{n:Nat}(h:∀ j,j<n→(G j).same (H j)):zK n G=zK n H:=by
 unfold zK
 rw [zDa (zZ G) (zZ H) n 0 (fun j _ hj=>zH1 h (by omega))]
theorem zDe (b n cap:Nat)(G:Nat→zS)(w:World)(hg:vS w b 0 n G)(hbl:b<w.heap.size)(hs:zU n G) :
  Calls Tryz.prog 95 #[.slice (some ⟨b,0,none⟩) n cap] w fun e w'=>e=.returned (.int .i64 (zK n G))∧Bw w w':=by
 have HG:Hid (vS w b 0 n G):=hg
 have HS:Hid (zU n G):=hs
 have hn:=hs.1
 clear hg hs
 by_cases h12:(12:Int)<n
 ·have hz:Hid (zK n G=2):=by show _=_;unfold zK;rw [if_pos (by omega)]
  go_enter Tryz.func95,Tryz.ntmps95
  go_wp2
  go_ret
  exact ⟨zC hz.out.symm,Qb⟩
 ·have hz:Hid (zK n G=yE (zZ G) 0 n):=by show _=_;unfold zK;rw [if_neg (by omega)]
  go_enter Tryz.func95,Tryz.ntmps95
  go_wp2
  go_loopw [3] (fun v wr=>∃ k:Nat,k≤n∧v=.int .i64 k∧(∀ j,j<k→zZ G j=0)∧Bw w wr) (fun v _=>n - (intOf v).toNat)
  case atStart=>exact ⟨0,by omega,rfl,by omega,Below.refl _ _⟩
  case round =>
   obtain ⟨k,hk,rfl,hA,hB⟩:=hrel
   have HB:Hid (Bw w wr):=hB
   have HA:Hid (∀ j,j<k→zZ G j=0):=hA
   by_cases hlt:k<n
   ·have HGr:Hid (vS wr b 0 n G):=HG.out.below hB hbl
    have hblr:b<wr.heap.size:=Nat.lt_of_lt_of_le hbl hB.size
    obtain ⟨hF,hP⟩:=HGr.out k hlt
    rw [Nat.zero_add] at hF
    have HF:Hid (vU wr b (k * 7) (G k).id (G k).la (G k).ki (G k).wi (.slice (G k).a (G k).n (G k).cap) (G k).lab (G k).pr):=hF
    have HP:Hid (xD wr (G k).a (G k).n (G k).X (G k).Y):=hP
    obtain ⟨z1,z2⟩:=HS.out.2 k hlt
    have HLT:Hid (k<n):=hlt
    clear hB hA hF hP
    have hi:(k:Int)<(n:Int):=by omega
    have hi0:(0:Int)≤(k:Int):=by omega
    go_wp2_with fail
    refine (zHl b (k * 7) _ _ _ _ _ _ _ (G k).X (G k).Y _ _ _ HF.out HP.out z2 z1).mono ?_
    rintro e w1 ⟨rfl,hb1⟩
    by_cases hc:zH (G k).id (G k).la (G k).ki (G k).wi (G k).n (G k).X (G k).Y (G k).lab (G k).pr=0
    ·rw [hc]
     have HC:Hid (zH (G k).id (G k).la (G k).ki (G k).wi (G k).n (G k).X (G k).Y (G k).lab (G k).pr=0):=hc
     have d0:∀ W',Bw w1 W'→W'.cell? ⟨b,k * 7,none⟩=some (.int .i64 (G k).id):=fun W' h=>((HF.out.below hb1 hblr).below h (Nat.lt_of_lt_of_le hblr hb1.size)).1
     have HG1:Hid (vS w1 b 0 n G):=HGr.out.below hb1 hblr
     have hbl1:b<w1.heap.size:=Nat.lt_of_lt_of_le hblr hb1.size
     have HB1:Hid (Bw w w1):=zA HB.out hb1
     clear hc hb1
     have hr1:Bw w1 w1:=Below.refl _ _
     go_wp2_with fail
     refine (zNa b n cap G k _ HLT.out HG1.out hbl1 hn).mono ?_
     rintro e w2 ⟨⟨r,hr,hre,hrl,rfl⟩,hb2⟩
     have HB2:Hid (Bw w w2):=zA HB1.out hb2
     clear hb2
     by_cases hrk:r=k
     ·subst hrk
      have hok:zZ G r=0:=zF7 HC.out (fun ⟨j,hj,hje⟩=>hrl j hj hje)
      have HOK:Hid (zZ G r=0):=hok
      clear hok hre hrl
      go_wp2
      go_roundw
      case rel=>exact ⟨r+1,by have:=HLT.out;omega,by go_num,fun j hj=>by
        by_cases e:j=r
        ·rw [e];exact HOK.out
        ·exact HA.out j (by omega),HB2.out⟩
      case measure=>have:=HLT.out;simp [intOf];omega
     ·have hne:(((r:Nat):Int) == ((k:Nat):Int))=false:=by simp;omega
      have htk:Hid (zZ G k=6):=zBe HC.out ⟨r,by omega,hre⟩
      have hsc:Hid (zK n G=6):=by
       show _=_
       rw [hz.out,zP (zZ G) n 0 k (fun j _ hj=>HA.out j hj) (by omega) (by have:=HLT.out;omega) (by rw [htk.out];decide),htk.out]
      clear hre hrl
      go_wp2
      go_ret
      exact ⟨zC hsc.out.symm,HB2.out⟩
    ·have hsc:Hid (zK n G=zH (G k).id (G k).la (G k).ki (G k).wi (G k).n (G k).X (G k).Y (G k).lab (G k).pr):=by
      show _=_
      have h6:=zBf hc
      rw [hz.out,zP (zZ G) n 0 k (fun j _ hj=>HA.out j hj) (by omega) (by have:=HLT.out;omega) (by rw [h6];exact hc),h6]
     have hcb:(zH (G k).id (G k).la (G k).ki (G k).wi (G k).n (G k).X (G k).Y (G k).lab (G k).pr == 0)=false:=by simpa using hc
     have HB1:Hid (Bw w w1):=zA HB.out hb1
     clear hc hb1
     go_wp2
     go_ret
     exact ⟨zC hsc.out.symm,HB1.out⟩
   ·have hsc:Hid (zK n G=0):=by
     show _=_
     rw [hz.out]
     exact yG _ _ _ (fun j _ hj=>HA.out j (by omega))
    go_wp2
    go_ret
    exact ⟨zC hsc.out.symm,HB.out⟩
end Go.Proofs.YtkjbafcalamgnaaGreat
