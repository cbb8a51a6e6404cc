/- Texts. -/
import Derived.Test.YtkjbafcalamgnaaGreatVPanViewer16
set_option linter.unusedSimpArgs false
set_option linter.unusedVariables false
set_option maxRecDepth 100000
set_option maxHeartbeats 32000000
namespace Go.Proofs.YtkjbafcalamgnaaGreat
open Go.RowKit
def yM (n:Nat)(F:Nat→yB):Prop:=n≤1048576∧∀ i,i<n→(F i).n≤1048576∧(F i).lab.size≤1048576
def zJs (n:Nat)(F:Nat→yB):Prop:=n≤maxLen∧∀ i,i<n→(F i).n≤maxLen∧(F i).lab.size≤maxLen
theorem zS8 (left n s:Nat)(hl:left≤1048576):szF left n s=-1∨∃ m:Nat,szF left n s=(m:Int)∧m≤left∧n≤1048576∧s≤1048576:=by
 unfold szF
 by_cases h:left<n+s
 ·left;rw [if_pos h]
 ·right;rw [if_neg h];exact ⟨left - n - s,by omega,by omega,by omega,by omega⟩
theorem zHy (a:Option Addr)(n cap:Nat)(F:Nat→yB)(left:Nat)(w:World)(hl:left≤1048576)(hf:zGc w a n F)(hc:zJs n F) :
  Calls Tryz.prog 50 #[.slice a n cap,.int .i64 left] w fun e w'=>(e=.returned (.int .i64 (-1))∨∃ m:Nat,m≤left∧yM n F∧e=.returned (.int .i64 m))∧Bw w w':=by
 obtain ⟨hc1,hc2⟩:=hc
 unfold maxLen at hc1
 have HC:Hid (∀ i,i<n→(F i).n≤maxLen∧(F i).lab.size≤maxLen):=hc2
 have HF:Hid (zGc w a n F):=hf
 clear hc2 hf
 by_cases h0:left<n
 ·have hneg:(left:Int) - (n:Int)<0:=by omega
  go_enter Tryz.func50,Tryz.ntmps50
  go_wp2
  go_ret
  exact ⟨.inl rfl,Qb⟩
 ·have hneg:¬ (left:Int) - (n:Int)<0:=by omega
  have hn:n≤1048576:=by omega
  clear hc1
  go_enter Tryz.func50,Tryz.ntmps50
  go_wp2
  go_loopw [1,5] (fun v i wr=>∃ k m:Nat,k≤n∧v=.int .i64 m∧i=.int .i64 k∧m≤left∧(∀ j,j<k→(F j).n≤1048576∧(F j).lab.size≤1048576)∧Bw w wr) (fun _ i _=>n - (intOf i).toNat)
  case atStart=>exact ⟨0,left - n,by omega,by congr 1;omega,rfl,by omega,by omega,Below.refl _ _⟩
  case round =>
   obtain ⟨k,m,hk,rfl,rfl,hm,hA,hB⟩:=hrel
   by_cases hlt:k<n
   ·rcases HF.out with hz | ⟨b,off,rfl,hbl,hpt⟩
    ·omega
    ·obtain ⟨⟨f0,f1,f2,f3,f4,f5,f6⟩,_⟩:=(hpt.below hB hbl) k hlt
     obtain ⟨g1,g2⟩:=HC.out k hlt
     have HG:Hid ((F k).n≤maxLen∧(F k).lab.size≤maxLen):=⟨g1,g2⟩
     have HB:Hid (Bw w wr):=hB
     have HA:Hid (∀ j,j<k→(F j).n≤1048576∧(F j).lab.size≤1048576):=hA
     clear hB hA hpt g1 g2
     have hi:(k:Int)<(n:Int):=by omega
     have hi0:(0:Int)≤(k:Int):=by omega
     have hm1:m≤1048576:=by omega
     go_wp2_with fail
     refine (zJ1 _ _ _ _ _ _ _ _ _ m _ hm1 HG.out.1 HG.out.2).mono ?_
     rintro e w' ⟨rfl,hb⟩
     have HBn:Hid (Bw w w'):=zA HB.out hb
     clear hb f0 f1 f2 f3 f4 f5 f6
     rcases zS8 m (F k).n (F k).lab.size hm1 with h | ⟨m',h,h1,h2,h3⟩
     ·rw [h]
      go_wp2
      go_ret
      exact ⟨.inl rfl,HBn.out⟩
     ·rw [h]
      have hneg':¬ ((m':Nat):Int)<0:=by omega
      go_wp2
      go_roundw
      case rel=>exact ⟨k+1,m',by omega,rfl,by go_num,by omega,fun j hj=>by
        by_cases e:j=k
        ·rw [e];exact ⟨h2,h3⟩
        ·exact HA.out j (by omega),HBn.out⟩
      case measure=>simp [intOf];omega
   ·go_wp2
    go_ret
    exact ⟨.inr ⟨m,hm,⟨hn,fun i hi=>hA i (by omega)⟩,rfl⟩,hB⟩
theorem zIk (b d n B C:Nat)(F G H:Nat→yB)(w:World)(hg:vY w B b n F G)(hh:vY w C d n F H)(hs:yM n F) :
  Calls Tryz.prog 56 #[.slice (some ⟨b,0,none⟩) n n,.slice (some ⟨d,0,none⟩) n n] w fun e w'=>e=.returned (.bool true)∧Bw w w':=by
 have HG:Hid (vY w B b n F G):=hg
 have HH:Hid (vY w C d n F H):=hh
 have hbl:b<w.heap.size:=hg.2.1
 have hdl:d<w.heap.size:=hh.2.1
 have HS:Hid (yM n F):=hs
 clear hg hh hs
 go_enter Tryz.func56,Tryz.ntmps56
 go_wp2
 go_loopw [5] (fun i wr=>∃ k:Nat,k≤n∧i=.int .i64 k∧Bw w wr) (fun i _=>n - (intOf i).toNat)
 case atStart=>exact ⟨0,by omega,rfl,Below.refl _ _⟩
 case round =>
  obtain ⟨k,hk,rfl,hB⟩:=hrel
  by_cases hlt:k<n
  ·have hFG:=HG.out.2.2.1
   have hFH:=HH.out.2.2.1
   have c0:∀ W',Bw wr W'→W'.cell? ⟨b,k * 7,none⟩=some (.int .i64 (G k).id):=fun W' h=>by simpa using ((hFG.below hB hbl).below h (Nat.lt_of_lt_of_le hbl hB.size) k hlt).1.1
   have c1:∀ W',Bw wr W'→W'.cell? ⟨b,k * 7+1,none⟩=some (.int .i64 (G k).la):=fun W' h=>by simpa using ((hFG.below hB hbl).below h (Nat.lt_of_lt_of_le hbl hB.size) k hlt).1.2.1
   have c2:∀ W',Bw wr W'→W'.cell? ⟨b,k * 7+2,none⟩=some (.int .i64 (G k).ki):=fun W' h=>by simpa using ((hFG.below hB hbl).below h (Nat.lt_of_lt_of_le hbl hB.size) k hlt).1.2.2.1
   have c3:∀ W',Bw wr W'→W'.cell? ⟨b,k * 7+3,none⟩=some (.int .i64 (G k).wi):=fun W' h=>by simpa using ((hFG.below hB hbl).below h (Nat.lt_of_lt_of_le hbl hB.size) k hlt).1.2.2.2.1
   have c4:∀ W',Bw wr W'→W'.cell? ⟨b,k * 7+4,none⟩=some (.slice (G k).a (G k).n (G k).cap):=fun W' h=>by simpa using ((hFG.below hB hbl).below h (Nat.lt_of_lt_of_le hbl hB.size) k hlt).1.2.2.2.2.1
   have c5:∀ W',Bw wr W'→W'.cell? ⟨b,k * 7+5,none⟩=some (.string (G k).lab):=fun W' h=>by simpa using ((hFG.below hB hbl).below h (Nat.lt_of_lt_of_le hbl hB.size) k hlt).1.2.2.2.2.2.1
   have c6:∀ W',Bw wr W'→W'.cell? ⟨b,k * 7+6,none⟩=some (.int .i64 (G k).pr):=fun W' h=>by simpa using ((hFG.below hB hbl).below h (Nat.lt_of_lt_of_le hbl hB.size) k hlt).1.2.2.2.2.2.2
   have d0:∀ W',Bw wr W'→W'.cell? ⟨d,k * 7,none⟩=some (.int .i64 (H k).id):=fun W' h=>by simpa using ((hFH.below hB hdl).below h (Nat.lt_of_lt_of_le hdl hB.size) k hlt).1.1
   have d1:∀ W',Bw wr W'→W'.cell? ⟨d,k * 7+1,none⟩=some (.int .i64 (H k).la):=fun W' h=>by simpa using ((hFH.below hB hdl).below h (Nat.lt_of_lt_of_le hdl hB.size) k hlt).1.2.1
   have d2:∀ W',Bw wr W'→W'.cell? ⟨d,k * 7+2,none⟩=some (.int .i64 (H k).ki):=fun W' h=>by simpa using ((hFH.below hB hdl).below h (Nat.lt_of_lt_of_le hdl hB.size) k hlt).1.2.2.1
   have d3:∀ W',Bw wr W'→W'.cell? ⟨d,k * 7+3,none⟩=some (.int .i64 (H k).wi):=fun W' h=>by simpa using ((hFH.below hB hdl).below h (Nat.lt_of_lt_of_le hdl hB.size) k hlt).1.2.2.2.1
   have d4:∀ W',Bw wr W'→W'.cell? ⟨d,k * 7+4,none⟩=some (.slice (H k).a (H k).n (H k).cap):=fun W' h=>by simpa using ((hFH.below hB hdl).below h (Nat.lt_of_lt_of_le hdl hB.size) k hlt).1.2.2.2.2.1
   have d5:∀ W',Bw wr W'→W'.cell? ⟨d,k * 7+5,none⟩=some (.string (H k).lab):=fun W' h=>by simpa using ((hFH.below hB hdl).below h (Nat.lt_of_lt_of_le hdl hB.size) k hlt).1.2.2.2.2.2.1
   have d6:∀ W',Bw wr W'→W'.cell? ⟨d,k * 7+6,none⟩=some (.int .i64 (H k).pr):=fun W' h=>by simpa using ((hFH.below hB hdl).below h (Nat.lt_of_lt_of_le hdl hB.size) k hlt).1.2.2.2.2.2.2
   obtain ⟨sg,q,e1,e2,_,_,e5,e6⟩:=HG.out.2.2.2 k hlt
   obtain ⟨sh,r,g1,g2,_,_,g5,g6⟩:=HH.out.2.2.2 k hlt
   obtain ⟨s1,s2,s3,s4,s5,s6,s7,s8,s9⟩:=sg
   obtain ⟨t1,t2,t3,t4,t5,t6,t7,t8,t9⟩:=sh
   rw [s1] at c0;rw [s2] at c1;rw [s3] at c2;rw [s4] at c3;rw [e1,e2,s5] at c4;rw [s8] at c5;rw [s9] at c6
   rw [t1] at d0;rw [t2] at d1;rw [t3] at d2;rw [t4] at d3;rw [g1,g2,t5] at d4;rw [t8] at d5;rw [t9] at d6
   rw [s5,s6,s7] at e6
   rw [t5,t6,t7] at g6
   have KE:Hid (zL wr q 0 (F k).n (F k).X (F k).Y):=e6.below hB e5
   have KG:Hid (zL wr r 0 (F k).n (F k).X (F k).Y):=g6.below hB g5
   have hql:q<wr.heap.size:=Nat.lt_of_lt_of_le e5 hB.size
   have hrl:r<wr.heap.size:=Nat.lt_of_lt_of_le g5 hB.size
   have HLT:Hid (k<n):=hlt
   have hnn:=HS.out.1
   have hnk:=(HS.out.2 k hlt).1
   have HB:Hid (Bw w wr):=hB
   clear hB hFG hFH s1 s2 s3 s4 s5 s6 s7 s8 s9 t1 t2 t3 t4 t5 t6 t7 t8 t9 e1 e2 e5 e6 g1 g2 g5 g6
   have hi:(k:Int)<(n:Int):=by omega
   have hi0:(0:Int)≤(k:Int):=by omega
   go_wp2
   go_region_held3 (fun W'=>Bw wr W') ((repeat (first|exact Qr _ _|assumption|refine Qd ?_|refine Qa ?_ _|refine Qt ?_|refine Qs ?_ _|refine Qo ?_ ?_ _ _)))
    (first
     | (go_at_call 99;refine (zK8 _ _ _ _ (F k).n (F k).X (F k).Y _ _ q r _ (KE.out.below (by assumption) hql) (KG.out.below (by assumption) hrl) (Nat.lt_of_lt_of_le hql (Below.size (by assumption))) (Nat.lt_of_lt_of_le hrl (Below.size (by assumption))) hnk).mono ?_;rintro e w' ⟨rfl,hb⟩))
   go_wp2
   go_roundw
   case rel=>exact ⟨k+1,by have:=HLT.out;omega,by go_num,zA HB.out (by assumption)⟩
   case measure=>have:=HLT.out;simp [intOf];omega
  ·go_wp2
   go_ret
   exact ⟨rfl,hB⟩
theorem zWe (b n cap:Nat)(G:Nat→yB)(i:Nat)(w:World)(hi:i<n)(hg:zAw w b 0 n G)(hbl:b<w.heap.size)(hn:n≤1048576) :
  Calls Tryz.prog 144 #[.slice (some ⟨b,0,none⟩) n cap,.int .i64 (G i).id] w fun e w'=>(∃ r:Nat,r≤i∧(G r).id=(G i).id∧(∀ j,j<r→(G j).id≠(G i).id)∧e=.returned (.int .i64 r))∧Bw w w':=by
 have HG:Hid (zAw w b 0 n G):=hg
 clear hg
 have HI:Hid (i<n):=hi
 clear hi
 generalize hid:(G i).id=t
 have HT:Hid ((G i).id=t):=hid
 clear hid
 go_enter Tryz.func144,Tryz.ntmps144
 go_wp2
 go_loopw [5] (fun v wr=>∃ k:Nat,k≤i∧v=.int .i64 k∧(∀ j,j<k→(G j).id≠t)∧Bw w wr) (fun v _=>n - (intOf v).toNat)
 case atStart=>exact ⟨0,by omega,rfl,by omega,Below.refl _ _⟩
 case round =>
  obtain ⟨k,hk,rfl,hA,hB⟩:=hrel
  have hlt:k<n:=Nat.lt_of_le_of_lt hk HI.out
  have f0:wr.cell? ⟨b,k * 7,none⟩=some (.int .i64 (G k).id):=by simpa using ((HG.out.below hB hbl) k hlt).1.1
  have HB:Hid (Bw w wr):=hB
  have HA:Hid (∀ j,j<k→(G j).id≠t):=hA
  clear hB hA
  have hi:(k:Int)<(n:Int):=by omega
  have hi0:(0:Int)≤(k:Int):=by omega
  by_cases he:(G k).id=t
  ·rw [he] at f0
   go_wp2
   go_ret
   exact ⟨⟨k,hk,he,HA.out,rfl⟩,HB.out⟩
  ·have he':((G k).id == t)=false:=by simpa using he
   have HE:Hid ((G k).id≠t):=he
   have hki:k≠i:=fun e=>he (by rw [e];exact HT.out)
   clear he
   go_wp2
   go_roundw
   case rel=>exact ⟨k+1,by omega,by go_num,fun j hj=>by
     by_cases e:j=k
     ·rw [e];exact HE.out
     ·exact HA.out j (by omega),HB.out⟩
   case measure=>simp [intOf];omega
theorem zM2 (b n cap N:Nat)(G:Nat→yB)(t:Int)(w:World)(hnN:n≤N)(hg:zAw w b 0 N G)(hbl:b<w.heap.size)(hn:n≤1048576) :
  Calls Tryz.prog 98 #[.slice (some ⟨b,0,none⟩) n cap,.int .i64 t] w fun e w'=>((e=.returned (.bool true)∧∃ j,j<n∧(G j).id=t)∨(e=.returned (.bool false)∧∀ j,j<n→(G j).id≠t))∧Bw w w':=by
 have HG:Hid (zAw w b 0 N G):=hg
 clear hg
 go_enter Tryz.func98,Tryz.ntmps98
 go_wp2
 go_loopw [9] (fun v wr=>∃ k:Nat,k≤n∧v=.int .i64 k∧(∀ j,j<k→(G j).id≠t)∧Bw w wr) (fun v _=>n - (intOf v).toNat)
 case atStart=>exact ⟨0,by omega,rfl,by omega,Below.refl _ _⟩
 case round =>
  obtain ⟨k,hk,rfl,hA,hB⟩:=hrel
  have HB:Hid (Bw w wr):=hB
  have HA:Hid (∀ j,j<k→(G j).id≠t):=hA
  by_cases hlt:k<n
  ·obtain ⟨⟨f0,f1,f2,f3,f4,f5,f6⟩,_⟩:=(HG.out.below hB hbl) k (by omega)
   simp only [Nat.zero_add] at f0 f1 f2 f3 f4 f5 f6
   clear hB hA
   have hi:(k:Int)<(n:Int):=by omega
   have hi0:(0:Int)≤(k:Int):=by omega
   by_cases he:(G k).id=t
   ·have he':((G k).id == t)=true:=by simpa using he
    have HE:Hid ((G k).id=t):=he
    clear he
    go_wp2
    go_ret
    exact ⟨.inl ⟨rfl,k,hlt,HE.out⟩,by have HB':=HB.out;exact Qb⟩
   ·have he':((G k).id == t)=false:=by simpa using he
    have HE:Hid ((G k).id≠t):=he
    clear he
    go_wp2
    go_roundw
    case rel=>exact ⟨k+1,by omega,by go_num,fun j hj=>by
      by_cases e:j=k
      ·rw [e];exact HE.out
      ·exact HA.out j (by omega),by have HB':=HB.out;exact Qb⟩
    case measure=>simp [intOf];omega
  ·go_wp2
   go_ret
   exact ⟨.inr ⟨rfl,fun j hj=>hA j (by omega)⟩,hB⟩
end Go.Proofs.YtkjbafcalamgnaaGreat
