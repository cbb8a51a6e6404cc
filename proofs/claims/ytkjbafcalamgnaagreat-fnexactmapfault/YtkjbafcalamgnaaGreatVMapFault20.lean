/- Texts. -/
import Derived.Test.YtkjbafcalamgnaaGreatVMapFault18
set_option linter.unusedSimpArgs false
set_option linter.unusedVariables false
set_option maxRecDepth 100000
set_option maxHeartbeats 32000000
namespace Go.Proofs.YtkjbafcalamgnaaGreat
open Go.RowKit
abbrev caV (s:Int)(v:Value):Value:=.agg #[.int .i64 s,v]
theorem zHw (B C b d n:Nat)(K A H:Nat→Kp)(w:World)(ha:yA w B b n K A)(hh:yA w C d n K H)(hs:zM n K) :
  Calls Tryz.prog 82 #[.slice (some ⟨b,0,none⟩) n n,.slice (some ⟨d,0,none⟩) n n] w fun e w'=>e=.returned (.bool true)∧Bw w w':=by
 have HA:Hid (yA w B b n K A):=ha
 have HH:Hid (yA w C d n K H):=hh
 have HS:Hid (zM n K):=hs
 have hn:=hs.1
 clear ha hh hs
 go_enter Tryz.func82,Tryz.ntmps82
 go_wp2
 go_loopw [5] (fun i wr=>∃ k:Nat,k≤n∧i=.int .i64 k∧Bw w wr) (fun i _=>n - (intOf i).toNat)
 case atStart=>exact ⟨0,by omega,rfl,Below.refl _ _⟩
 case round =>
  obtain ⟨k,hk,rfl,hB⟩:=hrel
  by_cases hlt:k<n
  ·have HAr:Hid (yA wr B b n K A):=HA.out.below hB
   have HHr:Hid (yA wr C d n K H):=HH.out.below hB
   have a0:∀ W',Bw wr W'→W'.cell? ⟨b,k * 5,none⟩=some (.int .i64 (A k).z):=fun W' h=>((HAr.out.below h).2.2 k hlt).1.1
   have a1:∀ W',Bw wr W'→W'.cell? ⟨b,k * 5+1,none⟩=some (.int .i64 (A k).x):=fun W' h=>((HAr.out.below h).2.2 k hlt).1.2.1
   have a2:∀ W',Bw wr W'→W'.cell? ⟨b,k * 5+2,none⟩=some (.int .i64 (A k).y):=fun W' h=>((HAr.out.below h).2.2 k hlt).1.2.2.1
   have a3:∀ W',Bw wr W'→W'.cell? ⟨b,k * 5+3,none⟩=some (.slice (A k).fa (A k).fn (A k).fc):=fun W' h=>((HAr.out.below h).2.2 k hlt).1.2.2.2.1
   have a4:∀ W',Bw wr W'→W'.cell? ⟨b,k * 5+4,none⟩=some (.slice (A k).ia (A k).m (A k).ic):=fun W' h=>((HAr.out.below h).2.2 k hlt).1.2.2.2.2
   have h0:∀ W',Bw wr W'→W'.cell? ⟨d,k * 5,none⟩=some (.int .i64 (H k).z):=fun W' h=>((HHr.out.below h).2.2 k hlt).1.1
   have h1:∀ W',Bw wr W'→W'.cell? ⟨d,k * 5+1,none⟩=some (.int .i64 (H k).x):=fun W' h=>((HHr.out.below h).2.2 k hlt).1.2.1
   have h2:∀ W',Bw wr W'→W'.cell? ⟨d,k * 5+2,none⟩=some (.int .i64 (H k).y):=fun W' h=>((HHr.out.below h).2.2 k hlt).1.2.2.1
   have h3:∀ W',Bw wr W'→W'.cell? ⟨d,k * 5+3,none⟩=some (.slice (H k).fa (H k).fn (H k).fc):=fun W' h=>((HHr.out.below h).2.2 k hlt).1.2.2.2.1
   have h4:∀ W',Bw wr W'→W'.cell? ⟨d,k * 5+4,none⟩=some (.slice (H k).ia (H k).m (H k).ic):=fun W' h=>((HHr.out.below h).2.2 k hlt).1.2.2.2.2
   have HEQ:Hid (∀ W',Bw wr W'→Calls Tryz.prog 137 #[kpV (A k),kpV (H k)] W' fun e w'=>e=.returned (.bool true)∧Below W'.heap.size W' w'):=fun W' h=>zJ3 B C (K k) (A k) (H k) W' ((HAr.out.below h).2.2 k hlt).2 ((HHr.out.below h).2.2 k hlt).2 (HS.out.2 k hlt)
   have HB:Hid (Bw w wr):=hB
   have HLT:Hid (k<n):=hlt
   have hr:Bw wr wr:=Below.refl _ _
   clear hB
   have hi:(k:Int)<(n:Int):=by omega
   have hi0:(0:Int)≤(k:Int):=by omega
   go_wp2
   go_region_held3 (fun W'=>Bw wr W') ((repeat (first|exact Qr _ _|assumption|refine Qd ?_|refine Qa ?_ _|refine Qt ?_|refine Qs ?_ _|refine Qo ?_ ?_ _ _)))
    (first
     | (go_at_call 137;refine (HEQ.out _ (by assumption)).mono ?_;rintro e w' ⟨rfl,hb⟩)
     | fail)
   go_wp2
   go_roundw
   case rel=>exact ⟨k+1,by have:=HLT.out;omega,by go_num,zA HB.out (by assumption)⟩
   case measure=>have:=HLT.out;simp [intOf];omega
  ·go_wp2
   go_ret
   exact ⟨rfl,hB⟩
theorem zMs (z x y:Int)(a:Option Addr)(n cap left:Nat)(F:Nat→zS)(w:World)(hl:left≤1048576)(hf:zDq w a n F)(hc:uT n F) :
  Calls Tryz.prog 152 #[zKu z x y (.slice a n cap),.int .i64 (left:Int)] w fun e w'=>(e=.returned (.int .i64 (-1))∨∃ m:Nat,m≤left∧zU n F∧e=.returned (.int .i64 m))∧Bw w w':=by
 have HF:Hid (zDq w a n F):=hf
 have HC:Hid (uT n F):=hc
 clear hf hc
 go_enter Tryz.func152,Tryz.ntmps152
 go_wp2_with fail
 generalize hW:(w.alloc _:World)=W
 have hB0:Bw w W:=by subst hW;exact Qb
 clear hW
 refine (uP a n cap F left _ hl (HF.out.below hB0) HC.out).mono ?_
 rintro e w1 ⟨rfl | ⟨m,hm,hS,rfl⟩,hb1⟩
 ·go_wp2
  go_ret
  exact ⟨.inl rfl,Qb⟩
 ·have hneg:¬ ((m:Nat):Int)<0:=by omega
  have HS:Hid (zU n F):=hS
  clear hS
  go_wp2
  go_ret
  exact ⟨.inr ⟨m,hm,HS.out,rfl⟩,Qb⟩
theorem zI4 (a:Option Addr)(n cap left:Nat)(w:World)(hl:left≤1048576)(hn:n≤maxLen) :
  Calls Tryz.prog 153 #[.slice a n cap,.int .i64 (left:Int)] w fun e w'=>(e=.returned (.int .i64 (-1))∨∃ m:Nat,m≤left∧n≤1048576∧e=.returned (.int .i64 m))∧Bw w w':=by
 unfold maxLen at hn
 by_cases h:left<n
 ·have hneg:(left:Int) - (n:Int)<0:=by omega
  go_enter Tryz.func153,Tryz.ntmps153
  go_wp2
  go_ret
  exact ⟨.inl rfl,Qb⟩
 ·have hneg:¬ (left:Int) - (n:Int)<0:=by omega
  go_enter Tryz.func153,Tryz.ntmps153
  go_wp2
  go_ret
  exact ⟨.inr ⟨left - n,by omega,by omega,zC (by omega)⟩,Qb⟩
theorem zMt (k:Kp)(left:Nat)(w:World)(hl:left≤1048576)(hk:zKd w k)(hc:zKe k) :
  Calls Tryz.prog 100 #[kpV k,.int .i64 (left:Int)] w fun e w'=>(e=.returned (.int .i64 (-1))∨∃ m:Nat,m≤left∧vL k∧e=.returned (.int .i64 m))∧Bw w w':=by
 have HK:Hid (zKd w k):=hk
 have HC:Hid (zKe k):=hc
 clear hk hc
 go_enter Tryz.func100,Tryz.ntmps100
 go_wp2_with fail
 generalize hW:(w.alloc _:World)=W
 have hB0:Bw w W:=by subst hW;exact Qb
 have c4:∀ W',Bw W W'→W'.cell? ⟨w.heap.size,4,none⟩=some (.slice k.ia k.m k.ic):=fun W' h=>by rw [h.cell (by subst hW;simp)];subst hW;simp [go_sem]
 clear hW
 refine (zMs k.z k.x k.y k.fa k.fn k.fc left k.F W hl (HK.out.below hB0).1 HC.out.1).mono ?_
 rintro e w1 ⟨rfl | ⟨m,hm,hS,rfl⟩,hb1⟩
 ·go_wp2
  go_ret
  exact ⟨.inl rfl,zA hB0 hb1⟩
 ·have hneg:¬ ((m:Nat):Int)<0:=by omega
  have g4:=c4 w1 hb1
  have HS:Hid (zU k.fn k.F):=hS
  have hB1:Bw w w1:=zA hB0 hb1
  clear hS hb1 hB0 c4
  go_wp2_with fail
  refine (zI4 k.ia k.m k.ic m w1 (by omega) HC.out.2).mono ?_
  rintro e w2 ⟨rfl | ⟨q,hq,hS2,rfl⟩,hb2⟩
  ·go_wp2
   go_ret
   exact ⟨.inl rfl,zA hB1 hb2⟩
  ·have hneg2:¬ ((q:Nat):Int)<0:=by omega
   have HS2:Hid (k.m≤1048576):=hS2
   clear hS2
   go_wp2
   go_ret
   exact ⟨.inr ⟨q,by omega,⟨HS.out,HS2.out⟩,rfl⟩,zA hB1 hb2⟩
theorem zK0 (a:Option Addr)(n cap left:Nat)(K:Nat→Kp)(w:World)(hl:left≤1048576)(hk:zBc w a n K)(hc:vV n K) :
  Calls Tryz.prog 57 #[.slice a n cap,.int .i64 (left:Int)] w fun e w'=>(e=.returned (.int .i64 (-1))∨∃ m:Nat,m≤left∧zM n K∧e=.returned (.int .i64 m))∧Bw w w':=by
 have HK:Hid (zBc w a n K):=hk
 obtain ⟨hc1,hc2⟩:=hc
 have HC:Hid (∀ i,i<n→zKe (K i)):=hc2
 unfold maxLen at hc1
 clear hk hc2
 by_cases h:left<n
 ·have hneg:(left:Int) - (n:Int)<0:=by omega
  go_enter Tryz.func57,Tryz.ntmps57
  go_wp2
  go_ret
  exact ⟨.inl rfl,Qb⟩
 ·have hneg:¬ (left:Int) - (n:Int)<0:=by omega
  go_enter Tryz.func57,Tryz.ntmps57
  go_wp2_with fail
  go_loopw [1,5] (fun v i wr=>∃ k m:Nat,k≤n∧i=.int .i64 (k:Int)∧v=.int .i64 (m:Int)∧m≤left∧(∀ j,j<k→vL (K j))∧Bw w wr) (fun _ i _=>n - (intOf i).toNat)
  case atStart=>exact ⟨0,left - n,by omega,rfl,by congr 1;omega,by omega,fun j hj=>absurd hj (Nat.not_lt_zero _),Below.refl _ _⟩
  case round =>
   obtain ⟨k,m,hk,rfl,rfl,hm,hS,hB⟩:=hrel
   have HS:Hid (∀ j,j<k→vL (K j)):=hS
   have HB:Hid (Bw w wr):=hB
   clear hS
   by_cases hlt:k<n
   ·rcases HK.out with h0 | ⟨b,off,rfl,hbl,hpt⟩
    ·omega
    obtain ⟨⟨f0,f1,f2,f3,f4⟩,hkis⟩:=(hpt.below hB hbl) k hlt
    have HKI:Hid (zKd wr (K k)):=hkis
    have HLT:Hid (k<n):=hlt
    have hi:(k:Int)<(n:Int):=by omega
    have hi0:(0:Int)≤(k:Int):=by omega
    clear hB hpt hkis
    go_wp2_with fail
    refine (zMt (K k) m _ (by omega) HKI.out (HC.out k hlt)).mono ?_
    rintro e w1 ⟨rfl | ⟨q,hq,hS1,rfl⟩,hb1⟩
    ·go_wp2
     go_ret
     exact ⟨.inl rfl,zA HB.out hb1⟩
    ·have hneg2:¬ ((q:Nat):Int)<0:=by omega
     have HS1:Hid (vL (K k)):=hS1
     have HB1:Hid (Bw w w1):=zA HB.out hb1
     clear hS1 hb1 f0 f1 f2 f3 f4
     go_wp2_with fail
     go_roundw
     case rel=>exact ⟨k+1,q,by have:=HLT.out;omega,by go_num,rfl,by omega,fun j hj=>by
       by_cases e:j=k
       ·rw [e];exact HS1.out
       ·exact HS.out j (by omega),HB1.out⟩
     case measure=>have:=HLT.out;simp [intOf];omega
   ·obtain rfl:n=k:=by omega
    go_wp2
    go_ret
    exact ⟨.inr ⟨m,hm,⟨by omega,HS.out⟩,rfl⟩,HB.out⟩
theorem yA.mid {w w':World}{B C b n lo hi:Nat}{K A:Nat→Kp}(h:yA w B b n K A)(hM:vC lo hi w w')(hh:hi≤b):yA w' B b n K A :=
 ⟨h.1,Nat.lt_of_lt_of_le h.2.1 hM.size,fun i hi'=>by
  obtain ⟨⟨h0,h1,h2,h3,h4⟩,h5⟩:=h.2.2 i hi'
  exact ⟨⟨hM.cell h0 (.inr hh),hM.cell h1 (.inr hh),hM.cell h2 (.inr hh),hM.cell h3 (.inr hh),hM.cell h4 (.inr hh)⟩,h5.mid hM (by have:=h.1;omega) (Nat.le_refl _)⟩⟩
theorem zKx (V:World)(a b:Value)(t:TypeId):zD (V.alloc (.cells #[a,b] t)) V.heap.size 2:=fun o ho=>by
 have hc:o=0∨o=1:=by omega
 rcases hc with rfl | rfl <;> exact ⟨⟨_,by simp [go_sem];rfl⟩,by simp [go_sem]⟩
theorem resTC {T:Array Value}{Wf:World}{r:Nat}{s:Int}{v:Value}(hT:T[2]?.getD undef=.pointer (some ⟨r,0,none⟩))(h0:Wf.cell? ⟨r,0,none⟩=some (.int .i64 s))(h1:Wf.cell? ⟨r,1,none⟩=some v) :
  (results Tryz.f32 T).run Tryz.prog Wf=.ok (caV s v) Wf:=by
 simp [results,Tryz.results32,go_sem,hT,h0,h1]
theorem zGv (s:Int)(a:Option Addr)(n cap:Nat)(K:Nat→Kp)(w:World)(hp:zBc w a n K)(hs:zM n K) :
  Calls Tryz.prog 32 #[caV s (.slice a n cap)] w fun e w'=>∃ b A,e=.returned (caV s (.slice (some ⟨b,0,none⟩) n n))∧w.heap.size≤b∧yA w' (b+1) b n K A∧Bw w w':=by
 have HP:Hid (zBc w a n K):=hp
 have HS:Hid (zM n K):=hs
 clear hp hs
 go_enter Tryz.func32,Tryz.ntmps32
 go_wp2_with fail
 generalize hW:(((w.alloc _).alloc _).alloc _:World)=W
 have hB0:Bw w W:=by subst hW;exact Qb
 have HT:Hid (zD W (w.heap.size+1) 2):=by
  show zD _ _ _
  subst hW
  have:=(zKx (w.alloc (.cells #[.int .i64 s,.slice a n cap] 26)) (.int .i64 0) (.slice none 0 0) 35).below (xA (Below.refl _ _) (.cells #[.int .i64 s,.slice none 0 0] 35))
  simpa using this
 have HU:Hid (zD W (w.heap.size+1+1) 2):=by
  show zD _ _ _
  subst hW
  have:=zKx ((w.alloc (.cells #[.int .i64 s,.slice a n cap] 26)).alloc (.cells #[.int .i64 0,.slice none 0 0] 35)) (.int .i64 s) (.slice none 0 0) 35
  simpa using this
 have u0:W.cell? ⟨w.heap.size+1+1,0,none⟩=some (.int .i64 s):=by subst hW;simp [go_sem]
 have hsz:w.heap.size+1+1<W.heap.size:=World.block_lt_of_cell? _ _ u0
 clear hW
 refine (zGu a n cap K W (HP.out.below hB0) HS.out).mono ?_
 rintro e w1 ⟨b,A,rfl,hge,hO1,hb1⟩
 have HO1:Hid (yA w1 (b+1) b n K A):=hO1
 have k0:=yI hb1 u0
 have hT1:=HT.out.below hb1
 have hU1:=HU.out.below hb1
 have hz1:=(hU1 1 (by omega)).2
 obtain ⟨u1,k1⟩:=(hU1 1 (by omega)).1
 have HB1:Hid (Bw w w1):=zA hB0 hb1
 have hne:∀ i j:Nat,i≠j→(⟨w.heap.size+1+1,i,none⟩:Addr)≠⟨w.heap.size+1+1,j,none⟩:=fun i j hij h=>hij (by injection h)
 have i0:(w1.setCell ⟨w.heap.size+1+1,1,none⟩ (.slice (some ⟨b,0,none⟩) n n)).cell? ⟨w.heap.size+1+1,0,none⟩=some (.int .i64 s):=by rw [zB (hne _ _ (by omega))];exact k0
 have i1:(w1.setCell ⟨w.heap.size+1+1,1,none⟩ (.slice (some ⟨b,0,none⟩) n n)).cell? ⟨w.heap.size+1+1,1,none⟩=some (.slice (some ⟨b,0,none⟩) n n):=zG k1
 have HT2:Hid (zD (w1.setCell ⟨w.heap.size+1+1,1,none⟩ (.slice (some ⟨b,0,none⟩) n n)) (w.heap.size+1) 2):=hT1.otherJ (by omega)
 have t0:=HT2.out.cell 0 (by omega)
 have t1:=HT2.out.cell 1 (by omega)
 have f0:=(HT2.out 0 (by omega)).2
 have f1:=(HT2.out 1 (by omega)).2
 clear hT1 hU1 hO1 hb1 hne HT HU hB0 u0 HP
 go_wp2_with fail
 obtain ⟨q0,q1⟩:=zG8 (W:=w1.setCell ⟨w.heap.size+1+1,1,none⟩ (.slice (some ⟨b,0,none⟩) n n)) (r:=w.heap.size+1) (i:=0) (j:=1) (u:=.int .i64 s) (v:=.slice (some ⟨b,0,none⟩) n n) (by omega) (by rw [t0];rfl) (by rw [t1];rfl)
 have hMM:vC w.heap.size (w.heap.size+1+1+1) w1 (((w1.setCell ⟨w.heap.size+1+1,1,none⟩ (.slice (some ⟨b,0,none⟩) n n)).setCell ⟨w.heap.size+1,0,none⟩ (.int .i64 s)).setCell ⟨w.heap.size+1,1,none⟩ (.slice (some ⟨b,0,none⟩) n n)) :=
  (((vC.refl _ _ _).set (by omega) (by omega) _ _).set (by omega) (by omega) _ _).set (by omega) (by omega) _ _
 exact bodyPost_ret (resTC rfl q0 q1) rfl ⟨b,A,rfl,by omega,HO1.out.mid (C:=0) hMM (by omega),HB1.out.trans (hMM.below (by have:=HB1.out.size;omega))⟩
theorem zHx (s:Int)(B C b d n:Nat)(K A H:Nat→Kp)(w:World)(ha:yA w B b n K A)(hh:yA w C d n K H)(hs:zM n K) :
  Calls Tryz.prog 39 #[caV s (.slice (some ⟨b,0,none⟩) n n),caV s (.slice (some ⟨d,0,none⟩) n n)] w fun e w'=>e=.returned (.bool true)∧Bw w w':=by
 have HA:Hid (yA w B b n K A):=ha
 have HH:Hid (yA w C d n K H):=hh
 clear ha hh
 go_enter Tryz.func39,Tryz.ntmps39
 go_wp2_with fail
 generalize hW:((w.alloc _).alloc _:World)=W
 have hB0:Bw w W:=by subst hW;exact Qb
 clear hW
 refine (zHw B C b d n K A H W (HA.out.below hB0) (HH.out.below hB0) hs).mono ?_
 rintro e w1 ⟨rfl,hb1⟩
 go_wp2
 go_ret
 exact ⟨rfl,zA hB0 hb1⟩
end Go.Proofs.YtkjbafcalamgnaaGreat
