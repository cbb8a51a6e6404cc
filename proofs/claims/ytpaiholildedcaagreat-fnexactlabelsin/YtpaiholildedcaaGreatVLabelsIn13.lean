/- Texts. -/
import Derived.Test.YtpaiholildedcaaGreatVLabelsIn12
set_option linter.unusedSimpArgs false
set_option linter.unusedVariables false
set_option maxRecDepth 100000
set_option maxHeartbeats 32000000
namespace Go.Proofs.YtpaiholildedcaaGreat
open Go.RowKit
theorem zFv (id la wi:Int)(a:Option Addr)(n cap:Nat)(X Y:Nat→Int)(lab:ByteArray)(pr:Int)(w:World)(hpt:xY w a n X Y)(hl:lab.size≤1048576)(hn:n≤1048576) :
  Calls Tryz.prog 240 #[.agg #[.int .i64 id,.int .i64 la,.int .i64 1,.int .i64 wi,.slice a n cap,.string lab,.int .i64 pr]] w fun e w'=>e=.returned (.int .i64 (zI id la 1 wi n X Y lab pr))∧Bw w w':=by
 have HP:Hid (xY w a n X Y):=hpt
 clear hpt
 go_enter Tryz.func240,Tryz.ntmps240
 go_wp2_with fail
 generalize hW:(w.alloc _:World)=W
 have hB0:Bw w W:=by subst hW;exact Qb
 have c0:∀ W',Bw W W'→W'.cell? ⟨w.heap.size,0,none⟩=some (.int .i64 id):=Qc hW
 have c1:∀ W',Bw W W'→W'.cell? ⟨w.heap.size,1,none⟩=some (.int .i64 la):=Qc hW
 have c2:∀ W',Bw W W'→W'.cell? ⟨w.heap.size,2,none⟩=some (.int .i64 1):=Qc hW
 have c3:∀ W',Bw W W'→W'.cell? ⟨w.heap.size,3,none⟩=some (.int .i64 wi):=Qc hW
 have c4:∀ W',Bw W W'→W'.cell? ⟨w.heap.size,4,none⟩=some (.slice a n cap):=Qc hW
 have c5:∀ W',Bw W W'→W'.cell? ⟨w.heap.size,5,none⟩=some (.string lab):=Qc hW
 have c6:∀ W',Bw W W'→W'.cell? ⟨w.heap.size,6,none⟩=some (.int .i64 pr):=Qc hW
 clear hW
 have HB0:Hid (Bw w W):=hB0
 clear hB0
 refine (zSd _).mono ?_
 rintro e w1 ⟨rfl,hb1⟩
 have hB1:Bw W w1:=hb1
 clear hb1
 cases e0:inB id 1 999
 ·have hz:Hid (zI id la 1 wi n X Y lab pr=3):=by show _=_;simp [zI,zB5,e0]
  go_wp2_with (go_at_call 62;refine (zQ _ _ _ _).mono ?_;rintro e w' ⟨rfl,rfl⟩)
  go_ret
  exact ⟨zE hz.out.symm,zA HB0.out hB1⟩
 cases e1:inB la 0 9
 ·have hz:Hid (zI id la 1 wi n X Y lab pr=3):=by show _=_;simp [zI,zB5,e0,e1]
  go_wp2_with (go_at_call 62;refine (zQ _ _ _ _).mono ?_;rintro e w' ⟨rfl,rfl⟩)
  go_ret
  exact ⟨zE hz.out.symm,zA HB0.out hB1⟩
 cases e3:inB wi 0 3
 ·have hz:Hid (zI id la 1 wi n X Y lab pr=3):=by show _=_;simp [zI,zB5,e0,e1,e3]
  go_wp2_with (go_at_call 62;refine (zQ _ _ _ _).mono ?_;rintro e w' ⟨rfl,rfl⟩)
  go_ret
  exact ⟨zE hz.out.symm,zA HB0.out hB1⟩
 cases e4:inB pr 0 9
 ·have hz:Hid (zI id la 1 wi n X Y lab pr=3):=by show _=_;simp [zI,zB5,e0,e1,e3,e4]
  go_wp2_with (go_at_call 62;refine (zQ _ _ _ _).mono ?_;rintro e w' ⟨rfl,rfl⟩)
  go_ret
  exact ⟨zE hz.out.symm,zA HB0.out hB1⟩
 have hr:Hid (zB5 id la 1 wi pr=true):=by show _=_;simp only [zB5,e0,e1,e3,e4];decide
 go_wp2_with (go_at_call 62;refine (zQ _ _ _ _).mono ?_;rintro e w' ⟨rfl,rfl⟩)
 refine (zM3 _).mono ?_
 rintro e w2 ⟨rfl,hb2⟩
 have hB2:Bw W w2:=by exact Qb
 clear hb2 hB1 c0 c1 c2 c3 c6
 go_wp2_with fail
 by_cases hs1:(n:Int)<1
 ·have hd:decide ((n:Int)<1)=true:=decide_eq_true hs1
  have hz:Hid (zI id la 1 wi n X Y lab pr=2):=by
   show _=_
   have:xS 1 n=false:=by simp [xS,inB];omega
   simp [zI,hr.out,this]
  refine wp_region_noPanic ?_
  refine wp_region_held_drew (S:=fun W'=>Bw W W') (by kernel_rfl) (by exact Qb) (fun hHeld=>?_)
  refine zC (i:=0) (d:=some 42) rfl rfl ?_
  simp only [Act.put,Qx,Qy,Qz]
  refine zC (i:=1) (d:=some 43) rfl rfl ?_
  simp only [Act.put,Qx,Qy,Qz]
  refine zC (i:=2) (d:=some 44) rfl rfl ?_
  simp only [Act.put,Qx,Qy,Qz]
  refine zC (i:=3) (d:=some 45) rfl rfl ?_
  simp only [Act.put,Qx,Qy,Qz]
  refine wpAnyH_ready (rs:=[4]) (by kernel_rfl) (by simp) ?_
  refine AllReadyH.cons rfl (fun K hK=>?_) AllReadyH.nil
  go_simp
  refine (zAc _).mono ?_
  rintro e w' ⟨rfl,hb⟩
  go_wp2_with fail
  refine hK.out _ _ (by exact Qb) (fun hHeld=>?_)
  clear hK K
  try simp only [Act.put,Qx,Qy,Qz]
  refine zC (i:=5) (d:=some 47) rfl rfl ?_
  simp only [Act.put,Qx,Qy,Qz]
  refine zC (i:=6) (d:=some 48) rfl rfl ?_
  simp only [Act.put,Qx,Qy,Qz]
  refine zJ (i:=7) (d:=some 49) rfl rfl (by rfl) (by assumption) ?_
  simp only [Act.put,Qx,Qy,Qz]
  refine zJ (i:=8) (d:=some 50) rfl rfl (by rfl) (by assumption) ?_
  simp only [Act.put,Qx,Qy,Qz]
  refine zJ (i:=9) (d:=some 51) rfl rfl (by rfl) (by assumption) ?_
  simp only [Act.put,Qx,Qy,Qz]
  refine zJ (i:=10) (d:=some 52) rfl rfl (by rfl) (by assumption) ?_
  simp only [Act.put,Qx,Qy,Qz]
  refine zJ (i:=11) (d:=some 53) rfl rfl (by rfl) (by assumption) ?_
  simp only [Act.put,Qx,Qy,Qz]
  refine zC (i:=12) (d:=some 54) rfl rfl ?_
  simp only [Act.put,Qx,Qy,Qz]
  refine wpAnyH_done (by kernel_rfl) ?_ _
  refine NoPanic.normal ?_
  go_wp2
  go_ret
  exact ⟨zE hz.out.symm,zA HB0.out (by assumption)⟩
 have hd1:decide ((n:Int)<1)=false:=decide_eq_false hs1
 have HS1:Hid (¬ (n:Int)<1):=hs1
 clear hs1
 by_cases hs2:(1:Int)<n
 ·have hd:decide ((1:Int)<n)=true:=decide_eq_true hs2
  have hz:Hid (zI id la 1 wi n X Y lab pr=2):=by
   show _=_
   have:xS 1 n=false:=by simp [xS,inB];omega
   simp [zI,hr.out,this]
  go_region_held3 (fun W'=>Bw W W') ((repeat (first|exact Qr _ _|assumption|refine Qd ?_|refine Qa ?_ _|refine Qt ?_|refine Qs ?_ _|refine Qo ?_ ?_ _ _)))
   (first | (go_at_call 269;refine (zAc _).mono ?_;rintro e w' ⟨rfl,hb⟩))
  go_wp2
  go_ret
  exact ⟨zE hz.out.symm,zA HB0.out (by assumption)⟩
 have hd2:decide ((1:Int)<n)=false:=decide_eq_false hs2
 have e5:Hid (xS 1 n=true):=by show _=_;have:=HS1.out;simp [xS,inB];omega
 have HS2:Hid (¬ (1:Int)<n):=hs2
 clear hs2
 go_region_held3 (fun W'=>Bw W W') ((repeat (first|exact Qr _ _|assumption|refine Qd ?_|refine Qa ?_ _|refine Qt ?_|refine Qs ?_ _|refine Qo ?_ ?_ _ _)))
  (first | (go_at_call 269;refine (zAc _).mono ?_;rintro e w' ⟨rfl,hb⟩))
 go_wp2
 go_loopw [58] (fun i wr=>∃ k:Nat,k≤n∧i=.int .i64 k∧(∀ j,j<k→inW (X j) (Y j)=true)∧Bw W wr) (fun i _=>n - (intOf i).toNat)
 case atStart=>exact ⟨0,by omega,rfl,by omega,by assumption⟩
 case round =>
  obtain ⟨k,hk,rfl,hA,hB⟩:=hrel
  have HA:Hid (∀ j,j<k→inW (X j) (Y j)=true):=hA
  have HB:Hid (Bw w wr):=zA HB0.out hB
  have KB:Hid (Bw W wr):=hB
  clear hA
  by_cases hlt:k<n
  ·rcases HP.out with hz | ⟨b,off,rfl,hbl,hpt⟩
   ·omega
   have hi:(k:Int)<(n:Int):=by omega
   have hi0:(0:Int)≤(k:Int):=by omega
   obtain ⟨dx,dy⟩:=hpt.below HB.out hbl k hlt
   clear c4 c5 hB hpt hd1 hd2
   cases hq:inW (X k) (Y k)
   ·have hz:Hid (zI id la 1 wi n X Y lab pr=3):=by show _=_;simp [zI,hr.out,e5.out,zAw k hlt hq]
    go_wp2_with (go_at_call 270;refine (yY _ _ _).mono ?_;rintro e w' ⟨rfl,hb⟩)
    go_ret
    exact ⟨zE hz.out.symm,by have HB':=HB.out;exact Qb⟩
   ·have HI:Hid (inW (X k) (Y k)=true):=hq
    go_wp2_with (go_at_call 270;refine (yY _ _ _).mono ?_;rintro e w' ⟨rfl,hb⟩)
    go_roundw
    case rel=>exact ⟨k+1,by omega,by go_num,fun j hj=>by
      by_cases e:j=k
      ·rw [e];exact HI.out
      ·exact HA.out j (by omega),by have KB':=KB.out;exact Qb⟩
    case measure=>simp [intOf];omega
  ·have hz:Hid (zI id la 1 wi n X Y lab pr=if zH2 lab=true then 0 else 5):=by
    show _=_
    have:zKv n X Y=true:=decide_eq_true (fun i hi=>HA.out i (by omega))
    simp [zI,hr.out,e5.out,this]
   have d5:=c5 wr hB
   clear c4 c5 hd1 hd2
   cases el:zH2 lab
   all_goals
    go_wp2_with (go_at_call 271;refine (zBn _ _ hl).mono ?_;rintro e w' ⟨rfl,hb⟩)
    go_ret
    exact ⟨zE (by rw [hz.out];simp [el]),zA HB.out hb⟩
theorem zFu (id la wi:Int)(a:Option Addr)(n cap:Nat)(X Y:Nat→Int)(lab:ByteArray)(pr:Int)(w:World)(hpt:xY w a n X Y)(hl:lab.size≤1048576)(hn:n≤1048576) :
  Calls Tryz.prog 240 #[.agg #[.int .i64 id,.int .i64 la,.int .i64 2,.int .i64 wi,.slice a n cap,.string lab,.int .i64 pr]] w fun e w'=>e=.returned (.int .i64 (zI id la 2 wi n X Y lab pr))∧Bw w w':=by
 have HP:Hid (xY w a n X Y):=hpt
 clear hpt
 go_enter Tryz.func240,Tryz.ntmps240
 go_wp2_with fail
 generalize hW:(w.alloc _:World)=W
 have hB0:Bw w W:=by subst hW;exact Qb
 have c0:∀ W',Bw W W'→W'.cell? ⟨w.heap.size,0,none⟩=some (.int .i64 id):=Qc hW
 have c1:∀ W',Bw W W'→W'.cell? ⟨w.heap.size,1,none⟩=some (.int .i64 la):=Qc hW
 have c2:∀ W',Bw W W'→W'.cell? ⟨w.heap.size,2,none⟩=some (.int .i64 2):=Qc hW
 have c3:∀ W',Bw W W'→W'.cell? ⟨w.heap.size,3,none⟩=some (.int .i64 wi):=Qc hW
 have c4:∀ W',Bw W W'→W'.cell? ⟨w.heap.size,4,none⟩=some (.slice a n cap):=Qc hW
 have c5:∀ W',Bw W W'→W'.cell? ⟨w.heap.size,5,none⟩=some (.string lab):=Qc hW
 have c6:∀ W',Bw W W'→W'.cell? ⟨w.heap.size,6,none⟩=some (.int .i64 pr):=Qc hW
 clear hW
 have HB0:Hid (Bw w W):=hB0
 clear hB0
 refine (zSc _).mono ?_
 rintro e w1 ⟨rfl,hb1⟩
 have hB1:Bw W w1:=hb1
 clear hb1
 cases e0:inB id 1 999
 ·have hz:Hid (zI id la 2 wi n X Y lab pr=3):=by show _=_;simp [zI,zB5,e0]
  go_wp2_with (go_at_call 62;refine (zQ _ _ _ _).mono ?_;rintro e w' ⟨rfl,rfl⟩)
  go_ret
  exact ⟨zE hz.out.symm,zA HB0.out hB1⟩
 cases e1:inB la 0 9
 ·have hz:Hid (zI id la 2 wi n X Y lab pr=3):=by show _=_;simp [zI,zB5,e0,e1]
  go_wp2_with (go_at_call 62;refine (zQ _ _ _ _).mono ?_;rintro e w' ⟨rfl,rfl⟩)
  go_ret
  exact ⟨zE hz.out.symm,zA HB0.out hB1⟩
 cases e3:inB wi 0 3
 ·have hz:Hid (zI id la 2 wi n X Y lab pr=3):=by show _=_;simp [zI,zB5,e0,e1,e3]
  go_wp2_with (go_at_call 62;refine (zQ _ _ _ _).mono ?_;rintro e w' ⟨rfl,rfl⟩)
  go_ret
  exact ⟨zE hz.out.symm,zA HB0.out hB1⟩
 cases e4:inB pr 0 9
 ·have hz:Hid (zI id la 2 wi n X Y lab pr=3):=by show _=_;simp [zI,zB5,e0,e1,e3,e4]
  go_wp2_with (go_at_call 62;refine (zQ _ _ _ _).mono ?_;rintro e w' ⟨rfl,rfl⟩)
  go_ret
  exact ⟨zE hz.out.symm,zA HB0.out hB1⟩
 have hr:Hid (zB5 id la 2 wi pr=true):=by show _=_;simp only [zB5,e0,e1,e3,e4];decide
 go_wp2_with (go_at_call 62;refine (zQ _ _ _ _).mono ?_;rintro e w' ⟨rfl,rfl⟩)
 refine (zM2 _).mono ?_
 rintro e w2 ⟨rfl,hb2⟩
 have hB2:Bw W w2:=by exact Qb
 clear hb2 hB1 c0 c1 c2 c3 c6
 go_wp2_with fail
 by_cases hs1:(n:Int)<2
 ·have hd:decide ((n:Int)<2)=true:=decide_eq_true hs1
  have hz:Hid (zI id la 2 wi n X Y lab pr=2):=by
   show _=_
   have:xS 2 n=false:=by simp [xS,inB];omega
   simp [zI,hr.out,this]
  refine wp_region_noPanic ?_
  refine wp_region_held_drew (S:=fun W'=>Bw W W') (by kernel_rfl) (by exact Qb) (fun hHeld=>?_)
  refine zC (i:=0) (d:=some 42) rfl rfl ?_
  simp only [Act.put,Qx,Qy,Qz]
  refine zC (i:=1) (d:=some 43) rfl rfl ?_
  simp only [Act.put,Qx,Qy,Qz]
  refine zC (i:=2) (d:=some 44) rfl rfl ?_
  simp only [Act.put,Qx,Qy,Qz]
  refine zC (i:=3) (d:=some 45) rfl rfl ?_
  simp only [Act.put,Qx,Qy,Qz]
  refine wpAnyH_ready (rs:=[4]) (by kernel_rfl) (by simp) ?_
  refine AllReadyH.cons rfl (fun K hK=>?_) AllReadyH.nil
  go_simp
  refine (zAb _).mono ?_
  rintro e w' ⟨rfl,hb⟩
  go_wp2_with fail
  refine hK.out _ _ (by exact Qb) (fun hHeld=>?_)
  clear hK K
  try simp only [Act.put,Qx,Qy,Qz]
  refine zC (i:=5) (d:=some 47) rfl rfl ?_
  simp only [Act.put,Qx,Qy,Qz]
  refine zC (i:=6) (d:=some 48) rfl rfl ?_
  simp only [Act.put,Qx,Qy,Qz]
  refine zJ (i:=7) (d:=some 49) rfl rfl (by rfl) (by assumption) ?_
  simp only [Act.put,Qx,Qy,Qz]
  refine zJ (i:=8) (d:=some 50) rfl rfl (by rfl) (by assumption) ?_
  simp only [Act.put,Qx,Qy,Qz]
  refine zJ (i:=9) (d:=some 51) rfl rfl (by rfl) (by assumption) ?_
  simp only [Act.put,Qx,Qy,Qz]
  refine zJ (i:=10) (d:=some 52) rfl rfl (by rfl) (by assumption) ?_
  simp only [Act.put,Qx,Qy,Qz]
  refine zJ (i:=11) (d:=some 53) rfl rfl (by rfl) (by assumption) ?_
  simp only [Act.put,Qx,Qy,Qz]
  refine zC (i:=12) (d:=some 54) rfl rfl ?_
  simp only [Act.put,Qx,Qy,Qz]
  refine wpAnyH_done (by kernel_rfl) ?_ _
  refine NoPanic.normal ?_
  go_wp2
  go_ret
  exact ⟨zE hz.out.symm,zA HB0.out (by assumption)⟩
 have hd1:decide ((n:Int)<2)=false:=decide_eq_false hs1
 have HS1:Hid (¬ (n:Int)<2):=hs1
 clear hs1
 by_cases hs2:(12:Int)<n
 ·have hd:decide ((12:Int)<n)=true:=decide_eq_true hs2
  have hz:Hid (zI id la 2 wi n X Y lab pr=2):=by
   show _=_
   have:xS 2 n=false:=by simp [xS,inB];omega
   simp [zI,hr.out,this]
  go_region_held3 (fun W'=>Bw W W') ((repeat (first|exact Qr _ _|assumption|refine Qd ?_|refine Qa ?_ _|refine Qt ?_|refine Qs ?_ _|refine Qo ?_ ?_ _ _)))
   (first | (go_at_call 269;refine (zAb _).mono ?_;rintro e w' ⟨rfl,hb⟩))
  go_wp2
  go_ret
  exact ⟨zE hz.out.symm,zA HB0.out (by assumption)⟩
 have hd2:decide ((12:Int)<n)=false:=decide_eq_false hs2
 have e5:Hid (xS 2 n=true):=by show _=_;have:=HS1.out;simp [xS,inB];omega
 have HS2:Hid (¬ (12:Int)<n):=hs2
 clear hs2
 go_region_held3 (fun W'=>Bw W W') ((repeat (first|exact Qr _ _|assumption|refine Qd ?_|refine Qa ?_ _|refine Qt ?_|refine Qs ?_ _|refine Qo ?_ ?_ _ _)))
  (first | (go_at_call 269;refine (zAb _).mono ?_;rintro e w' ⟨rfl,hb⟩))
 go_wp2
 go_loopw [58] (fun i wr=>∃ k:Nat,k≤n∧i=.int .i64 k∧(∀ j,j<k→inW (X j) (Y j)=true)∧Bw W wr) (fun i _=>n - (intOf i).toNat)
 case atStart=>exact ⟨0,by omega,rfl,by omega,by assumption⟩
 case round =>
  obtain ⟨k,hk,rfl,hA,hB⟩:=hrel
  have HA:Hid (∀ j,j<k→inW (X j) (Y j)=true):=hA
  have HB:Hid (Bw w wr):=zA HB0.out hB
  have KB:Hid (Bw W wr):=hB
  clear hA
  by_cases hlt:k<n
  ·rcases HP.out with hz | ⟨b,off,rfl,hbl,hpt⟩
   ·omega
   have hi:(k:Int)<(n:Int):=by omega
   have hi0:(0:Int)≤(k:Int):=by omega
   obtain ⟨dx,dy⟩:=hpt.below HB.out hbl k hlt
   clear c4 c5 hB hpt hd1 hd2
   cases hq:inW (X k) (Y k)
   ·have hz:Hid (zI id la 2 wi n X Y lab pr=3):=by show _=_;simp [zI,hr.out,e5.out,zAw k hlt hq]
    go_wp2_with (go_at_call 270;refine (yY _ _ _).mono ?_;rintro e w' ⟨rfl,hb⟩)
    go_ret
    exact ⟨zE hz.out.symm,by have HB':=HB.out;exact Qb⟩
   ·have HI:Hid (inW (X k) (Y k)=true):=hq
    go_wp2_with (go_at_call 270;refine (yY _ _ _).mono ?_;rintro e w' ⟨rfl,hb⟩)
    go_roundw
    case rel=>exact ⟨k+1,by omega,by go_num,fun j hj=>by
      by_cases e:j=k
      ·rw [e];exact HI.out
      ·exact HA.out j (by omega),by have KB':=KB.out;exact Qb⟩
    case measure=>simp [intOf];omega
  ·have hz:Hid (zI id la 2 wi n X Y lab pr=if zH2 lab=true then 0 else 5):=by
    show _=_
    have:zKv n X Y=true:=decide_eq_true (fun i hi=>HA.out i (by omega))
    simp [zI,hr.out,e5.out,this]
   have d5:=c5 wr hB
   clear c4 c5 hd1 hd2
   cases el:zH2 lab
   all_goals
    go_wp2_with (go_at_call 271;refine (zBn _ _ hl).mono ?_;rintro e w' ⟨rfl,hb⟩)
    go_ret
    exact ⟨zE (by rw [hz.out];simp [el]),zA HB.out hb⟩
theorem zFt (id la wi:Int)(a:Option Addr)(n cap:Nat)(X Y:Nat→Int)(lab:ByteArray)(pr:Int)(w:World)(hpt:xY w a n X Y)(hl:lab.size≤1048576)(hn:n≤1048576) :
  Calls Tryz.prog 240 #[.agg #[.int .i64 id,.int .i64 la,.int .i64 3,.int .i64 wi,.slice a n cap,.string lab,.int .i64 pr]] w fun e w'=>e=.returned (.int .i64 (zI id la 3 wi n X Y lab pr))∧Bw w w':=by
 have HP:Hid (xY w a n X Y):=hpt
 clear hpt
 go_enter Tryz.func240,Tryz.ntmps240
 go_wp2_with fail
 generalize hW:(w.alloc _:World)=W
 have hB0:Bw w W:=by subst hW;exact Qb
 have c0:∀ W',Bw W W'→W'.cell? ⟨w.heap.size,0,none⟩=some (.int .i64 id):=Qc hW
 have c1:∀ W',Bw W W'→W'.cell? ⟨w.heap.size,1,none⟩=some (.int .i64 la):=Qc hW
 have c2:∀ W',Bw W W'→W'.cell? ⟨w.heap.size,2,none⟩=some (.int .i64 3):=Qc hW
 have c3:∀ W',Bw W W'→W'.cell? ⟨w.heap.size,3,none⟩=some (.int .i64 wi):=Qc hW
 have c4:∀ W',Bw W W'→W'.cell? ⟨w.heap.size,4,none⟩=some (.slice a n cap):=Qc hW
 have c5:∀ W',Bw W W'→W'.cell? ⟨w.heap.size,5,none⟩=some (.string lab):=Qc hW
 have c6:∀ W',Bw W W'→W'.cell? ⟨w.heap.size,6,none⟩=some (.int .i64 pr):=Qc hW
 clear hW
 have HB0:Hid (Bw w W):=hB0
 clear hB0
 refine (zSb _).mono ?_
 rintro e w1 ⟨rfl,hb1⟩
 have hB1:Bw W w1:=hb1
 clear hb1
 cases e0:inB id 1 999
 ·have hz:Hid (zI id la 3 wi n X Y lab pr=3):=by show _=_;simp [zI,zB5,e0]
  go_wp2_with (go_at_call 62;refine (zQ _ _ _ _).mono ?_;rintro e w' ⟨rfl,rfl⟩)
  go_ret
  exact ⟨zE hz.out.symm,zA HB0.out hB1⟩
 cases e1:inB la 0 9
 ·have hz:Hid (zI id la 3 wi n X Y lab pr=3):=by show _=_;simp [zI,zB5,e0,e1]
  go_wp2_with (go_at_call 62;refine (zQ _ _ _ _).mono ?_;rintro e w' ⟨rfl,rfl⟩)
  go_ret
  exact ⟨zE hz.out.symm,zA HB0.out hB1⟩
 cases e3:inB wi 0 3
 ·have hz:Hid (zI id la 3 wi n X Y lab pr=3):=by show _=_;simp [zI,zB5,e0,e1,e3]
  go_wp2_with (go_at_call 62;refine (zQ _ _ _ _).mono ?_;rintro e w' ⟨rfl,rfl⟩)
  go_ret
  exact ⟨zE hz.out.symm,zA HB0.out hB1⟩
 cases e4:inB pr 0 9
 ·have hz:Hid (zI id la 3 wi n X Y lab pr=3):=by show _=_;simp [zI,zB5,e0,e1,e3,e4]
  go_wp2_with (go_at_call 62;refine (zQ _ _ _ _).mono ?_;rintro e w' ⟨rfl,rfl⟩)
  go_ret
  exact ⟨zE hz.out.symm,zA HB0.out hB1⟩
 have hr:Hid (zB5 id la 3 wi pr=true):=by show _=_;simp only [zB5,e0,e1,e3,e4];decide
 go_wp2_with (go_at_call 62;refine (zQ _ _ _ _).mono ?_;rintro e w' ⟨rfl,rfl⟩)
 refine (zM1 _).mono ?_
 rintro e w2 ⟨rfl,hb2⟩
 have hB2:Bw W w2:=by exact Qb
 clear hb2 hB1 c0 c1 c2 c3 c6
 go_wp2_with fail
 by_cases hs1:(n:Int)<3
 ·have hd:decide ((n:Int)<3)=true:=decide_eq_true hs1
  have hz:Hid (zI id la 3 wi n X Y lab pr=2):=by
   show _=_
   have:xS 3 n=false:=by simp [xS,inB];omega
   simp [zI,hr.out,this]
  refine wp_region_noPanic ?_
  refine wp_region_held_drew (S:=fun W'=>Bw W W') (by kernel_rfl) (by exact Qb) (fun hHeld=>?_)
  refine zC (i:=0) (d:=some 42) rfl rfl ?_
  simp only [Act.put,Qx,Qy,Qz]
  refine zC (i:=1) (d:=some 43) rfl rfl ?_
  simp only [Act.put,Qx,Qy,Qz]
  refine zC (i:=2) (d:=some 44) rfl rfl ?_
  simp only [Act.put,Qx,Qy,Qz]
  refine zC (i:=3) (d:=some 45) rfl rfl ?_
  simp only [Act.put,Qx,Qy,Qz]
  refine wpAnyH_ready (rs:=[4]) (by kernel_rfl) (by simp) ?_
  refine AllReadyH.cons rfl (fun K hK=>?_) AllReadyH.nil
  go_simp
  refine (zAa _).mono ?_
  rintro e w' ⟨rfl,hb⟩
  go_wp2_with fail
  refine hK.out _ _ (by exact Qb) (fun hHeld=>?_)
  clear hK K
  try simp only [Act.put,Qx,Qy,Qz]
  refine zC (i:=5) (d:=some 47) rfl rfl ?_
  simp only [Act.put,Qx,Qy,Qz]
  refine zC (i:=6) (d:=some 48) rfl rfl ?_
  simp only [Act.put,Qx,Qy,Qz]
  refine zJ (i:=7) (d:=some 49) rfl rfl (by rfl) (by assumption) ?_
  simp only [Act.put,Qx,Qy,Qz]
  refine zJ (i:=8) (d:=some 50) rfl rfl (by rfl) (by assumption) ?_
  simp only [Act.put,Qx,Qy,Qz]
  refine zJ (i:=9) (d:=some 51) rfl rfl (by rfl) (by assumption) ?_
  simp only [Act.put,Qx,Qy,Qz]
  refine zJ (i:=10) (d:=some 52) rfl rfl (by rfl) (by assumption) ?_
  simp only [Act.put,Qx,Qy,Qz]
  refine zJ (i:=11) (d:=some 53) rfl rfl (by rfl) (by assumption) ?_
  simp only [Act.put,Qx,Qy,Qz]
  refine zC (i:=12) (d:=some 54) rfl rfl ?_
  simp only [Act.put,Qx,Qy,Qz]
  refine wpAnyH_done (by kernel_rfl) ?_ _
  refine NoPanic.normal ?_
  go_wp2
  go_ret
  exact ⟨zE hz.out.symm,zA HB0.out (by assumption)⟩
 have hd1:decide ((n:Int)<3)=false:=decide_eq_false hs1
 have HS1:Hid (¬ (n:Int)<3):=hs1
 clear hs1
 by_cases hs2:(12:Int)<n
 ·have hd:decide ((12:Int)<n)=true:=decide_eq_true hs2
  have hz:Hid (zI id la 3 wi n X Y lab pr=2):=by
   show _=_
   have:xS 3 n=false:=by simp [xS,inB];omega
   simp [zI,hr.out,this]
  go_region_held3 (fun W'=>Bw W W') ((repeat (first|exact Qr _ _|assumption|refine Qd ?_|refine Qa ?_ _|refine Qt ?_|refine Qs ?_ _|refine Qo ?_ ?_ _ _)))
   (first | (go_at_call 269;refine (zAa _).mono ?_;rintro e w' ⟨rfl,hb⟩))
  go_wp2
  go_ret
  exact ⟨zE hz.out.symm,zA HB0.out (by assumption)⟩
 have hd2:decide ((12:Int)<n)=false:=decide_eq_false hs2
 have e5:Hid (xS 3 n=true):=by show _=_;have:=HS1.out;simp [xS,inB];omega
 have HS2:Hid (¬ (12:Int)<n):=hs2
 clear hs2
 go_region_held3 (fun W'=>Bw W W') ((repeat (first|exact Qr _ _|assumption|refine Qd ?_|refine Qa ?_ _|refine Qt ?_|refine Qs ?_ _|refine Qo ?_ ?_ _ _)))
  (first | (go_at_call 269;refine (zAa _).mono ?_;rintro e w' ⟨rfl,hb⟩))
 go_wp2
 go_loopw [58] (fun i wr=>∃ k:Nat,k≤n∧i=.int .i64 k∧(∀ j,j<k→inW (X j) (Y j)=true)∧Bw W wr) (fun i _=>n - (intOf i).toNat)
 case atStart=>exact ⟨0,by omega,rfl,by omega,by assumption⟩
 case round =>
  obtain ⟨k,hk,rfl,hA,hB⟩:=hrel
  have HA:Hid (∀ j,j<k→inW (X j) (Y j)=true):=hA
  have HB:Hid (Bw w wr):=zA HB0.out hB
  have KB:Hid (Bw W wr):=hB
  clear hA
  by_cases hlt:k<n
  ·rcases HP.out with hz | ⟨b,off,rfl,hbl,hpt⟩
   ·omega
   have hi:(k:Int)<(n:Int):=by omega
   have hi0:(0:Int)≤(k:Int):=by omega
   obtain ⟨dx,dy⟩:=hpt.below HB.out hbl k hlt
   clear c4 c5 hB hpt hd1 hd2
   cases hq:inW (X k) (Y k)
   ·have hz:Hid (zI id la 3 wi n X Y lab pr=3):=by show _=_;simp [zI,hr.out,e5.out,zAw k hlt hq]
    go_wp2_with (go_at_call 270;refine (yY _ _ _).mono ?_;rintro e w' ⟨rfl,hb⟩)
    go_ret
    exact ⟨zE hz.out.symm,by have HB':=HB.out;exact Qb⟩
   ·have HI:Hid (inW (X k) (Y k)=true):=hq
    go_wp2_with (go_at_call 270;refine (yY _ _ _).mono ?_;rintro e w' ⟨rfl,hb⟩)
    go_roundw
    case rel=>exact ⟨k+1,by omega,by go_num,fun j hj=>by
      by_cases e:j=k
      ·rw [e];exact HI.out
      ·exact HA.out j (by omega),by have KB':=KB.out;exact Qb⟩
    case measure=>simp [intOf];omega
  ·have hz:Hid (zI id la 3 wi n X Y lab pr=if zH2 lab=true then 0 else 5):=by
    show _=_
    have:zKv n X Y=true:=decide_eq_true (fun i hi=>HA.out i (by omega))
    simp [zI,hr.out,e5.out,this]
   have d5:=c5 wr hB
   clear c4 c5 hd1 hd2
   cases el:zH2 lab
   all_goals
    go_wp2_with (go_at_call 271;refine (zBn _ _ hl).mono ?_;rintro e w' ⟨rfl,hb⟩)
    go_ret
    exact ⟨zE (by rw [hz.out];simp [el]),zA HB.out hb⟩
theorem zE3 (id la ki wi:Int)(a:Option Addr)(n cap:Nat)(X Y:Nat→Int)(lab:ByteArray)(pr:Int)(w:World)(hpt:xY w a n X Y)(hl:lab.size≤1048576)(hn:n≤1048576)(k1:ki≠1)(k2:ki≠2)(k3:ki≠3) :
  Calls Tryz.prog 240 #[.agg #[.int .i64 id,.int .i64 la,.int .i64 ki,.int .i64 wi,.slice a n cap,.string lab,.int .i64 pr]] w fun e w'=>e=.returned (.int .i64 (zI id la ki wi n X Y lab pr))∧Bw w w':=by
 have HP:Hid (xY w a n X Y):=hpt
 clear hpt
 go_enter Tryz.func240,Tryz.ntmps240
 go_wp2_with fail
 generalize hW:(w.alloc _:World)=W
 have hB0:Bw w W:=by subst hW;exact Qb
 have c0:∀ W',Bw W W'→W'.cell? ⟨w.heap.size,0,none⟩=some (.int .i64 id):=Qc hW
 have c1:∀ W',Bw W W'→W'.cell? ⟨w.heap.size,1,none⟩=some (.int .i64 la):=Qc hW
 have c2:∀ W',Bw W W'→W'.cell? ⟨w.heap.size,2,none⟩=some (.int .i64 ki):=Qc hW
 have c3:∀ W',Bw W W'→W'.cell? ⟨w.heap.size,3,none⟩=some (.int .i64 wi):=Qc hW
 have c4:∀ W',Bw W W'→W'.cell? ⟨w.heap.size,4,none⟩=some (.slice a n cap):=Qc hW
 have c5:∀ W',Bw W W'→W'.cell? ⟨w.heap.size,5,none⟩=some (.string lab):=Qc hW
 have c6:∀ W',Bw W W'→W'.cell? ⟨w.heap.size,6,none⟩=some (.int .i64 pr):=Qc hW
 clear hW
 have HB0:Hid (Bw w W):=hB0
 clear hB0
 have hz:Hid (zI id la ki wi n X Y lab pr=3):=by
  show _=_
  have:inB ki 1 3=false:=by simp [inB];omega
  simp [zI,zB5,this]
 refine (zP4 ki _ k1 k2 k3).mono ?_
 rintro e w1 ⟨rfl,hb1⟩
 have hB1:Bw W w1:=hb1
 clear hb1 k1 k2 k3
 go_wp2
 go_ret
 exact ⟨zE hz.out.symm,zA HB0.out hB1⟩
theorem zDd (id la ki wi:Int)(a:Option Addr)(n cap:Nat)(X Y:Nat→Int)(lab:ByteArray)(pr:Int)(w:World)(hpt:xY w a n X Y)(hl:lab.size≤1048576)(hn:n≤1048576) :
  Calls Tryz.prog 240 #[.agg #[.int .i64 id,.int .i64 la,.int .i64 ki,.int .i64 wi,.slice a n cap,.string lab,.int .i64 pr]] w fun e w'=>e=.returned (.int .i64 (zI id la ki wi n X Y lab pr))∧Bw w w':=by
 by_cases k1:ki=1
 ·subst k1;exact zFv id la wi a n cap X Y lab pr w hpt hl hn
 by_cases k2:ki=2
 ·subst k2;exact zFu id la wi a n cap X Y lab pr w hpt hl hn
 by_cases k3:ki=3
 ·subst k3;exact zFt id la wi a n cap X Y lab pr w hpt hl hn
 exact zE3 id la ki wi a n cap X Y lab pr w hpt hl hn k1 k2 k3
def isR (e : Req) (z x y : Int) : Bool := (e.z == z) && ((e.x == x) && (e.y == y))
def zJ8 (e : Req) : Bool := zAv e.z e.x e.y && (inB e.du 0 9999 && inB e.tr 1 99)
def zTb (e : Req) : Int := if zJ8 e = true then 0 else 3
def atW (n : Nat) (E : Nat → Req) (z x y : Int) : Int := yK (fun i => isR (E i) z x y) n
def xE (E : Nat → Req) (i : Nat) : Int := if zJ8 (E i) = true then (if 0 ≤ atW i E (E i).z (E i).x (E i).y then 6 else 0) else 3
def zX (n : Nat) (E : Nat → Req) : Int := if 8 < n then 2 else yR (xE E) 0 n
theorem zB6 {E : Nat → Req} {i : Nat} (h : zJ8 (E i) = false) : xE E i = 3 := by simp [xE, h]
theorem zL1 {E : Nat → Req} {i : Nat} (h : zJ8 (E i) = true) (h2 : atW i E (E i).z (E i).x (E i).y = -1) : xE E i = 0 := by simp [xE, h, h2]
theorem zDx {E : Nat → Req} {i : Nat} (h : zJ8 (E i) = true) (h2 : 0 ≤ atW i E (E i).z (E i).x (E i).y) : xE E i = 6 := by simp [xE, h, h2]
theorem zSg (e : Req) : isR e e.z e.x e.y = true := by simp [isR]
def zOl (w : World) (p : Nat) (z x y : Int) : Prop := w.cell? ⟨p, 0, none⟩ = some (.int .i64 z) ∧ w.cell? ⟨p, 1, none⟩ = some (.int .i64 x) ∧ w.cell? ⟨p, 2, none⟩ = some (.int .i64 y)
theorem zOl.lt {w : World} {p : Nat} {z x y : Int} (h : zOl w p z x y) : p < w.heap.size := World.block_lt_of_cell? _ _ h.1
theorem zOl.below {w w' : World} {p : Nat} {z x y : Int} (h : zOl w p z x y) (hb : Below w.heap.size w w') : zOl w' p z x y :=
 ⟨(hb.cell (p := ⟨p, 0, none⟩) h.lt).trans h.1, (hb.cell (p := ⟨p, 1, none⟩) h.lt).trans h.2.1, (hb.cell (p := ⟨p, 2, none⟩) h.lt).trans h.2.2⟩
theorem zSj (args : Array Value) (w : World) : (callFunc 172 args).run Tryz.prog w = .ok (.enter 172 args) w := by
 have h1 : (Tryz.f172).name ≠ "runtime.NumGoroutine" := by
  have : ((Tryz.f172).name == "runtime.NumGoroutine") = false := by kernel_rfl
  simpa using this
 have hb : ∃ c, (Tryz.f172).body = some c := ⟨_, rfl⟩
 obtain ⟨c, hb⟩ := hb
 simp [callFunc, Tryz.func172, h1, hb]
theorem zFb (e : Req) (r : Nat) (z x y : Int) (w : World) (h : zOl w r z x y) :
  Calls Tryz.prog 172 #[zTa e, .pointer (some ⟨r, 0, none⟩)] w fun q w' => q = .returned (.bool (isR e z x y)) ∧ Bw w w' := by
 have hl := h.lt
 have c0 : (w.alloc (.cells #[.int .i64 e.z, .int .i64 e.x, .int .i64 e.y, .int .i64 e.du, .int .i64 e.tr] 134)).cell? ⟨r, 0, none⟩ = some (.int .i64 z) := by rw [World.cell?_alloc_lt _ _ _ hl]; exact h.1
 have c1 : (w.alloc (.cells #[.int .i64 e.z, .int .i64 e.x, .int .i64 e.y, .int .i64 e.du, .int .i64 e.tr] 134)).cell? ⟨r, 1, none⟩ = some (.int .i64 x) := by rw [World.cell?_alloc_lt _ _ _ hl]; exact h.2.1
 have c2 : (w.alloc (.cells #[.int .i64 e.z, .int .i64 e.x, .int .i64 e.y, .int .i64 e.du, .int .i64 e.tr] 134)).cell? ⟨r, 2, none⟩ = some (.int .i64 y) := by rw [World.cell?_alloc_lt _ _ _ hl]; exact h.2.2
 have heq := fun w => zEq e.z e.x e.y z x y w
 clear h hl
 go_enter Tryz.func172, Tryz.ntmps172
 go_wp2
 go_ret
 exact ⟨rfl, by (repeat (first|exact Qr _ _|assumption|refine Qd ?_|refine Qa ?_ _|refine Qt ?_|refine Qs ?_ _|refine Qo ?_ ?_ _ _))⟩
theorem zNw (a : Option Addr) (n cap : Nat) (E : Nat → Req) (r : Nat) (z x y : Int) (w : World) (hp : zAn w a n E) (hr : zOl w r z x y) (hn : n ≤ 1048576) :
  Calls Tryz.prog 171 #[.slice a n cap, .func (.func 172) #[] #[.pointer (some ⟨r, 0, none⟩)]] w fun e w' => e = .returned (.int .i64 (atW n E z x y)) ∧ Bw w w' := by
 have HP : Hid (zAn w a n E) := hp
 have HR : Hid (zOl w r z x y) := hr
 have hce := zSj
 clear hp hr
 go_enter Tryz.func171, Tryz.ntmps171
 go_wp2_with fail
 go_loopw [8] (fun i wr => ∃ k : Nat, k ≤ n ∧ i = .int .i64 (k : Int) ∧ (∀ j, j < k → isR (E j) z x y = false) ∧ Bw w wr) (fun i _ => n - (intOf i).toNat)
 case atStart => exact ⟨0, by omega, rfl, fun j hj => absurd hj (Nat.not_lt_zero _), Below.refl _ _⟩
 case round =>
  obtain ⟨k, hk, rfl, hno, hB⟩ := hrel
  have HN : Hid (∀ j, j < k → isR (E j) z x y = false) := hno
  have HB : Hid (Bw w wr) := hB
  by_cases hlt : k < n
  ·rcases HP.out with h0 | ⟨b, off, rfl, hb, hpt⟩
   ·omega
   obtain ⟨q0, q1, q2, q3, q4⟩ := (hpt.below hB hb) k hlt
   have hi : (k : Int) < (n : Int) := by omega
   have hi0 : (0 : Int) ≤ (k : Int) := by omega
   have sO : Calls Tryz.prog 172 #[zTa (E k), .pointer (some ⟨r, 0, none⟩)] wr fun q w' => q = .returned (.bool (isR (E k) z x y)) ∧ Bw wr w' := zFb (E k) r z x y wr (HR.out.below hB)
   clear hno hB hpt
   cases hE : isR (E k) z x y
   ·rw [hE] at sO
    have HN2 : Hid (∀ j, j < k + 1 → isR (E j) z x y = false) := fun j hj => by
     by_cases e : j = k
     ·rw [e]; exact hE
     ·exact HN.out j (by omega)
    clear hE
    go_wp2_with fail
    refine sO.mono ?_
    rintro e w1 ⟨rfl, hb1⟩
    go_wp2_with fail
    exact ⟨⟨k + 1, by omega, by simp, HN2.out, zA HB.out hb1⟩, by simp [intOf]; omega⟩
   ·rw [hE] at sO
    have HY : Hid (atW n E z x y = (k : Int)) := yP (G := fun i => isR (E i) z x y) hlt hE HN.out
    clear hE
    go_wp2_with fail
    refine sO.mono ?_
    rintro e w1 ⟨rfl, hb1⟩
    go_wp2
    go_ret
    exact ⟨zE HY.out.symm, zA HB.out hb1⟩
  ·obtain rfl : n = k := by omega
   have HY : Hid (atW n E z x y = -1) := vQ (G := fun i => isR (E i) z x y) HN.out
   go_wp2
   go_ret
   exact ⟨zE HY.out.symm, HB.out⟩
theorem zG2 (a : Option Addr) (n cap : Nat) (E : Nat → Req) (z x y : Int) (w : World) (hp : zAn w a n E) (hn : n ≤ 1048576) :
  Calls Tryz.prog 126 #[.slice a n cap, uL z x y] w fun e w' => e = .returned (.int .i64 (atW n E z x y)) ∧ Bw w w' := by
 have HI : Hid (∀ W, Bw w W → zOl W w.heap.size z x y → Calls Tryz.prog 171 #[.slice a n cap, .func (.func 172) #[] #[.pointer (some ⟨w.heap.size, 0, none⟩)]] W fun e w' => e = .returned (.int .i64 (atW n E z x y)) ∧ Bw W w') := fun W h h2 => zNw a n cap E w.heap.size z x y W (hp.below h) h2 hn
 clear hp
 have hmf : ∀ (fn : Fn) (first cap : Array Value) (w : World), (Instr.makeFunc fn first cap).run Tryz.prog w = .ok (.func fn first cap) w := fun _ _ _ _ => rfl
 generalize atW n E z x y = r at *
 go_enter Tryz.func126, Tryz.ntmps126
 go_wp2_with fail
 generalize hW : (w.alloc _ : World) = W
 have HB0 : Bw w W := by subst hW; exact Qb
 have HR : zOl W w.heap.size z x y := by subst hW; exact ⟨by simp [go_sem], by simp [go_sem], by simp [go_sem]⟩
 clear hW
 refine (HI.out _ HB0 HR).mono ?_
 rintro e w1 ⟨rfl, hb1⟩
 go_wp2
 go_ret
 exact ⟨rfl, zA HB0 hb1⟩
theorem zC8 (e : Req) (w : World) : Calls Tryz.prog 125 #[zTa e] w fun r w' => r = .returned (.int .i64 (zTb e)) ∧ Bw w w' := by
 rcases uM e.z e.x e.y with ⟨h1, h2⟩ | ⟨h1, h2⟩
 ·cases h3 : inB e.du 0 9999 <;> cases h4 : inB e.tr 1 99
  all_goals
   have hk : Hid (zTb e = if (inB e.du 0 9999 && inB e.tr 1 99) = true then 0 else 3) := by show _ = _; simp [zTb, zJ8, h2]
   rw [h3, h4] at hk
   have HF : Hid (∀ w, Calls Tryz.prog 132 #[uL e.z e.x e.y] w fun r w' => r = .returned (.int .i64 0) ∧ Bw w w') := fun w => by have h := zAu e.z e.x e.y w; rw [h1] at h; exact h
   clear h1 h2
   go_enter Tryz.func125, Tryz.ntmps125
   go_wp2_with fail
   generalize hW : (w.alloc _ : World) = W
   have HB0 : Bw w W := by subst hW; exact Qb
   have c3 : ∀ W', Bw W W' → W'.cell? ⟨w.heap.size, 3, none⟩ = some (.int .i64 e.du) := fun W' h => by rw [h.cell (by subst hW; simp)]; subst hW; simp [go_sem]
   have c4 : ∀ W', Bw W W' → W'.cell? ⟨w.heap.size, 4, none⟩ = some (.int .i64 e.tr) := fun W' h => by rw [h.cell (by subst hW; simp)]; subst hW; simp [go_sem]
   clear hW
   refine (HF.out _).mono ?_
   rintro r w1 ⟨rfl, hb1⟩
   have k3 := c3 w1 hb1
   have k4 := c4 w1 hb1
   have HB1 : Hid (Bw w w1) := zA HB0 hb1
   clear c3 c4 hb1 HB0
   go_wp2_with (go_at_call 62; refine (zM _ _ _ _).mono ?_; rintro e w' ⟨rfl, rfl⟩)
   all_goals (go_ret; exact ⟨zE (by rw [hk.out]; rfl), HB1.out⟩)
 ·have hk : Hid (zTb e = 3) := by show _ = _; simp [zTb, zJ8, h2]
  have HF : Hid (∀ w, Calls Tryz.prog 132 #[uL e.z e.x e.y] w fun r w' => r = .returned (.int .i64 3) ∧ Bw w w') := fun w => by have h := zAu e.z e.x e.y w; rw [h1] at h; exact h
  clear h1 h2
  go_enter Tryz.func125, Tryz.ntmps125
  go_wp2_with (go_at_call 132; refine (HF.out _).mono ?_; rintro e w' ⟨rfl, hb⟩)
  go_ret
  exact ⟨zE hk.out.symm, by (repeat (first|exact Qr _ _|assumption|refine Qd ?_|refine Qa ?_ _|refine Qt ?_|refine Qs ?_ _|refine Qo ?_ ?_ _ _))⟩
theorem zP2 (a : Option Addr) (n cap : Nat) (E : Nat → Req) (z x y : Int) (w : World) (hp : zAn w a n E) (hn : n ≤ 1048576) :
  Calls Tryz.prog 114 #[.slice a n cap, uL z x y] w fun e w' => e = .returned (.int .i64 (atW n E z x y)) ∧ Bw w w' := by
 have HP : Hid (zAn w a n E) := hp
 clear hp
 go_enter Tryz.func114, Tryz.ntmps114
 go_wp2_with fail
 generalize hW : (w.alloc _ : World) = W
 have HB0 : Hid (Bw w W) := by show Below _ _ _; subst hW; exact Qb
 have HR : Hid (zOl W w.heap.size z x y) := by show zOl _ _ _ _ _; subst hW; exact ⟨by simp [go_sem], by simp [go_sem], by simp [go_sem]⟩
 clear hW
 go_loopw [5] (fun i wr => ∃ k : Nat, k ≤ n ∧ i = .int .i64 (k : Int) ∧ (∀ j, j < k → isR (E j) z x y = false) ∧ Bw W wr) (fun i _ => n - (intOf i).toNat)
 case atStart => exact ⟨0, by omega, rfl, fun j hj => absurd hj (Nat.not_lt_zero _), Below.refl _ _⟩
 case round =>
  obtain ⟨k, hk, rfl, hno, hB⟩ := hrel
  have HN : Hid (∀ j, j < k → isR (E j) z x y = false) := hno
  have HB : Hid (Bw W wr) := hB
  by_cases hlt : k < n
  ·rcases HP.out with h0 | ⟨b, off, rfl, hb, hpt⟩
   ·omega
   obtain ⟨q0, q1, q2, q3, q4⟩ := (hpt.below (zA HB0.out hB) hb) k hlt
   obtain ⟨p0, p1, p2⟩ := HR.out.below hB
   have hi : (k : Int) < (n : Int) := by omega
   have hi0 : (0 : Int) ≤ (k : Int) := by omega
   have heq := fun w => zEq (E k).z (E k).x (E k).y z x y w
   clear hno hB hpt
   have hE0 : ((E k).z == z && ((E k).x == x && (E k).y == y)) = isR (E k) z x y := rfl
   simp only [hE0] at heq
   clear hE0
   cases hE : isR (E k) z x y
   ·simp only [hE] at heq
    have HN2 : Hid (∀ j, j < k + 1 → isR (E j) z x y = false) := fun j hj => by
     by_cases e : j = k
     ·rw [e]; exact hE
     ·exact HN.out j (by omega)
    clear hE
    generalize (E k).z = rz at *
    generalize (E k).x = rx at *
    generalize (E k).y = ry at *
    go_wp2_with fail
    go_quiet (fail)
    go_wp2_with fail
    exact ⟨⟨k + 1, by omega, by simp, HN2.out, below_drewN HB.out _⟩, by simp [intOf]; omega⟩
   ·simp only [hE] at heq
    have HY : Hid (atW n E z x y = (k : Int)) := yP (G := fun i => isR (E i) z x y) hlt hE HN.out
    clear hE
    generalize (E k).z = rz at *
    generalize (E k).x = rx at *
    generalize (E k).y = ry at *
    go_wp2_with fail
    go_quiet (fail)
    go_wp2
    go_ret
    exact ⟨zE HY.out.symm, below_drewN (zA HB0.out HB.out) _⟩
  ·obtain rfl : n = k := by omega
   have HY : Hid (atW n E z x y = -1) := vQ (G := fun i => isR (E i) z x y) HN.out
   go_wp2
   go_ret
   exact ⟨zE HY.out.symm, zA HB0.out HB.out⟩
def mkW (k0:Nat)(i:Nat):Req:=⟨((k0+5 * i:Nat):Int),((k0+5 * i+1:Nat):Int),((k0+5 * i+2:Nat):Int),((k0+5 * i+3:Nat):Int),((k0+5 * i+4:Nat):Int)⟩
theorem zD3 (g n cap k0:Nat)(w:World)(hT:zD w g (n * 5))(hn:n≤1048576)(hk0:k0≤6000000000000000000) :
  Calls Tryz.prog 53 #[.slice (some ⟨g,0,none⟩) n cap,.int .i64 (k0:Int)] w fun e w'=>e=.returned (.int .i64 ((k0+5 * n:Nat):Int))∧w.grownBy w' (some g)∧zD w' g (n * 5)∧zGl w' g 0 n (mkW k0):=by
 have HT0:Hid (zD w g (n * 5)):=hT
 clear hT
 go_enter Tryz.func53,Tryz.ntmps53
 go_wp2_with fail
 go_loopw [1,5] (fun kk i wr=>∃ j K:Nat,j≤n∧Hid (K=k0+5 * j)∧kk=.int .i64 (K:Int)∧i=.int .i64 (j:Int)∧w.grownBy wr (some g)∧zD wr g (n * 5)∧zGl wr g 0 j (mkW k0)) (fun _ i _=>n - (intOf i).toNat)
 case atStart=>exact ⟨0,k0,by omega,rfl,rfl,rfl,zLg _ _,HT0.out,fun i hi=>by omega⟩
 case round =>
  obtain ⟨j,K,hj,HK,rfl,rfl,hG,hT',hP⟩:=hrel
  by_cases hlt:j<n
  ·have hKb:K≤6000000000005242880:=by have:=HK.out;omega
   have t0:=hT'.cell (j * 5+0) (by omega)
   have t1:=hT'.cell (j * 5+1) (by omega)
   have t2:=hT'.cell (j * 5+2) (by omega)
   have t3:=hT'.cell (j * 5+3) (by omega)
   have t4:=hT'.cell (j * 5+4) (by omega)
   have y0:=(hT' (j * 5+0) (by omega)).2
   have y1:=(hT' (j * 5+1) (by omega)).2
   have y2:=(hT' (j * 5+2) (by omega)).2
   have y3:=(hT' (j * 5+3) (by omega)).2
   have y4:=(hT' (j * 5+4) (by omega)).2
   simp only [Nat.add_zero] at t0 y0
   have HG:Hid (w.grownBy wr (some g)):=hG
   have HT:Hid (zD wr g (n * 5)):=hT'
   have HP:Hid (zGl wr g 0 j (mkW k0)):=hP
   clear hT' hG hP
   have hi:(j:Int)<(n:Int):=by omega
   have hi0:(0:Int)≤(j:Int):=by omega
   go_wp2
   go_roundw
   case rel =>
    have hfs:=HP.out.lay HT.out hlt
    have he:mkW k0 j=⟨(K:Int),(K:Int)+1,(K:Int)+1+1,(K:Int)+1+1+1,(K:Int)+1+1+1+1⟩:=by
     have:=HK.out
     unfold mkW
     congr 1 <;> omega
    rw [he] at hfs
    exact ⟨j+1,K+5,by omega,by have:=HK.out;show _=_;omega,by go_num,by go_num,uS (uS (uS (uS (uS HG.out _ _) _ _) _ _) _ _) _ _,((((HT.out.set _ _).set _ _).set _ _).set _ _).set _ _,hfs⟩
   case measure=>simp [intOf];omega
  ·go_wp2
   go_ret
   have hjn:j=n:=by omega
   subst hjn
   exact ⟨zE (by have:=HK.out;omega),hG,hT',hP⟩


section
variable {m n T B base lo hi:Nat} {R:Rfs} {E:Nat→Req} {w w':World} {v1 v2:Value}
end
end Go.Proofs.YtpaiholildedcaaGreat
