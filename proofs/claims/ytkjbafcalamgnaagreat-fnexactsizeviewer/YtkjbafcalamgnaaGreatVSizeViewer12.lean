/- Texts. -/
import Derived.Test.YtkjbafcalamgnaaGreatVSizeViewer9
set_option linter.unusedSimpArgs false
set_option linter.unusedVariables false
set_option maxRecDepth 100000
set_option maxHeartbeats 32000000
namespace Go.Proofs.YtkjbafcalamgnaaGreat
open Go.RowKit
theorem zI3 (id la wi:Int)(a:Option Addr)(n cap:Nat)(X Y:Nat→Int)(lab:ByteArray)(pr:Int)(w:World)(hpt:xP w a n X Y)(hl:lab.size≤1048576)(hn:n≤1048576) :
  Calls Tryz.prog 97 #[.agg #[.int .i64 id,.int .i64 la,.int .i64 1,.int .i64 wi,.slice a n cap,.string lab,.int .i64 pr]] w fun e w'=>e=.returned (.int .i64 (zM id la 1 wi n X Y lab pr))∧Bw w w':=by
 have HP:Hid (xP w a n X Y):=hpt
 clear hpt
 go_enter Tryz.func97,Tryz.ntmps97
 go_wp2_with fail
 generalize hW:(w.alloc _:World)=W
 have hB0:Bw w W:=by subst hW;exact Qb
 have c0:∀ W',Bw W W'→W'.cell? ⟨w.heap.size,0,none⟩=some (.int .i64 id):=Qc hW
 have c1:∀ W',Bw W W'→W'.cell? ⟨w.heap.size,1,none⟩=some (.int .i64 la):=Qc hW
 have c2:∀ W',Bw W W'→W'.cell? ⟨w.heap.size,2,none⟩=some (.int .i64 1):=Qc hW
 have c3:∀ W',Bw W W'→W'.cell? ⟨w.heap.size,3,none⟩=some (.int .i64 wi):=Qc hW
 have c4:∀ W',Bw W W'→W'.cell? ⟨w.heap.size,4,none⟩=some (.slice a n cap):=Qc hW
 have c5:∀ W',Bw W W'→W'.cell? ⟨w.heap.size,5,none⟩=some (.string lab):=Qc hW
 have c6:∀ W',Bw W W'→W'.cell? ⟨w.heap.size,6,none⟩=some (.int .i64 pr):=Qc hW
 clear hW
 have HB0:Hid (Bw w W):=hB0
 clear hB0
 refine (zWt _).mono ?_
 rintro e w1 ⟨rfl,hb1⟩
 have hB1:Bw W w1:=hb1
 clear hb1
 cases e0:inB id 1 999
 ·have hz:Hid (zM id la 1 wi n X Y lab pr=3):=by show _=_;simp [zM,zDv,e0]
  go_wp2_with (go_at_call 77;refine (yB _ _ _ _).mono ?_;rintro e w' ⟨rfl,rfl⟩)
  go_ret
  exact ⟨zD hz.out.symm,zA HB0.out hB1⟩
 cases e1:inB la 0 9
 ·have hz:Hid (zM id la 1 wi n X Y lab pr=3):=by show _=_;simp [zM,zDv,e0,e1]
  go_wp2_with (go_at_call 77;refine (yB _ _ _ _).mono ?_;rintro e w' ⟨rfl,rfl⟩)
  go_ret
  exact ⟨zD hz.out.symm,zA HB0.out hB1⟩
 cases e3:inB wi 0 3
 ·have hz:Hid (zM id la 1 wi n X Y lab pr=3):=by show _=_;simp [zM,zDv,e0,e1,e3]
  go_wp2_with (go_at_call 77;refine (yB _ _ _ _).mono ?_;rintro e w' ⟨rfl,rfl⟩)
  go_ret
  exact ⟨zD hz.out.symm,zA HB0.out hB1⟩
 cases e4:inB pr 0 9
 ·have hz:Hid (zM id la 1 wi n X Y lab pr=3):=by show _=_;simp [zM,zDv,e0,e1,e3,e4]
  go_wp2_with (go_at_call 77;refine (yB _ _ _ _).mono ?_;rintro e w' ⟨rfl,rfl⟩)
  go_ret
  exact ⟨zD hz.out.symm,zA HB0.out hB1⟩
 have hr:Hid (zDv id la 1 wi pr=true):=by show _=_;simp only [zDv,e0,e1,e3,e4];decide
 go_wp2_with (go_at_call 77;refine (yB _ _ _ _).mono ?_;rintro e w' ⟨rfl,rfl⟩)
 refine (zRf _).mono ?_
 rintro e w2 ⟨rfl,hb2⟩
 have hB2:Bw W w2:=by exact Qb
 clear hb2 hB1 c0 c1 c2 c3 c6
 go_wp2_with fail
 by_cases hs1:(n:Int)<1
 ·have hd:decide ((n:Int)<1)=true:=decide_eq_true hs1
  have hz:Hid (zM id la 1 wi n X Y lab pr=2):=by
   show _=_
   have:vS 1 n=false:=by simp [vS,inB];omega
   simp [zM,hr.out,this]
  refine wp_region_noPanic ?_
  refine wp_region_held_drew (S:=fun W'=>Bw W W') (by kernel_rfl) (by exact Qb) (fun hHeld=>?_)
  refine zF (i:=0) (d:=some 42) rfl rfl ?_
  simp only [Act.put,Qx,Qy,Qz]
  refine zF (i:=1) (d:=some 43) rfl rfl ?_
  simp only [Act.put,Qx,Qy,Qz]
  refine zF (i:=2) (d:=some 44) rfl rfl ?_
  simp only [Act.put,Qx,Qy,Qz]
  refine zF (i:=3) (d:=some 45) rfl rfl ?_
  simp only [Act.put,Qx,Qy,Qz]
  refine wpAnyH_ready (rs:=[4]) (by kernel_rfl) (by simp) ?_
  refine AllReadyH.cons rfl (fun K hK=>?_) AllReadyH.nil
  go_simp
  refine (zBm _).mono ?_
  rintro e w' ⟨rfl,hb⟩
  go_wp2_with fail
  refine hK.out _ _ (by exact Qb) (fun hHeld=>?_)
  clear hK K
  try simp only [Act.put,Qx,Qy,Qz]
  refine zF (i:=5) (d:=some 47) rfl rfl ?_
  simp only [Act.put,Qx,Qy,Qz]
  refine zF (i:=6) (d:=some 48) rfl rfl ?_
  simp only [Act.put,Qx,Qy,Qz]
  refine xS (i:=7) (d:=some 49) rfl rfl (by rfl) (by assumption) ?_
  simp only [Act.put,Qx,Qy,Qz]
  refine xS (i:=8) (d:=some 50) rfl rfl (by rfl) (by assumption) ?_
  simp only [Act.put,Qx,Qy,Qz]
  refine xS (i:=9) (d:=some 51) rfl rfl (by rfl) (by assumption) ?_
  simp only [Act.put,Qx,Qy,Qz]
  refine xS (i:=10) (d:=some 52) rfl rfl (by rfl) (by assumption) ?_
  simp only [Act.put,Qx,Qy,Qz]
  refine xS (i:=11) (d:=some 53) rfl rfl (by rfl) (by assumption) ?_
  simp only [Act.put,Qx,Qy,Qz]
  refine zF (i:=12) (d:=some 54) rfl rfl ?_
  simp only [Act.put,Qx,Qy,Qz]
  refine wpAnyH_done (by kernel_rfl) ?_ _
  refine NoPanic.normal ?_
  go_wp2
  go_ret
  exact ⟨zD hz.out.symm,zA HB0.out (by assumption)⟩
 have hd1:decide ((n:Int)<1)=false:=decide_eq_false hs1
 have HS1:Hid (¬ (n:Int)<1):=hs1
 clear hs1
 by_cases hs2:(1:Int)<n
 ·have hd:decide ((1:Int)<n)=true:=decide_eq_true hs2
  have hz:Hid (zM id la 1 wi n X Y lab pr=2):=by
   show _=_
   have:vS 1 n=false:=by simp [vS,inB];omega
   simp [zM,hr.out,this]
  go_region_held3 (fun W'=>Bw W W') ((repeat (first|exact Qr _ _|assumption|refine Qd ?_|refine Qa ?_ _|refine Qt ?_|refine Qs ?_ _|refine Qo ?_ ?_ _ _)))
   (first | (go_at_call 148;refine (zBm _).mono ?_;rintro e w' ⟨rfl,hb⟩))
  go_wp2
  go_ret
  exact ⟨zD hz.out.symm,zA HB0.out (by assumption)⟩
 have hd2:decide ((1:Int)<n)=false:=decide_eq_false hs2
 have e5:Hid (vS 1 n=true):=by show _=_;have:=HS1.out;simp [vS,inB];omega
 have HS2:Hid (¬ (1:Int)<n):=hs2
 clear hs2
 go_region_held3 (fun W'=>Bw W W') ((repeat (first|exact Qr _ _|assumption|refine Qd ?_|refine Qa ?_ _|refine Qt ?_|refine Qs ?_ _|refine Qo ?_ ?_ _ _)))
  (first | (go_at_call 148;refine (zBm _).mono ?_;rintro e w' ⟨rfl,hb⟩))
 go_wp2
 go_loopw [58] (fun i wr=>∃ k:Nat,k≤n∧i=.int .i64 k∧(∀ j,j<k→inW (X j) (Y j)=true)∧Bw W wr) (fun i _=>n - (intOf i).toNat)
 case atStart=>exact ⟨0,by omega,rfl,by omega,by assumption⟩
 case round =>
  obtain ⟨k,hk,rfl,hA,hB⟩:=hrel
  have HA:Hid (∀ j,j<k→inW (X j) (Y j)=true):=hA
  have HB:Hid (Bw w wr):=zA HB0.out hB
  have KB:Hid (Bw W wr):=hB
  clear hA
  by_cases hlt:k<n
  ·rcases HP.out with hz | ⟨b,off,rfl,hbl,hpt⟩
   ·omega
   have hi:(k:Int)<(n:Int):=by omega
   have hi0:(0:Int)≤(k:Int):=by omega
   obtain ⟨dx,dy⟩:=hpt.below HB.out hbl k hlt
   clear c4 c5 hB hpt hd1 hd2
   cases hq:inW (X k) (Y k)
   ·have hz:Hid (zM id la 1 wi n X Y lab pr=3):=by show _=_;simp [zM,hr.out,e5.out,zB5 k hlt hq]
    go_wp2_with (go_at_call 149;refine (xX _ _ _).mono ?_;rintro e w' ⟨rfl,hb⟩)
    go_ret
    exact ⟨zD hz.out.symm,by have HB':=HB.out;exact Qb⟩
   ·have HI:Hid (inW (X k) (Y k)=true):=hq
    go_wp2_with (go_at_call 149;refine (xX _ _ _).mono ?_;rintro e w' ⟨rfl,hb⟩)
    go_roundw
    case rel=>exact ⟨k+1,by omega,by go_num,fun j hj=>by
      by_cases e:j=k
      ·rw [e];exact HI.out
      ·exact HA.out j (by omega),by have KB':=KB.out;exact Qb⟩
    case measure=>simp [intOf];omega
  ·have hz:Hid (zM id la 1 wi n X Y lab pr=if zLy lab=true then 0 else 5):=by
    show _=_
    have:zOz n X Y=true:=decide_eq_true (fun i hi=>HA.out i (by omega))
    simp [zM,hr.out,e5.out,this]
   have d5:=c5 wr hB
   clear c4 c5 hd1 hd2
   cases el:zLy lab
   all_goals
    go_wp2_with (go_at_call 150;refine (zDh _ _ hl).mono ?_;rintro e w' ⟨rfl,hb⟩)
    go_ret
    exact ⟨zD (by rw [hz.out];simp [el]),zA HB.out hb⟩
theorem zI2 (id la wi:Int)(a:Option Addr)(n cap:Nat)(X Y:Nat→Int)(lab:ByteArray)(pr:Int)(w:World)(hpt:xP w a n X Y)(hl:lab.size≤1048576)(hn:n≤1048576) :
  Calls Tryz.prog 97 #[.agg #[.int .i64 id,.int .i64 la,.int .i64 2,.int .i64 wi,.slice a n cap,.string lab,.int .i64 pr]] w fun e w'=>e=.returned (.int .i64 (zM id la 2 wi n X Y lab pr))∧Bw w w':=by
 have HP:Hid (xP w a n X Y):=hpt
 clear hpt
 go_enter Tryz.func97,Tryz.ntmps97
 go_wp2_with fail
 generalize hW:(w.alloc _:World)=W
 have hB0:Bw w W:=by subst hW;exact Qb
 have c0:∀ W',Bw W W'→W'.cell? ⟨w.heap.size,0,none⟩=some (.int .i64 id):=Qc hW
 have c1:∀ W',Bw W W'→W'.cell? ⟨w.heap.size,1,none⟩=some (.int .i64 la):=Qc hW
 have c2:∀ W',Bw W W'→W'.cell? ⟨w.heap.size,2,none⟩=some (.int .i64 2):=Qc hW
 have c3:∀ W',Bw W W'→W'.cell? ⟨w.heap.size,3,none⟩=some (.int .i64 wi):=Qc hW
 have c4:∀ W',Bw W W'→W'.cell? ⟨w.heap.size,4,none⟩=some (.slice a n cap):=Qc hW
 have c5:∀ W',Bw W W'→W'.cell? ⟨w.heap.size,5,none⟩=some (.string lab):=Qc hW
 have c6:∀ W',Bw W W'→W'.cell? ⟨w.heap.size,6,none⟩=some (.int .i64 pr):=Qc hW
 clear hW
 have HB0:Hid (Bw w W):=hB0
 clear hB0
 refine (zWs _).mono ?_
 rintro e w1 ⟨rfl,hb1⟩
 have hB1:Bw W w1:=hb1
 clear hb1
 cases e0:inB id 1 999
 ·have hz:Hid (zM id la 2 wi n X Y lab pr=3):=by show _=_;simp [zM,zDv,e0]
  go_wp2_with (go_at_call 77;refine (yB _ _ _ _).mono ?_;rintro e w' ⟨rfl,rfl⟩)
  go_ret
  exact ⟨zD hz.out.symm,zA HB0.out hB1⟩
 cases e1:inB la 0 9
 ·have hz:Hid (zM id la 2 wi n X Y lab pr=3):=by show _=_;simp [zM,zDv,e0,e1]
  go_wp2_with (go_at_call 77;refine (yB _ _ _ _).mono ?_;rintro e w' ⟨rfl,rfl⟩)
  go_ret
  exact ⟨zD hz.out.symm,zA HB0.out hB1⟩
 cases e3:inB wi 0 3
 ·have hz:Hid (zM id la 2 wi n X Y lab pr=3):=by show _=_;simp [zM,zDv,e0,e1,e3]
  go_wp2_with (go_at_call 77;refine (yB _ _ _ _).mono ?_;rintro e w' ⟨rfl,rfl⟩)
  go_ret
  exact ⟨zD hz.out.symm,zA HB0.out hB1⟩
 cases e4:inB pr 0 9
 ·have hz:Hid (zM id la 2 wi n X Y lab pr=3):=by show _=_;simp [zM,zDv,e0,e1,e3,e4]
  go_wp2_with (go_at_call 77;refine (yB _ _ _ _).mono ?_;rintro e w' ⟨rfl,rfl⟩)
  go_ret
  exact ⟨zD hz.out.symm,zA HB0.out hB1⟩
 have hr:Hid (zDv id la 2 wi pr=true):=by show _=_;simp only [zDv,e0,e1,e3,e4];decide
 go_wp2_with (go_at_call 77;refine (yB _ _ _ _).mono ?_;rintro e w' ⟨rfl,rfl⟩)
 refine (zRe _).mono ?_
 rintro e w2 ⟨rfl,hb2⟩
 have hB2:Bw W w2:=by exact Qb
 clear hb2 hB1 c0 c1 c2 c3 c6
 go_wp2_with fail
 by_cases hs1:(n:Int)<2
 ·have hd:decide ((n:Int)<2)=true:=decide_eq_true hs1
  have hz:Hid (zM id la 2 wi n X Y lab pr=2):=by
   show _=_
   have:vS 2 n=false:=by simp [vS,inB];omega
   simp [zM,hr.out,this]
  refine wp_region_noPanic ?_
  refine wp_region_held_drew (S:=fun W'=>Bw W W') (by kernel_rfl) (by exact Qb) (fun hHeld=>?_)
  refine zF (i:=0) (d:=some 42) rfl rfl ?_
  simp only [Act.put,Qx,Qy,Qz]
  refine zF (i:=1) (d:=some 43) rfl rfl ?_
  simp only [Act.put,Qx,Qy,Qz]
  refine zF (i:=2) (d:=some 44) rfl rfl ?_
  simp only [Act.put,Qx,Qy,Qz]
  refine zF (i:=3) (d:=some 45) rfl rfl ?_
  simp only [Act.put,Qx,Qy,Qz]
  refine wpAnyH_ready (rs:=[4]) (by kernel_rfl) (by simp) ?_
  refine AllReadyH.cons rfl (fun K hK=>?_) AllReadyH.nil
  go_simp
  refine (zBl _).mono ?_
  rintro e w' ⟨rfl,hb⟩
  go_wp2_with fail
  refine hK.out _ _ (by exact Qb) (fun hHeld=>?_)
  clear hK K
  try simp only [Act.put,Qx,Qy,Qz]
  refine zF (i:=5) (d:=some 47) rfl rfl ?_
  simp only [Act.put,Qx,Qy,Qz]
  refine zF (i:=6) (d:=some 48) rfl rfl ?_
  simp only [Act.put,Qx,Qy,Qz]
  refine xS (i:=7) (d:=some 49) rfl rfl (by rfl) (by assumption) ?_
  simp only [Act.put,Qx,Qy,Qz]
  refine xS (i:=8) (d:=some 50) rfl rfl (by rfl) (by assumption) ?_
  simp only [Act.put,Qx,Qy,Qz]
  refine xS (i:=9) (d:=some 51) rfl rfl (by rfl) (by assumption) ?_
  simp only [Act.put,Qx,Qy,Qz]
  refine xS (i:=10) (d:=some 52) rfl rfl (by rfl) (by assumption) ?_
  simp only [Act.put,Qx,Qy,Qz]
  refine xS (i:=11) (d:=some 53) rfl rfl (by rfl) (by assumption) ?_
  simp only [Act.put,Qx,Qy,Qz]
  refine zF (i:=12) (d:=some 54) rfl rfl ?_
  simp only [Act.put,Qx,Qy,Qz]
  refine wpAnyH_done (by kernel_rfl) ?_ _
  refine NoPanic.normal ?_
  go_wp2
  go_ret
  exact ⟨zD hz.out.symm,zA HB0.out (by assumption)⟩
 have hd1:decide ((n:Int)<2)=false:=decide_eq_false hs1
 have HS1:Hid (¬ (n:Int)<2):=hs1
 clear hs1
 by_cases hs2:(12:Int)<n
 ·have hd:decide ((12:Int)<n)=true:=decide_eq_true hs2
  have hz:Hid (zM id la 2 wi n X Y lab pr=2):=by
   show _=_
   have:vS 2 n=false:=by simp [vS,inB];omega
   simp [zM,hr.out,this]
  go_region_held3 (fun W'=>Bw W W') ((repeat (first|exact Qr _ _|assumption|refine Qd ?_|refine Qa ?_ _|refine Qt ?_|refine Qs ?_ _|refine Qo ?_ ?_ _ _)))
   (first | (go_at_call 148;refine (zBl _).mono ?_;rintro e w' ⟨rfl,hb⟩))
  go_wp2
  go_ret
  exact ⟨zD hz.out.symm,zA HB0.out (by assumption)⟩
 have hd2:decide ((12:Int)<n)=false:=decide_eq_false hs2
 have e5:Hid (vS 2 n=true):=by show _=_;have:=HS1.out;simp [vS,inB];omega
 have HS2:Hid (¬ (12:Int)<n):=hs2
 clear hs2
 go_region_held3 (fun W'=>Bw W W') ((repeat (first|exact Qr _ _|assumption|refine Qd ?_|refine Qa ?_ _|refine Qt ?_|refine Qs ?_ _|refine Qo ?_ ?_ _ _)))
  (first | (go_at_call 148;refine (zBl _).mono ?_;rintro e w' ⟨rfl,hb⟩))
 go_wp2
 go_loopw [58] (fun i wr=>∃ k:Nat,k≤n∧i=.int .i64 k∧(∀ j,j<k→inW (X j) (Y j)=true)∧Bw W wr) (fun i _=>n - (intOf i).toNat)
 case atStart=>exact ⟨0,by omega,rfl,by omega,by assumption⟩
 case round =>
  obtain ⟨k,hk,rfl,hA,hB⟩:=hrel
  have HA:Hid (∀ j,j<k→inW (X j) (Y j)=true):=hA
  have HB:Hid (Bw w wr):=zA HB0.out hB
  have KB:Hid (Bw W wr):=hB
  clear hA
  by_cases hlt:k<n
  ·rcases HP.out with hz | ⟨b,off,rfl,hbl,hpt⟩
   ·omega
   have hi:(k:Int)<(n:Int):=by omega
   have hi0:(0:Int)≤(k:Int):=by omega
   obtain ⟨dx,dy⟩:=hpt.below HB.out hbl k hlt
   clear c4 c5 hB hpt hd1 hd2
   cases hq:inW (X k) (Y k)
   ·have hz:Hid (zM id la 2 wi n X Y lab pr=3):=by show _=_;simp [zM,hr.out,e5.out,zB5 k hlt hq]
    go_wp2_with (go_at_call 149;refine (xX _ _ _).mono ?_;rintro e w' ⟨rfl,hb⟩)
    go_ret
    exact ⟨zD hz.out.symm,by have HB':=HB.out;exact Qb⟩
   ·have HI:Hid (inW (X k) (Y k)=true):=hq
    go_wp2_with (go_at_call 149;refine (xX _ _ _).mono ?_;rintro e w' ⟨rfl,hb⟩)
    go_roundw
    case rel=>exact ⟨k+1,by omega,by go_num,fun j hj=>by
      by_cases e:j=k
      ·rw [e];exact HI.out
      ·exact HA.out j (by omega),by have KB':=KB.out;exact Qb⟩
    case measure=>simp [intOf];omega
  ·have hz:Hid (zM id la 2 wi n X Y lab pr=if zLy lab=true then 0 else 5):=by
    show _=_
    have:zOz n X Y=true:=decide_eq_true (fun i hi=>HA.out i (by omega))
    simp [zM,hr.out,e5.out,this]
   have d5:=c5 wr hB
   clear c4 c5 hd1 hd2
   cases el:zLy lab
   all_goals
    go_wp2_with (go_at_call 150;refine (zDh _ _ hl).mono ?_;rintro e w' ⟨rfl,hb⟩)
    go_ret
    exact ⟨zD (by rw [hz.out];simp [el]),zA HB.out hb⟩
theorem zI1 (id la wi:Int)(a:Option Addr)(n cap:Nat)(X Y:Nat→Int)(lab:ByteArray)(pr:Int)(w:World)(hpt:xP w a n X Y)(hl:lab.size≤1048576)(hn:n≤1048576) :
  Calls Tryz.prog 97 #[.agg #[.int .i64 id,.int .i64 la,.int .i64 3,.int .i64 wi,.slice a n cap,.string lab,.int .i64 pr]] w fun e w'=>e=.returned (.int .i64 (zM id la 3 wi n X Y lab pr))∧Bw w w':=by
 have HP:Hid (xP w a n X Y):=hpt
 clear hpt
 go_enter Tryz.func97,Tryz.ntmps97
 go_wp2_with fail
 generalize hW:(w.alloc _:World)=W
 have hB0:Bw w W:=by subst hW;exact Qb
 have c0:∀ W',Bw W W'→W'.cell? ⟨w.heap.size,0,none⟩=some (.int .i64 id):=Qc hW
 have c1:∀ W',Bw W W'→W'.cell? ⟨w.heap.size,1,none⟩=some (.int .i64 la):=Qc hW
 have c2:∀ W',Bw W W'→W'.cell? ⟨w.heap.size,2,none⟩=some (.int .i64 3):=Qc hW
 have c3:∀ W',Bw W W'→W'.cell? ⟨w.heap.size,3,none⟩=some (.int .i64 wi):=Qc hW
 have c4:∀ W',Bw W W'→W'.cell? ⟨w.heap.size,4,none⟩=some (.slice a n cap):=Qc hW
 have c5:∀ W',Bw W W'→W'.cell? ⟨w.heap.size,5,none⟩=some (.string lab):=Qc hW
 have c6:∀ W',Bw W W'→W'.cell? ⟨w.heap.size,6,none⟩=some (.int .i64 pr):=Qc hW
 clear hW
 have HB0:Hid (Bw w W):=hB0
 clear hB0
 refine (zWr _).mono ?_
 rintro e w1 ⟨rfl,hb1⟩
 have hB1:Bw W w1:=hb1
 clear hb1
 cases e0:inB id 1 999
 ·have hz:Hid (zM id la 3 wi n X Y lab pr=3):=by show _=_;simp [zM,zDv,e0]
  go_wp2_with (go_at_call 77;refine (yB _ _ _ _).mono ?_;rintro e w' ⟨rfl,rfl⟩)
  go_ret
  exact ⟨zD hz.out.symm,zA HB0.out hB1⟩
 cases e1:inB la 0 9
 ·have hz:Hid (zM id la 3 wi n X Y lab pr=3):=by show _=_;simp [zM,zDv,e0,e1]
  go_wp2_with (go_at_call 77;refine (yB _ _ _ _).mono ?_;rintro e w' ⟨rfl,rfl⟩)
  go_ret
  exact ⟨zD hz.out.symm,zA HB0.out hB1⟩
 cases e3:inB wi 0 3
 ·have hz:Hid (zM id la 3 wi n X Y lab pr=3):=by show _=_;simp [zM,zDv,e0,e1,e3]
  go_wp2_with (go_at_call 77;refine (yB _ _ _ _).mono ?_;rintro e w' ⟨rfl,rfl⟩)
  go_ret
  exact ⟨zD hz.out.symm,zA HB0.out hB1⟩
 cases e4:inB pr 0 9
 ·have hz:Hid (zM id la 3 wi n X Y lab pr=3):=by show _=_;simp [zM,zDv,e0,e1,e3,e4]
  go_wp2_with (go_at_call 77;refine (yB _ _ _ _).mono ?_;rintro e w' ⟨rfl,rfl⟩)
  go_ret
  exact ⟨zD hz.out.symm,zA HB0.out hB1⟩
 have hr:Hid (zDv id la 3 wi pr=true):=by show _=_;simp only [zDv,e0,e1,e3,e4];decide
 go_wp2_with (go_at_call 77;refine (yB _ _ _ _).mono ?_;rintro e w' ⟨rfl,rfl⟩)
 refine (zRd _).mono ?_
 rintro e w2 ⟨rfl,hb2⟩
 have hB2:Bw W w2:=by exact Qb
 clear hb2 hB1 c0 c1 c2 c3 c6
 go_wp2_with fail
 by_cases hs1:(n:Int)<3
 ·have hd:decide ((n:Int)<3)=true:=decide_eq_true hs1
  have hz:Hid (zM id la 3 wi n X Y lab pr=2):=by
   show _=_
   have:vS 3 n=false:=by simp [vS,inB];omega
   simp [zM,hr.out,this]
  refine wp_region_noPanic ?_
  refine wp_region_held_drew (S:=fun W'=>Bw W W') (by kernel_rfl) (by exact Qb) (fun hHeld=>?_)
  refine zF (i:=0) (d:=some 42) rfl rfl ?_
  simp only [Act.put,Qx,Qy,Qz]
  refine zF (i:=1) (d:=some 43) rfl rfl ?_
  simp only [Act.put,Qx,Qy,Qz]
  refine zF (i:=2) (d:=some 44) rfl rfl ?_
  simp only [Act.put,Qx,Qy,Qz]
  refine zF (i:=3) (d:=some 45) rfl rfl ?_
  simp only [Act.put,Qx,Qy,Qz]
  refine wpAnyH_ready (rs:=[4]) (by kernel_rfl) (by simp) ?_
  refine AllReadyH.cons rfl (fun K hK=>?_) AllReadyH.nil
  go_simp
  refine (zBk _).mono ?_
  rintro e w' ⟨rfl,hb⟩
  go_wp2_with fail
  refine hK.out _ _ (by exact Qb) (fun hHeld=>?_)
  clear hK K
  try simp only [Act.put,Qx,Qy,Qz]
  refine zF (i:=5) (d:=some 47) rfl rfl ?_
  simp only [Act.put,Qx,Qy,Qz]
  refine zF (i:=6) (d:=some 48) rfl rfl ?_
  simp only [Act.put,Qx,Qy,Qz]
  refine xS (i:=7) (d:=some 49) rfl rfl (by rfl) (by assumption) ?_
  simp only [Act.put,Qx,Qy,Qz]
  refine xS (i:=8) (d:=some 50) rfl rfl (by rfl) (by assumption) ?_
  simp only [Act.put,Qx,Qy,Qz]
  refine xS (i:=9) (d:=some 51) rfl rfl (by rfl) (by assumption) ?_
  simp only [Act.put,Qx,Qy,Qz]
  refine xS (i:=10) (d:=some 52) rfl rfl (by rfl) (by assumption) ?_
  simp only [Act.put,Qx,Qy,Qz]
  refine xS (i:=11) (d:=some 53) rfl rfl (by rfl) (by assumption) ?_
  simp only [Act.put,Qx,Qy,Qz]
  refine zF (i:=12) (d:=some 54) rfl rfl ?_
  simp only [Act.put,Qx,Qy,Qz]
  refine wpAnyH_done (by kernel_rfl) ?_ _
  refine NoPanic.normal ?_
  go_wp2
  go_ret
  exact ⟨zD hz.out.symm,zA HB0.out (by assumption)⟩
 have hd1:decide ((n:Int)<3)=false:=decide_eq_false hs1
 have HS1:Hid (¬ (n:Int)<3):=hs1
 clear hs1
 by_cases hs2:(12:Int)<n
 ·have hd:decide ((12:Int)<n)=true:=decide_eq_true hs2
  have hz:Hid (zM id la 3 wi n X Y lab pr=2):=by
   show _=_
   have:vS 3 n=false:=by simp [vS,inB];omega
   simp [zM,hr.out,this]
  go_region_held3 (fun W'=>Bw W W') ((repeat (first|exact Qr _ _|assumption|refine Qd ?_|refine Qa ?_ _|refine Qt ?_|refine Qs ?_ _|refine Qo ?_ ?_ _ _)))
   (first | (go_at_call 148;refine (zBk _).mono ?_;rintro e w' ⟨rfl,hb⟩))
  go_wp2
  go_ret
  exact ⟨zD hz.out.symm,zA HB0.out (by assumption)⟩
 have hd2:decide ((12:Int)<n)=false:=decide_eq_false hs2
 have e5:Hid (vS 3 n=true):=by show _=_;have:=HS1.out;simp [vS,inB];omega
 have HS2:Hid (¬ (12:Int)<n):=hs2
 clear hs2
 go_region_held3 (fun W'=>Bw W W') ((repeat (first|exact Qr _ _|assumption|refine Qd ?_|refine Qa ?_ _|refine Qt ?_|refine Qs ?_ _|refine Qo ?_ ?_ _ _)))
  (first | (go_at_call 148;refine (zBk _).mono ?_;rintro e w' ⟨rfl,hb⟩))
 go_wp2
 go_loopw [58] (fun i wr=>∃ k:Nat,k≤n∧i=.int .i64 k∧(∀ j,j<k→inW (X j) (Y j)=true)∧Bw W wr) (fun i _=>n - (intOf i).toNat)
 case atStart=>exact ⟨0,by omega,rfl,by omega,by assumption⟩
 case round =>
  obtain ⟨k,hk,rfl,hA,hB⟩:=hrel
  have HA:Hid (∀ j,j<k→inW (X j) (Y j)=true):=hA
  have HB:Hid (Bw w wr):=zA HB0.out hB
  have KB:Hid (Bw W wr):=hB
  clear hA
  by_cases hlt:k<n
  ·rcases HP.out with hz | ⟨b,off,rfl,hbl,hpt⟩
   ·omega
   have hi:(k:Int)<(n:Int):=by omega
   have hi0:(0:Int)≤(k:Int):=by omega
   obtain ⟨dx,dy⟩:=hpt.below HB.out hbl k hlt
   clear c4 c5 hB hpt hd1 hd2
   cases hq:inW (X k) (Y k)
   ·have hz:Hid (zM id la 3 wi n X Y lab pr=3):=by show _=_;simp [zM,hr.out,e5.out,zB5 k hlt hq]
    go_wp2_with (go_at_call 149;refine (xX _ _ _).mono ?_;rintro e w' ⟨rfl,hb⟩)
    go_ret
    exact ⟨zD hz.out.symm,by have HB':=HB.out;exact Qb⟩
   ·have HI:Hid (inW (X k) (Y k)=true):=hq
    go_wp2_with (go_at_call 149;refine (xX _ _ _).mono ?_;rintro e w' ⟨rfl,hb⟩)
    go_roundw
    case rel=>exact ⟨k+1,by omega,by go_num,fun j hj=>by
      by_cases e:j=k
      ·rw [e];exact HI.out
      ·exact HA.out j (by omega),by have KB':=KB.out;exact Qb⟩
    case measure=>simp [intOf];omega
  ·have hz:Hid (zM id la 3 wi n X Y lab pr=if zLy lab=true then 0 else 5):=by
    show _=_
    have:zOz n X Y=true:=decide_eq_true (fun i hi=>HA.out i (by omega))
    simp [zM,hr.out,e5.out,this]
   have d5:=c5 wr hB
   clear c4 c5 hd1 hd2
   cases el:zLy lab
   all_goals
    go_wp2_with (go_at_call 150;refine (zDh _ _ hl).mono ?_;rintro e w' ⟨rfl,hb⟩)
    go_ret
    exact ⟨zD (by rw [hz.out];simp [el]),zA HB.out hb⟩
theorem zH5 (id la ki wi:Int)(a:Option Addr)(n cap:Nat)(X Y:Nat→Int)(lab:ByteArray)(pr:Int)(w:World)(hpt:xP w a n X Y)(hl:lab.size≤1048576)(hn:n≤1048576)(k1:ki≠1)(k2:ki≠2)(k3:ki≠3) :
  Calls Tryz.prog 97 #[.agg #[.int .i64 id,.int .i64 la,.int .i64 ki,.int .i64 wi,.slice a n cap,.string lab,.int .i64 pr]] w fun e w'=>e=.returned (.int .i64 (zM id la ki wi n X Y lab pr))∧Bw w w':=by
 have HP:Hid (xP w a n X Y):=hpt
 clear hpt
 go_enter Tryz.func97,Tryz.ntmps97
 go_wp2_with fail
 generalize hW:(w.alloc _:World)=W
 have hB0:Bw w W:=by subst hW;exact Qb
 have c0:∀ W',Bw W W'→W'.cell? ⟨w.heap.size,0,none⟩=some (.int .i64 id):=Qc hW
 have c1:∀ W',Bw W W'→W'.cell? ⟨w.heap.size,1,none⟩=some (.int .i64 la):=Qc hW
 have c2:∀ W',Bw W W'→W'.cell? ⟨w.heap.size,2,none⟩=some (.int .i64 ki):=Qc hW
 have c3:∀ W',Bw W W'→W'.cell? ⟨w.heap.size,3,none⟩=some (.int .i64 wi):=Qc hW
 have c4:∀ W',Bw W W'→W'.cell? ⟨w.heap.size,4,none⟩=some (.slice a n cap):=Qc hW
 have c5:∀ W',Bw W W'→W'.cell? ⟨w.heap.size,5,none⟩=some (.string lab):=Qc hW
 have c6:∀ W',Bw W W'→W'.cell? ⟨w.heap.size,6,none⟩=some (.int .i64 pr):=Qc hW
 clear hW
 have HB0:Hid (Bw w W):=hB0
 clear hB0
 have hz:Hid (zM id la ki wi n X Y lab pr=3):=by
  show _=_
  have:inB ki 1 3=false:=by simp [inB];omega
  simp [zM,zDv,this]
 refine (zUf ki _ k1 k2 k3).mono ?_
 rintro e w1 ⟨rfl,hb1⟩
 have hB1:Bw W w1:=hb1
 clear hb1 k1 k2 k3
 go_wp2
 go_ret
 exact ⟨zD hz.out.symm,zA HB0.out hB1⟩
theorem zGa (id la ki wi:Int)(a:Option Addr)(n cap:Nat)(X Y:Nat→Int)(lab:ByteArray)(pr:Int)(w:World)(hpt:xP w a n X Y)(hl:lab.size≤1048576)(hn:n≤1048576) :
  Calls Tryz.prog 97 #[.agg #[.int .i64 id,.int .i64 la,.int .i64 ki,.int .i64 wi,.slice a n cap,.string lab,.int .i64 pr]] w fun e w'=>e=.returned (.int .i64 (zM id la ki wi n X Y lab pr))∧Bw w w':=by
 by_cases k1:ki=1
 ·subst k1;exact zI3 id la wi a n cap X Y lab pr w hpt hl hn
 by_cases k2:ki=2
 ·subst k2;exact zI2 id la wi a n cap X Y lab pr w hpt hl hn
 by_cases k3:ki=3
 ·subst k3;exact zI1 id la wi a n cap X Y lab pr w hpt hl hn
 exact zH5 id la ki wi a n cap X Y lab pr w hpt hl hn k1 k2 k3
structure Req where
 z:Int
 x:Int
 y:Int
 du:Int
 tr:Int
abbrev zLx (e:Req):Value:=.agg #[.int .i64 e.z,.int .i64 e.x,.int .i64 e.y,.int .i64 e.du,.int .i64 e.tr]
def zN3 (w:World)(p o:Nat)(e:Req):Prop:=w.cell? ⟨p,o,none⟩=some (.int .i64 e.z)∧w.cell? ⟨p,o+1,none⟩=some (.int .i64 e.x)∧w.cell? ⟨p,o+2,none⟩=some (.int .i64 e.y)∧w.cell? ⟨p,o+3,none⟩=some (.int .i64 e.du)∧w.cell? ⟨p,o+4,none⟩=some (.int .i64 e.tr)
theorem zN3.below {w w':World}{p o B:Nat}{e:Req}(h:zN3 w p o e)(hb:Below B w w')(hp:p<B):zN3 w' p o e:=by
 obtain ⟨h0,h1,h2,h3,h4⟩:=h
 exact ⟨(hb.cell (p:=⟨p,o,none⟩) hp).trans h0,(hb.cell (p:=⟨p,o+1,none⟩) hp).trans h1,(hb.cell (p:=⟨p,o+2,none⟩) hp).trans h2,(hb.cell (p:=⟨p,o+3,none⟩) hp).trans h3,(hb.cell (p:=⟨p,o+4,none⟩) hp).trans h4⟩
def zAj (w:World)(p off n:Nat)(E:Nat→Req):Prop:=∀ i,i<n→zN3 w p (off+i * 5) (E i)
theorem zAj.below {w w':World}{p off n B:Nat}{E:Nat→Req}(h:zAj w p off n E)(hb:Below B w w')(hp:p<B):zAj w' p off n E:=fun i hi=>(h i hi).below hb hp
def xL (w:World)(a:Option Addr)(n:Nat)(E:Nat→Req):Prop:=n=0∨∃ b off,a=some ⟨b,off,none⟩∧b<w.heap.size∧zAj w b off n E
theorem xL.below {w w':World}{a:Option Addr}{n:Nat}{E:Nat→Req}(h:xL w a n E)(hb:Below w.heap.size w w'):xL w' a n E:=by
 rcases h with h | ⟨b,off,e,hl,hp⟩
 ·exact .inl h
 ·exact .inr ⟨b,off,e,Nat.lt_of_lt_of_le hl hb.size,hp.below hb hl⟩
theorem zC.outW {w:World}{O r n o:Nat}{x:Value}(h:zC w r n)(hne:O≠r):zC (w.setCell ⟨O,o,none⟩ x) r n:=fun i hi=>by
 obtain ⟨u,hu⟩:=(h i hi).1
 refine ⟨⟨u,?_⟩,?_⟩
 ·rw [zB (fun e=>hne (by injection e))];exact hu
 ·rw [World.frozen?_setCell];exact (h i hi).2
def zDc (W:World)(B o:Nat)(e:Req):World:=(((((W.setCell ⟨B,o,none⟩ (.int .i64 e.z)).setCell ⟨B,o+1,none⟩ (.int .i64 e.x)).setCell ⟨B,o+2,none⟩ (.int .i64 e.y)).setCell ⟨B,o+3,none⟩ (.int .i64 e.du)).setCell ⟨B,o+4,none⟩ (.int .i64 e.tr))
theorem uZ {W:World}{B o:Nat}{e:Req}{p:Addr}(h:p.block≠B∨p.off<o∨o+4<p.off):(zDc W B o e).cell? p=W.cell? p:=by
 have ne:∀ k:Nat,k≤4→(⟨B,o+k,none⟩:Addr)≠p:=fun k hk e=>by subst e;simp at h;omega
 have ne0:(⟨B,o,none⟩:Addr)≠p:=ne 0 (by omega)
 unfold zDc
 rw [zB (ne 4 (by omega)),zB (ne 3 (by omega)),zB (ne 2 (by omega)),zB (ne 1 (by omega)),zB ne0]
theorem zG8 {W:World}{B o m:Nat}{e:Req}(h:zC W B m):zC (zDc W B o e) B m:=by
 unfold zDc
 exact (((((h.set _ _).set _ _).set _ _).set _ _).set _ _)
theorem zJj (W:World)(B o:Nat)(e:Req):(zDc W B o e).heap.size=W.heap.size:=by unfold zDc;simp
theorem zG9 {V W:World}{n B o:Nat}{e:Req}(h:Below n V W)(hB:n≤B):Below n V (zDc W B o e):=by
 unfold zDc
 exact (((((h.setCell hB _).setCell hB _).setCell hB _).setCell hB _).setCell hB _)
theorem zQc {W:World}{B o m:Nat}{e:Req}(h:zC W B m)(ho:o+4<m):zN3 (zDc W B o e) B o e:=by
 have ne:∀ i j:Nat,i≠j→(⟨B,i,none⟩:Addr)≠⟨B,j,none⟩:=fun i j hij h=>hij (by injection h)
 obtain ⟨u0,g0⟩:=(h (o) (by omega)).1
 obtain ⟨u1,g1⟩:=((h.set (o) (.int .i64 e.z)) (o+1) (by omega)).1
 obtain ⟨u2,g2⟩:=(((h.set (o) (.int .i64 e.z)).set (o+1) (.int .i64 e.x)) (o+2) (by omega)).1
 obtain ⟨u3,g3⟩:=((((h.set (o) (.int .i64 e.z)).set (o+1) (.int .i64 e.x)).set (o+2) (.int .i64 e.y)) (o+3) (by omega)).1
 obtain ⟨u4,g4⟩:=(((((h.set (o) (.int .i64 e.z)).set (o+1) (.int .i64 e.x)).set (o+2) (.int .i64 e.y)).set (o+3) (.int .i64 e.du)) (o+4) (by omega)).1
 unfold zDc
 refine ⟨?_,?_,?_,?_,?_⟩
 ·rw [zB (ne (o+4) (o) (by omega)),zB (ne (o+3) (o) (by omega)),zB (ne (o+2) (o) (by omega)),zB (ne (o+1) (o) (by omega))];exact zE g0
 ·rw [zB (ne (o+4) (o+1) (by omega)),zB (ne (o+3) (o+1) (by omega)),zB (ne (o+2) (o+1) (by omega))];exact zE g1
 ·rw [zB (ne (o+4) (o+2) (by omega)),zB (ne (o+3) (o+2) (by omega))];exact zE g2
 ·rw [zB (ne (o+4) (o+3) (by omega))];exact zE g3
 ·exact zE g4
theorem zAj.lay {W:World}{B n k:Nat}{E:Nat→Req}(h:zAj W B 0 k E)(hT:zC W B (n * 5))(hk:k<n):zAj (zDc W B (k * 5) (E k)) B 0 (k+1) E:=fun i hi=>by
 by_cases e:i=k
 ·subst e
  rw [Nat.zero_add]
  exact zQc hT (by omega)
 ·have h':=h i (by omega)
  unfold zN3 at h' ⊢
  rw [uZ (.inr (.inl (by simp;omega))),uZ (.inr (.inl (by simp;omega))),uZ (.inr (.inl (by simp;omega))),uZ (.inr (.inl (by simp;omega))),uZ (.inr (.inl (by simp;omega)))]
  exact h'
abbrev zS5:Array Value:=#[.int .i64 0,.int .i64 0,.int .i64 0,.int .i64 0,.int .i64 0]
theorem info_iw:(Tryz.prog.info? 106).map (fun i=>(i.zero,i.size,i.bytes))=some (some (.agg zS5),5,40):=by kernel_rfl
theorem zT5 (n:Nat)(h:n≤1048576)(w:World) :
  (Instr.makeSlice 36 (.int .i64 (n:Int)) (.int .i64 (n:Int))).run Tryz.prog w=.ok (.slice (some ⟨w.heap.size,0,none⟩) n n) (w.alloc (.cells (madeCells zS5 (n * 5)) 106)):=by
 obtain ⟨i,hi,hz,hs,hb⟩:=info_parts info_iw
 have hr:=run_make (P:=Tryz.prog) w 36 106 i _ Tryz.underlying36 hi hz .i64 .i64 (n:Int) (n:Int) (by omega) (Int.le_refl _) (by rw [hb];omega) (by omega)
 simp only [Int.toNat_natCast,hs] at hr
 exact hr
theorem zOh (n:Nat)(w:World)(t:TypeId):zC (w.alloc (.cells (madeCells zS5 n) t)) w.heap.size n:=fun o ho=>by
 have hz:=size_madeCells zS5 n
 refine ⟨⟨(madeCells zS5 n)[o]'(by rw [hz];exact ho),?_⟩,World.frozen?_alloc_at _ _ _ _ rfl⟩
 rw [World.cell?_alloc_at _ _ _ _ rfl]
 exact Array.getElem?_eq_getElem _
theorem zJ8 (e:Req)(w:World):Calls Tryz.prog 68 #[zLx e] w fun r w'=>r=.returned (zLx e)∧Bw w w':=by
 go_enter Tryz.func68,Tryz.ntmps68
 go_wp2_with fail
 generalize hW:(((w.alloc _).alloc _).alloc _:World)=W
 have hB0:Bw w W:=by subst hW;exact Qb
 have hT1:zC W (w.heap.size+1) 5:=fun o ho=>by
  subst hW
  have hc:o=0∨o=1∨o=2∨o=3∨o=4:=by omega
  rcases hc with rfl | rfl | rfl | rfl | rfl <;> exact ⟨⟨_,by simp [go_sem];rfl⟩,by simp [go_sem]⟩
 have hT2:zC W (w.heap.size+1+1) 5:=fun o ho=>by
  subst hW
  have hc:o=0∨o=1∨o=2∨o=3∨o=4:=by omega
  rcases hc with rfl | rfl | rfl | rfl | rfl <;> exact ⟨⟨_,by simp [go_sem];rfl⟩,by simp [go_sem]⟩
 have c3:W.cell? ⟨w.heap.size,3,none⟩=some (.int .i64 e.du):=by subst hW;simp [go_sem]
 have c4:W.cell? ⟨w.heap.size,4,none⟩=some (.int .i64 e.tr):=by subst hW;simp [go_sem]
 have hsz:w.heap.size+1+1<W.heap.size:=by subst hW;simp
 clear hW
 refine (zL5 _ _ _ _).mono ?_
 rintro r w1 ⟨rfl,hb1⟩
 have hT1':=hT1.below hb1
 have hT2':=hT2.below hb1
 have c3':w1.cell? ⟨w.heap.size,3,none⟩=some (.int .i64 e.du):=(hb1.cell (p:=⟨w.heap.size,3,none⟩) (by show w.heap.size<_;omega)).trans c3
 have c4':w1.cell? ⟨w.heap.size,4,none⟩=some (.int .i64 e.tr):=(hb1.cell (p:=⟨w.heap.size,4,none⟩) (by show w.heap.size<_;omega)).trans c4
 have HB1:Hid (Bw w w1):=zA hB0 hb1
 have s0:=hT1'.cell 0 (by omega)
 have s1:=hT1'.cell 1 (by omega)
 have s2:=hT1'.cell 2 (by omega)
 have s3:=hT1'.cell 3 (by omega)
 have s4:=hT1'.cell 4 (by omega)
 have y0:=(hT1' 0 (by omega)).2
 have y1:=(hT1' 1 (by omega)).2
 have y2:=(hT1' 2 (by omega)).2
 have y3:=(hT1' 3 (by omega)).2
 have y4:=(hT1' 4 (by omega)).2
 have t0:=hT2'.cell 0 (by omega)
 have t1:=hT2'.cell 1 (by omega)
 have t2:=hT2'.cell 2 (by omega)
 have t3:=hT2'.cell 3 (by omega)
 have t4:=hT2'.cell 4 (by omega)
 have z0:=(hT2' 0 (by omega)).2
 have z1:=(hT2' 1 (by omega)).2
 have z2:=(hT2' 2 (by omega)).2
 have z3:=(hT2' 3 (by omega)).2
 have z4:=(hT2' 4 (by omega)).2
 have HT1:Hid (zC w1 (w.heap.size+1) 5):=hT1'
 clear hT1 hT2 c3 c4 hb1 hB0 hT1' hT2'
 have hsz':=hsz
 clear hsz
 go_wp2_with fail
 have key:∀ (T:Array Value) (Wf:World),T[2]?.getD undef=.pointer (some ⟨w.heap.size+1,0,none⟩)→zN3 Wf (w.heap.size+1) 0 e→(results Tryz.f68 T).run Tryz.prog Wf=.ok (zLx e) Wf:=fun T Wf hT ⟨h0,h1,h2,h3,h4⟩=>by
  simp only [Nat.zero_add] at h0 h1 h2 h3 h4
  simp [results,Tryz.results68,go_sem,hT,h0,h1,h2,h3,h4]
 have hL:∀ V:World,zC V (w.heap.size+1) 5→zN3 (zDc V (w.heap.size+1) 0 e) (w.heap.size+1) 0 e:=fun V hV=>zQc hV (by omega)
 refine bodyPost_ret (key _ _ rfl (hL _ ?_)) rfl ⟨rfl,?_⟩
 ·exact (((((HT1.out.outW (by omega)).outW (by omega)).outW (by omega)).outW (by omega)).outW (by omega))
 ·exact ((((((((((HB1.out.setCell (by simp;omega) _).setCell (by simp;omega) _).setCell (by simp;omega) _).setCell (by simp;omega) _).setCell (by simp;omega) _).setCell (by simp) _).setCell (by simp) _).setCell (by simp) _).setCell (by simp) _).setCell (by simp) _)
theorem zH8 (a:Option Addr)(n cap:Nat)(E:Nat→Req)(w:World)(hp:xL w a n E)(hmax:n≤1048576) :
  Calls Tryz.prog 33 #[.slice a n cap] w fun e w'=>∃ b,e=.returned (.slice (some ⟨b,0,none⟩) n n)∧w.heap.size≤b∧b<w'.heap.size∧zAj w' b 0 n E∧zC w' b (n * 5)∧Bw w w':=by
 have hmk:=zT5 n hmax
 have HP:Hid (xL w a n E):=hp
 clear hp
 go_enter Tryz.func33,Tryz.ntmps33
 go_wp2
 generalize hW:(w.alloc _:World)=W
 have HB0:Hid (Bw w W):=by show Below _ _ _;subst hW;exact Qb
 have HT0:Hid (zC W w.heap.size (n * 5)):=by show zC _ _ _;subst hW;exact zOh _ _ _
 have HL0:Hid (w.heap.size<W.heap.size):=by show _<_;subst hW;simp
 clear hW hmk
 go_loopw [4] (fun i wr=>∃ (k:Nat),k≤n∧i=.int .i64 k∧Bw w wr∧zC wr w.heap.size (n * 5)∧zAj wr w.heap.size 0 k E∧w.heap.size<wr.heap.size) (fun i _=>n - (intOf i).toNat)
 case atStart=>exact ⟨0,by omega,rfl,HB0.out,HT0.out,fun i hi=>by omega,HL0.out⟩
 case round =>
  obtain ⟨k,hk,rfl,hB,hT,hO,hlw⟩:=hrel
  by_cases hlt:k<n
  ·rcases HP.out with h0 | ⟨b,off,rfl,hbl,hpt⟩
   ·omega
   ·obtain ⟨f0,f1,f2,f3,f4⟩:=(hpt.below hB hbl) k hlt
    have HB:Hid (Bw w wr):=hB
    have HT:Hid (zC wr w.heap.size (n * 5)):=hT
    have HO:Hid (zAj wr w.heap.size 0 k E):=hO
    clear hB hT hO hpt
    have hi:(k:Int)<(n:Int):=by omega
    have hi0:(0:Int)≤(k:Int):=by omega
    go_wp2_with fail
    refine (zJ8 (E k) _).mono ?_
    rintro e w' ⟨rfl,hb⟩
    have hT':=HT.out.below hb
    have t0:=hT'.cell (k * 5+0) (by omega)
    have t1:=hT'.cell (k * 5+1) (by omega)
    have t2:=hT'.cell (k * 5+2) (by omega)
    have t3:=hT'.cell (k * 5+3) (by omega)
    have t4:=hT'.cell (k * 5+4) (by omega)
    have y0:=(hT' (k * 5+0) (by omega)).2
    have y1:=(hT' (k * 5+1) (by omega)).2
    have y2:=(hT' (k * 5+2) (by omega)).2
    have y3:=(hT' (k * 5+3) (by omega)).2
    have y4:=(hT' (k * 5+4) (by omega)).2
    simp only [Nat.add_zero] at t0 y0
    have HT':Hid (zC w' w.heap.size (n * 5)):=hT'
    have HBn:Hid (Bw wr w'):=hb
    clear hT' hb f0 f1 f2 f3 f4
    go_wp2
    go_roundw
    case rel =>
     refine ⟨k+1,by omega,by go_num,?_,?_,?_,?_⟩
     ·exact zG9 (e:=E k) (B:=w.heap.size) (o:=k * 5) (HB.out.trans (HBn.out.mono HB.out.size)) (Nat.le_refl _)
     ·exact zG8 (e:=E k) (B:=w.heap.size) (o:=k * 5) HT'.out
     ·exact zAj.lay (HO.out.below HBn.out hlw) HT'.out hlt
     ·have:=HBn.out.size
      show _<(zDc w' w.heap.size (k * 5) (E k)).heap.size
      rw [zJj];omega
    case measure=>simp [intOf];omega
  ·go_wp2
   go_ret
   have hkn:k=n:=by omega
   subst hkn
   exact ⟨_,rfl,Nat.le_refl _,hlw,hO,hT,hB⟩
theorem zLj (e:Req)(w:World):Calls Tryz.prog 83 #[zLx e,zLx e] w fun r w'=>r=.returned (.bool true)∧Bw w w':=by
 go_enter Tryz.func83,Tryz.ntmps83
 go_wp2_with fail
 generalize hW:((w.alloc _).alloc _:World)=W
 have hB0:Bw w W:=by subst hW;exact Qb
 have c3:∀ W',Bw W W'→W'.cell? ⟨w.heap.size,3,none⟩=some (.int .i64 e.du):=fun W' h=>by rw [h.cell (by subst hW;simp;omega)];subst hW;simp [go_sem]
 have c4:∀ W',Bw W W'→W'.cell? ⟨w.heap.size,4,none⟩=some (.int .i64 e.tr):=fun W' h=>by rw [h.cell (by subst hW;simp;omega)];subst hW;simp [go_sem]
 have d3:∀ W',Bw W W'→W'.cell? ⟨w.heap.size+1,3,none⟩=some (.int .i64 e.du):=fun W' h=>by rw [h.cell (by subst hW;simp)];subst hW;simp [go_sem]
 have d4:∀ W',Bw W W'→W'.cell? ⟨w.heap.size+1,4,none⟩=some (.int .i64 e.tr):=fun W' h=>by rw [h.cell (by subst hW;simp)];subst hW;simp [go_sem]
 clear hW
 refine (zEn _ _ _ _).mono ?_
 rintro r w1 ⟨rfl,hb1⟩
 have k3:=c3 w1 hb1
 have k4:=c4 w1 hb1
 have l3:=d3 w1 hb1
 have l4:=d4 w1 hb1
 have HB1:Hid (Bw w w1):=zA hB0 hb1
 clear c3 c4 d3 d4 hb1 hB0
 go_wp2
 go_ret
 exact ⟨rfl,HB1.out⟩
theorem zCv (a a':Option Addr)(n cap cap':Nat)(E:Nat→Req)(w:World)(hp:xL w a n E)(hq:xL w a' n E)(hmax:n≤1048576) :
  Calls Tryz.prog 40 #[.slice a n cap,.slice a' n cap'] w fun e w'=>e=.returned (.bool true)∧Bw w w':=by
 have HP:Hid (xL w a n E):=hp
 have HQ:Hid (xL w a' n E):=hq
 clear hp hq
 go_enter Tryz.func40,Tryz.ntmps40
 go_wp2
 go_loopw [5] (fun i wr=>∃ k:Nat,k≤n∧i=.int .i64 k∧Bw w wr) (fun i _=>n - (intOf i).toNat)
 case atStart=>exact ⟨0,by omega,rfl,Below.refl _ _⟩
 case round =>
  obtain ⟨k,hk,rfl,hB⟩:=hrel
  by_cases hlt:k<n
  ·rcases HP.out with h0 | ⟨b,off,rfl,hb,hpt⟩
   ·omega
   rcases HQ.out with h0 | ⟨d,off',rfl,hd,hqt⟩
   ·omega
   have hpr:=hpt.below hB hb
   have hqr:=hqt.below hB hd
   have hbr:b<wr.heap.size:=Nat.lt_of_lt_of_le hb hB.size
   have hdr:d<wr.heap.size:=Nat.lt_of_lt_of_le hd hB.size
   have c0:∀ W',Bw wr W'→W'.cell? ⟨b,off+k * 5,none⟩=some (.int .i64 (E k).z):=fun W' h=>(hpr.below h hbr k hlt).1
   have c1:∀ W',Bw wr W'→W'.cell? ⟨b,off+k * 5+1,none⟩=some (.int .i64 (E k).x):=fun W' h=>(hpr.below h hbr k hlt).2.1
   have c2:∀ W',Bw wr W'→W'.cell? ⟨b,off+k * 5+2,none⟩=some (.int .i64 (E k).y):=fun W' h=>(hpr.below h hbr k hlt).2.2.1
   have c3:∀ W',Bw wr W'→W'.cell? ⟨b,off+k * 5+3,none⟩=some (.int .i64 (E k).du):=fun W' h=>(hpr.below h hbr k hlt).2.2.2.1
   have c4:∀ W',Bw wr W'→W'.cell? ⟨b,off+k * 5+4,none⟩=some (.int .i64 (E k).tr):=fun W' h=>(hpr.below h hbr k hlt).2.2.2.2
   have d0:∀ W',Bw wr W'→W'.cell? ⟨d,off'+k * 5,none⟩=some (.int .i64 (E k).z):=fun W' h=>(hqr.below h hdr k hlt).1
   have d1:∀ W',Bw wr W'→W'.cell? ⟨d,off'+k * 5+1,none⟩=some (.int .i64 (E k).x):=fun W' h=>(hqr.below h hdr k hlt).2.1
   have d2:∀ W',Bw wr W'→W'.cell? ⟨d,off'+k * 5+2,none⟩=some (.int .i64 (E k).y):=fun W' h=>(hqr.below h hdr k hlt).2.2.1
   have d3:∀ W',Bw wr W'→W'.cell? ⟨d,off'+k * 5+3,none⟩=some (.int .i64 (E k).du):=fun W' h=>(hqr.below h hdr k hlt).2.2.2.1
   have d4:∀ W',Bw wr W'→W'.cell? ⟨d,off'+k * 5+4,none⟩=some (.int .i64 (E k).tr):=fun W' h=>(hqr.below h hdr k hlt).2.2.2.2
   have HB:Hid (Bw w wr):=hB
   have HLT:Hid (k<n):=hlt
   clear hB hpt hqt hpr hqr
   have hi:(k:Int)<(n:Int):=by omega
   have hi0:(0:Int)≤(k:Int):=by omega
   go_wp2
   go_region_held3 (fun W'=>Bw wr W') ((repeat (first|exact Qr _ _|assumption|refine Qd ?_|refine Qa ?_ _|refine Qt ?_|refine Qs ?_ _|refine Qo ?_ ?_ _ _)))
    (first
     | (go_at_call 83;refine (zLj (E k) _).mono ?_;rintro e w' ⟨rfl,hb⟩)
     | fail)
   go_wp2
   go_roundw
   case rel=>exact ⟨k+1,by have:=HLT.out;omega,by go_num,zA HB.out (by assumption)⟩
   case measure=>have:=HLT.out;simp [intOf];omega
  ·go_wp2
   go_ret
   exact ⟨rfl,hB⟩
theorem zKc (a:Option Addr)(n cap left:Nat)(w:World)(hl:left≤1048576)(hn:left<n)(hm:n≤maxLen) :
  Calls Tryz.prog 26 #[.slice a n cap,.int .i64 (left:Int)] w fun e w'=>e=.returned (.int .i64 (-1))∧Bw w w':=by
 unfold maxLen at hm
 have hneg:(left:Int) - (n:Int)<0:=by omega
 go_enter Tryz.func26,Tryz.ntmps26
 go_wp2
 go_ret
 exact ⟨rfl,Qb⟩
theorem zKb (a:Option Addr)(n cap left:Nat)(w:World)(hl:left≤1048576)(hn:n≤left) :
  Calls Tryz.prog 26 #[.slice a n cap,.int .i64 (left:Int)] w fun e w'=>e=.returned (.int .i64 ((left:Int) - (n:Int)))∧Bw w w':=by
 have hneg:¬ (left:Int) - (n:Int)<0:=by omega
 go_enter Tryz.func26,Tryz.ntmps26
 go_wp2
 go_ret
 exact ⟨rfl,Qb⟩
end Go.Proofs.YtkjbafcalamgnaaGreat
