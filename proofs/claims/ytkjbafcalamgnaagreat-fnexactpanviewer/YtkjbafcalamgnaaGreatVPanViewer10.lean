/- Texts. -/
import Derived.Test.YtkjbafcalamgnaaGreatVPanViewer8
import Derived.Test.YtkjbafcalamgnaaGreatVPanViewer7
set_option linter.unusedSimpArgs false
set_option linter.unusedVariables false
set_option maxRecDepth 100000
set_option maxHeartbeats 32000000
namespace Go.Proofs.YtkjbafcalamgnaaGreat
open Go.RowKit
theorem zAo (v lo hi:Int)(w:World):Calls Tryz.prog 59 #[.int .i64 v,.int .i64 lo,.int .i64 hi] w fun e w'=>e=.returned (.bool (inB v lo hi))∧w=w':=(yA v lo hi w).mono fun e w' ⟨he,hw⟩=>⟨he,hw.symm⟩
theorem zD3 (ki n:Int)(w:World):Calls Tryz.prog 184 #[.int .i64 ki,.int .i64 n] w fun e w'=>e=.returned (.bool (vM ki n))∧w=w':=(zRq ki n w).mono fun e w' ⟨he,hw⟩=>⟨he,hw.symm⟩
theorem zZ (v lo hi:Int)(w:World):Calls Tryz.prog 77 #[.int .i64 v,.int .i64 lo,.int .i64 hi] w fun e w'=>e=.returned (.bool (inB v lo hi))∧w=w':=(zR v lo hi w).mono fun e w' ⟨he,hw⟩=>⟨he,hw.symm⟩
def zAb (w:World)(p o:Nat)(id la ki wi:Int)(pts:Value)(lab:ByteArray)(pr:Int):Prop :=
 w.cell? ⟨p,o,none⟩=some (.int .i64 id)∧w.cell? ⟨p,o+1,none⟩=some (.int .i64 la)∧w.cell? ⟨p,o+2,none⟩=some (.int .i64 ki)∧w.cell? ⟨p,o+3,none⟩=some (.int .i64 wi) ∧
 w.cell? ⟨p,o+4,none⟩=some pts∧w.cell? ⟨p,o+5,none⟩=some (.string lab)∧w.cell? ⟨p,o+6,none⟩=some (.int .i64 pr)
theorem zAb.below {w w':World}{p o B:Nat}{id la ki wi pr:Int}{pts:Value}{lab:ByteArray}(h:zAb w p o id la ki wi pts lab pr)(hb:Below B w w')(hp:p<B):zAb w' p o id la ki wi pts lab pr:=by
 obtain ⟨h0,h1,h2,h3,h4,h5,h6⟩:=h
 refine ⟨(hb.cell (p:=⟨p,o,none⟩) hp).trans h0,(hb.cell (p:=⟨p,o+1,none⟩) hp).trans h1,(hb.cell (p:=⟨p,o+2,none⟩) hp).trans h2,(hb.cell (p:=⟨p,o+3,none⟩) hp).trans h3,(hb.cell (p:=⟨p,o+4,none⟩) hp).trans h4,(hb.cell (p:=⟨p,o+5,none⟩) hp).trans h5,(hb.cell (p:=⟨p,o+6,none⟩) hp).trans h6⟩
def zOn (n:Nat)(X Y:Nat→Int):Bool:=decide (∀ i,i<n→inW (X i) (Y i)=true)
def zDh (id la ki wi pr:Int):Bool:=inB id 1 999 && (inB la 0 9 && (inB ki 1 3 && (inB wi 0 3 && inB pr 0 9)))
def zM (id la ki wi:Int)(n:Nat)(X Y:Nat→Int)(lab:ByteArray)(pr:Int):Int :=
 if zDh id la ki wi pr=true then (if vM ki n=true then (if zOn n X Y=true then (if zLk lab=true then 0 else 5) else 3) else 2) else 3
theorem zBx {n:Nat}{X Y:Nat→Int}(k:Nat)(hk:k<n)(h:inW (X k) (Y k)=false):zOn n X Y=false:=by
 unfold zOn
 rw [decide_eq_false]
 intro hc
 have:=hc k hk
 rw [h] at this;cases this
theorem zOv (p o:Nat)(id la ki wi:Int)(a:Option Addr)(n cap:Nat)(X Y:Nat→Int)(lab:ByteArray)(pr:Int)(w:World)(hf:zAb w p o id la ki wi (.slice a n cap) lab pr)(hpt:xM w a n X Y)(hl:lab.size≤1048576)(hn:n≤1048576) :
  Calls Tryz.prog 143 #[.pointer (some ⟨p,o,none⟩)] w fun e w'=>e=.returned (.int .i64 (zM id la ki wi n X Y lab pr))∧Bw w w':=by
 have hpl:p<w.heap.size:=World.block_lt_of_cell? _ _ hf.1
 have c0:∀ W',Bw w W'→W'.cell? ⟨p,o,none⟩=some (.int .i64 id):=fun W' h=>(hf.below h hpl).1
 have c1:∀ W',Bw w W'→W'.cell? ⟨p,o+1,none⟩=some (.int .i64 la):=fun W' h=>(hf.below h hpl).2.1
 have c2:∀ W',Bw w W'→W'.cell? ⟨p,o+2,none⟩=some (.int .i64 ki):=fun W' h=>(hf.below h hpl).2.2.1
 have c3:∀ W',Bw w W'→W'.cell? ⟨p,o+3,none⟩=some (.int .i64 wi):=fun W' h=>(hf.below h hpl).2.2.2.1
 have c4:∀ W',Bw w W'→W'.cell? ⟨p,o+4,none⟩=some (.slice a n cap):=fun W' h=>(hf.below h hpl).2.2.2.2.1
 have c5:∀ W',Bw w W'→W'.cell? ⟨p,o+5,none⟩=some (.string lab):=fun W' h=>(hf.below h hpl).2.2.2.2.2.1
 have c6:∀ W',Bw w W'→W'.cell? ⟨p,o+6,none⟩=some (.int .i64 pr):=fun W' h=>(hf.below h hpl).2.2.2.2.2.2
 obtain ⟨h0,h1,h2,h3,h4,h5,h6⟩:=hf
 have HP:Hid (xM w a n X Y):=hpt
 clear hpt
 cases e0:inB id 1 999
 ·have hz:Hid (zM id la ki wi n X Y lab pr=3):=by show _=_;simp [zM,zDh,e0]
  go_enter Tryz.func143,Tryz.ntmps143
  go_wp2_with (go_at_call 59;refine (zAo _ _ _ _).mono ?_;rintro e w' ⟨rfl,rfl⟩)
  go_ret
  exact ⟨zD hz.out.symm,Qb⟩
 cases e1:inB la 0 9
 ·have hz:Hid (zM id la ki wi n X Y lab pr=3):=by show _=_;simp [zM,zDh,e0,e1]
  go_enter Tryz.func143,Tryz.ntmps143
  go_wp2_with (go_at_call 59;refine (zAo _ _ _ _).mono ?_;rintro e w' ⟨rfl,rfl⟩)
  go_ret
  exact ⟨zD hz.out.symm,Qb⟩
 cases e2:inB ki 1 3
 ·have hz:Hid (zM id la ki wi n X Y lab pr=3):=by show _=_;simp [zM,zDh,e0,e1,e2]
  go_enter Tryz.func143,Tryz.ntmps143
  go_wp2_with (go_at_call 59;refine (zAo _ _ _ _).mono ?_;rintro e w' ⟨rfl,rfl⟩)
  go_ret
  exact ⟨zD hz.out.symm,Qb⟩
 cases e3:inB wi 0 3
 ·have hz:Hid (zM id la ki wi n X Y lab pr=3):=by show _=_;simp [zM,zDh,e0,e1,e2,e3]
  go_enter Tryz.func143,Tryz.ntmps143
  go_wp2_with (go_at_call 59;refine (zAo _ _ _ _).mono ?_;rintro e w' ⟨rfl,rfl⟩)
  go_ret
  exact ⟨zD hz.out.symm,Qb⟩
 cases e4:inB pr 0 9
 ·have hz:Hid (zM id la ki wi n X Y lab pr=3):=by show _=_;simp [zM,zDh,e0,e1,e2,e3,e4]
  go_enter Tryz.func143,Tryz.ntmps143
  go_wp2_with (go_at_call 59;refine (zAo _ _ _ _).mono ?_;rintro e w' ⟨rfl,rfl⟩)
  go_ret
  exact ⟨zD hz.out.symm,Qb⟩
 have hr:Hid (zDh id la ki wi pr=true):=by show _=_;simp [zDh,e0,e1,e2,e3,e4]
 cases e5:vM ki n
 ·have hz:Hid (zM id la ki wi n X Y lab pr=2):=by show _=_;simp [zM,hr.out,e5]
  go_enter Tryz.func143,Tryz.ntmps143
  go_wp2_with (first | (go_at_call 59;refine (zAo _ _ _ _).mono ?_;rintro e w' ⟨rfl,rfl⟩) | (go_at_call 184;refine (zD3 _ _ _).mono ?_;rintro e w' ⟨rfl,rfl⟩))
  go_region_held3 (fun W'=>Bw w W') ((repeat (first|exact Qr _ _|assumption|refine Qd ?_|refine Qa ?_ _|refine Qt ?_|refine Qs ?_ _|refine Qo ?_ ?_ _ _)))
   (first | (go_at_call 184;refine (zD3 _ _ _).mono ?_;rintro e w' ⟨rfl,rfl⟩))
  go_wp2
  go_ret
  exact ⟨zD hz.out.symm,Qb⟩
 go_enter Tryz.func143,Tryz.ntmps143
 go_wp2_with (first | (go_at_call 59;refine (zAo _ _ _ _).mono ?_;rintro e w' ⟨rfl,rfl⟩) | (go_at_call 184;refine (zD3 _ _ _).mono ?_;rintro e w' ⟨rfl,rfl⟩))
 go_region_held3 (fun W'=>Bw w W') ((repeat (first|exact Qr _ _|assumption|refine Qd ?_|refine Qa ?_ _|refine Qt ?_|refine Qs ?_ _|refine Qo ?_ ?_ _ _)))
  (first | (go_at_call 184;refine (zD3 _ _ _).mono ?_;rintro e w' ⟨rfl,rfl⟩))
 go_wp2
 go_loopw [3] (fun i wr=>∃ k:Nat,k≤n∧i=.int .i64 k∧(∀ j,j<k→inW (X j) (Y j)=true)∧Bw w wr) (fun i _=>n - (intOf i).toNat)
 case atStart=>exact ⟨0,by omega,rfl,by omega,(Below.refl _ _).drew⟩
 case round =>
  obtain ⟨k,hk,rfl,hA,hB⟩:=hrel
  have HA:Hid (∀ j,j<k→inW (X j) (Y j)=true):=hA
  have HB:Hid (Bw w wr):=hB
  clear h0 h1 h2 h3 h4 h5 h6 c0 c1 c2 c3 c6 hA
  by_cases hlt:k<n
  ·rcases HP.out with hz | ⟨b,off,rfl,hbl,hpt⟩
   ·omega
   have hi:(k:Int)<(n:Int):=by omega
   have hi0:(0:Int)≤(k:Int):=by omega
   have d4:∀ W',Bw wr W'→W'.cell? ⟨p,o+4,none⟩=some (.slice (some ⟨b,off,none⟩) n cap):=fun W' h=>c4 W' (hB.trans (h.mono hB.size))
   have dx:∀ W',Bw wr W'→W'.cell? ⟨b,off+k * 2,none⟩=some (.int .i64 (X k)):=fun W' h=>(hpt.below (hB.trans (h.mono hB.size)) hbl k hlt).1
   have dy:∀ W',Bw wr W'→W'.cell? ⟨b,off+k * 2+1,none⟩=some (.int .i64 (Y k)):=fun W' h=>(hpt.below (hB.trans (h.mono hB.size)) hbl k hlt).2
   clear c4 c5 hB hpt
   have hr0:Bw wr wr:=Below.refl _ _
   cases ex:inB (X k) 0 1024
   ·have hz:Hid (zM id la ki wi n X Y lab pr=3):=by show _=_;simp [zM,hr.out,e5,zBx k hlt (show inW (X k) (Y k)=false by simp [inW,ex])]
    go_wp2_with (go_at_call 59;refine (zAo _ _ _ _).mono ?_;rintro e w' ⟨rfl,rfl⟩)
    go_ret
    exact ⟨zD hz.out.symm,HB.out⟩
   cases ey:inB (Y k) 0 1024
   ·have hz:Hid (zM id la ki wi n X Y lab pr=3):=by show _=_;simp [zM,hr.out,e5,zBx k hlt (show inW (X k) (Y k)=false by simp [inW,ex,ey])]
    go_wp2_with (go_at_call 59;refine (zAo _ _ _ _).mono ?_;rintro e w' ⟨rfl,rfl⟩)
    go_ret
    exact ⟨zD hz.out.symm,HB.out⟩
   have HI:Hid (inW (X k) (Y k)=true):=by show _=_;simp [inW,ex,ey]
   go_wp2_with (go_at_call 59;refine (zAo _ _ _ _).mono ?_;rintro e w' ⟨rfl,rfl⟩)
   go_roundw
   case rel=>exact ⟨k+1,by omega,by go_num,fun j hj=>by
     by_cases e:j=k
     ·rw [e];exact HI.out
     ·exact HA.out j (by omega),HB.out⟩
   case measure=>simp [intOf];omega
  ·have hz:Hid (zM id la ki wi n X Y lab pr=if zLk lab=true then 0 else 5):=by
    show _=_
    have:zOn n X Y=true:=decide_eq_true (fun i hi=>HA.out i (by omega))
    simp [zM,hr.out,e5,this]
   have d4:=c4 wr hB
   have d5:=c5 wr hB
   clear c4 c5
   cases el:zLk lab
   all_goals
    go_wp2_with (go_at_call 185;refine (zOu _ _ hl).mono ?_;rintro e w' ⟨rfl,hb⟩)
    go_ret
    exact ⟨zD (by rw [hz.out];simp [el]),zA HB.out hb⟩
theorem zIr (id la wi:Int)(a:Option Addr)(n cap:Nat)(X Y:Nat→Int)(lab:ByteArray)(pr:Int)(w:World)(hpt:xM w a n X Y)(hl:lab.size≤1048576)(hn:n≤1048576) :
  Calls Tryz.prog 97 #[.agg #[.int .i64 id,.int .i64 la,.int .i64 1,.int .i64 wi,.slice a n cap,.string lab,.int .i64 pr]] w fun e w'=>e=.returned (.int .i64 (zM id la 1 wi n X Y lab pr))∧Bw w w':=by
 have HP:Hid (xM w a n X Y):=hpt
 clear hpt
 go_enter Tryz.func97,Tryz.ntmps97
 go_wp2_with fail
 generalize hW:(w.alloc _:World)=W
 have hB0:Bw w W:=by subst hW;exact Qb
 have c0:∀ W',Bw W W'→W'.cell? ⟨w.heap.size,0,none⟩=some (.int .i64 id):=Qc hW
 have c1:∀ W',Bw W W'→W'.cell? ⟨w.heap.size,1,none⟩=some (.int .i64 la):=Qc hW
 have c2:∀ W',Bw W W'→W'.cell? ⟨w.heap.size,2,none⟩=some (.int .i64 1):=Qc hW
 have c3:∀ W',Bw W W'→W'.cell? ⟨w.heap.size,3,none⟩=some (.int .i64 wi):=Qc hW
 have c4:∀ W',Bw W W'→W'.cell? ⟨w.heap.size,4,none⟩=some (.slice a n cap):=Qc hW
 have c5:∀ W',Bw W W'→W'.cell? ⟨w.heap.size,5,none⟩=some (.string lab):=Qc hW
 have c6:∀ W',Bw W W'→W'.cell? ⟨w.heap.size,6,none⟩=some (.int .i64 pr):=Qc hW
 clear hW
 have HB0:Hid (Bw w W):=hB0
 clear hB0
 refine (zWl _).mono ?_
 rintro e w1 ⟨rfl,hb1⟩
 have hB1:Bw W w1:=hb1
 clear hb1
 cases e0:inB id 1 999
 ·have hz:Hid (zM id la 1 wi n X Y lab pr=3):=by show _=_;simp [zM,zDh,e0]
  go_wp2_with (go_at_call 77;refine (zZ _ _ _ _).mono ?_;rintro e w' ⟨rfl,rfl⟩)
  go_ret
  exact ⟨zD hz.out.symm,zA HB0.out hB1⟩
 cases e1:inB la 0 9
 ·have hz:Hid (zM id la 1 wi n X Y lab pr=3):=by show _=_;simp [zM,zDh,e0,e1]
  go_wp2_with (go_at_call 77;refine (zZ _ _ _ _).mono ?_;rintro e w' ⟨rfl,rfl⟩)
  go_ret
  exact ⟨zD hz.out.symm,zA HB0.out hB1⟩
 cases e3:inB wi 0 3
 ·have hz:Hid (zM id la 1 wi n X Y lab pr=3):=by show _=_;simp [zM,zDh,e0,e1,e3]
  go_wp2_with (go_at_call 77;refine (zZ _ _ _ _).mono ?_;rintro e w' ⟨rfl,rfl⟩)
  go_ret
  exact ⟨zD hz.out.symm,zA HB0.out hB1⟩
 cases e4:inB pr 0 9
 ·have hz:Hid (zM id la 1 wi n X Y lab pr=3):=by show _=_;simp [zM,zDh,e0,e1,e3,e4]
  go_wp2_with (go_at_call 77;refine (zZ _ _ _ _).mono ?_;rintro e w' ⟨rfl,rfl⟩)
  go_ret
  exact ⟨zD hz.out.symm,zA HB0.out hB1⟩
 have hr:Hid (zDh id la 1 wi pr=true):=by show _=_;simp only [zDh,e0,e1,e3,e4];decide
 go_wp2_with (go_at_call 77;refine (zZ _ _ _ _).mono ?_;rintro e w' ⟨rfl,rfl⟩)
 refine (zQ2 _).mono ?_
 rintro e w2 ⟨rfl,hb2⟩
 have hB2:Bw W w2:=by exact Qb
 clear hb2 hB1 c0 c1 c2 c3 c6
 go_wp2_with fail
 by_cases hs1:(n:Int)<1
 ·have hd:decide ((n:Int)<1)=true:=decide_eq_true hs1
  have hz:Hid (zM id la 1 wi n X Y lab pr=2):=by
   show _=_
   have:vM 1 n=false:=by simp [vM,inB];omega
   simp [zM,hr.out,this]
  refine wp_region_noPanic ?_
  refine wp_region_held_drew (S:=fun W'=>Bw W W') (by kernel_rfl) (by exact Qb) (fun hHeld=>?_)
  refine zF (i:=0) (d:=some 42) rfl rfl ?_
  simp only [Act.put,Qx,Qy,Qz]
  refine zF (i:=1) (d:=some 43) rfl rfl ?_
  simp only [Act.put,Qx,Qy,Qz]
  refine zF (i:=2) (d:=some 44) rfl rfl ?_
  simp only [Act.put,Qx,Qy,Qz]
  refine zF (i:=3) (d:=some 45) rfl rfl ?_
  simp only [Act.put,Qx,Qy,Qz]
  refine wpAnyH_ready (rs:=[4]) (by kernel_rfl) (by simp) ?_
  refine AllReadyH.cons rfl (fun K hK=>?_) AllReadyH.nil
  go_simp
  refine (zBe _).mono ?_
  rintro e w' ⟨rfl,hb⟩
  go_wp2_with fail
  refine hK.out _ _ (by exact Qb) (fun hHeld=>?_)
  clear hK K
  try simp only [Act.put,Qx,Qy,Qz]
  refine zF (i:=5) (d:=some 47) rfl rfl ?_
  simp only [Act.put,Qx,Qy,Qz]
  refine zF (i:=6) (d:=some 48) rfl rfl ?_
  simp only [Act.put,Qx,Qy,Qz]
  refine xP (i:=7) (d:=some 49) rfl rfl (by rfl) (by assumption) ?_
  simp only [Act.put,Qx,Qy,Qz]
  refine xP (i:=8) (d:=some 50) rfl rfl (by rfl) (by assumption) ?_
  simp only [Act.put,Qx,Qy,Qz]
  refine xP (i:=9) (d:=some 51) rfl rfl (by rfl) (by assumption) ?_
  simp only [Act.put,Qx,Qy,Qz]
  refine xP (i:=10) (d:=some 52) rfl rfl (by rfl) (by assumption) ?_
  simp only [Act.put,Qx,Qy,Qz]
  refine xP (i:=11) (d:=some 53) rfl rfl (by rfl) (by assumption) ?_
  simp only [Act.put,Qx,Qy,Qz]
  refine zF (i:=12) (d:=some 54) rfl rfl ?_
  simp only [Act.put,Qx,Qy,Qz]
  refine wpAnyH_done (by kernel_rfl) ?_ _
  refine NoPanic.normal ?_
  go_wp2
  go_ret
  exact ⟨zD hz.out.symm,zA HB0.out (by assumption)⟩
 have hd1:decide ((n:Int)<1)=false:=decide_eq_false hs1
 have HS1:Hid (¬ (n:Int)<1):=hs1
 clear hs1
 by_cases hs2:(1:Int)<n
 ·have hd:decide ((1:Int)<n)=true:=decide_eq_true hs2
  have hz:Hid (zM id la 1 wi n X Y lab pr=2):=by
   show _=_
   have:vM 1 n=false:=by simp [vM,inB];omega
   simp [zM,hr.out,this]
  go_region_held3 (fun W'=>Bw W W') ((repeat (first|exact Qr _ _|assumption|refine Qd ?_|refine Qa ?_ _|refine Qt ?_|refine Qs ?_ _|refine Qo ?_ ?_ _ _)))
   (first | (go_at_call 148;refine (zBe _).mono ?_;rintro e w' ⟨rfl,hb⟩))
  go_wp2
  go_ret
  exact ⟨zD hz.out.symm,zA HB0.out (by assumption)⟩
 have hd2:decide ((1:Int)<n)=false:=decide_eq_false hs2
 have e5:Hid (vM 1 n=true):=by show _=_;have:=HS1.out;simp [vM,inB];omega
 have HS2:Hid (¬ (1:Int)<n):=hs2
 clear hs2
 go_region_held3 (fun W'=>Bw W W') ((repeat (first|exact Qr _ _|assumption|refine Qd ?_|refine Qa ?_ _|refine Qt ?_|refine Qs ?_ _|refine Qo ?_ ?_ _ _)))
  (first | (go_at_call 148;refine (zBe _).mono ?_;rintro e w' ⟨rfl,hb⟩))
 go_wp2
 go_loopw [58] (fun i wr=>∃ k:Nat,k≤n∧i=.int .i64 k∧(∀ j,j<k→inW (X j) (Y j)=true)∧Bw W wr) (fun i _=>n - (intOf i).toNat)
 case atStart=>exact ⟨0,by omega,rfl,by omega,by assumption⟩
 case round =>
  obtain ⟨k,hk,rfl,hA,hB⟩:=hrel
  have HA:Hid (∀ j,j<k→inW (X j) (Y j)=true):=hA
  have HB:Hid (Bw w wr):=zA HB0.out hB
  have KB:Hid (Bw W wr):=hB
  clear hA
  by_cases hlt:k<n
  ·rcases HP.out with hz | ⟨b,off,rfl,hbl,hpt⟩
   ·omega
   have hi:(k:Int)<(n:Int):=by omega
   have hi0:(0:Int)≤(k:Int):=by omega
   obtain ⟨dx,dy⟩:=hpt.below HB.out hbl k hlt
   clear c4 c5 hB hpt hd1 hd2
   cases hq:inW (X k) (Y k)
   ·have hz:Hid (zM id la 1 wi n X Y lab pr=3):=by show _=_;simp [zM,hr.out,e5.out,zBx k hlt hq]
    go_wp2_with (go_at_call 149;refine (xU _ _ _).mono ?_;rintro e w' ⟨rfl,hb⟩)
    go_ret
    exact ⟨zD hz.out.symm,by have HB':=HB.out;exact Qb⟩
   ·have HI:Hid (inW (X k) (Y k)=true):=hq
    go_wp2_with (go_at_call 149;refine (xU _ _ _).mono ?_;rintro e w' ⟨rfl,hb⟩)
    go_roundw
    case rel=>exact ⟨k+1,by omega,by go_num,fun j hj=>by
      by_cases e:j=k
      ·rw [e];exact HI.out
      ·exact HA.out j (by omega),by have KB':=KB.out;exact Qb⟩
    case measure=>simp [intOf];omega
  ·have hz:Hid (zM id la 1 wi n X Y lab pr=if zLk lab=true then 0 else 5):=by
    show _=_
    have:zOn n X Y=true:=decide_eq_true (fun i hi=>HA.out i (by omega))
    simp [zM,hr.out,e5.out,this]
   have d5:=c5 wr hB
   clear c4 c5 hd1 hd2
   cases el:zLk lab
   all_goals
    go_wp2_with (go_at_call 150;refine (zC5 _ _ hl).mono ?_;rintro e w' ⟨rfl,hb⟩)
    go_ret
    exact ⟨zD (by rw [hz.out];simp [el]),zA HB.out hb⟩
theorem zIq (id la wi:Int)(a:Option Addr)(n cap:Nat)(X Y:Nat→Int)(lab:ByteArray)(pr:Int)(w:World)(hpt:xM w a n X Y)(hl:lab.size≤1048576)(hn:n≤1048576) :
  Calls Tryz.prog 97 #[.agg #[.int .i64 id,.int .i64 la,.int .i64 2,.int .i64 wi,.slice a n cap,.string lab,.int .i64 pr]] w fun e w'=>e=.returned (.int .i64 (zM id la 2 wi n X Y lab pr))∧Bw w w':=by
 have HP:Hid (xM w a n X Y):=hpt
 clear hpt
 go_enter Tryz.func97,Tryz.ntmps97
 go_wp2_with fail
 generalize hW:(w.alloc _:World)=W
 have hB0:Bw w W:=by subst hW;exact Qb
 have c0:∀ W',Bw W W'→W'.cell? ⟨w.heap.size,0,none⟩=some (.int .i64 id):=Qc hW
 have c1:∀ W',Bw W W'→W'.cell? ⟨w.heap.size,1,none⟩=some (.int .i64 la):=Qc hW
 have c2:∀ W',Bw W W'→W'.cell? ⟨w.heap.size,2,none⟩=some (.int .i64 2):=Qc hW
 have c3:∀ W',Bw W W'→W'.cell? ⟨w.heap.size,3,none⟩=some (.int .i64 wi):=Qc hW
 have c4:∀ W',Bw W W'→W'.cell? ⟨w.heap.size,4,none⟩=some (.slice a n cap):=Qc hW
 have c5:∀ W',Bw W W'→W'.cell? ⟨w.heap.size,5,none⟩=some (.string lab):=Qc hW
 have c6:∀ W',Bw W W'→W'.cell? ⟨w.heap.size,6,none⟩=some (.int .i64 pr):=Qc hW
 clear hW
 have HB0:Hid (Bw w W):=hB0
 clear hB0
 refine (zWk _).mono ?_
 rintro e w1 ⟨rfl,hb1⟩
 have hB1:Bw W w1:=hb1
 clear hb1
 cases e0:inB id 1 999
 ·have hz:Hid (zM id la 2 wi n X Y lab pr=3):=by show _=_;simp [zM,zDh,e0]
  go_wp2_with (go_at_call 77;refine (zZ _ _ _ _).mono ?_;rintro e w' ⟨rfl,rfl⟩)
  go_ret
  exact ⟨zD hz.out.symm,zA HB0.out hB1⟩
 cases e1:inB la 0 9
 ·have hz:Hid (zM id la 2 wi n X Y lab pr=3):=by show _=_;simp [zM,zDh,e0,e1]
  go_wp2_with (go_at_call 77;refine (zZ _ _ _ _).mono ?_;rintro e w' ⟨rfl,rfl⟩)
  go_ret
  exact ⟨zD hz.out.symm,zA HB0.out hB1⟩
 cases e3:inB wi 0 3
 ·have hz:Hid (zM id la 2 wi n X Y lab pr=3):=by show _=_;simp [zM,zDh,e0,e1,e3]
  go_wp2_with (go_at_call 77;refine (zZ _ _ _ _).mono ?_;rintro e w' ⟨rfl,rfl⟩)
  go_ret
  exact ⟨zD hz.out.symm,zA HB0.out hB1⟩
 cases e4:inB pr 0 9
 ·have hz:Hid (zM id la 2 wi n X Y lab pr=3):=by show _=_;simp [zM,zDh,e0,e1,e3,e4]
  go_wp2_with (go_at_call 77;refine (zZ _ _ _ _).mono ?_;rintro e w' ⟨rfl,rfl⟩)
  go_ret
  exact ⟨zD hz.out.symm,zA HB0.out hB1⟩
 have hr:Hid (zDh id la 2 wi pr=true):=by show _=_;simp only [zDh,e0,e1,e3,e4];decide
 go_wp2_with (go_at_call 77;refine (zZ _ _ _ _).mono ?_;rintro e w' ⟨rfl,rfl⟩)
 refine (zQ1 _).mono ?_
 rintro e w2 ⟨rfl,hb2⟩
 have hB2:Bw W w2:=by exact Qb
 clear hb2 hB1 c0 c1 c2 c3 c6
 go_wp2_with fail
 by_cases hs1:(n:Int)<2
 ·have hd:decide ((n:Int)<2)=true:=decide_eq_true hs1
  have hz:Hid (zM id la 2 wi n X Y lab pr=2):=by
   show _=_
   have:vM 2 n=false:=by simp [vM,inB];omega
   simp [zM,hr.out,this]
  refine wp_region_noPanic ?_
  refine wp_region_held_drew (S:=fun W'=>Bw W W') (by kernel_rfl) (by exact Qb) (fun hHeld=>?_)
  refine zF (i:=0) (d:=some 42) rfl rfl ?_
  simp only [Act.put,Qx,Qy,Qz]
  refine zF (i:=1) (d:=some 43) rfl rfl ?_
  simp only [Act.put,Qx,Qy,Qz]
  refine zF (i:=2) (d:=some 44) rfl rfl ?_
  simp only [Act.put,Qx,Qy,Qz]
  refine zF (i:=3) (d:=some 45) rfl rfl ?_
  simp only [Act.put,Qx,Qy,Qz]
  refine wpAnyH_ready (rs:=[4]) (by kernel_rfl) (by simp) ?_
  refine AllReadyH.cons rfl (fun K hK=>?_) AllReadyH.nil
  go_simp
  refine (zBd _).mono ?_
  rintro e w' ⟨rfl,hb⟩
  go_wp2_with fail
  refine hK.out _ _ (by exact Qb) (fun hHeld=>?_)
  clear hK K
  try simp only [Act.put,Qx,Qy,Qz]
  refine zF (i:=5) (d:=some 47) rfl rfl ?_
  simp only [Act.put,Qx,Qy,Qz]
  refine zF (i:=6) (d:=some 48) rfl rfl ?_
  simp only [Act.put,Qx,Qy,Qz]
  refine xP (i:=7) (d:=some 49) rfl rfl (by rfl) (by assumption) ?_
  simp only [Act.put,Qx,Qy,Qz]
  refine xP (i:=8) (d:=some 50) rfl rfl (by rfl) (by assumption) ?_
  simp only [Act.put,Qx,Qy,Qz]
  refine xP (i:=9) (d:=some 51) rfl rfl (by rfl) (by assumption) ?_
  simp only [Act.put,Qx,Qy,Qz]
  refine xP (i:=10) (d:=some 52) rfl rfl (by rfl) (by assumption) ?_
  simp only [Act.put,Qx,Qy,Qz]
  refine xP (i:=11) (d:=some 53) rfl rfl (by rfl) (by assumption) ?_
  simp only [Act.put,Qx,Qy,Qz]
  refine zF (i:=12) (d:=some 54) rfl rfl ?_
  simp only [Act.put,Qx,Qy,Qz]
  refine wpAnyH_done (by kernel_rfl) ?_ _
  refine NoPanic.normal ?_
  go_wp2
  go_ret
  exact ⟨zD hz.out.symm,zA HB0.out (by assumption)⟩
 have hd1:decide ((n:Int)<2)=false:=decide_eq_false hs1
 have HS1:Hid (¬ (n:Int)<2):=hs1
 clear hs1
 by_cases hs2:(12:Int)<n
 ·have hd:decide ((12:Int)<n)=true:=decide_eq_true hs2
  have hz:Hid (zM id la 2 wi n X Y lab pr=2):=by
   show _=_
   have:vM 2 n=false:=by simp [vM,inB];omega
   simp [zM,hr.out,this]
  go_region_held3 (fun W'=>Bw W W') ((repeat (first|exact Qr _ _|assumption|refine Qd ?_|refine Qa ?_ _|refine Qt ?_|refine Qs ?_ _|refine Qo ?_ ?_ _ _)))
   (first | (go_at_call 148;refine (zBd _).mono ?_;rintro e w' ⟨rfl,hb⟩))
  go_wp2
  go_ret
  exact ⟨zD hz.out.symm,zA HB0.out (by assumption)⟩
 have hd2:decide ((12:Int)<n)=false:=decide_eq_false hs2
 have e5:Hid (vM 2 n=true):=by show _=_;have:=HS1.out;simp [vM,inB];omega
 have HS2:Hid (¬ (12:Int)<n):=hs2
 clear hs2
 go_region_held3 (fun W'=>Bw W W') ((repeat (first|exact Qr _ _|assumption|refine Qd ?_|refine Qa ?_ _|refine Qt ?_|refine Qs ?_ _|refine Qo ?_ ?_ _ _)))
  (first | (go_at_call 148;refine (zBd _).mono ?_;rintro e w' ⟨rfl,hb⟩))
 go_wp2
 go_loopw [58] (fun i wr=>∃ k:Nat,k≤n∧i=.int .i64 k∧(∀ j,j<k→inW (X j) (Y j)=true)∧Bw W wr) (fun i _=>n - (intOf i).toNat)
 case atStart=>exact ⟨0,by omega,rfl,by omega,by assumption⟩
 case round =>
  obtain ⟨k,hk,rfl,hA,hB⟩:=hrel
  have HA:Hid (∀ j,j<k→inW (X j) (Y j)=true):=hA
  have HB:Hid (Bw w wr):=zA HB0.out hB
  have KB:Hid (Bw W wr):=hB
  clear hA
  by_cases hlt:k<n
  ·rcases HP.out with hz | ⟨b,off,rfl,hbl,hpt⟩
   ·omega
   have hi:(k:Int)<(n:Int):=by omega
   have hi0:(0:Int)≤(k:Int):=by omega
   obtain ⟨dx,dy⟩:=hpt.below HB.out hbl k hlt
   clear c4 c5 hB hpt hd1 hd2
   cases hq:inW (X k) (Y k)
   ·have hz:Hid (zM id la 2 wi n X Y lab pr=3):=by show _=_;simp [zM,hr.out,e5.out,zBx k hlt hq]
    go_wp2_with (go_at_call 149;refine (xU _ _ _).mono ?_;rintro e w' ⟨rfl,hb⟩)
    go_ret
    exact ⟨zD hz.out.symm,by have HB':=HB.out;exact Qb⟩
   ·have HI:Hid (inW (X k) (Y k)=true):=hq
    go_wp2_with (go_at_call 149;refine (xU _ _ _).mono ?_;rintro e w' ⟨rfl,hb⟩)
    go_roundw
    case rel=>exact ⟨k+1,by omega,by go_num,fun j hj=>by
      by_cases e:j=k
      ·rw [e];exact HI.out
      ·exact HA.out j (by omega),by have KB':=KB.out;exact Qb⟩
    case measure=>simp [intOf];omega
  ·have hz:Hid (zM id la 2 wi n X Y lab pr=if zLk lab=true then 0 else 5):=by
    show _=_
    have:zOn n X Y=true:=decide_eq_true (fun i hi=>HA.out i (by omega))
    simp [zM,hr.out,e5.out,this]
   have d5:=c5 wr hB
   clear c4 c5 hd1 hd2
   cases el:zLk lab
   all_goals
    go_wp2_with (go_at_call 150;refine (zC5 _ _ hl).mono ?_;rintro e w' ⟨rfl,hb⟩)
    go_ret
    exact ⟨zD (by rw [hz.out];simp [el]),zA HB.out hb⟩
theorem zIp (id la wi:Int)(a:Option Addr)(n cap:Nat)(X Y:Nat→Int)(lab:ByteArray)(pr:Int)(w:World)(hpt:xM w a n X Y)(hl:lab.size≤1048576)(hn:n≤1048576) :
  Calls Tryz.prog 97 #[.agg #[.int .i64 id,.int .i64 la,.int .i64 3,.int .i64 wi,.slice a n cap,.string lab,.int .i64 pr]] w fun e w'=>e=.returned (.int .i64 (zM id la 3 wi n X Y lab pr))∧Bw w w':=by
 have HP:Hid (xM w a n X Y):=hpt
 clear hpt
 go_enter Tryz.func97,Tryz.ntmps97
 go_wp2_with fail
 generalize hW:(w.alloc _:World)=W
 have hB0:Bw w W:=by subst hW;exact Qb
 have c0:∀ W',Bw W W'→W'.cell? ⟨w.heap.size,0,none⟩=some (.int .i64 id):=Qc hW
 have c1:∀ W',Bw W W'→W'.cell? ⟨w.heap.size,1,none⟩=some (.int .i64 la):=Qc hW
 have c2:∀ W',Bw W W'→W'.cell? ⟨w.heap.size,2,none⟩=some (.int .i64 3):=Qc hW
 have c3:∀ W',Bw W W'→W'.cell? ⟨w.heap.size,3,none⟩=some (.int .i64 wi):=Qc hW
 have c4:∀ W',Bw W W'→W'.cell? ⟨w.heap.size,4,none⟩=some (.slice a n cap):=Qc hW
 have c5:∀ W',Bw W W'→W'.cell? ⟨w.heap.size,5,none⟩=some (.string lab):=Qc hW
 have c6:∀ W',Bw W W'→W'.cell? ⟨w.heap.size,6,none⟩=some (.int .i64 pr):=Qc hW
 clear hW
 have HB0:Hid (Bw w W):=hB0
 clear hB0
 refine (zWj _).mono ?_
 rintro e w1 ⟨rfl,hb1⟩
 have hB1:Bw W w1:=hb1
 clear hb1
 cases e0:inB id 1 999
 ·have hz:Hid (zM id la 3 wi n X Y lab pr=3):=by show _=_;simp [zM,zDh,e0]
  go_wp2_with (go_at_call 77;refine (zZ _ _ _ _).mono ?_;rintro e w' ⟨rfl,rfl⟩)
  go_ret
  exact ⟨zD hz.out.symm,zA HB0.out hB1⟩
 cases e1:inB la 0 9
 ·have hz:Hid (zM id la 3 wi n X Y lab pr=3):=by show _=_;simp [zM,zDh,e0,e1]
  go_wp2_with (go_at_call 77;refine (zZ _ _ _ _).mono ?_;rintro e w' ⟨rfl,rfl⟩)
  go_ret
  exact ⟨zD hz.out.symm,zA HB0.out hB1⟩
 cases e3:inB wi 0 3
 ·have hz:Hid (zM id la 3 wi n X Y lab pr=3):=by show _=_;simp [zM,zDh,e0,e1,e3]
  go_wp2_with (go_at_call 77;refine (zZ _ _ _ _).mono ?_;rintro e w' ⟨rfl,rfl⟩)
  go_ret
  exact ⟨zD hz.out.symm,zA HB0.out hB1⟩
 cases e4:inB pr 0 9
 ·have hz:Hid (zM id la 3 wi n X Y lab pr=3):=by show _=_;simp [zM,zDh,e0,e1,e3,e4]
  go_wp2_with (go_at_call 77;refine (zZ _ _ _ _).mono ?_;rintro e w' ⟨rfl,rfl⟩)
  go_ret
  exact ⟨zD hz.out.symm,zA HB0.out hB1⟩
 have hr:Hid (zDh id la 3 wi pr=true):=by show _=_;simp only [zDh,e0,e1,e3,e4];decide
 go_wp2_with (go_at_call 77;refine (zZ _ _ _ _).mono ?_;rintro e w' ⟨rfl,rfl⟩)
 refine (zQ0 _).mono ?_
 rintro e w2 ⟨rfl,hb2⟩
 have hB2:Bw W w2:=by exact Qb
 clear hb2 hB1 c0 c1 c2 c3 c6
 go_wp2_with fail
 by_cases hs1:(n:Int)<3
 ·have hd:decide ((n:Int)<3)=true:=decide_eq_true hs1
  have hz:Hid (zM id la 3 wi n X Y lab pr=2):=by
   show _=_
   have:vM 3 n=false:=by simp [vM,inB];omega
   simp [zM,hr.out,this]
  refine wp_region_noPanic ?_
  refine wp_region_held_drew (S:=fun W'=>Bw W W') (by kernel_rfl) (by exact Qb) (fun hHeld=>?_)
  refine zF (i:=0) (d:=some 42) rfl rfl ?_
  simp only [Act.put,Qx,Qy,Qz]
  refine zF (i:=1) (d:=some 43) rfl rfl ?_
  simp only [Act.put,Qx,Qy,Qz]
  refine zF (i:=2) (d:=some 44) rfl rfl ?_
  simp only [Act.put,Qx,Qy,Qz]
  refine zF (i:=3) (d:=some 45) rfl rfl ?_
  simp only [Act.put,Qx,Qy,Qz]
  refine wpAnyH_ready (rs:=[4]) (by kernel_rfl) (by simp) ?_
  refine AllReadyH.cons rfl (fun K hK=>?_) AllReadyH.nil
  go_simp
  refine (zBc _).mono ?_
  rintro e w' ⟨rfl,hb⟩
  go_wp2_with fail
  refine hK.out _ _ (by exact Qb) (fun hHeld=>?_)
  clear hK K
  try simp only [Act.put,Qx,Qy,Qz]
  refine zF (i:=5) (d:=some 47) rfl rfl ?_
  simp only [Act.put,Qx,Qy,Qz]
  refine zF (i:=6) (d:=some 48) rfl rfl ?_
  simp only [Act.put,Qx,Qy,Qz]
  refine xP (i:=7) (d:=some 49) rfl rfl (by rfl) (by assumption) ?_
  simp only [Act.put,Qx,Qy,Qz]
  refine xP (i:=8) (d:=some 50) rfl rfl (by rfl) (by assumption) ?_
  simp only [Act.put,Qx,Qy,Qz]
  refine xP (i:=9) (d:=some 51) rfl rfl (by rfl) (by assumption) ?_
  simp only [Act.put,Qx,Qy,Qz]
  refine xP (i:=10) (d:=some 52) rfl rfl (by rfl) (by assumption) ?_
  simp only [Act.put,Qx,Qy,Qz]
  refine xP (i:=11) (d:=some 53) rfl rfl (by rfl) (by assumption) ?_
  simp only [Act.put,Qx,Qy,Qz]
  refine zF (i:=12) (d:=some 54) rfl rfl ?_
  simp only [Act.put,Qx,Qy,Qz]
  refine wpAnyH_done (by kernel_rfl) ?_ _
  refine NoPanic.normal ?_
  go_wp2
  go_ret
  exact ⟨zD hz.out.symm,zA HB0.out (by assumption)⟩
 have hd1:decide ((n:Int)<3)=false:=decide_eq_false hs1
 have HS1:Hid (¬ (n:Int)<3):=hs1
 clear hs1
 by_cases hs2:(12:Int)<n
 ·have hd:decide ((12:Int)<n)=true:=decide_eq_true hs2
  have hz:Hid (zM id la 3 wi n X Y lab pr=2):=by
   show _=_
   have:vM 3 n=false:=by simp [vM,inB];omega
   simp [zM,hr.out,this]
  go_region_held3 (fun W'=>Bw W W') ((repeat (first|exact Qr _ _|assumption|refine Qd ?_|refine Qa ?_ _|refine Qt ?_|refine Qs ?_ _|refine Qo ?_ ?_ _ _)))
   (first | (go_at_call 148;refine (zBc _).mono ?_;rintro e w' ⟨rfl,hb⟩))
  go_wp2
  go_ret
  exact ⟨zD hz.out.symm,zA HB0.out (by assumption)⟩
 have hd2:decide ((12:Int)<n)=false:=decide_eq_false hs2
 have e5:Hid (vM 3 n=true):=by show _=_;have:=HS1.out;simp [vM,inB];omega
 have HS2:Hid (¬ (12:Int)<n):=hs2
 clear hs2
 go_region_held3 (fun W'=>Bw W W') ((repeat (first|exact Qr _ _|assumption|refine Qd ?_|refine Qa ?_ _|refine Qt ?_|refine Qs ?_ _|refine Qo ?_ ?_ _ _)))
  (first | (go_at_call 148;refine (zBc _).mono ?_;rintro e w' ⟨rfl,hb⟩))
 go_wp2
 go_loopw [58] (fun i wr=>∃ k:Nat,k≤n∧i=.int .i64 k∧(∀ j,j<k→inW (X j) (Y j)=true)∧Bw W wr) (fun i _=>n - (intOf i).toNat)
 case atStart=>exact ⟨0,by omega,rfl,by omega,by assumption⟩
 case round =>
  obtain ⟨k,hk,rfl,hA,hB⟩:=hrel
  have HA:Hid (∀ j,j<k→inW (X j) (Y j)=true):=hA
  have HB:Hid (Bw w wr):=zA HB0.out hB
  have KB:Hid (Bw W wr):=hB
  clear hA
  by_cases hlt:k<n
  ·rcases HP.out with hz | ⟨b,off,rfl,hbl,hpt⟩
   ·omega
   have hi:(k:Int)<(n:Int):=by omega
   have hi0:(0:Int)≤(k:Int):=by omega
   obtain ⟨dx,dy⟩:=hpt.below HB.out hbl k hlt
   clear c4 c5 hB hpt hd1 hd2
   cases hq:inW (X k) (Y k)
   ·have hz:Hid (zM id la 3 wi n X Y lab pr=3):=by show _=_;simp [zM,hr.out,e5.out,zBx k hlt hq]
    go_wp2_with (go_at_call 149;refine (xU _ _ _).mono ?_;rintro e w' ⟨rfl,hb⟩)
    go_ret
    exact ⟨zD hz.out.symm,by have HB':=HB.out;exact Qb⟩
   ·have HI:Hid (inW (X k) (Y k)=true):=hq
    go_wp2_with (go_at_call 149;refine (xU _ _ _).mono ?_;rintro e w' ⟨rfl,hb⟩)
    go_roundw
    case rel=>exact ⟨k+1,by omega,by go_num,fun j hj=>by
      by_cases e:j=k
      ·rw [e];exact HI.out
      ·exact HA.out j (by omega),by have KB':=KB.out;exact Qb⟩
    case measure=>simp [intOf];omega
  ·have hz:Hid (zM id la 3 wi n X Y lab pr=if zLk lab=true then 0 else 5):=by
    show _=_
    have:zOn n X Y=true:=decide_eq_true (fun i hi=>HA.out i (by omega))
    simp [zM,hr.out,e5.out,this]
   have d5:=c5 wr hB
   clear c4 c5 hd1 hd2
   cases el:zLk lab
   all_goals
    go_wp2_with (go_at_call 150;refine (zC5 _ _ hl).mono ?_;rintro e w' ⟨rfl,hb⟩)
    go_ret
    exact ⟨zD (by rw [hz.out];simp [el]),zA HB.out hb⟩
theorem zHs (id la ki wi:Int)(a:Option Addr)(n cap:Nat)(X Y:Nat→Int)(lab:ByteArray)(pr:Int)(w:World)(hpt:xM w a n X Y)(hl:lab.size≤1048576)(hn:n≤1048576)(k1:ki≠1)(k2:ki≠2)(k3:ki≠3) :
  Calls Tryz.prog 97 #[.agg #[.int .i64 id,.int .i64 la,.int .i64 ki,.int .i64 wi,.slice a n cap,.string lab,.int .i64 pr]] w fun e w'=>e=.returned (.int .i64 (zM id la ki wi n X Y lab pr))∧Bw w w':=by
 have HP:Hid (xM w a n X Y):=hpt
 clear hpt
 go_enter Tryz.func97,Tryz.ntmps97
 go_wp2_with fail
 generalize hW:(w.alloc _:World)=W
 have hB0:Bw w W:=by subst hW;exact Qb
 have c0:∀ W',Bw W W'→W'.cell? ⟨w.heap.size,0,none⟩=some (.int .i64 id):=Qc hW
 have c1:∀ W',Bw W W'→W'.cell? ⟨w.heap.size,1,none⟩=some (.int .i64 la):=Qc hW
 have c2:∀ W',Bw W W'→W'.cell? ⟨w.heap.size,2,none⟩=some (.int .i64 ki):=Qc hW
 have c3:∀ W',Bw W W'→W'.cell? ⟨w.heap.size,3,none⟩=some (.int .i64 wi):=Qc hW
 have c4:∀ W',Bw W W'→W'.cell? ⟨w.heap.size,4,none⟩=some (.slice a n cap):=Qc hW
 have c5:∀ W',Bw W W'→W'.cell? ⟨w.heap.size,5,none⟩=some (.string lab):=Qc hW
 have c6:∀ W',Bw W W'→W'.cell? ⟨w.heap.size,6,none⟩=some (.int .i64 pr):=Qc hW
 clear hW
 have HB0:Hid (Bw w W):=hB0
 clear hB0
 have hz:Hid (zM id la ki wi n X Y lab pr=3):=by
  show _=_
  have:inB ki 1 3=false:=by simp [inB];omega
  simp [zM,zDh,this]
 refine (zT6 ki _ k1 k2 k3).mono ?_
 rintro e w1 ⟨rfl,hb1⟩
 have hB1:Bw W w1:=hb1
 clear hb1 k1 k2 k3
 go_wp2
 go_ret
 exact ⟨zD hz.out.symm,zA HB0.out hB1⟩
theorem zFy (id la ki wi:Int)(a:Option Addr)(n cap:Nat)(X Y:Nat→Int)(lab:ByteArray)(pr:Int)(w:World)(hpt:xM w a n X Y)(hl:lab.size≤1048576)(hn:n≤1048576) :
  Calls Tryz.prog 97 #[.agg #[.int .i64 id,.int .i64 la,.int .i64 ki,.int .i64 wi,.slice a n cap,.string lab,.int .i64 pr]] w fun e w'=>e=.returned (.int .i64 (zM id la ki wi n X Y lab pr))∧Bw w w':=by
 by_cases k1:ki=1
 ·subst k1;exact zIr id la wi a n cap X Y lab pr w hpt hl hn
 by_cases k2:ki=2
 ·subst k2;exact zIq id la wi a n cap X Y lab pr w hpt hl hn
 by_cases k3:ki=3
 ·subst k3;exact zIp id la wi a n cap X Y lab pr w hpt hl hn
 exact zHs id la ki wi a n cap X Y lab pr w hpt hl hn k1 k2 k3
theorem zRd (f:Nat)(caps:Array Value)(z x y:Int)(G:Int→Int→Int)(w:World)(h:zCm z x y=true)(hce:∀ args w,(callFunc f args).run Tryz.prog w=.ok (.enter f args) w)(hF:∀ W c r,Bw w W→c<8→r<8→Calls Tryz.prog f (#[.int .i64 (x * 8+(c:Nat)),.int .i64 (y * 8+(r:Nat))] ++ caps) W fun e W'=>e=.returned (.int .i64 (G (x * 8+(c:Nat)) (y * 8+(r:Nat))))∧Bw W W') :
  Calls Tryz.prog 195 #[vN z x y,.func (.func f) #[] caps] w fun e w'=>∃ v,e=.returned v∧zBt w.heap.size w' v (zDr G (x * 8) (y * 8) 8 8)∧Bw w w':=by
 obtain ⟨⟨z0,z1⟩,⟨x0,x1⟩,y0,y1⟩:=zXu h
 have HF:=(show Hid _ from hF)
 have HE:=(show Hid _ from hce)
 clear hF hce h
 go_enter Tryz.func195,Tryz.ntmps195
 go_wp2_with fail
 generalize hW:(w.alloc _:World)=W
 have hB0:Bw w W:=by subst hW;exact Qb
 clear hW
 refine (zL3 f caps (x * 8) (y * 8) 8 8 G W (Nat.le_refl _) (Nat.le_refl _) (by omega) (by omega) HE.out (fun W' c r hb hc hr=>HF.out W' c r (zA hB0 hb) hc hr)).mono ?_
 rintro e w' ⟨v,rfl,hO,hb⟩
 have HB:Hid (Bw w w'):=zA hB0 hb
 have HO:Hid (zBt w.heap.size w' v (zDr G (x * 8) (y * 8) 8 8)):=hO.wide hB0.size
 clear hO hb hB0
 go_wp2_with fail
 go_ret
 exact ⟨_,rfl,HO.out,HB.out⟩
theorem Row.setB {base r o:Nat}{w:World}{v x:Value}{l:List (Int × Int)}(h:Row base w v l)(hr:r<base):Row base (w.setCell ⟨r,o,none⟩ x) v l:=by
 obtain ⟨h1,h2 | ⟨g,cp,cur,hv,hg,hh,hrest⟩⟩:=h
 ·exact ⟨h1,.inl h2⟩
 ·refine ⟨h1,.inr ⟨g,cp,cur,hv,hg,?_,hrest⟩⟩
  rw [Below.heap_setCell _ _ _ _ (by simp;omega)]
  exact hh
theorem Row.wideB {base B:Nat}{w:World}{v:Value}{l:List (Int × Int)}(h:Row base w v l)(hB:B≤base):Row B w v l:=by
 obtain ⟨h1,h2 | ⟨g,cp,cur,hv,hg,hrest⟩⟩:=h
 ·exact ⟨h1,.inl h2⟩
 ·exact ⟨h1,.inr ⟨g,cp,cur,hv,by omega,hrest⟩⟩
set_option maxRecDepth 8000 in
theorem zGf {off:Nat}(b n cap:Nat)(X Y:Nat→Int)(w:World)(hp:zL w b off n X Y)(hbl:b<w.heap.size)(hn:n≤1048576) :
  Calls Tryz.prog 245 #[.slice (some ⟨b,off,none⟩) n cap] w fun e w'=>∃ a c,e=.returned (.slice a n c)∧Row w.heap.size w' (.slice a n c) (vA X Y (List.range n))∧Bw w w':=by
 obtain ⟨i0,hi,hz0,hz1,hz2⟩:=info_parts (show (Tryz.prog.info? 206).map (fun i=>(i.zero,i.size,i.bytes))=some (some (.agg #[.int .i64 0,.int .i64 0]),2,16) by kernel_rfl)
 have HP:Hid (zL w b off n X Y):=hp
 have HLEN:Hid ((vA X Y (List.range n)).length=n):=by show _=_;simp [vA]
 clear hp
 have hnl:∀ w,Sem.run Tryz.prog (binOp BinOp.eql 136 (.slice (some ⟨b,off,none⟩) n cap) (.slice none 0 0)) w=.ok (.bool false) w:=fun _=>by kernel_rfl
 go_enter Tryz.func245,Tryz.ntmps245
 go_wp2_with (first
  | (at_builtin;go_must (refine wpList_append_own _ rfl _ _ 136 rfl w.heap.size 206 i0 (.agg #[.int .i64 0,.int .i64 0]) 2 16 Tryz.underlying136 hi hz0 hz1 hz2 rfl (by decide) (.slice (some ⟨w.heap.size,0,none⟩) 0 0) 0 [] rfl (World.ownsRow_lit (base:=w.heap.size) w #[] 0 (Nat.le_refl _) (Nat.zero_le _) rfl) ⟨b,off,none⟩ n cap (vJ (vA X Y (List.range n))) rfl ?c0 ?c1 ?c2 ?c3 ?c4 ?c5 ?_)))
 case c0=>rw [zA5,HLEN.out]
 case c1 =>
  intro q u hq
  have h1:=zI1 (HP.out.below (by exact Qb:Below w.heap.size w (w.alloc (.cells #[] 206))) hbl) q u hq
  by_cases hq0:q=0
  ·subst hq0;simpa [Addr.add] using h1
  ·simpa [Addr.add,hq0] using h1
 case c2 =>
  intro u hu
  unfold vJ at hu
  rw [List.mem_flatMap] at hu
  obtain ⟨p,_,hp⟩:=hu
  simp at hp
  rcases hp with rfl | rfl <;> rfl
 case c3=>unfold maxLen;omega
 case c4=>omega
 case c5=>first | omega | (simp;done) | (simp;omega)
 intro v' w2 hown' hgrow hnil
 clear hnil
 obtain ⟨a,c,hv⟩:∃ a c,v'=.slice a n c:=by
  obtain ⟨_,h2 | ⟨g,cp,cur,hv,_⟩⟩:=hown'
  ·exact ⟨none,0,by have e:=h2.2;have e2:n=0:=(by omega);subst e2;exact h2.1⟩
  ·exact ⟨_,cp,by rw [hv]⟩
 have HB2:Hid (Bw w w2):=((Below.refl _ _).alloc (Nat.le_refl _) _).trans ((Below.refl _ _).grown hgrow (by simp) (fun k hk=>by simp [Value.ownBlock] at hk;omega))
 subst hv
 have HOWN:Hid (Row w.heap.size w2 (.slice a n c) (vA X Y (List.range n))):=by
  show Row _ _ _ _
  unfold Row
  rw [HLEN.out]
  simpa using hown'
 clear hown' hgrow
 go_wp2
 go_ret
 exact ⟨a,c,rfl,HOWN.out,HB2.out⟩
theorem zHg {off:Nat}(id la ki wi:Int)(b n cap:Nat)(X Y:Nat→Int)(lab:ByteArray)(pr:Int)(w:World)(hp:zL w b off n X Y)(hbl:b<w.heap.size)(hn:n≤1048576)(hl:lab.size≤1048576) :
  Calls Tryz.prog 229 #[.agg #[.int .i64 id,.int .i64 la,.int .i64 ki,.int .i64 wi,.slice (some ⟨b,off,none⟩) n cap,.string lab,.int .i64 pr]] w fun e w'=>∃ a c,e=.returned (.agg #[.int .i64 id,.int .i64 la,.int .i64 ki,.int .i64 wi,.slice a n c,.string lab,.int .i64 pr])∧Row w.heap.size w' (.slice a n c) (vA X Y (List.range n))∧Bw w w':=by
 have HP:Hid (zL w b off n X Y):=hp
 clear hp
 go_enter Tryz.func229,Tryz.ntmps229
 go_wp2_with fail
 generalize hW:((w.alloc _).alloc _:World)=W
 have hB0:Bw w W:=by subst hW;exact Qb
 have q0:W.cell? ⟨w.heap.size,0,none⟩=some (.int .i64 id):=by subst hW;simp [go_sem]
 have q1:W.cell? ⟨w.heap.size,1,none⟩=some (.int .i64 la):=by subst hW;simp [go_sem]
 have q2:W.cell? ⟨w.heap.size,2,none⟩=some (.int .i64 ki):=by subst hW;simp [go_sem]
 have q3:W.cell? ⟨w.heap.size,3,none⟩=some (.int .i64 wi):=by subst hW;simp [go_sem]
 have q4:W.cell? ⟨w.heap.size,4,none⟩=some (.slice (some ⟨b,off,none⟩) n cap):=by subst hW;simp [go_sem]
 have q5:W.cell? ⟨w.heap.size,5,none⟩=some (.string lab):=by subst hW;simp [go_sem]
 have q6:W.cell? ⟨w.heap.size,6,none⟩=some (.int .i64 pr):=by subst hW;simp [go_sem]
 have fz:∀ o,W.frozen? ⟨w.heap.size,o,none⟩=false:=fun o=>by subst hW;simp [go_sem]
 have hT:zC W (w.heap.size+1) 7:=fun o ho=>by
  subst hW
  have hc:o=0∨o=1∨o=2∨o=3∨o=4∨o=5∨o=6:=by omega
  rcases hc with rfl | rfl | rfl | rfl | rfl | rfl | rfl <;> exact ⟨⟨_,by simp [go_sem];rfl⟩,by simp [go_sem]⟩
 have hsz:w.heap.size+1<W.heap.size:=by subst hW;simp
 clear hW
 refine (zGf b n cap X Y W (HP.out.below hB0 hbl) (Nat.lt_of_lt_of_le hbl hB0.size) hn).mono ?_
 rintro e w1 ⟨a1,c1,rfl,hR1,hb1⟩
 have HR1:Hid (Row W.heap.size w1 (.slice a1 n c1) (vA X Y (List.range n))):=hR1
 clear hR1
 have hB1:Bw w w1:=zA hB0 hb1
 have p0:=zT hb1 q0
 have p1:=zT hb1 q1
 have p2:=zT hb1 q2
 have p3:=zT hb1 q3
 have p4:=zT hb1 q4
 have p5:=zT hb1 q5
 have p6:=zT hb1 q6
 have f1:w1.frozen? ⟨w.heap.size,4,none⟩=false:=(hb1.frozen (p:=⟨w.heap.size,4,none⟩) (by show w.heap.size<_;omega)).trans (fz 4)
 have f2:w1.frozen? ⟨w.heap.size,5,none⟩=false:=(hb1.frozen (p:=⟨w.heap.size,5,none⟩) (by show w.heap.size<_;omega)).trans (fz 5)
 have hT1:=hT.below hb1
 have hsz1:=hb1.size
 clear q0 q1 q2 q3 q4 q5 q6 fz hT hb1 hB0
 have HT1:Hid (zC w1 (w.heap.size+1) 7):=hT1
 clear hT1
 go_wp2_with fail
 generalize hW2:(w1.setCell _ _:World)=W2
 have g0:W2.cell? ⟨w.heap.size,0,none⟩=some (.int .i64 id):=by subst hW2;rw [zB (by simp)];exact p0
 have g1:W2.cell? ⟨w.heap.size,1,none⟩=some (.int .i64 la):=by subst hW2;rw [zB (by simp)];exact p1
 have g2:W2.cell? ⟨w.heap.size,2,none⟩=some (.int .i64 ki):=by subst hW2;rw [zB (by simp)];exact p2
 have g3:W2.cell? ⟨w.heap.size,3,none⟩=some (.int .i64 wi):=by subst hW2;rw [zB (by simp)];exact p3
 have g4:W2.cell? ⟨w.heap.size,4,none⟩=some (.slice a1 n c1):=by subst hW2;exact zE p4
 have g5:W2.cell? ⟨w.heap.size,5,none⟩=some (.string lab):=by subst hW2;rw [zB (by simp)];exact p5
 have g6:W2.cell? ⟨w.heap.size,6,none⟩=some (.int .i64 pr):=by subst hW2;rw [zB (by simp)];exact p6
 have ff:W2.frozen? ⟨w.heap.size,5,none⟩=false:=by subst hW2;rw [World.frozen?_setCell];exact f2
 have hT2:zC W2 (w.heap.size+1) 7:=fun o ho=>by
  subst hW2
  obtain ⟨u,hu⟩:=(HT1.out o ho).1
  exact ⟨⟨u,by rw [zB (by simp)];exact hu⟩,by rw [World.frozen?_setCell];exact (HT1.out o ho).2⟩
 have hB2:Bw w W2:=by subst hW2;exact hB1.setCell (Nat.le_refl _) _
 have hsz2:w1.heap.size≤W2.heap.size:=by subst hW2;simp [World.setCell]
 have HR2:Hid (Row W.heap.size W2 (.slice a1 n c1) (vA X Y (List.range n))):=by show Row _ _ _ _;subst hW2;exact HR1.out.setB (by omega)
 clear hW2 p0 p1 p2 p3 p4 p5 p6 f1 f2 hB1
 refine (zFh lab W2 hl).mono ?_
 rintro e w3 ⟨rfl,hb3⟩
 have HR3:Hid (Row W.heap.size w3 (.slice a1 n c1) (vA X Y (List.range n))):=HR2.out.below hb3
 have hB3:Bw w w3:=zA hB2 hb3
 have p0:=zT hb3 g0
 have p1:=zT hb3 g1
 have p2:=zT hb3 g2
 have p3:=zT hb3 g3
 have p4:=zT hb3 g4
 have p5:=zT hb3 g5
 have p6:=zT hb3 g6
 have f5:w3.frozen? ⟨w.heap.size,5,none⟩=false:=(hb3.frozen (p:=⟨w.heap.size,5,none⟩) (by show w.heap.size<_;omega)).trans ff
 have hT3:=hT2.below hb3
 have hsz3:=hb3.size
 have t0:=hT3.cell 0 (by omega)
 have t1:=hT3.cell 1 (by omega)
 have t2:=hT3.cell 2 (by omega)
 have t3:=hT3.cell 3 (by omega)
 have t4:=hT3.cell 4 (by omega)
 have t5:=hT3.cell 5 (by omega)
 have t6:=hT3.cell 6 (by omega)
 have z0:=(hT3 0 (by omega)).2
 have z1:=(hT3 1 (by omega)).2
 have z2:=(hT3 2 (by omega)).2
 have z3:=(hT3 3 (by omega)).2
 have z4:=(hT3 4 (by omega)).2
 have z5:=(hT3 5 (by omega)).2
 have z6:=(hT3 6 (by omega)).2
 have HT4:Hid (zC (w3.setCell ⟨w.heap.size,5,none⟩ (.string lab)) (w.heap.size+1) 7):=fun o ho=>by
  obtain ⟨u,hu⟩:=(hT3 o ho).1
  exact ⟨⟨u,by rw [zB (by simp)];exact hu⟩,by rw [World.frozen?_setCell];exact (hT3 o ho).2⟩
 have HB3:Hid (Bw w w3):=hB3
 clear g0 g1 g2 g3 g4 g5 g6 ff hT2 hT3 hB2 hB3 hb3
 go_wp2_with fail
 obtain ⟨y0,y1,y2,y3,y4,y5,y6⟩:=zTe (v0:=.int .i64 id) (v1:=.int .i64 la) (v2:=.int .i64 ki) (v3:=.int .i64 wi) (v4:=.slice a1 n c1) (v5:=.string lab) (v6:=.int .i64 pr) HT4.out
 have key:∀ (T:Array Value) (Wf:World),T[2]?.getD undef=.pointer (some ⟨w.heap.size+1,0,none⟩)→Wf.cell? ⟨w.heap.size+1,0,none⟩=some (.int .i64 id)→Wf.cell? ⟨w.heap.size+1,1,none⟩=some (.int .i64 la)→Wf.cell? ⟨w.heap.size+1,2,none⟩=some (.int .i64 ki)→Wf.cell? ⟨w.heap.size+1,3,none⟩=some (.int .i64 wi)→Wf.cell? ⟨w.heap.size+1,4,none⟩=some (.slice a1 n c1)→Wf.cell? ⟨w.heap.size+1,5,none⟩=some (.string lab)→Wf.cell? ⟨w.heap.size+1,6,none⟩=some (.int .i64 pr) →
   (results Tryz.f229 T).run Tryz.prog Wf=.ok (.agg #[.int .i64 id,.int .i64 la,.int .i64 ki,.int .i64 wi,.slice a1 n c1,.string lab,.int .i64 pr]) Wf:=fun T Wf hT h0 h1 h2 h3 h4 h5 h6=>by
  simp [results,Tryz.results229,go_sem,hT,h0,h1,h2,h3,h4,h5,h6]
 refine bodyPost_ret (key _ _ rfl y0 y1 y2 y3 y4 y5 y6) rfl ⟨a1,c1,rfl,?_,?_⟩
 ·exact ((((((((((HR3.out.setB (by omega)).setB (by omega)).setB (by omega)).setB (by omega)).setB (by omega)).setB (by omega)).setB (by omega)).setB (by omega)).wideB (by omega)))
 ·exact ((((((((HB3.out.setCell (Nat.le_refl _) _).setCell (Nat.le_succ _) _).setCell (Nat.le_succ _) _).setCell (Nat.le_succ _) _).setCell (Nat.le_succ _) _).setCell (Nat.le_succ _) _).setCell (Nat.le_succ _) _).setCell (Nat.le_succ _) _)

end Go.Proofs.YtkjbafcalamgnaaGreat
