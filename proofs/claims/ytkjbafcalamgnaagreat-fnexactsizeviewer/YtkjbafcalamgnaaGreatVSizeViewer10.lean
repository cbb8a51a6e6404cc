/- Texts. -/
import Derived.Test.YtkjbafcalamgnaaGreatVSizeViewer5
set_option linter.unusedSimpArgs false
set_option linter.unusedVariables false
set_option maxRecDepth 100000
set_option maxHeartbeats 32000000
namespace Go.Proofs.YtkjbafcalamgnaaGreat
open Go.RowKit
theorem zW6 (px py ax ay bx by':Int):xZ px py bx by'=xZ px py ax ay - 2 * vH px py ax ay bx by'+xZ ax ay bx by':=by
 unfold xZ vH;grind
theorem zWl (px py ax ay bx by':Int):yT ax ay bx by' px py * yT ax ay bx by' px py+vH px py ax ay bx by' * vH px py ax ay bx by'=xZ ax ay bx by' * xZ px py ax ay:=by
 unfold yT vH xZ;grind
theorem zPr (ax ay bx by':Int):0≤xZ ax ay bx by':=by
 have s1:=zA5 (bx - ax)
 have s2:=zA5 (by' - ay)
 unfold xZ;omega
theorem zT3 {px py ax ay bx by' r:Int}(h:xZ px py ax ay≤r * r):zEa px py ax ay bx by' r=true:=by
 have hs:=zPr ax ay bx by'
 have hv:=zW6 px py ax ay bx by'
 have hl:=zWl px py ax ay bx by'
 have hq:=zA5 (vH px py ax ay bx by')
 apply decide_eq_true
 unfold zE0 uG
 by_cases c1:vH px py ax ay bx by'≤0
 ·simp only [c1,if_true];omega
 ·by_cases c2:xZ ax ay bx by'≤vH px py ax ay bx by'
  ·simp only [c1,c2,if_true,if_false];omega
  ·simp only [c1,c2,if_false]
   have h3:xZ ax ay bx by' * xZ px py ax ay≤xZ ax ay bx by' * (r * r):=Int.mul_le_mul_of_nonneg_left h hs
   rw [Int.mul_comm (r * r)]
   omega
def xF (px py:Int)(n:Nat)(X Y:Nat→Int):Bool:=okP px py && (decide (3≤n) && (decide (n≤40) && (zN0 n X Y && uM (uY px py n X Y) n)))
def zBz (n k:Nat):Nat:=if k=0 then n - 1 else k - 1
def zCr (px py:Int)(n:Nat)(X Y:Nat→Int)(i:Nat):Bool:=xG px py (X (zBz n i)) (Y (zBz n i)) (X i) (Y i)
theorem zWd (px py:Int)(n:Nat)(X Y:Nat→Int)(hn:0<n):uM (zCr px py n X Y) n=uM (uY px py n X Y) n:=by
 refine zRs _ _ n ?_ (fun i hi=>?_) hn
 ·have e:n - 1+1=n:=by omega
  simp [zCr,uY,zBz,e,Nat.mod_self]
 ·simp [zCr,uY,zBz,Nat.mod_eq_of_lt hi]
theorem zE6 (px py:Int)(a:Option Addr)(n cap:Nat)(X Y:Nat→Int)(w:World)(hn:n<3) :
  Calls Tryz.prog 251 #[.agg #[.int .i64 px,.int .i64 py],.slice a n cap] w fun e w'=>e=.returned (.bool (xF px py n X Y))∧Bw w w':=by
 have HE:Hid (xF px py n X Y=false):=by
  show _=_
  have:¬ 3≤n:=by omega
  simp [xF,this]
 have hni:(n:Int)<3:=by omega
 go_enter Tryz.func251,Tryz.ntmps251
 go_wp2
 go_ret
 exact ⟨zG HE.out.symm,Qb⟩
theorem zEk (px py:Int)(a:Option Addr)(n cap:Nat)(X Y:Nat→Int)(w:World)(hn:40<n)(hmax:n≤1048576) :
  Calls Tryz.prog 251 #[.agg #[.int .i64 px,.int .i64 py],.slice a n cap] w fun e w'=>e=.returned (.bool (xF px py n X Y))∧Bw w w':=by
 have HE:Hid (xF px py n X Y=false):=by
  show _=_
  have:¬ n≤40:=by omega
  simp [xF,this]
 have hni:(40:Int)<(n:Int):=by omega
 have hn3:decide ((n:Int)<3)=false:=by simp;omega
 go_enter Tryz.func251,Tryz.ntmps251
 go_wp2
 go_ret
 exact ⟨zG HE.out.symm,Qb⟩
theorem zHm (px py:Int)(b n cap:Nat)(X Y:Nat→Int)(w:World)(hp:okP px py=false)(h3:3≤n)(h40:n≤40) :
  Calls Tryz.prog 251 #[.agg #[.int .i64 px,.int .i64 py],.slice (some ⟨b,0,none⟩) n cap] w fun e w'=>e=.returned (.bool (xF px py n X Y))∧Bw w w':=by
 have HE:Hid (xF px py n X Y=false):=by show _=_;simp [xF,hp]
 have k1:=zQn hp
 have hn3:decide ((n:Int)<3)=false:=by simp;omega
 have hn40:decide ((40:Int)<(n:Int))=false:=by simp;omega
 clear hp
 go_enter Tryz.func251,Tryz.ntmps251
 go_wp2_with (go_at_call 264;refine (vI _ _ _).mono ?_;rintro e w' ⟨rfl,hb⟩)
 go_ret
 exact ⟨zG HE.out.symm,Qb⟩
theorem zE7 (px py:Int)(b n cap:Nat)(X Y:Nat→Int)(w:World)(hp:okP px py=true)(hpt:zL w b 0 n X Y)(hbl:b<w.heap.size)(hcap:n≤cap)(h3:3≤n)(h40:n≤40)(hall:zN0 n X Y=false) :
  Calls Tryz.prog 251 #[.agg #[.int .i64 px,.int .i64 py],.slice (some ⟨b,0,none⟩) n cap] w fun e w'=>e=.returned (.bool (xF px py n X Y))∧Bw w w':=by
 have HE:Hid (xF px py n X Y=false):=by show _=_;simp [xF,hall]
 have hN:zEq n X Y=3:=by simp [zEq,hall]
 have HQ:Hid (zL w b 0 n X Y):=hpt
 have k1:=zLq hp
 have hn3:decide ((n:Int)<3)=false:=by simp;omega
 have hn40:decide ((40:Int)<(n:Int))=false:=by simp;omega
 clear hp hpt hall
 go_enter Tryz.func251,Tryz.ntmps251
 go_wp2_with fail
 refine (vI _ _ _).mono ?_
 rintro e w1 ⟨rfl,hb1⟩
 have hB1:Bw w w1:=by exact Qb
 have HQ1:Hid (zL w1 b 0 n X Y):=HQ.out.below hB1 hbl
 have hbl1:b<w1.heap.size:=Nat.lt_of_lt_of_le hbl hB1.size
 have HB1:Hid (Bw w w1):=hB1
 clear hB1 hb1
 go_wp2_with (go_at_call 265;refine (zDq _ _ _ _ X Y _ HQ1.out hbl1 hcap (by omega)).mono ?_;rintro e w2 ⟨rfl,hb2⟩)
 go_ret
 exact ⟨zG HE.out.symm,zA HB1.out hb2⟩
theorem zEj (px py:Int)(b n cap:Nat)(X Y:Nat→Int)(w:World)(hp:okP px py=true)(hpt:zL w b 0 n X Y)(hbl:b<w.heap.size)(hcap:n≤cap)(h3:3≤n)(h40:n≤40)(hall:zN0 n X Y=true) :
  Calls Tryz.prog 251 #[.agg #[.int .i64 px,.int .i64 py],.slice (some ⟨b,0,none⟩) n cap] w fun e w'=>e=.returned (.bool (xF px py n X Y))∧Bw w w':=by
 have HE:Hid (xF px py n X Y=uM (zCr px py n X Y) n):=by
  show _=_
  rw [zWd px py n X Y (by omega)]
  simp [xF,hall,hp,h3,h40]
 have hN:zEq n X Y=0:=by simp [zEq,hall]
 have HP:Hid (okP px py=true):=hp
 have HQ:Hid (zL w b 0 n X Y):=hpt
 have HO:Hid (∀ i,i<n→okP (X i) (Y i)=true):=by
  show ∀ i,i<n→okP (X i) (Y i)=true
  exact of_decide_eq_true hall
 have k1:=zLq hp
 have hn3:decide ((n:Int)<3)=false:=by simp;omega
 have hn40:decide ((40:Int)<(n:Int))=false:=by simp;omega
 clear hp hpt hall
 go_enter Tryz.func251,Tryz.ntmps251
 go_wp2_with fail
 generalize hW:(w.alloc _:World)=W
 have hB0:Bw w W:=by subst hW;exact Qb
 have c00:∀ W',Bw W W'→W'.cell? ⟨w.heap.size,0,none⟩=some (.int .i64 px):=Qc hW
 have c01:∀ W',Bw W W'→W'.cell? ⟨w.heap.size,1,none⟩=some (.int .i64 py):=Qc hW
 clear hW
 have HB0:Hid (Bw w W):=hB0
 have HQ1:Hid (zL W b 0 n X Y):=HQ.out.below hB0 hbl
 have hblW:b<W.heap.size:=Nat.lt_of_lt_of_le hbl hB0.size
 clear hB0 HQ hbl
 refine (vI _ _ _).mono ?_
 rintro e w1 ⟨rfl,hb1⟩
 have HQ2:Hid (zL w1 b 0 n X Y):=HQ1.out.below hb1 hblW
 have hbl1:b<w1.heap.size:=Nat.lt_of_lt_of_le hblW hb1.size
 go_wp2_with fail
 refine (zDq _ _ _ _ X Y _ HQ2.out hbl1 hcap (by omega)).mono ?_
 rintro e w2 ⟨rfl,hb2⟩
 have hB2:Bw W w2:=zA hb1 hb2
 have hwr:IntKind.i64.wrap ((n:Int) - 1)=(n:Int) - 1:=IntWalk.i64_in _ (by omega)
 have hi1:(0:Int)≤(n:Int) - 1:=by omega
 have hi2:(n:Int) - 1<(n:Int):=by omega
 have hti:((n:Int) - 1).toNat=n - 1:=by omega
 obtain ⟨hx,hy⟩:=(HQ1.out.below hB2 hblW) (n - 1) (by omega)
 simp only [Nat.zero_add] at hx hy
 clear hb1 hb2 HQ2
 go_wp2_with fail
 refine (zA7 _ _ _).mono ?_
 rintro e w3 ⟨rfl,hb3⟩
 have hB3:Bw W w3:=zA hB2 hb3
 clear hx hy hB2 hb3
 have HQ3:Hid (zL w3 b 0 n X Y):=HQ1.out.below hB3 hblW
 have hbl3:b<w3.heap.size:=Nat.lt_of_lt_of_le hblW hB3.size
 replace c00:=fun W' (h:Below w3.heap.size w3 W')=>c00 W' (zA hB3 h)
 replace c01:=fun W' (h:Below w3.heap.size w3 W')=>c01 W' (zA hB3 h)
 have HB3:Hid (Bw w w3):=zA HB0.out hB3
 clear hB3 HB0 HQ1 hblW hbl1 hwr hi1 hi2 hti hN k1
 go_wp2
 go_loopw [5,35] (fun q i wr=>∃ k:Nat,k≤n∧i=.int .i64 k∧q=.bool (uM (zCr px py n X Y) k)∧Bw w3 wr∧wr.cell? ⟨w3.heap.size,0,none⟩=some (.int .i64 (X (zBz n k)))∧wr.cell? ⟨w3.heap.size,1,none⟩=some (.int .i64 (Y (zBz n k)))∧wr.frozen? ⟨w3.heap.size,0,none⟩=false∧wr.frozen? ⟨w3.heap.size,1,none⟩=false) (fun _ i _=>n - (intOf i).toNat)
 case atStart=>exact ⟨0,by omega,rfl,rfl,Qb,by simp [go_sem,zBz],by simp [go_sem,zBz],by simp [go_sem],by simp [go_sem]⟩
 case round =>
  obtain ⟨k,hk,rfl,rfl,hB,f0,f1,z0,z1⟩:=hrel
  by_cases hlt:k<n
  ·obtain ⟨hx,hy⟩:=(HQ3.out.below hB hbl3) k hlt
   simp only [Nat.zero_add] at hx hy
   have hFl:w3.heap.size<wr.heap.size:=World.block_lt_of_cell? _ _ f0
   have HK1:Hid (okP (X (zBz n k)) (Y (zBz n k))=true):=HO.out _ (by unfold zBz;split <;> omega)
   have HK2:Hid (okP (X k) (Y k)=true):=HO.out k hlt
   have hodd:Hid (uM (zCr px py n X Y) (k+1)=if zCr px py n X Y k=true then !(uM (zCr px py n X Y) k) else uM (zCr px py n X Y) k):=rfl
   have HS:Hid (zCr px py n X Y k=xG px py (X (zBz n k)) (Y (zBz n k)) (X k) (Y k)):=rfl
   have hprev:zBz n (k+1)=k:=by simp [zBz]
   have HV:Hid (zBz n (k+1)=k):=hprev
   clear hprev
   have hi:(k:Int)<(n:Int):=by omega
   generalize hXp:X (zBz n k)=xp at *
   generalize hYp:Y (zBz n k)=yp at *
   clear hXp hYp
   have F0:Hid (wr.cell? ⟨w3.heap.size,0,none⟩=some (.int .i64 xp)):=f0
   have F1:Hid (wr.cell? ⟨w3.heap.size,1,none⟩=some (.int .i64 yp)):=f1
   have Z0:Hid (wr.frozen? ⟨w3.heap.size,0,none⟩=false):=z0
   have Z1:Hid (wr.frozen? ⟨w3.heap.size,1,none⟩=false):=z1
   have HB:Hid (Bw w3 wr):=hB
   clear f0 f1 z0 z1 hB
   go_wp2_with fail
   refine (zA7 _ _ _).mono ?_
   rintro e w4 ⟨rfl,hb4⟩
   have hB4:Bw wr w4:=by exact Qb
   clear hb4 hx hy
   go_wp2
   generalize hV:(w4.alloc _:World)=V
   have hBV:Bw wr V:=by subst hV;exact Qb
   have t0:∀ W',Bw V W'→W'.cell? ⟨w4.heap.size,0,none⟩=some (.int .i64 (X k)):=Qc hV
   have t1:∀ W',Bw V W'→W'.cell? ⟨w4.heap.size,1,none⟩=some (.int .i64 (Y k)):=Qc hV
   have f0:∀ W',Bw V W'→W'.cell? ⟨w3.heap.size,0,none⟩=some (.int .i64 xp):=fun W' h=>((zA hBV h).cell (p:=⟨w3.heap.size,0,none⟩) hFl).trans F0.out
   have f1:∀ W',Bw V W'→W'.cell? ⟨w3.heap.size,1,none⟩=some (.int .i64 yp):=fun W' h=>((zA hBV h).cell (p:=⟨w3.heap.size,1,none⟩) hFl).trans F1.out
   have z0:∀ W',Bw V W'→W'.frozen? ⟨w3.heap.size,0,none⟩=false:=fun W' h=>((zA hBV h).frozen (p:=⟨w3.heap.size,0,none⟩) hFl).trans Z0.out
   have z1:∀ W',Bw V W'→W'.frozen? ⟨w3.heap.size,1,none⟩=false:=fun W' h=>((zA hBV h).frozen (p:=⟨w3.heap.size,1,none⟩) hFl).trans Z1.out
   have hBV3:Bw w3 V:=zA HB.out hBV
   replace c00:=fun W' (h:Below V.heap.size V W')=>c00 W' (zA hBV3 h)
   replace c01:=fun W' (h:Below V.heap.size V W')=>c01 W' (zA hBV3 h)
   have HBV3:Hid (Bw w3 V):=hBV3
   clear hV hBV hBV3 hB4
   cases hsv:xG px py xp yp (X k) (Y k)
   all_goals
    go_region_held3 (fun W'=>Bw V W') ((repeat (first|exact Qr _ _|assumption|refine Qd ?_|refine Qa ?_ _|refine Qt ?_|refine Qs ?_ _|refine Qo ?_ ?_ _ _)))
     (first
      | (go_at_call 266;refine (zA7 _ _ _).mono ?_;rintro e w' ⟨rfl,hb⟩)
      | (go_at_call 267;refine (zLa _ _ _ _ _ _ _ HP.out HK1.out HK2.out).mono ?_;rintro e w' ⟨rfl,hb⟩))
    rename_i hfin
    go_wp2
    go_roundw
    case rel =>
     refine ⟨k+1,by omega,by go_num,congrArg Value.bool (by rw [hodd.out,HS.out,hsv];rfl),?_,?_,?_,?_,?_⟩
     ·have hG:=zA HBV3.out hfin
      exact (hG.setCell (Nat.le_refl _) _).setCell (Nat.le_refl _) _
     ·rw [HV.out]
      exact zX0 (Option.isSome_iff_exists.2 ⟨_,f0 _ hfin⟩)
     ·rw [HV.out]
      exact zXz (Option.isSome_iff_exists.2 ⟨_,f1 _ hfin⟩)
     ·simp [World.frozen?_setCell,z0 _ hfin]
     ·simp [World.frozen?_setCell,z1 _ hfin]
    case measure=>simp [intOf];omega
  ·go_wp2
   go_ret
   have hkn:k=n:=by omega
   subst hkn
   exact ⟨zG HE.out.symm,zA HB3.out hB⟩
theorem zE8 (px py:Int)(b n cap:Nat)(X Y:Nat→Int)(w:World)(hpt:zL w b 0 n X Y)(hbl:b<w.heap.size)(hcap:n≤cap)(hmax:n≤1048576) :
  Calls Tryz.prog 251 #[.agg #[.int .i64 px,.int .i64 py],.slice (some ⟨b,0,none⟩) n cap] w fun e w'=>e=.returned (.bool (xF px py n X Y))∧Bw w w':=by
 by_cases h3:n<3
 ·exact zE6 _ _ _ _ _ _ _ _ h3
 by_cases h40:40<n
 ·exact zEk _ _ _ _ _ _ _ _ h40 hmax
 cases hp:okP px py
 ·exact zHm _ _ _ _ _ _ _ _ hp (by omega) (by omega)
 cases ha:zN0 n X Y
 ·exact zE7 _ _ _ _ _ _ _ _ hp hpt hbl hcap (by omega) (by omega) ha
 ·exact zEj _ _ _ _ _ _ _ _ hp hpt hbl hcap (by omega) (by omega) ha
end Go.Proofs.YtkjbafcalamgnaaGreat
