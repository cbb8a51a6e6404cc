/- Texts. -/
import Derived.Test.YtpaiholildedcaaGreatVFrameOf8
import Derived.Test.YtpaiholildedcaaGreatVFrameOf7
set_option linter.unusedSimpArgs false
set_option linter.unusedVariables false
set_option maxRecDepth 100000
set_option maxHeartbeats 32000000
namespace Go.Proofs.YtpaiholildedcaaGreat
open Go.RowKit
theorem vP (v lo hi:Int)(w:World):Calls Tryz.prog 32 #[.int .i64 v,.int .i64 lo,.int .i64 hi] w fun e w'=>e=.returned (.bool (inB v lo hi))∧w=w':=(zS v lo hi w).mono fun e w' ⟨he,hw⟩=>⟨he,hw.symm⟩
theorem zA9 (ki n:Int)(w:World):Calls Tryz.prog 253 #[.int .i64 ki,.int .i64 n] w fun e w'=>e=.returned (.bool (xK ki n))∧w=w':=(zLo ki n w).mono fun e w' ⟨he,hw⟩=>⟨he,hw.symm⟩
theorem zN (v lo hi:Int)(w:World):Calls Tryz.prog 62 #[.int .i64 v,.int .i64 lo,.int .i64 hi] w fun e w'=>e=.returned (.bool (inB v lo hi))∧w=w':=(zM v lo hi w).mono fun e w' ⟨he,hw⟩=>⟨he,hw.symm⟩
def uC (w:World)(p o:Nat)(id la ki wi:Int)(pts:Value)(lab:ByteArray)(pr:Int):Prop :=
 w.cell? ⟨p,o,none⟩=some (.int .i64 id)∧w.cell? ⟨p,o+1,none⟩=some (.int .i64 la)∧w.cell? ⟨p,o+2,none⟩=some (.int .i64 ki)∧w.cell? ⟨p,o+3,none⟩=some (.int .i64 wi) ∧
 w.cell? ⟨p,o+4,none⟩=some pts∧w.cell? ⟨p,o+5,none⟩=some (.string lab)∧w.cell? ⟨p,o+6,none⟩=some (.int .i64 pr)
theorem uC.below {w w':World}{p o B:Nat}{id la ki wi pr:Int}{pts:Value}{lab:ByteArray}(h:uC w p o id la ki wi pts lab pr)(hb:Below B w w')(hp:p<B):uC w' p o id la ki wi pts lab pr:=by
 obtain ⟨h0,h1,h2,h3,h4,h5,h6⟩:=h
 refine ⟨(hb.cell (p:=⟨p,o,none⟩) hp).trans h0,(hb.cell (p:=⟨p,o+1,none⟩) hp).trans h1,(hb.cell (p:=⟨p,o+2,none⟩) hp).trans h2,(hb.cell (p:=⟨p,o+3,none⟩) hp).trans h3,(hb.cell (p:=⟨p,o+4,none⟩) hp).trans h4,(hb.cell (p:=⟨p,o+5,none⟩) hp).trans h5,(hb.cell (p:=⟨p,o+6,none⟩) hp).trans h6⟩
def zIs (n:Nat)(X Y:Nat→Int):Bool:=decide (∀ i,i<n→inW (X i) (Y i)=true)
def zA6 (id la ki wi pr:Int):Bool:=inB id 1 999 && (inB la 0 9 && (inB ki 1 3 && (inB wi 0 3 && inB pr 0 9)))
def zH (id la ki wi:Int)(n:Nat)(X Y:Nat→Int)(lab:ByteArray)(pr:Int):Int :=
 if zA6 id la ki wi pr=true then (if xK ki n=true then (if zIs n X Y=true then (if zGd lab=true then 0 else 5) else 3) else 2) else 3
theorem uV {n:Nat}{X Y:Nat→Int}(k:Nat)(hk:k<n)(h:inW (X k) (Y k)=false):zIs n X Y=false:=by
 unfold zIs
 rw [decide_eq_false]
 intro hc
 have:=hc k hk
 rw [h] at this;cases this
theorem zI4 (p o:Nat)(id la ki wi:Int)(a:Option Addr)(n cap:Nat)(X Y:Nat→Int)(lab:ByteArray)(pr:Int)(w:World)(hf:uC w p o id la ki wi (.slice a n cap) lab pr)(hpt:xQ w a n X Y)(hl:lab.size≤1048576)(hn:n≤1048576) :
  Calls Tryz.prog 220 #[.pointer (some ⟨p,o,none⟩)] w fun e w'=>e=.returned (.int .i64 (zH id la ki wi n X Y lab pr))∧Bw w w':=by
 have hpl:p<w.heap.size:=World.block_lt_of_cell? _ _ hf.1
 have c0:∀ W',Bw w W'→W'.cell? ⟨p,o,none⟩=some (.int .i64 id):=fun W' h=>(hf.below h hpl).1
 have c1:∀ W',Bw w W'→W'.cell? ⟨p,o+1,none⟩=some (.int .i64 la):=fun W' h=>(hf.below h hpl).2.1
 have c2:∀ W',Bw w W'→W'.cell? ⟨p,o+2,none⟩=some (.int .i64 ki):=fun W' h=>(hf.below h hpl).2.2.1
 have c3:∀ W',Bw w W'→W'.cell? ⟨p,o+3,none⟩=some (.int .i64 wi):=fun W' h=>(hf.below h hpl).2.2.2.1
 have c4:∀ W',Bw w W'→W'.cell? ⟨p,o+4,none⟩=some (.slice a n cap):=fun W' h=>(hf.below h hpl).2.2.2.2.1
 have c5:∀ W',Bw w W'→W'.cell? ⟨p,o+5,none⟩=some (.string lab):=fun W' h=>(hf.below h hpl).2.2.2.2.2.1
 have c6:∀ W',Bw w W'→W'.cell? ⟨p,o+6,none⟩=some (.int .i64 pr):=fun W' h=>(hf.below h hpl).2.2.2.2.2.2
 obtain ⟨h0,h1,h2,h3,h4,h5,h6⟩:=hf
 have HP:Hid (xQ w a n X Y):=hpt
 clear hpt
 cases e0:inB id 1 999
 ·have hz:Hid (zH id la ki wi n X Y lab pr=3):=by show _=_;simp [zH,zA6,e0]
  go_enter Tryz.func220,Tryz.ntmps220
  go_wp2_with (go_at_call 32;refine (vP _ _ _ _).mono ?_;rintro e w' ⟨rfl,rfl⟩)
  go_ret
  exact ⟨zD hz.out.symm,Qb⟩
 cases e1:inB la 0 9
 ·have hz:Hid (zH id la ki wi n X Y lab pr=3):=by show _=_;simp [zH,zA6,e0,e1]
  go_enter Tryz.func220,Tryz.ntmps220
  go_wp2_with (go_at_call 32;refine (vP _ _ _ _).mono ?_;rintro e w' ⟨rfl,rfl⟩)
  go_ret
  exact ⟨zD hz.out.symm,Qb⟩
 cases e2:inB ki 1 3
 ·have hz:Hid (zH id la ki wi n X Y lab pr=3):=by show _=_;simp [zH,zA6,e0,e1,e2]
  go_enter Tryz.func220,Tryz.ntmps220
  go_wp2_with (go_at_call 32;refine (vP _ _ _ _).mono ?_;rintro e w' ⟨rfl,rfl⟩)
  go_ret
  exact ⟨zD hz.out.symm,Qb⟩
 cases e3:inB wi 0 3
 ·have hz:Hid (zH id la ki wi n X Y lab pr=3):=by show _=_;simp [zH,zA6,e0,e1,e2,e3]
  go_enter Tryz.func220,Tryz.ntmps220
  go_wp2_with (go_at_call 32;refine (vP _ _ _ _).mono ?_;rintro e w' ⟨rfl,rfl⟩)
  go_ret
  exact ⟨zD hz.out.symm,Qb⟩
 cases e4:inB pr 0 9
 ·have hz:Hid (zH id la ki wi n X Y lab pr=3):=by show _=_;simp [zH,zA6,e0,e1,e2,e3,e4]
  go_enter Tryz.func220,Tryz.ntmps220
  go_wp2_with (go_at_call 32;refine (vP _ _ _ _).mono ?_;rintro e w' ⟨rfl,rfl⟩)
  go_ret
  exact ⟨zD hz.out.symm,Qb⟩
 have hr:Hid (zA6 id la ki wi pr=true):=by show _=_;simp [zA6,e0,e1,e2,e3,e4]
 cases e5:xK ki n
 ·have hz:Hid (zH id la ki wi n X Y lab pr=2):=by show _=_;simp [zH,hr.out,e5]
  go_enter Tryz.func220,Tryz.ntmps220
  go_wp2_with (first | (go_at_call 32;refine (vP _ _ _ _).mono ?_;rintro e w' ⟨rfl,rfl⟩) | (go_at_call 253;refine (zA9 _ _ _).mono ?_;rintro e w' ⟨rfl,rfl⟩))
  go_region_held3 (fun W'=>Bw w W') ((repeat (first|exact Qr _ _|assumption|refine Qd ?_|refine Qa ?_ _|refine Qt ?_|refine Qs ?_ _|refine Qo ?_ ?_ _ _)))
   (first | (go_at_call 253;refine (zA9 _ _ _).mono ?_;rintro e w' ⟨rfl,rfl⟩))
  go_wp2
  go_ret
  exact ⟨zD hz.out.symm,Qb⟩
 go_enter Tryz.func220,Tryz.ntmps220
 go_wp2_with (first | (go_at_call 32;refine (vP _ _ _ _).mono ?_;rintro e w' ⟨rfl,rfl⟩) | (go_at_call 253;refine (zA9 _ _ _).mono ?_;rintro e w' ⟨rfl,rfl⟩))
 go_region_held3 (fun W'=>Bw w W') ((repeat (first|exact Qr _ _|assumption|refine Qd ?_|refine Qa ?_ _|refine Qt ?_|refine Qs ?_ _|refine Qo ?_ ?_ _ _)))
  (first | (go_at_call 253;refine (zA9 _ _ _).mono ?_;rintro e w' ⟨rfl,rfl⟩))
 go_wp2
 go_loopw [3] (fun i wr=>∃ k:Nat,k≤n∧i=.int .i64 k∧(∀ j,j<k→inW (X j) (Y j)=true)∧Bw w wr) (fun i _=>n - (intOf i).toNat)
 case atStart=>exact ⟨0,by omega,rfl,by omega,(Below.refl _ _).drew⟩
 case round =>
  obtain ⟨k,hk,rfl,hA,hB⟩:=hrel
  have HA:Hid (∀ j,j<k→inW (X j) (Y j)=true):=hA
  have HB:Hid (Bw w wr):=hB
  clear h0 h1 h2 h3 h4 h5 h6 c0 c1 c2 c3 c6 hA
  by_cases hlt:k<n
  ·rcases HP.out with hz | ⟨b,off,rfl,hbl,hpt⟩
   ·omega
   have hi:(k:Int)<(n:Int):=by omega
   have hi0:(0:Int)≤(k:Int):=by omega
   have d4:∀ W',Bw wr W'→W'.cell? ⟨p,o+4,none⟩=some (.slice (some ⟨b,off,none⟩) n cap):=fun W' h=>c4 W' (hB.trans (h.mono hB.size))
   have dx:∀ W',Bw wr W'→W'.cell? ⟨b,off+k * 2,none⟩=some (.int .i64 (X k)):=fun W' h=>(hpt.below (hB.trans (h.mono hB.size)) hbl k hlt).1
   have dy:∀ W',Bw wr W'→W'.cell? ⟨b,off+k * 2+1,none⟩=some (.int .i64 (Y k)):=fun W' h=>(hpt.below (hB.trans (h.mono hB.size)) hbl k hlt).2
   clear c4 c5 hB hpt
   have hr0:Bw wr wr:=Below.refl _ _
   cases ex:inB (X k) 0 1024
   ·have hz:Hid (zH id la ki wi n X Y lab pr=3):=by show _=_;simp [zH,hr.out,e5,uV k hlt (show inW (X k) (Y k)=false by simp [inW,ex])]
    go_wp2_with (go_at_call 32;refine (vP _ _ _ _).mono ?_;rintro e w' ⟨rfl,rfl⟩)
    go_ret
    exact ⟨zD hz.out.symm,HB.out⟩
   cases ey:inB (Y k) 0 1024
   ·have hz:Hid (zH id la ki wi n X Y lab pr=3):=by show _=_;simp [zH,hr.out,e5,uV k hlt (show inW (X k) (Y k)=false by simp [inW,ex,ey])]
    go_wp2_with (go_at_call 32;refine (vP _ _ _ _).mono ?_;rintro e w' ⟨rfl,rfl⟩)
    go_ret
    exact ⟨zD hz.out.symm,HB.out⟩
   have HI:Hid (inW (X k) (Y k)=true):=by show _=_;simp [inW,ex,ey]
   go_wp2_with (go_at_call 32;refine (vP _ _ _ _).mono ?_;rintro e w' ⟨rfl,rfl⟩)
   go_roundw
   case rel=>exact ⟨k+1,by omega,by go_num,fun j hj=>by
     by_cases e:j=k
     ·rw [e];exact HI.out
     ·exact HA.out j (by omega),HB.out⟩
   case measure=>simp [intOf];omega
  ·have hz:Hid (zH id la ki wi n X Y lab pr=if zGd lab=true then 0 else 5):=by
    show _=_
    have:zIs n X Y=true:=decide_eq_true (fun i hi=>HA.out i (by omega))
    simp [zH,hr.out,e5,this]
   have d4:=c4 wr hB
   have d5:=c5 wr hB
   clear c4 c5
   cases el:zGd lab
   all_goals
    go_wp2_with (go_at_call 254;refine (zI3 _ _ hl).mono ?_;rintro e w' ⟨rfl,hb⟩)
    go_ret
    exact ⟨zD (by rw [hz.out];simp [el]),zA HB.out hb⟩
theorem zOq {px py ax ay bx by':Int}(ha:okP ax ay=true)(hb:okP bx by'=true):0≤xO px py ax ay bx by'∧xO px py ax ay bx by'≤52428800:=by
 obtain ⟨d1,d2⟩:=zN7 ha hb
 unfold xO
 split
 ·omega
 ·split <;> omega
theorem zEz {px py ax ay bx by' r:Int}(h:r<0∨4096<r):zP px py ax ay bx by' r=false:=by
 have hr:inB r 0 4096=false:=by
  rcases h with h | h <;> simp [inB] <;> omega
 simp [zP,hr]
theorem zDf (px py ax ay bx by' r:Int)(w:World)(h:r<0) :
  Calls Tryz.prog 294 #[.agg #[.int .i64 px,.int .i64 py],.agg #[.int .i64 ax,.int .i64 ay],.agg #[.int .i64 bx,.int .i64 by'],.int .i64 r] w fun e w'=>e=.returned (.bool (zP px py ax ay bx by' r))∧Bw w w':=by
 have HE:Hid _:=zEz (px:=px) (py:=py) (ax:=ax) (ay:=ay) (bx:=bx) (by':=by') (.inl h)
 go_enter Tryz.func294,Tryz.ntmps294
 go_wp2
 go_ret
 exact ⟨zF HE.out.symm,Qb⟩
theorem zDg (px py ax ay bx by' r:Int)(w:World)(h:4096<r) :
  Calls Tryz.prog 294 #[.agg #[.int .i64 px,.int .i64 py],.agg #[.int .i64 ax,.int .i64 ay],.agg #[.int .i64 bx,.int .i64 by'],.int .i64 r] w fun e w'=>e=.returned (.bool (zP px py ax ay bx by' r))∧Bw w w':=by
 have HE:Hid _:=zEz (px:=px) (py:=py) (ax:=ax) (ay:=ay) (bx:=bx) (by':=by') (.inr h)
 have h2:decide (r<0)=false:=by simp;omega
 go_enter Tryz.func294,Tryz.ntmps294
 go_wp2
 go_ret
 exact ⟨zF HE.out.symm,Qb⟩
theorem zF1 (px py ax ay bx by' r:Int)(w:World)(hr0:0≤r)(hr1:r≤4096)(h:okP px py=false) :
  Calls Tryz.prog 294 #[.agg #[.int .i64 px,.int .i64 py],.agg #[.int .i64 ax,.int .i64 ay],.agg #[.int .i64 bx,.int .i64 by'],.int .i64 r] w fun e w'=>e=.returned (.bool (zP px py ax ay bx by' r))∧Bw w w':=by
 have HN:Hid _:=zPv px py ax ay bx by' h
 have HE:Hid (zP px py ax ay bx by' r=false):=by
  show _=_
  simp [zP,h]
 clear h
 go_enter Tryz.func294,Tryz.ntmps294
 go_wp2_with fail
 generalize hV:((((w.alloc _).alloc _).alloc _).alloc _:World)=V
 have hB0:Bw w V:=by subst hV;exact Qb
 have g0:V.cell? ⟨w.heap.size+1+1+1,0,none⟩=some (.int .i64 px):=by subst hV;simp [go_sem]
 have g1:V.cell? ⟨w.heap.size+1+1+1,1,none⟩=some (.int .i64 py):=by subst hV;simp [go_sem]
 have g2:V.cell? ⟨w.heap.size+1+1+1,2,none⟩=some (.int .i64 ax):=by subst hV;simp [go_sem]
 have g3:V.cell? ⟨w.heap.size+1+1+1,3,none⟩=some (.int .i64 ay):=by subst hV;simp [go_sem]
 have g4:V.cell? ⟨w.heap.size+1+1+1,4,none⟩=some (.int .i64 bx):=by subst hV;simp [go_sem]
 have g5:V.cell? ⟨w.heap.size+1+1+1,5,none⟩=some (.int .i64 by'):=by subst hV;simp [go_sem]
 clear hV
 have HB0:Hid (Bw w V):=hB0
 clear hB0
 refine (zCo _ _ px py ax ay bx by' _ _ g0 g1 g2 g3 g4 g5 (by omega) HN.out).mono ?_
 rintro e W ⟨rfl,hbW⟩
 clear g0 g1 g2 g3 g4 g5
 go_wp2
 go_ret
 exact ⟨zF HE.out.symm,zA HB0.out hbW⟩
theorem zF0 (px py ax ay bx by' r:Int)(w:World)(hr0:0≤r)(hr1:r≤4096)(h:okP ax ay=false) :
  Calls Tryz.prog 294 #[.agg #[.int .i64 px,.int .i64 py],.agg #[.int .i64 ax,.int .i64 ay],.agg #[.int .i64 bx,.int .i64 by'],.int .i64 r] w fun e w'=>e=.returned (.bool (zP px py ax ay bx by' r))∧Bw w w':=by
 have HN:Hid _:=zPu px py ax ay bx by' h
 have HE:Hid (zP px py ax ay bx by' r=false):=by
  show _=_
  simp [zP,h]
 clear h
 go_enter Tryz.func294,Tryz.ntmps294
 go_wp2_with fail
 generalize hV:((((w.alloc _).alloc _).alloc _).alloc _:World)=V
 have hB0:Bw w V:=by subst hV;exact Qb
 have g0:V.cell? ⟨w.heap.size+1+1+1,0,none⟩=some (.int .i64 px):=by subst hV;simp [go_sem]
 have g1:V.cell? ⟨w.heap.size+1+1+1,1,none⟩=some (.int .i64 py):=by subst hV;simp [go_sem]
 have g2:V.cell? ⟨w.heap.size+1+1+1,2,none⟩=some (.int .i64 ax):=by subst hV;simp [go_sem]
 have g3:V.cell? ⟨w.heap.size+1+1+1,3,none⟩=some (.int .i64 ay):=by subst hV;simp [go_sem]
 have g4:V.cell? ⟨w.heap.size+1+1+1,4,none⟩=some (.int .i64 bx):=by subst hV;simp [go_sem]
 have g5:V.cell? ⟨w.heap.size+1+1+1,5,none⟩=some (.int .i64 by'):=by subst hV;simp [go_sem]
 clear hV
 have HB0:Hid (Bw w V):=hB0
 clear hB0
 refine (zCo _ _ px py ax ay bx by' _ _ g0 g1 g2 g3 g4 g5 (by omega) HN.out).mono ?_
 rintro e W ⟨rfl,hbW⟩
 clear g0 g1 g2 g3 g4 g5
 go_wp2
 go_ret
 exact ⟨zF HE.out.symm,zA HB0.out hbW⟩
theorem zFz (px py ax ay bx by' r:Int)(w:World)(hr0:0≤r)(hr1:r≤4096)(h:okP bx by'=false) :
  Calls Tryz.prog 294 #[.agg #[.int .i64 px,.int .i64 py],.agg #[.int .i64 ax,.int .i64 ay],.agg #[.int .i64 bx,.int .i64 by'],.int .i64 r] w fun e w'=>e=.returned (.bool (zP px py ax ay bx by' r))∧Bw w w':=by
 have HN:Hid _:=zPt px py ax ay bx by' h
 have HE:Hid (zP px py ax ay bx by' r=false):=by
  show _=_
  simp [zP,h]
 clear h
 go_enter Tryz.func294,Tryz.ntmps294
 go_wp2_with fail
 generalize hV:((((w.alloc _).alloc _).alloc _).alloc _:World)=V
 have hB0:Bw w V:=by subst hV;exact Qb
 have g0:V.cell? ⟨w.heap.size+1+1+1,0,none⟩=some (.int .i64 px):=by subst hV;simp [go_sem]
 have g1:V.cell? ⟨w.heap.size+1+1+1,1,none⟩=some (.int .i64 py):=by subst hV;simp [go_sem]
 have g2:V.cell? ⟨w.heap.size+1+1+1,2,none⟩=some (.int .i64 ax):=by subst hV;simp [go_sem]
 have g3:V.cell? ⟨w.heap.size+1+1+1,3,none⟩=some (.int .i64 ay):=by subst hV;simp [go_sem]
 have g4:V.cell? ⟨w.heap.size+1+1+1,4,none⟩=some (.int .i64 bx):=by subst hV;simp [go_sem]
 have g5:V.cell? ⟨w.heap.size+1+1+1,5,none⟩=some (.int .i64 by'):=by subst hV;simp [go_sem]
 clear hV
 have HB0:Hid (Bw w V):=hB0
 clear hB0
 refine (zCo _ _ px py ax ay bx by' _ _ g0 g1 g2 g3 g4 g5 (by omega) HN.out).mono ?_
 rintro e W ⟨rfl,hbW⟩
 clear g0 g1 g2 g3 g4 g5
 go_wp2
 go_ret
 exact ⟨zF HE.out.symm,zA HB0.out hbW⟩
theorem zEa (px py ax ay bx by' r:Int)(w:World)(hr0:0≤r)(hr1:r≤4096)(hp:okP px py=true)(ha:okP ax ay=true)(hb:okP bx by'=true) :
  Calls Tryz.prog 294 #[.agg #[.int .i64 px,.int .i64 py],.agg #[.int .i64 ax,.int .i64 ay],.agg #[.int .i64 bx,.int .i64 by'],.int .i64 r] w fun e w'=>e=.returned (.bool (zP px py ax ay bx by' r))∧Bw w w':=by
 have HN:Hid _:=zOa px py ax ay bx by' hp ha hb
 have HE:Hid (zP px py ax ay bx by' r=decide (zBp px py ax ay bx by'≤r * r * xO px py ax ay bx by')):=by
  show _=_
  have hr:inB r 0 4096=true:=by simp [inB];omega
  simp [zP,hp,ha,hb,hr,zA8]
 obtain ⟨s1,s2⟩:=sq_bd hr0 hr1
 obtain ⟨d1,d2⟩:=zOq (px:=px) (py:=py) ha hb
 obtain ⟨x5,x6⟩:=xG (a:=r * r) (b:=xO px py ax ay bx by') (B:=16777216) (C:=52428800) (by omega) (by omega) (by omega) (by omega) (by omega)
 have HP:Hid _:=hp
 have HA:Hid _:=ha
 have HB:Hid _:=hb
 clear hp ha hb
 go_enter Tryz.func294,Tryz.ntmps294
 go_wp2_with fail
 generalize hV:((((w.alloc _).alloc _).alloc _).alloc _:World)=V
 have hB0:Bw w V:=by subst hV;exact Qb
 have g0:V.cell? ⟨w.heap.size+1+1+1,0,none⟩=some (.int .i64 px):=by subst hV;simp [go_sem]
 have g1:V.cell? ⟨w.heap.size+1+1+1,1,none⟩=some (.int .i64 py):=by subst hV;simp [go_sem]
 have g2:V.cell? ⟨w.heap.size+1+1+1,2,none⟩=some (.int .i64 ax):=by subst hV;simp [go_sem]
 have g3:V.cell? ⟨w.heap.size+1+1+1,3,none⟩=some (.int .i64 ay):=by subst hV;simp [go_sem]
 have g4:V.cell? ⟨w.heap.size+1+1+1,4,none⟩=some (.int .i64 bx):=by subst hV;simp [go_sem]
 have g5:V.cell? ⟨w.heap.size+1+1+1,5,none⟩=some (.int .i64 by'):=by subst hV;simp [go_sem]
 have c00:∀ W',Bw V W'→W'.cell? ⟨w.heap.size,0,none⟩=some (.int .i64 px):=Qc hV
 have c01:∀ W',Bw V W'→W'.cell? ⟨w.heap.size,1,none⟩=some (.int .i64 py):=Qc hV
 have c10:∀ W',Bw V W'→W'.cell? ⟨w.heap.size+1,0,none⟩=some (.int .i64 ax):=Qc hV
 have c11:∀ W',Bw V W'→W'.cell? ⟨w.heap.size+1,1,none⟩=some (.int .i64 ay):=Qc hV
 have c20:∀ W',Bw V W'→W'.cell? ⟨w.heap.size+1+1,0,none⟩=some (.int .i64 bx):=Qc hV
 have c21:∀ W',Bw V W'→W'.cell? ⟨w.heap.size+1+1,1,none⟩=some (.int .i64 by'):=Qc hV
 clear hV
 have HB0:Hid (Bw w V):=hB0
 clear hB0
 refine (zCo _ _ px py ax ay bx by' _ _ g0 g1 g2 g3 g4 g5 (by omega) HN.out).mono ?_
 rintro e W ⟨rfl,hbW⟩
 clear g0 g1 g2 g3 g4 g5
 replace HB0:Hid (Bw w W):=zA HB0.out hbW
 have HVW:Hid (∀ W',Bw W W'→Bw V W'):=fun W' h=>zA hbW h
 replace c00:=fun W' h=>c00 W' (HVW.out W' h)
 replace c01:=fun W' h=>c01 W' (HVW.out W' h)
 replace c10:=fun W' h=>c10 W' (HVW.out W' h)
 replace c11:=fun W' h=>c11 W' (HVW.out W' h)
 replace c20:=fun W' h=>c20 W' (HVW.out W' h)
 replace c21:=fun W' h=>c21 W' (HVW.out W' h)
 clear hbW
 go_wp2
 go_region_held3 (fun W'=>Bw W W') ((repeat (first|exact Qr _ _|assumption|refine Qd ?_|refine Qa ?_ _|refine Qt ?_|refine Qs ?_ _|refine Qo ?_ ?_ _ _)))
  (first
   | (go_at_call 302;refine (vU _ _ _).mono ?_;rintro e w1 ⟨rfl,hb⟩)
   | (go_at_call 304;refine (zNx _ _ _ _ _ _ _ HP.out HA.out HB.out).mono ?_;rintro e w1 ⟨rfl,hb⟩))
 go_wp2
 go_ret
 exact ⟨zF HE.out.symm,zA HB0.out (by assumption)⟩
theorem zDh (px py ax ay bx by' r:Int)(w:World):Calls Tryz.prog 294 #[.agg #[.int .i64 px,.int .i64 py],.agg #[.int .i64 ax,.int .i64 ay],.agg #[.int .i64 bx,.int .i64 by'],.int .i64 r] w fun e w'=>e=.returned (.bool (zP px py ax ay bx by' r))∧Bw w w':=by
 by_cases h0:r<0
 ·exact zDf _ _ _ _ _ _ _ _ h0
 by_cases h1:4096<r
 ·exact zDg _ _ _ _ _ _ _ _ h1
 have hr0:0≤r:=by omega
 have hr1:r≤4096:=by omega
 cases hp:okP px py
 ·exact zF1 _ _ _ _ _ _ _ _ hr0 hr1 hp
 cases ha:okP ax ay
 ·exact zF0 _ _ _ _ _ _ _ _ hr0 hr1 ha
 cases hb:okP bx by'
 ·exact zFz _ _ _ _ _ _ _ _ hr0 hr1 hb
 exact zEa _ _ _ _ _ _ _ _ hr0 hr1 hp ha hb
theorem zPs (px py ax ay bx by':Int):yS px py bx by'=yS px py ax ay - 2 * yU px py ax ay bx by'+yS ax ay bx by':=by
 unfold yS yU;grind
theorem zPa (px py ax ay bx by':Int):zW ax ay bx by' px py * zW ax ay bx by' px py+yU px py ax ay bx by' * yU px py ax ay bx by'=yS ax ay bx by' * yS px py ax ay:=by
 unfold zW yU yS;grind
theorem zJo (ax ay bx by':Int):0≤yS ax ay bx by':=by
 have s1:=vS (bx - ax)
 have s2:=vS (by' - ay)
 unfold yS;omega
theorem zNg {px py ax ay bx by' r:Int}(h:yS px py ax ay≤r * r):zA8 px py ax ay bx by' r=true:=by
 have hs:=zJo ax ay bx by'
 have hv:=zPs px py ax ay bx by'
 have hl:=zPa px py ax ay bx by'
 have hq:=vS (yU px py ax ay bx by')
 apply decide_eq_true
 unfold zBp xO
 by_cases c1:yU px py ax ay bx by'≤0
 ·simp only [c1,if_true];omega
 ·by_cases c2:yS ax ay bx by'≤yU px py ax ay bx by'
  ·simp only [c1,c2,if_true,if_false];omega
  ·simp only [c1,c2,if_false]
   have h3:yS ax ay bx by' * yS px py ax ay≤yS ax ay bx by' * (r * r):=Int.mul_le_mul_of_nonneg_left h hs
   rw [Int.mul_comm (r * r)]
   omega
def byB (cx cy r:Int)(X Y:Nat→Int):Nat→Bool
 | 0=>false
 | k+1=>byB cx cy r X Y k || zP cx cy (X (k - 1)) (Y (k - 1)) (X k) (Y k) r
def zEn (cx cy r:Int)(X Y:Nat→Int):Nat→Bool
 | 0=>false
 | k+1=>zEn cx cy r X Y k || zP cx cy (X k) (Y k) (X (k+1)) (Y (k+1)) r
theorem zOf (cx cy r:Int)(X Y:Nat→Int):∀ k,byB cx cy r X Y (k+1)=(zP cx cy (X 0) (Y 0) (X 0) (Y 0) r || zEn cx cy r X Y k)
 | 0=>by simp [byB,zEn]
 | k+1=>by
  rw [byB,zOf cx cy r X Y k,zEn,Bool.or_assoc]
  rfl
theorem zNf {px py ax ay bx by' r:Int}(h:zP px py ax ay ax ay r=true)(hb:okP bx by'=true):zP px py ax ay bx by' r=true:=by
 simp only [zP,Bool.and_eq_true] at h ⊢
 obtain ⟨h1,h2,h3,h4,h5⟩:=h
 refine ⟨h1,h2,hb,h4,zNg ?_⟩
 have:=of_decide_eq_true h5
 have ha:yU px py ax ay ax ay=0:=by simp [yU]
 simp only [zBp,xO,ha,Int.le_refl,if_true] at this
 omega
theorem zEm (cx cy r:Int)(X Y:Nat→Int)(h:zP cx cy (X 0) (Y 0) (X 1) (Y 1) r=true):∀ k,zEn cx cy r X Y (k+1)=true
 | 0=>by simp [zEn,h]
 | k+1=>by rw [zEn,zEm cx cy r X Y h k];rfl
theorem zP4 (cx cy r:Int)(X Y:Nat→Int)(n:Nat)(hn:2≤n)(h1:okP (X 1) (Y 1)=true):byB cx cy r X Y n=zEn cx cy r X Y (n - 1):=by
 obtain ⟨k,rfl⟩:∃ k,n=k+2:=⟨n - 2,by omega⟩
 rw [zOf]
 show _=zEn cx cy r X Y (k+1)
 cases h:zP cx cy (X 0) (Y 0) (X 0) (Y 0) r
 ·rfl
 ·rw [zEm cx cy r X Y (zNf h h1) k];rfl
theorem zP3 {cx cy r:Int}{X Y:Nat→Int}(k:Nat)(h:byB cx cy r X Y k=true):∀ n,k≤n→byB cx cy r X Y n=true:=by
 intro n hn
 induction n with
 | zero=>rw [show k=0 by omega] at h;exact h
 | succ m ih =>
  by_cases e:k=m+1
  ·rw [← e];exact h
  ·rw [byB,ih (by omega)];rfl
theorem zM4 {cx cy r:Int}{X Y:Nat→Int}(k:Nat)(h:zEn cx cy r X Y k=true):∀ n,k≤n→zEn cx cy r X Y n=true:=by
 intro n hn
 induction n with
 | zero=>rw [show k=0 by omega] at h;exact h
 | succ m ih =>
  by_cases e:k=m+1
  ·rw [← e];exact h
  ·rw [zEn,ih (by omega)];rfl
theorem zHh (cx cy r:Int)(b n cap:Nat)(X Y:Nat→Int)(w:World)(hp:zI w b 0 n X Y)(hbl:b<w.heap.size)(hn:0<n)(hmax:n≤1048576)(hcap:n≤cap) :
  Calls Tryz.prog 273 #[.agg #[.int .i64 cx,.int .i64 cy],.slice (some ⟨b,0,none⟩) n cap,.int .i64 r] w fun e w'=>e=.returned (.bool (byB cx cy r X Y n))∧Bw w w':=by
 have HP:Hid (zI w b 0 n X Y):=hp
 obtain ⟨e0,e1⟩:=hp 0 hn
 simp only [Nat.zero_add,Nat.zero_mul] at e0 e1
 clear hp
 have hni:(0:Int)<(n:Int):=by omega
 go_enter Tryz.func273,Tryz.ntmps273
 go_wp2_with fail
 generalize hW:((w.alloc _).alloc _:World)=W
 have HB0:Hid (Bw w W):=by show Below _ _ _;subst hW;exact Qb
 have hT:zC W (w.heap.size+1) 2:=by
  subst hW
  have:=there2 (w.alloc (.cells #[.int .i64 cx,.int .i64 cy] 215)) (.int .i64 (X 0)) (.int .i64 (Y 0)) 215
  simpa using this
 have c00:∀ W',Bw W W'→W'.cell? ⟨w.heap.size,0,none⟩=some (.int .i64 cx):=Qc hW
 have c01:∀ W',Bw W W'→W'.cell? ⟨w.heap.size,1,none⟩=some (.int .i64 cy):=Qc hW
 have c10:∀ W',Bw W W'→W'.cell? ⟨w.heap.size+1,0,none⟩=some (.int .i64 (X 0)):=Qc hW
 have c11:∀ W',Bw W W'→W'.cell? ⟨w.heap.size+1,1,none⟩=some (.int .i64 (Y 0)):=Qc hW
 have hszW:W.heap.size=w.heap.size+1+1:=by subst hW;simp
 clear hW
 have q0:=c00 W (Below.refl _ _)
 have q1:=c01 W (Below.refl _ _)
 have q2:=c10 W (Below.refl _ _)
 have q3:=c11 W (Below.refl _ _)
 clear c00 c01 c10 c11
 go_loopw [15] (fun i wr=>∃ k:Nat,k≤n∧i=.int .i64 (k:Int)∧byB cx cy r X Y k=false∧Below (w.heap.size+1) W wr∧zC wr (w.heap.size+1) 2∧wr.cell? ⟨w.heap.size+1,0,none⟩=some (.int .i64 (X (k - 1)))∧wr.cell? ⟨w.heap.size+1,1,none⟩=some (.int .i64 (Y (k - 1)))) (fun i _=>n - (intOf i).toNat)
 case atStart=>exact ⟨0,by omega,rfl,rfl,Below.refl _ _,hT,q2,q3⟩
 case round =>
  obtain ⟨k,hk,rfl,hF,hB,hT',f0,f1⟩:=hrel
  have HB:Hid (Below (w.heap.size+1) W wr):=hB
  have HBw:Hid (Bw w wr):=HB0.out.trans (hB.mono (by omega))
  have HF:Hid (byB cx cy r X Y k=false):=hF
  have hszr:=hB.size
  have g0:=(hB.cell (p:=⟨w.heap.size,0,none⟩) (by show w.heap.size<_;omega)).trans q0
  have g1:=(hB.cell (p:=⟨w.heap.size,1,none⟩) (by show w.heap.size<_;omega)).trans q1
  clear hB hF
  by_cases hlt:k<n
  ·obtain ⟨hx,hy⟩:=(HP.out.below HBw.out hbl) k hlt
   simp only [Nat.zero_add] at hx hy
   have hi':(k:Int)<(n:Int):=by omega
   have hbw:b<wr.heap.size:=by omega
   have HT:Hid (zC wr (w.heap.size+1) 2):=hT'
   have hl0:w.heap.size<wr.heap.size:=by omega
   have hl1:w.heap.size+1<wr.heap.size:=by omega
   clear hT'
   go_wp2_with fail
   generalize hV:(wr.alloc _:World)=V
   have hbV:Bw wr V:=by subst hV;exact Qb
   have d0:∀ W',Bw V W'→W'.cell? ⟨wr.heap.size,0,none⟩=some (.int .i64 (X k)):=Qc hV
   have d1:∀ W',Bw V W'→W'.cell? ⟨wr.heap.size,1,none⟩=some (.int .i64 (Y k)):=Qc hV
   have hszV:wr.heap.size<V.heap.size:=by subst hV;simp
   clear hV hx hy
   refine (zDh _ _ _ _ _ _ _ _).mono ?_
   rintro e w1 ⟨rfl,hb1⟩
   have hbr1:=zA hbV hb1
   have HB1:Hid (Bw w w1):=zA HBw.out hbr1
   cases hq:zP cx cy (X (k - 1)) (Y (k - 1)) (X k) (Y k) r
   ·have hT1:=HT.out.below hbr1
    have t0:=hT1.cell 0 (by omega)
    have t1:=hT1.cell 1 (by omega)
    have z0:=(hT1 0 (by omega)).2
    have z1:=(hT1 1 (by omega)).2
    have p0:=d0 w1 hb1
    have p1:=d1 w1 hb1
    have HT1:Hid (zC w1 (w.heap.size+1) 2):=hT1
    have HBW1:Hid (Below (w.heap.size+1) W w1):=HB.out.trans (hbr1.mono (by omega))
    have hsz1:=hbr1.size
    have HK:Hid (byB cx cy r X Y (k+1)=false):=by show _=_;rw [byB,HF.out,hq];rfl
    clear hT1 d0 d1 hbr1 hb1 hbV f0 f1 g0 g1
    go_wp2_with fail
    go_roundw
    case rel =>
     refine ⟨k+1,by omega,by go_num,HK.out,(HBW1.out.setCell (by show w.heap.size+1≤w.heap.size+1;omega) _).setCell (by show w.heap.size+1≤w.heap.size+1;omega) _,?_,zQc (Option.isSome_iff_exists.2 ⟨_,t0⟩),zQb (Option.isSome_iff_exists.2 ⟨_,t1⟩)⟩
     exact (HT1.out.set 0 _).set 1 _
    case measure=>simp [intOf];omega
   ·have HK:Hid (byB cx cy r X Y n=true):=zP3 (k+1) (by rw [byB,hq];simp) n (by omega)
    go_wp2_with fail
    go_ret
    exact ⟨zF (by rw [HK.out]),HB1.out⟩
  ·have hkn:k=n:=by omega
   subst hkn
   go_wp2_with fail
   go_ret
   exact ⟨zF (by rw [HF.out]),HBw.out⟩
theorem zHe (cx cy r:Int)(b n cap:Nat)(X Y:Nat→Int)(w:World)(hp:zI w b 0 n X Y)(hbl:b<w.heap.size)(hmax:n≤1048576)(hcap:n≤cap) :
  Calls Tryz.prog 272 #[.agg #[.int .i64 cx,.int .i64 cy],.slice (some ⟨b,0,none⟩) n cap,.int .i64 r] w fun e w'=>e=.returned (.bool (yE cx cy n X Y))∧Bw w w':=by
 have HP:Hid (zI w b 0 n X Y):=hp
 clear hp
 go_enter Tryz.func272,Tryz.ntmps272
 go_wp2_with fail
 generalize hW:(w.alloc _:World)=W
 have hB0:Bw w W:=by subst hW;exact Qb
 clear hW
 refine (zBu _ _ b n cap X Y W (HP.out.below hB0 hbl) (Nat.lt_of_lt_of_le hbl hB0.size) hcap hmax).mono ?_
 rintro e w1 ⟨rfl,hb1⟩
 go_wp2_with fail
 go_ret
 exact ⟨rfl,zA hB0 hb1⟩
structure Req where
 z:Int
 x:Int
 y:Int
 du:Int
 tr:Int
abbrev zQd (e:Req):Value:=.agg #[.int .i64 e.z,.int .i64 e.x,.int .i64 e.y,.int .i64 e.du,.int .i64 e.tr]
def zH5 (w:World)(p o:Nat)(e:Req):Prop:=w.cell? ⟨p,o,none⟩=some (.int .i64 e.z)∧w.cell? ⟨p,o+1,none⟩=some (.int .i64 e.x)∧w.cell? ⟨p,o+2,none⟩=some (.int .i64 e.y)∧w.cell? ⟨p,o+3,none⟩=some (.int .i64 e.du)∧w.cell? ⟨p,o+4,none⟩=some (.int .i64 e.tr)
theorem zH5.below {w w':World}{p o B:Nat}{e:Req}(h:zH5 w p o e)(hb:Below B w w')(hp:p<B):zH5 w' p o e:=by
 obtain ⟨h0,h1,h2,h3,h4⟩:=h
 exact ⟨(hb.cell (p:=⟨p,o,none⟩) hp).trans h0,(hb.cell (p:=⟨p,o+1,none⟩) hp).trans h1,(hb.cell (p:=⟨p,o+2,none⟩) hp).trans h2,(hb.cell (p:=⟨p,o+3,none⟩) hp).trans h3,(hb.cell (p:=⟨p,o+4,none⟩) hp).trans h4⟩
def zE6 (w:World)(p off n:Nat)(E:Nat→Req):Prop:=∀ i,i<n→zH5 w p (off+i * 5) (E i)
theorem zE6.below {w w':World}{p off n B:Nat}{E:Nat→Req}(h:zE6 w p off n E)(hb:Below B w w')(hp:p<B):zE6 w' p off n E:=fun i hi=>(h i hi).below hb hp
def uQ (w:World)(a:Option Addr)(n:Nat)(E:Nat→Req):Prop:=n=0∨∃ b off,a=some ⟨b,off,none⟩∧b<w.heap.size∧zE6 w b off n E
theorem uQ.below {w w':World}{a:Option Addr}{n:Nat}{E:Nat→Req}(h:uQ w a n E)(hb:Below w.heap.size w w'):uQ w' a n E:=by
 rcases h with h | ⟨b,off,e,hl,hp⟩
 ·exact .inl h
 ·exact .inr ⟨b,off,e,Nat.lt_of_lt_of_le hl hb.size,hp.below hb hl⟩
theorem zC.outW {w:World}{O r n o:Nat}{x:Value}(h:zC w r n)(hne:O≠r):zC (w.setCell ⟨O,o,none⟩ x) r n:=fun i hi=>by
 obtain ⟨u,hu⟩:=(h i hi).1
 refine ⟨⟨u,?_⟩,?_⟩
 ·rw [zB (fun e=>hne (by injection e))];exact hu
 ·rw [World.frozen?_setCell];exact (h i hi).2
def zBr (W:World)(B o:Nat)(e:Req):World:=(((((W.setCell ⟨B,o,none⟩ (.int .i64 e.z)).setCell ⟨B,o+1,none⟩ (.int .i64 e.x)).setCell ⟨B,o+2,none⟩ (.int .i64 e.y)).setCell ⟨B,o+3,none⟩ (.int .i64 e.du)).setCell ⟨B,o+4,none⟩ (.int .i64 e.tr))
theorem vB {W:World}{B o:Nat}{e:Req}{p:Addr}(h:p.block≠B∨p.off<o∨o+4<p.off):(zBr W B o e).cell? p=W.cell? p:=by
 have ne:∀ k:Nat,k≤4→(⟨B,o+k,none⟩:Addr)≠p:=fun k hk e=>by subst e;simp at h;omega
 have ne0:(⟨B,o,none⟩:Addr)≠p:=ne 0 (by omega)
 unfold zBr
 rw [zB (ne 4 (by omega)),zB (ne 3 (by omega)),zB (ne 2 (by omega)),zB (ne 1 (by omega)),zB ne0]
theorem zIz {W:World}{B o m:Nat}{e:Req}(h:zC W B m):zC (zBr W B o e) B m:=by
 unfold zBr
 exact (((((h.set _ _).set _ _).set _ _).set _ _).set _ _)
theorem zLj (W:World)(B o:Nat)(e:Req):(zBr W B o e).heap.size=W.heap.size:=by unfold zBr;simp
theorem zI0 {V W:World}{n B o:Nat}{e:Req}(h:Below n V W)(hB:n≤B):Below n V (zBr W B o e):=by
 unfold zBr
 exact (((((h.setCell hB _).setCell hB _).setCell hB _).setCell hB _).setCell hB _)
theorem zJ4 {W:World}{B o m:Nat}{e:Req}(h:zC W B m)(ho:o+4<m):zH5 (zBr W B o e) B o e:=by
 have ne:∀ i j:Nat,i≠j→(⟨B,i,none⟩:Addr)≠⟨B,j,none⟩:=fun i j hij h=>hij (by injection h)
 obtain ⟨u0,g0⟩:=(h (o) (by omega)).1
 obtain ⟨u1,g1⟩:=((h.set (o) (.int .i64 e.z)) (o+1) (by omega)).1
 obtain ⟨u2,g2⟩:=(((h.set (o) (.int .i64 e.z)).set (o+1) (.int .i64 e.x)) (o+2) (by omega)).1
 obtain ⟨u3,g3⟩:=((((h.set (o) (.int .i64 e.z)).set (o+1) (.int .i64 e.x)).set (o+2) (.int .i64 e.y)) (o+3) (by omega)).1
 obtain ⟨u4,g4⟩:=(((((h.set (o) (.int .i64 e.z)).set (o+1) (.int .i64 e.x)).set (o+2) (.int .i64 e.y)).set (o+3) (.int .i64 e.du)) (o+4) (by omega)).1
 unfold zBr
 refine ⟨?_,?_,?_,?_,?_⟩
 ·rw [zB (ne (o+4) (o) (by omega)),zB (ne (o+3) (o) (by omega)),zB (ne (o+2) (o) (by omega)),zB (ne (o+1) (o) (by omega))];exact zG g0
 ·rw [zB (ne (o+4) (o+1) (by omega)),zB (ne (o+3) (o+1) (by omega)),zB (ne (o+2) (o+1) (by omega))];exact zG g1
 ·rw [zB (ne (o+4) (o+2) (by omega)),zB (ne (o+3) (o+2) (by omega))];exact zG g2
 ·rw [zB (ne (o+4) (o+3) (by omega))];exact zG g3
 ·exact zG g4
theorem zE6.lay {W:World}{B n k:Nat}{E:Nat→Req}(h:zE6 W B 0 k E)(hT:zC W B (n * 5))(hk:k<n):zE6 (zBr W B (k * 5) (E k)) B 0 (k+1) E:=fun i hi=>by
 by_cases e:i=k
 ·subst e
  rw [Nat.zero_add]
  exact zJ4 hT (by omega)
 ·have h':=h i (by omega)
  unfold zH5 at h' ⊢
  rw [vB (.inr (.inl (by simp;omega))),vB (.inr (.inl (by simp;omega))),vB (.inr (.inl (by simp;omega))),vB (.inr (.inl (by simp;omega))),vB (.inr (.inl (by simp;omega)))]
  exact h'
abbrev zMj:Array Value:=#[.int .i64 0,.int .i64 0,.int .i64 0,.int .i64 0,.int .i64 0]
theorem info_iw:(Tryz.prog.info? 134).map (fun i=>(i.zero,i.size,i.bytes))=some (some (.agg zMj),5,40):=by kernel_rfl
theorem zNj (n:Nat)(h:n≤1048576)(w:World) :
  (Instr.makeSlice 29 (.int .i64 (n:Int)) (.int .i64 (n:Int))).run Tryz.prog w=.ok (.slice (some ⟨w.heap.size,0,none⟩) n n) (w.alloc (.cells (madeCells zMj (n * 5)) 134)):=by
 obtain ⟨i,hi,hz,hs,hb⟩:=info_parts info_iw
 have hr:=run_make (P:=Tryz.prog) w 29 134 i _ Tryz.underlying29 hi hz .i64 .i64 (n:Int) (n:Int) (by omega) (Int.le_refl _) (by rw [hb];omega) (by omega)
 simp only [Int.toNat_natCast,hs] at hr
 exact hr
theorem zIg (n:Nat)(w:World)(t:TypeId):zC (w.alloc (.cells (madeCells zMj n) t)) w.heap.size n:=fun o ho=>by
 have hz:=size_madeCells zMj n
 refine ⟨⟨(madeCells zMj n)[o]'(by rw [hz];exact ho),?_⟩,World.frozen?_alloc_at _ _ _ _ rfl⟩
 rw [World.cell?_alloc_at _ _ _ _ rfl]
 exact Array.getElem?_eq_getElem _
theorem zE8 (e:Req)(w:World):Calls Tryz.prog 96 #[zQd e] w fun r w'=>r=.returned (zQd e)∧Bw w w':=by
 go_enter Tryz.func96,Tryz.ntmps96
 go_wp2_with fail
 generalize hW:(((w.alloc _).alloc _).alloc _:World)=W
 have hB0:Bw w W:=by subst hW;exact Qb
 have hT1:zC W (w.heap.size+1) 5:=fun o ho=>by
  subst hW
  have hc:o=0∨o=1∨o=2∨o=3∨o=4:=by omega
  rcases hc with rfl | rfl | rfl | rfl | rfl <;> exact ⟨⟨_,by simp [go_sem];rfl⟩,by simp [go_sem]⟩
 have hT2:zC W (w.heap.size+1+1) 5:=fun o ho=>by
  subst hW
  have hc:o=0∨o=1∨o=2∨o=3∨o=4:=by omega
  rcases hc with rfl | rfl | rfl | rfl | rfl <;> exact ⟨⟨_,by simp [go_sem];rfl⟩,by simp [go_sem]⟩
 have c3:W.cell? ⟨w.heap.size,3,none⟩=some (.int .i64 e.du):=by subst hW;simp [go_sem]
 have c4:W.cell? ⟨w.heap.size,4,none⟩=some (.int .i64 e.tr):=by subst hW;simp [go_sem]
 have hsz:w.heap.size+1+1<W.heap.size:=by subst hW;simp
 clear hW
 refine (zGj _ _ _ _).mono ?_
 rintro r w1 ⟨rfl,hb1⟩
 have hT1':=hT1.below hb1
 have hT2':=hT2.below hb1
 have c3':w1.cell? ⟨w.heap.size,3,none⟩=some (.int .i64 e.du):=(hb1.cell (p:=⟨w.heap.size,3,none⟩) (by show w.heap.size<_;omega)).trans c3
 have c4':w1.cell? ⟨w.heap.size,4,none⟩=some (.int .i64 e.tr):=(hb1.cell (p:=⟨w.heap.size,4,none⟩) (by show w.heap.size<_;omega)).trans c4
 have HB1:Hid (Bw w w1):=zA hB0 hb1
 have s0:=hT1'.cell 0 (by omega)
 have s1:=hT1'.cell 1 (by omega)
 have s2:=hT1'.cell 2 (by omega)
 have s3:=hT1'.cell 3 (by omega)
 have s4:=hT1'.cell 4 (by omega)
 have y0:=(hT1' 0 (by omega)).2
 have y1:=(hT1' 1 (by omega)).2
 have y2:=(hT1' 2 (by omega)).2
 have y3:=(hT1' 3 (by omega)).2
 have y4:=(hT1' 4 (by omega)).2
 have t0:=hT2'.cell 0 (by omega)
 have t1:=hT2'.cell 1 (by omega)
 have t2:=hT2'.cell 2 (by omega)
 have t3:=hT2'.cell 3 (by omega)
 have t4:=hT2'.cell 4 (by omega)
 have z0:=(hT2' 0 (by omega)).2
 have z1:=(hT2' 1 (by omega)).2
 have z2:=(hT2' 2 (by omega)).2
 have z3:=(hT2' 3 (by omega)).2
 have z4:=(hT2' 4 (by omega)).2
 have HT1:Hid (zC w1 (w.heap.size+1) 5):=hT1'
 clear hT1 hT2 c3 c4 hb1 hB0 hT1' hT2'
 have hsz':=hsz
 clear hsz
 go_wp2_with fail
 have key:∀ (T:Array Value) (Wf:World),T[2]?.getD undef=.pointer (some ⟨w.heap.size+1,0,none⟩)→zH5 Wf (w.heap.size+1) 0 e→(results Tryz.f96 T).run Tryz.prog Wf=.ok (zQd e) Wf:=fun T Wf hT ⟨h0,h1,h2,h3,h4⟩=>by
  simp only [Nat.zero_add] at h0 h1 h2 h3 h4
  simp [results,Tryz.results96,go_sem,hT,h0,h1,h2,h3,h4]
 have hL:∀ V:World,zC V (w.heap.size+1) 5→zH5 (zBr V (w.heap.size+1) 0 e) (w.heap.size+1) 0 e:=fun V hV=>zJ4 hV (by omega)
 refine bodyPost_ret (key _ _ rfl (hL _ ?_)) rfl ⟨rfl,?_⟩
 ·exact (((((HT1.out.outW (by omega)).outW (by omega)).outW (by omega)).outW (by omega)).outW (by omega))
 ·exact ((((((((((HB1.out.setCell (by simp;omega) _).setCell (by simp;omega) _).setCell (by simp;omega) _).setCell (by simp;omega) _).setCell (by simp;omega) _).setCell (by simp) _).setCell (by simp) _).setCell (by simp) _).setCell (by simp) _).setCell (by simp) _)
theorem zDz (a:Option Addr)(n cap:Nat)(E:Nat→Req)(w:World)(hp:uQ w a n E)(hmax:n≤1048576) :
  Calls Tryz.prog 46 #[.slice a n cap] w fun e w'=>∃ b,e=.returned (.slice (some ⟨b,0,none⟩) n n)∧w.heap.size≤b∧b<w'.heap.size∧zE6 w' b 0 n E∧zC w' b (n * 5)∧Bw w w':=by
 have hmk:=zNj n hmax
 have HP:Hid (uQ w a n E):=hp
 clear hp
 go_enter Tryz.func46,Tryz.ntmps46
 go_wp2
 generalize hW:(w.alloc _:World)=W
 have HB0:Hid (Bw w W):=by show Below _ _ _;subst hW;exact Qb
 have HT0:Hid (zC W w.heap.size (n * 5)):=by show zC _ _ _;subst hW;exact zIg _ _ _
 have HL0:Hid (w.heap.size<W.heap.size):=by show _<_;subst hW;simp
 clear hW hmk
 go_loopw [4] (fun i wr=>∃ (k:Nat),k≤n∧i=.int .i64 k∧Bw w wr∧zC wr w.heap.size (n * 5)∧zE6 wr w.heap.size 0 k E∧w.heap.size<wr.heap.size) (fun i _=>n - (intOf i).toNat)
 case atStart=>exact ⟨0,by omega,rfl,HB0.out,HT0.out,fun i hi=>by omega,HL0.out⟩
 case round =>
  obtain ⟨k,hk,rfl,hB,hT,hO,hlw⟩:=hrel
  by_cases hlt:k<n
  ·rcases HP.out with h0 | ⟨b,off,rfl,hbl,hpt⟩
   ·omega
   ·obtain ⟨f0,f1,f2,f3,f4⟩:=(hpt.below hB hbl) k hlt
    have HB:Hid (Bw w wr):=hB
    have HT:Hid (zC wr w.heap.size (n * 5)):=hT
    have HO:Hid (zE6 wr w.heap.size 0 k E):=hO
    clear hB hT hO hpt
    have hi:(k:Int)<(n:Int):=by omega
    have hi0:(0:Int)≤(k:Int):=by omega
    go_wp2_with fail
    refine (zE8 (E k) _).mono ?_
    rintro e w' ⟨rfl,hb⟩
    have hT':=HT.out.below hb
    have t0:=hT'.cell (k * 5+0) (by omega)
    have t1:=hT'.cell (k * 5+1) (by omega)
    have t2:=hT'.cell (k * 5+2) (by omega)
    have t3:=hT'.cell (k * 5+3) (by omega)
    have t4:=hT'.cell (k * 5+4) (by omega)
    have y0:=(hT' (k * 5+0) (by omega)).2
    have y1:=(hT' (k * 5+1) (by omega)).2
    have y2:=(hT' (k * 5+2) (by omega)).2
    have y3:=(hT' (k * 5+3) (by omega)).2
    have y4:=(hT' (k * 5+4) (by omega)).2
    simp only [Nat.add_zero] at t0 y0
    have HT':Hid (zC w' w.heap.size (n * 5)):=hT'
    have HBn:Hid (Bw wr w'):=hb
    clear hT' hb f0 f1 f2 f3 f4
    go_wp2
    go_roundw
    case rel =>
     refine ⟨k+1,by omega,by go_num,?_,?_,?_,?_⟩
     ·exact zI0 (e:=E k) (B:=w.heap.size) (o:=k * 5) (HB.out.trans (HBn.out.mono HB.out.size)) (Nat.le_refl _)
     ·exact zIz (e:=E k) (B:=w.heap.size) (o:=k * 5) HT'.out
     ·exact zE6.lay (HO.out.below HBn.out hlw) HT'.out hlt
     ·have:=HBn.out.size
      show _<(zBr w' w.heap.size (k * 5) (E k)).heap.size
      rw [zLj];omega
    case measure=>simp [intOf];omega
  ·go_wp2
   go_ret
   have hkn:k=n:=by omega
   subst hkn
   exact ⟨_,rfl,Nat.le_refl _,hlw,hO,hT,hB⟩
theorem zF3 (e:Req)(w:World):Calls Tryz.prog 100 #[zQd e,zQd e] w fun r w'=>r=.returned (.bool true)∧Bw w w':=by
 go_enter Tryz.func100,Tryz.ntmps100
 go_wp2_with fail
 generalize hW:((w.alloc _).alloc _:World)=W
 have hB0:Bw w W:=by subst hW;exact Qb
 have c3:∀ W',Bw W W'→W'.cell? ⟨w.heap.size,3,none⟩=some (.int .i64 e.du):=fun W' h=>by rw [h.cell (by subst hW;simp;omega)];subst hW;simp [go_sem]
 have c4:∀ W',Bw W W'→W'.cell? ⟨w.heap.size,4,none⟩=some (.int .i64 e.tr):=fun W' h=>by rw [h.cell (by subst hW;simp;omega)];subst hW;simp [go_sem]
 have d3:∀ W',Bw W W'→W'.cell? ⟨w.heap.size+1,3,none⟩=some (.int .i64 e.du):=fun W' h=>by rw [h.cell (by subst hW;simp)];subst hW;simp [go_sem]
 have d4:∀ W',Bw W W'→W'.cell? ⟨w.heap.size+1,4,none⟩=some (.int .i64 e.tr):=fun W' h=>by rw [h.cell (by subst hW;simp)];subst hW;simp [go_sem]
 clear hW
 refine (zHp _ _ _ _).mono ?_
 rintro r w1 ⟨rfl,hb1⟩
 have k3:=c3 w1 hb1
 have k4:=c4 w1 hb1
 have l3:=d3 w1 hb1
 have l4:=d4 w1 hb1
 have HB1:Hid (Bw w w1):=zA hB0 hb1
 clear c3 c4 d3 d4 hb1 hB0
 go_wp2
 go_ret
 exact ⟨rfl,HB1.out⟩
theorem zEc (a a':Option Addr)(n cap cap':Nat)(E:Nat→Req)(w:World)(hp:uQ w a n E)(hq:uQ w a' n E)(hmax:n≤1048576) :
  Calls Tryz.prog 51 #[.slice a n cap,.slice a' n cap'] w fun e w'=>e=.returned (.bool true)∧Bw w w':=by
 have HP:Hid (uQ w a n E):=hp
 have HQ:Hid (uQ w a' n E):=hq
 clear hp hq
 go_enter Tryz.func51,Tryz.ntmps51
 go_wp2
 go_loopw [5] (fun i wr=>∃ k:Nat,k≤n∧i=.int .i64 k∧Bw w wr) (fun i _=>n - (intOf i).toNat)
 case atStart=>exact ⟨0,by omega,rfl,Below.refl _ _⟩
 case round =>
  obtain ⟨k,hk,rfl,hB⟩:=hrel
  by_cases hlt:k<n
  ·rcases HP.out with h0 | ⟨b,off,rfl,hb,hpt⟩
   ·omega
   rcases HQ.out with h0 | ⟨d,off',rfl,hd,hqt⟩
   ·omega
   have hpr:=hpt.below hB hb
   have hqr:=hqt.below hB hd
   have hbr:b<wr.heap.size:=Nat.lt_of_lt_of_le hb hB.size
   have hdr:d<wr.heap.size:=Nat.lt_of_lt_of_le hd hB.size
   have c0:∀ W',Bw wr W'→W'.cell? ⟨b,off+k * 5,none⟩=some (.int .i64 (E k).z):=fun W' h=>(hpr.below h hbr k hlt).1
   have c1:∀ W',Bw wr W'→W'.cell? ⟨b,off+k * 5+1,none⟩=some (.int .i64 (E k).x):=fun W' h=>(hpr.below h hbr k hlt).2.1
   have c2:∀ W',Bw wr W'→W'.cell? ⟨b,off+k * 5+2,none⟩=some (.int .i64 (E k).y):=fun W' h=>(hpr.below h hbr k hlt).2.2.1
   have c3:∀ W',Bw wr W'→W'.cell? ⟨b,off+k * 5+3,none⟩=some (.int .i64 (E k).du):=fun W' h=>(hpr.below h hbr k hlt).2.2.2.1
   have c4:∀ W',Bw wr W'→W'.cell? ⟨b,off+k * 5+4,none⟩=some (.int .i64 (E k).tr):=fun W' h=>(hpr.below h hbr k hlt).2.2.2.2
   have d0:∀ W',Bw wr W'→W'.cell? ⟨d,off'+k * 5,none⟩=some (.int .i64 (E k).z):=fun W' h=>(hqr.below h hdr k hlt).1
   have d1:∀ W',Bw wr W'→W'.cell? ⟨d,off'+k * 5+1,none⟩=some (.int .i64 (E k).x):=fun W' h=>(hqr.below h hdr k hlt).2.1
   have d2:∀ W',Bw wr W'→W'.cell? ⟨d,off'+k * 5+2,none⟩=some (.int .i64 (E k).y):=fun W' h=>(hqr.below h hdr k hlt).2.2.1
   have d3:∀ W',Bw wr W'→W'.cell? ⟨d,off'+k * 5+3,none⟩=some (.int .i64 (E k).du):=fun W' h=>(hqr.below h hdr k hlt).2.2.2.1
   have d4:∀ W',Bw wr W'→W'.cell? ⟨d,off'+k * 5+4,none⟩=some (.int .i64 (E k).tr):=fun W' h=>(hqr.below h hdr k hlt).2.2.2.2
   have HB:Hid (Bw w wr):=hB
   have HLT:Hid (k<n):=hlt
   clear hB hpt hqt hpr hqr
   have hi:(k:Int)<(n:Int):=by omega
   have hi0:(0:Int)≤(k:Int):=by omega
   go_wp2
   go_region_held3 (fun W'=>Bw wr W') ((repeat (first|exact Qr _ _|assumption|refine Qd ?_|refine Qa ?_ _|refine Qt ?_|refine Qs ?_ _|refine Qo ?_ ?_ _ _)))
    (first
     | (go_at_call 100;refine (zF3 (E k) _).mono ?_;rintro e w' ⟨rfl,hb⟩)
     | fail)
   go_wp2
   go_roundw
   case rel=>exact ⟨k+1,by have:=HLT.out;omega,by go_num,zA HB.out (by assumption)⟩
   case measure=>have:=HLT.out;simp [intOf];omega
  ·go_wp2
   go_ret
   exact ⟨rfl,hB⟩
theorem zFd (a:Option Addr)(n cap left:Nat)(w:World)(hl:left≤1048576)(hn:left<n)(hm:n≤maxLen) :
  Calls Tryz.prog 42 #[.slice a n cap,.int .i64 (left:Int)] w fun e w'=>e=.returned (.int .i64 (-1))∧Bw w w':=by
 unfold maxLen at hm
 have hneg:(left:Int) - (n:Int)<0:=by omega
 go_enter Tryz.func42,Tryz.ntmps42
 go_wp2
 go_ret
 exact ⟨rfl,Qb⟩
theorem zFc (a:Option Addr)(n cap left:Nat)(w:World)(hl:left≤1048576)(hn:n≤left) :
  Calls Tryz.prog 42 #[.slice a n cap,.int .i64 (left:Int)] w fun e w'=>e=.returned (.int .i64 ((left:Int) - (n:Int)))∧Bw w w':=by
 have hneg:¬ (left:Int) - (n:Int)<0:=by omega
 go_enter Tryz.func42,Tryz.ntmps42
 go_wp2
 go_ret
 exact ⟨rfl,Qb⟩
def frK (G:Int→Int→Int)(x y:Int)(wd k:Nat):List Int:=(List.range k).map fun (k:Nat)=>G (x+((k % wd:Nat):Int)) (y+((k / wd:Nat):Int))
theorem zNz (G:Int→Int→Int)(x y:Int)(wd k:Nat):frK G x y wd (k+1)=frK G x y wd k ++ [G (x+((k % wd:Nat):Int)) (y+((k / wd:Nat):Int))]:=by simp [frK,List.range_succ]
theorem frK_len (G:Int→Int→Int)(x y:Int)(wd k:Nat):(frK G x y wd k).length=k:=by simp [frK]
theorem zJ9 (G:Int→Int→Int)(x y:Int)(wd r:Nat)(hw:0<wd):∀ c,c≤wd→frK G x y wd (r * wd+c)=frK G x y wd (r * wd) ++ (List.range c).map fun (c:Nat)=>G (x+(c:Int)) (y+(r:Int))
 | 0,_=>by simp
 | c+1,h=>by
  have e1:(r * wd+c) % wd=c:=by rw [Nat.add_comm,Nat.add_mul_mod_self_right];exact Nat.mod_eq_of_lt (by omega)
  have e2:(r * wd+c) / wd=r:=by rw [Nat.add_comm,Nat.add_mul_div_right _ _ hw,Nat.div_eq_of_lt (by omega)];omega
  rw [← Nat.add_assoc,zNz,zJ9 G x y wd r hw c (by omega),e1,e2,List.range_succ,List.map_append,← List.append_assoc]
  rfl
theorem zJ8 (G:Int→Int→Int)(x y:Int)(wd:Nat)(hw:0<wd):∀ ht,xL G x y wd ht=frK G x y wd (ht * wd)
 | 0=>by simp [xL,frK]
 | ht+1=>by
  rw [Nat.succ_mul,zJ9 G x y wd ht hw wd (Nat.le_refl _),← zJ8 G x y wd hw ht,← zEp]
  rfl
theorem zEr {z x y:Int}{wd ht:Nat}(h:zBh z x y wd ht=true)(m q:Nat)(hm:m<wd)(hq:q<ht):xZ z (x+(m:Int)) (y+(q:Int))=true:=by
 have hz:=uB h
 have hi:=xT h
 generalize hp:zAj z=pz at hi
 simp [xZ,inB,hz,hp]
 omega
end Go.Proofs.YtpaiholildedcaaGreat
