/- Texts. -/
import Derived.Test.YtpaiholildedcaaGreatVLabelsIn9
import Derived.Test.YtpaiholildedcaaGreatVLabelsIn8
import Derived.Test.YtpaiholildedcaaGreatVLabelsIn7
set_option linter.unusedSimpArgs false
set_option linter.unusedVariables false
set_option maxRecDepth 100000
set_option maxHeartbeats 32000000
namespace Go.Proofs.YtpaiholildedcaaGreat
open Go.RowKit
theorem uG (v lo hi:Int)(w:World):Calls Tryz.prog 32 #[.int .i64 v,.int .i64 lo,.int .i64 hi] w fun e w'=>e=.returned (.bool (inB v lo hi))∧w=w':=(zO v lo hi w).mono fun e w' ⟨he,hw⟩=>⟨he,hw.symm⟩
theorem zCa (ki n:Int)(w:World):Calls Tryz.prog 253 #[.int .i64 ki,.int .i64 n] w fun e w'=>e=.returned (.bool (xS ki n))∧w=w':=(zNs ki n w).mono fun e w' ⟨he,hw⟩=>⟨he,hw.symm⟩
theorem zQ (v lo hi:Int)(w:World):Calls Tryz.prog 62 #[.int .i64 v,.int .i64 lo,.int .i64 hi] w fun e w'=>e=.returned (.bool (inB v lo hi))∧w=w':=(zM v lo hi w).mono fun e w' ⟨he,hw⟩=>⟨he,hw.symm⟩
def yJ (w:World)(p o:Nat)(id la ki wi:Int)(pts:Value)(lab:ByteArray)(pr:Int):Prop :=
 w.cell? ⟨p,o,none⟩=some (.int .i64 id)∧w.cell? ⟨p,o+1,none⟩=some (.int .i64 la)∧w.cell? ⟨p,o+2,none⟩=some (.int .i64 ki)∧w.cell? ⟨p,o+3,none⟩=some (.int .i64 wi) ∧
 w.cell? ⟨p,o+4,none⟩=some pts∧w.cell? ⟨p,o+5,none⟩=some (.string lab)∧w.cell? ⟨p,o+6,none⟩=some (.int .i64 pr)
theorem yJ.below {w w':World}{p o B:Nat}{id la ki wi pr:Int}{pts:Value}{lab:ByteArray}(h:yJ w p o id la ki wi pts lab pr)(hb:Below B w w')(hp:p<B):yJ w' p o id la ki wi pts lab pr:=by
 obtain ⟨h0,h1,h2,h3,h4,h5,h6⟩:=h
 refine ⟨(hb.cell (p:=⟨p,o,none⟩) hp).trans h0,(hb.cell (p:=⟨p,o+1,none⟩) hp).trans h1,(hb.cell (p:=⟨p,o+2,none⟩) hp).trans h2,(hb.cell (p:=⟨p,o+3,none⟩) hp).trans h3,(hb.cell (p:=⟨p,o+4,none⟩) hp).trans h4,(hb.cell (p:=⟨p,o+5,none⟩) hp).trans h5,(hb.cell (p:=⟨p,o+6,none⟩) hp).trans h6⟩
def zKv (n:Nat)(X Y:Nat→Int):Bool:=decide (∀ i,i<n→inW (X i) (Y i)=true)
def zB5 (id la ki wi pr:Int):Bool:=inB id 1 999 && (inB la 0 9 && (inB ki 1 3 && (inB wi 0 3 && inB pr 0 9)))
def zI (id la ki wi:Int)(n:Nat)(X Y:Nat→Int)(lab:ByteArray)(pr:Int):Int :=
 if zB5 id la ki wi pr=true then (if xS ki n=true then (if zKv n X Y=true then (if zH2 lab=true then 0 else 5) else 3) else 2) else 3
theorem zAw {n:Nat}{X Y:Nat→Int}(k:Nat)(hk:k<n)(h:inW (X k) (Y k)=false):zKv n X Y=false:=by
 unfold zKv
 rw [decide_eq_false]
 intro hc
 have:=hc k hk
 rw [h] at this;cases this
theorem zK6 (p o:Nat)(id la ki wi:Int)(a:Option Addr)(n cap:Nat)(X Y:Nat→Int)(lab:ByteArray)(pr:Int)(w:World)(hf:yJ w p o id la ki wi (.slice a n cap) lab pr)(hpt:xY w a n X Y)(hl:lab.size≤1048576)(hn:n≤1048576) :
  Calls Tryz.prog 220 #[.pointer (some ⟨p,o,none⟩)] w fun e w'=>e=.returned (.int .i64 (zI id la ki wi n X Y lab pr))∧Bw w w':=by
 have hpl:p<w.heap.size:=World.block_lt_of_cell? _ _ hf.1
 have c0:∀ W',Bw w W'→W'.cell? ⟨p,o,none⟩=some (.int .i64 id):=fun W' h=>(hf.below h hpl).1
 have c1:∀ W',Bw w W'→W'.cell? ⟨p,o+1,none⟩=some (.int .i64 la):=fun W' h=>(hf.below h hpl).2.1
 have c2:∀ W',Bw w W'→W'.cell? ⟨p,o+2,none⟩=some (.int .i64 ki):=fun W' h=>(hf.below h hpl).2.2.1
 have c3:∀ W',Bw w W'→W'.cell? ⟨p,o+3,none⟩=some (.int .i64 wi):=fun W' h=>(hf.below h hpl).2.2.2.1
 have c4:∀ W',Bw w W'→W'.cell? ⟨p,o+4,none⟩=some (.slice a n cap):=fun W' h=>(hf.below h hpl).2.2.2.2.1
 have c5:∀ W',Bw w W'→W'.cell? ⟨p,o+5,none⟩=some (.string lab):=fun W' h=>(hf.below h hpl).2.2.2.2.2.1
 have c6:∀ W',Bw w W'→W'.cell? ⟨p,o+6,none⟩=some (.int .i64 pr):=fun W' h=>(hf.below h hpl).2.2.2.2.2.2
 obtain ⟨h0,h1,h2,h3,h4,h5,h6⟩:=hf
 have HP:Hid (xY w a n X Y):=hpt
 clear hpt
 cases e0:inB id 1 999
 ·have hz:Hid (zI id la ki wi n X Y lab pr=3):=by show _=_;simp [zI,zB5,e0]
  go_enter Tryz.func220,Tryz.ntmps220
  go_wp2_with (go_at_call 32;refine (uG _ _ _ _).mono ?_;rintro e w' ⟨rfl,rfl⟩)
  go_ret
  exact ⟨zE hz.out.symm,Qb⟩
 cases e1:inB la 0 9
 ·have hz:Hid (zI id la ki wi n X Y lab pr=3):=by show _=_;simp [zI,zB5,e0,e1]
  go_enter Tryz.func220,Tryz.ntmps220
  go_wp2_with (go_at_call 32;refine (uG _ _ _ _).mono ?_;rintro e w' ⟨rfl,rfl⟩)
  go_ret
  exact ⟨zE hz.out.symm,Qb⟩
 cases e2:inB ki 1 3
 ·have hz:Hid (zI id la ki wi n X Y lab pr=3):=by show _=_;simp [zI,zB5,e0,e1,e2]
  go_enter Tryz.func220,Tryz.ntmps220
  go_wp2_with (go_at_call 32;refine (uG _ _ _ _).mono ?_;rintro e w' ⟨rfl,rfl⟩)
  go_ret
  exact ⟨zE hz.out.symm,Qb⟩
 cases e3:inB wi 0 3
 ·have hz:Hid (zI id la ki wi n X Y lab pr=3):=by show _=_;simp [zI,zB5,e0,e1,e2,e3]
  go_enter Tryz.func220,Tryz.ntmps220
  go_wp2_with (go_at_call 32;refine (uG _ _ _ _).mono ?_;rintro e w' ⟨rfl,rfl⟩)
  go_ret
  exact ⟨zE hz.out.symm,Qb⟩
 cases e4:inB pr 0 9
 ·have hz:Hid (zI id la ki wi n X Y lab pr=3):=by show _=_;simp [zI,zB5,e0,e1,e2,e3,e4]
  go_enter Tryz.func220,Tryz.ntmps220
  go_wp2_with (go_at_call 32;refine (uG _ _ _ _).mono ?_;rintro e w' ⟨rfl,rfl⟩)
  go_ret
  exact ⟨zE hz.out.symm,Qb⟩
 have hr:Hid (zB5 id la ki wi pr=true):=by show _=_;simp [zB5,e0,e1,e2,e3,e4]
 cases e5:xS ki n
 ·have hz:Hid (zI id la ki wi n X Y lab pr=2):=by show _=_;simp [zI,hr.out,e5]
  go_enter Tryz.func220,Tryz.ntmps220
  go_wp2_with (first | (go_at_call 32;refine (uG _ _ _ _).mono ?_;rintro e w' ⟨rfl,rfl⟩) | (go_at_call 253;refine (zCa _ _ _).mono ?_;rintro e w' ⟨rfl,rfl⟩))
  go_region_held3 (fun W'=>Bw w W') ((repeat (first|exact Qr _ _|assumption|refine Qd ?_|refine Qa ?_ _|refine Qt ?_|refine Qs ?_ _|refine Qo ?_ ?_ _ _)))
   (first | (go_at_call 253;refine (zCa _ _ _).mono ?_;rintro e w' ⟨rfl,rfl⟩))
  go_wp2
  go_ret
  exact ⟨zE hz.out.symm,Qb⟩
 go_enter Tryz.func220,Tryz.ntmps220
 go_wp2_with (first | (go_at_call 32;refine (uG _ _ _ _).mono ?_;rintro e w' ⟨rfl,rfl⟩) | (go_at_call 253;refine (zCa _ _ _).mono ?_;rintro e w' ⟨rfl,rfl⟩))
 go_region_held3 (fun W'=>Bw w W') ((repeat (first|exact Qr _ _|assumption|refine Qd ?_|refine Qa ?_ _|refine Qt ?_|refine Qs ?_ _|refine Qo ?_ ?_ _ _)))
  (first | (go_at_call 253;refine (zCa _ _ _).mono ?_;rintro e w' ⟨rfl,rfl⟩))
 go_wp2
 go_loopw [3] (fun i wr=>∃ k:Nat,k≤n∧i=.int .i64 k∧(∀ j,j<k→inW (X j) (Y j)=true)∧Bw w wr) (fun i _=>n - (intOf i).toNat)
 case atStart=>exact ⟨0,by omega,rfl,by omega,(Below.refl _ _).drew⟩
 case round =>
  obtain ⟨k,hk,rfl,hA,hB⟩:=hrel
  have HA:Hid (∀ j,j<k→inW (X j) (Y j)=true):=hA
  have HB:Hid (Bw w wr):=hB
  clear h0 h1 h2 h3 h4 h5 h6 c0 c1 c2 c3 c6 hA
  by_cases hlt:k<n
  ·rcases HP.out with hz | ⟨b,off,rfl,hbl,hpt⟩
   ·omega
   have hi:(k:Int)<(n:Int):=by omega
   have hi0:(0:Int)≤(k:Int):=by omega
   have d4:∀ W',Bw wr W'→W'.cell? ⟨p,o+4,none⟩=some (.slice (some ⟨b,off,none⟩) n cap):=fun W' h=>c4 W' (hB.trans (h.mono hB.size))
   have dx:∀ W',Bw wr W'→W'.cell? ⟨b,off+k * 2,none⟩=some (.int .i64 (X k)):=fun W' h=>(hpt.below (hB.trans (h.mono hB.size)) hbl k hlt).1
   have dy:∀ W',Bw wr W'→W'.cell? ⟨b,off+k * 2+1,none⟩=some (.int .i64 (Y k)):=fun W' h=>(hpt.below (hB.trans (h.mono hB.size)) hbl k hlt).2
   clear c4 c5 hB hpt
   have hr0:Bw wr wr:=Below.refl _ _
   cases ex:inB (X k) 0 1024
   ·have hz:Hid (zI id la ki wi n X Y lab pr=3):=by show _=_;simp [zI,hr.out,e5,zAw k hlt (show inW (X k) (Y k)=false by simp [inW,ex])]
    go_wp2_with (go_at_call 32;refine (uG _ _ _ _).mono ?_;rintro e w' ⟨rfl,rfl⟩)
    go_ret
    exact ⟨zE hz.out.symm,HB.out⟩
   cases ey:inB (Y k) 0 1024
   ·have hz:Hid (zI id la ki wi n X Y lab pr=3):=by show _=_;simp [zI,hr.out,e5,zAw k hlt (show inW (X k) (Y k)=false by simp [inW,ex,ey])]
    go_wp2_with (go_at_call 32;refine (uG _ _ _ _).mono ?_;rintro e w' ⟨rfl,rfl⟩)
    go_ret
    exact ⟨zE hz.out.symm,HB.out⟩
   have HI:Hid (inW (X k) (Y k)=true):=by show _=_;simp [inW,ex,ey]
   go_wp2_with (go_at_call 32;refine (uG _ _ _ _).mono ?_;rintro e w' ⟨rfl,rfl⟩)
   go_roundw
   case rel=>exact ⟨k+1,by omega,by go_num,fun j hj=>by
     by_cases e:j=k
     ·rw [e];exact HI.out
     ·exact HA.out j (by omega),HB.out⟩
   case measure=>simp [intOf];omega
  ·have hz:Hid (zI id la ki wi n X Y lab pr=if zH2 lab=true then 0 else 5):=by
    show _=_
    have:zKv n X Y=true:=decide_eq_true (fun i hi=>HA.out i (by omega))
    simp [zI,hr.out,e5,this]
   have d4:=c4 wr hB
   have d5:=c5 wr hB
   clear c4 c5
   cases el:zH2 lab
   all_goals
    go_wp2_with (go_at_call 254;refine (zK5 _ _ hl).mono ?_;rintro e w' ⟨rfl,hb⟩)
    go_ret
    exact ⟨zE (by rw [hz.out];simp [el]),zA HB.out hb⟩
theorem zRd {px py ax ay bx by':Int}(ha:okP ax ay=true)(hb:okP bx by'=true):0≤vA px py ax ay bx by'∧vA px py ax ay bx by'≤52428800:=by
 obtain ⟨d1,d2⟩:=zQo ha hb
 unfold vA
 split
 ·omega
 ·split <;> omega
theorem zGe {px py ax ay bx by' r:Int}(h:r<0∨4096<r):zT px py ax ay bx by' r=false:=by
 have hr:inB r 0 4096=false:=by
  rcases h with h | h <;> simp [inB] <;> omega
 simp [zT,hr]
theorem zEj (px py ax ay bx by' r:Int)(w:World)(h:r<0) :
  Calls Tryz.prog 294 #[.agg #[.int .i64 px,.int .i64 py],.agg #[.int .i64 ax,.int .i64 ay],.agg #[.int .i64 bx,.int .i64 by'],.int .i64 r] w fun e w'=>e=.returned (.bool (zT px py ax ay bx by' r))∧Bw w w':=by
 have HE:Hid _:=zGe (px:=px) (py:=py) (ax:=ax) (ay:=ay) (bx:=bx) (by':=by') (.inl h)
 go_enter Tryz.func294,Tryz.ntmps294
 go_wp2
 go_ret
 exact ⟨zF HE.out.symm,Qb⟩
theorem zEk (px py ax ay bx by' r:Int)(w:World)(h:4096<r) :
  Calls Tryz.prog 294 #[.agg #[.int .i64 px,.int .i64 py],.agg #[.int .i64 ax,.int .i64 ay],.agg #[.int .i64 bx,.int .i64 by'],.int .i64 r] w fun e w'=>e=.returned (.bool (zT px py ax ay bx by' r))∧Bw w w':=by
 have HE:Hid _:=zGe (px:=px) (py:=py) (ax:=ax) (ay:=ay) (bx:=bx) (by':=by') (.inr h)
 have h2:decide (r<0)=false:=by simp;omega
 go_enter Tryz.func294,Tryz.ntmps294
 go_wp2
 go_ret
 exact ⟨zF HE.out.symm,Qb⟩
theorem zHp (px py ax ay bx by' r:Int)(w:World)(hr0:0≤r)(hr1:r≤4096)(h:okP px py=false) :
  Calls Tryz.prog 294 #[.agg #[.int .i64 px,.int .i64 py],.agg #[.int .i64 ax,.int .i64 ay],.agg #[.int .i64 bx,.int .i64 by'],.int .i64 r] w fun e w'=>e=.returned (.bool (zT px py ax ay bx by' r))∧Bw w w':=by
 have HN:Hid _:=zSp px py ax ay bx by' h
 have HE:Hid (zT px py ax ay bx by' r=false):=by
  show _=_
  simp [zT,h]
 clear h
 go_enter Tryz.func294,Tryz.ntmps294
 go_wp2_with fail
 generalize hV:((((w.alloc _).alloc _).alloc _).alloc _:World)=V
 have hB0:Bw w V:=by subst hV;exact Qb
 have g0:V.cell? ⟨w.heap.size+1+1+1,0,none⟩=some (.int .i64 px):=by subst hV;simp [go_sem]
 have g1:V.cell? ⟨w.heap.size+1+1+1,1,none⟩=some (.int .i64 py):=by subst hV;simp [go_sem]
 have g2:V.cell? ⟨w.heap.size+1+1+1,2,none⟩=some (.int .i64 ax):=by subst hV;simp [go_sem]
 have g3:V.cell? ⟨w.heap.size+1+1+1,3,none⟩=some (.int .i64 ay):=by subst hV;simp [go_sem]
 have g4:V.cell? ⟨w.heap.size+1+1+1,4,none⟩=some (.int .i64 bx):=by subst hV;simp [go_sem]
 have g5:V.cell? ⟨w.heap.size+1+1+1,5,none⟩=some (.int .i64 by'):=by subst hV;simp [go_sem]
 clear hV
 have HB0:Hid (Bw w V):=hB0
 clear hB0
 refine (zDi _ _ px py ax ay bx by' _ _ g0 g1 g2 g3 g4 g5 (by omega) HN.out).mono ?_
 rintro e W ⟨rfl,hbW⟩
 clear g0 g1 g2 g3 g4 g5
 go_wp2
 go_ret
 exact ⟨zF HE.out.symm,zA HB0.out hbW⟩
theorem zHo (px py ax ay bx by' r:Int)(w:World)(hr0:0≤r)(hr1:r≤4096)(h:okP ax ay=false) :
  Calls Tryz.prog 294 #[.agg #[.int .i64 px,.int .i64 py],.agg #[.int .i64 ax,.int .i64 ay],.agg #[.int .i64 bx,.int .i64 by'],.int .i64 r] w fun e w'=>e=.returned (.bool (zT px py ax ay bx by' r))∧Bw w w':=by
 have HN:Hid _:=zSo px py ax ay bx by' h
 have HE:Hid (zT px py ax ay bx by' r=false):=by
  show _=_
  simp [zT,h]
 clear h
 go_enter Tryz.func294,Tryz.ntmps294
 go_wp2_with fail
 generalize hV:((((w.alloc _).alloc _).alloc _).alloc _:World)=V
 have hB0:Bw w V:=by subst hV;exact Qb
 have g0:V.cell? ⟨w.heap.size+1+1+1,0,none⟩=some (.int .i64 px):=by subst hV;simp [go_sem]
 have g1:V.cell? ⟨w.heap.size+1+1+1,1,none⟩=some (.int .i64 py):=by subst hV;simp [go_sem]
 have g2:V.cell? ⟨w.heap.size+1+1+1,2,none⟩=some (.int .i64 ax):=by subst hV;simp [go_sem]
 have g3:V.cell? ⟨w.heap.size+1+1+1,3,none⟩=some (.int .i64 ay):=by subst hV;simp [go_sem]
 have g4:V.cell? ⟨w.heap.size+1+1+1,4,none⟩=some (.int .i64 bx):=by subst hV;simp [go_sem]
 have g5:V.cell? ⟨w.heap.size+1+1+1,5,none⟩=some (.int .i64 by'):=by subst hV;simp [go_sem]
 clear hV
 have HB0:Hid (Bw w V):=hB0
 clear hB0
 refine (zDi _ _ px py ax ay bx by' _ _ g0 g1 g2 g3 g4 g5 (by omega) HN.out).mono ?_
 rintro e W ⟨rfl,hbW⟩
 clear g0 g1 g2 g3 g4 g5
 go_wp2
 go_ret
 exact ⟨zF HE.out.symm,zA HB0.out hbW⟩
theorem zHn (px py ax ay bx by' r:Int)(w:World)(hr0:0≤r)(hr1:r≤4096)(h:okP bx by'=false) :
  Calls Tryz.prog 294 #[.agg #[.int .i64 px,.int .i64 py],.agg #[.int .i64 ax,.int .i64 ay],.agg #[.int .i64 bx,.int .i64 by'],.int .i64 r] w fun e w'=>e=.returned (.bool (zT px py ax ay bx by' r))∧Bw w w':=by
 have HN:Hid _:=zSn px py ax ay bx by' h
 have HE:Hid (zT px py ax ay bx by' r=false):=by
  show _=_
  simp [zT,h]
 clear h
 go_enter Tryz.func294,Tryz.ntmps294
 go_wp2_with fail
 generalize hV:((((w.alloc _).alloc _).alloc _).alloc _:World)=V
 have hB0:Bw w V:=by subst hV;exact Qb
 have g0:V.cell? ⟨w.heap.size+1+1+1,0,none⟩=some (.int .i64 px):=by subst hV;simp [go_sem]
 have g1:V.cell? ⟨w.heap.size+1+1+1,1,none⟩=some (.int .i64 py):=by subst hV;simp [go_sem]
 have g2:V.cell? ⟨w.heap.size+1+1+1,2,none⟩=some (.int .i64 ax):=by subst hV;simp [go_sem]
 have g3:V.cell? ⟨w.heap.size+1+1+1,3,none⟩=some (.int .i64 ay):=by subst hV;simp [go_sem]
 have g4:V.cell? ⟨w.heap.size+1+1+1,4,none⟩=some (.int .i64 bx):=by subst hV;simp [go_sem]
 have g5:V.cell? ⟨w.heap.size+1+1+1,5,none⟩=some (.int .i64 by'):=by subst hV;simp [go_sem]
 clear hV
 have HB0:Hid (Bw w V):=hB0
 clear hB0
 refine (zDi _ _ px py ax ay bx by' _ _ g0 g1 g2 g3 g4 g5 (by omega) HN.out).mono ?_
 rintro e W ⟨rfl,hbW⟩
 clear g0 g1 g2 g3 g4 g5
 go_wp2
 go_ret
 exact ⟨zF HE.out.symm,zA HB0.out hbW⟩
theorem zFl (px py ax ay bx by' r:Int)(w:World)(hr0:0≤r)(hr1:r≤4096)(hp:okP px py=true)(ha:okP ax ay=true)(hb:okP bx by'=true) :
  Calls Tryz.prog 294 #[.agg #[.int .i64 px,.int .i64 py],.agg #[.int .i64 ax,.int .i64 ay],.agg #[.int .i64 bx,.int .i64 by'],.int .i64 r] w fun e w'=>e=.returned (.bool (zT px py ax ay bx by' r))∧Bw w w':=by
 have HN:Hid _:=zQr px py ax ay bx by' hp ha hb
 have HE:Hid (zT px py ax ay bx by' r=decide (zCn px py ax ay bx by'≤r * r * vA px py ax ay bx by')):=by
  show _=_
  have hr:inB r 0 4096=true:=by simp [inB];omega
  simp [zT,hp,ha,hb,hr,zB9]
 obtain ⟨s1,s2⟩:=sq_bd hr0 hr1
 obtain ⟨d1,d2⟩:=zRd (px:=px) (py:=py) ha hb
 obtain ⟨x5,x6⟩:=xL (a:=r * r) (b:=vA px py ax ay bx by') (B:=16777216) (C:=52428800) (by omega) (by omega) (by omega) (by omega) (by omega)
 have HP:Hid _:=hp
 have HA:Hid _:=ha
 have HB:Hid _:=hb
 clear hp ha hb
 go_enter Tryz.func294,Tryz.ntmps294
 go_wp2_with fail
 generalize hV:((((w.alloc _).alloc _).alloc _).alloc _:World)=V
 have hB0:Bw w V:=by subst hV;exact Qb
 have g0:V.cell? ⟨w.heap.size+1+1+1,0,none⟩=some (.int .i64 px):=by subst hV;simp [go_sem]
 have g1:V.cell? ⟨w.heap.size+1+1+1,1,none⟩=some (.int .i64 py):=by subst hV;simp [go_sem]
 have g2:V.cell? ⟨w.heap.size+1+1+1,2,none⟩=some (.int .i64 ax):=by subst hV;simp [go_sem]
 have g3:V.cell? ⟨w.heap.size+1+1+1,3,none⟩=some (.int .i64 ay):=by subst hV;simp [go_sem]
 have g4:V.cell? ⟨w.heap.size+1+1+1,4,none⟩=some (.int .i64 bx):=by subst hV;simp [go_sem]
 have g5:V.cell? ⟨w.heap.size+1+1+1,5,none⟩=some (.int .i64 by'):=by subst hV;simp [go_sem]
 have c00:∀ W',Bw V W'→W'.cell? ⟨w.heap.size,0,none⟩=some (.int .i64 px):=Qc hV
 have c01:∀ W',Bw V W'→W'.cell? ⟨w.heap.size,1,none⟩=some (.int .i64 py):=Qc hV
 have c10:∀ W',Bw V W'→W'.cell? ⟨w.heap.size+1,0,none⟩=some (.int .i64 ax):=Qc hV
 have c11:∀ W',Bw V W'→W'.cell? ⟨w.heap.size+1,1,none⟩=some (.int .i64 ay):=Qc hV
 have c20:∀ W',Bw V W'→W'.cell? ⟨w.heap.size+1+1,0,none⟩=some (.int .i64 bx):=Qc hV
 have c21:∀ W',Bw V W'→W'.cell? ⟨w.heap.size+1+1,1,none⟩=some (.int .i64 by'):=Qc hV
 clear hV
 have HB0:Hid (Bw w V):=hB0
 clear hB0
 refine (zDi _ _ px py ax ay bx by' _ _ g0 g1 g2 g3 g4 g5 (by omega) HN.out).mono ?_
 rintro e W ⟨rfl,hbW⟩
 clear g0 g1 g2 g3 g4 g5
 replace HB0:Hid (Bw w W):=zA HB0.out hbW
 have HVW:Hid (∀ W',Bw W W'→Bw V W'):=fun W' h=>zA hbW h
 replace c00:=fun W' h=>c00 W' (HVW.out W' h)
 replace c01:=fun W' h=>c01 W' (HVW.out W' h)
 replace c10:=fun W' h=>c10 W' (HVW.out W' h)
 replace c11:=fun W' h=>c11 W' (HVW.out W' h)
 replace c20:=fun W' h=>c20 W' (HVW.out W' h)
 replace c21:=fun W' h=>c21 W' (HVW.out W' h)
 clear hbW
 go_wp2
 go_region_held3 (fun W'=>Bw W W') ((repeat (first|exact Qr _ _|assumption|refine Qd ?_|refine Qa ?_ _|refine Qt ?_|refine Qs ?_ _|refine Qo ?_ ?_ _ _)))
  (first
   | (go_at_call 302;refine (uO _ _ _).mono ?_;rintro e w1 ⟨rfl,hb⟩)
   | (go_at_call 304;refine (zQe _ _ _ _ _ _ _ HP.out HA.out HB.out).mono ?_;rintro e w1 ⟨rfl,hb⟩))
 go_wp2
 go_ret
 exact ⟨zF HE.out.symm,zA HB0.out (by assumption)⟩
theorem zEl (px py ax ay bx by' r:Int)(w:World):Calls Tryz.prog 294 #[.agg #[.int .i64 px,.int .i64 py],.agg #[.int .i64 ax,.int .i64 ay],.agg #[.int .i64 bx,.int .i64 by'],.int .i64 r] w fun e w'=>e=.returned (.bool (zT px py ax ay bx by' r))∧Bw w w':=by
 by_cases h0:r<0
 ·exact zEj _ _ _ _ _ _ _ _ h0
 by_cases h1:4096<r
 ·exact zEk _ _ _ _ _ _ _ _ h1
 have hr0:0≤r:=by omega
 have hr1:r≤4096:=by omega
 cases hp:okP px py
 ·exact zHp _ _ _ _ _ _ _ _ hr0 hr1 hp
 cases ha:okP ax ay
 ·exact zHo _ _ _ _ _ _ _ _ hr0 hr1 ha
 cases hb:okP bx by'
 ·exact zHn _ _ _ _ _ _ _ _ hr0 hr1 hb
 exact zFl _ _ _ _ _ _ _ _ hr0 hr1 hp ha hb
theorem zSm (px py ax ay bx by':Int):yZ px py bx by'=yZ px py ax ay - 2 * xB px py ax ay bx by'+yZ ax ay bx by':=by
 unfold yZ xB;grind
theorem zR3 (px py ax ay bx by':Int):yA ax ay bx by' px py * yA ax ay bx by' px py+xB px py ax ay bx by' * xB px py ax ay bx by'=yZ ax ay bx by' * yZ px py ax ay:=by
 unfold yA xB yZ;grind
theorem zLr (ax ay bx by':Int):0≤yZ ax ay bx by':=by
 have s1:=uK (bx - ax)
 have s2:=uK (by' - ay)
 unfold yZ;omega
theorem zPp {px py ax ay bx by' r:Int}(h:yZ px py ax ay≤r * r):zB9 px py ax ay bx by' r=true:=by
 have hs:=zLr ax ay bx by'
 have hv:=zSm px py ax ay bx by'
 have hl:=zR3 px py ax ay bx by'
 have hq:=uK (xB px py ax ay bx by')
 apply decide_eq_true
 unfold zCn vA
 by_cases c1:xB px py ax ay bx by'≤0
 ·simp only [c1,if_true];omega
 ·by_cases c2:yZ ax ay bx by'≤xB px py ax ay bx by'
  ·simp only [c1,c2,if_true,if_false];omega
  ·simp only [c1,c2,if_false]
   have h3:yZ ax ay bx by' * yZ px py ax ay≤yZ ax ay bx by' * (r * r):=Int.mul_le_mul_of_nonneg_left h hs
   rw [Int.mul_comm (r * r)]
   omega
def byB (cx cy r:Int)(X Y:Nat→Int):Nat→Bool
 | 0=>false
 | k+1=>byB cx cy r X Y k || zT cx cy (X (k - 1)) (Y (k - 1)) (X k) (Y k) r
def zF1 (cx cy r:Int)(X Y:Nat→Int):Nat→Bool
 | 0=>false
 | k+1=>zF1 cx cy r X Y k || zT cx cy (X k) (Y k) (X (k+1)) (Y (k+1)) r
theorem zQx (cx cy r:Int)(X Y:Nat→Int):∀ k,byB cx cy r X Y (k+1)=(zT cx cy (X 0) (Y 0) (X 0) (Y 0) r || zF1 cx cy r X Y k)
 | 0=>by simp [byB,zF1]
 | k+1=>by
  rw [byB,zQx cx cy r X Y k,zF1,Bool.or_assoc]
  rfl
theorem zPo {px py ax ay bx by' r:Int}(h:zT px py ax ay ax ay r=true)(hb:okP bx by'=true):zT px py ax ay bx by' r=true:=by
 simp only [zT,Bool.and_eq_true] at h ⊢
 obtain ⟨h1,h2,h3,h4,h5⟩:=h
 refine ⟨h1,h2,hb,h4,zPp ?_⟩
 have:=of_decide_eq_true h5
 have ha:xB px py ax ay ax ay=0:=by simp [xB]
 simp only [zCn,vA,ha,Int.le_refl,if_true] at this
 omega
theorem zF0 (cx cy r:Int)(X Y:Nat→Int)(h:zT cx cy (X 0) (Y 0) (X 1) (Y 1) r=true):∀ k,zF1 cx cy r X Y (k+1)=true
 | 0=>by simp [zF1,h]
 | k+1=>by rw [zF1,zF0 cx cy r X Y h k];rfl
theorem zSx (cx cy r:Int)(X Y:Nat→Int)(n:Nat)(hn:2≤n)(h1:okP (X 1) (Y 1)=true):byB cx cy r X Y n=zF1 cx cy r X Y (n - 1):=by
 obtain ⟨k,rfl⟩:∃ k,n=k+2:=⟨n - 2,by omega⟩
 rw [zQx]
 show _=zF1 cx cy r X Y (k+1)
 cases h:zT cx cy (X 0) (Y 0) (X 0) (Y 0) r
 ·rfl
 ·rw [zF0 cx cy r X Y (zPo h h1) k];rfl
theorem zSw {cx cy r:Int}{X Y:Nat→Int}(k:Nat)(h:byB cx cy r X Y k=true):∀ n,k≤n→byB cx cy r X Y n=true:=by
 intro n hn
 induction n with
 | zero=>rw [show k=0 by omega] at h;exact h
 | succ m ih =>
  by_cases e:k=m+1
  ·rw [← e];exact h
  ·rw [byB,ih (by omega)];rfl
theorem zO9 {cx cy r:Int}{X Y:Nat→Int}(k:Nat)(h:zF1 cx cy r X Y k=true):∀ n,k≤n→zF1 cx cy r X Y n=true:=by
 intro n hn
 induction n with
 | zero=>rw [show k=0 by omega] at h;exact h
 | succ m ih =>
  by_cases e:k=m+1
  ·rw [← e];exact h
  ·rw [zF1,ih (by omega)];rfl
theorem zJc (cx cy r:Int)(b n cap:Nat)(X Y:Nat→Int)(w:World)(hp:zK w b 0 n X Y)(hbl:b<w.heap.size)(hn:0<n)(hmax:n≤1048576)(hcap:n≤cap) :
  Calls Tryz.prog 273 #[.agg #[.int .i64 cx,.int .i64 cy],.slice (some ⟨b,0,none⟩) n cap,.int .i64 r] w fun e w'=>e=.returned (.bool (byB cx cy r X Y n))∧Bw w w':=by
 have HP:Hid (zK w b 0 n X Y):=hp
 obtain ⟨e0,e1⟩:=hp 0 hn
 simp only [Nat.zero_add,Nat.zero_mul] at e0 e1
 clear hp
 have hni:(0:Int)<(n:Int):=by omega
 go_enter Tryz.func273,Tryz.ntmps273
 go_wp2_with fail
 generalize hW:((w.alloc _).alloc _:World)=W
 have HB0:Hid (Bw w W):=by show Below _ _ _;subst hW;exact Qb
 have hT:zD W (w.heap.size+1) 2:=by
  subst hW
  have:=there2 (w.alloc (.cells #[.int .i64 cx,.int .i64 cy] 215)) (.int .i64 (X 0)) (.int .i64 (Y 0)) 215
  simpa using this
 have c00:∀ W',Bw W W'→W'.cell? ⟨w.heap.size,0,none⟩=some (.int .i64 cx):=Qc hW
 have c01:∀ W',Bw W W'→W'.cell? ⟨w.heap.size,1,none⟩=some (.int .i64 cy):=Qc hW
 have c10:∀ W',Bw W W'→W'.cell? ⟨w.heap.size+1,0,none⟩=some (.int .i64 (X 0)):=Qc hW
 have c11:∀ W',Bw W W'→W'.cell? ⟨w.heap.size+1,1,none⟩=some (.int .i64 (Y 0)):=Qc hW
 have hszW:W.heap.size=w.heap.size+1+1:=by subst hW;simp
 clear hW
 have q0:=c00 W (Below.refl _ _)
 have q1:=c01 W (Below.refl _ _)
 have q2:=c10 W (Below.refl _ _)
 have q3:=c11 W (Below.refl _ _)
 clear c00 c01 c10 c11
 go_loopw [15] (fun i wr=>∃ k:Nat,k≤n∧i=.int .i64 (k:Int)∧byB cx cy r X Y k=false∧Below (w.heap.size+1) W wr∧zD wr (w.heap.size+1) 2∧wr.cell? ⟨w.heap.size+1,0,none⟩=some (.int .i64 (X (k - 1)))∧wr.cell? ⟨w.heap.size+1,1,none⟩=some (.int .i64 (Y (k - 1)))) (fun i _=>n - (intOf i).toNat)
 case atStart=>exact ⟨0,by omega,rfl,rfl,Below.refl _ _,hT,q2,q3⟩
 case round =>
  obtain ⟨k,hk,rfl,hF,hB,hT',f0,f1⟩:=hrel
  have HB:Hid (Below (w.heap.size+1) W wr):=hB
  have HBw:Hid (Bw w wr):=HB0.out.trans (hB.mono (by omega))
  have HF:Hid (byB cx cy r X Y k=false):=hF
  have hszr:=hB.size
  have g0:=(hB.cell (p:=⟨w.heap.size,0,none⟩) (by show w.heap.size<_;omega)).trans q0
  have g1:=(hB.cell (p:=⟨w.heap.size,1,none⟩) (by show w.heap.size<_;omega)).trans q1
  clear hB hF
  by_cases hlt:k<n
  ·obtain ⟨hx,hy⟩:=(HP.out.below HBw.out hbl) k hlt
   simp only [Nat.zero_add] at hx hy
   have hi':(k:Int)<(n:Int):=by omega
   have hbw:b<wr.heap.size:=by omega
   have HT:Hid (zD wr (w.heap.size+1) 2):=hT'
   have hl0:w.heap.size<wr.heap.size:=by omega
   have hl1:w.heap.size+1<wr.heap.size:=by omega
   clear hT'
   go_wp2_with fail
   generalize hV:(wr.alloc _:World)=V
   have hbV:Bw wr V:=by subst hV;exact Qb
   have d0:∀ W',Bw V W'→W'.cell? ⟨wr.heap.size,0,none⟩=some (.int .i64 (X k)):=Qc hV
   have d1:∀ W',Bw V W'→W'.cell? ⟨wr.heap.size,1,none⟩=some (.int .i64 (Y k)):=Qc hV
   have hszV:wr.heap.size<V.heap.size:=by subst hV;simp
   clear hV hx hy
   refine (zEl _ _ _ _ _ _ _ _).mono ?_
   rintro e w1 ⟨rfl,hb1⟩
   have hbr1:=zA hbV hb1
   have HB1:Hid (Bw w w1):=zA HBw.out hbr1
   cases hq:zT cx cy (X (k - 1)) (Y (k - 1)) (X k) (Y k) r
   ·have hT1:=HT.out.below hbr1
    have t0:=hT1.cell 0 (by omega)
    have t1:=hT1.cell 1 (by omega)
    have z0:=(hT1 0 (by omega)).2
    have z1:=(hT1 1 (by omega)).2
    have p0:=d0 w1 hb1
    have p1:=d1 w1 hb1
    have HT1:Hid (zD w1 (w.heap.size+1) 2):=hT1
    have HBW1:Hid (Below (w.heap.size+1) W w1):=HB.out.trans (hbr1.mono (by omega))
    have hsz1:=hbr1.size
    have HK:Hid (byB cx cy r X Y (k+1)=false):=by show _=_;rw [byB,HF.out,hq];rfl
    clear hT1 d0 d1 hbr1 hb1 hbV f0 f1 g0 g1
    go_wp2_with fail
    go_roundw
    case rel =>
     refine ⟨k+1,by omega,by go_num,HK.out,(HBW1.out.setCell (by show w.heap.size+1≤w.heap.size+1;omega) _).setCell (by show w.heap.size+1≤w.heap.size+1;omega) _,?_,zS7 (Option.isSome_iff_exists.2 ⟨_,t0⟩),zS6 (Option.isSome_iff_exists.2 ⟨_,t1⟩)⟩
     exact (HT1.out.set 0 _).set 1 _
    case measure=>simp [intOf];omega
   ·have HK:Hid (byB cx cy r X Y n=true):=zSw (k+1) (by rw [byB,hq];simp) n (by omega)
    go_wp2_with fail
    go_ret
    exact ⟨zF (by rw [HK.out]),HB1.out⟩
  ·have hkn:k=n:=by omega
   subst hkn
   go_wp2_with fail
   go_ret
   exact ⟨zF (by rw [HF.out]),HBw.out⟩
theorem zI9 (cx cy r:Int)(b n cap:Nat)(X Y:Nat→Int)(w:World)(hp:zK w b 0 n X Y)(hbl:b<w.heap.size)(hmax:n≤1048576)(hcap:n≤cap) :
  Calls Tryz.prog 272 #[.agg #[.int .i64 cx,.int .i64 cy],.slice (some ⟨b,0,none⟩) n cap,.int .i64 r] w fun e w'=>e=.returned (.bool (yL cx cy n X Y))∧Bw w w':=by
 have HP:Hid (zK w b 0 n X Y):=hp
 clear hp
 go_enter Tryz.func272,Tryz.ntmps272
 go_wp2_with fail
 generalize hW:(w.alloc _:World)=W
 have hB0:Bw w W:=by subst hW;exact Qb
 clear hW
 refine (zCv _ _ b n cap X Y W (HP.out.below hB0 hbl) (Nat.lt_of_lt_of_le hbl hB0.size) hcap hmax).mono ?_
 rintro e w1 ⟨rfl,hb1⟩
 go_wp2_with fail
 go_ret
 exact ⟨rfl,zA hB0 hb1⟩
theorem zNd (f:Nat)(caps:Array Value)(z x y:Int)(G:Int→Int→Int)(w:World)(h:zAv z x y=true)(hce:∀ args w,(callFunc f args).run Tryz.prog w=.ok (.enter f args) w)(hF:∀ W c r,Bw w W→c<8→r<8→Calls Tryz.prog f (#[.int .i64 (x * 8+(c:Nat)),.int .i64 (y * 8+(r:Nat))] ++ caps) W fun e W'=>e=.returned (.int .i64 (G (x * 8+(c:Nat)) (y * 8+(r:Nat))))∧Bw W W') :
  Calls Tryz.prog 209 #[uL z x y,.func (.func f) #[] caps] w fun e w'=>∃ v,e=.returned v∧zAq w.heap.size w' v (zB4 G (x * 8) (y * 8) 8 8)∧Bw w w':=by
 obtain ⟨⟨z0,z1⟩,⟨x0,x1⟩,y0,y1⟩:=zTc h
 have HF:=(show Hid _ from hF)
 have HE:=(show Hid _ from hce)
 clear hF hce h
 go_enter Tryz.func209,Tryz.ntmps209
 go_wp2_with fail
 generalize hW:(w.alloc _:World)=W
 have hB0:Bw w W:=by subst hW;exact Qb
 clear hW
 refine (zIm f caps (x * 8) (y * 8) 8 8 G W (Nat.le_refl _) (Nat.le_refl _) (by omega) (by omega) HE.out (fun W' c r hb hc hr=>HF.out W' c r (zA hB0 hb) hc hr)).mono ?_
 rintro e w' ⟨v,rfl,hO,hb⟩
 have HB:Hid (Bw w w'):=zA hB0 hb
 have HO:Hid (zAq w.heap.size w' v (zB4 G (x * 8) (y * 8) 8 8)):=hO.wide hB0.size
 clear hO hb hB0
 go_wp2_with fail
 go_ret
 exact ⟨_,rfl,HO.out,HB.out⟩

end Go.Proofs.YtpaiholildedcaaGreat
