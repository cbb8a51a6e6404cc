/- Texts. -/
import Derived.Test.YtkjbafcalamgnaaGreatVSizeViewer6
import Derived.Test.YtkjbafcalamgnaaGreatVSizeViewer4
import Derived.Test.YtkjbafcalamgnaaGreatVSizeViewer7
set_option linter.unusedSimpArgs false
set_option linter.unusedVariables false
set_option maxRecDepth 100000
set_option maxHeartbeats 32000000
namespace Go.Proofs.YtkjbafcalamgnaaGreat
open Go.RowKit
def zF5 (s:ByteArray)(i:Nat):Int:=if h:i<s.size then ((s[i]'h).toNat:Int) else 0
theorem zQu (s:ByteArray)(i:Nat)(h:i<s.size):zF5 s i=((s[i]'h).toNat:Int):=by simp [zF5,h]
def zQx (s:ByteArray):Bool:=decide (∀ i,i<s.size→zO4 (zF5 s i)=true)
def zLy (s:ByteArray):Bool:=decide (s.size≤6) && zQx s
theorem zUa {s:ByteArray}(h:6<s.size):zLy s=false:=by simp [zLy];omega
theorem zK0 {s:ByteArray}(k:Nat)(hk:k<s.size)(h:zO4 (zF5 s k)=false):zLy s=false:=by
 have:zQx s=false:=by
  unfold zQx
  rw [decide_eq_false]
  intro hc
  have:=hc k hk
  rw [h] at this;cases this
 simp [zLy,this]
theorem zQe {s:ByteArray}(h:∀ i,i<s.size→zO4 (zF5 s i)=true):zLy s=decide (s.size≤6):=by
 have:zQx s=true:=decide_eq_true h
 simp [zLy,this]
theorem zDh (s:ByteArray)(w:World)(hs:s.size≤1048576):Calls Tryz.prog 150 #[.string s] w fun e w'=>e=.returned (.bool (zLy s))∧Bw w w':=by
 by_cases h6:(6:Int)<s.size
 ·go_enter Tryz.func150,Tryz.ntmps150
  go_wp2
  go_ret
  exact ⟨zG (zUa (by omega)).symm,Qb⟩
 ·go_enter Tryz.func150,Tryz.ntmps150
  go_wp2
  go_loopw [9] (fun i wr=>∃ k:Nat,k≤s.size∧i=.int .i64 k∧(∀ j,j<k→zO4 (zF5 s j)=true)∧Bw w wr) (fun i _=>s.size - (intOf i).toNat)
  case atStart=>exact ⟨0,by omega,rfl,by omega,Below.refl _ _⟩
  case round =>
   obtain ⟨k,hk,rfl,hA,hB⟩:=hrel
   by_cases hlt:k<s.size
   ·have hi:(k:Int)<(s.size:Int):=by omega
    have HA:Hid (∀ j,j<k→zO4 (zF5 s j)=true):=hA
    have HB:Hid (Bw w wr):=hB
    have hbk:=(zQu s k hlt).symm
    clear hA hB
    go_wp2_with fail
    refine (zM5 _ _).mono ?_
    rintro e w' ⟨rfl,rfl⟩
    cases hl:zO4 (zF5 s k)
    ·go_wp2
     go_ret
     exact ⟨zG (zK0 k hlt hl).symm,HB.out⟩
    ·have HL:Hid (zO4 (zF5 s k)=true):=hl
     clear hl
     go_wp2
     go_roundw
     case rel=>exact ⟨k+1,by omega,by go_num,fun j hj=>by
       by_cases e:j=k
       ·rw [e];exact HL.out
       ·exact HA.out j (by omega),HB.out⟩
     case measure=>simp [intOf];omega
   ·go_wp2
    go_ret
    exact ⟨zG (by rw [zQe (fun i hi=>hA i (by omega))];simp;omega),hB⟩
theorem zO6 (s:ByteArray)(w:World)(hs:s.size≤1048576):Calls Tryz.prog 185 #[.string s] w fun e w'=>e=.returned (.bool (zLy s))∧Bw w w':=by
  go_enter Tryz.func185,Tryz.ntmps185
  go_wp2
  go_loopw [3] (fun i wr=>∃ k:Nat,k≤s.size∧i=.int .i64 k∧(∀ j,j<k→zO4 (zF5 s j)=true)∧Bw w wr) (fun i _=>s.size - (intOf i).toNat)
  case atStart=>exact ⟨0,by omega,rfl,by omega,Below.refl _ _⟩
  case round =>
   obtain ⟨k,hk,rfl,hA,hB⟩:=hrel
   by_cases hlt:k<s.size
   ·have hi:(k:Int)<(s.size:Int):=by omega
    have HA:Hid (∀ j,j<k→zO4 (zF5 s j)=true):=hA
    have HB:Hid (Bw w wr):=hB
    have hbk:=zQu s k hlt
    have HK:=(show Hid _ from hbk)
    clear hA hB hbk
    by_cases l1:((s[k]'hlt).toNat:Int)<97
    ·go_wp2
     go_ret
     exact ⟨zG (zK0 k hlt (by rw [HK.out];simp [zO4];omega)).symm,HB.out⟩
    ·have l1':decide (((s[k]'hlt).toNat:Int)<97)=false:=by simpa using l1
     by_cases l2:(122:Int)<((s[k]'hlt).toNat:Int)
     ·go_wp2
      go_ret
      exact ⟨zG (zK0 k hlt (by rw [HK.out];simp [zO4];omega)).symm,HB.out⟩
     ·have l2':decide ((122:Int)<((s[k]'hlt).toNat:Int))=false:=by simpa using l2
      have HL:Hid (zO4 (zF5 s k)=true):=by show _=_;rw [HK.out];simp [zO4];omega
      go_wp2
      go_roundw
      case rel=>exact ⟨k+1,by omega,by go_num,fun j hj=>by
        by_cases e:j=k
        ·rw [e];exact HL.out
        ·exact HA.out j (by omega),HB.out⟩
      case measure=>simp [intOf];omega
   ·go_wp2
    go_ret
    exact ⟨zG (by rw [zQe (fun i hi=>hA i (by omega))];simp <;> omega),hB⟩
theorem zAx (v lo hi:Int)(w:World):Calls Tryz.prog 59 #[.int .i64 v,.int .i64 lo,.int .i64 hi] w fun e w'=>e=.returned (.bool (inB v lo hi))∧w=w':=(zY v lo hi w).mono fun e w' ⟨he,hw⟩=>⟨he,hw.symm⟩
theorem zEe (ki n:Int)(w:World):Calls Tryz.prog 184 #[.int .i64 ki,.int .i64 n] w fun e w'=>e=.returned (.bool (vS ki n))∧w=w':=(zR2 ki n w).mono fun e w' ⟨he,hw⟩=>⟨he,hw.symm⟩
theorem yB (v lo hi:Int)(w:World):Calls Tryz.prog 77 #[.int .i64 v,.int .i64 lo,.int .i64 hi] w fun e w'=>e=.returned (.bool (inB v lo hi))∧w=w':=(zR v lo hi w).mono fun e w' ⟨he,hw⟩=>⟨he,hw.symm⟩
def zAh (w:World)(p o:Nat)(id la ki wi:Int)(pts:Value)(lab:ByteArray)(pr:Int):Prop :=
 w.cell? ⟨p,o,none⟩=some (.int .i64 id)∧w.cell? ⟨p,o+1,none⟩=some (.int .i64 la)∧w.cell? ⟨p,o+2,none⟩=some (.int .i64 ki)∧w.cell? ⟨p,o+3,none⟩=some (.int .i64 wi) ∧
 w.cell? ⟨p,o+4,none⟩=some pts∧w.cell? ⟨p,o+5,none⟩=some (.string lab)∧w.cell? ⟨p,o+6,none⟩=some (.int .i64 pr)
theorem zAh.below {w w':World}{p o B:Nat}{id la ki wi pr:Int}{pts:Value}{lab:ByteArray}(h:zAh w p o id la ki wi pts lab pr)(hb:Below B w w')(hp:p<B):zAh w' p o id la ki wi pts lab pr:=by
 obtain ⟨h0,h1,h2,h3,h4,h5,h6⟩:=h
 refine ⟨(hb.cell (p:=⟨p,o,none⟩) hp).trans h0,(hb.cell (p:=⟨p,o+1,none⟩) hp).trans h1,(hb.cell (p:=⟨p,o+2,none⟩) hp).trans h2,(hb.cell (p:=⟨p,o+3,none⟩) hp).trans h3,(hb.cell (p:=⟨p,o+4,none⟩) hp).trans h4,(hb.cell (p:=⟨p,o+5,none⟩) hp).trans h5,(hb.cell (p:=⟨p,o+6,none⟩) hp).trans h6⟩
def zOz (n:Nat)(X Y:Nat→Int):Bool:=decide (∀ i,i<n→inW (X i) (Y i)=true)
def zDv (id la ki wi pr:Int):Bool:=inB id 1 999 && (inB la 0 9 && (inB ki 1 3 && (inB wi 0 3 && inB pr 0 9)))
def zM (id la ki wi:Int)(n:Nat)(X Y:Nat→Int)(lab:ByteArray)(pr:Int):Int :=
 if zDv id la ki wi pr=true then (if vS ki n=true then (if zOz n X Y=true then (if zLy lab=true then 0 else 5) else 3) else 2) else 3
theorem zB5 {n:Nat}{X Y:Nat→Int}(k:Nat)(hk:k<n)(h:inW (X k) (Y k)=false):zOz n X Y=false:=by
 unfold zOz
 rw [decide_eq_false]
 intro hc
 have:=hc k hk
 rw [h] at this;cases this
theorem zO7 (p o:Nat)(id la ki wi:Int)(a:Option Addr)(n cap:Nat)(X Y:Nat→Int)(lab:ByteArray)(pr:Int)(w:World)(hf:zAh w p o id la ki wi (.slice a n cap) lab pr)(hpt:xP w a n X Y)(hl:lab.size≤1048576)(hn:n≤1048576) :
  Calls Tryz.prog 143 #[.pointer (some ⟨p,o,none⟩)] w fun e w'=>e=.returned (.int .i64 (zM id la ki wi n X Y lab pr))∧Bw w w':=by
 have hpl:p<w.heap.size:=World.block_lt_of_cell? _ _ hf.1
 have c0:∀ W',Bw w W'→W'.cell? ⟨p,o,none⟩=some (.int .i64 id):=fun W' h=>(hf.below h hpl).1
 have c1:∀ W',Bw w W'→W'.cell? ⟨p,o+1,none⟩=some (.int .i64 la):=fun W' h=>(hf.below h hpl).2.1
 have c2:∀ W',Bw w W'→W'.cell? ⟨p,o+2,none⟩=some (.int .i64 ki):=fun W' h=>(hf.below h hpl).2.2.1
 have c3:∀ W',Bw w W'→W'.cell? ⟨p,o+3,none⟩=some (.int .i64 wi):=fun W' h=>(hf.below h hpl).2.2.2.1
 have c4:∀ W',Bw w W'→W'.cell? ⟨p,o+4,none⟩=some (.slice a n cap):=fun W' h=>(hf.below h hpl).2.2.2.2.1
 have c5:∀ W',Bw w W'→W'.cell? ⟨p,o+5,none⟩=some (.string lab):=fun W' h=>(hf.below h hpl).2.2.2.2.2.1
 have c6:∀ W',Bw w W'→W'.cell? ⟨p,o+6,none⟩=some (.int .i64 pr):=fun W' h=>(hf.below h hpl).2.2.2.2.2.2
 obtain ⟨h0,h1,h2,h3,h4,h5,h6⟩:=hf
 have HP:Hid (xP w a n X Y):=hpt
 clear hpt
 cases e0:inB id 1 999
 ·have hz:Hid (zM id la ki wi n X Y lab pr=3):=by show _=_;simp [zM,zDv,e0]
  go_enter Tryz.func143,Tryz.ntmps143
  go_wp2_with (go_at_call 59;refine (zAx _ _ _ _).mono ?_;rintro e w' ⟨rfl,rfl⟩)
  go_ret
  exact ⟨zD hz.out.symm,Qb⟩
 cases e1:inB la 0 9
 ·have hz:Hid (zM id la ki wi n X Y lab pr=3):=by show _=_;simp [zM,zDv,e0,e1]
  go_enter Tryz.func143,Tryz.ntmps143
  go_wp2_with (go_at_call 59;refine (zAx _ _ _ _).mono ?_;rintro e w' ⟨rfl,rfl⟩)
  go_ret
  exact ⟨zD hz.out.symm,Qb⟩
 cases e2:inB ki 1 3
 ·have hz:Hid (zM id la ki wi n X Y lab pr=3):=by show _=_;simp [zM,zDv,e0,e1,e2]
  go_enter Tryz.func143,Tryz.ntmps143
  go_wp2_with (go_at_call 59;refine (zAx _ _ _ _).mono ?_;rintro e w' ⟨rfl,rfl⟩)
  go_ret
  exact ⟨zD hz.out.symm,Qb⟩
 cases e3:inB wi 0 3
 ·have hz:Hid (zM id la ki wi n X Y lab pr=3):=by show _=_;simp [zM,zDv,e0,e1,e2,e3]
  go_enter Tryz.func143,Tryz.ntmps143
  go_wp2_with (go_at_call 59;refine (zAx _ _ _ _).mono ?_;rintro e w' ⟨rfl,rfl⟩)
  go_ret
  exact ⟨zD hz.out.symm,Qb⟩
 cases e4:inB pr 0 9
 ·have hz:Hid (zM id la ki wi n X Y lab pr=3):=by show _=_;simp [zM,zDv,e0,e1,e2,e3,e4]
  go_enter Tryz.func143,Tryz.ntmps143
  go_wp2_with (go_at_call 59;refine (zAx _ _ _ _).mono ?_;rintro e w' ⟨rfl,rfl⟩)
  go_ret
  exact ⟨zD hz.out.symm,Qb⟩
 have hr:Hid (zDv id la ki wi pr=true):=by show _=_;simp [zDv,e0,e1,e2,e3,e4]
 cases e5:vS ki n
 ·have hz:Hid (zM id la ki wi n X Y lab pr=2):=by show _=_;simp [zM,hr.out,e5]
  go_enter Tryz.func143,Tryz.ntmps143
  go_wp2_with (first | (go_at_call 59;refine (zAx _ _ _ _).mono ?_;rintro e w' ⟨rfl,rfl⟩) | (go_at_call 184;refine (zEe _ _ _).mono ?_;rintro e w' ⟨rfl,rfl⟩))
  go_region_held3 (fun W'=>Bw w W') ((repeat (first|exact Qr _ _|assumption|refine Qd ?_|refine Qa ?_ _|refine Qt ?_|refine Qs ?_ _|refine Qo ?_ ?_ _ _)))
   (first | (go_at_call 184;refine (zEe _ _ _).mono ?_;rintro e w' ⟨rfl,rfl⟩))
  go_wp2
  go_ret
  exact ⟨zD hz.out.symm,Qb⟩
 go_enter Tryz.func143,Tryz.ntmps143
 go_wp2_with (first | (go_at_call 59;refine (zAx _ _ _ _).mono ?_;rintro e w' ⟨rfl,rfl⟩) | (go_at_call 184;refine (zEe _ _ _).mono ?_;rintro e w' ⟨rfl,rfl⟩))
 go_region_held3 (fun W'=>Bw w W') ((repeat (first|exact Qr _ _|assumption|refine Qd ?_|refine Qa ?_ _|refine Qt ?_|refine Qs ?_ _|refine Qo ?_ ?_ _ _)))
  (first | (go_at_call 184;refine (zEe _ _ _).mono ?_;rintro e w' ⟨rfl,rfl⟩))
 go_wp2
 go_loopw [3] (fun i wr=>∃ k:Nat,k≤n∧i=.int .i64 k∧(∀ j,j<k→inW (X j) (Y j)=true)∧Bw w wr) (fun i _=>n - (intOf i).toNat)
 case atStart=>exact ⟨0,by omega,rfl,by omega,(Below.refl _ _).drew⟩
 case round =>
  obtain ⟨k,hk,rfl,hA,hB⟩:=hrel
  have HA:Hid (∀ j,j<k→inW (X j) (Y j)=true):=hA
  have HB:Hid (Bw w wr):=hB
  clear h0 h1 h2 h3 h4 h5 h6 c0 c1 c2 c3 c6 hA
  by_cases hlt:k<n
  ·rcases HP.out with hz | ⟨b,off,rfl,hbl,hpt⟩
   ·omega
   have hi:(k:Int)<(n:Int):=by omega
   have hi0:(0:Int)≤(k:Int):=by omega
   have d4:∀ W',Bw wr W'→W'.cell? ⟨p,o+4,none⟩=some (.slice (some ⟨b,off,none⟩) n cap):=fun W' h=>c4 W' (hB.trans (h.mono hB.size))
   have dx:∀ W',Bw wr W'→W'.cell? ⟨b,off+k * 2,none⟩=some (.int .i64 (X k)):=fun W' h=>(hpt.below (hB.trans (h.mono hB.size)) hbl k hlt).1
   have dy:∀ W',Bw wr W'→W'.cell? ⟨b,off+k * 2+1,none⟩=some (.int .i64 (Y k)):=fun W' h=>(hpt.below (hB.trans (h.mono hB.size)) hbl k hlt).2
   clear c4 c5 hB hpt
   have hr0:Bw wr wr:=Below.refl _ _
   cases ex:inB (X k) 0 1024
   ·have hz:Hid (zM id la ki wi n X Y lab pr=3):=by show _=_;simp [zM,hr.out,e5,zB5 k hlt (show inW (X k) (Y k)=false by simp [inW,ex])]
    go_wp2_with (go_at_call 59;refine (zAx _ _ _ _).mono ?_;rintro e w' ⟨rfl,rfl⟩)
    go_ret
    exact ⟨zD hz.out.symm,HB.out⟩
   cases ey:inB (Y k) 0 1024
   ·have hz:Hid (zM id la ki wi n X Y lab pr=3):=by show _=_;simp [zM,hr.out,e5,zB5 k hlt (show inW (X k) (Y k)=false by simp [inW,ex,ey])]
    go_wp2_with (go_at_call 59;refine (zAx _ _ _ _).mono ?_;rintro e w' ⟨rfl,rfl⟩)
    go_ret
    exact ⟨zD hz.out.symm,HB.out⟩
   have HI:Hid (inW (X k) (Y k)=true):=by show _=_;simp [inW,ex,ey]
   go_wp2_with (go_at_call 59;refine (zAx _ _ _ _).mono ?_;rintro e w' ⟨rfl,rfl⟩)
   go_roundw
   case rel=>exact ⟨k+1,by omega,by go_num,fun j hj=>by
     by_cases e:j=k
     ·rw [e];exact HI.out
     ·exact HA.out j (by omega),HB.out⟩
   case measure=>simp [intOf];omega
  ·have hz:Hid (zM id la ki wi n X Y lab pr=if zLy lab=true then 0 else 5):=by
    show _=_
    have:zOz n X Y=true:=decide_eq_true (fun i hi=>HA.out i (by omega))
    simp [zM,hr.out,e5,this]
   have d4:=c4 wr hB
   have d5:=c5 wr hB
   clear c4 c5
   cases el:zLy lab
   all_goals
    go_wp2_with (go_at_call 185;refine (zO6 _ _ hl).mono ?_;rintro e w' ⟨rfl,hb⟩)
    go_ret
    exact ⟨zD (by rw [hz.out];simp [el]),zA HB.out hb⟩
theorem zVr {px py ax ay bx by':Int}(ha:okP ax ay=true)(hb:okP bx by'=true):0≤uG px py ax ay bx by'∧uG px py ax ay bx by'≤52428800:=by
 obtain ⟨d1,d2⟩:=zUw ha hb
 unfold uG
 split
 ·omega
 ·split <;> omega
theorem zJq {px py ax ay bx by' r:Int}(h:r<0∨4096<r):yG px py ax ay bx by' r=false:=by
 have hr:inB r 0 4096=false:=by
  rcases h with h | h <;> simp [inB] <;> omega
 simp [yG,hr]
theorem zHj (px py ax ay bx by' r:Int)(w:World)(h:r<0) :
  Calls Tryz.prog 252 #[.agg #[.int .i64 px,.int .i64 py],.agg #[.int .i64 ax,.int .i64 ay],.agg #[.int .i64 bx,.int .i64 by'],.int .i64 r] w fun e w'=>e=.returned (.bool (yG px py ax ay bx by' r))∧Bw w w':=by
 have HE:Hid _:=zJq (px:=px) (py:=py) (ax:=ax) (ay:=ay) (bx:=bx) (by':=by') (.inl h)
 go_enter Tryz.func252,Tryz.ntmps252
 go_wp2
 go_ret
 exact ⟨zG HE.out.symm,Qb⟩
theorem zHk (px py ax ay bx by' r:Int)(w:World)(h:4096<r) :
  Calls Tryz.prog 252 #[.agg #[.int .i64 px,.int .i64 py],.agg #[.int .i64 ax,.int .i64 ay],.agg #[.int .i64 bx,.int .i64 by'],.int .i64 r] w fun e w'=>e=.returned (.bool (yG px py ax ay bx by' r))∧Bw w w':=by
 have HE:Hid _:=zJq (px:=px) (py:=py) (ax:=ax) (ay:=ay) (bx:=bx) (by':=by') (.inr h)
 have h2:decide (r<0)=false:=by simp;omega
 go_enter Tryz.func252,Tryz.ntmps252
 go_wp2
 go_ret
 exact ⟨zG HE.out.symm,Qb⟩
theorem zLf (px py ax ay bx by' r:Int)(w:World)(hr0:0≤r)(hr1:r≤4096)(h:okP px py=false) :
  Calls Tryz.prog 252 #[.agg #[.int .i64 px,.int .i64 py],.agg #[.int .i64 ax,.int .i64 ay],.agg #[.int .i64 bx,.int .i64 by'],.int .i64 r] w fun e w'=>e=.returned (.bool (yG px py ax ay bx by' r))∧Bw w w':=by
 have HN:Hid _:=zW9 px py ax ay bx by' h
 have HE:Hid (yG px py ax ay bx by' r=false):=by
  show _=_
  simp [yG,h]
 clear h
 go_enter Tryz.func252,Tryz.ntmps252
 go_wp2_with fail
 generalize hV:((((w.alloc _).alloc _).alloc _).alloc _:World)=V
 have hB0:Bw w V:=by subst hV;exact Qb
 have g0:V.cell? ⟨w.heap.size+1+1+1,0,none⟩=some (.int .i64 px):=by subst hV;simp [go_sem]
 have g1:V.cell? ⟨w.heap.size+1+1+1,1,none⟩=some (.int .i64 py):=by subst hV;simp [go_sem]
 have g2:V.cell? ⟨w.heap.size+1+1+1,2,none⟩=some (.int .i64 ax):=by subst hV;simp [go_sem]
 have g3:V.cell? ⟨w.heap.size+1+1+1,3,none⟩=some (.int .i64 ay):=by subst hV;simp [go_sem]
 have g4:V.cell? ⟨w.heap.size+1+1+1,4,none⟩=some (.int .i64 bx):=by subst hV;simp [go_sem]
 have g5:V.cell? ⟨w.heap.size+1+1+1,5,none⟩=some (.int .i64 by'):=by subst hV;simp [go_sem]
 clear hV
 have HB0:Hid (Bw w V):=hB0
 clear hB0
 refine (zGl _ _ px py ax ay bx by' _ _ g0 g1 g2 g3 g4 g5 (by omega) HN.out).mono ?_
 rintro e W ⟨rfl,hbW⟩
 clear g0 g1 g2 g3 g4 g5
 go_wp2
 go_ret
 exact ⟨zG HE.out.symm,zA HB0.out hbW⟩
theorem zLe (px py ax ay bx by' r:Int)(w:World)(hr0:0≤r)(hr1:r≤4096)(h:okP ax ay=false) :
  Calls Tryz.prog 252 #[.agg #[.int .i64 px,.int .i64 py],.agg #[.int .i64 ax,.int .i64 ay],.agg #[.int .i64 bx,.int .i64 by'],.int .i64 r] w fun e w'=>e=.returned (.bool (yG px py ax ay bx by' r))∧Bw w w':=by
 have HN:Hid _:=zW8 px py ax ay bx by' h
 have HE:Hid (yG px py ax ay bx by' r=false):=by
  show _=_
  simp [yG,h]
 clear h
 go_enter Tryz.func252,Tryz.ntmps252
 go_wp2_with fail
 generalize hV:((((w.alloc _).alloc _).alloc _).alloc _:World)=V
 have hB0:Bw w V:=by subst hV;exact Qb
 have g0:V.cell? ⟨w.heap.size+1+1+1,0,none⟩=some (.int .i64 px):=by subst hV;simp [go_sem]
 have g1:V.cell? ⟨w.heap.size+1+1+1,1,none⟩=some (.int .i64 py):=by subst hV;simp [go_sem]
 have g2:V.cell? ⟨w.heap.size+1+1+1,2,none⟩=some (.int .i64 ax):=by subst hV;simp [go_sem]
 have g3:V.cell? ⟨w.heap.size+1+1+1,3,none⟩=some (.int .i64 ay):=by subst hV;simp [go_sem]
 have g4:V.cell? ⟨w.heap.size+1+1+1,4,none⟩=some (.int .i64 bx):=by subst hV;simp [go_sem]
 have g5:V.cell? ⟨w.heap.size+1+1+1,5,none⟩=some (.int .i64 by'):=by subst hV;simp [go_sem]
 clear hV
 have HB0:Hid (Bw w V):=hB0
 clear hB0
 refine (zGl _ _ px py ax ay bx by' _ _ g0 g1 g2 g3 g4 g5 (by omega) HN.out).mono ?_
 rintro e W ⟨rfl,hbW⟩
 clear g0 g1 g2 g3 g4 g5
 go_wp2
 go_ret
 exact ⟨zG HE.out.symm,zA HB0.out hbW⟩
theorem zLd (px py ax ay bx by' r:Int)(w:World)(hr0:0≤r)(hr1:r≤4096)(h:okP bx by'=false) :
  Calls Tryz.prog 252 #[.agg #[.int .i64 px,.int .i64 py],.agg #[.int .i64 ax,.int .i64 ay],.agg #[.int .i64 bx,.int .i64 by'],.int .i64 r] w fun e w'=>e=.returned (.bool (yG px py ax ay bx by' r))∧Bw w w':=by
 have HN:Hid _:=zW7 px py ax ay bx by' h
 have HE:Hid (yG px py ax ay bx by' r=false):=by
  show _=_
  simp [yG,h]
 clear h
 go_enter Tryz.func252,Tryz.ntmps252
 go_wp2_with fail
 generalize hV:((((w.alloc _).alloc _).alloc _).alloc _:World)=V
 have hB0:Bw w V:=by subst hV;exact Qb
 have g0:V.cell? ⟨w.heap.size+1+1+1,0,none⟩=some (.int .i64 px):=by subst hV;simp [go_sem]
 have g1:V.cell? ⟨w.heap.size+1+1+1,1,none⟩=some (.int .i64 py):=by subst hV;simp [go_sem]
 have g2:V.cell? ⟨w.heap.size+1+1+1,2,none⟩=some (.int .i64 ax):=by subst hV;simp [go_sem]
 have g3:V.cell? ⟨w.heap.size+1+1+1,3,none⟩=some (.int .i64 ay):=by subst hV;simp [go_sem]
 have g4:V.cell? ⟨w.heap.size+1+1+1,4,none⟩=some (.int .i64 bx):=by subst hV;simp [go_sem]
 have g5:V.cell? ⟨w.heap.size+1+1+1,5,none⟩=some (.int .i64 by'):=by subst hV;simp [go_sem]
 clear hV
 have HB0:Hid (Bw w V):=hB0
 clear hB0
 refine (zGl _ _ px py ax ay bx by' _ _ g0 g1 g2 g3 g4 g5 (by omega) HN.out).mono ?_
 rintro e W ⟨rfl,hbW⟩
 clear g0 g1 g2 g3 g4 g5
 go_wp2
 go_ret
 exact ⟨zG HE.out.symm,zA HB0.out hbW⟩
theorem zIr (px py ax ay bx by' r:Int)(w:World)(hr0:0≤r)(hr1:r≤4096)(hp:okP px py=true)(ha:okP ax ay=true)(hb:okP bx by'=true) :
  Calls Tryz.prog 252 #[.agg #[.int .i64 px,.int .i64 py],.agg #[.int .i64 ax,.int .i64 ay],.agg #[.int .i64 bx,.int .i64 by'],.int .i64 r] w fun e w'=>e=.returned (.bool (yG px py ax ay bx by' r))∧Bw w w':=by
 have HN:Hid _:=zUz px py ax ay bx by' hp ha hb
 have HE:Hid (yG px py ax ay bx by' r=decide (zE0 px py ax ay bx by'≤r * r * uG px py ax ay bx by')):=by
  show _=_
  have hr:inB r 0 4096=true:=by simp [inB];omega
  simp [yG,hp,ha,hb,hr,zEa]
 obtain ⟨s1,s2⟩:=sq_bd hr0 hr1
 obtain ⟨d1,d2⟩:=zVr (px:=px) (py:=py) ha hb
 obtain ⟨x5,x6⟩:=vV (a:=r * r) (b:=uG px py ax ay bx by') (B:=16777216) (C:=52428800) (by omega) (by omega) (by omega) (by omega) (by omega)
 have HP:Hid _:=hp
 have HA:Hid _:=ha
 have HB:Hid _:=hb
 clear hp ha hb
 go_enter Tryz.func252,Tryz.ntmps252
 go_wp2_with fail
 generalize hV:((((w.alloc _).alloc _).alloc _).alloc _:World)=V
 have hB0:Bw w V:=by subst hV;exact Qb
 have g0:V.cell? ⟨w.heap.size+1+1+1,0,none⟩=some (.int .i64 px):=by subst hV;simp [go_sem]
 have g1:V.cell? ⟨w.heap.size+1+1+1,1,none⟩=some (.int .i64 py):=by subst hV;simp [go_sem]
 have g2:V.cell? ⟨w.heap.size+1+1+1,2,none⟩=some (.int .i64 ax):=by subst hV;simp [go_sem]
 have g3:V.cell? ⟨w.heap.size+1+1+1,3,none⟩=some (.int .i64 ay):=by subst hV;simp [go_sem]
 have g4:V.cell? ⟨w.heap.size+1+1+1,4,none⟩=some (.int .i64 bx):=by subst hV;simp [go_sem]
 have g5:V.cell? ⟨w.heap.size+1+1+1,5,none⟩=some (.int .i64 by'):=by subst hV;simp [go_sem]
 have c00:∀ W',Bw V W'→W'.cell? ⟨w.heap.size,0,none⟩=some (.int .i64 px):=Qc hV
 have c01:∀ W',Bw V W'→W'.cell? ⟨w.heap.size,1,none⟩=some (.int .i64 py):=Qc hV
 have c10:∀ W',Bw V W'→W'.cell? ⟨w.heap.size+1,0,none⟩=some (.int .i64 ax):=Qc hV
 have c11:∀ W',Bw V W'→W'.cell? ⟨w.heap.size+1,1,none⟩=some (.int .i64 ay):=Qc hV
 have c20:∀ W',Bw V W'→W'.cell? ⟨w.heap.size+1+1,0,none⟩=some (.int .i64 bx):=Qc hV
 have c21:∀ W',Bw V W'→W'.cell? ⟨w.heap.size+1+1,1,none⟩=some (.int .i64 by'):=Qc hV
 clear hV
 have HB0:Hid (Bw w V):=hB0
 clear hB0
 refine (zGl _ _ px py ax ay bx by' _ _ g0 g1 g2 g3 g4 g5 (by omega) HN.out).mono ?_
 rintro e W ⟨rfl,hbW⟩
 clear g0 g1 g2 g3 g4 g5
 replace HB0:Hid (Bw w W):=zA HB0.out hbW
 have HVW:Hid (∀ W',Bw W W'→Bw V W'):=fun W' h=>zA hbW h
 replace c00:=fun W' h=>c00 W' (HVW.out W' h)
 replace c01:=fun W' h=>c01 W' (HVW.out W' h)
 replace c10:=fun W' h=>c10 W' (HVW.out W' h)
 replace c11:=fun W' h=>c11 W' (HVW.out W' h)
 replace c20:=fun W' h=>c20 W' (HVW.out W' h)
 replace c21:=fun W' h=>c21 W' (HVW.out W' h)
 clear hbW
 go_wp2
 go_region_held3 (fun W'=>Bw W W') ((repeat (first|exact Qr _ _|assumption|refine Qd ?_|refine Qa ?_ _|refine Qt ?_|refine Qs ?_ _|refine Qo ?_ ?_ _ _)))
  (first
   | (go_at_call 266;refine (zA7 _ _ _).mono ?_;rintro e w1 ⟨rfl,hb⟩)
   | (go_at_call 268;refine (zUn _ _ _ _ _ _ _ HP.out HA.out HB.out).mono ?_;rintro e w1 ⟨rfl,hb⟩))
 go_wp2
 go_ret
 exact ⟨zG HE.out.symm,zA HB0.out (by assumption)⟩
theorem zHl (px py ax ay bx by' r:Int)(w:World):Calls Tryz.prog 252 #[.agg #[.int .i64 px,.int .i64 py],.agg #[.int .i64 ax,.int .i64 ay],.agg #[.int .i64 bx,.int .i64 by'],.int .i64 r] w fun e w'=>e=.returned (.bool (yG px py ax ay bx by' r))∧Bw w w':=by
 by_cases h0:r<0
 ·exact zHj _ _ _ _ _ _ _ _ h0
 by_cases h1:4096<r
 ·exact zHk _ _ _ _ _ _ _ _ h1
 have hr0:0≤r:=by omega
 have hr1:r≤4096:=by omega
 cases hp:okP px py
 ·exact zLf _ _ _ _ _ _ _ _ hr0 hr1 hp
 cases ha:okP ax ay
 ·exact zLe _ _ _ _ _ _ _ _ hr0 hr1 ha
 cases hb:okP bx by'
 ·exact zLd _ _ _ _ _ _ _ _ hr0 hr1 hb
 exact zIr _ _ _ _ _ _ _ _ hr0 hr1 hp ha hb
theorem zOm (V:World)(a b c d:Value)(t:TypeId):zC (V.alloc (.cells #[a,b,c,d] t)) V.heap.size 4:=fun o ho=>by
 have:o=0∨o=1∨o=2∨o=3:=by omega
 rcases this with rfl | rfl | rfl | rfl <;> exact ⟨⟨_,by simp [go_sem];rfl⟩,by simp [go_sem]⟩
theorem zC2 (V:World)(a b c:Value)(t:TypeId):zC (V.alloc (.cells #[a,b,c] t)) V.heap.size 3:=fun o ho=>by
 have:o=0∨o=1∨o=2:=by omega
 rcases this with rfl | rfl | rfl <;> exact ⟨⟨_,by simp [go_sem];rfl⟩,by simp [go_sem]⟩
theorem zIq (z x y:Int)(w:World):Calls Tryz.prog 203 #[.int .i64 z,.int .i64 x,.int .i64 y] w fun e w'=>e=.returned (atV z x y)∧Bw w w':=by
 go_enter Tryz.func203,Tryz.ntmps203
 go_wp2_with fail
 generalize hW:(w.alloc _:World)=W
 have HB0:Hid (Bw w W):=by show Below _ _ _;subst hW;exact Qb
 have HT:Hid (zC W w.heap.size 4):=by
  show zC _ _ _
  subst hW
  exact zOm w (.int .i64 0) (.int .i64 0) (.int .i64 0) (.int .i64 0) 269
 have hsz:w.heap.size<W.heap.size:=by subst hW;simp
 clear hW
 refine (zAa _ _ _ _).mono ?_
 rintro e w1 ⟨rfl,hb1⟩
 have hT':=HT.out.below hb1
 have HT1:Hid (zC w1 w.heap.size 4):=hT'
 have t0:=hT'.cell 0 (by omega)
 have t1:=hT'.cell 1 (by omega)
 have t2:=hT'.cell 2 (by omega)
 have t3:=hT'.cell 3 (by omega)
 have f0:=(hT' 0 (by omega)).2
 have f1:=(hT' 1 (by omega)).2
 have f2:=(hT' 2 (by omega)).2
 have f3:=(hT' 3 (by omega)).2
 have HB1:Hid (Bw w w1):=zA HB0.out hb1
 have hsz1:w.heap.size<w1.heap.size:=Nat.lt_of_lt_of_le hsz hb1.size
 clear hb1 HT HB0 hT' hsz
 cases h:zBf z x y
 ·have hq:Hid (atV z x y=rrV 3 0 0 0):=by show _=_;simp [atV,h]
  go_wp2_with fail
  obtain ⟨q0,q1,q2,q3⟩:=zBg (a:=.int .i64 3) (b:=.int .i64 0) (c:=.int .i64 0) (d:=.int .i64 0) HT1.out
  refine bodyPost_ret (v:=rrV 3 0 0 0) (by simp [results,Tryz.results203,go_sem,q0,q1,q2,q3]) rfl ⟨by rw [hq.out],?_⟩
  have HB:=HB1.out
  exact Qb
 ·have hq:Hid (atV z x y=rrV 0 z (x / 8) (y / 8)):=by show _=_;simp [atV,h]
  obtain ⟨⟨x0,x1⟩,y0,y1⟩:=zDa h
  have hp:=(vD (uH h)).2
  clear h
  generalize xO z=u at *
  have dx:x.tdiv 8=x / 8:=Int.tdiv_eq_ediv_of_nonneg x0
  have dy:y.tdiv 8=y / 8:=Int.tdiv_eq_ediv_of_nonneg y0
  go_wp2_with fail
  obtain ⟨q0,q1,q2,q3⟩:=zBg (a:=.int .i64 0) (b:=.int .i64 z) (c:=.int .i64 (x / 8)) (d:=.int .i64 (y / 8)) HT1.out
  refine bodyPost_ret (v:=rrV 0 z (x / 8) (y / 8)) (by simp [results,Tryz.results203,go_sem,q0,q1,q2,q3]) rfl ⟨by rw [hq.out],?_⟩
  have HB:=HB1.out
  exact Qb
theorem zL5 (z x y:Int)(w:World):Calls Tryz.prog 116 #[vT z x y] w fun e w'=>e=.returned (vT z x y)∧Bw w w':=by
 go_enter Tryz.func116,Tryz.ntmps116
 go_wp2
 exact bodyPost_ret (v:=vT z x y) (by simp [results,Tryz.results116,go_sem]) rfl ⟨rfl,Qb⟩
theorem zEn (z x y:Int)(w:World):Calls Tryz.prog 81 #[vT z x y,vT z x y] w fun e w'=>e=.returned (.bool true)∧Bw w w':=by
 go_enter Tryz.func81,Tryz.ntmps81
 go_wp2
 go_ret
 exact ⟨rfl,Qb⟩

def zD2 (G:Int→Int→Int)(x y:Int)(wide high:Nat):List Int:=(List.range high).flatMap fun (r:Nat)=>(List.range wide).map fun (c:Nat)=>G (x+(c:Int)) (y+(r:Int))
def zAv (G:Int→Int→Int)(x y:Int)(wide r c:Nat):List Int:=zD2 G x y wide r ++ (List.range c).map fun (c:Nat)=>G (x+(c:Int)) (y+(r:Int))
theorem zMg (G:Int→Int→Int)(x y:Int)(wide:Nat):∀ high,(zD2 G x y wide high).length=high * wide
 | 0=>by simp [zD2]
 | h+1=>by
  have:=zMg G x y wide h
  unfold zD2 at this ⊢
  rw [List.range_succ,List.flatMap_append,List.length_append,this]
  simp
  rw [Nat.add_mul];omega
theorem zRm (G:Int→Int→Int)(x y:Int)(wide r c:Nat):zAv G x y wide r (c+1)=zAv G x y wide r c ++ [G (x+(c:Int)) (y+(r:Int))]:=by
 simp [zAv,List.range_succ]
theorem zRn (G:Int→Int→Int)(x y:Int)(wide r:Nat):zAv G x y wide r wide=zD2 G x y wide (r+1):=by
 simp [zAv,zD2,List.range_succ]
theorem zRl (G:Int→Int→Int)(x y:Int)(wide r:Nat):zAv G x y wide r 0=zD2 G x y wide r:=by simp [zAv]
theorem zTt (G:Int→Int→Int)(x y:Int)(wide r c:Nat):(zAv G x y wide r c).length=r * wide+c:=by
 simp [zAv,zMg]
theorem zMh (f:Nat)(caps:Array Value)(x y:Int)(wide high:Nat)(G:Int→Int→Int)(w:World)(hwide:wide≤8)(hhigh:high≤8)(hx:0≤x∧x≤1000)(hy:0≤y∧y≤1000)(hce:∀ args w,(callFunc f args).run Tryz.prog w=.ok (.enter f args) w)(hF:∀ W c r,Bw w W→c<wide→r<high→Calls Tryz.prog f (#[.int .i64 (x+(c:Nat)),.int .i64 (y+(r:Nat))] ++ caps) W fun e W'=>e=.returned (.int .i64 (G (x+(c:Nat)) (y+(r:Nat))))∧Bw W W') :
  Calls Tryz.prog 221 #[.int .i64 x,.int .i64 y,.int .i64 (wide:Int),.int .i64 (high:Int),.func (.func f) #[] caps] w fun e w'=>∃ v,e=.returned v∧zB1 w.heap.size w' v (zD2 G x y wide high)∧Bw w w':=by
 obtain ⟨i0,hi,hz0,hz1,hz2⟩:=info_parts zCj
 have HF:=(show Hid _ from hF)
 clear hF
 go_enter Tryz.func221,Tryz.ntmps221
 go_wp2_with fail
 go_loopw [11,15] (fun v j wr=>∃ r:Nat,r≤high∧j=.int .i64 ((r:Nat):Int)∧zB1 w.heap.size wr v (zD2 G x y wide r)∧Bw w wr) (fun _ j _=>high - (intOf j).toNat)
 case atStart=>exact ⟨0,by omega,rfl,zB1.no _ _,Below.refl _ _⟩
 case round =>
  obtain ⟨r,hr,rfl,hO,hB⟩:=hrel
  have HO0:Hid (zB1 w.heap.size wr u11 (zD2 G x y wide r)):=hO
  have HB0:Hid (Bw w wr):=hB
  clear hO hB
  by_cases hlt:r<high
  ·have hi':(r:Int)<(high:Int):=by omega
   go_wp2_with fail
   go_loopw [11,19] (fun v j wr=>∃ m:Nat,m≤wide∧j=.int .i64 (m:Int)∧zB1 w.heap.size wr v (zAv G x y wide r m)∧Bw w wr) (fun _ j _=>wide - (intOf j).toNat)
   case atStart=>exact ⟨0,by omega,rfl,by rw [zRl];exact HO0.out,HB0.out⟩
   case round =>
    obtain ⟨m,hm,rfl,hO,hB⟩:=hrel
    have HO:Hid (zB1 w.heap.size wr u11 (zAv G x y wide r m)):=hO
    have HB:Hid (Bw w wr):=hB
    have hszr:w.heap.size≤wr.heap.size:=hB.size
    clear hO hB HO0 HB0
    by_cases hlm:m<wide
    ·have hm':(m:Int)<(wide:Int):=by omega
     have HC:Hid (Calls Tryz.prog f (#[.int .i64 (x+(m:Nat)),.int .i64 (y+(r:Nat))] ++ caps) wr fun e W'=>e=.returned (.int .i64 (G (x+(m:Nat)) (y+(r:Nat))))∧Bw wr W'):=HF.out wr m r HB.out hlm hlt
     have HS:Hid (zAv G x y wide r (m+1)=zAv G x y wide r m ++ [G (x+(m:Int)) (y+(r:Int))]):=zRm _ _ _ _ _ _
     have HL:Hid ((zAv G x y wide r m).length≤64):=by
      show _≤_
      rw [zTt]
      have:r * wide≤7 * 8:=Nat.mul_le_mul (by omega) hwide
      omega
     go_wp2_with fail
     refine Calls.mono HC.out ?_
     rintro e w2 ⟨rfl,hb2⟩
     have HO2:Hid (zB1 w.heap.size w2 u11 (zAv G x y wide r m)):=HO.out.below hb2
     have HB2:Hid (Bw w w2):=zA HB.out hb2
     have hsz2:w.heap.size≤w2.heap.size:=Nat.le_trans hszr hb2.size
     clear HC hb2 HO HB
     generalize G (x+(m:Int)) (y+(r:Int))=g at *
     have hlen:=HL.out
     have hblk:∀ b,u11.ownBlock=some b→w.heap.size≤b:=fun b hb=>(World.ownsRow.lt HO2.out b hb).1
     have HR:Hid (∀ w' v',w'.ownsRow w.heap.size 2 1 v' ((zAv G x y wide r m).length+1) ((zAv G x y wide r m).map (.int .i64 ·) ++ [.int .i64 g])→zB1 w.heap.size w' v' (zAv G x y wide r (m+1))):=fun w' v' h=>by
      rw [HS.out]
      show World.ownsRow _ _ _ _ _ _ _
      rw [List.length_append,List.map_append]
      exact h
     clear HS HL
     go_wp2_with (first
      | (at_builtin;go_must (refine wpList_append_own _ rfl _ _ 140 rfl w.heap.size 2 i0 (.int .i64 0) 1 8 Tryz.underlying140 hi hz0 hz1 hz2 rfl (by decide) _ (zAv G x y wide r m).length ((zAv G x y wide r m).map (.int .i64 ·)) rfl (World.ownsRow.alloc HO2.out _) ⟨w2.heap.size,0,none⟩ 1 1 [.int .i64 g] rfl rfl ?c1 ?c2 ?c3 ?c4 ?c5 ?_)))
     case c1 =>
      intro q u hq
      match q,hq with
      | 0,hq=>simp at hq;subst hq;simp [Addr.add,go_sem]
      | q+1,hq=>simp at hq
     case c2=>intro u hu;simp at hu;subst hu;rfl
     case c3=>unfold maxLen;omega
     case c4=>omega
     case c5=>simp;omega
     intro v' w3 hown' hgrow hnil
     clear hnil
     generalize hV:(w2.alloc _:World)=V at hgrow
     have hBV:Bw w2 V:=by subst hV;exact Qb
     have hBg:Below w.heap.size V w3:=(Below.refl _ _).grown hgrow (by have:=hBV.size;omega) (fun k hk=>hblk k hk)
     have HB3:Hid (Bw w w3):=HB2.out.trans ((hBV.mono hsz2).trans hBg)
     have HO3:Hid (zB1 w.heap.size w3 v' (zAv G x y wide r (m+1))):=HR.out _ _ hown'
     clear hown' hgrow hBg hBV hV HO2 HB2 HR hblk
     go_wp2
     go_roundw
     case rel=>exact ⟨m+1,by omega,by go_num,HO3.out,HB3.out⟩
     case measure=>simp [intOf];omega
    ·have hmw:m=wide:=by omega
     subst hmw
     rw [zRn] at HO
     go_wp2_with fail
     go_roundw
     case rel=>exact ⟨r+1,by omega,by go_num,HO.out,HB.out⟩
     case measure=>simp [intOf];omega
  ·have hrh:r=high:=by omega
   subst hrh
   obtain ⟨av,cv,hvs,_,_⟩:=HO0.out.own
   have HV:Hid (∃ nv,u11=.slice av nv cv):=⟨_,hvs⟩
   go_wp2
   go_ret
   exact ⟨_,rfl,HO0.out,HB0.out⟩
theorem zRq (f:Nat)(caps:Array Value)(z x y:Int)(G:Int→Int→Int)(w:World)(h:zCt z x y=true)(hce:∀ args w,(callFunc f args).run Tryz.prog w=.ok (.enter f args) w)(hF:∀ W c r,Bw w W→c<8→r<8→Calls Tryz.prog f (#[.int .i64 (x * 8+(c:Nat)),.int .i64 (y * 8+(r:Nat))] ++ caps) W fun e W'=>e=.returned (.int .i64 (G (x * 8+(c:Nat)) (y * 8+(r:Nat))))∧Bw W W') :
  Calls Tryz.prog 195 #[vT z x y,.func (.func f) #[] caps] w fun e w'=>∃ v,e=.returned v∧zB1 w.heap.size w' v (zD2 G (x * 8) (y * 8) 8 8)∧Bw w w':=by
 obtain ⟨⟨z0,z1⟩,⟨x0,x1⟩,y0,y1⟩:=zX2 h
 have HF:=(show Hid _ from hF)
 have HE:=(show Hid _ from hce)
 clear hF hce h
 go_enter Tryz.func195,Tryz.ntmps195
 go_wp2_with fail
 generalize hW:(w.alloc _:World)=W
 have hB0:Bw w W:=by subst hW;exact Qb
 clear hW
 refine (zMh f caps (x * 8) (y * 8) 8 8 G W (Nat.le_refl _) (Nat.le_refl _) (by omega) (by omega) HE.out (fun W' c r hb hc hr=>HF.out W' c r (zA hB0 hb) hc hr)).mono ?_
 rintro e w' ⟨v,rfl,hO,hb⟩
 have HB:Hid (Bw w w'):=zA hB0 hb
 have HO:Hid (zB1 w.heap.size w' v (zD2 G (x * 8) (y * 8) 8 8)):=hO.wide hB0.size
 clear hO hb hB0
 go_wp2_with fail
 go_ret
 exact ⟨_,rfl,HO.out,HB.out⟩
structure Rfs where
 z:Nat→Int
 x:Nat→Int
 y:Nat→Int
def zLz (w:World)(b off n:Nat)(R:Rfs):Prop:=∀ i,i<n→w.cell? ⟨b,off+i * 3,none⟩=some (.int .i64 (R.z i))∧w.cell? ⟨b,off+i * 3+1,none⟩=some (.int .i64 (R.x i))∧w.cell? ⟨b,off+i * 3+2,none⟩=some (.int .i64 (R.y i))
theorem zLz.below {w w':World}{b off n B:Nat}{R:Rfs}(h:zLz w b off n R)(hb:Below B w w')(hB:b<B):zLz w' b off n R:=fun i hi =>
 ⟨(hb.cell (p:=⟨b,off+i * 3,none⟩) hB).trans (h i hi).1,(hb.cell (p:=⟨b,off+i * 3+1,none⟩) hB).trans (h i hi).2.1,(hb.cell (p:=⟨b,off+i * 3+2,none⟩) hB).trans (h i hi).2.2⟩
def zH4 (w:World)(a:Option Addr)(n:Nat)(R:Rfs):Prop:=n=0∨∃ b off,a=some ⟨b,off,none⟩∧b<w.heap.size∧zLz w b off n R
theorem zH4.below {w w':World}{a:Option Addr}{n:Nat}{R:Rfs}(h:zH4 w a n R)(hb:Below w.heap.size w w'):zH4 w' a n R:=by
 rcases h with h | ⟨b,off,e,hl,hz⟩
 ·exact .inl h
 ·exact .inr ⟨b,off,e,Nat.lt_of_lt_of_le hl hb.size,hz.below hb hl⟩
theorem zC.setR {W:World}{r n:Nat}(h:zC W r n)(o:Nat)(v:Value):zC (W.setCell ⟨r,o,none⟩ v) r n:=fun o' ho=>by
 obtain ⟨u,hu⟩:=(h o' ho).1
 refine ⟨?_,?_⟩
 ·by_cases e:o=o'
  ·subst e
   exact ⟨v,World.cell?_setCell_same _ _ _ (by rw [hu])⟩
  ·exact ⟨u,by rw [World.cell?_setCell_other];exact hu;simp [e]⟩
 ·rw [World.frozen?_setCell];exact (h o' ho).2
theorem fillR {W:World}{B n k:Nat}{R:Rfs}(hT:zC W B (n * 3))(hk:k<n)(hp:zLz W B 0 k R) :
  zLz (((W.setCell ⟨B,k * 3,none⟩ (.int .i64 (R.z k))).setCell ⟨B,k * 3+1,none⟩ (.int .i64 (R.x k))).setCell ⟨B,k * 3+2,none⟩ (.int .i64 (R.y k))) B 0 (k+1) R:=fun i hi=>by
 have ne:∀ i j:Nat,i≠j→(⟨B,i,none⟩:Addr)≠⟨B,j,none⟩:=fun i j hij h=>hij (by injection h)
 simp only [Nat.zero_add]
 by_cases e:i=k
 ·subst e
  obtain ⟨u0,h0⟩:=(hT (i * 3) (by omega)).1
  obtain ⟨u1,h1⟩:=(hT (i * 3+1) (by omega)).1
  obtain ⟨u2,h2⟩:=(hT (i * 3+2) (by omega)).1
  refine ⟨?_,?_,?_⟩
  ·rw [zB (ne _ _ (by omega)),zB (ne _ _ (by omega))];exact zE h0
  ·rw [zB (ne _ _ (by omega))];exact zE (by rw [zB (ne _ _ (by omega))];exact h1)
  ·exact zE (by rw [zB (ne _ _ (by omega)),zB (ne _ _ (by omega))];exact h2)
 ·obtain ⟨h0,h1,h2⟩:=hp i (by omega)
  simp only [Nat.zero_add] at h0 h1 h2
  refine ⟨?_,?_,?_⟩
  all_goals (rw [zB (ne _ _ (by omega)),zB (ne _ _ (by omega)),zB (ne _ _ (by omega))];assumption)
theorem vN {w w':World}{b:Nat}(h:w.grownBy w' (some b))(o:Nat)(v:Value):w.grownBy (w'.setCell ⟨b,o,none⟩ v) (some b):=by
 have hb:Below b w' (w'.setCell ⟨b,o,none⟩ v):=(Below.refl b w').setCell (Nat.le_refl _) v
 exact ⟨hb.os.trans h.os,hb.tape.trans h.tape,hb.output.trans h.output,Nat.le_trans h.size hb.size,fun k hk hne=>(Below.heap_setCell w' ⟨b,o,none⟩ v k (fun e=>hne (by simp at e;rw [e]))).trans (h.block k hk hne)⟩
theorem zHn (w:World)(row:Option Nat):w.grownBy w row:=⟨rfl,rfl,rfl,Nat.le_refl _,fun _ _ _=>rfl⟩
theorem zSk (a c:Option Addr)(n capa capc:Nat)(R:Rfs)(w:World)(hp:zH4 w a n R)(hq:zH4 w c n R)(hmax:n≤1048576) :
  Calls Tryz.prog 37 #[.slice a n capa,.slice c n capc] w fun e w'=>e=.returned (.bool true)∧Bw w w':=by
 have HP:Hid (zH4 w a n R):=hp
 have HQ:Hid (zH4 w c n R):=hq
 clear hp hq
 go_enter Tryz.func37,Tryz.ntmps37
 go_wp2
 go_loopw [5] (fun i wr=>∃ k:Nat,k≤n∧i=.int .i64 k∧Bw w wr) (fun i _=>n - (intOf i).toNat)
 case atStart=>exact ⟨0,by omega,rfl,Below.refl _ _⟩
 case round =>
  obtain ⟨k,hk,rfl,hB⟩:=hrel
  by_cases hlt:k<n
  ·rcases HP.out with h0 | ⟨b,off,rfl,hb,hpt⟩
   ·omega
   rcases HQ.out with h0 | ⟨d,off',rfl,hd,hqt⟩
   ·omega
   have P1:=fun W' (h:Below wr.heap.size wr W')=>((hpt.below hB hb).below h (Nat.lt_of_lt_of_le hb hB.size)) k hlt
   have Q1:=fun W' (h:Below wr.heap.size wr W')=>((hqt.below hB hd).below h (Nat.lt_of_lt_of_le hd hB.size)) k hlt
   have c0:∀ W',Bw wr W'→W'.cell? ⟨b,off+k * 3,none⟩=some (.int .i64 (R.z k)):=fun W' h=>(P1 W' h).1
   have c1:∀ W',Bw wr W'→W'.cell? ⟨b,off+k * 3+1,none⟩=some (.int .i64 (R.x k)):=fun W' h=>(P1 W' h).2.1
   have c2:∀ W',Bw wr W'→W'.cell? ⟨b,off+k * 3+2,none⟩=some (.int .i64 (R.y k)):=fun W' h=>(P1 W' h).2.2
   have e0:∀ W',Bw wr W'→W'.cell? ⟨d,off'+k * 3,none⟩=some (.int .i64 (R.z k)):=fun W' h=>(Q1 W' h).1
   have e1:∀ W',Bw wr W'→W'.cell? ⟨d,off'+k * 3+1,none⟩=some (.int .i64 (R.x k)):=fun W' h=>(Q1 W' h).2.1
   have e2:∀ W',Bw wr W'→W'.cell? ⟨d,off'+k * 3+2,none⟩=some (.int .i64 (R.y k)):=fun W' h=>(Q1 W' h).2.2
   have HB:Hid (Bw w wr):=hB
   clear hB hpt hqt P1 Q1
   have hi:(k:Int)<(n:Int):=by omega
   have hi0:(0:Int)≤(k:Int):=by omega
   go_wp2
   go_region_held3 (fun W'=>Bw wr W') ((repeat (first|exact Qr _ _|assumption|refine Qd ?_|refine Qa ?_ _|refine Qt ?_|refine Qs ?_ _|refine Qo ?_ ?_ _ _)))
    (first
     | (go_at_call 81;refine (zEn _ _ _ _).mono ?_;rintro e w' ⟨rfl,hb⟩))
   go_wp2
   go_roundw
   case rel=>exact ⟨k+1,by omega,by go_num,zA HB.out (by assumption)⟩
   case measure=>simp [intOf];omega
  ·go_wp2
   go_ret
   exact ⟨rfl,hB⟩
def mkR (k0:Nat):Rfs:=⟨fun i=>((k0+3 * i:Nat):Int),fun i=>((k0+3 * i+1:Nat):Int),fun i=>((k0+3 * i+2:Nat):Int)⟩
theorem zMn (b n cap k0:Nat)(w:World)(hT:zC w b (n * 3))(hb:b<w.heap.size)(hmax:n≤1048576)(hk0:k0≤1125899906842624) :
  Calls Tryz.prog 43 #[.slice (some ⟨b,0,none⟩) n cap,.int .i64 (k0:Int)] w fun e w'=>e=.returned (.int .i64 ((k0+3 * n:Nat):Int))∧w.grownBy w' (some b)∧zC w' b (n * 3)∧zLz w' b 0 n (mkR k0):=by
 have HT0:Hid (zC w b (n * 3)):=hT
 clear hT
 go_enter Tryz.func43,Tryz.ntmps43
 go_wp2_with fail
 go_loopw [1,5] (fun kk i wr=>∃ j K:Nat,j≤n∧Hid (K=k0+3 * j)∧kk=.int .i64 (K:Int)∧i=.int .i64 (j:Int)∧w.grownBy wr (some b)∧zC wr b (n * 3)∧zLz wr b 0 j (mkR k0)) (fun _ i _=>n - (intOf i).toNat)
 case atStart=>exact ⟨0,k0,by omega,rfl,rfl,rfl,zHn _ _,HT0.out,fun i hi=>by omega⟩
 case round =>
  obtain ⟨j,K,hj,HK,rfl,rfl,hG,hT,hP⟩:=hrel
  by_cases hlt:j<n
  ·have hKb:K≤1125899909988352:=by have:=HK.out;omega
   have t0:=hT.cell (j * 3) (by omega)
   have t1:=hT.cell (j * 3+1) (by omega)
   have t2:=hT.cell (j * 3+2) (by omega)
   have f0:=(hT (j * 3) (by omega)).2
   have f1:=(hT (j * 3+1) (by omega)).2
   have f2:=(hT (j * 3+2) (by omega)).2
   have HT:Hid (zC wr b (n * 3)):=hT
   have HG:Hid (w.grownBy wr (some b)):=hG
   have HP:Hid (zLz wr b 0 j (mkR k0)):=hP
   clear hT hG hP
   have hi:(j:Int)<(n:Int):=by omega
   go_wp2
   go_roundw
   case rel =>
    have hz:(mkR k0).z j=(K:Int):=by have:=HK.out;simp [mkR];omega
    have hx:(mkR k0).x j=(K:Int)+1:=by have:=HK.out;simp [mkR];omega
    have hy:(mkR k0).y j=(K:Int)+1+1:=by have:=HK.out;simp [mkR];omega
    have hfs:=fillR (R:=mkR k0) HT.out hlt HP.out
    rw [hz,hx,hy] at hfs
    exact ⟨j+1,K+3,by omega,by have:=HK.out;show _=_;omega,by go_num,by go_num,vN (vN (vN HG.out _ _) _ _) _ _,((HT.out.setR _ _).setR _ _).setR _ _,hfs⟩
   case measure=>simp [intOf];omega
  ·go_wp2
   go_ret
   have hjn:j=n:=by omega
   subst hjn
   exact ⟨zD (by have:=HK.out;omega),hG,hT,hP⟩
theorem zEb (a:Option Addr)(cap:Nat)(k:Int)(w:World):Calls Tryz.prog 43 #[.slice a 0 cap,.int .i64 k] w fun e w'=>e=.returned (.int .i64 k)∧w=w':=by
 go_enter Tryz.func43,Tryz.ntmps43
 go_wp2_with fail
 go_loopw [1,5] (fun kk i wr=>kk=.int .i64 k∧i=.int .i64 0∧w=wr) (fun _ _ _=>0)
 case atStart=>exact ⟨rfl,rfl,rfl⟩
 case round =>
  obtain ⟨rfl,rfl,rfl⟩:=hrel
  go_wp2
  go_ret
  exact ⟨rfl,rfl⟩
theorem zNb (a:Option Addr)(n cap k0:Nat)(w:World)(hp:zH4 w a n (mkR k0))(hmax:n≤1048576)(hk0:k0≤1125899906842624) :
  Calls Tryz.prog 44 #[.slice a n cap,.int .i64 (k0:Int)] w fun e w'=>e=.returned (.int .i64 ((k0+3 * n:Nat):Int))∧Bw w w':=by
 have HP:Hid (zH4 w a n (mkR k0)):=hp
 clear hp
 go_enter Tryz.func44,Tryz.ntmps44
 go_wp2_with fail
 go_loopw [1,5] (fun kk i wr=>∃ j K:Nat,j≤n∧Hid (K=k0+3 * j)∧kk=.int .i64 (K:Int)∧i=.int .i64 (j:Int)∧Bw w wr) (fun _ i _=>n - (intOf i).toNat)
 case atStart=>exact ⟨0,k0,by omega,rfl,rfl,rfl,Below.refl _ _⟩
 case round =>
  obtain ⟨j,K,hj,HK,rfl,rfl,hB⟩:=hrel
  by_cases hlt:j<n
  ·rcases HP.out with h0 | ⟨b,off,rfl,hbl,hpt⟩
   ·omega
   have hKb:K≤1125899909988352:=by have:=HK.out;omega
   have hz:(mkR k0).z j=(K:Int):=by have:=HK.out;simp [mkR];omega
   have hx:(mkR k0).x j=(K:Int)+1:=by have:=HK.out;simp [mkR];omega
   have hy:(mkR k0).y j=(K:Int)+1+1:=by have:=HK.out;simp [mkR];omega
   obtain ⟨t0,t1,t2⟩:=(hpt.below hB hbl) j hlt
   rw [hz] at t0
   rw [hx] at t1
   rw [hy] at t2
   have HB:Hid (Bw w wr):=hB
   clear hB hpt hz hx hy
   have hi:(j:Int)<(n:Int):=by omega
   have hi0:(0:Int)≤(j:Int):=by omega
   go_wp2
   go_roundw
   case rel=>exact ⟨j+1,K+3,by omega,by have:=HK.out;show _=_;omega,by go_num,by go_num,HB.out⟩
   case measure=>simp [intOf];omega
  ·go_wp2
   go_ret
   have hjn:j=n:=by omega
   subst hjn
   exact ⟨zD (by have:=HK.out;omega),hB⟩
def zN4 (w:World)(base:Nat)(v:Value)(n:Nat)(R:Rfs):Prop :=
 ∃ a cap,v=.slice a n cap∧n≤cap∧(n=0∨∃ b,a=some ⟨b,0,none⟩∧base≤b∧b<w.heap.size∧zLz w b 0 n R∧zC w b (n * 3))
theorem zN4.pts {w:World}{base:Nat}{v:Value}{n:Nat}{R:Rfs}(h:zN4 w base v n R):∃ a cap,v=.slice a n cap∧n≤cap∧zH4 w a n R:=by
 obtain ⟨a,cap,hv,hc,h0 | ⟨b,ha,hb,hl,hp,ht⟩⟩:=h
 ·exact ⟨a,cap,hv,hc,.inl h0⟩
 ·exact ⟨a,cap,hv,hc,.inr ⟨b,0,ha,hl,hp⟩⟩
def zYb (T:Nat)(w:World)(a:Option Addr)(n:Nat)(R:Rfs):Prop:=n=0∨∃ b off,a=some ⟨b,off,none⟩∧b<T∧zLz w b off n R
theorem zYb.is {T:Nat}{w:World}{a:Option Addr}{n:Nat}{R:Rfs}(h:zYb T w a n R)(hT:T≤w.heap.size):zH4 w a n R:=by
 rcases h with h | ⟨b,off,e,hl,hp⟩
 ·exact .inl h
 ·exact .inr ⟨b,off,e,by omega,hp⟩
theorem zBs {w w':World}{p:Addr}{v:Value}(hb:Below w.heap.size w w')(h:w.cell? p=some v):w'.cell? p=some v:=(hb.cell (World.block_lt_of_cell? _ _ h)).trans h
theorem xJ {B:Nat}{row:Option Nat}{a b:World}(h:a.grownBy b row)(hs:∀ s,row=some s→B≤s)(hl:B≤a.heap.size):Below B a b :=
 ⟨h.os,h.tape,h.output,h.size,fun k hk=>h.block k (by omega) (fun e=>by have:=hs k e.symm;omega)⟩
end Go.Proofs.YtkjbafcalamgnaaGreat
