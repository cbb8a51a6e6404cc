/- Texts. -/
import Derived.Test.YtkjbafcalamgnaaGreatVPanViewer13
import Derived.Test.YtkjbafcalamgnaaGreatVPanViewer12
set_option linter.unusedSimpArgs false
set_option linter.unusedVariables false
set_option maxRecDepth 100000
set_option maxHeartbeats 32000000
namespace Go.Proofs.YtkjbafcalamgnaaGreat
open Go.RowKit
theorem zQi {n k:Nat}{E:Nat→Req}(h:k<n):(atW k E (E k).z (E k).x (E k).y=-1∧atW n E (E k).z (E k).x (E k).y=(k:Int))∨(0≤atW k E (E k).z (E k).x (E k).y∧∃ i:Nat,i<k∧atW n E (E k).z (E k).x (E k).y=(i:Int)):=by
 rcases zB4 (fun i=>isR (E i) (E k).z (E k).x (E k).y) k with ⟨h1,h2⟩ | ⟨i,hi,hg,hf,hn⟩
 ·exact .inl ⟨h1,xW (G:=fun i=>isR (E i) (E k).z (E k).x (E k).y) h (zWq _) h2⟩
 ·exact .inr ⟨by unfold atW;rw [hf];omega,i,hi,xW (G:=fun i=>isR (E i) (E k).z (E k).x (E k).y) (by omega) hg hn⟩
theorem zRc (e:Req):(zXt e=0∧zNv e=true)∨(zXt e=3∧zNv e=false):=by
 unfold zXt
 cases h:zNv e <;> simp
theorem xJ (a:Option Addr)(n cap:Nat)(E:Nat→Req)(w:World)(hp:xS w a n E)(hn:n≤1048576)(hcap:n≤cap) :
  Calls Tryz.prog 73 #[.slice a n cap] w fun e w'=>e=.returned (.int .i64 (zO n E))∧Bw w w':=by
 have HP:Hid (xS w a n E):=hp
 clear hp
 by_cases h8:(8:Int)<n
 ·have hz:Hid (zO n E=2):=by show _=_;unfold zO;rw [if_pos (by omega)]
  go_enter Tryz.func73,Tryz.ntmps73
  go_wp2
  go_ret
  exact ⟨zD hz.out.symm,Qb⟩
 ·have hz:Hid (zO n E=xL (vF E) 0 n):=by show _=_;unfold zO;rw [if_neg (by omega)]
  go_enter Tryz.func73,Tryz.ntmps73
  go_wp2
  go_loopw [11] (fun v wr=>∃ k:Nat,k≤n∧v=.int .i64 k∧(∀ j,j<k→vF E j=0)∧Bw w wr) (fun v _=>n - (intOf v).toNat)
  case atStart=>exact ⟨0,by omega,rfl,by omega,Below.refl _ _⟩
  case round =>
   obtain ⟨k,hk,rfl,hA,hB⟩:=hrel
   have HB:Hid (Bw w wr):=hB
   have HA:Hid (∀ j,j<k→vF E j=0):=hA
   by_cases hlt:k<n
   ·rcases HP.out with h0 | ⟨b,off,rfl,hbl,hpt⟩
    ·omega
    have HGr:Hid (zAc wr b off n E):=hpt.below hB hbl
    have hblr:b<wr.heap.size:=Nat.lt_of_lt_of_le hbl hB.size
    obtain ⟨f0,f1,f2,f3,f4⟩:=HGr.out k hlt
    have HLT:Hid (k<n):=hlt
    have first:Hid (∀ c,vF E k=c→c≠0→zO n E=c):=fun c hc h0=>by
     rw [hz.out,yI (vF E) n 0 k (fun j _ hj=>HA.out j hj) (by omega) (by have:=HLT.out;omega) (by rw [hc];exact h0),hc]
    have HOK:Hid (vF E k=0→∀ j,j<k+1→vF E j=0):=fun h0 j hj=>by
     by_cases e:j=k
     ·rw [e];exact h0
     ·exact HA.out j (by omega)
    clear hB hA hpt
    have hi:(k:Int)<(n:Int):=by omega
    have hi0:(0:Int)≤(k:Int):=by omega
    go_wp2_with fail
    generalize hV:(wr.alloc _:World)=V
    have hBV:Bw wr V:=by subst hV;exact Qb
    have v0:∀ W',Bw V W'→W'.cell? ⟨wr.heap.size,0,none⟩=some (.int .i64 (E k).z):=Qc hV
    have v1:∀ W',Bw V W'→W'.cell? ⟨wr.heap.size,1,none⟩=some (.int .i64 (E k).x):=Qc hV
    have v2:∀ W',Bw V W'→W'.cell? ⟨wr.heap.size,2,none⟩=some (.int .i64 (E k).y):=Qc hV
    clear hV
    have HBV:Hid (Bw w V):=zA HB.out hBV
    have HGV:Hid (zAc V b off n E):=HGr.out.below hBV hblr
    have hblV:b<V.heap.size:=Nat.lt_of_lt_of_le hblr hBV.size
    clear hBV f0 f1 f2 f3 f4 HGr
    refine (zFj (E k) _).mono ?_
    rintro e w1 ⟨rfl,hb1⟩
    rcases zRc (E k) with ⟨hc0,hcB⟩ | ⟨hc3,hcB⟩
    ·rw [hc0]
     have hr1:Bw V w1:=hb1
     have hkn:(k:Int)≤(n:Int):=by omega
     have hkc:(k:Int)≤(cap:Int):=by omega
     have HH:Hid (∀ W',Bw V W'→Calls Tryz.prog 126 #[.slice (some ⟨b,off,none⟩) k cap,vN (E k).z (E k).x (E k).y] W' fun e w'=>e=.returned (.int .i64 (atW k E (E k).z (E k).x (E k).y))∧Below W'.heap.size W' w'):=fun W' h =>
      zDt _ k cap E _ _ _ W' (.inr ⟨b,off,rfl,Nat.lt_of_lt_of_le hblV h.size,fun i hi=>(HGV.out.below h hblV) i (by have:=HLT.out;omega)⟩) (by omega)
     clear hc0 hb1
     rcases zQi HLT.out with ⟨hq,_⟩ | ⟨hq,_⟩
     ·have hok:Hid (vF E k=0):=zPy hcB hq
      rw [hq] at HH
      clear hq hcB
      generalize (E k).z=rz at *
      generalize (E k).x=rx at *
      generalize (E k).y=ry at *
      go_wp2_with fail
      go_region_held3 (fun W'=>Bw V W') ((repeat (first|exact Qr _ _|assumption|refine Qd ?_|refine Qa ?_ _|refine Qt ?_|refine Qs ?_ _|refine Qo ?_ ?_ _ _)))
       (first | (go_at_call 126;refine (HH.out _ (by assumption)).mono ?_;rintro e w' ⟨rfl,hb⟩) | fail)
      go_wp2
      go_roundw
      case rel=>exact ⟨k+1,by have:=HLT.out;omega,by go_num,HOK.out hok.out,zA HBV.out (by assumption)⟩
      case measure=>have:=HLT.out;simp [intOf];omega
     ·have hsc:Hid (zO n E=6):=first.out 6 (zGm hcB hq) (by decide)
      have hq':(0:Int)≤atW k E (E k).z (E k).x (E k).y:=hq
      clear hq hcB
      generalize atW k E (E k).z (E k).x (E k).y=q at *
      generalize (E k).z=rz at *
      generalize (E k).x=rx at *
      generalize (E k).y=ry at *
      go_wp2_with fail
      go_region_held3 (fun W'=>Bw V W') ((repeat (first|exact Qr _ _|assumption|refine Qd ?_|refine Qa ?_ _|refine Qt ?_|refine Qs ?_ _|refine Qo ?_ ?_ _ _)))
       (first | (go_at_call 126;refine (HH.out _ (by assumption)).mono ?_;rintro e w' ⟨rfl,hb⟩) | fail)
      go_wp2
      go_ret
      exact ⟨zD hsc.out.symm,zA HBV.out (by assumption)⟩
    ·have hsc:Hid (zO n E=3):=first.out 3 (zDv hcB) (by decide)
     rw [hc3]
     have HB1:Hid (Bw w w1):=zA HBV.out hb1
     clear hc3 hcB hb1
     go_wp2
     go_ret
     exact ⟨zD hsc.out.symm,HB1.out⟩
   ·have hsc:Hid (zO n E=0):=by
     show _=_
     rw [hz.out]
     exact xO _ _ _ (fun j _ hj=>HA.out j (by omega))
    go_wp2
    go_ret
    exact ⟨zD hsc.out.symm,HB.out⟩
theorem zE4 (a:Option Addr)(n cap:Nat)(E:Nat→Req)(w:World)(hp:xS w a n E)(hn:n≤1048576) :
  Calls Tryz.prog 61 #[.slice a n cap] w fun e w'=>e=.returned (.int .i64 (zO n E))∧Bw w w':=by
 have HP:Hid (xS w a n E):=hp
 clear hp
 by_cases h8:(8:Int)<n
 ·have hz:Hid (zO n E=2):=by show _=_;unfold zO;rw [if_pos (by omega)]
  go_enter Tryz.func61,Tryz.ntmps61
  go_wp2
  go_ret
  exact ⟨zD hz.out.symm,Qb⟩
 ·have hz:Hid (zO n E=xL (vF E) 0 n):=by show _=_;unfold zO;rw [if_neg (by omega)]
  go_enter Tryz.func61,Tryz.ntmps61
  go_wp2
  go_loopw [3] (fun v wr=>∃ k:Nat,k≤n∧v=.int .i64 k∧(∀ j,j<k→vF E j=0)∧Bw w wr) (fun v _=>n - (intOf v).toNat)
  case atStart=>exact ⟨0,by omega,rfl,by omega,Below.refl _ _⟩
  case round =>
   obtain ⟨k,hk,rfl,hA,hB⟩:=hrel
   have HB:Hid (Bw w wr):=hB
   have HA:Hid (∀ j,j<k→vF E j=0):=hA
   by_cases hlt:k<n
   ·rcases HP.out with h0 | ⟨b,off,rfl,hbl,hpt⟩
    ·omega
    have HGr:Hid (zAc wr b off n E):=hpt.below hB hbl
    have hblr:b<wr.heap.size:=Nat.lt_of_lt_of_le hbl hB.size
    have hr:Bw wr wr:=Below.refl _ _
    obtain ⟨f0,f1,f2,_,_⟩:=HGr.out k hlt
    have HLT:Hid (k<n):=hlt
    have first:Hid (∀ c,vF E k=c→c≠0→zO n E=c):=fun c hc h0=>by
     rw [hz.out,yI (vF E) n 0 k (fun j _ hj=>HA.out j hj) (by omega) (by have:=HLT.out;omega) (by rw [hc];exact h0),hc]
    have HOK:Hid (vF E k=0→∀ j,j<k+1→vF E j=0):=fun h0 j hj=>by
     by_cases e:j=k
     ·rw [e];exact h0
     ·exact HA.out j (by omega)
    clear hB hA hpt
    have hi:(k:Int)<(n:Int):=by omega
    have hi0:(0:Int)≤(k:Int):=by omega
    go_wp2_with fail
    refine (zC2 _ _ _ _).mono ?_
    rintro e w1 ⟨rfl,hb1⟩
    have HB1:Hid (Bw w w1):=zA HB.out hb1
    have HG1:Hid (zAc w1 b off n E):=HGr.out.below hb1 hblr
    have hbl1:b<w1.heap.size:=Nat.lt_of_lt_of_le hblr hb1.size
    clear f0 f1 f2 hb1 hr
    rcases zAy (E k).z (E k).x (E k).y with ⟨h1,h2⟩ | ⟨h1,h2⟩
    ·rw [h1]
     obtain ⟨g0,g1,g2,g3,g4⟩:=HG1.out k hlt
     clear h1
     cases hcB:(inB (E k).du 0 9999 && inB (E k).tr 1 99)
     ·have hsc:Hid (zO n E=3):=first.out 3 (zDv (by simp [zNv,h2,hcB])) (by decide)
      clear h2
      cases h3:inB (E k).du 0 9999
      ·clear hcB
       go_wp2_with (go_at_call 59;refine (yA _ _ _ _).mono ?_;rintro e w' ⟨rfl,rfl⟩)
       go_ret
       exact ⟨zD hsc.out.symm,HB1.out⟩
      ·have h4:inB (E k).tr 1 99=false:=by rw [h3] at hcB;simpa using hcB
       clear hcB
       go_wp2_with (go_at_call 59;refine (yA _ _ _ _).mono ?_;rintro e w' ⟨rfl,rfl⟩)
       go_ret
       exact ⟨zD hsc.out.symm,HB1.out⟩
     ·have h3:inB (E k).du 0 9999=true:=by simp at hcB;exact hcB.1
      have h4:inB (E k).tr 1 99=true:=by simp at hcB;exact hcB.2
      have hrq:Hid (zNv (E k)=true):=by show _=_;simp [zNv,h2,hcB]
      clear hcB h2
      have HH:Hid (Calls Tryz.prog 106 #[.slice (some ⟨b,off,none⟩) n cap,vN (E k).z (E k).x (E k).y] w1 fun e w'=>e=.returned (.int .i64 (atW n E (E k).z (E k).x (E k).y))∧Bw w1 w') :=
       zMl _ n cap E _ _ _ w1 (.inr ⟨b,off,rfl,hbl1,HG1.out⟩) (by omega)
      rcases zQi HLT.out with ⟨hq,hq2⟩ | ⟨hq,i,hik,hq2⟩
      ·have hok:Hid (vF E k=0):=zPy hrq.out hq
       rw [hq2] at HH
       clear hq hq2
       generalize (E k).z=rz at *
       generalize (E k).x=rx at *
       generalize (E k).y=ry at *
       generalize (E k).du=rd at *
       generalize (E k).tr=rt at *
       go_wp2_with (first | (go_at_call 59;refine (yA _ _ _ _).mono ?_;rintro e w' ⟨rfl,rfl⟩) | (go_at_call 106;refine HH.out.mono ?_;rintro e w' ⟨rfl,hb⟩))
       go_roundw
       case rel=>exact ⟨k+1,by have:=HLT.out;omega,by go_num,HOK.out hok.out,zA HB1.out (by assumption)⟩
       case measure=>have:=HLT.out;simp [intOf];omega
      ·have hsc:Hid (zO n E=6):=first.out 6 (zGm hrq.out hq) (by decide)
       have hne:((i:Int) == (k:Int))=false:=by simp;omega
       rw [hq2] at HH
       clear hq hq2
       generalize (E k).z=rz at *
       generalize (E k).x=rx at *
       generalize (E k).y=ry at *
       generalize (E k).du=rd at *
       generalize (E k).tr=rt at *
       generalize (i:Int)=ii at *
       clear hik
       go_wp2_with (first | (go_at_call 59;refine (yA _ _ _ _).mono ?_;rintro e w' ⟨rfl,rfl⟩) | (go_at_call 106;refine HH.out.mono ?_;rintro e w' ⟨rfl,hb⟩))
       go_ret
       exact ⟨zD hsc.out.symm,zA HB1.out (by assumption)⟩
    ·have hsc:Hid (zO n E=3):=first.out 3 (zDv (by simp [zNv,h2])) (by decide)
     rw [h1]
     clear h1 h2
     go_wp2
     go_ret
     exact ⟨zD hsc.out.symm,HB1.out⟩
   ·have hsc:Hid (zO n E=0):=by
     show _=_
     rw [hz.out]
     exact xO _ _ _ (fun j _ hj=>HA.out j (by omega))
    go_wp2
    go_ret
    exact ⟨zD hsc.out.symm,HB.out⟩
def hasR (R:Rfs)(z x y:Int):Nat→Bool
 | 0=>false
 | n+1=>hasR R z x y n || ((R.z n == z) && ((R.x n == x) && (R.y n == y)))
theorem zO5 {R:Rfs}{z x y:Int}:∀ {n:Nat},(∀ i,i<n→((R.z i == z) && ((R.x i == x) && (R.y i == y)))=false)→hasR R z x y n=false
 | 0,_=>rfl
 | n+1,h=>by rw [hasR,zO5 (fun i hi=>h i (by omega)),h n (by omega)];rfl
theorem zK4 {R:Rfs}{z x y:Int}:∀ {n i:Nat},i<n→((R.z i == z) && ((R.x i == x) && (R.y i == y)))=true→hasR R z x y n=true
 | n+1,i,hi,h=>by
  rw [hasR]
  by_cases e:i=n
  ·subst e;rw [h];simp
  ·rw [zK4 (n:=n) (by omega) h];rfl
theorem zRw (a:Option Addr)(n cap:Nat)(R:Rfs)(z x y:Int)(w:World)(hp:zHr w a n R)(hn:n≤1048576) :
  Calls Tryz.prog 202 #[.slice a n cap,vN z x y] w fun e w'=>(∃ k:Int,e=.returned (.int .i64 k)∧decide (0≤k)=hasR R z x y n)∧Bw w w':=by
 have HP:Hid (zHr w a n R):=hp
 clear hp
 go_enter Tryz.func202,Tryz.ntmps202
 go_wp2_with fail
 generalize hW:(w.alloc _:World)=W
 have HB0:Hid (Bw w W):=by show Below _ _ _;subst hW;exact Qb
 have HV:Hid (zAl W w.heap.size z x y):=by show zAl _ _ _ _ _;subst hW;exact ⟨by simp [go_sem],by simp [go_sem],by simp [go_sem]⟩
 clear hW
 go_loopw [8] (fun i wr=>∃ k:Nat,k≤n∧i=.int .i64 (k:Int)∧(∀ j,j<k→((R.z j == z) && ((R.x j == x) && (R.y j == y)))=false)∧Bw W wr) (fun i _=>n - (intOf i).toNat)
 case atStart=>exact ⟨0,by omega,rfl,fun j hj=>absurd hj (Nat.not_lt_zero _),Below.refl _ _⟩
 case round =>
  obtain ⟨k,hk,rfl,hno,hB⟩:=hrel
  have HN:Hid (∀ j,j<k→((R.z j == z) && ((R.x j == x) && (R.y j == y)))=false):=hno
  have HB:Hid (Bw W wr):=hB
  obtain ⟨p0,p1,p2⟩:=HV.out.below hB
  by_cases hlt:k<n
  ·rcases HP.out with h0 | ⟨b,off,rfl,hb,hpt⟩
   ·omega
   obtain ⟨q0,q1,q2⟩:=(hpt.below (zA HB0.out hB) hb) k hlt
   have hi:(k:Int)<(n:Int):=by omega
   have hi0:(0:Int)≤(k:Int):=by omega
   have heq:=fun w=>zHa z x y (R.z k) (R.x k) (R.y k) w
   rw [zVt] at heq
   clear hno hB hpt
   cases hE:((R.z k == z) && ((R.x k == x) && (R.y k == y)))
   ·rw [hE] at heq
    have HN2:Hid (∀ j,j<k+1→((R.z j == z) && ((R.x j == x) && (R.y j == y)))=false):=fun j hj=>by
     by_cases e:j=k
     ·rw [e];exact hE
     ·exact HN.out j (by omega)
    clear hE
    generalize R.z k=rz at *
    generalize R.x k=rx at *
    generalize R.y k=ry at *
    go_wp2_with fail
    go_quiet (fail)
    go_wp2_with fail
    exact ⟨⟨k+1,by omega,by simp,HN2.out,below_drewN HB.out _⟩,by simp [intOf];omega⟩
   ·rw [hE] at heq
    have HY:Hid (hasR R z x y n=true):=zK4 hlt hE
    clear hE
    generalize R.z k=rz at *
    generalize R.x k=rx at *
    generalize R.y k=ry at *
    go_wp2_with fail
    go_quiet (fail)
    go_wp2
    go_ret
    exact ⟨⟨(k:Int),rfl,by rw [HY.out];simp⟩,below_drewN (zA HB0.out HB.out) _⟩
  ·obtain rfl:n=k:=by omega
   have HY:Hid (hasR R z x y n=false):=zO5 HN.out
   go_wp2
   go_ret
   exact ⟨⟨-1,rfl,by rw [HY.out];simp⟩,zA HB0.out HB.out⟩
theorem zLc (a:Option Addr)(n cap:Nat)(R:Rfs)(z x y:Int)(w:World)(hp:zHr w a n R)(hn:n≤1048576) :
  Calls Tryz.prog 169 #[.slice a n cap,vN z x y] w fun e w'=>e=.returned (.bool (hasR R z x y n))∧Bw w w':=by
 have HI:Hid (∀ W,Bw w W→Calls Tryz.prog 202 #[.slice a n cap,vN z x y] W fun e w'=>(∃ k:Int,e=.returned (.int .i64 k)∧decide (0≤k)=hasR R z x y n)∧Bw W w'):=fun W h=>zRw a n cap R z x y W (hp.below h) hn
 clear hp
 generalize hasR R z x y n=B at *
 go_enter Tryz.func169,Tryz.ntmps169
 go_wp2_with fail
 generalize hW:(w.alloc _:World)=W
 have HB0:Bw w W:=by subst hW;exact Qb
 clear hW
 refine (HI.out _ HB0).mono ?_
 rintro e w1 ⟨⟨k,rfl,hk⟩,hb1⟩
 have HK:Hid (decide (0≤k)=B):=hk
 clear hk
 go_wp2
 go_ret
 exact ⟨zG HK.out,zA HB0 hb1⟩
theorem zI8 (b n:Nat)(R:Rfs)(z x y:Int)(w:World)(hn:n≤1048576)(hL:∀ W,Bw w W→Calls Tryz.prog 107 #[.pointer (some ⟨b,0,none⟩)] W fun e w'=>∃ v,e=.returned v∧zFd W.heap.size w' v n R∧Bw W w') :
  Calls Tryz.prog 62 #[.pointer (some ⟨b,0,none⟩),vN z x y] w fun e w'=>e=.returned (.bool (hasR R z x y n))∧Bw w w':=by
 have HL:Hid (∀ W,Bw w W→Calls Tryz.prog 107 #[.pointer (some ⟨b,0,none⟩)] W fun e w'=>∃ v,e=.returned v∧zFd W.heap.size w' v n R∧Bw W w'):=hL
 clear hL
 go_enter Tryz.func62,Tryz.ntmps62
 go_wp2_with fail
 generalize hW:(w.alloc _:World)=W
 have HB0:Hid (Bw w W):=by show Below _ _ _;subst hW;exact Qb
 have HV:Hid (zAl W w.heap.size z x y):=by show zAl _ _ _ _ _;subst hW;exact ⟨by simp [go_sem],by simp [go_sem],by simp [go_sem]⟩
 clear hW
 refine (HL.out _ HB0.out).mono ?_
 rintro e w1 ⟨v,rfl,hO,hb1⟩
 obtain ⟨a0,cap0,hv,hc0,hcase⟩:=hO.own
 subst hv
 have HP:Hid (zHr w1 a0 n R):=by
  rcases hcase with h | ⟨g,ha,h1,h2,h3,_⟩
  ·exact .inl h
  ·exact .inr ⟨g,0,ha,h2,h3⟩
 have HV1:Hid (zAl w1 w.heap.size z x y):=HV.out.below hb1
 have HB1:Hid (Bw w w1):=zA HB0.out hb1
 clear hcase hO hb1 HV HB0 HL
 go_wp2_with fail
 go_loopw [6] (fun i wr=>∃ k:Nat,k≤n∧i=.int .i64 (k:Int)∧(∀ j,j<k→((R.z j == z) && ((R.x j == x) && (R.y j == y)))=false)∧Bw w1 wr) (fun i _=>n - (intOf i).toNat)
 case atStart=>exact ⟨0,by omega,rfl,fun j hj=>absurd hj (Nat.not_lt_zero _),Below.refl _ _⟩
 case round =>
  obtain ⟨k,hk,rfl,hno,hB⟩:=hrel
  have HN:Hid (∀ j,j<k→((R.z j == z) && ((R.x j == x) && (R.y j == y)))=false):=hno
  have HB:Hid (Bw w1 wr):=hB
  obtain ⟨p0,p1,p2⟩:=HV1.out.below hB
  by_cases hlt:k<n
  ·rcases HP.out with h0 | ⟨g,off,rfl,hb,hpt⟩
   ·omega
   obtain ⟨q0,q1,q2⟩:=(hpt.below hB hb) k hlt
   have hi:(k:Int)<(n:Int):=by omega
   have hi0:(0:Int)≤(k:Int):=by omega
   have heq:=fun w=>zHa (R.z k) (R.x k) (R.y k) z x y w
   clear hno hB hpt
   cases hE:((R.z k == z) && ((R.x k == x) && (R.y k == y)))
   ·rw [hE] at heq
    have HN2:Hid (∀ j,j<k+1→((R.z j == z) && ((R.x j == x) && (R.y j == y)))=false):=fun j hj=>by
     by_cases e:j=k
     ·rw [e];exact hE
     ·exact HN.out j (by omega)
    clear hE
    generalize R.z k=rz at *
    generalize R.x k=rx at *
    generalize R.y k=ry at *
    go_wp2_with fail
    go_quiet (fail)
    go_wp2_with fail
    exact ⟨⟨k+1,by omega,by simp,HN2.out,below_drewN HB.out _⟩,by simp [intOf];omega⟩
   ·rw [hE] at heq
    have HY:Hid (hasR R z x y n=true):=zK4 hlt hE
    clear hE
    generalize R.z k=rz at *
    generalize R.x k=rx at *
    generalize R.y k=ry at *
    go_wp2_with fail
    go_quiet (fail)
    go_wp2
    go_ret
    exact ⟨zG (by rw [HY.out]),below_drewN (zA HB1.out HB.out) _⟩
  ·obtain rfl:n=k:=by omega
   have HY:Hid (hasR R z x y n=false):=zO5 HN.out
   go_wp2
   go_ret
   exact ⟨zG (by rw [HY.out]),zA HB1.out HB.out⟩
abbrev xC (e:Req):List Value:=[.int .i64 e.z,.int .i64 e.x,.int .i64 e.y,.int .i64 e.du,.int .i64 e.tr]
def yH (l:List Req):List Value:=l.flatMap xC
theorem uP:∀ l:List Req,(yH l).length=l.length * 5
 | []=>rfl
 | e :: l=>by
  have h:=uP l
  unfold yH at h ⊢
  rw [List.flatMap_cons,List.length_append,h]
  simp
  omega
theorem xH (l m:List Req):yH (l ++ m)=yH l ++ yH m:=by simp [yH]
theorem xB (e:Req):yH [e]=xC e:=by simp [yH]
theorem zBi (l:List Req):∀ u ∈ yH l,u.oneCell'=true:=fun u hu=>by
 unfold yH at hu
 rw [List.mem_flatMap] at hu
 obtain ⟨e,_,h⟩:=hu
 simp at h
 rcases h with rfl | rfl | rfl | rfl | rfl <;> rfl
def nw (l:List Req)(i:Nat):Req:=l.getD i ⟨0,0,0,0,0⟩
theorem nw_cons (e:Req)(l:List Req)(i:Nat):nw (e :: l) (i+1)=nw l i:=by simp [nw]
theorem nw_zero (e:Req)(l:List Req):nw (e :: l) 0=e:=by simp [nw]
theorem zHi:∀ (l:List Req) (i:Nat),i<l.length→∀ k,k<5→(yH l)[i * 5+k]?=(xC (nw l i))[k]?
 | [],i,h,_,_=>absurd h (by simp)
 | e :: l,0,_,k,hk=>by
  rw [nw_zero]
  unfold yH
  rw [List.flatMap_cons,List.getElem?_append_left (by simp;omega)]
  simp
 | e :: l,i+1,h,k,hk=>by
  rw [nw_cons]
  have:=zHi l i (by simp at h;omega) k hk
  rw [← this]
  unfold yH
  rw [List.flatMap_cons,List.getElem?_append_right (by simp;omega)]
  congr 1
  simp
  omega
def zV (n:Nat)(E:Nat→Req):List Req:=(List.range n).map E
theorem yN (n:Nat)(E:Nat→Req):(zV n E).length=n:=by simp [zV]
theorem zKj (n:Nat)(E:Nat→Req)(i:Nat)(h:i<n):nw (zV n E) i=E i:=by simp [nw,zV,h]
theorem zWb (l:List Req):zV l.length (nw l)=l:=by
 refine List.ext_getElem (by simp [zV]) fun i h1 h2=>?_
 have h2':=h2
 simp [zV,nw,h2']
theorem zJt {w:World}{b off n:Nat}{E:Nat→Req}(h:zAc w b off n E):∀ q u,(yH (zV n E))[q]?=some u→w.cell? ⟨b,off+q,none⟩=some u:=fun q u hq=>by
 have hl:q<n * 5:=by
  have h1:=uP (zV n E)
  rw [yN] at h1
  rcases Nat.lt_or_ge q (n * 5) with h' | h'
  ·exact h'
  ·rw [List.getElem?_eq_none (by omega)] at hq
   cases hq
 have e1:q=q / 5 * 5+q % 5:=by omega
 have hi:q / 5<n:=by omega
 have hat:=zHi (zV n E) (q / 5) (by rw [yN];exact hi) (q % 5) (by omega)
 rw [← e1,zKj _ _ _ hi,hq] at hat
 obtain ⟨h0,h1,h2,h3,h4⟩:=h (q / 5) hi
 have e2:off+q=off+q / 5 * 5+q % 5:=by omega
 rw [e2]
 have hr:q % 5=0∨q % 5=1∨q % 5=2∨q % 5=3∨q % 5=4:=by omega
 rcases hr with hr | hr | hr | hr | hr <;> rw [hr] at hat ⊢ <;> simp at hat <;> subst hat <;> assumption
def yK (base:Nat)(w:World)(v:Value)(l:List Req):Prop:=w.ownsRow base 106 5 v l.length (yH l)
theorem yK.no (base:Nat)(w:World):yK base w (.slice none 0 0) []:=World.ownsRow_nil _ _ _ _
theorem yK.own {base:Nat}{w:World}{v:Value}{l:List Req}(h:yK base w v l):zFw w base v l.length (nw l):=by
 obtain ⟨h1,h2 | ⟨g,cp,cur,hv,hg,hh,hkc,hcm,hcs,htk⟩⟩:=h
 ·obtain ⟨rfl,h0⟩:=h2
  rw [h0]
  exact ⟨none,0,rfl,Nat.le_refl _,.inl rfl⟩
 ·have hgl:g<w.heap.size:=by
   rcases Nat.lt_or_ge g w.heap.size with h' | h'
   ·exact h'
   ·rw [Array.getElem?_eq_none h'] at hh;cases hh
  have hrow:w.ownsRow base 106 5 (.slice (some ⟨g,0,none⟩) l.length cp) l.length (yH l):=⟨h1,.inr ⟨g,cp,cur,rfl,hg,hh,hkc,hcm,hcs,htk⟩⟩
  refine ⟨some ⟨g,0,none⟩,cp,hv,hkc,.inr ⟨g,rfl,hg,hgl,fun i hi=>?_,fun o ho=>⟨?_,hrow.frozenAt o⟩⟩⟩
  ·have ha:=zHi l i hi
   simp only [Nat.zero_add]
   exact ⟨(hrow.cellAt _ (by omega)).trans (ha 0 (by omega)),(hrow.cellAt _ (by omega)).trans (ha 1 (by omega)),(hrow.cellAt _ (by omega)).trans (ha 2 (by omega)),(hrow.cellAt _ (by omega)).trans (ha 3 (by omega)),(hrow.cellAt _ (by omega)).trans (ha 4 (by omega))⟩
  ·rw [hrow.cellAt o ho]
   have hlt:o<(yH l).length:=by rw [uP];exact ho
   exact ⟨(yH l)[o],List.getElem?_eq_getElem hlt⟩
theorem zCn {base s n:Nat}{t:TypeId}{w w':World}{v:Value}{xs:List Value}(h:w.ownsRow base t s v n xs)(hb:Below w.heap.size w w'):w'.ownsRow base t s v n xs:=by
 obtain ⟨h1,h2 | ⟨g,cp,cur,hv,hg,hh,hr⟩⟩:=h
 ·exact ⟨h1,.inl h2⟩
 ·refine ⟨h1,.inr ⟨g,cp,cur,hv,hg,?_,hr⟩⟩
  have hgl:g<w.heap.size:=by
   rcases Nat.lt_or_ge g w.heap.size with h' | h'
   ·exact h'
   ·rw [Array.getElem?_eq_none h'] at hh;cases hh
  rw [hb.block g hgl]
  exact hh
theorem yK.below {base:Nat}{w w':World}{v:Value}{l:List Req}(h:yK base w v l)(hb:Below w.heap.size w w'):yK base w' v l:=zCn h hb
theorem zP {base s n r o:Nat}{t:TypeId}{w:World}{v u:Value}{xs:List Value}(h:w.ownsRow base t s v n xs)(hr:r<base):(w.setCell ⟨r,o,none⟩ u).ownsRow base t s v n xs:=by
 obtain ⟨h1,h2 | ⟨g,cp,cur,hv,hg,hh,hk⟩⟩:=h
 ·exact ⟨h1,.inl h2⟩
 ·refine ⟨h1,.inr ⟨g,cp,cur,hv,hg,?_,hk⟩⟩
  rw [Below.heap_setCell w ⟨r,o,none⟩ u g (fun e=>by simp at e;omega)]
  exact hh
theorem zS {base B s n:Nat}{t:TypeId}{w:World}{v:Value}{xs:List Value}(h:w.ownsRow base t s v n xs)(hB:B≤base):w.ownsRow B t s v n xs:=by
 obtain ⟨h1,h2 | ⟨g,cp,cur,hv,hg,hk⟩⟩:=h
 ·exact ⟨h1,.inl h2⟩
 ·exact ⟨h1,.inr ⟨g,cp,cur,hv,by omega,hk⟩⟩
theorem zIz {w:World}{base base' s s' n n':Nat}{t t':TypeId}{v v':Value}{xs xs':List Value}(h:w.ownsRow base t s v n xs)(h':w.ownsRow base' t' s' v' n' xs')(ht:t≠t') :
  ∀ p l c p' l' c',v=.slice (some p) l c→v'=.slice (some p') l' c'→p.block≠p'.block:=fun p l c p' l' c' e e' hp=>by
 obtain ⟨_,h2 | ⟨g,cp,cur,hv,hg,hh,_⟩⟩:=h
 ·rw [h2.1] at e;cases e
 obtain ⟨_,h3 | ⟨g',cp',cur',hv',hg',hh',_⟩⟩:=h'
 ·rw [h3.1] at e';cases e'
 rw [hv] at e
 rw [hv'] at e'
 injection e with e _ _
 injection e with e
 injection e' with e' _ _
 injection e' with e'
 subst e e'
 simp at hp
 subst hp
 rw [hh] at hh'
 injection hh' with hh'
 injection hh' with _ h4 _
 exact ht h4
def xZ (l:List Req):Rfs:=⟨fun i=>(nw l i).z,fun i=>(nw l i).x,fun i=>(nw l i).y⟩
theorem nw_app (l m:List Req)(i:Nat)(h:i<l.length):nw (l ++ m) i=nw l i:=by simp [nw,List.getElem?_append_left h]
theorem nw_last (l:List Req)(e:Req):nw (l ++ [e]) l.length=e:=by simp [nw]
def yP (base:Nat)(w:World)(v:Value)(l:List Req):Prop:=w.ownsRow base 104 3 v l.length (yE (xZ l) l.length)
theorem yP.no (base:Nat)(w:World):yP base w (.slice none 0 0) []:=World.ownsRow_nil _ _ _ _
theorem yP.own {base:Nat}{w:World}{v:Value}{l:List Req}(h:yP base w v l):zNs w base v l.length (xZ l):=zFd.own h
theorem yP.below {base:Nat}{w w':World}{v:Value}{l:List Req}(h:yP base w v l)(hb:Below w.heap.size w w'):yP base w' v l:=zCn h hb
theorem zBg:(Tryz.prog.info? 106).map (fun i=>(i.zero,i.size,i.bytes))=some (some (.agg #[.int .i64 0,.int .i64 0,.int .i64 0,.int .i64 0,.int .i64 0]),5,40):=by kernel_rfl
theorem zEz (a:Option Addr)(n cap:Nat)(E:Nat→Req)(w:World)(hp:xS w a n E)(hn:n≤1048576) :
  Calls Tryz.prog 173 #[.slice a n cap] w fun e w'=>∃ v,e=.returned v∧yK w.heap.size w' v (zV n E)∧Bw w w':=by
 obtain ⟨i0,hi,hz0,hz1,hz2⟩:=info_parts zBg
 have HLEN:Hid ((zV n E).length=n):=yN n E
 cases a with
 | none =>
  rcases hp with h0 | ⟨b,off,h,_⟩
  ·subst h0
   have hnl:∀ w,Sem.run Tryz.prog (binOp BinOp.eql 36 (.slice none 0 cap) (.slice none 0 0)) w=.ok (.bool true) w:=fun _=>by kernel_rfl
   go_enter Tryz.func173,Tryz.ntmps173
   go_wp2
   go_ret
   exact ⟨_,rfl,yK.no _ _,Qb⟩
  ·cases h
 | some ad =>
  have HC:Hid (∀ q u,(yH (zV n E))[q]?=some u→(w.alloc (.cells #[] 106)).cell? (ad.add q)=some u):=fun q u hq=>by
   rcases hp with h0 | ⟨b,off,h,hbl,hpt⟩
   ·subst h0
    simp [zV,yH] at hq
   ·injection h with h
    subst h
    have h1:=zJt (hpt.below (by exact Qb:Below w.heap.size w (w.alloc (.cells #[] 106))) hbl) q u hq
    by_cases hq0:q=0
    ·subst hq0;simpa [Addr.add] using h1
    ·simpa [Addr.add,hq0] using h1
  have hnl:∀ w,Sem.run Tryz.prog (binOp BinOp.eql 36 (.slice (some ad) n cap) (.slice none 0 0)) w=.ok (.bool false) w:=fun _=>by kernel_rfl
  clear hp
  go_enter Tryz.func173,Tryz.ntmps173
  go_wp2_with (first
   | (at_builtin;go_must (refine wpList_append_own _ rfl _ _ 36 rfl w.heap.size 106 i0 (.agg #[.int .i64 0,.int .i64 0,.int .i64 0,.int .i64 0,.int .i64 0]) 5 40 Tryz.underlying36 hi hz0 hz1 hz2 rfl (by decide) (.slice (some ⟨w.heap.size,0,none⟩) 0 0) 0 [] rfl (World.ownsRow_lit (base:=w.heap.size) w #[] 0 (Nat.le_refl _) (Nat.zero_le _) rfl) ad n cap (yH (zV n E)) rfl ?c0 ?c1 ?c2 ?c3 ?c4 ?c5 ?_)))
  case c0=>rw [uP,HLEN.out]
  case c1=>exact HC.out
  case c2=>exact zBi _
  case c3=>unfold maxLen;omega
  case c4=>omega
  case c5=>first | omega | (simp;done) | (simp;omega)
  intro v' w2 hown' hgrow hnil
  have HR:Hid (yK w.heap.size w2 v' (zV n E)):=by
   show World.ownsRow _ _ _ _ _ _ _
   rw [HLEN.out]
   simpa using hown'
  have HB:Hid (Bw w w2):=by
   have h1:Bw w (w.alloc (.cells #[] 106)):=by exact Qb
   exact h1.trans ⟨hgrow.os,hgrow.tape,hgrow.output,hgrow.size,fun k hk=>hgrow.block k (by simp;omega) (by simp [Value.ownBlock];omega)⟩
  clear hown' hgrow hnil
  go_wp2
  go_ret
  exact ⟨_,rfl,HR.out,HB.out⟩
theorem zGz (a:Option Addr)(n cap:Nat)(E:Nat→Req)(w:World)(hp:xS w a n E)(hn:n≤1048576)(ha:∃ ad,a=some ad) :
  Calls Tryz.prog 109 #[.slice a n cap] w fun e w'=>∃ v,e=.returned v∧yK w.heap.size w' v (zV n E)∧Bw w w':=by
 obtain ⟨i0,hi,hz0,hz1,hz2⟩:=info_parts zBg
 have HLEN:Hid ((zV n E).length=n):=yN n E
 obtain ⟨ad,rfl⟩:=ha
 have HC:Hid (∀ q u,(yH (zV n E))[q]?=some u→(w.alloc (.cells #[] 106)).cell? (ad.add q)=some u):=fun q u hq=>by
  rcases hp with h0 | ⟨b,off,h,hbl,hpt⟩
  ·subst h0
   simp [zV,yH] at hq
  ·injection h with h
   subst h
   have h1:=zJt (hpt.below (by exact Qb:Below w.heap.size w (w.alloc (.cells #[] 106))) hbl) q u hq
   by_cases hq0:q=0
   ·subst hq0;simpa [Addr.add] using h1
   ·simpa [Addr.add,hq0] using h1
 clear hp
 go_enter Tryz.func109,Tryz.ntmps109
 go_wp2_with (first
  | (at_builtin;go_must (refine wpList_append_own _ rfl _ _ 36 rfl w.heap.size 106 i0 (.agg #[.int .i64 0,.int .i64 0,.int .i64 0,.int .i64 0,.int .i64 0]) 5 40 Tryz.underlying36 hi hz0 hz1 hz2 rfl (by decide) (.slice (some ⟨w.heap.size,0,none⟩) 0 0) 0 [] rfl (World.ownsRow_lit (base:=w.heap.size) w #[] 0 (Nat.le_refl _) (Nat.zero_le _) rfl) ad n cap (yH (zV n E)) rfl ?c0 ?c1 ?c2 ?c3 ?c4 ?c5 ?_)))
 case c0=>rw [uP,HLEN.out]
 case c1=>exact HC.out
 case c2=>exact zBi _
 case c3=>unfold maxLen;omega
 case c4=>omega
 case c5=>first | omega | (simp;done) | (simp;omega)
 intro v' w2 hown' hgrow hnil
 have HR:Hid (yK w.heap.size w2 v' (zV n E)):=by
  show World.ownsRow _ _ _ _ _ _ _
  rw [HLEN.out]
  simpa using hown'
 have HB:Hid (Bw w w2):=by
  have h1:Bw w (w.alloc (.cells #[] 106)):=by exact Qb
  exact h1.trans ⟨hgrow.os,hgrow.tape,hgrow.output,hgrow.size,fun k hk=>hgrow.block k (by simp;omega) (by simp [Value.ownBlock];omega)⟩
 clear hown' hgrow hnil
 go_wp2
 go_ret
 exact ⟨_,rfl,HR.out,HB.out⟩
end Go.Proofs.YtkjbafcalamgnaaGreat
