/- Texts. -/
import Derived.Test.YtpaiholildedcaaGreatVNewViewer12
import Derived.Test.YtpaiholildedcaaGreatVNewViewer11
import Derived.Test.YtpaiholildedcaaGreatVNewViewer7
set_option linter.unusedSimpArgs false
set_option linter.unusedVariables false
set_option maxRecDepth 100000
set_option maxHeartbeats 32000000
namespace Go.Proofs.YtpaiholildedcaaGreat
open Go.RowKit
theorem zH6 {n k:Nat}{E:Nat→Req}(h:k<n):(atW k E (E k).z (E k).x (E k).y=-1∧atW n E (E k).z (E k).x (E k).y=(k:Int))∨(0≤atW k E (E k).z (E k).x (E k).y∧∃ i:Nat,i<k∧atW n E (E k).z (E k).x (E k).y=(i:Int)):=by
 rcases zCu (fun i=>isR (E i) (E k).z (E k).x (E k).y) k with ⟨h1,h2⟩ | ⟨i,hi,hg,hf,hn⟩
 ·exact .inl ⟨h1,xS (G:=fun i=>isR (E i) (E k).z (E k).x (E k).y) h (zLr _) h2⟩
 ·exact .inr ⟨by unfold atW;rw [hf];omega,i,hi,xS (G:=fun i=>isR (E i) (E k).z (E k).x (E k).y) (by omega) hg hn⟩
theorem zIl (e:Req):(zMb e=0∧zGn e=true)∨(zMb e=3∧zGn e=false):=by
 unfold zMb
 cases h:zGn e <;> simp
theorem yO (a:Option Addr)(n cap:Nat)(E:Nat→Req)(w:World)(hp:xV w a n E)(hn:n≤1048576)(hcap:n≤cap) :
  Calls Tryz.prog 76 #[.slice a n cap] w fun e w'=>e=.returned (.int .i64 (zQ n E))∧Bw w w':=by
 have HP:Hid (xV w a n E):=hp
 clear hp
 by_cases h8:(8:Int)<n
 ·have hz:Hid (zQ n E=2):=by show _=_;unfold zQ;rw [if_pos (by omega)]
  go_enter Tryz.func76,Tryz.ntmps76
  go_wp2
  go_ret
  exact ⟨zH hz.out.symm,Qb⟩
 ·have hz:Hid (zQ n E=uB (yY E) 0 n):=by show _=_;unfold zQ;rw [if_neg (by omega)]
  go_enter Tryz.func76,Tryz.ntmps76
  go_wp2
  go_loopw [11] (fun v wr=>∃ k:Nat,k≤n∧v=.int .i64 k∧(∀ j,j<k→yY E j=0)∧Bw w wr) (fun v _=>n - (intOf v).toNat)
  case atStart=>exact ⟨0,by omega,rfl,by omega,Below.refl _ _⟩
  case round =>
   obtain ⟨k,hk,rfl,hA,hB⟩:=hrel
   have HB:Hid (Bw w wr):=hB
   have HA:Hid (∀ j,j<k→yY E j=0):=hA
   by_cases hlt:k<n
   ·rcases HP.out with h0 | ⟨b,off,rfl,hbl,hpt⟩
    ·omega
    have HGr:Hid (vG wr b off n E):=hpt.below hB hbl
    have hblr:b<wr.heap.size:=Nat.lt_of_lt_of_le hbl hB.size
    obtain ⟨f0,f1,f2,f3,f4⟩:=HGr.out k hlt
    have HLT:Hid (k<n):=hlt
    have first:Hid (∀ c,yY E k=c→c≠0→zQ n E=c):=fun c hc h0=>by
     rw [hz.out,xQ (yY E) n 0 k (fun j _ hj=>HA.out j hj) (by omega) (by have:=HLT.out;omega) (by rw [hc];exact h0),hc]
    have HOK:Hid (yY E k=0→∀ j,j<k+1→yY E j=0):=fun h0 j hj=>by
     by_cases e:j=k
     ·rw [e];exact h0
     ·exact HA.out j (by omega)
    clear hB hA hpt
    have hi:(k:Int)<(n:Int):=by omega
    have hi0:(0:Int)≤(k:Int):=by omega
    go_wp2_with fail
    generalize hV:(wr.alloc _:World)=V
    have hBV:Bw wr V:=by subst hV;exact Qb
    have v0:∀ W',Bw V W'→W'.cell? ⟨wr.heap.size,0,none⟩=some (.int .i64 (E k).z):=Qc hV
    have v1:∀ W',Bw V W'→W'.cell? ⟨wr.heap.size,1,none⟩=some (.int .i64 (E k).x):=Qc hV
    have v2:∀ W',Bw V W'→W'.cell? ⟨wr.heap.size,2,none⟩=some (.int .i64 (E k).y):=Qc hV
    clear hV
    have HBV:Hid (Bw w V):=zB HB.out hBV
    have HGV:Hid (vG V b off n E):=HGr.out.below hBV hblr
    have hblV:b<V.heap.size:=Nat.lt_of_lt_of_le hblr hBV.size
    clear hBV f0 f1 f2 f3 f4 HGr
    refine (zBs (E k) _).mono ?_
    rintro e w1 ⟨rfl,hb1⟩
    rcases zIl (E k) with ⟨hc0,hcB⟩ | ⟨hc3,hcB⟩
    ·rw [hc0]
     have hr1:Bw V w1:=hb1
     have hkn:(k:Int)≤(n:Int):=by omega
     have hkc:(k:Int)≤(cap:Int):=by omega
     have HH:Hid (∀ W',Bw V W'→Calls Tryz.prog 126 #[.slice (some ⟨b,off,none⟩) k cap,xK (E k).z (E k).x (E k).y] W' fun e w'=>e=.returned (.int .i64 (atW k E (E k).z (E k).x (E k).y))∧Below W'.heap.size W' w'):=fun W' h =>
      zAp _ k cap E _ _ _ W' (.inr ⟨b,off,rfl,Nat.lt_of_lt_of_le hblV h.size,fun i hi=>(HGV.out.below h hblV) i (by have:=HLT.out;omega)⟩) (by omega)
     clear hc0 hb1
     rcases zH6 HLT.out with ⟨hq,_⟩ | ⟨hq,_⟩
     ·have hok:Hid (yY E k=0):=zHu hcB hq
      rw [hq] at HH
      clear hq hcB
      generalize (E k).z=rz at *
      generalize (E k).x=rx at *
      generalize (E k).y=ry at *
      go_wp2_with fail
      go_region_held3 (fun W'=>Bw V W') ((repeat (first|exact Qr _ _|assumption|refine Qd ?_|refine Qa ?_ _|refine Qt ?_|refine Qs ?_ _|refine Qo ?_ ?_ _ _)))
       (first | (go_at_call 126;refine (HH.out _ (by assumption)).mono ?_;rintro e w' ⟨rfl,hb⟩) | fail)
      go_wp2
      go_roundw
      case rel=>exact ⟨k+1,by have:=HLT.out;omega,by go_num,HOK.out hok.out,zB HBV.out (by assumption)⟩
      case measure=>have:=HLT.out;simp [intOf];omega
     ·have hsc:Hid (zQ n E=6):=first.out 6 (zCi hcB hq) (by decide)
      have hq':(0:Int)≤atW k E (E k).z (E k).x (E k).y:=hq
      clear hq hcB
      generalize atW k E (E k).z (E k).x (E k).y=q at *
      generalize (E k).z=rz at *
      generalize (E k).x=rx at *
      generalize (E k).y=ry at *
      go_wp2_with fail
      go_region_held3 (fun W'=>Bw V W') ((repeat (first|exact Qr _ _|assumption|refine Qd ?_|refine Qa ?_ _|refine Qt ?_|refine Qs ?_ _|refine Qo ?_ ?_ _ _)))
       (first | (go_at_call 126;refine (HH.out _ (by assumption)).mono ?_;rintro e w' ⟨rfl,hb⟩) | fail)
      go_wp2
      go_ret
      exact ⟨zH hsc.out.symm,zB HBV.out (by assumption)⟩
    ·have hsc:Hid (zQ n E=3):=first.out 3 (zAq hcB) (by decide)
     rw [hc3]
     have HB1:Hid (Bw w w1):=zB HBV.out hb1
     clear hc3 hcB hb1
     go_wp2
     go_ret
     exact ⟨zH hsc.out.symm,HB1.out⟩
   ·have hsc:Hid (zQ n E=0):=by
     show _=_
     rw [hz.out]
     exact zAo _ _ _ (fun j _ hj=>HA.out j (by omega))
    go_wp2
    go_ret
    exact ⟨zH hsc.out.symm,HB.out⟩
theorem zFw (a:Option Addr)(n cap:Nat)(E:Nat→Req)(w:World)(hp:xV w a n E)(hn:n≤1048576) :
  Calls Tryz.prog 90 #[.slice a n cap] w fun e w'=>e=.returned (.int .i64 (zQ n E))∧Bw w w':=by
 have HP:Hid (xV w a n E):=hp
 clear hp
 by_cases h8:(8:Int)<n
 ·have hz:Hid (zQ n E=2):=by show _=_;unfold zQ;rw [if_pos (by omega)]
  go_enter Tryz.func90,Tryz.ntmps90
  go_wp2
  go_ret
  exact ⟨zH hz.out.symm,Qb⟩
 ·have hz:Hid (zQ n E=uB (yY E) 0 n):=by show _=_;unfold zQ;rw [if_neg (by omega)]
  go_enter Tryz.func90,Tryz.ntmps90
  go_wp2
  go_loopw [3] (fun v wr=>∃ k:Nat,k≤n∧v=.int .i64 k∧(∀ j,j<k→yY E j=0)∧Bw w wr) (fun v _=>n - (intOf v).toNat)
  case atStart=>exact ⟨0,by omega,rfl,by omega,Below.refl _ _⟩
  case round =>
   obtain ⟨k,hk,rfl,hA,hB⟩:=hrel
   have HB:Hid (Bw w wr):=hB
   have HA:Hid (∀ j,j<k→yY E j=0):=hA
   by_cases hlt:k<n
   ·rcases HP.out with h0 | ⟨b,off,rfl,hbl,hpt⟩
    ·omega
    have HGr:Hid (vG wr b off n E):=hpt.below hB hbl
    have hblr:b<wr.heap.size:=Nat.lt_of_lt_of_le hbl hB.size
    have hr:Bw wr wr:=Below.refl _ _
    obtain ⟨f0,f1,f2,_,_⟩:=HGr.out k hlt
    have HLT:Hid (k<n):=hlt
    have first:Hid (∀ c,yY E k=c→c≠0→zQ n E=c):=fun c hc h0=>by
     rw [hz.out,xQ (yY E) n 0 k (fun j _ hj=>HA.out j hj) (by omega) (by have:=HLT.out;omega) (by rw [hc];exact h0),hc]
    have HOK:Hid (yY E k=0→∀ j,j<k+1→yY E j=0):=fun h0 j hj=>by
     by_cases e:j=k
     ·rw [e];exact h0
     ·exact HA.out j (by omega)
    clear hB hA hpt
    have hi:(k:Int)<(n:Int):=by omega
    have hi0:(0:Int)≤(k:Int):=by omega
    go_wp2_with fail
    refine (zCq _ _ _ _).mono ?_
    rintro e w1 ⟨rfl,hb1⟩
    have HB1:Hid (Bw w w1):=zB HB.out hb1
    have HG1:Hid (vG w1 b off n E):=HGr.out.below hb1 hblr
    have hbl1:b<w1.heap.size:=Nat.lt_of_lt_of_le hblr hb1.size
    clear f0 f1 f2 hb1 hr
    rcases zA9 (E k).z (E k).x (E k).y with ⟨h1,h2⟩ | ⟨h1,h2⟩
    ·rw [h1]
     obtain ⟨g0,g1,g2,g3,g4⟩:=HG1.out k hlt
     clear h1
     cases hcB:(inB (E k).du 0 9999 && inB (E k).tr 1 99)
     ·have hsc:Hid (zQ n E=3):=first.out 3 (zAq (by simp [zGn,h2,hcB])) (by decide)
      clear h2
      cases h3:inB (E k).du 0 9999
      ·clear hcB
       go_wp2_with (go_at_call 32;refine (yL _ _ _ _).mono ?_;rintro e w' ⟨rfl,rfl⟩)
       go_ret
       exact ⟨zH hsc.out.symm,HB1.out⟩
      ·have h4:inB (E k).tr 1 99=false:=by rw [h3] at hcB;simpa using hcB
       clear hcB
       go_wp2_with (go_at_call 32;refine (yL _ _ _ _).mono ?_;rintro e w' ⟨rfl,rfl⟩)
       go_ret
       exact ⟨zH hsc.out.symm,HB1.out⟩
     ·have h3:inB (E k).du 0 9999=true:=by simp at hcB;exact hcB.1
      have h4:inB (E k).tr 1 99=true:=by simp at hcB;exact hcB.2
      have hrq:Hid (zGn (E k)=true):=by show _=_;simp [zGn,h2,hcB]
      clear hcB h2
      have HH:Hid (Calls Tryz.prog 114 #[.slice (some ⟨b,off,none⟩) n cap,xK (E k).z (E k).x (E k).y] w1 fun e w'=>e=.returned (.int .i64 (atW n E (E k).z (E k).x (E k).y))∧Bw w1 w') :=
       zFx _ n cap E _ _ _ w1 (.inr ⟨b,off,rfl,hbl1,HG1.out⟩) (by omega)
      rcases zH6 HLT.out with ⟨hq,hq2⟩ | ⟨hq,i,hik,hq2⟩
      ·have hok:Hid (yY E k=0):=zHu hrq.out hq
       rw [hq2] at HH
       clear hq hq2
       generalize (E k).z=rz at *
       generalize (E k).x=rx at *
       generalize (E k).y=ry at *
       generalize (E k).du=rd at *
       generalize (E k).tr=rt at *
       go_wp2_with (first | (go_at_call 32;refine (yL _ _ _ _).mono ?_;rintro e w' ⟨rfl,rfl⟩) | (go_at_call 114;refine HH.out.mono ?_;rintro e w' ⟨rfl,hb⟩))
       go_roundw
       case rel=>exact ⟨k+1,by have:=HLT.out;omega,by go_num,HOK.out hok.out,zB HB1.out (by assumption)⟩
       case measure=>have:=HLT.out;simp [intOf];omega
      ·have hsc:Hid (zQ n E=6):=first.out 6 (zCi hrq.out hq) (by decide)
       have hne:((i:Int) == (k:Int))=false:=by simp;omega
       rw [hq2] at HH
       clear hq hq2
       generalize (E k).z=rz at *
       generalize (E k).x=rx at *
       generalize (E k).y=ry at *
       generalize (E k).du=rd at *
       generalize (E k).tr=rt at *
       generalize (i:Int)=ii at *
       clear hik
       go_wp2_with (first | (go_at_call 32;refine (yL _ _ _ _).mono ?_;rintro e w' ⟨rfl,rfl⟩) | (go_at_call 114;refine HH.out.mono ?_;rintro e w' ⟨rfl,hb⟩))
       go_ret
       exact ⟨zH hsc.out.symm,zB HB1.out (by assumption)⟩
    ·have hsc:Hid (zQ n E=3):=first.out 3 (zAq (by simp [zGn,h2])) (by decide)
     rw [h1]
     clear h1 h2
     go_wp2
     go_ret
     exact ⟨zH hsc.out.symm,HB1.out⟩
   ·have hsc:Hid (zQ n E=0):=by
     show _=_
     rw [hz.out]
     exact zAo _ _ _ (fun j _ hj=>HA.out j (by omega))
    go_wp2
    go_ret
    exact ⟨zH hsc.out.symm,HB.out⟩
theorem zAg {w:World}{P:Program}{k:TypeId}{mb n o p:Nat}{D:DataW Value}{v:Value}(hm:w.ownsMap P k RV mb n D)(hp:w.cell? ⟨p,o,none⟩=some v):p≠mb:=by
 intro e
 subst e
 obtain ⟨es,c,hb,_⟩:=hm
 simp [World.cell?,hb] at hp
def vY (W:World)(p q:Nat)(s t:Int)(mb:Nat)(k:Kp):Prop :=
 (W.cell? ⟨p,0,none⟩=some (.int .i64 s)∧W.cell? ⟨p,1,none⟩=some (.int .i64 t)∧W.cell? ⟨p,2,none⟩=some (.map (some mb))) ∧
 W.cell? ⟨q,0,none⟩=some (.int .i64 k.z)∧W.cell? ⟨q,1,none⟩=some (.int .i64 k.x)∧W.cell? ⟨q,2,none⟩=some (.int .i64 k.y)∧W.cell? ⟨q,3,none⟩=some (.slice k.fa k.fn k.fc)∧W.cell? ⟨q,4,none⟩=some (.slice k.ia k.m k.ic)
theorem vY.grown {w w':World}{p q mb:Nat}{s t:Int}{k:Kp}(h:vY w p q s t mb k)(hg:w.grownBy w' (some mb))(hp:p≠mb)(hq:q≠mb):vY w' p q s t mb k:=by
 obtain ⟨⟨a,b,c⟩,d,e,f,g,i⟩:=h
 exact ⟨⟨yF hg a hp,yF hg b hp,yF hg c hp⟩,yF hg d hq,yF hg e hq,yF hg f hq,yF hg g hq,yF hg i hq⟩
abbrev zGo (D:DataW Value)(k:Kp)(t:Int):DataW Value:=D.put (uS k.z k.x k.y) (.held (agV k.z k.x k.y k.fa k.fn k.fc k.ia k.m k.ic t))
theorem zCd {w:World}{p n:Nat}{o:Obj}(h:zC w p n)(hp:p<w.heap.size):zC (w.alloc o) p n:=fun i hi=>by
 obtain ⟨⟨v,h1⟩,h2⟩:=h i hi
 refine ⟨⟨v,?_⟩,?_⟩
 ·rw [World.cell?_alloc_old _ _ _ (Nat.ne_of_lt hp)];exact h1
 ·rw [World.frozen?_alloc_old _ _ _ (Nat.ne_of_lt hp)];exact h2
theorem zEl (p mb n:Nat)(s t:Int)(D:DataW Value)(k:Kp)(w:World)(hp:ShA w p s t mb)(hT:zC w p 3)(hm:w.ownsMap Tryz.prog 111 RV mb n D)(hz:I64 k.z)(hx:I64 k.x)(hy:I64 k.y)(hn:n<1000)(ht0:-10≤t)(ht:t<1000)(hD:(Maps.size (zGo D k (t+1)):Int)≤s) :
  Calls Tryz.prog 124 #[.pointer (some ⟨p,0,none⟩),kpV k] w fun e w'=>e=.returned (.tuple #[])∧ShA w' p s (t+1) mb∧zC w' p 3∧w'.ownsMap Tryz.prog 111 RV mb (n+1) (zGo D k (t+1))∧(∀ B,B≤p→B≤mb→Below B w w')∧∀ q,q<w.heap.size→q≠p→q≠mb→w'.heap[q]?=w.heap[q]?:=by
 have hpl:p<w.heap.size:=World.block_lt_of_cell? _ _ hp.1
 have hml:mb<w.heap.size:=hm.lt
 have hpm:p≠mb:=zAg hm hp.1
 have HM:Hid (w.ownsMap Tryz.prog 111 RV mb n D):=hm
 have HT:Hid (zC w p 3):=hT
 have HP:Hid (ShA w p s t mb):=hp
 have HD:Hid ((Maps.size (zGo D k (t+1)):Int)≤s):=hD
 have HK:Hid (keyOf Tryz.prog 111 (xK k.z k.x k.y)=some (uS k.z k.x k.y)):=uY hz hx hy
 have c1:∀ o,(w.alloc o).cell? ⟨p,1,none⟩=some (.int .i64 t):=fun o=>by rw [World.cell?_alloc_old _ _ _ (Nat.ne_of_lt hpl)];exact hp.2.1
 have f1:∀ o,(w.alloc o).frozen? ⟨p,1,none⟩=false:=fun o=>by rw [World.frozen?_alloc_old _ _ _ (Nat.ne_of_lt hpl)];exact (hT 1 (by omega)).2
 have hw1:IntKind.i64.wrap (t+1)=t+1:=IntWalk.i64_in _ (by omega)
 clear hm hT hp hD hz hx hy
 go_enter Tryz.func124,Tryz.ntmps124
 go_wp2_with fail
 generalize hW:(World.alloc _ _:World)=W
 have HG:Hid (w.grownBy W (some p)):=by show World.grownBy _ _ _;subst hW;exact zAe (uJ (uO w (some p)) 1 _) (World.grownBy_alloc _ _ (some p))
 have HS:Hid (vY W p w.heap.size s (t+1) mb k):=by
  show vY _ _ _ _ _ _ _
  subst hW
  have nep:∀ o,o≠1→(⟨p,1,none⟩:Addr)≠⟨p,o,none⟩:=fun o h e=>by injection e with _ e;exact h e.symm
  have hlt:∀ v,p<(w.setCell ⟨p,1,none⟩ v).heap.size:=fun v=>by simp;exact hpl
  refine ⟨⟨?_,?_,?_⟩,?_,?_,?_,?_,?_⟩
  ·rw [World.cell?_alloc_old _ _ _ (Nat.ne_of_lt (hlt _)),zA (nep 0 (by omega))];exact HP.out.1
  ·rw [World.cell?_alloc_old _ _ _ (Nat.ne_of_lt (hlt _))];exact zD HP.out.2.1
  ·rw [World.cell?_alloc_old _ _ _ (Nat.ne_of_lt (hlt _)),zA (nep 2 (by omega))];exact HP.out.2.2
  ·simp [go_sem]
  ·simp [go_sem]
  ·simp [go_sem]
  ·simp [go_sem]
  ·simp [go_sem]
 have HTW:Hid (zC W p 3):=by show zC _ _ _;subst hW;exact zCd (HT.out.set _ _) (by simp;exact hpl)
 have hql:w.heap.size<W.heap.size:=by subst hW;simp [go_sem]
 have hqm:w.heap.size≠mb:=by omega
 clear hW c1 f1 hw1
 have HMW:Hid (W.ownsMap Tryz.prog 111 RV mb n D):=HM.out.kept HG.out (by simp;omega)
 obtain ⟨w1,hrun,hm1,hg1⟩:=HMW.out.drew.update xH Tryz.underlying171 (show n<maxLen by simp only [maxLen];omega) HK.out (zL1 k.z k.x k.y k.fa k.fn k.fc k.ia k.m k.ic (t+1))
 have HM1:Hid (w1.ownsMap Tryz.prog 111 RV mb (n+1) (zGo D k (t+1))):=hm1
 have HG1:Hid (W.grownBy w1 (some mb)):=⟨hg1.os,hg1.tape,hg1.output,hg1.size,hg1.block⟩
 clear hm1 hg1
 refine wp_region_noPanic ?_
 refine wp_region_held_drew (S:=fun W'=>vY W' p w.heap.size s (t+1) mb k) (by kernel_rfl) HS.out (fun hHeld=>?_)
 have hSd:vY W.drew p w.heap.size s (t+1) mb k:=HS.out
 refine zL (i:=0) (d:=some 11) (v:=?vr0) rfl rfl (Or.inl ⟨by rfl,?hyr0⟩) hSd ?_
 case hyr0=>(intro w hSw;obtain ⟨⟨s0,s1,s2⟩,k0,k1,k2,k3,k4⟩:=(show vY w p _ s (t+1) mb k from hSw);go_simp <;> with_reducible rfl)
 try simp only [Act.put,Qx,Qy,Qz]
 refine zL (i:=1) (d:=some 12) (v:=?vr1) rfl rfl (Or.inl ⟨by rfl,?hyr1⟩) hSd ?_
 case hyr1=>(intro w hSw;obtain ⟨⟨s0,s1,s2⟩,k0,k1,k2,k3,k4⟩:=(show vY w p _ s (t+1) mb k from hSw);go_simp <;> with_reducible rfl)
 try simp only [Act.put,Qx,Qy,Qz]
 refine zL (i:=2) (d:=some 13) (v:=?vr2) rfl rfl (Or.inl ⟨by rfl,?hyr2⟩) hSd ?_
 case hyr2=>(intro w hSw;obtain ⟨⟨s0,s1,s2⟩,k0,k1,k2,k3,k4⟩:=(show vY w p _ s (t+1) mb k from hSw);go_simp <;> with_reducible rfl)
 try simp only [Act.put,Qx,Qy,Qz]
 refine zL (i:=3) (d:=some 14) (v:=?vr3) rfl rfl (Or.inl ⟨by rfl,?hyr3⟩) hSd ?_
 case hyr3=>(intro w hSw;obtain ⟨⟨s0,s1,s2⟩,k0,k1,k2,k3,k4⟩:=(show vY w p _ s (t+1) mb k from hSw);go_simp <;> with_reducible rfl)
 try simp only [Act.put,Qx,Qy,Qz]
 refine zL (i:=4) (d:=some 15) (v:=?vr4) rfl rfl (Or.inl ⟨by rfl,?hyr4⟩) hSd ?_
 case hyr4=>(intro w hSw;obtain ⟨⟨s0,s1,s2⟩,k0,k1,k2,k3,k4⟩:=(show vY w p _ s (t+1) mb k from hSw);go_simp <;> with_reducible rfl)
 try simp only [Act.put,Qx,Qy,Qz]
 refine zL (i:=5) (d:=some 16) (v:=?vr5) rfl rfl (Or.inl ⟨by rfl,?hyr5⟩) hSd ?_
 case hyr5=>(intro w hSw;obtain ⟨⟨s0,s1,s2⟩,k0,k1,k2,k3,k4⟩:=(show vY w p _ s (t+1) mb k from hSw);go_simp <;> with_reducible rfl)
 try simp only [Act.put,Qx,Qy,Qz]
 refine zL (i:=6) (d:=some 17) (v:=?vr6) rfl rfl (Or.inl ⟨by rfl,?hyr6⟩) hSd ?_
 case hyr6=>(intro w hSw;obtain ⟨⟨s0,s1,s2⟩,k0,k1,k2,k3,k4⟩:=(show vY w p _ s (t+1) mb k from hSw);go_simp <;> with_reducible rfl)
 try simp only [Act.put,Qx,Qy,Qz]
 refine zL (i:=7) (d:=some 18) (v:=?vr7) rfl rfl (Or.inl ⟨by rfl,?hyr7⟩) hSd ?_
 case hyr7=>(intro w hSw;obtain ⟨⟨s0,s1,s2⟩,k0,k1,k2,k3,k4⟩:=(show vY w p _ s (t+1) mb k from hSw);go_simp <;> with_reducible rfl)
 try simp only [Act.put,Qx,Qy,Qz]
 refine zL (i:=8) (d:=some 19) (v:=?vr8) rfl rfl (Or.inl ⟨by rfl,?hyr8⟩) hSd ?_
 case hyr8=>(intro w hSw;obtain ⟨⟨s0,s1,s2⟩,k0,k1,k2,k3,k4⟩:=(show vY w p _ s (t+1) mb k from hSw);go_simp <;> with_reducible rfl)
 try simp only [Act.put,Qx,Qy,Qz]
 refine zL (i:=9) (d:=some 20) (v:=?vr9) rfl rfl (Or.inl ⟨by rfl,?hyr9⟩) hSd ?_
 case hyr9=>(intro w hSw;obtain ⟨⟨s0,s1,s2⟩,k0,k1,k2,k3,k4⟩:=(show vY w p _ s (t+1) mb k from hSw);go_simp <;> with_reducible rfl)
 try simp only [Act.put,Qx,Qy,Qz]
 refine zL (i:=10) (d:=some 21) (v:=?vr10) rfl rfl (Or.inl ⟨by rfl,?hyr10⟩) hSd ?_
 case hyr10=>(intro w hSw;obtain ⟨⟨s0,s1,s2⟩,k0,k1,k2,k3,k4⟩:=(show vY w p _ s (t+1) mb k from hSw);go_simp <;> with_reducible rfl)
 try simp only [Act.put,Qx,Qy,Qz]
 refine zL (i:=11) (d:=some 22) (v:=?vr11) rfl rfl (Or.inl ⟨by rfl,?hyr11⟩) hSd ?_
 case hyr11=>(intro w hSw;obtain ⟨⟨s0,s1,s2⟩,k0,k1,k2,k3,k4⟩:=(show vY w p _ s (t+1) mb k from hSw);go_simp <;> with_reducible rfl)
 try simp only [Act.put,Qx,Qy,Qz]
 refine zL (i:=12) (d:=some 23) (v:=?vr12) rfl rfl (Or.inl ⟨by rfl,?hyr12⟩) hSd ?_
 case hyr12=>(intro w hSw;obtain ⟨⟨s0,s1,s2⟩,k0,k1,k2,k3,k4⟩:=(show vY w p _ s (t+1) mb k from hSw);go_simp <;> with_reducible rfl)
 try simp only [Act.put,Qx,Qy,Qz]
 refine zN 13 fun K hK=>?_
 rw [if_pos (by rfl)]
 go_simp
 have HS1:vY w1 p w.heap.size s (t+1) mb k:=HS.out.grown HG1.out hpm hqm
 refine hK.out _ _ HS1 (fun hHeld=>?_)
 clear hK K hrun hSd
 try simp only [Act.put,Qx,Qy,Qz]
 refine wpAnyH_done (by kernel_rfl) ?_ _
 refine NoPanic.normal ?_
 have HT1:Hid (zC w1 p 3):=HTW.out.grown HG1.out hpm
 have HB1:Hid (∀ B,B≤p→B≤mb→Below B w w1):=fun B h1 h2=>(xE HG.out h1 (by omega)).trans (xE HG1.out h2 (by omega))
 have HQ1:Hid (∀ q,q<w.heap.size→q≠p→q≠mb→w1.heap[q]?=w.heap[q]?):=fun q h1 h2 h3=>(HG1.out.block q (Nat.lt_of_lt_of_le h1 HG.out.size) (by simp;exact h3)).trans (HG.out.block q h1 (by simp;exact h2))
 have HA1:Hid (ShA w1 p s (t+1) mb):=HS1.1
 clear HS1 HS HTW HMW HG HG1 HP HT HM HK
 generalize hD1:zGo D k (t+1)=D1 at *
 have hle:¬ (s<(Maps.size D1:Int)):=by have:=HD.out;omega
 have HM2:Hid (w1.ownsMap Tryz.prog 111 RV mb (n+1) D1):=HM1.out
 go_wp2_with fail
 refine wp_region_noPanic ?_
 refine wp_region_held_drew (S:=fun W'=>ShA W' p s (t+1) mb∧W'.ownsMap Tryz.prog 111 RV mb (n+1) D1) (by kernel_rfl) ⟨HA1.out,HM1.out⟩ (fun hHeld=>?_)
 have hSd:ShA w1.drew p s (t+1) mb∧w1.drew.ownsMap Tryz.prog 111 RV mb (n+1) D1:=⟨HA1.out,HM1.out⟩
 refine zL (i:=0) (d:=some 24) (v:=?vq0) rfl rfl (Or.inl ⟨by rfl,?hyq0⟩) hSd ?_
 case hyq0=>(intro w hSw;obtain ⟨⟨s0,s1,s2⟩,hmm⟩:=(show ShA w p s (t+1) mb∧w.ownsMap Tryz.prog 111 RV mb (n+1) D1 from hSw);have hln:=fun ty=>hmm.len Tryz.underlying171 ty;go_simp <;> with_reducible rfl)
 try simp only [Act.put,Qx,Qy,Qz]
 refine zL (i:=1) (d:=some 25) (v:=?vq1) rfl rfl (Or.inl ⟨by rfl,?hyq1⟩) hSd ?_
 case hyq1=>(intro w hSw;obtain ⟨⟨s0,s1,s2⟩,hmm⟩:=(show ShA w p s (t+1) mb∧w.ownsMap Tryz.prog 111 RV mb (n+1) D1 from hSw);have hln:=fun ty=>hmm.len Tryz.underlying171 ty;go_simp <;> with_reducible rfl)
 try simp only [Act.put,Qx,Qy,Qz]
 refine zL (i:=2) (d:=some 26) (v:=?vq2) rfl rfl (Or.inl ⟨by rfl,?hyq2⟩) hSd ?_
 case hyq2=>(intro w hSw;obtain ⟨⟨s0,s1,s2⟩,hmm⟩:=(show ShA w p s (t+1) mb∧w.ownsMap Tryz.prog 111 RV mb (n+1) D1 from hSw);have hln:=fun ty=>hmm.len Tryz.underlying171 ty;go_simp <;> with_reducible rfl)
 try simp only [Act.put,Qx,Qy,Qz]
 refine zL (i:=3) (d:=some 27) (v:=?vq3) rfl rfl (Or.inl ⟨by rfl,?hyq3⟩) hSd ?_
 case hyq3=>(intro w hSw;obtain ⟨⟨s0,s1,s2⟩,hmm⟩:=(show ShA w p s (t+1) mb∧w.ownsMap Tryz.prog 111 RV mb (n+1) D1 from hSw);have hln:=fun ty=>hmm.len Tryz.underlying171 ty;go_simp <;> with_reducible rfl)
 try simp only [Act.put,Qx,Qy,Qz]
 refine zL (i:=4) (d:=some 28) (v:=?vq4) rfl rfl (Or.inl ⟨by rfl,?hyq4⟩) hSd ?_
 case hyq4=>(intro w hSw;obtain ⟨⟨s0,s1,s2⟩,hmm⟩:=(show ShA w p s (t+1) mb∧w.ownsMap Tryz.prog 111 RV mb (n+1) D1 from hSw);have hln:=fun ty=>hmm.len Tryz.underlying171 ty;go_simp <;> with_reducible rfl)
 try simp only [Act.put,Qx,Qy,Qz]
 refine zL (i:=5) (d:=some 29) (v:=?vq5) rfl rfl (Or.inl ⟨by rfl,?hyq5⟩) hSd ?_
 case hyq5=>(intro w hSw;obtain ⟨⟨s0,s1,s2⟩,hmm⟩:=(show ShA w p s (t+1) mb∧w.ownsMap Tryz.prog 111 RV mb (n+1) D1 from hSw);have hln:=fun ty=>hmm.len Tryz.underlying171 ty;go_simp <;> with_reducible rfl)
 try simp only [Act.put,Qx,Qy,Qz]
 refine zL (i:=6) (d:=some 30) (v:=?vq6) rfl rfl (Or.inl ⟨by rfl,?hyq6⟩) hSd ?_
 case hyq6=>(intro w hSw;obtain ⟨⟨s0,s1,s2⟩,hmm⟩:=(show ShA w p s (t+1) mb∧w.ownsMap Tryz.prog 111 RV mb (n+1) D1 from hSw);have hln:=fun ty=>hmm.len Tryz.underlying171 ty;go_simp <;> with_reducible rfl)
 try simp only [Act.put,Qx,Qy,Qz]
 refine zL (i:=7) (d:=some 31) (v:=?vq7) rfl rfl (Or.inl ⟨by rfl,?hyq7⟩) hSd ?_
 case hyq7=>(intro w hSw;obtain ⟨⟨s0,s1,s2⟩,hmm⟩:=(show ShA w p s (t+1) mb∧w.ownsMap Tryz.prog 111 RV mb (n+1) D1 from hSw);have hln:=fun ty=>hmm.len Tryz.underlying171 ty;go_simp <;> with_reducible rfl)
 try simp only [Act.put,Qx,Qy,Qz]
 refine zL (i:=8) (d:=some 32) (v:=?vq8) rfl rfl (Or.inl ⟨by rfl,?hyq8⟩) hSd ?_
 case hyq8=>(intro w hSw;obtain ⟨⟨s0,s1,s2⟩,hmm⟩:=(show ShA w p s (t+1) mb∧w.ownsMap Tryz.prog 111 RV mb (n+1) D1 from hSw);have hln:=fun ty=>hmm.len Tryz.underlying171 ty;go_simp <;> with_reducible rfl)
 try simp only [Act.put,Qx,Qy,Qz]
 refine zL (i:=9) (d:=some 33) (v:=?vq9) rfl rfl (Or.inl ⟨by rfl,?hyq9⟩) hSd ?_
 case hyq9=>(intro w hSw;obtain ⟨⟨s0,s1,s2⟩,hmm⟩:=(show ShA w p s (t+1) mb∧w.ownsMap Tryz.prog 111 RV mb (n+1) D1 from hSw);have hln:=fun ty=>hmm.len Tryz.underlying171 ty;go_simp <;> with_reducible rfl)
 try simp only [Act.put,Qx,Qy,Qz]
 refine wpAnyH_done (by kernel_rfl) ?_ _
 refine NoPanic.normal ?_
 clear hSd
 go_wp2
 refine bodyPost_end (v:=.tuple #[]) (by simp [results,Tryz.results124,go_sem]) rfl ?_
 exact ⟨rfl,HA1.out,HT1.out,by rw [hD1];exact HM2.out.drew,fun B h1 h2=>⟨(HB1.out B h1 h2).os,(HB1.out B h1 h2).tape,(HB1.out B h1 h2).output,(HB1.out B h1 h2).size,(HB1.out B h1 h2).block⟩,fun q h1 h2 h3=>HQ1.out q h1 h2 h3⟩
def zBa (n:Nat)(E:Nat→Req)(z x y now:Int):Int:=or3 (zQ n E) (zBp now) (zB5 z x y)
theorem zAr {n:Nat}{E:Nat→Req}{z x y now:Int}(h:zBa n E z x y now=0):zQ n E=0∧zBp now=0∧zB5 z x y=0:=by
 unfold zBa or3 at h
 by_cases h1:zQ n E=0
 ·rw [if_pos h1] at h
  by_cases h2:zBp now=0
  ·rw [if_pos h2] at h
   exact ⟨h1,h2,h⟩
  ·rw [if_neg h2] at h
   exact absurd h h2
 ·rw [if_neg h1] at h
  exact absurd h h1
theorem zHt {n:Nat}{E:Nat→Req}(h:zQ n E=0):n≤8:=by
 unfold zQ at h
 by_cases h8:8<n
 ·rw [if_pos h8] at h;cases h
 ·omega
def zBm (n:Nat)(E:Nat→Req)(z x y now:Int):Int:=if zBa n E z x y now=0 then (if 0≤atW n E z x y then 0 else if 8≤n then 7 else 0) else zBa n E z x y now
def vB (n:Nat)(E:Nat→Req)(z x y now:Int):List Req:=if zBa n E z x y now=0 then (if 0≤atW n E z x y then zM n E else if 8≤n then [] else zM n E ++ [⟨z,x,y,now+3,1⟩]) else []
def vJ (n:Nat)(E:Nat→Req)(z x y now:Int):List Req:=if zBa n E z x y now=0 then (if 0≤atW n E z x y then [] else if 8≤n then [] else [⟨z,x,y,now+3,1⟩]) else []
theorem zHj {n:Nat}{E:Nat→Req}{z x y now:Int}(h:zBa n E z x y now≠0):zBm n E z x y now=zBa n E z x y now∧vB n E z x y now=[]∧vJ n E z x y now=[]:=by
 unfold zBm vB vJ
 rw [if_neg h,if_neg h,if_neg h]
 exact ⟨rfl,rfl,rfl⟩
theorem zGh {n:Nat}{E:Nat→Req}{z x y now:Int}(h:zBa n E z x y now=0)(h2:0≤atW n E z x y):zBm n E z x y now=0∧vB n E z x y now=zM n E∧vJ n E z x y now=[]:=by
 unfold zBm vB vJ
 rw [if_pos h,if_pos h,if_pos h,if_pos h2,if_pos h2,if_pos h2]
 exact ⟨rfl,rfl,rfl⟩
theorem zH7 {n:Nat}{E:Nat→Req}{z x y now:Int}(h:zBa n E z x y now=0)(h2:¬ 0≤atW n E z x y)(h3:8≤n):zBm n E z x y now=7∧vB n E z x y now=[]∧vJ n E z x y now=[]:=by
 unfold zBm vB vJ
 rw [if_pos h,if_pos h,if_pos h,if_neg h2,if_neg h2,if_neg h2,if_pos h3,if_pos h3,if_pos h3]
 exact ⟨rfl,rfl,rfl⟩
theorem zKu {n:Nat}{E:Nat→Req}{z x y now:Int}(h:zBa n E z x y now=0)(h2:¬ 0≤atW n E z x y)(h3:¬ 8≤n):zBm n E z x y now=0∧vB n E z x y now=zM n E ++ [⟨z,x,y,now+3,1⟩]∧vJ n E z x y now=[⟨z,x,y,now+3,1⟩]:=by
 unfold zBm vB vJ
 rw [if_pos h,if_pos h,if_pos h,if_neg h2,if_neg h2,if_neg h2,if_neg h3,if_neg h3,if_neg h3]
 exact ⟨rfl,rfl,rfl⟩
theorem zJv (ts:Array TypeId)(t:TypeId)(a b:Int)(w:World):(Builtin.min_ ts t #[.int .i64 a,.int .i64 b]).run Tryz.prog w=.ok (.int .i64 (min a b)) w:=by
 simp only [Builtin.min_,Builtin.min2,List.foldlM]
 by_cases h:b<a
 ·have e:min a b=b:=by omega
  simp [h,e]
 ·have e:min a b=a:=by omega
  simp [h,e]
theorem zGu (V:World)(a b c:Value)(t:TypeId):zC (V.alloc (.cells #[a,b,c] t)) V.heap.size 3:=uV V a b c t
theorem uA {W:World}{r:Nat}{a b c:Value}(hT:zC W r 3) :
  (((W.setCell ⟨r,0,none⟩ a).setCell ⟨r,1,none⟩ b).setCell ⟨r,2,none⟩ c).cell? ⟨r,0,none⟩=some a ∧
  (((W.setCell ⟨r,0,none⟩ a).setCell ⟨r,1,none⟩ b).setCell ⟨r,2,none⟩ c).cell? ⟨r,1,none⟩=some b ∧
  (((W.setCell ⟨r,0,none⟩ a).setCell ⟨r,1,none⟩ b).setCell ⟨r,2,none⟩ c).cell? ⟨r,2,none⟩=some c:=by
 obtain ⟨x0,h0⟩:=(hT 0 (by omega)).1
 obtain ⟨x1,h1⟩:=(hT 1 (by omega)).1
 obtain ⟨x2,h2⟩:=(hT 2 (by omega)).1
 have ne:∀ i j:Nat,i≠j→(⟨r,i,none⟩:Addr)≠⟨r,j,none⟩:=fun i j hij h=>hij (by injection h)
 refine ⟨?_,?_,?_⟩
 ·rw [zA (ne 2 0 (by omega)),zA (ne 1 0 (by omega))];exact zD h0
 ·rw [zA (ne 2 1 (by omega))];exact zD (by rw [zA (ne 0 1 (by omega))];exact h1)
 ·exact zD (by rw [zA (ne 1 2 (by omega)),zA (ne 0 2 (by omega))];exact h2)
theorem zCn (w:World)(cs:Array Value)(t:TypeId):∀ j u,cs.toList[j]?=some u→(w.alloc (.cells cs t)).cell? ((⟨w.heap.size,0,none⟩:Addr).add j)=some u:=fun j u h=>by
 have h1:(w.alloc (.cells cs t)).cell? ⟨w.heap.size,j,none⟩=some u:=by
  rw [World.cell?_alloc_at _ _ _ _ rfl]
  simpa using h
 by_cases hj:j=0
 ·subst hj;simpa [Addr.add] using h1
 ·simpa [Addr.add,hj] using h1
theorem vD {base:Nat}(w:World)(e:Req)(hb:base≤w.heap.size):yA base (w.alloc (.cells #[.int .i64 e.z,.int .i64 e.x,.int .i64 e.y] 111)) (.slice (some ⟨w.heap.size,0,none⟩) 1 1) [e] :=
 World.ownsRow_lit (base:=base) (size:=3) w #[.int .i64 e.z,.int .i64 e.x,.int .i64 e.y] 1 hb (by unfold maxLen;omega) rfl
theorem zZ (e:Req):∀ u ∈ yJ e,u.oneCell'=true:=fun u hu=>vU [e] u (by rw [yG];exact hu)
theorem zX.slice {base:Nat}{w:World}{v:Value}{l:List Req}(h:zX base w v l):∃ a c,v=.slice a l.length c:=by
 obtain ⟨a,c,hv,_⟩:=h.own
 exact ⟨a,c,hv⟩
theorem zX.block {base:Nat}{w:World}{v:Value}{l:List Req}(h:zX base w v l):∀ s,v.ownBlock=some s→base≤s:=fun s hs=>by
 obtain ⟨_,h2 | ⟨g,cp,cur,hv,hg,_⟩⟩:=h
 ·rw [h2.1] at hs;cases hs
 ·rw [hv] at hs
  simp [Value.ownBlock] at hs
  omega
theorem zX.set3 {base B r:Nat}{w:World}{v a b c:Value}{l:List Req}(h:zX B w v l)(hr:r<B)(hB:base≤B):zX base (((w.setCell ⟨r,0,none⟩ a).setCell ⟨r,1,none⟩ b).setCell ⟨r,2,none⟩ c) v l :=
 zK (zJ (zJ (zJ h hr) hr) hr) hB
theorem yA.set3 {base B r:Nat}{w:World}{v a b c:Value}{l:List Req}(h:yA B w v l)(hr:r<B)(hB:base≤B):yA base (((w.setCell ⟨r,0,none⟩ a).setCell ⟨r,1,none⟩ b).setCell ⟨r,2,none⟩ c) v l :=
 zK (zJ (zJ (zJ h hr) hr) hr) hB
theorem zIg (e:Req)(now:Int)(w:World)(hn:0≤now∧now≤9000)(ht:0≤e.tr∧e.tr≤99):Calls Tryz.prog 134 #[zFe e,.int .i64 now] w fun r w'=>r=.returned (zFe ⟨e.z,e.x,e.y,now+3,min (e.tr+1) 99⟩)∧Bw w w':=by
 obtain ⟨n0,n1⟩:=hn
 obtain ⟨t0,t1⟩:=ht
 have hmin:=zJv
 go_enter Tryz.func134,Tryz.ntmps134
 go_wp2
 exact bodyPost_ret (v:=zFe ⟨e.z,e.x,e.y,now+3,min (e.tr+1) 99⟩) (by simp [results,Tryz.results134,go_sem]) rfl ⟨rfl,Qb⟩
theorem zHs {T:Array Value}{Wf:World}{r:Nat}{c:Int}{v1 v2:Value}(hT:T[6]?.getD undef=.pointer (some ⟨r,0,none⟩))(h0:Wf.cell? ⟨r,0,none⟩=some (.int .i64 c))(h1:Wf.cell? ⟨r,1,none⟩=some v1)(h2:Wf.cell? ⟨r,2,none⟩=some v2) :
  (results Tryz.f83 T).run Tryz.prog Wf=.ok (rqV c v1 v2) Wf:=by
 simp [results,Tryz.results83,go_sem,hT,h0,h1,h2]
theorem zBv (a:Option Addr)(n cap:Nat)(E:Nat→Req)(z x y now:Int)(w:World)(hp:xV w a n E)(hn:n≤1048576)(hcap:n≤cap) :
  Calls Tryz.prog 83 #[.slice a n cap,xK z x y,.int .i64 now] w fun e w'=>∃ v1 v2,e=.returned (rqV (zBm n E z x y now) v1 v2)∧yA w.heap.size w' v1 (vJ n E z x y now)∧zX w.heap.size w' v2 (vB n E z x y now)∧Bw w w':=by
 obtain ⟨i0,hi,hz0,hz1,hz2⟩:=info_parts vS
 have HP:Hid (xV w a n E):=hp
 have HT:Hid (∀ W,Calls Tryz.prog 121 #[.int .i64 now] W fun e w'=>e=.returned (.int .i64 (zBp now))∧Bw W w'):=fun W=>zAl now W
 have HR:Hid (∀ W,Calls Tryz.prog 132 #[xK z x y] W fun e w'=>e=.returned (.int .i64 (zB5 z x y))∧Bw W w'):=fun W=>uF z x y W
 have HF0:Hid (∀ W,Bw w W→Calls Tryz.prog 76 #[.slice a n cap] W fun e w'=>e=.returned (.int .i64 (zQ n E))∧Bw W w'):=fun W h=>yO a n cap E W (hp.below h) hn hcap
 have HI:Hid (∀ W,Bw w W→Calls Tryz.prog 126 #[.slice a n cap,xK z x y] W fun e w'=>e=.returned (.int .i64 (atW n E z x y))∧Bw W w'):=fun W h=>zAp a n cap E z x y W (hp.below h) hn
 have HC:Hid (∀ W,Bw w W→Calls Tryz.prog 133 #[.slice a n cap] W fun e w'=>∃ v,e=.returned v∧zX W.heap.size w' v (zM n E)∧Bw W w'):=fun W h=>zBf a n cap E W (hp.below h) hn
 have HPC:Hid (zBa n E z x y now=or3 (zQ n E) (zBp now) (zB5 z x y)):=rfl
 have HLE:Hid (zBa n E z x y now=0→(0≤now∧now≤9000)∧n≤8):=fun h=>⟨zJm (zAr h).2.1,zHt (zAr h).1⟩
 clear hp
 generalize zQ n E=k1 at *
 generalize zBp now=k2 at *
 generalize zB5 z x y=k3 at *
 go_enter Tryz.func83,Tryz.ntmps83
 go_wp2_with fail
 generalize hW:((w.alloc _).alloc _:World)=W
 have HB0:Hid (Bw w W):=by show Below _ _ _;subst hW;exact Qb
 have HSZ:Hid (w.heap.size+1<W.heap.size):=by show _<_;subst hW;simp
 have c0:∀ W',Bw W W'→W'.cell? ⟨w.heap.size,0,none⟩=some (.int .i64 z):=fun W' h=>by rw [h.cell (by subst hW;simp;omega)];subst hW;simp [go_sem]
 have c1:∀ W',Bw W W'→W'.cell? ⟨w.heap.size,1,none⟩=some (.int .i64 x):=fun W' h=>by rw [h.cell (by subst hW;simp;omega)];subst hW;simp [go_sem]
 have c2:∀ W',Bw W W'→W'.cell? ⟨w.heap.size,2,none⟩=some (.int .i64 y):=fun W' h=>by rw [h.cell (by subst hW;simp;omega)];subst hW;simp [go_sem]
 have HTH:Hid (zC W (w.heap.size+1) 3):=by
  show zC _ _ _
  subst hW
  have:=zGu (w.alloc (.cells #[.int .i64 z,.int .i64 x,.int .i64 y] 111)) (.int .i64 0) (.slice none 0 0) (.slice none 0 0) 114
  simpa using this
 clear hW
 have HF:Hid (∀ W',Bw W W'→Calls Tryz.prog 76 #[.slice a n cap] W' fun e w'=>e=.returned (.int .i64 k1)∧Below W'.heap.size W' w'):=fun W' h=>HF0.out W' (zB HB0.out h)
 refine wp_region_noPanic ?_
 refine wp_region_held_drew (S:=fun W'=>Bw W W') (by kernel_rfl) (by exact Qb) (fun hHeld=>?_)
 have hX0:Bw W W.drew:=hHeld
 refine zE (i:=0) (d:=some 9) rfl rfl ?_
 try simp only [Act.put,Qx,Qy,Qz]
 refine zE (i:=2) (d:=some 11) rfl rfl ?_
 try simp only [Act.put,Qx,Qy,Qz]
 refine zE (i:=4) (d:=some 13) rfl rfl ?_
 try simp only [Act.put,Qx,Qy,Qz]
 refine zN 1 fun K hK=>?_
 go_simp
 refine Calls.mono (HF.out _ hX0) ?_
 rintro e wo1 ⟨rfl,hbo1⟩
 have hX1:Bw W wo1:=zB hX0 hbo1
 go_wp2_with fail
 refine hK.out _ _ hX1 (fun hHeld=>?_)
 clear hK K
 try simp only [Act.put,Qx,Qy,Qz]
 refine zN 3 fun K hK=>?_
 go_simp
 refine Calls.mono (HT.out _) ?_
 rintro e wo2 ⟨rfl,hbo2⟩
 have hX2:Bw W wo2:=zB hX1 hbo2
 go_wp2_with fail
 refine hK.out _ _ hX2 (fun hHeld=>?_)
 clear hK K
 try simp only [Act.put,Qx,Qy,Qz]
 refine zN 5 fun K hK=>?_
 go_simp
 refine Calls.mono (HR.out _) ?_
 rintro e wo3 ⟨rfl,hbo3⟩
 have hX3:Bw W wo3:=zB hX2 hbo3
 go_wp2_with fail
 refine hK.out _ _ hX3 (fun hHeld=>?_)
 clear hK K
 try simp only [Act.put,Qx,Qy,Qz]
 refine zN 6 fun K hK=>?_
 go_simp
 generalize hw4:(World.alloc _ _:World)=wo4
 have hb4:Bw wo3 wo4:=by subst hw4;exact Qb
 have g0:wo4.cell? ⟨wo3.heap.size,0,none⟩=some (.int .i64 k1):=by subst hw4;simp [go_sem]
 have g1:wo4.cell? ⟨wo3.heap.size,1,none⟩=some (.int .i64 k2):=by subst hw4;simp [go_sem]
 have g2:wo4.cell? ⟨wo3.heap.size,2,none⟩=some (.int .i64 k3):=by subst hw4;simp [go_sem]
 have hX4:Bw W wo4:=zB hX3 hb4
 clear hw4
 refine hK.out _ _ hX4 (fun hHeld=>?_)
 clear hK K hb4
 try simp only [Act.put,Qx,Qy,Qz]
 refine zN 7 fun K hK=>?_
 go_simp
 refine (zD6 _ _ k1 k2 k3 _ g0 g1 g2).mono ?_
 rintro e w5 ⟨rfl,rfl⟩
 go_wp2_with fail
 refine hK.out _ _ hX4 (fun hHeld=>?_)
 clear hK K g0 g1 g2
 try simp only [Act.put,Qx,Qy,Qz]
 refine zE (i:=8) (d:=some 7) rfl rfl ?_
 try simp only [Act.put,Qx,Qy,Qz]
 refine wpAnyH_done (by kernel_rfl) ?_ _
 refine NoPanic.normal ?_
 simp only [Exit.then]
 refine (by assumption:∀ (a:Act) (w:World),_→_) _ _ ?_
 have hB5:Bw W w5:=hX4
 have hT5:=HTH.out.below hB5
 have HSZ5:Hid (w.heap.size+1<w5.heap.size):=by have:=hB5.size;have:=HSZ.out;show _<_;omega
 have HBS:Hid (W.heap.size≤w5.heap.size):=hB5.size
 rw [← HPC.out]
 clear hX0 hX1 hX2 hX3 hX4 hHeld hbo1 hbo2 hbo3 HF HF0 HT HR
 by_cases hp0:zBa n E z x y now=0
 ·rw [hp0]
  obtain ⟨⟨n0,n1⟩,hn8⟩:=HLE.out hp0
  have HP0:Hid (zBa n E z x y now=0):=hp0
  clear hp0 hT5
  go_wp2_with fail
  refine (HC.out _ (zB HB0.out hB5)).mono ?_
  rintro e w6 ⟨v,rfl,hrow,hb6⟩
  obtain ⟨va,vc,hv⟩:=hrow.slice
  rw [yB] at hv
  subst hv
  have hB6:Bw W w6:=zB hB5 hb6
  have HRW:Hid (zX w5.heap.size w6 (.slice va n vc) (zM n E)):=hrow
  have HS6:Hid (w5.heap.size≤w6.heap.size):=hb6.size
  have m0:=c0 w6 hB6
  have m1:=c1 w6 hB6
  have m2:=c2 w6 hB6
  clear hb6 hrow hB5
  go_wp2_with fail
  refine (HI.out _ (zB HB0.out hB6)).mono ?_
  rintro e w7 ⟨rfl,hb7⟩
  have hB7:Bw W w7:=zB hB6 hb7
  have HRW7:Hid (zX w5.heap.size w7 (.slice va n vc) (zM n E)):=HRW.out.below hb7
  have hT7:=HTH.out.below hB7
  have hs7:w5.heap.size≤w7.heap.size:=Nat.le_trans HS6.out hb7.size
  have k0:=c0 w7 hB7
  have k1':=c1 w7 hB7
  have k2':=c2 w7 hB7
  have t0:=hT7.cell 0 (by omega)
  have t1:=hT7.cell 1 (by omega)
  have t2:=hT7.cell 2 (by omega)
  have f0:=(hT7 0 (by omega)).2
  have f1:=(hT7 1 (by omega)).2
  have f2:=(hT7 2 (by omega)).2
  have HT7:Hid (zC w7 (w.heap.size+1) 3):=hT7
  clear hT7 hb7 HRW HI HC m0 m1 m2
  by_cases hat:0≤atW n E z x y
  ·obtain ⟨ha,hl,hs⟩:=zGh HP0.out hat
   have HA:Hid (zBm n E z x y now=0):=ha
   have HL:Hid (vB n E z x y now=zM n E):=hl
   have HS:Hid (vJ n E z x y now=[]):=hs
   clear ha hl hs
   generalize atW n E z x y=q at *
   go_wp2_with fail
   obtain ⟨q0,q1,q2⟩:=uA (a:=.int .i64 0) (b:=.slice none 0 0) (c:=.slice va n vc) HT7.out
   refine bodyPost_ret (zHs rfl q0 q1 q2) rfl ⟨_,_,by rw [HA.out],by rw [HS.out];exact yA.no _ _,by rw [HL.out];exact HRW7.out.set3 HSZ5.out (by have:=HSZ5.out;omega),?_⟩
   exact (((zB HB0.out hB7).setCell (Nat.le_succ _) _).setCell (Nat.le_succ _) _).setCell (Nat.le_succ _) _
  ·by_cases h8:8≤n
   ·obtain ⟨ha,hl,hs⟩:=zH7 HP0.out hat h8
    have HA:Hid (zBm n E z x y now=7):=ha
    have HL:Hid (vB n E z x y now=[]):=hl
    have HS:Hid (vJ n E z x y now=[]):=hs
    obtain rfl:n=8:=by omega
    clear ha hl hs
    generalize atW 8 E z x y=q at *
    go_wp2_with fail
    obtain ⟨q0,q1,q2⟩:=uA (a:=.int .i64 7) (b:=.slice none 0 0) (c:=.slice none 0 0) HT7.out
    refine bodyPost_ret (zHs rfl q0 q1 q2) rfl ⟨_,_,by rw [HA.out],by rw [HS.out];exact yA.no _ _,by rw [HL.out];exact zX.no _ _,?_⟩
    exact (((zB HB0.out hB7).setCell (Nat.le_succ _) _).setCell (Nat.le_succ _) _).setCell (Nat.le_succ _) _
   ·obtain ⟨ha,hl,hs⟩:=zKu HP0.out hat h8
    have HA:Hid (zBm n E z x y now=0):=ha
    have HL:Hid (vB n E z x y now=zM n E ++ [⟨z,x,y,now+3,1⟩]):=hl
    have HS:Hid (vJ n E z x y now=[⟨z,x,y,now+3,1⟩]):=hs
    have HLEN:Hid ((zM n E).length=n):=yB n E
    have hn8':((n:Int) == 8)=false:=by simp;omega
    clear ha hl hs t0 t1 t2 f0 f1 f2
    generalize atW n E z x y=q at *
    go_wp2_with fail
    refine (zIg ⟨z,x,y,0,0⟩ now _ ⟨n0,n1⟩ ⟨by simp,by simp⟩).mono ?_
    rintro e w8 ⟨rfl,hb8⟩
    have hB8:Bw W w8:=zB hB7 hb8
    have HR8:Hid (zX w5.heap.size w8 (.slice va n vc) (zM n E)):=HRW7.out.below hb8
    have hs8:w5.heap.size≤w8.heap.size:=Nat.le_trans hs7 hb8.size
    clear hb8 k0 k1' k2' HRW7 HT7
    have hm1:min ((0:Int)+1) 99=1:=by decide
    dsimp only
    simp only [hm1]
    go_wp2_with (first
     | (at_builtin;go_must (refine wpList_append_own _ rfl _ _ 29 rfl w5.heap.size 134 i0 (.agg #[.int .i64 0,.int .i64 0,.int .i64 0,.int .i64 0,.int .i64 0]) 5 40 Tryz.underlying29 hi hz0 hz1 hz2 rfl (by decide) (.slice va n vc) n (zV (zM n E)) rfl ?r0 ⟨w8.heap.size,0,none⟩ 1 1 (yJ ⟨z,x,y,now+3,1⟩) rfl rfl ?r1 ?r2 ?r3 ?r4 ?r5 ?_)))
    case r0 =>
     have h:=HR8.out
     unfold zX at h
     rw [HLEN.out] at h
     exact World.ownsRow.alloc h _
    case r1=>exact zCn _ _ _
    case r2=>exact zZ _
    case r3=>unfold maxLen;omega
    case r4=>omega
    case r5=>simp;omega
    intro v' w9 hown' hgrow hnil
    have HR9:zX w5.heap.size w9 v' (zM n E ++ [⟨z,x,y,now+3,1⟩]):=by
     unfold zX
     rw [yM,yG,List.length_append,HLEN.out]
     exact hown'
    have hB9:Bw W w9:=by
     refine (Below.alloc hB8 hB8.size _).trans (yN hgrow (fun s hs=>?_) (by have:=hB8.size;simp;omega))
     have:=HR8.out.block s hs
     have:=HBS.out
     omega
    have hs9:w5.heap.size≤w9.heap.size:=by have:=hgrow.size;simp at this;omega
    obtain ⟨va',vc',hv'⟩:=zX.slice HR9
    have hl1:(zM n E ++ [(⟨z,x,y,now+3,1⟩:Req)]).length=n+1:=by rw [List.length_append,yB];rfl
    rw [hl1] at hv'
    subst hv'
    have HR9':Hid (zX w5.heap.size w9 (.slice va' (n+1) vc') (zM n E ++ [⟨z,x,y,now+3,1⟩])):=HR9
    clear hl1
    have k0:=c0 w9 hB9
    have k1':=c1 w9 hB9
    have k2':=c2 w9 hB9
    have hT9:=HTH.out.below hB9
    have HT9:Hid (zC (w9.alloc (.cells #[.int .i64 z,.int .i64 x,.int .i64 y] 111)) (w.heap.size+1) 3):=hT9.below (by exact Qb)
    have t0:=HT9.out.cell 0 (by omega)
    have t1:=HT9.out.cell 1 (by omega)
    have t2:=HT9.out.cell 2 (by omega)
    have f0:=(HT9.out 0 (by omega)).2
    have f1:=(HT9.out 1 (by omega)).2
    have f2:=(HT9.out 2 (by omega)).2
    have HB9:Hid (Bw w (w9.alloc (.cells #[.int .i64 z,.int .i64 x,.int .i64 y] 111))):=by
     have h1:Bw w w9:=zB HB0.out hB9
     show Below _ _ _
     exact Qb
    clear hT9 hown' hgrow hnil HR9 HR8 hB8
    go_wp2_with fail
    obtain ⟨q0,q1,q2⟩:=uA (a:=.int .i64 0) (b:=.slice (some ⟨w9.heap.size,0,none⟩) 1 1) (c:=.slice va' (n+1) vc') HT9.out
    refine bodyPost_ret (zHs rfl q0 q1 q2) rfl ⟨_,_,by rw [HA.out],?_,?_,?_⟩
    ·rw [HS.out];exact (vD w9 ⟨z,x,y,now+3,1⟩ hs9).set3 HSZ5.out (by have:=HSZ5.out;omega)
    ·rw [HL.out];exact (HR9'.out.below (by exact Qb)).set3 HSZ5.out (by have:=HSZ5.out;omega)
    ·exact ((HB9.out.setCell (Nat.le_succ _) _).setCell (Nat.le_succ _) _).setCell (Nat.le_succ _) _
 ·have hpb:(zBa n E z x y now == 0)=false:=by simpa using hp0
  obtain ⟨ha,hl,hs⟩:=zHj hp0
  have HA:Hid (zBm n E z x y now=zBa n E z x y now):=ha
  have HL:Hid (vB n E z x y now=[]):=hl
  have HS:Hid (vJ n E z x y now=[]):=hs
  have t0:=hT5.cell 0 (by omega)
  have t1:=hT5.cell 1 (by omega)
  have t2:=hT5.cell 2 (by omega)
  have f0:=(hT5 0 (by omega)).2
  have f1:=(hT5 1 (by omega)).2
  have f2:=(hT5 2 (by omega)).2
  clear hp0 ha hl hs
  have HT5:Hid (zC w5 (w.heap.size+1) 3):=hT5
  clear hT5
  go_wp2_with fail
  obtain ⟨q0,q1,q2⟩:=uA (a:=.int .i64 (zBa n E z x y now)) (b:=.slice none 0 0) (c:=.slice none 0 0) HT5.out
  refine bodyPost_ret (zHs rfl q0 q1 q2) rfl ⟨_,_,by rw [HA.out],by rw [HS.out];exact yA.no _ _,by rw [HL.out];exact zX.no _ _,?_⟩
  exact (((zB HB0.out hB5).setCell (Nat.le_succ _) _).setCell (Nat.le_succ _) _).setCell (Nat.le_succ _) _
theorem KsW.mid {w w':World}{g n l h:Nat}{R:Nat→Kp}{M:Nat→Nat}(hT:KsW w g n R M)(hM:zI l h w w')(ho:h≤g∨M n≤l):KsW w' g n R M:=by
 obtain ⟨h1,h2,h3,h4⟩:=hT
 have hu:=fun i j (a:i≤j) (b:j≤n)=>upM (fun j hj=>(h3 j hj).1) a b
 have h0n:=hu 0 n (Nat.zero_le _) (Nat.le_refl _)
 refine ⟨hM.there h1 (by omega),h2,fun j hj=>⟨(h3 j hj).1,(h3 j hj).2.1.mid hM (by omega),(h3 j hj).2.2.mid hM ?_⟩,Nat.le_trans h4 hM.size⟩
 have:=hu 0 j (Nat.zero_le _) (by omega)
 have:=hu (j+1) n (by omega) (Nat.le_refl _)
 omega
theorem zHp {z x y wd ht:Int}(h:zB0 z x y wd ht=true){i:Nat}(hi:i<xJ z x y wd ht):zFo ((vO z x y wd).z i) ((vO z x y wd).x i) ((vO z x y wd).y i)=true:=by
 have hz:=zA2 h
 obtain ⟨⟨h1,h2⟩,h3,h4⟩:=zAh h
 obtain ⟨a1,a2,a3⟩:=uE (x:=x) h1
 obtain ⟨b1,b2,b3⟩:=uE (x:=y) h2
 have e:xJ z x y wd ht=zB3 y ht * zB3 x wd:=by unfold xJ;rw [if_pos h]
 rw [e] at hi
 have m1:i % zB3 x wd<zB3 x wd:=Nat.mod_lt _ (by omega)
 have m2:i / zB3 x wd<zB3 y ht:=Nat.div_lt_of_lt_mul (by rw [Nat.mul_comm];exact hi)
 show zFo z (x / 8+(i % zB3 x wd:Nat)) (y / 8+(i / zB3 x wd:Nat))=true
 generalize i % zB3 x wd=u at *
 generalize i / zB3 x wd=v at *
 generalize zB3 x wd=NX at *
 generalize zB3 y ht=NY at *
 have hzz:z=0∨z=1∨z=2∨z=3:=by
  simp [xX,inB] at hz
  omega
 rcases hzz with rfl | rfl | rfl | rfl <;> simp [zC6] at h3 h4 <;> simp [zFo,xX,inB,uQ] <;> omega
end Go.Proofs.YtpaiholildedcaaGreat
