/- Texts. -/
import Derived.Test.YtkjbafcalamgnaaGreatVMapFault11
set_option linter.unusedSimpArgs false
set_option linter.unusedVariables false
set_option maxRecDepth 100000
set_option maxHeartbeats 32000000
namespace Go.Proofs.YtkjbafcalamgnaaGreat
open Go.RowKit
theorem zIr {n k:Nat}{E:Nat→Req}(h:k<n):(atW k E (E k).z (E k).x (E k).y=-1∧atW n E (E k).z (E k).x (E k).y=(k:Int))∨(0≤atW k E (E k).z (E k).x (E k).y∧∃ i:Nat,i<k∧atW n E (E k).z (E k).x (E k).y=(i:Int)):=by
 rcases zAr (fun i=>isR (E i) (E k).z (E k).x (E k).y) k with ⟨h1,h2⟩ | ⟨i,hi,hg,hf,hn⟩
 ·exact .inl ⟨h1,yM (G:=fun i=>isR (E i) (E k).z (E k).x (E k).y) h (zNk _) h2⟩
 ·exact .inr ⟨by unfold atW;rw [hf];omega,i,hi,yM (G:=fun i=>isR (E i) (E k).z (E k).x (E k).y) (by omega) hg hn⟩
theorem zJc (e:Req):(zOa e=0∧zGk e=true)∨(zOa e=3∧zGk e=false):=by
 unfold zOa
 cases h:zGk e <;> simp
theorem vY (a:Option Addr)(n cap:Nat)(E:Nat→Req)(w:World)(hp:vR w a n E)(hn:n≤1048576)(hcap:n≤cap) :
  Calls Tryz.prog 73 #[.slice a n cap] w fun e w'=>e=.returned (.int .i64 (zT n E))∧Bw w w':=by
 have HP:Hid (vR w a n E):=hp
 clear hp
 by_cases h8:(8:Int)<n
 ·have hz:Hid (zT n E=2):=by show _=_;unfold zT;rw [if_pos (by omega)]
  go_enter Tryz.func73,Tryz.ntmps73
  go_wp2
  go_ret
  exact ⟨zC hz.out.symm,Qb⟩
 ·have hz:Hid (zT n E=yE (yS E) 0 n):=by show _=_;unfold zT;rw [if_neg (by omega)]
  go_enter Tryz.func73,Tryz.ntmps73
  go_wp2
  go_loopw [11] (fun v wr=>∃ k:Nat,k≤n∧v=.int .i64 k∧(∀ j,j<k→yS E j=0)∧Bw w wr) (fun v _=>n - (intOf v).toNat)
  case atStart=>exact ⟨0,by omega,rfl,by omega,Below.refl _ _⟩
  case round =>
   obtain ⟨k,hk,rfl,hA,hB⟩:=hrel
   have HB:Hid (Bw w wr):=hB
   have HA:Hid (∀ j,j<k→yS E j=0):=hA
   by_cases hlt:k<n
   ·rcases HP.out with h0 | ⟨b,off,rfl,hbl,hpt⟩
    ·omega
    have HGr:Hid (zGh wr b off n E):=hpt.below hB hbl
    have hblr:b<wr.heap.size:=Nat.lt_of_lt_of_le hbl hB.size
    obtain ⟨f0,f1,f2,f3,f4⟩:=HGr.out k hlt
    have HLT:Hid (k<n):=hlt
    have first:Hid (∀ c,yS E k=c→c≠0→zT n E=c):=fun c hc h0=>by
     rw [hz.out,zP (yS E) n 0 k (fun j _ hj=>HA.out j hj) (by omega) (by have:=HLT.out;omega) (by rw [hc];exact h0),hc]
    have HOK:Hid (yS E k=0→∀ j,j<k+1→yS E j=0):=fun h0 j hj=>by
     by_cases e:j=k
     ·rw [e];exact h0
     ·exact HA.out j (by omega)
    clear hB hA hpt
    have hi:(k:Int)<(n:Int):=by omega
    have hi0:(0:Int)≤(k:Int):=by omega
    go_wp2_with fail
    generalize hV:(wr.alloc _:World)=V
    have hBV:Bw wr V:=by subst hV;exact Qb
    have v0:∀ W',Bw V W'→W'.cell? ⟨wr.heap.size,0,none⟩=some (.int .i64 (E k).z):=Qc hV
    have v1:∀ W',Bw V W'→W'.cell? ⟨wr.heap.size,1,none⟩=some (.int .i64 (E k).x):=Qc hV
    have v2:∀ W',Bw V W'→W'.cell? ⟨wr.heap.size,2,none⟩=some (.int .i64 (E k).y):=Qc hV
    clear hV
    have HBV:Hid (Bw w V):=zA HB.out hBV
    have HGV:Hid (zGh V b off n E):=HGr.out.below hBV hblr
    have hblV:b<V.heap.size:=Nat.lt_of_lt_of_le hblr hBV.size
    clear hBV f0 f1 f2 f3 f4 HGr
    refine (zBj (E k) _).mono ?_
    rintro e w1 ⟨rfl,hb1⟩
    rcases zJc (E k) with ⟨hc0,hcB⟩ | ⟨hc3,hcB⟩
    ·rw [hc0]
     have hr1:Bw V w1:=hb1
     have hkn:(k:Int)≤(n:Int):=by omega
     have hkc:(k:Int)≤(cap:Int):=by omega
     have HH:Hid (∀ W',Bw V W'→Calls Tryz.prog 126 #[.slice (some ⟨b,off,none⟩) k cap,vW (E k).z (E k).x (E k).y] W' fun e w'=>e=.returned (.int .i64 (atW k E (E k).z (E k).x (E k).y))∧Below W'.heap.size W' w'):=fun W' h =>
      zD4 _ k cap E _ _ _ W' (.inr ⟨b,off,rfl,Nat.lt_of_lt_of_le hblV h.size,fun i hi=>(HGV.out.below h hblV) i (by have:=HLT.out;omega)⟩) (by omega)
     clear hc0 hb1
     rcases zIr HLT.out with ⟨hq,_⟩ | ⟨hq,_⟩
     ·have hok:Hid (yS E k=0):=zIa hcB hq
      rw [hq] at HH
      clear hq hcB
      generalize (E k).z=rz at *
      generalize (E k).x=rx at *
      generalize (E k).y=ry at *
      go_wp2_with fail
      go_region_held3 (fun W'=>Bw V W') ((repeat (first|exact Qr _ _|assumption|refine Qd ?_|refine Qa ?_ _|refine Qt ?_|refine Qs ?_ _|refine Qo ?_ ?_ _ _)))
       (first | (go_at_call 126;refine (HH.out _ (by assumption)).mono ?_;rintro e w' ⟨rfl,hb⟩) | fail)
      go_wp2
      go_roundw
      case rel=>exact ⟨k+1,by have:=HLT.out;omega,by go_num,HOK.out hok.out,zA HBV.out (by assumption)⟩
      case measure=>have:=HLT.out;simp [intOf];omega
     ·have hsc:Hid (zT n E=6):=first.out 6 (zBw hcB hq) (by decide)
      have hq':(0:Int)≤atW k E (E k).z (E k).x (E k).y:=hq
      clear hq hcB
      generalize atW k E (E k).z (E k).x (E k).y=q at *
      generalize (E k).z=rz at *
      generalize (E k).x=rx at *
      generalize (E k).y=ry at *
      go_wp2_with fail
      go_region_held3 (fun W'=>Bw V W') ((repeat (first|exact Qr _ _|assumption|refine Qd ?_|refine Qa ?_ _|refine Qt ?_|refine Qs ?_ _|refine Qo ?_ ?_ _ _)))
       (first | (go_at_call 126;refine (HH.out _ (by assumption)).mono ?_;rintro e w' ⟨rfl,hb⟩) | fail)
      go_wp2
      go_ret
      exact ⟨zC hsc.out.symm,zA HBV.out (by assumption)⟩
    ·have hsc:Hid (zT n E=3):=first.out 3 (zAl hcB) (by decide)
     rw [hc3]
     have HB1:Hid (Bw w w1):=zA HBV.out hb1
     clear hc3 hcB hb1
     go_wp2
     go_ret
     exact ⟨zC hsc.out.symm,HB1.out⟩
   ·have hsc:Hid (zT n E=0):=by
     show _=_
     rw [hz.out]
     exact yG _ _ _ (fun j _ hj=>HA.out j (by omega))
    go_wp2
    go_ret
    exact ⟨zC hsc.out.symm,HB.out⟩
theorem zFn (a:Option Addr)(n cap:Nat)(E:Nat→Req)(w:World)(hp:vR w a n E)(hn:n≤1048576) :
  Calls Tryz.prog 61 #[.slice a n cap] w fun e w'=>e=.returned (.int .i64 (zT n E))∧Bw w w':=by
 have HP:Hid (vR w a n E):=hp
 clear hp
 by_cases h8:(8:Int)<n
 ·have hz:Hid (zT n E=2):=by show _=_;unfold zT;rw [if_pos (by omega)]
  go_enter Tryz.func61,Tryz.ntmps61
  go_wp2
  go_ret
  exact ⟨zC hz.out.symm,Qb⟩
 ·have hz:Hid (zT n E=yE (yS E) 0 n):=by show _=_;unfold zT;rw [if_neg (by omega)]
  go_enter Tryz.func61,Tryz.ntmps61
  go_wp2
  go_loopw [3] (fun v wr=>∃ k:Nat,k≤n∧v=.int .i64 k∧(∀ j,j<k→yS E j=0)∧Bw w wr) (fun v _=>n - (intOf v).toNat)
  case atStart=>exact ⟨0,by omega,rfl,by omega,Below.refl _ _⟩
  case round =>
   obtain ⟨k,hk,rfl,hA,hB⟩:=hrel
   have HB:Hid (Bw w wr):=hB
   have HA:Hid (∀ j,j<k→yS E j=0):=hA
   by_cases hlt:k<n
   ·rcases HP.out with h0 | ⟨b,off,rfl,hbl,hpt⟩
    ·omega
    have HGr:Hid (zGh wr b off n E):=hpt.below hB hbl
    have hblr:b<wr.heap.size:=Nat.lt_of_lt_of_le hbl hB.size
    have hr:Bw wr wr:=Below.refl _ _
    obtain ⟨f0,f1,f2,_,_⟩:=HGr.out k hlt
    have HLT:Hid (k<n):=hlt
    have first:Hid (∀ c,yS E k=c→c≠0→zT n E=c):=fun c hc h0=>by
     rw [hz.out,zP (yS E) n 0 k (fun j _ hj=>HA.out j hj) (by omega) (by have:=HLT.out;omega) (by rw [hc];exact h0),hc]
    have HOK:Hid (yS E k=0→∀ j,j<k+1→yS E j=0):=fun h0 j hj=>by
     by_cases e:j=k
     ·rw [e];exact h0
     ·exact HA.out j (by omega)
    clear hB hA hpt
    have hi:(k:Int)<(n:Int):=by omega
    have hi0:(0:Int)≤(k:Int):=by omega
    go_wp2_with fail
    refine (zB1 _ _ _ _).mono ?_
    rintro e w1 ⟨rfl,hb1⟩
    have HB1:Hid (Bw w w1):=zA HB.out hb1
    have HG1:Hid (zGh w1 b off n E):=HGr.out.below hb1 hblr
    have hbl1:b<w1.heap.size:=Nat.lt_of_lt_of_le hblr hb1.size
    clear f0 f1 f2 hb1 hr
    rcases vE (E k).z (E k).x (E k).y with ⟨h1,h2⟩ | ⟨h1,h2⟩
    ·rw [h1]
     obtain ⟨g0,g1,g2,g3,g4⟩:=HG1.out k hlt
     clear h1
     cases hcB:(inB (E k).du 0 9999 && inB (E k).tr 1 99)
     ·have hsc:Hid (zT n E=3):=first.out 3 (zAl (by simp [zGk,h2,hcB])) (by decide)
      clear h2
      cases h3:inB (E k).du 0 9999
      ·clear hcB
       go_wp2_with (go_at_call 59;refine (zQ _ _ _ _).mono ?_;rintro e w' ⟨rfl,rfl⟩)
       go_ret
       exact ⟨zC hsc.out.symm,HB1.out⟩
      ·have h4:inB (E k).tr 1 99=false:=by rw [h3] at hcB;simpa using hcB
       clear hcB
       go_wp2_with (go_at_call 59;refine (zQ _ _ _ _).mono ?_;rintro e w' ⟨rfl,rfl⟩)
       go_ret
       exact ⟨zC hsc.out.symm,HB1.out⟩
     ·have h3:inB (E k).du 0 9999=true:=by simp at hcB;exact hcB.1
      have h4:inB (E k).tr 1 99=true:=by simp at hcB;exact hcB.2
      have hrq:Hid (zGk (E k)=true):=by show _=_;simp [zGk,h2,hcB]
      clear hcB h2
      have HH:Hid (Calls Tryz.prog 106 #[.slice (some ⟨b,off,none⟩) n cap,vW (E k).z (E k).x (E k).y] w1 fun e w'=>e=.returned (.int .i64 (atW n E (E k).z (E k).x (E k).y))∧Bw w1 w') :=
       zLl _ n cap E _ _ _ w1 (.inr ⟨b,off,rfl,hbl1,HG1.out⟩) (by omega)
      rcases zIr HLT.out with ⟨hq,hq2⟩ | ⟨hq,i,hik,hq2⟩
      ·have hok:Hid (yS E k=0):=zIa hrq.out hq
       rw [hq2] at HH
       clear hq hq2
       generalize (E k).z=rz at *
       generalize (E k).x=rx at *
       generalize (E k).y=ry at *
       generalize (E k).du=rd at *
       generalize (E k).tr=rt at *
       go_wp2_with (first | (go_at_call 59;refine (zQ _ _ _ _).mono ?_;rintro e w' ⟨rfl,rfl⟩) | (go_at_call 106;refine HH.out.mono ?_;rintro e w' ⟨rfl,hb⟩))
       go_roundw
       case rel=>exact ⟨k+1,by have:=HLT.out;omega,by go_num,HOK.out hok.out,zA HB1.out (by assumption)⟩
       case measure=>have:=HLT.out;simp [intOf];omega
      ·have hsc:Hid (zT n E=6):=first.out 6 (zBw hrq.out hq) (by decide)
       have hne:((i:Int) == (k:Int))=false:=by simp;omega
       rw [hq2] at HH
       clear hq hq2
       generalize (E k).z=rz at *
       generalize (E k).x=rx at *
       generalize (E k).y=ry at *
       generalize (E k).du=rd at *
       generalize (E k).tr=rt at *
       generalize (i:Int)=ii at *
       clear hik
       go_wp2_with (first | (go_at_call 59;refine (zQ _ _ _ _).mono ?_;rintro e w' ⟨rfl,rfl⟩) | (go_at_call 106;refine HH.out.mono ?_;rintro e w' ⟨rfl,hb⟩))
       go_ret
       exact ⟨zC hsc.out.symm,zA HB1.out (by assumption)⟩
    ·have hsc:Hid (zT n E=3):=first.out 3 (zAl (by simp [zGk,h2])) (by decide)
     rw [h1]
     clear h1 h2
     go_wp2
     go_ret
     exact ⟨zC hsc.out.symm,HB1.out⟩
   ·have hsc:Hid (zT n E=0):=by
     show _=_
     rw [hz.out]
     exact yG _ _ _ (fun j _ hj=>HA.out j (by omega))
    go_wp2
    go_ret
    exact ⟨zC hsc.out.symm,HB.out⟩
end Go.Proofs.YtkjbafcalamgnaaGreat
