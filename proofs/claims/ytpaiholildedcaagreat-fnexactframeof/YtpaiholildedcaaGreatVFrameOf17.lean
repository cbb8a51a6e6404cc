/- Texts. -/
import Derived.Test.YtpaiholildedcaaGreatVFrameOf16
set_option linter.unusedSimpArgs false
set_option linter.unusedVariables false
set_option maxRecDepth 100000
set_option maxHeartbeats 32000000
namespace Go.Proofs.YtpaiholildedcaaGreat
open Go.RowKit
end Go.Proofs.YtpaiholildedcaaGreat
namespace Go.Proofs.YtpaiholildedcaaGreat
open Go.ChangeShapes Go.WideShapes Go.ChangeAt Go.RowKit Go.Deep
end Go.Proofs.YtpaiholildedcaaGreat
namespace Go.Proofs.YtpaiholildedcaaGreat
open Go.RowKit
end Go.Proofs.YtpaiholildedcaaGreat
namespace Go.Proofs.YtpaiholildedcaaGreat
open Go.ChangeShapes Go.WideShapes Go.ChangeAt Go.RowKit Go.Deep
theorem zKr {H:Type}{enc:TypeId × Value→H}{w:World}{base fuel:Nat}{held:Bool}{cs:List Value}{y:DataW H × List MemPlace}(hf:DataW.trod enc Tryz.prog w base (fun _=>true) held fuel 187 cs=some y) :
  ∃ (a:Option Addr) (n cap:Nat) (F:Nat→yD),cs=[.slice a n cap]∧(zKn w a n F∧zE7 n F):=by
 rcases open_slice Tryz.underlying187 hf with ⟨hcs,_⟩ | ⟨x,len,c,m,n,D,Pl,hcs,_,hl,hc,hm,_,hx⟩
 ·exact ⟨none,0,0,fun _=>⟨0,0,0,0,none,0,0,fun _=>0,fun _=>0,⟨#[]⟩,0⟩,hcs,.inl rfl,Nat.zero_le _,fun i hi=>absurd hi (by omega)⟩
 ·simp at hm
  subst hm
  have each:∀ i,∃ f:yD,i<len→(∀ k,k<7→w.cell? (x.add (i * 7+k))=[Value.int .i64 f.id,.int .i64 f.la,.int .i64 f.ki,.int .i64 f.wi,.slice f.a f.n f.cap,.string f.lab,.int .i64 f.pr][k]?)∧xQ w f.a f.n f.X f.Y∧f.n≤maxLen∧f.lab.size≤maxLen:=by
   intro i
   by_cases hi:i<len
   ·obtain ⟨cs',h1,h2⟩:=hx i (by omega)
    rw [zKh] at h1
    obtain ⟨_,hlen,hcell⟩:=World.cells?_some h1
    obtain ⟨id,la,ki,wi,a',n',cap',X,Y,lab,pr,rfl,hp,hn,hcp,hs⟩:=zMr h2
    refine ⟨⟨id,la,ki,wi,a',n',cap',X,Y,lab,pr⟩,fun _=>⟨fun k hk=>?_,hp,Nat.le_trans hn hcp,hs⟩⟩
    have:=hcell k hk
    rw [add_add] at this
    exact this
   ·exact ⟨⟨0,0,0,0,none,0,0,fun _=>0,fun _=>0,⟨#[]⟩,0⟩,fun h=>absurd h hi⟩
  obtain ⟨F,hF⟩:=Classical.skolem.1 each
  refine ⟨some x,len,_,F,hcs,?_,Nat.le_trans hl hc,fun i hi=>(hF i hi).2.2⟩
  by_cases h0:len=0
  ·exact .inl h0
  ·right
   obtain ⟨b,off,spot⟩:=x
   have e0:=(hF 0 (by omega)).1 0 (by omega)
   simp at e0
   have hspot:spot=none:=by simpa [Addr.add] using World.cell?_spot e0
   subst hspot
   refine ⟨b,off,rfl,?_,fun i hi=>?_⟩
   ·have:=World.block_lt_of_cell? _ _ e0
    simpa [Addr.add] using this
   ·obtain ⟨hc7,hp,_,_⟩:=hF i hi
    refine ⟨?_,hp⟩
    have k0:=hc7 0 (by omega)
    have k1:=hc7 1 (by omega)
    have k2:=hc7 2 (by omega)
    have k3:=hc7 3 (by omega)
    have k4:=hc7 4 (by omega)
    have k5:=hc7 5 (by omega)
    have k6:=hc7 6 (by omega)
    rw [add_plain] at k0 k1 k2 k3 k4 k5 k6
    simp only [← Nat.add_assoc,Nat.add_zero] at k0 k1 k2 k3 k4 k5 k6
    exact ⟨k0,k1,k2,k3,k4,k5,k6⟩
theorem zDr:Tryz.prog.cellsOf 145=3:=by kernel_rfl
theorem zOe:Tryz.prog.cellsOf 187=1:=by kernel_rfl
theorem zKf:Tryz.prog.cellsOf 189=4:=by kernel_rfl
theorem zGh {H:Type}{enc:TypeId × Value→H}{w:World}{base:Nat}{spare:Nat→Bool}{held:Bool}{n:Nat}{cs:List Value}{x:DataW H × List MemPlace}(h:DataW.trod enc Tryz.prog w base spare held n 145 cs=some x):∃ a b c:Int,cs=[.int .i64 a,.int .i64 b,.int .i64 c]:=by
 obtain ⟨xs,m,rfl,hx,hl,hxl,hf⟩:=DataW.trod_struct Tryz.underlying145 h
 rw [zDr] at hl
 have hxl3:xs.length=3:=hxl
 match cs,hl with
 | [v0,v1,v2],_ =>
  match xs,hxl3 with
  | [x0,x1,x2],_ =>
   have h0:=hf 0 _ rfl
   have h1:=hf 1 _ rfl
   have h2:=hf 2 _ rfl
   simp [xP] at h0 h1 h2
   obtain ⟨a,e0,_,_⟩:=DataW.trod_int Tryz.underlying2 h0
   obtain ⟨b,e1,_,_⟩:=DataW.trod_int Tryz.underlying2 h1
   obtain ⟨c,e2,_,_⟩:=DataW.trod_int Tryz.underlying2 h2
   simp at e0 e1 e2
   subst e0 e1 e2
   exact ⟨a,b,c,rfl⟩
end Go.Proofs.YtpaiholildedcaaGreat
namespace Go.Proofs.YtpaiholildedcaaGreat
open Go.RowKit
noncomputable def yB (G:Nat→yD)(i:Nat):Int:=by
 classical exact if zH (G i).id (G i).la (G i).ki (G i).wi (G i).n (G i).X (G i).Y (G i).lab (G i).pr≠0 then zH (G i).id (G i).la (G i).ki (G i).wi (G i).n (G i).X (G i).Y (G i).lab (G i).pr else if ∃ j,j<i∧(G j).id=(G i).id then 6 else 0
noncomputable def zT (n:Nat)(G:Nat→yD):Int:=if 12<n then 2 else yH (yB G) 0 n
theorem zB4 {G:Nat→yD}{i:Nat}(h:zH (G i).id (G i).la (G i).ki (G i).wi (G i).n (G i).X (G i).Y (G i).lab (G i).pr≠0):yB G i=zH (G i).id (G i).la (G i).ki (G i).wi (G i).n (G i).X (G i).Y (G i).lab (G i).pr:=by unfold yB;rw [if_pos h]
theorem zB3 {G:Nat→yD}{i:Nat}(h:zH (G i).id (G i).la (G i).ki (G i).wi (G i).n (G i).X (G i).Y (G i).lab (G i).pr=0)(h2:∃ j,j<i∧(G j).id=(G i).id):yB G i=6:=by unfold yB;rw [if_neg (by simp [h]),if_pos h2]
theorem zHv {G:Nat→yD}{i:Nat}(h:zH (G i).id (G i).la (G i).ki (G i).wi (G i).n (G i).X (G i).Y (G i).lab (G i).pr=0)(h2:¬ ∃ j,j<i∧(G j).id=(G i).id):yB G i=0:=by unfold yB;rw [if_neg (by simp [h]),if_neg h2]
theorem zJp {G H:Nat→yD}{n i:Nat}(h:∀ j,j<n→(G j).same (H j))(hi:i<n):yB G i=yB H i:=by
 obtain ⟨s1,s2,s3,s4,s5,s6,s7,s8,s9⟩:=h i hi
 have e:(∃ j,j<i∧(G j).id=(G i).id) ↔ (∃ j,j<i∧(H j).id=(H i).id):=by
  constructor
  ·rintro ⟨j,hj,e⟩;exact ⟨j,hj,by rw [← (h j (by omega)).1,← s1];exact e⟩
  ·rintro ⟨j,hj,e⟩;exact ⟨j,hj,by rw [(h j (by omega)).1,s1];exact e⟩
 unfold yB
 rw [s1,s2,s3,s4,s5,s6,s7,s8,s9]
 rw [s1] at e
 simp only [e]
theorem zJg {G H:Nat→yD}{n:Nat}(h:∀ j,j<n→(G j).same (H j)):zT n G=zT n H:=by
 unfold zT
 rw [zEo (yB G) (yB H) n 0 (fun j _ hj=>zJp h (by omega))]
theorem zLp (b n cap:Nat)(G:Nat→yD)(w:World)(hg:zAc w b 0 n G)(hbl:b<w.heap.size)(hs:yL n G) :
  Calls Tryz.prog 185 #[.slice (some ⟨b,0,none⟩) n cap] w fun e w'=>e=.returned (.int .i64 (zT n G))∧Bw w w':=by
 have HG:Hid (zAc w b 0 n G):=hg
 have HS:Hid (yL n G):=hs
 have hn:=hs.1
 clear hg hs
 by_cases h12:(12:Int)<n
 ·have hz:Hid (zT n G=2):=by show _=_;unfold zT;rw [if_pos (by omega)]
  go_enter Tryz.func185,Tryz.ntmps185
  go_wp2
  go_ret
  exact ⟨zD hz.out.symm,Qb⟩
 ·have hz:Hid (zT n G=yH (yB G) 0 n):=by show _=_;unfold zT;rw [if_neg (by omega)]
  go_enter Tryz.func185,Tryz.ntmps185
  go_wp2
  go_loopw [3] (fun v wr=>∃ k:Nat,k≤n∧v=.int .i64 k∧(∀ j,j<k→yB G j=0)∧Bw w wr) (fun v _=>n - (intOf v).toNat)
  case atStart=>exact ⟨0,by omega,rfl,by omega,Below.refl _ _⟩
  case round =>
   obtain ⟨k,hk,rfl,hA,hB⟩:=hrel
   have HB:Hid (Bw w wr):=hB
   have HA:Hid (∀ j,j<k→yB G j=0):=hA
   by_cases hlt:k<n
   ·have HGr:Hid (zAc wr b 0 n G):=HG.out.below hB hbl
    have hblr:b<wr.heap.size:=Nat.lt_of_lt_of_le hbl hB.size
    obtain ⟨hF,hP⟩:=HGr.out k hlt
    rw [Nat.zero_add] at hF
    have HF:Hid (uC wr b (k * 7) (G k).id (G k).la (G k).ki (G k).wi (.slice (G k).a (G k).n (G k).cap) (G k).lab (G k).pr):=hF
    have HP:Hid (xQ wr (G k).a (G k).n (G k).X (G k).Y):=hP
    obtain ⟨z1,z2⟩:=HS.out.2 k hlt
    have HLT:Hid (k<n):=hlt
    clear hB hA hF hP
    have hi:(k:Int)<(n:Int):=by omega
    have hi0:(0:Int)≤(k:Int):=by omega
    go_wp2_with fail
    refine (zI4 b (k * 7) _ _ _ _ _ _ _ (G k).X (G k).Y _ _ _ HF.out HP.out z2 z1).mono ?_
    rintro e w1 ⟨rfl,hb1⟩
    by_cases hc:zH (G k).id (G k).la (G k).ki (G k).wi (G k).n (G k).X (G k).Y (G k).lab (G k).pr=0
    ·rw [hc]
     have HC:Hid (zH (G k).id (G k).la (G k).ki (G k).wi (G k).n (G k).X (G k).Y (G k).lab (G k).pr=0):=hc
     have d0:∀ W',Bw w1 W'→W'.cell? ⟨b,k * 7,none⟩=some (.int .i64 (G k).id):=fun W' h=>((HF.out.below hb1 hblr).below h (Nat.lt_of_lt_of_le hblr hb1.size)).1
     have HG1:Hid (zAc w1 b 0 n G):=HGr.out.below hb1 hblr
     have hbl1:b<w1.heap.size:=Nat.lt_of_lt_of_le hblr hb1.size
     have HB1:Hid (Bw w w1):=zA HB.out hb1
     clear hc hb1
     have hr1:Bw w1 w1:=Below.refl _ _
     go_wp2_with fail
     refine (zPc b n cap G k _ HLT.out HG1.out hbl1 hn).mono ?_
     rintro e w2 ⟨⟨r,hr,hre,hrl,rfl⟩,hb2⟩
     have HB2:Hid (Bw w w2):=zA HB1.out hb2
     clear hb2
     by_cases hrk:r=k
     ·subst hrk
      have hok:yB G r=0:=zHv HC.out (fun ⟨j,hj,hje⟩=>hrl j hj hje)
      have HOK:Hid (yB G r=0):=hok
      clear hok hre hrl
      go_wp2
      go_roundw
      case rel=>exact ⟨r+1,by have:=HLT.out;omega,by go_num,fun j hj=>by
        by_cases e:j=r
        ·rw [e];exact HOK.out
        ·exact HA.out j (by omega),HB2.out⟩
      case measure=>have:=HLT.out;simp [intOf];omega
     ·have hne:(((r:Nat):Int) == ((k:Nat):Int))=false:=by simp;omega
      have htk:Hid (yB G k=6):=zB3 HC.out ⟨r,by omega,hre⟩
      have hsc:Hid (zT n G=6):=by
       show _=_
       rw [hz.out,zQ (yB G) n 0 k (fun j _ hj=>HA.out j hj) (by omega) (by have:=HLT.out;omega) (by rw [htk.out];decide),htk.out]
      clear hre hrl
      go_wp2
      go_ret
      exact ⟨zD hsc.out.symm,HB2.out⟩
    ·have hsc:Hid (zT n G=zH (G k).id (G k).la (G k).ki (G k).wi (G k).n (G k).X (G k).Y (G k).lab (G k).pr):=by
      show _=_
      have h6:=zB4 hc
      rw [hz.out,zQ (yB G) n 0 k (fun j _ hj=>HA.out j hj) (by omega) (by have:=HLT.out;omega) (by rw [h6];exact hc),h6]
     have hcb:(zH (G k).id (G k).la (G k).ki (G k).wi (G k).n (G k).X (G k).Y (G k).lab (G k).pr == 0)=false:=by simpa using hc
     have HB1:Hid (Bw w w1):=zA HB.out hb1
     clear hc hb1
     go_wp2
     go_ret
     exact ⟨zD hsc.out.symm,HB1.out⟩
   ·have hsc:Hid (zT n G=0):=by
     show _=_
     rw [hz.out]
     exact yJ _ _ _ (fun j _ hj=>HA.out j (by omega))
    go_wp2
    go_ret
    exact ⟨zD hsc.out.symm,HB.out⟩
end Go.Proofs.YtpaiholildedcaaGreat
