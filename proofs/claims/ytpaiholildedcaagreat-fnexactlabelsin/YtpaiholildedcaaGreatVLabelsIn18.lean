/- Texts. -/
import Derived.Test.YtpaiholildedcaaGreatVLabelsIn17
set_option linter.unusedSimpArgs false
set_option linter.unusedVariables false
set_option maxRecDepth 100000
set_option maxHeartbeats 32000000
namespace Go.Proofs.YtpaiholildedcaaGreat
open Go.RowKit
end Go.Proofs.YtpaiholildedcaaGreat
namespace Go.Proofs.YtpaiholildedcaaGreat
open Go.ChangeShapes Go.WideShapes Go.ChangeAt Go.RowKit Go.Deep
end Go.Proofs.YtpaiholildedcaaGreat
namespace Go.Proofs.YtpaiholildedcaaGreat
open Go.RowKit
end Go.Proofs.YtpaiholildedcaaGreat
namespace Go.Proofs.YtpaiholildedcaaGreat
open Go.ChangeShapes Go.WideShapes Go.ChangeAt Go.RowKit Go.Deep
theorem zMv {H:Type}{enc:TypeId × Value→H}{w:World}{base fuel:Nat}{held:Bool}{cs:List Value}{y:DataW H × List MemPlace}(hf:DataW.trod enc Tryz.prog w base (fun _=>true) held fuel 187 cs=some y) :
  ∃ (a:Option Addr) (n cap:Nat) (F:Nat→zS),cs=[.slice a n cap]∧(zMs w a n F∧zGn n F):=by
 rcases open_slice Tryz.underlying187 hf with ⟨hcs,_⟩ | ⟨x,len,c,m,n,D,Pl,hcs,_,hl,hc,hm,_,hx⟩
 ·exact ⟨none,0,0,fun _=>⟨0,0,0,0,none,0,0,fun _=>0,fun _=>0,⟨#[]⟩,0⟩,hcs,.inl rfl,Nat.zero_le _,fun i hi=>absurd hi (by omega)⟩
 ·simp at hm
  subst hm
  have each:∀ i,∃ f:zS,i<len→(∀ k,k<7→w.cell? (x.add (i * 7+k))=[Value.int .i64 f.id,.int .i64 f.la,.int .i64 f.ki,.int .i64 f.wi,.slice f.a f.n f.cap,.string f.lab,.int .i64 f.pr][k]?)∧xY w f.a f.n f.X f.Y∧f.n≤maxLen∧f.lab.size≤maxLen:=by
   intro i
   by_cases hi:i<len
   ·obtain ⟨cs',h1,h2⟩:=hx i (by omega)
    rw [zMk] at h1
    obtain ⟨_,hlen,hcell⟩:=World.cells?_some h1
    obtain ⟨id,la,ki,wi,a',n',cap',X,Y,lab,pr,rfl,hp,hn,hcp,hs⟩:=zOv h2
    refine ⟨⟨id,la,ki,wi,a',n',cap',X,Y,lab,pr⟩,fun _=>⟨fun k hk=>?_,hp,Nat.le_trans hn hcp,hs⟩⟩
    have:=hcell k hk
    rw [add_add] at this
    exact this
   ·exact ⟨⟨0,0,0,0,none,0,0,fun _=>0,fun _=>0,⟨#[]⟩,0⟩,fun h=>absurd h hi⟩
  obtain ⟨F,hF⟩:=Classical.skolem.1 each
  refine ⟨some x,len,_,F,hcs,?_,Nat.le_trans hl hc,fun i hi=>(hF i hi).2.2⟩
  by_cases h0:len=0
  ·exact .inl h0
  ·right
   obtain ⟨b,off,spot⟩:=x
   have e0:=(hF 0 (by omega)).1 0 (by omega)
   simp at e0
   have hspot:spot=none:=by simpa [Addr.add] using World.cell?_spot e0
   subst hspot
   refine ⟨b,off,rfl,?_,fun i hi=>?_⟩
   ·have:=World.block_lt_of_cell? _ _ e0
    simpa [Addr.add] using this
   ·obtain ⟨hc7,hp,_,_⟩:=hF i hi
    refine ⟨?_,hp⟩
    have k0:=hc7 0 (by omega)
    have k1:=hc7 1 (by omega)
    have k2:=hc7 2 (by omega)
    have k3:=hc7 3 (by omega)
    have k4:=hc7 4 (by omega)
    have k5:=hc7 5 (by omega)
    have k6:=hc7 6 (by omega)
    rw [add_plain] at k0 k1 k2 k3 k4 k5 k6
    simp only [← Nat.add_assoc,Nat.add_zero] at k0 k1 k2 k3 k4 k5 k6
    exact ⟨k0,k1,k2,k3,k4,k5,k6⟩
theorem zEv:Tryz.prog.cellsOf 145=3:=by kernel_rfl
theorem zQw:Tryz.prog.cellsOf 187=1:=by kernel_rfl
theorem zMi:Tryz.prog.cellsOf 189=4:=by kernel_rfl
theorem zH7 {H:Type}{enc:TypeId × Value→H}{w:World}{base:Nat}{spare:Nat→Bool}{held:Bool}{n:Nat}{cs:List Value}{x:DataW H × List MemPlace}(h:DataW.trod enc Tryz.prog w base spare held n 145 cs=some x):∃ a b c:Int,cs=[.int .i64 a,.int .i64 b,.int .i64 c]:=by
 obtain ⟨xs,m,rfl,hx,hl,hxl,hf⟩:=DataW.trod_struct Tryz.underlying145 h
 rw [zEv] at hl
 have hxl3:xs.length=3:=hxl
 match cs,hl with
 | [v0,v1,v2],_ =>
  match xs,hxl3 with
  | [x0,x1,x2],_ =>
   have h0:=hf 0 _ rfl
   have h1:=hf 1 _ rfl
   have h2:=hf 2 _ rfl
   simp [vE] at h0 h1 h2
   obtain ⟨a,e0,_,_⟩:=DataW.trod_int Tryz.underlying2 h0
   obtain ⟨b,e1,_,_⟩:=DataW.trod_int Tryz.underlying2 h1
   obtain ⟨c,e2,_,_⟩:=DataW.trod_int Tryz.underlying2 h2
   simp at e0 e1 e2
   subst e0 e1 e2
   exact ⟨a,b,c,rfl⟩
end Go.Proofs.YtpaiholildedcaaGreat
namespace Go.Proofs.YtpaiholildedcaaGreat
open Go.RowKit
noncomputable def yF (G:Nat→zS)(i:Nat):Int:=by
 classical exact if zI (G i).id (G i).la (G i).ki (G i).wi (G i).n (G i).X (G i).Y (G i).lab (G i).pr≠0 then zI (G i).id (G i).la (G i).ki (G i).wi (G i).n (G i).X (G i).Y (G i).lab (G i).pr else if ∃ j,j<i∧(G j).id=(G i).id then 6 else 0
noncomputable def zV (n:Nat)(G:Nat→zS):Int:=if 12<n then 2 else yR (yF G) 0 n
theorem zC5 {G:Nat→zS}{i:Nat}(h:zI (G i).id (G i).la (G i).ki (G i).wi (G i).n (G i).X (G i).Y (G i).lab (G i).pr≠0):yF G i=zI (G i).id (G i).la (G i).ki (G i).wi (G i).n (G i).X (G i).Y (G i).lab (G i).pr:=by unfold yF;rw [if_pos h]
theorem zC4 {G:Nat→zS}{i:Nat}(h:zI (G i).id (G i).la (G i).ki (G i).wi (G i).n (G i).X (G i).Y (G i).lab (G i).pr=0)(h2:∃ j,j<i∧(G j).id=(G i).id):yF G i=6:=by unfold yF;rw [if_neg (by simp [h]),if_pos h2]
theorem zJs {G:Nat→zS}{i:Nat}(h:zI (G i).id (G i).la (G i).ki (G i).wi (G i).n (G i).X (G i).Y (G i).lab (G i).pr=0)(h2:¬ ∃ j,j<i∧(G j).id=(G i).id):yF G i=0:=by unfold yF;rw [if_neg (by simp [h]),if_neg h2]
theorem zLs {G H:Nat→zS}{n i:Nat}(h:∀ j,j<n→(G j).same (H j))(hi:i<n):yF G i=yF H i:=by
 obtain ⟨s1,s2,s3,s4,s5,s6,s7,s8,s9⟩:=h i hi
 have e:(∃ j,j<i∧(G j).id=(G i).id) ↔ (∃ j,j<i∧(H j).id=(H i).id):=by
  constructor
  ·rintro ⟨j,hj,e⟩;exact ⟨j,hj,by rw [← (h j (by omega)).1,← s1];exact e⟩
  ·rintro ⟨j,hj,e⟩;exact ⟨j,hj,by rw [(h j (by omega)).1,s1];exact e⟩
 unfold yF
 rw [s1,s2,s3,s4,s5,s6,s7,s8,s9]
 rw [s1] at e
 simp only [e]
theorem zLj {G H:Nat→zS}{n:Nat}(h:∀ j,j<n→(G j).same (H j)):zV n G=zV n H:=by
 unfold zV
 rw [zF2 (yF G) (yF H) n 0 (fun j _ hj=>zLs h (by omega))]
theorem zNt (b n cap:Nat)(G:Nat→zS)(w:World)(hg:vY w b 0 n G)(hbl:b<w.heap.size)(hs:yU n G) :
  Calls Tryz.prog 185 #[.slice (some ⟨b,0,none⟩) n cap] w fun e w'=>e=.returned (.int .i64 (zV n G))∧Bw w w':=by
 have HG:Hid (vY w b 0 n G):=hg
 have HS:Hid (yU n G):=hs
 have hn:=hs.1
 clear hg hs
 by_cases h12:(12:Int)<n
 ·have hz:Hid (zV n G=2):=by show _=_;unfold zV;rw [if_pos (by omega)]
  go_enter Tryz.func185,Tryz.ntmps185
  go_wp2
  go_ret
  exact ⟨zE hz.out.symm,Qb⟩
 ·have hz:Hid (zV n G=yR (yF G) 0 n):=by show _=_;unfold zV;rw [if_neg (by omega)]
  go_enter Tryz.func185,Tryz.ntmps185
  go_wp2
  go_loopw [3] (fun v wr=>∃ k:Nat,k≤n∧v=.int .i64 k∧(∀ j,j<k→yF G j=0)∧Bw w wr) (fun v _=>n - (intOf v).toNat)
  case atStart=>exact ⟨0,by omega,rfl,by omega,Below.refl _ _⟩
  case round =>
   obtain ⟨k,hk,rfl,hA,hB⟩:=hrel
   have HB:Hid (Bw w wr):=hB
   have HA:Hid (∀ j,j<k→yF G j=0):=hA
   by_cases hlt:k<n
   ·have HGr:Hid (vY wr b 0 n G):=HG.out.below hB hbl
    have hblr:b<wr.heap.size:=Nat.lt_of_lt_of_le hbl hB.size
    obtain ⟨hF,hP⟩:=HGr.out k hlt
    rw [Nat.zero_add] at hF
    have HF:Hid (yJ wr b (k * 7) (G k).id (G k).la (G k).ki (G k).wi (.slice (G k).a (G k).n (G k).cap) (G k).lab (G k).pr):=hF
    have HP:Hid (xY wr (G k).a (G k).n (G k).X (G k).Y):=hP
    obtain ⟨z1,z2⟩:=HS.out.2 k hlt
    have HLT:Hid (k<n):=hlt
    clear hB hA hF hP
    have hi:(k:Int)<(n:Int):=by omega
    have hi0:(0:Int)≤(k:Int):=by omega
    go_wp2_with fail
    refine (zK6 b (k * 7) _ _ _ _ _ _ _ (G k).X (G k).Y _ _ _ HF.out HP.out z2 z1).mono ?_
    rintro e w1 ⟨rfl,hb1⟩
    by_cases hc:zI (G k).id (G k).la (G k).ki (G k).wi (G k).n (G k).X (G k).Y (G k).lab (G k).pr=0
    ·rw [hc]
     have HC:Hid (zI (G k).id (G k).la (G k).ki (G k).wi (G k).n (G k).X (G k).Y (G k).lab (G k).pr=0):=hc
     have d0:∀ W',Bw w1 W'→W'.cell? ⟨b,k * 7,none⟩=some (.int .i64 (G k).id):=fun W' h=>((HF.out.below hb1 hblr).below h (Nat.lt_of_lt_of_le hblr hb1.size)).1
     have HG1:Hid (vY w1 b 0 n G):=HGr.out.below hb1 hblr
     have hbl1:b<w1.heap.size:=Nat.lt_of_lt_of_le hblr hb1.size
     have HB1:Hid (Bw w w1):=zA HB.out hb1
     clear hc hb1
     have hr1:Bw w1 w1:=Below.refl _ _
     go_wp2_with fail
     refine (zR6 b n cap G k _ HLT.out HG1.out hbl1 hn).mono ?_
     rintro e w2 ⟨⟨r,hr,hre,hrl,rfl⟩,hb2⟩
     have HB2:Hid (Bw w w2):=zA HB1.out hb2
     clear hb2
     by_cases hrk:r=k
     ·subst hrk
      have hok:yF G r=0:=zJs HC.out (fun ⟨j,hj,hje⟩=>hrl j hj hje)
      have HOK:Hid (yF G r=0):=hok
      clear hok hre hrl
      go_wp2
      go_roundw
      case rel=>exact ⟨r+1,by have:=HLT.out;omega,by go_num,fun j hj=>by
        by_cases e:j=r
        ·rw [e];exact HOK.out
        ·exact HA.out j (by omega),HB2.out⟩
      case measure=>have:=HLT.out;simp [intOf];omega
     ·have hne:(((r:Nat):Int) == ((k:Nat):Int))=false:=by simp;omega
      have htk:Hid (yF G k=6):=zC4 HC.out ⟨r,by omega,hre⟩
      have hsc:Hid (zV n G=6):=by
       show _=_
       rw [hz.out,zU (yF G) n 0 k (fun j _ hj=>HA.out j hj) (by omega) (by have:=HLT.out;omega) (by rw [htk.out];decide),htk.out]
      clear hre hrl
      go_wp2
      go_ret
      exact ⟨zE hsc.out.symm,HB2.out⟩
    ·have hsc:Hid (zV n G=zI (G k).id (G k).la (G k).ki (G k).wi (G k).n (G k).X (G k).Y (G k).lab (G k).pr):=by
      show _=_
      have h6:=zC5 hc
      rw [hz.out,zU (yF G) n 0 k (fun j _ hj=>HA.out j hj) (by omega) (by have:=HLT.out;omega) (by rw [h6];exact hc),h6]
     have hcb:(zI (G k).id (G k).la (G k).ki (G k).wi (G k).n (G k).X (G k).Y (G k).lab (G k).pr == 0)=false:=by simpa using hc
     have HB1:Hid (Bw w w1):=zA HB.out hb1
     clear hc hb1
     go_wp2
     go_ret
     exact ⟨zE hsc.out.symm,HB1.out⟩
   ·have hsc:Hid (zV n G=0):=by
     show _=_
     rw [hz.out]
     exact yT _ _ _ (fun j _ hj=>HA.out j (by omega))
    go_wp2
    go_ret
    exact ⟨zE hsc.out.symm,HB.out⟩
end Go.Proofs.YtpaiholildedcaaGreat
