/- Texts. -/
import Derived.Test.YtkjbafcalamgnaaGreatVSizeViewer18
set_option linter.unusedSimpArgs false
set_option linter.unusedVariables false
set_option maxRecDepth 100000
set_option maxHeartbeats 32000000
namespace Go.Proofs.YtkjbafcalamgnaaGreat
open Go.RowKit
end Go.Proofs.YtkjbafcalamgnaaGreat
namespace Go.Proofs.YtkjbafcalamgnaaGreat
open Go.ChangeShapes Go.WideShapes Go.ChangeAt Go.RowKit Go.Deep
end Go.Proofs.YtkjbafcalamgnaaGreat
namespace Go.Proofs.YtkjbafcalamgnaaGreat
open Go.RowKit
end Go.Proofs.YtkjbafcalamgnaaGreat
namespace Go.Proofs.YtkjbafcalamgnaaGreat
open Go.ChangeShapes Go.WideShapes Go.ChangeAt Go.RowKit Go.Deep
theorem zQ4 {H:Type}{enc:TypeId × Value→H}{w:World}{base fuel:Nat}{held:Bool}{cs:List Value}{y:DataW H × List MemPlace}(hf:DataW.trod enc Tryz.prog w base (fun _=>true) held fuel 50 cs=some y) :
  ∃ (a:Option Addr) (n cap:Nat) (F:Nat→yC),cs=[.slice a n cap]∧(zGq w a n F∧zJ4 n F):=by
 rcases open_slice Tryz.underlying50 hf with ⟨hcs,_⟩ | ⟨x,len,c,m,n,D,Pl,hcs,_,hl,hc,hm,_,hx⟩
 ·exact ⟨none,0,0,fun _=>⟨0,0,0,0,none,0,0,fun _=>0,fun _=>0,⟨#[]⟩,0⟩,hcs,.inl rfl,Nat.zero_le _,fun i hi=>absurd hi (by omega)⟩
 ·simp at hm
  subst hm
  have each:∀ i,∃ f:yC,i<len→(∀ k,k<7→w.cell? (x.add (i * 7+k))=[Value.int .i64 f.id,.int .i64 f.la,.int .i64 f.ki,.int .i64 f.wi,.slice f.a f.n f.cap,.string f.lab,.int .i64 f.pr][k]?)∧xP w f.a f.n f.X f.Y∧f.n≤maxLen∧f.lab.size≤maxLen:=by
   intro i
   by_cases hi:i<len
   ·obtain ⟨cs',h1,h2⟩:=hx i (by omega)
    rw [zQr] at h1
    obtain ⟨_,hlen,hcell⟩:=World.cells?_some h1
    obtain ⟨id,la,ki,wi,a',n',cap',X,Y,lab,pr,rfl,hp,hn,hcp,hs⟩:=zTb h2
    refine ⟨⟨id,la,ki,wi,a',n',cap',X,Y,lab,pr⟩,fun _=>⟨fun k hk=>?_,hp,Nat.le_trans hn hcp,hs⟩⟩
    have:=hcell k hk
    rw [add_add] at this
    exact this
   ·exact ⟨⟨0,0,0,0,none,0,0,fun _=>0,fun _=>0,⟨#[]⟩,0⟩,fun h=>absurd h hi⟩
  obtain ⟨F,hF⟩:=Classical.skolem.1 each
  refine ⟨some x,len,_,F,hcs,?_,Nat.le_trans hl hc,fun i hi=>(hF i hi).2.2⟩
  by_cases h0:len=0
  ·exact .inl h0
  ·right
   obtain ⟨b,off,spot⟩:=x
   have e0:=(hF 0 (by omega)).1 0 (by omega)
   simp at e0
   have hspot:spot=none:=by simpa [Addr.add] using World.cell?_spot e0
   subst hspot
   refine ⟨b,off,rfl,?_,fun i hi=>?_⟩
   ·have:=World.block_lt_of_cell? _ _ e0
    simpa [Addr.add] using this
   ·obtain ⟨hc7,hp,_,_⟩:=hF i hi
    refine ⟨?_,hp⟩
    have k0:=hc7 0 (by omega)
    have k1:=hc7 1 (by omega)
    have k2:=hc7 2 (by omega)
    have k3:=hc7 3 (by omega)
    have k4:=hc7 4 (by omega)
    have k5:=hc7 5 (by omega)
    have k6:=hc7 6 (by omega)
    rw [add_plain] at k0 k1 k2 k3 k4 k5 k6
    simp only [← Nat.add_assoc,Nat.add_zero] at k0 k1 k2 k3 k4 k5 k6
    exact ⟨k0,k1,k2,k3,k4,k5,k6⟩
theorem zHv:Tryz.prog.cellsOf 113=3:=by kernel_rfl
theorem zU5:Tryz.prog.cellsOf 50=1:=by kernel_rfl
theorem zQp:Tryz.prog.cellsOf 146=4:=by kernel_rfl
theorem zL3 {H:Type}{enc:TypeId × Value→H}{w:World}{base:Nat}{spare:Nat→Bool}{held:Bool}{n:Nat}{cs:List Value}{x:DataW H × List MemPlace}(h:DataW.trod enc Tryz.prog w base spare held n 113 cs=some x):∃ a b c:Int,cs=[.int .i64 a,.int .i64 b,.int .i64 c]:=by
 obtain ⟨xs,m,rfl,hx,hl,hxl,hf⟩:=DataW.trod_struct Tryz.underlying113 h
 rw [zHv] at hl
 have hxl3:xs.length=3:=hxl
 match cs,hl with
 | [v0,v1,v2],_ =>
  match xs,hxl3 with
  | [x0,x1,x2],_ =>
   have h0:=hf 0 _ rfl
   have h1:=hf 1 _ rfl
   have h2:=hf 2 _ rfl
   simp [uK] at h0 h1 h2
   obtain ⟨a,e0,_,_⟩:=DataW.trod_int Tryz.underlying2 h0
   obtain ⟨b,e1,_,_⟩:=DataW.trod_int Tryz.underlying2 h1
   obtain ⟨c,e2,_,_⟩:=DataW.trod_int Tryz.underlying2 h2
   simp at e0 e1 e2
   subst e0 e1 e2
   exact ⟨a,b,c,rfl⟩
end Go.Proofs.YtkjbafcalamgnaaGreat
namespace Go.Proofs.YtkjbafcalamgnaaGreat
open Go.RowKit
noncomputable def xA (G:Nat→yC)(i:Nat):Int:=by
 classical exact if zM (G i).id (G i).la (G i).ki (G i).wi (G i).n (G i).X (G i).Y (G i).lab (G i).pr≠0 then zM (G i).id (G i).la (G i).ki (G i).wi (G i).n (G i).X (G i).Y (G i).lab (G i).pr else if ∃ j,j<i∧(G j).id=(G i).id then 6 else 0
noncomputable def yK (n:Nat)(G:Nat→yC):Int:=if 12<n then 2 else xN (xA G) 0 n
theorem zFm {G:Nat→yC}{i:Nat}(h:zM (G i).id (G i).la (G i).ki (G i).wi (G i).n (G i).X (G i).Y (G i).lab (G i).pr≠0):xA G i=zM (G i).id (G i).la (G i).ki (G i).wi (G i).n (G i).X (G i).Y (G i).lab (G i).pr:=by unfold xA;rw [if_pos h]
theorem zFl {G:Nat→yC}{i:Nat}(h:zM (G i).id (G i).la (G i).ki (G i).wi (G i).n (G i).X (G i).Y (G i).lab (G i).pr=0)(h2:∃ j,j<i∧(G j).id=(G i).id):xA G i=6:=by unfold xA;rw [if_neg (by simp [h]),if_pos h2]
theorem zNs {G:Nat→yC}{i:Nat}(h:zM (G i).id (G i).la (G i).ki (G i).wi (G i).n (G i).X (G i).Y (G i).lab (G i).pr=0)(h2:¬ ∃ j,j<i∧(G j).id=(G i).id):xA G i=0:=by unfold xA;rw [if_neg (by simp [h]),if_neg h2]
theorem zPs {G H:Nat→yC}{n i:Nat}(h:∀ j,j<n→(G j).same (H j))(hi:i<n):xA G i=xA H i:=by
 obtain ⟨s1,s2,s3,s4,s5,s6,s7,s8,s9⟩:=h i hi
 have e:(∃ j,j<i∧(G j).id=(G i).id) ↔ (∃ j,j<i∧(H j).id=(H i).id):=by
  constructor
  ·rintro ⟨j,hj,e⟩;exact ⟨j,hj,by rw [← (h j (by omega)).1,← s1];exact e⟩
  ·rintro ⟨j,hj,e⟩;exact ⟨j,hj,by rw [(h j (by omega)).1,s1];exact e⟩
 unfold xA
 rw [s1,s2,s3,s4,s5,s6,s7,s8,s9]
 rw [s1] at e
 simp only [e]
theorem zPk {G H:Nat→yC}{n:Nat}(h:∀ j,j<n→(G j).same (H j)):yK n G=yK n H:=by
 unfold yK
 rw [zI8 (xA G) (xA H) n 0 (fun j _ hj=>zPs h (by omega))]
theorem zR3 (b n cap:Nat)(G:Nat→yC)(w:World)(hg:zA4 w b 0 n G)(hbl:b<w.heap.size)(hs:yM n G) :
  Calls Tryz.prog 95 #[.slice (some ⟨b,0,none⟩) n cap] w fun e w'=>e=.returned (.int .i64 (yK n G))∧Bw w w':=by
 have HG:Hid (zA4 w b 0 n G):=hg
 have HS:Hid (yM n G):=hs
 have hn:=hs.1
 clear hg hs
 by_cases h12:(12:Int)<n
 ·have hz:Hid (yK n G=2):=by show _=_;unfold yK;rw [if_pos (by omega)]
  go_enter Tryz.func95,Tryz.ntmps95
  go_wp2
  go_ret
  exact ⟨zD hz.out.symm,Qb⟩
 ·have hz:Hid (yK n G=xN (xA G) 0 n):=by show _=_;unfold yK;rw [if_neg (by omega)]
  go_enter Tryz.func95,Tryz.ntmps95
  go_wp2
  go_loopw [3] (fun v wr=>∃ k:Nat,k≤n∧v=.int .i64 k∧(∀ j,j<k→xA G j=0)∧Bw w wr) (fun v _=>n - (intOf v).toNat)
  case atStart=>exact ⟨0,by omega,rfl,by omega,Below.refl _ _⟩
  case round =>
   obtain ⟨k,hk,rfl,hA,hB⟩:=hrel
   have HB:Hid (Bw w wr):=hB
   have HA:Hid (∀ j,j<k→xA G j=0):=hA
   by_cases hlt:k<n
   ·have HGr:Hid (zA4 wr b 0 n G):=HG.out.below hB hbl
    have hblr:b<wr.heap.size:=Nat.lt_of_lt_of_le hbl hB.size
    obtain ⟨hF,hP⟩:=HGr.out k hlt
    rw [Nat.zero_add] at hF
    have HF:Hid (zAh wr b (k * 7) (G k).id (G k).la (G k).ki (G k).wi (.slice (G k).a (G k).n (G k).cap) (G k).lab (G k).pr):=hF
    have HP:Hid (xP wr (G k).a (G k).n (G k).X (G k).Y):=hP
    obtain ⟨z1,z2⟩:=HS.out.2 k hlt
    have HLT:Hid (k<n):=hlt
    clear hB hA hF hP
    have hi:(k:Int)<(n:Int):=by omega
    have hi0:(0:Int)≤(k:Int):=by omega
    go_wp2_with fail
    refine (zO7 b (k * 7) _ _ _ _ _ _ _ (G k).X (G k).Y _ _ _ HF.out HP.out z2 z1).mono ?_
    rintro e w1 ⟨rfl,hb1⟩
    by_cases hc:zM (G k).id (G k).la (G k).ki (G k).wi (G k).n (G k).X (G k).Y (G k).lab (G k).pr=0
    ·rw [hc]
     have HC:Hid (zM (G k).id (G k).la (G k).ki (G k).wi (G k).n (G k).X (G k).Y (G k).lab (G k).pr=0):=hc
     have d0:∀ W',Bw w1 W'→W'.cell? ⟨b,k * 7,none⟩=some (.int .i64 (G k).id):=fun W' h=>((HF.out.below hb1 hblr).below h (Nat.lt_of_lt_of_le hblr hb1.size)).1
     have HG1:Hid (zA4 w1 b 0 n G):=HGr.out.below hb1 hblr
     have hbl1:b<w1.heap.size:=Nat.lt_of_lt_of_le hblr hb1.size
     have HB1:Hid (Bw w w1):=zA HB.out hb1
     clear hc hb1
     have hr1:Bw w1 w1:=Below.refl _ _
     go_wp2_with fail
     refine (zWm b n cap G k _ HLT.out HG1.out hbl1 hn).mono ?_
     rintro e w2 ⟨⟨r,hr,hre,hrl,rfl⟩,hb2⟩
     have HB2:Hid (Bw w w2):=zA HB1.out hb2
     clear hb2
     by_cases hrk:r=k
     ·subst hrk
      have hok:xA G r=0:=zNs HC.out (fun ⟨j,hj,hje⟩=>hrl j hj hje)
      have HOK:Hid (xA G r=0):=hok
      clear hok hre hrl
      go_wp2
      go_roundw
      case rel=>exact ⟨r+1,by have:=HLT.out;omega,by go_num,fun j hj=>by
        by_cases e:j=r
        ·rw [e];exact HOK.out
        ·exact HA.out j (by omega),HB2.out⟩
      case measure=>have:=HLT.out;simp [intOf];omega
     ·have hne:(((r:Nat):Int) == ((k:Nat):Int))=false:=by simp;omega
      have htk:Hid (xA G k=6):=zFl HC.out ⟨r,by omega,hre⟩
      have hsc:Hid (yK n G=6):=by
       show _=_
       rw [hz.out,yJ (xA G) n 0 k (fun j _ hj=>HA.out j hj) (by omega) (by have:=HLT.out;omega) (by rw [htk.out];decide),htk.out]
      clear hre hrl
      go_wp2
      go_ret
      exact ⟨zD hsc.out.symm,HB2.out⟩
    ·have hsc:Hid (yK n G=zM (G k).id (G k).la (G k).ki (G k).wi (G k).n (G k).X (G k).Y (G k).lab (G k).pr):=by
      show _=_
      have h6:=zFm hc
      rw [hz.out,yJ (xA G) n 0 k (fun j _ hj=>HA.out j hj) (by omega) (by have:=HLT.out;omega) (by rw [h6];exact hc),h6]
     have hcb:(zM (G k).id (G k).la (G k).ki (G k).wi (G k).n (G k).X (G k).Y (G k).lab (G k).pr == 0)=false:=by simpa using hc
     have HB1:Hid (Bw w w1):=zA HB.out hb1
     clear hc hb1
     go_wp2
     go_ret
     exact ⟨zD hsc.out.symm,HB1.out⟩
   ·have hsc:Hid (yK n G=0):=by
     show _=_
     rw [hz.out]
     exact xR _ _ _ (fun j _ hj=>HA.out j (by omega))
    go_wp2
    go_ret
    exact ⟨zD hsc.out.symm,HB.out⟩
def zCo (f:yC):List Value:=[.int .i64 f.id,.int .i64 f.la,.int .i64 f.ki,.int .i64 f.wi,.slice f.a f.n f.cap,.string f.lab,.int .i64 f.pr]
theorem zEm (f:yC):(zCo f).length=7:=rfl
theorem zNi (f:yC):∀ v ∈ zCo f,v.oneCell'=true:=fun v hv=>by
 simp [zCo] at hv
 rcases hv with rfl | rfl | rfl | rfl | rfl | rfl | rfl <;> rfl
def xU (H:Nat→yC)(l:List Nat):List Value:=l.flatMap fun j=>zCo (H j)
theorem zAe (H:Nat→yC)(j:Nat)(l:List Nat):xU H (j :: l)=zCo (H j) ++ xU H l:=by simp [xU]
theorem zJy (H:Nat→yC)(l m:List Nat):xU H (l ++ m)=xU H l ++ xU H m:=by simp [xU]
theorem zJw (H:Nat→yC)(j:Nat):xU H [j]=zCo (H j):=by simp [xU]
theorem zJx (H:Nat→yC):∀ l:List Nat,(xU H l).length=l.length * 7
 | []=>rfl
 | j :: l=>by rw [zAe,List.length_append,zJx H l,zEm,List.length_cons];omega
theorem zCd {H H':Nat→yC}:∀ l:List Nat,(∀ j ∈ l,H j=H' j)→xU H l=xU H' l
 | [],_=>rfl
 | j :: l,h=>by rw [zAe,zAe,h j (List.mem_cons_self ..),zCd l (fun k hk=>h k (List.mem_cons_of_mem _ hk))]
theorem zNx (H:Nat→yC):∀ (l:List Nat) (i k:Nat),i<l.length→k<7→(xU H l)[i * 7+k]?=(zCo (H (l.getD i 0)))[k]?
 | [],i,k,h,_=>absurd h (by simp)
 | j :: l,0,k,h,hk=>by
  rw [zAe,Nat.zero_mul,Nat.zero_add,List.getElem?_append_left (by rw [zEm];exact hk)]
  rfl
 | j :: l,i+1,k,h,hk=>by
  rw [zAe,List.getElem?_append_right (by rw [zEm];omega),zEm]
  have e:(i+1) * 7+k - 7=i * 7+k:=by omega
  rw [e,zNx H l i k (by simpa using h) hk]
  rfl
def zEt (base:Nat)(w:World)(v:Value)(H:Nat→yC)(l:List Nat):Prop:=w.ownsRow base 138 7 v l.length (xU H l)
theorem zEt.at {base:Nat}{w:World}{v:Value}{H:Nat→yC}{l:List Nat}(h:zEt base w v H l) :
  (v=.slice none 0 0∧l=[])∨∃ g cap,v=.slice (some ⟨g,0,none⟩) l.length cap∧base≤g∧g<w.heap.size∧l.length≤cap∧zC w g (l.length * 7) ∧
   ∀ i,i<l.length→zAh w g (i * 7) (H (l.getD i 0)).id (H (l.getD i 0)).la (H (l.getD i 0)).ki (H (l.getD i 0)).wi (.slice (H (l.getD i 0)).a (H (l.getD i 0)).n (H (l.getD i 0)).cap) (H (l.getD i 0)).lab (H (l.getD i 0)).pr:=by
 obtain ⟨h1,h2 | ⟨g,cp,cur,hv,hg,hh,hkc,hcm,hcs,htk⟩⟩:=h
 ·exact .inl ⟨h2.1,by have:=h2.2;cases l with
   | nil=>rfl
   | cons=>simp at this⟩
 ·right
  have hgl:g<w.heap.size:=yV hh
  have hrow:w.ownsRow base 138 7 (.slice (some ⟨g,0,none⟩) l.length cp) l.length (xU H l):=⟨h1,.inr ⟨g,cp,cur,rfl,hg,hh,hkc,hcm,hcs,htk⟩⟩
  refine ⟨g,cp,hv,hg,hgl,hkc,fun o ho=>⟨?_,hrow.frozenAt o⟩,fun i hi=>?_⟩
  ·rw [hrow.cellAt o ho]
   have hlt:o<(xU H l).length:=by rw [zJx];exact ho
   exact ⟨(xU H l)[o],List.getElem?_eq_getElem hlt⟩
  ·have c:=fun k (hk:k<7)=>(hrow.cellAt (i * 7+k) (by omega)).trans (zNx H l i k hi hk)
   exact ⟨c 0 (by omega),c 1 (by omega),c 2 (by omega),c 3 (by omega),c 4 (by omega),c 5 (by omega),c 6 (by omega)⟩
theorem zEt.below {base:Nat}{w w':World}{v:Value}{H:Nat→yC}{l:List Nat}(h:zEt base w v H l)(hb:Below w.heap.size w w'):zEt base w' v H l:=by
 obtain ⟨h1,h2 | ⟨g,cp,cur,hv,hg,hh,hr⟩⟩:=h
 ·exact ⟨h1,.inl h2⟩
 ·exact ⟨h1,.inr ⟨g,cp,cur,hv,hg,(hb.block g (yV hh)).trans hh,hr⟩⟩
theorem yC.same_symm {f g:yC}(h:f.same g):g.same f:=by
 obtain ⟨h1,h2,h3,h4,h5,h6,h7,h8,h9⟩:=h
 exact ⟨h1.symm,h2.symm,h3.symm,h4.symm,h5.symm,h6.symm,h7.symm,h8.symm,h9.symm⟩
theorem yC.same_trans {f g h:yC}(a:f.same g)(b:g.same h):f.same h:=by
 obtain ⟨h1,h2,h3,h4,h5,h6,h7,h8,h9⟩:=a
 obtain ⟨k1,k2,k3,k4,k5,k6,k7,k8,k9⟩:=b
 exact ⟨h1.trans k1,h2.trans k2,h3.trans k3,h4.trans k4,h5.trans k5,h6.trans k6,h7.trans k7,h8.trans k8,h9.trans k9⟩
theorem zEl {n:Nat}{G:Nat→yC}(h:yK n G=0):n≤12∧zX9 (fun i=>(G i).id) n∧∀ i,i<n→zM (G i).id (G i).la (G i).ki (G i).wi (G i).n (G i).X (G i).Y (G i).lab (G i).pr=0:=by
 unfold yK at h
 by_cases h12:12<n
 ·rw [if_pos h12] at h;cases h
 ·rw [if_neg h12] at h
  have hz:=zMe _ _ _ h
  have hA:∀ i,i<n→zM (G i).id (G i).la (G i).ki (G i).wi (G i).n (G i).X (G i).Y (G i).lab (G i).pr=0∧¬ ∃ j,j<i∧(G j).id=(G i).id:=fun i hi=>by
   have:=hz i (Nat.zero_le _) (by omega)
   unfold xA at this
   by_cases hf:zM (G i).id (G i).la (G i).ki (G i).wi (G i).n (G i).X (G i).Y (G i).lab (G i).pr≠0
   ·rw [if_pos hf] at this;exact absurd this hf
   ·rw [if_neg hf] at this
    by_cases hj:∃ j,j<i∧(G j).id=(G i).id
    ·rw [if_pos hj] at this;cases this
    ·exact ⟨by simpa using hf,hj⟩
  refine ⟨by omega,fun i j hi hj e=>?_,fun i hi=>(hA i hi).1⟩
  rcases Nat.lt_trichotomy i j with h | h | h
  ·exact absurd ⟨i,h,e⟩ (hA j hj).2
  ·exact h
  ·exact absurd ⟨j,h,e.symm⟩ (hA i hi).2
theorem zW2 (a a':Option Addr)(n cap cap':Nat)(G H:Nat→yC)(w:World)(hg:zGq w a n G)(hh:zGq w a' n H)(hs:∀ i,i<n→(G i).same (H i))(hn:n≤1048576)(hk:∀ i,i<n→(H i).n≤1048576) :
  Calls Tryz.prog 56 #[.slice a n cap,.slice a' n cap'] w fun e w'=>e=.returned (.bool true)∧Bw w w':=by
 have HG:Hid (zGq w a n G):=hg
 have HH:Hid (zGq w a' n H):=hh
 have HS:Hid (∀ i,i<n→(G i).same (H i)):=hs
 have HK:Hid (∀ i,i<n→(H i).n≤1048576):=hk
 clear hg hh hs hk
 go_enter Tryz.func56,Tryz.ntmps56
 go_wp2
 go_loopw [5] (fun i wr=>∃ k:Nat,k≤n∧i=.int .i64 k∧Bw w wr) (fun i _=>n - (intOf i).toNat)
 case atStart=>exact ⟨0,by omega,rfl,Below.refl _ _⟩
 case round =>
  obtain ⟨k,hk,rfl,hB⟩:=hrel
  by_cases hlt:k<n
  ·rcases HG.out with h0 | ⟨b,off,rfl,hbl,hFG⟩
   ·omega
   rcases HH.out with h0 | ⟨d,off',rfl,hdl,hFH⟩
   ·omega
   obtain ⟨s1,s2,s3,s4,s5,s6,s7,s8,s9⟩:=HS.out k hlt
   have hnk:=HK.out k hlt
   have hGk:=hFG.below hB hbl
   have hHk:=hFH.below hB hdl
   have hblr:b<wr.heap.size:=Nat.lt_of_lt_of_le hbl hB.size
   have hdlr:d<wr.heap.size:=Nat.lt_of_lt_of_le hdl hB.size
   have c0:∀ W',Bw wr W'→W'.cell? ⟨b,off+k * 7,none⟩=some (.int .i64 (G k).id):=fun W' h=>(hGk.below h hblr k hlt).1.1
   have c1:∀ W',Bw wr W'→W'.cell? ⟨b,off+k * 7+1,none⟩=some (.int .i64 (G k).la):=fun W' h=>(hGk.below h hblr k hlt).1.2.1
   have c2:∀ W',Bw wr W'→W'.cell? ⟨b,off+k * 7+2,none⟩=some (.int .i64 (G k).ki):=fun W' h=>(hGk.below h hblr k hlt).1.2.2.1
   have c3:∀ W',Bw wr W'→W'.cell? ⟨b,off+k * 7+3,none⟩=some (.int .i64 (G k).wi):=fun W' h=>(hGk.below h hblr k hlt).1.2.2.2.1
   have c4:∀ W',Bw wr W'→W'.cell? ⟨b,off+k * 7+4,none⟩=some (.slice (G k).a (G k).n (G k).cap):=fun W' h=>(hGk.below h hblr k hlt).1.2.2.2.2.1
   have c5:∀ W',Bw wr W'→W'.cell? ⟨b,off+k * 7+5,none⟩=some (.string (G k).lab):=fun W' h=>(hGk.below h hblr k hlt).1.2.2.2.2.2.1
   have c6:∀ W',Bw wr W'→W'.cell? ⟨b,off+k * 7+6,none⟩=some (.int .i64 (G k).pr):=fun W' h=>(hGk.below h hblr k hlt).1.2.2.2.2.2.2
   have d0:∀ W',Bw wr W'→W'.cell? ⟨d,off'+k * 7,none⟩=some (.int .i64 (H k).id):=fun W' h=>(hHk.below h hdlr k hlt).1.1
   have d1:∀ W',Bw wr W'→W'.cell? ⟨d,off'+k * 7+1,none⟩=some (.int .i64 (H k).la):=fun W' h=>(hHk.below h hdlr k hlt).1.2.1
   have d2:∀ W',Bw wr W'→W'.cell? ⟨d,off'+k * 7+2,none⟩=some (.int .i64 (H k).ki):=fun W' h=>(hHk.below h hdlr k hlt).1.2.2.1
   have d3:∀ W',Bw wr W'→W'.cell? ⟨d,off'+k * 7+3,none⟩=some (.int .i64 (H k).wi):=fun W' h=>(hHk.below h hdlr k hlt).1.2.2.2.1
   have d4:∀ W',Bw wr W'→W'.cell? ⟨d,off'+k * 7+4,none⟩=some (.slice (H k).a (H k).n (H k).cap):=fun W' h=>(hHk.below h hdlr k hlt).1.2.2.2.2.1
   have d5:∀ W',Bw wr W'→W'.cell? ⟨d,off'+k * 7+5,none⟩=some (.string (H k).lab):=fun W' h=>(hHk.below h hdlr k hlt).1.2.2.2.2.2.1
   have d6:∀ W',Bw wr W'→W'.cell? ⟨d,off'+k * 7+6,none⟩=some (.int .i64 (H k).pr):=fun W' h=>(hHk.below h hdlr k hlt).1.2.2.2.2.2.2
   have hPG:=(hGk k hlt).2
   have hPH:=(hHk k hlt).2
   rw [s1] at c0;rw [s2] at c1;rw [s3] at c2;rw [s4] at c3;rw [s5] at c4;rw [s8] at c5;rw [s9] at c6
   rw [s5,s6,s7] at hPG
   have KG:Hid (xP wr (G k).a (H k).n (H k).X (H k).Y):=hPG
   have KH:Hid (xP wr (H k).a (H k).n (H k).X (H k).Y):=hPH
   have HLT:Hid (k<n):=hlt
   have HB:Hid (Bw w wr):=hB
   clear hB hFG hFH hGk hHk hPG hPH s1 s2 s3 s4 s5 s6 s7 s8 s9
   have hi:(k:Int)<(n:Int):=by omega
   have hi0:(0:Int)≤(k:Int):=by omega
   go_wp2
   go_region_held3 (fun W'=>Bw wr W') ((repeat (first|exact Qr _ _|assumption|refine Qd ?_|refine Qa ?_ _|refine Qt ?_|refine Qs ?_ _|refine Qo ?_ ?_ _ _)))
    (first
     | (go_at_call 99;refine (zIx _ _ _ _ _ _ (H k).n _ _ (H k).X (H k).Y _ _ _ (KG.out.below (by assumption)) (KH.out.below (by assumption)) hnk).mono ?_;rintro e w' ⟨rfl,hb⟩)
     | fail)
   go_wp2
   go_roundw
   case rel=>exact ⟨k+1,by have:=HLT.out;omega,by go_num,zA HB.out (by assumption)⟩
   case measure=>have:=HLT.out;simp [intOf];omega
  ·go_wp2
   go_ret
   exact ⟨rfl,hB⟩
theorem zFc (b n cap:Nat)(G:Nat→yC)(w:World)(hg:zA4 w b 0 n G)(hbl:b<w.heap.size)(hs:yM n G)(hcap:n≤cap) :
  Calls Tryz.prog 54 #[.slice (some ⟨b,0,none⟩) n cap] w fun e w'=>e=.returned (.int .i64 (yK n G))∧Bw w w':=by
 have HG:Hid (zA4 w b 0 n G):=hg
 have HS:Hid (yM n G):=hs
 have hn:=hs.1
 clear hg hs
 by_cases h12:(12:Int)<n
 ·have hz:Hid (yK n G=2):=by show _=_;unfold yK;rw [if_pos (by omega)]
  go_enter Tryz.func54,Tryz.ntmps54
  go_wp2
  go_ret
  exact ⟨zD hz.out.symm,Qb⟩
 ·have hz:Hid (yK n G=xN (xA G) 0 n):=by show _=_;unfold yK;rw [if_neg (by omega)]
  go_enter Tryz.func54,Tryz.ntmps54
  go_wp2
  go_loopw [11] (fun v wr=>∃ k:Nat,k≤n∧v=.int .i64 k∧(∀ j,j<k→xA G j=0)∧Bw w wr) (fun v _=>n - (intOf v).toNat)
  case atStart=>exact ⟨0,by omega,rfl,by omega,Below.refl _ _⟩
  case round =>
   obtain ⟨k,hk,rfl,hA,hB⟩:=hrel
   have HB:Hid (Bw w wr):=hB
   have HA:Hid (∀ j,j<k→xA G j=0):=hA
   by_cases hlt:k<n
   ·have HGr:Hid (zA4 wr b 0 n G):=HG.out.below hB hbl
    have hblr:b<wr.heap.size:=Nat.lt_of_lt_of_le hbl hB.size
    obtain ⟨⟨f0,f1,f2,f3,f4,f5,f6⟩,hP⟩:=HGr.out k hlt
    simp only [Nat.zero_add] at f0 f1 f2 f3 f4 f5 f6
    have HP:Hid (xP wr (G k).a (G k).n (G k).X (G k).Y):=hP
    obtain ⟨z1,z2⟩:=HS.out.2 k hlt
    have HLT:Hid (k<n):=hlt
    clear hB hA hP
    have hi:(k:Int)<(n:Int):=by omega
    have hi0:(0:Int)≤(k:Int):=by omega
    go_wp2_with fail
    generalize hV:(wr.alloc _:World)=V
    have hBV:Bw wr V:=by subst hV;exact Qb
    have v0:∀ W',Bw V W'→W'.cell? ⟨wr.heap.size,0,none⟩=some (.int .i64 (G k).id):=Qc hV
    clear hV
    have HBV:Hid (Bw w V):=zA HB.out hBV
    have HGV:Hid (zA4 V b 0 n G):=HGr.out.below hBV hblr
    have hblV:b<V.heap.size:=Nat.lt_of_lt_of_le hblr hBV.size
    have HPV:Hid (xP V (G k).a (G k).n (G k).X (G k).Y):=HP.out.below hBV
    clear hBV f0 f1 f2 f3 f4 f5 f6 HP HGr
    refine (zGa _ _ _ _ _ _ _ (G k).X (G k).Y _ _ _ HPV.out z2 z1).mono ?_
    rintro e w1 ⟨rfl,hb1⟩
    by_cases hc:zM (G k).id (G k).la (G k).ki (G k).wi (G k).n (G k).X (G k).Y (G k).lab (G k).pr=0
    ·rw [hc]
     have HC:Hid (zM (G k).id (G k).la (G k).ki (G k).wi (G k).n (G k).X (G k).Y (G k).lab (G k).pr=0):=hc
     have HB1:Hid (Bw V w1):=hb1
     have hr1:Bw V w1:=hb1
     clear hc hb1
     have hk0:(k:Int)≤(n:Int):=by omega
     have hkc:(k:Int)≤(cap:Int):=by omega
     by_cases hx:∃ j,j<k∧(G j).id=(G k).id
     ·have HH:Hid (∀ W',Bw V W'→Calls Tryz.prog 98 #[.slice (some ⟨b,0,none⟩) k cap,.int .i64 (G k).id] W' fun e w'=>e=.returned (.bool true)∧Below W'.heap.size W' w'):=fun W' h=>by
       refine (zNe b k cap n G (G k).id W' (Nat.le_of_lt HLT.out) (HGV.out.below h hblV) (Nat.lt_of_lt_of_le hblV h.size) (by omega)).mono ?_
       rintro e w' ⟨⟨he,_⟩ | ⟨_,hno⟩,hb⟩
       ·exact ⟨he,hb⟩
       ·obtain ⟨j,hj,hje⟩:=hx
        exact absurd hje (hno j hj)
      have htk:Hid (xA G k=6):=zFl HC.out hx
      have hsc:Hid (yK n G=6):=by
       show _=_
       rw [hz.out,yJ (xA G) n 0 k (fun j _ hj=>HA.out j hj) (by omega) (by have:=HLT.out;omega) (by rw [htk.out];decide),htk.out]
      clear hx
      go_wp2_with fail
      go_region_held3 (fun W'=>Bw V W') ((repeat (first|exact Qr _ _|assumption|refine Qd ?_|refine Qa ?_ _|refine Qt ?_|refine Qs ?_ _|refine Qo ?_ ?_ _ _)))
       (first | (go_at_call 98;refine (HH.out _ (by assumption)).mono ?_;rintro e w' ⟨rfl,hb⟩))
      go_wp2
      go_ret
      exact ⟨zD hsc.out.symm,zA HBV.out (by assumption)⟩
     ·have HH:Hid (∀ W',Bw V W'→Calls Tryz.prog 98 #[.slice (some ⟨b,0,none⟩) k cap,.int .i64 (G k).id] W' fun e w'=>e=.returned (.bool false)∧Below W'.heap.size W' w'):=fun W' h=>by
       refine (zNe b k cap n G (G k).id W' (Nat.le_of_lt HLT.out) (HGV.out.below h hblV) (Nat.lt_of_lt_of_le hblV h.size) (by omega)).mono ?_
       rintro e w' ⟨⟨_,hyes⟩ | ⟨he,_⟩,hb⟩
       ·exact absurd hyes hx
       ·exact ⟨he,hb⟩
      have HOK:Hid (xA G k=0):=zNs HC.out hx
      clear hx
      go_wp2_with fail
      go_region_held3 (fun W'=>Bw V W') ((repeat (first|exact Qr _ _|assumption|refine Qd ?_|refine Qa ?_ _|refine Qt ?_|refine Qs ?_ _|refine Qo ?_ ?_ _ _)))
       (first | (go_at_call 98;refine (HH.out _ (by assumption)).mono ?_;rintro e w' ⟨rfl,hb⟩))
      go_wp2
      go_roundw
      case rel=>exact ⟨k+1,by have:=HLT.out;omega,by go_num,fun j hj=>by
        by_cases e:j=k
        ·rw [e];exact HOK.out
        ·exact HA.out j (by omega),zA HBV.out (by assumption)⟩
      case measure=>have:=HLT.out;simp [intOf];omega
    ·have hsc:Hid (yK n G=zM (G k).id (G k).la (G k).ki (G k).wi (G k).n (G k).X (G k).Y (G k).lab (G k).pr):=by
      show _=_
      have h6:=zFm hc
      rw [hz.out,yJ (xA G) n 0 k (fun j _ hj=>HA.out j hj) (by omega) (by have:=HLT.out;omega) (by rw [h6];exact hc),h6]
     have hcb:(zM (G k).id (G k).la (G k).ki (G k).wi (G k).n (G k).X (G k).Y (G k).lab (G k).pr == 0)=false:=by simpa using hc
     have HB1:Hid (Bw w w1):=zA HBV.out hb1
     clear hc hb1
     go_wp2
     go_ret
     exact ⟨zD hsc.out.symm,HB1.out⟩
   ·have hsc:Hid (yK n G=0):=by
     show _=_
     rw [hz.out]
     exact xR _ _ _ (fun j _ hj=>HA.out j (by omega))
    go_wp2
    go_ret
    exact ⟨zD hsc.out.symm,HB.out⟩
end Go.Proofs.YtkjbafcalamgnaaGreat
