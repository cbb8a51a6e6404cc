/- Texts. -/
import Derived.Test.YtpaiholildedcaaGreatVNewViewer4
import Derived.Deep.CutBlock
import Derived.RangeFuncNested
import Derived.RangeFuncBound
import Derived.Shelf.RegionOpen
import Derived.OwnWalkIn
import Derived.LoopNIn
import Derived.LoopIn
set_option linter.unusedSimpArgs false
set_option linter.unusedVariables false
set_option maxRecDepth 100000
set_option maxHeartbeats 32000000
namespace Go.Proofs.YtpaiholildedcaaGreat
open Go.RowKit
def zBe (f:xG):List Value:=[.int .i64 f.id,.int .i64 f.la,.int .i64 f.ki,.int .i64 f.wi,.slice f.a f.n f.cap,.string f.lab,.int .i64 f.pr]
theorem zA1 (f:xG):(zBe f).length=7:=rfl
theorem zF7 (f:xG):∀ v ∈ zBe f,v.oneCell'=true:=fun v hv=>by
 simp [zBe] at hv
 rcases hv with rfl | rfl | rfl | rfl | rfl | rfl | rfl <;> rfl
def yR (H:Nat→xG)(l:List Nat):List Value:=l.flatMap fun j=>zBe (H j)
theorem vA (H:Nat→xG)(j:Nat)(l:List Nat):yR H (j :: l)=zBe (H j) ++ yR H l:=by simp [yR]
theorem zEb (H:Nat→xG)(l m:List Nat):yR H (l ++ m)=yR H l ++ yR H m:=by simp [yR]
theorem zD9 (H:Nat→xG)(j:Nat):yR H [j]=zBe (H j):=by simp [yR]
theorem zEa (H:Nat→xG):∀ l:List Nat,(yR H l).length=l.length * 7
 | []=>rfl
 | j :: l=>by rw [vA,List.length_append,zEa H l,zA1,List.length_cons];omega
theorem uL {H H':Nat→xG}:∀ l:List Nat,(∀ j ∈ l,H j=H' j)→yR H l=yR H' l
 | [],_=>rfl
 | j :: l,h=>by rw [vA,vA,h j (List.mem_cons_self ..),uL l (fun k hk=>h k (List.mem_cons_of_mem _ hk))]
theorem zGf (H:Nat→xG):∀ (l:List Nat) (i k:Nat),i<l.length→k<7→(yR H l)[i * 7+k]?=(zBe (H (l.getD i 0)))[k]?
 | [],i,k,h,_=>absurd h (by simp)
 | j :: l,0,k,h,hk=>by
  rw [vA,Nat.zero_mul,Nat.zero_add,List.getElem?_append_left (by rw [zA1];exact hk)]
  rfl
 | j :: l,i+1,k,h,hk=>by
  rw [vA,List.getElem?_append_right (by rw [zA1];omega),zA1]
  have e:(i+1) * 7+k - 7=i * 7+k:=by omega
  rw [e,zGf H l i k (by simpa using h) hk]
  rfl
def zA5 (base:Nat)(w:World)(v:Value)(H:Nat→xG)(l:List Nat):Prop:=w.ownsRow base 209 7 v l.length (yR H l)
theorem zA5.at {base:Nat}{w:World}{v:Value}{H:Nat→xG}{l:List Nat}(h:zA5 base w v H l) :
  (v=.slice none 0 0∧l=[])∨∃ g cap,v=.slice (some ⟨g,0,none⟩) l.length cap∧base≤g∧g<w.heap.size∧l.length≤cap∧zC w g (l.length * 7) ∧
   ∀ i,i<l.length→zC5 w g (i * 7) (H (l.getD i 0)).id (H (l.getD i 0)).la (H (l.getD i 0)).ki (H (l.getD i 0)).wi (.slice (H (l.getD i 0)).a (H (l.getD i 0)).n (H (l.getD i 0)).cap) (H (l.getD i 0)).lab (H (l.getD i 0)).pr:=by
 obtain ⟨h1,h2 | ⟨g,cp,cur,hv,hg,hh,hkc,hcm,hcs,htk⟩⟩:=h
 ·exact .inl ⟨h2.1,by have:=h2.2;cases l with
   | nil=>rfl
   | cons=>simp at this⟩
 ·right
  have hgl:g<w.heap.size:=zBb hh
  have hrow:w.ownsRow base 209 7 (.slice (some ⟨g,0,none⟩) l.length cp) l.length (yR H l):=⟨h1,.inr ⟨g,cp,cur,rfl,hg,hh,hkc,hcm,hcs,htk⟩⟩
  refine ⟨g,cp,hv,hg,hgl,hkc,fun o ho=>⟨?_,hrow.frozenAt o⟩,fun i hi=>?_⟩
  ·rw [hrow.cellAt o ho]
   have hlt:o<(yR H l).length:=by rw [zEa];exact ho
   exact ⟨(yR H l)[o],List.getElem?_eq_getElem hlt⟩
  ·have c:=fun k (hk:k<7)=>(hrow.cellAt (i * 7+k) (by omega)).trans (zGf H l i k hi hk)
   exact ⟨c 0 (by omega),c 1 (by omega),c 2 (by omega),c 3 (by omega),c 4 (by omega),c 5 (by omega),c 6 (by omega)⟩
theorem zA5.below {base:Nat}{w w':World}{v:Value}{H:Nat→xG}{l:List Nat}(h:zA5 base w v H l)(hb:Below w.heap.size w w'):zA5 base w' v H l:=by
 obtain ⟨h1,h2 | ⟨g,cp,cur,hv,hg,hh,hr⟩⟩:=h
 ·exact ⟨h1,.inl h2⟩
 ·exact ⟨h1,.inr ⟨g,cp,cur,hv,hg,(hb.block g (zBb hh)).trans hh,hr⟩⟩
theorem xG.same_symm {f g:xG}(h:f.same g):g.same f:=by
 obtain ⟨h1,h2,h3,h4,h5,h6,h7,h8,h9⟩:=h
 exact ⟨h1.symm,h2.symm,h3.symm,h4.symm,h5.symm,h6.symm,h7.symm,h8.symm,h9.symm⟩
theorem xG.same_trans {f g h:xG}(a:f.same g)(b:g.same h):f.same h:=by
 obtain ⟨h1,h2,h3,h4,h5,h6,h7,h8,h9⟩:=a
 obtain ⟨k1,k2,k3,k4,k5,k6,k7,k8,k9⟩:=b
 exact ⟨h1.trans k1,h2.trans k2,h3.trans k3,h4.trans k4,h5.trans k5,h6.trans k6,h7.trans k7,h8.trans k8,h9.trans k9⟩
theorem zLu (a a':Option Addr)(n cap cap':Nat)(G H:Nat→xG)(w:World)(hg:zIb w a n G)(hh:zIb w a' n H)(hs:∀ i,i<n→(G i).same (H i))(hn:n≤1048576)(hk:∀ i,i<n→(H i).n≤1048576) :
  Calls Tryz.prog 225 #[.slice a n cap,.slice a' n cap'] w fun e w'=>e=.returned (.bool true)∧Bw w w':=by
 have HG:Hid (zIb w a n G):=hg
 have HH:Hid (zIb w a' n H):=hh
 have HS:Hid (∀ i,i<n→(G i).same (H i)):=hs
 have HK:Hid (∀ i,i<n→(H i).n≤1048576):=hk
 clear hg hh hs hk
 go_enter Tryz.func225,Tryz.ntmps225
 go_wp2
 go_loopw [5] (fun i wr=>∃ k:Nat,k≤n∧i=.int .i64 k∧Bw w wr) (fun i _=>n - (intOf i).toNat)
 case atStart=>exact ⟨0,by omega,rfl,Below.refl _ _⟩
 case round =>
  obtain ⟨k,hk,rfl,hB⟩:=hrel
  by_cases hlt:k<n
  ·rcases HG.out with h0 | ⟨b,off,rfl,hbl,hFG⟩
   ·omega
   rcases HH.out with h0 | ⟨d,off',rfl,hdl,hFH⟩
   ·omega
   obtain ⟨s1,s2,s3,s4,s5,s6,s7,s8,s9⟩:=HS.out k hlt
   have hnk:=HK.out k hlt
   have hGk:=hFG.below hB hbl
   have hHk:=hFH.below hB hdl
   have hblr:b<wr.heap.size:=Nat.lt_of_lt_of_le hbl hB.size
   have hdlr:d<wr.heap.size:=Nat.lt_of_lt_of_le hdl hB.size
   have c0:∀ W',Bw wr W'→W'.cell? ⟨b,off+k * 7,none⟩=some (.int .i64 (G k).id):=fun W' h=>(hGk.below h hblr k hlt).1.1
   have c1:∀ W',Bw wr W'→W'.cell? ⟨b,off+k * 7+1,none⟩=some (.int .i64 (G k).la):=fun W' h=>(hGk.below h hblr k hlt).1.2.1
   have c2:∀ W',Bw wr W'→W'.cell? ⟨b,off+k * 7+2,none⟩=some (.int .i64 (G k).ki):=fun W' h=>(hGk.below h hblr k hlt).1.2.2.1
   have c3:∀ W',Bw wr W'→W'.cell? ⟨b,off+k * 7+3,none⟩=some (.int .i64 (G k).wi):=fun W' h=>(hGk.below h hblr k hlt).1.2.2.2.1
   have c4:∀ W',Bw wr W'→W'.cell? ⟨b,off+k * 7+4,none⟩=some (.slice (G k).a (G k).n (G k).cap):=fun W' h=>(hGk.below h hblr k hlt).1.2.2.2.2.1
   have c5:∀ W',Bw wr W'→W'.cell? ⟨b,off+k * 7+5,none⟩=some (.string (G k).lab):=fun W' h=>(hGk.below h hblr k hlt).1.2.2.2.2.2.1
   have c6:∀ W',Bw wr W'→W'.cell? ⟨b,off+k * 7+6,none⟩=some (.int .i64 (G k).pr):=fun W' h=>(hGk.below h hblr k hlt).1.2.2.2.2.2.2
   have d0:∀ W',Bw wr W'→W'.cell? ⟨d,off'+k * 7,none⟩=some (.int .i64 (H k).id):=fun W' h=>(hHk.below h hdlr k hlt).1.1
   have d1:∀ W',Bw wr W'→W'.cell? ⟨d,off'+k * 7+1,none⟩=some (.int .i64 (H k).la):=fun W' h=>(hHk.below h hdlr k hlt).1.2.1
   have d2:∀ W',Bw wr W'→W'.cell? ⟨d,off'+k * 7+2,none⟩=some (.int .i64 (H k).ki):=fun W' h=>(hHk.below h hdlr k hlt).1.2.2.1
   have d3:∀ W',Bw wr W'→W'.cell? ⟨d,off'+k * 7+3,none⟩=some (.int .i64 (H k).wi):=fun W' h=>(hHk.below h hdlr k hlt).1.2.2.2.1
   have d4:∀ W',Bw wr W'→W'.cell? ⟨d,off'+k * 7+4,none⟩=some (.slice (H k).a (H k).n (H k).cap):=fun W' h=>(hHk.below h hdlr k hlt).1.2.2.2.2.1
   have d5:∀ W',Bw wr W'→W'.cell? ⟨d,off'+k * 7+5,none⟩=some (.string (H k).lab):=fun W' h=>(hHk.below h hdlr k hlt).1.2.2.2.2.2.1
   have d6:∀ W',Bw wr W'→W'.cell? ⟨d,off'+k * 7+6,none⟩=some (.int .i64 (H k).pr):=fun W' h=>(hHk.below h hdlr k hlt).1.2.2.2.2.2.2
   have hPG:=(hGk k hlt).2
   have hPH:=(hHk k hlt).2
   rw [s1] at c0;rw [s2] at c1;rw [s3] at c2;rw [s4] at c3;rw [s5] at c4;rw [s8] at c5;rw [s9] at c6
   rw [s5,s6,s7] at hPG
   have KG:Hid (zA4 wr (G k).a (H k).n (H k).X (H k).Y):=hPG
   have KH:Hid (zA4 wr (H k).a (H k).n (H k).X (H k).Y):=hPH
   have HLT:Hid (k<n):=hlt
   have HB:Hid (Bw w wr):=hB
   clear hB hFG hFH hGk hHk hPG hPH s1 s2 s3 s4 s5 s6 s7 s8 s9
   have hi:(k:Int)<(n:Int):=by omega
   have hi0:(0:Int)≤(k:Int):=by omega
   go_wp2
   go_region_held3 (fun W'=>Bw wr W') ((repeat (first|exact Qr _ _|assumption|refine Qd ?_|refine Qa ?_ _|refine Qt ?_|refine Qs ?_ _|refine Qo ?_ ?_ _ _)))
    (first
     | (go_at_call 261;refine (zDr _ _ _ _ _ _ (H k).n _ _ (H k).X (H k).Y _ _ _ (KG.out.below (by assumption)) (KH.out.below (by assumption)) hnk).mono ?_;rintro e w' ⟨rfl,hb⟩)
     | fail)
   go_wp2
   go_roundw
   case rel=>exact ⟨k+1,by have:=HLT.out;omega,by go_num,zB HB.out (by assumption)⟩
   case measure=>have:=HLT.out;simp [intOf];omega
  ·go_wp2
   go_ret
   exact ⟨rfl,hB⟩
def zHl (w:World)(lo hi b n:Nat)(N C q:Nat→Nat):Prop :=
 (lo≤b∧b<hi∧hi≤w.heap.size)∧zC w b (n * 7) ∧
 (∀ i,i<n→(lo≤q i∧q i<hi∧q i≠b)∧zC w (q i) (N i * 2)∧w.cell? ⟨b,i * 7+4,none⟩=some (.slice (some ⟨q i,0,none⟩) (N i) (C i))) ∧
 (∀ i j,i<n→j<n→q i=q j→i=j)
theorem zHl.below {w w':World}{lo hi b n:Nat}{N C q:Nat→Nat}(h:zHl w lo hi b n N C q)(hb:Below w.heap.size w w'):zHl w' lo hi b n N C q:=by
 obtain ⟨⟨h1,h2,h3⟩,h4,h5,h6⟩:=h
 exact ⟨⟨h1,h2,Nat.le_trans h3 hb.size⟩,h4.below hb,fun i hi=>⟨(h5 i hi).1,(h5 i hi).2.1.below hb,yH hb (h5 i hi).2.2⟩,h6⟩
theorem zHl.away {w w':World}{lo hi lo' hi' b n:Nat}{N C q:Nat→Nat}(h:zHl w lo hi b n N C q)(hm:zI lo' hi' w w')(ho:hi'≤lo∨hi≤lo'):zHl w' lo hi b n N C q:=by
 obtain ⟨⟨h1,h2,h3⟩,h4,h5,h6⟩:=h
 exact ⟨⟨h1,h2,Nat.le_trans h3 hm.size⟩,hm.there h4 (by omega),fun i hi=>⟨(h5 i hi).1,hm.there (h5 i hi).2.1 (by have:=(h5 i hi).1;omega),hm.cell (h5 i hi).2.2 (by omega)⟩,h6⟩
def kS (N:Nat→Nat)(k0:Nat):Nat→Nat
 | 0=>k0
 | j+1=>kS N k0 j+6+2 * N j
theorem zLq (N:Nat→Nat)(k0 n:Nat)(h:∀ i,i<n→N i≤1048576):∀ j,j≤n→kS N k0 j≤k0+j * 2097158
 | 0,_=>by simp [kS]
 | j+1,hj=>by
  have:=zLq N k0 n h j (by omega)
  have:=h j (by omega)
  rw [kS];omega
def zAi (w:World)(b q i N C k:Nat):Prop :=
 zC5 w b (i * 7) ((k:Nat):Int) ((k+1:Nat):Int) ((k+2:Nat):Int) ((k+3:Nat):Int) (.slice (some ⟨q,0,none⟩) N C) (mTx (k+4+2 * N)) ((k+5+2 * N:Nat):Int)∧yW w q 0 N (mkX (k+4)) (mkY (k+4))
theorem zAi.below {w w':World}{b q i N C k:Nat}(h:zAi w b q i N C k)(hb:Below w.heap.size w w')(h1:b<w.heap.size)(h2:q<w.heap.size):zAi w' b q i N C k:=⟨h.1.below hb h1,h.2.below hb h2⟩
theorem zJ5 {wr w5 w6:World}{lo hi b n j k:Nat}{N C q:Nat→Nat}(hO:zHl wr lo hi b n N C q)(hj:j<n)(hg:World.grownBy ((((wr.setCell ⟨b,j * 7,none⟩ (.int .i64 (k:Nat))).setCell ⟨b,j * 7+1,none⟩ (.int .i64 ((k+1:Nat):Int))).setCell ⟨b,j * 7+2,none⟩ (.int .i64 ((k+2:Nat):Int))).setCell ⟨b,j * 7+3,none⟩ (.int .i64 ((k+3:Nat):Int))) w5 (some (q j)))(hT5:zC w5 (q j) (N j * 2))(hP5:yW w5 (q j) 0 (N j) (mkX (k+4)) (mkY (k+4)))(h56:Below w5.heap.size w5 w6){N0:Nat→Nat}{k0:Nat}(hM:∀ i,i<j→zAi wr b (q i) i (N i) (C i) (kS N0 k0 i))(hk:kS N0 k0 j=k) :
  zHl ((w6.setCell ⟨b,j * 7+5,none⟩ (.string (mTx (k+4+2 * N j)))).setCell ⟨b,j * 7+6,none⟩ (.int .i64 ((k+5+2 * N j:Nat):Int))) lo hi b n N C q ∧
  zI lo hi wr ((w6.setCell ⟨b,j * 7+5,none⟩ (.string (mTx (k+4+2 * N j)))).setCell ⟨b,j * 7+6,none⟩ (.int .i64 ((k+5+2 * N j:Nat):Int))) ∧
  ∀ i,i<j+1→zAi ((w6.setCell ⟨b,j * 7+5,none⟩ (.string (mTx (k+4+2 * N j)))).setCell ⟨b,j * 7+6,none⟩ (.int .i64 ((k+5+2 * N j:Nat):Int))) b (q i) i (N i) (C i) (kS N0 k0 i):=by
 obtain ⟨⟨h1,h2,h3⟩,hTb,hq,hinj⟩:=hO
 have ne:∀ i j:Nat,i≠j→(⟨b,i,none⟩:Addr)≠⟨b,j,none⟩:=fun i j hij h=>hij (by injection h)
 have nb:∀ (p o o':Nat),p≠b→(⟨b,o,none⟩:Addr)≠⟨p,o',none⟩:=fun p o o' hp h=>hp (by injection h with h;exact h.symm)
 obtain ⟨⟨hqj1,hqj2,hqj3⟩,hTj,hcj⟩:=hq j hj
 generalize hW4:((((wr.setCell ⟨b,j * 7,none⟩ (.int .i64 (k:Nat))).setCell ⟨b,j * 7+1,none⟩ (.int .i64 ((k+1:Nat):Int))).setCell ⟨b,j * 7+2,none⟩ (.int .i64 ((k+2:Nat):Int))).setCell ⟨b,j * 7+3,none⟩ (.int .i64 ((k+3:Nat):Int)))=W4 at hg
 have hT4:zC W4 b (n * 7):=by subst hW4;exact ((((hTb.set _ _).set _ _).set _ _).set _ _)
 have hM4:zI lo hi wr W4:=by subst hW4;exact ((((zI.refl lo hi wr).set h1 h2 _ _).set h1 h2 _ _).set h1 h2 _ _).set h1 h2 _ _
 have hT5b:zC w5 b (n * 7):=hT4.grown hg (Ne.symm hqj3)
 have hT6:zC w6 b (n * 7):=hT5b.below h56
 generalize hV:((w6.setCell ⟨b,j * 7+5,none⟩ (.string (mTx (k+4+2 * N j)))).setCell ⟨b,j * 7+6,none⟩ (.int .i64 ((k+5+2 * N j:Nat):Int)))=V
 have hTV:zC V b (n * 7):=by subst hV;exact (hT6.set _ _).set _ _
 have hMV:zI lo hi wr V:=by
  subst hV
  exact ((hM4.trans ((zI.of_grown hg hqj1 hqj2).trans (zI.of_below h56))).set h1 h2 _ _).set h1 h2 _ _
 have hkeep:∀ o v,wr.cell? ⟨b,o,none⟩=some v→(o<j * 7∨o=j * 7+4∨j * 7+6<o)→V.cell? ⟨b,o,none⟩=some v:=fun o v hv ho=>by
  have hv4:W4.cell? ⟨b,o,none⟩=some v:=by
   subst hW4
   rw [zA (ne _ _ (by omega)),zA (ne _ _ (by omega)),zA (ne _ _ (by omega)),zA (ne _ _ (by omega))]
   exact hv
  have hv6:=yH h56 (yF hg hv4 (Ne.symm hqj3))
  subst hV
  rw [zA (ne _ _ (by omega)),zA (ne _ _ (by omega))]
  exact hv6
 have hoth:∀ p,p≠b→p≠q j→∀ o v,wr.cell? ⟨p,o,none⟩=some v→V.cell? ⟨p,o,none⟩=some v:=fun p hp hpq o v hv=>by
  have hv4:W4.cell? ⟨p,o,none⟩=some v:=by
   subst hW4
   rw [zA (nb _ _ _ hp),zA (nb _ _ _ hp),zA (nb _ _ _ hp),zA (nb _ _ _ hp)]
   exact hv
  have hv6:=yH h56 (yF hg hv4 hpq)
  subst hV
  rw [zA (nb _ _ _ hp),zA (nb _ _ _ hp)]
  exact hv6
 have hpt:∀ p m X Y,p≠b→yW w6 p 0 m X Y→yW V p 0 m X Y:=fun p m X Y hp h=>by
  subst hV
  exact (h.store (Ne.symm hp)).store (Ne.symm hp)
 have hth:∀ p m,p≠b→zC w6 p m→zC V p m:=fun p m hp h=>by
  subst hV
  exact (h.store (Ne.symm hp)).store (Ne.symm hp)
 have hql:q j<w5.heap.size:=by have:=hg.size;have:=hM4.size;omega
 refine ⟨⟨⟨h1,h2,Nat.le_trans h3 hMV.size⟩,hTV,fun i hi=>⟨(hq i hi).1,?_,hkeep _ _ (hq i hi).2.2 (by omega)⟩,hinj⟩,hMV,fun i hi=>?_⟩
 ·by_cases e:i=j
  ·subst e
   exact hth _ _ hqj3 (hT5.below h56)
  ·have hne:q i≠q j:=fun h=>e (hinj i j hi hj h)
   have hne':=(hq i hi).1.2.2
   refine hth _ _ hne' ?_
   have h4:zC W4 (q i) (N i * 2):=by
    subst hW4
    exact ((((hq i hi).2.1.store (Ne.symm hne')).store (Ne.symm hne')).store (Ne.symm hne')).store (Ne.symm hne')
   exact (h4.grown hg hne).below h56
 ·by_cases e:i=j
  ·subst e
   rw [hk]
   have c4:∀ o v,W4.cell? ⟨b,o,none⟩=some v→o≠i * 7+5→o≠i * 7+6→V.cell? ⟨b,o,none⟩=some v:=fun o v hv ho ho'=>by
    have hv6:=yH h56 (yF hg hv (Ne.symm hqj3))
    subst hV
    rw [zA (ne _ _ (Ne.symm ho')),zA (ne _ _ (Ne.symm ho))]
    exact hv6
   obtain ⟨u0,g0⟩:=(hTb (i * 7) (by omega)).1
   obtain ⟨u1,g1⟩:=((hTb.set (i * 7) (.int .i64 (k:Nat))) (i * 7+1) (by omega)).1
   obtain ⟨u2,g2⟩:=(((hTb.set (i * 7) (.int .i64 (k:Nat))).set (i * 7+1) (.int .i64 ((k+1:Nat):Int))) (i * 7+2) (by omega)).1
   obtain ⟨u3,g3⟩:=((((hTb.set (i * 7) (.int .i64 (k:Nat))).set (i * 7+1) (.int .i64 ((k+1:Nat):Int))).set (i * 7+2) (.int .i64 ((k+2:Nat):Int))) (i * 7+3) (by omega)).1
   obtain ⟨u5,g5⟩:=(hT6 (i * 7+5) (by omega)).1
   obtain ⟨u6,g6⟩:=((hT6.set (i * 7+5) (.string (mTx (k+4+2 * N i)))) (i * 7+6) (by omega)).1
   refine ⟨⟨c4 _ _ ?_ (by omega) (by omega),c4 _ _ ?_ (by omega) (by omega),c4 _ _ ?_ (by omega) (by omega),c4 _ _ ?_ (by omega) (by omega),hkeep _ _ hcj (by omega),?_,?_⟩,hpt _ _ _ _ hqj3 (hP5.below h56 hql)⟩
   ·subst hW4;rw [zA (ne _ _ (by omega)),zA (ne _ _ (by omega)),zA (ne _ _ (by omega))];exact zD g0
   ·subst hW4;rw [zA (ne _ _ (by omega)),zA (ne _ _ (by omega))];exact zD g1
   ·subst hW4;rw [zA (ne _ _ (by omega))];exact zD g2
   ·subst hW4;exact zD g3
   ·subst hV;rw [zA (ne _ _ (by omega))];exact zD g5
   ·subst hV;exact zD g6
  ·have hi':i<j:=by omega
   obtain ⟨⟨m0,m1,m2,m3,m4,m5,m6⟩,mp⟩:=hM i hi'
   have hne:q i≠q j:=fun h=>e (hinj i j (by omega) hj h)
   have hne':=(hq i (by omega)).1.2.2
   refine ⟨⟨hkeep _ _ m0 (by omega),hkeep _ _ m1 (by omega),hkeep _ _ m2 (by omega),hkeep _ _ m3 (by omega),hkeep _ _ m4 (by omega),hkeep _ _ m5 (by omega),hkeep _ _ m6 (by omega)⟩,fun x hx=>?_⟩
   exact ⟨hoth _ hne' hne _ _ (mp x hx).1,hoth _ hne' hne _ _ (mp x hx).2⟩

def dblL (X Y:Nat→Int)(n:Nat):List (Int × Int):=(List.range n).map fun i=>(2 * X i,2 * Y i)
def byB (cx cy r:Int)(X Y:Nat→Int):Nat→Bool
 | 0=>false
 | k+1=>byB cx cy r X Y k || isNearB cx cy (X (k - 1)) (Y (k - 1)) (X k) (Y k) r

def coverB (ki wi z cx cy:Int)(D:List (Int × Int)):Bool:=if ki=3 then insideB cx cy D.length (px D) (py D) else byB cx cy (reachI wi z) (px D) (py D) D.length





def ltF (f g:xG):Bool:=decide (f.la<g.la) || (decide (f.la=g.la) && decide (f.id<g.id))
def ordS (n:Nat)(G:Nat→xG):Bool:=decide (∀ i,i<n - 1→ltF (G i) (G (i+1))=true)
def covF (z cx cy:Int)(f:xG):Bool:=coverB f.ki f.wi z cx cy (dblL f.X f.Y f.n)
def zMc (C:Nat→Bool)(I:Nat→Int):Nat→Int
 | 0=>0
 | n+1=>if C n=true then I n else zMc C I n
def paintF (G:Nat→xG)(n:Nat)(z x y:Int):Int:=zMc (fun i=>covF z (centI z x) (centI z y) (G i)) (fun i=>(G i).id) n
def rasK (G:Int→Int→Int)(x y:Int)(k:Nat):List Int:=(List.range k).map fun (k:Nat)=>G (x+((k % 8:Nat):Int)) (y+((k / 8:Nat):Int))
theorem zLg (G:Int→Int→Int)(x y:Int)(k:Nat):(rasK G x y k).length=k:=by simp [rasK]
noncomputable def rtC (z x y:Int)(n:Nat)(G:Nat→xG):Int:=if zB5 z x y=0 then (if zMf n G=0 then (if ordS n G=true then 0 else 1) else zMf n G) else zB5 z x y
noncomputable def rtL (z x y:Int)(n:Nat)(G:Nat→xG):List Int:=if rtC z x y n G=0 then rasK (paintF G n z) (x * 8) (y * 8) 64 else []

end Go.Proofs.YtpaiholildedcaaGreat
namespace Go.Proofs.YtpaiholildedcaaGreat
open Go.RowKit Go.Shelf
attribute [local go_sem] Oper.semAt_some
end Go.Proofs.YtpaiholildedcaaGreat
namespace Go.Proofs.YtpaiholildedcaaGreat
open Go.RowKit
end Go.Proofs.YtpaiholildedcaaGreat
namespace Go.Proofs.YtpaiholildedcaaGreat
open Go.RowKit Go.Shelf
attribute [local go_sem] Oper.semAt_some
end Go.Proofs.YtpaiholildedcaaGreat
namespace Go.Proofs.YtpaiholildedcaaGreat
open Go.RowKit


end Go.Proofs.YtpaiholildedcaaGreat
