/- Texts. -/
import Derived.Test.YtkjbafcalamgnaaGreatVZoomViewer21
import Derived.Deep.CutBlock
set_option linter.unusedSimpArgs false
set_option linter.unusedVariables false
set_option maxRecDepth 100000
set_option maxHeartbeats 32000000
namespace Go.Proofs.YtkjbafcalamgnaaGreat
open Go.RowKit
def orI (x y:Int):Int:=if x=0 then y else x
theorem zVe (b c:Nat)(x y:Int)(w:World)(h0:w.cell? ⟨b,0,none⟩=some (.int .i64 x))(h1:w.cell? ⟨b,1,none⟩=some (.int .i64 y)):Calls Tryz.prog 237 #[.slice (some ⟨b,0,none⟩) 2 c] w fun e w'=>e=.returned (.int .i64 (orI x y))∧w'=w:=by
 unfold orI
 by_cases hx:x=0
 ·subst hx
  by_cases hy:y=0
  ·subst hy
   go_enter Tryz.func237,Tryz.ntmps237
   go_wp2
   refine wp_loop_rounds 3 ?_
   rw [rounds_succ]
   go_wp2
   rw [rounds_succ]
   go_wp2
   rw [rounds_succ]
   go_wp2
   go_ret
   exact ⟨by simp,rfl⟩
  ·have hy':(y == 0)=false:=by simpa using hy
   go_enter Tryz.func237,Tryz.ntmps237
   go_wp2
   refine wp_loop_rounds 2 ?_
   rw [rounds_succ]
   go_wp2
   rw [rounds_succ]
   go_wp2
   go_ret
   exact ⟨by simp,rfl⟩
 ·have hx':(x == 0)=false:=by simpa using hx
  rw [if_neg hx]
  go_enter Tryz.func237,Tryz.ntmps237
  go_wp2
  refine wp_loop_rounds 1 ?_
  rw [rounds_succ]
  go_wp2
  go_ret
  exact ⟨rfl,rfl⟩
def cmpF (f g:yE):Int:=orI (zVg f.la g.la) (zVg f.id g.id)
theorem zDs (f g:yE)(w:World):Calls Tryz.prog 217 #[.agg (zCp f).toArray,.agg (zCp g).toArray] w fun e w'=>e=.returned (.int .i64 (cmpF f g))∧Gro w w':=by
 unfold cmpF
 generalize hA:zVg f.la g.la=A
 generalize hB:zVg f.id g.id=B
 have H1:Hid (∀ W,Calls Tryz.prog 228 #[.int .i64 f.la,.int .i64 g.la] W fun e w'=>e=.returned (.int .i64 A)∧w'=W):=fun W=>by subst hA;exact zA1 _ _ _
 have H2:Hid (∀ W,Calls Tryz.prog 228 #[.int .i64 f.id,.int .i64 g.id] W fun e w'=>e=.returned (.int .i64 B)∧w'=W):=fun W=>by subst hB;exact zA1 _ _ _
 clear hA hB
 unfold zCp
 go_enter Tryz.func217,Tryz.ntmps217
 go_wp2_with fail
 generalize hV:((w.alloc _).alloc _:World)=V
 have hB0:Gro w V:=by subst hV;exact ((Gro.refl _).alloc _).alloc _
 have c0:∀ W',Gro V W'→W'.cell? ⟨w.heap.size,0,none⟩=some (.int .i64 f.id):=fun W' h=>by
  rw [h.1.cell (by subst hV;simp <;> omega)];subst hV;simp [go_sem]
 have c1:∀ W',Gro V W'→W'.cell? ⟨w.heap.size,1,none⟩=some (.int .i64 f.la):=fun W' h=>by
  rw [h.1.cell (by subst hV;simp <;> omega)];subst hV;simp [go_sem]
 have d0:∀ W',Gro V W'→W'.cell? ⟨w.heap.size+1,0,none⟩=some (.int .i64 g.id):=fun W' h=>by
  rw [h.1.cell (by subst hV;simp <;> omega)];subst hV;simp [go_sem]
 have d1:∀ W',Gro V W'→W'.cell? ⟨w.heap.size+1,1,none⟩=some (.int .i64 g.la):=fun W' h=>by
  rw [h.1.cell (by subst hV;simp <;> omega)];subst hV;simp [go_sem]
 clear hV
 refine wp_region_noPanic ?_
 refine wp_region_held_drew (S:=fun W'=>Gro V W') (by kernel_rfl) ((Gro.refl V).drew) (fun hHeld=>?_)
 have hBd:Gro V V.drew:=hHeld
 refine zF (i:=0) (d:=some 5) rfl rfl ?_
 try simp only [Act.put,Qx,Qy,Qz]
 refine zF (i:=1) (d:=some 6) rfl rfl ?_
 try simp only [Act.put,Qx,Qy,Qz]
 refine zF (i:=2) (d:=some 7) rfl rfl ?_
 try simp only [Act.put,Qx,Qy,Qz]
 refine zF (i:=3) (d:=some 8) rfl rfl ?_
 try simp only [Act.put,Qx,Qy,Qz]
 refine zF (i:=5) (d:=some 10) rfl rfl ?_
 try simp only [Act.put,Qx,Qy,Qz]
 refine zF (i:=6) (d:=some 11) rfl rfl ?_
 try simp only [Act.put,Qx,Qy,Qz]
 refine zF (i:=7) (d:=some 12) rfl rfl ?_
 try simp only [Act.put,Qx,Qy,Qz]
 refine zF (i:=8) (d:=some 13) rfl rfl ?_
 try simp only [Act.put,Qx,Qy,Qz]
 refine zN 4 fun K hK=>?_
 go_simp
 refine (H1.out _).mono ?_
 rintro e w4 ⟨rfl,rfl⟩
 go_wp2_with fail
 refine hK.out _ _ hBd (fun hHeld=>?_)
 clear hK K
 try simp only [Act.put,Qx,Qy,Qz]
 refine zN 9 fun K hK=>?_
 go_simp
 refine (H2.out _).mono ?_
 rintro e w9 ⟨rfl,rfl⟩
 go_wp2_with fail
 refine hK.out _ _ hBd (fun hHeld=>?_)
 clear hK K
 try simp only [Act.put,Qx,Qy,Qz]
 refine zN 10 fun K hK=>?_
 go_simp
 generalize hw9:(World.alloc _ _:World)=w9
 have hb9:Gro V w9:=by subst hw9;exact (Gro.refl _).alloc _
 have g0:w9.cell? ⟨V.heap.size,0,none⟩=some (.int .i64 A):=by subst hw9;simp [go_sem]
 have g1:w9.cell? ⟨V.heap.size,1,none⟩=some (.int .i64 B):=by subst hw9;simp [go_sem]
 have hB9:Gro V w9.drew:=hb9.drew
 replace g0:w9.drew.cell? ⟨V.heap.size,0,none⟩=some (.int .i64 A):=g0
 replace g1:w9.drew.cell? ⟨V.heap.size,1,none⟩=some (.int .i64 B):=g1
 clear hw9
 refine hK.out _ _ hB9 (fun hHeld=>?_)
 clear hK K
 try simp only [Act.put,Qx,Qy,Qz]
 refine zN 11 fun K hK=>?_
 go_simp
 refine (zVe _ _ A B _ g0 g1).mono ?_
 rintro e w11 ⟨rfl,rfl⟩
 go_wp2_with fail
 refine hK.out _ _ hB9 (fun hHeld=>?_)
 clear hK K
 try simp only [Act.put,Qx,Qy,Qz]
 refine zF (i:=12) (d:=some 4) rfl rfl ?_
 try simp only [Act.put,Qx,Qy,Qz]
 refine wpAnyH_done (by kernel_rfl) ?_ _
 refine NoPanic.normal ?_
 go_wp2_with fail
 go_ret
 exact ⟨rfl,hB0.trans hB9⟩
def ltF (f g:yE):Bool:=decide (f.la<g.la) || (decide (f.la=g.la) && decide (f.id<g.id))
theorem zPg (p o p' o':Nat)(f g:yE)(w:World)(h0:w.cell? ⟨p,o,none⟩=some (.int .i64 f.id))(h1:w.cell? ⟨p,o+1,none⟩=some (.int .i64 f.la))(k0:w.cell? ⟨p',o',none⟩=some (.int .i64 g.id))(k1:w.cell? ⟨p',o'+1,none⟩=some (.int .i64 g.la)) :
  Calls Tryz.prog 190 #[.pointer (some ⟨p,o,none⟩),.pointer (some ⟨p',o',none⟩)] w fun e w'=>e=.returned (.bool (ltF f g))∧Bw w w':=by
 by_cases hx:f.la<g.la
 ·have HU:Hid (ltF f g=true):=by show _=_;simp [ltF,hx]
  go_enter Tryz.func190,Tryz.ntmps190
  go_wp2_with fail
  go_region
  go_wp2
  go_ret
  exact ⟨zI HU.out.symm,Qb⟩
 ·have hx':decide (f.la<g.la)=false:=by simpa using hx
  by_cases hy:f.la=g.la
  ·have hy':(f.la == g.la)=true:=by simpa using hy
   by_cases hz:f.id<g.id
   ·have HU:Hid (ltF f g=true):=by show _=_;simp [ltF,hy,hz]
    clear hy hx
    go_enter Tryz.func190,Tryz.ntmps190
    go_wp2_with fail
    go_region
    go_wp2
    go_ret
    exact ⟨zI HU.out.symm,Qb⟩
   ·have hz':decide (f.id<g.id)=false:=by simpa using hz
    have HU:Hid (ltF f g=false):=by show _=_;simp [ltF,hx];omega
    clear hy hx hz
    go_enter Tryz.func190,Tryz.ntmps190
    go_wp2_with fail
    go_region
    go_wp2
    go_ret
    exact ⟨zI HU.out.symm,Qb⟩
  ·have hy':(f.la == g.la)=false:=by simpa using hy
   have HU:Hid (ltF f g=false):=by show _=_;simp [ltF,hx,hy]
   clear hy hx
   go_enter Tryz.func190,Tryz.ntmps190
   go_wp2_with fail
   go_region
   go_wp2
   go_ret
   exact ⟨zI HU.out.symm,Qb⟩
def zO8 (n:Nat)(G:Nat→yE):Bool:=decide (∀ i,i<n - 1→ltF (G (i+1)) (G i)=false)
def zIl (n:Nat)(G:Nat→yE):Bool:=decide (∀ i,i<n - 1→ltF (G i) (G (i+1))=true)
theorem zXq (f g:yE):cmpF f g<0 ↔ ltF f g=true:=by
 unfold cmpF orI zVg ltF
 by_cases h1:f.la<g.la
 ·simp [h1]
 ·by_cases h2:g.la<f.la
  ·have:¬ f.la=g.la:=by omega
   simp [h1,h2,this]
  ·have:f.la=g.la:=by omega
   by_cases h3:f.id<g.id
   ·simp [h1,h2,h3,this]
   ·by_cases h4:g.id<f.id <;> simp [h1,h2,h3,h4,this]
theorem zWn {n:Nat}{G:Nat→yE}(h:zYp (fun i=>(G i).id) n):zO8 n G=zIl n G:=by
 unfold zO8 zIl
 rw [decide_eq_decide]
 refine forall_congr' fun i=>forall_congr' fun hi=>?_
 have hne:(G i).id≠(G (i+1)).id:=fun e=>by have:=h i (i+1) (by omega) (by omega) e;omega
 unfold ltF
 simp
 constructor
 ·intro ⟨h1,h2⟩
  omega
 ·intro h1
  omega
theorem zWp {n:Nat}{G:Nat→yE}(i:Nat)(hi:i+1<n)(h:ltF (G (i+1)) (G i)=true):zO8 n G=false:=by
 unfold zO8
 rw [decide_eq_false]
 intro hc
 rw [hc i (by omega)] at h
 cases h
theorem zWo {n:Nat}{G:Nat→yE}(i:Nat)(hi:i+1<n)(h:ltF (G i) (G (i+1))=false):zIl n G=false:=by
 unfold zIl
 rw [decide_eq_false]
 intro hc
 rw [hc i (by omega)] at h
 cases h
theorem zEr (f g:yE)(w:World):Calls Tryz.prog 217 #[.agg #[.int .i64 f.id,.int .i64 f.la,.int .i64 f.ki,.int .i64 f.wi,.slice f.a f.n f.cap,.string f.lab,.int .i64 f.pr],.agg #[.int .i64 g.id,.int .i64 g.la,.int .i64 g.ki,.int .i64 g.wi,.slice g.a g.n g.cap,.string g.lab,.int .i64 g.pr]] w fun e w'=>e=.returned (.int .i64 (cmpF f g))∧Bw w w' :=
 (zDs f g w).mono fun e w' ⟨he,hg⟩=>⟨he,hg.1⟩
theorem zF3 (b n cap:Nat)(G:Nat→yE)(w:World)(hg:zA5 w b 0 n G)(hbl:b<w.heap.size)(hn:n≤1048576) :
  Calls Tryz.prog 216 #[.slice (some ⟨b,0,none⟩) n cap,.func (.func 217) #[] #[]] w fun e w'=>e=.returned (.bool (zO8 n G))∧Bw w w':=by
 have HG:Hid (zA5 w b 0 n G):=hg
 clear hg
 by_cases h0:n=0
 ·subst h0
  have HV:Hid (zO8 0 G=true):=by show _=_;simp [zO8]
  go_enter Tryz.func216,Tryz.ntmps216
  go_wp2_with fail
  go_loopw [5] (fun i wr=>i=.int .i64 (-1)∧w=wr) (fun _ _=>0)
  case atStart=>exact ⟨rfl,rfl⟩
  case round =>
   obtain ⟨rfl,rfl⟩:=hrel
   go_wp2
   go_ret
   exact ⟨zI HV.out.symm,Below.refl _ _⟩
 ·obtain ⟨N,rfl⟩:∃ N,n=N+1:=⟨n - 1,by omega⟩
  have e0:IntKind.i64.wrap (((N+1:Nat):Int) - 1)=(N:Int):=by rw [show ((N+1:Nat):Int) - 1=(N:Int) by omega];exact IntWalk.i64_in _ (by omega)
  go_enter Tryz.func216,Tryz.ntmps216
  go_wp2_with fail
  go_loopw [5] (fun i wr=>∃ k:Nat,k≤N∧i=.int .i64 (k:Int)∧(∀ i,k≤i→i<N→ltF (G (i+1)) (G i)=false)∧Bw w wr) (fun i _=>(intOf i).toNat)
  case atStart=>exact ⟨N,by omega,by first | rfl | go_num | (simp;done),fun i h1 h2=>by omega,Below.refl _ _⟩
  case round =>
   obtain ⟨k,hk,rfl,hall,hB⟩:=hrel
   have HALL:Hid (∀ i,k≤i→i<N→ltF (G (i+1)) (G i)=false):=hall
   have HB:Hid (Bw w wr):=hB
   have hbr:b<wr.heap.size:=Nat.lt_of_lt_of_le hbl hB.size
   have hGr:zA5 wr b 0 (N+1) G:=HG.out.below hB hbl
   clear hall hB
   by_cases h1:k=0
   ·subst h1
    have HV:Hid (zO8 (N+1) G=true):=by
     show _=_
     unfold zO8
     rw [decide_eq_true]
     exact fun i hi=>HALL.out i (by omega) (by omega)
    go_wp2
    go_ret
    exact ⟨zI HV.out.symm,HB.out⟩
   ·obtain ⟨M,rfl⟩:∃ M,k=M+1:=⟨k - 1,by omega⟩
    have e1:IntKind.i64.wrap (((M+1:Nat):Int) - 1)=(M:Int):=by rw [show ((M+1:Nat):Int) - 1=(M:Int) by omega];exact IntWalk.i64_in _ (by omega)
    have e2:(0:Int)<((M+1:Nat):Int):=by omega
    have e3:((M+1:Nat):Int)<((N+1:Nat):Int):=by omega
    have e4:(M:Int)<((N+1:Nat):Int):=by omega
    obtain ⟨P,hP⟩:∃ P,M+1=P:=⟨_,rfl⟩
    obtain ⟨T,hT⟩:∃ T,N+1=T:=⟨_,rfl⟩
    have fa:=hGr (M+1) (by omega)
    have fd:=hGr M (by omega)
    have HOI:Hid (ltF (G (M+1)) (G M)=true→zO8 (N+1) G=false):=fun h=>zWp M (by omega) h
    have HBR:Hid (Bw w wr):=HB.out
    have HKM:Hid (M+1=P):=hP
    have HKN:Hid (N+1=T):=hT
    rw [hP] at e1 e2 e3 fa HOI
    rw [hT] at e3 e4 HOI
    rw [hT]
    rw [hP]
    have kpos:0≤(P:Int):=by omega
    have mpos:0≤(M:Int):=by omega
    have ra:∀ W',Bw wr W'→zAh W' b (0+P * 7) (G P).id (G P).la (G P).ki (G P).wi (.slice (G P).a (G P).n (G P).cap) (G P).lab (G P).pr:=fun W' h=>fa.1.below h hbr
    have rd:∀ W',Bw wr W'→zAh W' b (0+M * 7) (G M).id (G M).la (G M).ki (G M).wi (.slice (G M).a (G M).n (G M).cap) (G M).lab (G M).pr:=fun W' h=>fd.1.below h hbr
    simp only [Nat.zero_add] at ra rd
    have a0:∀ W',Bw wr W'→W'.cell? ⟨b,P * 7,none⟩=some (.int .i64 (G P).id):=fun W' h=>(ra W' h).1
    have a1:∀ W',Bw wr W'→W'.cell? ⟨b,P * 7+1,none⟩=some (.int .i64 (G P).la):=fun W' h=>(ra W' h).2.1
    have a2:∀ W',Bw wr W'→W'.cell? ⟨b,P * 7+2,none⟩=some (.int .i64 (G P).ki):=fun W' h=>(ra W' h).2.2.1
    have a3:∀ W',Bw wr W'→W'.cell? ⟨b,P * 7+3,none⟩=some (.int .i64 (G P).wi):=fun W' h=>(ra W' h).2.2.2.1
    have a4:∀ W',Bw wr W'→W'.cell? ⟨b,P * 7+4,none⟩=some (.slice (G P).a (G P).n (G P).cap):=fun W' h=>(ra W' h).2.2.2.2.1
    have a5:∀ W',Bw wr W'→W'.cell? ⟨b,P * 7+5,none⟩=some (.string (G P).lab):=fun W' h=>(ra W' h).2.2.2.2.2.1
    have a6:∀ W',Bw wr W'→W'.cell? ⟨b,P * 7+6,none⟩=some (.int .i64 (G P).pr):=fun W' h=>(ra W' h).2.2.2.2.2.2
    have d0:∀ W',Bw wr W'→W'.cell? ⟨b,M * 7,none⟩=some (.int .i64 (G M).id):=fun W' h=>(rd W' h).1
    have d1:∀ W',Bw wr W'→W'.cell? ⟨b,M * 7+1,none⟩=some (.int .i64 (G M).la):=fun W' h=>(rd W' h).2.1
    have d2:∀ W',Bw wr W'→W'.cell? ⟨b,M * 7+2,none⟩=some (.int .i64 (G M).ki):=fun W' h=>(rd W' h).2.2.1
    have d3:∀ W',Bw wr W'→W'.cell? ⟨b,M * 7+3,none⟩=some (.int .i64 (G M).wi):=fun W' h=>(rd W' h).2.2.2.1
    have d4:∀ W',Bw wr W'→W'.cell? ⟨b,M * 7+4,none⟩=some (.slice (G M).a (G M).n (G M).cap):=fun W' h=>(rd W' h).2.2.2.2.1
    have d5:∀ W',Bw wr W'→W'.cell? ⟨b,M * 7+5,none⟩=some (.string (G M).lab):=fun W' h=>(rd W' h).2.2.2.2.2.1
    have d6:∀ W',Bw wr W'→W'.cell? ⟨b,M * 7+6,none⟩=some (.int .i64 (G M).pr):=fun W' h=>(rd W' h).2.2.2.2.2.2
    clear fa fd hGr hP hT ra rd HB
    obtain ⟨C,hC⟩:∃ C,cmpF (G P) (G M)=C:=⟨_,rfl⟩
    have HCM:Hid (∀ W,Calls Tryz.prog 217 #[.agg #[.int .i64 (G P).id,.int .i64 (G P).la,.int .i64 (G P).ki,.int .i64 (G P).wi,.slice (G P).a (G P).n (G P).cap,.string (G P).lab,.int .i64 (G P).pr],.agg #[.int .i64 (G M).id,.int .i64 (G M).la,.int .i64 (G M).ki,.int .i64 (G M).wi,.slice (G M).a (G M).n (G M).cap,.string (G M).lab,.int .i64 (G M).pr]] W fun e w'=>e=.returned (.int .i64 C)∧Bw W w'):=fun W=>by rw [← hC];exact zEr (G P) (G M) W
    have HCI:Hid (C<0 ↔ ltF (G P) (G M)=true):=by show _ ↔ _;rw [← hC];exact zXq _ _
    clear hC
    by_cases hneg:C<0
    ·have HOF:Hid (zO8 T G=false):=HOI.out (HCI.out.1 hneg)
     go_wp2_with fail
     go_region_held3 (fun W'=>Bw wr W') ((repeat (first|exact Qr _ _|assumption|refine Qd ?_|refine Qa ?_ _|refine Qt ?_|refine Qs ?_ _|refine Qo ?_ ?_ _ _)))
      (first
       | (go_at_call 217;refine (HCM.out _).mono ?_;rintro e w8 ⟨rfl,hb8⟩))
     have HB8:Hid (Bw w w8):=zA HBR.out (by assumption)
     clear a0 a1 a2 a3 a4 a5 a6 d0 d1 d2 d3 d4 d5 d6
     go_wp2
     go_ret
     exact ⟨by have h:=HOF.out;rw [← HKN.out] at h;exact zI h.symm,HB8.out⟩
    ·have HOK:Hid (ltF (G P) (G M)=false):=by
      show _=_
      cases h:ltF (G P) (G M)
      ·rfl
      ·exact absurd (HCI.out.2 h) hneg
     go_wp2_with fail
     go_region_held3 (fun W'=>Bw wr W') ((repeat (first|exact Qr _ _|assumption|refine Qd ?_|refine Qa ?_ _|refine Qt ?_|refine Qs ?_ _|refine Qo ?_ ?_ _ _)))
      (first
       | (go_at_call 217;refine (HCM.out _).mono ?_;rintro e w8 ⟨rfl,hb8⟩))
     have HB8:Hid (Bw w w8):=zA HBR.out (by assumption)
     clear a0 a1 a2 a3 a4 a5 a6 d0 d1 d2 d3 d4 d5 d6
     go_wp2
     go_roundw
     case rel =>
      have h1:=HKM.out
      refine ⟨M,by omega,by first | rfl | go_num | (simp;done) | omega,fun i h2 h3=>?_,HB8.out⟩
      by_cases h4:i=M
      ·subst h4
       have:=HOK.out
       rw [← h1] at this
       exact this
      ·exact HALL.out i (by omega) h3
     case measure=>have h1:=HKM.out;simp [intOf];omega
theorem zI2 (b n cap:Nat)(G:Nat→yE)(w:World)(hg:zA5 w b 0 n G)(hbl:b<w.heap.size)(hn:n≤1048576) :
  Calls Tryz.prog 193 #[.slice (some ⟨b,0,none⟩) n cap] w fun e w'=>e=.returned (.bool (zO8 n G))∧Bw w w':=by
 have HH:Hid (Calls Tryz.prog 216 #[.slice (some ⟨b,0,none⟩) n cap,.func (.func 217) #[] #[]] w fun e w'=>e=.returned (.bool (zO8 n G))∧Bw w w'):=zF3 b n cap G w hg hbl hn
 clear hg
 obtain ⟨c,hc⟩:∃ c,zO8 n G=c:=⟨_,rfl⟩
 rw [hc] at HH
 rw [hc]
 clear hc
 go_enter Tryz.func193,Tryz.ntmps193
 go_wp2_with (go_at_call 216;refine Calls.mono HH.out ?_;rintro e w' ⟨rfl,hb⟩)
 go_ret
 exact ⟨rfl,by assumption⟩
theorem zK7 (b n cap:Nat)(G:Nat→yE)(w:World)(hg:zA5 w b 0 n G)(hbl:b<w.heap.size)(hn:n≤1048576) :
  Calls Tryz.prog 154 #[.slice (some ⟨b,0,none⟩) n cap] w fun e w'=>e=.returned (.bool (zIl n G))∧Bw w w':=by
 have HG:Hid (zA5 w b 0 n G):=hg
 clear hg
 go_enter Tryz.func154,Tryz.ntmps154
 go_wp2_with fail
 go_loopw [3] (fun i wr=>∃ k:Nat,(k+1≤n∨k=0)∧i=.int .i64 ((k:Int)+1)∧(∀ i,i<k→ltF (G i) (G (i+1))=true)∧Bw w wr) (fun i _=>n - (intOf i).toNat)
 case atStart=>exact ⟨0,.inr rfl,rfl,fun i h1=>by omega,Below.refl _ _⟩
 case round =>
  obtain ⟨M,hk,rfl,hall,hB⟩:=hrel
  have HALL:Hid (∀ i,i<M→ltF (G i) (G (i+1))=true):=hall
  have HB:Hid (Bw w wr):=hB
  have hbr:b<wr.heap.size:=Nat.lt_of_lt_of_le hbl hB.size
  have hGr:zA5 wr b 0 n G:=HG.out.below hB hbl
  clear hall hB
  obtain ⟨P,hP⟩:∃ P,M+1=P:=⟨_,rfl⟩
  have ePM:(M:Int)+1=(P:Int):=by omega
  have HKM:Hid (M+1=P):=hP
  rw [ePM]
  by_cases h1:M+1<n
  ·have fa:=hGr (M+1) h1
   have fd:=hGr M (by omega)
   have HOI:Hid (ltF (G M) (G (M+1))=false→zIl n G=false):=fun h=>zWo M h1 h
   have e1:IntKind.i64.wrap ((P:Int) - 1)=(M:Int):=by rw [show (P:Int) - 1=(M:Int) by omega];exact IntWalk.i64_in _ (by omega)
   have e3:(P:Int)<(n:Int):=by omega
   have e4:(M:Int)<(n:Int):=by omega
   rw [hP] at fa HOI
   have kpos:0≤(P:Int):=by omega
   have mpos:0≤(M:Int):=by omega
   obtain ⟨⟨a0,a1,_,_,_,_,_⟩,_⟩:=fa
   obtain ⟨⟨d0,d1,_,_,_,_,_⟩,_⟩:=fd
   simp only [Nat.zero_add] at a0 a1 d0 d1
   obtain ⟨C,hC⟩:∃ C,ltF (G M) (G P)=C:=⟨_,rfl⟩
   have HCM:Hid (∀ W,Bw wr W→Calls Tryz.prog 190 #[.pointer (some ⟨b,M * 7,none⟩),.pointer (some ⟨b,P * 7,none⟩)] W fun e w'=>e=.returned (.bool C)∧Bw W w'):=fun W h=>by
    rw [← hC]
    exact zPg b (M * 7) b (P * 7) (G M) (G P) W (zU h d0) (zU h d1) (zU h a0) (zU h a1)
   rw [hC] at HOI
   have HC:Hid (ltF (G M) (G P)=C):=hC
   clear hC a0 a1 d0 d1 hGr hP
   cases C with
   | false =>
    have HOF:Hid (zIl n G=false):=HOI.out rfl
    go_wp2_with fail
    go_region_held3 (fun W'=>Bw wr W') ((repeat (first|exact Qr _ _|assumption|refine Qd ?_|refine Qa ?_ _|refine Qt ?_|refine Qs ?_ _|refine Qo ?_ ?_ _ _)))
     (first
      | (go_at_call 190;refine (HCM.out _ (by assumption)).mono ?_;rintro e w8 ⟨rfl,hb8⟩))
    have HB8:Hid (Bw w w8):=zA HB.out (by assumption)
    go_wp2
    go_ret
    exact ⟨zI HOF.out.symm,HB8.out⟩
   | true =>
    go_wp2_with fail
    go_region_held3 (fun W'=>Bw wr W') ((repeat (first|exact Qr _ _|assumption|refine Qd ?_|refine Qa ?_ _|refine Qt ?_|refine Qs ?_ _|refine Qo ?_ ?_ _ _)))
     (first
      | (go_at_call 190;refine (HCM.out _ (by assumption)).mono ?_;rintro e w8 ⟨rfl,hb8⟩))
    have HB8:Hid (Bw w w8):=zA HB.out (by assumption)
    go_wp2
    go_roundw
    case rel =>
     have h1:=HKM.out
     refine ⟨P,by omega,by first | rfl | go_num | (simp;done) | omega,fun i h2=>?_,HB8.out⟩
     by_cases h4:i=M
     ·subst h4
      have:=HC.out
      rw [← h1] at this
      exact this
     ·exact HALL.out i (by omega)
    case measure=>have h1:=HKM.out;simp [intOf];omega
  ·have HV:Hid (zIl n G=true):=by
    show _=_
    unfold zIl
    rw [decide_eq_true]
    exact fun i hi=>HALL.out i (by omega)
   have e3:¬ (P:Int)<(n:Int):=by omega
   go_wp2
   go_ret
   exact ⟨zI HV.out.symm,HB.out⟩
def zBy (w:World)(lo hi b n:Nat)(N C q:Nat→Nat):Prop :=
 (lo≤b∧b<hi∧hi≤w.heap.size)∧zC w b (n * 7) ∧
 (∀ i,i<n→(lo≤q i∧q i<hi∧q i≠b)∧zC w (q i) (N i * 2)∧w.cell? ⟨b,i * 7+4,none⟩=some (.slice (some ⟨q i,0,none⟩) (N i) (C i))) ∧
 (∀ i j,i<n→j<n→q i=q j→i=j)
theorem zBy.below {w w':World}{lo hi b n:Nat}{N C q:Nat→Nat}(h:zBy w lo hi b n N C q)(hb:Below w.heap.size w w'):zBy w' lo hi b n N C q:=by
 obtain ⟨⟨h1,h2,h3⟩,h4,h5,h6⟩:=h
 exact ⟨⟨h1,h2,Nat.le_trans h3 hb.size⟩,h4.below hb,fun i hi=>⟨(h5 i hi).1,(h5 i hi).2.1.below hb,zU hb (h5 i hi).2.2⟩,h6⟩
theorem zBy.away {w w':World}{lo hi lo' hi' b n:Nat}{N C q:Nat→Nat}(h:zBy w lo hi b n N C q)(hm:zK lo' hi' w w')(ho:hi'≤lo∨hi≤lo'):zBy w' lo hi b n N C q:=by
 obtain ⟨⟨h1,h2,h3⟩,h4,h5,h6⟩:=h
 exact ⟨⟨h1,h2,Nat.le_trans h3 hm.size⟩,hm.there h4 (by omega),fun i hi=>⟨(h5 i hi).1,hm.there (h5 i hi).2.1 (by have:=(h5 i hi).1;omega),hm.cell (h5 i hi).2.2 (by omega)⟩,h6⟩
def kS (N:Nat→Nat)(k0:Nat):Nat→Nat
 | 0=>k0
 | j+1=>kS N k0 j+6+2 * N j
theorem zXa (N:Nat→Nat)(k0 n:Nat)(h:∀ i,i<n→N i≤1048576):∀ j,j≤n→kS N k0 j≤k0+j * 2097158
 | 0,_=>by simp [kS]
 | j+1,hj=>by
  have:=zXa N k0 n h j (by omega)
  have:=h j (by omega)
  rw [kS];omega
def zDw (w:World)(b q i N C k:Nat):Prop :=
 zAh w b (i * 7) ((k:Nat):Int) ((k+1:Nat):Int) ((k+2:Nat):Int) ((k+3:Nat):Int) (.slice (some ⟨q,0,none⟩) N C) (mTx (k+4+2 * N)) ((k+5+2 * N:Nat):Int)∧zL w q 0 N (mkX (k+4)) (mkY (k+4))
theorem zDw.below {w w':World}{b q i N C k:Nat}(h:zDw w b q i N C k)(hb:Below w.heap.size w w')(h1:b<w.heap.size)(h2:q<w.heap.size):zDw w' b q i N C k:=⟨h.1.below hb h1,h.2.below hb h2⟩
theorem zUk {wr w5 w6:World}{lo hi b n j k:Nat}{N C q:Nat→Nat}(hO:zBy wr lo hi b n N C q)(hj:j<n)(hg:World.grownBy ((((wr.setCell ⟨b,j * 7,none⟩ (.int .i64 (k:Nat))).setCell ⟨b,j * 7+1,none⟩ (.int .i64 ((k+1:Nat):Int))).setCell ⟨b,j * 7+2,none⟩ (.int .i64 ((k+2:Nat):Int))).setCell ⟨b,j * 7+3,none⟩ (.int .i64 ((k+3:Nat):Int))) w5 (some (q j)))(hT5:zC w5 (q j) (N j * 2))(hP5:zL w5 (q j) 0 (N j) (mkX (k+4)) (mkY (k+4)))(h56:Below w5.heap.size w5 w6){N0:Nat→Nat}{k0:Nat}(hM:∀ i,i<j→zDw wr b (q i) i (N i) (C i) (kS N0 k0 i))(hk:kS N0 k0 j=k) :
  zBy ((w6.setCell ⟨b,j * 7+5,none⟩ (.string (mTx (k+4+2 * N j)))).setCell ⟨b,j * 7+6,none⟩ (.int .i64 ((k+5+2 * N j:Nat):Int))) lo hi b n N C q ∧
  zK lo hi wr ((w6.setCell ⟨b,j * 7+5,none⟩ (.string (mTx (k+4+2 * N j)))).setCell ⟨b,j * 7+6,none⟩ (.int .i64 ((k+5+2 * N j:Nat):Int))) ∧
  ∀ i,i<j+1→zDw ((w6.setCell ⟨b,j * 7+5,none⟩ (.string (mTx (k+4+2 * N j)))).setCell ⟨b,j * 7+6,none⟩ (.int .i64 ((k+5+2 * N j:Nat):Int))) b (q i) i (N i) (C i) (kS N0 k0 i):=by
 obtain ⟨⟨h1,h2,h3⟩,hTb,hq,hinj⟩:=hO
 have ne:∀ i j:Nat,i≠j→(⟨b,i,none⟩:Addr)≠⟨b,j,none⟩:=fun i j hij h=>hij (by injection h)
 have nb:∀ (p o o':Nat),p≠b→(⟨b,o,none⟩:Addr)≠⟨p,o',none⟩:=fun p o o' hp h=>hp (by injection h with h;exact h.symm)
 obtain ⟨⟨hqj1,hqj2,hqj3⟩,hTj,hcj⟩:=hq j hj
 generalize hW4:((((wr.setCell ⟨b,j * 7,none⟩ (.int .i64 (k:Nat))).setCell ⟨b,j * 7+1,none⟩ (.int .i64 ((k+1:Nat):Int))).setCell ⟨b,j * 7+2,none⟩ (.int .i64 ((k+2:Nat):Int))).setCell ⟨b,j * 7+3,none⟩ (.int .i64 ((k+3:Nat):Int)))=W4 at hg
 have hT4:zC W4 b (n * 7):=by subst hW4;exact ((((hTb.set _ _).set _ _).set _ _).set _ _)
 have hM4:zK lo hi wr W4:=by subst hW4;exact ((((zK.refl lo hi wr).set h1 h2 _ _).set h1 h2 _ _).set h1 h2 _ _).set h1 h2 _ _
 have hT5b:zC w5 b (n * 7):=hT4.grown hg (Ne.symm hqj3)
 have hT6:zC w6 b (n * 7):=hT5b.below h56
 generalize hV:((w6.setCell ⟨b,j * 7+5,none⟩ (.string (mTx (k+4+2 * N j)))).setCell ⟨b,j * 7+6,none⟩ (.int .i64 ((k+5+2 * N j:Nat):Int)))=V
 have hTV:zC V b (n * 7):=by subst hV;exact (hT6.set _ _).set _ _
 have hMV:zK lo hi wr V:=by
  subst hV
  exact ((hM4.trans ((zK.of_grown hg hqj1 hqj2).trans (zK.of_below h56))).set h1 h2 _ _).set h1 h2 _ _
 have hkeep:∀ o v,wr.cell? ⟨b,o,none⟩=some v→(o<j * 7∨o=j * 7+4∨j * 7+6<o)→V.cell? ⟨b,o,none⟩=some v:=fun o v hv ho=>by
  have hv4:W4.cell? ⟨b,o,none⟩=some v:=by
   subst hW4
   rw [zB (ne _ _ (by omega)),zB (ne _ _ (by omega)),zB (ne _ _ (by omega)),zB (ne _ _ (by omega))]
   exact hv
  have hv6:=zU h56 (yY hg hv4 (Ne.symm hqj3))
  subst hV
  rw [zB (ne _ _ (by omega)),zB (ne _ _ (by omega))]
  exact hv6
 have hoth:∀ p,p≠b→p≠q j→∀ o v,wr.cell? ⟨p,o,none⟩=some v→V.cell? ⟨p,o,none⟩=some v:=fun p hp hpq o v hv=>by
  have hv4:W4.cell? ⟨p,o,none⟩=some v:=by
   subst hW4
   rw [zB (nb _ _ _ hp),zB (nb _ _ _ hp),zB (nb _ _ _ hp),zB (nb _ _ _ hp)]
   exact hv
  have hv6:=zU h56 (yY hg hv4 hpq)
  subst hV
  rw [zB (nb _ _ _ hp),zB (nb _ _ _ hp)]
  exact hv6
 have hpt:∀ p m X Y,p≠b→zL w6 p 0 m X Y→zL V p 0 m X Y:=fun p m X Y hp h=>by
  subst hV
  exact (h.store (Ne.symm hp)).store (Ne.symm hp)
 have hth:∀ p m,p≠b→zC w6 p m→zC V p m:=fun p m hp h=>by
  subst hV
  exact (h.store (Ne.symm hp)).store (Ne.symm hp)
 have hql:q j<w5.heap.size:=by have:=hg.size;have:=hM4.size;omega
 refine ⟨⟨⟨h1,h2,Nat.le_trans h3 hMV.size⟩,hTV,fun i hi=>⟨(hq i hi).1,?_,hkeep _ _ (hq i hi).2.2 (by omega)⟩,hinj⟩,hMV,fun i hi=>?_⟩
 ·by_cases e:i=j
  ·subst e
   exact hth _ _ hqj3 (hT5.below h56)
  ·have hne:q i≠q j:=fun h=>e (hinj i j hi hj h)
   have hne':=(hq i hi).1.2.2
   refine hth _ _ hne' ?_
   have h4:zC W4 (q i) (N i * 2):=by
    subst hW4
    exact ((((hq i hi).2.1.store (Ne.symm hne')).store (Ne.symm hne')).store (Ne.symm hne')).store (Ne.symm hne')
   exact (h4.grown hg hne).below h56
 ·by_cases e:i=j
  ·subst e
   rw [hk]
   have c4:∀ o v,W4.cell? ⟨b,o,none⟩=some v→o≠i * 7+5→o≠i * 7+6→V.cell? ⟨b,o,none⟩=some v:=fun o v hv ho ho'=>by
    have hv6:=zU h56 (yY hg hv (Ne.symm hqj3))
    subst hV
    rw [zB (ne _ _ (Ne.symm ho')),zB (ne _ _ (Ne.symm ho))]
    exact hv6
   obtain ⟨u0,g0⟩:=(hTb (i * 7) (by omega)).1
   obtain ⟨u1,g1⟩:=((hTb.set (i * 7) (.int .i64 (k:Nat))) (i * 7+1) (by omega)).1
   obtain ⟨u2,g2⟩:=(((hTb.set (i * 7) (.int .i64 (k:Nat))).set (i * 7+1) (.int .i64 ((k+1:Nat):Int))) (i * 7+2) (by omega)).1
   obtain ⟨u3,g3⟩:=((((hTb.set (i * 7) (.int .i64 (k:Nat))).set (i * 7+1) (.int .i64 ((k+1:Nat):Int))).set (i * 7+2) (.int .i64 ((k+2:Nat):Int))) (i * 7+3) (by omega)).1
   obtain ⟨u5,g5⟩:=(hT6 (i * 7+5) (by omega)).1
   obtain ⟨u6,g6⟩:=((hT6.set (i * 7+5) (.string (mTx (k+4+2 * N i)))) (i * 7+6) (by omega)).1
   refine ⟨⟨c4 _ _ ?_ (by omega) (by omega),c4 _ _ ?_ (by omega) (by omega),c4 _ _ ?_ (by omega) (by omega),c4 _ _ ?_ (by omega) (by omega),hkeep _ _ hcj (by omega),?_,?_⟩,hpt _ _ _ _ hqj3 (hP5.below h56 hql)⟩
   ·subst hW4;rw [zB (ne _ _ (by omega)),zB (ne _ _ (by omega)),zB (ne _ _ (by omega))];exact zE g0
   ·subst hW4;rw [zB (ne _ _ (by omega)),zB (ne _ _ (by omega))];exact zE g1
   ·subst hW4;rw [zB (ne _ _ (by omega))];exact zE g2
   ·subst hW4;exact zE g3
   ·subst hV;rw [zB (ne _ _ (by omega))];exact zE g5
   ·subst hV;exact zE g6
  ·have hi':i<j:=by omega
   obtain ⟨⟨m0,m1,m2,m3,m4,m5,m6⟩,mp⟩:=hM i hi'
   have hne:q i≠q j:=fun h=>e (hinj i j (by omega) hj h)
   have hne':=(hq i (by omega)).1.2.2
   refine ⟨⟨hkeep _ _ m0 (by omega),hkeep _ _ m1 (by omega),hkeep _ _ m2 (by omega),hkeep _ _ m3 (by omega),hkeep _ _ m4 (by omega),hkeep _ _ m5 (by omega),hkeep _ _ m6 (by omega)⟩,fun x hx=>?_⟩
   exact ⟨hoth _ hne' hne _ _ (mp x hx).1,hoth _ hne' hne _ _ (mp x hx).2⟩
def zCh (base:Nat)(w:World)(n:Nat)(G H:Nat→yE):Prop :=
 (∀ i,i<n→(H i).same (G i)∧Row base w (.slice (H i).a (H i).n (H i).cap) (vE (G i).X (G i).Y (List.range (G i).n))) ∧
 ∀ i j,i<n→j<n→(H i).a=(H j).a→i=j
theorem zMp (X Y:Nat→Int)(n:Nat):(vE X Y (List.range n)).length=n:=by simp [vE]
theorem zWk (X Y:Nat→Int)(n i:Nat)(hi:i<n):px (vE X Y (List.range n)) i=X i∧py (vE X Y (List.range n)) i=Y i:=by
 simp [px,py,vE,List.getD_eq_getElem?_getD,hi]
theorem Row.atP {base:Nat}{w:World}{a:Option Addr}{n c:Nat}{X Y:Nat→Int}(h:Row base w (.slice a n c) (vE X Y (List.range n)))(hn:0<n) :
  ∃ g,a=some ⟨g,0,none⟩∧base≤g∧g<w.heap.size∧zL w g 0 n X Y∧zC w g (n * 2):=by
 obtain ⟨a',cap',hv,hc,h0 | ⟨b,ha,hb,hl,hp,ht⟩⟩:=h.own
 ·rw [zMp] at h0;omega
 ·rw [zMp] at hp ht
  injection hv with e1 e2 e3
  refine ⟨b,e1.trans ha,hb,hl,fun i hi=>?_,ht⟩
  obtain ⟨x1,x2⟩:=zWk X Y n i hi
  have:=hp i hi
  rw [x1,x2] at this
  exact this
theorem Row.keptF {base base':Nat}{w w':World}{u v:Value}{l:List (Int × Int)}{H:Nat→yE}{m:List Nat}(h:Row base w u l)(h':zEv base' w v H m)(hg:w.grownBy w' v.ownBlock):Row base w' u l:=by
 refine World.ownsRow.kept h hg ?_
 cases hu:u.ownBlock with
 | none=>exact .inl rfl
 | some g =>
  right
  intro e
  obtain ⟨c1,h1⟩:=zAd h g hu
  obtain ⟨c2,h2⟩:=zAd h' g e.symm
  rw [h1] at h2
  injection h2 with h2
  injection h2 with _ h2
  exact absurd h2 (by decide)
theorem zF6 (b n cap:Nat)(G:Nat→yE)(w:World)(hg:zA5 w b 0 n G)(hbl:b<w.heap.size)(hn:n≤12)(hpos:∀ i,i<n→0<(G i).n)(hs:yO n G) :
  Calls Tryz.prog 204 #[.slice (some ⟨b,0,none⟩) n cap] w fun e w'=>∃ v H,e=.returned v∧zEv w.heap.size w' v H (List.range n)∧zCh w.heap.size w' n G H∧Bw w w':=by
 obtain ⟨i0,hi,hz0,hz1,hz2⟩:=info_parts zPl
 have HG:Hid (zA5 w b 0 n G):=hg
 have HPOS:Hid (∀ i,i<n→0<(G i).n):=hpos
 have HS:Hid (yO n G):=hs
 clear hg hpos hs
 go_enter Tryz.func204,Tryz.ntmps204
 go_wp2_with fail
 go_loopw [3,8] (fun v i wr=>∃ (k:Nat) (H:Nat→yE),k≤n∧i=.int .i64 (k:Int)∧zEv w.heap.size wr v H (List.range k)∧zCh w.heap.size wr k G H∧Bw w wr) (fun _ i _=>n - (intOf i).toNat)
 case atStart=>exact ⟨0,G,by omega,rfl,World.ownsRow_nil _ _ _ _,⟨fun i hi=>by omega,fun i j hi=>by omega⟩,Below.refl _ _⟩
 case round =>
  obtain ⟨k,H,hk,rfl,hO,hC,hB⟩:=hrel
  by_cases hlt:k<n
  ·have hblr:b<wr.heap.size:=Nat.lt_of_lt_of_le hbl hB.size
   obtain ⟨⟨f0,f1,f2,f3,f4,f5,f6⟩,hP⟩:=(HG.out.below hB hbl) k hlt
   simp only [Nat.zero_add] at f0 f1 f2 f3 f4 f5 f6
   have hp0:=HPOS.out k hlt
   obtain ⟨z1,z2⟩:=HS.out.2 k hlt
   obtain ⟨b',off',ha',hbl',hpt⟩:=hP.resolve_left (by omega)
   rw [ha'] at f4
   have HP:Hid (zL wr b' off' (G k).n (G k).X (G k).Y):=hpt
   have HO:Hid (zEv w.heap.size wr u3 H (List.range k)):=hO
   have HC:Hid (zCh w.heap.size wr k G H):=hC
   have HB:Hid (Bw w wr):=hB
   have HLT:Hid (k<n):=hlt
   clear hO hC hB hP hpt
   have hi':(k:Int)<(n:Int):=by omega
   go_wp2_with fail
   generalize hV:(wr.alloc _:World)=V
   have hBV:Bw wr V:=by subst hV;exact Qb
   clear hV f0 f1 f2 f3 f4 f5 f6
   have hOV:zEv w.heap.size V u3 H (List.range k):=HO.out.below hBV
   refine (zHz _ _ _ _ b' _ _ (G k).X (G k).Y _ _ V (HP.out.below hBV hbl') (Nat.lt_of_lt_of_le hbl' hBV.size) z1 z2).mono ?_
   rintro e w1 ⟨a1,c1,rfl,hR1,hb1⟩
   have hrV:Bw wr w1:=zA hBV hb1
   have HR1:Hid (Row V.heap.size w1 (.slice a1 (G k).n c1) (vE (G k).X (G k).Y (List.range (G k).n))):=hR1
   have HO1:Hid (zEv w.heap.size w1 u3 H (List.range k)):=hOV.below hb1
   have HB1:Hid (Bw w w1):=zA HB.out hrV
   have HrV:Hid (Bw wr w1):=hrV
   have hszV:=hBV.size
   have hszw:=HB.out.size
   have hsz1:=hb1.size
   clear hR1 hrV hOV hBV hb1 HO HB
   have hlenr:(List.range k).length=k:=by simp
   go_wp2_with (first
    | (at_builtin;go_must (refine wpList_append_own _ rfl _ _ 55 rfl w.heap.size 138 i0 (.agg #[.int .i64 0,.int .i64 0,.int .i64 0,.int .i64 0,.slice none 0 0,.string ⟨#[]⟩,.int .i64 0]) 7 80 Tryz.underlying55 hi hz0 hz1 hz2 rfl (by decide) u3 k (xX H (List.range k)) rfl ?c6 ⟨w1.heap.size,0,none⟩ 1 1 (zCp { G k with a:=a1,cap:=c1 }) rfl ?c0 ?c1 ?c2 ?c3 ?c4 ?c5 ?_)))
   case c6 =>
    have:=HO1.out.below (by exact Qb:Below w1.heap.size w1 (w1.alloc (.cells #[.int .i64 (G k).id,.int .i64 (G k).la,.int .i64 (G k).ki,.int .i64 (G k).wi,.slice a1 (G k).n c1,.string (G k).lab,.int .i64 (G k).pr] 138)))
    unfold zEv at this
    rw [hlenr] at this
    exact this
   case c0=>rfl
   case c1 =>
    intro q u hq
    have hq7:q<7:=(List.getElem?_eq_some_iff.1 hq).1
    have hc:q=0∨q=1∨q=2∨q=3∨q=4∨q=5∨q=6:=by omega
    rcases hc with rfl | rfl | rfl | rfl | rfl | rfl | rfl <;> (simp [zCp] at hq;subst hq;simp [Addr.add,go_sem])
   case c2=>exact zNp _
   case c3=>unfold maxLen;omega
   case c4=>omega
   case c5=>simp;omega
   intro v' w3 hown' hgrow hnil
   clear hnil
   have hO2:zEv w.heap.size (w1.alloc (.cells #[.int .i64 (G k).id,.int .i64 (G k).la,.int .i64 (G k).ki,.int .i64 (G k).wi,.slice a1 (G k).n c1,.string (G k).lab,.int .i64 (G k).pr] 138)) u3 H (List.range k):=HO1.out.below (by exact Qb)
   have hR2:=HR1.out.below (by exact Qb:Below w1.heap.size w1 (w1.alloc (.cells #[.int .i64 (G k).id,.int .i64 (G k).la,.int .i64 (G k).ki,.int .i64 (G k).wi,.slice a1 (G k).n c1,.string (G k).lab,.int .i64 (G k).pr] 138)))
   have hb2:Bw wr (w1.alloc (.cells #[.int .i64 (G k).id,.int .i64 (G k).la,.int .i64 (G k).ki,.int .i64 (G k).wi,.slice a1 (G k).n c1,.string (G k).lab,.int .i64 (G k).pr] 138)):=HrV.out.alloc (by omega) _
   obtain ⟨hC1,hC2⟩:=HC.out
   have HF:Hid (zEv w.heap.size w3 v' (fun i=>if i=k then { G k with a:=a1,cap:=c1 } else H i) (List.range (k+1))):=by
    show zEv _ _ _ _ _
    unfold zEv
    have e1:xX (fun i=>if i=k then { G k with a:=a1,cap:=c1 } else H i) (List.range (k+1))=xX H (List.range k) ++ zCp { G k with a:=a1,cap:=c1 }:=by
     rw [List.range_succ,zJ3,zJ1,if_pos rfl]
     rw [zCe (H':=H) (List.range k) (fun j hj=>by rw [if_neg];have:=List.mem_range.1 hj;omega)]
    rw [e1,List.length_range]
    exact hown'
   have HCn:Hid (zCh w.heap.size w3 (k+1) G (fun i=>if i=k then { G k with a:=a1,cap:=c1 } else H i)):=by
    show zCh _ _ _ _ _
    obtain ⟨g1,hg1,hg1',_⟩:=HR1.out.atP hp0
    refine ⟨fun i hi=>?_,fun i j hi hj e=>?_⟩
    ·by_cases e:i=k
     ·subst e
      simp only [if_pos]
      exact ⟨⟨rfl,rfl,rfl,rfl,rfl,rfl,rfl,rfl,rfl⟩,(hR2.keptF hO2 hgrow).wideB (by omega)⟩
     ·simp only [if_neg e]
      obtain ⟨s1,r1⟩:=hC1 i (by omega)
      exact ⟨s1,(r1.below hb2).keptF hO2 hgrow⟩
    ·have old:∀ i,i<k→(H i).a≠a1:=fun i hi e=>by
      obtain ⟨s1,r1⟩:=hC1 i hi
      have hnn:(H i).n=(G i).n:=s1.2.2.2.2.1
      rw [hnn] at r1
      obtain ⟨g,hg,_,hgl,_⟩:=r1.atP (HPOS.out i (by omega))
      rw [hg,hg1] at e
      injection e with e
      injection e with e
      omega
     by_cases ei:i=k <;> by_cases ej:j=k
     ·omega
     ·simp only [if_pos ei,if_neg ej] at e
      exact absurd e.symm (old j (by omega))
     ·simp only [if_neg ei,if_pos ej] at e
      exact absurd e (old i (by omega))
     ·simp only [if_neg ei,if_neg ej] at e
      exact hC2 i j (by omega) (by omega) e
   have HB3:Hid (Bw w w3):=(HB1.out.alloc (by omega) _).grown hgrow (by simp;omega) (fun g hg=>((World.ownsRow.lt (show World.ownsRow _ _ _ _ _ _ _ from hO2)) g hg).1)
   clear hown' hgrow hO2 hR2 hb2 hC1 hC2
   go_wp2
   go_roundw
   case rel=>exact ⟨k+1,_,by have:=HLT.out;omega,by go_num,HF.out,HCn.out,HB3.out⟩
   case measure=>have:=HLT.out;simp [intOf];omega
  ·go_wp2
   go_ret
   have hkn:k=n:=by omega
   subst hkn
   exact ⟨_,H,rfl,hO,hC,hB⟩
end Go.Proofs.YtkjbafcalamgnaaGreat
