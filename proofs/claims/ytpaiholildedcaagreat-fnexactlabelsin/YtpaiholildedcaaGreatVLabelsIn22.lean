/- Texts. -/
import Derived.Test.YtpaiholildedcaaGreatVLabelsIn20
set_option linter.unusedSimpArgs false
set_option linter.unusedVariables false
set_option maxRecDepth 100000
set_option maxHeartbeats 32000000
namespace Go.Proofs.YtpaiholildedcaaGreat
open Go.RowKit
def zAx (e:Plc):List Value:=[.int .i64 e.id,.int .i64 e.a,.int .i64 e.b,.int .i64 e.c,.int .i64 e.d]
def uZ (L:List Plc):List Value:=L.flatMap zAx
theorem zIo (L M:List Plc):uZ (L ++ M)=uZ L ++ uZ M:=by simp [uZ]
theorem zPi (L:List Plc):(uZ L).length=L.length * 5:=by
 induction L with
 | nil=>rfl
 | cons e L ih=>simp only [uZ,List.flatMap_cons,List.length_append,List.length_cons] at ih ⊢;rw [ih];simp [zAx];omega
theorem zIp (e:Plc):∀ u ∈ zAx e,u.oneCell'=true:=by simp [zAx,Value.oneCell']
theorem zIn:∀ (L:List Plc) (i k:Nat) (e:Plc),L[i]?=some e→k<5→(uZ L)[i * 5+k]?=(zAx e)[k]?
 | [],i,k,e,h,_=>by simp at h
 | a :: l,0,k,e,h,hk=>by
  simp at h
  subst h
  simp only [uZ,List.flatMap_cons]
  rw [Nat.zero_mul,Nat.zero_add,List.getElem?_append_left (by simp [zAx];omega)]
 | a :: l,i+1,k,e,h,hk=>by
  have h':l[i]?=some e:=by simpa using h
  simp only [uZ,List.flatMap_cons]
  rw [List.getElem?_append_right (by simp [zAx];omega)]
  have:=zIn l i k e h' hk
  simp only [uZ] at this
  rw [← this]
  congr 1
  simp [zAx]
  omega
def zAl (base:Nat)(w:World)(v:Value)(L:List Plc):Prop:=w.ownsRow base 158 5 v L.length (uZ L)
theorem zAl.below {base:Nat}{w w':World}{v:Value}{L:List Plc}(h:zAl base w v L)(hb:Below w.heap.size w w'):zAl base w' v L:=by
 obtain ⟨h1,h2 | ⟨g,cp,cur,hv,hg,hh,hr⟩⟩:=h
 ·exact ⟨h1,.inl h2⟩
 ·exact ⟨h1,.inr ⟨g,cp,cur,hv,hg,(hb.block g (yC hh)).trans hh,hr⟩⟩
def zPl:Plc:=⟨0,0,0,0,0⟩
theorem zAl.own {base:Nat}{w:World}{v:Value}{L:List Plc}(h:zAl base w v L):zAi w base v L.length (fun i=>L.getD i zPl):=by
 obtain ⟨h1,h2 | ⟨g,cp,cur,hv,hg,hh,hkc,hcm,hcs,htk⟩⟩:=id h
 ·obtain ⟨rfl,h0⟩:=h2
  exact ⟨none,0,by rw [h0],by omega,.inl h0⟩
 ·have hgl:g<w.heap.size:=(Array.getElem?_eq_some_iff.1 hh).1
  subst hv
  have hlen:(uZ L).length=L.length * 5:=zPi L
  have hc:∀ i,i<L.length→∀ k,k<5→w.cell? ⟨g,i * 5+k,none⟩=(zAx (L.getD i zPl))[k]?:=fun i hi k hk=>by
   rw [World.ownsRow.cellAt h (i * 5+k) (by omega)]
   exact zIn L i k _ (by rw [List.getD_eq_getElem?_getD,List.getElem?_eq_getElem hi];rfl) hk
  refine ⟨some ⟨g,0,none⟩,cp,rfl,hkc,.inr ⟨g,rfl,hg,hgl,fun i hi=>?_,fun o ho=>⟨?_,World.ownsRow.frozenAt h o⟩⟩⟩
  ·rw [Nat.zero_add]
   exact ⟨hc i hi 0 (by omega),hc i hi 1 (by omega),hc i hi 2 (by omega),hc i hi 3 (by omega),hc i hi 4 (by omega)⟩
  ·rw [World.ownsRow.cellAt h o (by omega)]
   exact ⟨_,List.getElem?_eq_getElem (by omega)⟩
def vB (x y wd ht:Int)(e:Plc):Bool:=!(e.c == 0) && (inB e.a x (x+wd - 1) && inB e.b y (y+ht - 1))
def zB2 (x y wd ht:Int)(B:Nat→Plc)(L:List Plc)(i:Nat):List Plc:=if vB x y wd ht (B i)=true then (if L.all (fun e=>!ovB e (B i))=true then L ++ [B i] else L) else L
def uN (x y wd ht:Int)(B:Nat→Plc)(l:List Nat):List Plc:=l.foldl (zB2 x y wd ht B) []
theorem zO4 (x y wd ht:Int)(B:Nat→Plc)(L:List Plc)(i:Nat):(zB2 x y wd ht B L i).length≤L.length+1:=by
 unfold zB2
 split
 ·split
  ·simp
  ·omega
 ·omega
theorem zDy (x y wd ht:Int)(B:Nat→Plc)(l:List Nat)(k:Nat)(hk:k<l.length):uN x y wd ht B (l.take (k+1))=zB2 x y wd ht B (uN x y wd ht B (l.take k)) (l.getD k 0):=by
 unfold uN
 rw [List.take_add_one,List.foldl_append]
 simp [hk]
theorem zB7 (x y wd ht:Int)(B:Nat→Plc)(l:List Nat):∀ k,(uN x y wd ht B (l.take k)).length≤k
 | 0=>by simp [uN]
 | k+1=>by
  by_cases h:k<l.length
  ·rw [zDy _ _ _ _ _ _ _ h]
   have:=zO4 x y wd ht B (uN x y wd ht B (l.take k)) (l.getD k 0)
   have:=zB7 x y wd ht B l k
   omega
  ·have e:l.take (k+1)=l.take k:=by rw [List.take_of_length_le (by omega),List.take_of_length_le (by omega)]
   rw [e]
   have:=zB7 x y wd ht B l k
   omega
def lbB (z:Int)(G:Nat→zS)(i:Nat):Plc:=lbF (G i).id (G i).lab (zCh z ((G i).X 0)) (zCh z ((G i).Y 0))
theorem yG.fat {base g n c:Nat}{w:World}{G:Nat→zS}{l:List Nat}(h:yG base w (.slice (some ⟨g,0,none⟩) n c) G l)(hl:l.length=n)(i:Nat)(hi:i<n):yJ w g (i * 7) (G (l.getD i 0)).id (G (l.getD i 0)).la (G (l.getD i 0)).ki (G (l.getD i 0)).wi (.slice (G (l.getD i 0)).a (G (l.getD i 0)).n (G (l.getD i 0)).cap) (G (l.getD i 0)).lab (G (l.getD i 0)).pr:=by
 rcases h.at with ⟨hv,_⟩ | ⟨g',c',hv,_,_,_,_,hF'⟩
 ·cases hv
 ·injection hv with e1 e2 e3
  injection e1 with e1
  injection e1 with e1
  subst e1
  exact hF' i (by rw [hl];exact hi)
theorem uD {w w':World}{b:Nat}{z x y wd ht:Int}(h:zAo w b z x y wd ht)(hb:Below w.heap.size w w'):zAo w' b z x y wd ht:=by
 obtain ⟨h0,h1,h2,h3,h4⟩:=h
 exact ⟨zH hb h0,zH hb h1,zH hb h2,zH hb h3,zH hb h4⟩
theorem zIq {W:World}{r:Nat}{e:Plc}(hT:zD W r 5):zAf (((((W.setCell ⟨r,0,none⟩ (.int .i64 e.id)).setCell ⟨r,1,none⟩ (.int .i64 e.a)).setCell ⟨r,2,none⟩ (.int .i64 e.b)).setCell ⟨r,3,none⟩ (.int .i64 e.c)).setCell ⟨r,4,none⟩ (.int .i64 e.d)) r 0 e:=by
 obtain ⟨u0,h0⟩:=(hT 0 (by omega)).1
 obtain ⟨u1,h1⟩:=(hT 1 (by omega)).1
 obtain ⟨u2,h2⟩:=(hT 2 (by omega)).1
 obtain ⟨u3,h3⟩:=(hT 3 (by omega)).1
 obtain ⟨u4,h4⟩:=(hT 4 (by omega)).1
 have ne:∀ i j:Nat,i≠j→(⟨r,i,none⟩:Addr)≠⟨r,j,none⟩:=fun i j hij h=>hij (by injection h)
 refine ⟨?_,?_,?_,?_,?_⟩
 ·rw [zB (ne 4 0 (by omega)),zB (ne 3 0 (by omega)),zB (ne 2 0 (by omega)),zB (ne 1 0 (by omega))];exact zG h0
 ·show World.cell? _ ⟨r,1,none⟩=_
  rw [zB (ne 4 1 (by omega)),zB (ne 3 1 (by omega)),zB (ne 2 1 (by omega))];exact zG (by rw [zB (ne 0 1 (by omega))];exact h1)
 ·show World.cell? _ ⟨r,2,none⟩=_
  rw [zB (ne 4 2 (by omega)),zB (ne 3 2 (by omega))];exact zG (by rw [zB (ne 1 2 (by omega)),zB (ne 0 2 (by omega))];exact h2)
 ·show World.cell? _ ⟨r,3,none⟩=_
  rw [zB (ne 4 3 (by omega))];exact zG (by rw [zB (ne 2 3 (by omega)),zB (ne 1 3 (by omega)),zB (ne 0 3 (by omega))];exact h3)
 ·show World.cell? _ ⟨r,4,none⟩=_
  exact zG (by rw [zB (ne 3 4 (by omega)),zB (ne 2 4 (by omega)),zB (ne 1 4 (by omega)),zB (ne 0 4 (by omega))];exact h4)
theorem zI7 (b n cap q:Nat)(G:Nat→zS)(z x y wd ht:Int)(w:World)(hg:vY w b 0 n G)(hbl:b<w.heap.size)(hn:n≤1000)(hc:zAo w q z x y wd ht)(hz:yH z=true)(hw:zBy z x y wd ht=true)(hpt:∀ i,i<n→0<(G i).n∧inW ((G i).X 0) ((G i).Y 0)=true∧(G i).lab.size≤1048576) :
  Calls Tryz.prog 102 #[.slice (some ⟨b,0,none⟩) n cap,.pointer (some ⟨q,0,none⟩)] w fun e w'=>∃ v,e=.returned v∧zAl w.heap.size w' v (uN x y wd ht (lbB z G) (zY n G))∧Bw w w':=by
 obtain ⟨i0,hi,hz0,hz1,hz2⟩:=info_parts zP8
 have HG:Hid (vY w b 0 n G):=hg
 have HC:Hid (zAo w q z x y wd ht):=hc
 have HP:Hid (∀ i,i<n→0<(G i).n∧inW ((G i).X 0) ((G i).Y 0)=true∧(G i).lab.size≤1048576):=hpt
 have hlen:(zY n G).length=n:=zB3 _ _ _
 obtain ⟨⟨⟨w1,w2⟩,w3,w4⟩,⟨x1,x2⟩,y1,y2⟩:=zAd hw
 have hpx:=xJ hz
 have hx8:IntKind.i64.wrap (x+wd)=x+wd:=IntWalk.i64_in _ (by omega)
 have hx9:IntKind.i64.wrap (x+wd - 1)=x+wd - 1:=IntWalk.i64_in _ (by omega)
 have hy8:IntKind.i64.wrap (y+ht)=y+ht:=IntWalk.i64_in _ (by omega)
 have hy9:IntKind.i64.wrap (y+ht - 1)=y+ht - 1:=IntWalk.i64_in _ (by omega)
 have HZ:Hid (yH z=true):=hz
 clear hg hc hpt w1 w2 w3 w4 x1 x2 y1 y2 hpx hw hz
 have HRk:Hid (∀ W,Bw w W→Calls Tryz.prog 151 #[.slice (some ⟨b,0,none⟩) n cap] W fun e w'=>∃ g c,e=.returned (.slice (some ⟨g,0,none⟩) n c)∧yG W.heap.size w' (.slice (some ⟨g,0,none⟩) n c) G (zY n G)∧Bw W w'):=fun W h=>zK9 b n cap G W (HG.out.below h hbl) (Nat.lt_of_lt_of_le hbl h.size) hn
 go_enter Tryz.func102,Tryz.ntmps102
 go_wp2_with fail
 generalize hW:(w.alloc _:World)=W
 have HB0:Hid (Bw w W):=by show Below _ _ _;subst hW;exact Qb
 have HO0:Hid (zAl w.heap.size W (.slice (some ⟨w.heap.size,0,none⟩) 0 0) []):=by
  show zAl _ _ _ _
  subst hW
  exact World.ownsRow_lit (base:=w.heap.size) w #[] 0 (Nat.le_refl _) (Nat.zero_le _) rfl
 clear hW
 refine Calls.mono (HRk.out _ HB0.out) ?_
 rintro e wk ⟨g,c,rfl,hF,hbk⟩
 have HF:Hid (yG W.heap.size wk (.slice (some ⟨g,0,none⟩) n c) G (zY n G)):=hF
 have HOk:Hid (zAl w.heap.size wk (.slice (some ⟨w.heap.size,0,none⟩) 0 0) []):=HO0.out.below hbk
 have HBk:Hid (Bw w wk):=zA HB0.out hbk
 have hWs:=HB0.out.size
 clear hF hbk HRk HO0
 go_wp2_with fail
 go_loopw [5,7] (fun v i wr=>∃ k:Nat,k≤n∧i=.int .i64 (k:Int)∧(∃ a c',v=.slice a (uN x y wd ht (lbB z G) ((zY n G).take k)).length c')∧zAl w.heap.size wr v (uN x y wd ht (lbB z G) ((zY n G).take k))∧yG W.heap.size wr (.slice (some ⟨g,0,none⟩) n c) G (zY n G)∧Bw w wr) (fun _ i _=>n - (intOf i).toNat)
 case atStart=>exact ⟨0,by omega,rfl,⟨_,_,rfl⟩,by simpa [uN] using HOk.out,HF.out,HBk.out⟩
 case round =>
  obtain ⟨k,hk,rfl,⟨a,c',rfl⟩,hO,hF,hB⟩:=hrel
  have HO:Hid (zAl w.heap.size wr (.slice a (uN x y wd ht (lbB z G) ((zY n G).take k)).length c') (uN x y wd ht (lbB z G) ((zY n G).take k))):=hO
  have HB:Hid (Bw w wr):=hB
  have HFr:Hid (yG W.heap.size wr (.slice (some ⟨g,0,none⟩) n c) G (zY n G)):=hF
  have hml:=zB7 x y wd ht (lbB z G) (zY n G) k
  clear hO hB hF HOk HF
  by_cases hlt:k<n
  ·have HLT:Hid (k<n):=hlt
   have HSc:Hid (uN x y wd ht (lbB z G) ((zY n G).take (k+1))=zB2 x y wd ht (lbB z G) (uN x y wd ht (lbB z G) ((zY n G).take k)) ((zY n G).getD k 0)):=zDy x y wd ht (lbB z G) (zY n G) k (by omega)
   have hIn:=srtL_lt n G k hlt
   have hAT:=HFr.out.fat hlen k hlt
   have hgk:g<wr.heap.size:=(World.ownsRow.lt HFr.out g rfl).2
   obtain ⟨I,hI⟩:∃ I,(zY n G).getD k 0=I:=⟨_,rfl⟩
   rw [hI] at HSc hIn hAT
   obtain ⟨L,hL⟩:∃ L,uN x y wd ht (lbB z G) ((zY n G).take k)=L:=⟨_,rfl⟩
   rw [hL] at HO HSc hml
   rw [hL]
   clear hL hI
   obtain ⟨hp0,hpin,hpl⟩:=HP.out I hIn
   obtain ⟨b',off',ha',hbl',hpt⟩:=(HG.out I hIn).2.resolve_left (by omega)
   rw [ha'] at hAT
   have HBw:=HB
   have HBox:Hid (∀ W',Bw wr W'→Calls Tryz.prog 152 #[.pointer (some ⟨g,k * 7,none⟩),.int .i64 z] W' fun e w'=>e=.returned (zL2 (lbB z G I))∧Below W'.heap.size W' w'):=fun W' h =>
    zNu g (G I).id (G I).la (G I).ki (G I).wi z b' (G I).n (G I).cap (G I).X (G I).Y (G I).lab (G I).pr W' (hAT.below h hgk) (hpt.below (zA HBw.out h) hbl') (Nat.lt_of_lt_of_le hbl' (zA HBw.out h).size) hp0 hpin HZ.out hpl
   have HCr:Hid (zAo wr q z x y wd ht):=uD HC.out HBw.out
   have hi':(k:Int)<(n:Int):=by omega
   have hi0:(0:Int)≤(k:Int):=by omega
   clear hAT hpt hp0 hpin hpl ha' hlt
   generalize wr=wA at *
   have cz:∀ W',Bw wA W'→W'.cell? ⟨q,0,none⟩=some (.int .i64 z):=fun W' h=>(uD HCr.out h).1
   go_upto_region 6 with fail
   go_cut [8] from 14 to 89 (fun t wx=>∃ qb,t=.pointer (some ⟨qb,0,none⟩)∧wA.heap.size≤qb∧zAf wx qb 0 (lbB z G I)∧Bw wA wx)
   case first =>
    refine wp_region_noPanic ?_
    refine wp_region_held_drew (S:=fun W'=>Bw wA W') (by kernel_rfl) (by have:=Below.refl wA.heap.size wA;exact Qb) (fun hHeld=>?_)
    have hX0:Bw wA wA.drew:=hHeld
    refine zC (i:=0) (d:=some 20) rfl rfl ?_
    try simp only [Act.put,Qx,Qy,Qz]
    refine zC (i:=1) (d:=some 21) rfl rfl ?_
    try simp only [Act.put,Qx,Qy,Qz]
    refine zC (i:=2) (d:=some 22) rfl rfl ?_
    try simp only [Act.put,Qx,Qy,Qz]
    refine zC (i:=3) (d:=some 23) rfl rfl ?_
    try simp only [Act.put,Qx,Qy,Qz]
    refine zC (i:=4) (d:=some 24) rfl rfl ?_
    try simp only [Act.put,Qx,Qy,Qz]
    refine zC (i:=5) (d:=some 25) rfl rfl ?_
    try simp only [Act.put,Qx,Qy,Qz]
    refine zC (i:=6) (d:=some 26) rfl rfl ?_
    try simp only [Act.put,Qx,Qy,Qz]
    generalize wA.drew=wk0 at *
    refine wpAnyH_ready (rs:=[7,8]) (by kernel_rfl) (by simp) ?_
    refine (AllReadyH.cons rfl (fun K hK=>?_) (AllReadyH.cons rfl (fun K hK=>?_) AllReadyH.nil))
    ·rw [if_pos (by rfl)]
     go_simp
     refine Calls.mono (HBox.out _ hX0) ?_
     rintro e wa1 ⟨rfl,hba⟩
     have hXa:Bw wA wa1:=zA hX0 hba
     go_wp2_with fail
     refine hK.out _ _ hXa (fun hHeld=>?_)
     clear hK K
     try simp only [Act.put,Qx,Qy,Qz]
     refine zN 8 fun K hK=>?_
     rw [if_pos (by rfl)]
     go_simp
     generalize hwE:(World.alloc _ _:World)=wa2
     have hbE:Bw wa1 wa2:=by subst hwE;exact Qb
     have hTE:zD wa2 wa1.heap.size 5:=by subst hwE;exact zGr _ _ _ _ _ _ _
     clear hwE
     have hXb:Bw wA wa2:=zA hXa hbE
     have hsE:wA.heap.size≤wa1.heap.size:=hXa.size
     refine hK.out _ _ hXb (fun hHeld=>?_)
     clear hK K
     try simp only [Act.put,Qx,Qy,Qz]
     refine zN 9 fun K hK=>?_
     rw [if_pos (by rfl)]
     have t0:=hTE.cell 0 (by omega)
     have f0:=(hTE 0 (by omega)).2
     have t1:=hTE.cell 1 (by omega)
     have f1:=(hTE 1 (by omega)).2
     have t2:=hTE.cell 2 (by omega)
     have f2:=(hTE 2 (by omega)).2
     have t3:=hTE.cell 3 (by omega)
     have f3:=(hTE 3 (by omega)).2
     have t4:=hTE.cell 4 (by omega)
     have f4:=(hTE 4 (by omega)).2
     go_simp
     refine hK.out _ _ (((((hXb.setCell hsE _).setCell hsE _).setCell hsE _).setCell hsE _).setCell hsE _) (fun hHeld=>?_)
     clear hK K
     try simp only [Act.put,Qx,Qy,Qz]
     have hPA:=zIq (e:=lbB z G I) hTE
     refine wpAnyH_done (by kernel_rfl) ?_ _
     refine NoPanic.normal ?_
     go_wp2_with fail
     go_meet
     case rel=>exact ⟨_,rfl,hsE,hPA,by assumption⟩
    ·rw [if_pos (by rfl)]
     go_simp
     generalize hwE:(World.alloc _ _:World)=wa1
     have hbE:Bw wk0 wa1:=by subst hwE;exact Qb
     have hTE:zD wa1 wk0.heap.size 5:=by subst hwE;exact zGr _ _ _ _ _ _ _
     clear hwE
     have hXa:Bw wA wa1:=zA hX0 hbE
     have hsE:wA.heap.size≤wk0.heap.size:=hX0.size
     refine hK.out _ _ hXa (fun hHeld=>?_)
     clear hK K
     try simp only [Act.put,Qx,Qy,Qz]
     refine zN 7 fun K hK=>?_
     rw [if_pos (by rfl)]
     go_simp
     refine Calls.mono (HBox.out _ hXa) ?_
     rintro e wa2 ⟨rfl,hba⟩
     have hXb:Bw wA wa2:=zA hXa hba
     have hTF:=zD.below hTE hba
     go_wp2_with fail
     refine hK.out _ _ hXb (fun hHeld=>?_)
     clear hK K
     try simp only [Act.put,Qx,Qy,Qz]
     refine zN 9 fun K hK=>?_
     rw [if_pos (by rfl)]
     have t0:=hTF.cell 0 (by omega)
     have f0:=(hTF 0 (by omega)).2
     have t1:=hTF.cell 1 (by omega)
     have f1:=(hTF 1 (by omega)).2
     have t2:=hTF.cell 2 (by omega)
     have f2:=(hTF 2 (by omega)).2
     have t3:=hTF.cell 3 (by omega)
     have f3:=(hTF 3 (by omega)).2
     have t4:=hTF.cell 4 (by omega)
     have f4:=(hTF 4 (by omega)).2
     go_simp
     refine hK.out _ _ (((((hXb.setCell hsE _).setCell hsE _).setCell hsE _).setCell hsE _).setCell hsE _) (fun hHeld=>?_)
     clear hK K
     try simp only [Act.put,Qx,Qy,Qz]
     have hPA:=zIq (e:=lbB z G I) hTF
     refine wpAnyH_done (by kernel_rfl) ?_ _
     refine NoPanic.normal ?_
     go_wp2_with fail
     go_meet
     case rel=>exact ⟨_,rfl,hsE,hPA,by assumption⟩
   obtain ⟨qb,rfl,hqb,hPA,hBx⟩:=hcut
   generalize wc=wx at *
   clear hqb
   have HPA:Hid (zAf wx qb 0 (lbB z G I)):=hPA
   have HCx:Hid (zAo wx q z x y wd ht):=uD HCr.out hBx
   have HOx:Hid (zAl w.heap.size wx (.slice a L.length c') L):=HO.out.below hBx
   have HBx:Hid (Bw w wx):=zA HB.out hBx
   have HFx:Hid (yG W.heap.size wx (.slice (some ⟨g,0,none⟩) n c) G (zY n G)):=HFr.out.below hBx
   have hqw:q<wx.heap.size:=World.block_lt_of_cell? _ _ HCx.out.1
   have hqbw:qb<wx.heap.size:=World.block_lt_of_cell? _ _ hPA.1
   clear hPA hBx HCr HO HB HBox cz HBw HFr
   obtain ⟨E,hE⟩:∃ E,lbB z G I=E:=⟨_,rfl⟩
   have HE:=(show Hid _ from hE)
   rw [hE] at HPA
   clear hE
   go_upto_region 7 with fail
   go_cut [70] from 14 to 89 (fun t wq=>t=.bool (!(vB x y wd ht E))∧Bw wx wq)
   case first =>
    have p1:∀ W',Bw wx W'→W'.cell? ⟨qb,1,none⟩=some (.int .i64 E.a):=fun W' h=>zH h HPA.out.2.1
    have p2:∀ W',Bw wx W'→W'.cell? ⟨qb,2,none⟩=some (.int .i64 E.b):=fun W' h=>zH h HPA.out.2.2.1
    have p3:∀ W',Bw wx W'→W'.cell? ⟨qb,3,none⟩=some (.int .i64 E.c):=fun W' h=>zH h HPA.out.2.2.2.1
    have c1:∀ W',Bw wx W'→W'.cell? ⟨q,1,none⟩=some (.int .i64 x):=fun W' h=>zH h HCx.out.2.1
    have c2:∀ W',Bw wx W'→W'.cell? ⟨q,2,none⟩=some (.int .i64 y):=fun W' h=>zH h HCx.out.2.2.1
    have c3:∀ W',Bw wx W'→W'.cell? ⟨q,3,none⟩=some (.int .i64 wd):=fun W' h=>zH h HCx.out.2.2.2.1
    have c4:∀ W',Bw wx W'→W'.cell? ⟨q,4,none⟩=some (.int .i64 ht):=fun W' h=>zH h HCx.out.2.2.2.2
    have HOK:Hid (vB x y wd ht E=(!(E.c == 0) && (inB E.a x (x+wd - 1) && inB E.b y (y+ht - 1)))):=rfl
    have sA:=fun w=>zO E.a x (x+wd - 1) w
    have sB:=fun w=>zO E.b y (y+ht - 1) w
    generalize inB E.a x (x+wd - 1)=bA at *
    generalize inB E.b y (y+ht - 1)=bB at *
    cases hE:(E.c == 0)
    case true =>
     rw [hE] at HOK
     refine wp_region_noPanic ?_
     refine wp_region_held_drew (S:=fun W'=>Bw wx W') (by kernel_rfl) (by have:=Below.refl wx.heap.size wx;exact Qb) (fun hHeld=>?_)
     have hX0t:Bw wx wx.drew:=hHeld
     refine zC (i:=0) (d:=some 28) rfl rfl ?_
     try simp only [Act.put,Qx,Qy,Qz]
     refine zC (i:=1) (d:=some 29) rfl rfl ?_
     try simp only [Act.put,Qx,Qy,Qz]
     refine zC (i:=2) (d:=some 30) rfl rfl ?_
     try simp only [Act.put,Qx,Qy,Qz]
     refine zC (i:=3) (d:=some 31) rfl rfl ?_
     try simp only [Act.put,Qx,Qy,Qz]
     refine zJ (i:=4) (d:=some 32) rfl rfl (by rfl) (by assumption) ?_
     try simp only [Act.put,Qx,Qy,Qz]
     refine zJ (i:=5) (d:=some 33) rfl rfl (by rfl) (by assumption) ?_
     try simp only [Act.put,Qx,Qy,Qz]
     refine zJ (i:=6) (d:=some 34) rfl rfl (by rfl) (by assumption) ?_
     try simp only [Act.put,Qx,Qy,Qz]
     refine zJ (i:=7) (d:=some 35) rfl rfl (by rfl) (by assumption) ?_
     try simp only [Act.put,Qx,Qy,Qz]
     refine zJ (i:=8) (d:=some 36) rfl rfl (by rfl) (by assumption) ?_
     try simp only [Act.put,Qx,Qy,Qz]
     refine zJ (i:=9) (d:=some 37) rfl rfl (by rfl) (by assumption) ?_
     try simp only [Act.put,Qx,Qy,Qz]
     refine zJ (i:=10) (d:=some 38) rfl rfl (by rfl) (by assumption) ?_
     try simp only [Act.put,Qx,Qy,Qz]
     refine zJ (i:=11) (d:=some 39) rfl rfl (by rfl) (by assumption) ?_
     try simp only [Act.put,Qx,Qy,Qz]
     refine zJ (i:=12) (d:=some 40) rfl rfl (by rfl) (by assumption) ?_
     try simp only [Act.put,Qx,Qy,Qz]
     refine zJ (i:=13) (d:=some 41) rfl rfl (by rfl) (by assumption) ?_
     try simp only [Act.put,Qx,Qy,Qz]
     refine zJ (i:=14) (d:=some 42) rfl rfl (by rfl) (by assumption) ?_
     try simp only [Act.put,Qx,Qy,Qz]
     refine zJ (i:=15) (d:=some 43) rfl rfl (by rfl) (by assumption) ?_
     try simp only [Act.put,Qx,Qy,Qz]
     refine zJ (i:=16) (d:=some 44) rfl rfl (by rfl) (by assumption) ?_
     try simp only [Act.put,Qx,Qy,Qz]
     refine zJ (i:=17) (d:=some 45) rfl rfl (by rfl) (by assumption) ?_
     try simp only [Act.put,Qx,Qy,Qz]
     refine zJ (i:=18) (d:=some 46) rfl rfl (by rfl) (by assumption) ?_
     try simp only [Act.put,Qx,Qy,Qz]
     refine zJ (i:=19) (d:=some 47) rfl rfl (by rfl) (by assumption) ?_
     try simp only [Act.put,Qx,Qy,Qz]
     refine zJ (i:=20) (d:=some 48) rfl rfl (by rfl) (by assumption) ?_
     try simp only [Act.put,Qx,Qy,Qz]
     refine zJ (i:=21) (d:=some 49) rfl rfl (by rfl) (by assumption) ?_
     try simp only [Act.put,Qx,Qy,Qz]
     refine zC (i:=22) (d:=some 50) rfl rfl ?_
     try simp only [Act.put,Qx,Qy,Qz]
     refine zC (i:=23) (d:=some 51) rfl rfl ?_
     try simp only [Act.put,Qx,Qy,Qz]
     refine zJ (i:=24) (d:=some 52) rfl rfl (by rfl) (by assumption) ?_
     try simp only [Act.put,Qx,Qy,Qz]
     refine zJ (i:=25) (d:=some 53) rfl rfl (by rfl) (by assumption) ?_
     try simp only [Act.put,Qx,Qy,Qz]
     refine zJ (i:=26) (d:=some 54) rfl rfl (by rfl) (by assumption) ?_
     try simp only [Act.put,Qx,Qy,Qz]
     refine zJ (i:=27) (d:=some 55) rfl rfl (by rfl) (by assumption) ?_
     try simp only [Act.put,Qx,Qy,Qz]
     refine zJ (i:=28) (d:=some 56) rfl rfl (by rfl) (by assumption) ?_
     try simp only [Act.put,Qx,Qy,Qz]
     refine zJ (i:=29) (d:=some 57) rfl rfl (by rfl) (by assumption) ?_
     try simp only [Act.put,Qx,Qy,Qz]
     refine zJ (i:=30) (d:=some 58) rfl rfl (by rfl) (by assumption) ?_
     try simp only [Act.put,Qx,Qy,Qz]
     refine zJ (i:=31) (d:=some 59) rfl rfl (by rfl) (by assumption) ?_
     try simp only [Act.put,Qx,Qy,Qz]
     refine zJ (i:=32) (d:=some 60) rfl rfl (by rfl) (by assumption) ?_
     try simp only [Act.put,Qx,Qy,Qz]
     refine zJ (i:=33) (d:=some 61) rfl rfl (by rfl) (by assumption) ?_
     try simp only [Act.put,Qx,Qy,Qz]
     refine zJ (i:=34) (d:=some 62) rfl rfl (by rfl) (by assumption) ?_
     try simp only [Act.put,Qx,Qy,Qz]
     refine zJ (i:=35) (d:=some 63) rfl rfl (by rfl) (by assumption) ?_
     try simp only [Act.put,Qx,Qy,Qz]
     refine zJ (i:=36) (d:=some 64) rfl rfl (by rfl) (by assumption) ?_
     try simp only [Act.put,Qx,Qy,Qz]
     refine zJ (i:=37) (d:=some 65) rfl rfl (by rfl) (by assumption) ?_
     try simp only [Act.put,Qx,Qy,Qz]
     refine zJ (i:=38) (d:=some 66) rfl rfl (by rfl) (by assumption) ?_
     try simp only [Act.put,Qx,Qy,Qz]
     refine zJ (i:=39) (d:=some 67) rfl rfl (by rfl) (by assumption) ?_
     try simp only [Act.put,Qx,Qy,Qz]
     refine zJ (i:=40) (d:=some 68) rfl rfl (by rfl) (by assumption) ?_
     try simp only [Act.put,Qx,Qy,Qz]
     refine zJ (i:=41) (d:=some 69) rfl rfl (by rfl) (by assumption) ?_
     try simp only [Act.put,Qx,Qy,Qz]
     refine zC (i:=42) (d:=some 70) rfl rfl ?_
     try simp only [Act.put,Qx,Qy,Qz]
     refine wpAnyH_done (by kernel_rfl) ?_ _
     refine NoPanic.normal ?_
     go_wp2_with fail
     go_meet
     case rel=>exact ⟨by rw [HOK.out];rfl,by assumption⟩
    case false =>
     rw [hE] at HOK
     cases bA
     case false =>
      refine wp_region_noPanic ?_
      refine wp_region_held_drew (S:=fun W'=>Bw wx W') (by kernel_rfl) (by have:=Below.refl wx.heap.size wx;exact Qb) (fun hHeld=>?_)
      have hX0a:Bw wx wx.drew:=hHeld
      refine zC (i:=0) (d:=some 28) rfl rfl ?_
      try simp only [Act.put,Qx,Qy,Qz]
      refine zC (i:=1) (d:=some 29) rfl rfl ?_
      try simp only [Act.put,Qx,Qy,Qz]
      refine zC (i:=2) (d:=some 30) rfl rfl ?_
      try simp only [Act.put,Qx,Qy,Qz]
      refine zC (i:=3) (d:=some 31) rfl rfl ?_
      try simp only [Act.put,Qx,Qy,Qz]
      refine zC (i:=4) (d:=some 32) rfl rfl ?_
      try simp only [Act.put,Qx,Qy,Qz]
      refine zC (i:=5) (d:=some 33) rfl rfl ?_
      try simp only [Act.put,Qx,Qy,Qz]
      refine zC (i:=6) (d:=some 34) rfl rfl ?_
      try simp only [Act.put,Qx,Qy,Qz]
      refine zC (i:=7) (d:=some 35) rfl rfl ?_
      try simp only [Act.put,Qx,Qy,Qz]
      refine zC (i:=8) (d:=some 36) rfl rfl ?_
      try simp only [Act.put,Qx,Qy,Qz]
      refine zC (i:=9) (d:=some 37) rfl rfl ?_
      try simp only [Act.put,Qx,Qy,Qz]
      refine zC (i:=10) (d:=some 38) rfl rfl ?_
      try simp only [Act.put,Qx,Qy,Qz]
      refine zC (i:=11) (d:=some 39) rfl rfl ?_
      try simp only [Act.put,Qx,Qy,Qz]
      refine zC (i:=12) (d:=some 40) rfl rfl ?_
      try simp only [Act.put,Qx,Qy,Qz]
      refine zC (i:=13) (d:=some 41) rfl rfl ?_
      try simp only [Act.put,Qx,Qy,Qz]
      refine zC (i:=14) (d:=some 42) rfl rfl ?_
      try simp only [Act.put,Qx,Qy,Qz]
      refine zC (i:=15) (d:=some 43) rfl rfl ?_
      try simp only [Act.put,Qx,Qy,Qz]
      refine zC (i:=16) (d:=some 44) rfl rfl ?_
      try simp only [Act.put,Qx,Qy,Qz]
      refine zC (i:=17) (d:=some 45) rfl rfl ?_
      try simp only [Act.put,Qx,Qy,Qz]
      refine zC (i:=18) (d:=some 46) rfl rfl ?_
      try simp only [Act.put,Qx,Qy,Qz]
      refine zC (i:=19) (d:=some 47) rfl rfl ?_
      try simp only [Act.put,Qx,Qy,Qz]
      generalize wx.drew=wk0a at *
      refine zN 20 fun K hK=>?_
      rw [if_pos (by rfl)]
      go_simp
      refine Calls.mono (sA _) ?_
      rintro e wk1a ⟨rfl,rfl⟩
      go_wp2_with fail
      refine hK.out _ _ (by assumption) (fun hHeld=>?_)
      clear hK K
      try simp only [Act.put,Qx,Qy,Qz]
      refine zC (i:=21) (d:=some 49) rfl rfl ?_
      try simp only [Act.put,Qx,Qy,Qz]
      refine zC (i:=22) (d:=some 50) rfl rfl ?_
      try simp only [Act.put,Qx,Qy,Qz]
      refine zC (i:=23) (d:=some 51) rfl rfl ?_
      try simp only [Act.put,Qx,Qy,Qz]
      refine zJ (i:=24) (d:=some 52) rfl rfl (by rfl) (by assumption) ?_
      try simp only [Act.put,Qx,Qy,Qz]
      refine zJ (i:=25) (d:=some 53) rfl rfl (by rfl) (by assumption) ?_
      try simp only [Act.put,Qx,Qy,Qz]
      refine zJ (i:=26) (d:=some 54) rfl rfl (by rfl) (by assumption) ?_
      try simp only [Act.put,Qx,Qy,Qz]
      refine zJ (i:=27) (d:=some 55) rfl rfl (by rfl) (by assumption) ?_
      try simp only [Act.put,Qx,Qy,Qz]
      refine zJ (i:=28) (d:=some 56) rfl rfl (by rfl) (by assumption) ?_
      try simp only [Act.put,Qx,Qy,Qz]
      refine zJ (i:=29) (d:=some 57) rfl rfl (by rfl) (by assumption) ?_
      try simp only [Act.put,Qx,Qy,Qz]
      refine zJ (i:=30) (d:=some 58) rfl rfl (by rfl) (by assumption) ?_
      try simp only [Act.put,Qx,Qy,Qz]
      refine zJ (i:=31) (d:=some 59) rfl rfl (by rfl) (by assumption) ?_
      try simp only [Act.put,Qx,Qy,Qz]
      refine zJ (i:=32) (d:=some 60) rfl rfl (by rfl) (by assumption) ?_
      try simp only [Act.put,Qx,Qy,Qz]
      refine zJ (i:=33) (d:=some 61) rfl rfl (by rfl) (by assumption) ?_
      try simp only [Act.put,Qx,Qy,Qz]
      refine zJ (i:=34) (d:=some 62) rfl rfl (by rfl) (by assumption) ?_
      try simp only [Act.put,Qx,Qy,Qz]
      refine zJ (i:=35) (d:=some 63) rfl rfl (by rfl) (by assumption) ?_
      try simp only [Act.put,Qx,Qy,Qz]
      refine zJ (i:=36) (d:=some 64) rfl rfl (by rfl) (by assumption) ?_
      try simp only [Act.put,Qx,Qy,Qz]
      refine zJ (i:=37) (d:=some 65) rfl rfl (by rfl) (by assumption) ?_
      try simp only [Act.put,Qx,Qy,Qz]
      refine zJ (i:=38) (d:=some 66) rfl rfl (by rfl) (by assumption) ?_
      try simp only [Act.put,Qx,Qy,Qz]
      refine zJ (i:=39) (d:=some 67) rfl rfl (by rfl) (by assumption) ?_
      try simp only [Act.put,Qx,Qy,Qz]
      refine zJ (i:=40) (d:=some 68) rfl rfl (by rfl) (by assumption) ?_
      try simp only [Act.put,Qx,Qy,Qz]
      refine zJ (i:=41) (d:=some 69) rfl rfl (by rfl) (by assumption) ?_
      try simp only [Act.put,Qx,Qy,Qz]
      refine zC (i:=42) (d:=some 70) rfl rfl ?_
      try simp only [Act.put,Qx,Qy,Qz]
      refine wpAnyH_done (by kernel_rfl) ?_ _
      refine NoPanic.normal ?_
      go_wp2_with fail
      go_meet
      case rel=>exact ⟨by rw [HOK.out];rfl,by assumption⟩
     case true =>
      cases bB
      ·skip
       refine wp_region_noPanic ?_
       refine wp_region_held_drew (S:=fun W'=>Bw wx W') (by kernel_rfl) (by have:=Below.refl wx.heap.size wx;exact Qb) (fun hHeld=>?_)
       have hX0b:Bw wx wx.drew:=hHeld
       refine zC (i:=0) (d:=some 28) rfl rfl ?_
       try simp only [Act.put,Qx,Qy,Qz]
       refine zC (i:=1) (d:=some 29) rfl rfl ?_
       try simp only [Act.put,Qx,Qy,Qz]
       refine zC (i:=2) (d:=some 30) rfl rfl ?_
       try simp only [Act.put,Qx,Qy,Qz]
       refine zC (i:=3) (d:=some 31) rfl rfl ?_
       try simp only [Act.put,Qx,Qy,Qz]
       refine zC (i:=4) (d:=some 32) rfl rfl ?_
       try simp only [Act.put,Qx,Qy,Qz]
       refine zC (i:=5) (d:=some 33) rfl rfl ?_
       try simp only [Act.put,Qx,Qy,Qz]
       refine zC (i:=6) (d:=some 34) rfl rfl ?_
       try simp only [Act.put,Qx,Qy,Qz]
       refine zC (i:=7) (d:=some 35) rfl rfl ?_
       try simp only [Act.put,Qx,Qy,Qz]
       refine zC (i:=8) (d:=some 36) rfl rfl ?_
       try simp only [Act.put,Qx,Qy,Qz]
       refine zC (i:=9) (d:=some 37) rfl rfl ?_
       try simp only [Act.put,Qx,Qy,Qz]
       refine zC (i:=10) (d:=some 38) rfl rfl ?_
       try simp only [Act.put,Qx,Qy,Qz]
       refine zC (i:=11) (d:=some 39) rfl rfl ?_
       try simp only [Act.put,Qx,Qy,Qz]
       refine zC (i:=12) (d:=some 40) rfl rfl ?_
       try simp only [Act.put,Qx,Qy,Qz]
       refine zC (i:=13) (d:=some 41) rfl rfl ?_
       try simp only [Act.put,Qx,Qy,Qz]
       refine zC (i:=14) (d:=some 42) rfl rfl ?_
       try simp only [Act.put,Qx,Qy,Qz]
       refine zC (i:=15) (d:=some 43) rfl rfl ?_
       try simp only [Act.put,Qx,Qy,Qz]
       refine zC (i:=16) (d:=some 44) rfl rfl ?_
       try simp only [Act.put,Qx,Qy,Qz]
       refine zC (i:=17) (d:=some 45) rfl rfl ?_
       try simp only [Act.put,Qx,Qy,Qz]
       refine zC (i:=18) (d:=some 46) rfl rfl ?_
       try simp only [Act.put,Qx,Qy,Qz]
       refine zC (i:=19) (d:=some 47) rfl rfl ?_
       try simp only [Act.put,Qx,Qy,Qz]
       generalize wx.drew=wk0b at *
       refine zN 20 fun K hK=>?_
       rw [if_pos (by rfl)]
       go_simp
       refine Calls.mono (sA _) ?_
       rintro e wk1b ⟨rfl,rfl⟩
       go_wp2_with fail
       refine hK.out _ _ (by assumption) (fun hHeld=>?_)
       clear hK K
       try simp only [Act.put,Qx,Qy,Qz]
       refine zC (i:=21) (d:=some 49) rfl rfl ?_
       try simp only [Act.put,Qx,Qy,Qz]
       refine zC (i:=22) (d:=some 50) rfl rfl ?_
       try simp only [Act.put,Qx,Qy,Qz]
       refine zC (i:=23) (d:=some 51) rfl rfl ?_
       try simp only [Act.put,Qx,Qy,Qz]
       refine zC (i:=24) (d:=some 52) rfl rfl ?_
       try simp only [Act.put,Qx,Qy,Qz]
       refine zC (i:=25) (d:=some 53) rfl rfl ?_
       try simp only [Act.put,Qx,Qy,Qz]
       refine zC (i:=26) (d:=some 54) rfl rfl ?_
       try simp only [Act.put,Qx,Qy,Qz]
       refine zC (i:=27) (d:=some 55) rfl rfl ?_
       try simp only [Act.put,Qx,Qy,Qz]
       refine zC (i:=28) (d:=some 56) rfl rfl ?_
       try simp only [Act.put,Qx,Qy,Qz]
       refine zC (i:=29) (d:=some 57) rfl rfl ?_
       try simp only [Act.put,Qx,Qy,Qz]
       refine zC (i:=30) (d:=some 58) rfl rfl ?_
       try simp only [Act.put,Qx,Qy,Qz]
       refine zC (i:=31) (d:=some 59) rfl rfl ?_
       try simp only [Act.put,Qx,Qy,Qz]
       refine zC (i:=32) (d:=some 60) rfl rfl ?_
       try simp only [Act.put,Qx,Qy,Qz]
       refine zC (i:=33) (d:=some 61) rfl rfl ?_
       try simp only [Act.put,Qx,Qy,Qz]
       refine zC (i:=34) (d:=some 62) rfl rfl ?_
       try simp only [Act.put,Qx,Qy,Qz]
       refine zC (i:=35) (d:=some 63) rfl rfl ?_
       try simp only [Act.put,Qx,Qy,Qz]
       refine zC (i:=36) (d:=some 64) rfl rfl ?_
       try simp only [Act.put,Qx,Qy,Qz]
       refine zC (i:=37) (d:=some 65) rfl rfl ?_
       try simp only [Act.put,Qx,Qy,Qz]
       refine zC (i:=38) (d:=some 66) rfl rfl ?_
       try simp only [Act.put,Qx,Qy,Qz]
       refine zC (i:=39) (d:=some 67) rfl rfl ?_
       try simp only [Act.put,Qx,Qy,Qz]
       refine zN 40 fun K hK=>?_
       rw [if_pos (by rfl)]
       go_simp
       refine Calls.mono (sB _) ?_
       rintro e wk2b ⟨rfl,rfl⟩
       go_wp2_with fail
       refine hK.out _ _ (by assumption) (fun hHeld=>?_)
       clear hK K
       try simp only [Act.put,Qx,Qy,Qz]
       refine zC (i:=41) (d:=some 69) rfl rfl ?_
       try simp only [Act.put,Qx,Qy,Qz]
       refine zC (i:=42) (d:=some 70) rfl rfl ?_
       try simp only [Act.put,Qx,Qy,Qz]
       refine wpAnyH_done (by kernel_rfl) ?_ _
       refine NoPanic.normal ?_
       go_wp2_with fail
       go_meet
       case rel=>exact ⟨by rw [HOK.out];rfl,by assumption⟩
      ·skip
       refine wp_region_noPanic ?_
       refine wp_region_held_drew (S:=fun W'=>Bw wx W') (by kernel_rfl) (by have:=Below.refl wx.heap.size wx;exact Qb) (fun hHeld=>?_)
       have hX0c:Bw wx wx.drew:=hHeld
       refine zC (i:=0) (d:=some 28) rfl rfl ?_
       try simp only [Act.put,Qx,Qy,Qz]
       refine zC (i:=1) (d:=some 29) rfl rfl ?_
       try simp only [Act.put,Qx,Qy,Qz]
       refine zC (i:=2) (d:=some 30) rfl rfl ?_
       try simp only [Act.put,Qx,Qy,Qz]
       refine zC (i:=3) (d:=some 31) rfl rfl ?_
       try simp only [Act.put,Qx,Qy,Qz]
       refine zC (i:=4) (d:=some 32) rfl rfl ?_
       try simp only [Act.put,Qx,Qy,Qz]
       refine zC (i:=5) (d:=some 33) rfl rfl ?_
       try simp only [Act.put,Qx,Qy,Qz]
       refine zC (i:=6) (d:=some 34) rfl rfl ?_
       try simp only [Act.put,Qx,Qy,Qz]
       refine zC (i:=7) (d:=some 35) rfl rfl ?_
       try simp only [Act.put,Qx,Qy,Qz]
       refine zC (i:=8) (d:=some 36) rfl rfl ?_
       try simp only [Act.put,Qx,Qy,Qz]
       refine zC (i:=9) (d:=some 37) rfl rfl ?_
       try simp only [Act.put,Qx,Qy,Qz]
       refine zC (i:=10) (d:=some 38) rfl rfl ?_
       try simp only [Act.put,Qx,Qy,Qz]
       refine zC (i:=11) (d:=some 39) rfl rfl ?_
       try simp only [Act.put,Qx,Qy,Qz]
       refine zC (i:=12) (d:=some 40) rfl rfl ?_
       try simp only [Act.put,Qx,Qy,Qz]
       refine zC (i:=13) (d:=some 41) rfl rfl ?_
       try simp only [Act.put,Qx,Qy,Qz]
       refine zC (i:=14) (d:=some 42) rfl rfl ?_
       try simp only [Act.put,Qx,Qy,Qz]
       refine zC (i:=15) (d:=some 43) rfl rfl ?_
       try simp only [Act.put,Qx,Qy,Qz]
       refine zC (i:=16) (d:=some 44) rfl rfl ?_
       try simp only [Act.put,Qx,Qy,Qz]
       refine zC (i:=17) (d:=some 45) rfl rfl ?_
       try simp only [Act.put,Qx,Qy,Qz]
       refine zC (i:=18) (d:=some 46) rfl rfl ?_
       try simp only [Act.put,Qx,Qy,Qz]
       refine zC (i:=19) (d:=some 47) rfl rfl ?_
       try simp only [Act.put,Qx,Qy,Qz]
       generalize wx.drew=wk0c at *
       refine zN 20 fun K hK=>?_
       rw [if_pos (by rfl)]
       go_simp
       refine Calls.mono (sA _) ?_
       rintro e wk1c ⟨rfl,rfl⟩
       go_wp2_with fail
       refine hK.out _ _ (by assumption) (fun hHeld=>?_)
       clear hK K
       try simp only [Act.put,Qx,Qy,Qz]
       refine zC (i:=21) (d:=some 49) rfl rfl ?_
       try simp only [Act.put,Qx,Qy,Qz]
       refine zC (i:=22) (d:=some 50) rfl rfl ?_
       try simp only [Act.put,Qx,Qy,Qz]
       refine zC (i:=23) (d:=some 51) rfl rfl ?_
       try simp only [Act.put,Qx,Qy,Qz]
       refine zC (i:=24) (d:=some 52) rfl rfl ?_
       try simp only [Act.put,Qx,Qy,Qz]
       refine zC (i:=25) (d:=some 53) rfl rfl ?_
       try simp only [Act.put,Qx,Qy,Qz]
       refine zC (i:=26) (d:=some 54) rfl rfl ?_
       try simp only [Act.put,Qx,Qy,Qz]
       refine zC (i:=27) (d:=some 55) rfl rfl ?_
       try simp only [Act.put,Qx,Qy,Qz]
       refine zC (i:=28) (d:=some 56) rfl rfl ?_
       try simp only [Act.put,Qx,Qy,Qz]
       refine zC (i:=29) (d:=some 57) rfl rfl ?_
       try simp only [Act.put,Qx,Qy,Qz]
       refine zC (i:=30) (d:=some 58) rfl rfl ?_
       try simp only [Act.put,Qx,Qy,Qz]
       refine zC (i:=31) (d:=some 59) rfl rfl ?_
       try simp only [Act.put,Qx,Qy,Qz]
       refine zC (i:=32) (d:=some 60) rfl rfl ?_
       try simp only [Act.put,Qx,Qy,Qz]
       refine zC (i:=33) (d:=some 61) rfl rfl ?_
       try simp only [Act.put,Qx,Qy,Qz]
       refine zC (i:=34) (d:=some 62) rfl rfl ?_
       try simp only [Act.put,Qx,Qy,Qz]
       refine zC (i:=35) (d:=some 63) rfl rfl ?_
       try simp only [Act.put,Qx,Qy,Qz]
       refine zC (i:=36) (d:=some 64) rfl rfl ?_
       try simp only [Act.put,Qx,Qy,Qz]
       refine zC (i:=37) (d:=some 65) rfl rfl ?_
       try simp only [Act.put,Qx,Qy,Qz]
       refine zC (i:=38) (d:=some 66) rfl rfl ?_
       try simp only [Act.put,Qx,Qy,Qz]
       refine zC (i:=39) (d:=some 67) rfl rfl ?_
       try simp only [Act.put,Qx,Qy,Qz]
       refine zN 40 fun K hK=>?_
       rw [if_pos (by rfl)]
       go_simp
       refine Calls.mono (sB _) ?_
       rintro e wk2c ⟨rfl,rfl⟩
       go_wp2_with fail
       refine hK.out _ _ (by assumption) (fun hHeld=>?_)
       clear hK K
       try simp only [Act.put,Qx,Qy,Qz]
       refine zC (i:=41) (d:=some 69) rfl rfl ?_
       try simp only [Act.put,Qx,Qy,Qz]
       refine zC (i:=42) (d:=some 70) rfl rfl ?_
       try simp only [Act.put,Qx,Qy,Qz]
       refine wpAnyH_done (by kernel_rfl) ?_ _
       refine NoPanic.normal ?_
       go_wp2_with fail
       go_meet
       case rel=>exact ⟨by rw [HOK.out];rfl,by assumption⟩
   obtain ⟨rfl,hBy⟩:=hcut
   generalize wc=wy at *
   have HCy:Hid (zAo wy q z x y wd ht):=uD HCx.out hBy
   have HPy:Hid (zAf wy qb 0 E):=HPA.out.below hBy hqbw
   have HOy:Hid (zAl w.heap.size wy (.slice a L.length c') L):=HOx.out.below hBy
   have HBy:Hid (Bw w wy):=zA HBx.out hBy
   have HFy:Hid (yG W.heap.size wy (.slice (some ⟨g,0,none⟩) n c) G (zY n G)):=HFx.out.below hBy
   have hqby:qb<wy.heap.size:=Nat.lt_of_lt_of_le hqbw hBy.size
   clear hBy HPA HCx HOx HBx HFx hqw hqbw
   cases hok:vB x y wd ht E
   case false =>
    have HS1:Hid (uN x y wd ht (lbB z G) ((zY n G).take (k+1))=L):=by show _=_;rw [HSc.out];unfold zB2;rw [HE.out,hok];rfl
    clear hok
    go_wp2_with fail
    go_roundw
    case rel=>exact ⟨k+1,by have:=HLT.out;omega,by go_num,⟨a,c',by rw [HS1.out]⟩,by rw [HS1.out];exact HOy.out,HFy.out,HBy.out⟩
    case measure=>have:=HLT.out;simp [intOf];omega
   case true =>
    have HS1:Hid (uN x y wd ht (lbB z G) ((zY n G).take (k+1))=if L.all (fun e=>!ovB e E)=true then L ++ [E] else L):=by show _=_;rw [HSc.out];unfold zB2;rw [HE.out,hok,if_pos rfl]
    clear hok
    have hm1000:L.length≤1000:=by have:=HLT.out;omega
    obtain ⟨a9,c9,hv9,hc9,hI9⟩:=HOy.out.own.pts
    injection hv9 with e1 e2 e3
    subst e1 e3
    have HIy:Hid (zDc wy a L.length (fun i=>L.getD i zPl)):=hI9
    clear e2 hI9
    go_wp2_with fail
    go_loopw [9,10] (fun f j wl=>∃ t:Nat,t≤L.length∧j=.int .i64 (t:Int)∧f=.bool ((L.take t).all (fun e=>!ovB e E))∧Bw wy wl) (fun _ j _=>L.length - (intOf j).toNat)
    case atStart=>exact ⟨0,Nat.zero_le _,rfl,by simp,Below.refl _ _⟩
    case round =>
     obtain ⟨t,htm,rfl,rfl,hBl⟩:=hrel
     have HBl:Hid (Bw wy wr):=hBl
     by_cases htl:t<L.length
     ·obtain ⟨bp,op,rfl,hbp,hLb⟩:=HIy.out.resolve_left (by omega)
      have hov:=zFj bp qb (op+t * 5) 0 (L.getD t zPl) E wr ((hLb t htl).below hBl hbp) (HPy.out.below hBl hqby) (Nat.lt_of_lt_of_le hbp hBl.size) (Nat.lt_of_lt_of_le hqby hBl.size)
      have HOv:=(show Hid _ from hov)
      have HTk:Hid ((L.take (t+1)).all (fun e=>!ovB e E)=((L.take t).all (fun e=>!ovB e E) && !ovB (L.getD t zPl) E)):=by
       show _=_
       rw [List.take_add_one,List.all_append]
       simp [htl]
      have ht':(t:Int)<(L.length:Int):=by omega
      have ht0:(0:Int)≤(t:Int):=by omega
      clear hBl hLb hov
      cases hfr:(L.take t).all (fun e=>!ovB e E)
      ·rw [hfr] at HTk
       clear hfr
       go_wp2_with fail
       go_roundw
       case rel=>exact ⟨t+1,by omega,by go_num,by rw [HTk.out];rfl,HBl.out⟩
       case measure=>simp [intOf];omega
      ·rw [hfr] at HTk
       clear hfr
       cases hbo:ovB (L.getD t zPl) E
       all_goals
        rw [hbo] at HOv HTk
        clear hbo
        go_wp2_with fail
        refine Calls.mono HOv.out ?_
        rintro e wo ⟨rfl,hbo⟩
        go_wp2_with fail
        exact ⟨⟨_,_,_,_,_,_,_,_,_,_,_,_,_,_,_,_,⟨t+1,by omega,by go_num,by rw [HTk.out];rfl,zA HBl.out hbo⟩,rfl⟩,by simp [intOf];omega⟩
     ·obtain rfl:t=L.length:=by omega
      rw [List.take_length]
      have HOl:Hid (zAl w.heap.size wr (.slice a L.length c') L):=HOy.out.below hBl
      have HFl:Hid (yG W.heap.size wr (.slice (some ⟨g,0,none⟩) n c) G (zY n G)):=HFy.out.below hBl
      have HBz:Hid (Bw w wr):=zA HBy.out hBl
      have HPl:Hid (zAf wr qb 0 E):=HPy.out.below hBl hqby
      have hwz:=HBz.out.size
      clear hBl HBl HIy HOy HFy HBy HPy
      cases hfr:L.all (fun e=>!ovB e E)
      ·have HS2:Hid (uN x y wd ht (lbB z G) ((zY n G).take (k+1))=L):=by show _=_;rw [HS1.out,hfr];rfl
       clear hfr
       go_wp2_with fail
       go_roundw
       case rel=>exact ⟨k+1,by have:=HLT.out;omega,by go_num,⟨a,c',by rw [HS2.out]⟩,by rw [HS2.out];exact HOl.out,HFl.out,HBz.out⟩
       case measure=>have:=HLT.out;simp [intOf];omega
      ·have HS2:Hid (uN x y wd ht (lbB z G) ((zY n G).take (k+1))=L ++ [E]):=by show _=_;rw [HS1.out,hfr];rfl
       clear hfr
       generalize wr=wz at *
       obtain ⟨p0,p1,p2,p3,p4⟩:=HPl.out
       simp only [Nat.zero_add] at p1 p2 p3 p4
       go_wp2_with (first
        | (at_builtin;go_must (refine wpList_append_own _ rfl _ _ 56 rfl w.heap.size 158 i0 (.agg zeroP) 5 40 Tryz.underlying56 hi hz0 hz1 hz2 rfl (by decide) (.slice a L.length c') L.length (uZ L) rfl ?c6 ⟨wz.heap.size,0,none⟩ 1 1 (zAx E) rfl ?c0 ?c1 ?c2 ?c3 ?c4 ?c5 ?_)))
       case c6=>exact HOl.out.below (by exact Qb)
       case c0=>rfl
       case c1 =>
        intro q u hq
        have hq5:q<5:=(List.getElem?_eq_some_iff.1 hq).1
        have hc:q=0∨q=1∨q=2∨q=3∨q=4:=by omega
        rcases hc with rfl | rfl | rfl | rfl | rfl <;> (simp [zAx] at hq;subst hq;simp [Addr.add,go_sem])
       case c2=>exact zIp _
       case c3=>unfold maxLen;omega
       case c4=>omega
       case c5=>simp;omega
       intro v' w4 hown' hgrow hnil
       obtain ⟨g4,c4,hv4⟩:∃ g4 c4,v'=.slice g4 (L.length+1) c4:=by
        obtain ⟨_,h2 | ⟨g',cp,cur,hv,_⟩⟩:=hown'
        ·first | exact absurd h2.1 hnil | (have:=hnil.1 h2.1;simp at this)
        ·exact ⟨_,cp,hv⟩
       subst hv4
       have hbA:Bw wz (wz.alloc (.cells (zAx E).toArray 158)):=by exact Qb
       have HO4:Hid (zAl w.heap.size w4 (.slice g4 (L.length+1) c4) (L ++ [E])):=by
        show World.ownsRow _ _ _ _ _ _ _
        rw [zIo,List.length_append]
        have e1:uZ [E]=zAx E:=by simp [uZ]
        rw [e1]
        exact hown'
       have hOA:=HOl.out.below hbA
       have hFA:=HFl.out.below hbA
       have HF4:Hid (yG W.heap.size w4 (.slice (some ⟨g,0,none⟩) n c) G (zY n G)):=World.ownsRow.kept hFA hgrow (by
        right
        intro e
        obtain ⟨c1,h1⟩:=zBs hFA g rfl
        obtain ⟨c2,h2⟩:=zBs hOA g e.symm
        rw [h1] at h2
        injection h2 with h2
        injection h2 with _ h2
        exact absurd h2 (by decide))
       have HB4:Hid (Bw w w4):=(zA HBz.out hbA).grown hgrow (by simp;omega) (fun q hq=>(World.ownsRow.lt hOA q hq).1)
       clear hown' hgrow hnil hOA hFA hbA p0 p1 p2 p3 p4
       go_wp2_with fail
       go_roundw
       case rel=>exact ⟨k+1,by have:=HLT.out;omega,by go_num,⟨g4,c4,by rw [HS2.out,List.length_append];rfl⟩,by rw [HS2.out];exact HO4.out,HF4.out,HB4.out⟩
       case measure=>have:=HLT.out;simp [intOf];omega
  ·obtain rfl:k=n:=by omega
   have hT:(zY k G).take k=zY k G:=List.take_of_length_le (by omega)
   rw [hT] at HO ⊢
   clear hT
   go_wp2_with fail
   go_ret
   exact ⟨_,rfl,HO.out,HB.out⟩
end Go.Proofs.YtpaiholildedcaaGreat
