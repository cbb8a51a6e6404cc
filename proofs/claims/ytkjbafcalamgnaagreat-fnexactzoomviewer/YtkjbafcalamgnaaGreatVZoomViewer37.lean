/- Texts. -/
import Derived.Test.YtkjbafcalamgnaaGreatVZoomViewer36
set_option linter.unusedSimpArgs false
set_option linter.unusedVariables false
set_option maxRecDepth 100000
set_option maxHeartbeats 32000000
namespace Go.Proofs.YtkjbafcalamgnaaGreat
open Go.RowKit
end Go.Proofs.YtkjbafcalamgnaaGreat
namespace Go.Proofs.YtkjbafcalamgnaaGreat
open Go.RowKit Go.Sort Go.Shelf Go.Maps
abbrev zF2 (a:Ag):Lit:=zBw a.z a.x a.y
structure Rep (D:DataW Value) (L:List Ag):Prop where
 tidy:Maps.Tidy D
 size:Maps.size D=L.length
 ints:∀ a ∈ L,I64 a.z∧I64 a.x∧I64 a.y
 has:∀ x,Maps.has D (.string x)=true ↔ ∃ a ∈ L,zF2 a=.string x
 at_:∀ a ∈ L,∀ zd,D.atKey (zF2 a) zd=.held (agW a)
 keys:L.Pairwise (fun a b=>zF2 a≠zF2 b)
 turns:L.Pairwise (fun a b=>a.t<b.t)
theorem zW9 (a:Ag):∃ x,zF2 a=.string x:=⟨_,rfl⟩
theorem Rep.nodup {D:DataW Value}{L:List Ag}(h:Rep D L):L.Nodup:=h.turns.imp (fun hlt e=>by subst e;exact absurd hlt (Int.lt_irrefl _))
theorem Rep.perm {D:DataW Value}{L xs:List Ag}(h:Rep D L)(hx:AllA D xs):xs.Perm L:=by
 obtain ⟨ps,⟨hn,hm,ha⟩,rfl⟩:=hx
 have hkey:∀ p ∈ ps,∃ a ∈ L,zF2 a=.string p.1∧p.2=a:=fun p hp=>by
  obtain ⟨a,haL,hk⟩:=(h.has p.1).1 ((hm p.1).1 (List.mem_map_of_mem hp))
  refine ⟨a,haL,hk,?_⟩
  have e1:=ha p hp (.held (agW a))
  have e2:=h.at_ a haL (.held (agW a))
  rw [hk] at e2
  rw [e1] at e2
  injection e2 with e2
  exact agW_inj e2
 have hnx:(ps.map (·.2)).Nodup:=by
  rw [List.Nodup,List.pairwise_map]
  have hn':ps.Pairwise (fun p q=>p.1≠q.1):=by
   have:=hn
   rw [List.Nodup,List.pairwise_map] at this
   exact this
  refine List.Pairwise.imp_of_mem ?_ hn'
  intro p q hp hq hne e
  obtain ⟨a,_,hk,e1⟩:=hkey p hp
  obtain ⟨b,_,hk',e2⟩:=hkey q hq
  rw [e1,e2] at e
  subst e
  rw [hk] at hk'
  injection hk' with hk'
  exact hne hk'
 refine (List.perm_ext_iff_of_nodup hnx h.nodup).2 (fun a=>⟨fun hm'=>?_,fun hL=>?_⟩)
 ·obtain ⟨p,hp,rfl⟩:=List.mem_map.1 hm'
  obtain ⟨b,hb,_,e⟩:=hkey p hp
  rw [e];exact hb
 ·obtain ⟨x,hx⟩:=zW9 a
  have h1:=(hm x).2 ((h.has x).2 ⟨a,hL,hx⟩)
  obtain ⟨p,hp,e⟩:=List.mem_map.1 h1
  obtain ⟨b,hb,hk,e2⟩:=hkey p hp
  have hab:a=b:=by
   by_cases hab:a=b
   ·exact hab
   ·exfalso
    have:∀ (l:List Ag),l.Pairwise (fun a b=>zF2 a≠zF2 b)→∀ a ∈ l,∀ b ∈ l,a≠b→zF2 a≠zF2 b:=by
     intro l hl
     induction hl with
     | nil=>intro a ha;simp at ha
     | cons hh _ ih =>
      intro a ha b hb hne
      rcases List.mem_cons.1 ha with ha1 | ha1
      ·rcases List.mem_cons.1 hb with hb1 | hb1
       ·exact absurd (ha1.trans hb1.symm) hne
       ·rw [ha1];exact hh b hb1
      ·rcases List.mem_cons.1 hb with hb1 | hb1
       ·rw [hb1];exact fun e=>hh a ha1 e.symm
       ·exact ih a ha1 b hb1 hne
    exact this L h.keys a hL b hb hab (by rw [hx,hk,e])
  exact List.mem_map.2 ⟨p,hp,by rw [e2,hab]⟩
theorem zMi:∀ {L ys:List Ag},ys.Perm L→ys.Pairwise (fun a b=>a.t≤b.t)→L.Pairwise (fun a b=>a.t<b.t)→ys=L
 | [],ys,hp,_,_=>List.perm_nil.1 hp
 | a :: L,[],hp,_,_=>absurd hp.length_eq (by simp)
 | a :: L,y :: ys,hp,hy,hL=>by
  obtain ⟨h1,h2⟩:=List.pairwise_cons.1 hL
  obtain ⟨h3,h4⟩:=List.pairwise_cons.1 hy
  have e:y=a:=by
   have hy':y ∈ a :: L:=hp.subset (List.mem_cons_self)
   have ha':a ∈ y :: ys:=hp.symm.subset (List.mem_cons_self)
   rcases List.mem_cons.1 hy' with e | hyL
   ·exact e
   ·rcases List.mem_cons.1 ha' with e | hay
    ·exact e.symm
    ·have:=h1 y hyL
     have:=h3 a hay
     omega
  subst e
  rw [zMi (List.Perm.cons_inv hp) h4 h2]
def zX9 (w:World)(g:Nat)(L:List Ag):Prop:=∀ i a,L[i]?=some a→AgAt w g (i * 6) a
theorem zX9.below {w w':World}{g:Nat}{L:List Ag}(h:zX9 w g L)(hg:g<w.heap.size)(hb:Below w.heap.size w w'):zX9 w' g L:=fun i a hi=>by
 obtain ⟨h0,h1,h2,h3,h4,h5⟩:=h i a hi
 exact ⟨(hb.cell (p:=⟨g,i * 6,none⟩) hg).trans h0,(hb.cell (p:=⟨g,i * 6+1,none⟩) hg).trans h1,(hb.cell (p:=⟨g,i * 6+2,none⟩) hg).trans h2,(hb.cell (p:=⟨g,i * 6+3,none⟩) hg).trans h3,(hb.cell (p:=⟨g,i * 6+4,none⟩) hg).trans h4,(hb.cell (p:=⟨g,i * 6+5,none⟩) hg).trans h5⟩
def IsAgs (w:World)(v:Value)(L:List Ag):Prop:=(L=[]∧∃ a c,v=.slice a 0 c)∨∃ g c,v=.slice (some ⟨g,0,none⟩) L.length c∧g<w.heap.size∧zX9 w g L
theorem zNy (Bm b nn:Nat)(D0:DataW Value)(w:World)(hBm:Bm<w.heap.size)(hm:w.cell? ⟨Bm,0,none⟩=some (.map (some b)))(hown:w.ownsMap Tryz.prog 104 RV b nn D0)(hall:Maps.size D0≤1048576) :
  Calls Tryz.prog 225 #[.func (.func 227) #[] #[.pointer (some ⟨Bm,0,none⟩)]] w fun e w'=>∃ v xs,e=.returned v∧AllA D0 xs∧w'.ownsRow w.heap.size 223 6 v xs.length (zGa xs)∧Bw w w':=by
 have HA:=(show Hid _ from zI3 Bm b nn D0 w hBm hm hown hall)
 clear hBm hm hown
 go_enter Tryz.func225,Tryz.ntmps225
 go_wp2_with fail
 refine Calls.mono HA.out ?_
 rintro e w1 ⟨v,xs,rfl,h1,h2,h3⟩
 have H3:Hid (AllA D0 xs∧w1.ownsRow w.heap.size 223 6 v xs.length (zGa xs)∧Bw w w1):=⟨h1,h2,h3⟩
 clear h1 h2 h3
 go_wp2
 go_ret
 exact ⟨v,xs,rfl,H3.out⟩
theorem zOy (Bm b nn:Nat)(D0:DataW Value)(L:List Ag)(w:World)(hBm:Bm<w.heap.size)(hm:w.cell? ⟨Bm,0,none⟩=some (.map (some b)))(hown:w.ownsMap Tryz.prog 104 RV b nn D0)(hR:Rep D0 L)(hall:Maps.size D0≤1048576)(hL:L.length≤1048576) :
  Calls Tryz.prog 199 #[.func (.func 227) #[] #[.pointer (some ⟨Bm,0,none⟩)],.func (.func 201) #[] #[]] w fun e w'=>∃ v,e=.returned v∧IsAgs w' v L∧Bw w w':=by
 have HC:=(show Hid _ from zNy Bm b nn D0 w hBm hm hown hall)
 have HR:Hid (Rep D0 L):=hR
 clear hBm hm hown hR
 go_enter Tryz.func199,Tryz.ntmps199
 go_wp2_with fail
 refine Calls.mono HC.out ?_
 rintro e w1 ⟨v,xs,rfl,h1,h2,h3⟩
 have hp:xs.Perm L:=HR.out.perm h1
 have HP:Hid (xs.Perm L):=hp
 have HB1:Hid (Bw w w1):=h3
 have hxl:xs.length=L.length:=hp.length_eq
 have hE:(List.range xs.length).map (fun i=>xs.getD i ⟨0,0,0,none,0,0,none,0,0,0⟩)=xs:=by
  apply List.ext_getElem
  ·simp
  ·intro i h1 h2
   simp at h1
   simp [List.getD_eq_getElem?_getD,h1]
 have HRow:Hid (ARow w.heap.size w1 v (fun i=>xs.getD i ⟨0,0,0,none,0,0,none,0,0,0⟩) xs.length):=by
  show ARow _ _ _ _ _
  unfold ARow
  rw [hE]
  exact h2
 clear h1 h2 h3 hp hE
 have HS:=(show Hid _ from zT1 xs.length w.heap.size v (fun i=>xs.getD i ⟨0,0,0,none,0,0,none,0,0,0⟩) w1 HRow.out (by omega))
 go_wp2_with fail
 refine Calls.mono HS.out ?_
 rintro e w2 ⟨rfl,hres⟩
 have HF:Hid (IsAgs w2 v L∧Bw w w2):=by
  show _∧_
  rcases hres with ⟨h0,rfl⟩ | ⟨g,c,l,hv,hg,hgl,hp,hs,hgr,hT,hc,hF⟩
  ·have hL0:L=[]:=List.length_eq_zero_iff.1 (by omega)
   refine ⟨.inl ⟨hL0,?_⟩,HB1.out⟩
   rcases HRow.out.2 with ⟨e,_⟩ | ⟨g,c,cur,e,hg,hh,h5,h6,h7,h8⟩
   ·exact ⟨_,_,e⟩
   ·exact ⟨_,_,by rw [e,h0]⟩
  ·have hys:(l.map (fun i=>xs.getD i ⟨0,0,0,none,0,0,none,0,0,0⟩)).Perm L:=by
    refine List.Perm.trans (hp.map _) ?_
    have hE:(List.range xs.length).map (fun i=>xs.getD i ⟨0,0,0,none,0,0,none,0,0,0⟩)=xs:=by
     apply List.ext_getElem
     ·simp
     ·intro i h1 h2
      simp at h1
      simp [List.getD_eq_getElem?_getD,h1]
    rw [hE]
    exact HP.out
   have hsrt:(l.map (fun i=>xs.getD i ⟨0,0,0,none,0,0,none,0,0,0⟩)).Pairwise (fun a b=>a.t≤b.t):=by
    rw [List.pairwise_map]
    refine hs.imp ?_
    intro i j hij
    rw [zUm] at hij
    omega
   have hyL:=zMi hys hsrt HR.out.turns
   have hll:l.length=L.length:=by rw [← hyL];simp
   refine ⟨.inr ⟨g,c,by rw [hv,hxl],Nat.lt_of_lt_of_le hgl hgr.size,fun i a hi=>?_⟩,HB1.out.trans (uF hgr hg HB1.out.size)⟩
   have hiL:i<L.length:=(List.getElem?_eq_some_iff.1 hi).1
   have:=hF i (by omega)
   rw [← hyL] at hi
   rw [List.getElem?_map,List.getElem?_eq_getElem (by omega)] at hi
   have e2:l.getD i 0=l[i]'(by omega):=by simp [List.getD_eq_getElem?_getD,show i<l.length by omega]
   rw [e2] at this
   simp only [Option.map_some,Option.some.injEq] at hi
   rw [← hi]
   exact this
 clear hres
 go_wp2
 go_ret
 exact ⟨v,rfl,HF.out⟩
end Go.Proofs.YtkjbafcalamgnaaGreat
namespace Go.Proofs.YtkjbafcalamgnaaGreat
open Go.RowKit
end Go.Proofs.YtkjbafcalamgnaaGreat
namespace Go.Proofs.YtkjbafcalamgnaaGreat
open Go.RowKit Go.Sort Go.Shelf Go.Maps
def zF1 (a:Ag):List Value:=[.int .i64 a.z,.int .i64 a.x,.int .i64 a.y,.slice a.fa a.fn a.fc,.slice a.ia a.m a.ic]
def vF (l:List Ag):List Value:=l.flatMap zF1
theorem zLb (e:Ag):(zF1 e).length=5:=rfl
theorem zEi (e:Ag):∀ v ∈ zF1 e,v.oneCell'=true:=by simp [zF1,Value.oneCell']
theorem zJr (e:Ag)(l:List Ag):vF (e :: l)=zF1 e ++ vF l:=rfl
theorem zEh (l k:List Ag):vF (l ++ k)=vF l ++ vF k:=by simp [vF]
theorem zM9:∀ (l:List Ag) (i k:Nat) (e:Ag),l[i]?=some e→k<5→(vF l)[i * 5+k]?=(zF1 e)[k]?
 | [],i,k,e,h,_=>by simp at h
 | a :: l,0,k,e,h,hk=>by
  simp at h
  subst h
  rw [zJr,Nat.zero_mul,Nat.zero_add,List.getElem?_append_left (by rw [zLb];exact hk)]
 | a :: l,i+1,k,e,h,hk=>by
  have h':l[i]?=some e:=by simpa using h
  rw [zJr,List.getElem?_append_right (by rw [zLb];omega),zLb,← zM9 l i k e h' hk]
  congr 1
  omega
def zVw (base:Nat)(w:World)(v:Value)(L:List Ag):Prop:=w.ownsRow base 153 5 v L.length (vF L)
theorem zKu {base B s n:Nat}{t:TypeId}{w:World}{v:Value}{xs:List Value}(h:w.ownsRow base t s v n xs)(hB:B≤base):w.ownsRow B t s v n xs:=by
 obtain ⟨h1,h2 | ⟨g,cp,cur,hv,hg,h3⟩⟩:=h
 ·exact ⟨h1,.inl h2⟩
 ·exact ⟨h1,.inr ⟨g,cp,cur,hv,Nat.le_trans hB hg,h3⟩⟩
theorem zHn (p mb nn:Nat)(s t:Int)(D:DataW Value)(L:List Ag)(w:World)(hp:ShA w p s t mb)(hm:w.ownsMap Tryz.prog 104 RV mb nn D)(hR:Rep D L)(hL:L.length≤1000)(hD:Maps.size D≤1000) :
  Calls Tryz.prog 165 #[.pointer (some ⟨p,0,none⟩)] w fun e w'=>∃ v,e=.returned v∧zVw w.heap.size w' v L∧Bw w w':=by
 obtain ⟨i0,hi,hz0,hz1,hz2⟩:=info_parts zLi
 have HM:Hid (w.ownsMap Tryz.prog 104 RV mb nn D):=hm
 have HR:Hid (Rep D L):=hR
 have c2:=hp.2.2
 clear hp hm hR
 go_enter Tryz.func165,Tryz.ntmps165
 go_wp2_with fail
 refine (zIt mb w).mono ?_
 rintro e w1 ⟨rfl,hw1⟩
 have HB1:Hid (Bw w w1):=by show Below _ _ _;subst hw1;exact xC (Below.refl _ _) _
 have h1:w1.cell? ⟨w.heap.size,0,none⟩=some (.map (some mb)):=by subst hw1;simp [go_sem]
 clear hw1 c2
 have HS:=(show Hid _ from zOy w.heap.size mb nn D L w1 (World.block_lt_of_cell? _ _ h1) h1 (zZ HM.out HB1.out) HR.out (by omega) (by omega))
 clear h1
 go_wp2_with fail
 refine Calls.mono HS.out ?_
 rintro e W ⟨v,rfl,hA,hb2⟩
 have HA:Hid (IsAgs W v L):=hA
 have HBW:Hid (Bw w W):=zA HB1.out hb2
 obtain ⟨va,vc,hv⟩:∃ a c,v=.slice a L.length c:=by
  rcases hA with ⟨h0,a,c,hv⟩ | ⟨g,c,hv,_⟩
  ·exact ⟨a,c,by rw [hv,h0];rfl⟩
  ·exact ⟨_,c,hv⟩
 subst hv
 clear hA hb2 HS HB1 HM HR
 go_wp2_with fail
 go_loopw [3,13] (fun u i wr=>∃ k:Nat,k≤L.length∧i=.int .i64 (k:Int)∧zVw W.heap.size wr u (L.take k)∧Bw W wr) (fun _ i _=>L.length - (intOf i).toNat)
 case atStart=>exact ⟨0,by omega,rfl,by rw [List.take_zero];exact World.ownsRow_nil _ _ _ _,Below.refl _ _⟩
 case round =>
  obtain ⟨k,hk,rfl,hO,hB⟩:=hrel
  have HO:Hid (zVw W.heap.size wr u3 (L.take k)):=hO
  have HB:Hid (Bw W wr):=hB
  by_cases hlt:k<L.length
  ·obtain ⟨ag,hag⟩:∃ ag,L[k]?=some ag:=⟨_,List.getElem?_eq_getElem hlt⟩
   rcases HA.out with ⟨h0,_⟩ | ⟨g,c,hv,hgl,hcs⟩
   ·rw [h0] at hlt;simp at hlt
   injection hv with e1 _ e3
   subst e1 e3
   obtain ⟨f0,f1,f2,f3,f4,f5⟩:=(hcs.below hgl hB) k ag hag
   have HLT:Hid (k<L.length):=hlt
   have hi':(k:Int)<(L.length:Int):=by omega
   have hi0:(0:Int)≤(k:Int):=by omega
   have hlen:(L.take k).length=k:=by rw [List.length_take];omega
   have hszr:=hB.size
   clear hO hB hcs
   go_wp2_with (first
    | (at_builtin;go_must (refine wpList_append_own _ rfl _ _ 33 rfl W.heap.size 153 i0 (.agg zCr) 5 72 Tryz.underlying33 hi hz0 hz1 hz2 rfl (by decide) u3 k (vF (L.take k)) rfl ?c6 ⟨wr.heap.size+1,0,none⟩ 1 1 (zF1 ag) rfl ?c0 ?c1 ?c2 ?c3 ?c4 ?c5 ?_)))
   case c6 =>
    have:=(HO.out.alloc (.cells #[.int .i64 ag.z,.int .i64 ag.x,.int .i64 ag.y,.slice ag.fa ag.fn ag.fc,.slice ag.ia ag.m ag.ic,.int .i64 ag.t] 223)).alloc (.cells #[.int .i64 ag.z,.int .i64 ag.x,.int .i64 ag.y,.slice ag.fa ag.fn ag.fc,.slice ag.ia ag.m ag.ic] 153)
    rw [hlen] at this
    exact this
   case c0=>rfl
   case c1 =>
    intro q u hq
    have hq5:q<5:=(List.getElem?_eq_some_iff.1 hq).1
    have hc:q=0∨q=1∨q=2∨q=3∨q=4:=by omega
    rcases hc with rfl | rfl | rfl | rfl | rfl <;> (simp [zF1] at hq;subst hq;simp [Addr.add,go_sem])
   case c2=>exact zEi _
   case c3=>unfold maxLen;omega
   case c4=>omega
   case c5=>first | omega | (show _≤wr.heap.size+1;omega) | (simp;omega)
   intro v' w3 hown' hgrow hnil
   have HF:Hid (zVw W.heap.size w3 v' (L.take (k+1))):=by
    show zVw _ _ _ _
    unfold zVw
    have e1:L.take (k+1)=L.take k ++ [ag]:=by rw [List.take_add_one,hag];rfl
    rw [e1,zEh,List.length_append,hlen]
    exact hown'
   have HB3:Hid (Bw W w3):=by
    show Below _ _ _
    have hb2:Bw W ((wr.alloc (.cells #[.int .i64 ag.z,.int .i64 ag.x,.int .i64 ag.y,.slice ag.fa ag.fn ag.fc,.slice ag.ia ag.m ag.ic,.int .i64 ag.t] 223)).alloc (.cells #[.int .i64 ag.z,.int .i64 ag.x,.int .i64 ag.y,.slice ag.fa ag.fn ag.fc,.slice ag.ia ag.m ag.ic] 153)):=(HB.out.alloc hszr _).alloc (by simp;omega) _
    refine hb2.grown hgrow hb2.size (fun j e=>?_)
    have e':u3.ownBlock=some j:=e
    rcases HO.out.2 with ⟨e2,_⟩ | ⟨g',c',cur,e2,hg',_⟩
    ·rw [e2] at e';cases e'
    ·rw [e2] at e'
     have:g'=j:=by simpa [Value.ownBlock] using e'
     omega
   clear hnil hown' hgrow f0 f1 f2 f3 f4 f5 HO HB
   go_wp2_with fail
   go_roundw
   case rel=>exact ⟨k+1,by have:=HLT.out;omega,by go_num,HF.out,HB3.out⟩
   case measure=>have:=HLT.out;simp [intOf];omega
  ·obtain rfl:k=L.length:=by omega
   rw [List.take_length] at HO
   have HBe:Hid (Bw w wr):=zA HBW.out HB.out
   have hWs:=HBW.out.size
   have HOw:Hid (zVw w.heap.size wr u3 L):=by
    show zVw _ _ _ _
    exact zKu HO.out hWs
   clear hO hB
   go_wp2
   go_ret
   exact ⟨u3,rfl,HOw.out,HBe.out⟩
end Go.Proofs.YtkjbafcalamgnaaGreat
namespace Go.Proofs.YtkjbafcalamgnaaGreat
open Go.RowKit

theorem zRd {z x y wd ht now s:Int}{n:Nat}{K:Nat→Kp}{rn:Nat}{E:Nat→Req}{bad:Int}(h:viewC z x y wd ht now s n K rn E bad=0):zAi z x y wd ht=true∧cacheC s n K=0:=by
 have h1:or2 (uR z x y wd ht) (zFr now bad)=0:=by
  by_cases e:or2 (uR z x y wd ht) (zFr now bad)=0
  ·exact e
  ·rw [zC2 e] at h;exact h
 have h2:or3 (cacheC s n K) (if s<4 then 3 else 0) (zO rn E)=0:=by
  by_cases e:or3 (cacheC s n K) (if s<4 then 3 else 0) (zO rn E)=0
  ·exact e
  ·rw [zB4 h1 e] at h;exact h
 refine ⟨?_,(zGj h2).1⟩
 have h3:=(zGk h1).1
 unfold uR at h3
 by_cases e:zAi z x y wd ht=true
 ·exact e
 ·rw [if_neg e] at h3;cases h3
theorem yX.viewC {w:World}{B b n:Nat}{K A:Nat→Kp}(h:yX w B b n K A)(z x y wd ht now s:Int)(rn:Nat)(E:Nat→Req)(bad:Int):Go.Proofs.YtkjbafcalamgnaaGreat.viewC z x y wd ht now s n A rn E bad=Go.Proofs.YtkjbafcalamgnaaGreat.viewC z x y wd ht now s n K rn E bad:=by
 have e:zC5 z x y wd ht n A E=zC5 z x y wd ht n K E:=by
  funext i
  unfold zC5
  rw [h.atK _ _ _ n (Nat.le_refl _)]
 unfold Go.Proofs.YtkjbafcalamgnaaGreat.viewC
 rw [h.cacheC,e]
end Go.Proofs.YtkjbafcalamgnaaGreat
