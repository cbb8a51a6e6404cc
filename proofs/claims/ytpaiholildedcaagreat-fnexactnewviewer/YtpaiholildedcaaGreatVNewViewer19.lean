/- Texts. -/
import Derived.Test.YtpaiholildedcaaGreatVNewViewer18
set_option linter.unusedSimpArgs false
set_option linter.unusedVariables false
set_option maxRecDepth 100000
set_option maxHeartbeats 32000000
namespace Go.Proofs.YtpaiholildedcaaGreat
open Go.RowKit
end Go.Proofs.YtpaiholildedcaaGreat
namespace Go.Proofs.YtpaiholildedcaaGreat
open Go.RowKit Go.Sort Go.Shelf Go.Maps
def zBt (a:Ag):List Value:=[.int .i64 a.z,.int .i64 a.x,.int .i64 a.y,.slice a.fa a.fn a.fc,.slice a.ia a.m a.ic]
def yU (l:List Ag):List Value:=l.flatMap zBt
theorem zE0 (e:Ag):(zBt e).length=5:=rfl
theorem zAy (e:Ag):∀ v ∈ zBt e,v.oneCell'=true:=by simp [zBt,Value.oneCell']
theorem zD3 (e:Ag)(l:List Ag):yU (e :: l)=zBt e ++ yU l:=rfl
theorem zAx (l k:List Ag):yU (l ++ k)=yU l ++ yU k:=by simp [yU]
theorem zF1:∀ (l:List Ag) (i k:Nat) (e:Ag),l[i]?=some e→k<5→(yU l)[i * 5+k]?=(zBt e)[k]?
 | [],i,k,e,h,_=>by simp at h
 | a :: l,0,k,e,h,hk=>by
  simp at h
  subst h
  rw [zD3,Nat.zero_mul,Nat.zero_add,List.getElem?_append_left (by rw [zE0];exact hk)]
 | a :: l,i+1,k,e,h,hk=>by
  have h':l[i]?=some e:=by simpa using h
  rw [zD3,List.getElem?_append_right (by rw [zE0];omega),zE0,← zF1 l i k e h' hk]
  congr 1
  omega
def zK0 (base:Nat)(w:World)(v:Value)(L:List Ag):Prop:=w.ownsRow base 141 5 v L.length (yU L)
theorem zEr {base B s n:Nat}{t:TypeId}{w:World}{v:Value}{xs:List Value}(h:w.ownsRow base t s v n xs)(hB:B≤base):w.ownsRow B t s v n xs:=by
 obtain ⟨h1,h2 | ⟨g,cp,cur,hv,hg,h3⟩⟩:=h
 ·exact ⟨h1,.inl h2⟩
 ·exact ⟨h1,.inr ⟨g,cp,cur,hv,Nat.le_trans hB hg,h3⟩⟩
theorem zCs (p mb nn:Nat)(s t:Int)(D:DataW Value)(L:List Ag)(w:World)(hp:ShA w p s t mb)(hm:w.ownsMap Tryz.prog 111 RV mb nn D)(hR:Rep D L)(hL:L.length≤1000)(hD:Maps.size D≤1000) :
  Calls Tryz.prog 135 #[.pointer (some ⟨p,0,none⟩)] w fun e w'=>∃ v,e=.returned v∧zK0 w.heap.size w' v L∧Bw w w':=by
 obtain ⟨i0,hi,hz0,hz1,hz2⟩:=info_parts zG9
 have HM:Hid (w.ownsMap Tryz.prog 111 RV mb nn D):=hm
 have HR:Hid (Rep D L):=hR
 have c2:=hp.2.2
 clear hp hm hR
 go_enter Tryz.func135,Tryz.ntmps135
 go_wp2_with fail
 refine (zDk mb w).mono ?_
 rintro e w1 ⟨rfl,hw1⟩
 have HB1:Hid (Bw w w1):=by show Below _ _ _;subst hw1;exact yX (Below.refl _ _) _
 have h1:w1.cell? ⟨w.heap.size,0,none⟩=some (.map (some mb)):=by subst hw1;simp [go_sem]
 clear hw1 c2
 have HS:=(show Hid _ from zGw w.heap.size mb nn D L w1 (World.block_lt_of_cell? _ _ h1) h1 (zW HM.out HB1.out) HR.out (by omega) (by omega))
 clear h1
 go_wp2_with fail
 refine Calls.mono HS.out ?_
 rintro e W ⟨v,rfl,hA,hb2⟩
 have HA:Hid (IsAgs W v L):=hA
 have HBW:Hid (Bw w W):=zB HB1.out hb2
 obtain ⟨va,vc,hv⟩:∃ a c,v=.slice a L.length c:=by
  rcases hA with ⟨h0,a,c,hv⟩ | ⟨g,c,hv,_⟩
  ·exact ⟨a,c,by rw [hv,h0];rfl⟩
  ·exact ⟨_,c,hv⟩
 subst hv
 clear hA hb2 HS HB1 HM HR
 go_wp2_with fail
 go_loopw [3,13] (fun u i wr=>∃ k:Nat,k≤L.length∧i=.int .i64 (k:Int)∧zK0 W.heap.size wr u (L.take k)∧Bw W wr) (fun _ i _=>L.length - (intOf i).toNat)
 case atStart=>exact ⟨0,by omega,rfl,by rw [List.take_zero];exact World.ownsRow_nil _ _ _ _,Below.refl _ _⟩
 case round =>
  obtain ⟨k,hk,rfl,hO,hB⟩:=hrel
  have HO:Hid (zK0 W.heap.size wr u3 (L.take k)):=hO
  have HB:Hid (Bw W wr):=hB
  by_cases hlt:k<L.length
  ·obtain ⟨ag,hag⟩:∃ ag,L[k]?=some ag:=⟨_,List.getElem?_eq_getElem hlt⟩
   rcases HA.out with ⟨h0,_⟩ | ⟨g,c,hv,hgl,hcs⟩
   ·rw [h0] at hlt;simp at hlt
   injection hv with e1 _ e3
   subst e1 e3
   obtain ⟨f0,f1,f2,f3,f4,f5⟩:=(hcs.below hgl hB) k ag hag
   have HLT:Hid (k<L.length):=hlt
   have hi':(k:Int)<(L.length:Int):=by omega
   have hi0:(0:Int)≤(k:Int):=by omega
   have hlen:(L.take k).length=k:=by rw [List.length_take];omega
   have hszr:=hB.size
   clear hO hB hcs
   go_wp2_with (first
    | (at_builtin;go_must (refine wpList_append_own _ rfl _ _ 26 rfl W.heap.size 141 i0 (.agg zDv) 5 72 Tryz.underlying26 hi hz0 hz1 hz2 rfl (by decide) u3 k (yU (L.take k)) rfl ?c6 ⟨wr.heap.size+1,0,none⟩ 1 1 (zBt ag) rfl ?c0 ?c1 ?c2 ?c3 ?c4 ?c5 ?_)))
   case c6 =>
    have:=(HO.out.alloc (.cells #[.int .i64 ag.z,.int .i64 ag.x,.int .i64 ag.y,.slice ag.fa ag.fn ag.fc,.slice ag.ia ag.m ag.ic,.int .i64 ag.t] 181)).alloc (.cells #[.int .i64 ag.z,.int .i64 ag.x,.int .i64 ag.y,.slice ag.fa ag.fn ag.fc,.slice ag.ia ag.m ag.ic] 141)
    rw [hlen] at this
    exact this
   case c0=>rfl
   case c1 =>
    intro q u hq
    have hq5:q<5:=(List.getElem?_eq_some_iff.1 hq).1
    have hc:q=0∨q=1∨q=2∨q=3∨q=4:=by omega
    rcases hc with rfl | rfl | rfl | rfl | rfl <;> (simp [zBt] at hq;subst hq;simp [Addr.add,go_sem])
   case c2=>exact zAy _
   case c3=>unfold maxLen;omega
   case c4=>omega
   case c5=>first | omega | (show _≤wr.heap.size+1;omega) | (simp;omega)
   intro v' w3 hown' hgrow hnil
   have HF:Hid (zK0 W.heap.size w3 v' (L.take (k+1))):=by
    show zK0 _ _ _ _
    unfold zK0
    have e1:L.take (k+1)=L.take k ++ [ag]:=by rw [List.take_add_one,hag];rfl
    rw [e1,zAx,List.length_append,hlen]
    exact hown'
   have HB3:Hid (Bw W w3):=by
    show Below _ _ _
    have hb2:Bw W ((wr.alloc (.cells #[.int .i64 ag.z,.int .i64 ag.x,.int .i64 ag.y,.slice ag.fa ag.fn ag.fc,.slice ag.ia ag.m ag.ic,.int .i64 ag.t] 181)).alloc (.cells #[.int .i64 ag.z,.int .i64 ag.x,.int .i64 ag.y,.slice ag.fa ag.fn ag.fc,.slice ag.ia ag.m ag.ic] 141)):=(HB.out.alloc hszr _).alloc (by simp;omega) _
    refine hb2.grown hgrow hb2.size (fun j e=>?_)
    have e':u3.ownBlock=some j:=e
    rcases HO.out.2 with ⟨e2,_⟩ | ⟨g',c',cur,e2,hg',_⟩
    ·rw [e2] at e';cases e'
    ·rw [e2] at e'
     have:g'=j:=by simpa [Value.ownBlock] using e'
     omega
   clear hnil hown' hgrow f0 f1 f2 f3 f4 f5 HO HB
   go_wp2_with fail
   go_roundw
   case rel=>exact ⟨k+1,by have:=HLT.out;omega,by go_num,HF.out,HB3.out⟩
   case measure=>have:=HLT.out;simp [intOf];omega
  ·obtain rfl:k=L.length:=by omega
   rw [List.take_length] at HO
   have HBe:Hid (Bw w wr):=zB HBW.out HB.out
   have hWs:=HBW.out.size
   have HOw:Hid (zK0 w.heap.size wr u3 L):=by
    show zK0 _ _ _ _
    exact zEr HO.out hWs
   clear hO hB
   go_wp2
   go_ret
   exact ⟨u3,rfl,HOw.out,HBe.out⟩
end Go.Proofs.YtpaiholildedcaaGreat
namespace Go.Proofs.YtpaiholildedcaaGreat
open Go.RowKit
end Go.Proofs.YtpaiholildedcaaGreat
namespace Go.Proofs.YtpaiholildedcaaGreat
open Go.RowKit Go.Sort Go.Shelf Go.Maps
def isA (a:Ag)(z x y:Int):Bool:=(a.z == z) && ((a.x == x) && (a.y == y))
theorem zAa {a:Ag}{z x y:Int}:isA a z x y=true ↔ a.z=z∧a.x=x∧a.y=y:=by simp [isA]
theorem uZ {a:Ag}{z x y:Int}(ha:I64 a.z∧I64 a.x∧I64 a.y)(hr:I64 z∧I64 x∧I64 y):zBu a=uS z x y ↔ isA a z x y=true:=by
 rw [zAa]
 exact ⟨fun e=>zKf ha.1 ha.2.1 ha.2.2 hr.1 hr.2.1 hr.2.2 e,fun ⟨h1,h2,h3⟩=>by unfold zBu;rw [h1,h2,h3]⟩
def xB (L:List Ag)(z x y:Int):List Ag:=L.filter (fun b=>!isA b z x y)
theorem yQ {L:List Ag}{z x y:Int}{a:Ag}:a ∈ xB L z x y ↔ a ∈ L∧isA a z x y=false:=by simp [xB]
theorem vL {L:List Ag}{z x y:Int}(h:∀ a ∈ L,isA a z x y=false):xB L z x y=L:=by
 unfold xB
 exact List.filter_eq_self.2 (fun a ha=>by rw [h a ha];rfl)
theorem zAw:∀ {L:List Ag} {z x y:Int},L.Pairwise (fun a b=>zBu a≠zBu b)→(∃ a ∈ L,isA a z x y=true)→(xB L z x y).length+1=L.length
 | [],_,_,_,_,⟨a,ha,_⟩=>by simp at ha
 | b :: L,z,x,y,hk,⟨a,ha,hA⟩=>by
  obtain ⟨h1,h2⟩:=List.pairwise_cons.1 hk
  cases hb:isA b z x y
  ·have ha':a ∈ L:=(List.mem_cons.1 ha).resolve_left (fun e=>by rw [e,hb] at hA;cases hA)
   have ih:=zAw h2 ⟨a,ha',hA⟩
   unfold xB at *
   rw [List.filter_cons_of_pos (by rw [hb];rfl)]
   simp only [List.length_cons]
   omega
  ·have hno:∀ c ∈ L,isA c z x y=false:=fun c hc=>by
    cases hcA:isA c z x y
    ·rfl
    ·exfalso
     obtain ⟨e1,e2,e3⟩:=zAa.1 hb
     obtain ⟨d1,d2,d3⟩:=zAa.1 hcA
     exact h1 c hc (by unfold zBu;rw [e1,e2,e3,d1,d2,d3])
   have:=vL hno
   unfold xB at *
   rw [List.filter_cons_of_neg (by rw [hb];decide),this]
   rfl
theorem Rep.hasR {D:DataW Value}{L:List Ag}(h:Rep D L){z x y:Int}(hr:I64 z∧I64 x∧I64 y):Maps.has D (uS z x y)=true ↔ ∃ a ∈ L,isA a z x y=true:=by
 obtain ⟨k,hk⟩:∃ k,uS z x y=.string k:=⟨_,rfl⟩
 rw [hk,h.has k]
 exact ⟨fun ⟨a,ha,e⟩=>⟨a,ha,(uZ (h.ints a ha) hr).1 (e.trans hk.symm)⟩,fun ⟨a,ha,e⟩=>⟨a,ha,((uZ (h.ints a ha) hr).2 e).trans hk⟩⟩
theorem Rep.nil:Rep (.map []) []:=⟨Maps.tidy_empty,rfl,by simp,fun x=>by simp [Maps.has],by simp,List.Pairwise.nil,List.Pairwise.nil⟩
theorem Rep.less {D:DataW Value}{L:List Ag}(h:Rep D L){z x y:Int}(hr:I64 z∧I64 x∧I64 y):Rep (D.del (uS z x y)) (xB L z x y):=by
 obtain ⟨k,hk⟩:∃ k,uS z x y=.string k:=⟨_,rfl⟩
 refine ⟨h.tidy.del _,?_,fun a ha=>h.ints a (yQ.1 ha).1,fun q=>?_,fun a ha zd=>?_,h.keys.filter _,h.turns.filter _⟩
 ·have hs:=Maps.size_del h.tidy (k:=uS z x y)
  by_cases hh:∃ a ∈ L,isA a z x y=true
  ·rw [if_pos ((h.hasR hr).2 hh)] at hs
   have:=zAw h.keys hh
   have:=h.size
   omega
  ·rw [if_neg (fun e=>hh ((h.hasR hr).1 e))] at hs
   have hno:∀ a ∈ L,isA a z x y=false:=fun a ha=>by
    cases e:isA a z x y
    ·rfl
    ·exact absurd ⟨a,ha,e⟩ hh
   rw [vL hno]
   have:=h.size
   omega
 ·by_cases e:(.string q:Lit)=uS z x y
  ·rw [e,Maps.has_del_same]
   constructor
   ·intro h';cases h'
   ·rintro ⟨a,ha,hka⟩
    obtain ⟨ha1,ha2⟩:=yQ.1 ha
    have:=(uZ (h.ints a ha1) hr).1 hka
    rw [ha2] at this;cases this
  ·rw [Maps.has_del_other e,h.has q]
   constructor
   ·rintro ⟨a,ha,hka⟩
    refine ⟨a,yQ.2 ⟨ha,?_⟩,hka⟩
    cases hA:isA a z x y
    ·rfl
    ·exact absurd (hka.symm.trans ((uZ (h.ints a ha) hr).2 hA)) e
   ·rintro ⟨a,ha,hka⟩
    exact ⟨a,(yQ.1 ha).1,hka⟩
 ·obtain ⟨ha1,ha2⟩:=yQ.1 ha
  have hne:zBu a≠uS z x y:=fun e=>by
   have:=(uZ (h.ints a ha1) hr).1 e
   rw [ha2] at this;cases this
  rw [Maps.atKey_del_other hne]
  exact h.at_ a ha1 zd
theorem Rep.put {D:DataW Value}{L:List Ag}(h:Rep D L)(a:Ag)(hr:I64 a.z∧I64 a.x∧I64 a.y)(ht:∀ b ∈ L,b.t<a.t):Rep (D.put (zBu a) (.held (agW a))) (xB L a.z a.x a.y ++ [a]):=by
 have hne:∀ b ∈ xB L a.z a.x a.y,zBu b≠zBu a:=fun b hb e=>by
  obtain ⟨hb1,hb2⟩:=yQ.1 hb
  have:=(uZ (h.ints b hb1) hr).1 e
  rw [hb2] at this;cases this
 refine ⟨h.tidy.put (zCr _ _ _) _,?_,fun b hb=>?_,fun q=>?_,fun b hb zd=>?_,?_,?_⟩
 ·rw [Maps.size_put h.tidy,List.length_append]
  by_cases hh:∃ b ∈ L,isA b a.z a.x a.y=true
  ·rw [if_pos ((h.hasR hr).2 hh),h.size,← zAw h.keys hh];rfl
  ·rw [if_neg (fun e=>hh ((h.hasR hr).1 e)),h.size]
   have hno:∀ b ∈ L,isA b a.z a.x a.y=false:=fun b hb=>by
    cases e:isA b a.z a.x a.y
    ·rfl
    ·exact absurd ⟨b,hb,e⟩ hh
   rw [vL hno];rfl
 ·rcases List.mem_append.1 hb with hb | hb
  ·exact h.ints b (yQ.1 hb).1
  ·simp at hb;rw [hb];exact hr
 ·by_cases e:(.string q:Lit)=zBu a
  ·rw [e,Maps.has_put_same h.tidy.isMap (zCr _ _ _)]
   exact ⟨fun _=>⟨a,List.mem_append_right _ (by simp),rfl⟩,fun _=>rfl⟩
  ·rw [Maps.has_put_other e,h.has q]
   constructor
   ·rintro ⟨b,hb,hkb⟩
    refine ⟨b,List.mem_append_left _ (yQ.2 ⟨hb,?_⟩),hkb⟩
    cases hA:isA b a.z a.x a.y
    ·rfl
    ·exact absurd (hkb.symm.trans ((uZ (h.ints b hb) hr).2 hA)) e
   ·rintro ⟨b,hb,hkb⟩
    rcases List.mem_append.1 hb with hb | hb
    ·exact ⟨b,(yQ.1 hb).1,hkb⟩
    ·simp at hb;subst hb;exact absurd hkb.symm e
 ·rcases List.mem_append.1 hb with hb | hb
  ·rw [Maps.atKey_put_other (hne b hb)]
   exact h.at_ b (yQ.1 hb).1 zd
  ·simp at hb;subst hb
   exact Maps.atKey_put_same h.tidy.isMap (zCr _ _ _) _ _
 ·refine List.pairwise_append.2 ⟨h.keys.filter _,by simp,fun b hb c hc=>?_⟩
  simp at hc;subst hc
  exact hne b hb
 ·refine List.pairwise_append.2 ⟨h.turns.filter _,by simp,fun b hb c hc=>?_⟩
  simp at hc;subst hc
  exact ht b (yQ.1 hb).1
def agK (k:Kp)(t:Int):Ag:=⟨k.z,k.x,k.y,k.fa,k.fn,k.fc,k.ia,k.m,k.ic,t⟩
def agL (A:Nat→Kp):Nat→List Ag
 | 0=>[]
 | k+1=>agL A k ++ [agK (A k) ((k:Int)+1)]
theorem zKw (A:Nat→Kp):∀ k,(agL A k).length=k
 | 0=>rfl
 | k+1=>by simp [agL,zKw A k]
theorem zHk {A:Nat→Kp}{a:Ag}:∀ {k:Nat},a ∈ agL A k ↔ ∃ i,i<k∧a=agK (A i) ((i:Int)+1)
 | 0=>by simp [agL]
 | k+1=>by
  rw [agL,List.mem_append,zHk]
  constructor
  ·rintro (⟨i,hi,e⟩ | h)
   ·exact ⟨i,by omega,e⟩
   ·simp at h;exact ⟨k,by omega,h⟩
  ·rintro ⟨i,hi,e⟩
   by_cases hk:i=k
   ·subst hk;exact .inr (by simp [e])
   ·exact .inl ⟨i,by omega,e⟩
theorem zJr {A:Nat→Kp}:∀ k,(∀ j,j<k→kC A j=0)→Rep (shD A k) (agL A k)
 | 0,_=>Rep.nil
 | k+1,h=>by
  have ih:=zJr k (fun j hj=>h j (by omega))
  obtain ⟨h0,h1⟩:=uH (h k (by omega))
  have hI:=zL7 h0
  have hp:=ih.put (agK (A k) ((k:Int)+1)) hI (fun b hb=>by
   obtain ⟨i,hi,rfl⟩:=zHk.1 hb
   show (i:Int)+1<(k:Int)+1
   omega)
  rw [vL (fun b hb=>?_)] at hp
  ·exact hp
  ·obtain ⟨i,hi,rfl⟩:=zHk.1 hb
   cases e:isA (agK (A i) ((i:Int)+1)) (agK (A k) ((k:Int)+1)).z (agK (A k) ((k:Int)+1)).x (agK (A k) ((k:Int)+1)).y
   ·rfl
   ·exfalso
    obtain ⟨e1,e2,e3⟩:=zAa.1 e
    exact h1 (xF.2 ⟨i,hi,xA.2 ⟨e1,e2,e3⟩⟩)
end Go.Proofs.YtpaiholildedcaaGreat
namespace Go.Proofs.YtpaiholildedcaaGreat
open Go.RowKit


end Go.Proofs.YtpaiholildedcaaGreat
