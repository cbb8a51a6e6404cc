/- Texts. -/
import Derived.Test.YtkjbafcalamgnaaGreatVMapFault9
import Derived.Test.YtkjbafcalamgnaaGreatVMapFault17
import Derived.RangeFuncNested
import Derived.RangeFuncBound
import Derived.Shelf.RegionOpen
import Derived.OwnWalkIn
import Derived.LoopNIn
import Derived.LoopIn
set_option linter.unusedSimpArgs false
set_option linter.unusedVariables false
set_option maxRecDepth 100000
set_option maxHeartbeats 32000000
namespace Go.Proofs.YtkjbafcalamgnaaGreat
open Go.RowKit
def zJ6 (z cx cy:Int)(f:zS):Bool:=xV f.ki f.wi z cx cy (yU f.X f.Y f.n)
def yW (C:Nat→Bool)(I:Nat→Int):Nat→Int
 | 0=>0
 | n+1=>if C n=true then I n else yW C I n
def zY (G:Nat→zS)(n:Nat)(z x y:Int):Int:=yW (fun i=>zJ6 z (zV z x) (zV z y) (G i)) (fun i=>(G i).id) n
theorem zJe {G:Nat→zS}{n:Nat}{z x y:Int}(h:zJ6 z (zV z x) (zV z y) (G n)=true):zY G (n+1) z x y=(G n).id:=by
 unfold zY;rw [yW,if_pos h]
theorem zLd {G:Nat→zS}{n:Nat}{z x y:Int}(h:zJ6 z (zV z x) (zV z y) (G n)=false):zY G (n+1) z x y=zY G n z x y:=by
 unfold zY;rw [yW,if_neg (by rw [h];simp)]
structure OkF (f:zS):Prop where
 kn:kindN f.ki f.n
 n0:0<f.n
 n12:f.n≤12
 inw:∀ i,i<f.n→inW (f.X i) (f.Y i)=true
 wid:0≤f.wi∧f.wi≤3
theorem okF_of {f:zS}(h:zH f.id f.la f.ki f.wi f.n f.X f.Y f.lab f.pr=0):OkF f:=by
 obtain ⟨hk,h0,h12,hkn,hin,_⟩:=zJ0 h
 refine ⟨?_,h0,h12,hin,(zLz h).2.2.1⟩
 rcases hk with hk | hk | hk
 ·rw [hk] at h
  exact .inl ⟨hk,zHt h⟩
 ·exact .inr (.inl ⟨hk,by omega⟩)
 ·exact .inr (.inr ⟨hk,by omega⟩)
theorem zFx {n:Nat}{G:Nat→zS}(h:zK n G=0):n≤12∧∀ i,i<n→OkF (G i):=⟨(zCd h).1,fun i hi=>okF_of ((zCd h).2.2 i hi)⟩
theorem vS.pts {w:World}{b off n i:Nat}{G:Nat→zS}(h:vS w b off n G)(hi:i<n)(h0:0<(G i).n):∃ q o,(G i).a=some ⟨q,o,none⟩∧q<w.heap.size∧zI w q o (G i).n (G i).X (G i).Y:=by
 rcases (h i hi).2 with h' | ⟨q,o,e,hl,hp⟩
 ·omega
 ·exact ⟨q,o,e,hl,hp⟩
theorem zAm {w:World}{base:Nat}{t:TypeId}{s:Nat}{v:Value}{n:Nat}{l:List Value}(h:w.ownsRow base t s v (n+1) l):∃ a c,v=.slice a (n+1) c:=by
 obtain ⟨_,h2 | ⟨g,cp,cur,hv,_⟩⟩:=h
 ·exact absurd h2.2 (by omega)
 ·exact ⟨_,_,hv⟩
def zBv (G:Int→Int→Int)(x y:Int)(k:Nat):List Int:=(List.range k).map fun (k:Nat)=>G (x+((k % 8:Nat):Int)) (y+((k / 8:Nat):Int))
theorem rasK_64 (G:Int→Int→Int)(x y:Int):zAi G x y 8 8=zBv G x y 64:=rfl
theorem zMz (G:Int→Int→Int)(x y:Int)(k:Nat):zBv G x y (k+1)=zBv G x y k ++ [G (x+((k % 8:Nat):Int)) (y+((k / 8:Nat):Int))]:=by simp [zBv,List.range_succ]
theorem zMy (G:Int→Int→Int)(x y:Int)(k:Nat):(zBv G x y k).length=k:=by simp [zBv]
theorem zDb {z x y:Int}(h:zAk z x y=true)(m q:Nat)(hm:m<8)(hq:q<8):vN z (x * 8+(m:Int)) (y * 8+(q:Int))=true:=by
 have hz:yR z=true:=by simp [zAk] at h;exact h.1
 unfold zAk at h
 rcases zN hz with rfl | rfl | rfl | rfl <;> simp [inB,vH] at h <;> simp [vN,inB,uV,hz] <;> omega
theorem zD9 (b n cap:Nat)(G:Nat→zS)(z x y:Int)(w:World)(hg:vS w b 0 n G)(hbl:b<w.heap.size)(hn:n≤12)(hok:∀ i,i<n→OkF (G i))(hpx:vN z x y=true) :
  Calls Tryz.prog 155 #[.slice (some ⟨b,0,none⟩) n cap,.int .i64 z,.int .i64 x,.int .i64 y] w fun e w'=>e=.returned (.int .i64 (zY G n z x y))∧Bw w w':=by
 have HG:Hid (vS w b 0 n G):=hg
 have HOK:Hid (∀ i,i<n→OkF (G i)):=hok
 have HPX:Hid (vN z x y=true):=hpx
 clear hg hok hpx
 have hn0:IntKind.i64.wrap ((n:Int) - 1)=(n:Int) - 1:=IntWalk.i64_in _ (by omega)
 go_enter Tryz.func155,Tryz.ntmps155
 go_wp2_with fail
 go_loopw [9] (fun i wr=>∃ k:Nat,k≤n∧i=.int .i64 ((k:Int) - 1)∧zY G n z x y=zY G k z x y∧Bw w wr) (fun i _=>(intOf i+1).toNat)
 case atStart=>exact ⟨n,Nat.le_refl _,by first | rfl | rw [hn0],rfl,Below.refl _ _⟩
 case round =>
  obtain ⟨k,hk,hi,hE,hB⟩:=hrel
  cases k with
  | zero =>
   have HE:Hid (zY G n z x y=0):=hE
   clear hE
   subst hi
   go_wp2
   go_ret
   exact ⟨zC HE.out.symm,hB⟩
  | succ m =>
   have em:(((m+1:Nat):Int) - 1)=(m:Int):=by omega
   rw [em] at hi
   subst hi
   have HE:Hid (zY G n z x y=zY G (m+1) z x y):=hE
   have HB:Hid (Bw w wr):=hB
   have hlt:m<n:=by omega
   have hOK:=HOK.out m hlt
   have hGr:=HG.out.below hB hbl
   obtain ⟨q,o,ea,hql,hpt⟩:=hGr.pts hlt hOK.n0
   have hf:=(hGr m hlt).1
   rw [ea,Nat.zero_add] at hf
   have q0:=hf.1
   have sC:∀ W,Bw wr W→Calls Tryz.prog 191 #[.pointer (some ⟨b,m * 7,none⟩),.int .i64 z,.int .i64 x,.int .i64 y] W fun e w'=>e=.returned (.bool (zJ6 z (zV z x) (zV z y) (G m)))∧Bw W w':=fun W hW =>
    zFi b (m * 7) (G m).id (G m).la (G m).ki (G m).wi z x y q o (G m).n (G m).cap (G m).X (G m).Y (G m).lab (G m).pr W (hf.below hW (Nat.lt_of_lt_of_le hbl hB.size)) (hpt.below hW hql) (Nat.lt_of_lt_of_le hql hW.size) (by have:=hOK.n12;omega) hOK.kn hOK.inw hOK.wid HPX.out
   have SC:=(show Hid _ from sC)
   have hi1:(m:Int)<(n:Int):=by omega
   have hi0:(0:Int)≤(m:Int):=by omega
   have hm1:IntKind.i64.wrap ((m:Int) - 1)=(m:Int) - 1:=IntWalk.i64_in _ (by omega)
   clear hE hB hGr hf hpt sC
   cases hc:zJ6 z (zV z x) (zV z y) (G m)
   ·have HE2:Hid (zY G n z x y=zY G m z x y):=by show _=_;rw [HE.out,zLd hc]
    rw [hc] at SC
    clear hc q0
    go_wp2_with fail
    refine (SC.out _ (Below.refl _ _)).mono ?_
    rintro e w1 ⟨rfl,hb1⟩
    go_wp2_with fail
    exact ⟨⟨m,by omega,by first | rfl | rw [hm1],HE2.out,zA HB.out hb1⟩,by simp [intOf] <;> omega⟩
   ·have HE2:Hid (zY G n z x y=(G m).id):=by show _=_;rw [HE.out,zJe hc]
    rw [hc] at SC
    clear hc
    have HQ0:Hid (wr.cell? ⟨b,m * 7,none⟩=some (.int .i64 (G m).id)):=q0
    clear q0
    go_wp2_with fail
    refine (SC.out _ (Below.refl _ _)).mono ?_
    rintro e w1 ⟨rfl,hb1⟩
    have q1:w1.cell? ⟨b,m * 7,none⟩=some (.int .i64 (G m).id):=(hb1.cell (p:=⟨b,m * 7,none⟩) (World.block_lt_of_cell? _ _ HQ0.out)).trans HQ0.out
    go_wp2
    go_ret
    exact ⟨zC HE2.out.symm,zA HB.out hb1⟩
def zGi (w:World)(q:Nat)(z x y:Int)(v:Value):Prop:=w.cell? ⟨q,0,none⟩=some (.int .i64 z)∧w.cell? ⟨q,1,none⟩=some (.int .i64 x)∧w.cell? ⟨q,2,none⟩=some (.int .i64 y)∧w.cell? ⟨q,3,none⟩=some v
theorem zGi.below {w w':World}{q B:Nat}{z x y:Int}{v:Value}(h:zGi w q z x y v)(hb:Below B w w')(hq:q<B):zGi w' q z x y v :=
 ⟨(hb.cell (p:=⟨q,0,none⟩) hq).trans h.1,(hb.cell (p:=⟨q,1,none⟩) hq).trans h.2.1,(hb.cell (p:=⟨q,2,none⟩) hq).trans h.2.2.1,(hb.cell (p:=⟨q,3,none⟩) hq).trans h.2.2.2⟩
noncomputable def rtC (z x y:Int)(n:Nat)(G:Nat→zS):Int:=if zCq z x y=0 then (if zK n G=0 then (if zCw n G=true then 0 else 1) else zK n G) else zCq z x y
noncomputable def rtL (z x y:Int)(n:Nat)(G:Nat→zS):List Int:=if rtC z x y n G=0 then zBv (zY G n z) (x * 8) (y * 8) 64 else []
theorem there2t (w:World)(x y:Value)(t:TypeId):zD (w.alloc (.cells #[x,y] t)) w.heap.size 2:=fun o ho=>by
 have:o=0∨o=1:=by omega
 rcases this with rfl | rfl <;> exact ⟨⟨_,by simp [go_sem];rfl⟩,by simp [go_sem]⟩
theorem set2t {W:World}{r:Nat}{a b:Value}(hT:zD W r 2) :
  ((W.setCell ⟨r,0,none⟩ a).setCell ⟨r,1,none⟩ b).cell? ⟨r,0,none⟩=some a∧((W.setCell ⟨r,0,none⟩ a).setCell ⟨r,1,none⟩ b).cell? ⟨r,1,none⟩=some b:=by
 obtain ⟨u0,h0⟩:=(hT 0 (by omega)).1
 obtain ⟨u1,h1⟩:=(hT 1 (by omega)).1
 have ne:∀ i j:Nat,i≠j→(⟨r,i,none⟩:Addr)≠⟨r,j,none⟩:=fun i j hij h=>hij (by injection h)
 refine ⟨?_,?_⟩
 ·rw [zB (ne 1 0 (by omega))];exact zG h0
 ·exact zG (by rw [zB (ne 0 1 (by omega))];exact h1)
theorem zFe (w:World)(base:Nat):OwnN w base (.slice none 0 0) ([]:List Int).length (nz []):=⟨none,0,rfl,Nat.le_refl _,.inl rfl⟩
theorem zMw {z x y:Int}{n:Nat}{G:Nat→zS}(h:rtC z x y n G=0):zAk z x y=true∧zK n G=0∧zCw n G=true:=by
 unfold rtC at h
 rcases vE z x y with ⟨hc,hr⟩ | ⟨hc,hr⟩
 ·rw [if_pos hc] at h
  by_cases hf:zK n G=0
  ·rw [if_pos hf] at h
   cases ho:zCw n G
   ·rw [ho] at h;simp at h
   ·exact ⟨hr,hf,rfl⟩
  ·rw [if_neg hf] at h;exact absurd h hf
 ·rw [hc] at h;simp at h
end Go.Proofs.YtkjbafcalamgnaaGreat
namespace Go.Proofs.YtkjbafcalamgnaaGreat
open Go.RowKit Go.Shelf
attribute [local go_sem] Oper.semAt_some
def KS (T Bs:Nat)(A B:World):Prop:=Below T A B∧B.heap[Bs]?=A.heap[Bs]?
theorem KS.refl (T Bs:Nat)(A:World):KS T Bs A A:=⟨Below.refl _ _,rfl⟩
theorem KS.trans {T Bs:Nat}{A B C:World}(h:KS T Bs A B)(k:KS T Bs B C):KS T Bs A C:=⟨h.1.trans k.1,k.2.trans h.2⟩
theorem KS.alloc {T Bs:Nat}{A B:World}(h:KS T Bs A B)(hT:T≤A.heap.size)(hB:Bs<A.heap.size)(o:Obj):KS T Bs A (B.alloc o):=⟨h.1.alloc (Nat.le_trans hT h.1.size) o,(Below.heap_alloc B o Bs (Nat.lt_of_lt_of_le hB h.1.size)).trans h.2⟩
theorem KS.cell {T Bs:Nat}{A B:World}(h:KS T Bs A B){v:Value}(hc:A.cell? ⟨Bs,0,none⟩=some v):B.cell? ⟨Bs,0,none⟩=some v:=(World.cell?_of_block (w:=A) (a:=⟨Bs,0,none⟩) h.2).trans hc
theorem KS.put {T Bs:Nat}{w:World}(hT:T≤w.heap.size)(hB:Bs<w.heap.size)(W:World)(l:Nat)(o o':Obj)(hl:w.heap.size≤l)(h1:W.heap[l]?=some o)(h2:o.isCells=false)(h3:o.isWalk=false):KS T Bs W (W.putObj l o'):=⟨belowK_b (w:=w) hT W l o o' hl h1 h2 h3,by
 have:=(belowK_b (w:=w) (n₀:=Bs+1) hB W l o o' hl h1 h2 h3).block Bs (Nat.lt_succ_self _)
 exact this⟩
theorem uE {W W':World}{row:Option Nat}{b:Nat}{arr:Array Value}{t:TypeId}{fz:Nat × Nat}(h:W.heap[b]?=some (.cells arr t fz))(hg:W.grownBy W' row)(hr:∀ r,row=some r→∃ o:Obj,W.heap[r]?=some o∧o.isCells=false):W'.heap[b]?=some (.cells arr t fz):=by
 rw [hg.block b (yJ h) (fun e=>by
  obtain ⟨o,ho,hc⟩:=hr b e.symm
  rw [h] at ho
  cases ho
  cases hc)]
 exact h
theorem zOc {W W':World}(h:Below W.heap.size W W'):KeepsOthers W W':=⟨h.size,fun k o hk _=>(h.block k (yJ hk)).trans hk⟩
def vB (n k:Nat):List Nat:=(List.range k).map fun j=>n - 1 - j
theorem zDk (n k:Nat):vB n (k+1)=vB n k ++ [n - 1 - k]:=by simp [vB,List.range_succ]
theorem vK (n k:Nat):(vB n k).length=k:=by simp [vB]
theorem zF4 (n k m:Nat)(h:k≤m):vB n k <+: vB n m:=by
 obtain ⟨d,rfl⟩:∃ d,m=k+d:=⟨m - k,by omega⟩
 unfold vB
 rw [List.range_add,List.map_append]
 exact List.prefix_append _ _
theorem zF5 {n:Nat}{l:List Nat}(h:l <+: vB n n):l=vB n l.length∧l.length≤n:=by
 have hl:=h.length_le
 rw [vK] at hl
 have h1:=zF4 n l.length n hl
 refine ⟨?_,hl⟩
 exact (List.prefix_of_prefix_length_le h h1 (by rw [vK];exact Nat.le_refl _)).eq_of_length (by rw [vK])
abbrev Pl (n:Nat):={ i:Nat // i<n }
theorem zBz {C:Nat→Bool}{I:Nat→Int}:∀ {n:Nat},(∀ i,i<n→C i=false)→yW C I n=0
 | 0,_=>rfl
 | n+1,h=>by rw [yW,h n (by omega),if_neg (by simp)];exact zBz fun i hi=>h i (by omega)
theorem zBy {C:Nat→Bool}{I:Nat→Int}:∀ {n i:Nat},i<n→C i=true→(∀ j,i<j→j<n→C j=false)→yW C I n=I i
 | n+1,i,hi,h,hn=>by
  rw [yW]
  by_cases e:i=n
  ·subst e;rw [h,if_pos rfl]
  ·rw [hn n (by omega) (by omega),if_neg (by simp)]
   exact zBy (by omega) h fun j h1 h2=>hn j h1 (by omega)
theorem zJz {C:Nat→Bool}{I:Nat→Int}{n:Nat}{ys:List (Pl n)}(h:ys.map (·.1)=vB n n)(ha:∀ x ∈ ys,C x.1=false):yW C I n=0:=by
 refine zBz fun i hi=>?_
 have hm:i ∈ ys.map (·.1):=by
  rw [h]
  unfold vB
  exact List.mem_map.2 ⟨n - 1 - i,List.mem_range.2 (by omega),by omega⟩
 obtain ⟨x,hx,rfl⟩:=List.mem_map.1 hm
 exact ha x hx
theorem zJy {C:Nat→Bool}{I:Nat→Int}{n:Nat}{p:List (Pl n)}{x:Pl n}(h:(p ++ [x]).map (·.1) <+: vB n n)(ha:∀ y ∈ p,C y.1=false)(hx:C x.1=true):yW C I n=I x.1:=by
 obtain ⟨h1,h2⟩:=zF5 h
 have hl:((p ++ [x]).map (·.1)).length=p.length+1:=by simp
 rw [hl] at h1 h2
 rw [zDk,List.map_append] at h1
 have e1:p.map (·.1)=vB n p.length:=by
  have:=List.append_inj_left h1 (by rw [vK];simp)
  exact this
 have e2:x.1=n - 1 - p.length:=by
  have:=List.append_inj_right h1 (by rw [vK];simp)
  simpa using this
 refine zBy x.2 hx fun j h3 h4=>?_
 have hm:j ∈ p.map (·.1):=by
  rw [e1]
  unfold vB
  exact List.mem_map.2 ⟨n - 1 - j,List.mem_range.2 (by omega),by omega⟩
 obtain ⟨y,hy,rfl⟩:=List.mem_map.1 hm
 exact ha y hy
end Go.Proofs.YtkjbafcalamgnaaGreat
namespace Go.Proofs.YtkjbafcalamgnaaGreat
open Go.RowKit
end Go.Proofs.YtkjbafcalamgnaaGreat
namespace Go.Proofs.YtkjbafcalamgnaaGreat
open Go.RowKit Go.Shelf
attribute [local go_sem] Oper.semAt_some
structure Shp where
 id:Int
 ki:Int
 wi:Int
 g:Nat
 n:Nat
 cg:Nat
 X:Nat→Int
 Y:Nat→Int
abbrev shpV (z:Int)(s:Shp):Value:=.agg #[.int .i64 s.id,.func (.func (byF s.ki)) #[] #[],.slice (some ⟨s.g,0,none⟩) s.n s.cg,.int .i64 (zX s.wi z)]
def ShpC (w:World)(p o:Nat)(z:Int)(s:Shp):Prop:=w.cell? ⟨p,o,none⟩=some (.int .i64 s.id)∧w.cell? ⟨p,o+1,none⟩=some (.func (.func (byF s.ki)) #[] #[])∧w.cell? ⟨p,o+2,none⟩=some (.slice (some ⟨s.g,0,none⟩) s.n s.cg)∧w.cell? ⟨p,o+3,none⟩=some (.int .i64 (zX s.wi z))
def zGm (w:World)(T:Nat)(s:Shp):Prop:=s.g<T∧0<s.n∧s.n≤40∧s.n≤s.cg∧zI w s.g 0 s.n (px (yU s.X s.Y s.n)) (py (yU s.X s.Y s.n))
theorem zGm.below {w w':World}{T:Nat}{s:Shp}(h:zGm w T s)(hb:Below T w w'):zGm w' T s:=⟨h.1,h.2.1,h.2.2.1,h.2.2.2.1,h.2.2.2.2.below hb h.1⟩
def zMc (w:World)(T p n:Nat)(z:Int)(S:Nat→Shp):Prop:=p<T∧∀ i,i<n→ShpC w p (i * 4) z (S i)∧zGm w T (S i)
theorem zMc.below {w w':World}{T p n:Nat}{z:Int}{S:Nat→Shp}(h:zMc w T p n z S)(hb:Below T w w'):zMc w' T p n z S:=⟨h.1,fun i hi=>by
 obtain ⟨⟨h0,h1,h2,h3⟩,hp⟩:=h.2 i hi
 exact ⟨⟨(hb.cell (p:=⟨p,i * 4,none⟩) h.1).trans h0,(hb.cell (p:=⟨p,i * 4+1,none⟩) h.1).trans h1,(hb.cell (p:=⟨p,i * 4+2,none⟩) h.1).trans h2,(hb.cell (p:=⟨p,i * 4+3,none⟩) h.1).trans h3⟩,hp.below hb⟩⟩
def zN3 (T:Nat)(w:World)(v:Value)(n:Nat)(z:Int)(S:Nat→Shp):Prop:=(v=.slice none 0 0∧n=0)∨∃ p cap,v=.slice (some ⟨p,0,none⟩) n cap∧zMc w T p n z S
theorem zN3.below {T:Nat}{w w':World}{v:Value}{n:Nat}{z:Int}{S:Nat→Shp}(h:zN3 T w v n z S)(hb:Below T w w'):zN3 T w' v n z S:=by
 rcases h with h | ⟨p,cap,e,hs⟩
 ·exact .inl h
 ·exact .inr ⟨p,cap,e,hs.below hb⟩
abbrev encS (z:Int)(S:Nat→Shp)(i:Nat):Array Value:=#[.int .i64 (i:Int),shpV z (S i)]
theorem zN1 (l Bs T p n cap:Nat)(z:Int)(S:Nat→Shp)(hn:n≤1048576)(J Jx:List (Pl n)→World→Prop)(W:World)(hY:∀ pre (x:Pl n) W1,J pre W1→pre.length<n→YieldAt Fence.wide 2 Tryz.prog l (encS z S x.1) W1 fun e W'=>(e=.returned (.bool true)∧J (pre ++ [x]) W'∧KS T Bs W1 W')∨(e=.returned (.bool false)∧Jx (pre ++ [x]) W'))(hc:W.cell? ⟨Bs,0,none⟩=some (.slice (some ⟨p,0,none⟩) n cap))(hS:zMc W T p n z S)(h0:J [] W) :
  CallsIn Fence.wide 3 Tryz.prog 240 #[.func (.yield l) #[] #[],.pointer (some ⟨Bs,0,none⟩)] W fun e W'=>(∃ v,e=.returned v)∧((∃ ys,ys.map (·.1)=vB n n∧J ys W')∨(∃ pre,pre.map (·.1) <+: vB n n∧Jx pre W')):=by
 refine callsIn_of_wp Tryz.func240 rfl trivial ?_ rfl
 simp only [Tryz.ntmps240,List.size_toArray,List.length_cons,List.length_nil,Nat.reduceAdd,Nat.reduceSub,Array.replicate_succ,Array.replicate_zero,List.push_toArray,List.append_toArray,List.nil_append,List.cons_append]
 have hn0:IntKind.i64.wrap ((n:Int) - 1)=(n:Int) - 1:=IntWalk.i64_in _ (by omega)
 gi_wp2
 gi_loopw [3] (fun i wr=>∃ (k:Nat) (s:List (Pl n)),k≤n∧i=.int .i64 ((n:Int) - 1 - (k:Int))∧s.map (·.1)=vB n k∧J s wr∧KS T Bs W wr) (fun i _=>(intOf i+1).toNat)
 case atStart=>exact ⟨0,[],Nat.zero_le _,by simp [hn0],rfl,h0,KS.refl _ _ _⟩
 case round =>
  obtain ⟨k,s,hk,hi,hs,hJs,hB⟩:=hrel
  have hcr:=hB.cell hc
  by_cases hlt:k<n
  ·obtain ⟨m,hm⟩:∃ m:Nat,m=n - 1 - k:=⟨_,rfl⟩
   have em:(n:Int) - 1 - (k:Int)=(m:Int):=by omega
   rw [em] at hi
   subst hi
   have hmn:m<n:=by omega
   obtain ⟨⟨q0,q1,q2,q3⟩,hP⟩:=(hS.below hB.1).2 m hmn
   have hsl:s.length=k:=by have:=congrArg List.length hs;rw [vK] at this;simpa using this
   obtain ⟨fn,tmps,assign,body,hy,hR⟩:=hY s ⟨m,hmn⟩ wr hJs (by omega)
   have hi1:(m:Int)<(n:Int):=by omega
   have hi0:(0:Int)≤(m:Int):=by omega
   have hm1:IntKind.i64.wrap ((m:Int) - 1)=(m:Int) - 1:=IntWalk.i64_in _ (by omega)
   have HS:Hid ((s ++ [(⟨m,hmn⟩:Pl n)]).map (fun x:Pl n=>x.1)=vB n (k+1)):=by show _=_;rw [zDk,← hm];simp [hs]
   have HM:Hid (m=n - 1 - k):=hm
   clear hm em
   gi_wp2
   refine hR.mono ?_
   rintro e W3 (⟨rfl,hJ3,hk3⟩ | ⟨rfl,hJx3⟩)
   ·gi_wp2
    go_roundw
    case rel=>exact ⟨k+1,s ++ [⟨m,hmn⟩],by omega,by have:=HM.out;first | (rw [hm1];congr 1;omega) | (congr 1;omega),HS.out,hJ3,hB.trans hk3⟩
    case measure=>have:=HM.out;simp [intOf] <;> omega
   ·gi_wp2
    refine bodyPost_ret (results_none rfl _ _ _) rfl ?_
    exact ⟨⟨_,rfl⟩,.inr ⟨_,by rw [HS.out];exact zF4 _ _ _ (by omega),hJx3⟩⟩
  ·obtain rfl:k=n:=by omega
   have em:(k:Int) - 1 - (k:Int)=-1:=by omega
   rw [em] at hi
   subst hi
   gi_wp2
   go_end0
   exact ⟨⟨_,rfl⟩,.inl ⟨s,hs,hJs⟩⟩
theorem zMb (l Bs:Nat)(W:World)(hBs:W.cell? ⟨Bs,0,none⟩=some (.slice none 0 0)) :
  CallsIn Fence.wide 3 Tryz.prog 240 #[.func (.yield l) #[] #[],.pointer (some ⟨Bs,0,none⟩)] W fun e W'=>(∃ v,e=.returned v)∧W=W':=by
 refine callsIn_of_wp Tryz.func240 rfl trivial ?_ rfl
 simp only [Tryz.ntmps240,List.size_toArray,List.length_cons,List.length_nil,Nat.reduceAdd,Nat.reduceSub,Array.replicate_succ,Array.replicate_zero,List.push_toArray,List.append_toArray,List.nil_append,List.cons_append]
 gi_wp2
 gi_loopw [3] (fun i wr=>i=.int .i64 (-1)∧W=wr) (fun _ _=>0)
 case atStart=>exact ⟨by first | rfl | (congr 1;decide),rfl⟩
 case round =>
  obtain ⟨rfl,rfl⟩:=hrel
  gi_wp2
  go_end0
  exact ⟨⟨_,rfl⟩,rfl⟩
theorem zKb (Bs T n:Nat)(v:Value)(z:Int)(S:Nat→Shp)(hn:n≤1048576)(w:World)(hBs:Bs<w.heap.size)(hT:T≤w.heap.size)(hc:w.cell? ⟨Bs,0,none⟩=some v)(hS:zN3 T w v n z S) :
  SeqStopsK Fence.wide 3 Tryz.prog 240 #[.pointer (some ⟨Bs,0,none⟩)] (fun x:Pl n=>encS z S x.1) (KS T Bs) (fun ys=>ys.map (·.1)=vB n n) (fun pre=>pre.map (·.1) <+: vB n n) n w:=fun l J Jx W hW hJ hJx hY h0=>by
 have hc':=(hW.cell (p:=⟨Bs,0,none⟩) hBs).trans hc
 rcases hS.below (hW.mono hT) with ⟨rfl,rfl⟩ | ⟨p,cap,rfl,hs⟩
 ·exact (zMb l Bs W hc').mono fun e W' ⟨he,hw⟩=>⟨he,.inl ⟨[],rfl,hw ▸ h0⟩⟩
 ·exact zN1 l Bs T p n cap z S hn J Jx W hY hc' hs h0
theorem zGf (a:Option Addr)(n cap:Nat)(w:World):Calls Tryz.prog 222 #[.slice a n cap] w fun e w'=>e=.returned (.func (.func 240) #[] #[.pointer (some ⟨w.heap.size,0,none⟩)])∧w'=w.alloc (.cells #[.slice a n cap] 250):=by
 go_enter Tryz.func222,Tryz.ntmps222
 go_wp2
 go_ret
 exact ⟨rfl,rfl⟩
def zL4 (z cx cy:Int)(S:Nat→Shp)(i:Nat):Bool:=xV (S i).ki (S i).wi z cx cy (yU (S i).X (S i).Y (S i).n)
def zKh (w:World)(sv:Value)(cx cy:Int)(C:Nat→Bool){n:Nat}(pre:List (Pl n))(W:World):Prop :=
 (W.heap[w.heap.size]?=some (.cells #[.int .i64 cx,.int .i64 cy] 206 (0,0))∧Boxed W (w.heap.size+1) 2 (.int .i64 0)∧Boxed W (w.heap.size+1+1) 250 sv∧(∀ x ∈ pre,C x.1=false))∧Bw w W
theorem zKh.own (w:World)(sv:Value)(cx cy:Int)(C:Nat→Bool)(n B:Nat)(hB:w.heap.size≤B):OwnFrom B (zKh w sv cx cy C (n:=n)):=fun pre W W' row h hg hr=>by
 obtain ⟨⟨h1,h2,h3,h4⟩,h6⟩:=h
 have hr':=fun r e=>(hr r e).2
 exact ⟨⟨uE h1 hg hr',uE h2 hg hr',uE h3 hg hr',h4⟩,(ownFrom_below (β:=Unit) (Nat.le_refl _) hB) () W W' row h6 hg hr⟩
theorem zKh.below {w W W':World}{sv:Value}{cx cy:Int}{C:Nat→Bool}{n:Nat}{pre:List (Pl n)}(h:zKh w sv cx cy C pre W)(hb:Below W.heap.size W W'):zKh w sv cx cy C pre W':=by
 obtain ⟨⟨h1,h2,h3,h4⟩,h6⟩:=h
 exact ⟨⟨(hb.block _ (yJ h1)).trans h1,(hb.block _ (yJ h2)).trans h2,(hb.block _ (yJ h3)).trans h3,h4⟩,zA h6 hb⟩
theorem zKh.no {w W:World}{sv:Value}{cx cy:Int}{C:Nat→Bool}{n:Nat}{pre:List (Pl n)}{x:Pl n}(h:zKh w sv cx cy C pre W)(hx:C x.1=false):zKh w sv cx cy C (pre ++ [x]) W:=by
 obtain ⟨⟨h1,h2,h3,h4⟩,h6⟩:=h
 refine ⟨⟨h1,h2,h3,fun y hy=>?_⟩,h6⟩
 rcases List.mem_append.1 hy with hy | hy
 ·exact h4 y hy
 ·obtain rfl:y=x:=by simpa using hy
  exact hx
def FrEx (w:World)(C:Nat→Bool)(I:Nat→Int){n:Nat}(c:Code)(pre:List (Pl n))(W:World):Prop :=
 (c=.ret∧∃ (p:List (Pl n)) (x:Pl n),pre=p ++ [x]∧(∀ y ∈ p,C y.1=false)∧C x.1=true∧Boxed W (w.heap.size+1) 2 (.int .i64 (I x.1)))∧Bw w W
theorem zHs (a:Option Addr)(n cap:Nat)(z cx cy:Int)(S:Nat→Shp)(w:World)(hS:zN3 w.heap.size w (.slice a n cap) n z S)(hP:∀ i,i<n→zGm w w.heap.size (S i))(hn:n≤1048576) :
  Calls Tryz.prog 197 #[.slice a n cap,.agg #[.int .i64 cx,.int .i64 cy]] w fun e w'=>e=.returned (.int .i64 (yW (zL4 z cx cy S) (fun i=>(S i).id) n))∧Bw w w':=by
 refine (callsIn_wide (n:=4)).1 ?_
 refine callsIn_of_wp_marks Tryz.func197 rfl trivial ?_ rfl
 simp only [Tryz.ntmps197,List.size_toArray,List.length_cons,List.length_nil,Nat.reduceAdd,Nat.reduceSub,Array.replicate_succ,Array.replicate_zero,List.push_toArray,List.append_toArray,List.nil_append,List.cons_append]
 gi_wp2_with (refine ⟨trivial,?_⟩;gi_at_call 222;refine (callsIn_wide.2 (zGf _ _ _ _)).mono ?_;rintro e w' ⟨rfl,rfl⟩)
 obtain ⟨W0,hW0⟩:∃ W0,(((w.alloc (.cells #[.int .i64 cx,.int .i64 cy] 206)).alloc (.cells #[.int .i64 0] 2)).alloc (.cells #[.slice a n cap] 250):World)=W0:=⟨_,rfl⟩
 have o0:W0.heap[w.heap.size]?=some (.cells #[.int .i64 cx,.int .i64 cy] 206 (0,0)):=by
  rw [← hW0]
  rw [Below.heap_alloc _ _ _ (by simp <;> omega),Below.heap_alloc _ _ _ (by simp)]
  exact World.alloc_heap_new w _
 have b1:Boxed W0 (w.heap.size+1) 2 (.int .i64 0):=by
  rw [← hW0]
  have:=(Boxed.new (w.alloc (.cells #[.int .i64 cx,.int .i64 cy] 206)) 2 (.int .i64 0)).alloc (.cells #[.slice a n cap] 250)
  simpa using this
 have b2:Boxed W0 (w.heap.size+1+1) 250 (.slice a n cap):=by
  rw [← hW0]
  have:=Boxed.new ((w.alloc (.cells #[.int .i64 cx,.int .i64 cy] 206)).alloc (.cells #[.int .i64 0] 2)) 250 (.slice a n cap)
  simpa using this
 have hB0:Bw w W0:=by rw [← hW0];exact Qb
 have hsz:W0.heap.size=w.heap.size+3:=by rw [← hW0];simp
 rw [hW0]
 clear hW0
 have st0:zKh w (.slice a n cap) cx cy (zL4 z cx cy S) (n:=n) [] W0:=⟨⟨o0,b1,b2,fun x hx=>by cases hx⟩,hB0⟩
 refine wpIn_rangeFunc_ownH rfl (by omega) (gf:=240) (lb:=#[.pointer (some ⟨w.heap.size+1+1,0,none⟩)]) rfl trivial (enters_of Tryz.func240 (by kernel_rfl) rfl)
  (zKb (w.heap.size+1+1) w.heap.size n (.slice a n cap) z S hn W0 (by omega) (by omega) b2.cell (hS.below hB0)) (fun h k=>KS.trans h k) (KS.put (by omega) (by omega)) (Below.refl _ _) (fun _=>rfl)
  (fun pre W=>zKh w (.slice a n cap) cx cy (zL4 z cx cy S) pre W)
  (fun c pre W=>FrEx w (zL4 z cx cy S) (fun i=>(S i).id) c pre W)
  (zKh.own w _ cx cy _ n _ (by omega))
  ?hIx
  st0
  (fun x a' W=>∃ Bx,W.heap[Bx]?=some (.cells #[.int .i64 (S x.1).id,.func (.func (byF (S x.1).ki)) #[] #[],.slice (some ⟨(S x.1).g,0,none⟩) (S x.1).n (S x.1).cg,.int .i64 (zX (S x.1).wi z)] 254 (0,0))∧a'={ tmps:=#[.slice a n cap,.agg #[.int .i64 cx,.int .i64 cy],undef,.pointer (some ⟨w.heap.size,0,none⟩),.pointer (some ⟨w.heap.size+1,0,none⟩),undef,.pointer (some ⟨Bx,0,none⟩),.slice a n cap,.func (.func 240) #[] #[.pointer (some ⟨w.heap.size+1+1,0,none⟩)],.int .i64 (x.1:Int),shpV z (S x.1),undef,undef,undef,undef,undef],defers:=[] })
  ?hAx ?assign ?body ?done ?stop
 case hIx =>
  rintro c pre A B row ⟨⟨hc,p,x,e1,e2,e3,e4⟩,hB⟩ hg hr
  exact ⟨⟨hc,p,x,e1,e2,e3,uE e4 hg (fun r e=>(hr r e).2)⟩,(ownFrom_below (β:=Unit) (Nat.le_refl _) (by omega)) () A B row hB hg hr⟩
 case hAx =>
  rintro x a' _ X Y row ⟨Bx,e1,e2⟩ hg hr
  exact ⟨Bx,uE e1 hg (fun r e=>(hr r e).2),e2⟩
 case assign =>
  rintro l pre x W K hst hK
  have hK2:=hK { tmps:=#[.slice a n cap,.agg #[.int .i64 cx,.int .i64 cy],undef,.pointer (some ⟨w.heap.size,0,none⟩),.pointer (some ⟨w.heap.size+1,0,none⟩),undef,.pointer (some ⟨W.heap.size,0,none⟩),.slice a n cap,.func (.func 240) #[] #[.pointer (some ⟨w.heap.size+1+1,0,none⟩)],.int .i64 (x.1:Int),shpV z (S x.1),undef,undef,undef,undef,undef],defers:=[] } (W.alloc (.cells #[.int .i64 (S x.1).id,.func (.func (byF (S x.1).ki)) #[] #[],.slice (some ⟨(S x.1).g,0,none⟩) (S x.1).n (S x.1).cg,.int .i64 (zX (S x.1).wi z)] 254))
   ((KeepsOthers.alloc _ _).from _) ((KS.refl _ _ _).alloc hst.2.size hst.1.2.2.1.lt _) (hst.below (xA (Below.refl _ _) _)) ⟨_,World.alloc_heap_new W _,rfl⟩
  have hsf:∀ (ad:Addr) (m:Mode) (w:World),(store ad (.func (.func (byF (S x.1).ki)) #[] #[]) m).run Tryz.prog w=stored Tryz.prog w ad (.func (.func (byF (S x.1).ki)) #[] #[]) m:=fun ad m w=>run_store Tryz.prog w ad _ m rfl
  simp only [encS,shpV] at *
  have hsem:∀ (ρ:Operand→Value) (o:Oper),(∀ c,o.op≠.defer c)→Oper.semAt (some l) ρ o=execOp ρ o:=fun ρ o h=>Oper.semAt_some l ρ o h
  gi_wp2
  exact hK2
 case body =>
  rintro l pre x a' W hl hlr hst ⟨Bx,hE,rfl⟩ hlt
  have HST:Hid (zKh w (.slice a n cap) cx cy (zL4 z cx cy S) pre W):=hst
  have hPx:=(hP x.1 x.2).below hst.2
  have e0:W.cell? ⟨Bx,0,none⟩=some (.int .i64 (S x.1).id):=by simp [World.cell?,hE]
  have e1:W.cell? ⟨Bx,1,none⟩=some (.func (.func (byF (S x.1).ki)) #[] #[]):=by simp [World.cell?,hE]
  have e2:W.cell? ⟨Bx,2,none⟩=some (.slice (some ⟨(S x.1).g,0,none⟩) (S x.1).n (S x.1).cg):=by simp [World.cell?,hE]
  have e3:W.cell? ⟨Bx,3,none⟩=some (.int .i64 (zX (S x.1).wi z)):=by simp [World.cell?,hE]
  have b0:W.cell? ⟨w.heap.size,0,none⟩=some (.int .i64 cx):=by simp [World.cell?,hst.1.1]
  have b1:W.cell? ⟨w.heap.size,1,none⟩=some (.int .i64 cy):=by simp [World.cell?,hst.1.1]
  have HSZ:Hid (w.heap.size≤W.heap.size):=hst.2.size
  have HMC:Hid (Calls Tryz.prog 223 #[shpV z (S x.1),.agg #[.int .i64 cx,.int .i64 cy]] W fun e w'=>e=.returned (.bool (zL4 z cx cy S x.1))∧Bw W w'):=zJ5 (S x.1).id (S x.1).ki (S x.1).wi z cx cy (S x.1).g (S x.1).n (S x.1).cg (S x.1).X (S x.1).Y W hPx.2.2.2.2 (Nat.lt_of_lt_of_le hPx.1 hst.2.size) hPx.2.1 hPx.2.2.1 hPx.2.2.2.1
  clear hst hPx
  obtain ⟨mb,hmb⟩:∃ mb,zL4 z cx cy S x.1=mb:=⟨_,rfl⟩
  have HMB:Hid (zL4 z cx cy S x.1=mb):=hmb
  rw [hmb] at HMC
  clear hmb
  have hsem:∀ (ρ:Operand→Value) (o:Oper),(∀ c,o.op≠.defer c)→Oper.semAt (some l) ρ o=execOp ρ o:=fun ρ o h=>Oper.semAt_some l ρ o h
  cases mb
  ·gi_wp2_with (refine ⟨trivial,?_⟩;gi_at_call 223;refine ((callsIn_wide.2 HMC.out).inRound l).mono ?_;rintro e W1 ⟨rfl,hbm⟩)
   exact ⟨(zOc hbm).from _,⟨hbm.mono HSZ.out,hbm.block _ HST.out.1.2.2.1.lt⟩,(HST.out.below hbm).no HMB.out⟩
  ·gi_wp2_with (refine ⟨trivial,?_⟩;gi_at_call 223;refine ((callsIn_wide.2 HMC.out).inRound l).mono ?_;rintro e W1 ⟨rfl,hbm⟩;have hE1:=(hbm.block _ (yJ hE)).trans hE;have g0:W1.cell? ⟨Bx,0,none⟩=some (.int .i64 (S x.1).id):=(by simp [World.cell?,hE1]);have bR:=(HST.out.below hbm).1.2.1;have cR:=bR.cell;have fR:=bR.frozen)
   exact ⟨((zOc hbm).trans (KeepsOthers.setCell _ _ _)).from _,⟨rfl,pre,x,rfl,HST.out.1.2.2.2,HMB.out,bR.set _⟩,(HST.out.below hbm).2.setCell (p:=⟨w.heap.size+1,0,none⟩) (by simp) _⟩
 case done =>
  rintro D ys W hD hys ⟨⟨o0,bR,bS,hall⟩,hB⟩ hK
  have cR:=bR.cell
  have fR:=bR.frozen
  gi_wp2
  have hK':=(KeepsOthers.setCell W ⟨w.heap.size+1,0,none⟩ (.int .i64 0)).same D _ hK rfl
  refine ⟨by simp,.inl ⟨_,_,rfl,run_takeDeferred hK',?_⟩⟩
  have hc5:=cell_kept (World.cell?_setCell_same' W ⟨w.heap.size+1,0,none⟩ (.int .i64 0) (by rw [cR];rfl)) (grownBy_putObj' _ D (.deferred none)) (fun r e=>by cases e;exact ⟨_,hK',rfl⟩)
  refine ⟨.int .i64 0,?_,by rw [zJz hys hall],(hB.setCell (p:=⟨w.heap.size+1,0,none⟩) (by simp) _).trans (belowK_b (w:=w) (Nat.le_refl _) _ D _ _ (by omega) hK' rfl rfl)⟩
  simp [results,Tryz.f197,go_sem,hc5]
 case stop =>
  rintro D c pre W hD hpre ⟨⟨rfl,p,x,rfl,hall,hx,bR⟩,hB⟩ hK
  have cR:=bR.cell
  gi_wp2
  refine ⟨by simp,.inl ⟨_,_,rfl,run_takeDeferred hK,?_⟩⟩
  have hc5:=cell_kept cR (grownBy_putObj' _ D (.deferred none)) (fun r e=>by cases e;exact ⟨_,hK,rfl⟩)
  refine ⟨.int .i64 (S x.1).id,?_,by rw [zJy hpre hall hx],hB.trans (belowK_b (w:=w) (Nat.le_refl _) W D _ _ (by omega) hK rfl rfl)⟩
  simp [results,Tryz.f197,go_sem,hc5]
end Go.Proofs.YtkjbafcalamgnaaGreat
namespace Go.Proofs.YtkjbafcalamgnaaGreat
open Go.RowKit
end Go.Proofs.YtkjbafcalamgnaaGreat
