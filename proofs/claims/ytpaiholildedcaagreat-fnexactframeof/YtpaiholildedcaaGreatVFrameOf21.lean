/- Texts. -/
import Derived.Test.YtpaiholildedcaaGreatVFrameOf19
import Derived.RangeFuncNested
import Derived.RangeFuncBound
import Derived.Shelf.RegionOpen
import Derived.OwnWalkIn
import Derived.LoopNIn
import Derived.LoopIn
set_option linter.unusedSimpArgs false
set_option linter.unusedVariables false
set_option maxRecDepth 100000
set_option maxHeartbeats 32000000
namespace Go.Proofs.YtpaiholildedcaaGreat
open Go.RowKit
end Go.Proofs.YtpaiholildedcaaGreat
namespace Go.Proofs.YtpaiholildedcaaGreat
open Go.RowKit Go.Shelf
attribute [local go_sem] Oper.semAt_some
def KS (T Bs:Nat)(A B:World):Prop:=Below T A B∧B.heap[Bs]?=A.heap[Bs]?
theorem KS.refl (T Bs:Nat)(A:World):KS T Bs A A:=⟨Below.refl _ _,rfl⟩
theorem KS.trans {T Bs:Nat}{A B C:World}(h:KS T Bs A B)(k:KS T Bs B C):KS T Bs A C:=⟨h.1.trans k.1,k.2.trans h.2⟩
theorem KS.alloc {T Bs:Nat}{A B:World}(h:KS T Bs A B)(hT:T≤A.heap.size)(hB:Bs<A.heap.size)(o:Obj):KS T Bs A (B.alloc o):=⟨h.1.alloc (Nat.le_trans hT h.1.size) o,(Below.heap_alloc B o Bs (Nat.lt_of_lt_of_le hB h.1.size)).trans h.2⟩
theorem KS.cell {T Bs:Nat}{A B:World}(h:KS T Bs A B){v:Value}(hc:A.cell? ⟨Bs,0,none⟩=some v):B.cell? ⟨Bs,0,none⟩=some v:=(World.cell?_of_block (w:=A) (a:=⟨Bs,0,none⟩) h.2).trans hc
theorem KS.put {T Bs:Nat}{w:World}(hT:T≤w.heap.size)(hB:Bs<w.heap.size)(W:World)(l:Nat)(o o':Obj)(hl:w.heap.size≤l)(h1:W.heap[l]?=some o)(h2:o.isCells=false)(h3:o.isWalk=false):KS T Bs W (W.putObj l o'):=⟨belowK_b (w:=w) hT W l o o' hl h1 h2 h3,by
 have:=(belowK_b (w:=w) (n₀:=Bs+1) hB W l o o' hl h1 h2 h3).block Bs (Nat.lt_succ_self _)
 exact this⟩
theorem uW {W W':World}{row:Option Nat}{b:Nat}{arr:Array Value}{t:TypeId}{fz:Nat × Nat}(h:W.heap[b]?=some (.cells arr t fz))(hg:W.grownBy W' row)(hr:∀ r,row=some r→∃ o:Obj,W.heap[r]?=some o∧o.isCells=false):W'.heap[b]?=some (.cells arr t fz):=by
 rw [hg.block b (yO h) (fun e=>by
  obtain ⟨o,ho,hc⟩:=hr b e.symm
  rw [h] at ho
  cases ho
  cases hc)]
 exact h
theorem zQf {W W':World}(h:Below W.heap.size W W'):KeepsOthers W W':=⟨h.size,fun k o hk _=>(h.block k (yO hk)).trans hk⟩
def vR (n k:Nat):List Nat:=(List.range k).map fun j=>n - 1 - j
theorem zE0 (n k:Nat):vR n (k+1)=vR n k ++ [n - 1 - k]:=by simp [vR,List.range_succ]
theorem uA (n k:Nat):(vR n k).length=k:=by simp [vR]
theorem zHs (n k m:Nat)(h:k≤m):vR n k <+: vR n m:=by
 obtain ⟨d,rfl⟩:∃ d,m=k+d:=⟨m - k,by omega⟩
 unfold vR
 rw [List.range_add,List.map_append]
 exact List.prefix_append _ _
theorem zHt {n:Nat}{l:List Nat}(h:l <+: vR n n):l=vR n l.length∧l.length≤n:=by
 have hl:=h.length_le
 rw [uA] at hl
 have h1:=zHs n l.length n hl
 refine ⟨?_,hl⟩
 exact (List.prefix_of_prefix_length_le h h1 (by rw [uA];exact Nat.le_refl _)).eq_of_length (by rw [uA])
abbrev Pl (n:Nat):={ i:Nat // i<n }
theorem zC4 {C:Nat→Bool}{I:Nat→Int}:∀ {n:Nat},(∀ i,i<n→C i=false)→xF C I n=0
 | 0,_=>rfl
 | n+1,h=>by rw [xF,h n (by omega),if_neg (by simp)];exact zC4 fun i hi=>h i (by omega)
theorem zC3 {C:Nat→Bool}{I:Nat→Int}:∀ {n i:Nat},i<n→C i=true→(∀ j,i<j→j<n→C j=false)→xF C I n=I i
 | n+1,i,hi,h,hn=>by
  rw [xF]
  by_cases e:i=n
  ·subst e;rw [h,if_pos rfl]
  ·rw [hn n (by omega) (by omega),if_neg (by simp)]
   exact zC3 (by omega) h fun j h1 h2=>hn j h1 (by omega)
theorem zLx {C:Nat→Bool}{I:Nat→Int}{n:Nat}{ys:List (Pl n)}(h:ys.map (·.1)=vR n n)(ha:∀ x ∈ ys,C x.1=false):xF C I n=0:=by
 refine zC4 fun i hi=>?_
 have hm:i ∈ ys.map (·.1):=by
  rw [h]
  unfold vR
  exact List.mem_map.2 ⟨n - 1 - i,List.mem_range.2 (by omega),by omega⟩
 obtain ⟨x,hx,rfl⟩:=List.mem_map.1 hm
 exact ha x hx
theorem zLw {C:Nat→Bool}{I:Nat→Int}{n:Nat}{p:List (Pl n)}{x:Pl n}(h:(p ++ [x]).map (·.1) <+: vR n n)(ha:∀ y ∈ p,C y.1=false)(hx:C x.1=true):xF C I n=I x.1:=by
 obtain ⟨h1,h2⟩:=zHt h
 have hl:((p ++ [x]).map (·.1)).length=p.length+1:=by simp
 rw [hl] at h1 h2
 rw [zE0,List.map_append] at h1
 have e1:p.map (·.1)=vR n p.length:=by
  have:=List.append_inj_left h1 (by rw [uA];simp)
  exact this
 have e2:x.1=n - 1 - p.length:=by
  have:=List.append_inj_right h1 (by rw [uA];simp)
  simpa using this
 refine zC3 x.2 hx fun j h3 h4=>?_
 have hm:j ∈ p.map (·.1):=by
  rw [e1]
  unfold vR
  exact List.mem_map.2 ⟨n - 1 - j,List.mem_range.2 (by omega),by omega⟩
 obtain ⟨y,hy,rfl⟩:=List.mem_map.1 hm
 exact ha y hy
end Go.Proofs.YtpaiholildedcaaGreat
namespace Go.Proofs.YtpaiholildedcaaGreat
open Go.RowKit
end Go.Proofs.YtpaiholildedcaaGreat
namespace Go.Proofs.YtpaiholildedcaaGreat
open Go.RowKit Go.Shelf
attribute [local go_sem] Oper.semAt_some
structure Shp where
 id:Int
 ki:Int
 wi:Int
 g:Nat
 n:Nat
 cg:Nat
 X:Nat→Int
 Y:Nat→Int
abbrev shpV (z:Int)(s:Shp):Value:=.agg #[.int .i64 s.id,.func (.func (byF s.ki)) #[] #[],.slice (some ⟨s.g,0,none⟩) s.n s.cg,.int .i64 (zZ s.wi z)]
def ShpC (w:World)(p o:Nat)(z:Int)(s:Shp):Prop:=w.cell? ⟨p,o,none⟩=some (.int .i64 s.id)∧w.cell? ⟨p,o+1,none⟩=some (.func (.func (byF s.ki)) #[] #[])∧w.cell? ⟨p,o+2,none⟩=some (.slice (some ⟨s.g,0,none⟩) s.n s.cg)∧w.cell? ⟨p,o+3,none⟩=some (.int .i64 (zZ s.wi z))
def zH8 (w:World)(T:Nat)(s:Shp):Prop:=s.g<T∧0<s.n∧s.n≤40∧s.n≤s.cg∧zI w s.g 0 s.n (px (xA s.X s.Y s.n)) (py (xA s.X s.Y s.n))
theorem zH8.below {w w':World}{T:Nat}{s:Shp}(h:zH8 w T s)(hb:Below T w w'):zH8 w' T s:=⟨h.1,h.2.1,h.2.2.1,h.2.2.2.1,h.2.2.2.2.below hb h.1⟩
def zOi (w:World)(T p n:Nat)(z:Int)(S:Nat→Shp):Prop:=p<T∧∀ i,i<n→ShpC w p (i * 4) z (S i)∧zH8 w T (S i)
theorem zOi.below {w w':World}{T p n:Nat}{z:Int}{S:Nat→Shp}(h:zOi w T p n z S)(hb:Below T w w'):zOi w' T p n z S:=⟨h.1,fun i hi=>by
 obtain ⟨⟨h0,h1,h2,h3⟩,hp⟩:=h.2 i hi
 exact ⟨⟨(hb.cell (p:=⟨p,i * 4,none⟩) h.1).trans h0,(hb.cell (p:=⟨p,i * 4+1,none⟩) h.1).trans h1,(hb.cell (p:=⟨p,i * 4+2,none⟩) h.1).trans h2,(hb.cell (p:=⟨p,i * 4+3,none⟩) h.1).trans h3⟩,hp.below hb⟩⟩
def zP9 (T:Nat)(w:World)(v:Value)(n:Nat)(z:Int)(S:Nat→Shp):Prop:=(v=.slice none 0 0∧n=0)∨∃ p cap,v=.slice (some ⟨p,0,none⟩) n cap∧zOi w T p n z S
theorem zP9.below {T:Nat}{w w':World}{v:Value}{n:Nat}{z:Int}{S:Nat→Shp}(h:zP9 T w v n z S)(hb:Below T w w'):zP9 T w' v n z S:=by
 rcases h with h | ⟨p,cap,e,hs⟩
 ·exact .inl h
 ·exact .inr ⟨p,cap,e,hs.below hb⟩
abbrev encS (z:Int)(S:Nat→Shp)(i:Nat):Array Value:=#[.int .i64 (i:Int),shpV z (S i)]
theorem zP7 (l Bs T p n cap:Nat)(z:Int)(S:Nat→Shp)(hn:n≤1048576)(J Jx:List (Pl n)→World→Prop)(W:World)(hY:∀ pre (x:Pl n) W1,J pre W1→pre.length<n→YieldAt Fence.wide 2 Tryz.prog l (encS z S x.1) W1 fun e W'=>(e=.returned (.bool true)∧J (pre ++ [x]) W'∧KS T Bs W1 W')∨(e=.returned (.bool false)∧Jx (pre ++ [x]) W'))(hc:W.cell? ⟨Bs,0,none⟩=some (.slice (some ⟨p,0,none⟩) n cap))(hS:zOi W T p n z S)(h0:J [] W) :
  CallsIn Fence.wide 3 Tryz.prog 274 #[.func (.yield l) #[] #[],.pointer (some ⟨Bs,0,none⟩)] W fun e W'=>(∃ v,e=.returned v)∧((∃ ys,ys.map (·.1)=vR n n∧J ys W')∨(∃ pre,pre.map (·.1) <+: vR n n∧Jx pre W')):=by
 refine callsIn_of_wp Tryz.func274 rfl trivial ?_ rfl
 simp only [Tryz.ntmps274,List.size_toArray,List.length_cons,List.length_nil,Nat.reduceAdd,Nat.reduceSub,Array.replicate_succ,Array.replicate_zero,List.push_toArray,List.append_toArray,List.nil_append,List.cons_append]
 have hn0:IntKind.i64.wrap ((n:Int) - 1)=(n:Int) - 1:=IntWalk.i64_in _ (by omega)
 gi_wp2
 gi_loopw [3] (fun i wr=>∃ (k:Nat) (s:List (Pl n)),k≤n∧i=.int .i64 ((n:Int) - 1 - (k:Int))∧s.map (·.1)=vR n k∧J s wr∧KS T Bs W wr) (fun i _=>(intOf i+1).toNat)
 case atStart=>exact ⟨0,[],Nat.zero_le _,by simp [hn0],rfl,h0,KS.refl _ _ _⟩
 case round =>
  obtain ⟨k,s,hk,hi,hs,hJs,hB⟩:=hrel
  have hcr:=hB.cell hc
  by_cases hlt:k<n
  ·obtain ⟨m,hm⟩:∃ m:Nat,m=n - 1 - k:=⟨_,rfl⟩
   have em:(n:Int) - 1 - (k:Int)=(m:Int):=by omega
   rw [em] at hi
   subst hi
   have hmn:m<n:=by omega
   obtain ⟨⟨q0,q1,q2,q3⟩,hP⟩:=(hS.below hB.1).2 m hmn
   have hsl:s.length=k:=by have:=congrArg List.length hs;rw [uA] at this;simpa using this
   obtain ⟨fn,tmps,assign,body,hy,hR⟩:=hY s ⟨m,hmn⟩ wr hJs (by omega)
   have hi1:(m:Int)<(n:Int):=by omega
   have hi0:(0:Int)≤(m:Int):=by omega
   have hm1:IntKind.i64.wrap ((m:Int) - 1)=(m:Int) - 1:=IntWalk.i64_in _ (by omega)
   have HS:Hid ((s ++ [(⟨m,hmn⟩:Pl n)]).map (fun x:Pl n=>x.1)=vR n (k+1)):=by show _=_;rw [zE0,← hm];simp [hs]
   have HM:Hid (m=n - 1 - k):=hm
   clear hm em
   gi_wp2
   refine hR.mono ?_
   rintro e W3 (⟨rfl,hJ3,hk3⟩ | ⟨rfl,hJx3⟩)
   ·gi_wp2
    go_roundw
    case rel=>exact ⟨k+1,s ++ [⟨m,hmn⟩],by omega,by have:=HM.out;first | (rw [hm1];congr 1;omega) | (congr 1;omega),HS.out,hJ3,hB.trans hk3⟩
    case measure=>have:=HM.out;simp [intOf] <;> omega
   ·gi_wp2
    refine bodyPost_ret (results_none rfl _ _ _) rfl ?_
    exact ⟨⟨_,rfl⟩,.inr ⟨_,by rw [HS.out];exact zHs _ _ _ (by omega),hJx3⟩⟩
  ·obtain rfl:k=n:=by omega
   have em:(k:Int) - 1 - (k:Int)=-1:=by omega
   rw [em] at hi
   subst hi
   gi_wp2
   go_end0
   exact ⟨⟨_,rfl⟩,.inl ⟨s,hs,hJs⟩⟩
theorem zOg (l Bs:Nat)(W:World)(hBs:W.cell? ⟨Bs,0,none⟩=some (.slice none 0 0)) :
  CallsIn Fence.wide 3 Tryz.prog 274 #[.func (.yield l) #[] #[],.pointer (some ⟨Bs,0,none⟩)] W fun e W'=>(∃ v,e=.returned v)∧W=W':=by
 refine callsIn_of_wp Tryz.func274 rfl trivial ?_ rfl
 simp only [Tryz.ntmps274,List.size_toArray,List.length_cons,List.length_nil,Nat.reduceAdd,Nat.reduceSub,Array.replicate_succ,Array.replicate_zero,List.push_toArray,List.append_toArray,List.nil_append,List.cons_append]
 gi_wp2
 gi_loopw [3] (fun i wr=>i=.int .i64 (-1)∧W=wr) (fun _ _=>0)
 case atStart=>exact ⟨by first | rfl | (congr 1;decide),rfl⟩
 case round =>
  obtain ⟨rfl,rfl⟩:=hrel
  gi_wp2
  go_end0
  exact ⟨⟨_,rfl⟩,rfl⟩
theorem zMa (Bs T n:Nat)(v:Value)(z:Int)(S:Nat→Shp)(hn:n≤1048576)(w:World)(hBs:Bs<w.heap.size)(hT:T≤w.heap.size)(hc:w.cell? ⟨Bs,0,none⟩=some v)(hS:zP9 T w v n z S) :
  SeqStopsK Fence.wide 3 Tryz.prog 274 #[.pointer (some ⟨Bs,0,none⟩)] (fun x:Pl n=>encS z S x.1) (KS T Bs) (fun ys=>ys.map (·.1)=vR n n) (fun pre=>pre.map (·.1) <+: vR n n) n w:=fun l J Jx W hW hJ hJx hY h0=>by
 have hc':=(hW.cell (p:=⟨Bs,0,none⟩) hBs).trans hc
 rcases hS.below (hW.mono hT) with ⟨rfl,rfl⟩ | ⟨p,cap,rfl,hs⟩
 ·exact (zOg l Bs W hc').mono fun e W' ⟨he,hw⟩=>⟨he,.inl ⟨[],rfl,hw ▸ h0⟩⟩
 ·exact zP7 l Bs T p n cap z S hn J Jx W hY hc' hs h0
theorem zH2 (a:Option Addr)(n cap:Nat)(w:World):Calls Tryz.prog 246 #[.slice a n cap] w fun e w'=>e=.returned (.func (.func 274) #[] #[.pointer (some ⟨w.heap.size,0,none⟩)])∧w'=w.alloc (.cells #[.slice a n cap] 259):=by
 go_enter Tryz.func246,Tryz.ntmps246
 go_wp2
 go_ret
 exact ⟨rfl,rfl⟩
def zN9 (z cx cy:Int)(S:Nat→Shp)(i:Nat):Bool:=vL (S i).ki (S i).wi z cx cy (xA (S i).X (S i).Y (S i).n)
def zMi (w:World)(sv:Value)(cx cy:Int)(C:Nat→Bool){n:Nat}(pre:List (Pl n))(W:World):Prop :=
 (W.heap[w.heap.size]?=some (.cells #[.int .i64 cx,.int .i64 cy] 215 (0,0))∧Boxed W (w.heap.size+1) 2 (.int .i64 0)∧Boxed W (w.heap.size+1+1) 259 sv∧(∀ x ∈ pre,C x.1=false))∧Bw w W
theorem zMi.own (w:World)(sv:Value)(cx cy:Int)(C:Nat→Bool)(n B:Nat)(hB:w.heap.size≤B):OwnFrom B (zMi w sv cx cy C (n:=n)):=fun pre W W' row h hg hr=>by
 obtain ⟨⟨h1,h2,h3,h4⟩,h6⟩:=h
 have hr':=fun r e=>(hr r e).2
 exact ⟨⟨uW h1 hg hr',uW h2 hg hr',uW h3 hg hr',h4⟩,(ownFrom_below (β:=Unit) (Nat.le_refl _) hB) () W W' row h6 hg hr⟩
theorem zMi.below {w W W':World}{sv:Value}{cx cy:Int}{C:Nat→Bool}{n:Nat}{pre:List (Pl n)}(h:zMi w sv cx cy C pre W)(hb:Below W.heap.size W W'):zMi w sv cx cy C pre W':=by
 obtain ⟨⟨h1,h2,h3,h4⟩,h6⟩:=h
 exact ⟨⟨(hb.block _ (yO h1)).trans h1,(hb.block _ (yO h2)).trans h2,(hb.block _ (yO h3)).trans h3,h4⟩,zA h6 hb⟩
theorem zMi.no {w W:World}{sv:Value}{cx cy:Int}{C:Nat→Bool}{n:Nat}{pre:List (Pl n)}{x:Pl n}(h:zMi w sv cx cy C pre W)(hx:C x.1=false):zMi w sv cx cy C (pre ++ [x]) W:=by
 obtain ⟨⟨h1,h2,h3,h4⟩,h6⟩:=h
 refine ⟨⟨h1,h2,h3,fun y hy=>?_⟩,h6⟩
 rcases List.mem_append.1 hy with hy | hy
 ·exact h4 y hy
 ·obtain rfl:y=x:=by simpa using hy
  exact hx
def FrEx (w:World)(C:Nat→Bool)(I:Nat→Int){n:Nat}(c:Code)(pre:List (Pl n))(W:World):Prop :=
 (c=.ret∧∃ (p:List (Pl n)) (x:Pl n),pre=p ++ [x]∧(∀ y ∈ p,C y.1=false)∧C x.1=true∧Boxed W (w.heap.size+1) 2 (.int .i64 (I x.1)))∧Bw w W
theorem zJe (a:Option Addr)(n cap:Nat)(z cx cy:Int)(S:Nat→Shp)(w:World)(hS:zP9 w.heap.size w (.slice a n cap) n z S)(hP:∀ i,i<n→zH8 w w.heap.size (S i))(hn:n≤1048576) :
  Calls Tryz.prog 211 #[.slice a n cap,.agg #[.int .i64 cx,.int .i64 cy]] w fun e w'=>e=.returned (.int .i64 (xF (zN9 z cx cy S) (fun i=>(S i).id) n))∧Bw w w':=by
 refine (callsIn_wide (n:=4)).1 ?_
 refine callsIn_of_wp_marks Tryz.func211 rfl trivial ?_ rfl
 simp only [Tryz.ntmps211,List.size_toArray,List.length_cons,List.length_nil,Nat.reduceAdd,Nat.reduceSub,Array.replicate_succ,Array.replicate_zero,List.push_toArray,List.append_toArray,List.nil_append,List.cons_append]
 gi_wp2_with (refine ⟨trivial,?_⟩;gi_at_call 246;refine (callsIn_wide.2 (zH2 _ _ _ _)).mono ?_;rintro e w' ⟨rfl,rfl⟩)
 obtain ⟨W0,hW0⟩:∃ W0,(((w.alloc (.cells #[.int .i64 cx,.int .i64 cy] 215)).alloc (.cells #[.int .i64 0] 2)).alloc (.cells #[.slice a n cap] 259):World)=W0:=⟨_,rfl⟩
 have o0:W0.heap[w.heap.size]?=some (.cells #[.int .i64 cx,.int .i64 cy] 215 (0,0)):=by
  rw [← hW0]
  rw [Below.heap_alloc _ _ _ (by simp <;> omega),Below.heap_alloc _ _ _ (by simp)]
  exact World.alloc_heap_new w _
 have b1:Boxed W0 (w.heap.size+1) 2 (.int .i64 0):=by
  rw [← hW0]
  have:=(Boxed.new (w.alloc (.cells #[.int .i64 cx,.int .i64 cy] 215)) 2 (.int .i64 0)).alloc (.cells #[.slice a n cap] 259)
  simpa using this
 have b2:Boxed W0 (w.heap.size+1+1) 259 (.slice a n cap):=by
  rw [← hW0]
  have:=Boxed.new ((w.alloc (.cells #[.int .i64 cx,.int .i64 cy] 215)).alloc (.cells #[.int .i64 0] 2)) 259 (.slice a n cap)
  simpa using this
 have hB0:Bw w W0:=by rw [← hW0];exact Qb
 have hsz:W0.heap.size=w.heap.size+3:=by rw [← hW0];simp
 rw [hW0]
 clear hW0
 have st0:zMi w (.slice a n cap) cx cy (zN9 z cx cy S) (n:=n) [] W0:=⟨⟨o0,b1,b2,fun x hx=>by cases hx⟩,hB0⟩
 refine wpIn_rangeFunc_ownH rfl (by omega) (gf:=274) (lb:=#[.pointer (some ⟨w.heap.size+1+1,0,none⟩)]) rfl trivial (enters_of Tryz.func274 (by kernel_rfl) rfl)
  (zMa (w.heap.size+1+1) w.heap.size n (.slice a n cap) z S hn W0 (by omega) (by omega) b2.cell (hS.below hB0)) (fun h k=>KS.trans h k) (KS.put (by omega) (by omega)) (Below.refl _ _) (fun _=>rfl)
  (fun pre W=>zMi w (.slice a n cap) cx cy (zN9 z cx cy S) pre W)
  (fun c pre W=>FrEx w (zN9 z cx cy S) (fun i=>(S i).id) c pre W)
  (zMi.own w _ cx cy _ n _ (by omega))
  ?hIx
  st0
  (fun x a' W=>∃ Bx,W.heap[Bx]?=some (.cells #[.int .i64 (S x.1).id,.func (.func (byF (S x.1).ki)) #[] #[],.slice (some ⟨(S x.1).g,0,none⟩) (S x.1).n (S x.1).cg,.int .i64 (zZ (S x.1).wi z)] 263 (0,0))∧a'={ tmps:=#[.slice a n cap,.agg #[.int .i64 cx,.int .i64 cy],undef,.pointer (some ⟨w.heap.size,0,none⟩),.pointer (some ⟨w.heap.size+1,0,none⟩),undef,.pointer (some ⟨Bx,0,none⟩),.slice a n cap,.func (.func 274) #[] #[.pointer (some ⟨w.heap.size+1+1,0,none⟩)],.int .i64 (x.1:Int),shpV z (S x.1),undef,undef,undef,undef,undef],defers:=[] })
  ?hAx ?assign ?body ?done ?stop
 case hIx =>
  rintro c pre A B row ⟨⟨hc,p,x,e1,e2,e3,e4⟩,hB⟩ hg hr
  exact ⟨⟨hc,p,x,e1,e2,e3,uW e4 hg (fun r e=>(hr r e).2)⟩,(ownFrom_below (β:=Unit) (Nat.le_refl _) (by omega)) () A B row hB hg hr⟩
 case hAx =>
  rintro x a' _ X Y row ⟨Bx,e1,e2⟩ hg hr
  exact ⟨Bx,uW e1 hg (fun r e=>(hr r e).2),e2⟩
 case assign =>
  rintro l pre x W K hst hK
  have hK2:=hK { tmps:=#[.slice a n cap,.agg #[.int .i64 cx,.int .i64 cy],undef,.pointer (some ⟨w.heap.size,0,none⟩),.pointer (some ⟨w.heap.size+1,0,none⟩),undef,.pointer (some ⟨W.heap.size,0,none⟩),.slice a n cap,.func (.func 274) #[] #[.pointer (some ⟨w.heap.size+1+1,0,none⟩)],.int .i64 (x.1:Int),shpV z (S x.1),undef,undef,undef,undef,undef],defers:=[] } (W.alloc (.cells #[.int .i64 (S x.1).id,.func (.func (byF (S x.1).ki)) #[] #[],.slice (some ⟨(S x.1).g,0,none⟩) (S x.1).n (S x.1).cg,.int .i64 (zZ (S x.1).wi z)] 263))
   ((KeepsOthers.alloc _ _).from _) ((KS.refl _ _ _).alloc hst.2.size hst.1.2.2.1.lt _) (hst.below (xI (Below.refl _ _) _)) ⟨_,World.alloc_heap_new W _,rfl⟩
  have hsf:∀ (ad:Addr) (m:Mode) (w:World),(store ad (.func (.func (byF (S x.1).ki)) #[] #[]) m).run Tryz.prog w=stored Tryz.prog w ad (.func (.func (byF (S x.1).ki)) #[] #[]) m:=fun ad m w=>run_store Tryz.prog w ad _ m rfl
  simp only [encS,shpV] at *
  have hsem:∀ (ρ:Operand→Value) (o:Oper),(∀ c,o.op≠.defer c)→Oper.semAt (some l) ρ o=execOp ρ o:=fun ρ o h=>Oper.semAt_some l ρ o h
  gi_wp2
  exact hK2
 case body =>
  rintro l pre x a' W hl hlr hst ⟨Bx,hE,rfl⟩ hlt
  have HST:Hid (zMi w (.slice a n cap) cx cy (zN9 z cx cy S) pre W):=hst
  have hPx:=(hP x.1 x.2).below hst.2
  have e0:W.cell? ⟨Bx,0,none⟩=some (.int .i64 (S x.1).id):=by simp [World.cell?,hE]
  have e1:W.cell? ⟨Bx,1,none⟩=some (.func (.func (byF (S x.1).ki)) #[] #[]):=by simp [World.cell?,hE]
  have e2:W.cell? ⟨Bx,2,none⟩=some (.slice (some ⟨(S x.1).g,0,none⟩) (S x.1).n (S x.1).cg):=by simp [World.cell?,hE]
  have e3:W.cell? ⟨Bx,3,none⟩=some (.int .i64 (zZ (S x.1).wi z)):=by simp [World.cell?,hE]
  have b0:W.cell? ⟨w.heap.size,0,none⟩=some (.int .i64 cx):=by simp [World.cell?,hst.1.1]
  have b1:W.cell? ⟨w.heap.size,1,none⟩=some (.int .i64 cy):=by simp [World.cell?,hst.1.1]
  have HSZ:Hid (w.heap.size≤W.heap.size):=hst.2.size
  have HMC:Hid (Calls Tryz.prog 247 #[shpV z (S x.1),.agg #[.int .i64 cx,.int .i64 cy]] W fun e w'=>e=.returned (.bool (zN9 z cx cy S x.1))∧Bw W w'):=zL3 (S x.1).id (S x.1).ki (S x.1).wi z cx cy (S x.1).g (S x.1).n (S x.1).cg (S x.1).X (S x.1).Y W hPx.2.2.2.2 (Nat.lt_of_lt_of_le hPx.1 hst.2.size) hPx.2.1 hPx.2.2.1 hPx.2.2.2.1
  clear hst hPx
  obtain ⟨mb,hmb⟩:∃ mb,zN9 z cx cy S x.1=mb:=⟨_,rfl⟩
  have HMB:Hid (zN9 z cx cy S x.1=mb):=hmb
  rw [hmb] at HMC
  clear hmb
  have hsem:∀ (ρ:Operand→Value) (o:Oper),(∀ c,o.op≠.defer c)→Oper.semAt (some l) ρ o=execOp ρ o:=fun ρ o h=>Oper.semAt_some l ρ o h
  cases mb
  ·gi_wp2_with (refine ⟨trivial,?_⟩;gi_at_call 247;refine ((callsIn_wide.2 HMC.out).inRound l).mono ?_;rintro e W1 ⟨rfl,hbm⟩)
   exact ⟨(zQf hbm).from _,⟨hbm.mono HSZ.out,hbm.block _ HST.out.1.2.2.1.lt⟩,(HST.out.below hbm).no HMB.out⟩
  ·gi_wp2_with (refine ⟨trivial,?_⟩;gi_at_call 247;refine ((callsIn_wide.2 HMC.out).inRound l).mono ?_;rintro e W1 ⟨rfl,hbm⟩;have hE1:=(hbm.block _ (yO hE)).trans hE;have g0:W1.cell? ⟨Bx,0,none⟩=some (.int .i64 (S x.1).id):=(by simp [World.cell?,hE1]);have bR:=(HST.out.below hbm).1.2.1;have cR:=bR.cell;have fR:=bR.frozen)
   exact ⟨((zQf hbm).trans (KeepsOthers.setCell _ _ _)).from _,⟨rfl,pre,x,rfl,HST.out.1.2.2.2,HMB.out,bR.set _⟩,(HST.out.below hbm).2.setCell (p:=⟨w.heap.size+1,0,none⟩) (by simp) _⟩
 case done =>
  rintro D ys W hD hys ⟨⟨o0,bR,bS,hall⟩,hB⟩ hK
  have cR:=bR.cell
  have fR:=bR.frozen
  gi_wp2
  have hK':=(KeepsOthers.setCell W ⟨w.heap.size+1,0,none⟩ (.int .i64 0)).same D _ hK rfl
  refine ⟨by simp,.inl ⟨_,_,rfl,run_takeDeferred hK',?_⟩⟩
  have hc5:=cell_kept (World.cell?_setCell_same' W ⟨w.heap.size+1,0,none⟩ (.int .i64 0) (by rw [cR];rfl)) (grownBy_putObj' _ D (.deferred none)) (fun r e=>by cases e;exact ⟨_,hK',rfl⟩)
  refine ⟨.int .i64 0,?_,by rw [zLx hys hall],(hB.setCell (p:=⟨w.heap.size+1,0,none⟩) (by simp) _).trans (belowK_b (w:=w) (Nat.le_refl _) _ D _ _ (by omega) hK' rfl rfl)⟩
  simp [results,Tryz.f211,go_sem,hc5]
 case stop =>
  rintro D c pre W hD hpre ⟨⟨rfl,p,x,rfl,hall,hx,bR⟩,hB⟩ hK
  have cR:=bR.cell
  gi_wp2
  refine ⟨by simp,.inl ⟨_,_,rfl,run_takeDeferred hK,?_⟩⟩
  have hc5:=cell_kept cR (grownBy_putObj' _ D (.deferred none)) (fun r e=>by cases e;exact ⟨_,hK,rfl⟩)
  refine ⟨.int .i64 (S x.1).id,?_,by rw [zLw hpre hall hx],hB.trans (belowK_b (w:=w) (Nat.le_refl _) W D _ _ (by omega) hK rfl rfl)⟩
  simp [results,Tryz.f211,go_sem,hc5]
end Go.Proofs.YtpaiholildedcaaGreat
namespace Go.Proofs.YtpaiholildedcaaGreat
open Go.RowKit
end Go.Proofs.YtpaiholildedcaaGreat
