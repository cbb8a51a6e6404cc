/- Texts. -/
import Derived.Test.YtkjbafcalamgnaaGreatVPanViewer22
import Derived.Test.YtkjbafcalamgnaaGreatVPanViewer17
set_option linter.unusedSimpArgs false
set_option linter.unusedVariables false
set_option maxRecDepth 100000
set_option maxHeartbeats 32000000
namespace Go.Proofs.YtkjbafcalamgnaaGreat
open Go.RowKit
end Go.Proofs.YtkjbafcalamgnaaGreat
namespace Go.Proofs.YtkjbafcalamgnaaGreat
open Go.RowKit Go.Shelf
attribute [local go_sem] Oper.semAt_some
structure Shp where
 id:Int
 ki:Int
 wi:Int
 g:Nat
 n:Nat
 cg:Nat
 X:Nat→Int
 Y:Nat→Int
abbrev shpV (z:Int)(s:Shp):Value:=.agg #[.int .i64 s.id,.func (.func (byF s.ki)) #[] #[],.slice (some ⟨s.g,0,none⟩) s.n s.cg,.int .i64 (yX s.wi z)]
def ShpC (w:World)(p o:Nat)(z:Int)(s:Shp):Prop:=w.cell? ⟨p,o,none⟩=some (.int .i64 s.id)∧w.cell? ⟨p,o+1,none⟩=some (.func (.func (byF s.ki)) #[] #[])∧w.cell? ⟨p,o+2,none⟩=some (.slice (some ⟨s.g,0,none⟩) s.n s.cg)∧w.cell? ⟨p,o+3,none⟩=some (.int .i64 (yX s.wi z))
def zNx (w:World)(T:Nat)(s:Shp):Prop:=s.g<T∧0<s.n∧s.n≤40∧s.n≤s.cg∧zL w s.g 0 s.n (px (vK s.X s.Y s.n)) (py (vK s.X s.Y s.n))
theorem zNx.below {w w':World}{T:Nat}{s:Shp}(h:zNx w T s)(hb:Below T w w'):zNx w' T s:=⟨h.1,h.2.1,h.2.2.1,h.2.2.2.1,h.2.2.2.2.below hb h.1⟩
def zU4 (w:World)(T p n:Nat)(z:Int)(S:Nat→Shp):Prop:=p<T∧∀ i,i<n→ShpC w p (i * 4) z (S i)∧zNx w T (S i)
theorem zU4.below {w w':World}{T p n:Nat}{z:Int}{S:Nat→Shp}(h:zU4 w T p n z S)(hb:Below T w w'):zU4 w' T p n z S:=⟨h.1,fun i hi=>by
 obtain ⟨⟨h0,h1,h2,h3⟩,hp⟩:=h.2 i hi
 exact ⟨⟨(hb.cell (p:=⟨p,i * 4,none⟩) h.1).trans h0,(hb.cell (p:=⟨p,i * 4+1,none⟩) h.1).trans h1,(hb.cell (p:=⟨p,i * 4+2,none⟩) h.1).trans h2,(hb.cell (p:=⟨p,i * 4+3,none⟩) h.1).trans h3⟩,hp.below hb⟩⟩
def zXh (T:Nat)(w:World)(v:Value)(n:Nat)(z:Int)(S:Nat→Shp):Prop:=(v=.slice none 0 0∧n=0)∨∃ p cap,v=.slice (some ⟨p,0,none⟩) n cap∧zU4 w T p n z S
theorem zXh.below {T:Nat}{w w':World}{v:Value}{n:Nat}{z:Int}{S:Nat→Shp}(h:zXh T w v n z S)(hb:Below T w w'):zXh T w' v n z S:=by
 rcases h with h | ⟨p,cap,e,hs⟩
 ·exact .inl h
 ·exact .inr ⟨p,cap,e,hs.below hb⟩
abbrev encS (z:Int)(S:Nat→Shp)(i:Nat):Array Value:=#[.int .i64 (i:Int),shpV z (S i)]
theorem zXd (l Bs T p n cap:Nat)(z:Int)(S:Nat→Shp)(hn:n≤1048576)(J Jx:List (Pl n)→World→Prop)(W:World)(hY:∀ pre (x:Pl n) W1,J pre W1→pre.length<n→YieldAt Fence.wide 2 Tryz.prog l (encS z S x.1) W1 fun e W'=>(e=.returned (.bool true)∧J (pre ++ [x]) W'∧KS T Bs W1 W')∨(e=.returned (.bool false)∧Jx (pre ++ [x]) W'))(hc:W.cell? ⟨Bs,0,none⟩=some (.slice (some ⟨p,0,none⟩) n cap))(hS:zU4 W T p n z S)(h0:J [] W) :
  CallsIn Fence.wide 3 Tryz.prog 240 #[.func (.yield l) #[] #[],.pointer (some ⟨Bs,0,none⟩)] W fun e W'=>(∃ v,e=.returned v)∧((∃ ys,ys.map (·.1)=zAq n n∧J ys W')∨(∃ pre,pre.map (·.1) <+: zAq n n∧Jx pre W')):=by
 refine callsIn_of_wp Tryz.func240 rfl trivial ?_ rfl
 simp only [Tryz.ntmps240,List.size_toArray,List.length_cons,List.length_nil,Nat.reduceAdd,Nat.reduceSub,Array.replicate_succ,Array.replicate_zero,List.push_toArray,List.append_toArray,List.nil_append,List.cons_append]
 have hn0:IntKind.i64.wrap ((n:Int) - 1)=(n:Int) - 1:=IntWalk.i64_in _ (by omega)
 gi_wp2
 gi_loopw [3] (fun i wr=>∃ (k:Nat) (s:List (Pl n)),k≤n∧i=.int .i64 ((n:Int) - 1 - (k:Int))∧s.map (·.1)=zAq n k∧J s wr∧KS T Bs W wr) (fun i _=>(intOf i+1).toNat)
 case atStart=>exact ⟨0,[],Nat.zero_le _,by simp [hn0],rfl,h0,KS.refl _ _ _⟩
 case round =>
  obtain ⟨k,s,hk,hi,hs,hJs,hB⟩:=hrel
  have hcr:=hB.cell hc
  by_cases hlt:k<n
  ·obtain ⟨m,hm⟩:∃ m:Nat,m=n - 1 - k:=⟨_,rfl⟩
   have em:(n:Int) - 1 - (k:Int)=(m:Int):=by omega
   rw [em] at hi
   subst hi
   have hmn:m<n:=by omega
   obtain ⟨⟨q0,q1,q2,q3⟩,hP⟩:=(hS.below hB.1).2 m hmn
   have hsl:s.length=k:=by have:=congrArg List.length hs;rw [zA4] at this;simpa using this
   obtain ⟨fn,tmps,assign,body,hy,hR⟩:=hY s ⟨m,hmn⟩ wr hJs (by omega)
   have hi1:(m:Int)<(n:Int):=by omega
   have hi0:(0:Int)≤(m:Int):=by omega
   have hm1:IntKind.i64.wrap ((m:Int) - 1)=(m:Int) - 1:=IntWalk.i64_in _ (by omega)
   have HS:Hid ((s ++ [(⟨m,hmn⟩:Pl n)]).map (fun x:Pl n=>x.1)=zAq n (k+1)):=by show _=_;rw [zJg,← hm];simp [hs]
   have HM:Hid (m=n - 1 - k):=hm
   clear hm em
   gi_wp2
   refine hR.mono ?_
   rintro e W3 (⟨rfl,hJ3,hk3⟩ | ⟨rfl,hJx3⟩)
   ·gi_wp2
    go_roundw
    case rel=>exact ⟨k+1,s ++ [⟨m,hmn⟩],by omega,by have:=HM.out;first | (rw [hm1];congr 1;omega) | (congr 1;omega),HS.out,hJ3,hB.trans hk3⟩
    case measure=>have:=HM.out;simp [intOf] <;> omega
   ·gi_wp2
    refine bodyPost_ret (results_none rfl _ _ _) rfl ?_
    exact ⟨⟨_,rfl⟩,.inr ⟨_,by rw [HS.out];exact zNb _ _ _ (by omega),hJx3⟩⟩
  ·obtain rfl:k=n:=by omega
   have em:(k:Int) - 1 - (k:Int)=-1:=by omega
   rw [em] at hi
   subst hi
   gi_wp2
   go_end0
   exact ⟨⟨_,rfl⟩,.inl ⟨s,hs,hJs⟩⟩
theorem zUy (l Bs:Nat)(W:World)(hBs:W.cell? ⟨Bs,0,none⟩=some (.slice none 0 0)) :
  CallsIn Fence.wide 3 Tryz.prog 240 #[.func (.yield l) #[] #[],.pointer (some ⟨Bs,0,none⟩)] W fun e W'=>(∃ v,e=.returned v)∧W=W':=by
 refine callsIn_of_wp Tryz.func240 rfl trivial ?_ rfl
 simp only [Tryz.ntmps240,List.size_toArray,List.length_cons,List.length_nil,Nat.reduceAdd,Nat.reduceSub,Array.replicate_succ,Array.replicate_zero,List.push_toArray,List.append_toArray,List.nil_append,List.cons_append]
 gi_wp2
 gi_loopw [3] (fun i wr=>i=.int .i64 (-1)∧W=wr) (fun _ _=>0)
 case atStart=>exact ⟨by first | rfl | (congr 1;decide),rfl⟩
 case round =>
  obtain ⟨rfl,rfl⟩:=hrel
  gi_wp2
  go_end0
  exact ⟨⟨_,rfl⟩,rfl⟩
theorem zSj (Bs T n:Nat)(v:Value)(z:Int)(S:Nat→Shp)(hn:n≤1048576)(w:World)(hBs:Bs<w.heap.size)(hT:T≤w.heap.size)(hc:w.cell? ⟨Bs,0,none⟩=some v)(hS:zXh T w v n z S) :
  SeqStopsK Fence.wide 3 Tryz.prog 240 #[.pointer (some ⟨Bs,0,none⟩)] (fun x:Pl n=>encS z S x.1) (KS T Bs) (fun ys=>ys.map (·.1)=zAq n n) (fun pre=>pre.map (·.1) <+: zAq n n) n w:=fun l J Jx W hW hJ hJx hY h0=>by
 have hc':=(hW.cell (p:=⟨Bs,0,none⟩) hBs).trans hc
 rcases hS.below (hW.mono hT) with ⟨rfl,rfl⟩ | ⟨p,cap,rfl,hs⟩
 ·exact (zUy l Bs W hc').mono fun e W' ⟨he,hw⟩=>⟨he,.inl ⟨[],rfl,hw ▸ h0⟩⟩
 ·exact zXd l Bs T p n cap z S hn J Jx W hY hc' hs h0
theorem zNm (a:Option Addr)(n cap:Nat)(w:World):Calls Tryz.prog 222 #[.slice a n cap] w fun e w'=>e=.returned (.func (.func 240) #[] #[.pointer (some ⟨w.heap.size,0,none⟩)])∧w'=w.alloc (.cells #[.slice a n cap] 250):=by
 go_enter Tryz.func222,Tryz.ntmps222
 go_wp2
 go_ret
 exact ⟨rfl,rfl⟩
def zUp (z cx cy:Int)(S:Nat→Shp)(i:Nat):Bool:=zAk (S i).ki (S i).wi z cx cy (vK (S i).X (S i).Y (S i).n)
def zSt (w:World)(sv:Value)(cx cy:Int)(C:Nat→Bool){n:Nat}(pre:List (Pl n))(W:World):Prop :=
 (W.heap[w.heap.size]?=some (.cells #[.int .i64 cx,.int .i64 cy] 206 (0,0))∧Boxed W (w.heap.size+1) 2 (.int .i64 0)∧Boxed W (w.heap.size+1+1) 250 sv∧(∀ x ∈ pre,C x.1=false))∧Bw w W
theorem zSt.own (w:World)(sv:Value)(cx cy:Int)(C:Nat→Bool)(n B:Nat)(hB:w.heap.size≤B):OwnFrom B (zSt w sv cx cy C (n:=n)):=fun pre W W' row h hg hr=>by
 obtain ⟨⟨h1,h2,h3,h4⟩,h6⟩:=h
 have hr':=fun r e=>(hr r e).2
 exact ⟨⟨zBy h1 hg hr',zBy h2 hg hr',zBy h3 hg hr',h4⟩,(ownFrom_below (β:=Unit) (Nat.le_refl _) hB) () W W' row h6 hg hr⟩
theorem zSt.below {w W W':World}{sv:Value}{cx cy:Int}{C:Nat→Bool}{n:Nat}{pre:List (Pl n)}(h:zSt w sv cx cy C pre W)(hb:Below W.heap.size W W'):zSt w sv cx cy C pre W':=by
 obtain ⟨⟨h1,h2,h3,h4⟩,h6⟩:=h
 exact ⟨⟨(hb.block _ (yT h1)).trans h1,(hb.block _ (yT h2)).trans h2,(hb.block _ (yT h3)).trans h3,h4⟩,zA h6 hb⟩
theorem zSt.no {w W:World}{sv:Value}{cx cy:Int}{C:Nat→Bool}{n:Nat}{pre:List (Pl n)}{x:Pl n}(h:zSt w sv cx cy C pre W)(hx:C x.1=false):zSt w sv cx cy C (pre ++ [x]) W:=by
 obtain ⟨⟨h1,h2,h3,h4⟩,h6⟩:=h
 refine ⟨⟨h1,h2,h3,fun y hy=>?_⟩,h6⟩
 rcases List.mem_append.1 hy with hy | hy
 ·exact h4 y hy
 ·obtain rfl:y=x:=by simpa using hy
  exact hx
def FrEx (w:World)(C:Nat→Bool)(I:Nat→Int){n:Nat}(c:Code)(pre:List (Pl n))(W:World):Prop :=
 (c=.ret∧∃ (p:List (Pl n)) (x:Pl n),pre=p ++ [x]∧(∀ y ∈ p,C y.1=false)∧C x.1=true∧Boxed W (w.heap.size+1) 2 (.int .i64 (I x.1)))∧Bw w W
theorem zO8 (a:Option Addr)(n cap:Nat)(z cx cy:Int)(S:Nat→Shp)(w:World)(hS:zXh w.heap.size w (.slice a n cap) n z S)(hP:∀ i,i<n→zNx w w.heap.size (S i))(hn:n≤1048576) :
  Calls Tryz.prog 197 #[.slice a n cap,.agg #[.int .i64 cx,.int .i64 cy]] w fun e w'=>e=.returned (.int .i64 (vP (zUp z cx cy S) (fun i=>(S i).id) n))∧Bw w w':=by
 refine (callsIn_wide (n:=4)).1 ?_
 refine callsIn_of_wp_marks Tryz.func197 rfl trivial ?_ rfl
 simp only [Tryz.ntmps197,List.size_toArray,List.length_cons,List.length_nil,Nat.reduceAdd,Nat.reduceSub,Array.replicate_succ,Array.replicate_zero,List.push_toArray,List.append_toArray,List.nil_append,List.cons_append]
 gi_wp2_with (refine ⟨trivial,?_⟩;gi_at_call 222;refine (callsIn_wide.2 (zNm _ _ _ _)).mono ?_;rintro e w' ⟨rfl,rfl⟩)
 obtain ⟨W0,hW0⟩:∃ W0,(((w.alloc (.cells #[.int .i64 cx,.int .i64 cy] 206)).alloc (.cells #[.int .i64 0] 2)).alloc (.cells #[.slice a n cap] 250):World)=W0:=⟨_,rfl⟩
 have o0:W0.heap[w.heap.size]?=some (.cells #[.int .i64 cx,.int .i64 cy] 206 (0,0)):=by
  rw [← hW0]
  rw [Below.heap_alloc _ _ _ (by simp <;> omega),Below.heap_alloc _ _ _ (by simp)]
  exact World.alloc_heap_new w _
 have b1:Boxed W0 (w.heap.size+1) 2 (.int .i64 0):=by
  rw [← hW0]
  have:=(Boxed.new (w.alloc (.cells #[.int .i64 cx,.int .i64 cy] 206)) 2 (.int .i64 0)).alloc (.cells #[.slice a n cap] 250)
  simpa using this
 have b2:Boxed W0 (w.heap.size+1+1) 250 (.slice a n cap):=by
  rw [← hW0]
  have:=Boxed.new ((w.alloc (.cells #[.int .i64 cx,.int .i64 cy] 206)).alloc (.cells #[.int .i64 0] 2)) 250 (.slice a n cap)
  simpa using this
 have hB0:Bw w W0:=by rw [← hW0];exact Qb
 have hsz:W0.heap.size=w.heap.size+3:=by rw [← hW0];simp
 rw [hW0]
 clear hW0
 have st0:zSt w (.slice a n cap) cx cy (zUp z cx cy S) (n:=n) [] W0:=⟨⟨o0,b1,b2,fun x hx=>by cases hx⟩,hB0⟩
 refine wpIn_rangeFunc_ownH rfl (by omega) (gf:=240) (lb:=#[.pointer (some ⟨w.heap.size+1+1,0,none⟩)]) rfl trivial (enters_of Tryz.func240 (by kernel_rfl) rfl)
  (zSj (w.heap.size+1+1) w.heap.size n (.slice a n cap) z S hn W0 (by omega) (by omega) b2.cell (hS.below hB0)) (fun h k=>KS.trans h k) (KS.put (by omega) (by omega)) (Below.refl _ _) (fun _=>rfl)
  (fun pre W=>zSt w (.slice a n cap) cx cy (zUp z cx cy S) pre W)
  (fun c pre W=>FrEx w (zUp z cx cy S) (fun i=>(S i).id) c pre W)
  (zSt.own w _ cx cy _ n _ (by omega))
  ?hIx
  st0
  (fun x a' W=>∃ Bx,W.heap[Bx]?=some (.cells #[.int .i64 (S x.1).id,.func (.func (byF (S x.1).ki)) #[] #[],.slice (some ⟨(S x.1).g,0,none⟩) (S x.1).n (S x.1).cg,.int .i64 (yX (S x.1).wi z)] 254 (0,0))∧a'={ tmps:=#[.slice a n cap,.agg #[.int .i64 cx,.int .i64 cy],undef,.pointer (some ⟨w.heap.size,0,none⟩),.pointer (some ⟨w.heap.size+1,0,none⟩),undef,.pointer (some ⟨Bx,0,none⟩),.slice a n cap,.func (.func 240) #[] #[.pointer (some ⟨w.heap.size+1+1,0,none⟩)],.int .i64 (x.1:Int),shpV z (S x.1),undef,undef,undef,undef,undef],defers:=[] })
  ?hAx ?assign ?body ?done ?stop
 case hIx =>
  rintro c pre A B row ⟨⟨hc,p,x,e1,e2,e3,e4⟩,hB⟩ hg hr
  exact ⟨⟨hc,p,x,e1,e2,e3,zBy e4 hg (fun r e=>(hr r e).2)⟩,(ownFrom_below (β:=Unit) (Nat.le_refl _) (by omega)) () A B row hB hg hr⟩
 case hAx =>
  rintro x a' _ X Y row ⟨Bx,e1,e2⟩ hg hr
  exact ⟨Bx,zBy e1 hg (fun r e=>(hr r e).2),e2⟩
 case assign =>
  rintro l pre x W K hst hK
  have hK2:=hK { tmps:=#[.slice a n cap,.agg #[.int .i64 cx,.int .i64 cy],undef,.pointer (some ⟨w.heap.size,0,none⟩),.pointer (some ⟨w.heap.size+1,0,none⟩),undef,.pointer (some ⟨W.heap.size,0,none⟩),.slice a n cap,.func (.func 240) #[] #[.pointer (some ⟨w.heap.size+1+1,0,none⟩)],.int .i64 (x.1:Int),shpV z (S x.1),undef,undef,undef,undef,undef],defers:=[] } (W.alloc (.cells #[.int .i64 (S x.1).id,.func (.func (byF (S x.1).ki)) #[] #[],.slice (some ⟨(S x.1).g,0,none⟩) (S x.1).n (S x.1).cg,.int .i64 (yX (S x.1).wi z)] 254))
   ((KeepsOthers.alloc _ _).from _) ((KS.refl _ _ _).alloc hst.2.size hst.1.2.2.1.lt _) (hst.below (xA (Below.refl _ _) _)) ⟨_,World.alloc_heap_new W _,rfl⟩
  have hsf:∀ (ad:Addr) (m:Mode) (w:World),(store ad (.func (.func (byF (S x.1).ki)) #[] #[]) m).run Tryz.prog w=stored Tryz.prog w ad (.func (.func (byF (S x.1).ki)) #[] #[]) m:=fun ad m w=>run_store Tryz.prog w ad _ m rfl
  simp only [encS,shpV] at *
  have hsem:∀ (ρ:Operand→Value) (o:Oper),(∀ c,o.op≠.defer c)→Oper.semAt (some l) ρ o=execOp ρ o:=fun ρ o h=>Oper.semAt_some l ρ o h
  gi_wp2
  exact hK2
 case body =>
  rintro l pre x a' W hl hlr hst ⟨Bx,hE,rfl⟩ hlt
  have HST:Hid (zSt w (.slice a n cap) cx cy (zUp z cx cy S) pre W):=hst
  have hPx:=(hP x.1 x.2).below hst.2
  have e0:W.cell? ⟨Bx,0,none⟩=some (.int .i64 (S x.1).id):=by simp [World.cell?,hE]
  have e1:W.cell? ⟨Bx,1,none⟩=some (.func (.func (byF (S x.1).ki)) #[] #[]):=by simp [World.cell?,hE]
  have e2:W.cell? ⟨Bx,2,none⟩=some (.slice (some ⟨(S x.1).g,0,none⟩) (S x.1).n (S x.1).cg):=by simp [World.cell?,hE]
  have e3:W.cell? ⟨Bx,3,none⟩=some (.int .i64 (yX (S x.1).wi z)):=by simp [World.cell?,hE]
  have b0:W.cell? ⟨w.heap.size,0,none⟩=some (.int .i64 cx):=by simp [World.cell?,hst.1.1]
  have b1:W.cell? ⟨w.heap.size,1,none⟩=some (.int .i64 cy):=by simp [World.cell?,hst.1.1]
  have HSZ:Hid (w.heap.size≤W.heap.size):=hst.2.size
  have HMC:Hid (Calls Tryz.prog 223 #[shpV z (S x.1),.agg #[.int .i64 cx,.int .i64 cy]] W fun e w'=>e=.returned (.bool (zUp z cx cy S x.1))∧Bw W w'):=zSc (S x.1).id (S x.1).ki (S x.1).wi z cx cy (S x.1).g (S x.1).n (S x.1).cg (S x.1).X (S x.1).Y W hPx.2.2.2.2 (Nat.lt_of_lt_of_le hPx.1 hst.2.size) hPx.2.1 hPx.2.2.1 hPx.2.2.2.1
  clear hst hPx
  obtain ⟨mb,hmb⟩:∃ mb,zUp z cx cy S x.1=mb:=⟨_,rfl⟩
  have HMB:Hid (zUp z cx cy S x.1=mb):=hmb
  rw [hmb] at HMC
  clear hmb
  have hsem:∀ (ρ:Operand→Value) (o:Oper),(∀ c,o.op≠.defer c)→Oper.semAt (some l) ρ o=execOp ρ o:=fun ρ o h=>Oper.semAt_some l ρ o h
  cases mb
  ·gi_wp2_with (refine ⟨trivial,?_⟩;gi_at_call 223;refine ((callsIn_wide.2 HMC.out).inRound l).mono ?_;rintro e W1 ⟨rfl,hbm⟩)
   exact ⟨(zXw hbm).from _,⟨hbm.mono HSZ.out,hbm.block _ HST.out.1.2.2.1.lt⟩,(HST.out.below hbm).no HMB.out⟩
  ·gi_wp2_with (refine ⟨trivial,?_⟩;gi_at_call 223;refine ((callsIn_wide.2 HMC.out).inRound l).mono ?_;rintro e W1 ⟨rfl,hbm⟩;have hE1:=(hbm.block _ (yT hE)).trans hE;have g0:W1.cell? ⟨Bx,0,none⟩=some (.int .i64 (S x.1).id):=(by simp [World.cell?,hE1]);have bR:=(HST.out.below hbm).1.2.1;have cR:=bR.cell;have fR:=bR.frozen)
   exact ⟨((zXw hbm).trans (KeepsOthers.setCell _ _ _)).from _,⟨rfl,pre,x,rfl,HST.out.1.2.2.2,HMB.out,bR.set _⟩,(HST.out.below hbm).2.setCell (p:=⟨w.heap.size+1,0,none⟩) (by simp) _⟩
 case done =>
  rintro D ys W hD hys ⟨⟨o0,bR,bS,hall⟩,hB⟩ hK
  have cR:=bR.cell
  have fR:=bR.frozen
  gi_wp2
  have hK':=(KeepsOthers.setCell W ⟨w.heap.size+1,0,none⟩ (.int .i64 0)).same D _ hK rfl
  refine ⟨by simp,.inl ⟨_,_,rfl,run_takeDeferred hK',?_⟩⟩
  have hc5:=cell_kept (World.cell?_setCell_same' W ⟨w.heap.size+1,0,none⟩ (.int .i64 0) (by rw [cR];rfl)) (grownBy_putObj' _ D (.deferred none)) (fun r e=>by cases e;exact ⟨_,hK',rfl⟩)
  refine ⟨.int .i64 0,?_,by rw [zR3 hys hall],(hB.setCell (p:=⟨w.heap.size+1,0,none⟩) (by simp) _).trans (belowK_b (w:=w) (Nat.le_refl _) _ D _ _ (by omega) hK' rfl rfl)⟩
  simp [results,Tryz.f197,go_sem,hc5]
 case stop =>
  rintro D c pre W hD hpre ⟨⟨rfl,p,x,rfl,hall,hx,bR⟩,hB⟩ hK
  have cR:=bR.cell
  gi_wp2
  refine ⟨by simp,.inl ⟨_,_,rfl,run_takeDeferred hK,?_⟩⟩
  have hc5:=cell_kept cR (grownBy_putObj' _ D (.deferred none)) (fun r e=>by cases e;exact ⟨_,hK,rfl⟩)
  refine ⟨.int .i64 (S x.1).id,?_,by rw [zR2 hpre hall hx],hB.trans (belowK_b (w:=w) (Nat.le_refl _) W D _ _ (by omega) hK rfl rfl)⟩
  simp [results,Tryz.f197,go_sem,hc5]
end Go.Proofs.YtkjbafcalamgnaaGreat
namespace Go.Proofs.YtkjbafcalamgnaaGreat
open Go.RowKit
def zY (G:Nat→Bool)(E:Nat→Req):Nat→List Req
 | 0=>[]
 | k+1=>if G k=true then zY G E k ++ [E k] else zY G E k
theorem zBf (G:Nat→Bool)(E:Nat→Req):∀ k,(zY G E k).length≤k
 | 0=>by simp [zY]
 | k+1=>by
  have:=zBf G E k
  unfold zY
  split
  ·simp;omega
  ·omega
theorem zMr {G:Nat→Bool}{E:Nat→Req}{k:Nat}(h:G k=true):zY G E (k+1)=zY G E k ++ [E k]:=by rw [zY,if_pos h]
theorem zP4 {G:Nat→Bool}{E:Nat→Req}{k:Nat}(h:G k=false):zY G E (k+1)=zY G E k:=by rw [zY,if_neg (by simp [h])]
theorem zAc.same {w:World}{b off n:Nat}{E E':Nat→Req}(h:zAc w b off n E)(he:∀ i,i<n→E i=E' i):zAc w b off n E':=fun i hi=>by rw [← he i hi];exact h i hi
theorem zAc.grow {W:World}{B n:Nat}{l:List Req}{e:Req}(h:zAc W B 0 l.length (nw l))(hT:zC W B (n * 5))(hk:l.length<n):zAc (zC1 W B (l.length * 5) e) B 0 (l ++ [e]).length (nw (l ++ [e])):=by
 have h1:zAc W B 0 l.length (nw (l ++ [e])):=h.same (fun i hi=>(nw_app l [e] i hi).symm)
 have h2:=h1.lay hT hk
 rw [nw_last] at h2
 rw [List.length_append]
 exact h2
theorem Below.setCells {n B:Nat}{V:World}(hB:n≤B):∀ (vs:List Value) (o:Nat) {W:World},Below n V W→Below n V (W.setCells B o vs)
 | [],_,_,h=>h
 | v :: r,o,_,h=>Below.setCells hB r (o+1) (h.setCell hB v)
theorem zDq (b:Nat):∀ (vs:List Value) (o:Nat) (w:World) (x:Addr),(w.cell? x).isSome=true→((w.setCells b o vs).cell? x).isSome=true
 | [],_,_,_,h=>h
 | v :: r,o,w,x,h=>by
  rw [World.setCells]
  refine zDq b r (o+1) _ x ?_
  by_cases e:(⟨b,o,none⟩:Addr)=x
  ·subst e
   obtain ⟨u,hu⟩:=Option.isSome_iff_exists.1 h
   rw [World.cell?_setCell_same _ _ _ hu];rfl
  ·rw [World.cell?_setCell_other _ _ _ _ e];exact h
theorem zeros5 (n:Nat):(Builtin.zeroCells #[.int .i64 0,.int .i64 0,.int .i64 0,.int .i64 0,.int .i64 0] n).toList=List.replicate (n * 5) (Value.int .i64 0):=by
 simp [Builtin.zeroCells]
 apply List.ext_getElem
 ·simp
 ·intro i h1 h2
  have hr:i % 5=0∨i % 5=1∨i % 5=2∨i % 5=3∨i % 5=4:=by omega
  rcases hr with h | h | h | h | h <;> simp [h]
theorem zQ7 (w:World)(ty:TypeId)(b o n c:Nat)(hn:0<n)(hc:∀ j,j<n * 5→(w.cell? ⟨b,o+j,none⟩).isSome=true)(hf:∀ j,j<n * 5→w.frozen? ⟨b,o+j,none⟩=false) :
  (Builtin.clear_ #[36] ty #[.slice (some ⟨b,o,none⟩) n c]).run Tryz.prog w=.ok (.tuple #[]) (w.setCells b o (List.replicate (n * 5) (.int .i64 0))):=by
 have hst:=run_storeCells_cells (P:=Tryz.prog) b o (List.replicate (n * 5) (.int .i64 0)) 0 w (by simpa using hc) (by simpa using hf) (by intro v hv';rw [List.eq_of_mem_replicate hv'];rfl)
 simp only [Nat.add_zero] at hst
 have hv:∀ w,(zeroValue 106).run Tryz.prog w=.ok (.agg #[.int .i64 0,.int .i64 0,.int .i64 0,.int .i64 0,.int .i64 0]) w:=fun _=>by kernel_rfl
 obtain ⟨m,rfl⟩:∃ m,n=m+1:=⟨n - 1,by omega⟩
 have hz:=zeros5 (m+1)
 simp [Builtin.clear_,run_underlying Tryz.underlying36,hv,Value.cells,hz,hst]
theorem zGi (w:World)(ty:TypeId)(b:Option Addr)(c:Nat):(Builtin.clear_ #[36] ty #[.slice b 0 c]).run Tryz.prog w=.ok (.tuple #[]) w:=by
 cases b <;> simp [Builtin.clear_,run_underlying Tryz.underlying36]
def ArmV (v:Value):Prop:=v=.slice none 0 0∨∃ ad n c,v=.slice (some ad) n c
theorem zH6 (b off n cap f:Nat)(cp:Array Value)(G:Nat→Bool)(E:Nat→Req)(w:World)(hn0:0<n)(hp:zAc w b off n E)(hbl:b<w.heap.size)(hn:n≤1048576)(hce:∀ args w,(callFunc f args).run Tryz.prog w=.ok (.enter f args) w)(hG:∀ i W,i<n→Bw w W→Calls Tryz.prog f (#[zLj (E i)] ++ cp) W fun e w'=>e=.returned (.bool (G i))∧Bw W w') :
  Calls Tryz.prog 170 #[.slice (some ⟨b,off,none⟩) n cap,.func (.func f) #[] cp] w fun e w'=>∃ v,e=.returned v∧ArmV v∧zFw w' w.heap.size v (zY G E n).length (nw (zY G E n))∧Bw w w':=by
 have HP:Hid (zAc w b off n E):=hp
 have HG:Hid (∀ i W,i<n→Bw w W→Calls Tryz.prog f (#[zLj (E i)] ++ cp) W fun e w'=>e=.returned (.bool (G i))∧Bw W w'):=hG
 clear hp hG
 go_enter Tryz.func170,Tryz.ntmps170
 go_wp2_with fail
 refine (zEz _ n cap E w (.inr ⟨b,off,rfl,hbl,HP.out⟩) hn).mono ?_
 rintro e w1 ⟨v,rfl,hrow,hb1⟩
 obtain ⟨a1,c1,hv,hc1,h0 | ⟨g,ha,hgb,hgl,_,hT⟩⟩:=hrow.own
 ·rw [yN] at h0;omega
 rw [yN] at hv hT hc1
 subst ha hv
 have HT1:Hid (zC w1 g (n * 5)):=hT
 have HB1:Hid (Bw w w1):=hb1
 have HGB:Hid (w.heap.size≤g):=hgb
 clear hrow hT hb1
 go_wp2_with fail
 go_loopw [6,13] (fun cc i wr=>∃ k:Nat,k≤n∧i=.int .i64 (k:Int)∧cc=.int .i64 ((zY G E k).length:Int)∧Bw w wr∧zC wr g (n * 5)∧zAc wr g 0 (zY G E k).length (nw (zY G E k))∧g<wr.heap.size) (fun _ i _=>n - (intOf i).toNat)
 case atStart=>exact ⟨0,by omega,rfl,rfl,HB1.out,HT1.out,fun i hi=>absurd hi (Nat.not_lt_zero _),hgl⟩
 case round =>
  obtain ⟨k,hk,rfl,rfl,hB,hT,hP,hgr⟩:=hrel
  have HBr:Hid (Bw w wr):=hB
  have HTr:Hid (zC wr g (n * 5)):=hT
  have HPr:Hid (zAc wr g 0 (zY G E k).length (nw (zY G E k))):=hP
  have hle:=zBf G E k
  by_cases hlt:k<n
  ·obtain ⟨q0,q1,q2,q3,q4⟩:=(HP.out.below hB hbl) k hlt
   have hi:(k:Int)<(n:Int):=by omega
   have hi0:(0:Int)≤(k:Int):=by omega
   have HLT:Hid (k<n):=hlt
   have HC:=fun W h=>HG.out k W hlt h
   have HCC:Hid (∀ W,Bw w W→Calls Tryz.prog f (#[zLj (E k)] ++ cp) W fun e w'=>e=.returned (.bool (G k))∧Bw W w'):=HC
   clear hB hT hP HC
   have HEV:Hid (zLj (E k)=zLj (E k)):=rfl
   go_wp2_with fail
   generalize hV:(wr.alloc _:World)=V
   have hBV:Bw wr V:=by subst hV;exact Qb
   have v0:∀ W',Bw V W'→W'.cell? ⟨wr.heap.size,0,none⟩=some (.int .i64 (E k).z):=fun W' h=>by rw [h.cell (by subst hV;simp)];subst hV;simp [go_sem]
   have v1:∀ W',Bw V W'→W'.cell? ⟨wr.heap.size,1,none⟩=some (.int .i64 (E k).x):=fun W' h=>by rw [h.cell (by subst hV;simp)];subst hV;simp [go_sem]
   have v2:∀ W',Bw V W'→W'.cell? ⟨wr.heap.size,2,none⟩=some (.int .i64 (E k).y):=fun W' h=>by rw [h.cell (by subst hV;simp)];subst hV;simp [go_sem]
   have v3:∀ W',Bw V W'→W'.cell? ⟨wr.heap.size,3,none⟩=some (.int .i64 (E k).du):=fun W' h=>by rw [h.cell (by subst hV;simp)];subst hV;simp [go_sem]
   have v4:∀ W',Bw V W'→W'.cell? ⟨wr.heap.size,4,none⟩=some (.int .i64 (E k).tr):=fun W' h=>by rw [h.cell (by subst hV;simp)];subst hV;simp [go_sem]
   clear hV q0 q1 q2 q3 q4
   refine (HCC.out V (HBr.out.trans (hBV.mono HBr.out.size))).mono ?_
   rintro e w2 ⟨rfl,hb2⟩
   have hB2:Bw wr w2:=zA hBV hb2
   have HB2:Hid (Bw w w2):=zA HBr.out hB2
   have HT2:Hid (zC w2 g (n * 5)):=HTr.out.below hB2
   have HP2:Hid (zAc w2 g 0 (zY G E k).length (nw (zY G E k))):=HPr.out.below hB2 hgr
   have hg2:g<w2.heap.size:=Nat.lt_of_lt_of_le hgr hB2.size
   cases hGk:G k
   ·have HK:Hid (zY G E (k+1)=zY G E k):=zP4 hGk
    clear hGk v0 v1 v2 v3 v4 hb2 hBV hB2
    go_wp2_with fail
    go_roundw
    case rel=>exact ⟨k+1,by have:=HLT.out;omega,by go_num,by rw [HK.out],HB2.out,HT2.out,by rw [HK.out];exact HP2.out,hg2⟩
    case measure=>have:=HLT.out;simp [intOf];omega
   ·have HK:Hid (zY G E (k+1)=zY G E k ++ [E k]):=zMr hGk
    have p0:=v0 w2 hb2
    have p1:=v1 w2 hb2
    have p2:=v2 w2 hb2
    have p3:=v3 w2 hb2
    have p4:=v4 w2 hb2
    clear hGk v0 v1 v2 v3 v4 hb2 hBV hB2
    obtain ⟨L,hL⟩:∃ L:Nat,(zY G E k).length=L:=⟨_,rfl⟩
    rw [hL] at hle ⊢
    have HL:Hid ((zY G E k).length=L):=hL
    clear hL
    have hLn:L<n:=by have:=HLT.out;omega
    have hi2:(L:Int)<(n:Int):=by omega
    have hi3:(0:Int)≤(L:Int):=by omega
    have t0:=HT2.out.cell (L * 5+0) (by omega)
    have t1:=HT2.out.cell (L * 5+1) (by omega)
    have t2:=HT2.out.cell (L * 5+2) (by omega)
    have t3:=HT2.out.cell (L * 5+3) (by omega)
    have t4:=HT2.out.cell (L * 5+4) (by omega)
    have y0:=(HT2.out (L * 5+0) (by omega)).2
    have y1:=(HT2.out (L * 5+1) (by omega)).2
    have y2:=(HT2.out (L * 5+2) (by omega)).2
    have y3:=(HT2.out (L * 5+3) (by omega)).2
    have y4:=(HT2.out (L * 5+4) (by omega)).2
    simp only [Nat.add_zero] at t0 y0
    go_wp2_with fail
    go_roundw
    case rel =>
     refine ⟨k+1,by have:=HLT.out;omega,by go_num,?_,?_,?_,?_,?_⟩
     ·rw [HK.out,List.length_append,HL.out]
      go_num
     ·exact zGv (e:=E k) (B:=g) (o:=L * 5) HB2.out HGB.out
     ·exact zGu (e:=E k) (B:=g) (o:=L * 5) HT2.out
     ·rw [HK.out]
      have h:=zAc.grow (e:=E k) HP2.out HT2.out (by rw [HL.out];exact hLn)
      rw [HL.out] at h
      exact h
     ·show _<(zC1 w2 g (L * 5) (E k)).heap.size
      rw [zI7];exact hg2
    case measure=>have:=HLT.out;simp [intOf];omega
  ·obtain rfl:n=k:=by omega
   obtain ⟨L,hL⟩:∃ L:Nat,(zY G E n).length=L:=⟨_,rfl⟩
   rw [hL] at hle ⊢
   have HL:Hid ((zY G E n).length=L):=hL
   clear hL hB hT hP
   have hLi:(L:Int)≤(n:Int):=by omega
   have hLc:(L:Int)≤(c1:Int):=by omega
   have hL0:(0:Int)≤(L:Int):=by omega
   by_cases hLn:L=n
   ·subst hLn
    have hcl:∀ (w:World) (ty:TypeId) (b:Option Addr) (c:Nat),(Builtin.clear_ #[36] ty #[.slice b 0 c]).run Tryz.prog w=.ok (.tuple #[]) w:=fun w ty b c=>zGi w ty b c
    have hL1':((L:Int) == 0)=false:=by simp;omega
    go_wp2_with fail
    all_goals
     go_ret
     first
      | exact ⟨_,rfl,.inr ⟨_,_,_,rfl⟩,⟨some ⟨g,0,none⟩,c1,by rw [HL.out];rfl,by rw [HL.out];omega,.inr ⟨g,rfl,HGB.out,hgr,HPr.out,by rw [HL.out];exact HTr.out⟩⟩,HBr.out⟩
      | exact ⟨_,rfl,.inr ⟨_,_,_,rfl⟩,⟨some ⟨g,0,none⟩,L,by rw [HL.out];rfl,by rw [HL.out];exact Nat.le_refl _,.inr ⟨g,rfl,HGB.out,hgr,HPr.out,by rw [HL.out];exact HTr.out⟩⟩,HBr.out⟩
   have HX:∃ W2,(∀ ty,(Builtin.clear_ #[36] ty #[.slice (some ⟨g,L * 5,none⟩) (n - L) (c1 - L)]).run Tryz.prog wr=.ok (.tuple #[]) W2)∧Bw w W2∧zC W2 g (n * 5)∧zAc W2 g 0 L (nw (zY G E n))∧g<W2.heap.size:=by
    have hP0:=HPr.out
    rw [HL.out] at hP0
    refine ⟨_,fun ty=>zQ7 wr ty g (L * 5) (n - L) (c1 - L) (by omega) (fun j hj=>?_) (fun j hj=>?_),?_,?_,?_,?_⟩
    ·obtain ⟨u,hu⟩:=(HTr.out (L * 5+j) (by omega)).1
     rw [hu];rfl
    ·exact (HTr.out (L * 5+j) (by omega)).2
    ·exact Below.setCells HGB.out _ _ HBr.out
    ·intro o ho
     refine ⟨?_,by rw [World.frozen?_setCells];exact (HTr.out o ho).2⟩
     obtain ⟨u,hu⟩:=(HTr.out o ho).1
     exact Option.isSome_iff_exists.1 (zDq g _ (L * 5) wr ⟨g,o,none⟩ (by rw [hu];rfl))
    ·intro i hi
     obtain ⟨h0,h1,h2,h3,h4⟩:=hP0 i hi
     exact ⟨(World.cell?_setCells_out g _ _ _ _ (fun _ _=>.inl (by simp;omega))).trans h0,(World.cell?_setCells_out g _ _ _ _ (fun _ _=>.inl (by simp;omega))).trans h1,(World.cell?_setCells_out g _ _ _ _ (fun _ _=>.inl (by simp;omega))).trans h2,(World.cell?_setCells_out g _ _ _ _ (fun _ _=>.inl (by simp;omega))).trans h3,(World.cell?_setCells_out g _ _ _ _ (fun _ _=>.inl (by simp;omega))).trans h4⟩
    ·exact Nat.lt_of_lt_of_le hgr (Below.setCells (n:=0) (Nat.zero_le _) _ _ (Below.refl 0 wr)).size
   obtain ⟨W2,hcl,hB2,hT2,hP2,hg2⟩:=HX
   have HB2:Hid (Bw w W2):=hB2
   have HT2:Hid (zC W2 g (n * 5)):=hT2
   have HP2:Hid (zAc W2 g 0 L (nw (zY G E n))):=hP2
   have hne:¬ c1=L:=by omega
   have hne2:¬ c1 - L=0:=by omega
   clear hB2 hT2 hP2 hLn
   by_cases hL1:L=0
   ·subst hL1
    simp only [Nat.zero_mul,Nat.sub_zero] at hcl
    go_wp2_with fail
    go_ret
    exact ⟨_,rfl,.inl rfl,⟨none,0,by rw [HL.out];rfl,by rw [HL.out];exact Nat.le_refl _,.inl HL.out⟩,HB2.out⟩
   ·have hL1':((L:Int) == 0)=false:=by simp;omega
    go_wp2_with fail
    go_ret
    exact ⟨_,rfl,.inr ⟨_,_,_,rfl⟩,⟨some ⟨g,0,none⟩,c1,by rw [HL.out];rfl,by rw [HL.out];omega,.inr ⟨g,rfl,HGB.out,hg2,by rw [HL.out];exact HP2.out,by rw [HL.out];exact fun o ho=>HT2.out o (by omega)⟩⟩,HB2.out⟩
theorem zH7 (a:Option Addr)(cap:Nat)(fv:Value)(w:World) :
  Calls Tryz.prog 170 #[.slice a 0 cap,fv] w fun e w'=>e=.returned (.slice none 0 0)∧Bw w w':=by
 have hcl:∀ (w:World) (ty:TypeId) (b:Option Addr) (c:Nat),(Builtin.clear_ #[36] ty #[.slice b 0 c]).run Tryz.prog w=.ok (.tuple #[]) w:=fun w ty b c=>zGi w ty b c
 have HC:Hid (Calls Tryz.prog 173 #[.slice a 0 cap] w fun e w'=>((∃ g cp,e=.returned (.slice (some ⟨g,0,none⟩) 0 cp))∨e=.returned (.slice none 0 0))∧Bw w w'):=(zEz a 0 cap (fun _=>⟨0,0,0,0,0⟩) w (.inl rfl) (by omega)).mono fun e w' ⟨v,he,hr,hb⟩=>by
  subst he
  obtain ⟨_,h2 | ⟨g,cp,cur,hv,_⟩⟩:=hr
  ·exact ⟨.inr (by rw [h2.1]),hb⟩
  ·exact ⟨.inl ⟨g,cp,by rw [hv];rfl⟩,hb⟩
 go_enter Tryz.func170,Tryz.ntmps170
 go_wp2_with fail
 refine HC.out.mono ?_
 rintro e w1 ⟨⟨g,cp,rfl⟩ | rfl,hb1⟩
 ·go_wp2_with fail
  go_loopw [6,13] (fun cc i wr=>cc=.int .i64 0∧i=.int .i64 0∧w1=wr) (fun _ _ _=>0)
  case atStart=>exact ⟨rfl,rfl,rfl⟩
  case round =>
   obtain ⟨rfl,rfl,rfl⟩:=hrel
   go_wp2_with fail
   all_goals
    go_ret
    exact ⟨rfl,hb1⟩
 ·go_wp2_with fail
  go_loopw [6,13] (fun cc i wr=>cc=.int .i64 0∧i=.int .i64 0∧w1=wr) (fun _ _ _=>0)
  case atStart=>exact ⟨rfl,rfl,rfl⟩
  case round =>
   obtain ⟨rfl,rfl,rfl⟩:=hrel
   go_wp2_with fail
   all_goals
    go_ret
    exact ⟨rfl,hb1⟩
theorem zKd (a:Option Addr)(n cap f:Nat)(cp:Array Value)(G:Nat→Bool)(E:Nat→Req)(w:World)(hp:xS w a n E)(hn:n≤1048576)(hce:∀ args w,(callFunc f args).run Tryz.prog w=.ok (.enter f args) w)(hG:∀ i W,i<n→Bw w W→Calls Tryz.prog f (#[zLj (E i)] ++ cp) W fun e w'=>e=.returned (.bool (G i))∧Bw W w') :
  Calls Tryz.prog 170 #[.slice a n cap,.func (.func f) #[] cp] w fun e w'=>∃ va vc,e=.returned (.slice va (zY G E n).length vc)∧ArmV (.slice va (zY G E n).length vc)∧zFw w' w.heap.size (.slice va (zY G E n).length vc) (zY G E n).length (nw (zY G E n))∧Bw w w':=by
 by_cases h0:n=0
 ·subst h0
  exact (zH7 a cap _ w).mono fun e w' ⟨he,hb⟩=>⟨none,0,he,.inl rfl,⟨none,0,rfl,Nat.le_refl _,.inl rfl⟩,hb⟩
 ·rcases hp with h | ⟨b,off,rfl,hbl,hpt⟩
  ·exact absurd h h0
  ·exact (zH6 b off n cap f cp G E w (by omega) hpt hbl hn hce hG).mono fun e w' ⟨v,he,ha,ho,hb⟩=>by
    obtain ⟨va,vc,hv,hr⟩:=ho
    subst hv
    exact ⟨va,vc,he,ha,⟨va,vc,rfl,hr⟩,hb⟩
end Go.Proofs.YtkjbafcalamgnaaGreat
