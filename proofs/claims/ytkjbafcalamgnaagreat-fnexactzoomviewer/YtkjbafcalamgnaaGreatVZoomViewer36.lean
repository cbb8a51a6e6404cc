/- Texts. -/
import Derived.Test.YtkjbafcalamgnaaGreatVZoomViewer35
set_option linter.unusedSimpArgs false
set_option linter.unusedVariables false
set_option maxRecDepth 100000
set_option maxHeartbeats 32000000
namespace Go.Proofs.YtkjbafcalamgnaaGreat
open Go.RowKit
end Go.Proofs.YtkjbafcalamgnaaGreat
namespace Go.Proofs.YtkjbafcalamgnaaGreat
open Go.RowKit Go.Shelf Go.Maps Go.Sort
attribute [local go_sem] Oper.semAt_some
def zGb (a:Ag):List Value:=[.int .i64 a.z,.int .i64 a.x,.int .i64 a.y,.slice a.fa a.fn a.fc,.slice a.ia a.m a.ic,.int .i64 a.t]
def zGa (l:List Ag):List Value:=l.flatMap zGb
def ABox (W:World)(B:Nat)(a:Ag):Prop:=W.heap[B]?=some (.cells #[.int .i64 a.z,.int .i64 a.x,.int .i64 a.y,.slice a.fa a.fn a.fc,.slice a.ia a.m a.ic,.int .i64 a.t] 223 (0,0))
theorem ABox.at {W:World}{B:Nat}{a:Ag}(h:ABox W B a):W.cell? ⟨B,0,none⟩=some (.int .i64 a.z)∧W.cell? ⟨B,1,none⟩=some (.int .i64 a.x)∧W.cell? ⟨B,2,none⟩=some (.int .i64 a.y)∧W.cell? ⟨B,3,none⟩=some (.slice a.fa a.fn a.fc)∧W.cell? ⟨B,4,none⟩=some (.slice a.ia a.m a.ic)∧W.cell? ⟨B,5,none⟩=some (.int .i64 a.t):=by
 have h':W.heap[B]?=_:=h
 exact ⟨by simp [World.cell?,h'],by simp [World.cell?,h'],by simp [World.cell?,h'],by simp [World.cell?,h'],by simp [World.cell?,h'],by simp [World.cell?,h']⟩
abbrev zYb:Array Value:=#[.int .i64 0,.int .i64 0,.int .i64 0,.slice none 0 0,.slice none 0 0,.int .i64 0]
theorem info_ag:(Tryz.prog.info? 223).map (fun i=>(i.zero,i.size,i.bytes))=some (some (.agg zYb),6,80):=by kernel_rfl
def AllA (D0:DataW Value)(xs:List Ag):Prop:=∃ ps,AllV D0 ps∧xs=ps.map (·.2)
theorem zL9 (Bm b nn:Nat)(D0:DataW Value)(w:World)(hBm:Bm<w.heap.size)(hm:w.cell? ⟨Bm,0,none⟩=some (.map (some b)))(hown:w.ownsMap Tryz.prog 104 RV b nn D0) :
  SeqStopsK Fence.wide 3 Tryz.prog 227 #[.pointer (some ⟨Bm,0,none⟩)] (fun x:Ag=>#[agW x]) KeepsWalks (AllA D0) (fun _=>True) (Maps.size D0) w:=fun l J Jx W hW hJ hJx hY h0 =>
 zRe l Bm b nn D0 J Jx hY W hJ ((hW.cell (p:=⟨Bm,0,none⟩) hBm).trans hm) (zZ hown hW) h0
theorem zIt (mb:Nat)(w:World):Calls Tryz.prog 200 #[.map (some mb)] w fun e w'=>e=.returned (.func (.func 227) #[] #[.pointer (some ⟨w.heap.size,0,none⟩)])∧w'=w.alloc (.cells #[.map (some mb)] 170):=by
 have hmf:∀ (fn:Fn) (first cap:Array Value) (w:World),(Instr.makeFunc fn first cap).run Tryz.prog w=.ok (.func fn first cap) w:=fun _ _ _ _=>rfl
 go_enter Tryz.func200,Tryz.ntmps200
 go_wp2
 go_ret
 exact ⟨rfl,rfl⟩
theorem zI3 (Bm b nn:Nat)(D0:DataW Value)(w:World)(hBm:Bm<w.heap.size)(hm:w.cell? ⟨Bm,0,none⟩=some (.map (some b)))(hown:w.ownsMap Tryz.prog 104 RV b nn D0)(hall:Maps.size D0≤1048576) :
  Calls Tryz.prog 241 #[.slice none 0 0,.func (.func 227) #[] #[.pointer (some ⟨Bm,0,none⟩)]] w fun e w'=>∃ v xs,e=.returned v∧AllA D0 xs∧w'.ownsRow w.heap.size 223 6 v xs.length (zGa xs)∧Bw w w':=by
 obtain ⟨i0,hi,hz0,hz1,hz2⟩:=info_parts info_ag
 refine (callsIn_wide (n:=4)).1 ?_
 refine callsIn_of_wp_marks Tryz.func241 rfl trivial ?_ rfl
 simp only [Tryz.ntmps241,List.size_toArray,List.length_cons,List.length_nil,Nat.reduceAdd,Nat.reduceSub,Array.replicate_succ,Array.replicate_zero,List.push_toArray,List.append_toArray,List.nil_append,List.cons_append]
 gi_wp2
 obtain ⟨W0,hW0⟩:∃ W0,(w.alloc (.cells #[.slice none 0 0] 261):World)=W0:=⟨_,rfl⟩
 have b0:Boxed W0 w.heap.size 261 (.slice none 0 0):=by rw [← hW0];exact Boxed.new w 261 (.slice none 0 0)
 have hB0:Bw w W0:=by rw [← hW0];exact Qb
 have hsz:W0.heap.size=w.heap.size+1:=by rw [← hW0];simp
 rw [hW0]
 clear hW0
 refine wpIn_rangeFunc_ownH rfl (by omega) (gf:=227) (lb:=#[.pointer (some ⟨Bm,0,none⟩)]) rfl trivial (enters_of Tryz.func227 (by kernel_rfl) rfl)
  (zL9 Bm b nn D0 W0 (by omega) ((hB0.cell (p:=⟨Bm,0,none⟩) hBm).trans hm) (zZ hown hB0)) (fun h k=>KeepsWalks.trans h k) (fun W l o o' _ h1 _ h3=>KeepsWalks.putObj o' h1 h3) (Below.refl _ _) (fun _=>rfl)
  (fun pre W=>((∃ v,Boxed W w.heap.size 261 v∧W.ownsRow w.heap.size 223 6 v pre.length (zGa pre)∧True))∧Bw w W)
  (fun _ _ _=>False)
  (OwnFrom.and (Own.from (holdsRow_own w.heap.size w.heap.size 261 223 6 (fun (pre:List Ag)=>pre.length) (fun pre=>zGa pre) (fun _ _=>True)) _) (ownFrom_below (Nat.le_refl _) (by omega)))
  (fun _ _ _ _ _ hs _ _=>hs)
  ⟨⟨_,b0,World.ownsRow_nil _ _ _ _,trivial⟩,hB0⟩
  (fun x a' W=>∃ Bx,ABox W Bx x∧a'={ tmps:=#[.slice none 0 0,.func (.func 227) #[] #[.pointer (some ⟨Bm,0,none⟩)],.pointer (some ⟨w.heap.size,0,none⟩),undef,.slice none 0 0,.pointer (some ⟨Bx,0,none⟩),.func (.func 227) #[] #[.pointer (some ⟨Bm,0,none⟩)],agW x,undef,undef,undef,undef,undef],defers:=[] })
  ?hAx ?assign ?body ?done ?stop
 case hAx =>
  rintro x a' _ X Y row ⟨Bx,e1,e2⟩ hg hr
  exact ⟨Bx,(hg.block Bx (Array.getElem?_eq_some_iff.1 e1).1 (fun e'=>by obtain ⟨_,o,ho,hc⟩:=hr Bx e'.symm;rw [show X.heap[Bx]?=_ from e1] at ho;cases ho;cases hc)).trans e1,e2⟩
 case assign =>
  rintro l pre x W K ⟨⟨v,hv,hrow,_⟩,hB⟩ hK
  have hK2:=hK { tmps:=#[.slice none 0 0,.func (.func 227) #[] #[.pointer (some ⟨Bm,0,none⟩)],.pointer (some ⟨w.heap.size,0,none⟩),undef,.slice none 0 0,.pointer (some ⟨W.heap.size,0,none⟩),.func (.func 227) #[] #[.pointer (some ⟨Bm,0,none⟩)],agW x,undef,undef,undef,undef,undef],defers:=[] } (W.alloc (.cells #[.int .i64 x.z,.int .i64 x.x,.int .i64 x.y,.slice x.fa x.fn x.fc,.slice x.ia x.m x.ic,.int .i64 x.t] 223))
   ((KeepsOthers.alloc _ _).from _) (KeepsWalks.alloc _ _) ⟨⟨v,hv.alloc _,hrow.alloc _,trivial⟩,hB.alloc hB.size _⟩ ⟨_,World.alloc_heap_new W _,rfl⟩
  gi_wp2
  exact hK2
 case body =>
  rintro l pre x a' W hl hlr ⟨⟨v,hv,hrow,_⟩,hB⟩ ⟨Bx,hE,rfl⟩ hlt
  obtain ⟨e0,e1,e2,e3,e4,e5⟩:=hE.at
  have hc:=hv.cell
  have hmx:1048577≤maxLen:=by decide
  have hce:∀ j u,(zGb x)[j]?=some u→(W.alloc (.cells #[.int .i64 x.z,.int .i64 x.x,.int .i64 x.y,.slice x.fa x.fn x.fc,.slice x.ia x.m x.ic,.int .i64 x.t] 223)).cell? ((⟨W.heap.size,0,none⟩:Addr).add j)=some u:=by
   have hN:ABox (W.alloc (.cells #[.int .i64 x.z,.int .i64 x.x,.int .i64 x.y,.slice x.fa x.fn x.fc,.slice x.ia x.m x.ic,.int .i64 x.t] 223)) W.heap.size x:=World.alloc_heap_new W _
   obtain ⟨n0,n1,n2,n3,n4,n5⟩:=hN.at
   intro j u hj
   match j,hj with
   | 0,hj=>exact (Option.some.inj hj) ▸ n0
   | 1,hj=>exact (Option.some.inj hj) ▸ n1
   | 2,hj=>exact (Option.some.inj hj) ▸ n2
   | 3,hj=>exact (Option.some.inj hj) ▸ n3
   | 4,hj=>exact (Option.some.inj hj) ▸ n4
   | 5,hj=>exact (Option.some.inj hj) ▸ n5
   | j+6,hj=>cases (show (none:Option Value)=some u from hj)
  gi_wp2_with (gi_at_builtin;refine wpListIn_append_own _ rfl _ _ 261 rfl w.heap.size 223 i0 (.agg zYb) 6 80 Tryz.underlying261 hi hz0 hz1 hz2 rfl (by decide) _ _ _ rfl (hrow.alloc _) ⟨W.heap.size,0,none⟩ 1 1 (zGb x) rfl rfl hce (by simp [zGb,Value.oneCell']) (by omega) (by omega) (by have:=hB.size;simp;omega) ?_;intro v' w1 hown' hgrow _;obtain ⟨g',cap',rfl⟩:=ownsRow_succ hown';obtain ⟨hv1,hv2,hr2,hk2,hb2⟩:=hv.appended (by decide) hrow hB.size (Nat.le_refl _) hown' hgrow;have hc1:=hv1.cell;have hf1:=hv1.frozen)
  have hkw:KeepsWalks W w1:=(KeepsWalks.alloc W (.cells #[.int .i64 x.z,.int .i64 x.x,.int .i64 x.y,.slice x.fa x.fn x.fc,.slice x.ia x.m x.ic,.int .i64 x.t] 223)).trans (KeepsWalks.of_grownBy hgrow (fun j o e h=>by
   have e':v.ownBlock=some j:=e
   rcases (hrow.alloc (.cells #[.int .i64 x.z,.int .i64 x.x,.int .i64 x.y,.slice x.fa x.fn x.fc,.slice x.ia x.m x.ic,.int .i64 x.t] 223)).2 with ⟨rfl,_⟩ | ⟨g,cap,cur,rfl,_,hgb,_⟩
   ·cases e'
   ·have:g=j:=by simpa [Value.ownBlock] using e'
    subst this
    rw [hgb] at h
    cases h
    rfl))
  refine ⟨hk2.from _,hkw.trans (KeepsWalks.setCell _ _ _),⟨_,hv2,?_,trivial⟩,hB.trans hb2⟩
  simpa [zGa] using hr2
 case done =>
  rintro D ys W hD hys ⟨⟨v,hv,hrow,_⟩,hB⟩ hK
  have hc:=hv.cell
  gi_wp2
  refine ⟨by simp,.inl ⟨_,_,rfl,run_takeDeferred hK,?_⟩⟩
  exact ⟨_,results_tmp rfl _ _ _,v,ys,rfl,hys,ownsRow_putObj hrow _ hK rfl,hB.trans (belowK_b (w:=w) (Nat.le_refl _) W D _ _ (by omega) hK rfl rfl)⟩
 case stop =>
  rintro D c pre W _ _ h _
  exact h.elim
end Go.Proofs.YtkjbafcalamgnaaGreat
namespace Go.Proofs.YtkjbafcalamgnaaGreat
open Go.RowKit
end Go.Proofs.YtkjbafcalamgnaaGreat
namespace Go.Proofs.YtkjbafcalamgnaaGreat
open Go.RowKit Go.Sort Go.Shelf
def zYo (f g:Ag):Int:=zVg f.t g.t
theorem zGs (e:Ag):(zGb e).length=6:=rfl
theorem zX3 (e:Ag):∀ v ∈ zGb e,v.oneCell'=true:=by simp [zGb,Value.oneCell']
def AgAt (w:World)(p o:Nat)(a:Ag):Prop:=w.cell? ⟨p,o,none⟩=some (.int .i64 a.z)∧w.cell? ⟨p,o+1,none⟩=some (.int .i64 a.x)∧w.cell? ⟨p,o+2,none⟩=some (.int .i64 a.y)∧w.cell? ⟨p,o+3,none⟩=some (.slice a.fa a.fn a.fc)∧w.cell? ⟨p,o+4,none⟩=some (.slice a.ia a.m a.ic)∧w.cell? ⟨p,o+5,none⟩=some (.int .i64 a.t)
theorem zF7 (f g:Ag)(w:World):Calls Tryz.prog 201 #[.agg (zGb f).toArray,.agg (zGb g).toArray] w fun e w'=>e=.returned (.int .i64 (zYo f g))∧Gro w w':=by
 have H1:Hid (∀ W,Calls Tryz.prog 228 #[.int .i64 f.t,.int .i64 g.t] W fun e w'=>e=.returned (.int .i64 (zYo f g))∧w'=W):=fun W=>zA1 _ _ _
 generalize zYo f g=A at *
 unfold zGb
 go_enter Tryz.func201,Tryz.ntmps201
 go_wp2_with fail
 generalize hV:((w.alloc _).alloc _:World)=V
 have hB0:Gro w V:=by subst hV;exact ((Gro.refl _).alloc _).alloc _
 clear hV
 refine (H1.out _).mono ?_
 rintro e w1 ⟨rfl,rfl⟩
 go_wp2
 go_ret
 exact ⟨rfl,hB0⟩
theorem zF8 (f g:Ag)(w:World):Calls Tryz.prog 201 #[.agg (zGb f).toArray,.agg (zGb g).toArray] w fun e w'=>e=.returned (.int .i64 (zYo f g))∧∃ q os',w'=grow (w.drewN q) os' :=
 (zF7 f g w).mono fun e w' ⟨he,hg⟩=>⟨he,hg.grow⟩
def ARow (base:Nat)(w:World)(v:Value)(E:Nat→Ag)(n:Nat):Prop:=w.ownsRow base 223 6 v n (zGa ((List.range n).map E))
theorem zJ6 (e:Ag)(l:List Ag):zGa (e :: l)=zGb e ++ zGa l:=rfl
theorem zN8:∀ (l:List Ag) (i k:Nat) (e:Ag),l[i]?=some e→k<6→(zGa l)[i * 6+k]?=(zGb e)[k]?
 | [],i,k,e,h,_=>by simp at h
 | a :: l,0,k,e,h,hk=>by
  simp at h
  subst h
  rw [zJ6,Nat.zero_mul,Nat.zero_add,List.getElem?_append_left (by rw [zGs];exact hk)]
 | a :: l,i+1,k,e,h,hk=>by
  have h':l[i]?=some e:=by simpa using h
  rw [zJ6,List.getElem?_append_right (by rw [zGs];omega),zGs,← zN8 l i k e h' hk]
  congr 1
  omega
theorem zS9 (E:Nat→Ag)(n i k:Nat)(hi:i<n)(hk:k<6):(zGa ((List.range n).map E))[i * 6+k]?=(zGb (E i))[k]? :=
 zN8 _ i k _ (by simp [hi]) hk
theorem zK1 (H:Nat→Ag)(i j:Nat):ltOf (fun i j=>zYo (H i) (H j)) i j=ltK (fun _=>0) (fun i=>(H i).t) i j:=by
 show decide (zVg (H i).t (H j).t<0)=(decide ((0:Int)<0) || (decide ((0:Int)=0) && decide ((H i).t<(H j).t)))
 simp [cmpI_lt]
theorem zWd (H:Nat→Ag):SWO (ltOf (fun i j=>zYo (H i) (H j))) where
 irrefl x:=by rw [zK1,zUm];omega
 trans x y z h1 h2:=by rw [zK1,zUn] at *;omega
 ntrans x y z h1 h2:=by rw [zK1,zUm] at *;omega
theorem zVf (H:Nat→Ag)(blk off size:Nat)(w:World):CmpLays Tryz.prog 201 #[] (fun i=>zGb (H i)) 6 (fun i j=>zYo (H i) (H j)) blk off size w :=
 fun _ _ _ _ x y=>zF8 (H x) (H y) _
theorem holds_A {base:Nat}{w:World}{v:Value}{H:Nat→Ag}{n g c:Nat}(h:ARow base w v H n)(hv:v=.slice (some ⟨g,0,none⟩) n c):HoldsK (fun i=>zGb (H i)) 6 w g 0 (Array.range n):=by
 subst hv
 have hrow:w.ownsRow base 223 6 (.slice (some ⟨g,0,none⟩) n c) n (zGa ((List.range n).map H)):=h
 intro t ht
 rw [size_flatK,Array.size_range] at ht
 rw [get_flatK _ _ _ _ (by rw [Array.size_range];exact ht),Nat.zero_add]
 refine ⟨?_,hrow.frozenAt t⟩
 have hi:t / 6<n:=by omega
 have hk:t % 6<6:=by omega
 have e:=zS9 H n (t / 6) (t % 6) hi hk
 have et:t / 6 * 6+t % 6=t:=by omega
 rw [et] at e
 rw [hrow.cellAt t ht,e]
 have ea:(Array.range n)[t / 6]! = t / 6:=by simp [hi]
 rw [ea]
 show (zGb (H (t / 6)))[t % 6]?=some (zGb (H (t / 6)))[t % 6]!
 have hl:t % 6<(zGb (H (t / 6))).length:=by rw [zGs];exact hk
 rw [List.getElem?_eq_getElem hl,getElem!_pos (zGb (H (t / 6))) (t % 6) hl]
theorem at_A {w:World}{H:Nat→Ag}{g:Nat}{d:Array Nat}(h:HoldsK (fun i=>zGb (H i)) 6 w g 0 d){i:Nat}(hi:i<d.size):AgAt w g (i * 6) (H d[i]!):=by
 have c:=fun k (hk:k<6)=>(h.cell hi hk).1
 simp only [Nat.zero_add] at c
 exact ⟨c 0 (by omega),c 1 (by omega),c 2 (by omega),c 3 (by omega),c 4 (by omega),c 5 (by omega)⟩
theorem there_A {w:World}{H:Nat→Ag}{g:Nat}{d:Array Nat}(h:HoldsK (fun i=>zGb (H i)) 6 w g 0 d):zC w g (d.size * 6):=fun o ho=>by
 have:=h.cell (i:=o / 6) (c:=o % 6) (by omega) (by omega)
 have e:0+o / 6 * 6+o % 6=o:=by omega
 rw [e] at this
 exact ⟨⟨_,this.1⟩,this.2⟩
theorem zT1 (n base:Nat)(v:Value)(H:Nat→Ag)(w:World)(hR:ARow base w v H n)(hn:n≤1048576) :
  Calls Tryz.prog 226 #[v,.func (.func 201) #[] #[]] w fun e w'=>e=.returned (.tuple #[]) ∧
   ((n=0∧w'=w)∨∃ (g c:Nat) (l:List Nat),v=.slice (some ⟨g,0,none⟩) n c∧base≤g∧g<w.heap.size∧l.Perm (List.range n)∧l.Pairwise (fun a b=>ltK (fun _=>0) (fun i=>(H i).t) b a=false)∧w.grownBy w' (some g)∧zC w' g (n * 6)∧n≤c ∧
    ∀ i,i<n→AgAt w' g (i * 6) (H (l.getD i 0))):=by
 obtain ⟨h1,h2 | ⟨g,c,cur,hv,hg,hh,hkc,hcm,hcs,htk⟩⟩:=id hR
 ·obtain ⟨hv,hn0⟩:=h2
  subst hv
  have hcon:=AnyF.slices_SortFunc_none Tryz.sortA none 0 (.func (.func 201) #[] #[]) w
  exact hcon.mono fun e w' ⟨he,hw⟩=>⟨he,.inl ⟨hn0,hw⟩⟩
 ·have hgl:g<w.heap.size:=by
   rcases Nat.lt_or_ge g w.heap.size with h' | h'
   ·exact h'
   ·rw [Array.getElem?_eq_none h'] at hh;cases hh
  have eg:∀ args w,(callFunc 201 args).run Tryz.prog w=.ok (.enter 201 args) w:=enters_of Tryz.func201 (by kernel_rfl) rfl
  have hH:=holds_A hR hv
  have hcon:=AnyQ.slices_SortFunc Tryz.sortA 6 Tryz.isAgg223 Tryz.sizeOf223 (fun i=>zGb (H i)) (fun _=>rfl) (fun i=>zX3 (H i)) (fun i j=>zYo (H i) (H j)) (zWd H) 201 #[] g 0 c (Array.range n) w eg (zVf H g 0 _ w) hH hgl (by rw [Array.size_range];omega)
  rw [Array.size_range] at hcon
  subst hv
  refine Calls.mono (show Calls Tryz.prog 226 _ _ _ from hcon) ?_
  rintro e w' ⟨he,d',m,os,hp,hs,rfl⟩
  obtain ⟨hp1,hp2,hp3⟩:=hp
  rw [Array.size_range] at hp1
  have hH':=holdsK_sortWorldK_c (fun i=>zGb (H i)) 6 w g 0 (Array.range n) d' m os hH hgl (by rw [hp1,Array.size_range])
  have hget:∀ i,i<n→d'[i]! = d'.toList.getD i 0:=fun i hi=>by
   rw [List.getD_eq_getElem?_getD,Array.getElem?_toList,getElem!_pos d' i (by omega),Array.getElem?_eq_getElem (by omega)]
   rfl
  refine ⟨he,.inr ⟨g,c,d'.toList,rfl,hg,hgl,?_,?_,zPp _ _ _ _ _ _ _ _,?_,hkc,fun i hi=>?_⟩⟩
  ·have h3:d'.extract 0 n=d':=by rw [← hp1];exact Array.extract_size
   have h4:(Array.range n).extract 0 n=Array.range n:=by
    have:=Array.extract_size (xs:=Array.range n)
    rw [Array.size_range] at this
    exact this
   rw [h3,h4] at hp3
   simpa using hp3
  ·rw [List.pairwise_iff_getElem]
   intro i j hi hj hij
   have hi':i<d'.size:=by simpa using hi
   have hj':j<d'.size:=by simpa using hj
   have:=hs i j (Nat.zero_le _) hij (by omega)
   rw [zK1,getElem!_pos d' i hi',getElem!_pos d' j hj'] at this
   simpa using this
  ·have:=there_A hH'
   rw [hp1] at this
   exact this
  ·have:=at_A hH' (i:=i) (by omega)
   rw [hget i hi] at this
   exact this
end Go.Proofs.YtkjbafcalamgnaaGreat
namespace Go.Proofs.YtkjbafcalamgnaaGreat
open Go.RowKit
def LkA (w:World)(B p:Nat)(z x y wd ht now s:Int)(n:Nat)(A:Nat→Kp)(ra:Option Addr)(rn rc:Nat)(bad:Int):Prop:=B≤p∧∃ sp,Blk w p [.int .i64 z,.int .i64 x,.int .i64 y,.int .i64 wd,.int .i64 ht,.int .i64 now,.pointer (some ⟨sp,0,none⟩),.slice ra rn rc,.int .i64 bad,.slice none 0 0]∧ShK w B sp s n A∧sp≠p
theorem zGk {a b:Int}(h:or2 a b=0):a=0∧b=0:=by
 unfold or2 at h
 split at h
 ·rename_i h0;exact ⟨h0,h⟩
 ·rename_i h0;exact absurd h h0
theorem zGj {a b c:Int}(h:or3 a b c=0):a=0∧b=0∧c=0:=by
 unfold or3 at h
 by_cases h1:a=0
 ·rw [if_pos h1] at h
  by_cases h2:b=0
  ·rw [if_pos h2] at h;exact ⟨h1,h2,h⟩
  ·rw [if_neg h2] at h;exact absurd h h2
 ·rw [if_neg h1] at h;exact absurd h h1
theorem zC2 {z x y wd ht now s:Int}{n:Nat}{K:Nat→Kp}{rn:Nat}{E:Nat→Req}{bad:Int}(h:or2 (uR z x y wd ht) (zFr now bad)≠0):viewC z x y wd ht now s n K rn E bad=or2 (uR z x y wd ht) (zFr now bad):=by
 unfold viewC or2 at *
 by_cases h1:uR z x y wd ht=0
 ·rw [if_pos h1,if_pos h1]
  rw [if_pos h1] at h
  unfold zFr at *
  by_cases h2:inV now bad=true
  ·rw [if_pos h2] at h;exact absurd rfl h
  ·rw [if_neg h2,if_neg h2]
 ·rw [if_neg h1,if_neg h1]
theorem zB4 {z x y wd ht now s:Int}{n:Nat}{K:Nat→Kp}{rn:Nat}{E:Nat→Req}{bad:Int}(h:or2 (uR z x y wd ht) (zFr now bad)=0)(h2:or3 (cacheC s n K) (if s<4 then 3 else 0) (zO rn E)≠0):viewC z x y wd ht now s n K rn E bad=or3 (cacheC s n K) (if s<4 then 3 else 0) (zO rn E):=by
 obtain ⟨h0,h1⟩:=zGk h
 have hi:inV now bad=true:=by
  unfold zFr at h1
  by_cases h:inV now bad=true
  ·exact h
  ·rw [if_neg h] at h1;cases h1
 unfold viewC or3 at *
 rw [if_pos h0,if_pos hi]
 by_cases h3:cacheC s n K=0
 ·rw [if_pos h3,if_pos h3]
  rw [if_pos h3] at h2
  by_cases h4:s<4
  ·simp [h4]
  ·simp [h4] at h2 ⊢
   intro h;exact absurd h h2
 ·rw [if_neg h3,if_neg h3]
theorem zOk {z x y wd ht now s:Int}{n:Nat}{K:Nat→Kp}{rn:Nat}{E:Nat→Req}{bad:Int}(h:or2 (uR z x y wd ht) (zFr now bad)=0)(h2:or3 (cacheC s n K) (if s<4 then 3 else 0) (zO rn E)=0):viewC z x y wd ht now s n K rn E bad=xP (zC5 z x y wd ht n K E) 0 rn:=by
 obtain ⟨h0,h1⟩:=zGk h
 obtain ⟨h3,h4,h5⟩:=zGj h2
 have hi:inV now bad=true:=by
  unfold zFr at h1
  by_cases h:inV now bad=true
  ·exact h
  ·rw [if_neg h] at h1;cases h1
 have h4':¬ s<4:=fun h=>by rw [if_pos h] at h4;cases h4
 unfold viewC
 rw [if_pos h0,if_pos hi,if_pos h3,if_neg h4',if_pos h5]
theorem zFj (z x y wd ht now s:Int)(b n cap:Nat)(A:Nat→Kp)(ra:Option Addr)(rn rc:Nat)(E:Nat→Req)(bad VC:Int)(w:World)(hVC:viewC z x y wd ht now s n A rn E bad=VC)(ha:zCy w b n A)(hs:zJ n A)(hcap:∀ i,i<n→(A i).fn≤(A i).fc)(hnc:n≤cap)(hr:xO w ra rn E)(hrn:rn≤1048576)(hrc:rn≤rc) :
  Calls Tryz.prog 34 #[vwV z x y wd ht now s (.slice (some ⟨b,0,none⟩) n cap) (.slice ra rn rc) bad] w fun e w'=>∃ p,e=.returned (.tuple #[.pointer (some ⟨p,0,none⟩),.int .i64 VC])∧Bw w w'∧(VC=0→LkA w' w.heap.size p z x y wd ht now s n A ra rn rc bad):=by
 have HVC:Hid (viewC z x y wd ht now s n A rn E bad=VC):=hVC
 have HR:Hid (xO w ra rn E):=hr
 have HSh:Hid (∀ W,Bw w W→Calls Tryz.prog 71 #[caV s (.slice (some ⟨b,0,none⟩) n cap)] W fun e w'=>∃ p,e=.returned (.tuple #[.pointer (some ⟨p,0,none⟩),.int .i64 (cacheC s n A)])∧Bw W w'∧(cacheC s n A=0→ShK w' W.heap.size p s n A)):=fun W h=>zO1 s b n cap A W (ha.below h) hs hcap hnc
 have HRq:Hid (∀ W,Bw w W→Calls Tryz.prog 73 #[.slice ra rn rc] W fun e w'=>e=.returned (.int .i64 (zO rn E))∧Bw W w'):=fun W h=>xN ra rn rc E W (HR.out.below h) hrn hrc
 clear hVC ha hs hcap hnc hr
 go_enter Tryz.func34,Tryz.ntmps34
 go_wp2_with fail
 generalize hW:((w.alloc _).alloc _:World)=W
 have HB0:Hid (Bw w W):=by show Below _ _ _;subst hW;exact Qb
 have HV:Hid (Blk W w.heap.size [.int .i64 z,.int .i64 x,.int .i64 y,.int .i64 wd,.int .i64 ht,.int .i64 now,.int .i64 s,.slice (some ⟨b,0,none⟩) n cap,.slice ra rn rc,.int .i64 bad]):=by show Blk _ _ _;subst hW;exact (Blk.new w _ _).alloc (by simp) _
 have HL:Hid (Blk W (w.heap.size+1) [.int .i64 z,.int .i64 x,.int .i64 y,.int .i64 wd,.int .i64 ht,.int .i64 now,.pointer none,.slice ra rn rc,.int .i64 bad,.slice none 0 0]):=by
  show Blk _ _ _;subst hW
  have:=Blk.new (w.alloc (.cells #[.int .i64 z,.int .i64 x,.int .i64 y,.int .i64 wd,.int .i64 ht,.int .i64 now,.int .i64 s,.slice (some ⟨b,0,none⟩) n cap,.slice ra rn rc,.int .i64 bad] 38)) [.int .i64 z,.int .i64 x,.int .i64 y,.int .i64 wd,.int .i64 ht,.int .i64 now,.pointer none,.slice ra rn rc,.int .i64 bad,.slice none 0 0] 79
  simpa using this
 have hvl:w.heap.size<W.heap.size:=HV.out.lt
 have hll:w.heap.size+1<W.heap.size:=HL.out.lt
 clear hW
 refine (vQ z x y wd ht W).mono ?_
 rintro e w1 ⟨rfl,hb1⟩
 have HB1:Hid (Bw W w1):=hb1
 have HCt:Hid (Calls Tryz.prog 70 #[.pointer (some ⟨w.heap.size+1,0,none⟩)] w1 fun e w'=>e=.returned (.int .i64 (zFr now bad))∧Bw w1 w'):=zHy _ now bad w1 ((HL.out.below hll hb1).cell 5 rfl) ((HL.out.below hll hb1).cell 8 rfl)
 clear hb1
 go_wp2_with fail
 refine Calls.mono HCt.out ?_
 rintro e w2 ⟨rfl,hb2⟩
 have HB2:Hid (Bw W w2):=zA HB1.out hb2
 clear hb2 HCt HB1
 go_wp2_with fail
 generalize hw3:(w2.alloc _:World)=w3
 have HB3:Hid (Bw W w3):=by show Below _ _ _;subst hw3;exact zA HB2.out (xC (Below.refl _ _) _)
 have HOr:Hid (Calls Tryz.prog 53 #[.slice (some ⟨w2.heap.size,0,none⟩) 2 2] w3 fun e w'=>e=.returned (.int .i64 (or2 (uR z x y wd ht) (zFr now bad)))∧w'=w3):=by
  show Calls _ _ _ _ _
  subst hw3
  exact zFe _ _ _ _ _ (by simp [go_sem]) (by simp [go_sem])
 clear hw3
 refine Calls.mono HOr.out ?_
 rintro e w4 ⟨rfl,h4⟩
 subst w4
 clear HOr HB2
 by_cases hor:or2 (uR z x y wd ht) (zFr now bad)=0
 case neg =>
  have hq:Hid (VC=or2 (uR z x y wd ht) (zFr now bad)):=HVC.out.symm.trans (zC2 hor)
  have hcb:(or2 (uR z x y wd ht) (zFr now bad) == 0)=false:=by simpa using hor
  clear HVC HSh HRq
  generalize or2 (uR z x y wd ht) (zFr now bad)=oc at *
  go_wp2_with fail
  refine bodyPost_ret (v:=.tuple #[.pointer (some ⟨w.heap.size+1,0,none⟩),.int .i64 oc]) (by simp [results,Tryz.results34,go_sem]) rfl ?_
  exact ⟨_,by rw [hq.out],zA HB0.out HB3.out,fun h=>absurd (hq.out.symm.trans h) hor⟩
 have HOR:Hid (or2 (uR z x y wd ht) (zFr now bad)=0):=hor
 rw [hor]
 have c6:=(HV.out.below hvl HB3.out).cell 6 rfl
 have c7:=(HV.out.below hvl HB3.out).cell 7 rfl
 clear hor
 go_wp2_with fail
 refine Calls.mono (HSh.out _ (zA HB0.out HB3.out)) ?_
 rintro e w5 ⟨sp,rfl,hb5,hK5⟩
 have HK5:Hid (cacheC s n A=0→ShK w5 w3.heap.size sp s n A):=hK5
 have HB5:Hid (Bw W w5):=zA HB3.out hb5
 have hw35:w.heap.size+1<w3.heap.size:=Nat.lt_of_lt_of_le hll HB3.out.size
 have HL5:Hid (Blk w5 (w.heap.size+1) [.int .i64 z,.int .i64 x,.int .i64 y,.int .i64 wd,.int .i64 ht,.int .i64 now,.pointer none,.slice ra rn rc,.int .i64 bad,.slice none 0 0]):=HL.out.below hll HB5.out
 have HV5:Hid (Blk w5 w.heap.size [.int .i64 z,.int .i64 x,.int .i64 y,.int .i64 wd,.int .i64 ht,.int .i64 now,.int .i64 s,.slice (some ⟨b,0,none⟩) n cap,.slice ra rn rc,.int .i64 bad]):=HV.out.below hvl HB5.out
 have t6:=HL5.out.cell 6 rfl
 have f6:=HL5.out.free 6 rfl
 clear hb5 hK5 c6 c7 HSh HL HV HB3
 go_wp2_with fail
 generalize hw6:(World.setCell _ _ _:World)=w6
 have HG6:Hid (w5.grownBy w6 (some (w.heap.size+1))):=by show World.grownBy _ _ _;subst hw6;exact zCc (zCl _ _) 6 _
 have HL6:Hid (Blk w6 (w.heap.size+1) [.int .i64 z,.int .i64 x,.int .i64 y,.int .i64 wd,.int .i64 ht,.int .i64 now,.pointer (some ⟨sp,0,none⟩),.slice ra rn rc,.int .i64 bad,.slice none 0 0]):=by show Blk _ _ _;subst hw6;exact HL5.out.set 6 _
 have HV6:Hid (Blk w6 w.heap.size [.int .i64 z,.int .i64 x,.int .i64 y,.int .i64 wd,.int .i64 ht,.int .i64 now,.int .i64 s,.slice (some ⟨b,0,none⟩) n cap,.slice ra rn rc,.int .i64 bad]):=by show Blk _ _ _;subst hw6;exact HV5.out.other (by omega)
 have HB6:Hid (Bw w w6):=by show Below _ _ _;subst hw6;exact (zA HB0.out HB5.out).setCell (Nat.le_succ _) _
 clear hw6 t6 f6 HL5 HV5
 have HK6:Hid (cacheC s n A=0→ShK w6 w.heap.size sp s n A∧sp≠w.heap.size+1):=fun h=>by
  obtain ⟨mb,h1,h2,h3,h4,h5⟩:=HK5.out h
  have e1:sp≠w.heap.size+1:=by omega
  exact ⟨⟨mb,by omega,by omega,⟨yY HG6.out h3.1 e1,yY HG6.out h3.2.1 e1,yY HG6.out h3.2.2 e1⟩,h4.grown HG6.out e1,h5.kept HG6.out (by simp;omega)⟩,e1⟩
 have hvl6:w.heap.size<w6.heap.size:=HV6.out.lt
 have hll6:w.heap.size+1<w6.heap.size:=HL6.out.lt
 clear HK5 HG6 HB5 HB0 hw35 hvl hll
 have c6:∀ W',Bw w6 W'→W'.cell? ⟨w.heap.size,6,none⟩=some (.int .i64 s):=fun W' h=>(HV6.out.below hvl6 h).cell 6 rfl
 have c7:∀ W',Bw w6 W'→W'.cell? ⟨w.heap.size+1,7,none⟩=some (.slice ra rn rc):=fun W' h=>(HL6.out.below hll6 h).cell 7 rfl
 have HRo:Hid (∀ W',Calls Tryz.prog 72 #[.int .i64 s] W' fun e w'=>e=.returned (.int .i64 (if s<4 then 3 else 0))∧w'=W'):=fun W'=>zKr s W'
 have HO3:Hid (∀ (W':World) (bb:Nat) (u1 u2 u3:Int),W'.cell? ⟨bb,0,none⟩=some (.int .i64 u1)→W'.cell? ⟨bb,1,none⟩=some (.int .i64 u2)→W'.cell? ⟨bb,2,none⟩=some (.int .i64 u3)→Calls Tryz.prog 53 #[.slice (some ⟨bb,0,none⟩) 3 3] W' fun e w'=>e=.returned (.int .i64 (or3 u1 u2 u3))∧w'=W'):=fun W' bb u1 u2 u3 h0 h1 h2=>zJy bb 3 u1 u2 u3 W' h0 h1 h2
 have HSt:Hid (∀ W',Bw w6 W'→cacheC s n A=0→zO rn E=0→Calls Tryz.prog 74 #[.pointer (some ⟨w.heap.size+1,0,none⟩)] W' fun e w'=>e=.returned (.int .i64 (xP (zC5 z x y wd ht n A E) 0 rn))∧Below W'.heap.size W' w'):=fun W' h h0 hq=>zIf w.heap.size (w.heap.size+1) sp z x y wd ht now s n A ra rn rc E bad W' (HL6.out.below hll6 h) ((HK6.out h0).1.below h) h0 (HR.out.below (zA HB6.out h)) hrn hrc hq
 generalize hRM:(if s<4 then (3:Int) else 0)=RM at *
 have HRM:Hid ((if s<4 then (3:Int) else 0)=RM):=hRM
 clear hRM
 refine wp_region_noPanic ?_
 refine wp_region_held_drew (S:=fun W'=>Bw w6 W') (by kernel_rfl) (by have:=Below.refl w6.heap.size w6;exact Qb) (fun hHeld=>?_)
 have hX0:Bw w6 w6.drew:=hHeld
 refine zF (i:=0) (d:=some 41) rfl rfl ?_
 try simp only [Act.put,Qx,Qy,Qz]
 refine zF (i:=1) (d:=some 42) rfl rfl ?_
 try simp only [Act.put,Qx,Qy,Qz]
 refine zF (i:=2) (d:=some 43) rfl rfl ?_
 try simp only [Act.put,Qx,Qy,Qz]
 refine zF (i:=3) (d:=some 44) rfl rfl ?_
 try simp only [Act.put,Qx,Qy,Qz]
 refine zF (i:=5) (d:=some 46) rfl rfl ?_
 try simp only [Act.put,Qx,Qy,Qz]
 refine zF (i:=6) (d:=some 47) rfl rfl ?_
 try simp only [Act.put,Qx,Qy,Qz]
 refine zF (i:=7) (d:=some 48) rfl rfl ?_
 try simp only [Act.put,Qx,Qy,Qz]
 refine zF (i:=8) (d:=some 49) rfl rfl ?_
 try simp only [Act.put,Qx,Qy,Qz]
 generalize w6.drew=wk0 at *
 refine zN 4 fun K hK=>?_
 rw [if_pos (by rfl)]
 go_simp
 refine Calls.mono (HRo.out _) ?_
 rintro e wk1 ⟨rfl,hw⟩
 subst wk1
 go_wp2_with fail
 refine hK.out _ _ (by assumption) (fun hHeld=>?_)
 clear hK K
 try simp only [Act.put,Qx,Qy,Qz]
 refine zN 9 fun K hK=>?_
 rw [if_pos (by rfl)]
 go_simp
 refine Calls.mono (HRq.out _ (zA HB6.out hX0)) ?_
 rintro e wk2 ⟨rfl,hb2⟩
 have hX2:Bw w6 wk2:=zA hX0 hb2
 go_wp2_with fail
 refine hK.out _ _ (by assumption) (fun hHeld=>?_)
 clear hK K
 try simp only [Act.put,Qx,Qy,Qz]
 refine zN 10 fun K hK=>?_
 rw [if_pos (by rfl)]
 go_simp
 generalize hwA:(World.alloc _ _:World)=wk3
 have hb3:Bw wk2 wk3:=by subst hwA;exact Qb
 have j0:wk3.cell? ⟨wk2.heap.size,0,none⟩=some (.int .i64 (cacheC s n A)):=by subst hwA;simp [go_sem]
 have j1:wk3.cell? ⟨wk2.heap.size,1,none⟩=some (.int .i64 RM):=by subst hwA;simp [go_sem]
 have j2:wk3.cell? ⟨wk2.heap.size,2,none⟩=some (.int .i64 (zO rn E)):=by subst hwA;simp [go_sem]
 clear hwA
 have hX3:Bw w6 wk3:=zA hX2 hb3
 refine hK.out _ _ hX3 (fun hHeld=>?_)
 clear hK K
 try simp only [Act.put,Qx,Qy,Qz]
 refine zN 11 fun K hK=>?_
 rw [if_pos (by rfl)]
 go_simp
 refine Calls.mono (HO3.out _ _ _ _ _ j0 j1 j2) ?_
 rintro e wk4 ⟨rfl,hw⟩
 subst wk4
 go_wp2_with fail
 refine hK.out _ _ (by assumption) (fun hHeld=>?_)
 clear hK K
 try simp only [Act.put,Qx,Qy,Qz]
 refine zF (i:=12) (d:=some 7) rfl rfl ?_
 try simp only [Act.put,Qx,Qy,Qz]
 refine wpAnyH_done (by kernel_rfl) ?_ _
 refine NoPanic.normal ?_
 have HX3:Hid (Bw w6 wk3):=hX3
 clear c6 c7 HRo HRq HO3 hX0 hb2 hX2 hb3 hX3 j0 j1 j2
 have HB7:Hid (Bw w wk3):=zA HB6.out HX3.out
 by_cases ho3:or3 (cacheC s n A) RM (zO rn E)=0
 case neg =>
  have hq:Hid (VC=or3 (cacheC s n A) RM (zO rn E)):=by
   show _=_
   rw [← HVC.out,← HRM.out]
   exact zB4 HOR.out (by rw [HRM.out];exact ho3)
  have hcb:(or3 (cacheC s n A) RM (zO rn E) == 0)=false:=by simpa using ho3
  clear HVC HSt HK6
  generalize or3 (cacheC s n A) RM (zO rn E)=oc at *
  go_wp2_with fail
  refine bodyPost_ret (v:=.tuple #[.pointer (some ⟨w.heap.size+1,0,none⟩),.int .i64 oc]) (by simp [results,Tryz.results34,go_sem]) rfl ?_
  exact ⟨_,by rw [hq.out],HB7.out,fun h=>absurd (hq.out.symm.trans h) ho3⟩
 obtain ⟨h1,h2,h3⟩:=zGj ho3
 have hq:Hid (VC=xP (zC5 z x y wd ht n A E) 0 rn):=by
  show _=_
  rw [← HVC.out]
  exact zOk HOR.out (by rw [HRM.out];exact ho3)
 have HSt2:=(show Hid _ from HSt.out wk3 HX3.out h1 h3)
 have HK7:Hid (ShK wk3 w.heap.size sp s n A∧sp≠w.heap.size+1):=⟨(HK6.out h1).1.below HX3.out,(HK6.out h1).2⟩
 have HL7:Hid (Blk wk3 (w.heap.size+1) [.int .i64 z,.int .i64 x,.int .i64 y,.int .i64 wd,.int .i64 ht,.int .i64 now,.pointer (some ⟨sp,0,none⟩),.slice ra rn rc,.int .i64 bad,.slice none 0 0]):=HL6.out.below hll6 HX3.out
 rw [ho3]
 clear HSt HK6 ho3 h1 h2 h3
 generalize xP (zC5 z x y wd ht n A E) 0 rn=sc at *
 go_wp2_with fail
 refine Calls.mono HSt2.out ?_
 rintro e w8 ⟨rfl,hb8⟩
 go_wp2_with fail
 refine bodyPost_ret (v:=.tuple #[.pointer (some ⟨w.heap.size+1,0,none⟩),.int .i64 sc]) (by simp [results,Tryz.results34,go_sem]) rfl ?_
 exact ⟨_,by rw [hq.out],zA HB7.out hb8,fun _=>⟨Nat.le_succ _,sp,HL7.out.below HL7.out.lt hb8,HK7.out.1.below hb8,HK7.out.2⟩⟩
end Go.Proofs.YtkjbafcalamgnaaGreat
