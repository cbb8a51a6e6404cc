/- Texts. -/
import Derived.Test.YtkjbafcalamgnaaGreatVPanViewer33
import Derived.Sort.MapsRangeIn
import Derived.Sort.KeysCollected
import Derived.Test.YtkjbafcalamgnaaGreatVPanViewer30
set_option linter.unusedSimpArgs false
set_option linter.unusedVariables false
set_option maxRecDepth 100000
set_option maxHeartbeats 32000000
namespace Go.Proofs.YtkjbafcalamgnaaGreat
open Go.RowKit
end Go.Proofs.YtkjbafcalamgnaaGreat
namespace Go.Proofs.YtkjbafcalamgnaaGreat
open Go.RowKit Go.Shelf Go.Maps Go.Sort
attribute [local go_sem] Oper.semAt_some
structure Ag where
 z:Int
 x:Int
 y:Int
 fa:Option Addr
 fn:Nat
 fc:Nat
 ia:Option Addr
 m:Nat
 ic:Nat
 t:Int
abbrev agW (a:Ag):Value:=agV a.z a.x a.y a.fa a.fn a.fc a.ia a.m a.ic a.t
theorem agW_inj {a b:Ag}(h:agW a=agW b):a=b:=by
 cases a;cases b
 simp at h
 simp [h]
theorem RV_ag {v:Value}{y:DataW Value × List MemPlace}(h:RV v=some y):∃ c:Ag,v=agW c:=by
 obtain ⟨_,z,x,y,fa,fn,fc,ia,m,ic,t,rfl⟩:=zQl (d:=y.1) (ps:=y.2) h
 exact ⟨⟨z,x,y,fa,fn,fc,ia,m,ic,t⟩,rfl⟩
theorem key_str {P:Program}{k:TypeId}{fs:Array Field}{key:Value}{kl:Lit}(hu:P.underlying k=some (.struct fs))(h:keyOf P k key=some kl):∃ x:List UInt8,kl=.string x:=by
 unfold keyOf at h
 rw [hu] at h
 simp at h
 obtain ⟨_,a,_,e⟩:=h
 exact ⟨_,e.symm⟩
def AllV (D0:DataW Value)(ps:List (List UInt8 × Ag)):Prop:=(ps.map (·.1)).Nodup∧(∀ x,x ∈ ps.map (·.1) ↔ has D0 (.string x)=true)∧∀ p ∈ ps,∀ zd,D0.atKey (.string p.1) zd=.held (agW p.2)
theorem zQn (l Bm b nn:Nat)(D0:DataW Value)(J Jx:List Ag→World→Prop)(hY:∀ pre x W,J pre W→pre.length<Maps.size D0→YieldAt Fence.wide 2 Tryz.prog l #[agW x] W fun e W' =>
   (e=.returned (.bool true)∧J (pre ++ [x]) W'∧KeepsWalks W W')∨(e=.returned (.bool false)∧Jx (pre ++ [x]) W'))(W:World)(hJ:AbidesFrom W.heap.size J)(hm:W.cell? ⟨Bm,0,none⟩=some (.map (some b)))(hown:W.ownsMap Tryz.prog 104 RV b nn D0)(h0:J [] W) :
  CallsIn Fence.wide 3 Tryz.prog 227 #[.func (.yield l) #[] #[],.pointer (some ⟨Bm,0,none⟩)] W fun e W'=>(∃ v,e=.returned v) ∧
   ((∃ xs,(∃ ps,AllV D0 ps∧xs=ps.map (·.2))∧J xs W')∨(∃ pre,True∧Jx pre W')):=by
 refine callsIn_of_wp Tryz.func227 rfl trivial ?_ rfl
 simp only [Tryz.ntmps227,List.size_toArray,List.length_cons,List.length_nil,Nat.reduceAdd,Nat.reduceSub,Array.replicate_succ,Array.replicate_zero,List.push_toArray,List.append_toArray,List.nil_append,List.cons_append]
 gi_wp2_with (first
  | (gi_at_range;refine wpListIn_range_own _ rfl _ 170 rfl 104 223 uB Tryz.underlying170 _ b nn _ rfl hown ?_;intro w0 hrg0 hg0 hs0)
  | gi_in)
 go_frame
 gi_loopw [] (fun wr=>∃ (left:Lit→Bool) (cnt:Nat) (ps:List (List UInt8 × Ag)),wr.ranges Tryz.prog 104 RV b W.heap.size nn D0 left cnt∧ps.length+cnt≤Maps.size D0∧Collected D0 left (ps.map (·.1))∧(∀ p ∈ ps,∀ zd,D0.atKey (.string p.1) zd=.held (agW p.2))∧J (ps.map (·.2)) wr)
  (fun wr=>wr.rangeLeft b W.heap.size)
 case atStart =>
  exact ⟨_,_,[],hrg0,by simp,Collected.start D0,by simp,hJ [] W w0 none h0 hg0 (fun r e=>by cases e)⟩
 case round =>
  obtain ⟨left,cnt,ps,hrg,hcs,hC,hV,hJs⟩:=hrel
  gi_wp2_with (first
   | (gi_at_next;refine wpListIn_next_ranges _ rfl _ rfl 104 uB RV id agW (fun key kl hk=>⟨key,rfl⟩) (fun v y hv=>RV_ag hv) b W.heap.size nn _ _ _ rfl hrg ?_ ?_)
   | gi_in)
  ·intro hc0 hl0
   gi_wp2
   go_end0
   exact ⟨⟨_,rfl⟩,.inl ⟨_,⟨ps,⟨hC.1,fun x=>by rw [hC.2 x,hl0];simp,hV⟩,rfl⟩,hJs⟩⟩
  ·intro x c kl yd yp w2 cnt2 hkey hlk hv hat hrg2 hlt hg2 hs2 hen
   obtain ⟨xb,rfl⟩:=key_str Tryz.underlying104 hkey
   have hy1:yd=.held (agW c):=(zQl hv).1
   have hJ2:J (ps.map (·.2)) w2:=hJ _ wr w2 (some W.heap.size) hJs hg2 (fun r e=>by cases e;exact ⟨Nat.le_refl _,hrg.iter_walk⟩)
   have hJa:J (ps.map (·.2)) (w2.alloc (.cells #[.int .i64 c.z,.int .i64 c.x,.int .i64 c.y,.slice c.fa c.fn c.fc,.slice c.ia c.m c.ic,.int .i64 c.t] 223)):=hJ _ _ _ none hJ2 (World.grownBy_alloc _ _ _) (fun r e=>by cases e)
   obtain ⟨fn,tmps,assign,body,hy,hR⟩:=hY (ps.map (·.2)) c _ hJa (by simp;omega)
   clear hs2
   gi_wp2
   refine hR.mono ?_
   have hC2:Collected D0 (fun z=>left z && !z.sameKey (.string xb)) ((ps ++ [(xb,c)]).map (·.1)):=by simpa using hC.step hlk hat
   have hV2:∀ p ∈ ps ++ [(xb,c)],∀ zd,D0.atKey (.string p.1) zd=.held (agW p.2):=fun p hp=>(List.mem_append.1 hp).elim (hV p) (fun e=>by simp at e;subst e;intro zd;rw [hat zd,hy1])
   rintro e W3 (⟨rfl,hJ3,hk3⟩ | ⟨rfl,hJx3⟩)
   ·gi_wp2
    have hrg3:=(hrg2.alloc _).of_walks hk3
    go_roundw
    case rel=>exact ⟨_,cnt2,ps ++ [(xb,c)],hrg3,by simp;omega,hC2,hV2,by simpa using hJ3⟩
    case measure=>rw [hrg3.left_eq,hrg.left_eq];exact hlt
   ·gi_wp2
    refine bodyPost_ret (results_none rfl _ _ _) rfl ?_
    exact ⟨⟨_,rfl⟩,.inr ⟨_,trivial,hJx3⟩⟩
end Go.Proofs.YtkjbafcalamgnaaGreat
namespace Go.Proofs.YtkjbafcalamgnaaGreat
open Go.RowKit
end Go.Proofs.YtkjbafcalamgnaaGreat
namespace Go.Proofs.YtkjbafcalamgnaaGreat
open Go.RowKit Go.Shelf Go.Maps Go.Sort
attribute [local go_sem] Oper.semAt_some
def zFv (a:Ag):List Value:=[.int .i64 a.z,.int .i64 a.x,.int .i64 a.y,.slice a.fa a.fn a.fc,.slice a.ia a.m a.ic,.int .i64 a.t]
def zFu (l:List Ag):List Value:=l.flatMap zFv
def ABox (W:World)(B:Nat)(a:Ag):Prop:=W.heap[B]?=some (.cells #[.int .i64 a.z,.int .i64 a.x,.int .i64 a.y,.slice a.fa a.fn a.fc,.slice a.ia a.m a.ic,.int .i64 a.t] 223 (0,0))
theorem ABox.at {W:World}{B:Nat}{a:Ag}(h:ABox W B a):W.cell? ⟨B,0,none⟩=some (.int .i64 a.z)∧W.cell? ⟨B,1,none⟩=some (.int .i64 a.x)∧W.cell? ⟨B,2,none⟩=some (.int .i64 a.y)∧W.cell? ⟨B,3,none⟩=some (.slice a.fa a.fn a.fc)∧W.cell? ⟨B,4,none⟩=some (.slice a.ia a.m a.ic)∧W.cell? ⟨B,5,none⟩=some (.int .i64 a.t):=by
 have h':W.heap[B]?=_:=h
 exact ⟨by simp [World.cell?,h'],by simp [World.cell?,h'],by simp [World.cell?,h'],by simp [World.cell?,h'],by simp [World.cell?,h'],by simp [World.cell?,h']⟩
abbrev zXn:Array Value:=#[.int .i64 0,.int .i64 0,.int .i64 0,.slice none 0 0,.slice none 0 0,.int .i64 0]
theorem info_ag:(Tryz.prog.info? 223).map (fun i=>(i.zero,i.size,i.bytes))=some (some (.agg zXn),6,80):=by kernel_rfl
def AllA (D0:DataW Value)(xs:List Ag):Prop:=∃ ps,AllV D0 ps∧xs=ps.map (·.2)
theorem zLo (Bm b nn:Nat)(D0:DataW Value)(w:World)(hBm:Bm<w.heap.size)(hm:w.cell? ⟨Bm,0,none⟩=some (.map (some b)))(hown:w.ownsMap Tryz.prog 104 RV b nn D0) :
  SeqStopsK Fence.wide 3 Tryz.prog 227 #[.pointer (some ⟨Bm,0,none⟩)] (fun x:Ag=>#[agW x]) KeepsWalks (AllA D0) (fun _=>True) (Maps.size D0) w:=fun l J Jx W hW hJ hJx hY h0 =>
 zQn l Bm b nn D0 J Jx hY W hJ ((hW.cell (p:=⟨Bm,0,none⟩) hBm).trans hm) (zX hown hW) h0
theorem zId (mb:Nat)(w:World):Calls Tryz.prog 200 #[.map (some mb)] w fun e w'=>e=.returned (.func (.func 227) #[] #[.pointer (some ⟨w.heap.size,0,none⟩)])∧w'=w.alloc (.cells #[.map (some mb)] 170):=by
 have hmf:∀ (fn:Fn) (first cap:Array Value) (w:World),(Instr.makeFunc fn first cap).run Tryz.prog w=.ok (.func fn first cap) w:=fun _ _ _ _=>rfl
 go_enter Tryz.func200,Tryz.ntmps200
 go_wp2
 go_ret
 exact ⟨rfl,rfl⟩
theorem zIn (Bm b nn:Nat)(D0:DataW Value)(w:World)(hBm:Bm<w.heap.size)(hm:w.cell? ⟨Bm,0,none⟩=some (.map (some b)))(hown:w.ownsMap Tryz.prog 104 RV b nn D0)(hall:Maps.size D0≤1048576) :
  Calls Tryz.prog 241 #[.slice none 0 0,.func (.func 227) #[] #[.pointer (some ⟨Bm,0,none⟩)]] w fun e w'=>∃ v xs,e=.returned v∧AllA D0 xs∧w'.ownsRow w.heap.size 223 6 v xs.length (zFu xs)∧Bw w w':=by
 obtain ⟨i0,hi,hz0,hz1,hz2⟩:=info_parts info_ag
 refine (callsIn_wide (n:=4)).1 ?_
 refine callsIn_of_wp_marks Tryz.func241 rfl trivial ?_ rfl
 simp only [Tryz.ntmps241,List.size_toArray,List.length_cons,List.length_nil,Nat.reduceAdd,Nat.reduceSub,Array.replicate_succ,Array.replicate_zero,List.push_toArray,List.append_toArray,List.nil_append,List.cons_append]
 gi_wp2
 obtain ⟨W0,hW0⟩:∃ W0,(w.alloc (.cells #[.slice none 0 0] 261):World)=W0:=⟨_,rfl⟩
 have b0:Boxed W0 w.heap.size 261 (.slice none 0 0):=by rw [← hW0];exact Boxed.new w 261 (.slice none 0 0)
 have hB0:Bw w W0:=by rw [← hW0];exact Qb
 have hsz:W0.heap.size=w.heap.size+1:=by rw [← hW0];simp
 rw [hW0]
 clear hW0
 refine wpIn_rangeFunc_ownH rfl (by omega) (gf:=227) (lb:=#[.pointer (some ⟨Bm,0,none⟩)]) rfl trivial (enters_of Tryz.func227 (by kernel_rfl) rfl)
  (zLo Bm b nn D0 W0 (by omega) ((hB0.cell (p:=⟨Bm,0,none⟩) hBm).trans hm) (zX hown hB0)) (fun h k=>KeepsWalks.trans h k) (fun W l o o' _ h1 _ h3=>KeepsWalks.putObj o' h1 h3) (Below.refl _ _) (fun _=>rfl)
  (fun pre W=>((∃ v,Boxed W w.heap.size 261 v∧W.ownsRow w.heap.size 223 6 v pre.length (zFu pre)∧True))∧Bw w W)
  (fun _ _ _=>False)
  (OwnFrom.and (Own.from (holdsRow_own w.heap.size w.heap.size 261 223 6 (fun (pre:List Ag)=>pre.length) (fun pre=>zFu pre) (fun _ _=>True)) _) (ownFrom_below (Nat.le_refl _) (by omega)))
  (fun _ _ _ _ _ hs _ _=>hs)
  ⟨⟨_,b0,World.ownsRow_nil _ _ _ _,trivial⟩,hB0⟩
  (fun x a' W=>∃ Bx,ABox W Bx x∧a'={ tmps:=#[.slice none 0 0,.func (.func 227) #[] #[.pointer (some ⟨Bm,0,none⟩)],.pointer (some ⟨w.heap.size,0,none⟩),undef,.slice none 0 0,.pointer (some ⟨Bx,0,none⟩),.func (.func 227) #[] #[.pointer (some ⟨Bm,0,none⟩)],agW x,undef,undef,undef,undef,undef],defers:=[] })
  ?hAx ?assign ?body ?done ?stop
 case hAx =>
  rintro x a' _ X Y row ⟨Bx,e1,e2⟩ hg hr
  exact ⟨Bx,(hg.block Bx (Array.getElem?_eq_some_iff.1 e1).1 (fun e'=>by obtain ⟨_,o,ho,hc⟩:=hr Bx e'.symm;rw [show X.heap[Bx]?=_ from e1] at ho;cases ho;cases hc)).trans e1,e2⟩
 case assign =>
  rintro l pre x W K ⟨⟨v,hv,hrow,_⟩,hB⟩ hK
  have hK2:=hK { tmps:=#[.slice none 0 0,.func (.func 227) #[] #[.pointer (some ⟨Bm,0,none⟩)],.pointer (some ⟨w.heap.size,0,none⟩),undef,.slice none 0 0,.pointer (some ⟨W.heap.size,0,none⟩),.func (.func 227) #[] #[.pointer (some ⟨Bm,0,none⟩)],agW x,undef,undef,undef,undef,undef],defers:=[] } (W.alloc (.cells #[.int .i64 x.z,.int .i64 x.x,.int .i64 x.y,.slice x.fa x.fn x.fc,.slice x.ia x.m x.ic,.int .i64 x.t] 223))
   ((KeepsOthers.alloc _ _).from _) (KeepsWalks.alloc _ _) ⟨⟨v,hv.alloc _,hrow.alloc _,trivial⟩,hB.alloc hB.size _⟩ ⟨_,World.alloc_heap_new W _,rfl⟩
  gi_wp2
  exact hK2
 case body =>
  rintro l pre x a' W hl hlr ⟨⟨v,hv,hrow,_⟩,hB⟩ ⟨Bx,hE,rfl⟩ hlt
  obtain ⟨e0,e1,e2,e3,e4,e5⟩:=hE.at
  have hc:=hv.cell
  have hmx:1048577≤maxLen:=by decide
  have hce:∀ j u,(zFv x)[j]?=some u→(W.alloc (.cells #[.int .i64 x.z,.int .i64 x.x,.int .i64 x.y,.slice x.fa x.fn x.fc,.slice x.ia x.m x.ic,.int .i64 x.t] 223)).cell? ((⟨W.heap.size,0,none⟩:Addr).add j)=some u:=by
   have hN:ABox (W.alloc (.cells #[.int .i64 x.z,.int .i64 x.x,.int .i64 x.y,.slice x.fa x.fn x.fc,.slice x.ia x.m x.ic,.int .i64 x.t] 223)) W.heap.size x:=World.alloc_heap_new W _
   obtain ⟨n0,n1,n2,n3,n4,n5⟩:=hN.at
   intro j u hj
   match j,hj with
   | 0,hj=>exact (Option.some.inj hj) ▸ n0
   | 1,hj=>exact (Option.some.inj hj) ▸ n1
   | 2,hj=>exact (Option.some.inj hj) ▸ n2
   | 3,hj=>exact (Option.some.inj hj) ▸ n3
   | 4,hj=>exact (Option.some.inj hj) ▸ n4
   | 5,hj=>exact (Option.some.inj hj) ▸ n5
   | j+6,hj=>cases (show (none:Option Value)=some u from hj)
  gi_wp2_with (gi_at_builtin;refine wpListIn_append_own _ rfl _ _ 261 rfl w.heap.size 223 i0 (.agg zXn) 6 80 Tryz.underlying261 hi hz0 hz1 hz2 rfl (by decide) _ _ _ rfl (hrow.alloc _) ⟨W.heap.size,0,none⟩ 1 1 (zFv x) rfl rfl hce (by simp [zFv,Value.oneCell']) (by omega) (by omega) (by have:=hB.size;simp;omega) ?_;intro v' w1 hown' hgrow _;obtain ⟨g',cap',rfl⟩:=ownsRow_succ hown';obtain ⟨hv1,hv2,hr2,hk2,hb2⟩:=hv.appended (by decide) hrow hB.size (Nat.le_refl _) hown' hgrow;have hc1:=hv1.cell;have hf1:=hv1.frozen)
  have hkw:KeepsWalks W w1:=(KeepsWalks.alloc W (.cells #[.int .i64 x.z,.int .i64 x.x,.int .i64 x.y,.slice x.fa x.fn x.fc,.slice x.ia x.m x.ic,.int .i64 x.t] 223)).trans (KeepsWalks.of_grownBy hgrow (fun j o e h=>by
   have e':v.ownBlock=some j:=e
   rcases (hrow.alloc (.cells #[.int .i64 x.z,.int .i64 x.x,.int .i64 x.y,.slice x.fa x.fn x.fc,.slice x.ia x.m x.ic,.int .i64 x.t] 223)).2 with ⟨rfl,_⟩ | ⟨g,cap,cur,rfl,_,hgb,_⟩
   ·cases e'
   ·have:g=j:=by simpa [Value.ownBlock] using e'
    subst this
    rw [hgb] at h
    cases h
    rfl))
  refine ⟨hk2.from _,hkw.trans (KeepsWalks.setCell _ _ _),⟨_,hv2,?_,trivial⟩,hB.trans hb2⟩
  simpa [zFu] using hr2
 case done =>
  rintro D ys W hD hys ⟨⟨v,hv,hrow,_⟩,hB⟩ hK
  have hc:=hv.cell
  gi_wp2
  refine ⟨by simp,.inl ⟨_,_,rfl,run_takeDeferred hK,?_⟩⟩
  exact ⟨_,results_tmp rfl _ _ _,v,ys,rfl,hys,ownsRow_putObj hrow _ hK rfl,hB.trans (belowK_b (w:=w) (Nat.le_refl _) W D _ _ (by omega) hK rfl rfl)⟩
 case stop =>
  rintro D c pre W _ _ h _
  exact h.elim
end Go.Proofs.YtkjbafcalamgnaaGreat
namespace Go.Proofs.YtkjbafcalamgnaaGreat
open Go.RowKit
def zFa (now bad:Int):Int:=if inV now bad=true then 0 else 3
theorem zHf (p:Nat)(now bad:Int)(w:World)(h5:w.cell? ⟨p,5,none⟩=some (.int .i64 now))(h8:w.cell? ⟨p,8,none⟩=some (.int .i64 bad)) :
  Calls Tryz.prog 70 #[.pointer (some ⟨p,0,none⟩)] w fun e w'=>e=.returned (.int .i64 (zFa now bad))∧Bw w w':=by
 have HI:Hid (∀ W,Calls Tryz.prog 77 #[.int .i64 bad,.int .i64 0,.int .i64 9999] W fun e w'=>e=.returned (.bool (inB bad 0 9999))∧w'=W):=fun W=>zR _ _ _ W
 have HT:Hid (∀ W,Calls Tryz.prog 121 #[.int .i64 now] W fun e w'=>e=.returned (.int .i64 (zFg now))∧Bw W w'):=fun W=>zDl now W
 cases hb:inB bad 0 9999
 ·have HE:Hid (zFa now bad=3):=by show _=_;simp [zFa,inV,hb]
  rw [hb] at HI
  go_enter Tryz.func70,Tryz.ntmps70
  go_wp2_with fail
  refine Calls.mono (HI.out _) ?_
  rintro e w2 ⟨rfl,h2⟩
  subst w2
  go_wp2
  go_ret
  exact ⟨zD HE.out.symm,Below.refl _ _⟩
 ·have HE:Hid (zFa now bad=zFg now):=by show _=_;simp [zFa,inV,hb,zFg]
  rw [hb] at HI
  clear hb
  generalize zFa now bad=CC at *
  generalize zFg now=TC at *
  go_enter Tryz.func70,Tryz.ntmps70
  go_wp2_with fail
  refine Calls.mono (HI.out _) ?_
  rintro e w2 ⟨rfl,h2⟩
  subst w2
  go_wp2_with fail
  refine Calls.mono (HT.out _) ?_
  rintro e w3 ⟨rfl,hb3⟩
  go_wp2
  go_ret
  exact ⟨zD HE.out.symm,hb3⟩
theorem zJ9 (s:Int)(w:World):Calls Tryz.prog 72 #[.int .i64 s] w fun e w'=>e=.returned (.int .i64 (if s<4 then 3 else 0))∧w'=w:=by
 by_cases h:s<4
 ·rw [if_pos h]
  go_enter Tryz.func72,Tryz.ntmps72
  go_wp2
  go_ret
  exact ⟨rfl,rfl⟩
 ·rw [if_neg h]
  go_enter Tryz.func72,Tryz.ntmps72
  go_wp2
  go_ret
  exact ⟨rfl,rfl⟩
theorem zRb {n:Nat}{E:Nat→Req}(h:zO n E=0):∀ j,j<n→zCm (E j).z (E j).x (E j).y=true:=by
 unfold zO at h
 split at h
 ·cases h
 ·intro j hj
  cases hr:zNv (E j)
  ·exfalso
   obtain ⟨i,hi,hne,hall⟩:∃ i,i≤j∧vF E i≠0∧∀ l,l<i→vF E l=0:=by
    have:∀ m,(∃ i,i≤m∧vF E i≠0)→∃ i,i≤m∧vF E i≠0∧∀ l,l<i→vF E l=0:=by
     intro m
     induction m with
     | zero=>rintro ⟨i,hi,h⟩;exact ⟨i,hi,h,fun l hl=>by omega⟩
     | succ m ih =>
      rintro ⟨i,hi,h⟩
      by_cases hx:∃ i,i≤m∧vF E i≠0
      ·obtain ⟨i,h1,h2⟩:=ih hx;exact ⟨i,by omega,h2⟩
      ·refine ⟨i,hi,h,fun l hl=>?_⟩
       by_cases e:vF E l=0
       ·exact e
       ·exact absurd ⟨l,by omega,e⟩ hx
    exact this j ⟨j,Nat.le_refl _,by rw [zDv hr];decide⟩
   rw [yI (vF E) n 0 i (fun l _ hl=>hall l hl) (by omega) (by omega) hne] at h
   exact hne h
  ·unfold zNv at hr
   simp at hr
   exact hr.1
theorem zHz (B p sp:Nat)(z x y wd ht now s:Int)(n:Nat)(A:Nat→Kp)(ra:Option Addr)(rn rc:Nat)(E:Nat→Req)(bad:Int)(w:World)(hV:Blk w p [.int .i64 z,.int .i64 x,.int .i64 y,.int .i64 wd,.int .i64 ht,.int .i64 now,.pointer (some ⟨sp,0,none⟩),.slice ra rn rc,.int .i64 bad,.slice none 0 0])(hK:ShK w B sp s n A)(h0:cacheC s n A=0)(hr:xS w ra rn E)(hrn:rn≤1048576)(hrc:rn≤rc)(hq:zO rn E=0) :
  Calls Tryz.prog 74 #[.pointer (some ⟨p,0,none⟩)] w fun e w'=>e=.returned (.int .i64 (xL (zCv z x y wd ht n A E) 0 rn))∧Bw w w':=by
 have HV:Hid (Blk w p [.int .i64 z,.int .i64 x,.int .i64 y,.int .i64 wd,.int .i64 ht,.int .i64 now,.pointer (some ⟨sp,0,none⟩),.slice ra rn rc,.int .i64 bad,.slice none 0 0]):=hV
 have HK:Hid (ShK w B sp s n A):=hK
 have HR:Hid (xS w ra rn E):=hr
 have hpl:p<w.heap.size:=hV.lt
 have HZ0:Hid (∀ j,j<n→kC A j=0):=zBk h0
 have HRB:Hid (∀ j,j<rn→zCm (E j).z (E j).x (E j).y=true):=zRb hq
 have c7:=hV.cell 7 rfl
 clear hV hK hr h0 hq
 obtain ⟨VC,hVC⟩:∃ VC,xL (zCv z x y wd ht n A E) 0 rn=VC:=⟨_,rfl⟩
 rw [hVC]
 have HVC5:Hid (VC=xL (zCv z x y wd ht n A E) 0 rn):=hVC.symm
 clear hVC
 go_enter Tryz.func74,Tryz.ntmps74
 go_wp2_with fail
 go_loopw [10] (fun v wr=>∃ k:Nat,k≤rn∧v=.int .i64 k∧(∀ j,j<k→zCv z x y wd ht n A E j=0)∧Bw w wr) (fun v _=>rn - (intOf v).toNat)
 case atStart=>exact ⟨0,by omega,rfl,by omega,Below.refl _ _⟩
 case round =>
  obtain ⟨k,hk,rfl,hA,hB⟩:=hrel
  have HB:Hid (Bw w wr):=hB
  have HZ:Hid (∀ j,j<k→zCv z x y wd ht n A E j=0):=hA
  clear hA hB c7
  by_cases hlt:k<rn
  ·have HLT:Hid (k<rn):=hlt
   have first:Hid (zCv z x y wd ht n A E k=8→VC=8):=fun hc=>by
    rw [HVC5.out,yI _ rn 0 k (fun j _ hj=>HZ.out j hj) (by omega) (by have:=HLT.out;omega) (by rw [hc];decide),hc]
   have HOK:Hid (zCv z x y wd ht n A E k=0→∀ j,j<k+1→zCv z x y wd ht n A E j=0):=fun h0 j hj=>by
    by_cases e:j=k
    ·rw [e];exact h0
    ·exact HZ.out j (by omega)
   rcases HR.out with hz | ⟨rb,ro,rfl,hrl,hW⟩
   ·omega
   obtain ⟨e0,e1,e2,e3,e4⟩:=(hW.below HB.out hrl) k hlt
   have hi:(k:Int)<(rn:Int):=by omega
   have hi0:(0:Int)≤(k:Int):=by omega
   obtain ⟨iz,ix,iy⟩:=zGk (HRB.out k hlt)
   have HSe:Hid (∀ W',Calls Tryz.prog 127 #[zDi z x y wd ht,vN (E k).z (E k).x (E k).y] W' fun e w'=>e=.returned (.bool (yS z x y wd ht (E k).z (E k).x (E k).y))∧Below W'.heap.size W' w'):=fun W'=>zB2 z x y wd ht _ _ _ W'
   have HAt:Hid (∀ W',Bw w W'→Calls Tryz.prog 128 #[.pointer (some ⟨sp,0,none⟩),vN (E k).z (E k).x (E k).y] W' fun e w'=>e=.returned (.bool (decide (0≤atK n A (E k).z (E k).x (E k).y)))∧Below W'.heap.size W' w'):=fun W' h=>by
    obtain ⟨mb,_,_,h3,h4,h5⟩:=HK.out.below h
    have:=zBw sp mb n s (n:Int) (shD A n) (E k).z (E k).x (E k).y W' h3 h5 iz ix iy
    rw [zJ7 iz ix iy n (zU8 HZ0.out)] at this
    exact this
   have hSt:zCv z x y wd ht n A E k=if yS z x y wd ht (E k).z (E k).x (E k).y=true then (if 0≤atK n A (E k).z (E k).x (E k).y then 8 else 0) else 8:=rfl
   have HSt:=(show Hid _ from hSt)
   clear hSt hW iz ix iy
   generalize zCv z x y wd ht n A E k=ST at *
   generalize (E k).z=rz at *
   generalize (E k).x=rx at *
   generalize (E k).y=ry at *
   generalize (E k).du=rd at *
   generalize (E k).tr=rt at *
   generalize atK n A rz rx ry=AT at *
   generalize yS z x y wd ht rz rx ry=SN at *
   go_wp2_with fail
   generalize hU:(wr.alloc _:World)=U
   have HBU:Hid (Bw w U):=by show Below _ _ _;subst hU;exact zA HB.out (xA (Below.refl _ _) _)
   have HRU:Hid (RK U wr.heap.size rz rx ry):=by show RK _ _ _ _ _;subst hU;refine ⟨?_,?_,?_⟩ <;> simp [go_sem]
   clear hU e0 e1 e2 e3 e4
   have hl0:∀ W',Bw U W'→Blk W' p [.int .i64 z,.int .i64 x,.int .i64 y,.int .i64 wd,.int .i64 ht,.int .i64 now,.pointer (some ⟨sp,0,none⟩),.slice (some ⟨rb,ro,none⟩) rn rc,.int .i64 bad,.slice none 0 0]:=fun W' h=>HV.out.below hpl (zA HBU.out h)
   obtain ⟨c0,c1,c2,c3,c4⟩:=Blk.g5 (b:=U.heap.size) (v:=U) fun W' h=>(hl0 W' h)
   have c6:∀ W',Bw U W'→W'.cell? ⟨p,6,none⟩=some (.pointer (some ⟨sp,0,none⟩)):=fun W' h=>(hl0 W' h).cell 6 rfl
   have r0:∀ W',Bw U W'→W'.cell? ⟨wr.heap.size,0,none⟩=some (.int .i64 rz):=fun W' h=>(HRU.out.below h).1
   have r1:∀ W',Bw U W'→W'.cell? ⟨wr.heap.size,1,none⟩=some (.int .i64 rx):=fun W' h=>(HRU.out.below h).2.1
   have r2:∀ W',Bw U W'→W'.cell? ⟨wr.heap.size,2,none⟩=some (.int .i64 ry):=fun W' h=>(HRU.out.below h).2.2
   clear hl0
   refine wp_region_noPanic ?_
   refine wp_region_held_drew (S:=fun W'=>Bw U W') (by kernel_rfl) (by have:=Below.refl U.heap.size U;exact Qb) (fun hHeld=>?_)
   have hX0:Bw U U.drew:=hHeld
   refine zF (i:=0) (d:=some 14) rfl rfl ?_
   try simp only [Act.put,Qx,Qy,Qz]
   refine zF (i:=1) (d:=some 15) rfl rfl ?_
   try simp only [Act.put,Qx,Qy,Qz]
   refine zF (i:=2) (d:=some 16) rfl rfl ?_
   try simp only [Act.put,Qx,Qy,Qz]
   refine zF (i:=3) (d:=some 17) rfl rfl ?_
   try simp only [Act.put,Qx,Qy,Qz]
   refine zF (i:=4) (d:=some 18) rfl rfl ?_
   try simp only [Act.put,Qx,Qy,Qz]
   refine zF (i:=5) (d:=some 19) rfl rfl ?_
   try simp only [Act.put,Qx,Qy,Qz]
   generalize U.drew=wk0 at *
   refine zN 6 fun K hK=>?_
   rw [if_pos (by rfl)]
   go_simp
   refine Calls.mono (HSe.out _) ?_
   rintro e wk1 ⟨rfl,hb1⟩
   have hX1:Bw U wk1:=zA hX0 hb1
   go_wp2_with fail
   refine hK.out _ _ (by assumption) (fun hHeld=>?_)
   clear hK K
   try simp only [Act.put,Qx,Qy,Qz]
   cases SN
   ·have HE:Hid (VC=8):=first.out (by rw [HSt.out];rfl)
    refine zF (i:=7) (d:=some 21) rfl rfl ?_
    try simp only [Act.put,Qx,Qy,Qz]
    refine zF (i:=8) (d:=some 22) rfl rfl ?_
    try simp only [Act.put,Qx,Qy,Qz]
    refine xP (i:=9) (d:=some 23) rfl rfl (by rfl) (by assumption) ?_
    try simp only [Act.put,Qx,Qy,Qz]
    refine xP (i:=10) (d:=some 24) rfl rfl (by rfl) (by assumption) ?_
    try simp only [Act.put,Qx,Qy,Qz]
    refine xP (i:=11) (d:=some 25) rfl rfl (by rfl) (by assumption) ?_
    try simp only [Act.put,Qx,Qy,Qz]
    refine xP (i:=12) (d:=some 26) rfl rfl (by rfl) (by assumption) ?_
    try simp only [Act.put,Qx,Qy,Qz]
    refine xP (i:=13) (d:=some 27) rfl rfl (by rfl) (by assumption) ?_
    try simp only [Act.put,Qx,Qy,Qz]
    refine xP (i:=14) (d:=some 28) rfl rfl (by rfl) (by assumption) ?_
    try simp only [Act.put,Qx,Qy,Qz]
    refine xP (i:=15) (d:=some 29) rfl rfl (by rfl) (by assumption) ?_
    try simp only [Act.put,Qx,Qy,Qz]
    refine zF (i:=16) (d:=some 30) rfl rfl ?_
    try simp only [Act.put,Qx,Qy,Qz]
    refine wpAnyH_done (by kernel_rfl) ?_ _
    refine NoPanic.normal ?_
    have HB9:Hid (Bw w wk1):=zA HBU.out hX1
    clear c0 c1 c2 c3 c4 c6 r0 r1 r2 hX0 hb1 hX1
    go_wp2
    go_ret
    exact ⟨zD HE.out.symm,HB9.out⟩
   ·have HSt2:Hid (ST=if 0≤AT then 8 else 0):=by show _=_;rw [HSt.out];rfl
    refine zF (i:=7) (d:=some 21) rfl rfl ?_
    try simp only [Act.put,Qx,Qy,Qz]
    refine zF (i:=8) (d:=some 22) rfl rfl ?_
    try simp only [Act.put,Qx,Qy,Qz]
    refine zF (i:=9) (d:=some 23) rfl rfl ?_
    try simp only [Act.put,Qx,Qy,Qz]
    refine zF (i:=10) (d:=some 24) rfl rfl ?_
    try simp only [Act.put,Qx,Qy,Qz]
    refine zF (i:=11) (d:=some 25) rfl rfl ?_
    try simp only [Act.put,Qx,Qy,Qz]
    refine zF (i:=12) (d:=some 26) rfl rfl ?_
    try simp only [Act.put,Qx,Qy,Qz]
    refine zF (i:=13) (d:=some 27) rfl rfl ?_
    try simp only [Act.put,Qx,Qy,Qz]
    refine zF (i:=14) (d:=some 28) rfl rfl ?_
    try simp only [Act.put,Qx,Qy,Qz]
    refine zN 15 fun K hK=>?_
    rw [if_pos (by rfl)]
    go_simp
    refine Calls.mono (HAt.out _ (zA HBU.out hX1)) ?_
    rintro e wk2 ⟨rfl,hb2⟩
    have hX2:Bw U wk2:=zA hX1 hb2
    go_wp2_with fail
    refine hK.out _ _ (by assumption) (fun hHeld=>?_)
    clear hK K
    try simp only [Act.put,Qx,Qy,Qz]
    have HB9:Hid (Bw w wk2):=zA HBU.out hX2
    by_cases hat:0≤AT
    ·have HE:Hid (VC=8):=first.out (by rw [HSt2.out,if_pos hat])
     have hdec:decide (0≤AT)=true:=decide_eq_true hat
     refine zF (i:=16) (d:=some 30) rfl rfl ?_
     try simp only [Act.put,Qx,Qy,Qz]
     refine wpAnyH_done (by kernel_rfl) ?_ _
     refine NoPanic.normal ?_
     clear c0 c1 c2 c3 c4 c6 r0 r1 r2 hX0 hb1 hX1 hb2 hX2
     go_wp2
     go_ret
     exact ⟨zD HE.out.symm,HB9.out⟩
    ·have HE:Hid (ST=0):=by show _=_;rw [HSt2.out,if_neg hat]
     have hdec:decide (0≤AT)=false:=decide_eq_false hat
     refine zF (i:=16) (d:=some 30) rfl rfl ?_
     try simp only [Act.put,Qx,Qy,Qz]
     refine wpAnyH_done (by kernel_rfl) ?_ _
     refine NoPanic.normal ?_
     clear c0 c1 c2 c3 c4 c6 r0 r1 r2 hX0 hb1 hX1 hb2 hX2
     go_wp2_with fail
     go_roundw
     case rel=>exact ⟨k+1,by have:=HLT.out;omega,by go_num,HOK.out HE.out,HB9.out⟩
     case measure=>have:=HLT.out;simp [intOf];omega
  ·have HE:Hid (VC=0):=by
    show _=_
    rw [HVC5.out]
    exact xO _ _ _ (fun j _ hj=>HZ.out j (by omega))
   obtain rfl:rn=k:=by omega
   go_wp2
   go_ret
   exact ⟨zD HE.out.symm,HB.out⟩
def LkA (w:World)(B p:Nat)(z x y wd ht now s:Int)(n:Nat)(A:Nat→Kp)(ra:Option Addr)(rn rc:Nat)(bad:Int):Prop:=B≤p∧∃ sp,Blk w p [.int .i64 z,.int .i64 x,.int .i64 y,.int .i64 wd,.int .i64 ht,.int .i64 now,.pointer (some ⟨sp,0,none⟩),.slice ra rn rc,.int .i64 bad,.slice none 0 0]∧ShK w B sp s n A∧sp≠p
theorem zF3 {a b:Int}(h:or2 a b=0):a=0∧b=0:=by
 unfold or2 at h
 split at h
 ·rename_i h0;exact ⟨h0,h⟩
 ·rename_i h0;exact absurd h h0
theorem zF2 {a b c:Int}(h:or3 a b c=0):a=0∧b=0∧c=0:=by
 unfold or3 at h
 by_cases h1:a=0
 ·rw [if_pos h1] at h
  by_cases h2:b=0
  ·rw [if_pos h2] at h;exact ⟨h1,h2,h⟩
  ·rw [if_neg h2] at h;exact absurd h h2
 ·rw [if_neg h1] at h;exact absurd h h1
theorem zCs {z x y wd ht now s:Int}{n:Nat}{K:Nat→Kp}{rn:Nat}{E:Nat→Req}{bad:Int}(h:or2 (uK z x y wd ht) (zFa now bad)≠0):viewC z x y wd ht now s n K rn E bad=or2 (uK z x y wd ht) (zFa now bad):=by
 unfold viewC or2 at *
 by_cases h1:uK z x y wd ht=0
 ·rw [if_pos h1,if_pos h1]
  rw [if_pos h1] at h
  unfold zFa at *
  by_cases h2:inV now bad=true
  ·rw [if_pos h2] at h;exact absurd rfl h
  ·rw [if_neg h2,if_neg h2]
 ·rw [if_neg h1,if_neg h1]
theorem zBv {z x y wd ht now s:Int}{n:Nat}{K:Nat→Kp}{rn:Nat}{E:Nat→Req}{bad:Int}(h:or2 (uK z x y wd ht) (zFa now bad)=0)(h2:or3 (cacheC s n K) (if s<4 then 3 else 0) (zO rn E)≠0):viewC z x y wd ht now s n K rn E bad=or3 (cacheC s n K) (if s<4 then 3 else 0) (zO rn E):=by
 obtain ⟨h0,h1⟩:=zF3 h
 have hi:inV now bad=true:=by
  unfold zFa at h1
  by_cases h:inV now bad=true
  ·exact h
  ·rw [if_neg h] at h1;cases h1
 unfold viewC or3 at *
 rw [if_pos h0,if_pos hi]
 by_cases h3:cacheC s n K=0
 ·rw [if_pos h3,if_pos h3]
  rw [if_pos h3] at h2
  by_cases h4:s<4
  ·simp [h4]
  ·simp [h4] at h2 ⊢
   intro h;exact absurd h h2
 ·rw [if_neg h3,if_neg h3]
theorem zN0 {z x y wd ht now s:Int}{n:Nat}{K:Nat→Kp}{rn:Nat}{E:Nat→Req}{bad:Int}(h:or2 (uK z x y wd ht) (zFa now bad)=0)(h2:or3 (cacheC s n K) (if s<4 then 3 else 0) (zO rn E)=0):viewC z x y wd ht now s n K rn E bad=xL (zCv z x y wd ht n K E) 0 rn:=by
 obtain ⟨h0,h1⟩:=zF3 h
 obtain ⟨h3,h4,h5⟩:=zF2 h2
 have hi:inV now bad=true:=by
  unfold zFa at h1
  by_cases h:inV now bad=true
  ·exact h
  ·rw [if_neg h] at h1;cases h1
 have h4':¬ s<4:=fun h=>by rw [if_pos h] at h4;cases h4
 unfold viewC
 rw [if_pos h0,if_pos hi,if_pos h3,if_neg h4',if_pos h5]
theorem zMc (z x y wd ht now s:Int)(b n cap:Nat)(A:Nat→Kp)(ra:Option Addr)(rn rc:Nat)(E:Nat→Req)(bad VC:Int)(w:World)(hVC:viewC z x y wd ht now s n A rn E bad=VC)(ha:zEi w b n A)(hs:zJ n A)(hcap:∀ i,i<n→(A i).fn≤(A i).fc)(hnc:n≤cap)(hr:xS w ra rn E)(hrn:rn≤1048576)(hrc:rn≤rc) :
  Calls Tryz.prog 34 #[vwV z x y wd ht now s (.slice (some ⟨b,0,none⟩) n cap) (.slice ra rn rc) bad] w fun e w'=>∃ p,e=.returned (.tuple #[.pointer (some ⟨p,0,none⟩),.int .i64 VC])∧Bw w w'∧(VC=0→LkA w' w.heap.size p z x y wd ht now s n A ra rn rc bad):=by
 have HVC:Hid (viewC z x y wd ht now s n A rn E bad=VC):=hVC
 have HR:Hid (xS w ra rn E):=hr
 have HSh:Hid (∀ W,Bw w W→Calls Tryz.prog 71 #[caV s (.slice (some ⟨b,0,none⟩) n cap)] W fun e w'=>∃ p,e=.returned (.tuple #[.pointer (some ⟨p,0,none⟩),.int .i64 (cacheC s n A)])∧Bw W w'∧(cacheC s n A=0→ShK w' W.heap.size p s n A)):=fun W h=>zOh s b n cap A W (ha.below h) hs hcap hnc
 have HRq:Hid (∀ W,Bw w W→Calls Tryz.prog 73 #[.slice ra rn rc] W fun e w'=>e=.returned (.int .i64 (zO rn E))∧Bw W w'):=fun W h=>xJ ra rn rc E W (HR.out.below h) hrn hrc
 clear hVC ha hs hcap hnc hr
 go_enter Tryz.func34,Tryz.ntmps34
 go_wp2_with fail
 generalize hW:((w.alloc _).alloc _:World)=W
 have HB0:Hid (Bw w W):=by show Below _ _ _;subst hW;exact Qb
 have HV:Hid (Blk W w.heap.size [.int .i64 z,.int .i64 x,.int .i64 y,.int .i64 wd,.int .i64 ht,.int .i64 now,.int .i64 s,.slice (some ⟨b,0,none⟩) n cap,.slice ra rn rc,.int .i64 bad]):=by show Blk _ _ _;subst hW;exact (Blk.new w _ _).alloc (by simp) _
 have HL:Hid (Blk W (w.heap.size+1) [.int .i64 z,.int .i64 x,.int .i64 y,.int .i64 wd,.int .i64 ht,.int .i64 now,.pointer none,.slice ra rn rc,.int .i64 bad,.slice none 0 0]):=by
  show Blk _ _ _;subst hW
  have:=Blk.new (w.alloc (.cells #[.int .i64 z,.int .i64 x,.int .i64 y,.int .i64 wd,.int .i64 ht,.int .i64 now,.int .i64 s,.slice (some ⟨b,0,none⟩) n cap,.slice ra rn rc,.int .i64 bad] 38)) [.int .i64 z,.int .i64 x,.int .i64 y,.int .i64 wd,.int .i64 ht,.int .i64 now,.pointer none,.slice ra rn rc,.int .i64 bad,.slice none 0 0] 79
  simpa using this
 have hvl:w.heap.size<W.heap.size:=HV.out.lt
 have hll:w.heap.size+1<W.heap.size:=HL.out.lt
 clear hW
 refine (uE z x y wd ht W).mono ?_
 rintro e w1 ⟨rfl,hb1⟩
 have HB1:Hid (Bw W w1):=hb1
 have HCt:Hid (Calls Tryz.prog 70 #[.pointer (some ⟨w.heap.size+1,0,none⟩)] w1 fun e w'=>e=.returned (.int .i64 (zFa now bad))∧Bw w1 w'):=zHf _ now bad w1 ((HL.out.below hll hb1).cell 5 rfl) ((HL.out.below hll hb1).cell 8 rfl)
 clear hb1
 go_wp2_with fail
 refine Calls.mono HCt.out ?_
 rintro e w2 ⟨rfl,hb2⟩
 have HB2:Hid (Bw W w2):=zA HB1.out hb2
 clear hb2 HCt HB1
 go_wp2_with fail
 generalize hw3:(w2.alloc _:World)=w3
 have HB3:Hid (Bw W w3):=by show Below _ _ _;subst hw3;exact zA HB2.out (xA (Below.refl _ _) _)
 have HOr:Hid (Calls Tryz.prog 53 #[.slice (some ⟨w2.heap.size,0,none⟩) 2 2] w3 fun e w'=>e=.returned (.int .i64 (or2 (uK z x y wd ht) (zFa now bad)))∧w'=w3):=by
  show Calls _ _ _ _ _
  subst hw3
  exact zEy _ _ _ _ _ (by simp [go_sem]) (by simp [go_sem])
 clear hw3
 refine Calls.mono HOr.out ?_
 rintro e w4 ⟨rfl,h4⟩
 subst w4
 clear HOr HB2
 by_cases hor:or2 (uK z x y wd ht) (zFa now bad)=0
 case neg =>
  have hq:Hid (VC=or2 (uK z x y wd ht) (zFa now bad)):=HVC.out.symm.trans (zCs hor)
  have hcb:(or2 (uK z x y wd ht) (zFa now bad) == 0)=false:=by simpa using hor
  clear HVC HSh HRq
  generalize or2 (uK z x y wd ht) (zFa now bad)=oc at *
  go_wp2_with fail
  refine bodyPost_ret (v:=.tuple #[.pointer (some ⟨w.heap.size+1,0,none⟩),.int .i64 oc]) (by simp [results,Tryz.results34,go_sem]) rfl ?_
  exact ⟨_,by rw [hq.out],zA HB0.out HB3.out,fun h=>absurd (hq.out.symm.trans h) hor⟩
 have HOR:Hid (or2 (uK z x y wd ht) (zFa now bad)=0):=hor
 rw [hor]
 have c6:=(HV.out.below hvl HB3.out).cell 6 rfl
 have c7:=(HV.out.below hvl HB3.out).cell 7 rfl
 clear hor
 go_wp2_with fail
 refine Calls.mono (HSh.out _ (zA HB0.out HB3.out)) ?_
 rintro e w5 ⟨sp,rfl,hb5,hK5⟩
 have HK5:Hid (cacheC s n A=0→ShK w5 w3.heap.size sp s n A):=hK5
 have HB5:Hid (Bw W w5):=zA HB3.out hb5
 have hw35:w.heap.size+1<w3.heap.size:=Nat.lt_of_lt_of_le hll HB3.out.size
 have HL5:Hid (Blk w5 (w.heap.size+1) [.int .i64 z,.int .i64 x,.int .i64 y,.int .i64 wd,.int .i64 ht,.int .i64 now,.pointer none,.slice ra rn rc,.int .i64 bad,.slice none 0 0]):=HL.out.below hll HB5.out
 have HV5:Hid (Blk w5 w.heap.size [.int .i64 z,.int .i64 x,.int .i64 y,.int .i64 wd,.int .i64 ht,.int .i64 now,.int .i64 s,.slice (some ⟨b,0,none⟩) n cap,.slice ra rn rc,.int .i64 bad]):=HV.out.below hvl HB5.out
 have t6:=HL5.out.cell 6 rfl
 have f6:=HL5.out.free 6 rfl
 clear hb5 hK5 c6 c7 HSh HL HV HB3
 go_wp2_with fail
 generalize hw6:(World.setCell _ _ _:World)=w6
 have HG6:Hid (w5.grownBy w6 (some (w.heap.size+1))):=by show World.grownBy _ _ _;subst hw6;exact zB3 (zCd _ _) 6 _
 have HL6:Hid (Blk w6 (w.heap.size+1) [.int .i64 z,.int .i64 x,.int .i64 y,.int .i64 wd,.int .i64 ht,.int .i64 now,.pointer (some ⟨sp,0,none⟩),.slice ra rn rc,.int .i64 bad,.slice none 0 0]):=by show Blk _ _ _;subst hw6;exact HL5.out.set 6 _
 have HV6:Hid (Blk w6 w.heap.size [.int .i64 z,.int .i64 x,.int .i64 y,.int .i64 wd,.int .i64 ht,.int .i64 now,.int .i64 s,.slice (some ⟨b,0,none⟩) n cap,.slice ra rn rc,.int .i64 bad]):=by show Blk _ _ _;subst hw6;exact HV5.out.other (by omega)
 have HB6:Hid (Bw w w6):=by show Below _ _ _;subst hw6;exact (zA HB0.out HB5.out).setCell (Nat.le_succ _) _
 clear hw6 t6 f6 HL5 HV5
 have HK6:Hid (cacheC s n A=0→ShK w6 w.heap.size sp s n A∧sp≠w.heap.size+1):=fun h=>by
  obtain ⟨mb,h1,h2,h3,h4,h5⟩:=HK5.out h
  have e1:sp≠w.heap.size+1:=by omega
  exact ⟨⟨mb,by omega,by omega,⟨yW HG6.out h3.1 e1,yW HG6.out h3.2.1 e1,yW HG6.out h3.2.2 e1⟩,h4.grown HG6.out e1,h5.kept HG6.out (by simp;omega)⟩,e1⟩
 have hvl6:w.heap.size<w6.heap.size:=HV6.out.lt
 have hll6:w.heap.size+1<w6.heap.size:=HL6.out.lt
 clear HK5 HG6 HB5 HB0 hw35 hvl hll
 have c6:∀ W',Bw w6 W'→W'.cell? ⟨w.heap.size,6,none⟩=some (.int .i64 s):=fun W' h=>(HV6.out.below hvl6 h).cell 6 rfl
 have c7:∀ W',Bw w6 W'→W'.cell? ⟨w.heap.size+1,7,none⟩=some (.slice ra rn rc):=fun W' h=>(HL6.out.below hll6 h).cell 7 rfl
 have HRo:Hid (∀ W',Calls Tryz.prog 72 #[.int .i64 s] W' fun e w'=>e=.returned (.int .i64 (if s<4 then 3 else 0))∧w'=W'):=fun W'=>zJ9 s W'
 have HO3:Hid (∀ (W':World) (bb:Nat) (u1 u2 u3:Int),W'.cell? ⟨bb,0,none⟩=some (.int .i64 u1)→W'.cell? ⟨bb,1,none⟩=some (.int .i64 u2)→W'.cell? ⟨bb,2,none⟩=some (.int .i64 u3)→Calls Tryz.prog 53 #[.slice (some ⟨bb,0,none⟩) 3 3] W' fun e w'=>e=.returned (.int .i64 (or3 u1 u2 u3))∧w'=W'):=fun W' bb u1 u2 u3 h0 h1 h2=>zJh bb 3 u1 u2 u3 W' h0 h1 h2
 have HSt:Hid (∀ W',Bw w6 W'→cacheC s n A=0→zO rn E=0→Calls Tryz.prog 74 #[.pointer (some ⟨w.heap.size+1,0,none⟩)] W' fun e w'=>e=.returned (.int .i64 (xL (zCv z x y wd ht n A E) 0 rn))∧Below W'.heap.size W' w'):=fun W' h h0 hq=>zHz w.heap.size (w.heap.size+1) sp z x y wd ht now s n A ra rn rc E bad W' (HL6.out.below hll6 h) ((HK6.out h0).1.below h) h0 (HR.out.below (zA HB6.out h)) hrn hrc hq
 generalize hRM:(if s<4 then (3:Int) else 0)=RM at *
 have HRM:Hid ((if s<4 then (3:Int) else 0)=RM):=hRM
 clear hRM
 refine wp_region_noPanic ?_
 refine wp_region_held_drew (S:=fun W'=>Bw w6 W') (by kernel_rfl) (by have:=Below.refl w6.heap.size w6;exact Qb) (fun hHeld=>?_)
 have hX0:Bw w6 w6.drew:=hHeld
 refine zF (i:=0) (d:=some 41) rfl rfl ?_
 try simp only [Act.put,Qx,Qy,Qz]
 refine zF (i:=1) (d:=some 42) rfl rfl ?_
 try simp only [Act.put,Qx,Qy,Qz]
 refine zF (i:=2) (d:=some 43) rfl rfl ?_
 try simp only [Act.put,Qx,Qy,Qz]
 refine zF (i:=3) (d:=some 44) rfl rfl ?_
 try simp only [Act.put,Qx,Qy,Qz]
 refine zF (i:=5) (d:=some 46) rfl rfl ?_
 try simp only [Act.put,Qx,Qy,Qz]
 refine zF (i:=6) (d:=some 47) rfl rfl ?_
 try simp only [Act.put,Qx,Qy,Qz]
 refine zF (i:=7) (d:=some 48) rfl rfl ?_
 try simp only [Act.put,Qx,Qy,Qz]
 refine zF (i:=8) (d:=some 49) rfl rfl ?_
 try simp only [Act.put,Qx,Qy,Qz]
 generalize w6.drew=wk0 at *
 refine zN 4 fun K hK=>?_
 rw [if_pos (by rfl)]
 go_simp
 refine Calls.mono (HRo.out _) ?_
 rintro e wk1 ⟨rfl,hw⟩
 subst wk1
 go_wp2_with fail
 refine hK.out _ _ (by assumption) (fun hHeld=>?_)
 clear hK K
 try simp only [Act.put,Qx,Qy,Qz]
 refine zN 9 fun K hK=>?_
 rw [if_pos (by rfl)]
 go_simp
 refine Calls.mono (HRq.out _ (zA HB6.out hX0)) ?_
 rintro e wk2 ⟨rfl,hb2⟩
 have hX2:Bw w6 wk2:=zA hX0 hb2
 go_wp2_with fail
 refine hK.out _ _ (by assumption) (fun hHeld=>?_)
 clear hK K
 try simp only [Act.put,Qx,Qy,Qz]
 refine zN 10 fun K hK=>?_
 rw [if_pos (by rfl)]
 go_simp
 generalize hwA:(World.alloc _ _:World)=wk3
 have hb3:Bw wk2 wk3:=by subst hwA;exact Qb
 have j0:wk3.cell? ⟨wk2.heap.size,0,none⟩=some (.int .i64 (cacheC s n A)):=by subst hwA;simp [go_sem]
 have j1:wk3.cell? ⟨wk2.heap.size,1,none⟩=some (.int .i64 RM):=by subst hwA;simp [go_sem]
 have j2:wk3.cell? ⟨wk2.heap.size,2,none⟩=some (.int .i64 (zO rn E)):=by subst hwA;simp [go_sem]
 clear hwA
 have hX3:Bw w6 wk3:=zA hX2 hb3
 refine hK.out _ _ hX3 (fun hHeld=>?_)
 clear hK K
 try simp only [Act.put,Qx,Qy,Qz]
 refine zN 11 fun K hK=>?_
 rw [if_pos (by rfl)]
 go_simp
 refine Calls.mono (HO3.out _ _ _ _ _ j0 j1 j2) ?_
 rintro e wk4 ⟨rfl,hw⟩
 subst wk4
 go_wp2_with fail
 refine hK.out _ _ (by assumption) (fun hHeld=>?_)
 clear hK K
 try simp only [Act.put,Qx,Qy,Qz]
 refine zF (i:=12) (d:=some 7) rfl rfl ?_
 try simp only [Act.put,Qx,Qy,Qz]
 refine wpAnyH_done (by kernel_rfl) ?_ _
 refine NoPanic.normal ?_
 have HX3:Hid (Bw w6 wk3):=hX3
 clear c6 c7 HRo HRq HO3 hX0 hb2 hX2 hb3 hX3 j0 j1 j2
 have HB7:Hid (Bw w wk3):=zA HB6.out HX3.out
 by_cases ho3:or3 (cacheC s n A) RM (zO rn E)=0
 case neg =>
  have hq:Hid (VC=or3 (cacheC s n A) RM (zO rn E)):=by
   show _=_
   rw [← HVC.out,← HRM.out]
   exact zBv HOR.out (by rw [HRM.out];exact ho3)
  have hcb:(or3 (cacheC s n A) RM (zO rn E) == 0)=false:=by simpa using ho3
  clear HVC HSt HK6
  generalize or3 (cacheC s n A) RM (zO rn E)=oc at *
  go_wp2_with fail
  refine bodyPost_ret (v:=.tuple #[.pointer (some ⟨w.heap.size+1,0,none⟩),.int .i64 oc]) (by simp [results,Tryz.results34,go_sem]) rfl ?_
  exact ⟨_,by rw [hq.out],HB7.out,fun h=>absurd (hq.out.symm.trans h) ho3⟩
 obtain ⟨h1,h2,h3⟩:=zF2 ho3
 have hq:Hid (VC=xL (zCv z x y wd ht n A E) 0 rn):=by
  show _=_
  rw [← HVC.out]
  exact zN0 HOR.out (by rw [HRM.out];exact ho3)
 have HSt2:=(show Hid _ from HSt.out wk3 HX3.out h1 h3)
 have HK7:Hid (ShK wk3 w.heap.size sp s n A∧sp≠w.heap.size+1):=⟨(HK6.out h1).1.below HX3.out,(HK6.out h1).2⟩
 have HL7:Hid (Blk wk3 (w.heap.size+1) [.int .i64 z,.int .i64 x,.int .i64 y,.int .i64 wd,.int .i64 ht,.int .i64 now,.pointer (some ⟨sp,0,none⟩),.slice ra rn rc,.int .i64 bad,.slice none 0 0]):=HL6.out.below hll6 HX3.out
 rw [ho3]
 clear HSt HK6 ho3 h1 h2 h3
 generalize xL (zCv z x y wd ht n A E) 0 rn=sc at *
 go_wp2_with fail
 refine Calls.mono HSt2.out ?_
 rintro e w8 ⟨rfl,hb8⟩
 go_wp2_with fail
 refine bodyPost_ret (v:=.tuple #[.pointer (some ⟨w.heap.size+1,0,none⟩),.int .i64 sc]) (by simp [results,Tryz.results34,go_sem]) rfl ?_
 exact ⟨_,by rw [hq.out],zA HB7.out hb8,fun _=>⟨Nat.le_succ _,sp,HL7.out.below HL7.out.lt hb8,HK7.out.1.below hb8,HK7.out.2⟩⟩
end Go.Proofs.YtkjbafcalamgnaaGreat
