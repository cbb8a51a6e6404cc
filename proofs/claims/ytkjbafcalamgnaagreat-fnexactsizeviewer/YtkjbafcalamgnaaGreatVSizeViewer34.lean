/- Texts. -/
import Derived.Test.YtkjbafcalamgnaaGreatVSizeViewer33
import Derived.Sort.MapsRangeIn
import Derived.Sort.KeysCollected
import Derived.Test.YtkjbafcalamgnaaGreatVSizeViewer31
set_option linter.unusedSimpArgs false
set_option linter.unusedVariables false
set_option maxRecDepth 100000
set_option maxHeartbeats 32000000
namespace Go.Proofs.YtkjbafcalamgnaaGreat
open Go.RowKit
end Go.Proofs.YtkjbafcalamgnaaGreat
namespace Go.Proofs.YtkjbafcalamgnaaGreat
open Go.RowKit Go.Shelf Go.Maps Go.Sort
attribute [local go_sem] Oper.semAt_some
structure Ag where
 z:Int
 x:Int
 y:Int
 fa:Option Addr
 fn:Nat
 fc:Nat
 ia:Option Addr
 m:Nat
 ic:Nat
 t:Int
abbrev agW (a:Ag):Value:=agV a.z a.x a.y a.fa a.fn a.fc a.ia a.m a.ic a.t
theorem agW_inj {a b:Ag}(h:agW a=agW b):a=b:=by
 cases a;cases b
 simp at h
 simp [h]
theorem RV_ag {v:Value}{y:DataW Value × List MemPlace}(h:RV v=some y):∃ c:Ag,v=agW c:=by
 obtain ⟨_,z,x,y,fa,fn,fc,ia,m,ic,t,rfl⟩:=zQy (d:=y.1) (ps:=y.2) h
 exact ⟨⟨z,x,y,fa,fn,fc,ia,m,ic,t⟩,rfl⟩
theorem key_str {P:Program}{k:TypeId}{fs:Array Field}{key:Value}{kl:Lit}(hu:P.underlying k=some (.struct fs))(h:keyOf P k key=some kl):∃ x:List UInt8,kl=.string x:=by
 unfold keyOf at h
 rw [hu] at h
 simp at h
 obtain ⟨_,a,_,e⟩:=h
 exact ⟨_,e.symm⟩
def AllV (D0:DataW Value)(ps:List (List UInt8 × Ag)):Prop:=(ps.map (·.1)).Nodup∧(∀ x,x ∈ ps.map (·.1) ↔ has D0 (.string x)=true)∧∀ p ∈ ps,∀ zd,D0.atKey (.string p.1) zd=.held (agW p.2)
theorem zQ0 (l Bm b nn:Nat)(D0:DataW Value)(J Jx:List Ag→World→Prop)(hY:∀ pre x W,J pre W→pre.length<Maps.size D0→YieldAt Fence.wide 2 Tryz.prog l #[agW x] W fun e W' =>
   (e=.returned (.bool true)∧J (pre ++ [x]) W'∧KeepsWalks W W')∨(e=.returned (.bool false)∧Jx (pre ++ [x]) W'))(W:World)(hJ:AbidesFrom W.heap.size J)(hm:W.cell? ⟨Bm,0,none⟩=some (.map (some b)))(hown:W.ownsMap Tryz.prog 104 RV b nn D0)(h0:J [] W) :
  CallsIn Fence.wide 3 Tryz.prog 227 #[.func (.yield l) #[] #[],.pointer (some ⟨Bm,0,none⟩)] W fun e W'=>(∃ v,e=.returned v) ∧
   ((∃ xs,(∃ ps,AllV D0 ps∧xs=ps.map (·.2))∧J xs W')∨(∃ pre,True∧Jx pre W')):=by
 refine callsIn_of_wp Tryz.func227 rfl trivial ?_ rfl
 simp only [Tryz.ntmps227,List.size_toArray,List.length_cons,List.length_nil,Nat.reduceAdd,Nat.reduceSub,Array.replicate_succ,Array.replicate_zero,List.push_toArray,List.append_toArray,List.nil_append,List.cons_append]
 gi_wp2_with (first
  | (gi_at_range;refine wpListIn_range_own _ rfl _ 170 rfl 104 223 uI Tryz.underlying170 _ b nn _ rfl hown ?_;intro w0 hrg0 hg0 hs0)
  | gi_in)
 go_frame
 gi_loopw [] (fun wr=>∃ (left:Lit→Bool) (cnt:Nat) (ps:List (List UInt8 × Ag)),wr.ranges Tryz.prog 104 RV b W.heap.size nn D0 left cnt∧ps.length+cnt≤Maps.size D0∧Collected D0 left (ps.map (·.1))∧(∀ p ∈ ps,∀ zd,D0.atKey (.string p.1) zd=.held (agW p.2))∧J (ps.map (·.2)) wr)
  (fun wr=>wr.rangeLeft b W.heap.size)
 case atStart =>
  exact ⟨_,_,[],hrg0,by simp,Collected.start D0,by simp,hJ [] W w0 none h0 hg0 (fun r e=>by cases e)⟩
 case round =>
  obtain ⟨left,cnt,ps,hrg,hcs,hC,hV,hJs⟩:=hrel
  gi_wp2_with (first
   | (gi_at_next;refine wpListIn_next_ranges _ rfl _ rfl 104 uI RV id agW (fun key kl hk=>⟨key,rfl⟩) (fun v y hv=>RV_ag hv) b W.heap.size nn _ _ _ rfl hrg ?_ ?_)
   | gi_in)
  ·intro hc0 hl0
   gi_wp2
   go_end0
   exact ⟨⟨_,rfl⟩,.inl ⟨_,⟨ps,⟨hC.1,fun x=>by rw [hC.2 x,hl0];simp,hV⟩,rfl⟩,hJs⟩⟩
  ·intro x c kl yd yp w2 cnt2 hkey hlk hv hat hrg2 hlt hg2 hs2 hen
   obtain ⟨xb,rfl⟩:=key_str Tryz.underlying104 hkey
   have hy1:yd=.held (agW c):=(zQy hv).1
   have hJ2:J (ps.map (·.2)) w2:=hJ _ wr w2 (some W.heap.size) hJs hg2 (fun r e=>by cases e;exact ⟨Nat.le_refl _,hrg.iter_walk⟩)
   have hJa:J (ps.map (·.2)) (w2.alloc (.cells #[.int .i64 c.z,.int .i64 c.x,.int .i64 c.y,.slice c.fa c.fn c.fc,.slice c.ia c.m c.ic,.int .i64 c.t] 223)):=hJ _ _ _ none hJ2 (World.grownBy_alloc _ _ _) (fun r e=>by cases e)
   obtain ⟨fn,tmps,assign,body,hy,hR⟩:=hY (ps.map (·.2)) c _ hJa (by simp;omega)
   clear hs2
   gi_wp2
   refine hR.mono ?_
   have hC2:Collected D0 (fun z=>left z && !z.sameKey (.string xb)) ((ps ++ [(xb,c)]).map (·.1)):=by simpa using hC.step hlk hat
   have hV2:∀ p ∈ ps ++ [(xb,c)],∀ zd,D0.atKey (.string p.1) zd=.held (agW p.2):=fun p hp=>(List.mem_append.1 hp).elim (hV p) (fun e=>by simp at e;subst e;intro zd;rw [hat zd,hy1])
   rintro e W3 (⟨rfl,hJ3,hk3⟩ | ⟨rfl,hJx3⟩)
   ·gi_wp2
    have hrg3:=(hrg2.alloc _).of_walks hk3
    go_roundw
    case rel=>exact ⟨_,cnt2,ps ++ [(xb,c)],hrg3,by simp;omega,hC2,hV2,by simpa using hJ3⟩
    case measure=>rw [hrg3.left_eq,hrg.left_eq];exact hlt
   ·gi_wp2
    refine bodyPost_ret (results_none rfl _ _ _) rfl ?_
    exact ⟨⟨_,rfl⟩,.inr ⟨_,trivial,hJx3⟩⟩
end Go.Proofs.YtkjbafcalamgnaaGreat
namespace Go.Proofs.YtkjbafcalamgnaaGreat
open Go.RowKit
theorem zH2 (n:Nat)(K:Nat→Kp)(z x y:Int):atK n K z x y=-1∨∃ i:Nat,i<n∧atK n K z x y=(i:Int)∧(K i).z=z∧(K i).x=x∧(K i).y=y:=by
 unfold atK
 rcases zCc (fun i=>isK (K i) z x y) n with ⟨h1,h2⟩ | ⟨i,hi,hg,hf,hn⟩
 ·exact .inl h1
 ·exact .inr ⟨i,hi,hf,vX.1 hg⟩


theorem zAl.feats {w:World}{B:Nat}{k a:Kp}(h:zAl w B k a):∀ i,i<k.fn→(a.F i).same (k.F i):=by
 obtain ⟨_,⟨fb,_,_,_,ho⟩,_⟩:=h
 exact fun i hi=>(ho.2.2.2 i hi).1
theorem zAl.rt {w:World}{B:Nat}{k a:Kp}(h:zAl w B k a):rtC a.z a.x a.y a.fn a.F=rtC k.z k.x k.y k.fn k.F∧rtL a.z a.x a.y a.fn a.F=rtL k.z k.x k.y k.fn k.F:=by
 have hf:=h.feats
 obtain ⟨⟨e1,e2,e3⟩,⟨fb,_,e4,_⟩,_⟩:=h
 rw [e1,e2,e3,e4]
 exact rt_same hf
theorem zAl.tC {w:World}{B:Nat}{k a:Kp}(h:zAl w B k a):Go.Proofs.YtkjbafcalamgnaaGreat.tC a=Go.Proofs.YtkjbafcalamgnaaGreat.tC k:=by
 obtain ⟨r1,r2⟩:=h.rt
 obtain ⟨_,_,ib,_,e5,_,e7,_⟩:=h
 unfold Go.Proofs.YtkjbafcalamgnaaGreat.tC
 rw [r1,r2,e5,e7]
theorem zAl.small {w:World}{B:Nat}{k a:Kp}(h:zAl w B k a)(hs:vY k):vY a:=by
 have hf:=h.feats
 obtain ⟨_,⟨fb,_,e4,_⟩,ib,_,e5,_⟩:=h
 refine ⟨⟨by rw [e4];exact hs.1.1,fun i hi=>?_⟩,by rw [e5];exact hs.2⟩
 rw [e4] at hi
 obtain ⟨_,_,_,_,f5,_,_,f8,_⟩:=hf i hi
 rw [f5,f8]
 exact hs.1.2 i hi
theorem yW.small {w:World}{B b n:Nat}{K A:Nat→Kp}(h:yW w B b n K A)(hs:zI n K):zI n A:=⟨hs.1,fun i hi=>(h.2.2 i hi).2.small (hs.2 i hi)⟩
theorem yW.caps {w:World}{B b n:Nat}{K A:Nat→Kp}(h:yW w B b n K A):∀ i,i<n→(A i).fn≤(A i).fc:=fun i hi=>by
 obtain ⟨_,⟨fb,_,e4,e6,_⟩,_⟩:=(h.2.2 i hi).2
 rw [e4,e6];exact Nat.le_refl _
theorem yW.ref {w:World}{B b n:Nat}{K A:Nat→Kp}(h:yW w B b n K A){i:Nat}(hi:i<n):(A i).z=(K i).z∧(A i).x=(K i).x∧(A i).y=(K i).y:=(h.2.2 i hi).2.1
theorem yW.atK {w:World}{B b n:Nat}{K A:Nat→Kp}(h:yW w B b n K A)(z x y:Int):∀ m,m≤n→Go.Proofs.YtkjbafcalamgnaaGreat.atK m A z x y=Go.Proofs.YtkjbafcalamgnaaGreat.atK m K z x y:=fun m hm=>by
 have e:∀ i,i<m→isK (A i) z x y=isK (K i) z x y:=fun i hi=>by
  obtain ⟨e1,e2,e3⟩:=h.ref (show i<n by omega)
  unfold isK;rw [e1,e2,e3]
 unfold Go.Proofs.YtkjbafcalamgnaaGreat.atK
 rcases zCc (fun i=>isK (A i) z x y) m with ⟨h1,h2⟩ | ⟨i,hi,hg,hf,hn⟩
 ·rw [h1]
  exact (zBb (fun i hi=>(e i hi).symm.trans (h2 i hi))).symm
 ·rw [hf]
  exact (xY hi ((e i hi).symm.trans hg) (fun j hj=>(e j (by omega)).symm.trans (hn j hj))).symm
theorem yW.kC {w:World}{B b n:Nat}{K A:Nat→Kp}(h:yW w B b n K A):∀ i,i<n→Go.Proofs.YtkjbafcalamgnaaGreat.kC A i=Go.Proofs.YtkjbafcalamgnaaGreat.kC K i:=fun i hi=>by
 obtain ⟨e1,e2,e3⟩:=h.ref hi
 unfold Go.Proofs.YtkjbafcalamgnaaGreat.kC
 rw [(h.2.2 i hi).2.tC,e1,e2,e3,h.atK _ _ _ i (by omega)]
theorem yW.cacheC {w:World}{B b n:Nat}{K A:Nat→Kp}(h:yW w B b n K A)(s:Int):Go.Proofs.YtkjbafcalamgnaaGreat.cacheC s n A=Go.Proofs.YtkjbafcalamgnaaGreat.cacheC s n K:=by
 have e:xN (Go.Proofs.YtkjbafcalamgnaaGreat.kC A) 0 n=xN (Go.Proofs.YtkjbafcalamgnaaGreat.kC K) 0 n:=by
  by_cases hall:∀ j,j<n→Go.Proofs.YtkjbafcalamgnaaGreat.kC K j=0
  ·rw [xR _ _ _ (fun j _ hj=>hall j (by omega)),xR _ _ _ (fun j _ hj=>(h.kC j (by omega)).trans (hall j (by omega)))]
  ·obtain ⟨k,hk,hne,hno⟩:∃ k,k<n∧Go.Proofs.YtkjbafcalamgnaaGreat.kC K k≠0∧∀ l,l<k→Go.Proofs.YtkjbafcalamgnaaGreat.kC K l=0:=by
    have:∀ m,(∃ i,i<m∧Go.Proofs.YtkjbafcalamgnaaGreat.kC K i≠0)→∃ i,i<m∧Go.Proofs.YtkjbafcalamgnaaGreat.kC K i≠0∧∀ l,l<i→Go.Proofs.YtkjbafcalamgnaaGreat.kC K l=0:=by
     intro m
     induction m with
     | zero=>rintro ⟨i,hi,_⟩;omega
     | succ m ih =>
      rintro ⟨i,hi,h⟩
      by_cases hx:∃ i,i<m∧Go.Proofs.YtkjbafcalamgnaaGreat.kC K i≠0
      ·obtain ⟨i,h1,h2⟩:=ih hx;exact ⟨i,by omega,h2⟩
      ·refine ⟨i,hi,h,fun l hl=>?_⟩
       by_cases e:Go.Proofs.YtkjbafcalamgnaaGreat.kC K l=0
       ·exact e
       ·exact absurd ⟨l,by omega,e⟩ hx
    refine this n ?_
    by_cases hx:∃ i,i<n∧Go.Proofs.YtkjbafcalamgnaaGreat.kC K i≠0
    ·exact hx
    ·exact absurd (fun j hj=>by
      by_cases e:Go.Proofs.YtkjbafcalamgnaaGreat.kC K j=0
      ·exact e
      ·exact absurd ⟨j,hj,e⟩ hx) hall
   rw [yJ (Go.Proofs.YtkjbafcalamgnaaGreat.kC K) n 0 k (fun l _ hl=>hno l hl) (by omega) (by omega) hne,
    yJ (Go.Proofs.YtkjbafcalamgnaaGreat.kC A) n 0 k (fun l _ hl=>(h.kC l (by omega)).trans (hno l hl)) (by omega) (by omega) (by rw [h.kC k hk];exact hne),h.kC k hk]
 unfold Go.Proofs.YtkjbafcalamgnaaGreat.cacheC
 rw [e]
def zFn (now bad:Int):Int:=if inV now bad=true then 0 else 3
theorem zHt (p:Nat)(now bad:Int)(w:World)(h5:w.cell? ⟨p,5,none⟩=some (.int .i64 now))(h8:w.cell? ⟨p,8,none⟩=some (.int .i64 bad)) :
  Calls Tryz.prog 70 #[.pointer (some ⟨p,0,none⟩)] w fun e w'=>e=.returned (.int .i64 (zFn now bad))∧Bw w w':=by
 have HI:Hid (∀ W,Calls Tryz.prog 77 #[.int .i64 bad,.int .i64 0,.int .i64 9999] W fun e w'=>e=.returned (.bool (inB bad 0 9999))∧w'=W):=fun W=>zR _ _ _ W
 have HT:Hid (∀ W,Calls Tryz.prog 121 #[.int .i64 now] W fun e w'=>e=.returned (.int .i64 (zFs now))∧Bw W w'):=fun W=>zDx now W
 cases hb:inB bad 0 9999
 ·have HE:Hid (zFn now bad=3):=by show _=_;simp [zFn,inV,hb]
  rw [hb] at HI
  go_enter Tryz.func70,Tryz.ntmps70
  go_wp2_with fail
  refine Calls.mono (HI.out _) ?_
  rintro e w2 ⟨rfl,h2⟩
  subst w2
  go_wp2
  go_ret
  exact ⟨zD HE.out.symm,Below.refl _ _⟩
 ·have HE:Hid (zFn now bad=zFs now):=by show _=_;simp [zFn,inV,hb,zFs]
  rw [hb] at HI
  clear hb
  generalize zFn now bad=CC at *
  generalize zFs now=TC at *
  go_enter Tryz.func70,Tryz.ntmps70
  go_wp2_with fail
  refine Calls.mono (HI.out _) ?_
  rintro e w2 ⟨rfl,h2⟩
  subst w2
  go_wp2_with fail
  refine Calls.mono (HT.out _) ?_
  rintro e w3 ⟨rfl,hb3⟩
  go_wp2
  go_ret
  exact ⟨zD HE.out.symm,hb3⟩
theorem zKl (s:Int)(w:World):Calls Tryz.prog 72 #[.int .i64 s] w fun e w'=>e=.returned (.int .i64 (if s<4 then 3 else 0))∧w'=w:=by
 by_cases h:s<4
 ·rw [if_pos h]
  go_enter Tryz.func72,Tryz.ntmps72
  go_wp2
  go_ret
  exact ⟨rfl,rfl⟩
 ·rw [if_neg h]
  go_enter Tryz.func72,Tryz.ntmps72
  go_wp2
  go_ret
  exact ⟨rfl,rfl⟩
theorem zRo {n:Nat}{E:Nat→Req}(h:zO n E=0):∀ j,j<n→zCt (E j).z (E j).x (E j).y=true:=by
 unfold zO at h
 split at h
 ·cases h
 ·intro j hj
  cases hr:zN7 (E j)
  ·exfalso
   obtain ⟨i,hi,hne,hall⟩:∃ i,i≤j∧vK E i≠0∧∀ l,l<i→vK E l=0:=by
    have:∀ m,(∃ i,i≤m∧vK E i≠0)→∃ i,i≤m∧vK E i≠0∧∀ l,l<i→vK E l=0:=by
     intro m
     induction m with
     | zero=>rintro ⟨i,hi,h⟩;exact ⟨i,hi,h,fun l hl=>by omega⟩
     | succ m ih =>
      rintro ⟨i,hi,h⟩
      by_cases hx:∃ i,i≤m∧vK E i≠0
      ·obtain ⟨i,h1,h2⟩:=ih hx;exact ⟨i,by omega,h2⟩
      ·refine ⟨i,hi,h,fun l hl=>?_⟩
       by_cases e:vK E l=0
       ·exact e
       ·exact absurd ⟨l,by omega,e⟩ hx
    exact this j ⟨j,Nat.le_refl _,by rw [zD6 hr];decide⟩
   rw [yJ (vK E) n 0 i (fun l _ hl=>hall l hl) (by omega) (by omega) hne] at h
   exact hne h
  ·unfold zN7 at hr
   simp at hr
   exact hr.1
theorem zIb (B p sp:Nat)(z x y wd ht now s:Int)(n:Nat)(A:Nat→Kp)(ra:Option Addr)(rn rc:Nat)(E:Nat→Req)(bad:Int)(w:World)(hV:Blk w p [.int .i64 z,.int .i64 x,.int .i64 y,.int .i64 wd,.int .i64 ht,.int .i64 now,.pointer (some ⟨sp,0,none⟩),.slice ra rn rc,.int .i64 bad,.slice none 0 0])(hK:ShK w B sp s n A)(h0:cacheC s n A=0)(hr:xL w ra rn E)(hrn:rn≤1048576)(hrc:rn≤rc)(hq:zO rn E=0) :
  Calls Tryz.prog 74 #[.pointer (some ⟨p,0,none⟩)] w fun e w'=>e=.returned (.int .i64 (xN (zC4 z x y wd ht n A E) 0 rn))∧Bw w w':=by
 have HV:Hid (Blk w p [.int .i64 z,.int .i64 x,.int .i64 y,.int .i64 wd,.int .i64 ht,.int .i64 now,.pointer (some ⟨sp,0,none⟩),.slice ra rn rc,.int .i64 bad,.slice none 0 0]):=hV
 have HK:Hid (ShK w B sp s n A):=hK
 have HR:Hid (xL w ra rn E):=hr
 have hpl:p<w.heap.size:=hV.lt
 have HZ0:Hid (∀ j,j<n→kC A j=0):=vL h0
 have HRB:Hid (∀ j,j<rn→zCt (E j).z (E j).x (E j).y=true):=zRo hq
 have c7:=hV.cell 7 rfl
 clear hV hK hr h0 hq
 obtain ⟨VC,hVC⟩:∃ VC,xN (zC4 z x y wd ht n A E) 0 rn=VC:=⟨_,rfl⟩
 rw [hVC]
 have HVC5:Hid (VC=xN (zC4 z x y wd ht n A E) 0 rn):=hVC.symm
 clear hVC
 go_enter Tryz.func74,Tryz.ntmps74
 go_wp2_with fail
 go_loopw [10] (fun v wr=>∃ k:Nat,k≤rn∧v=.int .i64 k∧(∀ j,j<k→zC4 z x y wd ht n A E j=0)∧Bw w wr) (fun v _=>rn - (intOf v).toNat)
 case atStart=>exact ⟨0,by omega,rfl,by omega,Below.refl _ _⟩
 case round =>
  obtain ⟨k,hk,rfl,hA,hB⟩:=hrel
  have HB:Hid (Bw w wr):=hB
  have HZ:Hid (∀ j,j<k→zC4 z x y wd ht n A E j=0):=hA
  clear hA hB c7
  by_cases hlt:k<rn
  ·have HLT:Hid (k<rn):=hlt
   have first:Hid (zC4 z x y wd ht n A E k=8→VC=8):=fun hc=>by
    rw [HVC5.out,yJ _ rn 0 k (fun j _ hj=>HZ.out j hj) (by omega) (by have:=HLT.out;omega) (by rw [hc];decide),hc]
   have HOK:Hid (zC4 z x y wd ht n A E k=0→∀ j,j<k+1→zC4 z x y wd ht n A E j=0):=fun h0 j hj=>by
    by_cases e:j=k
    ·rw [e];exact h0
    ·exact HZ.out j (by omega)
   rcases HR.out with hz | ⟨rb,ro,rfl,hrl,hW⟩
   ·omega
   obtain ⟨e0,e1,e2,e3,e4⟩:=(hW.below HB.out hrl) k hlt
   have hi:(k:Int)<(rn:Int):=by omega
   have hi0:(0:Int)≤(k:Int):=by omega
   obtain ⟨iz,ix,iy⟩:=zGy (HRB.out k hlt)
   have HSe:Hid (∀ W',Calls Tryz.prog 127 #[zCn z x y wd ht,vT (E k).z (E k).x (E k).y] W' fun e w'=>e=.returned (.bool (yU z x y wd ht (E k).z (E k).x (E k).y))∧Below W'.heap.size W' w'):=fun W'=>zCa z x y wd ht _ _ _ W'
   have HAt:Hid (∀ W',Bw w W'→Calls Tryz.prog 128 #[.pointer (some ⟨sp,0,none⟩),vT (E k).z (E k).x (E k).y] W' fun e w'=>e=.returned (.bool (decide (0≤atK n A (E k).z (E k).x (E k).y)))∧Below W'.heap.size W' w'):=fun W' h=>by
    obtain ⟨mb,_,_,h3,h4,h5⟩:=HK.out.below h
    have:=zB4 sp mb n s (n:Int) (shD A n) (E k).z (E k).x (E k).y W' h3 h5 iz ix iy
    rw [zKj iz ix iy n (zVg HZ0.out)] at this
    exact this
   have hSt:zC4 z x y wd ht n A E k=if yU z x y wd ht (E k).z (E k).x (E k).y=true then (if 0≤atK n A (E k).z (E k).x (E k).y then 8 else 0) else 8:=rfl
   have HSt:=(show Hid _ from hSt)
   clear hSt hW iz ix iy
   generalize zC4 z x y wd ht n A E k=ST at *
   generalize (E k).z=rz at *
   generalize (E k).x=rx at *
   generalize (E k).y=ry at *
   generalize (E k).du=rd at *
   generalize (E k).tr=rt at *
   generalize atK n A rz rx ry=AT at *
   generalize yU z x y wd ht rz rx ry=SN at *
   go_wp2_with fail
   generalize hU:(wr.alloc _:World)=U
   have HBU:Hid (Bw w U):=by show Below _ _ _;subst hU;exact zA HB.out (xB (Below.refl _ _) _)
   have HRU:Hid (RK U wr.heap.size rz rx ry):=by show RK _ _ _ _ _;subst hU;refine ⟨?_,?_,?_⟩ <;> simp [go_sem]
   clear hU e0 e1 e2 e3 e4
   have hl0:∀ W',Bw U W'→Blk W' p [.int .i64 z,.int .i64 x,.int .i64 y,.int .i64 wd,.int .i64 ht,.int .i64 now,.pointer (some ⟨sp,0,none⟩),.slice (some ⟨rb,ro,none⟩) rn rc,.int .i64 bad,.slice none 0 0]:=fun W' h=>HV.out.below hpl (zA HBU.out h)
   obtain ⟨c0,c1,c2,c3,c4⟩:=Blk.g5 (b:=U.heap.size) (v:=U) fun W' h=>(hl0 W' h)
   have c6:∀ W',Bw U W'→W'.cell? ⟨p,6,none⟩=some (.pointer (some ⟨sp,0,none⟩)):=fun W' h=>(hl0 W' h).cell 6 rfl
   have r0:∀ W',Bw U W'→W'.cell? ⟨wr.heap.size,0,none⟩=some (.int .i64 rz):=fun W' h=>(HRU.out.below h).1
   have r1:∀ W',Bw U W'→W'.cell? ⟨wr.heap.size,1,none⟩=some (.int .i64 rx):=fun W' h=>(HRU.out.below h).2.1
   have r2:∀ W',Bw U W'→W'.cell? ⟨wr.heap.size,2,none⟩=some (.int .i64 ry):=fun W' h=>(HRU.out.below h).2.2
   clear hl0
   refine wp_region_noPanic ?_
   refine wp_region_held_drew (S:=fun W'=>Bw U W') (by kernel_rfl) (by have:=Below.refl U.heap.size U;exact Qb) (fun hHeld=>?_)
   have hX0:Bw U U.drew:=hHeld
   refine zF (i:=0) (d:=some 14) rfl rfl ?_
   try simp only [Act.put,Qx,Qy,Qz]
   refine zF (i:=1) (d:=some 15) rfl rfl ?_
   try simp only [Act.put,Qx,Qy,Qz]
   refine zF (i:=2) (d:=some 16) rfl rfl ?_
   try simp only [Act.put,Qx,Qy,Qz]
   refine zF (i:=3) (d:=some 17) rfl rfl ?_
   try simp only [Act.put,Qx,Qy,Qz]
   refine zF (i:=4) (d:=some 18) rfl rfl ?_
   try simp only [Act.put,Qx,Qy,Qz]
   refine zF (i:=5) (d:=some 19) rfl rfl ?_
   try simp only [Act.put,Qx,Qy,Qz]
   generalize U.drew=wk0 at *
   refine zN 6 fun K hK=>?_
   rw [if_pos (by rfl)]
   go_simp
   refine Calls.mono (HSe.out _) ?_
   rintro e wk1 ⟨rfl,hb1⟩
   have hX1:Bw U wk1:=zA hX0 hb1
   go_wp2_with fail
   refine hK.out _ _ (by assumption) (fun hHeld=>?_)
   clear hK K
   try simp only [Act.put,Qx,Qy,Qz]
   cases SN
   ·have HE:Hid (VC=8):=first.out (by rw [HSt.out];rfl)
    refine zF (i:=7) (d:=some 21) rfl rfl ?_
    try simp only [Act.put,Qx,Qy,Qz]
    refine zF (i:=8) (d:=some 22) rfl rfl ?_
    try simp only [Act.put,Qx,Qy,Qz]
    refine xS (i:=9) (d:=some 23) rfl rfl (by rfl) (by assumption) ?_
    try simp only [Act.put,Qx,Qy,Qz]
    refine xS (i:=10) (d:=some 24) rfl rfl (by rfl) (by assumption) ?_
    try simp only [Act.put,Qx,Qy,Qz]
    refine xS (i:=11) (d:=some 25) rfl rfl (by rfl) (by assumption) ?_
    try simp only [Act.put,Qx,Qy,Qz]
    refine xS (i:=12) (d:=some 26) rfl rfl (by rfl) (by assumption) ?_
    try simp only [Act.put,Qx,Qy,Qz]
    refine xS (i:=13) (d:=some 27) rfl rfl (by rfl) (by assumption) ?_
    try simp only [Act.put,Qx,Qy,Qz]
    refine xS (i:=14) (d:=some 28) rfl rfl (by rfl) (by assumption) ?_
    try simp only [Act.put,Qx,Qy,Qz]
    refine xS (i:=15) (d:=some 29) rfl rfl (by rfl) (by assumption) ?_
    try simp only [Act.put,Qx,Qy,Qz]
    refine zF (i:=16) (d:=some 30) rfl rfl ?_
    try simp only [Act.put,Qx,Qy,Qz]
    refine wpAnyH_done (by kernel_rfl) ?_ _
    refine NoPanic.normal ?_
    have HB9:Hid (Bw w wk1):=zA HBU.out hX1
    clear c0 c1 c2 c3 c4 c6 r0 r1 r2 hX0 hb1 hX1
    go_wp2
    go_ret
    exact ⟨zD HE.out.symm,HB9.out⟩
   ·have HSt2:Hid (ST=if 0≤AT then 8 else 0):=by show _=_;rw [HSt.out];rfl
    refine zF (i:=7) (d:=some 21) rfl rfl ?_
    try simp only [Act.put,Qx,Qy,Qz]
    refine zF (i:=8) (d:=some 22) rfl rfl ?_
    try simp only [Act.put,Qx,Qy,Qz]
    refine zF (i:=9) (d:=some 23) rfl rfl ?_
    try simp only [Act.put,Qx,Qy,Qz]
    refine zF (i:=10) (d:=some 24) rfl rfl ?_
    try simp only [Act.put,Qx,Qy,Qz]
    refine zF (i:=11) (d:=some 25) rfl rfl ?_
    try simp only [Act.put,Qx,Qy,Qz]
    refine zF (i:=12) (d:=some 26) rfl rfl ?_
    try simp only [Act.put,Qx,Qy,Qz]
    refine zF (i:=13) (d:=some 27) rfl rfl ?_
    try simp only [Act.put,Qx,Qy,Qz]
    refine zF (i:=14) (d:=some 28) rfl rfl ?_
    try simp only [Act.put,Qx,Qy,Qz]
    refine zN 15 fun K hK=>?_
    rw [if_pos (by rfl)]
    go_simp
    refine Calls.mono (HAt.out _ (zA HBU.out hX1)) ?_
    rintro e wk2 ⟨rfl,hb2⟩
    have hX2:Bw U wk2:=zA hX1 hb2
    go_wp2_with fail
    refine hK.out _ _ (by assumption) (fun hHeld=>?_)
    clear hK K
    try simp only [Act.put,Qx,Qy,Qz]
    have HB9:Hid (Bw w wk2):=zA HBU.out hX2
    by_cases hat:0≤AT
    ·have HE:Hid (VC=8):=first.out (by rw [HSt2.out,if_pos hat])
     have hdec:decide (0≤AT)=true:=decide_eq_true hat
     refine zF (i:=16) (d:=some 30) rfl rfl ?_
     try simp only [Act.put,Qx,Qy,Qz]
     refine wpAnyH_done (by kernel_rfl) ?_ _
     refine NoPanic.normal ?_
     clear c0 c1 c2 c3 c4 c6 r0 r1 r2 hX0 hb1 hX1 hb2 hX2
     go_wp2
     go_ret
     exact ⟨zD HE.out.symm,HB9.out⟩
    ·have HE:Hid (ST=0):=by show _=_;rw [HSt2.out,if_neg hat]
     have hdec:decide (0≤AT)=false:=decide_eq_false hat
     refine zF (i:=16) (d:=some 30) rfl rfl ?_
     try simp only [Act.put,Qx,Qy,Qz]
     refine wpAnyH_done (by kernel_rfl) ?_ _
     refine NoPanic.normal ?_
     clear c0 c1 c2 c3 c4 c6 r0 r1 r2 hX0 hb1 hX1 hb2 hX2
     go_wp2_with fail
     go_roundw
     case rel=>exact ⟨k+1,by have:=HLT.out;omega,by go_num,HOK.out HE.out,HB9.out⟩
     case measure=>have:=HLT.out;simp [intOf];omega
  ·have HE:Hid (VC=0):=by
    show _=_
    rw [HVC5.out]
    exact xR _ _ _ (fun j _ hj=>HZ.out j (by omega))
   obtain rfl:rn=k:=by omega
   go_wp2
   go_ret
   exact ⟨zD HE.out.symm,HB.out⟩
end Go.Proofs.YtkjbafcalamgnaaGreat
