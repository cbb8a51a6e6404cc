/- Texts. -/
import Derived.Test.YtpaiholildedcaaGreatVNewViewer1
import Derived.Shelf.SlSortCmp.NoneTotal
set_option linter.unusedSimpArgs false
set_option linter.unusedVariables false
set_option maxRecDepth 100000
set_option maxHeartbeats 32000000
namespace Go.Proofs.YtpaiholildedcaaGreat
open Go.RowKit
theorem zIy (s:Int)(w:World):Calls Tryz.prog 122 #[.int .i64 s] w fun e w'=>e=.returned (.bool (inB s 1 10))∧w'=w:=by
 go_enter Tryz.func122,Tryz.ntmps122
 go_wp2_with (go_at_call 62;refine (zR _ _ _ _).mono ?_;rintro e w' ⟨rfl,rfl⟩)
 go_ret
 exact ⟨rfl,rfl⟩
def zBp (now:Int):Int:=if inB now 0 9000=true then 0 else 3
theorem zJm {now:Int}(h:zBp now=0):0≤now∧now≤9000:=by
 unfold zBp at h
 cases hb:inB now 0 9000
 ·simp [hb] at h
 ·simpa [inB] using hb
theorem zAl (now:Int)(w:World):Calls Tryz.prog 121 #[.int .i64 now] w fun e w'=>e=.returned (.int .i64 (zBp now))∧Bw w w':=by
 cases h:inB now 0 9000
 all_goals
  have hk:Hid (zBp now=if inB now 0 9000=true then 0 else 3):=rfl
  rw [h] at hk
  go_enter Tryz.func121,Tryz.ntmps121
  go_wp2_with (go_at_call 62;refine (zR _ _ _ _).mono ?_;rintro e w' ⟨rfl,rfl⟩)
  go_ret
  exact ⟨zH (by rw [hk.out];rfl),Qb⟩
section
variable {P:Program} {ops:Array Oper} {Q:Exit→Act→World→Prop} {md:Region.Mode} {S:World→Prop} {z:Nat}
def vE (md:Region.Mode)(ops:Array Oper)(z i:Nat)(U:List Nat)(listed:Array Bool):Bool :=
 U.contains z && U.all fun u=>!(listed.getD u true) && (i :: U).any fun v=>uN md ops u v
theorem zF6 {i u:Nat}{U:List Nat}{listed:Array Bool}(h:vE md ops z i U listed=true)(hi:listed.getD i true=false)(hu:u ∈ U):¬ u ∈ Region.ready md ops listed:=by
 unfold vE at h
 rw [Bool.and_eq_true,List.all_eq_true] at h
 have h1:=h.2 u hu
 rw [Bool.and_eq_true,List.any_eq_true] at h1
 obtain ⟨v,hv,hw⟩:=h1.2
 have hvl:listed.getD v true=false:=by
  rcases List.mem_cons.1 hv with rfl | hv
  ·exact hi
  ·have h2:=h.2 v hv
   rw [Bool.and_eq_true] at h2
   simpa using h2.1
 exact zFr hw hvl
theorem zEh {i:Nat}{oi:Oper}{v:Value}(U:List Nat)(hi:ops[i]?=some oi)(hsel:∀ (j:Nat) (o:Oper) cs b,ops[j]?=some o→o.op≠.select cs b)(hQ:∀ c a w,Q (.panic c) (a.put oi.dst v) w→Q (.panic c) a w) :
  ∀ (fuel:Nat) (listed:Array Bool) (a:Act) (w:World),vE md ops z i U listed=true →
   (∀ j oj,ops[j]?=some oj→j≠i→listed.getD j true=false→(∀ e ∈ oj.after,Region.binds md e=true→e.on≠i)→oi.apart ops oj=true) →
   i ∈ Region.ready md ops listed→YieldsIf P ops S oi v a→S w →
   yV P md ops Q S z fuel (listed.setIfInBounds i true) (a.put oi.dst v) w→yV P md ops Q S z (fuel+1) listed a w:=by
 intro fuel
 induction fuel with
 | zero =>
  intro listed a w _ _ hr hy hS H
  refine ⟨fun h=>(by rw [h] at hr;cases hr),fun j hj=>?_⟩
  by_cases hji:j=i
  ·subst hji;exact hy.wpOp hi hS ⟨fun _=>hS,H⟩
  ·have:=ready_mono hj hji
   rw [H.1] at this
   cases this
 | succ fuel ih =>
  intro listed a w hU hfree hr hy hS H
  refine ⟨fun h=>(by rw [h] at hr;cases hr),fun j hj=>?_⟩
  by_cases hji:j=i
  ·subst hji;exact hy.wpOp hi hS ⟨fun _=>hS,H⟩
  ·have hil:=(mem_ready.1 hr).1
   have hjU:j ∉ U:=fun h=>zF6 hU hil h hj
   have hzU:z ∈ U:=by
    unfold vE at hU
    rw [Bool.and_eq_true] at hU
    simpa using hU.1
   have hjz:j≠z:=fun e=>hjU (e ▸ hzU)
   have h1:=H.2 j (ready_mono hj hji)
   obtain ⟨hjun,oj,hoj,hall⟩:=mem_ready.1 hj
   have hnot:∀ e ∈ oj.after,Region.binds md e=true→e.on≠i:=fun e he hb heq=>by
    have h1:=hall e he hb
    have h0:=(mem_ready.1 hr).1
    rw [heq] at h1
    rcases Nat.lt_or_ge i listed.size with h' | h'
    ·simp [h'] at h0 h1;rw [h0] at h1;cases h1
    ·simp [Array.getElem?_eq_none h'] at h1
   have h2:=wpOp_putIf hoj (hfree j oj hoj hji hjun hnot) (fun cs b=>hsel i oi cs b hi) (fun cs b=>hsel j oj cs b hoj) hQ hy h1
   have hfree':∀ k ok,ops[k]?=some ok→k≠i→(listed.setIfInBounds j true).getD k true=false →
     (∀ e ∈ ok.after,Region.binds md e=true→e.on≠i)→oi.apart ops ok=true:=fun k ok hk hki hun hno=>by
    refine hfree k ok hk hki ?_ hno
    by_cases hjk:j=k
    ·subst hjk;exact hjun
    ·rw [getD_set_ne true hjk] at hun;exact hun
   have hU':vE md ops z i U (listed.setIfInBounds j true)=true:=by
    unfold vE at hU ⊢
    rw [Bool.and_eq_true,List.all_eq_true] at hU ⊢
    refine ⟨hU.1,fun u hu=>?_⟩
    have:=hU.2 u hu
    have hju:j≠u:=fun e=>hjU (by rw [e];exact hu)
    rw [getD_set_ne true hju]
    exact this
   refine wpOp_mono (fun a' w' h3=>⟨h3.2.1,ih (listed.setIfInBounds j true) a' w' hU' hfree' (ready_mono hr (Ne.symm hji)) h3.1 (h3.2.1 hjz) ?_⟩) h2
   rw [Array.setIfInBounds_comm _ _ hji]
   exact h3.2.2
theorem zU {i:Nat}{oi:Oper}{v:Value}{fuel:Nat}{listed:Array Bool}{a:Act}{w:World}(U:List Nat)(hi:ops[i]?=some oi)(hs:Region.noSelect ops=true)(hf:Region.free md ops listed i=true)(hr:(Region.ready md ops listed).contains i=true)(hU:vE md ops z i U listed=true)(hQ:∀ c a w,Q (.panic c) (a.put oi.dst v) w→Q (.panic c) a w)(hy:YieldsIf P ops S oi v a)(hS:S w)(h:yV P md ops Q S z fuel (listed.setIfInBounds i true) (a.put oi.dst v) w):yV P md ops Q S z (fuel+1) listed a w :=
 zEh U hi (Region.noSelect_spec hs) hQ fuel listed a w hU (Region.free_spec hi hf) (by simpa using hr) hy hS h
theorem yD {i:Nat}{oi:Oper}{v:Value}{fuel:Nat}{listed:Array Bool}{a:Act}{w:World}(U:List Nat)(hi:ops[i]?=some oi)(hS:S w)(h:yV P md ops Q S z fuel (listed.setIfInBounds i true) (a.put oi.dst v) w)(hs:Region.noSelect ops=true:=by kernel_rfl)(hf:Region.free md ops listed i=true:=by kernel_rfl)(hr:(Region.ready md ops listed).contains i=true:=by kernel_rfl)(hU:vE md ops z i U listed=true:=by kernel_rfl)(hQ:∀ c a w,Q (.panic c) (a.put oi.dst v) w→Q (.panic c) a w:=by exact fun _ _ _ h=>h)(hy:YieldsIf P ops S oi v a:=by exact Or.inl ⟨by rfl,by (intro w hSw;(try dsimp only at hSw);go_simp <;> with_reducible rfl)⟩):yV P md ops Q S z (fuel+1) listed a w:=zU U hi hs hf hr hU hQ hy hS h
end
end Go.Proofs.YtpaiholildedcaaGreat
namespace Go.Proofs.YtpaiholildedcaaGreat
open Go.RowKit Go.Sort Go.Shelf
theorem Gro.grow {V W':World}(h:Gro V W'):∃ q os',W'=Go.Sort.grow (V.drewN q) os':=by
 obtain ⟨hb,hd⟩:=h
 refine ⟨W'.drawn - V.drawn,W'.heap.extract V.heap.size W'.heap.size,?_⟩
 obtain ⟨hp,tp,dr,os,ou⟩:=W'
 obtain ⟨h1,h2,h3,h4,h5⟩:=hb
 simp only at h1 h2 h3 h4 h5 hd
 subst h1 h2 h3
 have e1:V.drawn+(dr - V.drawn)=dr:=by omega
 have e2:V.heap ++ hp.extract V.heap.size hp.size=hp:=by
  apply Array.ext
  ·simp;omega
  ·intro i hi hi'
   by_cases h:i<V.heap.size
   ·rw [Array.getElem_append_left h]
    have:=h5 i h
    rw [Array.getElem?_eq_getElem hi',Array.getElem?_eq_getElem h] at this
    injection this with this
    exact this.symm
   ·rw [Array.getElem_append_right (by omega)]
    simp only [Array.getElem_extract]
    congr 1
    omega
 simp only [Go.Sort.grow,World.drewN,e1,e2]
theorem cmpI_lt (x y:Int):cmpI x y<0 ↔ x<y:=by
 unfold cmpI
 by_cases h1:x<y
 ·rw [if_pos h1];simp [h1]
 ·rw [if_neg h1]
  by_cases h2:y<x
  ·rw [if_pos h2];simp [h1]
  ·rw [if_neg h2];simp [h1]
theorem zHd (enc:Nat→List Value)(k:Nat)(w:World)(g off m:Nat)(d:Array Nat)(os:Array Obj):w.grownBy (sortWorldK enc k w g off m d os) (some g):=by
 refine ⟨rfl,rfl,rfl,size_sortWorldK_c _ _ _ _ _ _ _ _,fun j hj hne=>?_⟩
 have hne':g≠j:=fun e=>hne (by rw [e])
 show ((putRowK enc k (Sort.ahead w m) g off d).heap ++ os)[j]?=_
 have hs:(putRowK enc k (Sort.ahead w m) g off d).heap.size=w.heap.size:=by
  show (putRow id (Sort.ahead w m) g off (flatK enc k d)).heap.size=_
  rw [size_putRow];rfl
 rw [Array.getElem?_append_left (by rw [hs];exact hj)]
 show (w.heap.modify g _)[j]?=_
 rw [Array.getElem?_modify,if_neg hne']
end Go.Proofs.YtpaiholildedcaaGreat
namespace Go.Proofs.YtpaiholildedcaaGreat
open Go.RowKit
theorem zJt {W:World}{r:Nat}{v0 v1 v2 v3 v4 v5 v6:Value}(hT:zC W r 7) :
  (((((((W.setCell ⟨r,0,none⟩ v0).setCell ⟨r,1,none⟩ v1).setCell ⟨r,2,none⟩ v2).setCell ⟨r,3,none⟩ v3).setCell ⟨r,4,none⟩ v4).setCell ⟨r,5,none⟩ v5).setCell ⟨r,6,none⟩ v6).cell? ⟨r,0,none⟩=some v0 ∧
  (((((((W.setCell ⟨r,0,none⟩ v0).setCell ⟨r,1,none⟩ v1).setCell ⟨r,2,none⟩ v2).setCell ⟨r,3,none⟩ v3).setCell ⟨r,4,none⟩ v4).setCell ⟨r,5,none⟩ v5).setCell ⟨r,6,none⟩ v6).cell? ⟨r,1,none⟩=some v1 ∧
  (((((((W.setCell ⟨r,0,none⟩ v0).setCell ⟨r,1,none⟩ v1).setCell ⟨r,2,none⟩ v2).setCell ⟨r,3,none⟩ v3).setCell ⟨r,4,none⟩ v4).setCell ⟨r,5,none⟩ v5).setCell ⟨r,6,none⟩ v6).cell? ⟨r,2,none⟩=some v2 ∧
  (((((((W.setCell ⟨r,0,none⟩ v0).setCell ⟨r,1,none⟩ v1).setCell ⟨r,2,none⟩ v2).setCell ⟨r,3,none⟩ v3).setCell ⟨r,4,none⟩ v4).setCell ⟨r,5,none⟩ v5).setCell ⟨r,6,none⟩ v6).cell? ⟨r,3,none⟩=some v3 ∧
  (((((((W.setCell ⟨r,0,none⟩ v0).setCell ⟨r,1,none⟩ v1).setCell ⟨r,2,none⟩ v2).setCell ⟨r,3,none⟩ v3).setCell ⟨r,4,none⟩ v4).setCell ⟨r,5,none⟩ v5).setCell ⟨r,6,none⟩ v6).cell? ⟨r,4,none⟩=some v4 ∧
  (((((((W.setCell ⟨r,0,none⟩ v0).setCell ⟨r,1,none⟩ v1).setCell ⟨r,2,none⟩ v2).setCell ⟨r,3,none⟩ v3).setCell ⟨r,4,none⟩ v4).setCell ⟨r,5,none⟩ v5).setCell ⟨r,6,none⟩ v6).cell? ⟨r,5,none⟩=some v5 ∧
  (((((((W.setCell ⟨r,0,none⟩ v0).setCell ⟨r,1,none⟩ v1).setCell ⟨r,2,none⟩ v2).setCell ⟨r,3,none⟩ v3).setCell ⟨r,4,none⟩ v4).setCell ⟨r,5,none⟩ v5).setCell ⟨r,6,none⟩ v6).cell? ⟨r,6,none⟩=some v6:=by
 have ne:∀ i j:Nat,i≠j→(⟨r,i,none⟩:Addr)≠⟨r,j,none⟩:=fun i j hij h=>hij (by injection h)
 obtain ⟨x0,h0⟩:=(hT 0 (by omega)).1
 obtain ⟨x1,h1⟩:=(hT 1 (by omega)).1
 obtain ⟨x2,h2⟩:=(hT 2 (by omega)).1
 obtain ⟨x3,h3⟩:=(hT 3 (by omega)).1
 obtain ⟨x4,h4⟩:=(hT 4 (by omega)).1
 obtain ⟨x5,h5⟩:=(hT 5 (by omega)).1
 obtain ⟨x6,h6⟩:=(hT 6 (by omega)).1
 refine ⟨?_,?_,?_,?_,?_,?_,?_⟩
 ·rw [zA (ne 6 0 (by omega)),zA (ne 5 0 (by omega)),zA (ne 4 0 (by omega)),zA (ne 3 0 (by omega)),zA (ne 2 0 (by omega)),zA (ne 1 0 (by omega))];exact zD h0
 ·rw [zA (ne 6 1 (by omega)),zA (ne 5 1 (by omega)),zA (ne 4 1 (by omega)),zA (ne 3 1 (by omega)),zA (ne 2 1 (by omega))];exact zD (by rw [zA (ne 0 1 (by omega))];exact h1)
 ·rw [zA (ne 6 2 (by omega)),zA (ne 5 2 (by omega)),zA (ne 4 2 (by omega)),zA (ne 3 2 (by omega))];exact zD (by rw [zA (ne 1 2 (by omega)),zA (ne 0 2 (by omega))];exact h2)
 ·rw [zA (ne 6 3 (by omega)),zA (ne 5 3 (by omega)),zA (ne 4 3 (by omega))];exact zD (by rw [zA (ne 2 3 (by omega)),zA (ne 1 3 (by omega)),zA (ne 0 3 (by omega))];exact h3)
 ·rw [zA (ne 6 4 (by omega)),zA (ne 5 4 (by omega))];exact zD (by rw [zA (ne 3 4 (by omega)),zA (ne 2 4 (by omega)),zA (ne 1 4 (by omega)),zA (ne 0 4 (by omega))];exact h4)
 ·rw [zA (ne 6 5 (by omega))];exact zD (by rw [zA (ne 4 5 (by omega)),zA (ne 3 5 (by omega)),zA (ne 2 5 (by omega)),zA (ne 1 5 (by omega)),zA (ne 0 5 (by omega))];exact h5)
 ·exact zD (by rw [zA (ne 5 6 (by omega)),zA (ne 4 6 (by omega)),zA (ne 3 6 (by omega)),zA (ne 2 6 (by omega)),zA (ne 1 6 (by omega)),zA (ne 0 6 (by omega))];exact h6)
end Go.Proofs.YtpaiholildedcaaGreat
