/- Texts. -/
import Derived.Test.YtiephlohemphjaaGreatVTickViewer1
set_option linter.unusedSimpArgs false
set_option linter.unusedVariables false
set_option maxRecDepth 100000
set_option maxHeartbeats 32000000
namespace Go.Proofs.YtiephlohemphjaaGreat
open Go.RowKit
section
variable {P : Program} {ops : Array Oper} {Q : Exit → Act → World → Prop} {md : Region.Mode} {S : World → Prop} {z : Nat}
def heldBack (md : Region.Mode) (ops : Array Oper) (z i : Nat) (U : List Nat) (listed : Array Bool) : Bool :=
 U.contains z && U.all fun u => !(listed.getD u true) && (i :: U).any fun v => waitsFor md ops u v
theorem heldBack_not {i u : Nat} {U : List Nat} {listed : Array Bool} (h : heldBack md ops z i U listed = true) (hi : listed.getD i true = false) (hu : u ∈ U) : ¬ u ∈ Region.ready md ops listed := by
 unfold heldBack at h
 rw [Bool.and_eq_true,List.all_eq_true] at h
 have h1 := h.2 u hu
 rw [Bool.and_eq_true,List.any_eq_true] at h1
 obtain ⟨v,hv,hw⟩ := h1.2
 have hvl : listed.getD v true = false := by
  rcases List.mem_cons.1 hv with rfl | hv
  ·exact hi
  ·have h2 := h.2 v hv
   rw [Bool.and_eq_true] at h2
   simpa using h2.1
 exact not_ready hw hvl
theorem wpAnyL_firstU {i : Nat} {oi : Oper} {v : Value} (U : List Nat) (hi : ops[i]? = some oi) (hsel : ∀ (j : Nat) (o : Oper) cs b,ops[j]? = some o → o.op ≠ .select cs b)
  (hQ : ∀ c a w,Q (.panic c) (a.put oi.dst v) w → Q (.panic c) a w) :
  ∀ (fuel : Nat) (listed : Array Bool) (a : Act) (w : World),heldBack md ops z i U listed = true →
   (∀ j oj,ops[j]? = some oj → j ≠ i → listed.getD j true = false → (∀ e ∈ oj.after,Region.binds md e = true → e.on ≠ i) → oi.apart ops oj = true) →
   i ∈ Region.ready md ops listed → YieldsIf P ops S oi v a → S w →
   wpAnyL P md ops Q S z fuel (listed.setIfInBounds i true) (a.put oi.dst v) w → wpAnyL P md ops Q S z (fuel + 1) listed a w := by
 intro fuel
 induction fuel with
 | zero =>
  intro listed a w _ _ hr hy hS H
  refine ⟨fun h => (by rw [h] at hr; cases hr),fun j hj => ?_⟩
  by_cases hji : j = i
  ·subst hji; exact hy.wpOp hi hS ⟨fun _ => hS,H⟩
  ·have := ready_mono hj hji
   rw [H.1] at this
   cases this
 | succ fuel ih =>
  intro listed a w hU hfree hr hy hS H
  refine ⟨fun h => (by rw [h] at hr; cases hr),fun j hj => ?_⟩
  by_cases hji : j = i
  ·subst hji; exact hy.wpOp hi hS ⟨fun _ => hS,H⟩
  ·have hil := (mem_ready.1 hr).1
   have hjU : j ∉ U := fun h => heldBack_not hU hil h hj
   have hzU : z ∈ U := by
    unfold heldBack at hU
    rw [Bool.and_eq_true] at hU
    simpa using hU.1
   have hjz : j ≠ z := fun e => hjU (e ▸ hzU)
   have h1 := H.2 j (ready_mono hj hji)
   obtain ⟨hjun,oj,hoj,hall⟩ := mem_ready.1 hj
   have hnot : ∀ e ∈ oj.after,Region.binds md e = true → e.on ≠ i := fun e he hb heq => by
    have h1 := hall e he hb
    have h0 := (mem_ready.1 hr).1
    rw [heq] at h1
    rcases Nat.lt_or_ge i listed.size with h' | h'
    ·simp [h'] at h0 h1; rw [h0] at h1; cases h1
    ·simp [Array.getElem?_eq_none h'] at h1
   have h2 := wpOp_putIf hoj (hfree j oj hoj hji hjun hnot) (fun cs b => hsel i oi cs b hi) (fun cs b => hsel j oj cs b hoj) hQ hy h1
   have hfree' : ∀ k ok,ops[k]? = some ok → k ≠ i → (listed.setIfInBounds j true).getD k true = false →
     (∀ e ∈ ok.after,Region.binds md e = true → e.on ≠ i) → oi.apart ops ok = true := fun k ok hk hki hun hno => by
    refine hfree k ok hk hki ?_ hno
    by_cases hjk : j = k
    ·subst hjk; exact hjun
    ·rw [getD_set_ne true hjk] at hun; exact hun
   have hU' : heldBack md ops z i U (listed.setIfInBounds j true) = true := by
    unfold heldBack at hU ⊢
    rw [Bool.and_eq_true,List.all_eq_true] at hU ⊢
    refine ⟨hU.1,fun u hu => ?_⟩
    have := hU.2 u hu
    have hju : j ≠ u := fun e => hjU (by rw [e]; exact hu)
    rw [getD_set_ne true hju]
    exact this
   refine wpOp_mono (fun a' w' h3 => ⟨h3.2.1,ih (listed.setIfInBounds j true) a' w' hU' hfree' (ready_mono hr (Ne.symm hji)) h3.1 (h3.2.1 hjz) ?_⟩) h2
   rw [Array.setIfInBounds_comm _ _ hji]
   exact h3.2.2
theorem wpAnyL_takeU {i : Nat} {oi : Oper} {v : Value} {fuel : Nat} {listed : Array Bool} {a : Act} {w : World} (U : List Nat) (hi : ops[i]? = some oi)
  (hs : Region.noSelect ops = true) (hf : Region.free md ops listed i = true) (hr : (Region.ready md ops listed).contains i = true) (hU : heldBack md ops z i U listed = true)
  (hQ : ∀ c a w,Q (.panic c) (a.put oi.dst v) w → Q (.panic c) a w) (hy : YieldsIf P ops S oi v a) (hS : S w)
  (h : wpAnyL P md ops Q S z fuel (listed.setIfInBounds i true) (a.put oi.dst v) w) : wpAnyL P md ops Q S z (fuel + 1) listed a w :=
 wpAnyL_firstU U hi (Region.noSelect_spec hs) hQ fuel listed a w hU (Region.free_spec hi hf) (by simpa using hr) hy hS h
end
end Go.Proofs.YtiephlohemphjaaGreat
