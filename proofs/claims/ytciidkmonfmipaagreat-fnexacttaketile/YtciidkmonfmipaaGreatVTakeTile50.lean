/- TakeTile: what both sides answer, said over the cache that came in. -/
import Derived.Test.YtciidkmonfmipaaGreatVTakeTile49
namespace Go.Proofs.YtciidkmonfmipaaGreat
open Go.RowKit
set_option linter.unusedSimpArgs false
set_option linter.unusedVariables false
set_option maxRecDepth 100000

noncomputable def tkN (s : Int) (n : Nat) (K : Nat → Kp) (z x y : Int) : Nat := if withC s n K z x y = 0 then (lessI n K z x y).length else 0
noncomputable def tkS (s : Int) (n : Nat) (K : Nat → Kp) (z x y : Int) : Int := if withC s n K z x y = 0 then s else 0
def tkK (n : Nat) (K : Nat → Kp) (z x y : Int) : Nat → Kp := fun j => K ((lessI n K z x y).getD j 0)
theorem lessI_get {n : Nat} {K : Nat → Kp} {z x y : Int} {j : Nat} (hj : j < (lessI n K z x y).length) : (lessI n K z x y).getD j 0 < n := by
  rw [List.getD_eq_getElem?_getD, List.getElem?_eq_getElem hj]
  exact lessI_mem (List.getElem_mem hj)
theorem tkK_small {s : Int} {n : Nat} {K : Nat → Kp} (z x y : Int) (h : SmallKs n K) : SmallKs (tkN s n K z x y) (tkK n K z x y) := by
  have hl := lessI_len n K z x y
  unfold tkN
  split
  · exact ⟨by have := h.1; omega, fun i hi => h.2 _ (lessI_get hi)⟩
  · exact ⟨Nat.zero_le _, fun i hi => by omega⟩
theorem OwnKs.withC {w : World} {B b n : Nat} {K A : Nat → Kp} (h : OwnKs w B b n K A) (s z x y : Int) : Go.Proofs.YtciidkmonfmipaaGreat.withC s n A z x y = Go.Proofs.YtciidkmonfmipaaGreat.withC s n K z x y := by
  unfold Go.Proofs.YtciidkmonfmipaaGreat.withC
  rw [h.cacheC, h.atK z x y n (Nat.le_refl _)]
theorem OwnKs.lessI {w : World} {B b n : Nat} {K A : Nat → Kp} (h : OwnKs w B b n K A) (z x y : Int) : Go.Proofs.YtciidkmonfmipaaGreat.lessI n A z x y = Go.Proofs.YtciidkmonfmipaaGreat.lessI n K z x y := by
  unfold Go.Proofs.YtciidkmonfmipaaGreat.lessI
  refine List.filter_congr (fun i hi => ?_)
  obtain ⟨e1, e2, e3⟩ := h.ref (List.mem_range.1 hi)
  unfold isK
  rw [e1, e2, e3]
theorem OwnKs.sameK {w : World} {B b n : Nat} {K A : Nat → Kp} (h : OwnKs w B b n K A) {i : Nat} (hi : i < n) : (A i).z = (K i).z ∧ (A i).x = (K i).x ∧ (A i).y = (K i).y ∧ (A i).fn = (K i).fn ∧ (A i).m = (K i).m ∧ (A i).I = (K i).I ∧ ∀ j, j < (A i).fn → ((A i).F j).same ((K i).F j) := by
  obtain ⟨⟨e1, e2, e3⟩, ⟨fb, _, e4, _, hF⟩, ib, _, e5, _, e6, _⟩ := (h.2.2 i hi).2
  exact ⟨e1, e2, e3, e4, e5, e6, fun j hj => (hF.2.2.2 j (by omega)).1⟩
theorem CaNew.of_same {w : World} {B : Nat} {a : Option Addr} {n : Nat} {K K' R : Nat → Kp} (h : CaNew w B a n K R) (hs : ∀ i, i < n → (K i).z = (K' i).z ∧ (K i).x = (K' i).x ∧ (K i).y = (K' i).y ∧ (K i).fn = (K' i).fn ∧ (K i).m = (K' i).m ∧ (K i).I = (K' i).I ∧ ∀ j, j < (K i).fn → ((K i).F j).same ((K' i).F j)) : CaNew w B a n K' R := by
  refine h.imp id (fun ⟨g, M, e, hB, hA, hT, hg, hM, hMn⟩ => ⟨g, M, e, hB, fun j hj => ?_, hT, hg, fun j hj => ⟨(hM j hj).1, ?_⟩, hMn⟩)
  · have := hA j hj
    rw [if_pos hj] at this ⊢
    exact this
  · obtain ⟨_, ⟨a1, a2, a3⟩, h2, h3, h4, md, h5, h6, ⟨f1, f2, f3⟩, h8⟩ := hM j hj
    obtain ⟨e1, e2, e3, e4, e5, e6, e7⟩ := hs j hj
    refine ⟨⟨a1.trans e1, a2.trans e2, a3.trans e3⟩, h2.trans e4, h3.trans e5, h4.trans e6, md, h5, h6, ⟨by rw [← e4]; exact f1, fun i hi => ⟨Feat.same_trans (f2 i (by omega)).1 (e7 i (by omega)), (f2 i (by omega)).2⟩, by rw [← e4]; exact f3⟩, ?_⟩
    rw [← e5, ← e6]
    exact h8
theorem spec_tk (s : Int) (n : Nat) (K : Nat → Kp) (z x y : Int) (W : World) (C b : Nat) (A : Nat → Kp) (hO : OwnKs W C b n K A) (hS : SmallKs n K) :
    Calls Tryz.prog 22 #[caV s (.slice (some ⟨b, 0, none⟩) n n), refV z x y] W fun e w' => ∃ a c R, e = .returned (crcV (withC s n K z x y) (tkS s n K z x y) (.slice a (tkN s n K z x y) c)) ∧ (∀ V, MidB 0 W.heap.size w' V → KsSm V a (tkN s n K z x y) (tkK n K z x y) R) ∧ Below W.heap.size W w' := by
  have h := spec_TakeTile_any s b n n A z x y W hO.ko (hO.small hS)
  rw [hO.withC, hO.lessI] at h
  refine h.mono ?_
  rintro e w' ⟨h1, h2, h3⟩
  by_cases hc : withC s n K z x y = 0
  · obtain ⟨a, c, R, rfl, hK⟩ := h2 hc
    refine ⟨a, c, R, ?_, ?_, h3⟩
    · unfold tkS tkN; rw [if_pos hc, if_pos hc, hc]
    · unfold tkN; rw [if_pos hc]; exact fun V hV => (hK V hV).of_same (fun i hi => hO.sameK (lessI_get hi))
  · refine ⟨none, 0, K, ?_, fun V _ => .inl ?_, h3⟩
    · rw [h1 hc]; unfold tkS tkN; rw [if_neg hc, if_neg hc]
    · unfold tkN; rw [if_neg hc]
theorem impl_tk (s : Int) (n : Nat) (K : Nat → Kp) (z x y : Int) (W : World) (C b : Nat) (A : Nat → Kp) (hO : OwnKs W C b n K A) (hS : SmallKs n K) (hI : I64 z ∧ I64 x ∧ I64 y) :
    Calls Tryz.prog 23 #[caV s (.slice (some ⟨b, 0, none⟩) n n), refV z x y] W fun e w' => ∃ a c R, e = .returned (crcV (withC s n K z x y) (tkS s n K z x y) (.slice a (tkN s n K z x y) c)) ∧ CaNew w' W.heap.size a (tkN s n K z x y) (tkK n K z x y) R ∧ Below W.heap.size W w' := by
  have h := impl_TakeTile_any s b n n A z x y W hO.ko (hO.small hS) hO.caps (Nat.le_refl _) hI
  rw [hO.withC, hO.lessI] at h
  refine h.mono ?_
  rintro e w' ⟨h1, h2, h3⟩
  by_cases hc : withC s n K z x y = 0
  · obtain ⟨a, c, R, rfl, hK⟩ := h2 hc
    refine ⟨a, c, R, ?_, ?_, h3⟩
    · unfold tkS tkN; rw [if_pos hc, if_pos hc, hc]
    · unfold tkN; rw [if_pos hc]; exact hK.of_same (fun i hi => hO.sameK (lessI_get hi))
  · refine ⟨none, 0, K, ?_, .inl ?_, h3⟩
    · rw [h1 hc]; unfold tkS tkN; rw [if_neg hc, if_neg hc]
    · unfold tkN; rw [if_neg hc]
end Go.Proofs.YtciidkmonfmipaaGreat
