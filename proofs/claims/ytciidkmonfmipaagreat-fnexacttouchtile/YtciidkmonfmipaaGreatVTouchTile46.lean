/- TouchTile: what both sides answer, said over the cache that came in. -/
import Derived.Test.YtciidkmonfmipaaGreatVTouchTile42
import Derived.Test.YtciidkmonfmipaaGreatVTouchTile45
import Derived.Test.YtciidkmonfmipaaGreatVTouchTile40
namespace Go.Proofs.YtciidkmonfmipaaGreat
open Go.RowKit
set_option linter.unusedSimpArgs false
set_option linter.unusedVariables false
set_option maxRecDepth 100000

noncomputable def toN (s : Int) (n : Nat) (K : Nat → Kp) (z x y : Int) : Nat := if withC s n K z x y = 0 then (touI n K z x y).length else 0
def toK (n : Nat) (K : Nat → Kp) (z x y : Int) : Nat → Kp := fun j => K ((touI n K z x y).getD j 0)
theorem withC_at {s : Int} {n : Nat} {K : Nat → Kp} {z x y : Int} (h : withC s n K z x y = 0) : 0 ≤ atK n K z x y ∧ n ≤ 10 := by
  unfold withC at h
  by_cases h0 : cacheC s n K = 0
  · rw [if_pos h0] at h
    refine ⟨?_, ?_⟩
    · by_cases ha : 0 ≤ atK n K z x y
      · exact ha
      · rw [if_neg ha] at h; cases h
    · unfold cacheC at h0
      split at h0
      · rename_i hin
        split at h0
        · cases h0
        · simp [inB] at hin
          omega
      · cases h0
  · rw [if_neg h0] at h; exact absurd h h0
theorem touI_get {s : Int} {n : Nat} {K : Nat → Kp} {z x y : Int} {j : Nat} (hc : withC s n K z x y = 0) (hj : j < (touI n K z x y).length) : (touI n K z x y).getD j 0 < n := by
  rw [List.getD_eq_getElem?_getD, List.getElem?_eq_getElem hj]
  have hm := List.getElem_mem hj
  have ha := (withC_at hc).1
  show (touI n K z x y)[j] < n
  generalize (touI n K z x y)[j] = v at *
  unfold touI at hm
  rcases List.mem_append.1 hm with h | h
  · exact lessI_mem h
  · rcases atK_or n K z x y with e | ⟨i, hi, e, _⟩
    · rw [e] at ha; omega
    · have h' := List.mem_singleton.1 h
      rw [e] at h'
      omega
theorem toK_small {s : Int} {n : Nat} {K : Nat → Kp} (z x y : Int) (h : SmallKs n K) : SmallKs (toN s n K z x y) (toK n K z x y) := by
  have hl := lessI_len n K z x y
  unfold toN
  split
  · rename_i hc
    have := (withC_at hc).2
    refine ⟨?_, fun i hi => h.2 _ (touI_get hc hi)⟩
    unfold touI
    rw [List.length_append]
    simp
    omega
  · exact ⟨Nat.zero_le _, fun i hi => by omega⟩
theorem OwnKs.touI {w : World} {B b n : Nat} {K A : Nat → Kp} (h : OwnKs w B b n K A) (z x y : Int) : Go.Proofs.YtciidkmonfmipaaGreat.touI n A z x y = Go.Proofs.YtciidkmonfmipaaGreat.touI n K z x y := by
  unfold Go.Proofs.YtciidkmonfmipaaGreat.touI
  rw [h.lessI, h.atK z x y n (Nat.le_refl _)]
theorem spec_to (s : Int) (n : Nat) (K : Nat → Kp) (z x y : Int) (W : World) (C b : Nat) (A : Nat → Kp) (hO : OwnKs W C b n K A) (hS : SmallKs n K) :
    Calls Tryz.prog 19 #[caV s (.slice (some ⟨b, 0, none⟩) n n), refV z x y] W fun e w' => ∃ a c R, e = .returned (crcV (withC s n K z x y) (tkS s n K z x y) (.slice a (toN s n K z x y) c)) ∧ (∀ V, MidB 0 W.heap.size w' V → KsSm V a (toN s n K z x y) (toK n K z x y) R) ∧ Below W.heap.size W w' := by
  have h := spec_TouchTile_any s b n n A z x y W hO.ko (hO.small hS)
  rw [hO.withC, hO.touI] at h
  refine h.mono ?_
  rintro e w' ⟨h1, h2, h3⟩
  by_cases hc : withC s n K z x y = 0
  · obtain ⟨a, c, R, rfl, hK⟩ := h2 hc
    refine ⟨a, c, R, ?_, ?_, h3⟩
    · unfold tkS toN; rw [if_pos hc, if_pos hc, hc]
    · unfold toN; rw [if_pos hc]; exact fun V hV => (hK V hV).of_same (fun i hi => hO.sameK (touI_get hc hi))
  · refine ⟨none, 0, K, ?_, fun V _ => .inl ?_, h3⟩
    · rw [h1 hc]; unfold tkS toN; rw [if_neg hc, if_neg hc]
    · unfold toN; rw [if_neg hc]
theorem impl_to (s : Int) (n : Nat) (K : Nat → Kp) (z x y : Int) (W : World) (C b : Nat) (A : Nat → Kp) (hO : OwnKs W C b n K A) (hS : SmallKs n K) (hI : I64 z ∧ I64 x ∧ I64 y) :
    Calls Tryz.prog 21 #[caV s (.slice (some ⟨b, 0, none⟩) n n), refV z x y] W fun e w' => ∃ a c R, e = .returned (crcV (withC s n K z x y) (tkS s n K z x y) (.slice a (toN s n K z x y) c)) ∧ CaNew w' W.heap.size a (toN s n K z x y) (toK n K z x y) R ∧ Below W.heap.size W w' := by
  have h := impl_TouchTile_any s b n n A z x y W hO.ko (hO.small hS) hO.caps (Nat.le_refl _) hI
  rw [hO.withC, hO.touI] at h
  refine h.mono ?_
  rintro e w' ⟨h1, h2, h3⟩
  by_cases hc : withC s n K z x y = 0
  · obtain ⟨a, c, R, rfl, hK⟩ := h2 hc
    refine ⟨a, c, R, ?_, ?_, h3⟩
    · unfold tkS toN; rw [if_pos hc, if_pos hc, hc]
    · unfold toN; rw [if_pos hc]; exact hK.of_same (fun i hi => hO.sameK (touI_get hc hi))
  · refine ⟨none, 0, K, ?_, .inl ?_, h3⟩
    · rw [h1 hc]; unfold tkS toN; rw [if_neg hc, if_neg hc]
    · unfold toN; rw [if_neg hc]
end Go.Proofs.YtciidkmonfmipaaGreat
