/- The law of FoldNumber returns true at every number. -/
import Derived.Test.YtdkjbfppogdokaaFo
namespace Go.Proofs.Ytdkjbfppogdokaa
open Go.RowKit
set_option linter.unusedSimpArgs false
set_option linter.unusedVariables false

theorem FnExactFoldNumber_walk (z : Int) (w : World) :
    Calls Try.prog 6 #[.int .i64 z] w fun e w' => e = .returned (.bool true) ∧ Below w.heap.size w w' := by
  obtain ⟨c, v, hv⟩ : ∃ c v : Int, foldV z = .agg #[.int .i64 c, .int .i64 v] := by
    unfold foldV
    split
    · exact ⟨_, _, rfl⟩
    · exact ⟨_, _, rfl⟩
  have s1 := fun w => spec_FoldNumber_any z w
  have s2 := fun w => impl_FoldNumber_any z w
  simp only [hv] at s1 s2
  go_enter Try.func6, Try.ntmps6
  go_wp2_with (first
    | (go_at_call 26; refine (s1 _).mono ?_; rintro e w1 ⟨rfl, hb1⟩; obtain ⟨hc1, hf1, hl1⟩ := bcell3 hb1)
    | (go_at_call 16; refine (s2 _).mono ?_; rintro e w2 ⟨rfl, hb2⟩; obtain ⟨hc2, hf2, hl2⟩ := bcell3 hb2)
    | (go_at_call 27; refine (eqIntResult_any _ _ _).mono ?_; rintro e w3 ⟨rfl, hb3⟩))
  go_ret
  exact ⟨rfl, by (repeat (first | exact Below.refl _ _ | assumption | refine Below.drew ?_ | refine bl_alloc ?_ _ | refine bl_then ?_ (by assumption) | refine Below.setCell ?_ (by first | omega | (simp; done) | (simp; omega)) _ | refine bl_store ?_ ?_ _ _))⟩
end Go.Proofs.Ytdkjbfppogdokaa
