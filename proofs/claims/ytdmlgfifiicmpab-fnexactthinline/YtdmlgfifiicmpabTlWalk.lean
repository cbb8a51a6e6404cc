/- The law of ThinLine returns true at every list and every number. -/
import Derived.Test.YtdmlgfifiicmpabTh9
import Derived.Test.YtdmlgfifiicmpabThinLineLaw
namespace Go.Proofs.Ytdmlgfifiicmpab
open Go.RowKit
set_option linter.unusedVariables false

theorem FnExactThinLine_walk (a : Option Addr) (n cap : Nat) (X Y : Nat → Int) (r : Int) (w : World) (h : IsPts w a n X Y ∧ n ≤ cap ∧ cap ≤ maxLen) :
    Calls Try.prog 5 #[.slice a n cap, .int .i64 r] w fun e w' => e = .returned (.bool true) ∧ Below w.heap.size w w' := by
  obtain ⟨hpt, hcap, hmx⟩ := h
  by_cases hbig : 1048576 < n
  · exact FnExactThinLine_big r a n cap w hbig (Nat.le_trans hcap hmx)
  · have hn : n ≤ 1048576 := by omega
    obtain ⟨L, hL⟩ : ∃ L, 3 ≤ n → Thin X Y r 0 (n - 1) L := by
      by_cases h3 : 3 ≤ n
      · obtain ⟨L, hL⟩ := Thin.exists X Y r (n - 1) 0 (n - 1) (by omega) (by omega)
        exact ⟨L, fun _ => hL⟩
      · exact ⟨[], fun h => absurd h h3⟩
    have hl : (thinR r n X Y L).length ≤ 1048576 := by
      unfold thinR
      split
      · unfold ptsOf thinP
        rw [List.length_map]
        split
        · simp; omega
        · have := ((hL (by omega)).len X Y (by omega)).1
          simp
          omega
      · exact Nat.zero_le _
    exact FnExactThinLine_law (thinC r n X Y) r a n cap (thinR r n X Y L).length X Y (px (thinR r n X Y L)) (py (thinR r n X Y L)) w hpt hn hl
      (fun b w hp hb => (spec_ThinLine_any b n n X Y r L w hp hb hn (Nat.le_refl _) hL).mono fun e w' ⟨v, he, hr, hbl⟩ => ⟨v, he, hr.own, hbl⟩)
      (fun b w hp hb => (impl_ThinLine_any b n n X Y r L w hp hb hn (Nat.le_refl _) hL).mono fun e w' ⟨v, he, hr, hbl⟩ => ⟨v, he, hr.own, hbl⟩)
end Go.Proofs.Ytdmlgfifiicmpab
