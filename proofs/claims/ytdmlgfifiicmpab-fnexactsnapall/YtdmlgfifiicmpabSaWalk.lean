/- The law of SnapAll returns true at every list and every number. -/
import Derived.Test.YtdmlgfifiicmpabSi
import Derived.Test.YtdmlgfifiicmpabSnapAllLaw
namespace Go.Proofs.Ytdmlgfifiicmpab
open Go.RowKit
set_option linter.unusedVariables false

theorem FnExactSnapAll_walk (a : Option Addr) (n cap : Nat) (X Y : Nat → Int) (z : Int) (w : World) (h : IsPts w a n X Y ∧ n ≤ cap ∧ cap ≤ maxLen) :
    Calls Try.prog 4 #[.slice a n cap, .int .i64 z] w fun e w' => e = .returned (.bool true) ∧ Below w.heap.size w w' := by
  obtain ⟨hpt, hcap, hmx⟩ := h
  by_cases hbig : 1048576 < n
  · exact FnExactSnapAll_big z a n cap w hbig (Nat.le_trans hcap hmx)
  · have hn : n ≤ 1048576 := by omega
    have hl : (snapR z n X Y).length ≤ 1048576 := by
      unfold snapR
      split
      · exact Nat.le_trans (snapL_len X Y z n) hn
      · exact Nat.zero_le _
    exact FnExactSnapAll_law (snapC z n X Y) z a n cap (snapR z n X Y).length X Y (px (snapR z n X Y)) (py (snapR z n X Y)) w hpt hn hl
      (fun b w hp hb => (spec_SnapAll_any b n n X Y z w hp hb hn).mono fun e w' ⟨v, he, hr, hbl⟩ => ⟨v, he, hr.own, hbl⟩)
      (fun b w hp hb => (impl_SnapAll_any b n n X Y z w hp hb hn).mono fun e w' ⟨v, he, hr, hbl⟩ => ⟨v, he, hr.own, hbl⟩)
end Go.Proofs.Ytdmlgfifiicmpab
