/- The law of PackFeature returns true at every feature. -/
import Derived.Test.YtkadkpdcjccnbabPi
import Derived.Test.YtkadkpdcjccnbabPackFeatureLaw
namespace Go.Proofs.Ytkadkpdcjccnbab
open Go.RowKit
set_option linter.unusedVariables false

theorem pfL_len (id la ki wi : Int) (n : Nat) (X Y : Nat → Int) (lab : ByteArray) (pr : Int) : (pfL id la ki wi n X Y lab pr).length ≤ 1048576 := by
  unfold pfL
  split
  · rename_i h0
    obtain ⟨i, l, k, v, p, rfl, rfl, rfl, rfl, rfl, g1, g2, g3, g4, g5, gn, gn', hin, hs⟩ := feat_ok h0
    exact Nat.le_trans (featL_len gn' hin hs (by omega) (by omega) (by omega) (by omega) (by omega)) (by omega)
  · simp

theorem FnExactPackFeature_walk (id la ki wi : Int) (a : Option Addr) (n cap : Nat) (X Y : Nat → Int) (lab : ByteArray) (pr : Int) (w : World) (h : IsPts w a n X Y ∧ n ≤ cap ∧ cap ≤ maxLen ∧ lab.size ≤ maxLen) :
    Calls Try.prog 6 #[.agg #[.int .i64 id, .int .i64 la, .int .i64 ki, .int .i64 wi, .slice a n cap, .string lab, .int .i64 pr]] w fun e w' => e = .returned (.bool true) ∧ Below w.heap.size w w' := by
  obtain ⟨hpt, hcap, hmx, hls⟩ := h
  by_cases hbig : 1048576 < n + lab.size
  · exact FnExactPackFeature_big id la ki wi lab pr a n cap w hbig (Nat.le_trans hcap hmx) hls
  · have hn : n ≤ 1048576 := by omega
    have hl : lab.size ≤ 1048576 := by omega
    exact FnExactPackFeature_law (featC id la ki wi n X Y lab pr) id la ki wi lab pr a n cap (pfL id la ki wi n X Y lab pr).length X Y (zz (pfL id la ki wi n X Y lab pr)) w hpt (by omega) (pfL_len id la ki wi n X Y lab pr)
      (fun b w hp hb => (spec_PackFeature_any id la ki wi b n X Y lab pr w hp hb hl hn).mono fun e w' ⟨v, he, hr, hbl⟩ => ⟨v, he, hr.own, hbl⟩)
      (fun b w hp hb => (impl_PackFeature_any id la ki wi b n X Y lab pr w hp hb hl hn).mono fun e w' ⟨v, he, hr, hbl⟩ => ⟨v, he, hr.own, hbl⟩)
end Go.Proofs.Ytkadkpdcjccnbab
