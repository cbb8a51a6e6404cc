/- The law of SimpleAt returns true at every feature and every number. -/
import Derived.Test.YtdmlgfifiicmpabSq
import Derived.Test.YtdmlgfifiicmpabSimpleAtLaw
namespace Go.Proofs.Ytdmlgfifiicmpab
open Go.RowKit
set_option linter.unusedVariables false

theorem simpR_len (C ki z : Int) (n : Nat) (X Y : Nat → Int) (L : List Nat) (hk : C = 0 → ki = 1 ∨ ki = 2 ∨ ki = 3) (hT : C = 0 → (simpT ki z n X Y L).length ≤ 12) : (simpR C ki z n X Y L).length ≤ 1048576 := by
  unfold simpR
  split
  · rename_i h
    have h1 := hT h
    have h2 := hk h
    unfold fillL
    rw [List.length_append, List.length_replicate]
    omega
  · exact Nat.zero_le _

theorem FnExactSimpleAt_walk (id la ki wi : Int) (a : Option Addr) (n cap : Nat) (X Y : Nat → Int) (lab : ByteArray) (pr : Int) (z : Int) (w : World) (h : IsPts w a n X Y ∧ n ≤ cap ∧ cap ≤ maxLen ∧ lab.size ≤ maxLen) :
    Calls Try.prog 6 #[.agg #[.int .i64 id, .int .i64 la, .int .i64 ki, .int .i64 wi, .slice a n cap, .string lab, .int .i64 pr], .int .i64 z] w fun e w' => e = .returned (.bool true) ∧ Below w.heap.size w w' := by
  obtain ⟨hpt, hcap, hmx, hls⟩ := h
  by_cases hbig : 1048576 < n + lab.size
  · exact FnExactSimpleAt_big z id la ki wi lab pr a n cap w hbig (Nat.le_trans hcap hmx) hls
  · have hn : n ≤ 1048576 := by omega
    have hl : lab.size ≤ 1048576 := by omega
    obtain ⟨L, hL⟩ : ∃ L, 3 ≤ (snapL X Y z n).length → Thin (px (snapL X Y z n)) (py (snapL X Y z n)) (gridI z) 0 ((snapL X Y z n).length - 1) L := by
      by_cases h3 : 3 ≤ (snapL X Y z n).length
      · obtain ⟨L, hL⟩ := Thin.exists (px (snapL X Y z n)) (py (snapL X Y z n)) (gridI z) ((snapL X Y z n).length - 1) 0 ((snapL X Y z n).length - 1) (by omega) (by omega)
        exact ⟨L, fun _ => hL⟩
      · exact ⟨[], fun h => absurd h h3⟩
    obtain ⟨C, hC⟩ : ∃ C, C = simpC z (featC id la ki wi n X Y lab pr) := ⟨_, rfl⟩
    have hC0 : C = 0 → featC id la ki wi n X Y lab pr = 0 := fun h => by
      rw [hC] at h
      unfold simpC at h
      split at h
      · exact h
      · omega
    have hR : (simpR C ki z n X Y L).length ≤ 1048576 := simpR_len C ki z n X Y L (fun h => (featC_zero (hC0 h)).1) (fun h => by
      obtain ⟨_, h0, h12, _⟩ := featC_zero (hC0 h)
      exact (simpT_len ki z n X Y L h0 h12 hL).2)
    exact FnExactSimpleAt_law C (zI C id) (zI C la) (zI C ki) (zI C wi) (zS C lab) (zI C pr) z id la ki wi lab pr a n cap (simpR C ki z n X Y L).length X Y (px (simpR C ki z n X Y L)) (py (simpR C ki z n X Y L)) w hpt (by omega) hR
      (fun b w hp hb => (spec_SimpleAt_any id la ki wi z b n n X Y lab pr L w hp hb hn (Nat.le_refl _) hl hL C hC).mono fun e w' ⟨v, he, hr, hbl⟩ => ⟨v, he, hr.own, hbl⟩)
      (fun b w hp hb => (impl_SimpleAt_any id la ki wi z b n n X Y lab pr L w hp hb hn (Nat.le_refl _) hl hL C hC).mono fun e w' ⟨v, he, hr, hbl⟩ => ⟨v, he, hr.own, hbl⟩)
end Go.Proofs.Ytdmlgfifiicmpab
