/- Several texts in one. -/
import Derived.Test.YtefcecnlgbeclaaVSumTile19
import Derived.Test.YtefcecnlgbeclaaVSumTile4

/- A feature told as bytes: the program's way. -/

namespace Go.Proofs.Ytefcecnlgbeclaa
open Go.RowKit
set_option linter.unusedSimpArgs false
set_option linter.unusedVariables false
set_option maxRecDepth 100000

/-- The bytes of PackFeature; its code is the fault. -/
def pfL (id la ki wi : Int) (n : Nat) (X Y : Nat → Int) (lab : ByteArray) (pr : Int) : List Int :=
  if featC id la ki wi n X Y lab pr = 0 then featL id.toNat la.toNat ki.toNat wi.toNat pr.toNat lab n X Y else []
/-- What a feature without a fault has. -/
theorem feat_ok {id la ki wi : Int} {n : Nat} {X Y : Nat → Int} {lab : ByteArray} {pr : Int} (h : featC id la ki wi n X Y lab pr = 0) :
    ∃ i l k v p : Nat, id = (i : Int) ∧ la = (l : Int) ∧ ki = (k : Int) ∧ wi = (v : Int) ∧ pr = (p : Int) ∧ i ≤ 999 ∧ l ≤ 999 ∧ k ≤ 999 ∧ v ≤ 999 ∧ p ≤ 999 ∧ 0 < n ∧ n ≤ 12 ∧ Near n X Y ∧ lab.size ≤ 6 := by
  unfold featC at h
  split at h
  · rename_i h1
    split at h
    · rename_i h2
      split at h
      · rename_i h3
        split at h
        · rename_i h4
          simp [rngB, inB] at h1
          simp [ptsIn, inW, inB] at h3
          simp [labB] at h4
          have hn : 0 < n ∧ n ≤ 12 := by
            unfold sizeB at h2
            split at h2
            · simp at h2; omega
            · split at h2 <;> (simp [inB] at h2; omega)
          refine ⟨id.toNat, la.toNat, ki.toNat, wi.toNat, pr.toNat, by omega, by omega, by omega, by omega, by omega, by omega, by omega, by omega, by omega, by omega, hn.1, hn.2, fun i hi => ?_, h4.1⟩
          have := h3 i hi
          omega
        · omega
      · omega
    · omega
  · omega

end Go.Proofs.Ytefcecnlgbeclaa
/- szPointS counts the points. -/

namespace Go.Proofs.Ytefcecnlgbeclaa
open Go.RowKit
set_option linter.unusedSimpArgs false
set_option linter.unusedVariables false

theorem szPointS_big (a : Option Addr) (n cap : Nat) (w : World) (hn : 1048576 < n) (hm : n ≤ maxLen) :
    Calls Try.prog 115 #[.slice a n cap, .int .i64 1048576] w fun e w' => e = .returned (.int .i64 (-1)) ∧ w' = w := by
  unfold maxLen at hm
  have hneg : (1048576 : Int) - (n : Int) < 0 := by omega
  go_enter Try.func115, Try.ntmps115
  go_wp2
  go_ret
  exact ⟨rfl, rfl⟩
theorem szPointS_small (a : Option Addr) (n cap : Nat) (w : World) (hn : n ≤ 1048576) :
    Calls Try.prog 115 #[.slice a n cap, .int .i64 1048576] w fun e w' => e = .returned (.int .i64 (1048576 - (n : Int))) ∧ w' = w := by
  have hneg : ¬ (1048576 : Int) - (n : Int) < 0 := by omega
  go_enter Try.func115, Try.ntmps115
  go_wp2
  go_ret
  exact ⟨rfl, rfl⟩

end Go.Proofs.Ytefcecnlgbeclaa
