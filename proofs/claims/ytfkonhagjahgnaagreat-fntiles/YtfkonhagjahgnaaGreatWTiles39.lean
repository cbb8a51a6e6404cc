/- Texts. -/
import Derived.Test.YtfkonhagjahgnaaGreatWTiles38
import Derived.Test.YtfkonhagjahgnaaGreatWTiles17
set_option linter.unusedSimpArgs false
set_option linter.unusedVariables false
set_option maxRecDepth 100000
set_option maxHeartbeats 32000000
namespace Go.Proofs.YtfkonhagjahgnaaGreat
open Go.RowKit
theorem featC_again {id la ki wi : Int} {n m : Nat} {X Y X' Y' : Nat → Int} {lab : ByteArray} {pr : Int} (h : featC id la ki wi n X Y lab pr = 0) (hk : kindN ki m) (hm : m ≤ 12) (hin : ∀ i,inW (X' i) (Y' i) = true) : featC id la ki wi m X' Y' lab pr = 0 := by
 unfold featC at h ⊢
 split at h
 ·rename_i h1
  rw [if_pos h1]
  split at h
  ·split at h
   ·split at h
    ·rename_i h4
     have hs : sizeB ki (m : Int) = true := by
      rcases hk with ⟨rfl,rfl⟩ | ⟨rfl,h2⟩ | ⟨rfl,h2⟩
      ·decide
      ·simp [sizeB,inB]; omega
      ·simp [sizeB,inB]; omega
     have hp : ptsIn m X' Y' = true := decide_eq_true (fun i _ => hin i)
     rw [if_pos hs,if_pos hp,if_pos h4]
    ·cases h
   ·cases h
  ·cases h
 ·cases h
end Go.Proofs.YtfkonhagjahgnaaGreat
