/- Texts. -/
import Derived.Test.YtfkonhagjahgnaaGreatWTiles19
set_option linter.unusedSimpArgs false
set_option linter.unusedVariables false
set_option maxRecDepth 100000
set_option maxHeartbeats 32000000
namespace Go.Proofs.YtfkonhagjahgnaaGreat
open Go.RowKit
theorem feat_ok {id la ki wi : Int} {n : Nat} {X Y : Nat → Int} {lab : ByteArray} {pr : Int} (h : featC id la ki wi n X Y lab pr = 0) :
  ∃ i l k v p : Nat,id = (i : Int) ∧ la = (l : Int) ∧ ki = (k : Int) ∧ wi = (v : Int) ∧ pr = (p : Int) ∧ i ≤ 999 ∧ l ≤ 999 ∧ k ≤ 999 ∧ v ≤ 999 ∧ p ≤ 999 ∧ 0 < n ∧ n ≤ 12 ∧ Near n X Y ∧ lab.size ≤ 6 := by
 unfold featC at h
 split at h
 ·rename_i h1
  split at h
  ·rename_i h2
   split at h
   ·rename_i h3
    split at h
    ·rename_i h4
     simp [rngB,inB] at h1
     simp [ptsIn,inW,inB] at h3
     simp [labB] at h4
     have hn : 0 < n ∧ n ≤ 12 := by
      unfold sizeB at h2
      split at h2
      ·simp at h2; omega
      ·split at h2 <;> (simp [inB] at h2; omega)
     refine ⟨id.toNat,la.toNat,ki.toNat,wi.toNat,pr.toNat,by omega,by omega,by omega,by omega,by omega,by omega,by omega,by omega,by omega,by omega,hn.1,hn.2,fun i hi => ?_,h4.1⟩
     have := h3 i hi
     omega
    ·omega
   ·omega
  ·omega
 ·omega
end Go.Proofs.YtfkonhagjahgnaaGreat
