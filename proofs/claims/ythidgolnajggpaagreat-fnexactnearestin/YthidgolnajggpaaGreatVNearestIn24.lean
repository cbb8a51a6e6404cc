/- Several texts in one. -/
import Derived.Test.YthidgolnajggpaaGreatVNearestIn8
import Derived.Test.YthidgolnajggpaaGreatVNearestIn23
import Derived.Test.YthidgolnajggpaaGreatVNearestIn9
import Derived.Test.YthidgolnajggpaaGreatVNearestIn6
import Derived.WalkKit
import Derived.Test.YthidgolnajggpaaGreatRows
import Derived.Test.YthidgolnajggpaaGreatVNearestIn1
import Derived.Test.YthidgolnajggpaaGreatVNearestIn2
import Derived.WalkSpells
import Derived.WalkLawsBesides
import Derived.Outline

/- The fault of a list of features: the program and the model. -/

namespace Go.Proofs.YthidgolnajggpaaGreat
open Go.RowKit
set_option linter.unusedSimpArgs false
set_option linter.unusedVariables false
set_option maxRecDepth 100000

/-- What is not right of one feature of a list. -/
noncomputable def codeAt (G : Nat → Feat) (i : Nat) : Int := by
  classical exact if featC (G i).id (G i).la (G i).ki (G i).wi (G i).n (G i).X (G i).Y (G i).lab (G i).pr ≠ 0 then featC (G i).id (G i).la (G i).ki (G i).wi (G i).n (G i).X (G i).Y (G i).lab (G i).pr else if ∃ j, j < i ∧ (G j).id = (G i).id then 6 else 0
noncomputable def featsC (n : Nat) (G : Nat → Feat) : Int := if 12 < n then 2 else scanC (codeAt G) 0 n
theorem codeAt_fault {G : Nat → Feat} {i : Nat} (h : featC (G i).id (G i).la (G i).ki (G i).wi (G i).n (G i).X (G i).Y (G i).lab (G i).pr ≠ 0) : codeAt G i = featC (G i).id (G i).la (G i).ki (G i).wi (G i).n (G i).X (G i).Y (G i).lab (G i).pr := by unfold codeAt; rw [if_pos h]
theorem codeAt_taken {G : Nat → Feat} {i : Nat} (h : featC (G i).id (G i).la (G i).ki (G i).wi (G i).n (G i).X (G i).Y (G i).lab (G i).pr = 0) (h2 : ∃ j, j < i ∧ (G j).id = (G i).id) : codeAt G i = 6 := by unfold codeAt; rw [if_neg (by simp [h]), if_pos h2]
theorem codeAt_ok {G : Nat → Feat} {i : Nat} (h : featC (G i).id (G i).la (G i).ki (G i).wi (G i).n (G i).X (G i).Y (G i).lab (G i).pr = 0) (h2 : ¬ ∃ j, j < i ∧ (G j).id = (G i).id) : codeAt G i = 0 := by unfold codeAt; rw [if_neg (by simp [h]), if_neg h2]
theorem codeAt_same {G H : Nat → Feat} {n i : Nat} (h : ∀ j, j < n → (G j).same (H j)) (hi : i < n) : codeAt G i = codeAt H i := by
  obtain ⟨s1, s2, s3, s4, s5, s6, s7, s8, s9⟩ := h i hi
  have e : (∃ j, j < i ∧ (G j).id = (G i).id) ↔ (∃ j, j < i ∧ (H j).id = (H i).id) := by
    constructor
    · rintro ⟨j, hj, e⟩; exact ⟨j, hj, by rw [← (h j (by omega)).1, ← s1]; exact e⟩
    · rintro ⟨j, hj, e⟩; exact ⟨j, hj, by rw [(h j (by omega)).1, s1]; exact e⟩
  unfold codeAt
  rw [s1, s2, s3, s4, s5, s6, s7, s8, s9]
  rw [s1] at e
  simp only [e]
theorem featsC_same {G H : Nat → Feat} {n : Nat} (h : ∀ j, j < n → (G j).same (H j)) : featsC n G = featsC n H := by
  unfold featsC
  rw [scan_congr (codeAt G) (codeAt H) n 0 (fun j _ hj => codeAt_same h (by omega))]

set_option maxHeartbeats 4000000 in
theorem l2Many_any (b n cap : Nat) (G : Nat → Feat) (w : World) (hg : FsAt w b 0 n G) (hbl : b < w.heap.size) (hs : SmallFs n G) :
    Calls Tryz.prog 71 #[.slice (some ⟨b, 0, none⟩) n cap] w fun e w' => e = .returned (.int .i64 (featsC n G)) ∧ Below w.heap.size w w' := by
  have HG : Hid (FsAt w b 0 n G) := hg
  have HS : Hid (SmallFs n G) := hs
  have hn := hs.1
  clear hg hs
  by_cases h12 : (12 : Int) < n
  · have hz : Hid (featsC n G = 2) := by show _ = _; unfold featsC; rw [if_pos (by omega)]
    go_enter Tryz.func71, Tryz.ntmps71
    go_wp2
    go_ret
    exact ⟨ret_int hz.out.symm, by (repeat (first | exact Below.refl _ _ | assumption | refine Below.drew ?_ | refine bl_alloc ?_ _ | refine bl_then ?_ (by assumption) | refine Below.setCell ?_ (by first | omega | (simp; done) | (simp; omega)) _ | refine bl_store ?_ ?_ _ _))⟩
  · have hz : Hid (featsC n G = scanC (codeAt G) 0 n) := by show _ = _; unfold featsC; rw [if_neg (by omega)]
    go_enter Tryz.func71, Tryz.ntmps71
    go_wp2
    go_loopw [3] (fun v wr => ∃ k : Nat, k ≤ n ∧ v = .int .i64 k ∧ (∀ j, j < k → codeAt G j = 0) ∧ Below w.heap.size w wr) (fun v _ => n - (intOf v).toNat)
    case atStart => exact ⟨0, by omega, rfl, by omega, Below.refl _ _⟩
    case round =>
      obtain ⟨k, hk, rfl, hA, hB⟩ := hrel
      have HB : Hid (Below w.heap.size w wr) := hB
      have HA : Hid (∀ j, j < k → codeAt G j = 0) := hA
      by_cases hlt : k < n
      · have HGr : Hid (FsAt wr b 0 n G) := HG.out.below hB hbl
        have hblr : b < wr.heap.size := Nat.lt_of_lt_of_le hbl hB.size
        obtain ⟨hF, hP⟩ := HGr.out k hlt
        rw [Nat.zero_add] at hF
        have HF : Hid (FeatAt wr b (k * 7) (G k).id (G k).la (G k).ki (G k).wi (.slice (G k).a (G k).n (G k).cap) (G k).lab (G k).pr) := hF
        have HP : Hid (IsPts wr (G k).a (G k).n (G k).X (G k).Y) := hP
        obtain ⟨z1, z2⟩ := HS.out.2 k hlt
        have HLT : Hid (k < n) := hlt
        clear hB hA hF hP
        have hi : (k : Int) < (n : Int) := by omega
        have hi0 : (0 : Int) ≤ (k : Int) := by omega
        go_wp2_with fail
        refine (l2Fault_any b (k * 7) _ _ _ _ _ _ _ (G k).X (G k).Y _ _ _ HF.out HP.out z2 z1).mono ?_
        rintro e w1 ⟨rfl, hb1⟩
        by_cases hc : featC (G k).id (G k).la (G k).ki (G k).wi (G k).n (G k).X (G k).Y (G k).lab (G k).pr = 0
        · rw [hc]
          have HC : Hid (featC (G k).id (G k).la (G k).ki (G k).wi (G k).n (G k).X (G k).Y (G k).lab (G k).pr = 0) := hc
          have d0 : ∀ W', Below w1.heap.size w1 W' → W'.cell? ⟨b, k * 7, none⟩ = some (.int .i64 (G k).id) := fun W' h => ((HF.out.below hb1 hblr).below h (Nat.lt_of_lt_of_le hblr hb1.size)).1
          have HG1 : Hid (FsAt w1 b 0 n G) := HGr.out.below hb1 hblr
          have hbl1 : b < w1.heap.size := Nat.lt_of_lt_of_le hblr hb1.size
          have HB1 : Hid (Below w.heap.size w w1) := bl_then HB.out hb1
          clear hc hb1
          have hr1 : Below w1.heap.size w1 w1 := Below.refl _ _
          go_wp2_with fail
          refine (l2At_any b n cap G k _ HLT.out HG1.out hbl1 hn).mono ?_
          rintro e w2 ⟨⟨r, hr, hre, hrl, rfl⟩, hb2⟩
          have HB2 : Hid (Below w.heap.size w w2) := bl_then HB1.out hb2
          clear hb2
          by_cases hrk : r = k
          · subst hrk
            have hok : codeAt G r = 0 := codeAt_ok HC.out (fun ⟨j, hj, hje⟩ => hrl j hj hje)
            have HOK : Hid (codeAt G r = 0) := hok
            clear hok hre hrl
            go_wp2
            go_roundw
            case rel => exact ⟨r + 1, by have := HLT.out; omega, by go_num, fun j hj => by
                by_cases e : j = r
                · rw [e]; exact HOK.out
                · exact HA.out j (by omega), HB2.out⟩
            case measure => have := HLT.out; simp [intOf]; omega
          · have hne : (((r : Nat) : Int) == ((k : Nat) : Int)) = false := by simp; omega
            have htk : Hid (codeAt G k = 6) := codeAt_taken HC.out ⟨r, by omega, hre⟩
            have hsc : Hid (featsC n G = 6) := by
              show _ = _
              rw [hz.out, scan_first (codeAt G) n 0 k (fun j _ hj => HA.out j hj) (by omega) (by have := HLT.out; omega) (by rw [htk.out]; decide), htk.out]
            clear hre hrl
            go_wp2
            go_ret
            exact ⟨ret_int hsc.out.symm, HB2.out⟩
        · have hsc : Hid (featsC n G = featC (G k).id (G k).la (G k).ki (G k).wi (G k).n (G k).X (G k).Y (G k).lab (G k).pr) := by
            show _ = _
            have h6 := codeAt_fault hc
            rw [hz.out, scan_first (codeAt G) n 0 k (fun j _ hj => HA.out j hj) (by omega) (by have := HLT.out; omega) (by rw [h6]; exact hc), h6]
          have hcb : (featC (G k).id (G k).la (G k).ki (G k).wi (G k).n (G k).X (G k).Y (G k).lab (G k).pr == 0) = false := by simpa using hc
          have HB1 : Hid (Below w.heap.size w w1) := bl_then HB.out hb1
          clear hc hb1
          go_wp2
          go_ret
          exact ⟨ret_int hsc.out.symm, HB1.out⟩
      · have hsc : Hid (featsC n G = 0) := by
          show _ = _
          rw [hz.out]
          exact scan_none _ _ _ (fun j _ hj => HA.out j (by omega))
        go_wp2
        go_ret
        exact ⟨ret_int hsc.out.symm, HB.out⟩
end Go.Proofs.YthidgolnajggpaaGreat
/- Features as answers: they are compared, marked, and the marks are found again. -/

namespace Go.Proofs.YthidgolnajggpaaGreat
open Go.RowKit
set_option linter.unusedSimpArgs false
set_option linter.unusedVariables false
set_option maxRecDepth 100000

end Go.Proofs.YthidgolnajggpaaGreat
/- The order by layer, of the same by id: places are sorted, and there is one sorted list alone. No program in sight. -/

namespace Go.Proofs.YthidgolnajggpaaGreat

/-- No two places have the same id. -/
def apartK (I : Nat → Int) (n : Nat) : Prop := ∀ i j, i < n → j < n → I i = I j → i = j
end Go.Proofs.YthidgolnajggpaaGreat
/- Rows of features: their cells; two lists of the same features are compared. -/

namespace Go.Proofs.YthidgolnajggpaaGreat
open Go.RowKit
set_option linter.unusedSimpArgs false
set_option linter.unusedVariables false
set_option maxRecDepth 100000

/-- The cells of a feature. -/
def fcell (f : Feat) : List Value := [.int .i64 f.id, .int .i64 f.la, .int .i64 f.ki, .int .i64 f.wi, .slice f.a f.n f.cap, .string f.lab, .int .i64 f.pr]
theorem featsC_ok {n : Nat} {G : Nat → Feat} (h : featsC n G = 0) : n ≤ 12 ∧ apartK (fun i => (G i).id) n ∧ ∀ i, i < n → featC (G i).id (G i).la (G i).ki (G i).wi (G i).n (G i).X (G i).Y (G i).lab (G i).pr = 0 := by
  unfold featsC at h
  by_cases h12 : 12 < n
  · rw [if_pos h12] at h; cases h
  · rw [if_neg h12] at h
    have hz := scan_zero _ _ _ h
    have hA : ∀ i, i < n → featC (G i).id (G i).la (G i).ki (G i).wi (G i).n (G i).X (G i).Y (G i).lab (G i).pr = 0 ∧ ¬ ∃ j, j < i ∧ (G j).id = (G i).id := fun i hi => by
      have := hz i (Nat.zero_le _) (by omega)
      unfold codeAt at this
      by_cases hf : featC (G i).id (G i).la (G i).ki (G i).wi (G i).n (G i).X (G i).Y (G i).lab (G i).pr ≠ 0
      · rw [if_pos hf] at this; exact absurd this hf
      · rw [if_neg hf] at this
        by_cases hj : ∃ j, j < i ∧ (G j).id = (G i).id
        · rw [if_pos hj] at this; cases this
        · exact ⟨by simpa using hf, hj⟩
    refine ⟨by omega, fun i j hi hj e => ?_, fun i hi => (hA i hi).1⟩
    rcases Nat.lt_trichotomy i j with h | h | h
    · exact absurd ⟨i, h, e⟩ (hA j hj).2
    · exact h
    · exact absurd ⟨j, h, e.symm⟩ (hA i hi).2

end Go.Proofs.YthidgolnajggpaaGreat
/- Numbers are compared; only new blocks are laid. -/

namespace Go.Proofs.YthidgolnajggpaaGreat
open Go.RowKit
set_option linter.unusedSimpArgs false
set_option linter.unusedVariables false
set_option maxRecDepth 100000

def cmpI (x y : Int) : Int := if x < y then -1 else if y < x then 1 else 0
theorem cmpCompare_any (x y : Int) (w : World) : Calls Tryz.prog 131 #[.int .i64 x, .int .i64 y] w fun e w' => e = .returned (.int .i64 (cmpI x y)) ∧ w' = w := by
  unfold cmpI
  by_cases h1 : x < y
  · rw [if_pos h1]
    go_enter Tryz.func131, Tryz.ntmps131
    go_wp2
    go_ret
    exact ⟨rfl, rfl⟩
  · rw [if_neg h1]
    by_cases h2 : y < x
    · rw [if_pos h2]
      go_enter Tryz.func131, Tryz.ntmps131
      go_wp2
      go_ret
      exact ⟨rfl, rfl⟩
    · rw [if_neg h2]
      go_enter Tryz.func131, Tryz.ntmps131
      go_wp2
      go_ret
      exact ⟨rfl, rfl⟩
/-- Only new blocks, and draws. -/
def Gro (V W' : World) : Prop := Below V.heap.size V W' ∧ V.drawn ≤ W'.drawn
theorem Gro.refl (V : World) : Gro V V := ⟨Below.refl _ _, Nat.le_refl _⟩
theorem Gro.trans {a b c : World} (h : Gro a b) (k : Gro b c) : Gro a c := ⟨bl_then h.1 k.1, Nat.le_trans h.2 k.2⟩
theorem Gro.alloc {a b : World} (h : Gro a b) (o : Obj) : Gro a (b.alloc o) := ⟨bl_alloc h.1 o, h.2⟩
theorem Gro.drew {a b : World} (h : Gro a b) : Gro a b.drew := ⟨h.1.drew, Nat.le_trans h.2 (Nat.le_succ _)⟩
end Go.Proofs.YthidgolnajggpaaGreat
