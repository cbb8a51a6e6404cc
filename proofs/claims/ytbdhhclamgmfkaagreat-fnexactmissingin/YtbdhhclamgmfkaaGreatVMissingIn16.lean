/- Several texts in one. -/
import Derived.Test.YtbdhhclamgmfkaaGreatVMissingIn6
import Derived.Test.YtbdhhclamgmfkaaGreatVMissingIn15
import Derived.Test.YtbdhhclamgmfkaaGreatVMissingIn5
import Derived.WalkKit
import Derived.Test.YtbdhhclamgmfkaaGreatRows
import Derived.Test.YtbdhhclamgmfkaaGreatVMissingIn1
import Derived.WalkSpells
import Derived.WalkLawsBesides
import Derived.Outline
import Derived.Test.YtbdhhclamgmfkaaGreatVMissingIn3

/- The fault of a list of features: the program and the model. -/

namespace Go.Proofs.YtbdhhclamgmfkaaGreat
open Go.RowKit
set_option linter.unusedSimpArgs false
set_option linter.unusedVariables false
set_option maxRecDepth 100000

/-- What is not right of one feature of a list. -/
noncomputable def codeAt (G : Nat → Feat) (i : Nat) : Int := by
  classical exact if featC (G i).id (G i).la (G i).ki (G i).wi (G i).n (G i).X (G i).Y (G i).lab (G i).pr ≠ 0 then featC (G i).id (G i).la (G i).ki (G i).wi (G i).n (G i).X (G i).Y (G i).lab (G i).pr else if ∃ j, j < i ∧ (G j).id = (G i).id then 6 else 0
noncomputable def featsC (n : Nat) (G : Nat → Feat) : Int := if 12 < n then 2 else scanC (codeAt G) 0 n
theorem codeAt_fault {G : Nat → Feat} {i : Nat} (h : featC (G i).id (G i).la (G i).ki (G i).wi (G i).n (G i).X (G i).Y (G i).lab (G i).pr ≠ 0) : codeAt G i = featC (G i).id (G i).la (G i).ki (G i).wi (G i).n (G i).X (G i).Y (G i).lab (G i).pr := by unfold codeAt; rw [if_pos h]
theorem codeAt_taken {G : Nat → Feat} {i : Nat} (h : featC (G i).id (G i).la (G i).ki (G i).wi (G i).n (G i).X (G i).Y (G i).lab (G i).pr = 0) (h2 : ∃ j, j < i ∧ (G j).id = (G i).id) : codeAt G i = 6 := by unfold codeAt; rw [if_neg (by simp [h]), if_pos h2]
theorem codeAt_ok {G : Nat → Feat} {i : Nat} (h : featC (G i).id (G i).la (G i).ki (G i).wi (G i).n (G i).X (G i).Y (G i).lab (G i).pr = 0) (h2 : ¬ ∃ j, j < i ∧ (G j).id = (G i).id) : codeAt G i = 0 := by unfold codeAt; rw [if_neg (by simp [h]), if_neg h2]
theorem codeAt_same {G H : Nat → Feat} {n i : Nat} (h : ∀ j, j < n → (G j).same (H j)) (hi : i < n) : codeAt G i = codeAt H i := by
  obtain ⟨s1, s2, s3, s4, s5, s6, s7, s8, s9⟩ := h i hi
  have e : (∃ j, j < i ∧ (G j).id = (G i).id) ↔ (∃ j, j < i ∧ (H j).id = (H i).id) := by
    constructor
    · rintro ⟨j, hj, e⟩; exact ⟨j, hj, by rw [← (h j (by omega)).1, ← s1]; exact e⟩
    · rintro ⟨j, hj, e⟩; exact ⟨j, hj, by rw [(h j (by omega)).1, s1]; exact e⟩
  unfold codeAt
  rw [s1, s2, s3, s4, s5, s6, s7, s8, s9]
  rw [s1] at e
  simp only [e]
theorem featsC_same {G H : Nat → Feat} {n : Nat} (h : ∀ j, j < n → (G j).same (H j)) : featsC n G = featsC n H := by
  unfold featsC
  rw [scan_congr (codeAt G) (codeAt H) n 0 (fun j _ hj => codeAt_same h (by omega))]

set_option maxHeartbeats 4000000 in
theorem l2Many_any (b n cap : Nat) (G : Nat → Feat) (w : World) (hg : FsAt w b 0 n G) (hbl : b < w.heap.size) (hs : SmallFs n G) :
    Calls Tryz.prog 106 #[.slice (some ⟨b, 0, none⟩) n cap] w fun e w' => e = .returned (.int .i64 (featsC n G)) ∧ Below w.heap.size w w' := by
  have HG : Hid (FsAt w b 0 n G) := hg
  have HS : Hid (SmallFs n G) := hs
  have hn := hs.1
  clear hg hs
  by_cases h12 : (12 : Int) < n
  · have hz : Hid (featsC n G = 2) := by show _ = _; unfold featsC; rw [if_pos (by omega)]
    go_enter Tryz.func106, Tryz.ntmps106
    go_wp2
    go_ret
    exact ⟨ret_int hz.out.symm, by (repeat (first | exact Below.refl _ _ | assumption | refine Below.drew ?_ | refine bl_alloc ?_ _ | refine bl_then ?_ (by assumption) | refine Below.setCell ?_ (by first | omega | (simp; done) | (simp; omega)) _ | refine bl_store ?_ ?_ _ _))⟩
  · have hz : Hid (featsC n G = scanC (codeAt G) 0 n) := by show _ = _; unfold featsC; rw [if_neg (by omega)]
    go_enter Tryz.func106, Tryz.ntmps106
    go_wp2
    go_loopw [3] (fun v wr => ∃ k : Nat, k ≤ n ∧ v = .int .i64 k ∧ (∀ j, j < k → codeAt G j = 0) ∧ Below w.heap.size w wr) (fun v _ => n - (intOf v).toNat)
    case atStart => exact ⟨0, by omega, rfl, by omega, Below.refl _ _⟩
    case round =>
      obtain ⟨k, hk, rfl, hA, hB⟩ := hrel
      have HB : Hid (Below w.heap.size w wr) := hB
      have HA : Hid (∀ j, j < k → codeAt G j = 0) := hA
      by_cases hlt : k < n
      · have HGr : Hid (FsAt wr b 0 n G) := HG.out.below hB hbl
        have hblr : b < wr.heap.size := Nat.lt_of_lt_of_le hbl hB.size
        obtain ⟨hF, hP⟩ := HGr.out k hlt
        rw [Nat.zero_add] at hF
        have HF : Hid (FeatAt wr b (k * 7) (G k).id (G k).la (G k).ki (G k).wi (.slice (G k).a (G k).n (G k).cap) (G k).lab (G k).pr) := hF
        have HP : Hid (IsPts wr (G k).a (G k).n (G k).X (G k).Y) := hP
        obtain ⟨z1, z2⟩ := HS.out.2 k hlt
        have HLT : Hid (k < n) := hlt
        clear hB hA hF hP
        have hi : (k : Int) < (n : Int) := by omega
        have hi0 : (0 : Int) ≤ (k : Int) := by omega
        go_wp2_with fail
        refine (l2Fault_any b (k * 7) _ _ _ _ _ _ _ (G k).X (G k).Y _ _ _ HF.out HP.out z2 z1).mono ?_
        rintro e w1 ⟨rfl, hb1⟩
        by_cases hc : featC (G k).id (G k).la (G k).ki (G k).wi (G k).n (G k).X (G k).Y (G k).lab (G k).pr = 0
        · rw [hc]
          have HC : Hid (featC (G k).id (G k).la (G k).ki (G k).wi (G k).n (G k).X (G k).Y (G k).lab (G k).pr = 0) := hc
          have d0 : ∀ W', Below w1.heap.size w1 W' → W'.cell? ⟨b, k * 7, none⟩ = some (.int .i64 (G k).id) := fun W' h => ((HF.out.below hb1 hblr).below h (Nat.lt_of_lt_of_le hblr hb1.size)).1
          have HG1 : Hid (FsAt w1 b 0 n G) := HGr.out.below hb1 hblr
          have hbl1 : b < w1.heap.size := Nat.lt_of_lt_of_le hblr hb1.size
          have HB1 : Hid (Below w.heap.size w w1) := bl_then HB.out hb1
          clear hc hb1
          have hr1 : Below w1.heap.size w1 w1 := Below.refl _ _
          go_wp2_with fail
          refine (l2At_any b n cap G k _ HLT.out HG1.out hbl1 hn).mono ?_
          rintro e w2 ⟨⟨r, hr, hre, hrl, rfl⟩, hb2⟩
          have HB2 : Hid (Below w.heap.size w w2) := bl_then HB1.out hb2
          clear hb2
          by_cases hrk : r = k
          · subst hrk
            have hok : codeAt G r = 0 := codeAt_ok HC.out (fun ⟨j, hj, hje⟩ => hrl j hj hje)
            have HOK : Hid (codeAt G r = 0) := hok
            clear hok hre hrl
            go_wp2
            go_roundw
            case rel => exact ⟨r + 1, by have := HLT.out; omega, by go_num, fun j hj => by
                by_cases e : j = r
                · rw [e]; exact HOK.out
                · exact HA.out j (by omega), HB2.out⟩
            case measure => have := HLT.out; simp [intOf]; omega
          · have hne : (((r : Nat) : Int) == ((k : Nat) : Int)) = false := by simp; omega
            have htk : Hid (codeAt G k = 6) := codeAt_taken HC.out ⟨r, by omega, hre⟩
            have hsc : Hid (featsC n G = 6) := by
              show _ = _
              rw [hz.out, scan_first (codeAt G) n 0 k (fun j _ hj => HA.out j hj) (by omega) (by have := HLT.out; omega) (by rw [htk.out]; decide), htk.out]
            clear hre hrl
            go_wp2
            go_ret
            exact ⟨ret_int hsc.out.symm, HB2.out⟩
        · have hsc : Hid (featsC n G = featC (G k).id (G k).la (G k).ki (G k).wi (G k).n (G k).X (G k).Y (G k).lab (G k).pr) := by
            show _ = _
            have h6 := codeAt_fault hc
            rw [hz.out, scan_first (codeAt G) n 0 k (fun j _ hj => HA.out j hj) (by omega) (by have := HLT.out; omega) (by rw [h6]; exact hc), h6]
          have hcb : (featC (G k).id (G k).la (G k).ki (G k).wi (G k).n (G k).X (G k).Y (G k).lab (G k).pr == 0) = false := by simpa using hc
          have HB1 : Hid (Below w.heap.size w w1) := bl_then HB.out hb1
          clear hc hb1
          go_wp2
          go_ret
          exact ⟨ret_int hsc.out.symm, HB1.out⟩
      · have hsc : Hid (featsC n G = 0) := by
          show _ = _
          rw [hz.out]
          exact scan_none _ _ _ (fun j _ hj => HA.out j (by omega))
        go_wp2
        go_ret
        exact ⟨ret_int hsc.out.symm, HB.out⟩
end Go.Proofs.YtbdhhclamgmfkaaGreat
/- Features as answers: they are compared, marked, and the marks are found again. -/

namespace Go.Proofs.YtbdhhclamgmfkaaGreat
open Go.RowKit
set_option linter.unusedSimpArgs false
set_option linter.unusedVariables false
set_option maxRecDepth 100000

end Go.Proofs.YtbdhhclamgmfkaaGreat
/- The order by layer, of the same by id: places are sorted, and there is one sorted list alone. No program in sight. -/

namespace Go.Proofs.YtbdhhclamgmfkaaGreat

/-- No two places have the same id. -/
def apartK (I : Nat → Int) (n : Nat) : Prop := ∀ i j, i < n → j < n → I i = I j → i = j
end Go.Proofs.YtbdhhclamgmfkaaGreat
/- Rows of features: their cells; two lists of the same features are compared. -/

namespace Go.Proofs.YtbdhhclamgmfkaaGreat
open Go.RowKit
set_option linter.unusedSimpArgs false
set_option linter.unusedVariables false
set_option maxRecDepth 100000

/-- The cells of a feature. -/
def fcell (f : Feat) : List Value := [.int .i64 f.id, .int .i64 f.la, .int .i64 f.ki, .int .i64 f.wi, .slice f.a f.n f.cap, .string f.lab, .int .i64 f.pr]
theorem featsC_ok {n : Nat} {G : Nat → Feat} (h : featsC n G = 0) : n ≤ 12 ∧ apartK (fun i => (G i).id) n ∧ ∀ i, i < n → featC (G i).id (G i).la (G i).ki (G i).wi (G i).n (G i).X (G i).Y (G i).lab (G i).pr = 0 := by
  unfold featsC at h
  by_cases h12 : 12 < n
  · rw [if_pos h12] at h; cases h
  · rw [if_neg h12] at h
    have hz := scan_zero _ _ _ h
    have hA : ∀ i, i < n → featC (G i).id (G i).la (G i).ki (G i).wi (G i).n (G i).X (G i).Y (G i).lab (G i).pr = 0 ∧ ¬ ∃ j, j < i ∧ (G j).id = (G i).id := fun i hi => by
      have := hz i (Nat.zero_le _) (by omega)
      unfold codeAt at this
      by_cases hf : featC (G i).id (G i).la (G i).ki (G i).wi (G i).n (G i).X (G i).Y (G i).lab (G i).pr ≠ 0
      · rw [if_pos hf] at this; exact absurd this hf
      · rw [if_neg hf] at this
        by_cases hj : ∃ j, j < i ∧ (G j).id = (G i).id
        · rw [if_pos hj] at this; cases this
        · exact ⟨by simpa using hf, hj⟩
    refine ⟨by omega, fun i j hi hj e => ?_, fun i hi => (hA i hi).1⟩
    rcases Nat.lt_trichotomy i j with h | h | h
    · exact absurd ⟨i, h, e⟩ (hA j hj).2
    · exact h
    · exact absurd ⟨j, h, e.symm⟩ (hA i hi).2

end Go.Proofs.YtbdhhclamgmfkaaGreat
/- Numbers are compared; only new blocks are laid. -/

namespace Go.Proofs.YtbdhhclamgmfkaaGreat
open Go.RowKit
set_option linter.unusedSimpArgs false
set_option linter.unusedVariables false
set_option maxRecDepth 100000

def cmpI (x y : Int) : Int := if x < y then -1 else if y < x then 1 else 0
theorem cmpCompare_any (x y : Int) (w : World) : Calls Tryz.prog 167 #[.int .i64 x, .int .i64 y] w fun e w' => e = .returned (.int .i64 (cmpI x y)) ∧ w' = w := by
  unfold cmpI
  by_cases h1 : x < y
  · rw [if_pos h1]
    go_enter Tryz.func167, Tryz.ntmps167
    go_wp2
    go_ret
    exact ⟨rfl, rfl⟩
  · rw [if_neg h1]
    by_cases h2 : y < x
    · rw [if_pos h2]
      go_enter Tryz.func167, Tryz.ntmps167
      go_wp2
      go_ret
      exact ⟨rfl, rfl⟩
    · rw [if_neg h2]
      go_enter Tryz.func167, Tryz.ntmps167
      go_wp2
      go_ret
      exact ⟨rfl, rfl⟩
/-- Only new blocks, and draws. -/
def Gro (V W' : World) : Prop := Below V.heap.size V W' ∧ V.drawn ≤ W'.drawn
theorem Gro.refl (V : World) : Gro V V := ⟨Below.refl _ _, Nat.le_refl _⟩
theorem Gro.trans {a b c : World} (h : Gro a b) (k : Gro b c) : Gro a c := ⟨bl_then h.1 k.1, Nat.le_trans h.2 k.2⟩
theorem Gro.alloc {a b : World} (h : Gro a b) (o : Obj) : Gro a (b.alloc o) := ⟨bl_alloc h.1 o, h.2⟩
theorem Gro.drew {a b : World} (h : Gro a b) : Gro a b.drew := ⟨h.1.drew, Nat.le_trans h.2 (Nat.le_succ _)⟩
end Go.Proofs.YtbdhhclamgmfkaaGreat
/- Features are compared: by layer, of the same by id; only new blocks are laid. -/

namespace Go.Proofs.YtbdhhclamgmfkaaGreat
open Go.RowKit
set_option linter.unusedSimpArgs false
set_option linter.unusedVariables false
set_option maxRecDepth 100000

def orI (x y : Int) : Int := if x = 0 then y else x
set_option maxHeartbeats 2000000 in
theorem cmpOr_any (b c : Nat) (x y : Int) (w : World) (h0 : w.cell? ⟨b, 0, none⟩ = some (.int .i64 x)) (h1 : w.cell? ⟨b, 1, none⟩ = some (.int .i64 y)) : Calls Tryz.prog 180 #[.slice (some ⟨b, 0, none⟩) 2 c] w fun e w' => e = .returned (.int .i64 (orI x y)) ∧ w' = w := by
  unfold orI
  by_cases hx : x = 0
  · subst hx
    by_cases hy : y = 0
    · subst hy
      go_enter Tryz.func180, Tryz.ntmps180
      go_wp2
      refine wp_loop_rounds 3 ?_
      rw [rounds_succ]
      go_wp2
      rw [rounds_succ]
      go_wp2
      rw [rounds_succ]
      go_wp2
      go_ret
      exact ⟨by simp, rfl⟩
    · have hy' : (y == 0) = false := by simpa using hy
      go_enter Tryz.func180, Tryz.ntmps180
      go_wp2
      refine wp_loop_rounds 2 ?_
      rw [rounds_succ]
      go_wp2
      rw [rounds_succ]
      go_wp2
      go_ret
      exact ⟨by simp, rfl⟩
  · have hx' : (x == 0) = false := by simpa using hx
    rw [if_neg hx]
    go_enter Tryz.func180, Tryz.ntmps180
    go_wp2
    refine wp_loop_rounds 1 ?_
    rw [rounds_succ]
    go_wp2
    go_ret
    exact ⟨rfl, rfl⟩
/-- What comparing two features tells. -/
def cmpF (f g : Feat) : Int := orI (cmpI f.la g.la) (cmpI f.id g.id)
set_option maxHeartbeats 4000000 in
theorem compareFeatures_gro (f g : Feat) (w : World) : Calls Tryz.prog 157 #[.agg (fcell f).toArray, .agg (fcell g).toArray] w fun e w' => e = .returned (.int .i64 (cmpF f g)) ∧ Gro w w' := by
  unfold cmpF
  generalize hA : cmpI f.la g.la = A
  generalize hB : cmpI f.id g.id = B
  have H1 : Hid (∀ W, Calls Tryz.prog 167 #[.int .i64 f.la, .int .i64 g.la] W fun e w' => e = .returned (.int .i64 A) ∧ w' = W) := fun W => by subst hA; exact cmpCompare_any _ _ _
  have H2 : Hid (∀ W, Calls Tryz.prog 167 #[.int .i64 f.id, .int .i64 g.id] W fun e w' => e = .returned (.int .i64 B) ∧ w' = W) := fun W => by subst hB; exact cmpCompare_any _ _ _
  clear hA hB
  unfold fcell
  go_enter Tryz.func157, Tryz.ntmps157
  go_wp2_with fail
  generalize hV : ((w.alloc _).alloc _ : World) = V
  have hB0 : Gro w V := by subst hV; exact ((Gro.refl _).alloc _).alloc _
  have c0 : ∀ W', Gro V W' → W'.cell? ⟨w.heap.size, 0, none⟩ = some (.int .i64 f.id) := fun W' h => by
    rw [h.1.cell (by subst hV; simp <;> omega)]; subst hV; simp [go_sem]
  have c1 : ∀ W', Gro V W' → W'.cell? ⟨w.heap.size, 1, none⟩ = some (.int .i64 f.la) := fun W' h => by
    rw [h.1.cell (by subst hV; simp <;> omega)]; subst hV; simp [go_sem]
  have d0 : ∀ W', Gro V W' → W'.cell? ⟨w.heap.size + 1, 0, none⟩ = some (.int .i64 g.id) := fun W' h => by
    rw [h.1.cell (by subst hV; simp <;> omega)]; subst hV; simp [go_sem]
  have d1 : ∀ W', Gro V W' → W'.cell? ⟨w.heap.size + 1, 1, none⟩ = some (.int .i64 g.la) := fun W' h => by
    rw [h.1.cell (by subst hV; simp <;> omega)]; subst hV; simp [go_sem]
  clear hV
  refine wp_region_noPanic ?_
  refine wp_region_held_drew (S := fun W' => Gro V W') (by kernel_rfl) ((Gro.refl V).drew) (fun hHeld => ?_)
  have hBd : Gro V V.drew := hHeld
  refine takeD (i := 0) (d := some 5) (v := ?vt1) rfl rfl (by kernel_rfl) (by kernel_rfl) (by kernel_rfl) (fun _ _ _ h => h) (Or.inl ⟨by rfl, ?hyt1⟩) (by assumption) ?_
  case hyt1 => (intro w hSw; (try dsimp only at hSw); go_simp <;> with_reducible rfl)
  try simp only [Act.put, List.setIfInBounds_toArray, List.set_cons_zero, List.set_cons_succ]
  refine takeD (i := 1) (d := some 6) (v := ?vt2) rfl rfl (by kernel_rfl) (by kernel_rfl) (by kernel_rfl) (fun _ _ _ h => h) (Or.inl ⟨by rfl, ?hyt2⟩) (by assumption) ?_
  case hyt2 => (intro w hSw; (try dsimp only at hSw); go_simp <;> with_reducible rfl)
  try simp only [Act.put, List.setIfInBounds_toArray, List.set_cons_zero, List.set_cons_succ]
  refine takeD (i := 2) (d := some 7) (v := ?vt3) rfl rfl (by kernel_rfl) (by kernel_rfl) (by kernel_rfl) (fun _ _ _ h => h) (Or.inl ⟨by rfl, ?hyt3⟩) (by assumption) ?_
  case hyt3 => (intro w hSw; (try dsimp only at hSw); go_simp <;> with_reducible rfl)
  try simp only [Act.put, List.setIfInBounds_toArray, List.set_cons_zero, List.set_cons_succ]
  refine takeD (i := 3) (d := some 8) (v := ?vt4) rfl rfl (by kernel_rfl) (by kernel_rfl) (by kernel_rfl) (fun _ _ _ h => h) (Or.inl ⟨by rfl, ?hyt4⟩) (by assumption) ?_
  case hyt4 => (intro w hSw; (try dsimp only at hSw); go_simp <;> with_reducible rfl)
  try simp only [Act.put, List.setIfInBounds_toArray, List.set_cons_zero, List.set_cons_succ]
  refine takeD (i := 5) (d := some 10) (v := ?vt5) rfl rfl (by kernel_rfl) (by kernel_rfl) (by kernel_rfl) (fun _ _ _ h => h) (Or.inl ⟨by rfl, ?hyt5⟩) (by assumption) ?_
  case hyt5 => (intro w hSw; (try dsimp only at hSw); go_simp <;> with_reducible rfl)
  try simp only [Act.put, List.setIfInBounds_toArray, List.set_cons_zero, List.set_cons_succ]
  refine takeD (i := 6) (d := some 11) (v := ?vt6) rfl rfl (by kernel_rfl) (by kernel_rfl) (by kernel_rfl) (fun _ _ _ h => h) (Or.inl ⟨by rfl, ?hyt6⟩) (by assumption) ?_
  case hyt6 => (intro w hSw; (try dsimp only at hSw); go_simp <;> with_reducible rfl)
  try simp only [Act.put, List.setIfInBounds_toArray, List.set_cons_zero, List.set_cons_succ]
  refine takeD (i := 7) (d := some 12) (v := ?vt7) rfl rfl (by kernel_rfl) (by kernel_rfl) (by kernel_rfl) (fun _ _ _ h => h) (Or.inl ⟨by rfl, ?hyt7⟩) (by assumption) ?_
  case hyt7 => (intro w hSw; (try dsimp only at hSw); go_simp <;> with_reducible rfl)
  try simp only [Act.put, List.setIfInBounds_toArray, List.set_cons_zero, List.set_cons_succ]
  refine takeD (i := 8) (d := some 13) (v := ?vt8) rfl rfl (by kernel_rfl) (by kernel_rfl) (by kernel_rfl) (fun _ _ _ h => h) (Or.inl ⟨by rfl, ?hyt8⟩) (by assumption) ?_
  case hyt8 => (intro w hSw; (try dsimp only at hSw); go_simp <;> with_reducible rfl)
  try simp only [Act.put, List.setIfInBounds_toArray, List.set_cons_zero, List.set_cons_succ]
  refine wpAnyH_ready (rs := [4]) (by kernel_rfl) (by simp) ?_
  refine (AllReadyH.cons rfl (fun K hK => ?_) AllReadyH.nil)
  go_simp
  refine (H1.out _).mono ?_
  rintro e w4 ⟨rfl, rfl⟩
  go_wp2_with fail
  refine hK.out _ _ hBd (fun hHeld => ?_)
  clear hK K
  try simp only [Act.put, List.setIfInBounds_toArray, List.set_cons_zero, List.set_cons_succ]
  refine wpAnyH_ready (rs := [9]) (by kernel_rfl) (by simp) ?_
  refine (AllReadyH.cons rfl (fun K hK => ?_) AllReadyH.nil)
  go_simp
  refine (H2.out _).mono ?_
  rintro e w9 ⟨rfl, rfl⟩
  go_wp2_with fail
  refine hK.out _ _ hBd (fun hHeld => ?_)
  clear hK K
  try simp only [Act.put, List.setIfInBounds_toArray, List.set_cons_zero, List.set_cons_succ]
  refine wpAnyH_ready (rs := [10]) (by kernel_rfl) (by simp) ?_
  refine (AllReadyH.cons rfl (fun K hK => ?_) AllReadyH.nil)
  go_simp
  generalize hw9 : (World.alloc _ _ : World) = w9
  have hb9 : Gro V w9 := by subst hw9; exact (Gro.refl _).alloc _
  have g0 : w9.cell? ⟨V.heap.size, 0, none⟩ = some (.int .i64 A) := by subst hw9; simp [go_sem]
  have g1 : w9.cell? ⟨V.heap.size, 1, none⟩ = some (.int .i64 B) := by subst hw9; simp [go_sem]
  have hB9 : Gro V w9.drew := hb9.drew
  replace g0 : w9.drew.cell? ⟨V.heap.size, 0, none⟩ = some (.int .i64 A) := g0
  replace g1 : w9.drew.cell? ⟨V.heap.size, 1, none⟩ = some (.int .i64 B) := g1
  clear hw9
  refine hK.out _ _ hB9 (fun hHeld => ?_)
  clear hK K
  try simp only [Act.put, List.setIfInBounds_toArray, List.set_cons_zero, List.set_cons_succ]
  refine wpAnyH_ready (rs := [11]) (by kernel_rfl) (by simp) ?_
  refine (AllReadyH.cons rfl (fun K hK => ?_) AllReadyH.nil)
  go_simp
  refine (cmpOr_any _ _ A B _ g0 g1).mono ?_
  rintro e w11 ⟨rfl, rfl⟩
  go_wp2_with fail
  refine hK.out _ _ hB9 (fun hHeld => ?_)
  clear hK K
  try simp only [Act.put, List.setIfInBounds_toArray, List.set_cons_zero, List.set_cons_succ]
  refine takeD (i := 12) (d := some 4) (v := ?vt9) rfl rfl (by kernel_rfl) (by kernel_rfl) (by kernel_rfl) (fun _ _ _ h => h) (Or.inl ⟨by rfl, ?hyt9⟩) (by assumption) ?_
  case hyt9 => (intro w hSw; (try dsimp only at hSw); go_simp <;> with_reducible rfl)
  try simp only [Act.put, List.setIfInBounds_toArray, List.set_cons_zero, List.set_cons_succ]
  refine wpAnyH_done (by kernel_rfl) ?_ _
  refine NoPanic.normal ?_
  go_wp2_with fail
  go_ret
  exact ⟨rfl, hB0.trans hB9⟩
end Go.Proofs.YtbdhhclamgmfkaaGreat
/- The model's order of two features. -/

namespace Go.Proofs.YtbdhhclamgmfkaaGreat
open Go.RowKit
set_option linter.unusedSimpArgs false
set_option linter.unusedVariables false
set_option maxRecDepth 100000

def ltF (f g : Feat) : Bool := decide (f.la < g.la) || (decide (f.la = g.la) && decide (f.id < g.id))
set_option maxHeartbeats 4000000 in
theorem l2Ahead_any (p o p' o' : Nat) (f g : Feat) (w : World) (h0 : w.cell? ⟨p, o, none⟩ = some (.int .i64 f.id)) (h1 : w.cell? ⟨p, o + 1, none⟩ = some (.int .i64 f.la)) (k0 : w.cell? ⟨p', o', none⟩ = some (.int .i64 g.id)) (k1 : w.cell? ⟨p', o' + 1, none⟩ = some (.int .i64 g.la)) :
    Calls Tryz.prog 129 #[.pointer (some ⟨p, o, none⟩), .pointer (some ⟨p', o', none⟩)] w fun e w' => e = .returned (.bool (ltF f g)) ∧ Below w.heap.size w w' := by
  by_cases hx : f.la < g.la
  · have HU : Hid (ltF f g = true) := by show _ = _; simp [ltF, hx]
    go_enter Tryz.func129, Tryz.ntmps129
    go_wp2_with fail
    go_region
    go_wp2
    go_ret
    exact ⟨ret_bool HU.out.symm, by (repeat (first | exact Below.refl _ _ | assumption | refine Below.drew ?_ | refine bl_alloc ?_ _ | refine bl_then ?_ (by assumption) | refine Below.setCell ?_ (by first | omega | (simp; done) | (simp; omega)) _ | refine bl_store ?_ ?_ _ _))⟩
  · have hx' : decide (f.la < g.la) = false := by simpa using hx
    by_cases hy : f.la = g.la
    · have hy' : (f.la == g.la) = true := by simpa using hy
      by_cases hz : f.id < g.id
      · have HU : Hid (ltF f g = true) := by show _ = _; simp [ltF, hy, hz]
        clear hy hx
        go_enter Tryz.func129, Tryz.ntmps129
        go_wp2_with fail
        go_region
        go_wp2
        go_ret
        exact ⟨ret_bool HU.out.symm, by (repeat (first | exact Below.refl _ _ | assumption | refine Below.drew ?_ | refine bl_alloc ?_ _ | refine bl_then ?_ (by assumption) | refine Below.setCell ?_ (by first | omega | (simp; done) | (simp; omega)) _ | refine bl_store ?_ ?_ _ _))⟩
      · have hz' : decide (f.id < g.id) = false := by simpa using hz
        have HU : Hid (ltF f g = false) := by show _ = _; simp [ltF, hx]; omega
        clear hy hx hz
        go_enter Tryz.func129, Tryz.ntmps129
        go_wp2_with fail
        go_region
        go_wp2
        go_ret
        exact ⟨ret_bool HU.out.symm, by (repeat (first | exact Below.refl _ _ | assumption | refine Below.drew ?_ | refine bl_alloc ?_ _ | refine bl_then ?_ (by assumption) | refine Below.setCell ?_ (by first | omega | (simp; done) | (simp; omega)) _ | refine bl_store ?_ ?_ _ _))⟩
    · have hy' : (f.la == g.la) = false := by simpa using hy
      have HU : Hid (ltF f g = false) := by show _ = _; simp [ltF, hx, hy]
      clear hy hx
      go_enter Tryz.func129, Tryz.ntmps129
      go_wp2_with fail
      go_region
      go_wp2
      go_ret
      exact ⟨ret_bool HU.out.symm, by (repeat (first | exact Below.refl _ _ | assumption | refine Below.drew ?_ | refine bl_alloc ?_ _ | refine bl_then ?_ (by assumption) | refine Below.setCell ?_ (by first | omega | (simp; done) | (simp; omega)) _ | refine bl_store ?_ ?_ _ _))⟩
end Go.Proofs.YtbdhhclamgmfkaaGreat
