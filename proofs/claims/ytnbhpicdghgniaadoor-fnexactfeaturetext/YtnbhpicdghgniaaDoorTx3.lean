/- FeatureText of the model; a number in digits by the library. -/
import Derived.Test.YtnbhpicdghgniaaDoorTx2
namespace Go.Proofs.YtnbhpicdghgniaaDoor
open Go.RowKit
set_option linter.unusedSimpArgs false
set_option linter.unusedVariables false
set_option maxRecDepth 100000

/-- The text of a feature; none where it has a fault. -/
def featT (id la ki wi : Int) (n : Nat) (X Y : Nat → Int) (lab : ByteArray) (pr : Int) : ByteArray :=
  if featC id la ki wi n X Y lab pr = 0 then ptsT X Y (headT id la ki.toNat wi pr lab) n else ⟨#[]⟩

theorem feat_bd {id la ki wi : Int} {n : Nat} {X Y : Nat → Int} {lab : ByteArray} {pr : Int} (h : featC id la ki wi n X Y lab pr = 0) :
    (0 ≤ id ∧ id ≤ 999) ∧ (0 ≤ la ∧ la ≤ 9) ∧ (1 ≤ ki ∧ ki ≤ 3) ∧ (0 ≤ wi ∧ wi ≤ 3) ∧ (0 ≤ pr ∧ pr ≤ 9) ∧ n ≤ 12 ∧ lab.size ≤ 6 ∧ ∀ i, i < n → (0 ≤ X i ∧ X i ≤ 1048576) ∧ 0 ≤ Y i ∧ Y i ≤ 1048576 := by
  unfold featC at h
  split at h
  · rename_i h1
    split at h
    · rename_i h2
      split at h
      · rename_i h3
        split at h
        · rename_i h4
          simp [rngB, inB] at h1
          simp [ptsIn, inW, inB] at h3
          simp [labB] at h4
          have hn : 0 < n ∧ n ≤ 12 := by
            unfold sizeB at h2
            split at h2
            · simp at h2; omega
            · split at h2 <;> (simp [inB] at h2; omega)
          refine ⟨by omega, by omega, by omega, by omega, by omega, hn.2, h4.1, fun i hi => ?_⟩
          have := h3 i hi
          omega
        · omega
      · omega
    · omega
  · omega

set_option maxHeartbeats 4000000 in
theorem spec_FeatureText_any (id la ki wi : Int) (a : Option Addr) (n cap : Nat) (X Y : Nat → Int) (lab : ByteArray) (pr : Int) (w : World) (hpt : IsPts w a n X Y) (hl : lab.size ≤ 1048576) (hn : n ≤ 1048576) :
    Calls Tryd.prog 6 #[.agg #[.int .i64 id, .int .i64 la, .int .i64 ki, .int .i64 wi, .slice a n cap, .string lab, .int .i64 pr]] w fun e w' => e = .returned (.agg #[.int .i64 (featC id la ki wi n X Y lab pr), .string (featT id la ki wi n X Y lab pr)]) ∧ Below w.heap.size w w' := by
  have HP : Hid (IsPts w a n X Y) := hpt
  clear hpt
  obtain ⟨T, hT⟩ : ∃ T, T = featT id la ki wi n X Y lab pr := ⟨_, rfl⟩
  obtain ⟨c, hcc⟩ : ∃ c, c = featC id la ki wi n X Y lab pr := ⟨_, rfl⟩
  rw [← hT, ← hcc]
  go_enter Tryd.func6, Tryd.ntmps6
  go_wp2_with fail
  generalize hW : ((w.alloc _).alloc _ : World) = W
  have hB0 : Below w.heap.size w W := by subst hW; (repeat (first | exact Below.refl _ _ | assumption | refine Below.drew ?_ | refine bl_alloc ?_ _ | refine bl_then ?_ (by assumption) | refine Below.setCell ?_ (by first | omega | (simp; done) | (simp; omega)) _ | refine bl_store ?_ ?_ _ _))
  have hF : FeatAt W w.heap.size 0 id la ki wi (.slice a n cap) lab pr := by
    subst hW
    refine ⟨?_, ?_, ?_, ?_, ?_, ?_, ?_⟩ <;> simp [go_sem]
  have r0 : W.cell? ⟨w.heap.size + 1, 0, none⟩ = some (.int .i64 0) := by subst hW; simp [go_sem]
  have r1 : W.cell? ⟨w.heap.size + 1, 1, none⟩ = some (.string ⟨#[]⟩) := by subst hW; simp [go_sem]
  have f0 : W.frozen? ⟨w.heap.size + 1, 0, none⟩ = false := by subst hW; simp [go_sem]
  have f1 : W.frozen? ⟨w.heap.size + 1, 1, none⟩ = false := by subst hW; simp [go_sem]
  clear hW
  refine (l2Fault_any w.heap.size 0 id la ki wi a n cap X Y lab pr W hF (HP.out.below hB0) hl hn).mono ?_
  rintro e w1 ⟨rfl, hb⟩
  have hlr : w.heap.size + 1 < W.heap.size := World.block_lt_of_cell? _ _ r0
  have s0 : w1.cell? ⟨w.heap.size + 1, 0, none⟩ = some (.int .i64 0) := (hb.cell (p := ⟨w.heap.size + 1, 0, none⟩) hlr).trans r0
  have s1 : w1.cell? ⟨w.heap.size + 1, 1, none⟩ = some (.string ⟨#[]⟩) := (hb.cell (p := ⟨w.heap.size + 1, 1, none⟩) hlr).trans r1
  have t0 : w1.frozen? ⟨w.heap.size + 1, 0, none⟩ = false := (hb.frozen (p := ⟨w.heap.size + 1, 0, none⟩) hlr).trans f0
  have t1 : w1.frozen? ⟨w.heap.size + 1, 1, none⟩ = false := (hb.frozen (p := ⟨w.heap.size + 1, 1, none⟩) hlr).trans f1
  have hB1 : Below w.heap.size w w1 := hB0.trans (hb.mono hB0.size)
  have hF1 : FeatAt w1 w.heap.size 0 id la ki wi (.slice a n cap) lab pr := hF.below hb (by omega)
  have hle1 : W.heap.size ≤ w1.heap.size := hb.size
  clear r0 r1 f0 f1 hF hb
  rw [← hcc]
  by_cases hc : c = 0
  · subst hc
    have hc := hcc.symm
    obtain ⟨b1, b2, b3, b4, b5, b6, b7, b8⟩ := feat_bd hc
    have hfT : featT id la ki wi n X Y lab pr = ptsT X Y (headT id la ki.toNat wi pr lab) n := by unfold featT; rw [if_pos hc]
    rw [hfT] at hT
    subst hT
    have hk : ki = (ki.toNat : Int) := by omega
    rw [hk] at hF1
    have HT := l2Text_any w.heap.size id la wi pr ki.toNat a n cap X Y lab w1 hF1 (HP.out.below hB1) b6 b7 (by omega) b1 b2 b4 b5 b8
    clear hF1 b1 b2 b3 b4 b5 b6 b7 b8 hfT hc hcc hk
    go_wp2_with fail
    refine HT.mono ?_
    rintro e w2 ⟨rfl, hb2⟩
    have hl1 : w.heap.size + 1 < w1.heap.size := by omega
    have u0 : w2.cell? ⟨w.heap.size + 1, 0, none⟩ = some (.int .i64 0) := (hb2.cell (p := ⟨w.heap.size + 1, 0, none⟩) hl1).trans s0
    have u1 : w2.cell? ⟨w.heap.size + 1, 1, none⟩ = some (.string ⟨#[]⟩) := (hb2.cell (p := ⟨w.heap.size + 1, 1, none⟩) hl1).trans s1
    have v0 : w2.frozen? ⟨w.heap.size + 1, 0, none⟩ = false := (hb2.frozen (p := ⟨w.heap.size + 1, 0, none⟩) hl1).trans t0
    have v1 : w2.frozen? ⟨w.heap.size + 1, 1, none⟩ = false := (hb2.frozen (p := ⟨w.heap.size + 1, 1, none⟩) hl1).trans t1
    have hB2 : Below w.heap.size w w2 := hB1.trans (hb2.mono hB1.size)
    have hle : w.heap.size ≤ w.heap.size + 1 := Nat.le_succ _
    clear s0 s1 t0 t1 hb2
    go_wp2
    exact bodyPost_ret (v := .agg #[.int .i64 0, .string (ptsT X Y (headT id la ki.toNat wi pr lab) n)]) (by simp [results, Tryd.results6, go_sem, *]) rfl ⟨rfl, (hB2.setCell hle _).setCell hle _⟩
  · have hfT : featT id la ki wi n X Y lab pr = ⟨#[]⟩ := by unfold featT; rw [if_neg (by rw [← hcc]; exact hc)]
    rw [hfT] at hT
    subst hT
    clear hcc hfT
    have hle : w.heap.size ≤ w.heap.size + 1 := Nat.le_succ _
    clear hF1
    go_wp2
    exact bodyPost_ret (v := .agg #[.int .i64 c, .string ⟨#[]⟩]) (by simp [results, Tryd.results6, go_sem, *]) rfl ⟨rfl, (hB1.setCell hle _).setCell hle _⟩
end Go.Proofs.YtnbhpicdghgniaaDoor
