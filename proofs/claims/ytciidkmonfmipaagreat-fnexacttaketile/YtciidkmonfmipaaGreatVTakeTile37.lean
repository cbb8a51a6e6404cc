/- Several texts in one. -/
import Derived.Test.YtciidkmonfmipaaGreatVTakeTile36
import Derived.RangeFuncNested
import Derived.RangeFuncBound
import Derived.RangeFuncCalls
import Derived.RangeFuncMany
import Derived.RangeFuncLeaves
import Derived.RangeFuncBox
import Derived.Sort.MapsRangeIn
import Derived.Sort.KeysCollected
import Derived.Shelf.Abstract
import Derived.Shelf.RegionOpen
import Derived.OwnWalkIn
import Derived.TacticsInMore
import Derived.RegionIn
import Derived.LoopNIn
import Derived.LoopIn

/- The shelf of a cache; CacheFault and HasTile of the program. -/

namespace Go.Proofs.YtciidkmonfmipaaGreat
open Go.RowKit
set_option linter.unusedSimpArgs false
set_option linter.unusedVariables false
set_option maxRecDepth 100000

theorem atK_pos {n : Nat} {K : Nat → Kp} {z x y : Int} : 0 ≤ atK n K z x y ↔ ∃ i, i < n ∧ isK (K i) z x y = true := by
  unfold atK
  rcases firstI_or (fun i => isK (K i) z x y) n with ⟨h1, h2⟩ | ⟨i, hi, hg, hf, hn⟩
  · rw [h1]
    exact ⟨fun h => by omega, fun ⟨i, hi, h⟩ => by have := h2 i hi; rw [h] at this; cases this⟩
  · rw [hf]
    exact ⟨fun _ => ⟨i, hi, hg⟩, fun _ => by omega⟩
theorem isK_iff {e : Kp} {z x y : Int} : isK e z x y = true ↔ e.z = z ∧ e.x = x ∧ e.y = y := by simp [isK]
/-- What the shelf's map has behind k tiles. -/
def shD (A : Nat → Kp) : Nat → DataW Value
  | 0 => .map []
  | k + 1 => putD (shD A k) (A k) ((k : Int) + 1)
theorem shD_tidy (A : Nat → Kp) : ∀ k, Maps.Tidy (shD A k)
  | 0 => Maps.tidy_empty
  | k + 1 => (shD_tidy A k).put (keyL_is _ _ _) _
/-- The refs of the first k are right. -/
def Rgt (A : Nat → Kp) (k : Nat) : Prop := ∀ j, j < k → I64 (A j).z ∧ I64 (A j).x ∧ I64 (A j).y
theorem shD_has {A : Nat → Kp} {z x y : Int} (hz : I64 z) (hx : I64 x) (hy : I64 y) : ∀ k, Rgt A k → Maps.has (shD A k) (keyL z x y) = decide (0 ≤ atK k A z x y)
  | 0, _ => by
    have : ¬ (0 ≤ atK 0 A z x y) := fun h => by obtain ⟨i, hi, _⟩ := atK_pos.1 h; omega
    rw [decide_eq_false this]; rfl
  | k + 1, h => by
    have ih := shD_has hz hx hy k (fun j hj => h j (by omega))
    obtain ⟨az, ax, ay⟩ := h k (by omega)
    by_cases hE : isK (A k) z x y = true
    · obtain ⟨rfl, rfl, rfl⟩ := isK_iff.1 hE
      rw [decide_eq_true (atK_pos.2 ⟨k, by omega, hE⟩)]
      exact Maps.has_put_same (shD_tidy A k).isMap (keyL_is _ _ _) _
    · have hne : keyL z x y ≠ keyL (A k).z (A k).x (A k).y := fun e => by
        obtain ⟨h1, h2, h3⟩ := key_inj hz hx hy az ax ay e
        exact hE (isK_iff.2 ⟨h1.symm, h2.symm, h3.symm⟩)
      have e1 : Maps.has (shD A (k + 1)) (keyL z x y) = Maps.has (shD A k) (keyL z x y) := Maps.has_put_other hne _
      rw [e1, ih, decide_eq_decide]
      constructor
      · intro h; obtain ⟨i, hi, h⟩ := atK_pos.1 h; exact atK_pos.2 ⟨i, by omega, h⟩
      · intro h
        obtain ⟨i, hi, h'⟩ := atK_pos.1 h
        refine atK_pos.2 ⟨i, ?_, h'⟩
        by_cases e : i = k
        · exact absurd (e ▸ h') hE
        · omega
theorem kC_zero {A : Nat → Kp} {k : Nat} (h : kC A k = 0) : tC (A k) = 0 ∧ ¬ (0 ≤ atK k A (A k).z (A k).x (A k).y) := by
  unfold kC at h
  split at h
  · rename_i h0
    refine ⟨h0, fun h' => ?_⟩
    rw [if_pos h'] at h
    cases h
  · rename_i h0; exact absurd h h0
theorem tC_zero {k : Kp} (h : tC k = 0) : rtC k.z k.x k.y k.fn k.F = 0 := by
  unfold tC at h
  split at h
  · rename_i h0; exact h0
  · rename_i h0; exact absurd h h0
theorem tC_I64 {k : Kp} (h : tC k = 0) : I64 k.z ∧ I64 k.x ∧ I64 k.y := ref_I64 (tC_ref (tC_zero h))
theorem Rgt_of {A : Nat → Kp} {k : Nat} (h : ∀ j, j < k → kC A j = 0) : Rgt A k := fun j hj => tC_I64 (kC_zero (h j hj)).1
theorem fK_kC {A : Nat → Kp} {k : Nat} (h : ∀ j, j < k → kC A j = 0) : fK (shD A k) (A k) = kC A k := by
  unfold fK kC
  by_cases h0 : tC (A k) = 0
  · obtain ⟨a, b, c⟩ := tC_I64 h0
    rw [if_pos h0, if_pos h0, shD_has a b c k (Rgt_of h)]
    simp
  · rw [if_neg h0, if_neg h0]
theorem shD_size {A : Nat → Kp} : ∀ k, (∀ j, j < k → kC A j = 0) → Maps.size (shD A k) = k
  | 0, _ => rfl
  | k + 1, h => by
    have hk : ∀ j, j < k → kC A j = 0 := fun j hj => h j (by omega)
    have ih := shD_size k hk
    obtain ⟨h0, h1⟩ := kC_zero (h k (by omega))
    obtain ⟨a, b, c⟩ := tC_I64 h0
    have e : Maps.size (shD A (k + 1)) = if Maps.has (shD A k) (keyL (A k).z (A k).x (A k).y) = true then Maps.size (shD A k) else Maps.size (shD A k) + 1 := Maps.size_put (shD_tidy A k) _
    rw [e, shD_has a b c k (Rgt_of hk), decide_eq_false h1, ih]
    rfl
theorem shelf3 (V : World) (a b c : Value) (t : TypeId) : There (V.alloc (.cells #[a, b, c] t)) V.heap.size 3 := fun o ho => by
  have hc : o = 0 ∨ o = 1 ∨ o = 2 := by omega
  rcases hc with rfl | rfl | rfl <;> exact ⟨⟨_, by simp [go_sem]; rfl⟩, by simp [go_sem]⟩
/-- A shelf that has the tiles of a cache. -/
def ShK (w : World) (B p : Nat) (s : Int) (k : Nat) (A : Nat → Kp) : Prop := ∃ mb, B ≤ p ∧ B ≤ mb ∧ ShA w p s (k : Int) mb ∧ There w p 3 ∧ w.ownsMap Tryz.prog 39 RV mb k (shD A k)
theorem ShK.below {w w' : World} {B p : Nat} {s : Int} {k : Nat} {A : Nat → Kp} (h : ShK w B p s k A) (hb : Below w.heap.size w w') : ShK w' B p s k A := by
  obtain ⟨mb, h1, h2, h3, h4, h5⟩ := h
  exact ⟨mb, h1, h2, h3.below hb, h4.below hb, ownsMap_below h5 hb⟩
set_option maxHeartbeats 8000000 in
theorem shelfOf_any (s : Int) (b n cap : Nat) (A : Nat → Kp) (w : World) (ha : KoAt w b n A) (hs : SmallKs n A) (hcap : ∀ i, i < n → (A i).fn ≤ (A i).fc) (hnc : n ≤ cap) :
    Calls Tryz.prog 31 #[caV s (.slice (some ⟨b, 0, none⟩) n cap)] w fun e w' => ∃ p, e = .returned (.tuple #[.pointer (some ⟨p, 0, none⟩), .int .i64 (cacheC s n A)]) ∧ Below w.heap.size w w' ∧ (cacheC s n A = 0 → ShK w' w.heap.size p s n A) := by
  have HA : Hid (KoAt w b n A) := ha
  have HS : Hid (SmallKs n A) := hs
  have HC : Hid (∀ i, i < n → (A i).fn ≤ (A i).fc) := hcap
  have hn : n ≤ 1048576 := hs.1
  have hmk := fun (t : TypeId) (w : World) => run_makeMap (P := Tryz.prog) t w
  have hI := fun W => isSize_any s W
  clear ha hs hcap
  cases hin : inB s 1 10 <;> simp only [hin] at hI
  · have hz : Hid (cacheC s n A = 3) := by show _ = _; unfold cacheC; rw [hin]; rfl
    go_enter Tryz.func31, Tryz.ntmps31
    go_wp2_with (go_at_call 58; refine (hI _).mono ?_; rintro e w' ⟨rfl, rfl⟩)
    refine bodyPost_ret (v := .tuple #[.pointer (some ⟨w.heap.size + 2, 0, none⟩), .int .i64 3]) (by simp [results, Tryz.results31, go_sem]) rfl ?_
    exact ⟨_, by rw [hz.out], by (repeat (first | exact Below.refl _ _ | assumption | refine Below.drew ?_ | refine bl_alloc ?_ _ | refine bl_then ?_ (by assumption) | refine Below.setCell ?_ (by first | omega | (simp; done) | (simp; omega)) _ | refine bl_store ?_ ?_ _ _)), fun h => absurd h (by rw [hz.out]; decide)⟩
  by_cases hsn : s < (n : Int)
  · have hz : Hid (cacheC s n A = 2) := by show _ = _; unfold cacheC; rw [if_pos hin, if_pos hsn]
    go_enter Tryz.func31, Tryz.ntmps31
    go_wp2_with (go_at_call 58; refine (hI _).mono ?_; rintro e w' ⟨rfl, rfl⟩)
    refine bodyPost_ret (v := .tuple #[.pointer (some ⟨w.heap.size + 2, 0, none⟩), .int .i64 2]) (by simp [results, Tryz.results31, go_sem]) rfl ?_
    exact ⟨_, by rw [hz.out], by (repeat (first | exact Below.refl _ _ | assumption | refine Below.drew ?_ | refine bl_alloc ?_ _ | refine bl_then ?_ (by assumption) | refine Below.setCell ?_ (by first | omega | (simp; done) | (simp; omega)) _ | refine bl_store ?_ ?_ _ _)), fun h => absurd h (by rw [hz.out]; decide)⟩
  have hz : Hid (cacheC s n A = scanC (kC A) 0 n) := by show _ = _; unfold cacheC; rw [if_pos hin, if_neg hsn]
  have hs10 : s ≤ 10 := by simp [inB] at hin; exact hin.2
  have hn10 : n ≤ 10 := by omega
  go_enter Tryz.func31, Tryz.ntmps31
  go_wp2_with (go_at_call 58; refine (hI _).mono ?_; rintro e w' ⟨rfl, rfl⟩)
  generalize hW : (((w.alloc _).alloc _).alloc _ : World) = W
  have HB0 : Hid (Below w.heap.size w W) := by show Below _ _ _; subst hW; (repeat (first | exact Below.refl _ _ | assumption | refine Below.drew ?_ | refine bl_alloc ?_ _ | refine bl_then ?_ (by assumption) | refine Below.setCell ?_ (by first | omega | (simp; done) | (simp; omega)) _ | refine bl_store ?_ ?_ _ _))
  have HK0 : Hid (ShA W (w.heap.size + 2) s 0 (w.heap.size + 1) ∧ There W (w.heap.size + 2) 3 ∧ W.ownsMap Tryz.prog 39 RV (w.heap.size + 1) 0 (DataW.map [])) := by
    show _ ∧ _ ∧ _
    subst hW
    refine ⟨⟨?_, ?_, ?_⟩, ?_, ?_⟩
    · simp [go_sem]
    · simp [go_sem]
    · simp [go_sem]
    · have := shelf3 ((w.alloc (.cells #[.int .i64 s, .slice (some ⟨b, 0, none⟩) n cap] 34)).alloc (.map #[] 0)) (.int .i64 s) (.int .i64 0) (.map (some (w.heap.size + 1))) 105
      simpa using this
    · have := (World.ownsMap_made (w.alloc (.cells #[.int .i64 s, .slice (some ⟨b, 0, none⟩) n cap] 34)) Tryz.prog 39 RV).alloc (.cells #[.int .i64 s, .int .i64 0, .map (some (w.heap.size + 1))] 105)
      simpa using this
  have hle : w.heap.size + 2 < W.heap.size := by subst hW; simp
  clear hW hmk hI
  generalize hp : w.heap.size + 2 = p at *
  generalize hq : w.heap.size + 1 = mb at *
  have hpB : w.heap.size ≤ p := by omega
  have hmB : w.heap.size ≤ mb := by omega
  clear hp hq
  go_loopw [28] (fun v wr => ∃ k : Nat, k ≤ n ∧ v = .int .i64 k ∧ (∀ j, j < k → kC A j = 0) ∧ ShA wr p s (k : Int) mb ∧ There wr p 3 ∧ wr.ownsMap Tryz.prog 39 RV mb k (shD A k) ∧ Below w.heap.size w wr) (fun v _ => n - (intOf v).toNat)
  case atStart => exact ⟨0, by omega, rfl, by omega, HK0.out.1, HK0.out.2.1, HK0.out.2.2, HB0.out⟩
  case round =>
    obtain ⟨k, hk, rfl, hA, hS1, hT1, hM1, hB⟩ := hrel
    have HB : Hid (Below w.heap.size w wr) := hB
    have HZ : Hid (∀ j, j < k → kC A j = 0) := hA
    have HSh : Hid (ShA wr p s (k : Int) mb) := hS1
    have HTh : Hid (There wr p 3) := hT1
    have HMp : Hid (wr.ownsMap Tryz.prog 39 RV mb k (shD A k)) := hM1
    have hpl : p < wr.heap.size := World.block_lt_of_cell? _ _ hS1.1
    have hml : mb < wr.heap.size := hM1.lt
    clear hA hS1 hT1 hM1 HK0 HB0 hle
    by_cases hlt : k < n
    · have HLT : Hid (k < n) := hlt
      have first : Hid (∀ c, kC A k = c → c ≠ 0 → cacheC s n A = c) := fun c hc h0 => by
        rw [hz.out, scan_first (kC A) n 0 k (fun j _ hj => HZ.out j hj) (by omega) (by have := HLT.out; omega) (by rw [hc]; exact h0), hc]
      have HOK : Hid (kC A k = 0 → ∀ j, j < k + 1 → kC A j = 0) := fun h0 j hj => by
        by_cases e : j = k
        · rw [e]; exact h0
        · exact HZ.out j (by omega)
      have HR : Hid (KoAt wr b n A) := HA.out.below hB
      have HSm : Hid (SmallK (A k)) := HS.out.2 k hlt
      have HCp : Hid ((A k).fn ≤ (A k).fc) := HC.out k hlt
      have HEq : Hid (fK (shD A k) (A k) = kC A k) := fK_kC HZ.out
      have HSz : Hid (kC A k = 0 → (Maps.size (putD (shD A k) (A k) ((k : Int) + 1)) : Int) ≤ s) := fun h0 => by
        have : Maps.size (putD (shD A k) (A k) ((k : Int) + 1)) = k + 1 := shD_size (k + 1) (HOK.out h0)
        rw [this]; omega
      obtain ⟨⟨q0, q1, q2, q3, q4⟩, _, _⟩ := HR.out.2 k hlt
      have hi : (k : Int) < (n : Int) := by omega
      have hi0 : (0 : Int) ≤ (k : Int) := by omega
      clear hB
      go_wp2_with fail
      generalize hV : (wr.alloc _ : World) = V
      have HBV : Hid (Below wr.heap.size wr V) := by show Below _ _ _; subst hV; (repeat (first | exact Below.refl _ _ | assumption | refine Below.drew ?_ | refine bl_alloc ?_ _ | refine bl_then ?_ (by assumption) | refine Below.setCell ?_ (by first | omega | (simp; done) | (simp; omega)) _ | refine bl_store ?_ ?_ _ _))
      have HKV : Hid (KpAt V wr.heap.size 0 (A k)) := by
        show KpAt _ _ _ _
        subst hV
        refine ⟨?_, ?_, ?_, ?_, ?_⟩ <;> simp [go_sem]
      have hvl : wr.heap.size < V.heap.size := World.block_lt_of_cell? _ _ HKV.out.1
      clear hV q0 q1 q2 q3 q4
      obtain ⟨_, ⟨fb, ef, hfl, hft⟩, hids⟩ := (HR.out.below HBV.out).2 k hlt
      have HF : Hid (Calls Tryz.prog 59 #[.pointer (some ⟨p, 0, none⟩), kpV (A k)] V fun e w' => e = .returned (.int .i64 (kC A k)) ∧ Below V.heap.size V w') := by
        have := shelfFault_any p mb k s (k : Int) (shD A k) (A k) fb V (HSh.out.below HBV.out) (ownsMap_below HMp.out HBV.out) ef hfl hft hids HSm.out HCp.out
        rw [HEq.out] at this
        exact this
      clear ef hfl hft hids
      refine Calls.mono HF.out ?_
      rintro e w1 ⟨rfl, hb1⟩
      have HB1 : Hid (Below wr.heap.size wr w1) := bl_then HBV.out hb1
      obtain ⟨u0, u1, u2, u3, u4⟩ := HKV.out.below hb1 hvl
      simp only [Nat.zero_add] at u0 u1 u2 u3 u4
      clear hb1 HF HKV HBV
      by_cases h0 : kC A k = 0
      · obtain ⟨iz, ix, iy⟩ := tC_I64 (kC_zero h0).1
        have HPut := (show Hid _ from shelfPut_ok p mb k s (k : Int) (shD A k) (A k) w1 (HSh.out.below HB1.out) (HTh.out.below HB1.out) (ownsMap_below HMp.out HB1.out) iz ix iy (by omega) (by omega) (by omega) (HSz.out h0))
        have HOk2 : Hid (∀ j, j < k + 1 → kC A j = 0) := HOK.out h0
        rw [h0]
        clear h0 iz ix iy first HOK HSz HEq
        go_wp2_with fail
        refine Calls.mono HPut.out ?_
        rintro e w2 ⟨rfl, hs2, ht2, hm2, hb2⟩
        have HB2 : Hid (Below w.heap.size w w2) := (bl_then HB.out HB1.out).trans (hb2 _ hpB hmB)
        have HE2 : Hid (ShA w2 p s ((k + 1 : Nat) : Int) mb ∧ There w2 p 3 ∧ w2.ownsMap Tryz.prog 39 RV mb (k + 1) (shD A (k + 1))) := ⟨by rw [show ((k + 1 : Nat) : Int) = (k : Int) + 1 by omega]; exact hs2, ht2, hm2⟩
        clear hs2 ht2 hm2 hb2
        go_wp2_with fail
        go_roundw
        case rel => exact ⟨k + 1, by have := HLT.out; omega, by go_num, HOk2.out, HE2.out.1, HE2.out.2.1, HE2.out.2.2, HB2.out⟩
        case measure => have := HLT.out; simp [intOf]; omega
      · have hsc : Hid (cacheC s n A = kC A k) := first.out _ rfl h0
        have hcb : (kC A k == 0) = false := by simpa using h0
        generalize kC A k = rc at *
        go_wp2_with fail
        refine bodyPost_ret (v := .tuple #[.pointer (some ⟨p, 0, none⟩), .int .i64 rc]) (by simp [results, Tryz.results31, go_sem]) rfl ?_
        exact ⟨_, by rw [hsc.out], bl_then HB.out HB1.out, fun h => absurd (hsc.out.symm.trans h) h0⟩
    · have hsc : Hid (cacheC s n A = 0) := by
        show _ = _
        rw [hz.out]
        exact scan_none _ _ _ (fun j _ hj => HZ.out j (by omega))
      obtain rfl : n = k := by omega
      go_wp2_with fail
      refine bodyPost_ret (v := .tuple #[.pointer (some ⟨p, 0, none⟩), .int .i64 0]) (by simp [results, Tryz.results31, go_sem]) rfl ?_
      exact ⟨_, by rw [hsc.out], HB.out, fun _ => ⟨mb, hpB, hmB, HSh.out, HTh.out, HMp.out⟩⟩
/-- The code of a shelf in which a tile is asked for. -/
noncomputable def withC (s : Int) (n : Nat) (K : Nat → Kp) (z x y : Int) : Int := if cacheC s n K = 0 then (if 0 ≤ atK n K z x y then 0 else 4) else cacheC s n K
theorem cacheC_zero {s : Int} {n : Nat} {A : Nat → Kp} (h : cacheC s n A = 0) : ∀ j, j < n → kC A j = 0 := by
  unfold cacheC at h
  split at h
  · split at h
    · cases h
    · intro j hj
      by_cases h0 : kC A j = 0
      · exact h0
      · exact absurd h (by
          obtain ⟨i, hi, hne, hall⟩ : ∃ i, i ≤ j ∧ kC A i ≠ 0 ∧ ∀ l, l < i → kC A l = 0 := by
            have : ∀ m, (∃ i, i ≤ m ∧ kC A i ≠ 0) → ∃ i, i ≤ m ∧ kC A i ≠ 0 ∧ ∀ l, l < i → kC A l = 0 := by
              intro m
              induction m with
              | zero => rintro ⟨i, hi, h⟩; exact ⟨i, hi, h, fun l hl => by omega⟩
              | succ m ih =>
                rintro ⟨i, hi, h⟩
                by_cases hx : ∃ i, i ≤ m ∧ kC A i ≠ 0
                · obtain ⟨i, h1, h2⟩ := ih hx; exact ⟨i, by omega, h2⟩
                · refine ⟨i, hi, h, fun l hl => ?_⟩
                  by_cases e : kC A l = 0
                  · exact e
                  · exact absurd ⟨l, by omega, e⟩ hx
            exact this j ⟨j, Nat.le_refl _, h0⟩
          rw [scan_first (kC A) n 0 i (fun l _ hl => hall l hl) (by omega) (by omega) hne]
          exact hne)
  · cases h
set_option maxHeartbeats 4000000 in
theorem shelfWith_any (s : Int) (b n cap : Nat) (A : Nat → Kp) (z x y : Int) (w : World) (ha : KoAt w b n A) (hs : SmallKs n A) (hcap : ∀ i, i < n → (A i).fn ≤ (A i).fc) (hnc : n ≤ cap) (hz : I64 z) (hx : I64 x) (hy : I64 y) :
    Calls Tryz.prog 43 #[caV s (.slice (some ⟨b, 0, none⟩) n cap), refV z x y] w fun e w' => ∃ p, e = .returned (.tuple #[.pointer (some ⟨p, 0, none⟩), .int .i64 (withC s n A z x y)]) ∧ Below w.heap.size w w' ∧ (cacheC s n A = 0 → ShK w' w.heap.size p s n A) := by
  have HF : Hid (∀ W, Below w.heap.size w W → Calls Tryz.prog 31 #[caV s (.slice (some ⟨b, 0, none⟩) n cap)] W fun e w' => ∃ p, e = .returned (.tuple #[.pointer (some ⟨p, 0, none⟩), .int .i64 (cacheC s n A)]) ∧ Below W.heap.size W w' ∧ (cacheC s n A = 0 → ShK w' W.heap.size p s n A)) := fun W h => shelfOf_any s b n cap A W (ha.below h) hs hcap hnc
  have HH : Hid (cacheC s n A = 0 → ∀ p W B, ShK W B p s n A → Calls Tryz.prog 77 #[.pointer (some ⟨p, 0, none⟩), refV z x y] W fun e w' => e = .returned (.bool (decide (0 ≤ atK n A z x y))) ∧ Below W.heap.size W w') := fun h0 p W B hK => by
    obtain ⟨mb, h1, h2, h3, h4, h5⟩ := hK
    have := shelfHas_any p mb n s (n : Int) (shD A n) z x y W h3 h5 hz hx hy
    rw [shD_has hz hx hy n (Rgt_of (cacheC_zero h0))] at this
    exact this
  clear ha hs hcap hnc hz hx hy
  by_cases h0 : cacheC s n A = 0
  · have hk : Hid (withC s n A z x y = if 0 ≤ atK n A z x y then 0 else 4) := by show _ = _; unfold withC; rw [if_pos h0]
    have HH2 : Hid (∀ p W B, ShK W B p s n A → Calls Tryz.prog 77 #[.pointer (some ⟨p, 0, none⟩), refV z x y] W fun e w' => e = .returned (.bool (decide (0 ≤ atK n A z x y))) ∧ Below W.heap.size W w') := HH.out h0
    rw [h0] at HF
    clear h0 HH
    go_enter Tryz.func43, Tryz.ntmps43
    go_wp2_with fail
    generalize hW : ((w.alloc _).alloc _ : World) = W
    have HB0 : Hid (Below w.heap.size w W) := by show Below _ _ _; subst hW; (repeat (first | exact Below.refl _ _ | assumption | refine Below.drew ?_ | refine bl_alloc ?_ _ | refine bl_then ?_ (by assumption) | refine Below.setCell ?_ (by first | omega | (simp; done) | (simp; omega)) _ | refine bl_store ?_ ?_ _ _))
    have HR : Hid (RK W (w.heap.size + 1) z x y) := by show RK _ _ _ _ _; subst hW; refine ⟨?_, ?_, ?_⟩ <;> simp [go_sem]
    clear hW
    refine Calls.mono (HF.out W HB0.out) ?_
    rintro e w1 ⟨p, rfl, hb1, hK1⟩
    have HK1 : Hid (ShK w1 w.heap.size p s n A) := by
      obtain ⟨mb, h1, h2, h3⟩ := hK1 (by trivial)
      exact ⟨mb, Nat.le_trans HB0.out.size h1, Nat.le_trans HB0.out.size h2, h3⟩
    have HB1 : Hid (Below w.heap.size w w1) := bl_then HB0.out hb1
    obtain ⟨r0, r1, r2⟩ := HR.out.below hb1
    clear hb1 hK1
    cases hd : decide (0 ≤ atK n A z x y)
    · have HC : Hid (withC s n A z x y = 4) := by show _ = _; rw [hk.out, if_neg (of_decide_eq_false hd)]
      have HH3 := (show Hid _ from HH2.out p w1 _ HK1.out)
      rw [hd] at HH3
      clear hd HH2
      go_wp2_with fail
      refine Calls.mono HH3.out ?_
      rintro e w2 ⟨rfl, hb2⟩
      go_wp2
      refine bodyPost_ret (v := .tuple #[.pointer (some ⟨p, 0, none⟩), .int .i64 4]) (by simp [results, Tryz.results43, go_sem]) rfl ?_
      exact ⟨p, by rw [HC.out], bl_then HB1.out hb2, fun _ => HK1.out.below hb2⟩
    · have HC : Hid (withC s n A z x y = 0) := by show _ = _; rw [hk.out, if_pos (of_decide_eq_true hd)]
      have HH3 := (show Hid _ from HH2.out p w1 _ HK1.out)
      rw [hd] at HH3
      clear hd HH2
      go_wp2_with fail
      refine Calls.mono HH3.out ?_
      rintro e w2 ⟨rfl, hb2⟩
      go_wp2
      refine bodyPost_ret (v := .tuple #[.pointer (some ⟨p, 0, none⟩), .int .i64 0]) (by simp [results, Tryz.results43, go_sem]) rfl ?_
      exact ⟨p, by rw [HC.out], bl_then HB1.out hb2, fun _ => HK1.out.below hb2⟩
  · have hk : Hid (withC s n A z x y = cacheC s n A) := by show _ = _; unfold withC; rw [if_neg h0]
    have HN : Hid (cacheC s n A ≠ 0) := h0
    have hcb : (cacheC s n A == 0) = false := by simpa using h0
    clear h0 HH
    generalize withC s n A z x y = B at *
    generalize cacheC s n A = rc at *
    go_enter Tryz.func43, Tryz.ntmps43
    go_wp2_with fail
    generalize hW : ((w.alloc _).alloc _ : World) = W
    have HB0 : Hid (Below w.heap.size w W) := by show Below _ _ _; subst hW; (repeat (first | exact Below.refl _ _ | assumption | refine Below.drew ?_ | refine bl_alloc ?_ _ | refine bl_then ?_ (by assumption) | refine Below.setCell ?_ (by first | omega | (simp; done) | (simp; omega)) _ | refine bl_store ?_ ?_ _ _))
    clear hW
    refine Calls.mono (HF.out W HB0.out) ?_
    rintro e w1 ⟨p, rfl, hb1, hK1⟩
    have HB1 : Hid (Below w.heap.size w w1) := bl_then HB0.out hb1
    clear hb1 hK1
    go_wp2
    refine bodyPost_ret (v := .tuple #[.pointer (some ⟨p, 0, none⟩), .int .i64 rc]) (by simp [results, Tryz.results43, go_sem]) rfl ?_
    exact ⟨p, by rw [hk.out], HB1.out, fun h => absurd h HN.out⟩
end Go.Proofs.YtciidkmonfmipaaGreat
/- The tiles of a shelf, told one by one in some order. -/

namespace Go.Proofs.YtciidkmonfmipaaGreat
open Go.RowKit Go.Shelf Go.Maps Go.Sort
attribute [local go_sem] Oper.semAt_some
set_option linter.unusedSimpArgs false
set_option linter.unusedVariables false
set_option maxRecDepth 100000

/-- A tile that is kept, with its turn. -/
structure Ag where
  z : Int
  x : Int
  y : Int
  fa : Option Addr
  fn : Nat
  fc : Nat
  ia : Option Addr
  m : Nat
  ic : Nat
  t : Int
abbrev agW (a : Ag) : Value := agV a.z a.x a.y a.fa a.fn a.fc a.ia a.m a.ic a.t
theorem agW_inj {a b : Ag} (h : agW a = agW b) : a = b := by
  cases a; cases b
  simp at h
  simp [h]
theorem RV_ag {v : Value} {y : DataW Value × List MemPlace} (h : RV v = some y) : ∃ c : Ag, v = agW c := by
  obtain ⟨_, z, x, y, fa, fn, fc, ia, m, ic, t, rfl⟩ := RV_inv (d := y.1) (ps := y.2) h
  exact ⟨⟨z, x, y, fa, fn, fc, ia, m, ic, t⟩, rfl⟩
/-- What a key is. -/
theorem key_str {P : Program} {k : TypeId} {fs : Array Field} {key : Value} {kl : Lit} (hu : P.underlying k = some (.struct fs)) (h : keyOf P k key = some kl) : ∃ x : List UInt8, kl = .string x := by
  unfold keyOf at h
  rw [hu] at h
  simp at h
  obtain ⟨_, a, _, e⟩ := h
  exact ⟨_, e.symm⟩
/-- All have come: the keys, each once; each with its element. -/
def AllV (D0 : DataW Value) (ps : List (List UInt8 × Ag)) : Prop := (ps.map (·.1)).Nodup ∧ (∀ x, x ∈ ps.map (·.1) ↔ has D0 (.string x) = true) ∧ ∀ p ∈ ps, ∀ zd, D0.atKey (.string p.1) zd = .held (agW p.2)
set_option maxHeartbeats 2000000 in
theorem values1_in (l Bm b nn : Nat) (D0 : DataW Value) (J Jx : List Ag → World → Prop)
    (hY : ∀ pre x W, J pre W → pre.length < Maps.size D0 → YieldAt Fence.wide 2 Tryz.prog l #[agW x] W fun e W' =>
      (e = .returned (.bool true) ∧ J (pre ++ [x]) W' ∧ KeepsWalks W W') ∨ (e = .returned (.bool false) ∧ Jx (pre ++ [x]) W'))
    (W : World) (hJ : AbidesFrom W.heap.size J) (hm : W.cell? ⟨Bm, 0, none⟩ = some (.map (some b))) (hown : W.ownsMap Tryz.prog 39 RV b nn D0) (h0 : J [] W) :
    CallsIn Fence.wide 3 Tryz.prog 130 #[.func (.yield l) #[] #[], .pointer (some ⟨Bm, 0, none⟩)] W fun e W' => (∃ v, e = .returned v) ∧
      ((∃ xs, (∃ ps, AllV D0 ps ∧ xs = ps.map (·.2)) ∧ J xs W') ∨ (∃ pre, True ∧ Jx pre W')) := by
  refine callsIn_of_wp Tryz.func130 rfl trivial ?_ rfl
  simp only [Tryz.ntmps130, List.size_toArray, List.length_cons, List.length_nil, Nat.reduceAdd, Nat.reduceSub, Array.replicate_succ, Array.replicate_zero, List.push_toArray, List.append_toArray, List.nil_append, List.cons_append]
  gi_wp2_with (first
    | (gi_at_range; refine wpListIn_range_own _ rfl _ 103 rfl 39 125 keyed_ref Tryz.underlying103 _ b nn _ rfl hown ?_; intro w0 hrg0 hg0 hs0)
    | gi_in)
  go_frame
  gi_loopw [] (fun wr => ∃ (left : Lit → Bool) (cnt : Nat) (ps : List (List UInt8 × Ag)), wr.ranges Tryz.prog 39 RV b W.heap.size nn D0 left cnt ∧ ps.length + cnt ≤ Maps.size D0 ∧ Collected D0 left (ps.map (·.1)) ∧ (∀ p ∈ ps, ∀ zd, D0.atKey (.string p.1) zd = .held (agW p.2)) ∧ J (ps.map (·.2)) wr)
    (fun wr => wr.rangeLeft b W.heap.size)
  case atStart =>
    exact ⟨_, _, [], hrg0, by simp, Collected.start D0, by simp, hJ [] W w0 none h0 hg0 (fun r e => by cases e)⟩
  case round =>
    obtain ⟨left, cnt, ps, hrg, hcs, hC, hV, hJs⟩ := hrel
    gi_wp2_with (first
      | (gi_at_next; refine wpListIn_next_ranges _ rfl _ rfl 39 keyed_ref RV id agW (fun key kl hk => ⟨key, rfl⟩) (fun v y hv => RV_ag hv) b W.heap.size nn _ _ _ rfl hrg ?_ ?_)
      | gi_in)
    · intro hc0 hl0
      gi_wp2
      go_end0
      exact ⟨⟨_, rfl⟩, .inl ⟨_, ⟨ps, ⟨hC.1, fun x => by rw [hC.2 x, hl0]; simp, hV⟩, rfl⟩, hJs⟩⟩
    · intro x c kl yd yp w2 cnt2 hkey hlk hv hat hrg2 hlt hg2 hs2 hen
      obtain ⟨xb, rfl⟩ := key_str Tryz.underlying39 hkey
      have hy1 : yd = .held (agW c) := (RV_inv hv).1
      have hJ2 : J (ps.map (·.2)) w2 := hJ _ wr w2 (some W.heap.size) hJs hg2 (fun r e => by cases e; exact ⟨Nat.le_refl _, hrg.iter_walk⟩)
      have hJa : J (ps.map (·.2)) (w2.alloc (.cells #[.int .i64 c.z, .int .i64 c.x, .int .i64 c.y, .slice c.fa c.fn c.fc, .slice c.ia c.m c.ic, .int .i64 c.t] 125)) := hJ _ _ _ none hJ2 (World.grownBy_alloc _ _ _) (fun r e => by cases e)
      obtain ⟨fn, tmps, assign, body, hy, hR⟩ := hY (ps.map (·.2)) c _ hJa (by simp; omega)
      clear hs2
      gi_wp2
      refine hR.mono ?_
      have hC2 : Collected D0 (fun z => left z && !z.sameKey (.string xb)) ((ps ++ [(xb, c)]).map (·.1)) := by simpa using hC.step hlk hat
      have hV2 : ∀ p ∈ ps ++ [(xb, c)], ∀ zd, D0.atKey (.string p.1) zd = .held (agW p.2) := fun p hp => (List.mem_append.1 hp).elim (hV p) (fun e => by simp at e; subst e; intro zd; rw [hat zd, hy1])
      rintro e W3 (⟨rfl, hJ3, hk3⟩ | ⟨rfl, hJx3⟩)
      · gi_wp2
        have hrg3 := (hrg2.alloc _).of_walks hk3
        go_roundw
        case rel => exact ⟨_, cnt2, ps ++ [(xb, c)], hrg3, by simp; omega, hC2, hV2, by simpa using hJ3⟩
        case measure => rw [hrg3.left_eq, hrg.left_eq]; exact hlt
      · gi_wp2
        refine bodyPost_ret (results_none rfl _ _ _) rfl ?_
        exact ⟨⟨_, rfl⟩, .inr ⟨_, trivial, hJx3⟩⟩
end Go.Proofs.YtciidkmonfmipaaGreat
