/- The model's SnapAll. -/
import Derived.Test.YtdmlgfifiicmpabSl
namespace Go.Proofs.Ytdmlgfifiicmpab
open Go.RowKit
set_option linter.unusedSimpArgs false
set_option linter.unusedVariables false

/-- All points are in the world. -/
def allIn (n : Nat) (X Y : Nat → Int) : Bool := decide (∀ i, i < n → inW (X i) (Y i) = true)
/-- The code of SnapAll. -/
def snapC (z : Int) (n : Nat) (X Y : Nat → Int) : Int := if zoomB z = true then (if n ≤ 12 then (if allIn n X Y = true then 0 else 3) else 2) else 3
/-- The points that SnapAll answers. -/
def snapR (z : Int) (n : Nat) (X Y : Nat → Int) : List (Int × Int) := if snapC z n X Y = 0 then snapL X Y z n else []
theorem snapR_no {z : Int} {n : Nat} {X Y : Nat → Int} (h : snapC z n X Y ≠ 0) : snapR z n X Y = [] := by simp [snapR, h]
theorem Row.no (base : Nat) (w : World) : Row base w (.slice none 0 0) [] := World.ownsRow_nil _ _ _ _
theorem allIn_no {n : Nat} {X Y : Nat → Int} {k : Nat} (hk : k < n) (h : inW (X k) (Y k) = false) : allIn n X Y = false := by
  unfold allIn
  rw [decide_eq_false_iff_not]
  intro hc
  have := hc k hk
  rw [h] at this
  cases this
theorem allIn_ok {n : Nat} {X Y : Nat → Int} (h : ∀ i, i < n → inW (X i) (Y i) = true) : allIn n X Y = true := decide_eq_true h

/-- A row is as it was, with another base, where another block was written. -/
theorem Row.set2 {base B r : Nat} {w : World} {v : Value} {l : List (Int × Int)} {x y : Value} (h : Row base w v l) (hB : B ≤ base ∧ r < base) : Row B ((w.setCell ⟨r, 0, none⟩ x).setCell ⟨r, 1, none⟩ y) v l := by
  obtain ⟨h1, h2 | ⟨g, cp, cur, hv, hg, hh, hr⟩⟩ := h
  · exact ⟨h1, .inl h2⟩
  · refine ⟨h1, .inr ⟨g, cp, cur, hv, by omega, ?_, hr⟩⟩
    rw [Below.heap_setCell _ _ _ _ (by simp; omega), Below.heap_setCell _ _ _ _ (by simp; omega)]
    exact hh

set_option maxRecDepth 8000 in
set_option maxHeartbeats 4000000 in
theorem spec_SnapAll_any (b n cap : Nat) (X Y : Nat → Int) (z : Int) (w : World) (hp : PtsAt w b 0 n X Y) (hbl : b < w.heap.size) (hn : n ≤ 1048576) :
    Calls Try.prog 12 #[.slice (some ⟨b, 0, none⟩) n cap, .int .i64 z] w fun e w' => ∃ v, e = .returned (.agg #[.int .i64 (snapC z n X Y), v]) ∧ Row w.heap.size w' v (snapR z n X Y) ∧ Below w.heap.size w w' := by
  have HP : Hid (PtsAt w b 0 n X Y) := hp
  clear hp
  go_enter Try.func12, Try.ntmps12
  go_wp2_with fail
  generalize hW : (w.alloc _ : World) = W
  have HB0 : Hid (Below w.heap.size w W) := by show Below _ _ _; subst hW; (repeat (first | exact Below.refl _ _ | assumption | refine Below.drew ?_ | refine bl_alloc ?_ _ | refine bl_then ?_ (by assumption) | refine Below.setCell ?_ (by first | omega | (simp; done) | (simp; omega)) _ | refine bl_store ?_ ?_ _ _))
  have HT : Hid (There W w.heap.size 2) := by
    show There _ _ _
    subst hW
    exact there2 w (.int .i64 0) (.slice none 0 0) 35
  have hsz : w.heap.size < W.heap.size := by subst hW; simp
  clear hW
  have hr : Below W.heap.size W W := Below.refl _ _
  refine (l3Zoom_any _ _).mono ?_
  rintro e w' ⟨rfl, rfl⟩
  cases h : zoomB z
  · have hc : snapC z n X Y = 3 := by simp [snapC, h]
    have hT' := HT.out
    have t0 := hT'.cell 0 (by omega)
    have t1 := hT'.cell 1 (by omega)
    have f0 := (hT' 0 (by omega)).2
    have f1 := (hT' 1 (by omega)).2
    clear hT'
    go_wp2_with fail
    refine bodyPost_ret (v := .agg #[.int .i64 3, .slice none 0 0]) (by simp [results, Try.results12, go_sem, set2_0 (Option.isSome_iff_exists.2 ⟨_, t0⟩), set2_1 (Option.isSome_iff_exists.2 ⟨_, t1⟩)]) rfl ⟨.slice none 0 0, by rw [hc], by rw [snapR_no (by rw [hc]; decide)]; exact Row.no _ _, ?_⟩
    have HB1 := HB0.out
    (repeat (first | exact Below.refl _ _ | assumption | refine Below.drew ?_ | refine bl_alloc ?_ _ | refine bl_then ?_ (by assumption) | refine Below.setCell ?_ (by first | omega | (simp; done) | (simp; omega)) _ | refine bl_store ?_ ?_ _ _))
  · by_cases h12 : 12 < n
    · have hc : snapC z n X Y = 2 := by simp [snapC, h]; omega
      have hT' := HT.out
      have t0 := hT'.cell 0 (by omega)
      have t1 := hT'.cell 1 (by omega)
      have f0 := (hT' 0 (by omega)).2
      have f1 := (hT' 1 (by omega)).2
      have hni : (12 : Int) < (n : Int) := by omega
      clear hT'
      go_wp2_with fail
      refine bodyPost_ret (v := .agg #[.int .i64 2, .slice none 0 0]) (by simp [results, Try.results12, go_sem, set2_0 (Option.isSome_iff_exists.2 ⟨_, t0⟩), set2_1 (Option.isSome_iff_exists.2 ⟨_, t1⟩)]) rfl ⟨.slice none 0 0, by rw [hc], by rw [snapR_no (by rw [hc]; decide)]; exact Row.no _ _, ?_⟩
      have HB1 := HB0.out
      (repeat (first | exact Below.refl _ _ | assumption | refine Below.drew ?_ | refine bl_alloc ?_ _ | refine bl_then ?_ (by assumption) | refine Below.setCell ?_ (by first | omega | (simp; done) | (simp; omega)) _ | refine bl_store ?_ ?_ _ _))
    · have hni : ¬ (12 : Int) < (n : Int) := by omega
      go_wp2_with fail
      go_loopw [5] (fun i wr => ∃ k : Nat, k ≤ n ∧ i = .int .i64 (k : Int) ∧ (∀ j, j < k → inW (X j) (Y j) = true) ∧ Below W.heap.size W wr) (fun i _ => n - (intOf i).toNat)
      case atStart => exact ⟨0, by omega, rfl, fun j hj => by omega, Below.refl _ _⟩
      case round =>
        obtain ⟨k, hk, rfl, hall, hB⟩ := hrel
        have HALL : Hid (∀ j, j < k → inW (X j) (Y j) = true) := hall
        have HBw : Hid (Below w.heap.size w wr) := bl_then HB0.out hB
        have HTw : Hid (There wr w.heap.size 2) := HT.out.below hB
        have hszw := hB.size
        have HBr : Hid (Below W.heap.size W wr) := hB
        clear hall hB
        by_cases hlt : k < n
        · obtain ⟨hx, hy⟩ := (HP.out.below HBw.out hbl) k hlt
          simp only [Nat.zero_add] at hx hy
          have hi' : (k : Int) < (n : Int) := by omega
          go_wp2_with fail
          refine (l3World_any _ _ _).mono ?_
          rintro e w1 ⟨rfl, hb1⟩
          have HB1 : Hid (Below w.heap.size w w1) := bl_then HBw.out hb1
          have HT1 : Hid (There w1 w.heap.size 2) := HTw.out.below hb1
          cases hq : inW (X k) (Y k)
          · have hc : snapC z n X Y = 3 := by simp [snapC, h, allIn_no hlt hq]; omega
            have hT' := HT1.out
            have t0 := hT'.cell 0 (by omega)
            have t1 := hT'.cell 1 (by omega)
            have f0 := (hT' 0 (by omega)).2
            have f1 := (hT' 1 (by omega)).2
            have hsz1 := hb1.size
            clear hT' hb1
            go_wp2_with fail
            refine bodyPost_ret (v := .agg #[.int .i64 3, .slice none 0 0]) (by simp [results, Try.results12, go_sem, set2_0 (Option.isSome_iff_exists.2 ⟨_, t0⟩), set2_1 (Option.isSome_iff_exists.2 ⟨_, t1⟩)]) rfl ⟨.slice none 0 0, by rw [hc], by rw [snapR_no (by rw [hc]; decide)]; exact Row.no _ _, ?_⟩
            have HB2 := HB1.out
            (repeat (first | exact Below.refl _ _ | assumption | refine Below.drew ?_ | refine bl_alloc ?_ _ | refine bl_then ?_ (by assumption) | refine Below.setCell ?_ (by first | omega | (simp; done) | (simp; omega)) _ | refine bl_store ?_ ?_ _ _))
          · have HBW : Hid (Below W.heap.size W w1) := bl_then HBr.out hb1
            clear hb1
            go_wp2_with fail
            go_roundw
            case rel => exact ⟨k + 1, by omega, by go_num, fun j hj => by
                by_cases e : j = k
                · rw [e]; exact hq
                · exact HALL.out j (by omega), HBW.out⟩
            case measure => simp [intOf]; omega
        · have hkn : k = n := by omega
          subst hkn
          have hc : snapC z k X Y = 0 := by simp [snapC, h, allIn_ok HALL.out]; omega
          have hcr : snapR z k X Y = snapL X Y z k := by simp [snapR, hc]
          have HC : Hid (snapC z k X Y = 0) := hc
          have HCR : Hid (snapR z k X Y = snapL X Y z k) := hcr
          clear hc hcr
          go_wp2_with fail
          refine (l3Snap_any b 0 k cap X Y z _ (HP.out.below HBw.out hbl) (Nat.lt_of_lt_of_le hbl HBw.out.size) (by omega) h HALL.out).mono ?_
          rintro e w2 ⟨v, rfl, hR, hb2⟩
          obtain ⟨av, cv, hv, _, _⟩ := hR.own
          have HR : Hid (Row wr.heap.size w2 v (snapL X Y z k)) := hR
          have HB2 : Hid (Below w.heap.size w w2) := bl_then HBw.out hb2
          have hT' := HTw.out.below hb2
          have t0 := hT'.cell 0 (by omega)
          have t1 := hT'.cell 1 (by omega)
          have f0 := (hT' 0 (by omega)).2
          have f1 := (hT' 1 (by omega)).2
          have hsz2 := hb2.size
          clear hT' hb2 hR
          generalize (snapL X Y z k).length = lv at hv
          subst hv
          go_wp2_with fail
          refine bodyPost_ret (v := .agg #[.int .i64 0, .slice av lv cv]) (by simp [results, Try.results12, go_sem, set2_0 (Option.isSome_iff_exists.2 ⟨_, t0⟩), set2_1 (Option.isSome_iff_exists.2 ⟨_, t1⟩)]) rfl ⟨_, by rw [HC.out], ?_, ?_⟩
          · rw [HCR.out]
            exact Row.set2 HR.out (by omega)
          · have HB3 := HB2.out
            (repeat (first | exact Below.refl _ _ | assumption | refine Below.drew ?_ | refine bl_alloc ?_ _ | refine bl_then ?_ (by assumption) | refine Below.setCell ?_ (by first | omega | (simp; done) | (simp; omega)) _ | refine bl_store ?_ ?_ _ _))
end Go.Proofs.Ytdmlgfifiicmpab
