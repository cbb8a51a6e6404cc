/- Several texts in one. -/
import Derived.Test.YtdohlnnbibnnbaaGreatVPlaceLabels37
import Derived.Test.YtdohlnnbibnnbaaGreatVPlaceLabels38
import Derived.WalkKit

/- The box of a feature's label: the program and the model. -/

namespace Go.Proofs.YtdohlnnbibnnbaaGreat
open Go.RowKit
set_option linter.unusedSimpArgs false
set_option linter.unusedVariables false
set_option maxRecDepth 100000

/-- The box of a label. -/
abbrev lbF (id : Int) (lab : ByteArray) (ax ay : Int) : Plc := ⟨id, ax, ay, 2 * (lab.size : Int), 3⟩
theorem there5a (w : World) (a b c d e : Value) (t : TypeId) : There (w.alloc (.cells #[a, b, c, d, e] t)) w.heap.size 5 := fun o ho => by
  have : o = 0 ∨ o = 1 ∨ o = 2 ∨ o = 3 ∨ o = 4 := by omega
  rcases this with rfl | rfl | rfl | rfl | rfl <;> exact ⟨⟨_, by simp [go_sem]; rfl⟩, by simp [go_sem]⟩
set_option maxHeartbeats 4000000 in
theorem labelAsItIs_any {off : Nat} (id la ki wi z : Int) (b n cap : Nat) (X Y : Nat → Int) (lab : ByteArray) (pr : Int) (w : World) (hp : PtsAt w b off n X Y) (hbl : b < w.heap.size) (hn0 : 0 < n) (hin : inW (X 0) (Y 0) = true) (hz : zoomB z = true) (hl : lab.size ≤ 1048576) :
    Calls Tryz.prog 34 #[.agg #[.int .i64 id, .int .i64 la, .int .i64 ki, .int .i64 wi, .slice (some ⟨b, off, none⟩) n cap, .string lab, .int .i64 pr], .int .i64 z] w fun e w' => e = .returned (plcV (lbF id lab (ancI z (X 0)) (ancI z (Y 0)))) ∧ Below w.heap.size w w' := by
  have HA : Hid (∀ W, Below w.heap.size w W → Calls Tryz.prog 69 #[.agg #[.int .i64 id, .int .i64 la, .int .i64 ki, .int .i64 wi, .slice (some ⟨b, off, none⟩) n cap, .string lab, .int .i64 pr], .int .i64 z] W fun e w' => e = .returned (.agg #[.int .i64 (ancI z (X 0)), .int .i64 (ancI z (Y 0))]) ∧ Below W.heap.size W w') := fun W h => anchorAsItIs_any id la ki wi z b n cap X Y lab pr W (hp.below h hbl) (Nat.lt_of_lt_of_le hbl h.size) hn0 hin hz
  clear hp hin hz
  generalize ancI z (X 0) = ax at *
  generalize ancI z (Y 0) = ay at *
  show Calls Tryz.prog 34 _ w fun e w' => e = .returned (.agg #[.int .i64 id, .int .i64 ax, .int .i64 ay, .int .i64 (2 * (lab.size : Int)), .int .i64 3]) ∧ Below w.heap.size w w'
  go_enter Tryz.func34, Tryz.ntmps34
  go_wp2_with fail
  generalize hW : ((w.alloc _).alloc _ : World) = W
  have HB0 : Hid (Below w.heap.size w W) := by show Below _ _ _; subst hW; (repeat (first | exact Below.refl _ _ | assumption | refine Below.drew ?_ | refine bl_alloc ?_ _ | refine bl_then ?_ (by assumption) | refine Below.setCell ?_ (by first | omega | (simp; done) | (simp; omega)) _ | refine bl_store ?_ ?_ _ _))
  have HT : Hid (There W (w.heap.size + 1) 5) := by
    show There _ _ _
    subst hW
    have := there5a (w.alloc (.cells #[.int .i64 id, .int .i64 la, .int .i64 ki, .int .i64 wi, .slice (some ⟨b, off, none⟩) n cap, .string lab, .int .i64 pr] 36)) (.int .i64 0) (.int .i64 0) (.int .i64 0) (.int .i64 0) (.int .i64 0) 38
    simpa using this
  have HF : Hid (FeatAt W w.heap.size 0 id la ki wi (.slice (some ⟨b, off, none⟩) n cap) lab pr) := by
    show FeatAt _ _ _ _ _ _ _ _ _ _
    subst hW
    refine ⟨?_, ?_, ?_, ?_, ?_, ?_, ?_⟩ <;> simp [go_sem]
  have HSZ : Hid (w.heap.size + 1 < W.heap.size) := by show _ < _; subst hW; simp
  have hlW : w.heap.size < W.heap.size := by subst hW; simp <;> omega
  clear hW
  refine (HA.out _ HB0.out).mono ?_
  rintro e w1 ⟨rfl, hb1⟩
  have hT1 := HT.out.below hb1
  have HT1 : Hid (There w1 (w.heap.size + 1) 5) := hT1
  obtain ⟨q0, _, _, _, _, q5, _⟩ := HF.out.below hb1 hlW
  simp only [Nat.zero_add] at q0 q5
  have HB1 : Hid (Below w.heap.size w w1) := bl_then HB0.out hb1
  have hs1 : w.heap.size + 1 < w1.heap.size := Nat.lt_of_lt_of_le HSZ.out hb1.size
  have hs0 : w.heap.size < w1.heap.size := by omega
  have t0 := hT1.cell 0 (by omega)
  have t1 := hT1.cell 1 (by omega)
  have t2 := hT1.cell 2 (by omega)
  have t3 := hT1.cell 3 (by omega)
  have t4 := hT1.cell 4 (by omega)
  have f0 := (hT1 0 (by omega)).2
  have f1 := (hT1 1 (by omega)).2
  have f2 := (hT1 2 (by omega)).2
  have f3 := (hT1 3 (by omega)).2
  have f4 := (hT1 4 (by omega)).2
  clear hT1 hb1
  go_wp2_with fail
  have hP := layP_at (W := w1) (B := w.heap.size + 1) (o := 0) (m := 5) (e := lbF id lab ax ay) HT1.out (by omega)
  have hBU := layP_below (o := 0) (e := lbF id lab ax ay) HB1.out (Nat.le_succ w.heap.size)
  obtain ⟨g0, g1, g2, g3, g4⟩ := hP
  unfold layP at g0 g1 g2 g3 g4 hBU
  simp only [Nat.zero_add] at g0 g1 g2 g3 g4 hBU
  try dsimp only at g0 g1 g2 g3 g4 hBU
  generalize hU : (((((w1.setCell _ _).setCell _ _).setCell _ _).setCell _ _).setCell _ _ : World) = U at *
  have hlU := World.block_lt_of_cell? _ _ g0
  have r0 : ∀ O, (U.alloc O).cell? ⟨w.heap.size + 1, 0, none⟩ = U.cell? ⟨w.heap.size + 1, 0, none⟩ := fun O => World.cell?_alloc_lt _ _ _ hlU
  have r1 : ∀ O, (U.alloc O).cell? ⟨w.heap.size + 1, 1, none⟩ = U.cell? ⟨w.heap.size + 1, 1, none⟩ := fun O => World.cell?_alloc_lt _ _ _ hlU
  have r2 : ∀ O, (U.alloc O).cell? ⟨w.heap.size + 1, 2, none⟩ = U.cell? ⟨w.heap.size + 1, 2, none⟩ := fun O => World.cell?_alloc_lt _ _ _ hlU
  have r3 : ∀ O, (U.alloc O).cell? ⟨w.heap.size + 1, 3, none⟩ = U.cell? ⟨w.heap.size + 1, 3, none⟩ := fun O => World.cell?_alloc_lt _ _ _ hlU
  have r4 : ∀ O, (U.alloc O).cell? ⟨w.heap.size + 1, 4, none⟩ = U.cell? ⟨w.heap.size + 1, 4, none⟩ := fun O => World.cell?_alloc_lt _ _ _ hlU
  refine bodyPost_ret (v := .agg #[.int .i64 id, .int .i64 ax, .int .i64 ay, .int .i64 (2 * (lab.size : Int)), .int .i64 3]) (by simp [results, Tryz.results34, go_sem, r0, r1, r2, r3, r4, g0, g1, g2, g3, g4]) rfl ⟨rfl, ?_⟩
  exact bl_alloc hBU _
set_option maxHeartbeats 8000000 in
theorem l10Box_any {off o : Nat} (q : Nat) (id la ki wi z : Int) (b n cap : Nat) (X Y : Nat → Int) (lab : ByteArray) (pr : Int) (w : World) (hf : FeatAt w q o id la ki wi (.slice (some ⟨b, off, none⟩) n cap) lab pr) (hp : PtsAt w b off n X Y) (hbl : b < w.heap.size) (hn0 : 0 < n) (hin : inW (X 0) (Y 0) = true) (hz : zoomB z = true) (hl : lab.size ≤ 1048576) :
    Calls Tryz.prog 78 #[.pointer (some ⟨q, o, none⟩), .int .i64 z] w fun e w' => e = .returned (plcV (lbF id lab (ancI z (X 0)) (ancI z (Y 0)))) ∧ Below w.heap.size w w' := by
  have hql : q < w.heap.size := World.block_lt_of_cell? _ _ hf.1
  have HA : Hid (∀ W, Below w.heap.size w W → Calls Tryz.prog 113 #[.pointer (some ⟨q, o, none⟩), .int .i64 z] W fun e w' => e = .returned (.agg #[.int .i64 (ancI z (X 0)), .int .i64 (ancI z (Y 0))]) ∧ Below W.heap.size W w') := fun W h => l10Anchor_any q id la ki wi z b n cap X Y lab pr W (hf.below h hql) (hp.below h hbl) (Nat.lt_of_lt_of_le hbl h.size) hn0 hin hz
  have HF : Hid (FeatAt w q o id la ki wi (.slice (some ⟨b, off, none⟩) n cap) lab pr) := hf
  clear hp hin hz hf
  generalize ancI z (X 0) = ax at *
  generalize ancI z (Y 0) = ay at *
  have hw2 : IntKind.i64.wrap (2 * (lab.size : Int)) = 2 * (lab.size : Int) := IntWalk.i64_in _ (by omega)
  show Calls Tryz.prog 78 _ w fun e w' => e = .returned (.agg #[.int .i64 id, .int .i64 ax, .int .i64 ay, .int .i64 (2 * (lab.size : Int)), .int .i64 3]) ∧ Below w.heap.size w w'
  go_enter Tryz.func78, Tryz.ntmps78
  go_wp2_with fail
  generalize hW : (w.alloc _ : World) = W
  have HB0 : Hid (Below w.heap.size w W) := by show Below _ _ _; subst hW; (repeat (first | exact Below.refl _ _ | assumption | refine Below.drew ?_ | refine bl_alloc ?_ _ | refine bl_then ?_ (by assumption) | refine Below.setCell ?_ (by first | omega | (simp; done) | (simp; omega)) _ | refine bl_store ?_ ?_ _ _))
  have HT : Hid (There W w.heap.size 5) := by show There _ _ _; subst hW; exact there5a w _ _ _ _ _ _
  have HSZ : Hid (w.heap.size < W.heap.size) := by show _ < _; subst hW; simp
  clear hW
  refine (HA.out _ HB0.out).mono ?_
  rintro e w1 ⟨rfl, hb1⟩
  have HT1 : Hid (There w1 w.heap.size 5) := HT.out.below hb1
  have HB1 : Hid (Below w.heap.size w w1) := bl_then HB0.out hb1
  have hs1 : w.heap.size < w1.heap.size := Nat.lt_of_lt_of_le HSZ.out hb1.size
  clear hb1
  go_wp2_with fail
  generalize hV : (w1.alloc _ : World) = V
  have hbV : Below w1.heap.size w1 V := by subst hV; (repeat (first | exact Below.refl _ _ | assumption | refine Below.drew ?_ | refine bl_alloc ?_ _ | refine bl_then ?_ (by assumption) | refine Below.setCell ?_ (by first | omega | (simp; done) | (simp; omega)) _ | refine bl_store ?_ ?_ _ _))
  have HP : Hid (PtA V w1.heap.size ax ay) := by show PtA _ _ _ _; subst hV; exact ⟨by simp [go_sem], by simp [go_sem]⟩
  clear hV
  have hTV := HT1.out.below hbV
  have HTV : Hid (There V w.heap.size 5) := hTV
  have HBV : Hid (Below w.heap.size w V) := bl_then HB1.out hbV
  obtain ⟨p0, p1⟩ := HP.out
  have hFV := HF.out.below HBV.out hql
  have q0 := hFV.1
  have q5 := hFV.2.2.2.2.2.1
  have hne : w1.heap.size ≠ w.heap.size := by omega
  have hne2 : q ≠ w.heap.size := by omega
  have t0 := hTV.cell 0 (by omega)
  have t1 := hTV.cell 1 (by omega)
  have t2 := hTV.cell 2 (by omega)
  have t3 := hTV.cell 3 (by omega)
  have t4 := hTV.cell 4 (by omega)
  have f0 := (hTV 0 (by omega)).2
  have f1 := (hTV 1 (by omega)).2
  have f2 := (hTV 2 (by omega)).2
  have f3 := (hTV 3 (by omega)).2
  have f4 := (hTV 4 (by omega)).2
  clear hTV hFV hbV
  go_region
  go_wp2_with fail
  have hP := layP_at (W := V) (B := w.heap.size) (o := 0) (m := 5) (e := lbF id lab ax ay) HTV.out (by omega)
  have hBU := layP_below (o := 0) (e := lbF id lab ax ay) HBV.out (Nat.le_refl w.heap.size)
  obtain ⟨g0, g1, g2, g3, g4⟩ := hP
  unfold layP at g0 g1 g2 g3 g4 hBU
  simp only [Nat.zero_add] at g0 g1 g2 g3 g4 hBU
  try dsimp only at g0 g1 g2 g3 g4 hBU
  generalize hU : (((((V.setCell _ _).setCell _ _).setCell _ _).setCell _ _).setCell _ _ : World) = U at *
  refine bodyPost_ret (v := .agg #[.int .i64 id, .int .i64 ax, .int .i64 ay, .int .i64 (2 * (lab.size : Int)), .int .i64 3]) (by simp [results, Tryz.results78, go_sem, g0, g1, g2, g3, g4]) rfl ⟨rfl, ?_⟩
  exact Below.drew hBU
end Go.Proofs.YtdohlnnbibnnbaaGreat
/- The first place where something is so. -/

namespace Go.Proofs.YtdohlnnbibnnbaaGreat
/-- The first place below n where it is so; -1 where it is nowhere. -/
def firstI (G : Nat → Bool) : Nat → Int
  | 0 => -1
  | n + 1 => if 0 ≤ firstI G n then firstI G n else if G n = true then (n : Int) else -1
theorem firstI_no {G : Nat → Bool} : ∀ {n : Nat}, (∀ i, i < n → G i = false) → firstI G n = -1
  | 0, _ => rfl
  | n + 1, h => by rw [firstI, firstI_no (fun i hi => h i (by omega)), h n (by omega)]; rfl
theorem firstI_yes {G : Nat → Bool} : ∀ {n i : Nat}, i < n → G i = true → (∀ j, j < i → G j = false) → firstI G n = (i : Int)
  | n + 1, i, hi, h, hn => by
    rw [firstI]
    by_cases e : i = n
    · subst e; rw [firstI_no hn, h]; rfl
    · rw [firstI_yes (n := n) (by omega) h hn, if_pos (by omega)]
theorem firstI_or (G : Nat → Bool) (n : Nat) : (firstI G n = -1 ∧ ∀ i, i < n → G i = false) ∨ ∃ i, i < n ∧ G i = true ∧ firstI G n = (i : Int) ∧ ∀ j, j < i → G j = false := by
  induction n with
  | zero => exact .inl ⟨rfl, fun i hi => absurd hi (Nat.not_lt_zero _)⟩
  | succ n ih =>
    rcases ih with ⟨h1, h2⟩ | ⟨i, hi, hg, hf, hn⟩
    · cases hG : G n
      · refine .inl ⟨by rw [firstI, h1, hG]; rfl, fun i hi => ?_⟩
        by_cases e : i = n
        · rw [e]; exact hG
        · exact h2 i (by omega)
      · exact .inr ⟨n, by omega, hG, by rw [firstI, h1, hG]; rfl, h2⟩
    · exact .inr ⟨i, by omega, hg, by rw [firstI, hf, if_pos (by omega)], hn⟩
end Go.Proofs.YtdohlnnbibnnbaaGreat
