/- Several texts in one. -/
import Derived.Test.YtgpdpodagoligaaGreatVAnchors46
import Derived.Test.YtgpdpodagoligaaGreatVAnchors44

/- Drawn arguments of SimpleAt: whatever they are, nothing that was there is written. -/

namespace Go.Proofs.YtgpdpodagoligaaGreat
open Go.RowKit
set_option linter.unusedSimpArgs false
set_option linter.unusedVariables false
set_option maxRecDepth 100000

/-- Some feature whose points lie in a block behind w's. -/
def FeatD (w w' : World) (V : Value) (id la ki wi : Int) (b off m c : Nat) (X Y : Nat → Int) (lab : ByteArray) (pr : Int) : Prop :=
  V = .agg #[.int .i64 id, .int .i64 la, .int .i64 ki, .int .i64 wi, .slice (some ⟨b, off, none⟩) m c, .string lab, .int .i64 pr] ∧ m ≤ 6 ∧ m ≤ c ∧ w.heap.size ≤ b ∧ b < w'.heap.size ∧ PtsAt w' b off m X Y ∧ lab.size ≤ 7
theorem resDS (T : Array Value) (Wf : World) (r : Nat) (z : Int) (v0 v1 v2 v3 v4 v5 v6 : Value) (hT : T[2]?.getD undef = .pointer (some ⟨r, 0, none⟩)) (hz : T[3]?.getD undef = .int .i64 z) (h0 : Wf.cell? ⟨r, 0, none⟩ = some v0) (h1 : Wf.cell? ⟨r, 1, none⟩ = some v1) (h2 : Wf.cell? ⟨r, 2, none⟩ = some v2) (h3 : Wf.cell? ⟨r, 3, none⟩ = some v3) (h4 : Wf.cell? ⟨r, 4, none⟩ = some v4) (h5 : Wf.cell? ⟨r, 5, none⟩ = some v5) (h6 : Wf.cell? ⟨r, 6, none⟩ = some v6) :
    (results Tryz.f11 T).run Tryz.prog Wf = .ok (.tuple #[.agg #[v0, v1, v2, v3, v4, v5, v6], .int .i64 z]) Wf := by
  simp [results, Tryz.results11, go_sem, hT, hz, h0, h1, h2, h3, h4, h5, h6]
set_option maxHeartbeats 4000000 in
theorem DrawSimpleAt_any (a : Option Addr) (n cap : Nat) (Z : Nat → Int) (w : World) (h : IsBytes w a n Z) (hrng : ∀ i, 0 ≤ Z i ∧ Z i ≤ 255) (hn : n ≤ 1048576) (hcap : n ≤ cap) :
    Calls Tryz.prog 11 #[.slice a n cap] w fun e w' => ∃ (V : Value) (id la ki wi : Int) (b off m c : Nat) (X Y : Nat → Int) (lab : ByteArray) (pr z : Int), e = .returned (.tuple #[V, .int .i64 z]) ∧ FeatD w w' V id la ki wi b off m c X Y lab pr ∧ Below w.heap.size w w' := by
  have HI : Hid (IsBytes w a n Z) := h
  have HR : Hid (∀ i, 0 ≤ Z i ∧ Z i ≤ 255) := hrng
  clear h hrng
  go_enter Tryz.func11, Tryz.ntmps11
  go_wp2_with fail
  generalize hW : (w.alloc _ : World) = W
  have hB0 : Below w.heap.size w W := by subst hW; (repeat (first | exact Below.refl _ _ | assumption | refine Below.drew ?_ | refine bl_alloc ?_ _ | refine bl_then ?_ (by assumption) | refine Below.setCell ?_ (by first | omega | (simp; done) | (simp; omega)) _ | refine bl_store ?_ ?_ _ _))
  have hlt : w.heap.size < W.heap.size := by subst hW; simp
  have HT : Hid (There W w.heap.size 7) := by
    show There _ _ _
    subst hW
    exact there7 w (.int .i64 0) (.int .i64 0) (.int .i64 0) (.int .i64 0) (.slice none 0 0) (.string ⟨#[]⟩) (.int .i64 0) 26
  clear hW
  have HB0 : Hid (Below w.heap.size w W) := hB0
  have HI1 : Hid (IsBytes W a n Z) := HI.out.below hB0
  clear hB0 HI
  refine (l1Source_ex _ _ _ _).mono ?_
  rintro e w1 ⟨rfl, hw1⟩
  have hS1 : Src a n cap Z W.heap.size 0 w1 := by rw [← hw1]; exact src_start a n cap Z W HI1.out HR.out hn
  have hb1 : Below W.heap.size W w1 := by rw [← hw1]; unfold srcW; (repeat (first | exact Below.refl _ _ | assumption | refine Below.drew ?_ | refine bl_alloc ?_ _ | refine bl_then ?_ (by assumption) | refine Below.setCell ?_ (by first | omega | (simp; done) | (simp; omega)) _ | refine bl_store ?_ ?_ _ _))
  have hsz1 : W.heap.size < w1.heap.size := World.block_lt_of_cell? _ _ hS1.code
  have HS1 : Hid (Src a n cap Z W.heap.size 0 w1) := hS1
  have HK1 : Hid (Keeps W.heap.size W w1) := Keeps.of_below hb1
  clear hw1 hS1 hb1 HI1
  go_wp2_with fail
  refine (l2Bent_any a n cap Z _ 0 _ HS1.out hcap (by omega)).mono ?_
  rintro e w2 ⟨id, la, ki, wi, b, off, m, c, X, Y, lab, pr, t2, rfl, hm6, hmc, hgb, hbl, hP, hlab, ht2, hS2, hK2⟩
  have HS2 : Hid (Src a n cap Z W.heap.size t2 w2) := hS2
  have HK2 : Hid (Keeps W.heap.size W w2) := HK1.out.trans hK2
  have HP2 : Hid (PtsAt w2 b off m X Y) := hP
  clear hS2 hK2 HS1 HK1 hP
  go_wp2_with fail
  refine (l3Draw_any a n cap Z _ t2 _ HS2.out hcap (by omega)).mono ?_
  rintro e w3 ⟨z, rfl, hS3, hK3⟩
  have HK3 : Hid (Keeps W.heap.size W w3) := HK2.out.trans hK3
  have HP3 : Hid (PtsAt w3 b off m X Y) := fun i hi => ⟨(hK3.cell (p := ⟨b, off + i * 2, none⟩) hbl (by show b ≠ W.heap.size; omega)).trans (HP2.out i hi).1, (hK3.cell (p := ⟨b, off + i * 2 + 1, none⟩) hbl (by show b ≠ W.heap.size; omega)).trans (HP2.out i hi).2⟩
  have hbl3 : b < w3.heap.size := Nat.lt_of_lt_of_le hbl hK3.size
  clear hS3 hK3 HS2 HK2 HP2
  have hT3 := HT.out.keeps HK3.out (by omega)
  have HT3 : Hid (There w3 w.heap.size 7) := hT3
  have t0 := hT3.cell 0 (by omega)
  have t1 := hT3.cell 1 (by omega)
  have t2 := hT3.cell 2 (by omega)
  have t3 := hT3.cell 3 (by omega)
  have t4 := hT3.cell 4 (by omega)
  have t5 := hT3.cell 5 (by omega)
  have t6 := hT3.cell 6 (by omega)
  have z0 := (hT3 0 (by omega)).2
  have z1 := (hT3 1 (by omega)).2
  have z2 := (hT3 2 (by omega)).2
  have z3 := (hT3 3 (by omega)).2
  have z4 := (hT3 4 (by omega)).2
  have z5 := (hT3 5 (by omega)).2
  have z6 := (hT3 6 (by omega)).2
  clear hT3
  go_wp2_with fail
  obtain ⟨y0, y1, y2, y3, y4, y5, y6⟩ := set7_at (v0 := .int .i64 id) (v1 := .int .i64 la) (v2 := .int .i64 ki) (v3 := .int .i64 wi) (v4 := .slice (some ⟨b, off, none⟩) m c) (v5 := .string lab) (v6 := .int .i64 pr) HT3.out
  refine bodyPost_ret (resDS _ _ w.heap.size z _ _ _ _ _ _ _ rfl rfl y0 y1 y2 y3 y4 y5 y6) rfl ⟨_, id, la, ki, wi, b, off, m, c, X, Y, lab, pr, z, rfl, ⟨rfl, hm6, hmc, by omega, by simp [World.setCell]; omega, HP3.out.set7 (by omega), hlab⟩, ?_⟩
  have hBw : Below w.heap.size w w3 := HB0.out.trans (HK3.out.below (by omega) (by omega))
  exact below7 hBw (Nat.le_refl _)
end Go.Proofs.YtgpdpodagoligaaGreat
/- lwBig tells whether a code is too long. -/

namespace Go.Proofs.YtgpdpodagoligaaGreat
open Go.RowKit
set_option linter.unusedSimpArgs false
set_option linter.unusedVariables false

theorem lwBig_any (a : Option Addr) (n cap : Nat) (w : World) : Calls Tryz.prog 4 #[.slice a n cap] w fun e w' => e = .returned (.bool (decide (1048576 < (n : Int)))) ∧ w' = w := by
  go_enter Tryz.func4, Tryz.ntmps4
  go_wp2
  go_ret
  exact ⟨rfl, rfl⟩
end Go.Proofs.YtgpdpodagoligaaGreat
