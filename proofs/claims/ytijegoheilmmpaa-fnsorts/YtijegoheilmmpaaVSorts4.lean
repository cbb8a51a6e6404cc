/- Three drawn points, and a number. -/
import Derived.Test.YtijegoheilmmpaaVSorts3
namespace Go.Proofs.Ytijegoheilmmpaa
open Go.RowKit
set_option linter.unusedSimpArgs false
set_option linter.unusedVariables false

set_option maxHeartbeats 4000000 in
theorem l1Bent_any (a : Option Addr) (n cap : Nat) (Z : Nat → Int) (s t : Nat) (w : World) (h : Src a n cap Z s t w) (hcap : n ≤ cap) (ht : t ≤ 700) :
    Calls Try.prog 55 #[.pointer (some ⟨s, 0, none⟩)] w fun e w' => ∃ (x y : Int) (t' : Nat), e = .returned (.agg #[.int .i64 x, .int .i64 y]) ∧ t' ≤ t + 8 ∧ Src a n cap Z s t' w' ∧ Keeps s w w' := by
  have hsl : s < w.heap.size := World.block_lt_of_cell? _ _ h.code
  go_enter Try.func55, Try.ntmps55
  go_wp2_with fail
  generalize hW : (w.alloc _ : World) = W
  have hB0 : Below w.heap.size w W := by subst hW; (repeat (first | exact Below.refl _ _ | assumption | refine Below.drew ?_ | refine bl_alloc ?_ _ | refine bl_then ?_ (by assumption) | refine Below.setCell ?_ (by first | omega | (simp; done) | (simp; omega)) _ | refine bl_store ?_ ?_ _ _))
  have hT0 : There W w.heap.size 2 := fun o ho => by
    subst hW
    have hc : o = 0 ∨ o = 1 := by omega
    rcases hc with rfl | rfl <;> exact ⟨⟨_, by simp [go_sem]; rfl⟩, by simp [go_sem]⟩
  clear hW
  have HS0 : Hid (Src a n cap Z s t W) := h.below hB0
  have HK0 : Hid (Keeps s w W) := Keeps.of_below hB0
  have HT0 : Hid (There W w.heap.size 2) := hT0
  clear h hB0 hT0
  refine (l1Draw_any a n cap Z s t _ HS0.out hcap (by omega)).mono ?_
  rintro e w1 ⟨x, y, rfl, hS1, hK1⟩
  have HS1 : Hid (Src a n cap Z s (t + 6) w1) := hS1
  have HK1 : Hid (Keeps s w w1) := HK0.out.trans hK1
  have HT1 : Hid (There w1 w.heap.size 2) := HT0.out.keeps hK1 (by omega)
  have hs1 : s < w1.heap.size := World.block_lt_of_cell? _ _ hS1.code
  have hr1 : w.heap.size < w1.heap.size := by
    obtain ⟨u, hu⟩ := (HT1.out 0 (by omega)).1
    exact World.block_lt_of_cell? _ _ hu
  clear hS1 hK1 HS0 HK0 HT0
  go_wp2_with fail
  generalize hV : (w1.alloc _ : World) = V
  have hBV : Below w1.heap.size w1 V := by subst hV; (repeat (first | exact Below.refl _ _ | assumption | refine Below.drew ?_ | refine bl_alloc ?_ _ | refine bl_then ?_ (by assumption) | refine Below.setCell ?_ (by first | omega | (simp; done) | (simp; omega)) _ | refine bl_store ?_ ?_ _ _))
  have hTP : There V w1.heap.size 2 := fun o ho => by
    subst hV
    have hc : o = 0 ∨ o = 1 := by omega
    rcases hc with rfl | rfl <;> exact ⟨⟨_, by simp [go_sem]; rfl⟩, by simp [go_sem]⟩
  have px : V.cell? ⟨w1.heap.size, 0, none⟩ = some (.int .i64 x) := by subst hV; simp [go_sem]
  have py : V.cell? ⟨w1.heap.size, 1, none⟩ = some (.int .i64 y) := by subst hV; simp [go_sem]
  clear hV
  have HSV : Hid (Src a n cap Z s (t + 6) V) := HS1.out.below hBV
  have HKV : Hid (Keeps s w V) := HK1.out.trans (Keeps.of_below hBV)
  have HTV : Hid (There V w.heap.size 2) := HT1.out.below hBV
  clear hBV HS1 HK1 HT1
  have HTP : Hid (There V w1.heap.size 2) := hTP
  have PX : Hid (V.cell? ⟨w1.heap.size, 0, none⟩ = some (.int .i64 x)) := px
  have PY : Hid (V.cell? ⟨w1.heap.size, 1, none⟩ = some (.int .i64 y)) := py
  have hlV : w1.heap.size < V.heap.size := World.block_lt_of_cell? _ _ px
  clear hTP px py
  refine (l1Chance_any a n cap Z s (t + 6) 14 _ HSV.out hcap (by omega) (by omega) (by omega)).mono ?_
  rintro e w2 ⟨c, rfl, hS2, hK2⟩
  have HS2 : Hid (Src a n cap Z s (t + 7) w2) := hS2
  have HK2 : Hid (Keeps s w w2) := HKV.out.trans hK2
  have HT2 : Hid (There w2 w.heap.size 2) := HTV.out.keeps hK2 (by omega)
  have HTP2 : Hid (There w2 w1.heap.size 2) := HTP.out.keeps hK2 (by omega)
  have qx : w2.cell? ⟨w1.heap.size, 0, none⟩ = some (.int .i64 x) := (hK2.cell (p := ⟨w1.heap.size, 0, none⟩) hlV (show w1.heap.size ≠ s by omega)).trans PX.out
  have qy : w2.cell? ⟨w1.heap.size, 1, none⟩ = some (.int .i64 y) := (hK2.cell (p := ⟨w1.heap.size, 1, none⟩) hlV (show w1.heap.size ≠ s by omega)).trans PY.out
  have hl2 : w1.heap.size < w2.heap.size := World.block_lt_of_cell? _ _ qx
  clear hS2 hK2 HSV HKV HTV HTP PX PY hlV
  have hne : ¬ w1.heap.size = w.heap.size := by omega
  cases c
  · have t0 := HT2.out.cell 0 (by omega)
    have t1 := HT2.out.cell 1 (by omega)
    have f0 := (HT2.out 0 (by omega)).2
    have f1 := (HT2.out 1 (by omega)).2
    go_wp2
    refine bodyPost_ret (v := .agg #[.int .i64 x, .int .i64 y]) (by simp [results, Try.results55, go_sem, set2_0 (Option.isSome_iff_exists.2 ⟨_, t0⟩), set2_1 (Option.isSome_iff_exists.2 ⟨_, t1⟩)]) rfl ⟨x, y, t + 7, rfl, by omega, ?_, ?_⟩
    · exact (HS2.out.other _ _ hsl).other _ _ hsl
    · exact (HK2.out.own1 (Nat.le_refl _) _ _).own1 (Nat.le_refl _) _ _
  · have QX : Hid (w2.cell? ⟨w1.heap.size, 0, none⟩ = some (.int .i64 x)) := qx
    have QY : Hid (w2.cell? ⟨w1.heap.size, 1, none⟩ = some (.int .i64 y)) := qy
    clear qx qy
    go_wp2_with fail
    refine (l1Pick_new4 a n cap Z s (t + 7) _ _ _ _ _ _ HS2.out hcap (by omega)).mono ?_
    rintro e w3 ⟨x', rfl, hS3, hK3⟩
    have HS3 : Hid (Src a n cap Z s (t + 8) w3) := hS3
    have HK3 : Hid (Keeps s w w3) := HK2.out.trans hK3
    have hT3 := HT2.out.keeps hK3 (show w.heap.size ≠ s by omega)
    have qx : w3.cell? ⟨w1.heap.size, 0, none⟩ = some (.int .i64 x) := (hK3.cell (p := ⟨w1.heap.size, 0, none⟩) hl2 (show w1.heap.size ≠ s by omega)).trans QX.out
    have qy : w3.cell? ⟨w1.heap.size, 1, none⟩ = some (.int .i64 y) := (hK3.cell (p := ⟨w1.heap.size, 1, none⟩) hl2 (show w1.heap.size ≠ s by omega)).trans QY.out
    have gx : w3.frozen? ⟨w1.heap.size, 0, none⟩ = false := (HTP2.out.keeps hK3 (show w1.heap.size ≠ s by omega) 0 (by omega)).2
    have hrp : w.heap.size ≠ w1.heap.size := by omega
    have hTx : There (w3.setCell ⟨w1.heap.size, 0, none⟩ (.int .i64 x')) w.heap.size 2 := fun o ho => by
      obtain ⟨u, hu⟩ := (hT3 o ho).1
      exact ⟨⟨u, by rw [World.cell?_setCell_other]; exact hu; intro e; injection e with e; omega⟩, by rw [World.frozen?_setCell]; exact (hT3 o ho).2⟩
    have t0 := hTx.cell 0 (by omega)
    have t1 := hTx.cell 1 (by omega)
    have f0 := (hTx 0 (by omega)).2
    have f1 := (hTx 1 (by omega)).2
    have qx' : (w3.setCell ⟨w1.heap.size, 0, none⟩ (.int .i64 x')).cell? ⟨w1.heap.size, 0, none⟩ = some (.int .i64 x') := World.cell?_setCell_same _ _ _ qx
    have qy' : (w3.setCell ⟨w1.heap.size, 0, none⟩ (.int .i64 x')).cell? ⟨w1.heap.size, 1, none⟩ = some (.int .i64 y) := by
      rw [World.cell?_setCell_other]
      · exact qy
      · simp
    have HS4 : Hid (Src a n cap Z s (t + 8) (w3.setCell ⟨w1.heap.size, 0, none⟩ (.int .i64 x'))) := HS3.out.other _ _ (by omega)
    have HK4 : Hid (Keeps s w (w3.setCell ⟨w1.heap.size, 0, none⟩ (.int .i64 x'))) := HK3.out.own1 (by omega) _ _
    clear hS3 hK3 hT3 hTx
    go_wp2
    refine bodyPost_ret (v := .agg #[.int .i64 x', .int .i64 y]) (by simp [results, Try.results55, go_sem, set2_0 (Option.isSome_iff_exists.2 ⟨_, t0⟩), set2_1 (Option.isSome_iff_exists.2 ⟨_, t1⟩)]) rfl ⟨x', y, t + 8, rfl, by omega, ?_, ?_⟩
    · exact (HS4.out.other _ _ hsl).other _ _ hsl
    · exact (HK4.out.own1 (Nat.le_refl _) _ _).own1 (Nat.le_refl _) _ _
end Go.Proofs.Ytijegoheilmmpaa
