/- Requests with a ref and a time are drawn. -/
import Derived.Test.YtfknbijpimpbfaaVOnlies40
namespace Go.Proofs.Ytfknbijpimpbfaa
open Go.RowKit
set_option linter.unusedSimpArgs false
set_option linter.unusedVariables false
set_option maxRecDepth 100000

theorem There.drew' {w : World} {r n : Nat} (h : There w r n) : There w.drew r n := fun o ho => ⟨(h o ho).1, (h o ho).2⟩
theorem RowW.some {base : Nat} {w : World} {va : Addr} {n c : Nat} {l : List Req} (h : RowW base w (.slice (some va) n c) l) : n = l.length ∧ n ≤ c ∧ ∃ g, va = ⟨g, 0, none⟩ ∧ base ≤ g := by
  obtain ⟨_, h2 | ⟨g, cp, cur, hv, hg, _, hc, _⟩⟩ := h
  · cases h2.1
  · injection hv with h1 h3 h4
    injection h1 with h1
    subst h3 h4
    exact ⟨rfl, hc, g, h1, hg⟩
theorem zeros9 : (madeCells zeroW (9 * 5)).toList = cellsW (List.replicate 9 ⟨0, 0, 0, 0, 0⟩) := by kernel_rfl
set_option maxHeartbeats 8000000 in
theorem l12Bent_any (a : Option Addr) (n cap : Nat) (Z : Nat → Int) (s t : Nat) (w : World) (h : Src a n cap Z s t w) (hcap : n ≤ cap) (ht : t ≤ 600) :
    Calls Try.prog 22 #[.pointer (some ⟨s, 0, none⟩)] w fun e w' => ∃ (va : Addr) (vc : Nat) (l : List Req) (t' : Nat), e = .returned (.slice (some va) l.length vc) ∧ l.length ≤ 9 ∧ RowW w.heap.size w' (.slice (some va) l.length vc) l ∧ t' ≤ t + 40 ∧ Src a n cap Z s t' w' ∧ Keeps s w w' := by
  obtain ⟨i0, hi, hz0, hz1, hz2⟩ := info_parts info_req
  have hmk : ∀ w : World, (Instr.makeSlice 24 (.int .i64 9) (.int .i64 9)).run Try.prog w = .ok (.slice (some ⟨w.heap.size, 0, none⟩) 9 9) (w.alloc (.cells (madeCells zeroW (9 * 5)) 37)) := fun w => make_reqs 9 (by omega) w
  have hsl : s < w.heap.size := World.block_lt_of_cell? _ _ h.code
  go_enter Try.func22, Try.ntmps22
  go_wp2_with fail
  refine (l12Right_any a n cap Z s t w h hcap (by omega)).mono ?_
  rintro e w1 ⟨va, vc, l, t1, rfl, hl5, hR1, ht1, hS1, hK1⟩
  have HR1 : Hid (RowW w.heap.size w1 (.slice (some va) l.length vc) l) := hR1
  have HK1 : Hid (Keeps s w w1) := hK1
  have HS1 : Hid (Src a n cap Z s t1 w1) := hS1
  clear hR1 hK1 hS1 h
  go_wp2_with fail
  refine (l1Next_any a n cap Z s t1 12 _ HS1.out hcap (by omega) (by omega) (by omega)).mono ?_
  rintro e w2 ⟨k, rfl, hk, hS2, hK2⟩
  have HR2 : Hid (RowW w.heap.size w2 (.slice (some va) l.length vc) l) := ownsRow_keeps HR1.out hK2 hsl
  have HK2 : Hid (Keeps s w w2) := HK1.out.trans hK2
  have HS2 : Hid (Src a n cap Z s (t1 + 1) w2) := hS2
  clear hS2 hK2 HS1 HK1 HR1
  by_cases hk0 : k = 0
  · subst hk0
    go_wp2_with fail
    refine (l7Bent_any a n cap Z s (t1 + 1) _ HS2.out hcap (by omega)).mono ?_
    rintro e w3 ⟨z, x, y, t3, rfl, ht3, hS3, hK3⟩
    have HR3 : Hid (RowW w.heap.size w3 (.slice (some va) l.length vc) l) := ownsRow_keeps HR2.out hK3 hsl
    have HK3 : Hid (Keeps s w w3) := HK2.out.trans hK3
    have HPK := (show Hid _ from pick3r a n cap Z s t3 5 (-1) 10000 w3 2 hS3 hcap (by omega))
    clear hK3 HS2 HK2 HR2
    go_wp2_with fail
    refine Calls.mono HPK.out ?_
    rintro e w4 ⟨d, rfl, hS4, hK4⟩
    have HR4 : Hid (RowW w.heap.size w4 (.slice (some va) l.length vc) l) := ownsRow_keeps HR3.out hK4 hsl
    have HK4 : Hid (Keeps s w w4) := HK3.out.trans hK4
    have HPK2 := (show Hid _ from pick3r a n cap Z s (t3 + 1) 1 0 99 w4 2 hS4 hcap (by omega))
    clear hK4 HK3 HR3 hS3 HPK
    go_wp2_with fail
    refine Calls.mono HPK2.out ?_
    rintro e w5 ⟨q, rfl, hS5, hK5⟩
    have HR5 : Hid (RowW w.heap.size w5 (.slice (some va) l.length vc) l) := ownsRow_keeps HR4.out hK5 hsl
    have HK5 : Hid (Keeps s w w5) := HK4.out.trans hK5
    have HS5 : Hid (Src a n cap Z s (t3 + 2) w5) := hS5
    clear hK5 HK4 HR4 hS4 HPK2 hS5
    go_wp2_with (first
      | (at_builtin; go_must (refine wpList_append_own _ rfl _ _ 24 rfl w.heap.size 37 i0 (.agg #[.int .i64 0, .int .i64 0, .int .i64 0, .int .i64 0, .int .i64 0]) 5 40 Try.underlying24 hi hz0 hz1 hz2 rfl (by decide) (.slice (some va) l.length vc) l.length (cellsW l) rfl ?r0 ⟨w5.heap.size, 0, none⟩ 1 1 (reqCells ⟨z, x, y, d, q⟩) rfl rfl ?r1 ?r2 ?r3 ?r4 ?r5 ?_)))
    case r0 => exact World.ownsRow.alloc HR5.out _
    case r1 => exact lit_cells _ _ _
    case r2 => exact reqCells_one _
    case r3 => unfold maxLen; omega
    case r4 => omega
    case r5 => have := HK5.out.size; simp; omega
    intro v6 w6 hown6 hg6 hnil6
    have hR6 : RowW w.heap.size w6 v6 (l ++ [⟨z, x, y, d, q⟩]) := by unfold RowW; rw [cellsW_app, cellsW_one, List.length_append]; exact hown6
    have hbA : Below w5.heap.size w5 (w5.alloc (.cells #[.int .i64 z, .int .i64 x, .int .i64 y, .int .i64 d, .int .i64 q] 37)) := by (repeat (first | exact Below.refl _ _ | assumption | refine Below.drew ?_ | refine bl_alloc ?_ _ | refine bl_then ?_ (by assumption) | refine Below.setCell ?_ (by first | omega | (simp; done) | (simp; omega)) _ | refine bl_store ?_ ?_ _ _))
    have hb6 : Below w.heap.size (w5.alloc (.cells #[.int .i64 z, .int .i64 x, .int .i64 y, .int .i64 d, .int .i64 q] 37)) w6 := below_rowR hg6 (fun p hp => HR5.out.block p hp) (by have := HK5.out.size; simp; omega)
    obtain ⟨va6, vc6, hv6⟩ : ∃ va6 vc6, v6 = .slice (some va6) (l.length + 1) vc6 := by
      obtain ⟨va6, vc6, hv6⟩ := hR6.slice
      rw [List.length_append] at hv6
      cases va6 with
      | none => exact (hnil6 (by obtain ⟨_, h2 | ⟨g, cp, cur, hv, _⟩⟩ := hR6; exact h2.1; rw [hv] at hv6; cases hv6)).elim
      | some p => exact ⟨p, vc6, hv6⟩
    subst hv6
    have HR6 : Hid (RowW w.heap.size w6 (.slice (some va6) (l.length + 1) vc6) (l ++ [⟨z, x, y, d, q⟩])) := hR6
    have HS6 : Hid (Src a n cap Z s (t3 + 2) w6) := (HS5.out.below hbA).belowB hb6 hsl
    have HK6 : Hid (Keeps s w w6) := (HK5.out.trans (Keeps.of_below hbA)).thenB hb6
    clear hown6 hg6 hnil6 hR6 hbA hb6
    go_wp2_with fail
    go_ret
    exact ⟨va6, vc6, l ++ [⟨z, x, y, d, q⟩], t3 + 2, by simp, by simp; omega, by simpa using HR6.out, by omega, HS6.out, HK6.out⟩
  · have hk0' : ((k : Int) == 0) = false := by simp; omega
    by_cases hk1 : k = 1
    · subst hk1
      go_wp2_with fail
      generalize hW3 : (World.alloc _ _ : World) = w3
      have hb3 : Below w2.heap.size w2 w3 := by subst hW3; (repeat (first | exact Below.refl _ _ | assumption | refine Below.drew ?_ | refine bl_alloc ?_ _ | refine bl_then ?_ (by assumption) | refine Below.setCell ?_ (by first | omega | (simp; done) | (simp; omega)) _ | refine bl_store ?_ ?_ _ _))
      have hR3 : RowW w.heap.size w3 (.slice (some ⟨w2.heap.size, 0, none⟩) 9 9) (List.replicate 9 ⟨0, 0, 0, 0, 0⟩) := by
        subst hW3
        have h := World.ownsRow_lit (base := w.heap.size) (e := 37) (size := 5) w2 (madeCells zeroW (9 * 5)) 9 HK2.out.size (by unfold maxLen; omega) (size_madeCells _ _)
        rw [zeros9] at h
        exact h
      clear hW3
      go_ret
      exact ⟨⟨w2.heap.size, 0, none⟩, 9, List.replicate 9 ⟨0, 0, 0, 0, 0⟩, t1 + 1, by simp, by simp, by simpa using hR3, by omega, HS2.out.below hb3, HK2.out.trans (Keeps.of_below hb3)⟩
    · have hk1' : ((k : Int) == 1) = false := by simp; omega
      go_wp2_with fail
      go_ret
      exact ⟨va, vc, l, t1 + 1, rfl, by omega, HR2.out, by omega, HS2.out, HK2.out⟩
end Go.Proofs.Ytfknbijpimpbfaa
