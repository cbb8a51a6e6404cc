/- Requests with a ref and a time are drawn. -/
import Derived.Test.YtfcbbfhfjojoeaaWd1
namespace Go.Proofs.Ytfcbbfhfjojoeaa
open Go.RowKit
set_option linter.unusedSimpArgs false
set_option linter.unusedVariables false
set_option maxRecDepth 100000

theorem There.drew' {w : World} {r n : Nat} (h : There w r n) : There w.drew r n := fun o ho => ⟨(h o ho).1, (h o ho).2⟩
theorem RowW.some {base : Nat} {w : World} {va : Addr} {n c : Nat} {l : List Req} (h : RowW base w (.slice (some va) n c) l) : n = l.length ∧ n ≤ c ∧ ∃ g, va = ⟨g, 0, none⟩ ∧ base ≤ g := by
  obtain ⟨_, h2 | ⟨g, cp, cur, hv, hg, _, hc, _⟩⟩ := h
  · cases h2.1
  · injection hv with h1 h3 h4
    injection h1 with h1
    subst h3 h4
    exact ⟨rfl, hc, g, h1, hg⟩
theorem zeros9 : (madeCells zeroW (9 * 5)).toList = cellsW (List.replicate 9 ⟨0, 0, 0, 0, 0⟩) := by kernel_rfl
set_option maxHeartbeats 8000000 in
theorem l12Bent_any (a : Option Addr) (n cap : Nat) (Z : Nat → Int) (s t : Nat) (w : World) (h : Src a n cap Z s t w) (hcap : n ≤ cap) (ht : t ≤ 600) :
    Calls Try.prog 58 #[.pointer (some ⟨s, 0, none⟩)] w fun e w' => ∃ (va : Addr) (vc : Nat) (l : List Req) (t' : Nat), e = .returned (.slice (some va) l.length vc) ∧ l.length ≤ 9 ∧ RowW w.heap.size w' (.slice (some va) l.length vc) l ∧ t' ≤ t + 40 ∧ Src a n cap Z s t' w' ∧ Keeps s w w' := by
  obtain ⟨i0, hi, hz0, hz1, hz2⟩ := info_parts info_req
  have hmk : ∀ w : World, (Instr.makeSlice 24 (.int .i64 9) (.int .i64 9)).run Try.prog w = .ok (.slice (some ⟨w.heap.size, 0, none⟩) 9 9) (w.alloc (.cells (madeCells zeroW (9 * 5)) 36)) := fun w => make_reqs 9 (by omega) w
  have hsl : s < w.heap.size := World.block_lt_of_cell? _ _ h.code
  go_enter Try.func58, Try.ntmps58
  go_wp2_with fail
  refine (l12Right_any a n cap Z s t w h hcap (by omega)).mono ?_
  rintro e w1 ⟨va, vc, l, t1, rfl, hl5, hR1, ht1, hS1, hK1⟩
  have HR1 : Hid (RowW w.heap.size w1 (.slice (some va) l.length vc) l) := hR1
  have HK1 : Hid (Keeps s w w1) := hK1
  have HS1 : Hid (Src a n cap Z s t1 w1) := hS1
  clear hR1 hK1 hS1 h
  go_wp2_with fail
  refine (l1Next_any a n cap Z s t1 12 _ HS1.out hcap (by omega) (by omega) (by omega)).mono ?_
  rintro e w2 ⟨k, rfl, hk, hS2, hK2⟩
  have HR2 : Hid (RowW w.heap.size w2 (.slice (some va) l.length vc) l) := ownsRow_keeps HR1.out hK2 hsl
  have HK2 : Hid (Keeps s w w2) := HK1.out.trans hK2
  have HS2 : Hid (Src a n cap Z s (t1 + 1) w2) := hS2
  clear hS2 hK2 HS1 HK1 HR1
  by_cases hk0 : k = 0
  · subst hk0
    go_wp2_with fail
    refine (l7Bent_any a n cap Z s (t1 + 1) _ HS2.out hcap (by omega)).mono ?_
    rintro e w3 ⟨z, x, y, t3, rfl, ht3, hS3, hK3⟩
    have HR3 : Hid (RowW w.heap.size w3 (.slice (some va) l.length vc) l) := ownsRow_keeps HR2.out hK3 hsl
    have HK3 : Hid (Keeps s w w3) := HK2.out.trans hK3
    have HPK := (show Hid _ from pick3r a n cap Z s t3 5 (-1) 10000 w3 2 hS3 hcap (by omega))
    clear hK3 HS2 HK2 HR2
    go_wp2_with fail
    refine Calls.mono HPK.out ?_
    rintro e w4 ⟨d, rfl, hS4, hK4⟩
    have HR4 : Hid (RowW w.heap.size w4 (.slice (some va) l.length vc) l) := ownsRow_keeps HR3.out hK4 hsl
    have HK4 : Hid (Keeps s w w4) := HK3.out.trans hK4
    have HPK2 := (show Hid _ from pick3r a n cap Z s (t3 + 1) 1 0 99 w4 2 hS4 hcap (by omega))
    clear hK4 HK3 HR3 hS3 HPK
    go_wp2_with fail
    refine Calls.mono HPK2.out ?_
    rintro e w5 ⟨q, rfl, hS5, hK5⟩
    have HR5 : Hid (RowW w.heap.size w5 (.slice (some va) l.length vc) l) := ownsRow_keeps HR4.out hK5 hsl
    have HK5 : Hid (Keeps s w w5) := HK4.out.trans hK5
    have HS5 : Hid (Src a n cap Z s (t3 + 2) w5) := hS5
    clear hK5 HK4 HR4 hS4 HPK2 hS5
    go_wp2_with (first
      | (at_builtin; go_must (refine wpList_append_own _ rfl _ _ 24 rfl w.heap.size 36 i0 (.agg #[.int .i64 0, .int .i64 0, .int .i64 0, .int .i64 0, .int .i64 0]) 5 40 Try.underlying24 hi hz0 hz1 hz2 rfl (by decide) (.slice (some va) l.length vc) l.length (cellsW l) rfl ?r0 ⟨w5.heap.size, 0, none⟩ 1 1 (reqCells ⟨z, x, y, d, q⟩) rfl rfl ?r1 ?r2 ?r3 ?r4 ?r5 ?_)))
    case r0 => exact World.ownsRow.alloc HR5.out _
    case r1 => exact lit_cells _ _ _
    case r2 => exact reqCells_one _
    case r3 => unfold maxLen; omega
    case r4 => omega
    case r5 => have := HK5.out.size; simp; omega
    intro v6 w6 hown6 hg6 hnil6
    have hR6 : RowW w.heap.size w6 v6 (l ++ [⟨z, x, y, d, q⟩]) := by unfold RowW; rw [cellsW_app, cellsW_one, List.length_append]; exact hown6
    have hbA : Below w5.heap.size w5 (w5.alloc (.cells #[.int .i64 z, .int .i64 x, .int .i64 y, .int .i64 d, .int .i64 q] 36)) := by (repeat (first | exact Below.refl _ _ | assumption | refine Below.drew ?_ | refine bl_alloc ?_ _ | refine bl_then ?_ (by assumption) | refine Below.setCell ?_ (by first | omega | (simp; done) | (simp; omega)) _ | refine bl_store ?_ ?_ _ _))
    have hb6 : Below w.heap.size (w5.alloc (.cells #[.int .i64 z, .int .i64 x, .int .i64 y, .int .i64 d, .int .i64 q] 36)) w6 := below_rowR hg6 (fun p hp => HR5.out.block p hp) (by have := HK5.out.size; simp; omega)
    obtain ⟨va6, vc6, hv6⟩ : ∃ va6 vc6, v6 = .slice (some va6) (l.length + 1) vc6 := by
      obtain ⟨va6, vc6, hv6⟩ := hR6.slice
      rw [List.length_append] at hv6
      cases va6 with
      | none => exact (hnil6 (by obtain ⟨_, h2 | ⟨g, cp, cur, hv, _⟩⟩ := hR6; exact h2.1; rw [hv] at hv6; cases hv6)).elim
      | some p => exact ⟨p, vc6, hv6⟩
    subst hv6
    have HR6 : Hid (RowW w.heap.size w6 (.slice (some va6) (l.length + 1) vc6) (l ++ [⟨z, x, y, d, q⟩])) := hR6
    have HS6 : Hid (Src a n cap Z s (t3 + 2) w6) := (HS5.out.below hbA).belowB hb6 hsl
    have HK6 : Hid (Keeps s w w6) := (HK5.out.trans (Keeps.of_below hbA)).thenB hb6
    clear hown6 hg6 hnil6 hR6 hbA hb6
    go_wp2_with fail
    go_ret
    exact ⟨va6, vc6, l ++ [⟨z, x, y, d, q⟩], t3 + 2, by simp, by simp; omega, by simpa using HR6.out, by omega, HS6.out, HK6.out⟩
  · have hk0' : ((k : Int) == 0) = false := by simp; omega
    by_cases hk1 : k = 1
    · subst hk1
      go_wp2_with fail
      generalize hW3 : (World.alloc _ _ : World) = w3
      have hb3 : Below w2.heap.size w2 w3 := by subst hW3; (repeat (first | exact Below.refl _ _ | assumption | refine Below.drew ?_ | refine bl_alloc ?_ _ | refine bl_then ?_ (by assumption) | refine Below.setCell ?_ (by first | omega | (simp; done) | (simp; omega)) _ | refine bl_store ?_ ?_ _ _))
      have hR3 : RowW w.heap.size w3 (.slice (some ⟨w2.heap.size, 0, none⟩) 9 9) (List.replicate 9 ⟨0, 0, 0, 0, 0⟩) := by
        subst hW3
        have h := World.ownsRow_lit (base := w.heap.size) (e := 36) (size := 5) w2 (madeCells zeroW (9 * 5)) 9 HK2.out.size (by unfold maxLen; omega) (size_madeCells _ _)
        rw [zeros9] at h
        exact h
      clear hW3
      go_ret
      exact ⟨⟨w2.heap.size, 0, none⟩, 9, List.replicate 9 ⟨0, 0, 0, 0, 0⟩, t1 + 1, by simp, by simp, by simpa using hR3, by omega, HS2.out.below hb3, HK2.out.trans (Keeps.of_below hb3)⟩
    · have hk1' : ((k : Int) == 1) = false := by simp; omega
      go_wp2_with fail
      go_ret
      exact ⟨va, vc, l, t1 + 1, rfl, by omega, HR2.out, by omega, HS2.out, HK2.out⟩
theorem resWith {T : Array Value} {Wf : World} {r : Nat} {v : Value} {z x y : Int} (h2 : T[2]?.getD undef = v) (hT : T[3]?.getD undef = .pointer (some ⟨r, 0, none⟩)) (h : R3At Wf r z x y) :
    (results Try.f29 T).run Try.prog Wf = .ok (.tuple #[v, refV z x y]) Wf := by
  obtain ⟨a0, a1, a2⟩ := h
  simp [results, Try.results29, go_sem, hT, h2, a0, a1, a2]
set_option maxHeartbeats 8000000 in
theorem l12With_any (a : Option Addr) (n cap : Nat) (Z : Nat → Int) (w : World) (h : IsBytes w a n Z) (hrng : ∀ i, 0 ≤ Z i ∧ Z i ≤ 255) (hn : n ≤ 1048576) (hcap : n ≤ cap) :
    Calls Try.prog 29 #[.slice a n cap] w fun e w' => ∃ (va : Addr) (vc : Nat) (l : List Req) (z x y : Int), e = .returned (.tuple #[.slice (some va) l.length vc, refV z x y]) ∧ l.length ≤ 9 ∧ l.length ≤ vc ∧ w.heap.size ≤ va.block ∧ IsWs w' (some va) l.length (nw l) ∧ Below w.heap.size w w' := by
  go_enter Try.func29, Try.ntmps29
  go_wp2_with fail
  generalize hW : (w.alloc _ : World) = W
  have hB0 : Below w.heap.size w W := by subst hW; (repeat (first | exact Below.refl _ _ | assumption | refine Below.drew ?_ | refine bl_alloc ?_ _ | refine bl_then ?_ (by assumption) | refine Below.setCell ?_ (by first | omega | (simp; done) | (simp; omega)) _ | refine bl_store ?_ ?_ _ _))
  have HT0 : Hid (There W w.heap.size 3) := by show There _ _ _; subst hW; exact there3r w _ _ _ _
  have hsz : w.heap.size < W.heap.size := by subst hW; simp
  clear hW
  refine (l1Source_ex a n cap W).mono ?_
  rintro e w1 ⟨rfl, rfl⟩
  have hS1 : Src a n cap Z W.heap.size 0 (srcW a n cap W) := src_start a n cap Z W (IsBytes.below h hB0) hrng hn
  have hb1 : Below W.heap.size W (srcW a n cap W) := by unfold srcW; (repeat (first | exact Below.refl _ _ | assumption | refine Below.drew ?_ | refine bl_alloc ?_ _ | refine bl_then ?_ (by assumption) | refine Below.setCell ?_ (by first | omega | (simp; done) | (simp; omega)) _ | refine bl_store ?_ ?_ _ _))
  have HS1 : Hid (Src a n cap Z W.heap.size 0 (srcW a n cap W)) := hS1
  have HT1 : Hid (There (srcW a n cap W) w.heap.size 3) := HT0.out.below hb1
  have HB1 : Hid (Below w.heap.size w (srcW a n cap W)) := bl_then hB0 hb1
  have hsl1 : W.heap.size < (srcW a n cap W).heap.size := World.block_lt_of_cell? _ _ hS1.code
  obtain ⟨s, hs⟩ : ∃ s, W.heap.size = s := ⟨_, rfl⟩
  rw [hs] at HS1 hsl1 hsz ⊢
  generalize srcW a n cap W = w1 at *
  clear hS1 hb1 hB0 HT0 h hs
  go_wp2_with fail
  refine (l12Bent_any a n cap Z s 0 _ HS1.out hcap (by omega)).mono ?_
  rintro e w2 ⟨va, vc, l, t2, rfl, hl9, hR2, ht2, hS2, hK2⟩
  obtain ⟨_, hlc, g, rfl, hg1⟩ := hR2.some
  have HR2 : Hid (RowW w1.heap.size w2 (.slice (some ⟨g, 0, none⟩) l.length vc) l) := hR2
  have HT2 : Hid (There w2 w.heap.size 3) := HT1.out.keeps hK2 (by omega)
  have HK2 : Hid (Keeps s w1 w2) := hK2
  have HS2 : Hid (Src a n cap Z s t2 w2) := hS2
  have hs12 := hK2.size
  clear hR2 hK2 hS2 HS1
  by_cases hln : 0 < l.length
  · have hln' : (0 : Int) < (l.length : Int) := by omega
    go_wp2_with fail
    refine (l1Chance_any a n cap Z s t2 2 _ HS2.out hcap (by omega) (by omega) (by omega)).mono ?_
    rintro e w3 ⟨c, rfl, hS3, hK3⟩
    obtain ⟨t3, ht3⟩ : ∃ t3, t2 + 1 = t3 := ⟨_, rfl⟩
    rw [ht3] at hS3
    have ht3' : t3 ≤ 41 := by omega
    have HR3 : Hid (RowW w1.heap.size w3 (.slice (some ⟨g, 0, none⟩) l.length vc) l) := ownsRow_keeps HR2.out hK3 hsl1
    have HT3 : Hid (There w3 w.heap.size 3) := HT2.out.keeps hK3 (by omega)
    have HK3 : Hid (Keeps s w1 w3) := HK2.out.trans hK3
    have HS3 : Hid (Src a n cap Z s t3 w3) := hS3
    have hs13 := HK3.out.size
    clear hS3 hK3 HR2 HT2 HK2 HS2 ht3
    cases c
    · go_wp2_with fail
      refine (l7Bent_any a n cap Z s t3 _ HS3.out hcap (by omega)).mono ?_
      rintro e w4 ⟨z, x, y, t4, rfl, ht4, hS4, hK4⟩
      have HR4 : Hid (RowW w1.heap.size w4 (.slice (some ⟨g, 0, none⟩) l.length vc) l) := ownsRow_keeps HR3.out hK4 hsl1
      have HT4 : Hid (There w4 w.heap.size 3) := HT3.out.keeps hK4 (by omega)
      have HK4 : Hid (Keeps s w1 w4) := HK3.out.trans hK4
      have t0' := HT4.out.cell 0 (by omega)
      have t1' := HT4.out.cell 1 (by omega)
      have t2' := HT4.out.cell 2 (by omega)
      have f0 := (HT4.out 0 (by omega)).2
      have f1 := (HT4.out 1 (by omega)).2
      have f2 := (HT4.out 2 (by omega)).2
      have hs14 := HK4.out.size
      clear hS4 hK4 HR3 HT3 HK3 HS3
      go_wp2_with fail
      have hRA : R3At (((w4.setCell ⟨w.heap.size, 0, none⟩ (.int .i64 z)).setCell ⟨w.heap.size, 1, none⟩ (.int .i64 x)).setCell ⟨w.heap.size, 2, none⟩ (.int .i64 y)) w.heap.size z x y := set3_atr HT4.out
      refine bodyPost_ret (resWith rfl rfl hRA) rfl ⟨⟨g, 0, none⟩, vc, l, z, x, y, rfl, hl9, hlc, (by show _ ≤ g; omega), ?_, ?_⟩
      · exact RowW.is (RowW.set3 (base := w1.heap.size) HR4.out (by omega) (Nat.le_refl _))
      · exact ((Below.setCell (HB1.out.trans (HK4.out.below (by omega) (by omega))) (Nat.le_refl _) _).setCell (Nat.le_refl _) _).setCell (Nat.le_refl _) _
    have HP3 : Hid (WsAt w3 g 0 l.length (nw l)) := by
      show WsAt _ _ _ _ _
      rcases HR3.out.is with h0 | ⟨b', o', e', _, h'⟩
      · omega
      · injection e' with e'; injection e' with e1 e2; subst e1 e2; exact h'
    have hgw : w.heap.size + 1 ≤ g := by omega
    go_upto_region 4 with fail
    refine wp_region_noPanic ?_
    refine wp_region_held_drew (S := fun W' => There W' w.heap.size 3 ∧ WsAt W' g 0 l.length (nw l)) (by kernel_rfl) ⟨by exact HT3.out.drew', by exact HP3.out⟩ (fun hHeld => ?_)
    generalize hdr : w3.drew = wk0 at *
    have hS0 : Src a n cap Z s t3 wk0 := by subst hdr; exact HS3.out.drew
    have hK0 : Keeps s w1 wk0 := by subst hdr; exact HK3.out.drew
    have hR0 : RowW w1.heap.size wk0 (.slice (some ⟨g, 0, none⟩) l.length vc) l := by subst hdr; exact HR3.out
    refine takeD (i := 0) (d := some 17) (v := ?vq0) rfl rfl (by kernel_rfl) (by kernel_rfl) (by kernel_rfl) (fun _ _ _ h => h) (Or.inl ⟨by rfl, ?hyq0⟩) (by assumption) ?_
    case hyq0 => (intro w hSw; (try dsimp only at hSw); go_simp <;> with_reducible rfl)
    try simp only [Act.put, List.setIfInBounds_toArray, List.set_cons_zero, List.set_cons_succ]
    refine takeD (i := 1) (d := some 18) (v := ?vq1) rfl rfl (by kernel_rfl) (by kernel_rfl) (by kernel_rfl) (fun _ _ _ h => h) (Or.inl ⟨by rfl, ?hyq1⟩) (by assumption) ?_
    case hyq1 => (intro w hSw; (try dsimp only at hSw); go_simp <;> with_reducible rfl)
    try simp only [Act.put, List.setIfInBounds_toArray, List.set_cons_zero, List.set_cons_succ]
    refine takeD (i := 2) (d := some 19) (v := ?vq2) rfl rfl (by kernel_rfl) (by kernel_rfl) (by kernel_rfl) (fun _ _ _ h => h) (Or.inl ⟨by rfl, ?hyq2⟩) (by assumption) ?_
    case hyq2 => (intro w hSw; (try dsimp only at hSw); go_simp <;> with_reducible rfl)
    try simp only [Act.put, List.setIfInBounds_toArray, List.set_cons_zero, List.set_cons_succ]
    refine takeD (i := 3) (d := some 20) (v := ?vq3) rfl rfl (by kernel_rfl) (by kernel_rfl) (by kernel_rfl) (fun _ _ _ h => h) (Or.inl ⟨by rfl, ?hyq3⟩) (by assumption) ?_
    case hyq3 => (intro w hSw; (try dsimp only at hSw); go_simp <;> with_reducible rfl)
    try simp only [Act.put, List.setIfInBounds_toArray, List.set_cons_zero, List.set_cons_succ]
    refine takeD (i := 4) (d := some 21) (v := ?vq4) rfl rfl (by kernel_rfl) (by kernel_rfl) (by kernel_rfl) (fun _ _ _ h => h) (Or.inl ⟨by rfl, ?hyq4⟩) (by assumption) ?_
    case hyq4 => (intro w hSw; (try dsimp only at hSw); go_simp <;> with_reducible rfl)
    try simp only [Act.put, List.setIfInBounds_toArray, List.set_cons_zero, List.set_cons_succ]
    refine wpAnyH_ready (rs := [5]) (by kernel_rfl) (by simp) ?_
    refine (AllReadyH.cons rfl (fun K hK => ?_) AllReadyH.nil)
    go_simp
    refine Calls.mono (l1Next_any a n cap Z s t3 l.length _ hS0 hcap (by omega) hln (by omega)) ?_
    rintro e wk1 ⟨x1, rfl, hx1, hS1, hK1⟩
    have hT1 : There wk1 w.heap.size 3 := hHeld.1.keeps hK1 (by omega)
    have hR1 : RowW w1.heap.size wk1 (.slice (some ⟨g, 0, none⟩) l.length vc) l := ownsRow_keeps hR0 hK1 hsl1
    have hP1 : WsAt wk1 g 0 l.length (nw l) := by
      rcases hR1.is with h0 | ⟨b', o', e', _, h'⟩
      · omega
      · injection e' with e'; injection e' with e1 e2; subst e1 e2; exact h'
    go_wp2_with fail
    refine hK.out _ _ ⟨hT1, hP1⟩ (fun hHeld => ?_)
    clear hK K
    try simp only [Act.put, List.setIfInBounds_toArray, List.set_cons_zero, List.set_cons_succ]
    have hxi : (x1 : Int) < (l.length : Int) := by omega
    have hx0 : (0 : Int) ≤ (x1 : Int) := by omega
    have e0 : ∀ W', (There W' w.heap.size 3 ∧ WsAt W' g 0 l.length (nw l)) → W'.cell? ⟨g, x1 * 5, none⟩ = some (.int .i64 (nw l x1).z) := fun W' h => by have := (h.2 x1 hx1).1; simpa using this
    have e1 : ∀ W', (There W' w.heap.size 3 ∧ WsAt W' g 0 l.length (nw l)) → W'.cell? ⟨g, x1 * 5 + 1, none⟩ = some (.int .i64 (nw l x1).x) := fun W' h => by have := (h.2 x1 hx1).2.1; simpa using this
    have e2 : ∀ W', (There W' w.heap.size 3 ∧ WsAt W' g 0 l.length (nw l)) → W'.cell? ⟨g, x1 * 5 + 2, none⟩ = some (.int .i64 (nw l x1).y) := fun W' h => by have := (h.2 x1 hx1).2.2.1; simpa using this
    refine takeD (i := 6) (d := some 23) (v := ?vq6) rfl rfl (by kernel_rfl) (by kernel_rfl) (by kernel_rfl) (fun _ _ _ h => h) (Or.inl ⟨by rfl, ?hyq6⟩) (by assumption) ?_
    case hyq6 => (intro w hSw; (try dsimp only at hSw); go_simp <;> with_reducible rfl)
    try simp only [Act.put, List.setIfInBounds_toArray, List.set_cons_zero, List.set_cons_succ]
    refine takeD (i := 7) (d := some 24) (v := ?vq7) rfl rfl (by kernel_rfl) (by kernel_rfl) (by kernel_rfl) (fun _ _ _ h => h) (Or.inl ⟨by rfl, ?hyq7⟩) (by assumption) ?_
    case hyq7 => (intro w hSw; (try dsimp only at hSw); go_simp <;> with_reducible rfl)
    try simp only [Act.put, List.setIfInBounds_toArray, List.set_cons_zero, List.set_cons_succ]
    refine takeD (i := 8) (d := some 25) (v := ?vq8) rfl rfl (by kernel_rfl) (by kernel_rfl) (by kernel_rfl) (fun _ _ _ h => h) (Or.inl ⟨by rfl, ?hyq8⟩) (by assumption) ?_
    case hyq8 => (intro w hSw; (try dsimp only at hSw); go_simp <;> with_reducible rfl)
    try simp only [Act.put, List.setIfInBounds_toArray, List.set_cons_zero, List.set_cons_succ]
    refine takeD (i := 9) (d := some 2) (v := ?vq9) rfl rfl (by kernel_rfl) (by kernel_rfl) (by kernel_rfl) (fun _ _ _ h => h) (Or.inl ⟨by rfl, ?hyq9⟩) (by assumption) ?_
    case hyq9 => (intro w hSw; (try dsimp only at hSw); go_simp <;> with_reducible rfl)
    try simp only [Act.put, List.setIfInBounds_toArray, List.set_cons_zero, List.set_cons_succ]
    have t0 := hT1.cell 0 (by omega)
    have t1 := hT1.cell 1 (by omega)
    have t2 := hT1.cell 2 (by omega)
    have f0 := (hT1 0 (by omega)).2
    have f1 := (hT1 1 (by omega)).2
    have f2 := (hT1 2 (by omega)).2
    refine wpAnyH_ready (rs := [10]) (by kernel_rfl) (by simp) ?_
    refine (AllReadyH.cons rfl (fun K hK => ?_) AllReadyH.nil)
    rw [if_pos (by rfl)]
    go_simp
    have hP2 : WsAt (((wk1.setCell ⟨w.heap.size, 0, none⟩ (.int .i64 (nw l x1).z)).setCell ⟨w.heap.size, 1, none⟩ (.int .i64 (nw l x1).x)).setCell ⟨w.heap.size, 2, none⟩ (.int .i64 (nw l x1).y)) g 0 l.length (nw l) := hP1.mid ((((MidB.refl w.heap.size (w.heap.size + 1) wk1).set (Nat.le_refl _) (Nat.lt_succ_self _) 0 _).set (Nat.le_refl _) (Nat.lt_succ_self _) 1 _).set (Nat.le_refl _) (Nat.lt_succ_self _) 2 _) (.inr (by omega))
    refine hK.out _ _ ⟨set1_there (set1_there (set1_there hT1)), hP2⟩ (fun hHeld => ?_)
    clear hK K
    try simp only [Act.put, List.setIfInBounds_toArray, List.set_cons_zero, List.set_cons_succ]
    refine wpAnyH_done (by kernel_rfl) ?_ _
    refine NoPanic.normal ?_
    go_wp2_with fail
    have hRA : R3At (((wk1.setCell ⟨w.heap.size, 0, none⟩ (.int .i64 (nw l x1).z)).setCell ⟨w.heap.size, 1, none⟩ (.int .i64 (nw l x1).x)).setCell ⟨w.heap.size, 2, none⟩ (.int .i64 (nw l x1).y)) w.heap.size (nw l x1).z (nw l x1).x (nw l x1).y := set3_atr hT1
    refine bodyPost_ret (resWith rfl rfl hRA) rfl ⟨⟨g, 0, none⟩, vc, l, _, _, _, rfl, hl9, hlc, (by show _ ≤ g; omega), ?_, ?_⟩
    · exact RowW.is (RowW.set3 (base := w1.heap.size) hR1 (by omega) (Nat.le_refl _))
    · exact ((Below.setCell (HB1.out.trans ((hK0.trans hK1).below (by omega) (by omega))) (Nat.le_refl _) _).setCell (Nat.le_refl _) _).setCell (Nat.le_refl _) _
  · have hln' : ¬ (0 : Int) < (l.length : Int) := by omega
    obtain ⟨w3, hw3⟩ : ∃ W, W = w2 := ⟨_, rfl⟩
    obtain ⟨t3, ht3⟩ : ∃ t3, t3 = t2 := ⟨_, rfl⟩
    have ht3' : t3 ≤ 41 := by omega
    have HR3 : Hid (RowW w1.heap.size w3 (.slice (some ⟨g, 0, none⟩) l.length vc) l) := by subst hw3; exact HR2
    have HT3 : Hid (There w3 w.heap.size 3) := by subst hw3; exact HT2
    have HK3 : Hid (Keeps s w1 w3) := by subst hw3; exact HK2
    have HS3 : Hid (Src a n cap Z s t3 w3) := by subst hw3 ht3; exact HS2
    have hs13 := HK3.out.size
    clear HR2 HT2 HK2 HS2 ht3
    go_wp2_with fail
    subst hw3
    refine (l7Bent_any a n cap Z s t3 _ HS3.out hcap (by omega)).mono ?_
    rintro e w4 ⟨z, x, y, t4, rfl, ht4, hS4, hK4⟩
    have HR4 : Hid (RowW w1.heap.size w4 (.slice (some ⟨g, 0, none⟩) l.length vc) l) := ownsRow_keeps HR3.out hK4 hsl1
    have HT4 : Hid (There w4 w.heap.size 3) := HT3.out.keeps hK4 (by omega)
    have HK4 : Hid (Keeps s w1 w4) := HK3.out.trans hK4
    have t0' := HT4.out.cell 0 (by omega)
    have t1' := HT4.out.cell 1 (by omega)
    have t2' := HT4.out.cell 2 (by omega)
    have f0 := (HT4.out 0 (by omega)).2
    have f1 := (HT4.out 1 (by omega)).2
    have f2 := (HT4.out 2 (by omega)).2
    have hs14 := HK4.out.size
    clear hS4 hK4 HR3 HT3 HK3 HS3
    go_wp2_with fail
    have hRA : R3At (((w4.setCell ⟨w.heap.size, 0, none⟩ (.int .i64 z)).setCell ⟨w.heap.size, 1, none⟩ (.int .i64 x)).setCell ⟨w.heap.size, 2, none⟩ (.int .i64 y)) w.heap.size z x y := set3_atr HT4.out
    refine bodyPost_ret (resWith rfl rfl hRA) rfl ⟨⟨g, 0, none⟩, vc, l, z, x, y, rfl, hl9, hlc, (by show _ ≤ g; omega), ?_, ?_⟩
    · exact RowW.is (RowW.set3 (base := w1.heap.size) HR4.out (by omega) (Nat.le_refl _))
    · exact ((Below.setCell (HB1.out.trans (HK4.out.below (by omega) (by omega))) (Nat.le_refl _) _).setCell (Nat.le_refl _) _).setCell (Nat.le_refl _) _
theorem l1Later_three (a : Option Addr) (n cap : Nat) (w : World) : Calls Try.prog 30 #[.slice a n cap, .int .i64 3] w fun e w' => e = .returned (.pointer (some ⟨w.heap.size, 0, none⟩)) ∧ (w.alloc (.cells #[.slice a n cap, .int .i64 26] 83)) = w' := by
  go_enter Try.func30, Try.ntmps30
  go_wp2
  go_ret
  exact ⟨rfl, rfl⟩
theorem src_later (a : Option Addr) (n cap : Nat) (Z : Nat → Int) (w : World) (h : IsBytes w a n Z) (hr : ∀ i, 0 ≤ Z i ∧ Z i ≤ 255) (hn : n ≤ 1048576) : Src a n cap Z w.heap.size 26 (w.alloc (.cells #[.slice a n cap, .int .i64 26] 83)) := by
  have hb : Below w.heap.size w (w.alloc (.cells #[.slice a n cap, .int .i64 26] 83)) := by (repeat (first | exact Below.refl _ _ | assumption | refine Below.drew ?_ | refine bl_alloc ?_ _ | refine bl_then ?_ (by assumption) | refine Below.setCell ?_ (by first | omega | (simp; done) | (simp; omega)) _ | refine bl_store ?_ ?_ _ _))
  refine ⟨by simp [go_sem], by simp [go_sem], by simp [go_sem], ?_, hr, hn⟩
  rcases h with h | ⟨b, off, e, hl, hz⟩
  · exact .inl h
  · exact .inr ⟨b, off, e, hl, fun i hi => (hb.cell (p := ⟨b, off + i, none⟩) hl).trans (hz i hi)⟩
theorem resDraw {T : Array Value} {Wf : World} {r : Nat} {v u : Value} {z x y : Int} (h2 : T[2]?.getD undef = v) (h4 : T[4]?.getD undef = u) (hT : T[3]?.getD undef = .pointer (some ⟨r, 0, none⟩)) (h : R3At Wf r z x y) :
    (results Try.f10 T).run Try.prog Wf = .ok (.tuple #[v, refV z x y, u]) Wf := by
  obtain ⟨a0, a1, a2⟩ := h
  simp [results, Try.results10, go_sem, hT, h2, h4, a0, a1, a2]
set_option maxHeartbeats 8000000 in
theorem DrawAskTile_any (a : Option Addr) (n cap : Nat) (Z : Nat → Int) (w : World) (h : IsBytes w a n Z) (hrng : ∀ i, 0 ≤ Z i ∧ Z i ≤ 255) (hn : n ≤ 1048576) (hcap : n ≤ cap) :
    Calls Try.prog 10 #[.slice a n cap] w fun e w' => ∃ (va : Addr) (vc : Nat) (l : List Req) (z x y now : Int), e = .returned (.tuple #[.slice (some va) l.length vc, refV z x y, .int .i64 now]) ∧ l.length ≤ 9 ∧ l.length ≤ vc ∧ IsWs w' (some va) l.length (nw l) ∧ Below w.heap.size w w' := by
  go_enter Try.func10, Try.ntmps10
  go_wp2_with fail
  generalize hW : (w.alloc _ : World) = W
  have hB0 : Below w.heap.size w W := by subst hW; (repeat (first | exact Below.refl _ _ | assumption | refine Below.drew ?_ | refine bl_alloc ?_ _ | refine bl_then ?_ (by assumption) | refine Below.setCell ?_ (by first | omega | (simp; done) | (simp; omega)) _ | refine bl_store ?_ ?_ _ _))
  have HT0 : Hid (There W w.heap.size 3) := by show There _ _ _; subst hW; exact there3r w _ _ _ _
  have hsz : w.heap.size < W.heap.size := by subst hW; simp
  clear hW
  refine (l12With_any a n cap Z W (h.below hB0) hrng hn hcap).mono ?_
  rintro e w1 ⟨va, vc, l, z, x, y, rfl, hl9, hlc, hvb, hI1, hb1⟩
  have hB1 : Below w.heap.size w w1 := bl_then hB0 hb1
  have HT1 : Hid (There w1 w.heap.size 3) := HT0.out.below hb1
  have HI1 : Hid (IsWs w1 (some va) l.length (nw l)) := hI1
  have hs1 := hb1.size
  clear hI1 hb1 HT0 hB0
  go_wp2_with fail
  generalize hW2 : (w1.alloc _ : World) = w2
  have hb2 : Below w1.heap.size w1 w2 := by subst hW2; (repeat (first | exact Below.refl _ _ | assumption | refine Below.drew ?_ | refine bl_alloc ?_ _ | refine bl_then ?_ (by assumption) | refine Below.setCell ?_ (by first | omega | (simp; done) | (simp; omega)) _ | refine bl_store ?_ ?_ _ _))
  have hRA : R3At w2 w1.heap.size z x y := by subst hW2; exact ⟨by simp [go_sem], by simp [go_sem], by simp [go_sem]⟩
  clear hW2
  have hB2 : Below w.heap.size w w2 := bl_then hB1 hb2
  refine (l1Later_three a n cap w2).mono ?_
  rintro e w3 ⟨rfl, hw3⟩
  have hb3 : Below w2.heap.size w2 w3 := by subst hw3; (repeat (first | exact Below.refl _ _ | assumption | refine Below.drew ?_ | refine bl_alloc ?_ _ | refine bl_then ?_ (by assumption) | refine Below.setCell ?_ (by first | omega | (simp; done) | (simp; omega)) _ | refine bl_store ?_ ?_ _ _))
  have HS3 : Hid (Src a n cap Z w2.heap.size 26 w3) := by show Src _ _ _ _ _ _ _; subst hw3; exact src_later a n cap Z w2 (h.below hB2) hrng hn
  have HRA : Hid (R3At w3 w1.heap.size z x y) := hRA.below hb3
  have HT3 : Hid (There w3 w.heap.size 3) := (HT1.out.below hb2).below hb3
  have HI3 : Hid (IsWs w3 (some va) l.length (nw l)) := (HI1.out.below hb2).below hb3
  have HU3 : Hid (UnderW w2.heap.size w3 (some va) l.length (nw l)) := by
    show UnderW _ _ _ _ _
    rcases HI1.out.below hb2 with h0 | ⟨b, off, e, hl, hp⟩
    · exact .inl h0
    · exact .inr ⟨b, off, e, hl, hp.below hb3 hl⟩
  have HB3 : Hid (Below w.heap.size w w3) := bl_then hB2 hb3
  have hlt6 : w1.heap.size < w2.heap.size := hRA.lt
  have hs23 : w2.heap.size < w3.heap.size := World.block_lt_of_cell? _ _ HS3.out.code
  obtain ⟨s2, hs2⟩ : ∃ s2, w2.heap.size = s2 := ⟨_, rfl⟩
  obtain ⟨r6, hr6⟩ : ∃ r6, w1.heap.size = r6 := ⟨_, rfl⟩
  rw [hs2] at HS3 HU3 hlt6 hs23 ⊢
  rw [hr6] at HRA hlt6 hs1 ⊢
  clear hw3 hb3 hb2 hRA HI1 HT1 hB2 hB1 h hs2 hr6
  have hne6 : r6 ≠ s2 := by omega
  have hew : w.heap.size + 1 ≤ r6 := by omega
  have d0 : ∀ W', (R3At W' r6 z x y ∧ There W' w.heap.size 3) → W'.cell? ⟨r6, 0, none⟩ = some (.int .i64 z) := fun W' h => h.1.1
  have d1 : ∀ W', (R3At W' r6 z x y ∧ There W' w.heap.size 3) → W'.cell? ⟨r6, 1, none⟩ = some (.int .i64 x) := fun W' h => h.1.2.1
  have d2 : ∀ W', (R3At W' r6 z x y ∧ There W' w.heap.size 3) → W'.cell? ⟨r6, 2, none⟩ = some (.int .i64 y) := fun W' h => h.1.2.2
  go_upto_region 3 with fail
  refine wp_region_noPanic ?_
  refine wp_region_held_drew (S := fun W' => R3At W' r6 z x y ∧ There W' w.heap.size 3) (by kernel_rfl) ⟨by exact HRA.out, by exact HT3.out.drew'⟩ (fun hHeld => ?_)
  generalize hdr : w3.drew = wk0 at *
  have hS0 : Src a n cap Z s2 26 wk0 := by subst hdr; exact HS3.out.drew
  have hI0 : IsWs wk0 (some va) l.length (nw l) := by subst hdr; exact HI3.out
  have hU0 : UnderW s2 wk0 (some va) l.length (nw l) := by subst hdr; exact HU3.out
  have hB0 : Below s2 w3 wk0 := by subst hdr; (repeat (first | exact Below.refl _ _ | assumption | refine Below.drew ?_ | refine bl_alloc ?_ _ | refine bl_then ?_ (by assumption) | refine Below.setCell ?_ (by first | omega | (simp; done) | (simp; omega)) _ | refine bl_store ?_ ?_ _ _))
  refine takeD (i := 0) (d := some 15) (v := ?vd0) rfl rfl (by kernel_rfl) (by kernel_rfl) (by kernel_rfl) (fun _ _ _ h => h) (Or.inl ⟨by rfl, ?hyd0⟩) (by assumption) ?_
  case hyd0 => (intro w hSw; (try dsimp only at hSw); go_simp <;> with_reducible rfl)
  try simp only [Act.put, List.setIfInBounds_toArray, List.set_cons_zero, List.set_cons_succ]
  refine takeD (i := 1) (d := some 16) (v := ?vd1) rfl rfl (by kernel_rfl) (by kernel_rfl) (by kernel_rfl) (fun _ _ _ h => h) (Or.inl ⟨by rfl, ?hyd1⟩) (by assumption) ?_
  case hyd1 => (intro w hSw; (try dsimp only at hSw); go_simp <;> with_reducible rfl)
  try simp only [Act.put, List.setIfInBounds_toArray, List.set_cons_zero, List.set_cons_succ]
  refine takeD (i := 2) (d := some 17) (v := ?vd2) rfl rfl (by kernel_rfl) (by kernel_rfl) (by kernel_rfl) (fun _ _ _ h => h) (Or.inl ⟨by rfl, ?hyd2⟩) (by assumption) ?_
  case hyd2 => (intro w hSw; (try dsimp only at hSw); go_simp <;> with_reducible rfl)
  try simp only [Act.put, List.setIfInBounds_toArray, List.set_cons_zero, List.set_cons_succ]
  refine takeD (i := 3) (d := some 18) (v := ?vd3) rfl rfl (by kernel_rfl) (by kernel_rfl) (by kernel_rfl) (fun _ _ _ h => h) (Or.inl ⟨by rfl, ?hyd3⟩) (by assumption) ?_
  case hyd3 => (intro w hSw; (try dsimp only at hSw); go_simp <;> with_reducible rfl)
  try simp only [Act.put, List.setIfInBounds_toArray, List.set_cons_zero, List.set_cons_succ]
  refine takeD (i := 5) (d := some 20) (v := ?vd5) rfl rfl (by kernel_rfl) (by kernel_rfl) (by kernel_rfl) (fun _ _ _ h => h) (Or.inl ⟨by rfl, ?hyd5⟩) (by assumption) ?_
  case hyd5 => (intro w hSw; (try dsimp only at hSw); go_simp <;> with_reducible rfl)
  try simp only [Act.put, List.setIfInBounds_toArray, List.set_cons_zero, List.set_cons_succ]
  refine wpAnyH_ready (rs := [4]) (by kernel_rfl) (by simp) ?_
  refine (AllReadyH.cons rfl (fun K hK => ?_) AllReadyH.nil)
  go_simp
  refine Calls.mono (l1Next_any a n cap Z s2 26 20 _ hS0 hcap (by omega) (by omega) (by omega)) ?_
  rintro e wk1 ⟨x1, rfl, hx1, hS1, hK1⟩
  have hH1 : R3At wk1 r6 z x y ∧ There wk1 w.heap.size 3 := ⟨hHeld.1.keeps hK1 (by omega), hHeld.2.keeps hK1 (by omega)⟩
  go_wp2_with fail
  refine hK.out _ _ hH1 (fun hHeld => ?_)
  clear hK K
  try simp only [Act.put, List.setIfInBounds_toArray, List.set_cons_zero, List.set_cons_succ]
  refine wpAnyH_ready (rs := [6]) (by kernel_rfl) (by simp) ?_
  refine (AllReadyH.cons rfl (fun K hK => ?_) AllReadyH.nil)
  go_simp
  refine Calls.mono (l1Next_any a n cap Z s2 27 20 _ hS1 hcap (by omega) (by omega) (by omega)) ?_
  rintro e wk2 ⟨x2, rfl, hx2, hS2, hK2⟩
  have hH2 : R3At wk2 r6 z x y ∧ There wk2 w.heap.size 3 := ⟨hHeld.1.keeps hK2 (by omega), hHeld.2.keeps hK2 (by omega)⟩
  go_wp2_with fail
  refine hK.out _ _ hH2 (fun hHeld => ?_)
  clear hK K
  try simp only [Act.put, List.setIfInBounds_toArray, List.set_cons_zero, List.set_cons_succ]
  refine wpAnyH_ready (rs := [7]) (by kernel_rfl) (by simp) ?_
  refine (AllReadyH.cons rfl (fun K hK => ?_) AllReadyH.nil)
  rw [if_pos (by rfl)]
  go_simp
  have hpk := fun T => pick5r a n cap Z s2 28 (x1 : Int) (x2 : Int) 9000 9001 (-1) wk2 T hS2 hcap (by omega)
  have HPK := (show Hid _ from hpk 2)
  clear hpk
  have hb3 : Below wk2.heap.size wk2 (wk2.alloc (.cells #[.int .i64 (x1 : Int), .int .i64 (x2 : Int), .int .i64 9000, .int .i64 9001, .int .i64 (-1)] 2)) := by (repeat (first | exact Below.refl _ _ | assumption | refine Below.drew ?_ | refine bl_alloc ?_ _ | refine bl_then ?_ (by assumption) | refine Below.setCell ?_ (by first | omega | (simp; done) | (simp; omega)) _ | refine bl_store ?_ ?_ _ _))
  have hH3 : R3At (wk2.alloc (.cells #[.int .i64 (x1 : Int), .int .i64 (x2 : Int), .int .i64 9000, .int .i64 9001, .int .i64 (-1)] 2)) r6 z x y ∧ There (wk2.alloc (.cells #[.int .i64 (x1 : Int), .int .i64 (x2 : Int), .int .i64 9000, .int .i64 9001, .int .i64 (-1)] 2)) w.heap.size 3 := ⟨hHeld.1.below hb3, hHeld.2.below hb3⟩
  refine hK.out _ _ hH3 (fun hHeld => ?_)
  clear hK K
  try simp only [Act.put, List.setIfInBounds_toArray, List.set_cons_zero, List.set_cons_succ]
  refine wpAnyH_ready (rs := [8]) (by kernel_rfl) (by simp) ?_
  refine (AllReadyH.cons rfl (fun K hK => ?_) AllReadyH.nil)
  go_simp
  refine Calls.mono HPK.out ?_
  rintro e wk4 ⟨now, rfl, hS4, hK4⟩
  have hH4 : R3At wk4 r6 z x y ∧ There wk4 w.heap.size 3 := ⟨hH2.1.keeps hK4 (by omega), hH2.2.keeps hK4 (by omega)⟩
  go_wp2_with fail
  refine hK.out _ _ hH4 (fun hHeld => ?_)
  clear hK K
  try simp only [Act.put, List.setIfInBounds_toArray, List.set_cons_zero, List.set_cons_succ]
  refine takeD (i := 9) (d := some 2) (v := ?vd9) rfl rfl (by kernel_rfl) (by kernel_rfl) (by kernel_rfl) (fun _ _ _ h => h) (Or.inl ⟨by rfl, ?hyd9⟩) (by assumption) ?_
  case hyd9 => (intro w hSw; (try dsimp only at hSw); go_simp <;> with_reducible rfl)
  try simp only [Act.put, List.setIfInBounds_toArray, List.set_cons_zero, List.set_cons_succ]
  have hT4 := hH4.2
  have t0 := hT4.cell 0 (by omega)
  have t1 := hT4.cell 1 (by omega)
  have t2 := hT4.cell 2 (by omega)
  have f0 := (hT4 0 (by omega)).2
  have f1 := (hT4 1 (by omega)).2
  have f2 := (hT4 2 (by omega)).2
  refine wpAnyH_ready (rs := [10]) (by kernel_rfl) (by simp) ?_
  refine (AllReadyH.cons rfl (fun K hK => ?_) AllReadyH.nil)
  rw [if_pos (by rfl)]
  go_simp
  have hMd := (((MidB.refl w.heap.size (w.heap.size + 1) wk4).set (Nat.le_refl _) (Nat.lt_succ_self _) 0 (.int .i64 z)).set (Nat.le_refl _) (Nat.lt_succ_self _) 1 (.int .i64 x)).set (Nat.le_refl _) (Nat.lt_succ_self _) 2 (.int .i64 y)
  have hR4 : R3At (((wk4.setCell ⟨w.heap.size, 0, none⟩ (.int .i64 z)).setCell ⟨w.heap.size, 1, none⟩ (.int .i64 x)).setCell ⟨w.heap.size, 2, none⟩ (.int .i64 y)) r6 z x y := ⟨hMd.cell hH4.1.1 (.inr (by omega)), hMd.cell hH4.1.2.1 (.inr (by omega)), hMd.cell hH4.1.2.2 (.inr (by omega))⟩
  refine hK.out _ _ ⟨hR4, set1_there (set1_there (set1_there hT4))⟩ (fun hHeld => ?_)
  clear hK K
  try simp only [Act.put, List.setIfInBounds_toArray, List.set_cons_zero, List.set_cons_succ]
  refine takeD (i := 11) (d := some 4) (v := ?vd11) rfl rfl (by kernel_rfl) (by kernel_rfl) (by kernel_rfl) (fun _ _ _ h => h) (Or.inl ⟨by rfl, ?hyd11⟩) (by assumption) ?_
  case hyd11 => (intro w hSw; (try dsimp only at hSw); go_simp <;> with_reducible rfl)
  try simp only [Act.put, List.setIfInBounds_toArray, List.set_cons_zero, List.set_cons_succ]
  refine wpAnyH_done (by kernel_rfl) ?_ _
  refine NoPanic.normal ?_
  go_wp2_with fail
  have hRA : R3At (((wk4.setCell ⟨w.heap.size, 0, none⟩ (.int .i64 z)).setCell ⟨w.heap.size, 1, none⟩ (.int .i64 x)).setCell ⟨w.heap.size, 2, none⟩ (.int .i64 y)) w.heap.size z x y := set3_atr hT4
  have hKK : Keeps s2 wk0 wk4 := (hK1.trans hK2).trans hK4
  have hsz0 : w3.heap.size ≤ wk0.heap.size := hB0.size
  refine bodyPost_ret (resDraw rfl rfl rfl hRA) rfl ⟨va, vc, l, z, x, y, now, rfl, hl9, hlc, ?_, ?_⟩
  · rcases hU0 with h0 | ⟨b, off, e, hl, hp⟩
    · exact .inl h0
    · have hpb := hp.below (hKK.below (B := s2) (Nat.le_refl _) (by omega)) hl
      refine .inr ⟨b, off, e, ?_, hpb.mid hMd (.inr ?_)⟩
      · have := hKK.size; have := hMd.size; omega
      · injection e with e; subst e; exact Nat.lt_of_lt_of_le hsz hvb
  · exact (HB3.out.trans ((hB0.mono (by omega)).trans (hKK.below (by omega) (by omega)))).trans (hMd.below (by have := hKK.size; omega))
end Go.Proofs.Ytfcbbfhfjojoeaa
