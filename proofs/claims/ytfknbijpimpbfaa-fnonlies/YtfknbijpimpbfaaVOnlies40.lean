/- Requests are drawn. -/
import Derived.Test.YtfknbijpimpbfaaVOnlies21
import Derived.Test.YtfknbijpimpbfaaVOnlies39
namespace Go.Proofs.Ytfknbijpimpbfaa
open Go.RowKit
set_option linter.unusedSimpArgs false
set_option linter.unusedVariables false
set_option maxRecDepth 100000

theorem R3At.keeps {w w' : World} {p s : Nat} {z x y : Int} (h : R3At w p z x y) (hk : Keeps s w w') (hp : p ≠ s) : R3At w' p z x y :=
  ⟨(hk.cell (p := ⟨p, 0, none⟩) h.lt hp).trans h.1, (hk.cell (p := ⟨p, 1, none⟩) h.lt hp).trans h.2.1, (hk.cell (p := ⟨p, 2, none⟩) h.lt hp).trans h.2.2⟩
theorem RowW.is {base : Nat} {w : World} {a : Option Addr} {c : Nat} {l : List Req} (h : RowW base w (.slice a l.length c) l) : IsWs w a l.length (nw l) := h.own.is
set_option maxHeartbeats 8000000 in
theorem l12Right_any (a : Option Addr) (n cap : Nat) (Z : Nat → Int) (s t : Nat) (w : World) (h : Src a n cap Z s t w) (hcap : n ≤ cap) (ht : t ≤ 700) :
    Calls Try.prog 42 #[.pointer (some ⟨s, 0, none⟩)] w fun e w' => ∃ (va : Addr) (vc : Nat) (l : List Req) (t' : Nat), e = .returned (.slice (some va) l.length vc) ∧ l.length ≤ 5 ∧ RowW w.heap.size w' (.slice (some va) l.length vc) l ∧ t' ≤ t + 26 ∧ Src a n cap Z s t' w' ∧ Keeps s w w' := by
  obtain ⟨i0, hi, hz0, hz1, hz2⟩ := info_parts info_req
  have hsl : s < w.heap.size := World.block_lt_of_cell? _ _ h.code
  have HS0 : Hid (Src a n cap Z s t w) := h
  clear h
  go_enter Try.func42, Try.ntmps42
  go_wp2_with fail
  generalize hW : (w.alloc _ : World) = W
  have hB0 : Below w.heap.size w W := by subst hW; (repeat (first | exact Below.refl _ _ | assumption | refine Below.drew ?_ | refine bl_alloc ?_ _ | refine bl_then ?_ (by assumption) | refine Below.setCell ?_ (by first | omega | (simp; done) | (simp; omega)) _ | refine bl_store ?_ ?_ _ _))
  have HR0 : Hid (RowW w.heap.size W (.slice (some ⟨w.heap.size, 0, none⟩) 0 0) []) := by
    show World.ownsRow _ _ _ _ _ _ _
    subst hW
    exact World.ownsRow_lit (base := w.heap.size) (size := 5) w #[] 0 (Nat.le_refl _) (Nat.zero_le _) rfl
  clear hW
  refine (l1Next_any a n cap Z s t 6 _ (HS0.out.below hB0) hcap (by omega) (by omega) (by omega)).mono ?_
  rintro e w1 ⟨k0, rfl, hk0, hS1, hK1⟩
  have HS1 : Hid (Src a n cap Z s (t + 1) w1) := hS1
  have HK1 : Hid (Keeps s w w1) := (Keeps.of_below hB0).trans hK1
  have HR1 : Hid (RowW w.heap.size w1 (.slice (some ⟨w.heap.size, 0, none⟩) 0 0) []) := ownsRow_keeps HR0.out hK1 hsl
  clear hS1 hK1 hB0 HR0 HS0
  go_wp2_with fail
  go_loopw [3, 4] (fun v i wr => ∃ (j : Nat) (va : Addr) (vc : Nat) (l : List Req) (t' : Nat), i = .int .i64 (j : Int) ∧ j + l.length ≤ 5 ∧ v = .slice (some va) l.length vc ∧ RowW w.heap.size wr (.slice (some va) l.length vc) l ∧ t' + 5 * j ≤ t + 26 ∧ Src a n cap Z s t' wr ∧ Keeps s w wr) (fun _ i _ => (intOf i).toNat)
  case atStart => exact ⟨k0, _, _, [], t + 1, rfl, by simp; omega, rfl, HR1.out, by omega, HS1.out, HK1.out⟩
  case round =>
    obtain ⟨j, va, vc, l, t', rfl, hj, rfl, hR, ht', hS, hK⟩ := hrel
    by_cases hj0 : 0 < j
    · have HSr : Hid (Src a n cap Z s t' wr) := hS
      have HKr : Hid (Keeps s w wr) := hK
      have HRr : Hid (RowW w.heap.size wr (.slice (some va) l.length vc) l) := hR
      have hj0' : (0 : Int) < (j : Int) := by omega
      clear hS hK hR
      go_wp2_with fail
      refine (l7Draw_any a n cap Z s t' _ HSr.out hcap (by omega)).mono ?_
      rintro e w2 ⟨z, x, y, rfl, hS2, hK2⟩
      have HR2 : Hid (RowW w.heap.size w2 (.slice (some va) l.length vc) l) := ownsRow_keeps HRr.out hK2 hsl
      have HK2 : Hid (Keeps s w w2) := HKr.out.trans hK2
      have HS2 : Hid (Src a n cap Z s (t' + 3) w2) := hS2
      have hsz2 : w.heap.size ≤ w2.heap.size := HK2.out.size
      clear hS2 hK2
      go_wp2_with fail
      generalize hV : (w2.alloc _ : World) = V
      have hbV : Below w2.heap.size w2 V := by subst hV; (repeat (first | exact Below.refl _ _ | assumption | refine Below.drew ?_ | refine bl_alloc ?_ _ | refine bl_then ?_ (by assumption) | refine Below.setCell ?_ (by first | omega | (simp; done) | (simp; omega)) _ | refine bl_store ?_ ?_ _ _))
      have hRA : R3At V w2.heap.size z x y := by subst hV; exact ⟨by simp [go_sem], by simp [go_sem], by simp [go_sem]⟩
      clear hV
      refine (l12At_any (some va) l.length vc (nw l) z x y V (HR2.out.is.below hbV) (by omega)).mono ?_
      rintro e w3 ⟨rfl, hb3⟩
      have HRA : Hid (R3At w3 w2.heap.size z x y) := hRA.below hb3
      have HR3 : Hid (RowW w.heap.size w3 (.slice (some va) l.length vc) l) := (HR2.out.below hbV).below hb3
      have HS3 : Hid (Src a n cap Z s (t' + 3) w3) := (HS2.out.below hbV).below hb3
      have HK3 : Hid (Keeps s w w3) := (HK2.out.trans (Keeps.of_below hbV)).trans (Keeps.of_below hb3)
      clear hbV hb3 hRA
      have hwj : IntKind.i64.wrap ((j : Int) - 1) = (j : Int) - 1 := IntWalk.i64_in _ (by omega)
      by_cases hat : atW l.length (nw l) z x y < 0
      · have HAT : Hid (atW l.length (nw l) z x y < 0) := hat
        generalize atW l.length (nw l) z x y = q at *
        have d0 : ∀ W', R3At W' w2.heap.size z x y → W'.cell? ⟨w2.heap.size, 0, none⟩ = some (.int .i64 z) := fun W' h => h.1
        have d1 : ∀ W', R3At W' w2.heap.size z x y → W'.cell? ⟨w2.heap.size, 1, none⟩ = some (.int .i64 x) := fun W' h => h.2.1
        have d2 : ∀ W', R3At W' w2.heap.size z x y → W'.cell? ⟨w2.heap.size, 2, none⟩ = some (.int .i64 y) := fun W' h => h.2.2
        go_wp2_with fail
        refine wp_region_noPanic ?_
        refine wp_region_held_drew (S := fun W' => R3At W' w2.heap.size z x y) (by kernel_rfl) (by exact HRA.out) (fun hHeld => ?_)
        refine takeD (i := 0) (d := some 19) (v := ?vr0) rfl rfl (by kernel_rfl) (by kernel_rfl) (by kernel_rfl) (fun _ _ _ h => h) (Or.inl ⟨by rfl, ?hyr0⟩) (by assumption) ?_
        case hyr0 => (intro w hSw; (try dsimp only at hSw); go_simp <;> with_reducible rfl)
        try simp only [Act.put, List.setIfInBounds_toArray, List.set_cons_zero, List.set_cons_succ]
        refine takeD (i := 1) (d := some 20) (v := ?vr1) rfl rfl (by kernel_rfl) (by kernel_rfl) (by kernel_rfl) (fun _ _ _ h => h) (Or.inl ⟨by rfl, ?hyr1⟩) (by assumption) ?_
        case hyr1 => (intro w hSw; (try dsimp only at hSw); go_simp <;> with_reducible rfl)
        try simp only [Act.put, List.setIfInBounds_toArray, List.set_cons_zero, List.set_cons_succ]
        refine takeD (i := 2) (d := some 21) (v := ?vr2) rfl rfl (by kernel_rfl) (by kernel_rfl) (by kernel_rfl) (fun _ _ _ h => h) (Or.inl ⟨by rfl, ?hyr2⟩) (by assumption) ?_
        case hyr2 => (intro w hSw; (try dsimp only at hSw); go_simp <;> with_reducible rfl)
        try simp only [Act.put, List.setIfInBounds_toArray, List.set_cons_zero, List.set_cons_succ]
        refine takeD (i := 4) (d := some 23) (v := ?vr4) rfl rfl (by kernel_rfl) (by kernel_rfl) (by kernel_rfl) (fun _ _ _ h => h) (Or.inl ⟨by rfl, ?hyr4⟩) (by assumption) ?_
        case hyr4 => (intro w hSw; (try dsimp only at hSw); go_simp <;> with_reducible rfl)
        try simp only [Act.put, List.setIfInBounds_toArray, List.set_cons_zero, List.set_cons_succ]
        generalize hdr : w3.drew = wk0 at *
        have hS0 : Src a n cap Z s (t' + 3) wk0 := by subst hdr; exact HS3.out.drew
        have hK0 : Keeps s w wk0 := by subst hdr; exact HK3.out.drew
        have hR0 : RowW w.heap.size wk0 (.slice (some va) l.length vc) l := by subst hdr; exact HR3.out
        have hl0 : w2.heap.size < wk0.heap.size := hHeld.lt
        refine wpAnyH_ready (rs := [3]) (by kernel_rfl) (by simp) ?_
        refine (AllReadyH.cons rfl (fun K hK => ?_) AllReadyH.nil)
        go_simp
        refine Calls.mono (l1Next_any a n cap Z s (t' + 3) 20 _ hS0 hcap (by omega) (by omega) (by omega)) ?_
        rintro e wk1 ⟨x1, rfl, hx1, hS1, hK1⟩
        have hRA1 := R3At.keeps hHeld hK1 (by omega)
        go_wp2_with fail
        refine hK.out _ _ hRA1 (fun hHeld => ?_)
        clear hK K
        try simp only [Act.put, List.setIfInBounds_toArray, List.set_cons_zero, List.set_cons_succ]
        have hR1 : RowW w.heap.size wk1 (.slice (some va) l.length vc) l := ownsRow_keeps hR0 hK1 hsl
        refine wpAnyH_ready (rs := [5]) (by kernel_rfl) (by simp) ?_
        refine (AllReadyH.cons rfl (fun K hK => ?_) AllReadyH.nil)
        go_simp
        refine Calls.mono (l1Next_any a n cap Z s (t' + 4) 3 _ hS1 hcap (by omega) (by omega) (by omega)) ?_
        rintro e wk2 ⟨x2, rfl, hx2, hS2, hK2⟩
        have hRA2 := R3At.keeps hRA1 hK2 (by have := hK1.size; omega)
        go_wp2_with fail
        refine hK.out _ _ hRA2 (fun hHeld => ?_)
        clear hK K
        try simp only [Act.put, List.setIfInBounds_toArray, List.set_cons_zero, List.set_cons_succ]
        have hR2 : RowW w.heap.size wk2 (.slice (some va) l.length vc) l := ownsRow_keeps hR1 hK2 hsl
        have hwr : IntKind.i64.wrap (1 + (x2 : Int)) = 1 + (x2 : Int) := IntWalk.i64_in _ (by omega)
        refine takeD (i := 6) (d := some 25) (v := ?vr6) rfl rfl (by kernel_rfl) (by kernel_rfl) (by kernel_rfl) (fun _ _ _ h => h) (Or.inl ⟨by rfl, ?hyr6⟩) (by assumption) ?_
        case hyr6 => (intro w hSw; (try dsimp only at hSw); go_simp <;> with_reducible rfl)
        try simp only [Act.put, List.setIfInBounds_toArray, List.set_cons_zero, List.set_cons_succ]
        refine takeD (i := 7) (d := some 26) (v := ?vr7) rfl rfl (by kernel_rfl) (by kernel_rfl) (by kernel_rfl) (fun _ _ _ h => h) (Or.inl ⟨by rfl, ?hyr7⟩) (by assumption) ?_
        case hyr7 => (intro w hSw; (try dsimp only at hSw); go_simp <;> with_reducible rfl)
        try simp only [Act.put, List.setIfInBounds_toArray, List.set_cons_zero, List.set_cons_succ]
        refine wpAnyH_ready (rs := [8]) (by kernel_rfl) (by simp) ?_
        refine (AllReadyH.cons rfl (fun K hK => ?_) AllReadyH.nil)
        rw [if_pos (by rfl)]
        go_simp
        generalize hwA : (World.alloc _ _ : World) = wk3
        have hb3 : Below wk2.heap.size wk2 wk3 := by subst hwA; (repeat (first | exact Below.refl _ _ | assumption | refine Below.drew ?_ | refine bl_alloc ?_ _ | refine bl_then ?_ (by assumption) | refine Below.setCell ?_ (by first | omega | (simp; done) | (simp; omega)) _ | refine bl_store ?_ ?_ _ _))
        have hL3 : LitW wk3 wk2.heap.size ⟨z, x, y, (x1 : Int), 1 + (x2 : Int)⟩ := by subst hwA; exact LitW.of wk2 ⟨z, x, y, (x1 : Int), 1 + (x2 : Int)⟩
        clear hwA
        refine hK.out _ _ (hRA2.below hb3) (fun hHeld => ?_)
        clear hK K
        try simp only [Act.put, List.setIfInBounds_toArray, List.set_cons_zero, List.set_cons_succ]
        have hR3' := hR2.below hb3
        refine wpAnyH_ready (rs := [9]) (by kernel_rfl) (by simp) ?_
        refine (AllReadyH.cons rfl (fun K hK => ?_) AllReadyH.nil)
        refine step_append_own rfl (.tmp 19) (.tmp 27) 24 rfl w.heap.size 37 i0 (.agg #[.int .i64 0, .int .i64 0, .int .i64 0, .int .i64 0, .int .i64 0]) 5 40 Try.underlying24 hi hz0 hz1 hz2 rfl (by decide) (.slice (some va) l.length vc) l.length (cellsW l) rfl hR3' ⟨wk2.heap.size, 0, none⟩ 1 1 (reqCells ⟨z, x, y, (x1 : Int), 1 + (x2 : Int)⟩) rfl rfl hL3 (reqCells_one _) (by unfold maxLen; omega) (by omega) (by have := hK0.size; have := hK1.size; have := hK2.size; have := hb3.size; omega) ?_
        intro v4 wk4 hown4 hg4 hnil4
        have hD4 : RowW w.heap.size wk4 v4 (l ++ [⟨z, x, y, (x1 : Int), 1 + (x2 : Int)⟩]) := by unfold RowW; rw [cellsW_app, cellsW_one, List.length_append]; exact hown4
        have hb4 : Below w.heap.size wk3 wk4 := below_rowR hg4 (fun q hq => hR3'.block q hq) (by have := hK0.size; have := hK1.size; have := hK2.size; have := hb3.size; omega)
        have hRA4 : R3At wk4 w2.heap.size z x y := by
          obtain ⟨a0, a1, a2⟩ := hRA2.below hb3
          have hne : ∀ q, (Value.slice (some va) l.length vc).ownBlock = some q → w2.heap.size ≠ q := fun q hq he => by have := HR2.out.lt q hq; omega
          exact ⟨ro_cellR hg4 a0 hne, ro_cellR hg4 a1 hne, ro_cellR hg4 a2 hne⟩
        obtain ⟨va4, vc4, hv4⟩ : ∃ va4 vc4, v4 = .slice (some va4) (l.length + 1) vc4 := by
          obtain ⟨va4, vc4, hv4⟩ := hD4.slice
          rw [List.length_append] at hv4
          cases va4 with
          | none => exact absurd ((hnil4.1 (by obtain ⟨_, h2 | ⟨g, cp, cur, hv, _⟩⟩ := hD4; exact h2.1; rw [hv] at hv4; cases hv4)).1) (by simp)
          | some q => exact ⟨q, vc4, hv4⟩
        subst hv4
        have hS4 : Src a n cap Z s (t' + 5) wk4 := (hS2.below hb3).belowB hb4 hsl
        have hK4 : Keeps s w wk4 := (((hK0.trans hK1).trans hK2).trans (Keeps.of_below hb3)).thenB hb4
        refine hK.out _ _ hRA4 (fun hHeld => ?_)
        clear hK K
        try simp only [Act.put, List.setIfInBounds_toArray, List.set_cons_zero, List.set_cons_succ]
        refine takeD (i := 10) (d := some 3) (v := ?vr10) rfl rfl (by kernel_rfl) (by kernel_rfl) (by kernel_rfl) (fun _ _ _ h => h) (Or.inl ⟨by rfl, ?hyr10⟩) (by assumption) ?_
        case hyr10 => (intro w hSw; (try dsimp only at hSw); go_simp <;> with_reducible rfl)
        try simp only [Act.put, List.setIfInBounds_toArray, List.set_cons_zero, List.set_cons_succ]
        refine wpAnyH_done (by kernel_rfl) ?_ _
        refine NoPanic.normal ?_
        clear hS0 hK0 hR0 hS1 hK1 hR1 hS2 hK2 hR2 hRA1 hRA2 hL3 hR3' hown4 hg4 hnil4 hb4 hb3 hRA4 hHeld
        go_wp2_with fail
        go_roundw
        case rel => exact ⟨j - 1, va4, vc4, l ++ [⟨z, x, y, (x1 : Int), 1 + (x2 : Int)⟩], t' + 5, by go_num, by simp; omega, by simp, by simpa using hD4, by omega, hS4, hK4⟩
        case measure => simp [intOf]; omega
      · have hat' : ¬ atW l.length (nw l) z x y < 0 := hat
        generalize atW l.length (nw l) z x y = q at *
        go_wp2_with fail
        go_roundw
        case rel => exact ⟨j - 1, va, vc, l, t' + 3, by go_num, by omega, rfl, HR3.out, by omega, HS3.out, HK3.out⟩
        case measure => simp [intOf]; omega
    · obtain rfl : j = 0 := by omega
      go_wp2_with fail
      go_ret
      exact ⟨va, vc, l, t', rfl, by omega, hR, by omega, hS, hK⟩
end Go.Proofs.Ytfknbijpimpbfaa
