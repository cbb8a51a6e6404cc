/- Drawn refs, bent: whatever they are, nothing that was there is written. -/
import Derived.Test.YtjkmjkfakolpfaaT8
namespace Go.Proofs.Ytjkmjkfakolpfaa
open Go.RowKit
set_option linter.unusedSimpArgs false
set_option linter.unusedVariables false
set_option maxRecDepth 100000

theorem res7B (T : Array Value) (Wf : World) (r : Nat) (v0 v1 v2 : Value) (hT : T[2]?.getD undef = .pointer (some ⟨r, 0, none⟩)) (h0 : Wf.cell? ⟨r, 0, none⟩ = some v0) (h1 : Wf.cell? ⟨r, 1, none⟩ = some v1) (h2 : Wf.cell? ⟨r, 2, none⟩ = some v2) :
    (results Try.f21 T).run Try.prog Wf = .ok (.agg #[v0, v1, v2]) Wf := by
  simp [results, Try.results21, go_sem, hT, h0, h1, h2]
theorem There.otherR {W : World} {r r' n o : Nat} {v : Value} (h : There W r n) (hr : r' ≠ r) : There (W.setCell ⟨r', o, none⟩ v) r n := fun o' ho => by
  obtain ⟨⟨u, hu⟩, hf⟩ := h o' ho
  exact ⟨⟨u, by rw [set1_other (fun e => hr (by injection e))]; exact hu⟩, by rw [World.frozen?_setCell]; exact hf⟩
set_option maxHeartbeats 4000000 in
theorem l7Bent_any (a : Option Addr) (n cap : Nat) (Z : Nat → Int) (s t : Nat) (w : World) (h : Src a n cap Z s t w) (hcap : n ≤ cap) (ht : t ≤ 700) :
    Calls Try.prog 21 #[.pointer (some ⟨s, 0, none⟩)] w fun e w' => ∃ (z x y : Int) (t' : Nat), e = .returned (refV z x y) ∧ t' ≤ t + 5 ∧ Src a n cap Z s t' w' ∧ Keeps s w w' := by
  have hsl : s < w.heap.size := World.block_lt_of_cell? _ _ h.code
  have HS0 : Hid (Src a n cap Z s t w) := h
  clear h
  go_enter Try.func21, Try.ntmps21
  go_wp2_with fail
  generalize hW : (w.alloc _ : World) = W
  have hB0 : Below w.heap.size w W := by subst hW; (repeat (first | exact Below.refl _ _ | assumption | refine Below.drew ?_ | refine bl_alloc ?_ _ | refine bl_then ?_ (by assumption) | refine Below.setCell ?_ (by first | omega | (simp; done) | (simp; omega)) _ | refine bl_store ?_ ?_ _ _))
  have hlt : w.heap.size < W.heap.size := by subst hW; simp
  have HT : Hid (There W w.heap.size 3) := by
    show There _ _ _
    subst hW
    exact there3r w (.int .i64 0) (.int .i64 0) (.int .i64 0) 26
  clear hW
  have HS : Hid (Src a n cap Z s t W) := HS0.out.below hB0
  have HK : Hid (Keeps s w W) := Keeps.of_below hB0
  clear hB0 HS0
  refine (l7Draw_any a n cap Z s t _ HS.out hcap (by omega)).mono ?_
  rintro e w1 ⟨z, x, y, rfl, hS1, hK1⟩
  have HT1 : Hid (There w1 w.heap.size 3) := HT.out.keeps hK1 (by omega)
  have HS1 : Hid (Src a n cap Z s (t + 3) w1) := hS1
  have HK1 : Hid (Keeps s w w1) := HK.out.trans hK1
  have hlt1 : w.heap.size < w1.heap.size := Nat.lt_of_lt_of_le hlt hK1.size
  clear hS1 hK1 HS HK HT hlt
  go_wp2_with fail
  generalize hW2 : (w1.alloc _ : World) = w2
  have hb2 : Below w1.heap.size w1 w2 := by subst hW2; (repeat (first | exact Below.refl _ _ | assumption | refine Below.drew ?_ | refine bl_alloc ?_ _ | refine bl_then ?_ (by assumption) | refine Below.setCell ?_ (by first | omega | (simp; done) | (simp; omega)) _ | refine bl_store ?_ ?_ _ _))
  have hlt2 : w1.heap.size < w2.heap.size := by subst hW2; simp
  have d0 : w2.cell? ⟨w1.heap.size, 0, none⟩ = some (.int .i64 z) := by subst hW2; simp [go_sem]
  have d1 : w2.cell? ⟨w1.heap.size, 1, none⟩ = some (.int .i64 x) := by subst hW2; simp [go_sem]
  have d2 : w2.cell? ⟨w1.heap.size, 2, none⟩ = some (.int .i64 y) := by subst hW2; simp [go_sem]
  have HU : Hid (There w2 w1.heap.size 3) := by
    show There _ _ _
    subst hW2
    exact there3r w1 (.int .i64 z) (.int .i64 x) (.int .i64 y) 26
  clear hW2
  have HS2 : Hid (Src a n cap Z s (t + 3) w2) := HS1.out.below hb2
  have HT2 : Hid (There w2 w.heap.size 3) := HT1.out.below hb2
  have HK2 : Hid (Keeps s w w2) := HK1.out.trans (Keeps.of_below hb2)
  clear hb2 HS1 HT1 HK1
  refine (l1Next_any a n cap Z s (t + 3) 12 _ HS2.out hcap (by omega) (by omega) (by omega)).mono ?_
  rintro e w3 ⟨k, rfl, hk, hS3, hK3⟩
  have e0 : w3.cell? ⟨w1.heap.size, 0, none⟩ = some (.int .i64 z) := (hK3.cell (p := ⟨w1.heap.size, 0, none⟩) hlt2 (by show w1.heap.size ≠ s; omega)).trans d0
  have e1 : w3.cell? ⟨w1.heap.size, 1, none⟩ = some (.int .i64 x) := (hK3.cell (p := ⟨w1.heap.size, 1, none⟩) hlt2 (by show w1.heap.size ≠ s; omega)).trans d1
  have e2 : w3.cell? ⟨w1.heap.size, 2, none⟩ = some (.int .i64 y) := (hK3.cell (p := ⟨w1.heap.size, 2, none⟩) hlt2 (by show w1.heap.size ≠ s; omega)).trans d2
  have HS3 : Hid (Src a n cap Z s (t + 3 + 1) w3) := hS3
  have HT3 : Hid (There w3 w.heap.size 3) := HT2.out.keeps hK3 (by omega)
  have HU3 : Hid (There w3 w1.heap.size 3) := HU.out.keeps hK3 (by omega)
  have HK3 : Hid (Keeps s w w3) := HK2.out.trans hK3
  have hlt3 : w1.heap.size < w3.heap.size := Nat.lt_of_lt_of_le hlt2 hK3.size
  clear hS3 hK3 HS2 HT2 HU HK2 d0 d1 d2 hlt2
  have hsl1 : s < w1.heap.size := by omega
  by_cases hk0 : k = 0
  · subst hk0
    go_wp2_with fail
    refine (pick3r a n cap Z s _ _ _ _ _ _ HS3.out hcap (by omega)).mono ?_
    rintro e w4 ⟨u, rfl, hS4, hK4⟩
    have g0 : w4.cell? ⟨w1.heap.size, 0, none⟩ = some (.int .i64 z) := (hK4.cell (p := ⟨w1.heap.size, 0, none⟩) hlt3 (by show w1.heap.size ≠ s; omega)).trans e0
    have g1 : w4.cell? ⟨w1.heap.size, 1, none⟩ = some (.int .i64 x) := (hK4.cell (p := ⟨w1.heap.size, 1, none⟩) hlt3 (by show w1.heap.size ≠ s; omega)).trans e1
    have g2 : w4.cell? ⟨w1.heap.size, 2, none⟩ = some (.int .i64 y) := (hK4.cell (p := ⟨w1.heap.size, 2, none⟩) hlt3 (by show w1.heap.size ≠ s; omega)).trans e2
    have hT4 := HT3.out.keeps hK4 (by omega)
    have hU4 := HU3.out.keeps hK4 (by omega)
    have hz0 := (hU4 0 (by omega)).2
    have HT4 : Hid (There (w4.setCell ⟨w1.heap.size, 0, none⟩ (.int .i64 u)) w.heap.size 3) := hT4.otherR (by omega)
    have HS4 : Hid (Src a n cap Z s (t + 3 + 1 + 1) (w4.setCell ⟨w1.heap.size, 0, none⟩ (.int .i64 u))) := hS4.other 0 _ hsl1
    have HK4 : Hid (Keeps s w (w4.setCell ⟨w1.heap.size, 0, none⟩ (.int .i64 u))) := (HK3.out.trans hK4).own1 (by omega) 0 _
    have hlt4 : w1.heap.size < w4.heap.size := Nat.lt_of_lt_of_le hlt3 hK4.size
    have i0 : (w4.setCell ⟨w1.heap.size, 0, none⟩ (.int .i64 u)).cell? ⟨w1.heap.size, 0, none⟩ = some (.int .i64 u) := set1_same g0
    have i1 : (w4.setCell ⟨w1.heap.size, 0, none⟩ (.int .i64 u)).cell? ⟨w1.heap.size, 1, none⟩ = some (.int .i64 x) := by rw [set1_other (fun e => by injection e with _ e; omega)]; exact g1
    have i2 : (w4.setCell ⟨w1.heap.size, 0, none⟩ (.int .i64 u)).cell? ⟨w1.heap.size, 2, none⟩ = some (.int .i64 y) := by rw [set1_other (fun e => by injection e with _ e; omega)]; exact g2
    clear hS4 hK4 HS3 HT3 HU3 HK3 e0 e1 e2 hlt3 g1 g2 hT4 hU4
    have hT' := HT4.out
    have t0 := hT'.cell 0 (by omega)
    have t1 := hT'.cell 1 (by omega)
    have t2 := hT'.cell 2 (by omega)
    have f0 := (hT' 0 (by omega)).2
    have f1 := (hT' 1 (by omega)).2
    have f2 := (hT' 2 (by omega)).2
    clear hT'
    go_wp2_with fail
    refine bodyPost_ret (res7B _ _ _ _ _ _ rfl (set3_atr HT4.out).1 (set3_atr HT4.out).2.1 (set3_atr HT4.out).2.2) rfl ⟨_, _, _, t + 3 + 1 + 1, rfl, by omega, ((HS4.out.other 0 _ hsl).other 1 _ hsl).other 2 _ hsl, ((HK4.out.own1 (Nat.le_refl _) 0 _).own1 (Nat.le_refl _) 1 _).own1 (Nat.le_refl _) 2 _⟩
  · by_cases hk1 : k = 1
    · subst hk1
      go_wp2_with fail
      refine (pick2r a n cap Z s _ _ _ _ _ HS3.out hcap (by omega)).mono ?_
      rintro e w4 ⟨u, rfl, hS4, hK4⟩
      have g0 : w4.cell? ⟨w1.heap.size, 0, none⟩ = some (.int .i64 z) := (hK4.cell (p := ⟨w1.heap.size, 0, none⟩) hlt3 (by show w1.heap.size ≠ s; omega)).trans e0
      have g1 : w4.cell? ⟨w1.heap.size, 1, none⟩ = some (.int .i64 x) := (hK4.cell (p := ⟨w1.heap.size, 1, none⟩) hlt3 (by show w1.heap.size ≠ s; omega)).trans e1
      have g2 : w4.cell? ⟨w1.heap.size, 2, none⟩ = some (.int .i64 y) := (hK4.cell (p := ⟨w1.heap.size, 2, none⟩) hlt3 (by show w1.heap.size ≠ s; omega)).trans e2
      have hT4 := HT3.out.keeps hK4 (by omega)
      have hU4 := HU3.out.keeps hK4 (by omega)
      have hz0 := (hU4 1 (by omega)).2
      have HT4 : Hid (There (w4.setCell ⟨w1.heap.size, 1, none⟩ (.int .i64 u)) w.heap.size 3) := hT4.otherR (by omega)
      have HS4 : Hid (Src a n cap Z s (t + 3 + 1 + 1) (w4.setCell ⟨w1.heap.size, 1, none⟩ (.int .i64 u))) := hS4.other 1 _ hsl1
      have HK4 : Hid (Keeps s w (w4.setCell ⟨w1.heap.size, 1, none⟩ (.int .i64 u))) := (HK3.out.trans hK4).own1 (by omega) 1 _
      have hlt4 : w1.heap.size < w4.heap.size := Nat.lt_of_lt_of_le hlt3 hK4.size
      have i0 : (w4.setCell ⟨w1.heap.size, 1, none⟩ (.int .i64 u)).cell? ⟨w1.heap.size, 0, none⟩ = some (.int .i64 z) := by rw [set1_other (fun e => by injection e with _ e; omega)]; exact g0
      have i1 : (w4.setCell ⟨w1.heap.size, 1, none⟩ (.int .i64 u)).cell? ⟨w1.heap.size, 1, none⟩ = some (.int .i64 u) := set1_same g1
      have i2 : (w4.setCell ⟨w1.heap.size, 1, none⟩ (.int .i64 u)).cell? ⟨w1.heap.size, 2, none⟩ = some (.int .i64 y) := by rw [set1_other (fun e => by injection e with _ e; omega)]; exact g2
      clear hS4 hK4 HS3 HT3 HU3 HK3 e0 e1 e2 hlt3 g0 g2 hT4 hU4
      have hT' := HT4.out
      have t0 := hT'.cell 0 (by omega)
      have t1 := hT'.cell 1 (by omega)
      have t2 := hT'.cell 2 (by omega)
      have f0 := (hT' 0 (by omega)).2
      have f1 := (hT' 1 (by omega)).2
      have f2 := (hT' 2 (by omega)).2
      clear hT'
      go_wp2_with fail
      refine bodyPost_ret (res7B _ _ _ _ _ _ rfl (set3_atr HT4.out).1 (set3_atr HT4.out).2.1 (set3_atr HT4.out).2.2) rfl ⟨_, _, _, t + 3 + 1 + 1, rfl, by omega, ((HS4.out.other 0 _ hsl).other 1 _ hsl).other 2 _ hsl, ((HK4.out.own1 (Nat.le_refl _) 0 _).own1 (Nat.le_refl _) 1 _).own1 (Nat.le_refl _) 2 _⟩
    · have n0 : ((k : Int) == 0) = false := by simp; omega
      have n1 : ((k : Int) == 1) = false := by simp; omega
      have hT' := HT3.out
      have t0 := hT'.cell 0 (by omega)
      have t1 := hT'.cell 1 (by omega)
      have t2 := hT'.cell 2 (by omega)
      have f0 := (hT' 0 (by omega)).2
      have f1 := (hT' 1 (by omega)).2
      have f2 := (hT' 2 (by omega)).2
      clear hT'
      go_wp2_with fail
      refine bodyPost_ret (res7B _ _ _ _ _ _ rfl (set3_atr HT3.out).1 (set3_atr HT3.out).2.1 (set3_atr HT3.out).2.2) rfl ⟨_, _, _, t + 3 + 1, rfl, by omega, ((HS3.out.other 0 _ hsl).other 1 _ hsl).other 2 _ hsl, ((HK3.out.own1 (Nat.le_refl _) 0 _).own1 (Nat.le_refl _) 1 _).own1 (Nat.le_refl _) 2 _⟩
end Go.Proofs.Ytjkmjkfakolpfaa
