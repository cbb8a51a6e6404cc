/- Drawn cameras: whatever they are, nothing that was there is written. -/
import Derived.Test.YtfknbijpimpbfaaVOnlies29
import Derived.Test.YtfknbijpimpbfaaVOnlies37
import Derived.Deep.DeepCutAuto
namespace Go.Proofs.Ytfknbijpimpbfaa
open Go.RowKit
set_option linter.unusedSimpArgs false
set_option linter.unusedVariables false
set_option maxRecDepth 100000

theorem CamAt.keepsC {w w' : World} {b s : Nat} {z x y wd ht : Int} (h : CamAt w b z x y wd ht) (hK : Keeps s w w') (hs : b ≠ s) : CamAt w' b z x y wd ht := by
  have hB := World.block_lt_of_cell? _ _ h.1
  exact ⟨(hK.cell (p := ⟨b, 0, none⟩) hB hs).trans h.1, (hK.cell (p := ⟨b, 1, none⟩) hB hs).trans h.2.1, (hK.cell (p := ⟨b, 2, none⟩) hB hs).trans h.2.2.1, (hK.cell (p := ⟨b, 3, none⟩) hB hs).trans h.2.2.2.1, (hK.cell (p := ⟨b, 4, none⟩) hB hs).trans h.2.2.2.2⟩
theorem CamAt.apart {w : World} {b r o : Nat} {v : Value} {z x y wd ht : Int} (h : CamAt w b z x y wd ht) (hr : r ≠ b) : CamAt (w.setCell ⟨r, o, none⟩ v) b z x y wd ht :=
  ⟨(set1_other (fun e => hr (by injection e))).trans h.1, (set1_other (fun e => hr (by injection e))).trans h.2.1, (set1_other (fun e => hr (by injection e))).trans h.2.2.1, (set1_other (fun e => hr (by injection e))).trans h.2.2.2.1, (set1_other (fun e => hr (by injection e))).trans h.2.2.2.2⟩
theorem CamAt.at0 {w : World} {b : Nat} {z x y wd ht u : Int} (h : CamAt w b z x y wd ht) : CamAt (w.setCell ⟨b, 0, none⟩ (.int .i64 u)) b u x y wd ht :=
  ⟨set1_same (h.1), (set1_other (fun e => absurd (by injection e : 0 = 1) (by omega))).trans (h.2.1), (set1_other (fun e => absurd (by injection e : 0 = 2) (by omega))).trans (h.2.2.1), (set1_other (fun e => absurd (by injection e : 0 = 3) (by omega))).trans (h.2.2.2.1), (set1_other (fun e => absurd (by injection e : 0 = 4) (by omega))).trans (h.2.2.2.2)⟩
theorem CamAt.at1 {w : World} {b : Nat} {z x y wd ht u : Int} (h : CamAt w b z x y wd ht) : CamAt (w.setCell ⟨b, 1, none⟩ (.int .i64 u)) b z u y wd ht :=
  ⟨(set1_other (fun e => absurd (by injection e : 1 = 0) (by omega))).trans (h.1), set1_same (h.2.1), (set1_other (fun e => absurd (by injection e : 1 = 2) (by omega))).trans (h.2.2.1), (set1_other (fun e => absurd (by injection e : 1 = 3) (by omega))).trans (h.2.2.2.1), (set1_other (fun e => absurd (by injection e : 1 = 4) (by omega))).trans (h.2.2.2.2)⟩
theorem CamAt.at2 {w : World} {b : Nat} {z x y wd ht u : Int} (h : CamAt w b z x y wd ht) : CamAt (w.setCell ⟨b, 2, none⟩ (.int .i64 u)) b z x u wd ht :=
  ⟨(set1_other (fun e => absurd (by injection e : 2 = 0) (by omega))).trans (h.1), (set1_other (fun e => absurd (by injection e : 2 = 1) (by omega))).trans (h.2.1), set1_same (h.2.2.1), (set1_other (fun e => absurd (by injection e : 2 = 3) (by omega))).trans (h.2.2.2.1), (set1_other (fun e => absurd (by injection e : 2 = 4) (by omega))).trans (h.2.2.2.2)⟩
theorem CamAt.at3 {w : World} {b : Nat} {z x y wd ht u : Int} (h : CamAt w b z x y wd ht) : CamAt (w.setCell ⟨b, 3, none⟩ (.int .i64 u)) b z x y u ht :=
  ⟨(set1_other (fun e => absurd (by injection e : 3 = 0) (by omega))).trans (h.1), (set1_other (fun e => absurd (by injection e : 3 = 1) (by omega))).trans (h.2.1), (set1_other (fun e => absurd (by injection e : 3 = 2) (by omega))).trans (h.2.2.1), set1_same (h.2.2.2.1), (set1_other (fun e => absurd (by injection e : 3 = 4) (by omega))).trans (h.2.2.2.2)⟩
theorem CamAt.at4 {w : World} {b : Nat} {z x y wd ht u : Int} (h : CamAt w b z x y wd ht) : CamAt (w.setCell ⟨b, 4, none⟩ (.int .i64 u)) b z x y wd u :=
  ⟨(set1_other (fun e => absurd (by injection e : 4 = 0) (by omega))).trans (h.1), (set1_other (fun e => absurd (by injection e : 4 = 1) (by omega))).trans (h.2.1), (set1_other (fun e => absurd (by injection e : 4 = 2) (by omega))).trans (h.2.2.1), (set1_other (fun e => absurd (by injection e : 4 = 3) (by omega))).trans (h.2.2.2.1), set1_same (h.2.2.2.2)⟩
theorem camAt_new (w : World) (z x y wd ht : Int) (t : TypeId) : CamAt (w.alloc (.cells #[.int .i64 z, .int .i64 x, .int .i64 y, .int .i64 wd, .int .i64 ht] t)) w.heap.size z x y wd ht := ⟨by simp [go_sem], by simp [go_sem], by simp [go_sem], by simp [go_sem], by simp [go_sem]⟩
/-- Five stores into a block of one's own. -/
theorem src5 {a : Option Addr} {n cap : Nat} {Z : Nat → Int} {s t r : Nat} {w w0 : World} {v0 v1 v2 v3 v4 : Value} (h : Src a n cap Z s t w) (hr : s < r) (hK : Keeps s w0 w) (hr0 : w0.heap.size ≤ r) :
    Src a n cap Z s t (((((w.setCell ⟨r, 0, none⟩ v0).setCell ⟨r, 1, none⟩ v1).setCell ⟨r, 2, none⟩ v2).setCell ⟨r, 3, none⟩ v3).setCell ⟨r, 4, none⟩ v4) ∧ Keeps s w0 (((((w.setCell ⟨r, 0, none⟩ v0).setCell ⟨r, 1, none⟩ v1).setCell ⟨r, 2, none⟩ v2).setCell ⟨r, 3, none⟩ v3).setCell ⟨r, 4, none⟩ v4) :=
  ⟨((((h.other 0 _ hr).other 1 _ hr).other 2 _ hr).other 3 _ hr).other 4 _ hr, ((((hK.own1 hr0 0 _).own1 hr0 1 _).own1 hr0 2 _).own1 hr0 3 _).own1 hr0 4 _⟩
set_option maxHeartbeats 8000000 in
theorem l9Draw_any (a : Option Addr) (n cap : Nat) (Z : Nat → Int) (s t : Nat) (w : World) (h : Src a n cap Z s t w) (hcap : n ≤ cap) (ht : t ≤ 800) :
    Calls Try.prog 46 #[.pointer (some ⟨s, 0, none⟩)] w fun e w' => ∃ z x y wd hh : Int, e = .returned (camV z x y wd hh) ∧ Src a n cap Z s (t + 5) w' ∧ Keeps s w w' := by
  have hsl : s < w.heap.size := World.block_lt_of_cell? _ _ h.code
  have HS0 : Hid (Src a n cap Z s t w) := h
  clear h
  go_enter Try.func46, Try.ntmps46
  go_wp2_with fail
  generalize hW : (w.alloc _ : World) = W
  have hB0 : Below w.heap.size w W := by subst hW; (repeat (first | exact Below.refl _ _ | assumption | refine Below.drew ?_ | refine bl_alloc ?_ _ | refine bl_then ?_ (by assumption) | refine Below.setCell ?_ (by first | omega | (simp; done) | (simp; omega)) _ | refine bl_store ?_ ?_ _ _))
  have hlt : w.heap.size < W.heap.size := by subst hW; simp
  have HT : Hid (There W w.heap.size 5) := by
    show There _ _ _
    subst hW
    exact there5c w (.int .i64 0) (.int .i64 0) (.int .i64 0) (.int .i64 0) (.int .i64 0) 26
  clear hW
  have HS : Hid (Src a n cap Z s t W) := HS0.out.below hB0
  have HK : Hid (Keeps s w W) := Keeps.of_below hB0
  clear hB0 HS0
  refine (l1Next_any a n cap Z s t 4 _ HS.out hcap (by omega) (by omega) (by omega)).mono ?_
  rintro e w1 ⟨v1, rfl, hv1, hS1, hK1⟩
  have HS1 : Hid (Src a n cap Z s (t + 1) w1) := hS1
  have HT1 : Hid (There w1 w.heap.size 5) := HT.out.keeps hK1 (by omega)
  have HK1 : Hid (Keeps s w w1) := HK.out.trans hK1
  have hlt1 : w.heap.size < w1.heap.size := Nat.lt_of_lt_of_le hlt hK1.size
  clear hS1 hK1 HS HK HT hlt
  have hz : zoomB (v1 : Int) = true := by simp [zoomB, inB]; omega
  have sN := fun w => l4Count_any (v1 : Int) w hz
  have hu := pixI_bd hz
  generalize hu' : pixI (v1 : Int) = u at *
  obtain ⟨U, hU⟩ : ∃ U : Nat, u = (U : Int) := ⟨u.toNat, by omega⟩
  subst hU
  have hU1 : 8 ≤ U ∧ U ≤ 64 := by omega
  clear hu hu' hz
  generalize (v1 : Int) = zz at *
  go_wp2_with fail
  refine (l1Next_any a n cap Z s (t + 1) 8 _ HS1.out hcap (by omega) (by omega) (by omega)).mono ?_
  rintro e w2 ⟨v2, rfl, hv2, hS2, hK2⟩
  have HS2 : Hid (Src a n cap Z s (t + 1 + 1) w2) := hS2
  have HT2 : Hid (There w2 w.heap.size 5) := HT1.out.keeps hK2 (by omega)
  have HK2 : Hid (Keeps s w w2) := HK1.out.trans hK2
  have hlt2 : w.heap.size < w2.heap.size := Nat.lt_of_lt_of_le hlt1 hK2.size
  clear hS2 hK2 HS1 HK1 HT1 hlt1
  go_wp2_with fail
  refine (l1Next_any a n cap Z s (t + 1 + 1) 8 _ HS2.out hcap (by omega) (by omega) (by omega)).mono ?_
  rintro e w3 ⟨v3, rfl, hv3, hS3, hK3⟩
  have HS3 : Hid (Src a n cap Z s (t + 1 + 1 + 1) w3) := hS3
  have HT3 : Hid (There w3 w.heap.size 5) := HT2.out.keeps hK3 (by omega)
  have HK3 : Hid (Keeps s w w3) := HK2.out.trans hK3
  have hlt3 : w.heap.size < w3.heap.size := Nat.lt_of_lt_of_le hlt2 hK3.size
  clear hS3 hK3 HS2 HK2 HT2 hlt2
  go_wp2_with fail
  generalize hW4 : (w3.alloc _ : World) = w4
  have hb4 : Below w3.heap.size w3 w4 := by subst hW4; (repeat (first | exact Below.refl _ _ | assumption | refine Below.drew ?_ | refine bl_alloc ?_ _ | refine bl_then ?_ (by assumption) | refine Below.setCell ?_ (by first | omega | (simp; done) | (simp; omega)) _ | refine bl_store ?_ ?_ _ _))
  obtain ⟨R0, hR0⟩ : ∃ R0, w3.heap.size = R0 := ⟨_, rfl⟩
  have HC4 : Hid (CamAt w4 R0 zz 0 0 (1 + (v2 : Int)) (1 + (v3 : Int))) := by show CamAt _ _ _ _ _ _ _; subst hW4; rw [← hR0]; exact camAt_new _ _ _ _ _ _ _
  have HU4 : Hid (There w4 R0 5) := by show There _ _ _; subst hW4; rw [← hR0]; exact there5c _ _ _ _ _ _ _
  have HS4 : Hid (Src a n cap Z s (t + 1 + 1 + 1) w4) := HS3.out.below hb4
  have HT4 : Hid (There w4 w.heap.size 5) := HT3.out.below hb4
  have HK4 : Hid (Keeps s w w4) := HK3.out.trans (Keeps.of_below hb4)
  have hr1 : w.heap.size < R0 := by omega
  simp only [hR0]
  clear hW4 hb4 HS3 HT3 HK3 hlt3 hR0
  have hs1 : s ≠ R0 := by omega
  obtain ⟨A, hA⟩ : ∃ A : Nat, U - (1 + v2) + 1 = A := ⟨_, rfl⟩
  obtain ⟨B, hB⟩ : ∃ B : Nat, U - (1 + v3) + 1 = B := ⟨_, rfl⟩
  have k1 : IntKind.i64.wrap ((U : Int) - (1 + (v2 : Int))) = (U : Int) - (1 + (v2 : Int)) := IntWalk.i64_in _ (by omega)
  have k2 : IntKind.i64.wrap ((U : Int) - (1 + (v2 : Int)) + 1) = (A : Int) := by rw [IntWalk.i64_in _ (by omega)]; omega
  have k3 : IntKind.i64.wrap ((U : Int) - (1 + (v3 : Int))) = (U : Int) - (1 + (v3 : Int)) := IntWalk.i64_in _ (by omega)
  have k4 : IntKind.i64.wrap ((U : Int) - (1 + (v3 : Int)) + 1) = (B : Int) := by rw [IntWalk.i64_in _ (by omega)]; omega
  have hA1 : 0 < A ∧ A ≤ 100000 := by omega
  have hB1 : 0 < B ∧ B ≤ 100000 := by omega
  clear hA hB hU1 hv2 hv3
  generalize (1 + (v2 : Int)) = W1 at *
  generalize (1 + (v3 : Int)) = W2 at *
  go_cut [] (fun wc => ∃ x : Int, CamAt wc R0 zz x 0 W1 W2 ∧ There wc R0 5 ∧ There wc w.heap.size 5 ∧ Src a n cap Z s (t + 1 + 1 + 1 + 1) wc ∧ Keeps s w wc)
  case first =>
    refine wp_region_noPanic ?_
    refine wp_region_L (S := fun W' => CamAt W' R0 zz 0 0 W1 W2) (z := 9) (by kernel_rfl) ?_
    have hSd : CamAt w4.drew R0 zz 0 0 W1 W2 := HC4.out
    refine wpAnyL_take (i := 0) (v := ?p0) rfl (by kernel_rfl) (by kernel_rfl) (by kernel_rfl) (by kernel_rfl) (fun _ _ _ h => h) (Or.inl ⟨by rfl, ?hp0⟩) hSd ?_
    case hp0 => (intro w hSw; obtain ⟨s0, s1, s2, s3, s4⟩ := hSw; go_simp <;> with_reducible rfl)
    try simp only [Act.put, List.setIfInBounds_toArray, List.set_cons_zero, List.set_cons_succ]
    refine wpAnyL_take (i := 1) (v := ?p1) rfl (by kernel_rfl) (by kernel_rfl) (by kernel_rfl) (by kernel_rfl) (fun _ _ _ h => h) (Or.inl ⟨by rfl, ?hp1⟩) hSd ?_
    case hp1 => (intro w hSw; obtain ⟨s0, s1, s2, s3, s4⟩ := hSw; go_simp <;> with_reducible rfl)
    try simp only [Act.put, List.setIfInBounds_toArray, List.set_cons_zero, List.set_cons_succ]
    refine wpAnyL_take (i := 3) (v := ?p3) rfl (by kernel_rfl) (by kernel_rfl) (by kernel_rfl) (by kernel_rfl) (fun _ _ _ h => h) (Or.inl ⟨by rfl, ?hp3⟩) hSd ?_
    case hp3 => (intro w hSw; obtain ⟨s0, s1, s2, s3, s4⟩ := hSw; go_simp <;> with_reducible rfl)
    try simp only [Act.put, List.setIfInBounds_toArray, List.set_cons_zero, List.set_cons_succ]
    refine wpAnyL_take (i := 4) (v := ?p4) rfl (by kernel_rfl) (by kernel_rfl) (by kernel_rfl) (by kernel_rfl) (fun _ _ _ h => h) (Or.inl ⟨by rfl, ?hp4⟩) hSd ?_
    case hp4 => (intro w hSw; obtain ⟨s0, s1, s2, s3, s4⟩ := hSw; go_simp <;> with_reducible rfl)
    try simp only [Act.put, List.setIfInBounds_toArray, List.set_cons_zero, List.set_cons_succ]
    refine wpAnyL_one (i := 2) (by kernel_rfl) rfl (fun K hK => ?_)
    go_simp
    refine Calls.mono (sN _) ?_
    rintro e wk ⟨rfl, rfl⟩
    go_wp2_with fail
    refine hK.out _ _ (fun _ => hSd) ?_
    clear hK K
    try simp only [Act.put, List.setIfInBounds_toArray, List.set_cons_zero, List.set_cons_succ]
    refine wpAnyL_take (i := 5) (v := ?p5) rfl (by kernel_rfl) (by kernel_rfl) (by kernel_rfl) (by kernel_rfl) (fun _ _ _ h => h) (Or.inl ⟨by rfl, ?hp5⟩) hSd ?_
    case hp5 => (intro w hSw; obtain ⟨s0, s1, s2, s3, s4⟩ := hSw; go_simp <;> with_reducible rfl)
    try simp only [Act.put, List.setIfInBounds_toArray, List.set_cons_zero, List.set_cons_succ]
    refine wpAnyL_take (i := 6) (v := ?p6) rfl (by kernel_rfl) (by kernel_rfl) (by kernel_rfl) (by kernel_rfl) (fun _ _ _ h => h) (Or.inl ⟨by rfl, ?hp6⟩) hSd ?_
    case hp6 => (intro w hSw; obtain ⟨s0, s1, s2, s3, s4⟩ := hSw; go_simp <;> with_reducible rfl)
    try simp only [Act.put, List.setIfInBounds_toArray, List.set_cons_zero, List.set_cons_succ]
    refine wpAnyL_one (i := 7) (by kernel_rfl) rfl (fun K hK => ?_)
    go_simp
    refine Calls.mono (l1Next_any a n cap Z s (t + 1 + 1 + 1) A _ (HS4.out.below (Below.drew (Below.refl _ _))) hcap (by omega) hA1.1 hA1.2) ?_
    rintro e wk ⟨kk, rfl, hkk, hSk, hKd⟩
    have hKk : Keeps s w4 wk := ⟨hKd.os, hKd.tape, hKd.output, hKd.size, hKd.block⟩
    have hCk : CamAt wk R0 zz 0 0 W1 W2 := hSd.keepsC hKd (fun e => hs1 e.symm)
    have hTk : There wk R0 5 := HU4.out.keeps hKk (by omega)
    go_wp2_with fail
    refine hK.out _ _ (fun _ => hCk) ?_
    clear hK K
    try simp only [Act.put, List.setIfInBounds_toArray, List.set_cons_zero, List.set_cons_succ]
    refine wpAnyL_one (i := 8) (by kernel_rfl) rfl (fun K hK => ?_)
    go_simp
    refine hK.out _ _ (fun _ => hCk) ?_
    clear hK K
    try simp only [Act.put, List.setIfInBounds_toArray, List.set_cons_zero, List.set_cons_succ]
    have tk := hTk.cell 1 (by omega)
    have fk := (hTk 1 (by omega)).2
    refine wpAnyL_one (i := 9) (by kernel_rfl) rfl (fun K hK => ?_)
    go_simp
    refine hK.out _ _ (fun h => absurd rfl h) ?_
    clear hK K tk fk
    try simp only [Act.put, List.setIfInBounds_toArray, List.set_cons_zero, List.set_cons_succ]
    refine wpAnyL_done (by kernel_rfl) ?_ _
    refine NoPanic.normal ?_
    go_wp2_with fail
    go_meet
    case rel => exact ⟨_, hCk.at1, hTk.putC, (HT4.out.keeps hKk (by omega)).putC, hSk.other 1 _ (by omega), (HK4.out.trans hKk).own1 (by omega) 1 _⟩
  case rest =>
    obtain ⟨x, hC5, hU5, hT5, hS5, hK5⟩ := hcut
    generalize wc = w5 at *
    have HC5 : Hid (CamAt w5 R0 zz x 0 W1 W2) := hC5
    have HU5 : Hid (There w5 R0 5) := hU5
    have HT5 : Hid (There w5 w.heap.size 5) := hT5
    have HS5 : Hid (Src a n cap Z s (t + 1 + 1 + 1 + 1) w5) := hS5
    have HK5 : Hid (Keeps s w w5) := hK5
    clear hC5 hU5 hT5 hS5 hK5 HC4 HU4 HT4 HS4 HK4
    go_wp2_with fail
    go_cut [] (fun wx => ∃ y : Int, CamAt wx R0 zz x y W1 W2 ∧ There wx w.heap.size 5 ∧ Src a n cap Z s (t + 1 + 1 + 1 + 1 + 1) wx ∧ Keeps s w wx)
    case first =>
      refine wp_region_noPanic ?_
      refine wp_region_L (S := fun W' => CamAt W' R0 zz x 0 W1 W2) (z := 9) (by kernel_rfl) ?_
      have hSd : CamAt w5.drew R0 zz x 0 W1 W2 := HC5.out
      refine wpAnyL_take (i := 0) (v := ?u0) rfl (by kernel_rfl) (by kernel_rfl) (by kernel_rfl) (by kernel_rfl) (fun _ _ _ h => h) (Or.inl ⟨by rfl, ?hu0⟩) hSd ?_
      case hu0 => (intro w hSw; obtain ⟨s0, s1, s2, s3, s4⟩ := hSw; go_simp <;> with_reducible rfl)
      try simp only [Act.put, List.setIfInBounds_toArray, List.set_cons_zero, List.set_cons_succ]
      refine wpAnyL_take (i := 1) (v := ?u1) rfl (by kernel_rfl) (by kernel_rfl) (by kernel_rfl) (by kernel_rfl) (fun _ _ _ h => h) (Or.inl ⟨by rfl, ?hu1⟩) hSd ?_
      case hu1 => (intro w hSw; obtain ⟨s0, s1, s2, s3, s4⟩ := hSw; go_simp <;> with_reducible rfl)
      try simp only [Act.put, List.setIfInBounds_toArray, List.set_cons_zero, List.set_cons_succ]
      refine wpAnyL_take (i := 3) (v := ?u3) rfl (by kernel_rfl) (by kernel_rfl) (by kernel_rfl) (by kernel_rfl) (fun _ _ _ h => h) (Or.inl ⟨by rfl, ?hu3⟩) hSd ?_
      case hu3 => (intro w hSw; obtain ⟨s0, s1, s2, s3, s4⟩ := hSw; go_simp <;> with_reducible rfl)
      try simp only [Act.put, List.setIfInBounds_toArray, List.set_cons_zero, List.set_cons_succ]
      refine wpAnyL_take (i := 4) (v := ?u4) rfl (by kernel_rfl) (by kernel_rfl) (by kernel_rfl) (by kernel_rfl) (fun _ _ _ h => h) (Or.inl ⟨by rfl, ?hu4⟩) hSd ?_
      case hu4 => (intro w hSw; obtain ⟨s0, s1, s2, s3, s4⟩ := hSw; go_simp <;> with_reducible rfl)
      try simp only [Act.put, List.setIfInBounds_toArray, List.set_cons_zero, List.set_cons_succ]
      refine wpAnyL_one (i := 2) (by kernel_rfl) rfl (fun K hK => ?_)
      go_simp
      refine Calls.mono (sN _) ?_
      rintro e wk ⟨rfl, rfl⟩
      go_wp2_with fail
      refine hK.out _ _ (fun _ => hSd) ?_
      clear hK K
      try simp only [Act.put, List.setIfInBounds_toArray, List.set_cons_zero, List.set_cons_succ]
      refine wpAnyL_take (i := 5) (v := ?u5) rfl (by kernel_rfl) (by kernel_rfl) (by kernel_rfl) (by kernel_rfl) (fun _ _ _ h => h) (Or.inl ⟨by rfl, ?hu5⟩) hSd ?_
      case hu5 => (intro w hSw; obtain ⟨s0, s1, s2, s3, s4⟩ := hSw; go_simp <;> with_reducible rfl)
      try simp only [Act.put, List.setIfInBounds_toArray, List.set_cons_zero, List.set_cons_succ]
      refine wpAnyL_take (i := 6) (v := ?u6) rfl (by kernel_rfl) (by kernel_rfl) (by kernel_rfl) (by kernel_rfl) (fun _ _ _ h => h) (Or.inl ⟨by rfl, ?hu6⟩) hSd ?_
      case hu6 => (intro w hSw; obtain ⟨s0, s1, s2, s3, s4⟩ := hSw; go_simp <;> with_reducible rfl)
      try simp only [Act.put, List.setIfInBounds_toArray, List.set_cons_zero, List.set_cons_succ]
      refine wpAnyL_one (i := 7) (by kernel_rfl) rfl (fun K hK => ?_)
      go_simp
      refine Calls.mono (l1Next_any a n cap Z s (t + 1 + 1 + 1 + 1) B _ (HS5.out.below (Below.drew (Below.refl _ _))) hcap (by omega) hB1.1 hB1.2) ?_
      rintro e wk ⟨kk, rfl, hkk, hSk, hKd⟩
      have hKk : Keeps s w5 wk := ⟨hKd.os, hKd.tape, hKd.output, hKd.size, hKd.block⟩
      have hCk : CamAt wk R0 zz x 0 W1 W2 := hSd.keepsC hKd (fun e => hs1 e.symm)
      have hTk : There wk R0 5 := HU5.out.keeps hKk (by omega)
      go_wp2_with fail
      refine hK.out _ _ (fun _ => hCk) ?_
      clear hK K
      try simp only [Act.put, List.setIfInBounds_toArray, List.set_cons_zero, List.set_cons_succ]
      refine wpAnyL_one (i := 8) (by kernel_rfl) rfl (fun K hK => ?_)
      go_simp
      refine hK.out _ _ (fun _ => hCk) ?_
      clear hK K
      try simp only [Act.put, List.setIfInBounds_toArray, List.set_cons_zero, List.set_cons_succ]
      have tk := hTk.cell 2 (by omega)
      have fk := (hTk 2 (by omega)).2
      refine wpAnyL_one (i := 9) (by kernel_rfl) rfl (fun K hK => ?_)
      go_simp
      refine hK.out _ _ (fun h => absurd rfl h) ?_
      clear hK K tk fk
      try simp only [Act.put, List.setIfInBounds_toArray, List.set_cons_zero, List.set_cons_succ]
      refine wpAnyL_done (by kernel_rfl) ?_ _
      refine NoPanic.normal ?_
      go_wp2_with fail
      go_meet
      case rel => exact ⟨_, hCk.at2, (HT5.out.keeps hKk (by omega)).putC, hSk.other 2 _ (by omega), (HK5.out.trans hKk).own1 (by omega) 2 _⟩
    case rest =>
      obtain ⟨y, hC6, hT6, hS6, hK6⟩ := hcut
      generalize wc = w6 at *
      have HT6 : Hid (There w6 w.heap.size 5) := hT6
      have HS6 : Hid (Src a n cap Z s (t + 1 + 1 + 1 + 1 + 1) w6) := hS6
      have HK6 : Hid (Keeps s w w6) := hK6
      obtain ⟨c0, c1, c2, c3, c4⟩ := hC6
      have t0 := hT6.cell 0 (by omega)
      have t1 := hT6.cell 1 (by omega)
      have t2 := hT6.cell 2 (by omega)
      have t3 := hT6.cell 3 (by omega)
      have t4 := hT6.cell 4 (by omega)
      have f0 := (hT6 0 (by omega)).2
      have f1 := (hT6 1 (by omega)).2
      have f2 := (hT6 2 (by omega)).2
      have f3 := (hT6 3 (by omega)).2
      have f4 := (hT6 4 (by omega)).2
      clear hT6 hS6 hK6 HC5 HU5 HT5 HS5 HK5
      go_wp2_with fail
      obtain ⟨q0, q1, q2, q3, q4⟩ := setc5_at (a := .int .i64 zz) (b := .int .i64 x) (c := .int .i64 y) (d := .int .i64 W1) (e := .int .i64 W2) HT6.out
      obtain ⟨hSf, hKf⟩ := src5 (v0 := .int .i64 zz) (v1 := .int .i64 x) (v2 := .int .i64 y) (v3 := .int .i64 W1) (v4 := .int .i64 W2) HS6.out hsl HK6.out (Nat.le_refl _)
      exact bodyPost_ret (v := camV zz x y W1 W2) (by simp [results, Try.results46, go_sem, q0, q1, q2, q3, q4]) rfl ⟨_, _, _, _, _, rfl, hSf, hKf⟩
end Go.Proofs.Ytfknbijpimpbfaa
