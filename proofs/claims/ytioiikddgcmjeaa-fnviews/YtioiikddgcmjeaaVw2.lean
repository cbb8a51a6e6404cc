/- The law of views returns true at every list of bytes. -/
import Derived.Test.YtioiikddgcmjeaaDv1
import Derived.Test.YtioiikddgcmjeaaVw1
import Derived.Test.YtioiikddgcmjeaaVs2
import Derived.Test.YtioiikddgcmjeaaCs3
import Derived.Test.YtioiikddgcmjeaaLwBig
namespace Go.Proofs.Ytioiikddgcmjeaa
open Go.RowKit
set_option linter.unusedSimpArgs false
set_option linter.unusedVariables false
set_option maxRecDepth 100000

theorem info_bool : (Try.prog.info? 4).map (fun i => (i.zero, i.size, i.bytes)) = some (some (.bool false), 1, 1) := by kernel_rfl
theorem make_bools (n : Nat) (h : n ≤ 1048576) (w : World) :
    (Instr.makeSlice 32 (.int .i64 (n : Int)) (.int .i64 (n : Int))).run Try.prog w = .ok (.slice (some ⟨w.heap.size, 0, none⟩) n n) (w.alloc (.cells (madeCells #[.bool false] n) 4)) := by
  obtain ⟨i, hi, hz, hs, hb⟩ := info_parts info_bool
  have hr := run_make (P := Try.prog) w 32 4 i _ Try.underlying32 hi hz .i64 .i64 (n : Int) (n : Int) (by omega) (Int.le_refl _) (by rw [hb]; omega) (by omega)
  simp only [Int.toNat_natCast, hs, Nat.mul_one] at hr
  exact hr
theorem there_madeL (n : Nat) (w : World) (t : TypeId) : There (w.alloc (.cells (madeCells #[.bool false] n) t)) w.heap.size n := fun o ho => by
  have hz := size_madeCells #[.bool false] n
  refine ⟨⟨(madeCells #[.bool false] n)[o]'(by rw [hz]; exact ho), ?_⟩, World.frozen?_alloc_at _ _ _ _ rfl⟩
  rw [World.cell?_alloc_at _ _ _ _ rfl]
  exact Array.getElem?_eq_getElem _
/-- A list of bools in memory. -/
def Bools (w : World) (b n : Nat) (f : Nat → Bool) : Prop := ∀ i, i < n → w.cell? ⟨b, i, none⟩ = some (.bool (f i))
theorem Bools.congr {w : World} {b n : Nat} {f g : Nat → Bool} (h : Bools w b n f) (e : ∀ i, i < n → f i = g i) : Bools w b n g := fun i hi => by rw [← e i hi]; exact h i hi
theorem Bools.set {w : World} {b n k : Nat} {f : Nat → Bool} {v : Bool} (h : Bools w b n f) (hk : k < n) : Bools (w.setCell ⟨b, k, none⟩ (.bool v)) b n (fun i => if i = k then v else f i) := fun i hi => by
  by_cases e : i = k
  · subst e
    simp only [if_pos rfl]
    exact set1_same (h i hi)
  · simp only [if_neg e]
    rw [set1_other (fun he => e (by injection he with _ h2; exact h2.symm))]
    exact h i hi
theorem Bools.apart {w : World} {b n r o : Nat} {f : Nat → Bool} {v : Value} (h : Bools w b n f) (hr : r ≠ b) : Bools (w.setCell ⟨r, o, none⟩ v) b n f := fun i hi =>
  (set1_other (fun e => hr (by injection e))).trans (h i hi)
theorem Bools.below {w w' : World} {b n : Nat} {f : Nat → Bool} (h : Bools w b n f) (hb : Below w.heap.size w w') : Bools w' b n f := fun i hi =>
  (hb.cell (p := ⟨b, i, none⟩) (World.block_lt_of_cell? _ _ (h i hi))).trans (h i hi)
theorem bools_made (n : Nat) (w : World) (t : TypeId) : Bools (w.alloc (.cells (madeCells #[.bool false] n) t)) w.heap.size n (fun _ => false) := fun i hi => by
  rw [World.cell?_alloc_at _ _ _ _ rfl]
  have hz := size_madeCells #[.bool false] n
  rw [Array.getElem?_eq_getElem (by rw [hz]; simpa using hi)]
  simp [madeCells, Nat.mod_one]
/-- The ref in an answer in memory. -/
def RefP (w : World) (b : Nat) (z x y : Int) : Prop := w.cell? ⟨b, 1, none⟩ = some (.int .i64 z) ∧ w.cell? ⟨b, 2, none⟩ = some (.int .i64 x) ∧ w.cell? ⟨b, 3, none⟩ = some (.int .i64 y)
theorem RefP.apart {w : World} {b r o : Nat} {v : Value} {z x y : Int} (h : RefP w b z x y) (hr : r ≠ b) : RefP (w.setCell ⟨r, o, none⟩ v) b z x y :=
  ⟨(set1_other (fun e => hr (by injection e))).trans h.1, (set1_other (fun e => hr (by injection e))).trans h.2.1, (set1_other (fun e => hr (by injection e))).trans h.2.2⟩
theorem RefP.below {w w' : World} {b : Nat} {z x y : Int} (h : RefP w b z x y) (hb : Below w.heap.size w w') : RefP w' b z x y :=
  ⟨(hb.cell (p := ⟨b, 1, none⟩) (World.block_lt_of_cell? _ _ h.1)).trans h.1, (hb.cell (p := ⟨b, 2, none⟩) (World.block_lt_of_cell? _ _ h.2.1)).trans h.2.1, (hb.cell (p := ⟨b, 3, none⟩) (World.block_lt_of_cell? _ _ h.2.2)).trans h.2.2⟩
theorem RefP.put {W : World} {r : Nat} {c : Value} {z x y : Int} (hT : There W r 4) : RefP ((((W.setCell ⟨r, 0, none⟩ c).setCell ⟨r, 1, none⟩ (.int .i64 z)).setCell ⟨r, 2, none⟩ (.int .i64 x)).setCell ⟨r, 3, none⟩ (.int .i64 y)) r z x y := by
  obtain ⟨x1, h1⟩ := (hT 1 (by omega)).1
  obtain ⟨x2, h2⟩ := (hT 2 (by omega)).1
  obtain ⟨x3, h3⟩ := (hT 3 (by omega)).1
  have ne : ∀ i j : Nat, i ≠ j → (⟨r, i, none⟩ : Addr) ≠ ⟨r, j, none⟩ := fun i j hij h => hij (by injection h)
  refine ⟨?_, ?_, ?_⟩
  · rw [set1_other (ne 3 1 (by omega)), set1_other (ne 2 1 (by omega))]; exact set1_same (by rw [set1_other (ne 0 1 (by omega))]; exact h1)
  · rw [set1_other (ne 3 2 (by omega))]; exact set1_same (by rw [set1_other (ne 1 2 (by omega)), set1_other (ne 0 2 (by omega))]; exact h2)
  · exact set1_same (by rw [set1_other (ne 2 3 (by omega)), set1_other (ne 1 3 (by omega)), set1_other (ne 0 3 (by omega))]; exact h3)
/-- What the loops of the law leave as it is, and the bools. -/
def VwSt (w : World) (B3 B4 g M cv : Nat) (R : Rfs) (z x y wd ht : Int) (f : Nat → Bool) (wr : World) : Prop :=
  CamAt wr B3 z x y wd ht ∧ wr.cell? ⟨B4, 0, none⟩ = some (.int .i64 0) ∧ wr.cell? ⟨B4, 1, none⟩ = some (.slice (some ⟨g, 0, none⟩) M cv) ∧ RsAt wr g 0 M R ∧ Bools wr (B4 + 1) M f ∧ There wr (B4 + 1) M ∧ Below w.heap.size w wr ∧ g < wr.heap.size ∧ B4 + 1 < wr.heap.size
theorem RsAt.apart {w : World} {b off n r o : Nat} {R : Rfs} {v : Value} (h : RsAt w b off n R) (hr : r ≠ b) : RsAt (w.setCell ⟨r, o, none⟩ v) b off n R := fun i hi =>
  ⟨(set1_other (fun e => hr (by injection e))).trans (h i hi).1, (set1_other (fun e => hr (by injection e))).trans (h i hi).2.1, (set1_other (fun e => hr (by injection e))).trans (h i hi).2.2⟩
theorem VwSt.below {w : World} {B3 B4 g M cv : Nat} {R : Rfs} {z x y wd ht : Int} {f : Nat → Bool} {wr wr' : World} (h : VwSt w B3 B4 g M cv R z x y wd ht f wr) (hb : Below wr.heap.size wr wr') : VwSt w B3 B4 g M cv R z x y wd ht f wr' := by
  obtain ⟨h1, h2, h3, h4, h5, h6, h7, h8, h9⟩ := h
  exact ⟨h1.belowA hb, (hb.cell (p := ⟨B4, 0, none⟩) (World.block_lt_of_cell? _ _ h2)).trans h2, (hb.cell (p := ⟨B4, 1, none⟩) (World.block_lt_of_cell? _ _ h3)).trans h3, h4.below hb h8, h5.below hb, h6.below hb, bl_then h7 hb, Nat.lt_of_lt_of_le h8 hb.size, Nat.lt_of_lt_of_le h9 hb.size⟩
theorem VwSt.set {w : World} {B3 B4 g M cv k : Nat} {R : Rfs} {z x y wd ht : Int} {f : Nat → Bool} {wr : World} (h : VwSt w B3 B4 g M cv R z x y wd ht f wr) (hk : k < M) (e1 : B3 < B4) (e2 : g < B4) (e3 : w.heap.size ≤ B4 + 1) : VwSt w B3 B4 g M cv R z x y wd ht (fun i => if i = k then true else f i) (wr.setCell ⟨B4 + 1, k, none⟩ (.bool true)) := by
  obtain ⟨h1, h2, h3, h4, h5, h6, h7, h8, h9⟩ := h
  refine ⟨h1.apart (by omega), (set1_other (fun e => absurd (show B4 + 1 = B4 by injection e) (by omega))).trans h2, (set1_other (fun e => absurd (show B4 + 1 = B4 by injection e) (by omega))).trans h3, h4.apart (by omega), h5.set hk, h6.putV, h7.setCell e3 _, ?_, ?_⟩
  · simpa using h8
  · simpa using h9
theorem VwSt.congr {w : World} {B3 B4 g M cv : Nat} {R : Rfs} {z x y wd ht : Int} {f f' : Nat → Bool} {wr : World} (h : VwSt w B3 B4 g M cv R z x y wd ht f wr) (e : ∀ i, i < M → f i = f' i) : VwSt w B3 B4 g M cv R z x y wd ht f' wr := by
  obtain ⟨h1, h2, h3, h4, h5, h6, h7, h8, h9⟩ := h
  exact ⟨h1, h2, h3, h4, h5.congr e, h6, h7, h8, h9⟩
set_option maxHeartbeats 4000000 in
theorem FnViews_walk (a : Option Addr) (n cap : Nat) (Z : Nat → Int) (w : World) (h : IsBytes w a n Z ∧ (∀ i, 0 ≤ Z i ∧ Z i ≤ 255) ∧ n ≤ cap) :
    Calls Try.prog 3 #[.slice a n cap] w fun e w' => e = .returned (.bool true) ∧ Below w.heap.size w w' := by
  obtain ⟨hI, hrng, hcap⟩ := h
  by_cases hbig : 1048576 < n
  · have hd : decide (1048576 < (n : Int)) = true := by simp; omega
    go_enter Try.func3, Try.ntmps3
    go_wp2_with (go_at_call 6; refine (lwBig_any _ _ _ _).mono ?_; rintro e w1 ⟨rfl, rfl⟩)
    all_goals first | omega | (go_ret; exact ⟨rfl, by (repeat (first | exact Below.refl _ _ | assumption | refine Below.drew ?_ | refine bl_alloc ?_ _ | refine bl_then ?_ (by assumption) | refine Below.setCell ?_ (by first | omega | (simp; done) | (simp; omega)) _ | refine bl_store ?_ ?_ _ _))⟩)
  have hn : n ≤ 1048576 := by omega
  have hd : decide (1048576 < (n : Int)) = false := by simp; omega
  clear hbig
  have HD1 : Hid (∀ W, Below w.heap.size w W → Calls Try.prog 7 #[.slice a n cap] W fun e w' => ∃ z x y wd hh : Int, e = .returned (camV z x y wd hh) ∧ Below W.heap.size W w') := fun W hb => DrawVisibleRefs_any a n cap Z W (hI.below hb) hrng hn hcap
  have HD2 : Hid (∀ W, Below w.heap.size w W → Calls Try.prog 13 #[.slice a n cap] W fun e w' => ∃ z x y wd hh rz rx ry : Int, e = .returned (.tuple #[camV z x y wd hh, refV rz rx ry]) ∧ Below W.heap.size W w') := fun W hb => DrawIsSeen_any a n cap Z W (hI.below hb) hrng hn hcap
  clear hI hrng hcap hn
  go_enter Try.func3, Try.ntmps3
  go_wp2_with (first | (go_at_call 6; refine (lwBig_any _ _ _ _).mono ?_; rintro e w ⟨rfl, rfl⟩; rw [hd]) | fail)
  refine (HD1.out _ (Below.refl _ _)).mono ?_
  rintro e w1 ⟨z, x, y, wd, ht, rfl, hb1⟩
  go_wp2_with fail
  generalize hW1 : (w1.alloc _ : World) = W1
  obtain ⟨B3, hB3⟩ : ∃ B3, w1.heap.size = B3 := ⟨_, rfl⟩
  have HC1 : Hid (CamAt W1 B3 z x y wd ht) := by show CamAt _ _ _ _ _ _ _; subst hW1; rw [← hB3]; exact camAt_new _ _ _ _ _ _ _
  have HBW1 : Hid (Below w.heap.size w W1) := by show Below _ _ _; subst hW1; exact bl_alloc hb1 _
  simp only [hB3]
  clear hW1 hB3 hb1
  have hl3 : B3 < W1.heap.size := World.block_lt_of_cell? _ _ HC1.out.1
  have sI := fun w => impl_VisibleRefs_any z x y wd ht w
  have sV := fun w => spec_VisibleRefs_any z x y wd ht w
  have sF := fun w => impl_CameraFault_any z x y wd ht w
  rcases camC_cases z x y wd ht with ⟨hc, hr⟩ | ⟨hc, hr⟩
  · rw [hc] at sI sV sF
    refine (sI _).mono ?_
    rintro e w2 ⟨v, rfl, hO, hb2⟩
    obtain ⟨av, cv, rfl, hcv, hcase⟩ := hO
    have HO2 : Hid (visM z x y wd ht = 0 ∨ ∃ b, av = some ⟨b, 0, none⟩ ∧ W1.heap.size ≤ b ∧ b < w2.heap.size ∧ RsAt w2 b 0 (visM z x y wd ht) (visR z x y wd) ∧ There w2 b (visM z x y wd ht * 3)) := hcase
    have HC2 : Hid (CamAt w2 B3 z x y wd ht) := HC1.out.belowA hb2
    have HB2 : Hid (Below w.heap.size w w2) := bl_then HBW1.out hb2
    have hl2 : W1.heap.size ≤ w2.heap.size := hb2.size
    clear hcase hb2 HC1 HBW1 sI
    obtain ⟨M, hM⟩ : ∃ M, visM z x y wd ht = M := ⟨_, rfl⟩
    rw [hM] at HO2 hcv
    simp only [hM]
    have hmk := make_bools M (by have := visM_le z x y wd ht; omega)
    go_wp2_with fail
    generalize hW3 : ((w2.alloc _).alloc _ : World) = W3
    have hb3 : Below w2.heap.size w2 W3 := by subst hW3; (repeat (first | exact Below.refl _ _ | assumption | refine Below.drew ?_ | refine bl_alloc ?_ _ | refine bl_then ?_ (by assumption) | refine Below.setCell ?_ (by first | omega | (simp; done) | (simp; omega)) _ | refine bl_store ?_ ?_ _ _))
    obtain ⟨B4, hB4⟩ : ∃ B4, w2.heap.size = B4 := ⟨_, rfl⟩
    have hM1 : 1 ≤ M ∧ M ≤ 4 := by
      have hin := camB_in hr
      have h1 := visN_bd (x := x) hin.1.1
      have h2 := visN_bd (x := y) hin.1.2
      refine ⟨?_, by rw [← hM]; exact visM_le _ _ _ _ _⟩
      rw [← hM]
      unfold visM
      rw [if_pos hr]
      exact Nat.mul_le_mul h2.1 h1.1
    obtain ⟨g, rfl, hg1, hg2, hRs, _⟩ : ∃ b, av = some ⟨b, 0, none⟩ ∧ W1.heap.size ≤ b ∧ b < w2.heap.size ∧ RsAt w2 b 0 M (visR z x y wd) ∧ There w2 b (M * 3) := by
      rcases HO2.out with h0 | h1
      · omega
      · exact h1
    have HS0 : Hid (VwSt w B3 B4 g M cv (visR z x y wd) z x y wd ht (fun _ => false) W3) := by
      refine ⟨HC2.out.belowA hb3, ?_, ?_, hRs.below hb3 hg2, ?_, ?_, bl_then HB2.out hb3, Nat.lt_of_lt_of_le hg2 hb3.size, ?_⟩
      · subst hW3; rw [← hB4]; simp [go_sem]
      · subst hW3; rw [← hB4]; simp [go_sem]
      · subst hW3; rw [← hB4]; simpa using bools_made M (w2.alloc (.cells #[.int .i64 0, .slice (some ⟨g, 0, none⟩) M cv] 29)) 4
      · subst hW3; rw [← hB4]; simpa using there_madeL M (w2.alloc (.cells #[.int .i64 0, .slice (some ⟨g, 0, none⟩) M cv] 29)) 4
      · subst hW3; rw [← hB4]; simp
    have hBw : w.heap.size ≤ B4 := by have := HB2.out.size; omega
    have hg4 : g < B4 := by omega
    have hb34 : B3 < B4 := by omega
    simp only [hB4]
    obtain ⟨N, hN⟩ : ∃ N : Nat, wd * ht = (N : Int) := ⟨(wd * ht).toNat, by
      have hin := camB_in hr
      have := Int.mul_nonneg (a := wd) (b := ht) (by omega) (by omega)
      omega⟩
    have hN64 : N ≤ 64 := by
      have hin := camB_in hr
      have := Int.mul_le_mul (a := wd) (b := ht) (c := 8) (d := 8) (by omega) (by omega) (by omega) (by omega)
      omega
    have HE1 : Hid (∀ i : Nat, i < N → hasR (visR z x y wd) z ((x + (i : Int) % wd) / 8) ((y + (i : Int) / wd) / 8) M = true) := fun i hi => by rw [← hM]; exact pix_seen hr (by omega)
    have HE2 : Hid (∀ j : Nat, j < M → hitN (pixE z x y wd) j N = true) := fun j hj => by
      obtain ⟨i, h1, h2⟩ := seen_pix hr (by rw [hM]; exact hj)
      exact hitN_yes (i := i) (by omega) h2
    have HE3 : Hid (∀ i : Nat, i < N → pixB z (x + (i : Int) % wd) (y + (i : Int) / wd) = true) := fun i hi => pix_pixB hr (by omega)
    have HIN : Hid (((1 ≤ wd ∧ wd ≤ 8) ∧ (1 ≤ ht ∧ ht ≤ 8)) ∧ ((0 ≤ x ∧ x ≤ pixI z - wd) ∧ (0 ≤ y ∧ y ≤ pixI z - ht))) := camB_in hr
    clear hW3 hb3 hRs HC2 HB2 HO2 hg1 hg2 hB4
    go_loopw [6] (fun s6 wr => ∃ i : Nat, i ≤ N ∧ s6 = .int .i64 (i : Int) ∧ VwSt w B3 B4 g M cv (visR z x y wd) z x y wd ht (fun j => hitN (pixE z x y wd) j i) wr) (fun s6 _ => N - (intOf s6).toNat)
    case atStart => exact ⟨0, by omega, rfl, HS0.out⟩
    case round =>
      obtain ⟨i, hi, rfl, hSt⟩ := hrel
      have HSt : Hid (VwSt w B3 B4 g M cv (visR z x y wd) z x y wd ht (fun j => hitN (pixE z x y wd) j i) wr) := hSt
      obtain ⟨⟨c0, c1, c2, c3, c4⟩, r0, r1, _⟩ := hSt
      by_cases hlt : i < N
      · have hlt' : (i : Int) < (N : Int) := by omega
        obtain ⟨hu, hv⟩ := pix_in (wd := wd) (ht := ht) (i := i) (by have := HIN.out; omega) (by have := HIN.out; omega) (by omega)
        have hpx := HE3.out i hlt
        have hsee := HE1.out i hlt
        have hp := pixB_in hpx
        have hn := pixI_bd (pixB_zoom hpx)
        have hwd : 1 ≤ wd ∧ wd ≤ 8 := HIN.out.1.1
        have hrem : Int.tmod (i : Int) wd = (i : Int) % wd := Int.tmod_eq_emod_of_nonneg (by omega)
        have hquo : Int.tdiv (i : Int) wd = (i : Int) / wd := Int.tdiv_eq_ediv_of_nonneg (by omega)
        obtain ⟨u0, hu0⟩ : ∃ u0, (i : Int) % wd = u0 := ⟨_, rfl⟩
        obtain ⟨u1, hu1⟩ : ∃ u1, (i : Int) / wd = u1 := ⟨_, rfl⟩
        rw [hu0] at hu hpx hsee hp hrem
        rw [hu1] at hv hpx hsee hp hquo
        have hw0 : ¬ (wd = 0) := by omega
        have k1 : IntKind.i64.wrap (x + u0) = x + u0 := IntWalk.i64_in _ (by have := HIN.out; omega)
        have k2 : IntKind.i64.wrap (y + u1) = y + u1 := IntWalk.i64_in _ (by have := HIN.out; omega)
        have k3 : IntKind.i64.wrap u1 = u1 := IntWalk.i64_in _ (by have := HIN.out; omega)
        have sR := fun w => impl_RefAt_any z (x + u0) (y + u1) w
        have hat : atV z (x + u0) (y + u1) = rrV 0 z ((x + u0) / 8) ((y + u1) / 8) := by simp [atV, hpx]
        rw [hat] at sR
        obtain ⟨A, hA⟩ : ∃ A, (x + u0) / 8 = A := ⟨_, rfl⟩
        obtain ⟨C, hC⟩ : ∃ C, (y + u1) / 8 = C := ⟨_, rfl⟩
        rw [hA, hC] at sR hsee
        have sN := fun w => impl_IsSeen_any z x y wd ht z A C w
        have hsn : seenB z x y wd ht z A C = true := by unfold seenB; rw [hM]; exact hsee
        rw [hsn] at sN
        have HEq : Hid (∀ j : Nat, pixE z x y wd i j = (((visR z x y wd).z j == z) && (((visR z x y wd).x j == A) && ((visR z x y wd).y j == C)))) := fun j => by unfold pixE; rw [hu0, hu1, hA, hC]
        clear hat hsn hpx hp hn hA hC hu hv
        go_wp2_with fail
        refine wp_region_noPanic ?_
        refine wp_region_held_drew (S := fun W' => CamAt W' B3 z x y wd ht) (by kernel_rfl) HSt.out.1 (fun hHeld => ?_)
        have hS0 : CamAt wr.drew B3 z x y wd ht := hHeld
        refine takeD (i := 0) (d := some 48) (v := ?vg0) rfl rfl (by kernel_rfl) (by kernel_rfl) (by kernel_rfl) (fun _ _ _ h => h) (Or.inl ⟨by rfl, ?hg0⟩) (by assumption) ?_
        case hg0 => (intro w hSw; obtain ⟨s0, s1, s2, s3, s4⟩ := hSw; go_simp <;> with_reducible rfl)
        try simp only [Act.put, List.setIfInBounds_toArray, List.set_cons_zero, List.set_cons_succ]
        refine takeD (i := 1) (d := some 49) (v := ?vg1) rfl rfl (by kernel_rfl) (by kernel_rfl) (by kernel_rfl) (fun _ _ _ h => h) (Or.inl ⟨by rfl, ?hg1⟩) (by assumption) ?_
        case hg1 => (intro w hSw; obtain ⟨s0, s1, s2, s3, s4⟩ := hSw; go_simp <;> with_reducible rfl)
        try simp only [Act.put, List.setIfInBounds_toArray, List.set_cons_zero, List.set_cons_succ]
        refine takeD (i := 2) (d := some 50) (v := ?vg2) rfl rfl (by kernel_rfl) (by kernel_rfl) (by kernel_rfl) (fun _ _ _ h => h) (Or.inl ⟨by rfl, ?hg2⟩) (by assumption) ?_
        case hg2 => (intro w hSw; obtain ⟨s0, s1, s2, s3, s4⟩ := hSw; go_simp <;> with_reducible rfl)
        try simp only [Act.put, List.setIfInBounds_toArray, List.set_cons_zero, List.set_cons_succ]
        refine takeD (i := 3) (d := some 51) (v := ?vg3) rfl rfl (by kernel_rfl) (by kernel_rfl) (by kernel_rfl) (fun _ _ _ h => h) (Or.inl ⟨by rfl, ?hg3⟩) (by assumption) ?_
        case hg3 => (intro w hSw; obtain ⟨s0, s1, s2, s3, s4⟩ := hSw; go_simp <;> with_reducible rfl)
        try simp only [Act.put, List.setIfInBounds_toArray, List.set_cons_zero, List.set_cons_succ]
        refine takeD (i := 4) (d := some 52) (v := ?vg4) rfl rfl (by kernel_rfl) (by kernel_rfl) (by kernel_rfl) (fun _ _ _ h => h) (Or.inl ⟨by rfl, ?hg4⟩) (by assumption) ?_
        case hg4 => (intro w hSw; obtain ⟨s0, s1, s2, s3, s4⟩ := hSw; go_simp <;> with_reducible rfl)
        try simp only [Act.put, List.setIfInBounds_toArray, List.set_cons_zero, List.set_cons_succ]
        refine takeD (i := 5) (d := some 53) (v := ?vg5) rfl rfl (by kernel_rfl) (by kernel_rfl) (by kernel_rfl) (fun _ _ _ h => h) (Or.inl ⟨by rfl, ?hg5⟩) (by assumption) ?_
        case hg5 => (intro w hSw; obtain ⟨s0, s1, s2, s3, s4⟩ := hSw; go_simp <;> with_reducible rfl)
        try simp only [Act.put, List.setIfInBounds_toArray, List.set_cons_zero, List.set_cons_succ]
        refine takeD (i := 6) (d := some 54) (v := ?vg6) rfl rfl (by kernel_rfl) (by kernel_rfl) (by kernel_rfl) (fun _ _ _ h => h) (Or.inl ⟨by rfl, ?hg6⟩) (by assumption) ?_
        case hg6 => (intro w hSw; obtain ⟨s0, s1, s2, s3, s4⟩ := hSw; go_simp <;> with_reducible rfl)
        try simp only [Act.put, List.setIfInBounds_toArray, List.set_cons_zero, List.set_cons_succ]
        refine takeD (i := 7) (d := some 55) (v := (.int .i64 u0)) rfl rfl (by kernel_rfl) (by kernel_rfl) (by kernel_rfl) (fun _ _ _ h => h) (Or.inl ⟨by rfl, ?hg7⟩) (by assumption) ?_
        case hg7 => (intro w hSw; obtain ⟨s0, s1, s2, s3, s4⟩ := hSw; go_simp <;> with_reducible rfl)
        try simp only [Act.put, List.setIfInBounds_toArray, List.set_cons_zero, List.set_cons_succ]
        refine takeD (i := 8) (d := some 56) (v := (.int .i64 (x + u0))) rfl rfl (by kernel_rfl) (by kernel_rfl) (by kernel_rfl) (fun _ _ _ h => h) (Or.inl ⟨by rfl, ?hg8⟩) (by assumption) ?_
        case hg8 => (intro w hSw; obtain ⟨s0, s1, s2, s3, s4⟩ := hSw; go_simp <;> with_reducible rfl)
        try simp only [Act.put, List.setIfInBounds_toArray, List.set_cons_zero, List.set_cons_succ]
        refine takeD (i := 9) (d := some 57) (v := ?vg9) rfl rfl (by kernel_rfl) (by kernel_rfl) (by kernel_rfl) (fun _ _ _ h => h) (Or.inl ⟨by rfl, ?hg9⟩) (by assumption) ?_
        case hg9 => (intro w hSw; obtain ⟨s0, s1, s2, s3, s4⟩ := hSw; go_simp <;> with_reducible rfl)
        try simp only [Act.put, List.setIfInBounds_toArray, List.set_cons_zero, List.set_cons_succ]
        refine takeD (i := 10) (d := some 58) (v := ?vg10) rfl rfl (by kernel_rfl) (by kernel_rfl) (by kernel_rfl) (fun _ _ _ h => h) (Or.inl ⟨by rfl, ?hg10⟩) (by assumption) ?_
        case hg10 => (intro w hSw; obtain ⟨s0, s1, s2, s3, s4⟩ := hSw; go_simp <;> with_reducible rfl)
        try simp only [Act.put, List.setIfInBounds_toArray, List.set_cons_zero, List.set_cons_succ]
        refine takeD (i := 11) (d := some 59) (v := ?vg11) rfl rfl (by kernel_rfl) (by kernel_rfl) (by kernel_rfl) (fun _ _ _ h => h) (Or.inl ⟨by rfl, ?hg11⟩) (by assumption) ?_
        case hg11 => (intro w hSw; obtain ⟨s0, s1, s2, s3, s4⟩ := hSw; go_simp <;> with_reducible rfl)
        try simp only [Act.put, List.setIfInBounds_toArray, List.set_cons_zero, List.set_cons_succ]
        refine takeD (i := 12) (d := some 60) (v := ?vg12) rfl rfl (by kernel_rfl) (by kernel_rfl) (by kernel_rfl) (fun _ _ _ h => h) (Or.inl ⟨by rfl, ?hg12⟩) (by assumption) ?_
        case hg12 => (intro w hSw; obtain ⟨s0, s1, s2, s3, s4⟩ := hSw; go_simp <;> with_reducible rfl)
        try simp only [Act.put, List.setIfInBounds_toArray, List.set_cons_zero, List.set_cons_succ]
        refine takeD (i := 13) (d := some 61) (v := ?vg13) rfl rfl (by kernel_rfl) (by kernel_rfl) (by kernel_rfl) (fun _ _ _ h => h) (Or.inl ⟨by rfl, ?hg13⟩) (by assumption) ?_
        case hg13 => (intro w hSw; obtain ⟨s0, s1, s2, s3, s4⟩ := hSw; go_simp <;> with_reducible rfl)
        try simp only [Act.put, List.setIfInBounds_toArray, List.set_cons_zero, List.set_cons_succ]
        refine takeD (i := 14) (d := some 62) (v := (.int .i64 u1)) rfl rfl (by kernel_rfl) (by kernel_rfl) (by kernel_rfl) (fun _ _ _ h => h) (Or.inl ⟨by rfl, ?hg14⟩) (by assumption) ?_
        case hg14 => (intro w hSw; obtain ⟨s0, s1, s2, s3, s4⟩ := hSw; go_simp <;> with_reducible rfl)
        try simp only [Act.put, List.setIfInBounds_toArray, List.set_cons_zero, List.set_cons_succ]
        refine takeD (i := 15) (d := some 63) (v := (.int .i64 (y + u1))) rfl rfl (by kernel_rfl) (by kernel_rfl) (by kernel_rfl) (fun _ _ _ h => h) (Or.inl ⟨by rfl, ?hg15⟩) (by assumption) ?_
        case hg15 => (intro w hSw; obtain ⟨s0, s1, s2, s3, s4⟩ := hSw; go_simp <;> with_reducible rfl)
        try simp only [Act.put, List.setIfInBounds_toArray, List.set_cons_zero, List.set_cons_succ]
        refine wpAnyH_ready (rs := [16, 17]) (by kernel_rfl) (by simp) ?_
        refine (AllReadyH.cons rfl (fun K hK => ?_) (AllReadyH.cons rfl (fun K hK => ?_) AllReadyH.nil))
        ·   skip
            rw [if_pos (by rfl)]
            go_simp
            refine Calls.mono (sR _) ?_
            rintro e w4 ⟨rfl, hbd⟩
            have hb4 : Below wr.heap.size wr w4 := ⟨hbd.os, hbd.tape, hbd.output, hbd.size, hbd.block⟩
            have hC4 := HSt.out.1.belowA hb4
            go_wp2_with fail
            refine hK.out _ _ hC4 (fun hHeld => ?_)
            clear hK K
            try simp only [Act.put, List.setIfInBounds_toArray, List.set_cons_zero, List.set_cons_succ]
            refine wpAnyH_ready (rs := [17]) (by kernel_rfl) (by simp) ?_
            refine (AllReadyH.cons rfl (fun K hK => ?_) AllReadyH.nil)
            rw [if_pos (by rfl)]
            go_simp
            refine hK.out _ _ (hC4.belowA (by (repeat (first | exact Below.refl _ _ | assumption | refine Below.drew ?_ | refine bl_alloc ?_ _ | refine bl_then ?_ (by assumption) | refine Below.setCell ?_ (by first | omega | (simp; done) | (simp; omega)) _ | refine bl_store ?_ ?_ _ _)))) (fun hHeld => ?_)
            clear hK K
            try simp only [Act.put, List.setIfInBounds_toArray, List.set_cons_zero, List.set_cons_succ]
            refine wpAnyH_ready (rs := [18]) (by kernel_rfl) (by simp) ?_
            refine (AllReadyH.cons rfl (fun K hK => ?_) AllReadyH.nil)
            rw [if_pos (by rfl)]
            go_simp
            refine hK.out _ _ (hC4.belowA (by (repeat (first | exact Below.refl _ _ | assumption | refine Below.drew ?_ | refine bl_alloc ?_ _ | refine bl_then ?_ (by assumption) | refine Below.setCell ?_ (by first | omega | (simp; done) | (simp; omega)) _ | refine bl_store ?_ ?_ _ _)))) (fun hHeld => ?_)
            clear hK K
            try simp only [Act.put, List.setIfInBounds_toArray, List.set_cons_zero, List.set_cons_succ]
            generalize hW5 : (w4.alloc _ : World) = W5
            have hb5 : Below w4.heap.size w4 W5 := by subst hW5; (repeat (first | exact Below.refl _ _ | assumption | refine Below.drew ?_ | refine bl_alloc ?_ _ | refine bl_then ?_ (by assumption) | refine Below.setCell ?_ (by first | omega | (simp; done) | (simp; omega)) _ | refine bl_store ?_ ?_ _ _))
            obtain ⟨P, hP⟩ : ∃ P, w4.heap.size = P := ⟨_, rfl⟩
            have HP5 : Hid (RefP W5 P z A C) := by show RefP _ _ _ _ _; subst hW5; rw [← hP]; exact ⟨by simp [go_sem], by simp [go_sem], by simp [go_sem]⟩
            have HS5 : Hid (VwSt w B3 B4 g M cv (visR z x y wd) z x y wd ht (fun j => hitN (pixE z x y wd) j i) W5) := (HSt.out.below hb4).below hb5
            have hPl : B4 + 1 < P := by have h1 := (HSt.out.below hb4).2.2.2.2.2.2.2.2; omega
            simp only [hP]
            clear hW5 hb5 hb4 hC4 hbd hP HSt
            refine wpAnyH_done (by kernel_rfl) ?_ _
            refine NoPanic.normal ?_
            go_wp2_with fail
            go_loopw [8, 9] (fun s8 s9 wx => ∃ j : Nat, j ≤ M ∧ s9 = .int .i64 (j : Int) ∧ s8 = .bool (hasR (visR z x y wd) z A C j) ∧ VwSt w B3 B4 g M cv (visR z x y wd) z x y wd ht (fun k => if k < j then hitN (pixE z x y wd) k (i + 1) else hitN (pixE z x y wd) k i) wx ∧ RefP wx P z A C ∧ B4 + 1 < P) (fun _ s9 _ => M - (intOf s9).toNat)
            case atStart => exact ⟨0, by omega, rfl, rfl, HS5.out.congr (fun k hk => by simp), HP5.out, hPl⟩
            case round =>
              obtain ⟨j, hj, rfl, rfl, hSx, hPx, _⟩ := hrel
              have HSx : Hid (VwSt w B3 B4 g M cv (visR z x y wd) z x y wd ht (fun k => if k < j then hitN (pixE z x y wd) k (i + 1) else hitN (pixE z x y wd) k i) wr) := hSx
              have HPx : Hid (RefP wr P z A C) := hPx
              obtain ⟨⟨c0, c1, c2, c3, c4⟩, r0, r1, hRs, hBo, hTh, _⟩ := hSx
              obtain ⟨p0, p1, p2⟩ := hPx
              by_cases hjm : j < M
              · have hjm' : (j : Int) < (M : Int) := by omega
                have hj0 : (0 : Int) ≤ (j : Int) := by omega
                obtain ⟨q0, q1, q2⟩ := hRs j hjm
                simp only [Nat.zero_add] at q0 q1 q2
                have hb := hBo j hjm
                have hf := (hTh j hjm).2
                have heq := fun w => eql_ref ((visR z x y wd).z j) ((visR z x y wd).x j) ((visR z x y wd).y j) z A C w
                rw [← HEq.out j] at heq
                have HH : Hid (hasR (visR z x y wd) z A C (j + 1) = (hasR (visR z x y wd) z A C j || pixE z x y wd i j)) := by show _ = _; rw [HEq.out j]; rfl
                clear hRs hBo hTh
                cases hE : pixE z x y wd i j
                · rw [hE] at heq
                  have HS6 : Hid (VwSt w B3 B4 g M cv (visR z x y wd) z x y wd ht (fun k => if k < j + 1 then hitN (pixE z x y wd) k (i + 1) else hitN (pixE z x y wd) k i) wr) := HSx.out.congr (fun k hk => by
                    by_cases e : k = j
                    · subst e; simp [hitN, hE]
                    · simp [show (k < j) = (k < j + 1) by simp; omega])
                  have HH2 : Hid (hasR (visR z x y wd) z A C (j + 1) = hasR (visR z x y wd) z A C j) := by have := HH.out; rw [hE] at this; show _ = _; rw [this]; simp
                  clear hE
                  generalize (visR z x y wd).z j = rz at *
                  generalize (visR z x y wd).x j = rx at *
                  generalize (visR z x y wd).y j = ry at *
                  go_wp2_with fail
                  go_quiet (fail)
                  go_wp2_with fail
                  exact ⟨⟨j + 1, by omega, by simp, by rw [HH2.out], HS6.out.below (below_drewN (Below.refl _ _) _), HPx.out.below (below_drewN (Below.refl _ _) _), hPl⟩, by simp [intOf]; omega⟩
                · rw [hE] at heq
                  have HS6 : Hid (∀ wy, Below wr.heap.size wr wy → VwSt w B3 B4 g M cv (visR z x y wd) z x y wd ht (fun k => if k < j + 1 then hitN (pixE z x y wd) k (i + 1) else hitN (pixE z x y wd) k i) (wy.setCell ⟨B4 + 1, j, none⟩ (.bool true))) := fun wy hy => ((HSx.out.below hy).set hjm hb34 hg4 (by omega)).congr (fun k hk => by
                    by_cases e : k = j
                    · subst e; simp [hitN, hE]
                    · simp [e, show (k < j) = (k < j + 1) by simp; omega])
                  have HP6 : Hid (∀ wy, Below wr.heap.size wr wy → RefP (wy.setCell ⟨B4 + 1, j, none⟩ (.bool true)) P z A C) := fun wy hy => (HPx.out.below hy).apart (by omega)
                  have hbq : ∀ wy, Below wr.heap.size wr wy → wy.cell? ⟨B4 + 1, j, none⟩ = some (.bool (if j < j then hitN (pixE z x y wd) j (i + 1) else hitN (pixE z x y wd) j i)) := fun wy hy => ((HSx.out.below hy).2.2.2.2.1 j hjm)
                  have HH2 : Hid (hasR (visR z x y wd) z A C (j + 1) = true) := by have := HH.out; rw [hE] at this; show _ = _; rw [this]; simp
                  clear hE
                  generalize (visR z x y wd).z j = rz at *
                  generalize (visR z x y wd).x j = rx at *
                  generalize (visR z x y wd).y j = ry at *
                  go_wp2_with fail
                  go_quiet (fail)
                  go_wp2_with fail
                  exact ⟨⟨j + 1, by omega, by simp, by rw [HH2.out], HS6.out _ (below_drewN (Below.refl _ _) _), HP6.out _ (below_drewN (Below.refl _ _) _), hPl⟩, by simp [intOf]; omega⟩
              · have hjm' : ¬ ((j : Int) < (M : Int)) := by omega
                have hje : j = M := by omega
                subst hje
                rw [hsee]
                clear hRs hBo hTh
                go_wp2_with fail
                refine (sN _).mono ?_
                rintro e w7 ⟨rfl, hb7⟩
                have HS7 : Hid (VwSt w B3 B4 g j cv (visR z x y wd) z x y wd ht (fun k => hitN (pixE z x y wd) k (i + 1)) w7) := (HSx.out.below hb7).congr (fun k hk => by simp [hk])
                clear hb7
                go_wp2
                exact ⟨⟨i + 1, by omega, by simp, HS7.out⟩, by simp [intOf]; omega⟩
        ·   skip
            rw [if_pos (by rfl)]
            go_simp
            have hC4 : CamAt (wr.drew.alloc (.cells #[.int .i64 0, .int .i64 0, .int .i64 0, .int .i64 0] 36)) B3 z x y wd ht := HSt.out.1.belowA (by (repeat (first | exact Below.refl _ _ | assumption | refine Below.drew ?_ | refine bl_alloc ?_ _ | refine bl_then ?_ (by assumption) | refine Below.setCell ?_ (by first | omega | (simp; done) | (simp; omega)) _ | refine bl_store ?_ ?_ _ _)))
            refine hK.out _ _ hC4 (fun hHeld => ?_)
            clear hK K
            try simp only [Act.put, List.setIfInBounds_toArray, List.set_cons_zero, List.set_cons_succ]
            refine wpAnyH_ready (rs := [16]) (by kernel_rfl) (by simp) ?_
            refine (AllReadyH.cons rfl (fun K hK => ?_) AllReadyH.nil)
            rw [if_pos (by rfl)]
            go_simp
            generalize hW4 : (World.alloc _ _ : World) = W4
            have hb4 : Below wr.heap.size wr W4 := by subst hW4; (repeat (first | exact Below.refl _ _ | assumption | refine Below.drew ?_ | refine bl_alloc ?_ _ | refine bl_then ?_ (by assumption) | refine Below.setCell ?_ (by first | omega | (simp; done) | (simp; omega)) _ | refine bl_store ?_ ?_ _ _))
            have HT4 : Hid (There W4 wr.heap.size 4) := by
              show There _ _ _
              subst hW4
              exact there4r wr.drew _ _ _ _ _
            have hl5 : wr.heap.size < W4.heap.size := by subst hW4; simp
            clear hW4
            refine Calls.mono (sR _) ?_
            rintro e w5 ⟨rfl, hbd⟩
            have hb5 : Below W4.heap.size W4 w5 := ⟨hbd.os, hbd.tape, hbd.output, hbd.size, hbd.block⟩
            have hC5 := (HSt.out.1.belowA hb4).belowA hb5
            have hT5 := HT4.out.below hb5
            have HT5 : Hid (There w5 wr.heap.size 4) := hT5
            have t0 := hT5.cell 0 (by omega)
            have t1 := hT5.cell 1 (by omega)
            have t2 := hT5.cell 2 (by omega)
            have t3 := hT5.cell 3 (by omega)
            have f0 := (hT5 0 (by omega)).2
            have f1 := (hT5 1 (by omega)).2
            have f2 := (hT5 2 (by omega)).2
            have f3 := (hT5 3 (by omega)).2
            clear hT5
            go_wp2_with fail
            refine hK.out _ _ hC5 (fun hHeld => ?_)
            clear hK K
            try simp only [Act.put, List.setIfInBounds_toArray, List.set_cons_zero, List.set_cons_succ]
            refine wpAnyH_ready (rs := [18]) (by kernel_rfl) (by simp) ?_
            refine (AllReadyH.cons rfl (fun K hK => ?_) AllReadyH.nil)
            rw [if_pos (by rfl)]
            go_simp
            have hlr : B4 + 1 < wr.heap.size := HSt.out.2.2.2.2.2.2.2.2
            refine hK.out _ _ ((((hC5.apart (by omega)).apart (by omega)).apart (by omega)).apart (by omega)) (fun hHeld => ?_)
            clear hK K
            try simp only [Act.put, List.setIfInBounds_toArray, List.set_cons_zero, List.set_cons_succ]
            generalize hW5 : (World.setCell (World.setCell (World.setCell (World.setCell w5 _ _) _ _) _ _) _ _ : World) = W5
            have HP5 : Hid (RefP W5 wr.heap.size z A C) := by show RefP _ _ _ _ _; subst hW5; exact RefP.put HT5.out
            have HS5 : Hid (VwSt w B3 B4 g M cv (visR z x y wd) z x y wd ht (fun j => hitN (pixE z x y wd) j i) W5) := HSt.out.below (by subst hW5; exact ((((bl_then hb4 hb5).setCell (Nat.le_refl _) _).setCell (Nat.le_refl _) _).setCell (Nat.le_refl _) _).setCell (Nat.le_refl _) _)
            obtain ⟨P, hP⟩ : ∃ P, wr.heap.size = P := ⟨_, rfl⟩
            have hPl : B4 + 1 < P := by omega
            rw [hP] at HP5
            simp only [hP]
            clear hW5 hb5 hb4 hC4 hC5 hbd hP hlr HSt HT4 HT5 t0 t1 t2 t3 f0 f1 f2 f3 hl5
            refine wpAnyH_done (by kernel_rfl) ?_ _
            refine NoPanic.normal ?_
            go_wp2_with fail
            go_loopw [8, 9] (fun s8 s9 wx => ∃ j : Nat, j ≤ M ∧ s9 = .int .i64 (j : Int) ∧ s8 = .bool (hasR (visR z x y wd) z A C j) ∧ VwSt w B3 B4 g M cv (visR z x y wd) z x y wd ht (fun k => if k < j then hitN (pixE z x y wd) k (i + 1) else hitN (pixE z x y wd) k i) wx ∧ RefP wx P z A C ∧ B4 + 1 < P) (fun _ s9 _ => M - (intOf s9).toNat)
            case atStart => exact ⟨0, by omega, rfl, rfl, HS5.out.congr (fun k hk => by simp), HP5.out, hPl⟩
            case round =>
              obtain ⟨j, hj, rfl, rfl, hSx, hPx, _⟩ := hrel
              have HSx : Hid (VwSt w B3 B4 g M cv (visR z x y wd) z x y wd ht (fun k => if k < j then hitN (pixE z x y wd) k (i + 1) else hitN (pixE z x y wd) k i) wr) := hSx
              have HPx : Hid (RefP wr P z A C) := hPx
              obtain ⟨⟨c0, c1, c2, c3, c4⟩, r0, r1, hRs, hBo, hTh, _⟩ := hSx
              obtain ⟨p0, p1, p2⟩ := hPx
              by_cases hjm : j < M
              · have hjm' : (j : Int) < (M : Int) := by omega
                have hj0 : (0 : Int) ≤ (j : Int) := by omega
                obtain ⟨q0, q1, q2⟩ := hRs j hjm
                simp only [Nat.zero_add] at q0 q1 q2
                have hb := hBo j hjm
                have hf := (hTh j hjm).2
                have heq := fun w => eql_ref ((visR z x y wd).z j) ((visR z x y wd).x j) ((visR z x y wd).y j) z A C w
                rw [← HEq.out j] at heq
                have HH : Hid (hasR (visR z x y wd) z A C (j + 1) = (hasR (visR z x y wd) z A C j || pixE z x y wd i j)) := by show _ = _; rw [HEq.out j]; rfl
                clear hRs hBo hTh
                cases hE : pixE z x y wd i j
                · rw [hE] at heq
                  have HS6 : Hid (VwSt w B3 B4 g M cv (visR z x y wd) z x y wd ht (fun k => if k < j + 1 then hitN (pixE z x y wd) k (i + 1) else hitN (pixE z x y wd) k i) wr) := HSx.out.congr (fun k hk => by
                    by_cases e : k = j
                    · subst e; simp [hitN, hE]
                    · simp [show (k < j) = (k < j + 1) by simp; omega])
                  have HH2 : Hid (hasR (visR z x y wd) z A C (j + 1) = hasR (visR z x y wd) z A C j) := by have := HH.out; rw [hE] at this; show _ = _; rw [this]; simp
                  clear hE
                  generalize (visR z x y wd).z j = rz at *
                  generalize (visR z x y wd).x j = rx at *
                  generalize (visR z x y wd).y j = ry at *
                  go_wp2_with fail
                  go_quiet (fail)
                  go_wp2_with fail
                  exact ⟨⟨j + 1, by omega, by simp, by rw [HH2.out], HS6.out.below (below_drewN (Below.refl _ _) _), HPx.out.below (below_drewN (Below.refl _ _) _), hPl⟩, by simp [intOf]; omega⟩
                · rw [hE] at heq
                  have HS6 : Hid (∀ wy, Below wr.heap.size wr wy → VwSt w B3 B4 g M cv (visR z x y wd) z x y wd ht (fun k => if k < j + 1 then hitN (pixE z x y wd) k (i + 1) else hitN (pixE z x y wd) k i) (wy.setCell ⟨B4 + 1, j, none⟩ (.bool true))) := fun wy hy => ((HSx.out.below hy).set hjm hb34 hg4 (by omega)).congr (fun k hk => by
                    by_cases e : k = j
                    · subst e; simp [hitN, hE]
                    · simp [e, show (k < j) = (k < j + 1) by simp; omega])
                  have HP6 : Hid (∀ wy, Below wr.heap.size wr wy → RefP (wy.setCell ⟨B4 + 1, j, none⟩ (.bool true)) P z A C) := fun wy hy => (HPx.out.below hy).apart (by omega)
                  have hbq : ∀ wy, Below wr.heap.size wr wy → wy.cell? ⟨B4 + 1, j, none⟩ = some (.bool (if j < j then hitN (pixE z x y wd) j (i + 1) else hitN (pixE z x y wd) j i)) := fun wy hy => ((HSx.out.below hy).2.2.2.2.1 j hjm)
                  have HH2 : Hid (hasR (visR z x y wd) z A C (j + 1) = true) := by have := HH.out; rw [hE] at this; show _ = _; rw [this]; simp
                  clear hE
                  generalize (visR z x y wd).z j = rz at *
                  generalize (visR z x y wd).x j = rx at *
                  generalize (visR z x y wd).y j = ry at *
                  go_wp2_with fail
                  go_quiet (fail)
                  go_wp2_with fail
                  exact ⟨⟨j + 1, by omega, by simp, by rw [HH2.out], HS6.out _ (below_drewN (Below.refl _ _) _), HP6.out _ (below_drewN (Below.refl _ _) _), hPl⟩, by simp [intOf]; omega⟩
              · have hjm' : ¬ ((j : Int) < (M : Int)) := by omega
                have hje : j = M := by omega
                subst hje
                rw [hsee]
                clear hRs hBo hTh
                go_wp2_with fail
                refine (sN _).mono ?_
                rintro e w7 ⟨rfl, hb7⟩
                have HS7 : Hid (VwSt w B3 B4 g j cv (visR z x y wd) z x y wd ht (fun k => hitN (pixE z x y wd) k (i + 1)) w7) := (HSx.out.below hb7).congr (fun k hk => by simp [hk])
                clear hb7
                go_wp2
                exact ⟨⟨i + 1, by omega, by simp, HS7.out⟩, by simp [intOf]; omega⟩
      · have hlt' : ¬ ((i : Int) < (N : Int)) := by omega
        have hiN : i = N := by omega
        have HBo : Hid (∀ k, k < M → wr.cell? ⟨B4 + 1, k, none⟩ = some (.bool true)) := fun k hk => by
          have := HSt.out.2.2.2.2.1 k hk
          simp only [hiN, HE2.out k hk] at this
          exact this
        have HBw : Hid (Below w.heap.size w wr) := HSt.out.2.2.2.2.2.2.1
        go_wp2_with fail
        go_loopw [10] (fun s10 wx => ∃ k : Nat, k ≤ M ∧ s10 = .int .i64 (k : Int) ∧ wr = wx) (fun s10 _ => M - (intOf s10).toNat)
        case atStart => exact ⟨0, by omega, rfl, rfl⟩
        case round =>
          obtain ⟨k, hk, rfl, rfl⟩ := hrel
          by_cases hkm : k < M
          · have hkm' : (k : Int) < (M : Int) := by omega
            have hk0 : (0 : Int) ≤ (k : Int) := by omega
            have hb := HBo.out k hkm
            go_wp2_with fail
            exact ⟨⟨k + 1, by omega, by simp, trivial⟩, by simp [intOf]; omega⟩
          · have hkm' : ¬ ((k : Int) < (M : Int)) := by omega
            go_wp2_with fail
            refine (HD2.out _ HBw.out).mono ?_
            rintro e w6 ⟨z', x', y', wd', ht', rz, rx, ry, rfl, hb6⟩
            go_wp2_with fail
            generalize hW9 : ((w6.alloc _).alloc _ : World) = W9
            have hb9 : Below w6.heap.size w6 W9 := by subst hW9; (repeat (first | exact Below.refl _ _ | assumption | refine Below.drew ?_ | refine bl_alloc ?_ _ | refine bl_then ?_ (by assumption) | refine Below.setCell ?_ (by first | omega | (simp; done) | (simp; omega)) _ | refine bl_store ?_ ?_ _ _))
            have HB9 : Hid (Below w.heap.size w W9) := bl_then (bl_then HBw.out hb6) hb9
            have hs6 : w6.heap.size + 1 < W9.heap.size := by subst hW9; simp
            have g1 : W9.cell? ⟨B4, 1, none⟩ = some (.slice (some ⟨g, 0, none⟩) M cv) := ((HSt.out.below hb6).below hb9).2.2.1
            have hA9 : CamAt W9 w6.heap.size z' x' y' wd' ht' := by subst hW9; exact ⟨by simp [go_sem], by simp [go_sem], by simp [go_sem], by simp [go_sem], by simp [go_sem]⟩
            have hR9 : RefA W9 (w6.heap.size + 1) rz rx ry := by subst hW9; exact ⟨by simp [go_sem], by simp [go_sem], by simp [go_sem]⟩
            obtain ⟨a0, a1, a2, a3, a4⟩ := hA9
            obtain ⟨b0, b1, b2⟩ := hR9
            have e1 : ∀ W', Below W9.heap.size W9 W' → W'.cell? ⟨B4, 1, none⟩ = _ := fun W' h => (h.cell (p := ⟨B4, 1, none⟩) (World.block_lt_of_cell? _ _ g1)).trans g1
            have d0 : ∀ W', Below W9.heap.size W9 W' → W'.cell? ⟨w6.heap.size, 0, none⟩ = _ := fun W' h => (h.cell (p := ⟨w6.heap.size, 0, none⟩) (World.block_lt_of_cell? _ _ a0)).trans a0
            have d1 : ∀ W', Below W9.heap.size W9 W' → W'.cell? ⟨w6.heap.size, 1, none⟩ = _ := fun W' h => (h.cell (p := ⟨w6.heap.size, 1, none⟩) (World.block_lt_of_cell? _ _ a1)).trans a1
            have d2 : ∀ W', Below W9.heap.size W9 W' → W'.cell? ⟨w6.heap.size, 2, none⟩ = _ := fun W' h => (h.cell (p := ⟨w6.heap.size, 2, none⟩) (World.block_lt_of_cell? _ _ a2)).trans a2
            have d3 : ∀ W', Below W9.heap.size W9 W' → W'.cell? ⟨w6.heap.size, 3, none⟩ = _ := fun W' h => (h.cell (p := ⟨w6.heap.size, 3, none⟩) (World.block_lt_of_cell? _ _ a3)).trans a3
            have d4 : ∀ W', Below W9.heap.size W9 W' → W'.cell? ⟨w6.heap.size, 4, none⟩ = _ := fun W' h => (h.cell (p := ⟨w6.heap.size, 4, none⟩) (World.block_lt_of_cell? _ _ a4)).trans a4
            have m0 : ∀ W', Below W9.heap.size W9 W' → W'.cell? ⟨w6.heap.size + 1, 0, none⟩ = _ := fun W' h => (h.cell (p := ⟨w6.heap.size + 1, 0, none⟩) (World.block_lt_of_cell? _ _ b0)).trans b0
            have m1 : ∀ W', Below W9.heap.size W9 W' → W'.cell? ⟨w6.heap.size + 1, 1, none⟩ = _ := fun W' h => (h.cell (p := ⟨w6.heap.size + 1, 1, none⟩) (World.block_lt_of_cell? _ _ b1)).trans b1
            have m2 : ∀ W', Below W9.heap.size W9 W' → W'.cell? ⟨w6.heap.size + 1, 2, none⟩ = _ := fun W' h => (h.cell (p := ⟨w6.heap.size + 1, 2, none⟩) (World.block_lt_of_cell? _ _ b2)).trans b2
            have s1 := fun w => impl_IsSeen_any z' x' y' wd' ht' rz rx ry w
            have s2 := fun w => spec_IsSeen_any z' x' y' wd' ht' rz rx ry w
            generalize seenB z' x' y' wd' ht' rz rx ry = Bq at *
            have hM5 : (1 : Int) ≤ (M : Int) := by omega
            have hM6 : (M : Int) ≤ 4 := by omega
            clear hW9 hb9 hb6 HSt HBo HBw sV sF hmk HE1 HE2 HE3 HIN HD1 HD2 HS0 c0 c1 c2 c3 c4 r0 r1
            have hr : Below W9.heap.size W9 W9 := Below.refl _ _
            go_region_held3 (fun W' => Below W9.heap.size W9 W') ((repeat (first | exact Below.refl _ _ | assumption | refine Below.drew ?_ | refine bl_alloc ?_ _ | refine bl_then ?_ (by assumption) | refine Below.setCell ?_ (by first | omega | (simp; done) | (simp; omega)) _ | refine bl_store ?_ ?_ _ _)))
              (first
                | (go_at_call 12; refine (s1 _).mono ?_; rintro e w7 ⟨rfl, hb⟩)
                | (go_at_call 14; refine (s2 _).mono ?_; rintro e w7 ⟨rfl, hb⟩)
                | fail)
            go_wp2
            go_ret
            exact ⟨by simp, bl_then HB9.out (by assumption)⟩
  · rw [hc] at sI sV sF
    refine (sI _).mono ?_
    rintro e w2 ⟨v, rfl, hO, hb2⟩
    obtain ⟨av, cv, rfl, hcv, hcase⟩ := hO
    have HO2 : Hid (visM z x y wd ht = 0 ∨ ∃ b, av = some ⟨b, 0, none⟩ ∧ W1.heap.size ≤ b ∧ b < w2.heap.size ∧ RsAt w2 b 0 (visM z x y wd ht) (visR z x y wd) ∧ There w2 b (visM z x y wd ht * 3)) := hcase
    have HC2 : Hid (CamAt w2 B3 z x y wd ht) := HC1.out.belowA hb2
    have HB2 : Hid (Below w.heap.size w w2) := bl_then HBW1.out hb2
    have hl2 : W1.heap.size ≤ w2.heap.size := hb2.size
    clear hcase hb2 HC1 HBW1 sI
    obtain ⟨M, hM⟩ : ∃ M, visM z x y wd ht = M := ⟨_, rfl⟩
    rw [hM] at HO2 hcv
    simp only [hM]
    clear HO2 HD1 HD2 hc
    go_wp2_with fail
    generalize hW3 : (w2.alloc _ : World) = W3
    have hb3 : Below w2.heap.size w2 W3 := by subst hW3; (repeat (first | exact Below.refl _ _ | assumption | refine Below.drew ?_ | refine bl_alloc ?_ _ | refine bl_then ?_ (by assumption) | refine Below.setCell ?_ (by first | omega | (simp; done) | (simp; omega)) _ | refine bl_store ?_ ?_ _ _))
    obtain ⟨B4, hB4⟩ : ∃ B4, w2.heap.size = B4 := ⟨_, rfl⟩
    have r0 : W3.cell? ⟨B4, 0, none⟩ = some (.int .i64 3) := by subst hW3; rw [← hB4]; simp [go_sem]
    have r1 : W3.cell? ⟨B4, 1, none⟩ = some (.slice av M cv) := by subst hW3; rw [← hB4]; simp [go_sem]
    have HC3 : Hid (CamAt W3 B3 z x y wd ht) := HC2.out.belowA hb3
    have HB3 : Hid (Below w.heap.size w W3) := bl_then HB2.out hb3
    have hl4 : B4 < W3.heap.size := World.block_lt_of_cell? _ _ r0
    rw [hB4] at hl2
    simp only [hB4]
    clear hW3 hb3
    obtain ⟨c0, c1, c2, c3, c4⟩ := HC3.out
    have d0 : ∀ W', Below W3.heap.size W3 W' → W'.cell? ⟨B3, 0, none⟩ = _ := fun W' h => (h.cell (p := ⟨B3, 0, none⟩) (show B3 < W3.heap.size by omega)).trans c0
    have d1 : ∀ W', Below W3.heap.size W3 W' → W'.cell? ⟨B3, 1, none⟩ = _ := fun W' h => (h.cell (p := ⟨B3, 1, none⟩) (show B3 < W3.heap.size by omega)).trans c1
    have d2 : ∀ W', Below W3.heap.size W3 W' → W'.cell? ⟨B3, 2, none⟩ = _ := fun W' h => (h.cell (p := ⟨B3, 2, none⟩) (show B3 < W3.heap.size by omega)).trans c2
    have d3 : ∀ W', Below W3.heap.size W3 W' → W'.cell? ⟨B3, 3, none⟩ = _ := fun W' h => (h.cell (p := ⟨B3, 3, none⟩) (show B3 < W3.heap.size by omega)).trans c3
    have d4 : ∀ W', Below W3.heap.size W3 W' → W'.cell? ⟨B3, 4, none⟩ = _ := fun W' h => (h.cell (p := ⟨B3, 4, none⟩) (show B3 < W3.heap.size by omega)).trans c4
    have e0 : ∀ W', Below W3.heap.size W3 W' → W'.cell? ⟨B4, 0, none⟩ = _ := fun W' h => (h.cell (p := ⟨B4, 0, none⟩) hl4).trans r0
    have e1 : ∀ W', Below W3.heap.size W3 W' → W'.cell? ⟨B4, 1, none⟩ = _ := fun W' h => (h.cell (p := ⟨B4, 1, none⟩) hl4).trans r1
    have iF : ∀ (c : Int) (v : Value) w, (Instr.field 29 (.agg #[.int .i64 c, v]) 0).run Try.prog w = .ok (.int .i64 c) w := fun _ _ _ => by kernel_rfl
    have hr : Below W3.heap.size W3 W3 := Below.refl _ _
    go_region_held3 (fun W' => Below W3.heap.size W3 W') ((repeat (first | exact Below.refl _ _ | assumption | refine Below.drew ?_ | refine bl_alloc ?_ _ | refine bl_then ?_ (by assumption) | refine Below.setCell ?_ (by first | omega | (simp; done) | (simp; omega)) _ | refine bl_store ?_ ?_ _ _)))
      (first
        | (go_at_call 9; refine (sV _).mono ?_; rintro e w4 ⟨v4, rfl, hO4, hb⟩; clear hO4)
        | (go_at_call 10; refine (sF _).mono ?_; rintro e w4 ⟨rfl, hb⟩)
        | fail)
    go_wp2
    go_ret
    exact ⟨rfl, bl_then HB3.out (by assumption)⟩
end Go.Proofs.Ytioiikddgcmjeaa
