/- How many entries there are at each depth: the model's way. -/
import Derived.Test.YtkadkpdcjccnbaaQ15
import Derived.Test.YtkadkpdcjccnbaaNn
import Derived.Test.YtkadkpdcjccnbaaUntil
namespace Go.Proofs.Ytkadkpdcjccnbaa
open Go.RowKit Go.Shelf
set_option linter.unusedSimpArgs false
set_option linter.unusedVariables false
set_option maxRecDepth 100000

/-- How many of these are at depth d. -/
def cntL (Q : Nat → Qd) (l : List (Nat × Ent)) (d : Nat) : Nat := (l.filter fun x => decide ((Q x.1).dp = (d : Int))).length
theorem cntL_le (Q : Nat → Qd) (l : List (Nat × Ent)) (d : Nat) : cntL Q l d ≤ l.length := List.length_filter_le _ _
theorem cntL_add (Q : Nat → Qd) (l m : List (Nat × Ent)) (d : Nat) : cntL Q (l ++ m) d = cntL Q l d + cntL Q m d := by simp [cntL]
theorem cntL_one (Q : Nat → Qd) (l : List (Nat × Ent)) (x : Nat × Ent) (d e : Nat) (h : (Q x.1).dp = (e : Int)) : cntL Q (l ++ [x]) d = if d = e then cntL Q l d + 1 else cntL Q l d := by
  rw [cntL_add]
  by_cases c : d = e
  · subst c
    rw [if_pos rfl]
    simp [cntL, h]
  · rw [if_neg c]
    have : ¬ (e : Int) = (d : Int) := by omega
    simp [cntL, h, this]
theorem allE_app (Q : Nat → Qd) (k : Nat) : allE Q (k + 1) = allE Q k ++ (List.range (Q k).en).map fun j => (k, (Q k).E j) := by simp [allE, List.range_succ]
theorem cntL_quad (Q : Nat → Qd) (k d e : Nat) (h : (Q k).dp = (e : Int)) : cntL Q (allE Q (k + 1)) d = if d = e then cntL Q (allE Q k) d + (Q k).en else cntL Q (allE Q k) d := by
  rw [allE_app, cntL_add]
  by_cases c : d = e
  · subst c
    rw [if_pos rfl]
    congr 1
    unfold cntL
    rw [List.filter_eq_self.2 (by simp [h])]
    simp
  · rw [if_neg c]
    have hne : ¬ (e : Int) = (d : Int) := by omega
    have : cntL Q ((List.range (Q k).en).map fun j => (k, (Q k).E j)) d = 0 := by
      unfold cntL
      rw [List.filter_eq_nil_iff.2 (by simp [h, hne])]
      rfl
    omega
theorem quadsC_ok {Q : Nat → Qd} {n : Nat} (h : quadsC Q n = 0) : (1 ≤ n ∧ n ≤ 200 ∧ (allE Q n).length ≤ 24) ∧ ∀ i, i < n → ∃ e : Nat, (Q i).dp = (e : Int) ∧ e < 5 := by
  unfold quadsC at h
  split at h
  · cases h
  · rename_i h1
    refine ⟨by omega, fun i hi => ?_⟩
    by_cases h2 : scanC (oneC Q n) 0 n = 0
    · have h3 := oneC_bad (scan_zero (oneC Q n) n 0 h2 i (by omega) (by omega))
      unfold badAt at h3
      simp [inB] at h3
      exact ⟨(Q i).dp.toNat, by omega, by omega⟩
    · rw [if_pos h2] at h
      exact absurd h h2
theorem CntAt.add {W : World} {r n i c : Nat} {f g : Nat → Nat} (h : CntAt W r n f) (hi : i < n) (e : ∀ j, j < n → g j = if j = i then f j + c else f j) : CntAt (W.setCell ⟨r, i, none⟩ (.int .i64 ((f i : Int) + (c : Int)))) r n g := fun j hj => by
  refine ⟨?_, by rw [World.frozen?_setCell]; exact (h j hj).2⟩
  rw [e j hj]
  by_cases e' : j = i
  · subst e'
    rw [if_pos rfl, World.cell?_setCell_same _ _ _ (h j hj).1]
    simp
  · rw [if_neg e', World.cell?_setCell_other]
    · exact (h j hj).1
    · simp <;> omega
theorem CntAt.ns {W : World} {r n : Nat} {f : Nat → Nat} (h : CntAt W r n f) : NsAt W r 0 n (fun i => (f i : Int)) := fun i hi => by rw [Nat.zero_add]; exact (h i hi).1
theorem CntAt.there {W : World} {r n : Nat} {f : Nat → Nat} (h : CntAt W r n f) : There W r n := fun i hi => ⟨⟨_, (h i hi).1⟩, (h i hi).2⟩
/-- How many counts there are. -/
noncomputable def cqM (Q : Nat → Qd) (n : Nat) : Nat := if quadsC Q n = 0 then 5 else 0
def cqZ (Q : Nat → Qd) (n : Nat) (i : Nat) : Int := (cntL Q (allE Q n) i : Int)

set_option maxHeartbeats 8000000 in
theorem spec_CountQuads_any (p off n cap : Nat) (Q : Nat → Qd) (w : World) (hQ : QsAt w w.heap.size p off n Q) (hn : n ≤ 1048576) (hS : ∀ i, i < n → ∃ b o, (Q i).ea = some ⟨b, o, none⟩ ∧ b < w.heap.size ∧ EsAt w b o (Q i).en (Q i).E) (hen : ∀ i, i < n → (Q i).en ≤ 1048576) (hall : (allE Q n).length ≤ 1048576) :
    Calls Try.prog 34 #[.slice (some ⟨p, off, none⟩) n cap] w fun e w' => ∃ v, e = .returned (.agg #[.int .i64 (quadsC Q n), v]) ∧ OwnN w' w.heap.size v (cqM Q n) (cqZ Q n) ∧ Below w.heap.size w w' := by
  have HL : Hid (∀ W, Below w.heap.size w W → Calls Try.prog 79 #[.slice (some ⟨p, off, none⟩) n cap] W fun e w' => e = .returned (.int .i64 (quadsC Q n)) ∧ Below W.heap.size W w') := fun W hb =>
    l5Quads_any p off n cap Q W (hQ.now hb) hn (fun i hi => by
      obtain ⟨b, o, e, hl, hE⟩ := hS i hi
      exact ⟨b, o, e, Nat.lt_of_lt_of_le hl hb.size, hE.below hb hl⟩) hen hall
  have HQ : Hid (QsAt w w.heap.size p off n Q) := hQ
  have hpl : p < w.heap.size := hQ.1
  clear hQ hS hen
  by_cases hc : quadsC Q n = 0
  · obtain ⟨⟨hn1, hn2, h24⟩, hdp⟩ := quadsC_ok hc
    have hM : Hid (cqM Q n = 5) := by show _ = _; unfold cqM; rw [if_pos hc]
    have HDP : Hid (∀ i, i < n → ∃ e : Nat, (Q i).dp = (e : Int) ∧ e < 5) := hdp
    rw [hc] at HL ⊢
    have hmk : ∀ w : World, (Instr.makeSlice 51 (.int .i64 5) (.int .i64 5)).run Try.prog w = .ok (.slice (some ⟨w.heap.size, 0, none⟩) 5 5) (w.alloc (.cells (madeCells #[.int .i64 0] 5) 2)) := fun w => by
      obtain ⟨i, hi, hz, hs, hb⟩ := info_parts info_i64
      have hr := run_make (P := Try.prog) w 51 2 i _ Try.underlying51 hi hz .i64 .i64 5 5 (by omega) (Int.le_refl _) (by rw [hb]; omega) (by omega)
      simpa [hs, Value.cells] using hr
    clear hdp hc
    go_enter Try.func34, Try.ntmps34
    go_wp2_with fail
    generalize hW : (w.alloc _ : World) = W
    have hB0 : Below w.heap.size w W := by subst hW; (repeat (first | exact Below.refl _ _ | assumption | refine Below.drew ?_ | refine bl_alloc ?_ _ | refine bl_then ?_ (by assumption) | refine Below.setCell ?_ (by first | omega | (simp; done) | (simp; omega)) _ | refine bl_store ?_ ?_ _ _))
    have hT0 : There W w.heap.size 2 := fun o ho => by
      subst hW
      match o, ho with
      | 0, _ => exact ⟨⟨_, by simp [go_sem]; rfl⟩, by simp [go_sem]⟩
      | 1, _ => exact ⟨⟨_, by simp [go_sem]; rfl⟩, by simp [go_sem]⟩
    have hlW : w.heap.size < W.heap.size := by subst hW; simp
    clear hW
    refine (HL.out W hB0).mono ?_
    rintro e w1 ⟨rfl, hb1⟩
    have hT1 := hT0.below hb1
    have HB1 : Hid (Below w.heap.size w w1) := bl_then hB0 hb1
    have hl1 : w.heap.size < w1.heap.size := Nat.lt_of_lt_of_le hlW hb1.size
    have HT1 : Hid (There w1 w.heap.size 2) := hT1
    clear hb1 hB0 hT0 hT1 HL
    go_wp2
    generalize hV : (w1.alloc _ : World) = V
    have HBV : Hid (Below w1.heap.size w1 V) := by show Below _ _ _; subst hV; (repeat (first | exact Below.refl _ _ | assumption | refine Below.drew ?_ | refine bl_alloc ?_ _ | refine bl_then ?_ (by assumption) | refine Below.setCell ?_ (by first | omega | (simp; done) | (simp; omega)) _ | refine bl_store ?_ ?_ _ _))
    have HCV : Hid (CntAt V w1.heap.size 5 (cntL Q (allE Q 0))) := by show CntAt _ _ _ _; subst hV; exact cnt_made _ _ _
    have HTV : Hid (There V w.heap.size 2) := HT1.out.below HBV.out
    have HLV : Hid (Below w.heap.size w V) := bl_then HB1.out HBV.out
    have hlV : w1.heap.size < V.heap.size := by subst hV; simp
    clear hV hmk
    go_loopw [5] (fun i wr => ∃ k : Nat, k ≤ n ∧ i = .int .i64 (k : Int) ∧ Below w.heap.size w wr ∧ There wr w.heap.size 2 ∧ CntAt wr w1.heap.size 5 (cntL Q (allE Q k)) ∧ w1.heap.size < wr.heap.size) (fun i _ => n - (intOf i).toNat)
    case atStart => exact ⟨0, by omega, rfl, HLV.out, HTV.out, HCV.out, hlV⟩
    case round =>
      obtain ⟨k, hk, rfl, hB, hT, hC, hlr⟩ := hrel
      by_cases hlt : k < n
      · obtain ⟨dd, hd, hd5⟩ := HDP.out k hlt
        obtain ⟨q0, q1, q2, q3, q4, q5, q6⟩ := ((HQ.out.below hB).2 k hlt).1
        rw [hd] at q4
        obtain ⟨x0, x1⟩ := hC dd hd5
        have HS : Hid (CntAt (wr.setCell ⟨w1.heap.size, dd, none⟩ (.int .i64 ((cntL Q (allE Q k) dd : Int) + ((Q k).en : Int)))) w1.heap.size 5 (cntL Q (allE Q (k + 1)))) := hC.add hd5 (fun j _ => cntL_quad Q k j dd hd)
        have hle : cntL Q (allE Q k) dd ≤ 24 := Nat.le_trans (cntL_le _ _ _) (Nat.le_trans (allE_le Q hk) h24)
        have hle2 : (Q k).en ≤ 24 := by have h1 := allE_succ_length Q k; have h2 := allE_le Q (show k + 1 ≤ n by omega); omega
        have HB : Hid (Below w.heap.size w wr) := hB
        have HT : Hid (There wr w.heap.size 2) := hT
        have hi1 : (k : Int) < (n : Int) := by omega
        have hi0 : (0 : Int) ≤ (k : Int) := by omega
        have hd1 : (dd : Int) < 5 := by omega
        have hd0 : (0 : Int) ≤ (dd : Int) := by omega
        generalize cntL Q (allE Q k) dd = C at *
        generalize (Q k).en = N at *
        clear hB hT hC q0 q1 q2 q3 q5 hd
        go_wp2
        go_region
        go_wp2
        go_roundw
        case rel => exact ⟨k + 1, by omega, by go_num, by have HB' := HB.out; (repeat (first | exact Below.refl _ _ | assumption | refine Below.drew ?_ | refine bl_alloc ?_ _ | refine bl_then ?_ (by assumption) | refine Below.setCell ?_ (by first | omega | (simp; done) | (simp; omega)) _ | refine bl_store ?_ ?_ _ _)), HT.out.out' (by omega), HS.out, by simp; omega⟩
        case measure => simp [intOf]; omega
      · have hkn : k = n := by omega
        subst hkn
        have c0 := hT.cell 0 (by omega)
        have c1 := hT.cell 1 (by omega)
        have f0 := (hT 0 (by omega)).2
        have f1 := (hT 1 (by omega)).2
        have HB : Hid (Below w.heap.size w wr) := hB
        have HC : Hid (CntAt wr w1.heap.size 5 (cntL Q (allE Q k))) := hC
        clear hB hT hC
        go_wp2
        have s0 : ((wr.setCell ⟨w.heap.size, 0, none⟩ (.int .i64 0)).setCell ⟨w.heap.size, 1, none⟩ (.slice (some ⟨w1.heap.size, 0, none⟩) 5 5)).cell? ⟨w.heap.size, 0, none⟩ = some (.int .i64 0) := set2_0 (by rw [c0]; rfl)
        have s1 : ((wr.setCell ⟨w.heap.size, 0, none⟩ (.int .i64 0)).setCell ⟨w.heap.size, 1, none⟩ (.slice (some ⟨w1.heap.size, 0, none⟩) 5 5)).cell? ⟨w.heap.size, 1, none⟩ = some (.slice (some ⟨w1.heap.size, 0, none⟩) 5 5) := set2_1 (by rw [c1]; rfl)
        have HB2 : Below w.heap.size w ((wr.setCell ⟨w.heap.size, 0, none⟩ (.int .i64 0)).setCell ⟨w.heap.size, 1, none⟩ (.slice (some ⟨w1.heap.size, 0, none⟩) 5 5)) := (HB.out.setCell (p := ⟨w.heap.size, 0, none⟩) (Nat.le_refl _) _).setCell (p := ⟨w.heap.size, 1, none⟩) (Nat.le_refl _) _
        have HC2 : CntAt ((wr.setCell ⟨w.heap.size, 0, none⟩ (.int .i64 0)).setCell ⟨w.heap.size, 1, none⟩ (.slice (some ⟨w1.heap.size, 0, none⟩) 5 5)) w1.heap.size 5 (cntL Q (allE Q k)) := fun j hj => by
          have ne : ∀ o : Nat, (⟨w.heap.size, o, none⟩ : Addr) ≠ ⟨w1.heap.size, j, none⟩ := fun o h => by injection h with h; omega
          exact ⟨by rw [World.cell?_setCell_other _ _ _ _ (ne 1), World.cell?_setCell_other _ _ _ _ (ne 0)]; exact (HC.out j hj).1, by rw [World.frozen?_setCell, World.frozen?_setCell]; exact (HC.out j hj).2⟩
        have hlF : w1.heap.size < ((wr.setCell ⟨w.heap.size, 0, none⟩ (.int .i64 0)).setCell ⟨w.heap.size, 1, none⟩ (.slice (some ⟨w1.heap.size, 0, none⟩) 5 5)).heap.size := by simpa using hlr
        generalize ((wr.setCell ⟨w.heap.size, 0, none⟩ (.int .i64 0)).setCell ⟨w.heap.size, 1, none⟩ (.slice (some ⟨w1.heap.size, 0, none⟩) 5 5)) = Wf at *
        refine bodyPost_ret (v := .agg #[.int .i64 0, .slice (some ⟨w1.heap.size, 0, none⟩) 5 5]) (by simp [results, Try.results34, go_sem, s0, s1]) rfl ⟨_, rfl, ?_, HB2⟩
        rw [hM.out]
        exact ⟨_, 5, rfl, Nat.le_refl _, .inr ⟨w1.heap.size, rfl, by omega, hlF, HC2.ns, HC2.there⟩⟩
  · have hM : Hid (cqM Q n = 0) := by show _ = _; unfold cqM; rw [if_neg hc]
    generalize quadsC Q n = c at *
    go_enter Try.func34, Try.ntmps34
    go_wp2_with fail
    generalize hW : (w.alloc _ : World) = W
    have hB0 : Below w.heap.size w W := by subst hW; (repeat (first | exact Below.refl _ _ | assumption | refine Below.drew ?_ | refine bl_alloc ?_ _ | refine bl_then ?_ (by assumption) | refine Below.setCell ?_ (by first | omega | (simp; done) | (simp; omega)) _ | refine bl_store ?_ ?_ _ _))
    have hT0 : There W w.heap.size 2 := fun o ho => by
      subst hW
      match o, ho with
      | 0, _ => exact ⟨⟨_, by simp [go_sem]; rfl⟩, by simp [go_sem]⟩
      | 1, _ => exact ⟨⟨_, by simp [go_sem]; rfl⟩, by simp [go_sem]⟩
    clear hW
    refine (HL.out W hB0).mono ?_
    rintro e w1 ⟨rfl, hb1⟩
    have hT1 := hT0.below hb1
    have c0 := hT1.cell 0 (by omega)
    have c1 := hT1.cell 1 (by omega)
    have f0 := (hT1 0 (by omega)).2
    have f1 := (hT1 1 (by omega)).2
    have HB1 : Hid (Below w.heap.size w w1) := bl_then hB0 hb1
    clear hb1 hB0 hT0 hT1 HL
    go_wp2
    have s0 : ((w1.setCell ⟨w.heap.size, 0, none⟩ (.int .i64 c)).setCell ⟨w.heap.size, 1, none⟩ (.slice none 0 0)).cell? ⟨w.heap.size, 0, none⟩ = some (.int .i64 c) := set2_0 (by rw [c0]; rfl)
    have s1 : ((w1.setCell ⟨w.heap.size, 0, none⟩ (.int .i64 c)).setCell ⟨w.heap.size, 1, none⟩ (.slice none 0 0)).cell? ⟨w.heap.size, 1, none⟩ = some (.slice none 0 0) := set2_1 (by rw [c1]; rfl)
    have HB2 : Below w.heap.size w ((w1.setCell ⟨w.heap.size, 0, none⟩ (.int .i64 c)).setCell ⟨w.heap.size, 1, none⟩ (.slice none 0 0)) := (HB1.out.setCell (p := ⟨w.heap.size, 0, none⟩) (Nat.le_refl _) _).setCell (p := ⟨w.heap.size, 1, none⟩) (Nat.le_refl _) _
    generalize ((w1.setCell ⟨w.heap.size, 0, none⟩ (.int .i64 c)).setCell ⟨w.heap.size, 1, none⟩ (.slice none 0 0)) = Wf at *
    refine bodyPost_ret (v := .agg #[.int .i64 c, .slice none 0 0]) (by simp [results, Try.results34, go_sem, s0, s1]) rfl ⟨_, rfl, ?_, HB2⟩
    rw [hM.out]
    exact ⟨none, 0, rfl, Nat.le_refl _, .inl rfl⟩
end Go.Proofs.Ytkadkpdcjccnbaa
